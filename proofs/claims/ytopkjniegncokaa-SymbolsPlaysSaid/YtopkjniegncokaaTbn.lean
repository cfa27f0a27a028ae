/- Contracts of package symbols' table, by the list of what it holds: the names in order, those at an address, the nearest. -/
import Derived.Test.YtopkjniegncokaaTbs
import Derived.Test.YtopkjniegncokaaStE
import Derived.Sort.OwnSorted
import Derived.Sort.KeysCollected
namespace Go.Proofs.Ytopkjniegncokaa
open Go.ChangeShapes Go.WideShapes Go.ChangeAt Go.RowKit
set_option linter.unusedVariables false
def bts (s : ByteArray) : List UInt8 := s.data.toList
def mkB (l : List UInt8) : ByteArray := ⟨l.toArray⟩
theorem mkB_bts (s : ByteArray) : mkB (bts s) = s := by apply ByteArray.ext; simp [mkB, bts]
theorem bts_mkB (l : List UInt8) : bts (mkB l) = l := by simp [mkB, bts]
theorem bts_inj {s t : ByteArray} (h : bts s = bts t) : s = t := by rw [← mkB_bts s, h, mkB_bts]
/-- Texts in Go's order. -/
def srtS (l : List ByteArray) : List ByteArray := ((l.map bts).mergeSort leB).map mkB
theorem srt_len (l : List ByteArray) : (srtS l).length = l.length := by simp [srtS]
theorem srt_of_perm {l l' : List ByteArray} (h : l.Perm l') : srtS l = srtS l' := by unfold srtS; rw [mergeSort_of_perm (h.map _)]
theorem srt_perm (l : List ByteArray) : (srtS l).Perm l := by
  unfold srtS
  have := (List.mergeSort_perm (l.map bts) leB).map mkB
  rw [List.map_map] at this
  have e : (mkB ∘ bts) = id := by funext s; exact mkB_bts s
  rw [e, List.map_id] at this
  exact this
theorem srt_le (l : List ByteArray) : (srtS l).Pairwise (fun a b => bts a ≤ bts b) := by
  unfold srtS
  have tr : ∀ a b c : List UInt8, leB a b = true → leB b c = true → leB a c = true := fun a b c h1 h2 => by simp only [leB, decide_eq_true_eq] at *; exact List.le_trans h1 h2
  have to : ∀ a b : List UInt8, (leB a b || leB b a) = true := fun a b => by simp only [leB, Bool.or_eq_true, decide_eq_true_eq]; exact List.le_total a b
  rw [List.pairwise_map]
  refine (List.pairwise_mergeSort tr to (l.map bts)).imp (fun {a b} h => ?_)
  rw [bts_mkB, bts_mkB]
  simpa [leB] using h
/-- Two rows in order, of the same texts. -/
theorem srt_uniq {l l' : List ByteArray} (hp : l.Perm l') (h : l.Pairwise (fun a b => bts a ≤ bts b)) (h' : l'.Pairwise (fun a b => bts a ≤ bts b)) : l = l' :=
  List.Perm.eq_of_pairwise (le := fun a b => bts a ≤ bts b) (fun a b _ _ h1 h2 => bts_inj (List.le_antisymm h1 h2)) h h' hp
theorem sortS_any (v : Value) (l : List ByteArray) (base : Nat) (w : World) (h : eS.Own 9 w base v l) (hn : l.length ≤ 100000) :
    Calls Try.prog 9 #[v] w fun e w' => e = .returned (.tuple #[]) ∧ eS.Own 9 w' base v (srtS l) ∧ w.grownBy w' v.ownBlock := by
  have h0 := h
  obtain ⟨hl, h2⟩ := h
  rcases h2 with ⟨rfl, hn0⟩ | ⟨g, cap, cur, rfl, h3, h4, h5, h6, h7, h8⟩
  · obtain rfl : l = [] := List.eq_nil_of_length_eq_zero hn0
    refine (Try.slices_Sort_string_none none 0 w).mono ?_
    rintro e w' ⟨rfl, rfl⟩
    rw [show srtS [] = [] by simp [srtS]]
    exact ⟨rfl, h0, ⟨rfl, rfl, rfl, Nat.le_refl _, fun _ _ _ => rfl⟩⟩
  · have enc : (l.map bts).map Go.Proofs.encStr = eS.cells l := by
      rw [eS_cells, List.map_map]
      apply List.map_congr_left
      intro s _
      show Value.string (mkB (bts s)) = _
      rw [mkB_bts]
    have ht : cur.toList.take (l.map bts).length = (l.map bts).map Go.Proofs.encStr := by
      rw [enc, List.length_map]
      have e : l.length * eS.k = l.length := Nat.mul_one _
      rw [← h8, e]
    have hlt : g < w.heap.size := (Array.getElem?_eq_some_iff.1 h4).1
    have hc := Try.slices_Sort_string g 0 cap (l.map bts) w (holds_of_block h4 ht) hlt (by rw [List.length_map]; omega)
    rw [List.length_map] at hc
    refine hc.mono ?_
    rintro e w' ⟨rfl, nn, os, rfl⟩
    refine ⟨rfl, ?_, grownBy_sorted _⟩
    have := ownsRow_sorted (w := w) (base := base) (g := g) (cap := cap) (n := nn) (e := 9) (os := os) (cur := cur) (ss := l.map bts) (ts := (l.map bts).mergeSort leB) (by simp) h3 h4 (by rw [List.length_map]; exact h5) h6 h7
    rw [List.length_map] at this
    unfold Els.Own
    rw [srt_len, eS_cells]
    have e2 : (srtS l).map Value.string = ((l.map bts).mergeSort leB).map Go.Proofs.encStr := by
      unfold srtS; rw [List.map_map]; rfl
    rw [e2]
    exact this
theorem made_S (w : World) (c : Nat) (hc : c ≤ 1099511627776) : ∃ Z, (Instr.makeSlice 34 (.int .i64 0) (.int .i64 (c : Int))).run Try.prog w = .ok (.slice (some ⟨w.heap.size, 0, none⟩) 0 c) (w.alloc Z) ∧ ∀ base, base ≤ w.heap.size → eS.Own 9 (w.alloc Z) base (.slice (some ⟨w.heap.size, 0, none⟩) 0 c) [] := by
  obtain ⟨i0, hi, hz0, hz1, hz2⟩ := info_parts infoSS
  exact Els.made (E := eS) w 34 9 i0 _ 16 Try.underlying34 hi hz0 hz1 hz2 (by decide) (by decide) c hc
theorem eqSs_any (v v' : Value) (l l' : List ByteArray) (w : World) (h : eS.Rd w v l) (h' : eS.Rd w v' l') (hl : l.length ≤ 1000000) (hl' : l'.length ≤ 1000000) (hne : l = [] ∨ 0 < l'.length) :
    Calls Try.prog 13 #[v, v'] w fun e w' => e = .returned (.bool (decide (l = l'))) ∧ ∃ q, w' = w.drewN q := by
  obtain ⟨A, c, rfl, hc⟩ := h.open_
  obtain ⟨A', c', rfl, hc'⟩ := h'.open_
  have cell : ∀ (g off : Nat) (m : List ByteArray), (∀ (i : Nat) x, m[i]? = some x → ∀ (j : Nat) u, (eS.enc x)[j]? = some u → w.cell? ⟨g, off + (i * eS.k + j), none⟩ = some u) → ∀ j, j < m.length → w.cell? ⟨g, off + j, none⟩ = some (.string (m.getD j ByteArray.empty)) := fun g off m hm j hj => by
    have := hm j m[j] (List.getElem?_eq_getElem hj) 0 (.string m[j]) rfl
    have e : j * eS.k + 0 = j := by show j * 1 + 0 = j; omega
    rw [e] at this
    rw [this, List.getD_eq_getElem?_getD, List.getElem?_eq_getElem hj]; rfl
  by_cases h0 : l = []
  · subst h0
    refine (Try.slices_Equal_string_empty A A' c l'.length c' w (by omega)).mono ?_
    rintro e w' ⟨rfl, rfl⟩
    refine ⟨?_, 0, rfl⟩
    congr 2
    cases l' with
    | nil => rfl
    | cons x r => rfl
  · have hp : 0 < l.length := by
      cases l with
      | nil => exact absurd rfl h0
      | cons x r => simp
    have hp' : 0 < l'.length := by
      rcases hne with h | h
      · exact absurd h h0
      · exact h
    obtain ⟨g, off, rfl, hg, hcell⟩ := hc hp
    obtain ⟨g', off', rfl, hg', hcell'⟩ := hc' hp'
    refine (Try.slices_Equal_string g off l.length c g' off' l'.length c' l l' w (Nat.le_refl _) (Nat.le_refl _) (by omega) (by omega) (cell g off l hcell) (cell g' off' l' hcell')).mono ?_
    rintro e w' ⟨rfl, hw⟩
    rw [List.take_length, List.take_length]
    exact ⟨rfl, hw⟩
theorem keyL_mkB (l : List UInt8) : keyL (mkB l) = .string l := by unfold keyL; rw [show (mkB l).data.toList = l from bts_mkB l]
theorem names_perm {D : DataW Unit} {M : PrL} (hd : (nmsP M).Nodup) (hl : Looks D (lookP M)) {left : Lit → Bool} {ss : List (List UInt8)} (hC : Collected D left ss) (h0 : ∀ kl, left kl = false) : (ss.map mkB).Perm (nmsP M) := by
  have hn : (ss.map mkB).Nodup := by
    unfold List.Nodup
    rw [List.pairwise_map]
    exact hC.1.imp (fun {a b} h e => h (by rw [← bts_mkB a, e, bts_mkB]))
  rw [List.perm_ext_iff_of_nodup hn hd]
  intro s
  have h1 : s ∈ ss.map mkB ↔ bts s ∈ ss := by
    rw [List.mem_map]
    constructor
    · rintro ⟨x, hx, rfl⟩; rw [bts_mkB]; exact hx
    · intro h; exact ⟨bts s, h, mkB_bts s⟩
  rw [h1, hC.2, h0]
  have h2 := hl.2 s
  have h3 : keyL s = .string (bts s) := rfl
  cases hk : lookP M s with
  | none =>
    have e := h2.2 hk
    rw [h3] at e
    rw [e]
    have := lookP_none.1 hk
    constructor
    · rintro ⟨h, _⟩; cases h
    · intro h; exact absurd h this
  | some v =>
    have e := (h2.1 v hk).1
    rw [h3] at e
    rw [e]
    have : s ∈ nmsP M := List.mem_map.2 ⟨(s, v), lookP_mem hk, rfl⟩
    simp [this]
set_option maxRecDepth 100000 in
set_option maxHeartbeats 2000000 in
theorem symNames_any (w : World) (g n : Nat) (ob : Option Nat) (M : PrL) (h : TabP w g ob n M) (hM : M.length ≤ 1000) :
    Calls Try.prog 14 #[.pointer (some ⟨g, 0, none⟩)] w fun e w' => ∃ v, e = .returned v ∧ eS.Own 9 w' w.heap.size v (srtS (nmsP M)) ∧ Below w.heap.size w w' := by
  obtain ⟨a1, a2, a3⟩ := h
  rcases a3 with ⟨b1, rfl, rfl⟩ | ⟨b, D, rfl, b1, b2, b3, b4, b5⟩
  · have c0 : w.cell? ⟨g, 0, none⟩ = some (.map none) := by rw [b1.cell]; rfl
    have hln := Maps.len_nil (w := w) Try.underlying25
    obtain ⟨Z, hmk0, hZ⟩ := made_S w 0 (by omega)
    have hmk : (Instr.makeSlice 34 (.int .i64 0) (.int .i64 0)).run Try.prog w = .ok (.slice (some ⟨w.heap.size, 0, none⟩) 0 0) (w.alloc Z) := hmk0
    have c1 : (w.alloc Z).cell? ⟨g, 0, none⟩ = some (.map none) := by rw [(b1.alloc Z).cell]; rfl
    have hrg := run_range_nilMap (P := Try.prog) (w.alloc Z) 25 9 23 Try.underlying25
    have hnx : ∀ ty, (Instr.next (.pointer (some ⟨(w.alloc Z).heap.size, 0, none⟩)) false ty).run Try.prog ((w.alloc Z).alloc (.mapIter none 0 #[] 0)) = _ := fun ty => run_next_nilMap _ ty 0 0 #[]
    have hsz : (w.alloc Z).heap.size = w.heap.size + 1 := by simp
    rw [hsz] at hrg hnx
    clear hsz
    have HO := Lib.hid ((hZ w.heap.size (Nat.le_refl _)).alloc (.mapIter none 0 #[] 0))
    have HB := Lib.hid (Below.alloc0 (Below.alloc0 (Below.refl w.heap.size w) Z) (.mapIter none 0 #[] 0))
    have CS := Lib.hid (sortS_any _ _ _ _ HO.out (by simp))
    clear a1 a2 b1 hZ hmk0
    go_enter Try.func14, Try.ntmps14
    go_wp2
    go_loopw [3] (fun u3 wr => u3 = .slice (some ⟨w.heap.size, 0, none⟩) 0 0 ∧ wr = (w.alloc Z).alloc (.mapIter none 0 #[] 0)) (fun _ _ => 0)
    case atStart => exact ⟨rfl, rfl⟩
    case round =>
      obtain ⟨rfl, rfl⟩ := hrel
      go_wp2_with fail
      refine CS.out.mono ?_
      rintro e w' ⟨rfl, hs, hg⟩
      have HS := Lib.hid hs
      have HG := Lib.hid hg
      clear hs hg
      go_wp2
      go_ret
      exact ⟨_, rfl, HS.out, HB.out.grown HG.out (by have := HB.out.size; omega) (fun j e => by simp [Value.ownBlock] at e; omega)⟩
  · have c0 : w.cell? ⟨g, 0, none⟩ = some (.map (some b)) := by rw [b1.cell]; rfl
    have hbl := b3.lt
    have HM := Lib.hid (show Maps.size D ≤ 1000 by omega)
    have HX := Lib.hid (fun (left : Lit → Bool) (ss : List (List UInt8)) (hC : Collected D left ss) (h0 : ∀ kl, left kl = false) => names_perm a2 b4 hC h0)
    obtain ⟨Z, hmk, hZ⟩ := made_S w (Maps.size D) (by omega)
    have c1 : (w.alloc Z).cell? ⟨g, 0, none⟩ = some (.map (some b)) := by rw [(b1.alloc Z).cell]; rfl
    have HO := Lib.hid (hZ w.heap.size (Nat.le_refl _))
    have HB := Lib.hid (Below.alloc0 (Below.refl w.heap.size w) Z)
    have HD := Lib.hid b3
    have HD1 := Lib.hid (b3.kept (World.grownBy_alloc w Z none) (by simp))
    obtain ⟨W1, hW1⟩ : ∃ W1, w.alloc Z = W1 := ⟨_, rfl⟩
    rw [hW1] at hmk c1 HO HB HD1
    have HW1 : Hid (W1.heap.size = w.heap.size + 1) := Lib.hid (by rw [← hW1]; simp)
    clear a1 a2 b1 b2 b3 b4 b5 hZ hM hW1
    go_enter Try.func14, Try.ntmps14
    go_wp2_with (first
      | (at_len; refine wpList_len_own _ rfl _ 25 rfl 9 23 Try.underlying25 _ b n D rfl HD.out ?_)
      | (at_range; refine wpList_range_own _ rfl _ 25 rfl 9 23 tabLaw Try.underlying25 _ b n D rfl HD1.out ?_; intro w0 hrg0 hg0 hs0)
      | go_in)
    go_frame
    go_loopw [3] (fun u3 wr => ∃ (left : Lit → Bool) (cnt : Nat) (ss : List (List UInt8)), wr.ranges Try.prog 9 (plainElem Try.prog 23) b W1.heap.size n D left cnt ∧ ss.length + cnt ≤ Maps.size D ∧
        eS.Own 9 wr w.heap.size u3 (ss.map mkB) ∧ Collected D left ss ∧ Below w.heap.size w wr)
      (fun _ wr => wr.rangeLeft b W1.heap.size)
    case atStart =>
      exact ⟨_, _, [], hrg0, by simp, HO.out.grown hg0 (Or.inr (by simp [Value.ownBlock])), Collected.start D, HB.out.grown hg0 HB.out.size (fun j e => by cases e)⟩
    case round =>
      obtain ⟨left, cnt, ss, hrg, hcs, hrow, hC, hbel⟩ := hrel
      clear hrg0 hg0 hs0
      have hne := row_ne_iter hrow hrg
      go_wp2_with (first
        | (at_next; refine wpList_next_ranges _ rfl _ rfl 9 tabLaw (plainElem Try.prog 23) Go.Proofs.encStr (Value.int .u16) (fun key kl hk => by obtain ⟨x, hx, _⟩ := Maps.keyOf_str Try.underlying9 hk; exact ⟨x, hx⟩) (fun v y hv => by obtain ⟨c, rfl, _⟩ := plainElem_int_inv Try.underlying23 hv; exact ⟨c, rfl⟩) b W1.heap.size n _ _ _ rfl hrg ?_ ?_)
        | go_in)
      · intro hc0 hl0
        have hp := HX.out left ss hC hl0
        have CS := Lib.hid (sortS_any _ _ _ _ hrow (by rw [List.length_map]; have := HM.out; omega))
        rw [srt_of_perm hp] at CS
        have HBe := Lib.hid hbel
        have HLt := Lib.hid hrow.lt
        clear hrg hcs hrow hC hbel hne hc0 hl0 hp
        go_wp2_with fail
        refine CS.out.mono ?_
        rintro e w' ⟨rfl, hs, hg⟩
        have HS := Lib.hid hs
        have HG := Lib.hid hg
        clear hs hg
        go_wp2
        go_ret
        exact ⟨_, rfl, HS.out, HBe.out.grown HG.out HBe.out.size (fun j e => (HLt.out j e).1)⟩
      · intro x c kl yd yp w2 cnt2 hkey hlk hv hat hrg2 hlt hg2 hs2 hen
        obtain ⟨x', ex, rfl, _⟩ := Maps.keyOf_str Try.underlying9 hkey
        obtain rfl : x = x' := encStr_inj ex
        have hrow2 := hrow.grown hg2 (Or.inr hne.symm)
        have HRow := Lib.hid hrow2
        have RN1 := Lib.hid (row_ne_low hrow2 hbl)
        have RN2 := Lib.hid (row_ne_iter hrow2 hrg2)
        have HRg := Lib.hid hrg
        have HRg2 := Lib.hid hrg2
        have HLt := Lib.hid hlt
        have HC := Lib.hid (hC.step hlk hat)
        have HLn := Lib.hid (show (ss ++ [x]).length + cnt2 ≤ Maps.size D by simp; omega)
        have HBe := Lib.hid (hbel.grown hg2 hbel.size (fun j e => by injection e with e; subst e; exact HB.out.size))
        have HSs := Lib.hid (show ss.length ≤ 1000 by have := HM.out; omega)
        have Hx : Hid ((ss ++ [x]).map mkB = ss.map mkB ++ [mkB x]) := Lib.hid (by simp)
        clear hkey hlk hv hat hrg2 hlt hg2 hs2 hrg hcs hrow hC hbel hne ex hrow2
        generalize ss.map mkB = SL at HRow Hx
        have HSL : Hid (SL.length ≤ 1000) := Lib.hid (by have := congrArg List.length Hx.out; simp at this; have := HSs.out; omega)
        have henc : Go.Proofs.encStr x = .string (mkB x) := rfl
        rw [henc] at hen
        clear henc
        go_wp2_with (at_builtin; refine wpList_appS rfl _ _ _ rfl w.heap.size u3 _ SL [mkB x] rfl (Els.Own.alloc HRow.out _) rfl (Els.Rd.lit (E := eS) w2 9 [mkB x] #[.string (mkB x)] 1 rfl rfl 1) (by have := HSL.out; simp; omega) (by have := HBe.out.size; simp; omega) ?_)
        intro v3 w3 h3 hb3 hg3 ho3
        have H3 := Lib.hid h3
        have HB3 := Lib.hid ((Below.alloc0 HBe.out _).trans hb3)
        have hrg3 := (HRg2.out.alloc (Obj.cells #[.string (mkB x)] 9)).kept hg3 RN1.out RN2.out
        have HRg3 := Lib.hid hrg3
        clear h3 hb3 hg3 ho3 hrg3
        go_wp2
        go_roundw
        case rel => exact ⟨_, cnt2, ss ++ [x], HRg3.out, HLn.out, by rw [Hx.out]; exact H3.out, HC.out, HB3.out⟩
        case measure => rw [HRg3.out.left_eq, HRg.out.left_eq]; exact HLt.out
end Go.Proofs.Ytopkjniegncokaa
