/- Pieces of memory: rows of them, opened; do they fit? -/
import Derived.Test.YtnmgjgeniaheoabDoorCpR
import Derived.Test.YtnmgjgeniaheoabDoorSrc
import Derived.Deep.QuietTactic
import Derived.BigQuiet
import Derived.IntWalk
import Derived.Deep.SlicePairs
namespace Go.Proofs.YtnmgjgeniaheoabDoor
open Go.ChangeShapes Go.WideShapes Go.ChangeAt Go.RowKit
set_option linter.unusedVariables false

abbrev PvV := Int × Option Addr × Nat × Nat
abbrev Pc := Int × List Int
abbrev eP4 : Els PvV := ⟨fun x => [.int .u16 x.1, .slice x.2.1 x.2.2.1 x.2.2.2], 2, fun _ => rfl, fun x u h => by
  simp only [List.mem_cons, List.not_mem_nil, or_false] at h
  rcases h with rfl | rfl <;> rfl, by decide⟩
/-- A piece's cells tell this piece; q: its bound of capacity is told, too. -/
def PcAt (q : Bool) (w : World) (x : PvV) (p : Pc) : Prop := x.1 = p.1 ∧ 0 ≤ p.1 ∧ p.1 < 65536 ∧ eY.Rd w (.slice x.2.1 x.2.2.1 x.2.2.2) p.2 ∧ x.2.2.1 = p.2.length ∧ Byt p.2 ∧ (q = true → x.2.2.1 ≤ x.2.2.2)
theorem PcAt.below {q : Bool} {w w' : World} {x : PvV} {p : Pc} (h : PcAt q w x p) (hb : Below w.heap.size w w') : PcAt q w' x p := ⟨h.1, h.2.1, h.2.2.1, h.2.2.2.1.below hb, h.2.2.2.2⟩
/-- A row of pieces. -/
def PcR (q : Bool) (w : World) (v : Value) (l : List Pc) : Prop := ∃ L : List PvV, eP4.Rd w v L ∧ L.length = l.length ∧ ∀ (i : Nat) (x : PvV) (p : Pc), L[i]? = some x → l[i]? = some p → PcAt q w x p
theorem PcR.below {q : Bool} {w w' : World} {v : Value} {l : List Pc} (h : PcR q w v l) (hb : Below w.heap.size w w') : PcR q w' v l := by
  obtain ⟨L, h1, h2, h3⟩ := h
  exact ⟨L, h1.below hb, h2, fun i x p q1 q2 => (h3 i x p q1 q2).below hb⟩
/-- What a walk reads of a row of pieces. -/
theorem PcR.open_ {q : Bool} {w : World} {v : Value} {l : List Pc} (h : PcR q w v l) : ∃ A c, v = .slice A l.length c ∧ (0 < l.length → ∃ g off, A = some ⟨g, off, none⟩ ∧ g < w.heap.size ∧
    ∀ i p, l[i]? = some p → ∃ B n k, w.cell? ⟨g, off + i * 2, none⟩ = some (.int .u16 p.1) ∧ w.cell? ⟨g, off + i * 2 + 1, none⟩ = some (.slice B n k) ∧ 0 ≤ p.1 ∧ p.1 < 65536 ∧ eY.Rd w (.slice B n k) p.2 ∧ n = p.2.length ∧ Byt p.2 ∧ (q = true → n ≤ k)) := by
  obtain ⟨L, h1, h2, h3⟩ := h
  obtain ⟨A, c, hv, hc⟩ := h1.open_
  rw [h2] at hv hc
  refine ⟨A, c, hv, fun h0 => ?_⟩
  obtain ⟨g, off, rfl, hg, hcell⟩ := hc h0
  refine ⟨g, off, rfl, hg, fun i p hp => ?_⟩
  have hi : i < l.length := by
    rcases Nat.lt_or_ge i l.length with a | a
    · exact a
    · rw [List.getElem?_eq_none a] at hp; cases hp
  obtain ⟨x, hx⟩ : ∃ x, L[i]? = some x := ⟨_, List.getElem?_eq_getElem (by omega)⟩
  obtain ⟨e1, p0, p1, r, e2, b, cp⟩ := h3 i x p hx hp
  have c0 := hcell i x hx 0 _ rfl
  have c1 := hcell i x hx 1 _ rfl
  rw [e1] at c0
  refine ⟨_, _, _, by simpa using c0, ?_, p0, p1, r, e2, b, cp⟩
  rw [← Nat.add_assoc] at c1
  exact c1
def fitP (p : Pc) : Bool := decide (p.2.length ≤ 200) && decide (p.1 + p.2.length ≤ 65536)
def fitsP (l : List Pc) : Bool := l.all fitP
theorem fitP_iff (p : Pc) : fitP p = true ↔ p.2.length ≤ 200 ∧ p.1 + p.2.length ≤ 65536 := by unfold fitP; rw [Bool.and_eq_true, decide_eq_true_iff, decide_eq_true_iff]
theorem fitsP_no {l : List Pc} {i : Nat} {p : Pc} (h : l[i]? = some p) (hf : ¬ fitP p = true) : fitsP l = false := by
  unfold fitsP
  rw [List.all_eq_false]
  exact ⟨p, List.mem_of_getElem? h, hf⟩
theorem open_bytesP {H : Type} {ee : TypeId × Value → H} {W : World} {base : Nat} {sp : Nat → Bool} {held : Bool} {fuel : Nat} {A : Option Addr} {n c : Nat} {x : DataW H × List MemPlace} (h : DataW.trod ee Tryd.prog W base sp held fuel 25 (Value.slice A n c).cells.toList = some x) :
    ∃ l, eY.Rd W (.slice A n c) l ∧ n = l.length ∧ Byt l ∧ n ≤ c := by
  obtain ⟨l, h1, h2, h3, h4⟩ := Els.open_in (E := eY) (fun z => (Lit.int .u8 z).wf = true) Tryd.underlying25 (by kernel_rfl) (fun n cs x hl h => by
    match cs, hl with
    | [v], _ =>
      obtain ⟨y, e, _, hw⟩ := DataW.trod_int Tryd.underlying5 h
      exact ⟨y, e, hw⟩) h
  refine ⟨l, h1, h2.symm, Byt.of_wf h4, ?_⟩
  rcases Go.Deep.open_slice Tryd.underlying25 h with ⟨hcs, _⟩ | ⟨a, len, cap, m, k, D, Pl, hcs, hb, hl, hm, hmm, hx, hx2⟩
  · simp [Value.cells] at hcs
    obtain ⟨rfl, rfl, rfl⟩ := hcs
    omega
  · simp [Value.cells] at hcs
    obtain ⟨rfl, rfl, rfl⟩ := hcs
    exact hl
/-- The law's own pieces. -/
def pcWf (W : World) (x : PvV) : Prop := ∃ p, PcAt true W x p
def PcsIn (W : World) (A : Option Addr) (n c : Nat) (L : List PvV) : Prop := eP4.In (pcWf W) W A n c L
theorem open_pcs {H : Type} {ee : TypeId × Value → H} {W : World} {base : Nat} {sp : Nat → Bool} {held : Bool} {fuel : Nat} {A : Option Addr} {n c : Nat} {x : DataW H × List MemPlace} (h : DataW.trod ee Tryd.prog W base sp held fuel 23 (Value.slice A n c).cells.toList = some x) :
    ∃ L, PcsIn W A n c L :=
  Els.open_in (E := eP4) (pcWf W) Tryd.underlying23 (by kernel_rfl) (fun n cs x hl h => by
    match cs, hl with
    | [u, v], _ =>
      obtain ⟨y0, y1, m, _, _, h0, h1⟩ := trod_struct2 Tryd.underlying27 h
      have e0 : ([u, v].drop 0).take (Tryd.prog.cellsOf 22) = [u] := by rw [show Tryd.prog.cellsOf 22 = 1 by kernel_rfl]; rfl
      have e1 : ([u, v].drop 1).take (Tryd.prog.cellsOf 25) = [v] := by rw [show Tryd.prog.cellsOf 25 = 1 by kernel_rfl]; rfl
      dsimp only at h0 h1
      rw [e0] at h0
      rw [e1] at h1
      obtain ⟨z, ez, _, hz⟩ := DataW.trod_int Tryd.underlying22 h0
      obtain rfl : u = .int .u16 z := by simpa [Value.cells] using ez
      have bz := bounds_u16 hz
      obtain ⟨A', n', c', rfl⟩ : ∃ A' n' c', v = .slice A' n' c' := by
        rcases Go.Deep.open_slice Tryd.underlying25 h1 with ⟨hcs, _⟩ | ⟨a, len, cap, _, _, _, _, hcs, _⟩
        · exact ⟨_, _, _, by simpa using hcs⟩
        · exact ⟨_, _, _, by simpa using hcs⟩
      obtain ⟨l, q1, q2, q3, q4⟩ := open_bytesP (A := A') (n := n') (c := c') h1
      exact ⟨(z, A', n', c'), rfl, (z, l), rfl, bz.1, by have := bz.2; show z < 65536; omega, q1, q2, q3, fun _ => q4⟩) h
theorem pcs_list {W : World} : ∀ (L : List PvV), (∀ x ∈ L, pcWf W x) → ∃ l : List Pc, L.length = l.length ∧ ∀ (i : Nat) (x : PvV) (p : Pc), L[i]? = some x → l[i]? = some p → PcAt true W x p
  | [], _ => ⟨[], rfl, fun i x p h => by simp at h⟩
  | y :: L, h => by
    obtain ⟨l, h1, h2⟩ := pcs_list L (fun x hx => h x (by simp [hx]))
    obtain ⟨p, hp⟩ := h y (by simp)
    refine ⟨p :: l, by simp [h1], fun i x q a b => ?_⟩
    cases i with
    | zero =>
      obtain rfl : y = x := by simpa using a
      obtain rfl : p = q := by simpa using b
      exact hp
    | succ i => exact h2 i x q (by simpa using a) (by simpa using b)
theorem PcR.of_in {W : World} {A : Option Addr} {n c : Nat} {L : List PvV} (h : PcsIn W A n c L) : ∃ l : List Pc, PcR true W (.slice A n c) l ∧ l.length = n := by
  obtain ⟨h1, h2, _, h4⟩ := h
  obtain ⟨l, q1, q2⟩ := pcs_list L h4
  exact ⟨l, ⟨L, h1, q1, q2⟩, by omega⟩
set_option maxRecDepth 100000 in
set_option maxHeartbeats 4000000 in
theorem fits_any (v : Value) (l : List Pc) (w : World) {q : Bool} (h : PcR q w v l) (hn : l.length ≤ 100000) :
    Calls Tryd.prog 6 #[v] w fun e w' => e = .returned (.bool (fitsP l)) ∧ ∃ k, w' = w.drewN k := by
  obtain ⟨A, c, rfl, hc⟩ := h.open_
  obtain ⟨N, hN⟩ : ∃ N, l.length = N := ⟨_, rfl⟩
  have HN := Lib.hid hN
  rw [hN] at hc hn ⊢
  have HC := Lib.hid hc
  clear h hc hN
  go_enter Tryd.func6, Tryd.ntmps6
  go_wp2
  go_loopw [3] (fun i wr => ∃ k : Nat, k ≤ N ∧ i = .int .i64 k ∧ Hid (∀ q p, q < k → l[q]? = some p → fitP p = true) ∧ ∃ j, wr = w.drewN j) (fun i _ => N - (intOf i).toNat)
  case atStart => exact ⟨0, Nat.zero_le _, rfl, Lib.hid (fun q p h => absurd h (by omega)), 0, rfl⟩
  case round =>
    obtain ⟨k, hk, rfl, HQ, j, rfl⟩ := hrel
    by_cases hlt : k < N
    · obtain ⟨g, off, rfl, hg, hcell⟩ := HC.out (by omega)
      obtain ⟨p, hp⟩ : ∃ p, l[k]? = some p := ⟨_, List.getElem?_eq_getElem (by rw [HN.out]; exact hlt)⟩
      obtain ⟨B, m, cp, c0, c1, p0, p1, -, hm, -, -⟩ := hcell k p hp
      have k0 : (0 : Int) ≤ k := by omega
      have k1 : (k : Int) < N := by omega
      have HF := Lib.hid (fitP_iff p)
      have HP := Lib.hid hp
      have HNo := Lib.hid (fun z => fitsP_no (l := l) (i := k) hp z)
      have tc : IntKind.i64.wrap p.1 = p.1 := IntWalk.i64_in _ (by omega)
      have tw : m ≤ 1099511627776 → IntKind.i64.wrap (p.1 + (m : Int)) = p.1 + (m : Int) := fun q => IntWalk.i64_in _ (by omega)
      clear hcell hp
      by_cases h2 : 200 < m
      · have E : Hid (fitsP l = false) := Lib.hid (HNo.out (fun e => by have := (HF.out.1 e).1; omega))
        have h2' : (200 : Int) < m := by omega
        clear hm HQ tw
        go_wp2
        go_quiet (fail)
        go_wp2
        go_ret
        exact ⟨ret_bool E.out.symm, by first | exact ⟨_, rfl⟩ | exact ⟨_, World.drewN_drewN _ _ _⟩⟩
      · have h2' : ¬ (200 : Int) < m := by omega
        have tw2 := tw (by omega)
        clear tw
        by_cases h3 : 65536 < p.1 + m
        · have E : Hid (fitsP l = false) := Lib.hid (HNo.out (fun e => by have := (HF.out.1 e).2; omega))
          clear hm HQ
          go_wp2
          go_quiet (fail)
          go_wp2
          go_ret
          exact ⟨ret_bool E.out.symm, by first | exact ⟨_, rfl⟩ | exact ⟨_, World.drewN_drewN _ _ _⟩⟩
        · have HQ2 : Hid (∀ q p, q < k + 1 → l[q]? = some p → fitP p = true) := Lib.hid (fun q p' hq hp' => by
            by_cases e : q = k
            · rw [e, HP.out] at hp'
              injection hp' with hp'
              rw [← hp']
              exact HF.out.2 ⟨by omega, by omega⟩
            · exact HQ.out q p' (by omega) hp')
          clear hm HQ
          go_wp2
          go_quiet (fail)
          go_wp2
          go_roundw
          case rel => exact ⟨k + 1, by omega, by go_num, HQ2, by first | exact ⟨_, rfl⟩ | exact ⟨_, World.drewN_drewN _ _ _⟩⟩
          case measure => simp [intOf]; omega
    · have k1 : ¬ (k : Int) < N := by omega
      have E : Hid (fitsP l = true) := Lib.hid (by
        unfold fitsP
        rw [List.all_eq_true]
        intro p hp
        obtain ⟨i, hi⟩ := List.getElem?_of_mem hp
        have : i < l.length := by
          rcases Nat.lt_or_ge i l.length with a | a
          · exact a
          · rw [List.getElem?_eq_none a] at hi; cases hi
        exact HQ.out i p (by rw [HN.out] at this; omega) hi)
      clear HQ
      go_wp2
      go_ret
      exact ⟨ret_bool E.out.symm, j, rfl⟩
end Go.Proofs.YtnmgjgeniaheoabDoor
