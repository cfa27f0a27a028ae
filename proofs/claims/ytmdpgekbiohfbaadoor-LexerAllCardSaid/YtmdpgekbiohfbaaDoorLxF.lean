/- Contracts: what stands between commas; the lines of a text (the document's); two rows of texts compared. -/
import Derived.Test.YtmdpgekbiohfbaaDoorLxR
import Derived.Test.YtmdpgekbiohfbaaDoorStE
import Derived.StillTailTactics
import Derived.IntWalk
namespace Go.Proofs.YtmdpgekbiohfbaaDoor
open Go.ChangeShapes Go.WideShapes Go.ChangeAt Go.RowKit
set_option linter.unusedVariables false

/-- What stands between commas; none of the empty text. -/
def fldL (l : List UInt8) : List (List UInt8) := if l = [] then [] else pcz 44 [] l
theorem pcz_pos : ∀ (c : UInt8) (l p : List UInt8), 0 < (pcz c p l).length
  | c, [], p => by simp [pcz]
  | c, x :: l, p => by
    unfold pcz
    split
    · simp
    · exact pcz_pos c l (p ++ [x])
theorem pcz_len : ∀ (c : UInt8) (l p : List UInt8), (pcz c p l).length ≤ l.length + 1
  | c, [], p => by simp [pcz]
  | c, x :: l, p => by
    unfold pcz
    split
    · have := pcz_len c l []
      simp only [List.length_cons]; omega
    · have := pcz_len c l (p ++ [x])
      simp only [List.length_cons]; omega
theorem pcz_piece : ∀ (c : UInt8) (l p : List UInt8), ∀ q ∈ pcz c p l, q.length ≤ p.length + l.length
  | c, [], p, q, h => by
    simp only [pcz, List.mem_singleton] at h
    subst h; simp
  | c, x :: l, p, q, h => by
    unfold pcz at h
    split at h
    · rcases List.mem_cons.1 h with rfl | h
      · omega
      · have := pcz_piece c l [] q h
        simp only [List.length_cons, List.length_nil] at this ⊢; omega
    · have := pcz_piece c l (p ++ [x]) q h
      simp only [List.length_cons, List.length_append, List.length_nil] at this ⊢; omega
theorem splitK_hit1 (c : UInt8) (k : Nat) (l : List UInt8) : Lib.splitK [c] 0 (k + 1) (c :: l) = [] :: Lib.splitK [c] 0 k l := by
  have hi : Lib.index (c :: l) [c] = 0 := by rw [idx_sub1]; unfold Lib.indexByte; simp
  conv => lhs; unfold Lib.splitK
  rw [hi]
  rfl
theorem splitK_ne (c : UInt8) (k : Nat) (l : List UInt8) : ∃ h t, Lib.splitK [c] 0 k l = h :: t := by
  cases k with
  | zero => exact ⟨_, _, rfl⟩
  | succ k =>
    unfold Lib.splitK
    split
    · exact ⟨_, _, rfl⟩
    · exact ⟨_, _, rfl⟩
theorem splitK_on (c x : UInt8) (hx : x ≠ c) (k : Nat) (l h : List UInt8) (t : List (List UInt8)) (hs : Lib.splitK [c] 0 k l = h :: t) : Lib.splitK [c] 0 k (x :: l) = (x :: h) :: t := by
  cases k with
  | zero =>
    unfold Lib.splitK at hs ⊢
    injection hs with h1 h2
    rw [h1, h2]
  | succ k =>
    have hb : (x == c) = false := by simpa using hx
    have hge := Lib.indexByte_ge l c
    unfold Lib.splitK at hs ⊢
    rw [idx_sub1] at hs ⊢
    have he : Lib.indexByte (x :: l) c = if Lib.indexByte l c == -1 then -1 else Lib.indexByte l c + 1 := by
      conv => lhs; unfold Lib.indexByte
      rw [hb]; rfl
    rw [he]
    by_cases hm : Lib.indexByte l c = -1
    · rw [hm] at hs ⊢
      simp only [beq_self_eq_true, if_true] at hs ⊢
      injection hs with h1 h2
      rw [h1, h2]
    · have hn : (Lib.indexByte l c == -1) = false := by simpa using hm
      rw [hn] at hs ⊢
      simp only [Bool.false_eq_true, if_false] at hs ⊢
      have hn2 : (Lib.indexByte l c + 1 == -1) = false := by
        have : ¬ Lib.indexByte l c + 1 = -1 := by omega
        simpa using this
      rw [hn2]
      simp only [Bool.false_eq_true, if_false]
      obtain ⟨i, hi⟩ : ∃ i : Nat, Lib.indexByte l c = i := ⟨(Lib.indexByte l c).toNat, by omega⟩
      rw [hi] at hs ⊢
      rw [show ((i : Int) + 1).toNat = i + 1 by omega]
      rw [Int.toNat_natCast] at hs
      injection hs with h1 h2
      simp only [List.length_singleton, Nat.add_zero] at h1 h2 ⊢
      rw [List.take_succ_cons, h1, List.drop_succ_cons, h2]
theorem pcz_splitK (c : UInt8) : ∀ (l p h : List UInt8) (t : List (List UInt8)), Lib.splitK [c] 0 (l.count c) l = h :: t → pcz c p l = (p ++ h) :: t
  | [], p, h, t, hs => by
    unfold Lib.splitK at hs
    injection hs with h1 h2
    rw [← h1, ← h2, List.append_nil]; rfl
  | x :: l, p, h, t, hs => by
    obtain ⟨h', t', hs'⟩ := splitK_ne c (l.count c) l
    by_cases e : x = c
    · subst e
      rw [List.count_cons_self, splitK_hit1] at hs
      injection hs with h1 h2
      have ih := pcz_splitK x l [] h' t' hs'
      unfold pcz
      rw [if_pos rfl, ih, ← h1, ← h2, hs', List.append_nil, List.nil_append]
    · rw [List.count_cons_of_ne (by simpa using e), splitK_on c x e _ l h' t' hs'] at hs
      injection hs with h1 h2
      have ih := pcz_splitK c l (p ++ [x]) h' t' hs'
      unfold pcz
      rw [if_neg e, ih, ← h1, ← h2, List.append_assoc]; rfl
theorem split_pcz (c : UInt8) (l : List UInt8) : Lib.splitB ⟨#[c]⟩ 0 (Lib.countB (mkS l) ⟨#[c]⟩) (mkS l) = (pcz c [] l).map mkS ∧ (pcz c [] l).length = Lib.countB (mkS l) ⟨#[c]⟩ + 1 := by
  have hk : Lib.countB (mkS l) ⟨#[c]⟩ = l.count c := by
    unfold Lib.countB
    rw [mkS_data]
    exact Lib.count_one c l
  have hd := Lib.splitB_data ⟨#[c]⟩ 0 (Lib.countB (mkS l) ⟨#[c]⟩) (mkS l)
  rw [hk] at hd ⊢
  obtain ⟨h, t, hs⟩ := splitK_ne c (l.count c) l
  have hp := pcz_splitK c l [] h t hs
  have e : (Lib.splitB ⟨#[c]⟩ 0 (l.count c) (mkS l)).map (·.data.toList) = pcz c [] l := by
    rw [hd, hp, List.nil_append]; exact hs
  have e1 : Lib.splitB ⟨#[c]⟩ 0 (l.count c) (mkS l) = (pcz c [] l).map mkS := by
    rw [← e, List.map_map]
    conv => lhs; rw [← List.map_id (Lib.splitB ⟨#[c]⟩ 0 (l.count c) (mkS l))]
    apply List.map_congr_left
    intro x _
    rfl
  refine ⟨e1, ?_⟩
  have h2 := Lib.splitB_all ⟨#[c]⟩ (show 1 ≤ 1 from Nat.le_refl _) 0 (l.count c) (mkS l) hk
  rw [e1, List.length_map] at h2
  exact h2
theorem eqS_any (v v' : Value) (l l' : List ByteArray) (w : World) (h : eS.Rd w v l) (h' : eS.Rd w v' l') (hl : l.length ≤ 1000000) (hl' : l'.length ≤ 1000000) (hne : l = [] ∨ 0 < l'.length) :
    Calls Tryd.prog 7 #[v, v'] w fun e w' => e = .returned (.bool (decide (l = l'))) ∧ ∃ q, w' = w.drewN q := by
  obtain ⟨A, c, rfl, hc⟩ := h.open_
  obtain ⟨A', c', rfl, hc'⟩ := h'.open_
  have cell : ∀ (g off : Nat) (m : List ByteArray), (∀ (i : Nat) x, m[i]? = some x → ∀ (j : Nat) u, (eS.enc x)[j]? = some u → w.cell? ⟨g, off + (i * eS.k + j), none⟩ = some u) → ∀ j, j < m.length → w.cell? ⟨g, off + j, none⟩ = some (.string (m.getD j ByteArray.empty)) := fun g off m hm j hj => by
    have := hm j m[j] (List.getElem?_eq_getElem hj) 0 (.string m[j]) rfl
    have e : j * eS.k + 0 = j := by show j * 1 + 0 = j; omega
    rw [e] at this
    rw [this, List.getD_eq_getElem?_getD, List.getElem?_eq_getElem hj]; rfl
  by_cases h0 : l = []
  · subst h0
    refine (Tryd.slices_Equal_string_empty A A' c l'.length c' w (by omega)).mono ?_
    rintro e w' ⟨rfl, rfl⟩
    refine ⟨?_, 0, rfl⟩
    congr 2
    cases l' with
    | nil => rfl
    | cons x r => rfl
  · have hp : 0 < l.length := by
      cases l with
      | nil => exact absurd rfl h0
      | cons x r => simp
    have hp' : 0 < l'.length := by
      rcases hne with h | h
      · exact absurd h h0
      · exact h
    obtain ⟨g, off, rfl, hg, hcell⟩ := hc hp
    obtain ⟨g', off', rfl, hg', hcell'⟩ := hc' hp'
    refine (Tryd.slices_Equal_string g off l.length c g' off' l'.length c' l l' w (Nat.le_refl _) (Nat.le_refl _) (by omega) (by omega) (cell g off l hcell) (cell g' off' l' hcell')).mono ?_
    rintro e w' ⟨rfl, hw⟩
    rw [List.take_length, List.take_length]
    exact ⟨rfl, hw⟩
set_option maxRecDepth 100000 in
theorem lxFields_any (l : List UInt8) (hl : l.length ≤ 1000000) (w : World) (hM : MxL w) :
    Calls Tryd.prog 8 #[.string (mkS l)] w fun e w' => ∃ v, e = .returned v ∧ eS.Rd w' v ((fldL l).map mkS) ∧ Below w.heap.size w w' := by
  obtain ⟨m, hm⟩ := hM
  have CS := Lib.hid (Tryd.strings_Split (mkS l) ⟨#[44]⟩ m w (by rw [mkS_size]; omega) hm (by decide))
  obtain ⟨s1, s2⟩ := split_pcz 44 l
  rw [s1] at CS
  have HL := Lib.hid s2
  have he := mkS_empty l
  obtain ⟨K, hK⟩ : ∃ K, Lib.countB (mkS l) ⟨#[44]⟩ = K := ⟨_, rfl⟩
  rw [hK] at CS HL
  clear s1 s2 hK hm
  by_cases h0 : l = []
  · have h1 : (mkS l).toList.isEmpty = true := by rw [he, h0]; rfl
    have HF : Hid (fldL l = []) := Lib.hid (if_pos h0)
    clear h0 he
    generalize mkS l = T at h1 CS ⊢
    go_enter Tryd.func8, Tryd.ntmps8
    go_wp2
    go_ret
    exact ⟨_, rfl, by rw [HF.out]; exact Els.Rd.nil_ _, Below.refl _ _⟩
  · have h1 : (mkS l).toList.isEmpty = false := by
      rw [he]
      cases l with
      | nil => exact absurd rfl h0
      | cons a b => rfl
    have HF : Hid (fldL l = pcz 44 [] l) := Lib.hid (if_neg h0)
    clear h0 he
    generalize mkS l = T at h1 CS ⊢
    go_enter Tryd.func8, Tryd.ntmps8
    go_wp2_with fail
    refine CS.out.mono ?_
    rintro e w1 ⟨rfl, hw⟩
    have R1 := Lib.hid (Els.Rd.lit (E := eS) w 9 ((pcz 44 [] l).map mkS) (((pcz 44 [] l).map mkS).map Value.string).toArray (K + 1) (by rw [List.length_map]; exact HL.out) (by rw [eS_cells]) (K + 1))
    have B1 := Lib.hid (Below.alloc0 (Below.refl w.heap.size w) (.cells (((pcz 44 [] l).map mkS).map Value.string).toArray 9))
    rw [← hw] at R1 B1
    clear hw
    go_wp2
    go_ret
    exact ⟨_, rfl, by rw [HF.out]; exact R1.out, B1.out⟩
theorem Sz.setLast {w : World} {base : Nat} {v : Value} {l : List ByteArray} {r : ByteArray} (h : eS.Own 9 w base v (l ++ [r])) (x : ByteArray) :
    ∃ g c, v = .slice (some ⟨g, 0, none⟩) (l.length + 1) c ∧ base ≤ g ∧ g < w.heap.size ∧ l.length + 1 ≤ c ∧ w.cell? ⟨g, l.length, none⟩ = some (.string r) ∧ w.frozen? ⟨g, l.length, none⟩ = false ∧
      eS.Own 9 (w.setCell ⟨g, l.length, none⟩ (.string x)) base v (l ++ [x]) := by
  obtain ⟨hl, h2⟩ := h
  rcases h2 with ⟨rfl, hn⟩ | ⟨g, cap, cur, rfl, h3, h4, h5, h6, h7, h8⟩
  · simp at hn
  · have hlen : (l ++ [r]).length = l.length + 1 := by simp
    rw [eS_cells] at h8
    rw [hlen] at h5 h8 ⊢
    have hb : Blk w g 9 cur (0, 0) := h4
    have hc : cur[l.length]? = some (.string r) := by
      have e : (cur.toList.take ((l.length + 1) * 1))[l.length]? = ((l ++ [r]).map Value.string)[l.length]? := by rw [h8]
      rw [List.getElem?_take_of_lt (by omega), Array.getElem?_toList] at e
      rw [e]; simp
    refine ⟨g, cap, rfl, h3, Blk.lt hb, h5, (Blk.cell hb _).trans hc, Blk.frozen hb _, by rw [Els.cells_len, List.length_append], Or.inr ⟨g, cap, cur.setIfInBounds l.length (.string x), by simp, h3, Blk.set_ hb _ _, by simpa using h5, h6, by simpa using h7, ?_⟩⟩
    have e1 : ((l ++ [x]).length * 1) = l.length + 1 := by simp
    rw [eS_cells]
    show List.take ((l ++ [x]).length * 1) _ = _
    rw [e1, Array.toList_setIfInBounds]
    have h9 : cur.toList.take (l.length + 1) = l.map Value.string ++ [.string r] := by
      have := h8
      rw [Nat.mul_one] at this
      simpa using this
    rw [List.take_set, h9]
    simp
theorem Sz.one {w : World} {base : Nat} (hb : base ≤ w.heap.size) (x : ByteArray) : eS.Own 9 (w.alloc (.cells #[.string x] 9 (0, 0))) base (.slice (some ⟨w.heap.size, 0, none⟩) 1 1) [x] :=
  ⟨by simp [eS_cells], Or.inr ⟨w.heap.size, 1, #[.string x], rfl, hb, Blk.new w _ _ _, by simp, by unfold maxLen; omega, by simp, by simp [eS_cells]⟩⟩
set_option maxRecDepth 100000 in
set_option maxHeartbeats 4000000 in
theorem refFields_any (l : List UInt8) (hl : l.length ≤ 1000) (w : World) :
    Calls Tryd.prog 9 #[.string (mkS l)] w fun e w' => ∃ v, e = .returned v ∧ eS.Rd w' v ((fldL l).map mkS) ∧ Below w.heap.size w w' := by
  have HL := Lib.hid hl
  obtain ⟨T, hT⟩ : ∃ T, pcz 44 [] l = T := ⟨_, rfl⟩
  have HT := Lib.hid hT
  have hsz : (mkS l).size = l.length := mkS_size l
  have he := mkS_empty l
  by_cases h0 : l = []
  · have h1 : (mkS l).toList.isEmpty = true := by rw [he, h0]; rfl
    have HF : Hid (fldL l = []) := Lib.hid (if_pos h0)
    clear h0 he hT HT hsz hl
    generalize mkS l = T at h1 ⊢
    go_enter Tryd.func9, Tryd.ntmps9
    go_wp2
    go_ret
    exact ⟨_, rfl, by rw [HF.out]; exact Els.Rd.nil_ _, Below.refl _ _⟩
  have h1 : (mkS l).toList.isEmpty = false := by
    rw [he]
    cases l with
    | nil => exact absurd rfl h0
    | cons a b => rfl
  have HF : Hid (fldL l = pcz 44 [] l) := Lib.hid (if_neg h0)
  clear h0 he
  clear hl hT
  go_enter Tryd.func9, Tryd.ntmps9
  go_wp2
  go_loopw [3, 4] (fun u3 u4 wr => ∃ (k : Nat) (d : List (List UInt8)) (p : List UInt8), k ≤ l.length ∧ u4 = .int .i64 k ∧ Hid (d.length ≤ k ∧ p.length ≤ k ∧ d ++ pcz 44 p (l.drop k) = T) ∧ Hid (eS.Own 9 wr w.heap.size u3 (d.map mkS ++ [mkS p])) ∧ Hid (Below w.heap.size w wr)) (fun _ u4 _ => l.length - (intOf u4).toNat)
  case atStart => exact ⟨0, [], [], Nat.zero_le _, rfl, Lib.hid ⟨by simp, by simp, by simpa using HT.out⟩, Lib.hid (Sz.one (Nat.le_refl _) _), Lib.hid (Below.alloc0 (Below.refl _ _) _)⟩
  case round =>
    obtain ⟨k, d, p, hk, rfl, HD, HS, HB⟩ := hrel
    by_cases hlt : k < l.length
    · obtain ⟨c, hc⟩ : ∃ c, l[k]'hlt = c := ⟨_, rfl⟩
      have ix := fun u => ix_at l k hlt hc u
      have so := fun u => sl_one l k hlt hc u
      have hdr : l.drop k = c :: l.drop (k + 1) := by rw [List.drop_eq_getElem_cons hlt, hc]
      obtain ⟨hd1, hd2, hd3⟩ := HD.out
      rw [hdr] at hd3
      unfold pcz at hd3
      have hk6 : l.length ≤ 1000 := HL.out
      have k0 : (0 : Int) ≤ (k : Int) := by omega
      have k1 : (k : Int) < (l.length : Int) := by omega
      by_cases h44 : c = 44
      · have e44 : ((c.toNat : Int) == 44) = true := u8_eq c 44 (by decide) _ (by rw [h44]; rfl)
        rw [if_pos h44] at hd3
        have HD' := Lib.hid (show (d ++ [p]) ++ pcz 44 [] (l.drop (k + 1)) = T by rw [List.append_assoc]; exact hd3)
        have HN := Lib.hid (And.intro hd1 (And.intro hd2 hlt))
        have HZ := Lib.hid HB.out.size
        clear hc hdr hd3 h44 hd1 hd2 HD so
        go_wp2_with (at_builtin; refine wpList_appS rfl _ _ _ rfl w.heap.size u3 _ (d.map mkS ++ [mkS p]) [mkS []] rfl (Els.Own.alloc HS.out _) rfl (Els.Rd.lit (E := eS) wr 9 [mkS []] #[.string ⟨#[]⟩] 1 rfl rfl 1) (by simp; have := HN.out; omega) (by have := HZ.out; simp; omega) ?_)
        intro v1 w1 h1 hb1 hg1 hv1
        have H1 := Lib.hid h1
        have HB1 := Lib.hid ((Below.alloc0 HB.out _).trans hb1)
        clear h1 hb1 hg1 hv1
        go_wp2
        go_roundw
        case rel => exact ⟨k + 1, d ++ [p], [], by have := HN.out; omega, by go_num, Lib.hid ⟨by simp; have := HN.out; omega, by simp, HD'.out⟩, Lib.hid (by simpa using H1.out), HB1⟩
        case measure => simp [intOf]; have := HN.out; omega
      · have e44 : ((c.toNat : Int) == 44) = false := u8_eq c 44 (by decide) _ (by simpa using h44)
        rw [if_neg h44] at hd3
        obtain ⟨g, cp, rfl, hg0, hg1, hcp, hcell, hfr, hset⟩ := Sz.setLast HS.out (mkS (p ++ [c]))
        have hml : (d.map mkS).length = d.length := by simp
        rw [hml] at hcell hfr hset hcp ⊢
        have HN := Lib.hid (And.intro hd1 (And.intro hd2 hlt))
        have HD' := Lib.hid hd3
        have HSt := Lib.hid hset
        have hsp : (mkS p).size = p.length := mkS_size p
        have hn1 : ¬ 9223372036854775807 < (mkS p).size + (mkS [c]).size := by rw [hsp]; show ¬ _ < p.length + 1; omega
        have hap : mkS p ++ mkS [c] = mkS (p ++ [c]) := mkS_app p [c]
        clear hc hdr hd3 h44 HD HS hset hsp
        have hcell' : wr.drew.cell? ⟨g, d.length, none⟩ = some (.string (mkS p)) := hcell
        have hfr' : wr.drew.frozen? ⟨g, d.length, none⟩ = false := hfr
        obtain ⟨S, hS⟩ : ∃ S, mkS (p ++ [c]) = S := ⟨_, rfl⟩
        have HS' := Lib.hid hS
        rw [hS] at HSt hap
        have HSt' := Lib.hid (show eS.Own 9 (wr.drew.setCell ⟨g, d.length, none⟩ (.string S)) w.heap.size (.slice (some ⟨g, 0, none⟩) (d.length + 1) cp) (d.map mkS ++ [S]) from HSt.out)
        have HB' := Lib.hid (show Below w.heap.size w wr.drew from Below.drew0 HB.out)
        clear hS HSt HB
        go_wp2_with fail
        have hwd : IntKind.i64.wrap (d.length : Int) = d.length := IntWalk.i64_in _ (by omega)
        have hwk : IntKind.i64.wrap ((k : Int) + 1) = (k : Int) + 1 := IntWalk.i64_in _ (by omega)
        have k2 : (k : Int) + 1 ≤ (l.length : Int) := by omega
        have d0 : (0 : Int) ≤ (d.length : Int) := by omega
        have d1 : (d.length : Int) < (d.length : Int) + 1 := by omega
        have hcell2 : ({ heap := wr.heap, tape := wr.tape, drawn := wr.drawn + 1, os := wr.os, output := wr.output } : World).cell? ⟨g, d.length, none⟩ = some (.string (mkS p)) := hcell
        go_still_tail 13, (by kernel_rfl)
        change wpList _ _ _ _ _ wr.drew
        clear hcell2 hcell hfr
        generalize wr.drew = w2 at HSt' HB' hcell' hfr' ⊢
        go_wp2
        refine ⟨⟨k + 1, d, p ++ [c], by have := HN.out; omega, by go_num, Lib.hid ⟨by have := HN.out; omega, by simp; have := HN.out; omega, HD'.out⟩, ?_, Lib.hid (Below.setCell HB'.out (by simpa using hg0) _)⟩, ?_⟩
        · rw [HS'.out]; exact HSt'
        · simp [intOf]; have := HN.out; omega
    · obtain rfl : k = l.length := by omega
      have k1 : ¬ (l.length : Int) < (l.length : Int) := by omega
      go_wp2
      go_ret
      refine ⟨_, rfl, ?_, HB.out⟩
      have h1 := HD.out.2.2
      rw [List.drop_length] at h1
      have h2 := HS.out.rd
      have h3 : d.map mkS ++ [mkS p] = T.map mkS := by rw [← h1]; simp [pcz]
      rw [h3] at h2
      rw [HF.out, HT.out]; exact h2
set_option maxRecDepth 100000 in
set_option maxHeartbeats 4000000 in
theorem refLines_any (l : List UInt8) (hl : l.length ≤ 1000) (w : World) :
    Calls Tryd.prog 12 #[.string (mkS l)] w fun e w' => ∃ v, e = .returned v ∧ eS.Rd w' v ((pcz 10 [] l).map mkS) ∧ Below w.heap.size w w' := by
  have HL := Lib.hid hl
  obtain ⟨T, hT⟩ : ∃ T, pcz 10 [] l = T := ⟨_, rfl⟩
  have HT := Lib.hid hT
  have hsz : (mkS l).size = l.length := mkS_size l
  clear hl hT
  go_enter Tryd.func12, Tryd.ntmps12
  go_wp2
  go_loopw [3, 4] (fun u3 u4 wr => ∃ (k : Nat) (d : List (List UInt8)) (p : List UInt8), k ≤ l.length ∧ u4 = .int .i64 k ∧ Hid (d.length ≤ k ∧ p.length ≤ k ∧ d ++ pcz 10 p (l.drop k) = T) ∧ Hid (eS.Own 9 wr w.heap.size u3 (d.map mkS ++ [mkS p])) ∧ Hid (Below w.heap.size w wr)) (fun _ u4 _ => l.length - (intOf u4).toNat)
  case atStart => exact ⟨0, [], [], Nat.zero_le _, rfl, Lib.hid ⟨by simp, by simp, by simpa using HT.out⟩, Lib.hid (Sz.one (Nat.le_refl _) _), Lib.hid (Below.alloc0 (Below.refl _ _) _)⟩
  case round =>
    obtain ⟨k, d, p, hk, rfl, HD, HS, HB⟩ := hrel
    by_cases hlt : k < l.length
    · obtain ⟨c, hc⟩ : ∃ c, l[k]'hlt = c := ⟨_, rfl⟩
      have ix := fun u => ix_at l k hlt hc u
      have so := fun u => sl_one l k hlt hc u
      have hdr : l.drop k = c :: l.drop (k + 1) := by rw [List.drop_eq_getElem_cons hlt, hc]
      obtain ⟨hd1, hd2, hd3⟩ := HD.out
      rw [hdr] at hd3
      unfold pcz at hd3
      have hk6 : l.length ≤ 1000 := HL.out
      have k0 : (0 : Int) ≤ (k : Int) := by omega
      have k1 : (k : Int) < (l.length : Int) := by omega
      by_cases h44 : c = 10
      · have e44 : ((c.toNat : Int) == 10) = true := u8_eq c 10 (by decide) _ (by rw [h44]; rfl)
        rw [if_pos h44] at hd3
        have HD' := Lib.hid (show (d ++ [p]) ++ pcz 10 [] (l.drop (k + 1)) = T by rw [List.append_assoc]; exact hd3)
        have HN := Lib.hid (And.intro hd1 (And.intro hd2 hlt))
        have HZ := Lib.hid HB.out.size
        clear hc hdr hd3 h44 hd1 hd2 HD so
        go_wp2_with (at_builtin; refine wpList_appS rfl _ _ _ rfl w.heap.size u3 _ (d.map mkS ++ [mkS p]) [mkS []] rfl (Els.Own.alloc HS.out _) rfl (Els.Rd.lit (E := eS) wr 9 [mkS []] #[.string ⟨#[]⟩] 1 rfl rfl 1) (by simp; have := HN.out; omega) (by have := HZ.out; simp; omega) ?_)
        intro v1 w1 h1 hb1 hg1 hv1
        have H1 := Lib.hid h1
        have HB1 := Lib.hid ((Below.alloc0 HB.out _).trans hb1)
        clear h1 hb1 hg1 hv1
        go_wp2
        go_roundw
        case rel => exact ⟨k + 1, d ++ [p], [], by have := HN.out; omega, by go_num, Lib.hid ⟨by simp; have := HN.out; omega, by simp, HD'.out⟩, Lib.hid (by simpa using H1.out), HB1⟩
        case measure => simp [intOf]; have := HN.out; omega
      · have e44 : ((c.toNat : Int) == 10) = false := u8_eq c 10 (by decide) _ (by simpa using h44)
        rw [if_neg h44] at hd3
        obtain ⟨g, cp, rfl, hg0, hg1, hcp, hcell, hfr, hset⟩ := Sz.setLast HS.out (mkS (p ++ [c]))
        have hml : (d.map mkS).length = d.length := by simp
        rw [hml] at hcell hfr hset hcp ⊢
        have HN := Lib.hid (And.intro hd1 (And.intro hd2 hlt))
        have HD' := Lib.hid hd3
        have HSt := Lib.hid hset
        have hsp : (mkS p).size = p.length := mkS_size p
        have hn1 : ¬ 9223372036854775807 < (mkS p).size + (mkS [c]).size := by rw [hsp]; show ¬ _ < p.length + 1; omega
        have hap : mkS p ++ mkS [c] = mkS (p ++ [c]) := mkS_app p [c]
        clear hc hdr hd3 h44 HD HS hset hsp
        have hcell' : wr.drew.cell? ⟨g, d.length, none⟩ = some (.string (mkS p)) := hcell
        have hfr' : wr.drew.frozen? ⟨g, d.length, none⟩ = false := hfr
        obtain ⟨S, hS⟩ : ∃ S, mkS (p ++ [c]) = S := ⟨_, rfl⟩
        have HS' := Lib.hid hS
        rw [hS] at HSt hap
        have HSt' := Lib.hid (show eS.Own 9 (wr.drew.setCell ⟨g, d.length, none⟩ (.string S)) w.heap.size (.slice (some ⟨g, 0, none⟩) (d.length + 1) cp) (d.map mkS ++ [S]) from HSt.out)
        have HB' := Lib.hid (show Below w.heap.size w wr.drew from Below.drew0 HB.out)
        clear hS HSt HB
        go_wp2_with fail
        have hwd : IntKind.i64.wrap (d.length : Int) = d.length := IntWalk.i64_in _ (by omega)
        have hwk : IntKind.i64.wrap ((k : Int) + 1) = (k : Int) + 1 := IntWalk.i64_in _ (by omega)
        have k2 : (k : Int) + 1 ≤ (l.length : Int) := by omega
        have d0 : (0 : Int) ≤ (d.length : Int) := by omega
        have d1 : (d.length : Int) < (d.length : Int) + 1 := by omega
        have hcell2 : ({ heap := wr.heap, tape := wr.tape, drawn := wr.drawn + 1, os := wr.os, output := wr.output } : World).cell? ⟨g, d.length, none⟩ = some (.string (mkS p)) := hcell
        go_still_tail 13, (by kernel_rfl)
        change wpList _ _ _ _ _ wr.drew
        clear hcell2 hcell hfr
        generalize wr.drew = w2 at HSt' HB' hcell' hfr' ⊢
        go_wp2
        refine ⟨⟨k + 1, d, p ++ [c], by have := HN.out; omega, by go_num, Lib.hid ⟨by have := HN.out; omega, by simp; have := HN.out; omega, HD'.out⟩, ?_, Lib.hid (Below.setCell HB'.out (by simpa using hg0) _)⟩, ?_⟩
        · rw [HS'.out]; exact HSt'
        · simp [intOf]; have := HN.out; omega
    · obtain rfl : k = l.length := by omega
      have k1 : ¬ (l.length : Int) < (l.length : Int) := by omega
      go_wp2
      go_ret
      refine ⟨_, rfl, ?_, HB.out⟩
      have h1 := HD.out.2.2
      rw [List.drop_length] at h1
      have h2 := HS.out.rd
      have h3 : d.map mkS ++ [mkS p] = T.map mkS := by rw [← h1]; simp [pcz]
      rw [h3] at h2
      rw [HT.out]; exact h2
end Go.Proofs.YtmdpgekbiohfbaaDoor
