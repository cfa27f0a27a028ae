/- Contracts of the document's answer for layer 13: Name, Find, Group, Reg. -/
import Derived.Test.YtnhafficnomlbabDoorOpsY
import Derived.Test.YtnhafficnomlbabDoorOpsF
namespace Go.Proofs.YtnhafficnomlbabDoor
open Go.ChangeShapes Go.WideShapes Go.ChangeAt Go.RowKit
set_option linter.unusedVariables false
theorem endI_out (op r : Int) (h : r < 0 ∨ 15 < r) : (endI op r).2 = false := by
  have h1 : regI r = [] := by unfold regI; rw [if_neg (by omega)]
  have h2 : cndI r = [] := by unfold cndI; rw [if_neg (by omega)]
  have h3 : intE r = ([], false) := by unfold intE; rw [if_neg (by omega), if_neg (by omega), if_neg (by omega)]
  have h4 : ∀ L, (letI' L r).2 = false := fun L => by unfold letI'; rw [h1]; rfl
  have h5 : ∀ n, (cndE n r).2 = false := fun n => by unfold cndE; rw [h2]; rfl
  have h6 : (r == 0) = false := by simp; omega
  unfold endI
  rw [h3]
  repeat' split
  all_goals first
    | exact h4 _
    | exact h5 _
    | exact h6
    | rfl
theorem name_in (op r : Int) (h : (nameI op r).isEmpty = false) : 0 < op ∧ op < 52 ∧ 0 ≤ r ∧ r < 16 := by
  unfold nameI at h
  split at h
  · rename_i h1
    split at h
    · rename_i h2
      refine ⟨h1.1, h1.2, ?_⟩
      rcases (show r < 0 ∨ 15 < r ∨ (0 ≤ r ∧ r < 16) by omega) with a | a | a
      · rw [endI_out op r (.inl a)] at h2; cases h2
      · rw [endI_out op r (.inr a)] at h2; cases h2
      · exact a
    · simp at h
  · simp at h
theorem l8_len132 : (l8 15).length = 132 := by rw [l8_all]; decide +kernel
/-- The k-th row, and what it says. -/
theorem row_at (k : Nat) (h : k < 132) : ∃ p, p ∈ rowsW ∧ (l8 15)[k]? = some (p.1, (p.2.1 : Int), (p.2.2 : Int)) ∧ rowsW[k]? = some p := by
  have hl : rowsW.length = 132 := by decide +kernel
  refine ⟨rowsW[k]'(by omega), List.getElem_mem _, ?_, List.getElem?_eq_getElem _⟩
  rw [l8_all, List.getElem?_map, List.getElem?_eq_getElem (by omega)]; rfl
theorem row_all (p : Txt × Nat × Nat) (hp : p ∈ rowsW) : ∃ k, k < 132 ∧ rowsW[k]? = some p := by
  have hl : rowsW.length = 132 := by decide +kernel
  obtain ⟨k, hk, e⟩ := List.getElem_of_mem hp
  exact ⟨k, by omega, by rw [List.getElem?_eq_getElem hk, e]⟩
/-- None of the rows is this one's: it has no name. -/
theorem name_none (op r : Int) (h : ∀ k p, k < 132 → rowsW[k]? = some p → ¬ ((p.2.1 : Int) = op ∧ (p.2.2 : Int) = r)) : nameI op r = [] := by
  cases hn : (nameI op r).isEmpty
  · exfalso
    obtain ⟨a, b, c, d⟩ := name_in op r hn
    obtain ⟨o, rfl⟩ := Int.eq_ofNat_of_zero_le (show 0 ≤ op by omega)
    obtain ⟨q, rfl⟩ := Int.eq_ofNat_of_zero_le c
    have hm := code_mem o q (by omega) (by omega) hn
    obtain ⟨k, hk, e⟩ := row_all _ hm
    exact h k _ hk e ⟨rfl, rfl⟩
  · simpa using hn
set_option maxRecDepth 100000 in
set_option maxHeartbeats 2000000 in
theorem refName13_any (op r : Int) (w : World) :
    Calls Tryd.prog 18 #[.int .i64 op, .int .i64 r] w fun e w' => e = .returned (.string (byteStr (nameI op r))) ∧ Below w.heap.size w w' := by
  have CR := Lib.hid (rows_any w)
  go_enter Tryd.func18, Tryd.ntmps18
  go_wp2_with fail
  refine CR.out.mono ?_
  rintro e w1 ⟨v, rfl, ho, hb⟩
  obtain ⟨A, c, hv, hcell⟩ := Els.Rd.open_ ho.rd
  subst hv
  rw [l8_len132] at hcell ⊢
  obtain ⟨g, off, rfl, hg, hc⟩ := hcell (by decide)
  have HC := Lib.hid hc
  have HB := Lib.hid hb
  clear ho hb hcell hc hg CR
  go_wp2
  go_loop [6] (fun i => ∃ k : Nat, k ≤ 132 ∧ i = .int .i64 k ∧ Hid (∀ k' p, k' < k → rowsW[k']? = some p → ¬ ((p.2.1 : Int) = op ∧ (p.2.2 : Int) = r))) (fun i => 132 - (intOf i).toNat)
  case atStart => exact ⟨0, Nat.zero_le _, rfl, Lib.hid (fun k p h => absurd h (by omega))⟩
  case round =>
    obtain ⟨k, hk, rfl, hF⟩ := hrel
    by_cases hlt : k < 132
    · obtain ⟨p, hp, h1, h2⟩ := row_at k hlt
      have c0 := HC.out k _ h1 0 _ rfl
      have c1 := HC.out k _ h1 1 _ rfl
      have c2 := HC.out k _ h1 2 _ rfl
      have k0 : (0 : Int) ≤ (k : Int) := by omega
      have k132 : (k : Int) < 132 := by omega
      have HN := Lib.hid (rows_mem p hp).2.2.1
      have H2 := Lib.hid h2
      simp only at c0 c1 c2
      rw [Nat.add_zero] at c0
      rw [← Nat.add_assoc] at c1 c2
      obtain ⟨P, hP⟩ : ∃ P, (p.2.1 : Int) = P := ⟨_, rfl⟩
      obtain ⟨Q, hQ⟩ : ∃ Q, (p.2.2 : Int) = Q := ⟨_, rfl⟩
      rw [hP] at c1 HN
      rw [hQ] at c2 HN
      have HP := Lib.hid hP
      have HQ := Lib.hid hQ
      obtain ⟨S, hSS⟩ : ∃ S, byteStr p.1 = S := ⟨_, rfl⟩
      rw [hSS] at c0
      have HSS := Lib.hid hSS
      clear h1 h2 hP hQ hSS
      have HNo : Hid (¬ (P = op ∧ Q = r) → ∀ k' p', k' < k + 1 → rowsW[k']? = some p' → ¬ ((p'.2.1 : Int) = op ∧ (p'.2.2 : Int) = r)) := Lib.hid (fun hne k' p' hk' e => by
        rcases Nat.lt_or_ge k' k with a | a
        · exact hF.out k' p' a e
        · obtain rfl : k' = k := by omega
          obtain rfl := Option.some.inj (H2.out.symm.trans e)
          rw [HP.out, HQ.out]; exact hne)
      cases e1 : P == op
      · have HN2 := Lib.hid (HNo.out (fun h => by rw [h.1] at e1; simp at e1))
        clear HNo
        go_wp2
        go_round
        case rel => exact ⟨k + 1, by omega, by go_num, HN2⟩
        case measure => simp [intOf] <;> omega
      · cases e2 : Q == r
        · have HN2 := Lib.hid (HNo.out (fun h => by rw [h.2] at e2; simp at e2))
          clear HNo
          go_wp2
          go_round
          case rel => exact ⟨k + 1, by omega, by go_num, HN2⟩
          case measure => simp [intOf] <;> omega
        · have HE : Hid (byteStr (nameI op r) = S) := Lib.hid (by
            rw [← eq_of_beq e1, ← eq_of_beq e2, HN.out, HSS.out])
          clear HNo
          go_wp2
          go_ret
          exact ⟨by first | (rw [HE.out]; done) | (rw [HE.out]; rfl), HB.out⟩
    · obtain rfl : k = 132 := by omega
      have HE : Hid (byteStr (nameI op r) = ⟨#[]⟩) := Lib.hid (by rw [name_none op r (fun k p a e => hF.out k p a e)]; rfl)
      go_wp2
      go_ret
      exact ⟨by first | (rw [HE.out]; done) | (rw [HE.out]; rfl), HB.out⟩
theorem refUsual (T : Txt) : usualT T = usualT T := rfl
theorem find_at (T : Txt) (k : Nat) (p : Txt × Nat × Nat) (h : rowsW[k]? = some p) (e : p.1 = T) : lookR T = ((p.2.1 : Int), (p.2.2 : Int), true) := by
  have hm : p ∈ rowsW := List.mem_of_getElem? h
  obtain ⟨a, b, c, d⟩ := rows_mem p hm
  exact look_some p.2.1 p.2.2 a b T (by rw [← e]; exact d) (by rw [c, e])
theorem find_no (T : Txt) (h : ∀ k p, k < 132 → rowsW[k]? = some p → p.1 ≠ T) : lookR T = (0, 0, false) := by
  refine look_none T (fun op r a b => ?_)
  cases hn : (nameI (op : Int) (r : Int)).isEmpty
  · right
    intro e
    have hm := code_mem op r a b hn
    obtain ⟨k, hk, e2⟩ := row_all _ hm
    exact h k _ hk e2 e
  · exact .inl rfl
def twoL : List (Txt × Txt) := [([76, 83, 76], [65, 83, 76]), ([76, 83, 76, 65], [65, 83, 76, 65]), ([76, 83, 76, 66], [65, 83, 76, 66]), ([66, 72, 83], [66, 67, 67]), ([66, 76, 79], [66, 67, 83]), ([76, 66, 72, 83], [76, 66, 67, 67]), ([76, 66, 76, 79], [76, 66, 67, 83])]
def seqU (T : Txt) : Nat → Txt
  | 0 => T
  | k + 1 => if (twoL.getD k ([], [])).1 = seqU T k then (twoL.getD k ([], [])).2 else seqU T k
theorem seqU_all (T : Txt) : seqU T 7 = usualT T := by
  by_cases h0 : T = [76, 83, 76]
  · subst h0; decide
  by_cases h1 : T = [76, 83, 76, 65]
  · subst h1; decide
  by_cases h2 : T = [76, 83, 76, 66]
  · subst h2; decide
  by_cases h3 : T = [66, 72, 83]
  · subst h3; decide
  by_cases h4 : T = [66, 76, 79]
  · subst h4; decide
  by_cases h5 : T = [76, 66, 72, 83]
  · subst h5; decide
  by_cases h6 : T = [76, 66, 76, 79]
  · subst h6; decide
  have e : ∀ k, k ≤ 7 → seqU T k = T := by
    intro k
    induction k with
    | zero => intro _; rfl
    | succ k ih =>
      intro hk
      show (if (twoL.getD k ([], [])).1 = seqU T k then _ else _) = T
      rw [ih (by omega), if_neg]
      rcases (show k = 0 ∨ k = 1 ∨ k = 2 ∨ k = 3 ∨ k = 4 ∨ k = 5 ∨ k = 6 by omega) with rfl | rfl | rfl | rfl | rfl | rfl | rfl
      · exact fun h => h0 h.symm
      · exact fun h => h1 h.symm
      · exact fun h => h2 h.symm
      · exact fun h => h3 h.symm
      · exact fun h => h4 h.symm
      · exact fun h => h5 h.symm
      · exact fun h => h6 h.symm
  rw [e 7 (Nat.le_refl _)]
  unfold usualT
  rw [if_neg h0, if_neg h1, if_neg h2, if_neg h3, if_neg h4, if_neg h5, if_neg h6]
abbrev twoCs : Array Value := #[.string ⟨#[76, 83, 76]⟩, .string ⟨#[65, 83, 76]⟩, .string ⟨#[76, 83, 76, 65]⟩, .string ⟨#[65, 83, 76, 65]⟩, .string ⟨#[76, 83, 76, 66]⟩, .string ⟨#[65, 83, 76, 66]⟩, .string ⟨#[66, 72, 83]⟩, .string ⟨#[66, 67, 67]⟩, .string ⟨#[66, 76, 79]⟩, .string ⟨#[66, 67, 83]⟩, .string ⟨#[76, 66, 72, 83]⟩, .string ⟨#[76, 66, 67, 67]⟩, .string ⟨#[76, 66, 76, 79]⟩, .string ⟨#[76, 66, 67, 83]⟩]
theorem twoCs_at (k : Nat) (h : k < 7) : twoCs[k * 2]? = some (.string (byteStr (twoL.getD k ([], [])).1)) ∧ twoCs[k * 2 + 1]? = some (.string (byteStr (twoL.getD k ([], [])).2)) := by
  rcases (show k = 0 ∨ k = 1 ∨ k = 2 ∨ k = 3 ∨ k = 4 ∨ k = 5 ∨ k = 6 by omega) with rfl | rfl | rfl | rfl | rfl | rfl | rfl
  all_goals exact ⟨rfl, rfl⟩
set_option maxRecDepth 100000 in
set_option maxHeartbeats 2000000 in
theorem refFind13_any (s : ByteArray) (w : World) :
    Calls Tryd.prog 26 #[.string s] w fun e w' => e = .returned (.tuple #[.int .i64 (lookR (usualT s.toList)).1, .int .i64 (lookR (usualT s.toList)).2.1, .bool (lookR (usualT s.toList)).2.2]) ∧ Below w.heap.size w w' := by
  have CR := Lib.hid (fun u => rows_any u)
  have P0 : Hid (Blk (w.alloc (Obj.cells twoCs 75)) w.heap.size 75 twoCs) := Lib.hid (Blk.new _ _ _ (0, 0))
  have B0 := Lib.hid (Below.alloc0 (Below.refl w.heap.size w) (Obj.cells twoCs 75))
  obtain ⟨T, hT⟩ : ∃ T, s.toList = T := ⟨_, rfl⟩
  obtain rfl : s = byteStr T := by rw [← hT, byteStr_back]
  have HT : Hid ((byteStr T).toList = T) := Lib.hid hT
  rw [HT.out]
  clear hT
  go_enter Tryd.func26, Tryd.ntmps26
  go_wp2
  generalize hW : w.alloc _ = W
  have P1 : Hid (Blk W w.heap.size 75 twoCs) := by rw [← hW]; exact P0
  have B1 : Hid (Below w.heap.size w W) := by rw [← hW]; exact B0
  clear hW P0 B0
  go_loop [0, 6] (fun u i => ∃ k : Nat, k ≤ 7 ∧ i = .int .i64 k ∧ u = .string (byteStr (seqU T k))) (fun _ i => 7 - (intOf i).toNat)
  case atStart => exact ⟨0, Nat.zero_le _, rfl, rfl⟩
  case round =>
    obtain ⟨k, hk, rfl, rfl⟩ := hrel
    by_cases hlt : k < 7
    · obtain ⟨d0, d1⟩ := twoCs_at k hlt
      have c0 := (P1.out.cell (k * 2)).trans d0
      have c1 := (P1.out.cell (k * 2 + 1)).trans d1
      have k0 : (0 : Int) ≤ (k : Int) := by omega
      have k7 : (k : Int) < 7 := by omega
      have HN : Hid (seqU T (k + 1) = if (twoL.getD k ([], [])).1 = seqU T k then (twoL.getD k ([], [])).2 else seqU T k) := Lib.hid rfl
      have he : ((byteStr (twoL.getD k ([], [])).1).toList == (byteStr (seqU T k)).toList) = decide ((twoL.getD k ([], [])).1 = seqU T k) := by
        rw [byteStr_list, byteStr_list, Bool.eq_iff_iff, beq_iff_eq, decide_eq_true_eq]
      generalize twoL.getD k ([], []) = tw at *
      generalize seqU T k = U at *
      clear d0 d1
      by_cases hq : tw.1 = U
      · rw [decide_eq_true hq] at he
        rw [if_pos hq] at HN
        clear hq
        generalize byteStr tw.1 = S1 at *
        go_wp2
        go_round
        case rel => exact ⟨k + 1, by omega, by go_num, by rw [HN.out]⟩
        case measure => simp [intOf] <;> omega
      · rw [decide_eq_false hq] at he
        rw [if_neg hq] at HN
        clear hq
        generalize byteStr tw.1 = S1 at *
        go_wp2
        go_round
        case rel => exact ⟨k + 1, by omega, by go_num, by rw [HN.out]⟩
        case measure => simp [intOf] <;> omega
    · obtain rfl : k = 7 := by omega
      rw [seqU_all T]
      obtain ⟨U, hU⟩ : ∃ U, usualT T = U := ⟨_, rfl⟩
      rw [hU]
      have HU := Lib.hid hU
      clear HT hU
      go_wp2_with fail
      refine (CR.out _).mono ?_
      rintro e w1 ⟨v, rfl, ho, hb⟩
      obtain ⟨A, c, hv, hcell⟩ := Els.Rd.open_ ho.rd
      subst hv
      rw [l8_len132] at hcell ⊢
      obtain ⟨g, off, rfl, hg, hc⟩ := hcell (by decide)
      have HC := Lib.hid hc
      have HB := Lib.hid (B1.out.trans (hb.mono B1.out.size))
      clear ho hb hcell hc hg CR
      go_wp2
      go_loop [8] (fun i => ∃ k : Nat, k ≤ 132 ∧ i = .int .i64 k ∧ Hid (∀ k' p, k' < k → rowsW[k']? = some p → p.1 ≠ U)) (fun i => 132 - (intOf i).toNat)
      case atStart => exact ⟨0, Nat.zero_le _, rfl, Lib.hid (fun k p h => absurd h (by omega))⟩
      case round =>
        obtain ⟨k, hk, rfl, hF⟩ := hrel
        by_cases hlt : k < 132
        · obtain ⟨p, hp, h1, h2⟩ := row_at k hlt
          have c0 := HC.out k _ h1 0 _ rfl
          have c1 := HC.out k _ h1 1 _ rfl
          have c2 := HC.out k _ h1 2 _ rfl
          have k0 : (0 : Int) ≤ (k : Int) := by omega
          have k132 : (k : Int) < 132 := by omega
          have H2 := Lib.hid h2
          simp only at c0 c1 c2
          rw [Nat.add_zero] at c0
          rw [← Nat.add_assoc] at c1 c2
          have he : ((byteStr p.1).toList == (byteStr U).toList) = decide (p.1 = U) := by
            rw [byteStr_list, byteStr_list, Bool.eq_iff_iff, beq_iff_eq, decide_eq_true_eq]
          by_cases hq : p.1 = U
          · have HE := Lib.hid (find_at U k p h2 hq)
            rw [decide_eq_true hq] at he
            generalize byteStr p.1 = S1 at *
            generalize (p.2.1 : Int) = P at *
            generalize (p.2.2 : Int) = Q at *
            clear hq h1 h2
            go_wp2
            go_quiet (fail)
            go_wp2
            go_ret3
            exact ⟨by first | (rw [HU.out, HE.out]; done) | (rw [HU.out, HE.out]; rfl), by first | exact HB.out | exact Below.drewN0 HB.out _⟩
          · have HN2 : Hid (∀ k' p, k' < k + 1 → rowsW[k']? = some p → p.1 ≠ U) := Lib.hid (fun k' p' hk' e => by
              rcases Nat.lt_or_ge k' k with a | a
              · exact hF.out k' p' a e
              · obtain rfl : k' = k := by omega
                obtain rfl := Option.some.inj (H2.out.symm.trans e)
                exact hq)
            rw [decide_eq_false hq] at he
            generalize byteStr p.1 = S1 at *
            clear hq h1 h2
            go_wp2
            go_round
            case rel => exact ⟨k + 1, by omega, by go_num, HN2⟩
            case measure => simp [intOf] <;> omega
        · obtain rfl : k = 132 := by omega
          have HE := Lib.hid (find_no U (fun k p a e => hF.out k p a e))
          go_wp2
          go_ret3
          exact ⟨by first | (rw [HU.out, HE.out]; done) | (rw [HU.out, HE.out]; rfl), HB.out⟩
set_option maxRecDepth 100000 in
theorem refRegI_any (r : Int) (w : World) :
    Calls Tryd.prog 22 #[.int .i64 r] w fun e w' => e = .returned (.string (byteStr (regI r))) ∧ Below w.heap.size w w' := by
  by_cases h : 0 ≤ r ∧ r < 12
  · obtain ⟨h0, h1⟩ := h
    obtain ⟨k, rfl⟩ := Int.eq_ofNat_of_zero_le h0
    have k1 : (k : Int) < 12 := h1
    have k2 : ¬ ((11 : Int) < (k : Int)) := by omega
    have k3 : ¬ (11 < k) := by omega
    have k4 : k < 12 := by omega
    have HE : Hid (regI (k : Int) = regNames.getD k []) := Lib.hid (by unfold regI; rw [if_pos ⟨h0, h1⟩]; rfl)
    rw [HE.out]
    go_enter Tryd.func22, Tryd.ntmps22
    go_wp2
    go_ret
    refine ⟨?_, Below.alloc0 (Below.refl _ _) _⟩
    rcases (show k = 0 ∨ k = 1 ∨ k = 2 ∨ k = 3 ∨ k = 4 ∨ k = 5 ∨ k = 6 ∨ k = 7 ∨ k = 8 ∨ k = 9 ∨ k = 10 ∨ k = 11 by omega) with rfl | rfl | rfl | rfl | rfl | rfl | rfl | rfl | rfl | rfl | rfl | rfl
    all_goals rfl
  · have HE : Hid (regI r = []) := Lib.hid (by unfold regI; rw [if_neg h])
    rw [HE.out]
    by_cases h0 : r < 0
    · clear h
      go_enter Tryd.func22, Tryd.ntmps22
      go_wp2
      go_ret
      exact ⟨rfl, Below.alloc0 (Below.refl _ _) _⟩
    · have h1 : (11 : Int) < r := by omega
      have h2 : 0 ≤ r := by omega
      clear h h0
      go_enter Tryd.func22, Tryd.ntmps22
      go_wp2
      go_ret
      exact ⟨rfl, Below.alloc0 (Below.refl _ _) _⟩
theorem refReg12 (k : Nat) (hk : k < 12) (w : World) :
    Calls Tryd.prog 22 #[.int .i64 (k : Int)] w fun e w' => e = .returned (.string (regS k)) ∧ Below w.heap.size w w' := by
  have := refRegI_any (k : Int) w
  rw [regI_at k hk] at this
  exact this
def grpL : List (Int × Int) := [(12, 2), (24, 5), (25, 6), (29, 8), (32, 9), (33, 10)]
abbrev grpCs : Array Value := #[.int .i64 12, .int .i64 2, .int .i64 24, .int .i64 5, .int .i64 25, .int .i64 6, .int .i64 29, .int .i64 8, .int .i64 32, .int .i64 9, .int .i64 33, .int .i64 10]
theorem grpCs_at (k : Nat) (h : k < 6) : grpCs[k * 2]? = some (.int .i64 (grpL.getD k (0, 0)).1) ∧ grpCs[k * 2 + 1]? = some (.int .i64 (grpL.getD k (0, 0)).2) := by
  rcases (show k = 0 ∨ k = 1 ∨ k = 2 ∨ k = 3 ∨ k = 4 ∨ k = 5 by omega) with rfl | rfl | rfl | rfl | rfl | rfl
  all_goals exact ⟨rfl, rfl⟩
theorem grp_fin : ∀ k : Fin 6, grpN (grpL.getD k.val (0, 0)).1 = (grpL.getD k.val (0, 0)).2 := by decide
theorem grp_else (op : Int) (h1 : op ≠ 22) (h2 : ¬ (2 ≤ op ∧ op ≤ 11)) (h3 : ¬ (13 ≤ op ∧ op ≤ 23)) (h4 : ¬ (26 ≤ op ∧ op ≤ 28)) (h : ∀ k, k < 6 → (grpL.getD k (0, 0)).1 ≠ op) : grpN op = 0 := by
  have a0 := h 0 (by decide); have a1 := h 1 (by decide); have a2 := h 2 (by decide); have a3 := h 3 (by decide); have a4 := h 4 (by decide); have a5 := h 5 (by decide)
  simp [grpL] at a0 a1 a2 a3 a4 a5
  unfold grpN
  rw [if_neg h2, if_neg (by omega), if_neg h1, if_neg h3, if_neg (by omega), if_neg (by omega), if_neg h4, if_neg (by omega), if_neg (by omega), if_neg (by omega)]
set_option maxRecDepth 100000 in
set_option maxHeartbeats 4000000 in
theorem refGroup_any (op : Int) (w : World) :
    Calls Tryd.prog 20 #[.int .i64 op] w fun e w' => e = .returned (.int .i64 (grpN op)) ∧ Below w.heap.size w w' := by
  by_cases h1 : op = 22
  · subst h1
    go_enter Tryd.func20, Tryd.ntmps20
    go_wp2
    go_ret
    exact ⟨rfl, Below.refl _ _⟩
  · have e1 : (op == 22) = false := by simpa using h1
    by_cases h2 : 2 ≤ op ∧ op ≤ 11
    · obtain ⟨a, b⟩ := h2
      have HE : Hid (grpN op = 1) := Lib.hid (by unfold grpN; rw [if_pos ⟨a, b⟩])
      rw [HE.out]
      clear h1
      go_enter Tryd.func20, Tryd.ntmps20
      go_wp2
      go_ret
      exact ⟨rfl, Below.refl _ _⟩
    · by_cases h3 : 13 ≤ op ∧ op ≤ 23
      · obtain ⟨a, b⟩ := h3
        have HE : Hid (grpN op = 3) := Lib.hid (by unfold grpN; rw [if_neg h2, if_neg (by omega), if_neg h1, if_pos ⟨a, b⟩])
        rw [HE.out]
        have c : (11 : Int) < op := by omega
        have d : (2 : Int) ≤ op := by omega
        clear h1 h2
        go_enter Tryd.func20, Tryd.ntmps20
        go_wp2
        go_ret
        exact ⟨rfl, Below.refl _ _⟩
      · by_cases h4 : 26 ≤ op ∧ op ≤ 28
        · obtain ⟨a, b⟩ := h4
          have HE : Hid (grpN op = 7) := Lib.hid (by unfold grpN; rw [if_neg h2, if_neg (by omega), if_neg h1, if_neg h3, if_neg (by omega), if_neg (by omega), if_pos ⟨a, b⟩])
          rw [HE.out]
          have c : (11 : Int) < op := by omega
          have d : (2 : Int) ≤ op := by omega
          have c2 : (23 : Int) < op := by omega
          have d2 : (13 : Int) ≤ op := by omega
          clear h1 h2 h3
          go_enter Tryd.func20, Tryd.ntmps20
          go_wp2
          go_ret
          exact ⟨rfl, Below.refl _ _⟩
        · have f2 : (decide (2 ≤ op) && decide (op ≤ 11)) = false := by rw [Bool.and_eq_false_iff, decide_eq_false_iff_not, decide_eq_false_iff_not]; omega
          have f3 : (decide (13 ≤ op) && decide (op ≤ 23)) = false := by rw [Bool.and_eq_false_iff, decide_eq_false_iff_not, decide_eq_false_iff_not]; omega
          have f4 : (decide (26 ≤ op) && decide (op ≤ 28)) = false := by rw [Bool.and_eq_false_iff, decide_eq_false_iff_not, decide_eq_false_iff_not]; omega
          have HEL := Lib.hid (grp_else op h1 h2 h3 h4)
          have P0 : Hid (Blk (w.alloc (Obj.cells grpCs 71)) w.heap.size 71 grpCs) := Lib.hid (Blk.new _ _ _ (0, 0))
          have B0 := Lib.hid (Below.alloc0 (Below.refl w.heap.size w) (Obj.cells grpCs 71))
          by_cases q1 : op < 2
          · have q2 : op < 13 := by omega
            have q3 : op < 26 := by omega
            clear h1 h2 h3 h4 f2 f3 f4
            go_enter Tryd.func20, Tryd.ntmps20
            go_wp2
            generalize hW : w.alloc _ = W
            have P1 : Hid (Blk W w.heap.size 71 grpCs) := by rw [← hW]; exact P0
            have B1 : Hid (Below w.heap.size w W) := by rw [← hW]; exact B0
            clear hW P0 B0
            go_loop [4] (fun i => ∃ k : Nat, k ≤ 6 ∧ i = .int .i64 k ∧ Hid (∀ k', k' < k → (grpL.getD k' (0, 0)).1 ≠ op)) (fun i => 6 - (intOf i).toNat)
            case atStart => exact ⟨0, Nat.zero_le _, rfl, Lib.hid (fun k h => absurd h (by omega))⟩
            case round =>
              obtain ⟨k, hk, rfl, hF⟩ := hrel
              by_cases hlt : k < 6
              · obtain ⟨d0, d1⟩ := grpCs_at k hlt
                have c0 := (P1.out.cell (k * 2)).trans d0
                have c1 := (P1.out.cell (k * 2 + 1)).trans d1
                have k0 : (0 : Int) ≤ (k : Int) := by omega
                have k6 : (k : Int) < 6 := by omega
                have HG := Lib.hid (grp_fin ⟨k, hlt⟩)
                simp only at HG
                have HF2 : Hid ((grpL.getD k (0, 0)).1 ≠ op → ∀ k', k' < k + 1 → (grpL.getD k' (0, 0)).1 ≠ op) := Lib.hid (fun hne k' h => by
                  rcases Nat.lt_or_ge k' k with a | a
                  · exact hF.out k' a
                  · obtain rfl : k' = k := by omega
                    exact hne)
                generalize grpL.getD k (0, 0) = q at *
                obtain ⟨q1, q2⟩ := q
                simp only at c0 c1 HG HF2
                clear d0 d1
                cases he : q1 == op
                · have HF3 := Lib.hid (HF2.out (fun e => by rw [e] at he; simp at he))
                  clear HF2
                  go_wp2
                  go_round
                  case rel => exact ⟨k + 1, by omega, by go_num, HF3⟩
                  case measure => simp [intOf] <;> omega
                · have HE : Hid (grpN op = q2) := Lib.hid (by rw [← eq_of_beq he]; exact HG.out)
                  clear HF2
                  go_wp2
                  go_ret
                  exact ⟨by first | (rw [HE.out]; done) | (rw [HE.out]; rfl), B1.out⟩
              · obtain rfl : k = 6 := by omega
                have HE := Lib.hid (HEL.out (fun k a => hF.out k a))
                go_wp2
                go_ret
                exact ⟨by first | (rw [HE.out]; done) | (rw [HE.out]; rfl), B1.out⟩
          · by_cases q2 : 28 < op
            · have q3 : (11 : Int) < op := by omega
              have q4 : (23 : Int) < op := by omega
              have q5 : (2 : Int) ≤ op := by omega
              have q6 : (13 : Int) ≤ op := by omega
              have q7 : (26 : Int) ≤ op := by omega
              clear h1 h2 h3 h4 f2 f3 f4 q1
              go_enter Tryd.func20, Tryd.ntmps20
              go_wp2
              generalize hW : w.alloc _ = W
              have P1 : Hid (Blk W w.heap.size 71 grpCs) := by rw [← hW]; exact P0
              have B1 : Hid (Below w.heap.size w W) := by rw [← hW]; exact B0
              clear hW P0 B0
              go_loop [4] (fun i => ∃ k : Nat, k ≤ 6 ∧ i = .int .i64 k ∧ Hid (∀ k', k' < k → (grpL.getD k' (0, 0)).1 ≠ op)) (fun i => 6 - (intOf i).toNat)
              case atStart => exact ⟨0, Nat.zero_le _, rfl, Lib.hid (fun k h => absurd h (by omega))⟩
              case round =>
                obtain ⟨k, hk, rfl, hF⟩ := hrel
                by_cases hlt : k < 6
                · obtain ⟨d0, d1⟩ := grpCs_at k hlt
                  have c0 := (P1.out.cell (k * 2)).trans d0
                  have c1 := (P1.out.cell (k * 2 + 1)).trans d1
                  have k0 : (0 : Int) ≤ (k : Int) := by omega
                  have k6 : (k : Int) < 6 := by omega
                  have HG := Lib.hid (grp_fin ⟨k, hlt⟩)
                  simp only at HG
                  have HF2 : Hid ((grpL.getD k (0, 0)).1 ≠ op → ∀ k', k' < k + 1 → (grpL.getD k' (0, 0)).1 ≠ op) := Lib.hid (fun hne k' h => by
                    rcases Nat.lt_or_ge k' k with a | a
                    · exact hF.out k' a
                    · obtain rfl : k' = k := by omega
                      exact hne)
                  generalize grpL.getD k (0, 0) = q at *
                  obtain ⟨q1, q2⟩ := q
                  simp only at c0 c1 HG HF2
                  clear d0 d1
                  cases he : q1 == op
                  · have HF3 := Lib.hid (HF2.out (fun e => by rw [e] at he; simp at he))
                    clear HF2
                    go_wp2
                    go_round
                    case rel => exact ⟨k + 1, by omega, by go_num, HF3⟩
                    case measure => simp [intOf] <;> omega
                  · have HE : Hid (grpN op = q2) := Lib.hid (by rw [← eq_of_beq he]; exact HG.out)
                    clear HF2
                    go_wp2
                    go_ret
                    exact ⟨by first | (rw [HE.out]; done) | (rw [HE.out]; rfl), B1.out⟩
                · obtain rfl : k = 6 := by omega
                  have HE := Lib.hid (HEL.out (fun k a => hF.out k a))
                  go_wp2
                  go_ret
                  exact ⟨by first | (rw [HE.out]; done) | (rw [HE.out]; rfl), B1.out⟩
            · rcases (show op = 12 ∨ op = 24 ∨ op = 25 by omega) with rfl | rfl | rfl
              · clear h1 h2 h3 h4 f2 f3 f4 q1 q2 e1
                go_enter Tryd.func20, Tryd.ntmps20
                go_wp2
                generalize hW : w.alloc _ = W
                have P1 : Hid (Blk W w.heap.size 71 grpCs) := by rw [← hW]; exact P0
                have B1 : Hid (Below w.heap.size w W) := by rw [← hW]; exact B0
                clear hW P0 B0
                go_loop [4] (fun i => ∃ k : Nat, k ≤ 6 ∧ i = .int .i64 k ∧ Hid (∀ k', k' < k → (grpL.getD k' (0, 0)).1 ≠ 12)) (fun i => 6 - (intOf i).toNat)
                case atStart => exact ⟨0, Nat.zero_le _, rfl, Lib.hid (fun k h => absurd h (by omega))⟩
                case round =>
                  obtain ⟨k, hk, rfl, hF⟩ := hrel
                  by_cases hlt : k < 6
                  · obtain ⟨d0, d1⟩ := grpCs_at k hlt
                    have c0 := (P1.out.cell (k * 2)).trans d0
                    have c1 := (P1.out.cell (k * 2 + 1)).trans d1
                    have k0 : (0 : Int) ≤ (k : Int) := by omega
                    have k6 : (k : Int) < 6 := by omega
                    have HG := Lib.hid (grp_fin ⟨k, hlt⟩)
                    simp only at HG
                    have HF2 : Hid ((grpL.getD k (0, 0)).1 ≠ 12 → ∀ k', k' < k + 1 → (grpL.getD k' (0, 0)).1 ≠ 12) := Lib.hid (fun hne k' h => by
                      rcases Nat.lt_or_ge k' k with a | a
                      · exact hF.out k' a
                      · obtain rfl : k' = k := by omega
                        exact hne)
                    generalize grpL.getD k (0, 0) = q at *
                    obtain ⟨q1, q2⟩ := q
                    simp only at c0 c1 HG HF2
                    clear d0 d1
                    cases he : q1 == 12
                    · have HF3 := Lib.hid (HF2.out (fun e => by rw [e] at he; simp at he))
                      clear HF2
                      go_wp2
                      go_round
                      case rel => exact ⟨k + 1, by omega, by go_num, HF3⟩
                      case measure => simp [intOf] <;> omega
                    · have HE : Hid (grpN 12 = q2) := Lib.hid (by rw [← eq_of_beq he]; exact HG.out)
                      clear HF2
                      go_wp2
                      go_ret
                      exact ⟨by first | (rw [HE.out]; done) | (rw [HE.out]; rfl), B1.out⟩
                  · obtain rfl : k = 6 := by omega
                    have HE := Lib.hid (HEL.out (fun k a => hF.out k a))
                    go_wp2
                    go_ret
                    exact ⟨by first | (rw [HE.out]; done) | (rw [HE.out]; rfl), B1.out⟩
              · clear h1 h2 h3 h4 f2 f3 f4 q1 q2 e1
                go_enter Tryd.func20, Tryd.ntmps20
                go_wp2
                generalize hW : w.alloc _ = W
                have P1 : Hid (Blk W w.heap.size 71 grpCs) := by rw [← hW]; exact P0
                have B1 : Hid (Below w.heap.size w W) := by rw [← hW]; exact B0
                clear hW P0 B0
                go_loop [4] (fun i => ∃ k : Nat, k ≤ 6 ∧ i = .int .i64 k ∧ Hid (∀ k', k' < k → (grpL.getD k' (0, 0)).1 ≠ 24)) (fun i => 6 - (intOf i).toNat)
                case atStart => exact ⟨0, Nat.zero_le _, rfl, Lib.hid (fun k h => absurd h (by omega))⟩
                case round =>
                  obtain ⟨k, hk, rfl, hF⟩ := hrel
                  by_cases hlt : k < 6
                  · obtain ⟨d0, d1⟩ := grpCs_at k hlt
                    have c0 := (P1.out.cell (k * 2)).trans d0
                    have c1 := (P1.out.cell (k * 2 + 1)).trans d1
                    have k0 : (0 : Int) ≤ (k : Int) := by omega
                    have k6 : (k : Int) < 6 := by omega
                    have HG := Lib.hid (grp_fin ⟨k, hlt⟩)
                    simp only at HG
                    have HF2 : Hid ((grpL.getD k (0, 0)).1 ≠ 24 → ∀ k', k' < k + 1 → (grpL.getD k' (0, 0)).1 ≠ 24) := Lib.hid (fun hne k' h => by
                      rcases Nat.lt_or_ge k' k with a | a
                      · exact hF.out k' a
                      · obtain rfl : k' = k := by omega
                        exact hne)
                    generalize grpL.getD k (0, 0) = q at *
                    obtain ⟨q1, q2⟩ := q
                    simp only at c0 c1 HG HF2
                    clear d0 d1
                    cases he : q1 == 24
                    · have HF3 := Lib.hid (HF2.out (fun e => by rw [e] at he; simp at he))
                      clear HF2
                      go_wp2
                      go_round
                      case rel => exact ⟨k + 1, by omega, by go_num, HF3⟩
                      case measure => simp [intOf] <;> omega
                    · have HE : Hid (grpN 24 = q2) := Lib.hid (by rw [← eq_of_beq he]; exact HG.out)
                      clear HF2
                      go_wp2
                      go_ret
                      exact ⟨by first | (rw [HE.out]; done) | (rw [HE.out]; rfl), B1.out⟩
                  · obtain rfl : k = 6 := by omega
                    have HE := Lib.hid (HEL.out (fun k a => hF.out k a))
                    go_wp2
                    go_ret
                    exact ⟨by first | (rw [HE.out]; done) | (rw [HE.out]; rfl), B1.out⟩
              · clear h1 h2 h3 h4 f2 f3 f4 q1 q2 e1
                go_enter Tryd.func20, Tryd.ntmps20
                go_wp2
                generalize hW : w.alloc _ = W
                have P1 : Hid (Blk W w.heap.size 71 grpCs) := by rw [← hW]; exact P0
                have B1 : Hid (Below w.heap.size w W) := by rw [← hW]; exact B0
                clear hW P0 B0
                go_loop [4] (fun i => ∃ k : Nat, k ≤ 6 ∧ i = .int .i64 k ∧ Hid (∀ k', k' < k → (grpL.getD k' (0, 0)).1 ≠ 25)) (fun i => 6 - (intOf i).toNat)
                case atStart => exact ⟨0, Nat.zero_le _, rfl, Lib.hid (fun k h => absurd h (by omega))⟩
                case round =>
                  obtain ⟨k, hk, rfl, hF⟩ := hrel
                  by_cases hlt : k < 6
                  · obtain ⟨d0, d1⟩ := grpCs_at k hlt
                    have c0 := (P1.out.cell (k * 2)).trans d0
                    have c1 := (P1.out.cell (k * 2 + 1)).trans d1
                    have k0 : (0 : Int) ≤ (k : Int) := by omega
                    have k6 : (k : Int) < 6 := by omega
                    have HG := Lib.hid (grp_fin ⟨k, hlt⟩)
                    simp only at HG
                    have HF2 : Hid ((grpL.getD k (0, 0)).1 ≠ 25 → ∀ k', k' < k + 1 → (grpL.getD k' (0, 0)).1 ≠ 25) := Lib.hid (fun hne k' h => by
                      rcases Nat.lt_or_ge k' k with a | a
                      · exact hF.out k' a
                      · obtain rfl : k' = k := by omega
                        exact hne)
                    generalize grpL.getD k (0, 0) = q at *
                    obtain ⟨q1, q2⟩ := q
                    simp only at c0 c1 HG HF2
                    clear d0 d1
                    cases he : q1 == 25
                    · have HF3 := Lib.hid (HF2.out (fun e => by rw [e] at he; simp at he))
                      clear HF2
                      go_wp2
                      go_round
                      case rel => exact ⟨k + 1, by omega, by go_num, HF3⟩
                      case measure => simp [intOf] <;> omega
                    · have HE : Hid (grpN 25 = q2) := Lib.hid (by rw [← eq_of_beq he]; exact HG.out)
                      clear HF2
                      go_wp2
                      go_ret
                      exact ⟨by first | (rw [HE.out]; done) | (rw [HE.out]; rfl), B1.out⟩
                  · obtain rfl : k = 6 := by omega
                    have HE := Lib.hid (HEL.out (fun k a => hF.out k a))
                    go_wp2
                    go_ret
                    exact ⟨by first | (rw [HE.out]; done) | (rw [HE.out]; rfl), B1.out⟩
end Go.Proofs.YtnhafficnomlbabDoor
