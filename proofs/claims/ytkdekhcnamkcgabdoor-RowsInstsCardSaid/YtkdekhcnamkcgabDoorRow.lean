/- Contracts of the calls of package rows that make rows of cycles. (Made by tools/genrows.py.) -/
import Derived.Test.YtkdekhcnamkcgabDoorRowP
import Derived.Test.YtkdekhcnamkcgabDoorTblG
import Derived.Test.YtkdekhcnamkcgabDoorTblO
namespace Go.Proofs.YtkdekhcnamkcgabDoor
open Go.ChangeShapes Go.WideShapes Go.ChangeAt Go.RowKit
set_option linter.unusedVariables false

theorem and128p_fin : ∀ q : Fin 256, (decide (0 < bits .and .u8 (q.val : Int) 128)) = decide (127 < (q.val : Int)) := by decide +kernel
theorem and128p (p : Int) (h0 : 0 ≤ p) (h1 : p < 256) : (decide (0 < bits .and .u8 p 128)) = decide (127 < p) := by
  obtain ⟨n, rfl⟩ := Int.eq_ofNat_of_zero_le h0
  exact and128p_fin ⟨n, by omega⟩
set_option maxRecDepth 100000 in
set_option maxHeartbeats 1000000 in
theorem idle_st (n : Int) (N : Nat) (h : n = N) (hN : N ≤ 1000) (w : World) : Calls Tryd.prog 55 #[.int .i64 n] w (GivesR w (idL N)) := by
  subst h
  go_enter Tryd.func55, Tryd.ntmps55
  have B0 := Lib.hid (Below.refl w.heap.size w)
  go_wp2_with fail
  refine (some_st 4 (N : Int) N rfl hN _).mono ?_
  rintro e w1 ⟨v1, rfl, hr1, hb1⟩
  obtain ⟨A1, n1, c1, rfl⟩ := hr1.isSl
  have R1 := Lib.hid hr1
  have B1 := Lib.hid (Below.trans0 B0.out hb1)
  clear hr1 hb1
  go_wp2
  go_ret
  exact ⟨_, rfl, R1.out, B1.out⟩
set_option maxRecDepth 100000 in
set_option maxHeartbeats 1000000 in
theorem vector_st  (w : World) : Calls Tryd.prog 43 #[] w (GivesR w (vecL)) := by
  go_enter Tryd.func43, Tryd.ntmps43
  have B0 := Lib.hid (Below.refl w.heap.size w)
  go_wp2_with fail
  refine (firstP_st 12 _).mono ?_
  rintro e w1 ⟨v1, rfl, hr1, hb1⟩
  obtain ⟨A1, n1, c1, rfl⟩ := hr1.isSl
  have R1 := Lib.hid hr1
  have B1 := Lib.hid (Below.trans0 B0.out hb1)
  clear hr1 hb1
  go_wp2_with fail
  refine (idle_st 1 1 rfl (by decide) _).mono ?_
  rintro e w2 ⟨v2, rfl, hr2, hb2⟩
  obtain ⟨A2, n2, c2, rfl⟩ := hr2.isSl
  replace R1 := Lib.hid (R1.out.below hb2)
  have R2 := Lib.hid hr2
  have B2 := Lib.hid (Below.trans0 B1.out hb2)
  clear hr2 hb2
  go_wp2_with fail
  refine (row2_any _ _ _ _ _ R1.out R2.out (by decide)).mono ?_
  rintro e w3 ⟨v3, rfl, hr3, hb3⟩
  go_wp2
  go_ret
  exact ⟨_, rfl, hr3, Below.trans0 B2.out hb3⟩
set_option maxRecDepth 100000 in
set_option maxHeartbeats 1000000 in
theorem call_st  (w : World) : Calls Tryd.prog 56 #[] w (GivesR w (callL)) := by
  go_enter Tryd.func56, Tryd.ntmps56
  have B0 := Lib.hid (Below.refl w.heap.size w)
  go_wp2_with fail
  refine (some_st 7 1 1 rfl (by decide) _).mono ?_
  rintro e w1 ⟨v1, rfl, hr1, hb1⟩
  obtain ⟨A1, n1, c1, rfl⟩ := hr1.isSl
  have R1 := Lib.hid hr1
  have B1 := Lib.hid (Below.trans0 B0.out hb1)
  clear hr1 hb1
  go_wp2_with fail
  refine (idle_st 1 1 rfl (by decide) _).mono ?_
  rintro e w2 ⟨v2, rfl, hr2, hb2⟩
  obtain ⟨A2, n2, c2, rfl⟩ := hr2.isSl
  replace R1 := Lib.hid (R1.out.below hb2)
  have R2 := Lib.hid hr2
  have B2 := Lib.hid (Below.trans0 B1.out hb2)
  clear hr2 hb2
  go_wp2_with fail
  refine (some_st 8 2 2 rfl (by decide) _).mono ?_
  rintro e w3 ⟨v3, rfl, hr3, hb3⟩
  obtain ⟨A3, n3, c3, rfl⟩ := hr3.isSl
  replace R1 := Lib.hid (R1.out.below hb3)
  replace R2 := Lib.hid (R2.out.below hb3)
  have R3 := Lib.hid hr3
  have B3 := Lib.hid (Below.trans0 B2.out hb3)
  clear hr3 hb3
  go_wp2_with fail
  refine (row3_any _ _ _ _ _ _ _ R1.out R2.out R3.out (by decide)).mono ?_
  rintro e w4 ⟨v4, rfl, hr4, hb4⟩
  go_wp2
  go_ret
  exact ⟨_, rfl, hr4, Below.trans0 B3.out hb4⟩
set_option maxRecDepth 100000 in
set_option maxHeartbeats 1000000 in
theorem enter_st (n : Int) (N : Nat) (h : n = N) (hN : N ≤ 12) (w : World) : Calls Tryd.prog 42 #[.int .i64 n] w (GivesR w (enterL N)) := by
  subst h
  go_enter Tryd.func42, Tryd.ntmps42
  have B0 := Lib.hid (Below.refl w.heap.size w)
  go_wp2_with fail
  refine (idle_st 1 1 rfl (by decide) _).mono ?_
  rintro e w1 ⟨v1, rfl, hr1, hb1⟩
  obtain ⟨A1, n1, c1, rfl⟩ := hr1.isSl
  have R1 := Lib.hid hr1
  have B1 := Lib.hid (Below.trans0 B0.out hb1)
  clear hr1 hb1
  go_wp2_with fail
  refine (some_st 8 (N : Int) N rfl (by omega) _).mono ?_
  rintro e w2 ⟨v2, rfl, hr2, hb2⟩
  obtain ⟨A2, n2, c2, rfl⟩ := hr2.isSl
  replace R1 := Lib.hid (R1.out.below hb2)
  have R2 := Lib.hid hr2
  have B2 := Lib.hid (Below.trans0 B1.out hb2)
  clear hr2 hb2
  go_wp2_with fail
  refine (idle_st 1 1 rfl (by decide) _).mono ?_
  rintro e w3 ⟨v3, rfl, hr3, hb3⟩
  obtain ⟨A3, n3, c3, rfl⟩ := hr3.isSl
  replace R1 := Lib.hid (R1.out.below hb3)
  replace R2 := Lib.hid (R2.out.below hb3)
  have R3 := Lib.hid hr3
  have B3 := Lib.hid (Below.trans0 B2.out hb3)
  clear hr3 hb3
  go_wp2_with fail
  refine (vector_st _).mono ?_
  rintro e w4 ⟨v4, rfl, hr4, hb4⟩
  obtain ⟨A4, n4, c4, rfl⟩ := hr4.isSl
  replace R1 := Lib.hid (R1.out.below hb4)
  replace R2 := Lib.hid (R2.out.below hb4)
  replace R3 := Lib.hid (R3.out.below hb4)
  have R4 := Lib.hid hr4
  have B4 := Lib.hid (Below.trans0 B3.out hb4)
  clear hr4 hb4
  go_wp2_with fail
  refine (row4_any _ _ _ _ _ _ _ _ _ R1.out R2.out R3.out R4.out (by simp [someL, vecL, firstL]; omega)).mono ?_
  rintro e w5 ⟨v5, rfl, hr5, hb5⟩
  go_wp2
  go_ret
  exact ⟨_, rfl, hr5, Below.trans0 B4.out hb5⟩
set_option maxRecDepth 100000 in
set_option maxHeartbeats 1000000 in
theorem one_st (o : Int) (w : World) : Calls Tryd.prog 31 #[.int .i64 o] w (GivesR w (oneL o)) := by
  rcases (show o = 43 ∨ o = 44 ∨ o = 41 ∨ (¬ o = 41 ∧ ¬ o = 43 ∧ ¬ o = 44) by omega) with rfl | rfl | rfl | ⟨h41, h43, h44⟩
  · go_enter Tryd.func31, Tryd.ntmps31
    have B0 := Lib.hid (Below.refl w.heap.size w)
    go_wp2_with fail
    refine (idle_st 1 1 rfl (by decide) _).mono ?_
    rintro e w1 ⟨v1, rfl, hr1, hb1⟩
    obtain ⟨A1, n1, c1, rfl⟩ := hr1.isSl
    have R1 := Lib.hid hr1
    have B1 := Lib.hid (Below.trans0 B0.out hb1)
    clear hr1 hb1
    go_wp2
    go_ret
    exact ⟨_, rfl, R1.out, B1.out⟩
  · go_enter Tryd.func31, Tryd.ntmps31
    have B0 := Lib.hid (Below.refl w.heap.size w)
    go_wp2_with fail
    refine (idle_st 1 1 rfl (by decide) _).mono ?_
    rintro e w1 ⟨v1, rfl, hr1, hb1⟩
    obtain ⟨A1, n1, c1, rfl⟩ := hr1.isSl
    have R1 := Lib.hid hr1
    have B1 := Lib.hid (Below.trans0 B0.out hb1)
    clear hr1 hb1
    go_wp2
    go_ret
    exact ⟨_, rfl, R1.out, B1.out⟩
  · go_enter Tryd.func31, Tryd.ntmps31
    have B0 := Lib.hid (Below.refl w.heap.size w)
    go_wp2_with fail
    refine (some_st 3 1 1 rfl (by decide) _).mono ?_
    rintro e w1 ⟨v1, rfl, hr1, hb1⟩
    obtain ⟨A1, n1, c1, rfl⟩ := hr1.isSl
    have R1 := Lib.hid hr1
    have B1 := Lib.hid (Below.trans0 B0.out hb1)
    clear hr1 hb1
    go_wp2_with fail
    refine (idle_st 1 1 rfl (by decide) _).mono ?_
    rintro e w2 ⟨v2, rfl, hr2, hb2⟩
    obtain ⟨A2, n2, c2, rfl⟩ := hr2.isSl
    replace R1 := Lib.hid (R1.out.below hb2)
    have R2 := Lib.hid hr2
    have B2 := Lib.hid (Below.trans0 B1.out hb2)
    clear hr2 hb2
    go_wp2_with fail
    refine (some_st 8 12 12 rfl (by decide) _).mono ?_
    rintro e w3 ⟨v3, rfl, hr3, hb3⟩
    obtain ⟨A3, n3, c3, rfl⟩ := hr3.isSl
    replace R1 := Lib.hid (R1.out.below hb3)
    replace R2 := Lib.hid (R2.out.below hb3)
    have R3 := Lib.hid hr3
    have B3 := Lib.hid (Below.trans0 B2.out hb3)
    clear hr3 hb3
    go_wp2_with fail
    refine (row3_any _ _ _ _ _ _ _ R1.out R2.out R3.out (by decide)).mono ?_
    rintro e w4 ⟨v4, rfl, hr4, hb4⟩
    go_wp2
    go_ret
    exact ⟨_, rfl, hr4, Below.trans0 B3.out hb4⟩
  · have hz : oneL o = [] := by unfold oneL; repeat (rw [if_neg (by omega)])
    rw [hz]
    have e41 : (o == 41) = false := ne_beqR h41
    have e43 : (o == 43) = false := ne_beqR h43
    have e44 : (o == 44) = false := ne_beqR h44
    clear hz h41 h43 h44
    go_enter Tryd.func31, Tryd.ntmps31
    have B0 := Lib.hid (Below.refl w.heap.size w)
    go_wp2
    go_ret
    exact ⟨_, rfl, .inl ⟨rfl, rfl⟩, Below.refl _ _⟩
set_option maxRecDepth 100000 in
set_option maxHeartbeats 1000000 in
theorem alone_st (o : Int) (w : World) : Calls Tryd.prog 33 #[.int .i64 o] w (GivesR w (aloneL o)) := by
  rcases (show o = 1 ∨ o = 40 ∨ o = 50 ∨ o = 48 ∨ o = 49 ∨ o = 51 ∨ (¬ o = 1 ∧ ¬ o = 40 ∧ ¬ o = 48 ∧ ¬ o = 49 ∧ ¬ o = 50 ∧ ¬ o = 51) by omega) with rfl | rfl | rfl | rfl | rfl | rfl | ⟨h1, h40, h48, h49, h50, h51⟩
  · go_enter Tryd.func33, Tryd.ntmps33
    have B0 := Lib.hid (Below.refl w.heap.size w)
    go_wp2_with fail
    refine (idle_st 1 1 rfl (by decide) _).mono ?_
    rintro e w1 ⟨v1, rfl, hr1, hb1⟩
    obtain ⟨A1, n1, c1, rfl⟩ := hr1.isSl
    have R1 := Lib.hid hr1
    have B1 := Lib.hid (Below.trans0 B0.out hb1)
    clear hr1 hb1
    go_wp2
    go_ret
    exact ⟨_, rfl, R1.out, B1.out⟩
  · go_enter Tryd.func33, Tryd.ntmps33
    have B0 := Lib.hid (Below.refl w.heap.size w)
    go_wp2_with fail
    refine (idle_st 1 1 rfl (by decide) _).mono ?_
    rintro e w1 ⟨v1, rfl, hr1, hb1⟩
    obtain ⟨A1, n1, c1, rfl⟩ := hr1.isSl
    have R1 := Lib.hid hr1
    have B1 := Lib.hid (Below.trans0 B0.out hb1)
    clear hr1 hb1
    go_wp2
    go_ret
    exact ⟨_, rfl, R1.out, B1.out⟩
  · go_enter Tryd.func33, Tryd.ntmps33
    have B0 := Lib.hid (Below.refl w.heap.size w)
    go_wp2_with fail
    refine (idle_st 9 9 rfl (by decide) _).mono ?_
    rintro e w1 ⟨v1, rfl, hr1, hb1⟩
    obtain ⟨A1, n1, c1, rfl⟩ := hr1.isSl
    have R1 := Lib.hid hr1
    have B1 := Lib.hid (Below.trans0 B0.out hb1)
    clear hr1 hb1
    go_wp2
    go_ret
    exact ⟨_, rfl, R1.out, B1.out⟩
  · go_enter Tryd.func33, Tryd.ntmps33
    have B0 := Lib.hid (Below.refl w.heap.size w)
    go_wp2_with fail
    refine (some_st 9 2 2 rfl (by decide) _).mono ?_
    rintro e w1 ⟨v1, rfl, hr1, hb1⟩
    obtain ⟨A1, n1, c1, rfl⟩ := hr1.isSl
    have R1 := Lib.hid hr1
    have B1 := Lib.hid (Below.trans0 B0.out hb1)
    clear hr1 hb1
    go_wp2_with fail
    refine (idle_st 1 1 rfl (by decide) _).mono ?_
    rintro e w2 ⟨v2, rfl, hr2, hb2⟩
    obtain ⟨A2, n2, c2, rfl⟩ := hr2.isSl
    replace R1 := Lib.hid (R1.out.below hb2)
    have R2 := Lib.hid hr2
    have B2 := Lib.hid (Below.trans0 B1.out hb2)
    clear hr2 hb2
    go_wp2_with fail
    refine (row2_any _ _ _ _ _ R1.out R2.out (by decide)).mono ?_
    rintro e w3 ⟨v3, rfl, hr3, hb3⟩
    go_wp2
    go_ret
    exact ⟨_, rfl, hr3, Below.trans0 B2.out hb3⟩
  · go_enter Tryd.func33, Tryd.ntmps33
    have B0 := Lib.hid (Below.refl w.heap.size w)
    go_wp2_with fail
    refine (some_st 9 1 1 rfl (by decide) _).mono ?_
    rintro e w1 ⟨v1, rfl, hr1, hb1⟩
    obtain ⟨A1, n1, c1, rfl⟩ := hr1.isSl
    have R1 := Lib.hid hr1
    have B1 := Lib.hid (Below.trans0 B0.out hb1)
    clear hr1 hb1
    go_wp2
    go_ret
    exact ⟨_, rfl, R1.out, B1.out⟩
  · go_enter Tryd.func33, Tryd.ntmps33
    have B0 := Lib.hid (Below.refl w.heap.size w)
    go_wp2_with fail
    refine (enter_st 12 12 rfl (by decide) _).mono ?_
    rintro e w1 ⟨v1, rfl, hr1, hb1⟩
    obtain ⟨A1, n1, c1, rfl⟩ := hr1.isSl
    have R1 := Lib.hid hr1
    have B1 := Lib.hid (Below.trans0 B0.out hb1)
    clear hr1 hb1
    go_wp2
    go_ret
    exact ⟨_, rfl, R1.out, B1.out⟩
  · have hz : aloneL o = [] := by unfold aloneL; repeat (rw [if_neg (by omega)])
    rw [hz]
    have e1 : (o == 1) = false := ne_beqR h1
    have e40 : (o == 40) = false := ne_beqR h40
    have e48 : (o == 48) = false := ne_beqR h48
    have e49 : (o == 49) = false := ne_beqR h49
    have e50 : (o == 50) = false := ne_beqR h50
    have e51 : (o == 51) = false := ne_beqR h51
    clear hz h1 h40 h48 h49 h50 h51
    go_enter Tryd.func33, Tryd.ntmps33
    have B0 := Lib.hid (Below.refl w.heap.size w)
    go_wp2
    go_ret
    exact ⟨_, rfl, .inl ⟨rfl, rfl⟩, Below.refl _ _⟩
set_option maxRecDepth 100000 in
set_option maxHeartbeats 1000000 in
theorem pair_st (o : Int) (w : World) : Calls Tryd.prog 35 #[.int .i64 o] w (GivesR w (pairL o)) := by
  rcases (show o = 46 ∨ o = 47 ∨ (¬ o = 46 ∧ ¬ o = 47) by omega) with rfl | rfl | ⟨h46, h47⟩
  · go_enter Tryd.func35, Tryd.ntmps35
    have B0 := Lib.hid (Below.refl w.heap.size w)
    go_wp2_with fail
    refine (idle_st 6 6 rfl (by decide) _).mono ?_
    rintro e w1 ⟨v1, rfl, hr1, hb1⟩
    obtain ⟨A1, n1, c1, rfl⟩ := hr1.isSl
    have R1 := Lib.hid hr1
    have B1 := Lib.hid (Below.trans0 B0.out hb1)
    clear hr1 hb1
    go_wp2
    go_ret
    exact ⟨_, rfl, R1.out, B1.out⟩
  · go_enter Tryd.func35, Tryd.ntmps35
    have B0 := Lib.hid (Below.refl w.heap.size w)
    go_wp2_with fail
    refine (idle_st 4 4 rfl (by decide) _).mono ?_
    rintro e w1 ⟨v1, rfl, hr1, hb1⟩
    obtain ⟨A1, n1, c1, rfl⟩ := hr1.isSl
    have R1 := Lib.hid hr1
    have B1 := Lib.hid (Below.trans0 B0.out hb1)
    clear hr1 hb1
    go_wp2
    go_ret
    exact ⟨_, rfl, R1.out, B1.out⟩
  · have hz : pairL o = [] := by unfold pairL; repeat (rw [if_neg (by omega)])
    rw [hz]
    have e46 : (o == 46) = false := ne_beqR h46
    have e47 : (o == 47) = false := ne_beqR h47
    clear hz h46 h47
    go_enter Tryd.func35, Tryd.ntmps35
    have B0 := Lib.hid (Below.refl w.heap.size w)
    go_wp2
    go_ret
    exact ⟨_, rfl, .inl ⟨rfl, rfl⟩, Below.refl _ _⟩
set_option maxRecDepth 100000 in
set_option maxHeartbeats 1000000 in
theorem rowR_st (k : Int) (w : World) : Calls Tryd.prog 16 #[.int .i64 k] w (GivesR w (rowL k)) := by
  rcases (show k = 1 ∨ k = 3 ∨ k = 2 ∨ k = 4 ∨ k = 5 ∨ k = 6 ∨ k = 7 ∨ (¬ k = 1 ∧ ¬ k = 2 ∧ ¬ k = 3 ∧ ¬ k = 4 ∧ ¬ k = 5 ∧ ¬ k = 6 ∧ ¬ k = 7) by omega) with rfl | rfl | rfl | rfl | rfl | rfl | rfl | ⟨h1, h2, h3, h4, h5, h6, h7⟩
  · go_enter Tryd.func16, Tryd.ntmps16
    have B0 := Lib.hid (Below.refl w.heap.size w)
    go_wp2_with fail
    refine (some_st 3 2 2 rfl (by decide) _).mono ?_
    rintro e w1 ⟨v1, rfl, hr1, hb1⟩
    obtain ⟨A1, n1, c1, rfl⟩ := hr1.isSl
    have R1 := Lib.hid hr1
    have B1 := Lib.hid (Below.trans0 B0.out hb1)
    clear hr1 hb1
    go_wp2_with fail
    refine (enter_st 12 12 rfl (by decide) _).mono ?_
    rintro e w2 ⟨v2, rfl, hr2, hb2⟩
    obtain ⟨A2, n2, c2, rfl⟩ := hr2.isSl
    replace R1 := Lib.hid (R1.out.below hb2)
    have R2 := Lib.hid hr2
    have B2 := Lib.hid (Below.trans0 B1.out hb2)
    clear hr2 hb2
    go_wp2_with fail
    refine (row2_any _ _ _ _ _ R1.out R2.out (by decide)).mono ?_
    rintro e w3 ⟨v3, rfl, hr3, hb3⟩
    go_wp2
    go_ret
    exact ⟨_, rfl, hr3, Below.trans0 B2.out hb3⟩
  · go_enter Tryd.func16, Tryd.ntmps16
    have B0 := Lib.hid (Below.refl w.heap.size w)
    go_wp2_with fail
    refine (some_st 3 2 2 rfl (by decide) _).mono ?_
    rintro e w1 ⟨v1, rfl, hr1, hb1⟩
    obtain ⟨A1, n1, c1, rfl⟩ := hr1.isSl
    have R1 := Lib.hid hr1
    have B1 := Lib.hid (Below.trans0 B0.out hb1)
    clear hr1 hb1
    go_wp2_with fail
    refine (enter_st 12 12 rfl (by decide) _).mono ?_
    rintro e w2 ⟨v2, rfl, hr2, hb2⟩
    obtain ⟨A2, n2, c2, rfl⟩ := hr2.isSl
    replace R1 := Lib.hid (R1.out.below hb2)
    have R2 := Lib.hid hr2
    have B2 := Lib.hid (Below.trans0 B1.out hb2)
    clear hr2 hb2
    go_wp2_with fail
    refine (row2_any _ _ _ _ _ R1.out R2.out (by decide)).mono ?_
    rintro e w3 ⟨v3, rfl, hr3, hb3⟩
    go_wp2
    go_ret
    exact ⟨_, rfl, hr3, Below.trans0 B2.out hb3⟩
  · go_enter Tryd.func16, Tryd.ntmps16
    have B0 := Lib.hid (Below.refl w.heap.size w)
    go_wp2_with fail
    refine (some_st 3 2 2 rfl (by decide) _).mono ?_
    rintro e w1 ⟨v1, rfl, hr1, hb1⟩
    obtain ⟨A1, n1, c1, rfl⟩ := hr1.isSl
    have R1 := Lib.hid hr1
    have B1 := Lib.hid (Below.trans0 B0.out hb1)
    clear hr1 hb1
    go_wp2_with fail
    refine (enter_st 3 3 rfl (by decide) _).mono ?_
    rintro e w2 ⟨v2, rfl, hr2, hb2⟩
    obtain ⟨A2, n2, c2, rfl⟩ := hr2.isSl
    replace R1 := Lib.hid (R1.out.below hb2)
    have R2 := Lib.hid hr2
    have B2 := Lib.hid (Below.trans0 B1.out hb2)
    clear hr2 hb2
    go_wp2_with fail
    refine (row2_any _ _ _ _ _ R1.out R2.out (by decide)).mono ?_
    rintro e w3 ⟨v3, rfl, hr3, hb3⟩
    go_wp2
    go_ret
    exact ⟨_, rfl, hr3, Below.trans0 B2.out hb3⟩
  · go_enter Tryd.func16, Tryd.ntmps16
    have B0 := Lib.hid (Below.refl w.heap.size w)
    go_wp2_with fail
    refine (vector_st _).mono ?_
    rintro e w1 ⟨v1, rfl, hr1, hb1⟩
    obtain ⟨A1, n1, c1, rfl⟩ := hr1.isSl
    have R1 := Lib.hid hr1
    have B1 := Lib.hid (Below.trans0 B0.out hb1)
    clear hr1 hb1
    go_wp2
    go_ret
    exact ⟨_, rfl, R1.out, B1.out⟩
  · go_enter Tryd.func16, Tryd.ntmps16
    have B0 := Lib.hid (Below.refl w.heap.size w)
    go_wp2_with fail
    refine (vector_st _).mono ?_
    rintro e w1 ⟨v1, rfl, hr1, hb1⟩
    obtain ⟨A1, n1, c1, rfl⟩ := hr1.isSl
    have R1 := Lib.hid hr1
    have B1 := Lib.hid (Below.trans0 B0.out hb1)
    clear hr1 hb1
    go_wp2
    go_ret
    exact ⟨_, rfl, R1.out, B1.out⟩
  · go_enter Tryd.func16, Tryd.ntmps16
    have B0 := Lib.hid (Below.refl w.heap.size w)
    go_wp2_with fail
    refine (vector_st _).mono ?_
    rintro e w1 ⟨v1, rfl, hr1, hb1⟩
    obtain ⟨A1, n1, c1, rfl⟩ := hr1.isSl
    have R1 := Lib.hid hr1
    have B1 := Lib.hid (Below.trans0 B0.out hb1)
    clear hr1 hb1
    go_wp2
    go_ret
    exact ⟨_, rfl, R1.out, B1.out⟩
  · go_enter Tryd.func16, Tryd.ntmps16
    have B0 := Lib.hid (Below.refl w.heap.size w)
    go_wp2_with fail
    refine (vector_st _).mono ?_
    rintro e w1 ⟨v1, rfl, hr1, hb1⟩
    obtain ⟨A1, n1, c1, rfl⟩ := hr1.isSl
    have R1 := Lib.hid hr1
    have B1 := Lib.hid (Below.trans0 B0.out hb1)
    clear hr1 hb1
    go_wp2
    go_ret
    exact ⟨_, rfl, R1.out, B1.out⟩
  · have hz : rowL k = [] := by unfold rowL; repeat (rw [if_neg (by omega)])
    rw [hz]
    have e1 : (k == 1) = false := ne_beqR h1
    have e2 : (k == 2) = false := ne_beqR h2
    have e3 : (k == 3) = false := ne_beqR h3
    have e4 : (k == 4) = false := ne_beqR h4
    have e5 : (k == 5) = false := ne_beqR h5
    have e6 : (k == 6) = false := ne_beqR h6
    have e7 : (k == 7) = false := ne_beqR h7
    clear hz h1 h2 h3 h4 h5 h6 h7
    go_enter Tryd.func16, Tryd.ntmps16
    have B0 := Lib.hid (Below.refl w.heap.size w)
    go_wp2
    go_ret
    exact ⟨_, rfl, .inl ⟨rfl, rfl⟩, Below.refl _ _⟩
set_option maxRecDepth 100000 in
set_option maxHeartbeats 1000000 in
theorem rest_st (p : Int) (h0 : 0 ≤ p) (h1 : p < 256) (w : World) : Calls Tryd.prog 13 #[.int .u8 p] w (GivesR w (restL (decide (127 < p)))) := by
  have hp := and128p p h0 h1
  obtain ⟨d, hd⟩ : ∃ d, decide (127 < p) = d := ⟨_, rfl⟩
  rw [hd] at hp ⊢
  clear hd
  cases d
  · go_enter Tryd.func13, Tryd.ntmps13
    have B0 := Lib.hid (Below.refl w.heap.size w)
    go_wp2_with fail
    refine (some_st 9 2 2 rfl (by decide) _).mono ?_
    rintro e w1 ⟨v1, rfl, hr1, hb1⟩
    obtain ⟨A1, n1, c1, rfl⟩ := hr1.isSl
    have R1 := Lib.hid hr1
    have B1 := Lib.hid (Below.trans0 B0.out hb1)
    clear hr1 hb1
    go_wp2_with fail
    refine (some_st 10 1 1 rfl (by decide) _).mono ?_
    rintro e w2 ⟨v2, rfl, hr2, hb2⟩
    obtain ⟨A2, n2, c2, rfl⟩ := hr2.isSl
    replace R1 := Lib.hid (R1.out.below hb2)
    have R2 := Lib.hid hr2
    have B2 := Lib.hid (Below.trans0 B1.out hb2)
    clear hr2 hb2
    go_wp2_with fail
    refine (row2_any _ _ _ _ _ R1.out R2.out (by decide)).mono ?_
    rintro e w3 ⟨v3, rfl, hr3, hb3⟩
    go_wp2
    go_ret
    exact ⟨_, rfl, hr3, Below.trans0 B2.out hb3⟩
  · go_enter Tryd.func13, Tryd.ntmps13
    have B0 := Lib.hid (Below.refl w.heap.size w)
    go_wp2_with fail
    refine (some_st 9 11 11 rfl (by decide) _).mono ?_
    rintro e w1 ⟨v1, rfl, hr1, hb1⟩
    obtain ⟨A1, n1, c1, rfl⟩ := hr1.isSl
    have R1 := Lib.hid hr1
    have B1 := Lib.hid (Below.trans0 B0.out hb1)
    clear hr1 hb1
    go_wp2_with fail
    refine (some_st 10 1 1 rfl (by decide) _).mono ?_
    rintro e w2 ⟨v2, rfl, hr2, hb2⟩
    obtain ⟨A2, n2, c2, rfl⟩ := hr2.isSl
    replace R1 := Lib.hid (R1.out.below hb2)
    have R2 := Lib.hid hr2
    have B2 := Lib.hid (Below.trans0 B1.out hb2)
    clear hr2 hb2
    go_wp2_with fail
    refine (row2_any _ _ _ _ _ R1.out R2.out (by decide)).mono ?_
    rintro e w3 ⟨v3, rfl, hr3, hb3⟩
    go_wp2
    go_ret
    exact ⟨_, rfl, hr3, Below.trans0 B2.out hb3⟩
set_option maxRecDepth 100000 in
set_option maxHeartbeats 1000000 in
theorem memory_st (o : Int) (w : World) : Calls Tryd.prog 30 #[.int .i64 o] w (GivesR w (memL (grpN o))) := by
  have CG := Lib.hid (fun w => group_any o w)
  generalize grpN o = g at CG ⊢
  rcases (show g = 1 ∨ g = 2 ∨ g = 3 ∨ g = 4 ∨ g = 5 ∨ g = 6 ∨ g = 7 ∨ g = 8 ∨ g = 10 ∨ (¬ g = 1 ∧ ¬ g = 2 ∧ ¬ g = 3 ∧ ¬ g = 4 ∧ ¬ g = 5 ∧ ¬ g = 6 ∧ ¬ g = 7 ∧ ¬ g = 8 ∧ ¬ g = 10) by omega) with rfl | rfl | rfl | rfl | rfl | rfl | rfl | rfl | rfl | ⟨h1, h2, h3, h4, h5, h6, h7, h8, h10⟩
  · go_enter Tryd.func30, Tryd.ntmps30
    have B0 := Lib.hid (Below.refl w.heap.size w)
    go_wp2_with fail
    refine (CG.out _).mono ?_
    rintro e w' ⟨rfl, rfl⟩
    go_wp2_with fail
    refine (some_st 5 1 1 rfl (by decide) _).mono ?_
    rintro e w1 ⟨v1, rfl, hr1, hb1⟩
    obtain ⟨A1, n1, c1, rfl⟩ := hr1.isSl
    have R1 := Lib.hid hr1
    have B1 := Lib.hid (Below.trans0 B0.out hb1)
    clear hr1 hb1
    go_wp2
    go_ret
    exact ⟨_, rfl, R1.out, B1.out⟩
  · go_enter Tryd.func30, Tryd.ntmps30
    have B0 := Lib.hid (Below.refl w.heap.size w)
    go_wp2_with fail
    refine (CG.out _).mono ?_
    rintro e w' ⟨rfl, rfl⟩
    go_wp2_with fail
    refine (some_st 6 1 1 rfl (by decide) _).mono ?_
    rintro e w1 ⟨v1, rfl, hr1, hb1⟩
    obtain ⟨A1, n1, c1, rfl⟩ := hr1.isSl
    have R1 := Lib.hid hr1
    have B1 := Lib.hid (Below.trans0 B0.out hb1)
    clear hr1 hb1
    go_wp2
    go_ret
    exact ⟨_, rfl, R1.out, B1.out⟩
  · go_enter Tryd.func30, Tryd.ntmps30
    have B0 := Lib.hid (Below.refl w.heap.size w)
    go_wp2_with fail
    refine (CG.out _).mono ?_
    rintro e w' ⟨rfl, rfl⟩
    go_wp2
    go_ret
    exact ⟨_, rfl, Rd.lit w [(5, true), (4, true), (6, false)] _ 3 rfl rfl 3, Below.alloc0 (Below.refl _ _) _⟩
  · go_enter Tryd.func30, Tryd.ntmps30
    have B0 := Lib.hid (Below.refl w.heap.size w)
    go_wp2_with fail
    refine (CG.out _).mono ?_
    rintro e w' ⟨rfl, rfl⟩
    go_wp2_with fail
    refine (some_st 5 1 1 rfl (by decide) _).mono ?_
    rintro e w1 ⟨v1, rfl, hr1, hb1⟩
    obtain ⟨A1, n1, c1, rfl⟩ := hr1.isSl
    have R1 := Lib.hid hr1
    have B1 := Lib.hid (Below.trans0 B0.out hb1)
    clear hr1 hb1
    go_wp2_with fail
    refine (idle_st 2 2 rfl (by decide) _).mono ?_
    rintro e w2 ⟨v2, rfl, hr2, hb2⟩
    obtain ⟨A2, n2, c2, rfl⟩ := hr2.isSl
    replace R1 := Lib.hid (R1.out.below hb2)
    have R2 := Lib.hid hr2
    have B2 := Lib.hid (Below.trans0 B1.out hb2)
    clear hr2 hb2
    go_wp2_with fail
    refine (row2_any _ _ _ _ _ R1.out R2.out (by decide)).mono ?_
    rintro e w3 ⟨v3, rfl, hr3, hb3⟩
    go_wp2
    go_ret
    exact ⟨_, rfl, hr3, Below.trans0 B2.out hb3⟩
  · go_enter Tryd.func30, Tryd.ntmps30
    have B0 := Lib.hid (Below.refl w.heap.size w)
    go_wp2_with fail
    refine (CG.out _).mono ?_
    rintro e w' ⟨rfl, rfl⟩
    go_wp2_with fail
    refine (firstP_st 5 _).mono ?_
    rintro e w1 ⟨v1, rfl, hr1, hb1⟩
    obtain ⟨A1, n1, c1, rfl⟩ := hr1.isSl
    have R1 := Lib.hid hr1
    have B1 := Lib.hid (Below.trans0 B0.out hb1)
    clear hr1 hb1
    go_wp2
    go_ret
    exact ⟨_, rfl, R1.out, B1.out⟩
  · go_enter Tryd.func30, Tryd.ntmps30
    have B0 := Lib.hid (Below.refl w.heap.size w)
    go_wp2_with fail
    refine (CG.out _).mono ?_
    rintro e w' ⟨rfl, rfl⟩
    go_wp2_with fail
    refine (firstP_st 6 _).mono ?_
    rintro e w1 ⟨v1, rfl, hr1, hb1⟩
    obtain ⟨A1, n1, c1, rfl⟩ := hr1.isSl
    have R1 := Lib.hid hr1
    have B1 := Lib.hid (Below.trans0 B0.out hb1)
    clear hr1 hb1
    go_wp2
    go_ret
    exact ⟨_, rfl, R1.out, B1.out⟩
  · go_enter Tryd.func30, Tryd.ntmps30
    have B0 := Lib.hid (Below.refl w.heap.size w)
    go_wp2_with fail
    refine (CG.out _).mono ?_
    rintro e w' ⟨rfl, rfl⟩
    go_wp2_with fail
    refine (firstP_st 5 _).mono ?_
    rintro e w1 ⟨v1, rfl, hr1, hb1⟩
    obtain ⟨A1, n1, c1, rfl⟩ := hr1.isSl
    have R1 := Lib.hid hr1
    have B1 := Lib.hid (Below.trans0 B0.out hb1)
    clear hr1 hb1
    go_wp2_with fail
    refine (idle_st 1 1 rfl (by decide) _).mono ?_
    rintro e w2 ⟨v2, rfl, hr2, hb2⟩
    obtain ⟨A2, n2, c2, rfl⟩ := hr2.isSl
    replace R1 := Lib.hid (R1.out.below hb2)
    have R2 := Lib.hid hr2
    have B2 := Lib.hid (Below.trans0 B1.out hb2)
    clear hr2 hb2
    go_wp2_with fail
    refine (row2_any _ _ _ _ _ R1.out R2.out (by decide)).mono ?_
    rintro e w3 ⟨v3, rfl, hr3, hb3⟩
    go_wp2
    go_ret
    exact ⟨_, rfl, hr3, Below.trans0 B2.out hb3⟩
  · go_enter Tryd.func30, Tryd.ntmps30
    have B0 := Lib.hid (Below.refl w.heap.size w)
    go_wp2_with fail
    refine (CG.out _).mono ?_
    rintro e w' ⟨rfl, rfl⟩
    go_wp2_with fail
    refine (idle_st 1 1 rfl (by decide) _).mono ?_
    rintro e w1 ⟨v1, rfl, hr1, hb1⟩
    obtain ⟨A1, n1, c1, rfl⟩ := hr1.isSl
    have R1 := Lib.hid hr1
    have B1 := Lib.hid (Below.trans0 B0.out hb1)
    clear hr1 hb1
    go_wp2
    go_ret
    exact ⟨_, rfl, R1.out, B1.out⟩
  · go_enter Tryd.func30, Tryd.ntmps30
    have B0 := Lib.hid (Below.refl w.heap.size w)
    go_wp2_with fail
    refine (CG.out _).mono ?_
    rintro e w' ⟨rfl, rfl⟩
    go_wp2_with fail
    refine (call_st _).mono ?_
    rintro e w1 ⟨v1, rfl, hr1, hb1⟩
    obtain ⟨A1, n1, c1, rfl⟩ := hr1.isSl
    have R1 := Lib.hid hr1
    have B1 := Lib.hid (Below.trans0 B0.out hb1)
    clear hr1 hb1
    go_wp2
    go_ret
    exact ⟨_, rfl, R1.out, B1.out⟩
  · have hz : memL g = [] := by unfold memL; repeat (rw [if_neg (by omega)])
    rw [hz]
    have e1 : (g == 1) = false := ne_beqR h1
    have e2 : (g == 2) = false := ne_beqR h2
    have e3 : (g == 3) = false := ne_beqR h3
    have e4 : (g == 4) = false := ne_beqR h4
    have e5 : (g == 5) = false := ne_beqR h5
    have e6 : (g == 6) = false := ne_beqR h6
    have e7 : (g == 7) = false := ne_beqR h7
    have e8 : (g == 8) = false := ne_beqR h8
    have e10 : (g == 10) = false := ne_beqR h10
    clear hz h1 h2 h3 h4 h5 h6 h7 h8 h10
    go_enter Tryd.func30, Tryd.ntmps30
    have B0 := Lib.hid (Below.refl w.heap.size w)
    go_wp2_with fail
    refine (CG.out _).mono ?_
    rintro e w' ⟨rfl, rfl⟩
    go_wp2
    go_ret
    exact ⟨_, rfl, .inl ⟨rfl, rfl⟩, Below.refl _ _⟩
set_option maxRecDepth 100000 in
set_option maxHeartbeats 1000000 in
theorem two_st (o : Int) (w : World) : Calls Tryd.prog 32 #[.int .i64 o] w (GivesR w (twoL (grpN o))) := by
  have CG := Lib.hid (fun w => group_any o w)
  generalize grpN o = g at CG ⊢
  rcases (show g = 7 ∨ (¬ g = 7) by omega) with rfl | ⟨h7⟩
  · go_enter Tryd.func32, Tryd.ntmps32
    have B0 := Lib.hid (Below.refl w.heap.size w)
    go_wp2_with fail
    refine (CG.out _).mono ?_
    rintro e w' ⟨rfl, rfl⟩
    go_wp2_with fail
    refine (idle_st 1 1 rfl (by decide) _).mono ?_
    rintro e w1 ⟨v1, rfl, hr1, hb1⟩
    obtain ⟨A1, n1, c1, rfl⟩ := hr1.isSl
    have R1 := Lib.hid hr1
    have B1 := Lib.hid (Below.trans0 B0.out hb1)
    clear hr1 hb1
    go_wp2
    go_ret
    exact ⟨_, rfl, R1.out, B1.out⟩
  · have hz : twoL g = [] := by unfold twoL; repeat (rw [if_neg (by omega)])
    rw [hz]
    have e7 : (g == 7) = false := ne_beqR h7
    clear hz h7
    go_enter Tryd.func32, Tryd.ntmps32
    have B0 := Lib.hid (Below.refl w.heap.size w)
    go_wp2_with fail
    refine (CG.out _).mono ?_
    rintro e w' ⟨rfl, rfl⟩
    go_wp2
    go_ret
    exact ⟨_, rfl, .inl ⟨rfl, rfl⟩, Below.refl _ _⟩
set_option maxRecDepth 100000 in
set_option maxHeartbeats 1000000 in
theorem many_st (o n : Int) (N : Nat) (h : n = N) (hN : N ≤ 100) (w : World) : Calls Tryd.prog 36 #[.int .i64 o, .int .i64 n] w (GivesR w (manyL o N)) := by
  subst h
  rcases (show o = 30 ∨ o = 31 ∨ (¬ o = 30 ∧ ¬ o = 31) by omega) with rfl | rfl | ⟨h30, h31⟩
  · go_enter Tryd.func36, Tryd.ntmps36
    have B0 := Lib.hid (Below.refl w.heap.size w)
    go_wp2_with fail
    refine (some_st 10 1 1 rfl (by decide) _).mono ?_
    rintro e w1 ⟨v1, rfl, hr1, hb1⟩
    obtain ⟨A1, n1, c1, rfl⟩ := hr1.isSl
    have R1 := Lib.hid hr1
    have B1 := Lib.hid (Below.trans0 B0.out hb1)
    clear hr1 hb1
    go_wp2_with fail
    refine (idle_st 2 2 rfl (by decide) _).mono ?_
    rintro e w2 ⟨v2, rfl, hr2, hb2⟩
    obtain ⟨A2, n2, c2, rfl⟩ := hr2.isSl
    replace R1 := Lib.hid (R1.out.below hb2)
    have R2 := Lib.hid hr2
    have B2 := Lib.hid (Below.trans0 B1.out hb2)
    clear hr2 hb2
    go_wp2_with fail
    refine (some_st 8 (N : Int) N rfl (by omega) _).mono ?_
    rintro e w3 ⟨v3, rfl, hr3, hb3⟩
    obtain ⟨A3, n3, c3, rfl⟩ := hr3.isSl
    replace R1 := Lib.hid (R1.out.below hb3)
    replace R2 := Lib.hid (R2.out.below hb3)
    have R3 := Lib.hid hr3
    have B3 := Lib.hid (Below.trans0 B2.out hb3)
    clear hr3 hb3
    go_wp2_with fail
    refine (row3_any _ _ _ _ _ _ _ R2.out R1.out R3.out (by simp [someL]; omega)).mono ?_
    rintro e w5 ⟨v5, rfl, hr5, hb5⟩
    go_wp2
    go_ret
    exact ⟨_, rfl, hr5, Below.trans0 B3.out hb5⟩
  · go_enter Tryd.func36, Tryd.ntmps36
    have B0 := Lib.hid (Below.refl w.heap.size w)
    go_wp2_with fail
    refine (some_st 10 1 1 rfl (by decide) _).mono ?_
    rintro e w1 ⟨v1, rfl, hr1, hb1⟩
    obtain ⟨A1, n1, c1, rfl⟩ := hr1.isSl
    have R1 := Lib.hid hr1
    have B1 := Lib.hid (Below.trans0 B0.out hb1)
    clear hr1 hb1
    go_wp2_with fail
    refine (idle_st 2 2 rfl (by decide) _).mono ?_
    rintro e w2 ⟨v2, rfl, hr2, hb2⟩
    obtain ⟨A2, n2, c2, rfl⟩ := hr2.isSl
    replace R1 := Lib.hid (R1.out.below hb2)
    have R2 := Lib.hid hr2
    have B2 := Lib.hid (Below.trans0 B1.out hb2)
    clear hr2 hb2
    go_wp2_with fail
    refine (some_st 9 (N : Int) N rfl (by omega) _).mono ?_
    rintro e w3 ⟨v3, rfl, hr3, hb3⟩
    obtain ⟨A3, n3, c3, rfl⟩ := hr3.isSl
    replace R1 := Lib.hid (R1.out.below hb3)
    replace R2 := Lib.hid (R2.out.below hb3)
    have R3 := Lib.hid hr3
    have B3 := Lib.hid (Below.trans0 B2.out hb3)
    clear hr3 hb3
    go_wp2_with fail
    refine (row3_any _ _ _ _ _ _ _ R2.out R3.out R1.out (by simp [someL]; omega)).mono ?_
    rintro e w5 ⟨v5, rfl, hr5, hb5⟩
    go_wp2
    go_ret
    exact ⟨_, rfl, hr5, Below.trans0 B3.out hb5⟩
  · have hz : manyL o N = [] := by unfold manyL; repeat (rw [if_neg (by omega)])
    rw [hz]
    have e30 : (o == 30) = false := ne_beqR h30
    have e31 : (o == 31) = false := ne_beqR h31
    clear hz h30 h31
    go_enter Tryd.func36, Tryd.ntmps36
    have B0 := Lib.hid (Below.refl w.heap.size w)
    go_wp2_with fail
    refine (some_st 10 1 1 rfl (by decide) _).mono ?_
    rintro e w1 ⟨v1, rfl, hr1, hb1⟩
    obtain ⟨A1, n1, c1, rfl⟩ := hr1.isSl
    have R1 := Lib.hid hr1
    have B1 := Lib.hid (Below.trans0 B0.out hb1)
    clear hr1 hb1
    go_wp2
    go_ret
    exact ⟨_, rfl, .inl ⟨rfl, rfl⟩, B1.out⟩
set_option maxRecDepth 100000 in
set_option maxHeartbeats 1000000 in
theorem branch_st (o m r cc : Int) (hcc : CC cc) (w : World) : Calls Tryd.prog 34 #[.agg #[.int .i64 o, .int .i64 m, .int .i64 r], .int .u8 cc] w (GivesR w (brL o (holdsX r cc))) := by
  have CH := Lib.hid (fun w => holds_all r cc w hcc)
  generalize holdsX r cc = h at CH ⊢
  rcases (show o = 34 ∨ o = 35 ∨ o = 36 ∨ o = 37 ∨ o = 38 ∨ (¬ o = 34 ∧ ¬ o = 35 ∧ ¬ o = 36 ∧ ¬ o = 37 ∧ ¬ o = 38) by omega) with rfl | rfl | rfl | rfl | rfl | ⟨h34, h35, h36, h37, h38⟩
  · go_enter Tryd.func34, Tryd.ntmps34
    have B0 := Lib.hid (Below.alloc0 (Below.refl w.heap.size w) (Obj.cells #[.int .i64 34, .int .i64 m, .int .i64 r] 24))
    go_wp2_with fail
    refine (idle_st 1 1 rfl (by decide) _).mono ?_
    rintro e w1 ⟨v1, rfl, hr1, hb1⟩
    obtain ⟨A1, n1, c1, rfl⟩ := hr1.isSl
    have R1 := Lib.hid hr1
    have B1 := Lib.hid (Below.trans0 B0.out hb1)
    clear hr1 hb1
    go_wp2
    go_ret
    exact ⟨_, rfl, R1.out, B1.out⟩
  · cases h
    · go_enter Tryd.func34, Tryd.ntmps34
      have B0 := Lib.hid (Below.alloc0 (Below.refl w.heap.size w) (Obj.cells #[.int .i64 35, .int .i64 m, .int .i64 r] 24))
      go_wp2_with fail
      refine (CH.out _).mono ?_
      rintro e w0 ⟨rfl, hb0⟩
      replace B0 := Lib.hid (Below.trans0 B0.out hb0)
      clear hb0
      go_wp2_with fail
      refine (idle_st 1 1 rfl (by decide) _).mono ?_
      rintro e w1 ⟨v1, rfl, hr1, hb1⟩
      obtain ⟨A1, n1, c1, rfl⟩ := hr1.isSl
      have R1 := Lib.hid hr1
      have B1 := Lib.hid (Below.trans0 B0.out hb1)
      clear hr1 hb1
      go_wp2
      go_ret
      exact ⟨_, rfl, R1.out, B1.out⟩
    · go_enter Tryd.func34, Tryd.ntmps34
      have B0 := Lib.hid (Below.alloc0 (Below.refl w.heap.size w) (Obj.cells #[.int .i64 35, .int .i64 m, .int .i64 r] 24))
      go_wp2_with fail
      refine (CH.out _).mono ?_
      rintro e w0 ⟨rfl, hb0⟩
      replace B0 := Lib.hid (Below.trans0 B0.out hb0)
      clear hb0
      go_wp2_with fail
      refine (idle_st 2 2 rfl (by decide) _).mono ?_
      rintro e w1 ⟨v1, rfl, hr1, hb1⟩
      obtain ⟨A1, n1, c1, rfl⟩ := hr1.isSl
      have R1 := Lib.hid hr1
      have B1 := Lib.hid (Below.trans0 B0.out hb1)
      clear hr1 hb1
      go_wp2
      go_ret
      exact ⟨_, rfl, R1.out, B1.out⟩
  · go_enter Tryd.func34, Tryd.ntmps34
    have B0 := Lib.hid (Below.alloc0 (Below.refl w.heap.size w) (Obj.cells #[.int .i64 36, .int .i64 m, .int .i64 r] 24))
    go_wp2_with fail
    refine (idle_st 2 2 rfl (by decide) _).mono ?_
    rintro e w1 ⟨v1, rfl, hr1, hb1⟩
    obtain ⟨A1, n1, c1, rfl⟩ := hr1.isSl
    have R1 := Lib.hid hr1
    have B1 := Lib.hid (Below.trans0 B0.out hb1)
    clear hr1 hb1
    go_wp2
    go_ret
    exact ⟨_, rfl, R1.out, B1.out⟩
  · go_enter Tryd.func34, Tryd.ntmps34
    have B0 := Lib.hid (Below.alloc0 (Below.refl w.heap.size w) (Obj.cells #[.int .i64 37, .int .i64 m, .int .i64 r] 24))
    go_wp2_with fail
    refine (idle_st 1 1 rfl (by decide) _).mono ?_
    rintro e w1 ⟨v1, rfl, hr1, hb1⟩
    obtain ⟨A1, n1, c1, rfl⟩ := hr1.isSl
    have R1 := Lib.hid hr1
    have B1 := Lib.hid (Below.trans0 B0.out hb1)
    clear hr1 hb1
    go_wp2_with fail
    refine (call_st _).mono ?_
    rintro e w2 ⟨v2, rfl, hr2, hb2⟩
    obtain ⟨A2, n2, c2, rfl⟩ := hr2.isSl
    replace R1 := Lib.hid (R1.out.below hb2)
    have R2 := Lib.hid hr2
    have B2 := Lib.hid (Below.trans0 B1.out hb2)
    clear hr2 hb2
    go_wp2_with fail
    refine (row2_any _ _ _ _ _ R1.out R2.out (by decide)).mono ?_
    rintro e w3 ⟨v3, rfl, hr3, hb3⟩
    go_wp2
    go_ret
    exact ⟨_, rfl, hr3, Below.trans0 B2.out hb3⟩
  · go_enter Tryd.func34, Tryd.ntmps34
    have B0 := Lib.hid (Below.alloc0 (Below.refl w.heap.size w) (Obj.cells #[.int .i64 38, .int .i64 m, .int .i64 r] 24))
    go_wp2_with fail
    refine (idle_st 2 2 rfl (by decide) _).mono ?_
    rintro e w1 ⟨v1, rfl, hr1, hb1⟩
    obtain ⟨A1, n1, c1, rfl⟩ := hr1.isSl
    have R1 := Lib.hid hr1
    have B1 := Lib.hid (Below.trans0 B0.out hb1)
    clear hr1 hb1
    go_wp2_with fail
    refine (call_st _).mono ?_
    rintro e w2 ⟨v2, rfl, hr2, hb2⟩
    obtain ⟨A2, n2, c2, rfl⟩ := hr2.isSl
    replace R1 := Lib.hid (R1.out.below hb2)
    have R2 := Lib.hid hr2
    have B2 := Lib.hid (Below.trans0 B1.out hb2)
    clear hr2 hb2
    go_wp2_with fail
    refine (row2_any _ _ _ _ _ R1.out R2.out (by decide)).mono ?_
    rintro e w3 ⟨v3, rfl, hr3, hb3⟩
    go_wp2
    go_ret
    exact ⟨_, rfl, hr3, Below.trans0 B2.out hb3⟩
  · have hz : brL o h = [] := by unfold brL; repeat (rw [if_neg (by omega)])
    rw [hz]
    have e34 : (o == 34) = false := ne_beqR h34
    have e35 : (o == 35) = false := ne_beqR h35
    have e36 : (o == 36) = false := ne_beqR h36
    have e37 : (o == 37) = false := ne_beqR h37
    have e38 : (o == 38) = false := ne_beqR h38
    clear hz h34 h35 h36 h37 h38
    go_enter Tryd.func34, Tryd.ntmps34
    have B0 := Lib.hid (Below.alloc0 (Below.refl w.heap.size w) (Obj.cells #[.int .i64 o, .int .i64 m, .int .i64 r] 24))
    go_wp2
    go_ret
    exact ⟨_, rfl, .inl ⟨rfl, rfl⟩, B0.out⟩
end Go.Proofs.YtkdekhcnamkcgabDoor
