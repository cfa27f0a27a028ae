/- Contracts of package page: word, immediate, low. -/
import Derived.Test.YtopkjniegncokaaDoorPag
namespace Go.Proofs.YtopkjniegncokaaDoor
open Go.ChangeShapes Go.WideShapes Go.ChangeAt Go.RowKit
set_option linter.unusedVariables false

theorem wdN_zero (k : Nat) (hk : k < 1024) (h : ∀ q ∈ wdKeys, k ≠ q) : wdN k = 0 := by
  have h0 := allB 1024 _ wdN_none k hk
  rw [Bool.or_eq_true, Nat.beq_eq] at h0
  rcases h0 with h0 | h0
  · exact h0
  · obtain ⟨q, hq, he⟩ := List.any_eq_true.1 h0
    rw [Nat.beq_eq] at he
    exact absurd he (h q hq)
theorem wdN_keys (k : Nat) (hk : k < 1024) (h : k ≠ 387 ∧ k ≠ 396 ∧ k ≠ 397 ∧ k ≠ 398 ∧ k ≠ 399 ∧ k ≠ 451 ∧ k ≠ 460 ∧ k ≠ 461 ∧ k ≠ 462 ∧ k ≠ 463 ∧ k ≠ 643 ∧ k ≠ 652 ∧ k ≠ 654 ∧ k ≠ 655 ∧ k ≠ 718 ∧ k ≠ 719 ∧ k ≠ 899 ∧ k ≠ 908) : wdN k = 0 := wdN_zero k hk (by
  intro q hq
  simp only [wdKeys, List.mem_cons, List.not_mem_nil, or_false] at hq
  omega)
theorem ret_pair {a b c d : Int} (h : a = c) (h2 : b = d) : Ending.returned (.tuple #[.int .i64 a, .int .i64 b]) = .returned (.tuple #[.int .i64 c, .int .i64 d]) := by rw [h, h2]
set_option maxRecDepth 100000 in
set_option maxHeartbeats 2000000 in
theorem word2_any (p c : Nat) (hp : p < 4) (hc : c < 256) (w : World) :
    Calls Tryd.prog 85 #[.int .i64 (p : Int), .int .u8 (c : Int)] w fun e w' => e = .returned (.tuple #[.int .i64 ((wdN (256 * p + c) / 16 : Nat) : Int), .int .i64 ((wdN (256 * p + c) % 16 : Nat) : Int)]) ∧ w = w' := by
  have e := or8_fin ⟨p, hp⟩ ⟨c, hc⟩
  simp only at e
  obtain ⟨K, hK⟩ : ∃ K, 256 * p + c = K := ⟨_, rfl⟩
  have hK2 : K < 1024 := by omega
  rw [hK] at e ⊢
  have HK := Lib.hid hK
  clear hK
  go_enter Tryd.func85, Tryd.ntmps85
  go_wp2
  all_goals
    go_ret2
    refine ⟨?_, rfl⟩
    clear HK e
    try simp only [beq_iff_eq, beq_eq_false_iff_ne, ne_eq] at *
    first
      | rfl
      | ((suffices hq : K = 387 by (subst hq; rfl)); omega)
      | ((suffices hq : K = 396 by (subst hq; rfl)); omega)
      | ((suffices hq : K = 397 by (subst hq; rfl)); omega)
      | ((suffices hq : K = 398 by (subst hq; rfl)); omega)
      | ((suffices hq : K = 399 by (subst hq; rfl)); omega)
      | ((suffices hq : K = 451 by (subst hq; rfl)); omega)
      | ((suffices hq : K = 460 by (subst hq; rfl)); omega)
      | ((suffices hq : K = 461 by (subst hq; rfl)); omega)
      | ((suffices hq : K = 462 by (subst hq; rfl)); omega)
      | ((suffices hq : K = 463 by (subst hq; rfl)); omega)
      | ((suffices hq : K = 643 by (subst hq; rfl)); omega)
      | ((suffices hq : K = 652 by (subst hq; rfl)); omega)
      | ((suffices hq : K = 654 by (subst hq; rfl)); omega)
      | ((suffices hq : K = 655 by (subst hq; rfl)); omega)
      | ((suffices hq : K = 718 by (subst hq; rfl)); omega)
      | ((suffices hq : K = 719 by (subst hq; rfl)); omega)
      | ((suffices hq : K = 899 by (subst hq; rfl)); omega)
      | ((suffices hq : K = 908 by (subst hq; rfl)); omega)
      | ((suffices hq : K ≠ 387 ∧ K ≠ 396 ∧ K ≠ 397 ∧ K ≠ 398 ∧ K ≠ 399 ∧ K ≠ 451 ∧ K ≠ 460 ∧ K ≠ 461 ∧ K ≠ 462 ∧ K ≠ 463 ∧ K ≠ 643 ∧ K ≠ 652 ∧ K ≠ 654 ∧ K ≠ 655 ∧ K ≠ 718 ∧ K ≠ 719 ∧ K ≠ 899 ∧ K ≠ 908 by (rw [wdN_keys K hK2 hq]; try rfl)); omega)
theorem eiN_lt (l : Nat) : eiN l < 64 := gB_lt _ _ _
theorem wdN_lt (l : Nat) : wdN l < 1024 := gB_lt _ _ _
set_option maxRecDepth 100000 in
set_option maxHeartbeats 2000000 in
theorem imm_any (p c : Nat) (h1 : 1 ≤ p) (hp : p < 4) (hc : c < 256) (w : World) (hT : PagAt w) :
    Calls Tryd.prog 82 #[.int .i64 (p : Int), .int .u8 (c : Int)] w fun e w' => e = .returned (.agg (entA (immE p c))) ∧ Below w.heap.size w w' := by
  have e2 := and15_fin8 ⟨c, hc⟩
  simp only at e2
  have hk0 := hT.1 (c % 16) (by omega)
  have hcc := (bcell (Below.alloc0 (Below.refl w.heap.size w) (Obj.cells #[.int .i64 0, .int .i64 0, .int .i64 0] 25))).1 8 (c % 16) (cell_lt hk0)
  have hk := hcc.trans hk0
  have hx1 := eiN_lt (c % 16)
  have hx2 := wdN_lt (256 * p + c)
  have cw := fun w => word2_any p c hp hc w
  obtain ⟨x, hx⟩ : ∃ x, eiN (c % 16) = x := ⟨_, rfl⟩
  obtain ⟨y, hy⟩ : ∃ y, wdN (256 * p + c) = y := ⟨_, rfl⟩
  have HE : Hid (immE p c = if y / 16 ≠ 0 then y / 16 * 256 + 32 + y % 16 else if p ≠ 1 then 0 else x * 256 + 16 + (if 192 ≤ c then 9 else 8)) := Lib.hid (by unfold immE; rw [hx, hy])
  rw [hx] at hk hx1
  rw [hy] at cw hx2
  obtain ⟨o, ho⟩ : ∃ o, y / 16 = o := ⟨_, rfl⟩
  obtain ⟨r, hr⟩ : ∃ r, y % 16 = r := ⟨_, rfl⟩
  have hr2 : r < 16 := by omega
  rw [ho, hr] at cw HE
  have CW := Lib.hid cw
  clear hk0 hcc hx hy cw ho hr hx2 hT
  by_cases hy0 : o = 0
  · subst hy0
    by_cases hp1 : p = 1
    · subst hp1
      by_cases h192 : 192 ≤ c
      all_goals
        go_enter Tryd.func82, Tryd.ntmps82
        go_wp2_with (go_at_call 85; refine (CW.out _).mono ?_; rintro e w' ⟨rfl, rfl⟩)
        refine bodyPost_ret (v := .agg (entA (immE 1 c))) ?_ rfl ⟨rfl, by repeat (first | exact Below.refl _ _ | apply Below.alloc0)⟩
        rw [HE.out]
        simp [results, Tryd.results82, go_sem, eOp, eMode, eReg, h192]
        try omega
    · have d1 : ((p : Int) != 1) = true := by rw [bne_iff_ne]; omega
      go_enter Tryd.func82, Tryd.ntmps82
      go_wp2_with (go_at_call 85; refine (CW.out _).mono ?_; rintro e w' ⟨rfl, rfl⟩)
      refine bodyPost_ret (v := .agg (entA (immE p c))) ?_ rfl ⟨rfl, by repeat (first | exact Below.refl _ _ | apply Below.alloc0)⟩
      rw [HE.out]
      simp [results, Tryd.results82, go_sem, eOp, eMode, eReg, hp1]
  · have d1 : ((o : Int) != 0) = true := by rw [bne_iff_ne]; omega
    go_enter Tryd.func82, Tryd.ntmps82
    go_wp2_with (go_at_call 85; refine (CW.out _).mono ?_; rintro e w' ⟨rfl, rfl⟩)
    refine bodyPost_ret (v := .agg (entA (immE p c))) ?_ rfl ⟨rfl, by repeat (first | exact Below.refl _ _ | apply Below.alloc0)⟩
    rw [HE.out, if_pos hy0]
    obtain ⟨q1, q2, q3⟩ := ent_mk o 2 r (by omega) hr2
    unfold entA
    rw [show o * 256 + 32 + r = o * 256 + 2 * 16 + r by omega, q1, q2, q3]
    simp [results, Tryd.results82, go_sem]
end Go.Proofs.YtopkjniegncokaaDoor
