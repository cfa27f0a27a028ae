/- Contracts of package page: word, immediate, low. -/
import Derived.Test.YteaajmoclgfhnaaPag
namespace Go.Proofs.Yteaajmoclgfhnaa
open Go.ChangeShapes Go.WideShapes Go.ChangeAt Go.RowKit
set_option linter.unusedVariables false

theorem wdN_zero (k : Nat) (hk : k < 1024) (h : ∀ q ∈ wdKeys, k ≠ q) : wdN k = 0 := by
  have h0 := allB 1024 _ wdN_none k hk
  rw [Bool.or_eq_true, Nat.beq_eq] at h0
  rcases h0 with h0 | h0
  · exact h0
  · obtain ⟨q, hq, he⟩ := List.any_eq_true.1 h0
    rw [Nat.beq_eq] at he
    exact absurd he (h q hq)
theorem wdN_keys (k : Nat) (hk : k < 1024) (h : k ≠ 387 ∧ k ≠ 396 ∧ k ≠ 397 ∧ k ≠ 398 ∧ k ≠ 399 ∧ k ≠ 451 ∧ k ≠ 460 ∧ k ≠ 461 ∧ k ≠ 462 ∧ k ≠ 463 ∧ k ≠ 643 ∧ k ≠ 652 ∧ k ≠ 654 ∧ k ≠ 655 ∧ k ≠ 718 ∧ k ≠ 719 ∧ k ≠ 899 ∧ k ≠ 908) : wdN k = 0 := wdN_zero k hk (by
  intro q hq
  simp only [wdKeys, List.mem_cons, List.not_mem_nil, or_false] at hq
  omega)
end Go.Proofs.Yteaajmoclgfhnaa
