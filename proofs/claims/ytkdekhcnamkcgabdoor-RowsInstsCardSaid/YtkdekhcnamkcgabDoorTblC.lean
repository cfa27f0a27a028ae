/- The law TableBounds, over numbers: the walk. -/
import Derived.Test.YtkdekhcnamkcgabDoorTblB
import Derived.Test.YtkdekhcnamkcgabDoorPostU
import Derived.Test.YtkdekhcnamkcgabDoorLaid
namespace Go.Proofs.YtkdekhcnamkcgabDoor
open Go.ChangeShapes Go.WideShapes Go.ChangeAt Go.RowKit
set_option linter.unusedVariables false

/-- What bytes say, by a code of the list and a postbyte. -/
theorem in_parts {xs : List Int} (h : ∀ z ∈ xs, (Lit.int .u8 z).wf = true) :
    ∃ j b : Nat, j < 768 ∧ b < 256 ∧ inE xs = pgT j ∧ inPg xs = j / 256 + 1 ∧ inPo xs = (b : Int) ∧ inLn xs = (if j / 256 = 0 then 1 else 2) + lenN (pgT j) b := by
  have hc := inCo_range h
  have hp := inPo_range h
  have hg : 1 ≤ inPg xs ∧ inPg xs ≤ 3 := by unfold inPg; split; · omega
                                            split <;> omega
  refine ⟨256 * (inPg xs - 1) + (inCo xs).toNat, (inPo xs).toNat, by omega, by omega, ?_, by omega, by omega, ?_⟩
  · unfold inE ofN
    rw [if_pos (by omega)]
    congr 1
  · have hE : inE xs = pgT (256 * (inPg xs - 1) + (inCo xs).toNat) := by
      unfold inE ofN
      rw [if_pos (by omega)]
      congr 1
    rw [← hE]
    unfold inLn inL2 inN lenN inMd
    have hpo : (((inPo xs).toNat : Nat) : Int) = inPo xs := by omega
    rw [hpo]
    have h1 : inL1 xs = if (256 * (inPg xs - 1) + (inCo xs).toNat) / 256 = 0 then 1 else 2 := by
      unfold inL1
      by_cases h1 : inPg xs = 1
      · rw [if_pos h1, if_pos (by omega)]
      · rw [if_neg h1, if_neg (by omega)]
    rw [← h1]
    omega
theorem and128 : bits .and .u8 128 128 = 128 := by decide +kernel
theorem bounds_in {xs : List Int} (h : ∀ z ∈ xs, (Lit.int .u8 z).wf = true) (cc : Int) :
    2 ≤ cycN (inPg xs : Int) (eOp (inE xs)) (eMode (inE xs)) (eReg (inE xs)) (inPo xs).toNat cc 128 ∧
    cycN (inPg xs : Int) (eOp (inE xs)) (eMode (inE xs)) (eReg (inE xs)) (inPo xs).toNat cc 128 ≤ 20 ∧
    (inLn xs : Int) ≤ cycN (inPg xs : Int) (eOp (inE xs)) (eMode (inE xs)) (eReg (inE xs)) (inPo xs).toNat cc 128 ∧
    leastN (inPg xs : Int) (eOp (inE xs)) (eMode (inE xs)) (inPo xs).toNat ≤ cycN (inPg xs : Int) (eOp (inE xs)) (eMode (inE xs)) (eReg (inE xs)) (inPo xs).toNat cc 128 ∧
    cycN (inPg xs : Int) (eOp (inE xs)) (eMode (inE xs)) (eReg (inE xs)) (inPo xs).toNat cc 128 ≤ mostN (inPg xs : Int) (eOp (inE xs)) (eMode (inE xs)) (eReg (inE xs)) (inPo xs).toNat := by
  obtain ⟨j, b, hj, hb, h1, h2, h3, h4⟩ := in_parts h
  rw [h1, h2, h3, h4, Int.toNat_natCast]
  have hh := bnd_ok j b hj hb
  unfold bndB at hh
  simp only [Bool.and_eq_true, decide_eq_true_eq] at hh
  obtain ⟨⟨q1, q2⟩, q3⟩ := hh
  have ht : (takenN (eOp (pgT j)) (eReg (pgT j)) = 0 ∨ takenN (eOp (pgT j)) (eReg (pgT j)) = 1) ∧ (wholeN (eOp (pgT j)) = 0 ∨ wholeN (eOp (pgT j)) = 9) ∧ (takenN (eOp (pgT j)) (eReg (pgT j)) = 0 ∨ wholeN (eOp (pgT j)) = 0) := by
    unfold takenN wholeN
    by_cases a : (eOp (pgT j) : Int) = 49
    · rw [if_neg (by omega), if_pos a]; omega
    · rw [if_neg a]; refine ⟨?_, Or.inl rfl, Or.inr rfl⟩; split <;> simp
  unfold cycN mostN
  rw [and128, if_pos (show (0 : Int) < 128 by decide)]
  generalize leastN ((j / 256 + 1 : Nat) : Int) (eOp (pgT j)) (eMode (pgT j)) b = L at q1 q2 q3 ⊢
  generalize takenN (eOp (pgT j)) (eReg (pgT j)) = t at q2 ht ⊢
  generalize wholeN (eOp (pgT j)) = v at q2 ht ⊢
  generalize holdsX _ cc = H
  generalize (if j / 256 = 0 then 1 else 2) + lenN (pgT j) b = l at q3 ⊢
  cases H <;> simp <;> omega
abbrev rows8 : Array Value := #[.int .i64 0, .int .i64 19, .int .i64 10, .int .i64 19, .int .i64 3, .int .i64 3, .int .i64 3, .int .i64 3]
end Go.Proofs.YtkdekhcnamkcgabDoor
