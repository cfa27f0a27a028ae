/- The law TableBounds, over numbers: what the counts lie between. -/
import Derived.Test.YtkdekhcnamkcgabDoorTblA
namespace Go.Proofs.YtkdekhcnamkcgabDoor
open Go.ChangeShapes Go.WideShapes Go.ChangeAt Go.RowKit
set_option linter.unusedVariables false

/-- An instruction's length by what its opcode stands for and its postbyte; its bytes ahead of the opcode's page not counted. -/
def lenN (E b : Nat) : Nat := (if pstd (eMode E) then 1 else 0) + shN (eMode E) b
def bndB (j b : Nat) : Bool :=
  decide (2 ≤ leastN ((j / 256 + 1 : Nat) : Int) (eOp (pgT j)) (eMode (pgT j)) b) &&
  decide (leastN ((j / 256 + 1 : Nat) : Int) (eOp (pgT j)) (eMode (pgT j)) b + takenN (eOp (pgT j)) (eReg (pgT j)) + wholeN (eOp (pgT j)) ≤ 20) &&
  decide (((if j / 256 = 0 then 1 else 2) + lenN (pgT j) b : Nat) ≤ leastN ((j / 256 + 1 : Nat) : Int) (eOp (pgT j)) (eMode (pgT j)) b)
theorem bnd_0 : ((List.range 768).all fun j => bndB j 0) = true := by decide +kernel
theorem bnd_49 : ((List.range 768).all fun j => if eMode (pgT j) = 4 ∨ eMode (pgT j) = 9 then (List.range 256).all (bndB j) else true) = true := by decide +kernel
theorem firstN_free (o m : Int) (b : Nat) (h4 : ¬ m = 4) (h9 : ¬ m = 9) : firstN o m b = firstN o m 0 := by
  unfold firstN
  rw [if_neg h4, if_neg h9, if_neg h4, if_neg h9]
theorem lenN_free (E b : Nat) (h4 : ¬ eMode E = 4) : lenN E b = lenN E 0 := by
  unfold lenN shN
  rw [if_neg h4, if_neg h4]
theorem bnd_ok (j b : Nat) (hj : j < 768) (hb : b < 256) : bndB j b = true := by
  by_cases h : eMode (pgT j) = 4 ∨ eMode (pgT j) = 9
  · have h1 := allB 768 _ bnd_49 j hj
    simp only [if_pos h] at h1
    exact allB 256 _ h1 b hb
  · have h1 := allB 768 _ bnd_0 j hj
    have h4 : ¬ eMode (pgT j) = 4 := fun e => h (.inl e)
    have h9 : ¬ eMode (pgT j) = 9 := fun e => h (.inr e)
    have e1 : ∀ p o : Int, leastN p o (eMode (pgT j) : Int) b = leastN p o (eMode (pgT j) : Int) 0 := fun p o => by
      unfold leastN
      rw [firstN_free _ _ b (by omega) (by omega)]
    unfold bndB at h1 ⊢
    rw [e1, lenN_free _ b h4]
    exact h1
end Go.Proofs.YtkdekhcnamkcgabDoor
