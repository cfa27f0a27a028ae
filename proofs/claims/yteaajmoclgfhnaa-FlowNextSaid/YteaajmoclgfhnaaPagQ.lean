/- Contracts of package page: memory, Of. -/
import Derived.Test.YteaajmoclgfhnaaPagP
namespace Go.Proofs.Yteaajmoclgfhnaa
open Go.ChangeShapes Go.WideShapes Go.ChangeAt Go.RowKit
set_option linter.unusedVariables false

theorem andNot48_fin : ∀ c : Fin 256, bits .andNot .u8 (c.val : Int) 48 = ((c.val / 64 * 64 + c.val % 16 : Nat) : Int) := by decide +kernel
theorem shr4and3_fin : ∀ c : Fin 256, bits .and .u8 ((c.val : Int) / 16) 3 = ((c.val / 16 % 4 : Nat) : Int) := by decide +kernel
end Go.Proofs.Yteaajmoclgfhnaa
