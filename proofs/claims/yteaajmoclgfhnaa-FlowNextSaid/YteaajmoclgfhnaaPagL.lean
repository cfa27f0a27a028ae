/- Package page's four tables, read as the row lists them. -/
import Derived.Test.YteaajmoclgfhnaaPagQ
import Derived.Test.YteaajmoclgfhnaaPostS
import Derived.Deep.RegionHeld3
import Derived.Test.YteaajmoclgfhnaaLaidS
namespace Go.Proofs.Yteaajmoclgfhnaa
open Go.ChangeShapes Go.WideShapes Go.ChangeAt Go.RowKit
set_option linter.unusedVariables false

theorem eightsL_at : ∀ k : Fin 16, eightsL.getD k.val 0 = (eiN k.val : Int) := by decide +kernel
theorem changesL_at : ∀ k : Fin 16, changesL.getD k.val 0 = (chN k.val : Int) := by decide +kernel
theorem tensL_at : ∀ k : Fin 16, tensL.getD k.val (0, 0, 0) = ((eOp (tenN k.val) : Int), (eMode (tenN k.val) : Int), (eReg (tenN k.val) : Int)) := by decide +kernel
theorem thirtiesL_at : ∀ k : Fin 16, thirtiesL.getD k.val (0, 0, 0) = ((eOp (thiN k.val) : Int), (eMode (thiN k.val) : Int), (eReg (thiN k.val) : Int)) := by decide +kernel
theorem getD_get {α : Type} (l : List α) (i : Nat) (d : α) (h : i < l.length) : l[i] = l.getD i d := by simp [List.getD, h]
end Go.Proofs.Yteaajmoclgfhnaa
