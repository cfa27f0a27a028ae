/- Package lists' table of registers, read as a row lists it alone. -/
import Derived.Test.YtfjkbjkbpbnalabDoorLaidS
import Derived.Test.YtfjkbjkbpbnalabDoorLstR
namespace Go.Proofs.YtfjkbjkbpbnalabDoor
open Go.ChangeShapes Go.WideShapes Go.ChangeAt Go.RowKit
set_option linter.unusedVariables false

def lregM : List Int := [10, 8, 9, 11, 1, 2, 3, 5]
theorem lregM_at : ∀ k : Fin 8, lregM.getD k.val 0 = (regL k.val : Int) := by decide +kernel
theorem lregAt_of_laid {W : World} (h : laidMetH Tryd.prog [("spinet/lists.registers", Lib.tabData .i64 lregM)] W) : LregAt W := by
  rw [MakeChecks.laidMetH_plain _ _ _ (by rfl)] at h
  obtain ⟨ps, h, _⟩ := h
  intro k hk
  have := (laidVars_cons h).1.ints (g := 2) (t := 104) (e := 3) (n := 8) (by kernel_rfl) (by kernel_rfl) Tryd.underlying104 Tryd.underlying3 (by kernel_rfl) (by kernel_rfl) k hk
  rw [this, lregM_at ⟨k, hk⟩]
end Go.Proofs.YtfjkbjkbpbnalabDoor
