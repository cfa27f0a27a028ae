/- Package post's table of kinds, read as a row lists it (alone, or wherever on the list it stands). -/
import Derived.Test.YtoogaenknjdpcacDoorLaidS
import Derived.Test.YtoogaenknjdpcacDoorPost
namespace Go.Proofs.YtoogaenknjdpcacDoor
open Go.ChangeShapes Go.WideShapes Go.ChangeAt Go.RowKit
set_option linter.unusedVariables false

def kindsM : List Int := [7, 8, 9, 10, 0, 5, 4, 0, 2, 3, 0, 6, 11, 12, 0, 13]
theorem kindsM_at : ∀ k : Fin 16, kindsM.getD k.val 0 = (kinds16 k.val : Int) := by decide +kernel
theorem kindsAt_of_one {W : World} (h1 : OneLaid Tryd.prog W "spinet/post.kinds" (Lib.tabData .i64 kindsM)) : KindsAt W := fun k hk => by
  have := h1.ints (g := 2) (t := 117) (e := 3) (n := 16) (by kernel_rfl) (by kernel_rfl) Tryd.underlying117 Tryd.underlying3 (by kernel_rfl) (by kernel_rfl) k hk
  rw [this, kindsM_at ⟨k, hk⟩]
theorem kindsAt_of_laid {W : World} (h : laidMetH Tryd.prog [("spinet/post.kinds", Lib.tabData .i64 kindsM)] W) : KindsAt W := by
  rw [MakeChecks.laidMetH_plain _ _ _ (by rfl)] at h
  obtain ⟨ps, h, _⟩ := h
  exact kindsAt_of_one (laidVars_cons h).1
end Go.Proofs.YtoogaenknjdpcacDoor
