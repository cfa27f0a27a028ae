/- alive of layer 45. -/
import Derived.Test.YtmdpgekbiohfbabDoorLip
namespace Go.Proofs.YtmdpgekbiohfbabDoor
open Go.ChangeShapes Go.WideShapes Go.ChangeAt Go.RowKit
set_option linter.unusedVariables false
theorem par_alive : parL ⟨#[91, 36, 49, 48, 44, 88, 93]⟩ = (⟨3, 0, [36, 49, 48], 2, 1, 0, true⟩, 0) := by kernel_rfl
set_option maxRecDepth 100000 in
theorem alive45 (w : World) (hT : OregAt w) : Calls Tryd.prog 19 #[] w fun e w' => e = .returned (.bool true) ∧ Below w.heap.size w w' := by
  have CP := Lib.hid (liParse_any ⟨#[91, 36, 49, 48, 44, 88, 93]⟩ w hT (by decide))
  rw [par_alive] at CP
  unfold AgV.c at CP
  dsimp only at CP
  rw [show strOfNums [36, 49, 48] = ⟨#[36, 49, 48]⟩ from by decide +kernel] at CP
  go_enter Tryd.func19, Tryd.ntmps19
  go_wp2_with (go_at_call 17; refine CP.out.mono ?_; rintro e w' ⟨rfl, hb⟩)
  go_ret
  exact ⟨rfl, Below.alloc0 hb _⟩
end Go.Proofs.YtmdpgekbiohfbabDoor
