/- The document's own conditions (spinetref12). -/
import Derived.Test.YtkdekhcnamkcgabDoorCnd
namespace Go.Proofs.YtkdekhcnamkcgabDoor
open Go.ChangeShapes Go.WideShapes Go.ChangeAt Go.RowKit
set_option linter.unusedVariables false

set_option maxRecDepth 100000 in
set_option maxHeartbeats 8000000 in
theorem refHolds_in (k : Nat) (cc : Int) (w : World) (hk : k < 16) (hcc : CC cc) :
    Calls Tryd.prog 40 #[.int .i64 (k : Int), .int .u8 cc] w fun e w' => e = .returned (.bool (holdsB k cc)) ∧ Below w.heap.size w w' := by
  go_enter Tryd.func40, Tryd.ntmps40
  go_wp2_with (go_at_call 58; refine (hasRef_cc _ _ _ hcc (by first | exact bit1 | exact bit2 | exact bit4 | exact bit8)).mono ?_; rintro e w' ⟨rfl, rfl⟩)
  all_goals
    go_ret
    refine ⟨?_, Below.alloc0 (Below.refl _ _) _⟩
    rcases (show k = 0 ∨ k = 1 ∨ k = 2 ∨ k = 3 ∨ k = 4 ∨ k = 5 ∨ k = 6 ∨ k = 7 ∨ k = 8 ∨ k = 9 ∨ k = 10 ∨ k = 11 ∨ k = 12 ∨ k = 13 ∨ k = 14 ∨ k = 15 by omega) with rfl | rfl | rfl | rfl | rfl | rfl | rfl | rfl | rfl | rfl | rfl | rfl | rfl | rfl | rfl | rfl
    all_goals
      unfold holdsB evenB
      cases h1 : hasRef cc 1 <;> cases h2 : hasRef cc 2 <;> cases h4 : hasRef cc 4 <;> cases h8 : hasRef cc 8 <;> first | rfl | simp_all
end Go.Proofs.YtkdekhcnamkcgabDoor
