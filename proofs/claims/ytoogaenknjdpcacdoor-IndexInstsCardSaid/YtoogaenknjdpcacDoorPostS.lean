/- Contracts: what a postbyte costs, whether two readings of one are the same, the chapter's example. -/
import Derived.Test.YtoogaenknjdpcacDoorPost
import Derived.IntWalk
import Derived.Deep.RegionHeld3
namespace Go.Proofs.YtoogaenknjdpcacDoor
open Go.ChangeShapes Go.WideShapes Go.ChangeAt Go.RowKit
set_option linter.unusedVariables false

theorem poIdle_fin : ∀ n : Fin 14, 1 ≤ poIdle n.val ∧ poIdle n.val ≤ 5 ∧ poBytes n.val ≤ 2 := by decide +kernel
end Go.Proofs.YtoogaenknjdpcacDoor
