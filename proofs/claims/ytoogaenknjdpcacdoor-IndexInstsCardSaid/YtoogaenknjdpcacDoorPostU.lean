/- Contracts: the document's own cost of a postbyte, the same of two readings, the chapter's example. -/
import Derived.Test.YtoogaenknjdpcacDoorPostR
import Derived.Test.YtoogaenknjdpcacDoorPostS
namespace Go.Proofs.YtoogaenknjdpcacDoor
open Go.ChangeShapes Go.WideShapes Go.ChangeAt Go.RowKit
set_option linter.unusedVariables false

theorem poK_lt (b : Nat) (hb : b < 256) : poK b < 14 := by
  have h : ((List.range 256).all fun b => Nat.blt (poK b) 14) = true := by decide +kernel
  have := allB 256 _ h b hb
  simpa [Nat.blt_eq] using this
end Go.Proofs.YtoogaenknjdpcacDoor
