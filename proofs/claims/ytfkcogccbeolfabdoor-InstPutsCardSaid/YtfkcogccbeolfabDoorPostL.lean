/- The law PostBytes, over a byte as a number. -/
import Derived.Test.YtfkcogccbeolfabDoorPostU
import Derived.Test.YtfkcogccbeolfabDoorLaid
namespace Go.Proofs.YtfkcogccbeolfabDoor
open Go.ChangeShapes Go.WideShapes Go.ChangeAt Go.RowKit
set_option linter.unusedVariables false

end Go.Proofs.YtfkcogccbeolfabDoor
