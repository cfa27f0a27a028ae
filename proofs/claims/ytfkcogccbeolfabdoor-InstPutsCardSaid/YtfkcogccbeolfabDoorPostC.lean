/- The contract of package post's Code. -/
import Derived.Test.YtfkcogccbeolfabDoorPostU
import Derived.Test.YtfkcogccbeolfabDoorPostE
namespace Go.Proofs.YtfkcogccbeolfabDoor
open Go.ChangeShapes Go.WideShapes Go.ChangeAt Go.RowKit
set_option linter.unusedVariables false

end Go.Proofs.YtfkcogccbeolfabDoor
