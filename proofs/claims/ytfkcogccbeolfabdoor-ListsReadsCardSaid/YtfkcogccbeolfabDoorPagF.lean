/- The contract of package page's Find. -/
import Derived.Test.YtfkcogccbeolfabDoorPagR
import Derived.Test.YtfkcogccbeolfabDoorPostS
import Derived.Deep.RegionHeld3
namespace Go.Proofs.YtfkcogccbeolfabDoor
open Go.ChangeShapes Go.WideShapes Go.ChangeAt Go.RowKit
set_option linter.unusedVariables false

end Go.Proofs.YtfkcogccbeolfabDoor
