/- The contract of package page's Find. -/
import Derived.Test.YtkdekhcnamkcgaaDoorPagR
import Derived.Test.YtkdekhcnamkcgaaDoorPostS
import Derived.Deep.RegionHeld3
namespace Go.Proofs.YtkdekhcnamkcgaaDoor
open Go.ChangeShapes Go.WideShapes Go.ChangeAt Go.RowKit
set_option linter.unusedVariables false

end Go.Proofs.YtkdekhcnamkcgaaDoor
