/- The contracts of package page's Of and Prefix. -/
import Derived.Test.YtkdekhcnamkcgaaDoorPagQ
namespace Go.Proofs.YtkdekhcnamkcgaaDoor
open Go.ChangeShapes Go.WideShapes Go.ChangeAt Go.RowKit
set_option linter.unusedVariables false

end Go.Proofs.YtkdekhcnamkcgaaDoor
