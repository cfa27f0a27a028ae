/- Contracts of package page: the words' opcodes, what changes a byte, what would be immediate. -/
import Derived.Test.YteaajmoclgfhnaaPagN
import Derived.Test.YteaajmoclgfhnaaPostT
import Derived.Test.YteaajmoclgfhnaaOct
import Derived.Lib.LaidTab
import Derived.LaidMore
import Derived.MakeChecks
import Derived.Deep.QuietTactic
import Derived.BigQuiet
import Derived.Outline
namespace Go.Proofs.Yteaajmoclgfhnaa
open Go.ChangeShapes Go.WideShapes Go.ChangeAt Go.RowKit
set_option linter.unusedVariables false

/-- What is listed, as the program's struct. -/
abbrev entA (n : Nat) : Array Value := #[.int .i64 (eOp n : Int), .int .i64 (eMode n : Int), .int .i64 (eReg n : Int)]
end Go.Proofs.Yteaajmoclgfhnaa
