/- Contracts: what a postbyte costs, whether two readings of one are the same, the chapter's example. -/
import Derived.Test.YteaajmoclgfhnaaPostT
import Derived.Test.YteaajmoclgfhnaaOct
import Derived.Lib.LaidTab
import Derived.LaidMore
import Derived.MakeChecks
import Derived.Deep.QuietTactic
import Derived.BigQuiet
import Derived.Outline
import Derived.IntWalk
import Derived.Deep.RegionHeld3
namespace Go.Proofs.Yteaajmoclgfhnaa
open Go.ChangeShapes Go.WideShapes Go.ChangeAt Go.RowKit
set_option linter.unusedVariables false

theorem poIdle_fin : ∀ n : Fin 14, 1 ≤ poIdle n.val ∧ poIdle n.val ≤ 5 ∧ poBytes n.val ≤ 2 := by decide +kernel
end Go.Proofs.Yteaajmoclgfhnaa
