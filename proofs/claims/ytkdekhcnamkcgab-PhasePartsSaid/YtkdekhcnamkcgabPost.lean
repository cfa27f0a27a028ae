/- Contracts of package post's calls that only look at a byte, and of the document's own (spinetref15). -/
import Derived.Test.YtkdekhcnamkcgabPostT
import Derived.Test.YtkdekhcnamkcgabOct
import Derived.Lib.LaidTab
import Derived.LaidMore
import Derived.MakeChecks
import Derived.Deep.QuietTactic
import Derived.BigQuiet
import Derived.Outline
namespace Go.Proofs.Ytkdekhcnamkcgab
open Go.ChangeShapes Go.WideShapes Go.ChangeAt Go.RowKit
set_option linter.unusedVariables false

set_option maxRecDepth 100000 in
theorem bytes_any (k r o : Int) (d : Bool) (w : World) (n : Nat) (hk : k = n) (hn : n < 14) :
    Calls Try.prog 22 #[.agg #[.int .i64 k, .int .i64 r, .int .u16 o, .bool d]] w fun e w' => e = .returned (.int .i64 (poBytes n : Int)) ∧ Below w.heap.size w w' := by
  subst hk
  rcases (show n = 0 ∨ n = 1 ∨ n = 2 ∨ n = 3 ∨ n = 4 ∨ n = 5 ∨ n = 6 ∨ n = 7 ∨ n = 8 ∨ n = 9 ∨ n = 10 ∨ n = 11 ∨ n = 12 ∨ n = 13 by omega) with rfl | rfl | rfl | rfl | rfl | rfl | rfl | rfl | rfl | rfl | rfl | rfl | rfl | rfl
  all_goals
    go_enter Try.func22, Try.ntmps22
    go_wp2
    go_ret
    exact ⟨rfl, Below.alloc0 (Below.refl _ _) _⟩
set_option maxRecDepth 100000 in
theorem idle_any (k r o : Int) (d : Bool) (w : World) (n : Nat) (hk : k = n) (hn : n < 14) :
    Calls Try.prog 23 #[.agg #[.int .i64 k, .int .i64 r, .int .u16 o, .bool d]] w fun e w' => e = .returned (.int .i64 (poIdle n : Int)) ∧ Below w.heap.size w w' := by
  subst hk
  rcases (show n = 0 ∨ n = 1 ∨ n = 2 ∨ n = 3 ∨ n = 4 ∨ n = 5 ∨ n = 6 ∨ n = 7 ∨ n = 8 ∨ n = 9 ∨ n = 10 ∨ n = 11 ∨ n = 12 ∨ n = 13 by omega) with rfl | rfl | rfl | rfl | rfl | rfl | rfl | rfl | rfl | rfl | rfl | rfl | rfl | rfl
  all_goals
    go_enter Try.func23, Try.ntmps23
    go_wp2
    go_ret
    exact ⟨rfl, Below.alloc0 (Below.refl _ _) _⟩
end Go.Proofs.Ytkdekhcnamkcgab
