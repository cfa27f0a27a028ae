/- Two readings of a postbyte, one against the other: the model's comparison of two such structs. -/
import Derived.Test.YtopkjniegncokaaDoorPostS
namespace Go.Proofs.YtopkjniegncokaaDoor
open Go.ChangeShapes Go.WideShapes Go.ChangeAt Go.RowKit
set_option linter.unusedVariables false
abbrev postA (k r o : Int) (d : Bool) : Array Value := #[.int .i64 k, .int .i64 r, .int .u16 o, .bool d]
set_option maxRecDepth 100000 in
theorem eql_post (w : World) (k r o k' r' o' : Int) (d d' : Bool) :
    (binOp .eql 46 (.agg (postA k r o d)) (.agg (postA k' r' o' d'))).run Tryd.prog w = .ok (.bool (k == k' && (r == r' && (o == o' && d == d')))) w := by
  by_cases h1 : k = k'
  · subst h1
    by_cases h2 : r = r'
    · subst h2
      by_cases h3 : o = o'
      · subst h3
        by_cases h4 : d = d'
        · subst h4
          go_simp
        · have e4 : (d == d') = false := by simpa using h4
          go_simp
      · have e3 : (o == o') = false := by simpa using h3
        go_simp
    · have e2 : (r == r') = false := by simpa using h2
      go_simp
  · have e1 : (k == k') = false := by simpa using h1
    go_simp
end Go.Proofs.YtopkjniegncokaaDoor
