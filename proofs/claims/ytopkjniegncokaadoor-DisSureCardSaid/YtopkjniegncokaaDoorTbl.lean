/- Contracts of package table's calls that look at an operation alone, in numbers. -/
import Derived.Test.YtopkjniegncokaaDoorMem
namespace Go.Proofs.YtopkjniegncokaaDoor
open Go.ChangeShapes Go.WideShapes Go.ChangeAt Go.RowKit
set_option linter.unusedVariables false

def aloneN (o : Int) : Int := if o = 1 ∨ o = 40 then 3 else if o = 48 then 5 else if o = 49 then 6 else if o = 50 then 11 else if o = 51 then 19 else 2
def oneN (o : Int) : Int := if o = 43 ∨ o = 44 then 3 else if o = 41 then 16 else 2
def otherN (o : Int) : Int := if o = 34 then 3 else if o = 35 then 4 else if o = 36 then 5 else if o = 47 then 6 else if o = 37 then 7 else if o = 46 then 8 else if o = 38 then 9 else 0
def grpN (o : Int) : Int := if 2 ≤ o ∧ o ≤ 11 then 1 else if o = 12 then 2 else if o = 22 then 4 else if 13 ≤ o ∧ o ≤ 23 then 3 else if o = 24 then 5 else if o = 25 then 6 else if 26 ≤ o ∧ o ≤ 28 then 7 else if o = 29 then 8 else if o = 32 then 9 else if o = 33 then 10 else 0
def twoN (o : Int) : Int := if grpN o = 7 then 4 else 3
def memN (o : Int) : Int := if grpN o = 1 ∨ grpN o = 2 ∨ grpN o = 8 then 4 else if grpN o = 3 ∨ grpN o = 4 ∨ grpN o = 7 then 6 else if grpN o = 5 ∨ grpN o = 6 then 5 else if grpN o = 9 then 3 else if grpN o = 10 then 7 else 0
def rowN (k : Int) : Int := if k = 1 ∨ k = 3 then 19 else if k = 2 then 10 else if 4 ≤ k ∧ k ≤ 7 then 3 else 0
end Go.Proofs.YtopkjniegncokaaDoor
