/- Operands in plain words. -/
import Derived.Test.YtmdpgekbiohfbabDoorPre
import Derived.Test.YtmdpgekbiohfbabDoorExpN
import Derived.Test.YtmdpgekbiohfbabDoorExe
namespace Go.Proofs.YtmdpgekbiohfbabDoor
open Go.ChangeShapes Go.WideShapes Go.ChangeAt Go.RowKit
set_option linter.unusedVariables false

/-- A register's name without the signs that count it up or down, and the kind. -/
def stepL (l : List Int) : List Int × Int :=
  if preL [45, 45] l then (l.drop 2, 10) else if preL [45] l then (l.drop 1, 9) else if sufL [43, 43] l then (l.take (l.length - 2), 8) else if sufL [43] l then (l.take (l.length - 1), 7) else (l, 0)
/-- The size that stands ahead, and what is behind. -/
def sizL (l : List Int) : Int × List Int := if preL [60] l then (1, l.drop 1) else if preL [62] l then (2, l.drop 1) else (0, l)
def accL (l : List Int) : Int := if l = [65] then 4 else if l = [66] then 5 else if l = [68] then 6 else 0
def ptB (r k : Int) : Bool := decide (r = 1) || decide (r = 2) || decide (r = 3) || decide (r = 4) || (decide (r = 5) && decide (k = 0))
/-- An operand. -/
structure AgV where
  f : Int
  s : Int
  x : List Int
  k : Int
  r : Int
  o : Int
  i : Bool
def AgV.c (a : AgV) : Array Value := #[.int .i64 a.f, .int .i64 a.s, .string (strOfNums a.x), .int .i64 a.k, .int .i64 a.r, .int .u16 a.o, .bool a.i]
def agZ : AgV := ⟨0, 0, [], 0, 0, 0, false⟩
/-- The kind with an expression ahead of the register, and the offset. -/
def offL (s r : Int) (i : Bool) (x : List Int) : Int × Int :=
  if r = 5 then (if s = 1 then (11, 0) else (12, 0))
  else if s = 1 then (2, 0)
  else if s = 2 ∨ constB (evalE 0 (lookL look0) x) = false then (3, 0)
  else if (constV (evalE 0 (lookL look0) x) ≤ 15 ∨ 65520 ≤ constV (evalE 0 (lookL look0) x)) ∧ i = false then (1, constV (evalE 0 (lookL look0) x))
  else if constV (evalE 0 (lookL look0) x) ≤ 127 ∨ 65408 ≤ constV (evalE 0 (lookL look0) x) then (2, 0)
  else (3, 0)
theorem str_is (s : ByteArray) (l : List Int) (t : ByteArray) (h : nums t = l) : (s.toList == t.toList) = decide (nums s = l) := by
  rw [str_eqP]
  congr 1
  apply propext
  constructor
  · intro e; rw [e, h]
  · intro e; rw [← nums_str s, e, ← h, nums_str]
end Go.Proofs.YtmdpgekbiohfbabDoor
