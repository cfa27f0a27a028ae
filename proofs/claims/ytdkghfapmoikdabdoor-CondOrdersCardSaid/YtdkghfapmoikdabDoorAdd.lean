/- Contracts of package adder's sums of bytes, and of the document's. -/
import Derived.Test.YtdkghfapmoikdabDoorCod
import Derived.Test.YtdkghfapmoikdabDoorOct
namespace Go.Proofs.YtdkghfapmoikdabDoor
open Go.ChangeShapes Go.WideShapes Go.ChangeAt Go.RowKit
set_option linter.unusedVariables false

def sg (a : Int) : Int := if a < 128 then a else a - 256
theorem sg_range (a : Int) (ha : 0 ≤ a) (ha' : a < 256) : -128 ≤ sg a ∧ sg a < 128 := by unfold sg; split <;> omega
/-- Is a number out of this range? -/
def outOf (lo hi t : Int) : Bool := decide (t < lo) || decide (hi < t)
theorem outOf_lt {lo hi t : Int} (h : t < lo) : outOf lo hi t = true := by simp [outOf, h]
theorem outOf_ge {lo hi t : Int} (h : lo ≤ t) : outOf lo hi t = decide (hi < t) := by simp [outOf, show ¬ t < lo by omega]
def addC (cc a b c : Int) : Int :=
  putRef (putRef (putRef (nzRef cc ((a + b + c) % 256) 128) 32 (decide (15 < a % 16 + b % 16 + c))) 2 (outOf (-128) 127 (sg a + sg b + c))) 1 (decide (255 < a + b + c))
theorem CC.add {cc : Int} (h : CC cc) (a b c : Int) : CC (addC cc a b c) := (((h.nz _ _).put _ _).put _ _).put _ _
theorem addC_ref (cc a b c : Int) (h : CC cc) :
    nzRef (putRef (putRef (putRef cc 32 (decide (15 < a % 16 + b % 16 + c))) 2 (outOf (-128) 127 (sg a + sg b + c))) 1 (decide (255 < a + b + c))) ((a + b + c) % 256) 128 = addC cc a b c := by
  unfold addC
  have h1 := h.put 32 (decide (15 < a % 16 + b % 16 + c))
  have h2 := h1.put 2 (outOf (-128) 127 (sg a + sg b + c))
  rw [nzRef_swap cc 32 _ _ _ h.1 h.2 bit32 (by decide) (by decide), nzRef_swap _ 2 _ _ _ h1.1 h1.2 bit2 (by decide) (by decide), nzRef_swap _ 1 _ _ _ h2.1 h2.2 bit1 (by decide) (by decide)]
theorem addC_low (cc a b c : Int) (h : CC cc) : addC cc a b c % 2 = if 255 < a + b + c then 1 else 0 := by
  unfold addC
  have h1 := ((h.nz ((a + b + c) % 256) 128).put 32 (decide (15 < a % 16 + b % 16 + c))).put 2 (outOf (-128) 127 (sg a + sg b + c))
  rw [low_put1 _ _ h1.1 h1.2]
  simp
end Go.Proofs.YtdkghfapmoikdabDoor
