/- Contracts of package line: half, Pair. -/
import Derived.Test.YtmdpgekbiohfbabDoorLinN
import Derived.Test.YtmdpgekbiohfbabDoorLstF
import Derived.Test.YtmdpgekbiohfbabDoorLstK
namespace Go.Proofs.YtmdpgekbiohfbabDoor
open Go.ChangeShapes Go.WideShapes Go.ChangeAt Go.RowKit
set_option linter.unusedVariables false

def halfS (s : ByteArray) : Int × Bool := if nums s = [82, 54] then (6, true) else if nums s = [82, 55] then (7, true) else if nums s = [82, 49, 50] then (12, true) else if nums s = [82, 49, 51] then (13, true) else if nums s = [82, 49, 52] then (14, true) else if nums s = [82, 49, 53] then (15, true) else regOf s
theorem halfS_range (s : ByteArray) : 0 ≤ (halfS s).1 ∧ (halfS s).1 < 16 := by
  have h := regIn_range s 12 0 (by decide)
  unfold halfS
  repeat' split
  all_goals first | exact ⟨by decide, by decide⟩ | (unfold regOf; omega)
def pairV (a b : Int × Bool) (ok : Bool) : Int × Int := if ok = false then (0, 21) else if a.2 = false ∨ b.2 = false then (0, 40) else (16 * a.1 + b.1, 0)
def pairS (s : ByteArray) : Int × Int := pairV (halfS ⟨(cutL s.data.toList).1.toArray⟩) (halfS ⟨(cutL s.data.toList).2.1.toArray⟩) (cutL s.data.toList).2.2
theorem pair_bits : ∀ (a b : Fin 16), bits .or .i64 (wrap64 (((a : Nat) : Int) * 16)) ((b : Nat) : Int) % 256 = 16 * ((a : Nat) : Int) + ((b : Nat) : Int) := by decide +kernel
end Go.Proofs.YtmdpgekbiohfbabDoor
