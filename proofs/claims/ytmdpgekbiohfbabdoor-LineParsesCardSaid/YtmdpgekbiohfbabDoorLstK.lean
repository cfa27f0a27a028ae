/- Contracts: strings.Cut at one byte; package lists' Read. -/
import Derived.Test.YtmdpgekbiohfbabDoorLstF
import Derived.Test.YtmdpgekbiohfbabDoorShelf
import Derived.Test.YtmdpgekbiohfbabDoorBit
import Derived.Deep.QuietTactic
import Derived.BigQuiet
namespace Go.Proofs.YtmdpgekbiohfbabDoor
open Go.ChangeShapes Go.WideShapes Go.ChangeAt Go.RowKit
set_option linter.unusedVariables false

/-- Ahead of the first comma; behind it; is there one? -/
def cutL (l : List UInt8) : List UInt8 × List UInt8 × Bool := if 0 ≤ Lib.indexByte l 44 then (l.take (Lib.indexByte l 44).toNat, l.drop ((Lib.indexByte l 44).toNat + 1), true) else (l, [], false)
theorem indexByte_lt (l : List UInt8) (c : UInt8) : Lib.indexByte l c < l.length := by
  induction l with
  | nil => simp [Lib.indexByte]
  | cons b l ih =>
    simp only [Lib.indexByte, List.length_cons]
    split
    · omega
    · split <;> omega
theorem cutL_len (l : List UInt8) (h : (cutL l).2.2 = true) : (cutL l).2.1.length < l.length := by
  unfold cutL at h ⊢
  by_cases h0 : 0 ≤ Lib.indexByte l 44
  · have := indexByte_lt l 44
    rw [if_pos h0]
    simp only [List.length_drop]; omega
  · rw [if_neg h0] at h; cases h
theorem cutL_le (l : List UInt8) : (cutL l).2.1.length ≤ l.length := by
  unfold cutL
  split
  · simp only [List.length_drop]; omega
  · simp
theorem extract_take (s : ByteArray) (k : Nat) : s.extract 0 k = ⟨(s.data.toList.take k).toArray⟩ := by
  apply ByteArray.ext
  apply Array.toList_inj.1
  simp [ByteArray.data_extract]
theorem extract_drop (s : ByteArray) (k : Nat) : s.extract k s.size = ⟨(s.data.toList.drop k).toArray⟩ := by
  apply ByteArray.ext
  have h := Lib.extract_to_end s k
  apply Array.toList_inj.1
  simpa using h
def strL (l : List UInt8) : ByteArray := ⟨l.toArray⟩
/-- The postbyte of names with commas between, of which p are read already; 40, 41: why not. -/
def readF (u : Bool) : Nat → List UInt8 → Int → Int × Int
  | 0, _, p => (p, 0)
  | f + 1, l, p =>
    if namedF (strL (cutL l).1) u = 0 then (0, 40)
    else if 0 < bits .and .u8 p (namedF (strL (cutL l).1) u) then (0, 41)
    else if (cutL l).2.2 then readF u f (cutL l).2.1 (bits .or .u8 p (namedF (strL (cutL l).1) u))
    else (bits .or .u8 p (namedF (strL (cutL l).1) u), 0)
/-- What Read answers. -/
def readS (l : List UInt8) (u : Bool) : Int × Int := if l = [] then (0, 0) else readF u (l.length + 1) l 0
end Go.Proofs.YtmdpgekbiohfbabDoor
