/- Records: contract of record.Read. -/
import Derived.Test.YtpleboogijgdcaaRcT
import Derived.Test.YtpleboogijgdcaaDigRead
import Derived.Laws.RangeString
import Derived.Deep.CutBlock
import Derived.Deep.CutRange
import Derived.Deep.DeepCutAuto
namespace Go.Proofs.Ytpleboogijgdcaa
open Go.ChangeShapes Go.WideShapes Go.ChangeAt Go.RowKit
set_option linter.unusedVariables false

/-- A string's iterator stands elsewhere. -/
def itA (w : World) (g : Nat) (o : Obj) : World := { w with heap := w.heap.setIfInBounds g o }
theorem itA_at {w : World} {g : Nat} {o o' : Obj} (h : w.heap[g]? = some o) : (itA w g o').heap[g]? = some o' := by
  have : g < w.heap.size := by
    rcases Nat.lt_or_ge g w.heap.size with a | a
    · exact a
    · rw [Array.getElem?_eq_none a] at h; cases h
  simp [itA, this]
theorem itA_other (w : World) (g k : Nat) (o : Obj) (h : k ≠ g) : (itA w g o).heap[k]? = w.heap[k]? := by
  simp only [itA]
  rw [Array.getElem?_setIfInBounds_ne (Ne.symm h)]
theorem Blk.itFar {w : World} {g k : Nat} {t : TypeId} {cs : Array Value} {fr : Nat × Nat} (h : Blk w k t cs fr) (hk : k ≠ g) (o : Obj) : Blk (itA w g o) k t cs fr := (itA_other w g k o hk).trans h
theorem itA_below {B : Nat} {w0 w : World} (h : Below B w0 w) (g : Nat) (o : Obj) (hg : B ≤ g) : Below B w0 (itA w g o) :=
  h.trans ⟨rfl, rfl, rfl, by simp [itA], fun k hk => itA_other w g k o (by omega)⟩
theorem run_next_at {P : Program} (w : World) (g : Nat) (s : ByteArray) (pos : Nat) (ty : TypeId) (h : w.heap[g]? = some (.stringIter s pos)) (hp : pos < s.size) (ha : (s[pos]'hp).toNat < 128) :
    (Instr.next (.pointer (some ⟨g, 0, none⟩)) true ty).run P w = .ok (.tuple #[.bool true, .int .i64 pos, .int .i32 (s[pos]'hp).toNat]) (itA w g (.stringIter s (pos + 1))) := by
  simp only [Instr.next, getObj, setObj, Sem.run_bind, Sem.run, h, Result.andThen, hp, if_true, decode_ascii s pos hp ha]
  simp [goInt, itA]
theorem run_next_stop {P : Program} (w : World) (g : Nat) (s : ByteArray) (pos : Nat) (ty : TypeId) (h : w.heap[g]? = some (.stringIter s pos)) (hp : ¬ pos < s.size) :
    (Instr.next (.pointer (some ⟨g, 0, none⟩)) true ty).run P w = .ok (.tuple #[.bool false]) w := by
  simp [Instr.next, getObj, Sem.run, h, hp]
abbrev LET : ByteArray := ⟨#[65, 83, 76, 86, 66]⟩
/-- The record that a text of 17 signs tells, if it is one. -/
noncomputable def rdX (s : ByteArray) : Rc :=
  ⟨IntKind.u16.wrap (numV 16 16 (nums (s.extract 0 4))), IntKind.u8.wrap (numV 16 16 (nums (s.extract 5 7))), iat (nums s) 8 == 82, iat (nums s) 10 == 65, iat (nums s) 11 == 83, iat (nums s) 12 == 76, iat (nums s) 13 == 86, iat (nums s) 14 == 66, iat (nums s) 16 == 77⟩
theorem rdX_ok (s : ByteArray) : (rdX s).Ok := by
  constructor
  · show 0 ≤ IntKind.u16.wrap _; rw [IntKind.wrap_u16]; omega
  · show IntKind.u16.wrap _ < 65536; rw [IntKind.wrap_u16]; omega
  · show 0 ≤ IntKind.u8.wrap _; rw [IntKind.wrap_u8]; omega
  · show IntKind.u8.wrap _ < 256; rw [IntKind.wrap_u8]; omega
def rdL (xs : List Int) (k : Nat) : Array Value := #[.bool (iat xs 8 == 82), .bool (decide (0 < k) && iat xs 10 == 65), .bool (decide (1 < k) && iat xs 11 == 83), .bool (decide (2 < k) && iat xs 12 == 76), .bool (decide (3 < k) && iat xs 13 == 86), .bool (decide (4 < k) && iat xs 14 == 66), .bool (iat xs 16 == 77)]
theorem rdL_5 (s : ByteArray) : rdL (nums s) 5 = (rdX s).lv := by simp [rdL, rdX]
def RdPost (s : ByteArray) (X : Rc) (w : World) (e : Ending) (w' : World) : Prop := (e = .returned (.tuple #[.agg X.cells, .int .i64 0]) ∧ strOfNums (txN X) = s ∨ e = .returned (.tuple #[.agg #[.int .u16 0, .int .u8 0, .bool false, .bool false, .bool false, .bool false, .bool false, .bool false, .bool false], .int .i64 21]) ∧ strOfNums (txN X) ≠ s) ∧ Below w.heap.size w w'
theorem txN_len (x : Rc) (h : x.Ok) : (strOfNums (txN x)).size = 17 := by
  have a : (adN x).length = 4 := by have := adN_size x h; rwa [size_strOf] at this
  have d : (daN x).length = 2 := by have := daN_size x; rwa [size_strOf] at this
  rw [size_strOf]
  unfold txN
  simp [a, d, lnL]
end Go.Proofs.Ytpleboogijgdcaa
