/- Rows of bytes that a call makes whole and writes in places, told as functions. -/
import Derived.Test.YtnmgjgeniaheoabDoorOwn
import Derived.Laws.MakeOwn
namespace Go.Proofs.YtnmgjgeniaheoabDoor
open Go.ChangeShapes Go.WideShapes Go.ChangeAt Go.RowKit
set_option linter.unusedVariables false

def rwF (q : Nat → Int) (n : Nat) : Array Value := ((List.range n).map fun i => Value.int .u8 (q i)).toArray
def rwL (q : Nat → Int) (n : Nat) : List Int := (List.range n).map q
def rwU (q : Nat → Int) (k : Nat) (x : Int) : Nat → Int := fun j => if j = k then x else q j
theorem rwL_len (q : Nat → Int) (n : Nat) : (rwL q n).length = n := by unfold rwL; rw [List.length_map, List.length_range]
theorem iat_rwL (q : Nat → Int) (n i : Nat) (h : i < n) : iat (rwL q n) i = q i := by
  rw [iat_eq _ _ (by rw [rwL_len]; exact h)]
  simp only [rwL, List.getElem_map, List.getElem_range]
theorem rwF_at (q : Nat → Int) (n i : Nat) (h : i < n) : (rwF q n)[i]? = some (.int .u8 (q i)) := by
  unfold rwF
  rw [List.getElem?_toArray, List.getElem?_map, List.getElem?_range h]; rfl
theorem rwF_set (q : Nat → Int) (n k : Nat) (x : Int) (hk : k < n) : (rwF q n).setIfInBounds k (.int .u8 x) = rwF (rwU q k x) n := by
  unfold rwF
  rw [List.setIfInBounds_toArray]
  congr 1
  apply List.ext_getElem (by rw [List.length_set, List.length_map, List.length_map])
  intro j h1 h2
  rw [List.getElem_set]
  simp only [List.getElem_map, List.getElem_range, rwU]
  by_cases e : k = j
  · subst e; simp
  · rw [if_neg e, if_neg (fun e2 => e e2.symm)]
theorem rwF_zero (n : Nat) : rwF (fun _ => 0) n = Array.replicate n (.int .u8 0) := by
  unfold rwF
  apply Array.ext'
  rw [Array.toList_replicate, List.toList_toArray]
  apply List.ext_getElem (by rw [List.length_map, List.length_range, List.length_replicate])
  intro j h1 h2
  simp only [List.getElem_map, List.getElem_replicate]
set_option maxRecDepth 100000 in
theorem rwMade (w : World) (n : Nat) (hn : n ≤ 1000000) : (Instr.makeSlice 25 (.int .i64 (n : Int)) (.int .i64 (n : Int))).run Tryd.prog w = .ok (.slice (some ⟨w.heap.size, 0, none⟩) n n) (w.alloc (.cells (rwF (fun _ => 0) n) 5)) := by
  obtain ⟨i0, hi, hz0, hz1, hz2⟩ := info_parts info8
  have hr := run_make (P := Tryd.prog) w 25 5 i0 _ Tryd.underlying25 hi hz0 .i64 .i64 n n (by omega) (by omega) (by rw [hz2]; omega) (by omega)
  simp only [Int.toNat_natCast] at hr
  rw [hr, hz1, Nat.mul_one, rwF_zero]
  congr 3
  apply Array.ext
  · rw [size_madeCells]; simp
  · intro i h1 h2
    have : i < n := by rw [size_madeCells] at h1; exact h1
    simp [madeCells, Value.cells, Nat.mod_one]
theorem rwStr {w : World} {g n c : Nat} {t : TypeId} {q : Nat → Int} (h : Blk w g t (rwF q n)) : (convert 25 9 (.slice (some ⟨g, 0, none⟩) n c)).run Tryd.prog w = .ok (.string (strOfNums (rwL q n))) w :=
  bytes_at' w g 0 n c (rwL q n) (rwL_len q n) fun i hi => by rw [Nat.zero_add, h.cell, rwF_at q n i hi, iat_rwL q n i hi]
end Go.Proofs.YtnmgjgeniaheoabDoor
