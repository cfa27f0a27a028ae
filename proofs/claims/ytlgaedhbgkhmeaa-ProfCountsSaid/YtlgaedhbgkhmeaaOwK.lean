/- A row of structs of the call's own, put in order by the library's sort: what it holds then. No program in sight. -/
import Derived.Test.YtlgaedhbgkhmeaaRws
import Derived.Sort.Row
import Derived.Sort.Grow
import Derived.Sort.Statements
import Derived.Shelf.GgSortFunc.InsertionK
namespace Go.Proofs.Ytlgaedhbgkhmeaa
open Go.ChangeShapes Go.WideShapes Go.ChangeAt Go.RowKit
open Go.Sort (flatK HoldsK putRowK putRow putCells mapBlock onCells heap_grow_old)
set_option linter.unusedVariables false
section
variable {α : Type} [Inhabited α] (E : Els α)
theorem flatK_cells (d : Array α) : (flatK E.enc E.k d).toList = E.cells d.toList := by
  have hk := E.pos
  apply List.ext_getElem?
  intro j
  by_cases hj : j < d.size * E.k
  · have hi : j / E.k < d.size := (Nat.div_lt_iff_lt_mul hk).2 hj
    have hm : j % E.k < E.k := Nat.mod_lt _ hk
    have h1 : d.toList[j / E.k]? = some d[j / E.k] := by rw [Array.getElem?_toList]; exact Array.getElem?_eq_getElem hi
    have h2 := E.cells_at d.toList (j / E.k) _ h1 (j % E.k) hm
    rw [Nat.mul_comm, Nat.div_add_mod] at h2
    rw [h2, Array.getElem?_toList]
    have hl : j % E.k < (E.enc d[j / E.k]).length := by rw [E.len]; exact hm
    rw [List.getElem?_eq_getElem hl]
    simp [flatK, hj, hi, hl]
  · rw [List.getElem?_eq_none (by simp; omega), List.getElem?_eq_none (by rw [E.cells_len, Array.length_toList]; omega)]
theorem holdsK_own {w : World} {t : TypeId} {base g cap : Nat} {l : List α} (h : E.Own t w base (.slice (some ⟨g, 0, none⟩) l.length cap) l) : HoldsK E.enc E.k w g 0 l.toArray := by
  obtain ⟨hl, h2⟩ := h
  rcases h2 with ⟨e, _⟩ | ⟨g', cap', cur, e, h3, h4, h5, h6, h7, h8⟩
  · cases e
  · injection e with e1 e2 e3
    injection e1 with e1
    injection e1 with e1
    subst e1 e3
    intro j hj
    have hj' : j < l.length * E.k := by simpa using hj
    have hb : Blk w g t cur (0, 0) := h4
    have hf := flatK_cells E l.toArray
    refine ⟨?_, by rw [Nat.zero_add]; exact hb.frozen j⟩
    rw [Nat.zero_add, hb.cell]
    have e4 : cur[j]? = (E.cells l)[j]? := by rw [← h8, List.getElem?_take_of_lt hj', Array.getElem?_toList]
    have hf' : (flatK E.enc E.k l.toArray)[j]? = (E.cells l)[j]? := by rw [← Array.getElem?_toList, hf]
    rw [e4, ← hf', Array.getElem?_eq_getElem hj, getElem!_pos (flatK E.enc E.k l.toArray) j hj]
    rfl
theorem heap_sortedK {w : World} {g n : Nat} {os : Array Obj} {cur : Array Value} {e : TypeId} {fr : Nat × Nat} (d : Array α) (hb : w.heap[g]? = some (.cells cur e fr)) :
    (sortWorldK E.enc E.k w g 0 n d os).heap[g]? = some (.cells (putCells id 0 (flatK E.enc E.k d) cur) e fr) := by
  have hg : g < w.heap.size := (Array.getElem?_eq_some_iff.1 hb).1
  unfold sortWorldK
  rw [heap_grow_old _ _ (by simpa [putRowK] using hg)]
  simp [putRowK, putRow, mapBlock, Sort.ahead, Array.getElem?_modify, hb, onCells]
theorem grownBy_sortedK {w : World} {g n : Nat} {os : Array Obj} (d : Array α) : w.grownBy (sortWorldK E.enc E.k w g 0 n d os) (some g) := by
  unfold sortWorldK
  refine ⟨rfl, rfl, rfl, by simp [putRowK], fun k hk hne => ?_⟩
  rw [heap_grow_old _ _ (by simpa [putRowK] using hk)]
  have : g ≠ k := fun e => hne (by rw [e])
  simp [putRowK, putRow, mapBlock, Sort.ahead, Array.getElem?_modify, this]
theorem own_sortedK {w : World} {t : TypeId} {base g cap n : Nat} {os : Array Obj} {l m : List α} (h : E.Own t w base (.slice (some ⟨g, 0, none⟩) l.length cap) l) (hm : m.length = l.length) :
    E.Own t (sortWorldK E.enc E.k w g 0 n m.toArray os) base (.slice (some ⟨g, 0, none⟩) l.length cap) m := by
  obtain ⟨hl, h2⟩ := h
  rcases h2 with ⟨e, _⟩ | ⟨g', cap', cur, e, h3, h4, h5, h6, h7, h8⟩
  · cases e
  · injection e with e1 e2 e3
    injection e1 with e1
    injection e1 with e1
    subst e1 e3
    unfold Els.Own
    rw [hm]
    refine ⟨by rw [E.cells_len, hm], .inr ⟨g, cap, _, rfl, h3, heap_sortedK E _ h4, h5, h6, by simp [putCells, h7], ?_⟩⟩
    have hs : (flatK E.enc E.k m.toArray).size = l.length * E.k := by simp [hm]
    have hc : l.length * E.k ≤ cur.size := by rw [h7]; exact Nat.mul_le_mul_right _ h5
    have hf := flatK_cells E m.toArray
    rw [List.toList_toArray] at hf
    rw [← hf]
    apply List.ext_getElem?
    intro j
    by_cases hj : j < l.length * E.k
    · rw [List.getElem?_take_of_lt hj, Array.getElem?_toList]
      have hj2 : j < (flatK E.enc E.k m.toArray).size := by rw [hs]; exact hj
      simp [putCells, hm, hj, show j < cur.size by omega]
    · rw [List.getElem?_take_eq_none (by omega), List.getElem?_eq_none (by rw [Array.length_toList, hs]; omega)]
end
end Go.Proofs.Ytlgaedhbgkhmeaa
