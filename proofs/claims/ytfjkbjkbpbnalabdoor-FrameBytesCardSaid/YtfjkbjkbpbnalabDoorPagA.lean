/- The contract of the document's add (spinetref14): one more listed thing, on a slice of the caller's own. -/
import Derived.Test.YtfjkbjkbpbnalabDoorPagL
import Derived.Maps.AppendAt
namespace Go.Proofs.YtfjkbjkbpbnalabDoor
open Go.ChangeShapes Go.WideShapes Go.ChangeAt Go.RowKit
set_option linter.unusedVariables false

/-- Every block but the row's own stands as it stood, and is not the new row's. -/
def Apart (w w' : World) (v v' : Value) : Prop := ∀ g, g < w.heap.size → v.ownBlock ≠ some g → w'.heap[g]? = w.heap[g]? ∧ v'.ownBlock ≠ some g
theorem Apart.blk {w w' : World} {v v' : Value} {g : Nat} {t : TypeId} {cs : Array Value} {fr : Nat × Nat} (h : Apart w w' v v') (hb : Blk w g t cs fr) (hn : v.ownBlock ≠ some g) : Blk w' g t cs fr :=
  (h g hb.lt hn).1.trans hb
theorem Apart.ne {w w' : World} {v v' : Value} {g : Nat} (h : Apart w w' v v') (hg : g < w.heap.size) (hn : v.ownBlock ≠ some g) : v'.ownBlock ≠ some g := (h g hg hn).2
theorem Apart.of {w w' : World} {o : Obj} {v v' : Value} (h2 : (w.alloc o).grownBy w' v.ownBlock) (h4 : v'.ownBlock = v.ownBlock ∨ v'.ownBlock = some (w.heap.size + 1)) : Apart w w' v v' := fun g hg hne =>
  ⟨(h2.block g (by simp; omega) (fun e => hne e.symm)).trans (Below.heap_alloc w _ g hg), by
    rcases h4 with e | e
    · rw [e]; exact hne
    · rw [e]; intro e2; simp at e2; omega⟩
theorem ownsRow_new {w : World} {base : Nat} {e : TypeId} {size n : Nat} {v : Value} {xs : List Value} (h : w.ownsRow base e size v n xs) : v.ownBlock ≠ some w.heap.size := fun e => by
  have := (h.lt _ e).2; omega
theorem cells_of_blk {w : World} {g : Nat} {t : TypeId} {cs : Array Value} (h : Blk w g t cs) : ∀ j u, cs.toList[j]? = some u → w.cell? ((⟨g, 0, none⟩ : Addr).add j) = some u := by
  intro j u hj
  have hp : (⟨g, 0, none⟩ : Addr).add j = ⟨g, j, none⟩ := by unfold Addr.add; split <;> simp_all
  rw [hp, h.cell, ← Array.getElem?_toList]
  exact hj
end Go.Proofs.YtfjkbjkbpbnalabDoor
