/- Contract of the document's own Read (layer 40). -/
import Derived.Test.YtnmgjgeniaheoabDoorSrd
import Derived.Deep.CutBlock
namespace Go.Proofs.YtnmgjgeniaheoabDoor
open Go.ChangeShapes Go.WideShapes Go.ChangeAt Go.RowKit
set_option linter.unusedVariables false

theorem cell_set3 {w : World} {g o g' : Nat} (hg : g ≠ g') (x y z : Value) : (((w.setCell ⟨g', 0, none⟩ x).setCell ⟨g', 1, none⟩ y).setCell ⟨g', 2, none⟩ z).drew.cell? ⟨g, o, none⟩ = w.cell? ⟨g, o, none⟩ := by
  show (((w.setCell ⟨g', 0, none⟩ x).setCell ⟨g', 1, none⟩ y).setCell ⟨g', 2, none⟩ z).cell? ⟨g, o, none⟩ = w.cell? ⟨g, o, none⟩
  rw [World.cell?_setCell_other _ _ _ _ (by intro e; injection e with e; exact hg e.symm), World.cell?_setCell_other _ _ _ _ (by intro e; injection e with e; exact hg e.symm), World.cell?_setCell_other _ _ _ _ (by intro e; injection e with e; exact hg e.symm)]
theorem sum_step (b : List Int) (j : Nat) (h : j < b.length) (t : Int) (ht : t % 256 = sumAll (b.take j)) : (t + iat b j) % 256 = sumAll (b.take (j + 1)) := by
  unfold sumAll at ht ⊢
  rw [foldl_take (fun s x => (s + x) % 256) b 0 j h, ← ht]
  omega
end Go.Proofs.YtnmgjgeniaheoabDoor
