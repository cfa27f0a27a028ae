/- The law of two registers, by the document's Pair as a premise. -/
import Derived.Test.YtmdpgekbiohfbabDoorLpn
import Derived.Test.YtmdpgekbiohfbabDoorLiv
namespace Go.Proofs.YtmdpgekbiohfbabDoor
open Go.ChangeShapes Go.WideShapes Go.ChangeAt Go.RowKit
set_option linter.unusedVariables false
theorem OregAt.of_laid {W : World} (h : laidMetH Tryd.prog [("spinet/ops.registers", strData regNames)] W) : OregAt W := fun k hk => by
  have hlen : regNames.length = 12 := rfl
  have h1 := strTab_of_laid (g := 2) (t := 99) (e := 9) (n := 12) (by kernel_rfl) (by kernel_rfl) Tryd.underlying99 Tryd.underlying9 (by kernel_rfl) (by kernel_rfl) h k (by omega)
  rw [h1]
  unfold regS
  rw [List.getD_eq_getElem?_getD, List.getElem?_eq_getElem (by omega)]; rfl
theorem prP_range (x y : Int) (hx : -1 ≤ x ∧ x < 16) (hy : -1 ≤ y ∧ y < 16) : 0 ≤ (prP x y).1 ∧ (prP x y).1 < 256 := by
  unfold prP
  split
  · exact ⟨by decide, by decide⟩
  · exact ⟨by dsimp only; omega, by dsimp only; omega⟩
end Go.Proofs.YtmdpgekbiohfbabDoor
