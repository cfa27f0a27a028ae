/- The chapter's examples (package table). -/
import Derived.Test.YtkdekhcnamkcgabDoorTblO
import Derived.Test.YtkdekhcnamkcgabDoorInsO
import Derived.Deep.CutBlock
namespace Go.Proofs.YtkdekhcnamkcgabDoor
open Go.ChangeShapes Go.WideShapes Go.ChangeAt Go.RowKit
set_option linter.unusedVariables false

theorem ints_blk {w : World} {g : Nat} {t : TypeId} {xs : List Int} (h : Blk w g t (xs.map (Value.int .u8)).toArray) (hwf : ∀ z ∈ xs, (Lit.int .u8 z).wf = true) (n : Nat) (hn : xs.length = n) :
    Ints .u8 w w.heap.size (some ⟨g, 0, none⟩) n xs :=
  ⟨hn, hwf, fun _ => ⟨g, 0, rfl, h.lt, fun i hi => by
    rw [Nat.zero_add, h.cell, List.getElem?_toArray, List.getElem?_map, List.getElem?_eq_getElem (by omega), iat_eq _ _ (by omega)]; rfl⟩⟩
end Go.Proofs.YtkdekhcnamkcgabDoor
