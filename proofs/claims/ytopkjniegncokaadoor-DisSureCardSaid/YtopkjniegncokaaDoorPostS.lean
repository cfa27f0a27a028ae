/- Contracts: what a postbyte costs, whether two readings of one are the same, the chapter's example. -/
import Derived.Test.YtopkjniegncokaaDoorPost
import Derived.IntWalk
import Derived.Deep.RegionHeld3
namespace Go.Proofs.YtopkjniegncokaaDoor
open Go.ChangeShapes Go.WideShapes Go.ChangeAt Go.RowKit
set_option linter.unusedVariables false
theorem Blk.s4 {w : World} {g : Nat} {t : TypeId} {k r o : Int} {d : Bool} (h : Blk w g t #[.int .i64 k, .int .i64 r, .int .u16 o, .bool d]) :
    w.cell? ⟨g, 0, none⟩ = some (.int .i64 k) ∧ w.cell? ⟨g, 1, none⟩ = some (.int .i64 r) ∧ w.cell? ⟨g, 2, none⟩ = some (.int .u16 o) ∧ w.cell? ⟨g, 3, none⟩ = some (.bool d) := by
  refine ⟨?_, ?_, ?_, ?_⟩ <;> (rw [h.cell]; rfl)
theorem Blk.belowD {w w' : World} {g B : Nat} {t : TypeId} {cs : Array Value} (h : Blk w g t cs) (hb : Below B w.drew w') (hg : g < B) : Blk w' g t cs := Blk.below (w := w.drew) h hb hg

theorem poIdle_fin : ∀ n : Fin 14, 1 ≤ poIdle n.val ∧ poIdle n.val ≤ 5 ∧ poBytes n.val ≤ 2 := by decide +kernel
end Go.Proofs.YtopkjniegncokaaDoor
