/- Contracts: the document's own cost of a postbyte, the same of two readings, the chapter's example. -/
import Derived.Test.YtopkjniegncokaaDoorPostR
import Derived.Test.YtopkjniegncokaaDoorPostS
namespace Go.Proofs.YtopkjniegncokaaDoor
open Go.ChangeShapes Go.WideShapes Go.ChangeAt Go.RowKit
set_option linter.unusedVariables false

theorem poK_lt (b : Nat) (hb : b < 256) : poK b < 14 := by
  have h : ((List.range 256).all fun b => Nat.blt (poK b) 14) = true := by decide +kernel
  have := allB 256 _ h b hb
  simpa [Nat.blt_eq] using this
theorem KindsAt.lt {w : World} (h : KindsAt w) : 0 < w.heap.size := cell_lt (h 0 (by decide))
theorem KindsAt.below {w w' : World} (h : KindsAt w) (hb : Below w.heap.size w w') : KindsAt w' := fun k hk => (hb.cell (p := ⟨0, k, none⟩) h.lt).trans (h k hk)
end Go.Proofs.YtopkjniegncokaaDoor
