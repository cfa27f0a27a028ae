/- Contracts: the least cycles of an instruction, and how many more (package table). -/
import Derived.Test.YtopkjniegncokaaDoorTblG
import Derived.Test.YtopkjniegncokaaDoorLstO
import Derived.Test.YtopkjniegncokaaDoorPostU
import Derived.Test.YtopkjniegncokaaDoorPostC
import Derived.Deep.RegionHeld3
import Derived.Outline
namespace Go.Proofs.YtopkjniegncokaaDoor
open Go.ChangeShapes Go.WideShapes Go.ChangeAt Go.RowKit
set_option linter.unusedVariables false

abbrev iC (p c o m r b v l : Int) : Array Value := #[.int .i64 p, .int .u8 c, .int .i64 o, .int .i64 m, .int .i64 r, .int .u8 b, .int .u16 v, .int .i64 l]
def firstN (o m : Int) (b : Nat) : Int :=
  if m = 0 then aloneN o else if m = 1 then oneN o else if m = 2 then twoN o else if m = 3 then memN o else if m = 4 then memN o + poExtra (poK b) (poI b) else if m = 5 then memN o + 1 else if m = 9 then 5 + cntN b else otherN o
theorem memN_le (o : Int) : 0 ≤ memN o ∧ memN o ≤ 7 := by unfold memN; repeat (first | (split; · simp) | simp)
theorem six {w : World} {g : Nat} {t : TypeId} {v0 v1 v2 v3 v4 v5 v6 v7 : Value} (h : Blk w g t #[v0, v1, v2, v3, v4, v5, v6, v7]) : w.cell? ⟨g, 2, none⟩ = some v2 ∧ w.cell? ⟨g, 3, none⟩ = some v3 ∧ w.cell? ⟨g, 5, none⟩ = some v5 := by
  refine ⟨?_, ?_, ?_⟩ <;> (rw [h.cell]; rfl)
theorem poExtra_le : ((List.range 256).all fun b => Nat.ble (poExtra (poK b) (poI b)) 20) = true := by decide +kernel
theorem kinds_below {w w' : World} (h : KindsAt w) (hb : Below w.heap.size w w') : KindsAt w' := fun k hk => (hb.cell (p := ⟨0, k, none⟩) (cell_lt (h k hk))).trans (h k hk)
end Go.Proofs.YtopkjniegncokaaDoor
