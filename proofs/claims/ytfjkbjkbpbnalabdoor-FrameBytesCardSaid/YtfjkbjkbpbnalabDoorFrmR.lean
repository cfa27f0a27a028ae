/- Contracts of the document's own interrupts (spinetref25); the law FrameEnters. -/
import Derived.Test.YtfjkbjkbpbnalabDoorFrm
import Derived.Test.YtfjkbjkbpbnalabDoorStc
import Derived.Test.YtfjkbjkbpbnalabDoorFlgRef
namespace Go.Proofs.YtfjkbjkbpbnalabDoor
open Go.ChangeShapes Go.WideShapes Go.ChangeAt Go.RowKit
set_option linter.unusedVariables false

theorem Blk.newF (w : World) (o : Obj) (t : TypeId) (cs : Array Value) : Blk ((w.alloc o).alloc (.cells cs t)) (w.heap.size + 1) t cs := by
  have e : (w.alloc o).heap.size = w.heap.size + 1 := by simp
  have := Blk.new (w.alloc o) t cs (0, 0)
  rw [e] at this
  exact this
abbrev w4set (w : World) (g : Nat) (v0 v1 v2 v3 : Value) : World := (((w.setCell ⟨g, 0, none⟩ v0).setCell ⟨g, 1, none⟩ v1).setCell ⟨g, 2, none⟩ v2).setCell ⟨g, 3, none⟩ v3
theorem Blk.set4 {w : World} {g : Nat} {t : TypeId} {u0 u1 u2 u3 : Value} (h : Blk w g t #[u0, u1, u2, u3]) (v0 v1 v2 v3 : Value) : Blk (w4set w g v0 v1 v2 v3) g t #[v0, v1, v2, v3] := by
  have := (((h.set_ 0 v0).set_ 1 v1).set_ 2 v2).set_ 3 v3
  simpa using this
theorem Blk.far4 {w : World} {g g' : Nat} {t : TypeId} {cs : Array Value} (h : Blk w g t cs) (hg : g ≠ g') (v0 v1 v2 v3 : Value) : Blk (w4set w g' v0 v1 v2 v3) g t cs :=
  (((h.far (p := ⟨g', 0, none⟩) hg v0).far (p := ⟨g', 1, none⟩) hg v1).far (p := ⟨g', 2, none⟩) hg v2).far (p := ⟨g', 3, none⟩) hg v3
theorem Below.set4 {w w' : World} {B g : Nat} (h : Below B w w') (hg : B ≤ g) (v0 v1 v2 v3 : Value) : Below B w (w4set w' g v0 v1 v2 v3) :=
  (((h.setCell (p := ⟨g, 0, none⟩) hg v0).setCell (p := ⟨g, 1, none⟩) hg v1).setCell (p := ⟨g, 2, none⟩) hg v2).setCell (p := ⟨g, 3, none⟩) hg v3
theorem size_w4 (w : World) (g : Nat) (v0 v1 v2 v3 : Value) : (w4set w g v0 v1 v2 v3).heap.size = w.heap.size := by simp [w4set]
set_option maxRecDepth 100000 in
set_option maxHeartbeats 1000000 in
theorem alive25 (w : World) : Calls Tryd.prog 14 #[] w fun e w' => e = .returned (.bool true) ∧ Below w.heap.size w w' := by
  have C := frameOf_any 3 0 (CC.mk' (by omega) (by omega)) w
  rw [show enO 3 0 = (128, 144, 65528, true, true) by decide +kernel] at C
  have C := Lib.hid C
  go_enter Tryd.func14, Tryd.ntmps14
  go_wp2_with fail
  refine C.out.mono ?_
  rintro e w1 ⟨rfl, hb⟩
  have HB := Lib.hid hb
  clear hb
  unfold enC
  simp only
  go_wp2
  go_ret
  exact ⟨rfl, Below.alloc0 HB.out _⟩
end Go.Proofs.YtfjkbjkbpbnalabDoor
