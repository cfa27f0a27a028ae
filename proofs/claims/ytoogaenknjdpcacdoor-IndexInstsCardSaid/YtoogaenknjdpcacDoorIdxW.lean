/- The law IndexWalks, over registers as numbers; the chapter's example. -/
import Derived.Test.YtoogaenknjdpcacDoorIdx
namespace Go.Proofs.YtoogaenknjdpcacDoor
open Go.ChangeShapes Go.WideShapes Go.ChangeAt Go.RowKit
set_option linter.unusedVariables false

set_option maxRecDepth 100000 in
theorem eql_rg (s : Rg) (w : World) : (binOp .eql 34 (.agg #[.int .u8 s.A, .int .u8 s.B, .int .u8 s.D, .int .u8 s.C, .int .u16 s.X, .int .u16 s.Y, .int .u16 s.U, .int .u16 s.S, .int .u16 s.P]) (.agg #[.int .u8 s.A, .int .u8 s.B, .int .u8 s.D, .int .u8 s.C, .int .u16 s.X, .int .u16 s.Y, .int .u16 s.U, .int .u16 s.S, .int .u16 s.P])).run Tryd.prog w = .ok (.bool true) w := by
  go_simp
theorem KindsAt.below20 {w w' : World} (h : KindsAt w) (hb : Below w.heap.size w w') : KindsAt w' := fun k hk => (hb.cell (p := ⟨2, k, none⟩) (cell_lt (h k hk))).trans (h k hk)
theorem po81 : poK 129 = 8 ∧ poR 129 = 1 ∧ poO 129 = 0 := by decide +kernel
set_option maxRecDepth 100000 in
set_option maxHeartbeats 2000000 in
theorem alive20 (w : World) (hT : KindsAt w) : Calls Tryd.prog 21 #[] w fun e w' => e = .returned (.bool true) ∧ Below w.heap.size w w' := by
  have C1 := of_any 129 (by decide) w hT
  have C2 := fun w => idxOf_any 8 (by decide) 1 0 (poI 129) ⟨0, 0, 0, 0, 5, 0, 0, 0, 0⟩ (by constructor <;> decide) 0 0 (by decide) (by decide) (by decide) w
  rw [po81.1, po81.2.1, po81.2.2] at C1
  rw [show idA 8 1 0 0 0 ⟨0, 0, 0, 0, 5, 0, 0, 0, 0⟩ = 5 by decide, show idR 8 1 ⟨0, 0, 0, 0, 5, 0, 0, 0, 0⟩ = ⟨0, 0, 0, 0, 7, 0, 0, 0, 0⟩ by rfl] at C2
  have C1 := Lib.hid C1
  have C2 := Lib.hid C2
  have HE := eql_rg ⟨0, 0, 0, 0, 7, 0, 0, 0, 0⟩
  generalize poI 129 = d at C1 C2
  clear hT
  go_enter Tryd.func21, Tryd.ntmps21
  go_wp2_with fail
  refine C1.out.mono ?_
  rintro e w1 ⟨rfl, hb1⟩
  have B1 := Lib.hid hb1
  clear hb1
  go_wp2_with fail
  refine (C2.out _).mono ?_
  rintro e w2 ⟨rfl, hb2⟩
  have B2 := Lib.hid (Below.trans0 B1.out hb2)
  clear hb2
  go_wp2
  go_ret
  exact ⟨rfl, Below.alloc0 B2.out _⟩
end Go.Proofs.YtoogaenknjdpcacDoor
