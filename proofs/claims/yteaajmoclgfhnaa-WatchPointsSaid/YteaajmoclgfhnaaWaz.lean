/- Points at addresses: the chapter's example; the points of a kind that stay. -/
import Derived.Test.YteaajmoclgfhnaaWay
import Derived.Test.YteaajmoclgfhnaaEqI
import Derived.Deep.RegionHeld3
namespace Go.Proofs.Yteaajmoclgfhnaa
open Go.ChangeShapes Go.WideShapes Go.ChangeAt Go.RowKit
set_option linter.unusedVariables false

theorem Kp.of_new {g : Nat} {v : Value} {w0 w w' : World} (h : Kp g v w w') (hb : Below w0.heap.size w0 w) (hg : w0.heap.size ≤ g) (hv : ∀ b, v.ownBlock = some b → g + 1 ≤ b) : Below w0.heap.size w0 w' :=
  Kp.below h hb hg (fun b hh => by have := hv b hh; omega) hb.size
set_option maxRecDepth 100000 in
set_option maxHeartbeats 4000000 in
theorem alive49 (w : World) : Calls Try.prog 21 #[] w fun e w' => e = .returned (.bool true) ∧ Below w.heap.size w w' := by
  have Z0 := Lib.hid (Blk.new w 49 #[.slice none 0 0, .int .i64 0] (0, 0))
  have B0 := Lib.hid (Below.alloc0 (Below.refl w.heap.size w) (Obj.cells #[.slice none 0 0, .int .i64 0] 49))
  have CA := Lib.hid (add_any w.heap.size (.slice none 0 0) [] 0 1 5 6 _ ⟨Z0.out, Els.Own.nil_ _ _⟩ (by simp) (by decide) (by decide))
  go_enter Try.func21, Try.ntmps21
  go_wp2_with fail
  refine CA.out.mono ?_
  rintro e w1 (⟨h, -, -⟩ | ⟨-, rfl, v', hw, hk, ho⟩)
  · exact absurd rfl h
  have B1 := Lib.hid (Kp.of_new hk B0.out (Nat.le_refl _) (fun b hh => by cases hh))
  have HW1 := Lib.hid hw
  have CC := Lib.hid (cycle_any w.heap.size v' (0 + 1) _ ⟨6, 0, false, false, false, false, false, false, true⟩ w1 hw.1 hw.2.rd (by simp))
  clear hw hk ho CA
  go_wp2_with fail
  refine CC.out.mono ?_
  rintro e w2 ⟨v2, rfl, hown, hb⟩
  have B2 := Lib.hid (Below.trans0 B1.out hb)
  have HO2 := Lib.hid (show eI.Own 3 w2 w1.heap.size v2 [1] from hown)
  obtain ⟨A2, c2, rfl, -⟩ := Els.Rd.open_ HO2.out.rd
  have HR2 := Lib.hid (Els.Rd.alloc HO2.out.rd (Obj.cells #[.int .i64 1] 3))
  have HJ2 := Lib.hid (Els.Rd.new (E := eI) w2 rfl 3 [1] #[.int .i64 1] 1 rfl rfl 1)
  have B3 := Lib.hid (Below.alloc0 B2.out (Obj.cells #[.int .i64 1] 3))
  clear hb hown CC
  go_wp2_with (go_at_call 18; refine (eqI_b _ _ [1] [1] _ HR2.out HJ2.out (by decide) (by decide)).mono ?_; rintro e w5 ⟨rfl, hb⟩; have HB6 := Lib.hid (Below.trans0 B3.out hb))
  go_wp2
  go_ret
  exact ⟨rfl, HB6.out⟩
end Go.Proofs.Yteaajmoclgfhnaa
