/- The chapter's examples (package table). -/
import Derived.Test.YtfkcogccbeolfabDoorTblO
import Derived.Test.YtfkcogccbeolfabDoorInsO
import Derived.Deep.CutBlock
namespace Go.Proofs.YtfkcogccbeolfabDoor
open Go.ChangeShapes Go.WideShapes Go.ChangeAt Go.RowKit
set_option linter.unusedVariables false

theorem ints_blk {w : World} {g : Nat} {t : TypeId} {xs : List Int} (h : Blk w g t (xs.map (Value.int .u8)).toArray) (hwf : ∀ z ∈ xs, (Lit.int .u8 z).wf = true) (n : Nat) (hn : xs.length = n) :
    Ints .u8 w w.heap.size (some ⟨g, 0, none⟩) n xs :=
  ⟨hn, hwf, fun _ => ⟨g, 0, rfl, h.lt, fun i hi => by
    rw [Nat.zero_add, h.cell, List.getElem?_toArray, List.getElem?_map, List.getElem?_eq_getElem (by omega), iat_eq _ _ (by omega)]; rfl⟩⟩
theorem ok1 : inOk [150, 0] = true := by decide +kernel
theorem ok2 : inOk [16, 142, 0, 0] = true := by decide +kernel
theorem parts1 : inPg [150, 0] = 1 ∧ inCo [150, 0] = 150 ∧ eOp (inE [150, 0]) = 11 ∧ eMode (inE [150, 0]) = 3 ∧ eReg (inE [150, 0]) = 8 ∧ inPo [150, 0] = 0 ∧ inVa [150, 0] = 0 ∧ inLn [150, 0] = 2 := by decide +kernel
theorem parts2 : inPg [16, 142, 0, 0] = 2 ∧ inCo [16, 142, 0, 0] = 142 ∧ eOp (inE [16, 142, 0, 0]) = 24 ∧ eMode (inE [16, 142, 0, 0]) = 2 ∧ eReg (inE [16, 142, 0, 0]) = 2 ∧ inPo [16, 142, 0, 0] = 0 ∧ inVa [16, 142, 0, 0] = 0 ∧ inLn [16, 142, 0, 0] = 4 := by decide +kernel
theorem agg1 : inAgg [150, 0] = iC 1 150 11 3 8 0 0 2 := by
  obtain ⟨a, b, c, d, e, f, g, h⟩ := parts1
  unfold inAgg insC
  rw [if_pos ok1, a, b, c, d, e, f, g, h]; rfl
theorem agg2 : inAgg [16, 142, 0, 0] = iC 2 142 24 2 2 0 0 4 := by
  obtain ⟨a, b, c, d, e, f, g, h⟩ := parts2
  unfold inAgg insC
  rw [if_pos ok2, a, b, c, d, e, f, g, h]; rfl
theorem wf1 : ∀ z ∈ ([150, 0] : List Int), (Lit.int .u8 z).wf = true := by decide +kernel
theorem wf2 : ∀ z ∈ ([16, 142, 0, 0] : List Int), (Lit.int .u8 z).wf = true := by decide +kernel
theorem least1 : leastN 1 11 3 0 = 4 := by decide +kernel
theorem least2 : leastN 2 24 2 0 = 4 := by decide +kernel
theorem blk8new (w : World) (t : TypeId) (cs : Array Value) : Blk (w.alloc (.cells cs t)) w.heap.size t cs := Blk.new w t cs (0, 0)
set_option maxRecDepth 100000 in
set_option maxHeartbeats 1000000 in
theorem alive19 (w : World) (hT : KindsAt w) : Calls Tryd.prog 28 #[] w fun e w' => e = .returned (.bool true) ∧ Below w.heap.size w w' := by
  have HT := Lib.hid hT
  have C1 := Lib.hid (fun (w : World) (g : Nat) (h : Blk w g 5 #[.int .u8 150, .int .u8 0]) => of18_any (some ⟨g, 0, none⟩) 2 2 [150, 0] w (ints_blk (xs := [150, 0]) h wf1 2 rfl) (fun e => by cases e) (by decide))
  have C2 := Lib.hid (fun (w : World) (g : Nat) (h : Blk w g 5 #[.int .u8 16, .int .u8 142, .int .u8 0, .int .u8 0]) => of18_any (some ⟨g, 0, none⟩) 4 4 [16, 142, 0, 0] w (ints_blk (xs := [16, 142, 0, 0]) h wf2 4 rfl) (fun e => by cases e) (by decide))
  rw [agg1, ok1] at C1
  rw [agg2, ok2] at C2
  have L1 := Lib.hid (fun w hT => least_any 1 150 11 3 8 0 2 0 (by decide) w hT)
  have L2 := Lib.hid (fun w hT => least_any 2 142 24 2 2 0 4 0 (by decide) w hT)
  rw [least1] at L1
  rw [least2] at L2
  clear hT
  go_enter Tryd.func28, Tryd.ntmps28
  go_wp2_with fail
  refine (C1.out _ w.heap.size (Blk.new w 5 _ (0, 0))).mono ?_
  rintro e w1 ⟨rfl, hb1⟩
  have HB1 := Lib.hid (Below.trans0 (Below.alloc0 (Below.refl w.heap.size w) _) hb1)
  have HI1 := Lib.hid (Blk.alloc (Blk.new w1 36 (iC 1 150 11 3 8 0 0 2) (0, 0)) (Obj.cells #[.int .u8 16, .int .u8 142, .int .u8 0, .int .u8 0] 5))
  have HBa := Lib.hid (Below.alloc0 (Below.alloc0 HB1.out (Obj.cells (iC 1 150 11 3 8 0 0 2) 36)) (Obj.cells #[.int .u8 16, .int .u8 142, .int .u8 0, .int .u8 0] 5))
  clear hb1
  go_wp2_with fail
  refine (C2.out _ (w1.heap.size + 1) (blk_new2 w1 _ 5 _)).mono ?_
  rintro e w2 ⟨rfl, hb2⟩
  have HI2 := Lib.hid (Blk.alloc (Blk.below HI1.out hb2 HI1.out.lt) (Obj.cells (iC 2 142 24 2 2 0 0 4) 36))
  have HI3 := Lib.hid (Blk.new w2 36 (iC 2 142 24 2 2 0 0 4) (0, 0))
  have HB2 := Lib.hid (Below.alloc0 (Below.trans0 HBa.out hb2) (Obj.cells (iC 2 142 24 2 2 0 0 4) 36))
  clear hb2 HI1 HBa HB1
  go_upto_region 3 with (fail)
  generalize w2.alloc (Obj.cells (iC 2 142 24 2 2 0 0 4) 36) = W at HI2 HI3 HB2 ⊢
  have HTW := Lib.hid (kinds_below HT.out HB2.out)
  obtain ⟨c0, c1, c2, c3, c4, c5, c6, c7⟩ := blk8 HI2.out
  go_wp2_with fail
  refine (L1.out _ HTW.out).mono ?_
  rintro e w3 ⟨rfl, hb3⟩
  have HI4 := Lib.hid (Blk.below HI3.out hb3 HI3.out.lt)
  have HB4 := Lib.hid (Below.trans0 HB2.out hb3)
  have HT4 := Lib.hid (kinds_below HTW.out hb3)
  clear hb3 c0 c1 c2 c3 c4 c5 c6 c7
  obtain ⟨c0, c1, c2, c3, c4, c5, c6, c7⟩ := blk8 HI4.out
  go_wp2_with fail
  refine (L2.out _ HT4.out).mono ?_
  rintro e w5 ⟨rfl, hb5⟩
  have HB5 := Lib.hid (Below.trans0 HB4.out hb5)
  clear hb5
  go_wp2
  go_ret
  exact ⟨rfl, HB5.out⟩
end Go.Proofs.YtfkcogccbeolfabDoor
