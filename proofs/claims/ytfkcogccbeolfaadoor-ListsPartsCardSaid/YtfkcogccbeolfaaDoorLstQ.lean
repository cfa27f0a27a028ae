/- The law ListsParts, over registers as numbers. -/
import Derived.Test.YtfkcogccbeolfaaDoorLstP
namespace Go.Proofs.YtfkcogccbeolfaaDoor
open Go.ChangeShapes Go.WideShapes Go.ChangeAt Go.RowKit
set_option linter.unusedVariables false

def Box (w : World) (g : Nat) (tr tp tq : TypeId) (r : Rg) (c : Int) (h : Bool) : Prop := RgAt w g tr r ∧ Blk w (g + 1) tp #[.int .i64 c, .bool h] ∧ Blk w (g + 2) tq #[.int .i64 c, .bool h]
theorem Box.cells {w : World} {g : Nat} {tr tp tq : TypeId} {r : Rg} {c : Int} {h : Bool} (hb : Box w g tr tp tq r c h) :
    (w.cell? ⟨g, 0, none⟩ = some (.int .u8 r.A) ∧ w.cell? ⟨g, 1, none⟩ = some (.int .u8 r.B) ∧ w.cell? ⟨g, 2, none⟩ = some (.int .u8 r.D) ∧ w.cell? ⟨g, 3, none⟩ = some (.int .u8 r.C) ∧ w.cell? ⟨g, 4, none⟩ = some (.int .u16 r.X) ∧ w.cell? ⟨g, 5, none⟩ = some (.int .u16 r.Y) ∧ w.cell? ⟨g, 6, none⟩ = some (.int .u16 r.U) ∧ w.cell? ⟨g, 7, none⟩ = some (.int .u16 r.S) ∧ w.cell? ⟨g, 8, none⟩ = some (.int .u16 r.P)) ∧
    (w.cell? ⟨g + 1, 0, none⟩ = some (.int .i64 c) ∧ w.cell? ⟨g + 1, 1, none⟩ = some (.bool h)) ∧ (w.cell? ⟨g + 2, 0, none⟩ = some (.int .i64 c) ∧ w.cell? ⟨g + 2, 1, none⟩ = some (.bool h)) :=
  ⟨hb.1.cells, ⟨by rw [hb.2.1.cell]; rfl, by rw [hb.2.1.cell]; rfl⟩, ⟨by rw [hb.2.2.cell]; rfl, by rw [hb.2.2.cell]; rfl⟩⟩
theorem Box.below {w w' : World} {g : Nat} {tr tp tq : TypeId} {r : Rg} {c : Int} {h : Bool} (hb : Box w g tr tp tq r c h) (b : Below w.heap.size w w') : Box w' g tr tp tq r c h :=
  ⟨RgAt.below hb.1 b hb.1.lt, Blk.below hb.2.1 b hb.2.1.lt, Blk.below hb.2.2 b hb.2.2.lt⟩
theorem Box.drew {w : World} {g : Nat} {tr tp tq : TypeId} {r : Rg} {c : Int} {h : Bool} (hb : Box w g tr tp tq r c h) : Box w.drew g tr tp tq r c h := hb
theorem blk_new2' (w : World) (o : Obj) (t : TypeId) (cs : Array Value) : Blk ((w.alloc o).alloc (.cells cs t)) (w.heap.size + 1) t cs := by
  have e : (w.alloc o).heap.size = w.heap.size + 1 := by simp
  have := Blk.new (w.alloc o) t cs (0, 0)
  rw [e] at this
  exact this
set_option maxRecDepth 100000 in
set_option maxHeartbeats 4000000 in
theorem law_parts (r : Rg) (hr : r.Ok) (c : Int) (h : Bool) (b : Int) (b0 : 0 ≤ b) (b1 : b < 256) (w : World) (hT : TabAt w) :
    Calls Tryd.prog 10 #[.agg r.cells, .agg #[.int .i64 c, .bool h], .int .u8 b] w fun e w' => e = .returned (.bool true) ∧ Below w.heap.size w w' := by
  have C1 := Lib.hid (fun w => byte_any r hr c h w)
  have C2 := Lib.hid (fun w => refByte_any r hr c h w)
  have C3 := Lib.hid (fun w => with_any r hr c h b b0 b1 w)
  have C4 := Lib.hid (fun w => refWith_any r hr c h b b0 b1 w)
  obtain ⟨x, hx⟩ : ∃ x, byB r c h = x := ⟨_, rfl⟩
  obtain ⟨s, hs⟩ : ∃ s, withR r c h b = s := ⟨_, rfl⟩
  rw [hx] at C1 C2
  rw [hs] at C3 C4
  have HT := Lib.hid hT
  have ex : (x == x) = true := by simp
  clear hx hs hT
  have HBel := Lib.hid (show Below w.heap.size w (((w.alloc (Obj.cells r.cells 67)).alloc (Obj.cells #[.int .i64 c, .bool h] 63)).alloc (Obj.cells #[.int .i64 c, .bool h] 64)) from by repeat (first | exact Below.refl _ _ | apply Below.alloc0))
  have HBox := Lib.hid (show Box (((w.alloc (Obj.cells r.cells 67)).alloc (Obj.cells #[.int .i64 c, .bool h] 63)).alloc (Obj.cells #[.int .i64 c, .bool h] 64)) w.heap.size 67 63 64 r c h from ⟨Blk.alloc (Blk.alloc (Blk.new _ _ _ _) _) _, Blk.alloc (blk_new2' _ _ _ _) _, by
      have e : ((w.alloc (Obj.cells r.cells 67)).alloc (Obj.cells #[.int .i64 c, .bool h] 63)).heap.size = w.heap.size + 2 := by simp
      have := Blk.new ((w.alloc (Obj.cells r.cells 67)).alloc (Obj.cells #[.int .i64 c, .bool h] 63)) 64 #[.int .i64 c, .bool h] (0, 0)
      rw [e] at this
      exact this⟩)
  go_enter Tryd.func10, Tryd.ntmps10
  go_wp2
  generalize ((w.alloc _).alloc _).alloc _ = W at HBel HBox ⊢
  have HBd := Lib.hid (Box.drew HBox.out)
  have HWd := Lib.hid (Below.drew0 HBel.out)
  go_region_held3 (fun w' => (w'.cell? ⟨w.heap.size, 0, none⟩ = some (.int .u8 r.A) ∧ w'.cell? ⟨w.heap.size, 1, none⟩ = some (.int .u8 r.B) ∧ w'.cell? ⟨w.heap.size, 2, none⟩ = some (.int .u8 r.D) ∧ w'.cell? ⟨w.heap.size, 3, none⟩ = some (.int .u8 r.C) ∧ w'.cell? ⟨w.heap.size, 4, none⟩ = some (.int .u16 r.X) ∧ w'.cell? ⟨w.heap.size, 5, none⟩ = some (.int .u16 r.Y) ∧ w'.cell? ⟨w.heap.size, 6, none⟩ = some (.int .u16 r.U) ∧ w'.cell? ⟨w.heap.size, 7, none⟩ = some (.int .u16 r.S) ∧ w'.cell? ⟨w.heap.size, 8, none⟩ = some (.int .u16 r.P)) ∧
    (w'.cell? ⟨w.heap.size + 1, 0, none⟩ = some (.int .i64 c) ∧ w'.cell? ⟨w.heap.size + 1, 1, none⟩ = some (.bool h)) ∧ (w'.cell? ⟨w.heap.size + 2, 0, none⟩ = some (.int .i64 c) ∧ w'.cell? ⟨w.heap.size + 2, 1, none⟩ = some (.bool h)))
    (first
      | (with_reducible exact HBd.out.cells)
      | (with_reducible exact HB1.out.cells)
      | (with_reducible exact HB2.out.cells)
      | (with_reducible exact HB3.out.cells)
      | (with_reducible exact HB4.out.cells)
      | (with_reducible exact HB5.out.cells))
    (first
      | (go_at_call 41; ((with_reducible refine (C1.out _).mono ?_); rintro e w1 ⟨rfl, hb1⟩; have HB1 := Lib.hid (HBd.out.below hb1); have HW1 := Lib.hid (Below.trans0 HWd.out hb1); clear hb1))
      | (go_at_call 42; ((with_reducible refine (C2.out _).mono ?_); rintro e w2 ⟨rfl, hb1⟩; have HB2 := Lib.hid (HB1.out.below hb1); have HW2 := Lib.hid (Below.trans0 HW1.out hb1); clear hb1))
      | (go_at_call 43; ((with_reducible refine (C3.out _).mono ?_); rintro e w3 ⟨rfl, hb1⟩; have HB3 := Lib.hid (HB2.out.below hb1); have HW3 := Lib.hid (Below.trans0 HW2.out hb1); clear hb1))
      | (go_at_call 44; ((with_reducible refine (C4.out _).mono ?_); rintro e w4 ⟨rfl, hb1⟩; have HB4 := Lib.hid (HB3.out.below hb1); have HW4 := Lib.hid (Below.trans0 HW3.out hb1); clear hb1))
      | (go_at_call 40; ((with_reducible refine (alive17 _ (HT.out.below HW4.out)).mono ?_); rintro e w5 ⟨rfl, hb1⟩; have HB5 := Lib.hid (HB4.out.below hb1); have HW5 := Lib.hid (Below.trans0 HW4.out hb1); clear hb1)))
  go_wp2
  go_ret
  exact ⟨rfl, HW5.out⟩
end Go.Proofs.YtfkcogccbeolfaaDoor
