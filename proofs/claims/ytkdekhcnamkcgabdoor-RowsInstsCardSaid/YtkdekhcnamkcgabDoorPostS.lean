/- Contracts: what a postbyte costs, whether two readings of one are the same, the chapter's example. -/
import Derived.Test.YtkdekhcnamkcgabDoorPost
import Derived.IntWalk
import Derived.Deep.RegionHeld3
namespace Go.Proofs.YtkdekhcnamkcgabDoor
open Go.ChangeShapes Go.WideShapes Go.ChangeAt Go.RowKit
set_option linter.unusedVariables false

theorem poIdle_fin : ∀ n : Fin 14, 1 ≤ poIdle n.val ∧ poIdle n.val ≤ 5 ∧ poBytes n.val ≤ 2 := by decide +kernel
def S4 (w' : World) (g : Nat) (k r o : Int) (d : Bool) : Prop := w'.cell? ⟨g, 0, none⟩ = some (.int .i64 k) ∧ w'.cell? ⟨g, 1, none⟩ = some (.int .i64 r) ∧ w'.cell? ⟨g, 2, none⟩ = some (.int .u16 o) ∧ w'.cell? ⟨g, 3, none⟩ = some (.bool d)
theorem Blk.s4 {w : World} {g : Nat} {t : TypeId} {k r o : Int} {d : Bool} (h : Blk w g t #[.int .i64 k, .int .i64 r, .int .u16 o, .bool d]) :
    w.cell? ⟨g, 0, none⟩ = some (.int .i64 k) ∧ w.cell? ⟨g, 1, none⟩ = some (.int .i64 r) ∧ w.cell? ⟨g, 2, none⟩ = some (.int .u16 o) ∧ w.cell? ⟨g, 3, none⟩ = some (.bool d) := by
  refine ⟨?_, ?_, ?_, ?_⟩ <;> (rw [h.cell]; rfl)
theorem Blk.belowD {w w' : World} {g B : Nat} {t : TypeId} {cs : Array Value} (h : Blk w g t cs) (hb : Below B w.drew w') (hg : g < B) : Blk w' g t cs := Blk.below (w := w.drew) h hb hg
set_option maxRecDepth 100000 in
set_option maxHeartbeats 1000000 in
theorem extra_any (k r o : Int) (d : Bool) (w : World) (n : Nat) (hk : k = n) (hn : n < 14) :
    Calls Tryd.prog 69 #[.agg #[.int .i64 k, .int .i64 r, .int .u16 o, .bool d]] w fun e w' => e = .returned (.int .i64 (poExtra n d : Int)) ∧ Below w.heap.size w w' := by
  obtain ⟨p1, p2, p3⟩ := poIdle_fin ⟨n, hn⟩
  simp only at p1 p2 p3
  have HX : Hid (((poExtra n d : Nat) : Int) = (poBytes n : Int) + poIdle n - 1 + if d then 3 else 0) := Lib.hid (by unfold poExtra; cases d <;> simp <;> omega)
  obtain ⟨x, hx⟩ : ∃ x, poBytes n = x := ⟨_, rfl⟩
  obtain ⟨y, hy⟩ : ∃ y, poIdle n = y := ⟨_, rfl⟩
  have cb := fun (w : World) => bytes_any k r o d w n hk hn
  have ci := fun (w : World) => idle_any k r o d w n hk hn
  rw [hx] at cb p3 HX
  rw [hy] at ci p1 p2 HX
  have CB := Lib.hid cb
  have CI := Lib.hid ci
  have HB := Lib.hid (Blk.new w 56 #[.int .i64 k, .int .i64 r, .int .u16 o, .bool d] (0, 0))
  have t1 : IntKind.i64.wrap ((x : Int) + y) = (x : Int) + y := IntWalk.i64_in _ (by omega)
  have t2 : IntKind.i64.wrap ((x : Int) + y - 1) = (x : Int) + y - 1 := IntWalk.i64_in _ (by omega)
  clear cb ci hx hy hk
  go_enter Tryd.func69, Tryd.ntmps69
  go_wp2
  go_region_held3 (fun w' => w'.cell? ⟨w.heap.size, 0, none⟩ = some (.int .i64 k) ∧ w'.cell? ⟨w.heap.size, 1, none⟩ = some (.int .i64 r) ∧ w'.cell? ⟨w.heap.size, 2, none⟩ = some (.int .u16 o) ∧ w'.cell? ⟨w.heap.size, 3, none⟩ = some (.bool d))
    (first
      | exact HB.out.s4
      | exact HB1.out.s4
      | exact HB2.out.s4)
    (first
      | (go_at_call 50; ((with_reducible refine (CB.out _).mono ?_); rintro e w1 ⟨rfl, hb1⟩; have HB1 := Lib.hid (by first | exact Blk.below HB.out hb1 (by simp) | exact Blk.belowD HB.out hb1 (by simp)); have Hb1 := Lib.hid hb1; clear hb1))
      | (go_at_call 51; ((with_reducible refine (CI.out _).mono ?_); rintro e w2 ⟨rfl, hb2⟩; have HB2 := Lib.hid (by first | exact Blk.below HB1.out hb2 HB1.out.lt | exact Blk.belowD HB1.out hb2 HB1.out.lt); have Hb2 := Lib.hid hb2; clear hb2)))
  clear t1 t2
  obtain ⟨z0, z1, z2, z3⟩ := HB2.out.s4
  have b1 : Below w.heap.size w w1 := by first | exact Below.trans0 (Below.alloc0 (Below.refl _ _) _) Hb1.out | exact Below.trans0 (Below.drew0 (Below.alloc0 (Below.refl _ _) _)) Hb1.out
  have b2 : Below w.heap.size w w2 := by first | exact Below.trans0 b1 Hb2.out | exact Below.trans0 (Below.drew0 b1) Hb2.out
  have B2 := Lib.hid b2
  clear b1 b2
  cases d
  all_goals
    go_wp2
    go_ret
    refine ⟨ret_int ?_, by first | exact B2.out | exact Below.drew0 B2.out⟩
    rw [HX.out]
    simp
end Go.Proofs.YtkdekhcnamkcgabDoor
