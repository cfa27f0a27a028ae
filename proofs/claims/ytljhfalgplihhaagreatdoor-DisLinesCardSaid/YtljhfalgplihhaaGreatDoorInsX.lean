/- Contracts: bytes.HasPrefix; package inst's Next, Target, Same; the chapter's example (alive18). -/
import Derived.Test.YtljhfalgplihhaaGreatDoorInsW
import Derived.Deep.CutBlock
import Derived.Test.YtljhfalgplihhaaGreatDoorEq
namespace Go.Proofs.YtljhfalgplihhaaGreatDoor
open Go.ChangeShapes Go.WideShapes Go.ChangeAt Go.RowKit
set_option linter.unusedVariables false

theorem Ints.take_ {k : IntKind} {w : World} {B n : Nat} {A : Option Addr} {xs : List Int} (h : Ints k w B A n xs) (m : Nat) (hm : m ≤ n) : Ints k w B A m (xs.take m) := by
  obtain ⟨h1, h2, h3⟩ := h
  refine ⟨by rw [List.length_take]; omega, fun z hz => h2 z (List.mem_of_mem_take hz), fun h0 => ?_⟩
  obtain ⟨b, off, e, hb, hc⟩ := h3 (by omega)
  refine ⟨b, off, e, hb, fun i hi => ?_⟩
  rw [hc i (by omega), iat_eq _ _ (by rw [h1]; omega), iat_eq _ _ (by rw [List.length_take, h1]; omega), List.getElem_take]
theorem ints_blk18 {w : World} {g : Nat} {t : TypeId} {xs : List Int} (h : Blk w g t (xs.map (Value.int .u8)).toArray) (hwf : ∀ z ∈ xs, (Lit.int .u8 z).wf = true) (n : Nat) (hn : xs.length = n) :
    Ints .u8 w w.heap.size (some ⟨g, 0, none⟩) n xs :=
  ⟨hn, hwf, fun _ => ⟨g, 0, rfl, h.lt, fun i hi => by
    rw [Nat.zero_add, h.cell, List.getElem?_toArray, List.getElem?_map, List.getElem?_eq_getElem (by omega), iat_eq _ _ (by omega)]; rfl⟩⟩
def hasPre (xs ys : List Int) : Bool := decide (ys.length ≤ xs.length) && (xs.take ys.length == ys)
set_option maxRecDepth 100000 in
set_option maxHeartbeats 1000000 in
theorem nextI_any (p c o m r b v l a : Int) (l0 : 0 ≤ l) (l1 : l ≤ 100) (a0 : 0 ≤ a) (a1 : a < 65536) (w : World) :
    Calls Tryz.prog 29 #[.agg (iC p c o m r b v l), .int .u16 a] w fun e w' => e = .returned (.int .u16 ((a + l) % 65536)) ∧ Below w.heap.size w w' := by
  have HB := Lib.hid (Below.alloc0 (Below.refl w.heap.size w) (Obj.cells (iC p c o m r b v l) 37))
  have t1 : IntKind.u16.wrap l = l := by rw [IntKind.wrap_u16]; omega
  go_enter Tryz.func29, Tryz.ntmps29
  go_wp2
  go_ret
  exact ⟨ret_int (by first | rfl | (rw [IntKind.wrap_u16])), HB.out⟩
def tgtI (m l v a : Int) : Int := if m = 6 ∨ m = 7 then (a + l + v) % 65536 else 0
def isRel (m : Int) : Bool := m == 6 || m == 7
theorem ret_tgt {a b : Int} {p q : Bool} (h : a = b) (h2 : p = q) : Ending.returned (.tuple #[.int .u16 a, .bool p]) = .returned (.tuple #[.int .u16 b, .bool q]) := by rw [h, h2]
set_option maxRecDepth 100000 in
set_option maxHeartbeats 2000000 in
theorem target_any (p c o m r b v l a : Int) (l0 : 0 ≤ l) (l1 : l ≤ 100) (v0 : 0 ≤ v) (v1 : v < 65536) (a0 : 0 ≤ a) (a1 : a < 65536) (w : World) :
    Calls Tryz.prog 75 #[.agg (iC p c o m r b v l), .int .u16 a] w fun e w' => e = .returned (.tuple #[.int .u16 (tgtI m l v a), .bool (isRel m)]) ∧ Below w.heap.size w w' := by
  have HB := Lib.hid (Below.alloc0 (Below.refl w.heap.size w) (Obj.cells (iC p c o m r b v l) 37))
  have HI := Lib.hid (Blk.new w 37 (iC p c o m r b v l) (0, 0))
  have CN := Lib.hid (fun w => nextI_any p c o m r b v l a l0 l1 a0 a1 w)
  have HX : Hid (((a + l) % 65536 + v) % 65536 = (a + l + v) % 65536) := Lib.hid (by omega)
  obtain ⟨x, hx⟩ : ∃ x, (a + l) % 65536 = x := ⟨_, rfl⟩
  rw [hx] at CN HX
  have x0 : 0 ≤ x := by omega
  have x1 : x < 65536 := by omega
  clear hx
  have t1 : IntKind.u16.wrap (x + v) = (x + v) % 65536 := by rw [IntKind.wrap_u16]
  rcases (show m = 6 ∨ m = 7 ∨ (¬ m = 6 ∧ ¬ m = 7) by omega) with rfl | rfl | ⟨h6, h7⟩
  · have HId := Lib.hid (Blk.drew HI.out)
    have HBd := Lib.hid (Below.drew0 HB.out)
    go_enter Tryz.func75, Tryz.ntmps75
    go_wp2
    go_region_held3 (fun w' => w'.cell? ⟨w.heap.size, 0, none⟩ = some (.int .i64 p) ∧ w'.cell? ⟨w.heap.size, 1, none⟩ = some (.int .u8 c) ∧ w'.cell? ⟨w.heap.size, 2, none⟩ = some (.int .i64 o) ∧ w'.cell? ⟨w.heap.size, 3, none⟩ = some (.int .i64 6) ∧ w'.cell? ⟨w.heap.size, 4, none⟩ = some (.int .i64 r) ∧ w'.cell? ⟨w.heap.size, 5, none⟩ = some (.int .u8 b) ∧ w'.cell? ⟨w.heap.size, 6, none⟩ = some (.int .u16 v) ∧ w'.cell? ⟨w.heap.size, 7, none⟩ = some (.int .i64 l))
      (first
        | (with_reducible exact HId.out.s8)
        | (with_reducible exact HI2.out.s8))
      ((go_at_call 29; (with_reducible refine (CN.out _).mono ?_); rintro e w2 ⟨rfl, hb2⟩; have HI2 := Lib.hid (Blk.below HId.out hb2 HId.out.lt); have HB2 := Lib.hid (Below.trans0 HBd.out hb2); clear hb2))
    go_wp2
    all_goals
      go_ret2
      refine ⟨ret_tgt ?_ rfl, HB2.out⟩
      unfold tgtI
      first
        | (rw [if_pos (by simp)]; exact HX.out)
        | (rw [if_pos (by simp), ← HX.out, ← t1])
  · have HId := Lib.hid (Blk.drew HI.out)
    have HBd := Lib.hid (Below.drew0 HB.out)
    go_enter Tryz.func75, Tryz.ntmps75
    go_wp2
    go_region_held3 (fun w' => w'.cell? ⟨w.heap.size, 0, none⟩ = some (.int .i64 p) ∧ w'.cell? ⟨w.heap.size, 1, none⟩ = some (.int .u8 c) ∧ w'.cell? ⟨w.heap.size, 2, none⟩ = some (.int .i64 o) ∧ w'.cell? ⟨w.heap.size, 3, none⟩ = some (.int .i64 7) ∧ w'.cell? ⟨w.heap.size, 4, none⟩ = some (.int .i64 r) ∧ w'.cell? ⟨w.heap.size, 5, none⟩ = some (.int .u8 b) ∧ w'.cell? ⟨w.heap.size, 6, none⟩ = some (.int .u16 v) ∧ w'.cell? ⟨w.heap.size, 7, none⟩ = some (.int .i64 l))
      (first
        | (with_reducible exact HId.out.s8)
        | (with_reducible exact HI2.out.s8))
      ((go_at_call 29; (with_reducible refine (CN.out _).mono ?_); rintro e w2 ⟨rfl, hb2⟩; have HI2 := Lib.hid (Blk.below HId.out hb2 HId.out.lt); have HB2 := Lib.hid (Below.trans0 HBd.out hb2); clear hb2))
    go_wp2
    all_goals
      go_ret2
      refine ⟨ret_tgt ?_ rfl, HB2.out⟩
      unfold tgtI
      first
        | (rw [if_pos (by simp)]; exact HX.out)
        | (rw [if_pos (by simp), ← HX.out, ← t1])
  · have e6 := ne_beq h6
    have e7 := ne_beq h7
    have hr : tgtI m l v a = 0 := by unfold tgtI; rw [if_neg (by omega)]
    have hb : isRel m = false := by unfold isRel; rw [e6, e7]; rfl
    rw [hr, hb]
    clear h6 h7 hr hb
    go_enter Tryz.func75, Tryz.ntmps75
    go_wp2
    go_ret2
    exact ⟨rfl, HB.out⟩
end Go.Proofs.YtljhfalgplihhaaGreatDoor
