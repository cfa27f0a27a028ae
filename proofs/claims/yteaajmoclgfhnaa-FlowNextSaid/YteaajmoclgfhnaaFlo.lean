/- Flow: contracts of inst.Next, inst.Target, flow.branch, setsPC, Next, and of the document's own Next (spinetref54). -/
import Derived.Test.YteaajmoclgfhnaaFloN
import Derived.Test.YteaajmoclgfhnaaStc
import Derived.Test.YteaajmoclgfhnaaOwn
import Derived.Deep.RegionHeld3
import Derived.Deep.CutBlock
import Derived.Deep.QuietTactic
import Derived.BigQuiet
namespace Go.Proofs.Yteaajmoclgfhnaa
open Go.ChangeShapes Go.WideShapes Go.ChangeAt Go.RowKit
set_option linter.unusedVariables false

/-- An instruction's cells. -/
abbrev iD (p c o m r b v l : Int) : Array Value := #[.int .i64 p, .int .u8 c, .int .i64 o, .int .i64 m, .int .i64 r, .int .u8 b, .int .u16 v, .int .i64 l]
/-- An answer: a slice of words that reads so, and whether that is all. -/
def GivesW (L : List Int) (p : Bool) (w : World) (e : Ending) (w' : World) : Prop :=
  ∃ A c, e = .returned (.tuple #[.slice A L.length c, .bool p]) ∧ Ints .u16 w' w'.heap.size A L.length L ∧ Below w.heap.size w w'
theorem ints_lit16 {w : World} {t : TypeId} {g : Nat} (xs : List Int) (cs : Array Value) (hcs : cs = (xs.map (Value.int .u16)).toArray) (h : Blk w g t cs) (hwf : ∀ z ∈ xs, (Lit.int .u16 z).wf = true) (n : Nat) (hn : xs.length = n) :
    Ints .u16 w w.heap.size (some ⟨g, 0, none⟩) n xs :=
  ⟨hn, hwf, fun _ => ⟨g, 0, rfl, h.lt, fun i hi => by
    subst hcs
    rw [Nat.zero_add, h.cell, List.getElem?_toArray, List.getElem?_map, List.getElem?_eq_getElem (by omega), iat_eq _ _ (by omega)]; rfl⟩⟩
theorem wf16 (z : Int) (h0 : 0 ≤ z) (h1 : z < 65536) : (Lit.int .u16 z).wf = true := by simp [Lit.wf, IntKind.min, IntKind.max, IntKind.signed, IntKind.bits]; omega
theorem gw_nil (p : Bool) (w w' : World) (h : Below w.heap.size w w') : GivesW [] p w (.returned (.tuple #[.slice none 0 0, .bool p])) w' :=
  ⟨none, 0, rfl, Ints.nil_ _ _ _ _, h⟩
theorem gw_1 (x : Int) (x0 : 0 ≤ x) (x1 : x < 65536) (p : Bool) (c : Nat) (w W : World) (t : TypeId) (h : Below w.heap.size w W) (g : Nat) (hg : W.heap.size = g) : GivesW [x] p w (.returned (.tuple #[.slice (some ⟨g, 0, none⟩) 1 c, .bool p])) (W.alloc (.cells #[.int .u16 x] t)) :=
  hg ▸ ⟨_, c, rfl, ints_lit16 [x] _ rfl (Blk.new W t _ (0, 0)) (by simpa using wf16 x x0 x1) 1 rfl, Below.alloc0 h _⟩
theorem gw_2 (x y : Int) (x0 : 0 ≤ x) (x1 : x < 65536) (y0 : 0 ≤ y) (y1 : y < 65536) (p : Bool) (c : Nat) (w W : World) (t : TypeId) (h : Below w.heap.size w W) (g : Nat) (hg : W.heap.size = g) : GivesW [x, y] p w (.returned (.tuple #[.slice (some ⟨g, 0, none⟩) 2 c, .bool p])) (W.alloc (.cells #[.int .u16 x, .int .u16 y] t)) :=
  hg ▸ ⟨_, c, rfl, ints_lit16 [x, y] _ rfl (Blk.new W t _ (0, 0)) (by simpa using ⟨wf16 x x0 x1, wf16 y y0 y1⟩) 2 rfl, Below.alloc0 h _⟩
theorem nx_rng (l a : Int) : 0 ≤ nxN l a ∧ nxN l a < 65536 := by unfold nxN; omega
theorem tg_rng (l v a : Int) : 0 ≤ tgN l v a ∧ tgN l v a < 65536 := by unfold tgN; omega
set_option maxRecDepth 100000 in
set_option maxHeartbeats 1000000 in
theorem nextF_any (p c o m r b v l a : Int) (l0 : 0 ≤ l) (l1 : l ≤ 100) (a0 : 0 ≤ a) (a1 : a < 65536) (w : World) :
    Calls Try.prog 39 #[.agg (iD p c o m r b v l), .int .u16 a] w fun e w' => e = .returned (.int .u16 (nxN l a)) ∧ Below w.heap.size w w' := by
  unfold nxN
  have HB := Lib.hid (Below.alloc0 (Below.refl w.heap.size w) (Obj.cells (iD p c o m r b v l) 37))
  have t1 : IntKind.u16.wrap l = l := by rw [IntKind.wrap_u16]; omega
  go_enter Try.func39, Try.ntmps39
  go_wp2
  go_ret
  exact ⟨ret_int (by first | rfl | (rw [IntKind.wrap_u16])), HB.out⟩
set_option maxRecDepth 100000 in
set_option maxHeartbeats 2000000 in
theorem targetF_any (p c o m r b v l a : Int) (hm : m = 6 ∨ m = 7) (l0 : 0 ≤ l) (l1 : l ≤ 100) (v0 : 0 ≤ v) (v1 : v < 65536) (a0 : 0 ≤ a) (a1 : a < 65536) (w : World) :
    Calls Try.prog 57 #[.agg (iD p c o m r b v l), .int .u16 a] w fun e w' => e = .returned (.tuple #[.int .u16 (tgN l v a), .bool true]) ∧ Below w.heap.size w w' := by
  have HB := Lib.hid (Below.alloc0 (Below.refl w.heap.size w) (Obj.cells (iD p c o m r b v l) 37))
  have HI := Lib.hid (Blk.new w 37 (iD p c o m r b v l) (0, 0))
  have CN := Lib.hid (fun w => nextF_any p c o m r b v l a l0 l1 a0 a1 w)
  have HX : Hid ((nxN l a + v) % 65536 = tgN l v a) := Lib.hid (by unfold nxN tgN; omega)
  obtain ⟨y0, y1⟩ := nx_rng l a
  generalize nxN l a = x at CN HX y0 y1
  have t1 : IntKind.u16.wrap (x + v) = (x + v) % 65536 := by rw [IntKind.wrap_u16]
  rcases hm with rfl | rfl
  · have HId := Lib.hid (Blk.drew HI.out)
    have HBd := Lib.hid (Below.drew0 HB.out)
    go_enter Try.func57, Try.ntmps57
    go_wp2
    go_region_held3 (fun w' => w'.cell? ⟨w.heap.size, 0, none⟩ = some (.int .i64 p) ∧ w'.cell? ⟨w.heap.size, 1, none⟩ = some (.int .u8 c) ∧ w'.cell? ⟨w.heap.size, 2, none⟩ = some (.int .i64 o) ∧ w'.cell? ⟨w.heap.size, 3, none⟩ = some (.int .i64 6) ∧ w'.cell? ⟨w.heap.size, 4, none⟩ = some (.int .i64 r) ∧ w'.cell? ⟨w.heap.size, 5, none⟩ = some (.int .u8 b) ∧ w'.cell? ⟨w.heap.size, 6, none⟩ = some (.int .u16 v) ∧ w'.cell? ⟨w.heap.size, 7, none⟩ = some (.int .i64 l))
      (first
        | (with_reducible exact Blk.c8 HId.out)
        | (with_reducible exact Blk.c8 HI2.out))
      ((go_at_call 39; (with_reducible refine (CN.out _).mono ?_); rintro e w2 ⟨rfl, hb2⟩; have HI2 := Lib.hid (Blk.below HId.out hb2 HId.out.lt); have HB2 := Lib.hid (Below.trans0 HBd.out hb2); clear hb2))
    go_wp2
    all_goals
      go_ret2
      refine ⟨?_, HB2.out⟩
      first
        | (rw [← HX.out]; rfl)
        | (rw [← HX.out, ← t1]; rfl)
  · have HId := Lib.hid (Blk.drew HI.out)
    have HBd := Lib.hid (Below.drew0 HB.out)
    go_enter Try.func57, Try.ntmps57
    go_wp2
    go_region_held3 (fun w' => w'.cell? ⟨w.heap.size, 0, none⟩ = some (.int .i64 p) ∧ w'.cell? ⟨w.heap.size, 1, none⟩ = some (.int .u8 c) ∧ w'.cell? ⟨w.heap.size, 2, none⟩ = some (.int .i64 o) ∧ w'.cell? ⟨w.heap.size, 3, none⟩ = some (.int .i64 7) ∧ w'.cell? ⟨w.heap.size, 4, none⟩ = some (.int .i64 r) ∧ w'.cell? ⟨w.heap.size, 5, none⟩ = some (.int .u8 b) ∧ w'.cell? ⟨w.heap.size, 6, none⟩ = some (.int .u16 v) ∧ w'.cell? ⟨w.heap.size, 7, none⟩ = some (.int .i64 l))
      (first
        | (with_reducible exact Blk.c8 HId.out)
        | (with_reducible exact Blk.c8 HI2.out))
      ((go_at_call 39; (with_reducible refine (CN.out _).mono ?_); rintro e w2 ⟨rfl, hb2⟩; have HI2 := Lib.hid (Blk.below HId.out hb2 HId.out.lt); have HB2 := Lib.hid (Below.trans0 HBd.out hb2); clear hb2))
    go_wp2
    all_goals
      go_ret2
      refine ⟨?_, HB2.out⟩
      first
        | (rw [← HX.out]; rfl)
        | (rw [← HX.out, ← t1]; rfl)
set_option maxRecDepth 100000 in
set_option maxHeartbeats 8000000 in
theorem branch_any (p c m r b v l a : Int) (o : Nat) (ho : o = 34 ∨ o = 35 ∨ o = 36 ∨ o = 37 ∨ o = 38) (hm : m = 6 ∨ m = 7) (h35 : o = 35 → r ≠ 0) (l0 : 0 ≤ l) (l1 : l ≤ 100) (v0 : 0 ≤ v) (v1 : v < 65536) (a0 : 0 ≤ a) (a1 : a < 65536) (w : World) :
    Calls Try.prog 40 #[.agg (iD p c (o : Int) m r b v l), .int .u16 a] w (GivesW (flL o m r b v l a) (flA o m b) w) := by
  have CN := Lib.hid (fun w => nextF_any p c o m r b v l a l0 l1 a0 a1 w)
  have CT := Lib.hid (fun w => targetF_any p c o m r b v l a hm l0 l1 v0 v1 a0 a1 w)
  have HB := Lib.hid (Below.alloc0 (Below.refl w.heap.size w) (Obj.cells (iD p c o m r b v l) 37))
  have HK := Lib.hid (Blk.new w 37 (iD p c o m r b v l) (0, 0))
  unfold flL flA
  obtain ⟨n0, n1⟩ := nx_rng l a
  obtain ⟨t0, t1⟩ := tg_rng l v a
  generalize nxN l a = n at *
  generalize tgN l v a = t at *
  rcases ho with rfl | rfl | rfl | rfl | rfl
  · rcases (show r = 0 ∨ r = 1 ∨ (r ≠ 0 ∧ r ≠ 1) by omega) with rfl | rfl | ⟨r0, r1⟩
    all_goals (try (exact absurd rfl (h35 rfl)))
    all_goals
      try (have r0' : (r == 0) = false := by simpa using r0)
      try (have r1' : (r == 1) = false := by simpa using r1)
      go_enter Try.func40, Try.ntmps40
      go_wp2_with fail
      refine (CN.out _).mono ?_
      rintro e w1 ⟨rfl, hb⟩
      have HB1 := Lib.hid (Below.trans0 HB.out hb)
      have HK1 := Lib.hid (Blk.below HK.out hb HK.out.lt)
      obtain ⟨q0, q1, q2, q3, q4, q5, q6, q7⟩ := Blk.c8 HK1.out
      clear hb
      go_wp2_with fail
      clear q0 q1 q2 q3 q4 q5 q6 q7
      refine (CT.out _).mono ?_
      rintro e w2 ⟨rfl, hb⟩
      have HB2 := Lib.hid (Below.trans0 HB1.out hb)
      have HK2 := Lib.hid (Blk.below HK1.out hb HK1.out.lt)
      obtain ⟨q0, q1, q2, q3, q4, q5, q6, q7⟩ := Blk.c8 HK2.out
      clear hb
      go_wp2
      go_ret2
      first
        | exact gw_1 _ (by assumption) (by assumption) _ _ _ _ _ HB2.out _ rfl
        | exact gw_2 _ _ (by assumption) (by assumption) (by assumption) (by assumption) _ _ _ _ _ HB2.out _ rfl
        | (rw [if_neg r0, if_neg r1]; exact gw_2 _ _ (by assumption) (by assumption) (by assumption) (by assumption) _ _ _ _ _ HB2.out _ rfl)
  · rcases (show r = 0 ∨ r = 1 ∨ (r ≠ 0 ∧ r ≠ 1) by omega) with rfl | rfl | ⟨r0, r1⟩
    all_goals (try (exact absurd rfl (h35 rfl)))
    all_goals
      try (have r0' : (r == 0) = false := by simpa using r0)
      try (have r1' : (r == 1) = false := by simpa using r1)
      go_enter Try.func40, Try.ntmps40
      go_wp2_with fail
      refine (CN.out _).mono ?_
      rintro e w1 ⟨rfl, hb⟩
      have HB1 := Lib.hid (Below.trans0 HB.out hb)
      have HK1 := Lib.hid (Blk.below HK.out hb HK.out.lt)
      obtain ⟨q0, q1, q2, q3, q4, q5, q6, q7⟩ := Blk.c8 HK1.out
      clear hb
      go_wp2_with fail
      clear q0 q1 q2 q3 q4 q5 q6 q7
      refine (CT.out _).mono ?_
      rintro e w2 ⟨rfl, hb⟩
      have HB2 := Lib.hid (Below.trans0 HB1.out hb)
      have HK2 := Lib.hid (Blk.below HK1.out hb HK1.out.lt)
      obtain ⟨q0, q1, q2, q3, q4, q5, q6, q7⟩ := Blk.c8 HK2.out
      clear hb
      go_wp2
      go_ret2
      first
        | exact gw_1 _ (by assumption) (by assumption) _ _ _ _ _ HB2.out _ rfl
        | exact gw_2 _ _ (by assumption) (by assumption) (by assumption) (by assumption) _ _ _ _ _ HB2.out _ rfl
        | (rw [if_neg r0, if_neg r1]; exact gw_2 _ _ (by assumption) (by assumption) (by assumption) (by assumption) _ _ _ _ _ HB2.out _ rfl)
  · rcases (show r = 0 ∨ r = 1 ∨ (r ≠ 0 ∧ r ≠ 1) by omega) with rfl | rfl | ⟨r0, r1⟩
    all_goals (try (exact absurd rfl (h35 rfl)))
    all_goals
      try (have r0' : (r == 0) = false := by simpa using r0)
      try (have r1' : (r == 1) = false := by simpa using r1)
      go_enter Try.func40, Try.ntmps40
      go_wp2_with fail
      refine (CN.out _).mono ?_
      rintro e w1 ⟨rfl, hb⟩
      have HB1 := Lib.hid (Below.trans0 HB.out hb)
      have HK1 := Lib.hid (Blk.below HK.out hb HK.out.lt)
      obtain ⟨q0, q1, q2, q3, q4, q5, q6, q7⟩ := Blk.c8 HK1.out
      clear hb
      go_wp2_with fail
      clear q0 q1 q2 q3 q4 q5 q6 q7
      refine (CT.out _).mono ?_
      rintro e w2 ⟨rfl, hb⟩
      have HB2 := Lib.hid (Below.trans0 HB1.out hb)
      have HK2 := Lib.hid (Blk.below HK1.out hb HK1.out.lt)
      obtain ⟨q0, q1, q2, q3, q4, q5, q6, q7⟩ := Blk.c8 HK2.out
      clear hb
      go_wp2
      go_ret2
      first
        | exact gw_1 _ (by assumption) (by assumption) _ _ _ _ _ HB2.out _ rfl
        | exact gw_2 _ _ (by assumption) (by assumption) (by assumption) (by assumption) _ _ _ _ _ HB2.out _ rfl
        | (rw [if_neg r0, if_neg r1]; exact gw_2 _ _ (by assumption) (by assumption) (by assumption) (by assumption) _ _ _ _ _ HB2.out _ rfl)
  · rcases (show r = 0 ∨ r = 1 ∨ (r ≠ 0 ∧ r ≠ 1) by omega) with rfl | rfl | ⟨r0, r1⟩
    all_goals (try (exact absurd rfl (h35 rfl)))
    all_goals
      try (have r0' : (r == 0) = false := by simpa using r0)
      try (have r1' : (r == 1) = false := by simpa using r1)
      go_enter Try.func40, Try.ntmps40
      go_wp2_with fail
      refine (CN.out _).mono ?_
      rintro e w1 ⟨rfl, hb⟩
      have HB1 := Lib.hid (Below.trans0 HB.out hb)
      have HK1 := Lib.hid (Blk.below HK.out hb HK.out.lt)
      obtain ⟨q0, q1, q2, q3, q4, q5, q6, q7⟩ := Blk.c8 HK1.out
      clear hb
      go_wp2_with fail
      clear q0 q1 q2 q3 q4 q5 q6 q7
      refine (CT.out _).mono ?_
      rintro e w2 ⟨rfl, hb⟩
      have HB2 := Lib.hid (Below.trans0 HB1.out hb)
      have HK2 := Lib.hid (Blk.below HK1.out hb HK1.out.lt)
      obtain ⟨q0, q1, q2, q3, q4, q5, q6, q7⟩ := Blk.c8 HK2.out
      clear hb
      go_wp2
      go_ret2
      first
        | exact gw_1 _ (by assumption) (by assumption) _ _ _ _ _ HB2.out _ rfl
        | exact gw_2 _ _ (by assumption) (by assumption) (by assumption) (by assumption) _ _ _ _ _ HB2.out _ rfl
        | (rw [if_neg r0, if_neg r1]; exact gw_2 _ _ (by assumption) (by assumption) (by assumption) (by assumption) _ _ _ _ _ HB2.out _ rfl)
  · rcases (show r = 0 ∨ r = 1 ∨ (r ≠ 0 ∧ r ≠ 1) by omega) with rfl | rfl | ⟨r0, r1⟩
    all_goals (try (exact absurd rfl (h35 rfl)))
    all_goals
      try (have r0' : (r == 0) = false := by simpa using r0)
      try (have r1' : (r == 1) = false := by simpa using r1)
      go_enter Try.func40, Try.ntmps40
      go_wp2_with fail
      refine (CN.out _).mono ?_
      rintro e w1 ⟨rfl, hb⟩
      have HB1 := Lib.hid (Below.trans0 HB.out hb)
      have HK1 := Lib.hid (Blk.below HK.out hb HK.out.lt)
      obtain ⟨q0, q1, q2, q3, q4, q5, q6, q7⟩ := Blk.c8 HK1.out
      clear hb
      go_wp2_with fail
      clear q0 q1 q2 q3 q4 q5 q6 q7
      refine (CT.out _).mono ?_
      rintro e w2 ⟨rfl, hb⟩
      have HB2 := Lib.hid (Below.trans0 HB1.out hb)
      have HK2 := Lib.hid (Blk.below HK1.out hb HK1.out.lt)
      obtain ⟨q0, q1, q2, q3, q4, q5, q6, q7⟩ := Blk.c8 HK2.out
      clear hb
      go_wp2
      go_ret2
      first
        | exact gw_1 _ (by assumption) (by assumption) _ _ _ _ _ HB2.out _ rfl
        | exact gw_2 _ _ (by assumption) (by assumption) (by assumption) (by assumption) _ _ _ _ _ HB2.out _ rfl
        | (rw [if_neg r0, if_neg r1]; exact gw_2 _ _ (by assumption) (by assumption) (by assumption) (by assumption) _ _ _ _ _ HB2.out _ rfl)
theorem pcB_48 (b : Int) : pcB 48 b = true := rfl
theorem pcB_49 (b : Int) : pcB 49 b = true := rfl
theorem pcB_47 (b : Int) : pcB 47 b = (b % 16 == 5) := by unfold pcB; cases h : (b % 16 == 5) <;> rfl
theorem pcB_46 (b : Int) : pcB 46 b = (b / 16 == 5 || b % 16 == 5) := by unfold pcB; cases h : (b % 16 == 5) <;> cases h2 : (b / 16 == 5) <;> rfl
theorem pcB_31 (b : Int) : pcB 31 b = decide (127 < b) := rfl
theorem pcB_no (o : Nat) (b : Int) (n1 : o ≠ 48) (n2 : o ≠ 49) (n3 : o ≠ 47) (n4 : o ≠ 46) (n5 : o ≠ 31) : pcB o b = false := by
  unfold pcB
  have h1 : Nat.beq o 48 = false := by rw [← Bool.not_eq_true, Nat.beq_eq]; exact n1
  have h2 : Nat.beq o 49 = false := by rw [← Bool.not_eq_true, Nat.beq_eq]; exact n2
  have h3 : Nat.beq o 47 = false := by rw [← Bool.not_eq_true, Nat.beq_eq]; exact n3
  have h4 : Nat.beq o 46 = false := by rw [← Bool.not_eq_true, Nat.beq_eq]; exact n4
  have h5 : Nat.beq o 31 = false := by rw [← Bool.not_eq_true, Nat.beq_eq]; exact n5
  rw [h1, h2, h3, h4, h5]; rfl
theorem and128 : ∀ b : Fin 256, decide (0 < bits .and .u8 (b.val : Int) 128) = decide (127 < (b.val : Int)) := by decide +kernel
theorem and15 : ∀ b : Fin 256, bits .and .u8 (b.val : Int) 15 = (b.val : Int) % 16 := by decide +kernel
set_option maxRecDepth 100000 in
set_option maxHeartbeats 4000000 in
theorem sets_any (p c m r b v l oi : Int) (o : Nat) (hoi : oi = (o : Int)) (b0 : 0 ≤ b) (b1 : b < 256) (w : World) :
    Calls Try.prog 41 #[.agg (iD p c oi m r b v l)] w fun e w' => e = .returned (.bool (pcB o b)) ∧ Below w.heap.size w w' := by
  have HB := Lib.hid (Below.alloc0 (Below.refl w.heap.size w) (Obj.cells (iD p c oi m r b v l) 37))
  have e1 := and128 ⟨b.toNat, by omega⟩
  have e2 := and15 ⟨b.toNat, by omega⟩
  simp only [Int.toNat_of_nonneg b0] at e1 e2
  have e3 : b / 2 ^ 4 = b / 16 := rfl
  rcases (show o = 48 ∨ o = 49 ∨ o = 47 ∨ o = 46 ∨ o = 31 ∨ (o ≠ 48 ∧ o ≠ 49 ∧ o ≠ 47 ∧ o ≠ 46 ∧ o ≠ 31) by omega) with rfl | rfl | rfl | rfl | rfl | ⟨n1, n2, n3, n4, n5⟩
  rotate_left 5
  · skip
    have g1 : (oi == 48) = false := by rw [beq_eq_false_iff_ne]; omega
    have g2 : (oi == 49) = false := by rw [beq_eq_false_iff_ne]; omega
    have g3 : (oi == 47) = false := by rw [beq_eq_false_iff_ne]; omega
    have g4 : (oi == 46) = false := by rw [beq_eq_false_iff_ne]; omega
    have g5 : (oi == 31) = false := by rw [beq_eq_false_iff_ne]; omega
    have hr := pcB_no o b n1 n2 n3 n4 n5
    rw [hr]
    clear n1 n2 n3 n4 n5 hr hoi
    go_enter Try.func41, Try.ntmps41
    go_wp2
    go_quiet (fail)
    go_wp2
    go_ret
    exact ⟨rfl, Below.drewN0 HB.out _⟩
  · obtain rfl : oi = 48 := by omega
    clear hoi
    rw [pcB_48]
    go_enter Try.func41, Try.ntmps41
    go_wp2
    go_quiet (fail)
    go_wp2
    go_ret
    exact ⟨by first | rfl | (rw [e1]; rfl), Below.drewN0 HB.out _⟩
  · obtain rfl : oi = 49 := by omega
    clear hoi
    rw [pcB_49]
    go_enter Try.func41, Try.ntmps41
    go_wp2
    go_quiet (fail)
    go_wp2
    go_ret
    exact ⟨by first | rfl | (rw [e1]; rfl), Below.drewN0 HB.out _⟩
  · obtain rfl : oi = 47 := by omega
    clear hoi
    rw [pcB_47]
    go_enter Try.func41, Try.ntmps41
    go_wp2
    go_quiet (fail)
    go_wp2
    go_ret
    exact ⟨by first | rfl | (rw [e1]; rfl), Below.drewN0 HB.out _⟩
  · obtain rfl : oi = 46 := by omega
    clear hoi
    rw [pcB_46]
    obtain ⟨P, hP⟩ : ∃ P, (b / 16 == 5) = P := ⟨_, rfl⟩
    rw [hP]
    cases P
    all_goals
      go_enter Try.func41, Try.ntmps41
      go_wp2
      go_quiet (fail)
      go_wp2
      go_ret
      exact ⟨by first | rfl | (rw [e1]; rfl), Below.drewN0 HB.out _⟩
  · obtain rfl : oi = 31 := by omega
    clear hoi
    rw [pcB_31]
    go_enter Try.func41, Try.ntmps41
    go_wp2
    go_quiet (fail)
    go_wp2
    go_ret
    exact ⟨by first | rfl | (rw [e1]; rfl), Below.drewN0 HB.out _⟩
theorem flL_no (o : Nat) (m r b v l a : Int) (h : o ≠ 34 ∧ o ≠ 35 ∧ o ≠ 36 ∧ o ≠ 37 ∧ o ≠ 38 ∧ o ≠ 32 ∧ o ≠ 33 ∧ o ≠ 51) : flL o m r b v l a = (bif pcB o b then [] else [nxN l a]) ∧ flA o m b = !pcB o b := by
  obtain ⟨h1, h2, h3, h4, h5, h6, h7, h8⟩ := h
  unfold flL flA
  rw [if_neg (by omega), if_neg h3, if_neg (by omega), if_neg h6, if_neg h7, if_neg h8, if_neg (by omega), if_neg (by omega), if_neg h8]
  exact ⟨rfl, rfl⟩
set_option maxRecDepth 100000 in
set_option maxHeartbeats 8000000 in
theorem flowNext_any (p c m r b v l a oi : Int) (o : Nat) (hoi : oi = (o : Int)) (hm : 34 ≤ o → o ≤ 38 → m = 6 ∨ m = 7) (h35 : o = 35 → r ≠ 0) (b0 : 0 ≤ b) (b1 : b < 256) (l0 : 0 ≤ l) (l1 : l ≤ 100) (v0 : 0 ≤ v) (v1 : v < 65536) (a0 : 0 ≤ a) (a1 : a < 65536) (w : World) :
    Calls Try.prog 12 #[.agg (iD p c oi m r b v l), .int .u16 a] w (GivesW (flL o m r b v l a) (flA o m b) w) := by
  have CN := Lib.hid (fun w => nextF_any p c oi m r b v l a l0 l1 a0 a1 w)
  have CS := Lib.hid (fun w => sets_any p c m r b v l oi o hoi b0 b1 w)
  have HB := Lib.hid (Below.alloc0 (Below.refl w.heap.size w) (Obj.cells (iD p c oi m r b v l) 37))
  have HK := Lib.hid (Blk.new w 37 (iD p c oi m r b v l) (0, 0))
  rcases (show (o = 34 ∨ o = 35 ∨ o = 36 ∨ o = 37 ∨ o = 38) ∨ o = 32 ∨ o = 33 ∨ o = 51 ∨ (o ≠ 34 ∧ o ≠ 35 ∧ o ≠ 36 ∧ o ≠ 37 ∧ o ≠ 38 ∧ o ≠ 32 ∧ o ≠ 33 ∧ o ≠ 51) by omega) with ho | ho | ho | ho | ho
  · have CB := Lib.hid (fun w => branch_any p c m r b v l a o ho (hm (by omega) (by omega)) h35 l0 l1 v0 v1 a0 a1 w)
    rw [← hoi] at CB
    generalize flL o m r b v l a = FL at CB ⊢
    generalize flA o m b = FA at CB ⊢
    have n0 := nx_rng l a
    generalize nxN l a = n at CN n0
    rcases ho with rfl | rfl | rfl | rfl | rfl
    · obtain rfl : oi = 34 := by omega
      clear hoi hm h35 CS
      go_enter Try.func12, Try.ntmps12
      go_wp2_with fail
      refine (CN.out _).mono ?_
      rintro e w1 ⟨rfl, hb⟩
      have HB1 := Lib.hid (Below.trans0 HB.out hb)
      have HK1 := Lib.hid (Blk.below HK.out hb HK.out.lt)
      obtain ⟨q0, q1, q2, q3, q4, q5, q6, q7⟩ := Blk.c8 HK1.out
      have HKA := Lib.hid (Blk.alloc HK1.out (Obj.cells #[.int .i64 34, .int .i64 m, .int .i64 r] 35))
      obtain ⟨z0, z1, z2, z3, z4, z5, z6, z7⟩ := Blk.c8 HKA.out
      clear hb
      go_wp2_with fail
      refine (CB.out _).mono ?_
      rintro e w2 ⟨A, c2, rfl, hi, hb⟩
      have HI2 := Lib.hid hi
      have HB2 := Lib.hid (Below.trans0 (Below.alloc0 HB1.out _) hb)
      clear hi hb
      go_wp2
      go_ret2
      exact ⟨A, c2, rfl, HI2.out, HB2.out⟩
    · obtain rfl : oi = 35 := by omega
      clear hoi hm h35 CS
      go_enter Try.func12, Try.ntmps12
      go_wp2_with fail
      refine (CN.out _).mono ?_
      rintro e w1 ⟨rfl, hb⟩
      have HB1 := Lib.hid (Below.trans0 HB.out hb)
      have HK1 := Lib.hid (Blk.below HK.out hb HK.out.lt)
      obtain ⟨q0, q1, q2, q3, q4, q5, q6, q7⟩ := Blk.c8 HK1.out
      have HKA := Lib.hid (Blk.alloc HK1.out (Obj.cells #[.int .i64 35, .int .i64 m, .int .i64 r] 35))
      obtain ⟨z0, z1, z2, z3, z4, z5, z6, z7⟩ := Blk.c8 HKA.out
      clear hb
      go_wp2_with fail
      refine (CB.out _).mono ?_
      rintro e w2 ⟨A, c2, rfl, hi, hb⟩
      have HI2 := Lib.hid hi
      have HB2 := Lib.hid (Below.trans0 (Below.alloc0 HB1.out _) hb)
      clear hi hb
      go_wp2
      go_ret2
      exact ⟨A, c2, rfl, HI2.out, HB2.out⟩
    · obtain rfl : oi = 36 := by omega
      clear hoi hm h35 CS
      go_enter Try.func12, Try.ntmps12
      go_wp2_with fail
      refine (CN.out _).mono ?_
      rintro e w1 ⟨rfl, hb⟩
      have HB1 := Lib.hid (Below.trans0 HB.out hb)
      have HK1 := Lib.hid (Blk.below HK.out hb HK.out.lt)
      obtain ⟨q0, q1, q2, q3, q4, q5, q6, q7⟩ := Blk.c8 HK1.out
      have HKA := Lib.hid (Blk.alloc HK1.out (Obj.cells #[.int .i64 36, .int .i64 m, .int .i64 r] 35))
      obtain ⟨z0, z1, z2, z3, z4, z5, z6, z7⟩ := Blk.c8 HKA.out
      clear hb
      go_wp2_with fail
      refine (CB.out _).mono ?_
      rintro e w2 ⟨A, c2, rfl, hi, hb⟩
      have HI2 := Lib.hid hi
      have HB2 := Lib.hid (Below.trans0 (Below.alloc0 HB1.out _) hb)
      clear hi hb
      go_wp2
      go_ret2
      exact ⟨A, c2, rfl, HI2.out, HB2.out⟩
    · obtain rfl : oi = 37 := by omega
      clear hoi hm h35 CS
      go_enter Try.func12, Try.ntmps12
      go_wp2_with fail
      refine (CN.out _).mono ?_
      rintro e w1 ⟨rfl, hb⟩
      have HB1 := Lib.hid (Below.trans0 HB.out hb)
      have HK1 := Lib.hid (Blk.below HK.out hb HK.out.lt)
      obtain ⟨q0, q1, q2, q3, q4, q5, q6, q7⟩ := Blk.c8 HK1.out
      have HKA := Lib.hid (Blk.alloc HK1.out (Obj.cells #[.int .i64 37, .int .i64 m, .int .i64 r] 35))
      obtain ⟨z0, z1, z2, z3, z4, z5, z6, z7⟩ := Blk.c8 HKA.out
      clear hb
      go_wp2_with fail
      refine (CB.out _).mono ?_
      rintro e w2 ⟨A, c2, rfl, hi, hb⟩
      have HI2 := Lib.hid hi
      have HB2 := Lib.hid (Below.trans0 (Below.alloc0 HB1.out _) hb)
      clear hi hb
      go_wp2
      go_ret2
      exact ⟨A, c2, rfl, HI2.out, HB2.out⟩
    · obtain rfl : oi = 38 := by omega
      clear hoi hm h35 CS
      go_enter Try.func12, Try.ntmps12
      go_wp2_with fail
      refine (CN.out _).mono ?_
      rintro e w1 ⟨rfl, hb⟩
      have HB1 := Lib.hid (Below.trans0 HB.out hb)
      have HK1 := Lib.hid (Blk.below HK.out hb HK.out.lt)
      obtain ⟨q0, q1, q2, q3, q4, q5, q6, q7⟩ := Blk.c8 HK1.out
      have HKA := Lib.hid (Blk.alloc HK1.out (Obj.cells #[.int .i64 38, .int .i64 m, .int .i64 r] 35))
      obtain ⟨z0, z1, z2, z3, z4, z5, z6, z7⟩ := Blk.c8 HKA.out
      clear hb
      go_wp2_with fail
      refine (CB.out _).mono ?_
      rintro e w2 ⟨A, c2, rfl, hi, hb⟩
      have HI2 := Lib.hid hi
      have HB2 := Lib.hid (Below.trans0 (Below.alloc0 HB1.out _) hb)
      clear hi hb
      go_wp2
      go_ret2
      exact ⟨A, c2, rfl, HI2.out, HB2.out⟩
  · subst ho
    obtain rfl : oi = 32 := by omega
    clear hoi hm h35 CS
    by_cases h5 : m = 5
    · subst h5
      have n0 := nx_rng l a
      unfold flL flA
      generalize nxN l a = n at CN n0 ⊢
      go_enter Try.func12, Try.ntmps12
      go_wp2_with fail
      refine (CN.out _).mono ?_
      rintro e w1 ⟨rfl, hb⟩
      have HB1 := Lib.hid (Below.trans0 HB.out hb)
      have HK1 := Lib.hid (Blk.below HK.out hb HK.out.lt)
      obtain ⟨q0, q1, q2, q3, q4, q5, q6, q7⟩ := Blk.c8 HK1.out
      have HKA := Lib.hid (Blk.alloc HK1.out (Obj.cells #[.int .i64 32, .int .i64 5, .int .i64 r] 35))
      have HBA := Lib.hid (Below.alloc0 HB1.out (Obj.cells #[.int .i64 32, .int .i64 5, .int .i64 r] 35))
      obtain ⟨z0, z1, z2, z3, z4, z5, z6, z7⟩ := Blk.c8 HKA.out
      clear hb
      go_wp2
      go_ret2
      first
        | exact gw_nil _ _ _ HBA.out
        | exact gw_1 _ (by omega) (by omega) _ _ _ _ _ HBA.out _ (by simp)
        | exact gw_2 _ _ (by omega) (by omega) (by omega) (by omega) _ _ _ _ _ HBA.out _ (by simp)
    · have h5' : (m == 5) = false := by simpa using h5
      have n0 := nx_rng l a
      unfold flL flA
      generalize nxN l a = n at CN n0 ⊢
      go_enter Try.func12, Try.ntmps12
      go_wp2_with fail
      refine (CN.out _).mono ?_
      rintro e w1 ⟨rfl, hb⟩
      have HB1 := Lib.hid (Below.trans0 HB.out hb)
      have HK1 := Lib.hid (Blk.below HK.out hb HK.out.lt)
      obtain ⟨q0, q1, q2, q3, q4, q5, q6, q7⟩ := Blk.c8 HK1.out
      have HKA := Lib.hid (Blk.alloc HK1.out (Obj.cells #[.int .i64 32, .int .i64 m, .int .i64 r] 35))
      have HBA := Lib.hid (Below.alloc0 HB1.out (Obj.cells #[.int .i64 32, .int .i64 m, .int .i64 r] 35))
      obtain ⟨z0, z1, z2, z3, z4, z5, z6, z7⟩ := Blk.c8 HKA.out
      clear hb
      go_wp2
      go_ret2
      try rw [if_neg h5]
      try rw [show decide (m = 5) = false by simpa using h5]
      first
        | exact gw_nil _ _ _ HBA.out
        | exact gw_1 _ (by omega) (by omega) _ _ _ _ _ HBA.out _ (by simp)
        | exact gw_2 _ _ (by omega) (by omega) (by omega) (by omega) _ _ _ _ _ HBA.out _ (by simp)
  · subst ho
    obtain rfl : oi = 33 := by omega
    clear hoi hm h35 CS
    by_cases h5 : m = 5
    · subst h5
      have n0 := nx_rng l a
      unfold flL flA
      generalize nxN l a = n at CN n0 ⊢
      go_enter Try.func12, Try.ntmps12
      go_wp2_with fail
      refine (CN.out _).mono ?_
      rintro e w1 ⟨rfl, hb⟩
      have HB1 := Lib.hid (Below.trans0 HB.out hb)
      have HK1 := Lib.hid (Blk.below HK.out hb HK.out.lt)
      obtain ⟨q0, q1, q2, q3, q4, q5, q6, q7⟩ := Blk.c8 HK1.out
      have HKA := Lib.hid (Blk.alloc HK1.out (Obj.cells #[.int .i64 33, .int .i64 5, .int .i64 r] 35))
      have HBA := Lib.hid (Below.alloc0 HB1.out (Obj.cells #[.int .i64 33, .int .i64 5, .int .i64 r] 35))
      obtain ⟨z0, z1, z2, z3, z4, z5, z6, z7⟩ := Blk.c8 HKA.out
      clear hb
      go_wp2
      go_ret2
      first
        | exact gw_nil _ _ _ HBA.out
        | exact gw_1 _ (by omega) (by omega) _ _ _ _ _ HBA.out _ (by simp)
        | exact gw_2 _ _ (by omega) (by omega) (by omega) (by omega) _ _ _ _ _ HBA.out _ (by simp)
    · have h5' : (m == 5) = false := by simpa using h5
      have n0 := nx_rng l a
      unfold flL flA
      generalize nxN l a = n at CN n0 ⊢
      go_enter Try.func12, Try.ntmps12
      go_wp2_with fail
      refine (CN.out _).mono ?_
      rintro e w1 ⟨rfl, hb⟩
      have HB1 := Lib.hid (Below.trans0 HB.out hb)
      have HK1 := Lib.hid (Blk.below HK.out hb HK.out.lt)
      obtain ⟨q0, q1, q2, q3, q4, q5, q6, q7⟩ := Blk.c8 HK1.out
      have HKA := Lib.hid (Blk.alloc HK1.out (Obj.cells #[.int .i64 33, .int .i64 m, .int .i64 r] 35))
      have HBA := Lib.hid (Below.alloc0 HB1.out (Obj.cells #[.int .i64 33, .int .i64 m, .int .i64 r] 35))
      obtain ⟨z0, z1, z2, z3, z4, z5, z6, z7⟩ := Blk.c8 HKA.out
      clear hb
      go_wp2
      go_ret2
      try rw [if_neg h5]
      try rw [show decide (m = 5) = false by simpa using h5]
      first
        | exact gw_nil _ _ _ HBA.out
        | exact gw_1 _ (by omega) (by omega) _ _ _ _ _ HBA.out _ (by simp)
        | exact gw_2 _ _ (by omega) (by omega) (by omega) (by omega) _ _ _ _ _ HBA.out _ (by simp)
  · subst ho
    obtain rfl : oi = 51 := by omega
    clear hoi hm h35 CS
    all_goals
      have n0 := nx_rng l a
      unfold flL flA
      generalize nxN l a = n at CN n0 ⊢
      go_enter Try.func12, Try.ntmps12
      go_wp2_with fail
      refine (CN.out _).mono ?_
      rintro e w1 ⟨rfl, hb⟩
      have HB1 := Lib.hid (Below.trans0 HB.out hb)
      have HK1 := Lib.hid (Blk.below HK.out hb HK.out.lt)
      obtain ⟨q0, q1, q2, q3, q4, q5, q6, q7⟩ := Blk.c8 HK1.out
      have HKA := Lib.hid (Blk.alloc HK1.out (Obj.cells #[.int .i64 51, .int .i64 m, .int .i64 r] 35))
      have HBA := Lib.hid (Below.alloc0 HB1.out (Obj.cells #[.int .i64 51, .int .i64 m, .int .i64 r] 35))
      obtain ⟨z0, z1, z2, z3, z4, z5, z6, z7⟩ := Blk.c8 HKA.out
      clear hb
      go_wp2
      go_ret2
      first
        | exact gw_nil _ _ _ HBA.out
        | exact gw_1 _ (by omega) (by omega) _ _ _ _ _ HBA.out _ (by simp)
        | exact gw_2 _ _ (by omega) (by omega) (by omega) (by omega) _ _ _ _ _ HBA.out _ (by simp)
  · obtain ⟨f1, f2⟩ := flL_no o m r b v l a ho
    rw [f1, f2]
    clear f1 f2
    obtain ⟨h1, h2, h3, h4, h5, h6, h7, h8⟩ := ho
    have g1 : (oi == 34) = false := by rw [beq_eq_false_iff_ne]; omega
    have g2 : (oi == 35) = false := by rw [beq_eq_false_iff_ne]; omega
    have g3 : (oi == 36) = false := by rw [beq_eq_false_iff_ne]; omega
    have g4 : (oi == 37) = false := by rw [beq_eq_false_iff_ne]; omega
    have g5 : (oi == 38) = false := by rw [beq_eq_false_iff_ne]; omega
    have g6 : (oi == 32) = false := by rw [beq_eq_false_iff_ne]; omega
    have g7 : (oi == 33) = false := by rw [beq_eq_false_iff_ne]; omega
    have g8 : (oi == 51) = false := by rw [beq_eq_false_iff_ne]; omega
    clear h1 h2 h3 h4 h5 h6 h7 h8 hm h35 hoi
    generalize pcB o b = P at CS ⊢
    have n0 := nx_rng l a
    generalize nxN l a = n at CN n0 ⊢
    go_enter Try.func12, Try.ntmps12
    go_wp2_with fail
    refine (CN.out _).mono ?_
    rintro e w1 ⟨rfl, hb⟩
    have HB1 := Lib.hid (Below.trans0 HB.out hb)
    have HK1 := Lib.hid (Blk.below HK.out hb HK.out.lt)
    obtain ⟨q0, q1, q2, q3, q4, q5, q6, q7⟩ := Blk.c8 HK1.out
    have HKA := Lib.hid (Blk.alloc HK1.out (Obj.cells #[.int .i64 oi, .int .i64 m, .int .i64 r] 35))
    have HBA := Lib.hid (Below.alloc0 HB1.out (Obj.cells #[.int .i64 oi, .int .i64 m, .int .i64 r] 35))
    obtain ⟨z0, z1, z2, z3, z4, z5, z6, z7⟩ := Blk.c8 HKA.out
    clear hb
    go_wp2_with fail
    refine (CS.out _).mono ?_
    rintro e w2 ⟨rfl, hb⟩
    have HB2 := Lib.hid (Below.trans0 HBA.out hb)
    clear hb
    cases P
    all_goals
      go_wp2
      go_ret2
      first
        | exact gw_nil _ _ _ HB2.out
        | exact gw_1 _ (by omega) (by omega) _ _ _ _ _ HB2.out _ (by simp)
end Go.Proofs.Yteaajmoclgfhnaa
