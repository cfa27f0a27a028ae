/- Contracts of package alu's calls, and of the document's own (spinetref24). -/
import Derived.Test.YtkdekhcnamkcgacAluD
import Derived.Deep.QuietTactic
import Derived.BigQuiet
import Derived.Outline
namespace Go.Proofs.Ytkdekhcnamkcgac
open Go.ChangeShapes Go.WideShapes Go.ChangeAt Go.RowKit
set_option linter.unusedVariables false

theorem ret_three {v0 v1 v2 u0 u1 u2 : Value} (h0 : v0 = u0) (h1 : v1 = u1) (h2 : v2 = u2) : Ending.returned (.tuple #[v0, v1, v2]) = .returned (.tuple #[u0, u1, u2]) := by rw [h0, h1, h2]
theorem ne_beqA {o k : Int} (h : ¬ o = k) : (o == k) = false := by simpa using h
set_option maxRecDepth 100000 in
set_option maxHeartbeats 4000000 in
theorem refWord_any (op a b cc : Int) (w : World) (ha : 0 ≤ a) (ha' : a < 65536) (hb : 0 ≤ b) (hb' : b < 65536) (hcc : CC cc) :
    Calls Try.prog 9 #[.int .i64 op, .int .u16 a, .int .u16 b, .int .u8 cc] w fun e w' => e = .returned (.tuple #[.int .u16 (w16 op a b cc).1, .int .u8 (w16 op a b cc).2.1, .bool (w16 op a b cc).2.2]) ∧ w = w' := by
  rcases (show op = 24 ∨ op = 26 ∨ op = 27 ∨ op = 28 ∨ (op < 24 ∨ 28 < op ∨ op = 25) by omega) with rfl | rfl | rfl | rfl | hop
  iterate 4
    · go_enter Try.func9, Try.ntmps9
      go_wp2_with (first
        | (go_at_call 33; refine (refTstW_any _ _ _ hb hb' hcc).mono ?_; rintro e w' ⟨rfl, rfl⟩)
        | (go_at_call 34; refine (refAddW_any _ _ _ _ ha ha' hb hb' hcc).mono ?_; rintro e w' ⟨rfl, rfl⟩)
        | (go_at_call 35; refine (refSubW_any _ _ _ _ ha ha' hb hb' hcc).mono ?_; rintro e w' ⟨rfl, rfl⟩))
      go_ret3
      exact ⟨rfl, rfl⟩
  · rw [w16_else hop]
    have d24 := ne_beqA (show ¬ op = 24 by omega)
    have d26 := ne_beqA (show ¬ op = 26 by omega)
    have d27 := ne_beqA (show ¬ op = 27 by omega)
    have d28 := ne_beqA (show ¬ op = 28 by omega)
    clear hop
    go_enter Try.func9, Try.ntmps9
    go_wp2
    go_ret3
    exact ⟨rfl, rfl⟩
/-- The three variables that a closure keeps: new blocks, one behind the other. -/
def Tri (k : IntKind) (t : TypeId) (w W : World) (x y : Int) (b : Bool) : Prop :=
  Blk W w.heap.size t #[.int k x] ∧ Blk W (w.heap.size + 1) 5 #[.int .u8 y] ∧ Blk W (w.heap.size + 1 + 1) 4 #[.bool b] ∧ Below w.heap.size w W
theorem Tri.new (k : IntKind) (t : TypeId) (w : World) (x y : Int) (b : Bool) : Tri k t w (((w.alloc (.cells #[.int k x] t)).alloc (.cells #[.int .u8 y] 5)).alloc (.cells #[.bool b] 4)) x y b := by
  have e1 : (w.alloc (.cells #[.int k x] t)).heap.size = w.heap.size + 1 := by simp
  have e2 : ((w.alloc (.cells #[.int k x] t)).alloc (.cells #[.int .u8 y] 5)).heap.size = w.heap.size + 1 + 1 := by simp
  have b1 := Blk.new (w.alloc (.cells #[.int k x] t)) 5 #[.int .u8 y] (0, 0)
  have b2 := Blk.new ((w.alloc (.cells #[.int k x] t)).alloc (.cells #[.int .u8 y] 5)) 4 #[.bool b] (0, 0)
  rw [e1] at b1
  rw [e2] at b2
  exact ⟨Blk.alloc (Blk.alloc (Blk.new _ _ _ _) _) _, Blk.alloc b1 _, b2, Below.alloc0 (Below.alloc0 (Below.alloc0 (Below.refl _ _) _) _) _⟩
section
variable {k : IntKind} {t : TypeId} {w W W' : World} {x y : Int} {b : Bool}
theorem Tri.below (h : Tri k t w W x y b) (hb : Below W.heap.size W W') : Tri k t w W' x y b :=
  ⟨h.1.below hb h.1.lt, h.2.1.below hb h.2.1.lt, h.2.2.1.below hb h.2.2.1.lt, Below.trans0 h.2.2.2 hb⟩
theorem Tri.cells (h : Tri k t w W x y b) : W.cell? ⟨w.heap.size, 0, none⟩ = some (.int k x) ∧ W.cell? ⟨w.heap.size + 1, 0, none⟩ = some (.int .u8 y) ∧ W.cell? ⟨w.heap.size + 1 + 1, 0, none⟩ = some (.bool b) ∧
    W.frozen? ⟨w.heap.size, 0, none⟩ = false ∧ W.frozen? ⟨w.heap.size + 1, 0, none⟩ = false ∧ W.frozen? ⟨w.heap.size + 1 + 1, 0, none⟩ = false :=
  ⟨by rw [h.1.cell]; rfl, by rw [h.2.1.cell]; rfl, by rw [h.2.2.1.cell]; rfl, h.1.frozen _, h.2.1.frozen _, h.2.2.1.frozen _⟩
theorem Tri.put (h : Tri k t w W x y b) (r s : Int) (c : Bool) : Tri k t w (((W.setCell ⟨w.heap.size, 0, none⟩ (.int k r)).setCell ⟨w.heap.size + 1, 0, none⟩ (.int .u8 s)).setCell ⟨w.heap.size + 1 + 1, 0, none⟩ (.bool c)) r s c :=
  ⟨Blk.far (Blk.far (Blk.set_ h.1 0 _) (by simp) _) (by simp; omega) _, Blk.far (Blk.set_ (Blk.far h.2.1 (by simp) _) 0 _) (by simp) _, Blk.set_ (Blk.far (Blk.far h.2.2.1 (by simp; omega) _) (by simp) _) 0 _,
    Below.setCell (p := ⟨w.heap.size + 1 + 1, 0, none⟩) (Below.setCell (p := ⟨w.heap.size + 1, 0, none⟩) (Below.setCell (p := ⟨w.heap.size, 0, none⟩) h.2.2.2 (Nat.le_refl _) _) (Nat.le_succ _) _) (by simp; omega) _⟩
theorem Tri.putC (h : Tri k t w W x y b) (s : Int) : Tri k t w (W.setCell ⟨w.heap.size + 1, 0, none⟩ (.int .u8 s)) x s b :=
  ⟨Blk.far h.1 (by simp) _, Blk.set_ h.2.1 0 _, Blk.far h.2.2.1 (by simp) _, Below.setCell (p := ⟨w.heap.size + 1, 0, none⟩) h.2.2.2 (Nat.le_succ _) _⟩
end
set_option maxRecDepth 100000 in
theorem keepEight_any (r s : Int) (w W : World) (x y : Int) (b : Bool) (h : Tri .u8 5 w W x y b) :
    Calls Try.prog 36 #[.int .u8 r, .int .u8 s, .pointer (some ⟨w.heap.size, 0, none⟩), .pointer (some ⟨w.heap.size + 1, 0, none⟩), .pointer (some ⟨w.heap.size + 1 + 1, 0, none⟩)] W fun e W' => e = .returned (.tuple #[]) ∧ Tri .u8 5 w W' r s true := by
  have HP := Lib.hid (h.put r s true)
  obtain ⟨c0, c1, c2, f0, f1, f2⟩ := h.cells
  clear h
  go_enter Try.func36, Try.ntmps36
  go_wp2
  go_end0
  exact ⟨rfl, HP.out⟩
set_option maxRecDepth 100000 in
theorem keepChange_any (r s : Int) (w W : World) (x y : Int) (b : Bool) (h : Tri .u8 5 w W x y b) :
    Calls Try.prog 47 #[.int .u8 r, .int .u8 s, .pointer (some ⟨w.heap.size, 0, none⟩), .pointer (some ⟨w.heap.size + 1, 0, none⟩), .pointer (some ⟨w.heap.size + 1 + 1, 0, none⟩)] W fun e W' => e = .returned (.tuple #[]) ∧ Tri .u8 5 w W' r s true := by
  have HP := Lib.hid (h.put r s true)
  obtain ⟨c0, c1, c2, f0, f1, f2⟩ := h.cells
  clear h
  go_enter Try.func47, Try.ntmps47
  go_wp2
  go_end0
  exact ⟨rfl, HP.out⟩
set_option maxRecDepth 100000 in
theorem keepWord_any (r s : Int) (w W : World) (x y : Int) (b : Bool) (h : Tri .u16 22 w W x y b) :
    Calls Try.prog 28 #[.int .u16 r, .int .u8 s, .pointer (some ⟨w.heap.size, 0, none⟩), .pointer (some ⟨w.heap.size + 1, 0, none⟩), .pointer (some ⟨w.heap.size + 1 + 1, 0, none⟩)] W fun e W' => e = .returned (.tuple #[]) ∧ Tri .u16 22 w W' r s true := by
  have HP := Lib.hid (h.put r s true)
  obtain ⟨c0, c1, c2, f0, f1, f2⟩ := h.cells
  clear h
  go_enter Try.func28, Try.ntmps28
  go_wp2
  go_end0
  exact ⟨rfl, HP.out⟩
set_option maxRecDepth 100000 in
set_option maxHeartbeats 4000000 in
theorem eight_any (op a b cc : Int) (w : World) (ha : 0 ≤ a) (ha' : a < 256) (hb : 0 ≤ b) (hb' : b < 256) (hcc : CC cc) :
    Calls Try.prog 11 #[.int .i64 op, .int .u8 a, .int .u8 b, .int .u8 cc] w fun e w' => e = .returned (.tuple #[.int .u8 (e8 op a b cc).1, .int .u8 (e8 op a b cc).2.1, .bool (e8 op a b cc).2.2]) ∧ Below w.heap.size w w' := by
  have hmf : ∀ (fn : Fn) (first cap : Array Value) (w : World), (Instr.makeFunc fn first cap).run Try.prog w = .ok (.func fn first cap) w := fun _ _ _ _ => rfl
  have HT := Lib.hid (Tri.new .u8 5 w a cc false)
  rcases e8_cases op with rfl | rfl | rfl | rfl | rfl | rfl | rfl | rfl | rfl | rfl | hop
  · go_enter Try.func11, Try.ntmps11
    go_wp2_with (first
        | (go_at_call 37; refine (adc_any _ _ _ _ ha ha' hb hb' hcc).mono ?_; rintro e w1 ⟨rfl, hb1⟩; have HT1 := Lib.hid (HT.out.below hb1); obtain ⟨c0, c1, c2, f0, f1, f2⟩ := HT1.out.cells; clear hb1)
        | (go_at_call 36; refine (keepEight_any _ _ w _ _ _ _ HT1.out).mono ?_; rintro e w2 ⟨rfl, hT2⟩; have HT2 := Lib.hid hT2; clear c0 c1 c2 f0 f1 f2; obtain ⟨c0, c1, c2, f0, f1, f2⟩ := hT2.cells; clear hT2))
    go_quiet (fail)
    go_wp2
    go_ret3
    exact ⟨rfl, Below.drewN0 HT2.out.2.2.2 _⟩
  · go_enter Try.func11, Try.ntmps11
    go_wp2_with (first
        | (go_at_call 38; refine (add_any _ _ _ _ ha ha' hb hb' hcc).mono ?_; rintro e w1 ⟨rfl, hb1⟩; have HT1 := Lib.hid (HT.out.below hb1); obtain ⟨c0, c1, c2, f0, f1, f2⟩ := HT1.out.cells; clear hb1)
        | (go_at_call 36; refine (keepEight_any _ _ w _ _ _ _ HT1.out).mono ?_; rintro e w2 ⟨rfl, hT2⟩; have HT2 := Lib.hid hT2; clear c0 c1 c2 f0 f1 f2; obtain ⟨c0, c1, c2, f0, f1, f2⟩ := hT2.cells; clear hT2))
    go_quiet (fail)
    go_wp2
    go_ret3
    exact ⟨rfl, Below.drewN0 HT2.out.2.2.2 _⟩
  · go_enter Try.func11, Try.ntmps11
    go_wp2_with (first
        | (go_at_call 39; refine (land_any _ _ _ _ hcc).mono ?_; rintro e w1 ⟨rfl, hb1⟩; have HT1 := Lib.hid (HT.out.below hb1); obtain ⟨c0, c1, c2, f0, f1, f2⟩ := HT1.out.cells; clear hb1)
        | (go_at_call 36; refine (keepEight_any _ _ w _ _ _ _ HT1.out).mono ?_; rintro e w2 ⟨rfl, hT2⟩; have HT2 := Lib.hid hT2; clear c0 c1 c2 f0 f1 f2; obtain ⟨c0, c1, c2, f0, f1, f2⟩ := hT2.cells; clear hT2))
    go_quiet (fail)
    go_wp2
    go_ret3
    exact ⟨rfl, Below.drewN0 HT2.out.2.2.2 _⟩
  · go_enter Try.func11, Try.ntmps11
    go_wp2_with (first
        | (go_at_call 45; refine (lbit_any _ _ _ _ hcc).mono ?_; rintro e w1 ⟨rfl, hb1⟩; have HT1 := Lib.hid (HT.out.below hb1); obtain ⟨c0, c1, c2, f0, f1, f2⟩ := HT1.out.cells; clear hb1)
        | (go_at_call 36; refine (keepEight_any _ _ w _ _ _ _ HT1.out).mono ?_; rintro e w2 ⟨rfl, hT2⟩; have HT2 := Lib.hid hT2; clear c0 c1 c2 f0 f1 f2; obtain ⟨c0, c1, c2, f0, f1, f2⟩ := hT2.cells; clear hT2))
    go_quiet (fail)
    go_wp2
    go_ret3
    exact ⟨rfl, Below.drewN0 (HT1.out.putC _).2.2.2 _⟩
  · go_enter Try.func11, Try.ntmps11
    go_wp2_with (first
        | (go_at_call 46; refine (cmp_any _ _ _ _ ha ha' hb hb' hcc).mono ?_; rintro e w1 ⟨rfl, hb1⟩; have HT1 := Lib.hid (HT.out.below hb1); obtain ⟨c0, c1, c2, f0, f1, f2⟩ := HT1.out.cells; clear hb1)
        | (go_at_call 36; refine (keepEight_any _ _ w _ _ _ _ HT1.out).mono ?_; rintro e w2 ⟨rfl, hT2⟩; have HT2 := Lib.hid hT2; clear c0 c1 c2 f0 f1 f2; obtain ⟨c0, c1, c2, f0, f1, f2⟩ := hT2.cells; clear hT2))
    go_quiet (fail)
    go_wp2
    go_ret3
    exact ⟨rfl, Below.drewN0 (HT1.out.putC _).2.2.2 _⟩
  · go_enter Try.func11, Try.ntmps11
    go_wp2_with (first
        | (go_at_call 40; refine (leor_any _ _ _ _ hcc).mono ?_; rintro e w1 ⟨rfl, hb1⟩; have HT1 := Lib.hid (HT.out.below hb1); obtain ⟨c0, c1, c2, f0, f1, f2⟩ := HT1.out.cells; clear hb1)
        | (go_at_call 36; refine (keepEight_any _ _ w _ _ _ _ HT1.out).mono ?_; rintro e w2 ⟨rfl, hT2⟩; have HT2 := Lib.hid hT2; clear c0 c1 c2 f0 f1 f2; obtain ⟨c0, c1, c2, f0, f1, f2⟩ := hT2.cells; clear hT2))
    go_quiet (fail)
    go_wp2
    go_ret3
    exact ⟨rfl, Below.drewN0 HT2.out.2.2.2 _⟩
  · go_enter Try.func11, Try.ntmps11
    go_wp2_with (first
        | (go_at_call 41; refine (lor_any _ _ _ _ hcc).mono ?_; rintro e w1 ⟨rfl, hb1⟩; have HT1 := Lib.hid (HT.out.below hb1); obtain ⟨c0, c1, c2, f0, f1, f2⟩ := HT1.out.cells; clear hb1)
        | (go_at_call 36; refine (keepEight_any _ _ w _ _ _ _ HT1.out).mono ?_; rintro e w2 ⟨rfl, hT2⟩; have HT2 := Lib.hid hT2; clear c0 c1 c2 f0 f1 f2; obtain ⟨c0, c1, c2, f0, f1, f2⟩ := hT2.cells; clear hT2))
    go_quiet (fail)
    go_wp2
    go_ret3
    exact ⟨rfl, Below.drewN0 HT2.out.2.2.2 _⟩
  · go_enter Try.func11, Try.ntmps11
    go_wp2_with (first
        | (go_at_call 42; refine (sbc_any _ _ _ _ ha ha' hb hb' hcc).mono ?_; rintro e w1 ⟨rfl, hb1⟩; have HT1 := Lib.hid (HT.out.below hb1); obtain ⟨c0, c1, c2, f0, f1, f2⟩ := HT1.out.cells; clear hb1)
        | (go_at_call 36; refine (keepEight_any _ _ w _ _ _ _ HT1.out).mono ?_; rintro e w2 ⟨rfl, hT2⟩; have HT2 := Lib.hid hT2; clear c0 c1 c2 f0 f1 f2; obtain ⟨c0, c1, c2, f0, f1, f2⟩ := hT2.cells; clear hT2))
    go_quiet (fail)
    go_wp2
    go_ret3
    exact ⟨rfl, Below.drewN0 HT2.out.2.2.2 _⟩
  · go_enter Try.func11, Try.ntmps11
    go_wp2_with (first
        | (go_at_call 43; refine (sub_any _ _ _ _ ha ha' hb hb' hcc).mono ?_; rintro e w1 ⟨rfl, hb1⟩; have HT1 := Lib.hid (HT.out.below hb1); obtain ⟨c0, c1, c2, f0, f1, f2⟩ := HT1.out.cells; clear hb1)
        | (go_at_call 36; refine (keepEight_any _ _ w _ _ _ _ HT1.out).mono ?_; rintro e w2 ⟨rfl, hT2⟩; have HT2 := Lib.hid hT2; clear c0 c1 c2 f0 f1 f2; obtain ⟨c0, c1, c2, f0, f1, f2⟩ := hT2.cells; clear hT2))
    go_quiet (fail)
    go_wp2
    go_ret3
    exact ⟨rfl, Below.drewN0 HT2.out.2.2.2 _⟩
  · go_enter Try.func11, Try.ntmps11
    go_wp2_with (first
        | (go_at_call 44; refine (tst_any _ _ _ hcc).mono ?_; rintro e w1 ⟨rfl, hb1⟩; have HT1 := Lib.hid (HT.out.below hb1); obtain ⟨c0, c1, c2, f0, f1, f2⟩ := HT1.out.cells; clear hb1)
        | (go_at_call 36; refine (keepEight_any _ _ w _ _ _ _ HT1.out).mono ?_; rintro e w2 ⟨rfl, hT2⟩; have HT2 := Lib.hid hT2; clear c0 c1 c2 f0 f1 f2; obtain ⟨c0, c1, c2, f0, f1, f2⟩ := hT2.cells; clear hT2))
    go_quiet (fail)
    go_wp2
    go_ret3
    exact ⟨rfl, Below.drewN0 HT2.out.2.2.2 _⟩
  · rw [e8_else hop]
    have d2 := ne_beqA (show ¬ op = 2 by omega)
    have d3 := ne_beqA (show ¬ op = 3 by omega)
    have d4 := ne_beqA (show ¬ op = 4 by omega)
    have d5 := ne_beqA (show ¬ op = 5 by omega)
    have d6 := ne_beqA (show ¬ op = 6 by omega)
    have d7 := ne_beqA (show ¬ op = 7 by omega)
    have d8 := ne_beqA (show ¬ op = 8 by omega)
    have d9 := ne_beqA (show ¬ op = 9 by omega)
    have d10 := ne_beqA (show ¬ op = 10 by omega)
    have d11 := ne_beqA (show ¬ op = 11 by omega)
    clear hop
    obtain ⟨c0, c1, c2, f0, f1, f2⟩ := HT.out.cells
    go_enter Try.func11, Try.ntmps11
    go_wp2
    go_quiet (fail)
    go_wp2
    go_ret3
    exact ⟨rfl, Below.drewN0 HT.out.2.2.2 _⟩
set_option maxRecDepth 100000 in
set_option maxHeartbeats 4000000 in
theorem change_any (op a cc : Int) (w : World) (ha : 0 ≤ a) (ha' : a < 256) (hcc : CC cc) :
    Calls Try.prog 12 #[.int .i64 op, .int .u8 a, .int .u8 cc] w fun e w' => e = .returned (.tuple #[.int .u8 (c8 op a cc).1, .int .u8 (c8 op a cc).2.1, .bool (c8 op a cc).2.2]) ∧ Below w.heap.size w w' := by
  have hmf : ∀ (fn : Fn) (first cap : Array Value) (w : World), (Instr.makeFunc fn first cap).run Try.prog w = .ok (.func fn first cap) w := fun _ _ _ _ => rfl
  have HT := Lib.hid (Tri.new .u8 5 w a cc false)
  rcases c8_cases op with rfl | rfl | rfl | rfl | rfl | rfl | rfl | rfl | rfl | rfl | rfl | hop
  · go_enter Try.func12, Try.ntmps12
    go_wp2_with (first
        | (go_at_call 48; refine (neg_any _ _ _ ha ha' hcc).mono ?_; rintro e w1 ⟨rfl, hb1⟩; have HT1 := Lib.hid (HT.out.below hb1); obtain ⟨c0, c1, c2, f0, f1, f2⟩ := HT1.out.cells; clear hb1)
        | (go_at_call 47; refine (keepChange_any _ _ w _ _ _ _ HT1.out).mono ?_; rintro e w2 ⟨rfl, hT2⟩; have HT2 := Lib.hid hT2; clear c0 c1 c2 f0 f1 f2; obtain ⟨c0, c1, c2, f0, f1, f2⟩ := hT2.cells; clear hT2))
    go_quiet (fail)
    go_wp2
    go_ret3
    exact ⟨ret_three (vint (by show -a % 256 = (0 - a) % 256; rw [Int.zero_sub])) rfl rfl, Below.drewN0 HT2.out.2.2.2 _⟩
  · go_enter Try.func12, Try.ntmps12
    go_wp2_with (first
        | (go_at_call 49; refine (com_any _ _ _ ha ha' hcc).mono ?_; rintro e w1 ⟨rfl, hb1⟩; have HT1 := Lib.hid (HT.out.below hb1); obtain ⟨c0, c1, c2, f0, f1, f2⟩ := HT1.out.cells; clear hb1)
        | (go_at_call 47; refine (keepChange_any _ _ w _ _ _ _ HT1.out).mono ?_; rintro e w2 ⟨rfl, hT2⟩; have HT2 := Lib.hid hT2; clear c0 c1 c2 f0 f1 f2; obtain ⟨c0, c1, c2, f0, f1, f2⟩ := hT2.cells; clear hT2))
    go_quiet (fail)
    go_wp2
    go_ret3
    exact ⟨rfl, Below.drewN0 HT2.out.2.2.2 _⟩
  · go_enter Try.func12, Try.ntmps12
    go_wp2_with (first
        | (go_at_call 50; refine (shLsr_any _ _ _ ha ha' hcc).mono ?_; rintro e w1 ⟨rfl, hb1⟩; have HT1 := Lib.hid (HT.out.below hb1); obtain ⟨c0, c1, c2, f0, f1, f2⟩ := HT1.out.cells; clear hb1)
        | (go_at_call 47; refine (keepChange_any _ _ w _ _ _ _ HT1.out).mono ?_; rintro e w2 ⟨rfl, hT2⟩; have HT2 := Lib.hid hT2; clear c0 c1 c2 f0 f1 f2; obtain ⟨c0, c1, c2, f0, f1, f2⟩ := hT2.cells; clear hT2))
    go_quiet (fail)
    go_wp2
    go_ret3
    exact ⟨rfl, Below.drewN0 HT2.out.2.2.2 _⟩
  · go_enter Try.func12, Try.ntmps12
    go_wp2_with (first
        | (go_at_call 51; refine (shRor_any _ _ _ ha ha' hcc).mono ?_; rintro e w1 ⟨rfl, hb1⟩; have HT1 := Lib.hid (HT.out.below hb1); obtain ⟨c0, c1, c2, f0, f1, f2⟩ := HT1.out.cells; clear hb1)
        | (go_at_call 47; refine (keepChange_any _ _ w _ _ _ _ HT1.out).mono ?_; rintro e w2 ⟨rfl, hT2⟩; have HT2 := Lib.hid hT2; clear c0 c1 c2 f0 f1 f2; obtain ⟨c0, c1, c2, f0, f1, f2⟩ := hT2.cells; clear hT2))
    go_quiet (fail)
    go_wp2
    go_ret3
    exact ⟨rfl, Below.drewN0 HT2.out.2.2.2 _⟩
  · go_enter Try.func12, Try.ntmps12
    go_wp2_with (first
        | (go_at_call 52; refine (shAsr_any _ _ _ ha ha' hcc).mono ?_; rintro e w1 ⟨rfl, hb1⟩; have HT1 := Lib.hid (HT.out.below hb1); obtain ⟨c0, c1, c2, f0, f1, f2⟩ := HT1.out.cells; clear hb1)
        | (go_at_call 47; refine (keepChange_any _ _ w _ _ _ _ HT1.out).mono ?_; rintro e w2 ⟨rfl, hT2⟩; have HT2 := Lib.hid hT2; clear c0 c1 c2 f0 f1 f2; obtain ⟨c0, c1, c2, f0, f1, f2⟩ := hT2.cells; clear hT2))
    go_quiet (fail)
    go_wp2
    go_ret3
    exact ⟨rfl, Below.drewN0 HT2.out.2.2.2 _⟩
  · go_enter Try.func12, Try.ntmps12
    go_wp2_with (first
        | (go_at_call 53; refine (asl_any _ _ _ ha ha' hcc).mono ?_; rintro e w1 ⟨rfl, hb1⟩; have HT1 := Lib.hid (HT.out.below hb1); obtain ⟨c0, c1, c2, f0, f1, f2⟩ := HT1.out.cells; clear hb1)
        | (go_at_call 47; refine (keepChange_any _ _ w _ _ _ _ HT1.out).mono ?_; rintro e w2 ⟨rfl, hT2⟩; have HT2 := Lib.hid hT2; clear c0 c1 c2 f0 f1 f2; obtain ⟨c0, c1, c2, f0, f1, f2⟩ := hT2.cells; clear hT2))
    go_quiet (fail)
    go_wp2
    go_ret3
    exact ⟨rfl, Below.drewN0 HT2.out.2.2.2 _⟩
  · go_enter Try.func12, Try.ntmps12
    go_wp2_with (first
        | (go_at_call 54; refine (rol_any _ _ _ ha ha' hcc).mono ?_; rintro e w1 ⟨rfl, hb1⟩; have HT1 := Lib.hid (HT.out.below hb1); obtain ⟨c0, c1, c2, f0, f1, f2⟩ := HT1.out.cells; clear hb1)
        | (go_at_call 47; refine (keepChange_any _ _ w _ _ _ _ HT1.out).mono ?_; rintro e w2 ⟨rfl, hT2⟩; have HT2 := Lib.hid hT2; clear c0 c1 c2 f0 f1 f2; obtain ⟨c0, c1, c2, f0, f1, f2⟩ := hT2.cells; clear hT2))
    go_quiet (fail)
    go_wp2
    go_ret3
    exact ⟨rfl, Below.drewN0 HT2.out.2.2.2 _⟩
  · go_enter Try.func12, Try.ntmps12
    go_wp2_with (first
        | (go_at_call 55; refine (dec_any _ _ _ ha ha' hcc).mono ?_; rintro e w1 ⟨rfl, hb1⟩; have HT1 := Lib.hid (HT.out.below hb1); obtain ⟨c0, c1, c2, f0, f1, f2⟩ := HT1.out.cells; clear hb1)
        | (go_at_call 47; refine (keepChange_any _ _ w _ _ _ _ HT1.out).mono ?_; rintro e w2 ⟨rfl, hT2⟩; have HT2 := Lib.hid hT2; clear c0 c1 c2 f0 f1 f2; obtain ⟨c0, c1, c2, f0, f1, f2⟩ := hT2.cells; clear hT2))
    go_quiet (fail)
    go_wp2
    go_ret3
    exact ⟨rfl, Below.drewN0 HT2.out.2.2.2 _⟩
  · go_enter Try.func12, Try.ntmps12
    go_wp2_with (first
        | (go_at_call 56; refine (inc_any _ _ _ ha ha' hcc).mono ?_; rintro e w1 ⟨rfl, hb1⟩; have HT1 := Lib.hid (HT.out.below hb1); obtain ⟨c0, c1, c2, f0, f1, f2⟩ := HT1.out.cells; clear hb1)
        | (go_at_call 47; refine (keepChange_any _ _ w _ _ _ _ HT1.out).mono ?_; rintro e w2 ⟨rfl, hT2⟩; have HT2 := Lib.hid hT2; clear c0 c1 c2 f0 f1 f2; obtain ⟨c0, c1, c2, f0, f1, f2⟩ := hT2.cells; clear hT2))
    go_quiet (fail)
    go_wp2
    go_ret3
    exact ⟨rfl, Below.drewN0 HT2.out.2.2.2 _⟩
  · go_enter Try.func12, Try.ntmps12
    go_wp2_with (first
        | (go_at_call 44; refine (tst_any _ _ _ hcc).mono ?_; rintro e w1 ⟨rfl, hb1⟩; have HT1 := Lib.hid (HT.out.below hb1); obtain ⟨c0, c1, c2, f0, f1, f2⟩ := HT1.out.cells; clear hb1)
        | (go_at_call 47; refine (keepChange_any _ _ w _ _ _ _ HT1.out).mono ?_; rintro e w2 ⟨rfl, hT2⟩; have HT2 := Lib.hid hT2; clear c0 c1 c2 f0 f1 f2; obtain ⟨c0, c1, c2, f0, f1, f2⟩ := hT2.cells; clear hT2))
    go_quiet (fail)
    go_wp2
    go_ret3
    exact ⟨rfl, Below.drewN0 (HT1.out.putC _).2.2.2 _⟩
  · go_enter Try.func12, Try.ntmps12
    go_wp2_with (first
        | (go_at_call 57; refine (clr_any _ _ hcc).mono ?_; rintro e w1 ⟨rfl, hb1⟩; have HT1 := Lib.hid (HT.out.below hb1); obtain ⟨c0, c1, c2, f0, f1, f2⟩ := HT1.out.cells; clear hb1)
        | (go_at_call 47; refine (keepChange_any _ _ w _ _ _ _ HT1.out).mono ?_; rintro e w2 ⟨rfl, hT2⟩; have HT2 := Lib.hid hT2; clear c0 c1 c2 f0 f1 f2; obtain ⟨c0, c1, c2, f0, f1, f2⟩ := hT2.cells; clear hT2))
    go_quiet (fail)
    go_wp2
    go_ret3
    exact ⟨rfl, Below.drewN0 HT2.out.2.2.2 _⟩
  · rw [c8_else hop]
    have d13 := ne_beqA (show ¬ op = 13 by omega)
    have d14 := ne_beqA (show ¬ op = 14 by omega)
    have d15 := ne_beqA (show ¬ op = 15 by omega)
    have d16 := ne_beqA (show ¬ op = 16 by omega)
    have d17 := ne_beqA (show ¬ op = 17 by omega)
    have d18 := ne_beqA (show ¬ op = 18 by omega)
    have d19 := ne_beqA (show ¬ op = 19 by omega)
    have d20 := ne_beqA (show ¬ op = 20 by omega)
    have d21 := ne_beqA (show ¬ op = 21 by omega)
    have d22 := ne_beqA (show ¬ op = 22 by omega)
    have d23 := ne_beqA (show ¬ op = 23 by omega)
    clear hop
    obtain ⟨c0, c1, c2, f0, f1, f2⟩ := HT.out.cells
    go_enter Try.func12, Try.ntmps12
    go_wp2
    go_quiet (fail)
    go_wp2
    go_ret3
    exact ⟨rfl, Below.drewN0 HT.out.2.2.2 _⟩
set_option maxRecDepth 100000 in
set_option maxHeartbeats 4000000 in
theorem aluWord_any (op a b cc : Int) (w : World) (ha : 0 ≤ a) (ha' : a < 65536) (hb : 0 ≤ b) (hb' : b < 65536) (hcc : CC cc) :
    Calls Try.prog 8 #[.int .i64 op, .int .u16 a, .int .u16 b, .int .u8 cc] w fun e w' => e = .returned (.tuple #[.int .u16 (w16 op a b cc).1, .int .u8 (w16 op a b cc).2.1, .bool (w16 op a b cc).2.2]) ∧ Below w.heap.size w w' := by
  have hmf : ∀ (fn : Fn) (first cap : Array Value) (w : World), (Instr.makeFunc fn first cap).run Try.prog w = .ok (.func fn first cap) w := fun _ _ _ _ => rfl
  have HT := Lib.hid (Tri.new .u16 22 w a cc false)
  rcases w16_cases op with rfl | rfl | rfl | rfl | hop
  · go_enter Try.func8, Try.ntmps8
    go_wp2_with (first
        | (go_at_call 31; refine (tstW_any _ _ _ hcc).mono ?_; rintro e w1 ⟨rfl, hb1⟩; have HT1 := Lib.hid (HT.out.below hb1); obtain ⟨c0, c1, c2, f0, f1, f2⟩ := HT1.out.cells; clear hb1)
        | (go_at_call 28; refine (keepWord_any _ _ w _ _ _ _ HT1.out).mono ?_; rintro e w2 ⟨rfl, hT2⟩; have HT2 := Lib.hid hT2; clear c0 c1 c2 f0 f1 f2; obtain ⟨c0, c1, c2, f0, f1, f2⟩ := hT2.cells; clear hT2))
    go_quiet (fail)
    go_wp2
    go_ret3
    exact ⟨rfl, Below.drewN0 HT2.out.2.2.2 _⟩
  · go_enter Try.func8, Try.ntmps8
    go_wp2_with (first
        | (go_at_call 29; refine (addW_any _ _ _ _ ha ha' hb hb' hcc).mono ?_; rintro e w1 ⟨rfl, hb1⟩; have HT1 := Lib.hid (HT.out.below hb1); obtain ⟨c0, c1, c2, f0, f1, f2⟩ := HT1.out.cells; clear hb1)
        | (go_at_call 28; refine (keepWord_any _ _ w _ _ _ _ HT1.out).mono ?_; rintro e w2 ⟨rfl, hT2⟩; have HT2 := Lib.hid hT2; clear c0 c1 c2 f0 f1 f2; obtain ⟨c0, c1, c2, f0, f1, f2⟩ := hT2.cells; clear hT2))
    go_quiet (fail)
    go_wp2
    go_ret3
    exact ⟨rfl, Below.drewN0 HT2.out.2.2.2 _⟩
  · go_enter Try.func8, Try.ntmps8
    go_wp2_with (first
        | (go_at_call 30; refine (subW_any _ _ _ _ ha ha' hb hb' hcc).mono ?_; rintro e w1 ⟨rfl, hb1⟩; have HT1 := Lib.hid (HT.out.below hb1); obtain ⟨c0, c1, c2, f0, f1, f2⟩ := HT1.out.cells; clear hb1)
        | (go_at_call 28; refine (keepWord_any _ _ w _ _ _ _ HT1.out).mono ?_; rintro e w2 ⟨rfl, hT2⟩; have HT2 := Lib.hid hT2; clear c0 c1 c2 f0 f1 f2; obtain ⟨c0, c1, c2, f0, f1, f2⟩ := hT2.cells; clear hT2))
    go_quiet (fail)
    go_wp2
    go_ret3
    exact ⟨rfl, Below.drewN0 HT2.out.2.2.2 _⟩
  · go_enter Try.func8, Try.ntmps8
    go_wp2_with (first
        | (go_at_call 32; refine (cmpW_any _ _ _ _ ha ha' hb hb' hcc).mono ?_; rintro e w1 ⟨rfl, hb1⟩; have HT1 := Lib.hid (HT.out.below hb1); obtain ⟨c0, c1, c2, f0, f1, f2⟩ := HT1.out.cells; clear hb1)
        | (go_at_call 28; refine (keepWord_any _ _ w _ _ _ _ HT1.out).mono ?_; rintro e w2 ⟨rfl, hT2⟩; have HT2 := Lib.hid hT2; clear c0 c1 c2 f0 f1 f2; obtain ⟨c0, c1, c2, f0, f1, f2⟩ := hT2.cells; clear hT2))
    go_quiet (fail)
    go_wp2
    go_ret3
    exact ⟨rfl, Below.drewN0 (HT1.out.putC _).2.2.2 _⟩
  · rw [w16_else hop]
    have d24 := ne_beqA (show ¬ op = 24 by omega)
    have d26 := ne_beqA (show ¬ op = 26 by omega)
    have d27 := ne_beqA (show ¬ op = 27 by omega)
    have d28 := ne_beqA (show ¬ op = 28 by omega)
    clear hop
    obtain ⟨c0, c1, c2, f0, f1, f2⟩ := HT.out.cells
    go_enter Try.func8, Try.ntmps8
    go_wp2
    go_quiet (fail)
    go_wp2
    go_ret3
    exact ⟨rfl, Below.drewN0 HT.out.2.2.2 _⟩
theorem alive24 (w : World) : Calls Try.prog 10 #[] w fun e w' => e = .returned (.bool true) ∧ Below w.heap.size w w' := by
  have h1 : (e8 6 1 1 0).2.1 = 4 := by decide
  have h2 : (e8 6 1 1 0).1 = 1 := by decide
  have h3 : (e8 6 1 1 0).2.2 = false := by decide
  go_enter Try.func10, Try.ntmps10
  go_wp2_with (go_at_call 11; refine (eight_any _ _ _ _ _ (by omega) (by omega) (by omega) (by omega) (CC.mk' (by omega) (by omega))).mono ?_; rintro e w1 ⟨rfl, hb1⟩)
  go_ret
  exact ⟨rfl, hb1⟩
end Go.Proofs.Ytkdekhcnamkcgac
