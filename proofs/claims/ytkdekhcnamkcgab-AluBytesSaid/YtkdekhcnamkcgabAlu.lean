/- Contracts of package alu's calls, and of the document's own (spinetref24). -/
import Derived.Test.YtkdekhcnamkcgabAluD
import Derived.Deep.QuietTactic
import Derived.BigQuiet
import Derived.Outline
namespace Go.Proofs.Ytkdekhcnamkcgab
open Go.ChangeShapes Go.WideShapes Go.ChangeAt Go.RowKit
set_option linter.unusedVariables false

theorem ret_three {v0 v1 v2 u0 u1 u2 : Value} (h0 : v0 = u0) (h1 : v1 = u1) (h2 : v2 = u2) : Ending.returned (.tuple #[v0, v1, v2]) = .returned (.tuple #[u0, u1, u2]) := by rw [h0, h1, h2]
theorem ne_beqA {o k : Int} (h : ¬ o = k) : (o == k) = false := by simpa using h
set_option maxHeartbeats 1000000 in
theorem step08_any (a cc : Int) (up : Bool) (w : World) (ha : 0 ≤ a) (ha' : a < 256) (hcc : CC cc) :
    Calls Try.prog 54 #[.int .u8 a, .int .u8 cc, .bool up] w fun e w' => e = .returned (.tuple #[.int .u8 (if up then (a + 1) % 256 else (a - 1) % 256), .int .u8 (if up then incC cc a else decC cc a)]) ∧ w = w' := by
  have e1 : Hid ((a + 255) % 256 = (a - 1) % 256) := Lib.hid (by omega)
  cases up
  all_goals
    go_enter Try.func54, Try.ntmps54
    go_wp2_with (first
      | (go_at_call 60; refine (nzRef_cc _ _ _ hcc (by omega)).mono ?_; rintro e w' ⟨rfl, rfl⟩)
      | (go_at_call 51; refine (putRef_cc _ _ _ _ (CC.nz hcc _ _) bit2).mono ?_; rintro e w' ⟨rfl, rfl⟩))
    go_ret2
  · exact ⟨ret_two e1.out (by unfold decC; rw [e1.out]), rfl⟩
  · exact ⟨rfl, rfl⟩
set_option maxRecDepth 100000 in
set_option maxHeartbeats 4000000 in
theorem refEight_any (op a b cc : Int) (w : World) (ha : 0 ≤ a) (ha' : a < 256) (hb : 0 ≤ b) (hb' : b < 256) (hcc : CC cc) :
    Calls Try.prog 18 #[.int .i64 op, .int .u8 a, .int .u8 b, .int .u8 cc] w fun e w' => e = .returned (.tuple #[.int .u8 (e8 op a b cc).1, .int .u8 (e8 op a b cc).2.1, .bool (e8 op a b cc).2.2]) ∧ w = w' := by
  obtain ⟨c0, c1⟩ := hcc
  have hcc : CC cc := ⟨c0, c1⟩
  have e1 := bits1 a b ha ha' hb hb'
  have e2 := bits2 a b ha ha' hb hb'
  have e3 := bits3 a b ha ha' hb hb'
  obtain ⟨r11, r12⟩ := bits_u8_range .and a b
  obtain ⟨r21, r22⟩ := bits_u8_range .or a b
  obtain ⟨r31, r32⟩ := bits_u8_range .xor a b
  rcases e8_cases op with rfl | rfl | rfl | rfl | rfl | rfl | rfl | rfl | rfl | rfl | hop
  iterate 10
    · go_enter Try.func18, Try.ntmps18
      go_wp2_with (first
        | (go_at_call 36; refine (refAdd_any _ _ _ _ _ ha ha' hb hb' (by omega) (by omega) hcc).mono ?_; rintro e w' ⟨rfl, rfl⟩)
        | (go_at_call 39; refine (refSub_any _ _ _ _ _ ha ha' hb hb' (by omega) (by omega) hcc).mono ?_; rintro e w' ⟨rfl, rfl⟩)
        | (go_at_call 37; (first | (with_reducible refine (refBits1 _ _ _ ha ha' hb hb').mono ?_) | (with_reducible refine (refBits2 _ _ _ ha ha' hb hb').mono ?_) | (with_reducible refine (refBits3 _ _ _ ha ha' hb hb').mono ?_)); rintro e w' ⟨rfl, rfl⟩)
        | (go_at_call 38; refine (told_any _ _ _ hcc (by omega) (by omega)).mono ?_; rintro e w' ⟨rfl, rfl⟩))
      go_ret3
      refine ⟨ret_three ?_ ?_ ?_, rfl⟩
      all_goals first | rfl | simp [e8]
  · rw [e8_else hop]
    have d2 := ne_beqA (show ¬ op = 2 by omega)
    have d3 := ne_beqA (show ¬ op = 3 by omega)
    have d4 := ne_beqA (show ¬ op = 4 by omega)
    have d5 := ne_beqA (show ¬ op = 5 by omega)
    have d6 := ne_beqA (show ¬ op = 6 by omega)
    have d7 := ne_beqA (show ¬ op = 7 by omega)
    have d8 := ne_beqA (show ¬ op = 8 by omega)
    have d9 := ne_beqA (show ¬ op = 9 by omega)
    have d10 := ne_beqA (show ¬ op = 10 by omega)
    have d11 := ne_beqA (show ¬ op = 11 by omega)
    clear e1 e2 e3
    rcases hop with hop | hop
    all_goals
      go_enter Try.func18, Try.ntmps18
      go_wp2
      go_ret3
      exact ⟨rfl, rfl⟩
set_option maxRecDepth 100000 in
set_option maxHeartbeats 4000000 in
theorem refChange_any (op a cc : Int) (w : World) (ha : 0 ≤ a) (ha' : a < 256) (hcc : CC cc) :
    Calls Try.prog 20 #[.int .i64 op, .int .u8 a, .int .u8 cc] w fun e w' => e = .returned (.tuple #[.int .u8 (c8 op a cc).1, .int .u8 (c8 op a cc).2.1, .bool (c8 op a cc).2.2]) ∧ w = w' := by
  obtain ⟨c0, c1⟩ := hcc
  have hcc : CC cc := ⟨c0, c1⟩
  have e4 := bits4 a 0 ha ha' (by omega) (by omega)
  have HL : Hid (inLsr a cc = false) := Lib.hid rfl
  have HA : Hid (inAsr a cc = decide (127 < a)) := Lib.hid (by unfold inAsr; rw [Bool.eq_iff_iff]; simp; omega)
  have HR : Hid (inRor a cc = (cc % 2 == 1)) := Lib.hid (has1_odd cc)
  have HB : Hid (bit01 (cc % 2 == 1) = cc % 2) := Lib.hid (by unfold bit01; rcases (show cc % 2 = 0 ∨ cc % 2 = 1 by omega) with h | h <;> simp [h])
  rcases (show op = 13 ∨ op = 14 ∨ op = 15 ∨ op = 16 ∨ op = 17 ∨ op = 18 ∨ op = 19 ∨ op = 20 ∨ op = 21 ∨ op = 22 ∨ op = 23 ∨ (op < 13 ∨ 23 < op) by omega) with rfl | rfl | rfl | rfl | rfl | rfl | rfl | rfl | rfl | rfl | rfl | hop
  iterate 11
    · go_enter Try.func20, Try.ntmps20
      go_wp2_with (first
        | (go_at_call 39; refine (refSub_any _ _ _ _ _ (by omega) (by omega) ha ha' (by omega) (by omega) hcc).mono ?_; rintro e w' ⟨rfl, rfl⟩)
        | (go_at_call 37; (with_reducible refine (refBits4 _ _ _ ha ha' (by omega) (by omega)).mono ?_); rintro e w' ⟨rfl, rfl⟩)
        | (go_at_call 38; refine (told_any _ _ _ hcc (by omega) (by omega)).mono ?_; rintro e w' ⟨rfl, rfl⟩)
        | (go_at_call 51; refine (putRef_cc _ _ _ _ (CC.tst hcc _) bit1).mono ?_; rintro e w' ⟨rfl, rfl⟩)
        | (go_at_call 52; refine (refRight_any _ _ _ _ ha ha' hcc).mono ?_; rintro e w' ⟨rfl, rfl⟩)
        | (go_at_call 53; refine (refLeft_any _ _ _ _ ha ha' hcc).mono ?_; rintro e w' ⟨rfl, rfl⟩)
        | (go_at_call 54; refine (step08_any _ _ _ _ ha ha' hcc).mono ?_; rintro e w' ⟨rfl, rfl⟩))
      go_ret3
      refine ⟨ret_three ?_ ?_ ?_, rfl⟩
      all_goals first | rfl | (simp [c8]; done) | (simp [c8, HR.out, HB.out]; done) | (simp [c8, bit01, HL.out, HA.out, HR.out, HB.out])
  · rw [c8_else hop]
    have d13 := ne_beqA (show ¬ op = 13 by omega)
    have d14 := ne_beqA (show ¬ op = 14 by omega)
    have d15 := ne_beqA (show ¬ op = 15 by omega)
    have d16 := ne_beqA (show ¬ op = 16 by omega)
    have d17 := ne_beqA (show ¬ op = 17 by omega)
    have d18 := ne_beqA (show ¬ op = 18 by omega)
    have d19 := ne_beqA (show ¬ op = 19 by omega)
    have d20 := ne_beqA (show ¬ op = 20 by omega)
    have d21 := ne_beqA (show ¬ op = 21 by omega)
    have d22 := ne_beqA (show ¬ op = 22 by omega)
    have d23 := ne_beqA (show ¬ op = 23 by omega)
    clear e4
    rcases hop with hop | hop
    all_goals
      go_enter Try.func20, Try.ntmps20
      go_wp2
      go_ret3
      exact ⟨rfl, rfl⟩
/-- The three variables that a closure keeps: new blocks, one behind the other. -/
def Tri (k : IntKind) (t : TypeId) (w W : World) (x y : Int) (b : Bool) : Prop :=
  Blk W w.heap.size t #[.int k x] ∧ Blk W (w.heap.size + 1) 5 #[.int .u8 y] ∧ Blk W (w.heap.size + 1 + 1) 4 #[.bool b] ∧ Below w.heap.size w W
theorem Tri.new (k : IntKind) (t : TypeId) (w : World) (x y : Int) (b : Bool) : Tri k t w (((w.alloc (.cells #[.int k x] t)).alloc (.cells #[.int .u8 y] 5)).alloc (.cells #[.bool b] 4)) x y b := by
  have e1 : (w.alloc (.cells #[.int k x] t)).heap.size = w.heap.size + 1 := by simp
  have e2 : ((w.alloc (.cells #[.int k x] t)).alloc (.cells #[.int .u8 y] 5)).heap.size = w.heap.size + 1 + 1 := by simp
  have b1 := Blk.new (w.alloc (.cells #[.int k x] t)) 5 #[.int .u8 y] (0, 0)
  have b2 := Blk.new ((w.alloc (.cells #[.int k x] t)).alloc (.cells #[.int .u8 y] 5)) 4 #[.bool b] (0, 0)
  rw [e1] at b1
  rw [e2] at b2
  exact ⟨Blk.alloc (Blk.alloc (Blk.new _ _ _ _) _) _, Blk.alloc b1 _, b2, Below.alloc0 (Below.alloc0 (Below.alloc0 (Below.refl _ _) _) _) _⟩
section
variable {k : IntKind} {t : TypeId} {w W W' : World} {x y : Int} {b : Bool}
theorem Tri.below (h : Tri k t w W x y b) (hb : Below W.heap.size W W') : Tri k t w W' x y b :=
  ⟨h.1.below hb h.1.lt, h.2.1.below hb h.2.1.lt, h.2.2.1.below hb h.2.2.1.lt, Below.trans0 h.2.2.2 hb⟩
theorem Tri.cells (h : Tri k t w W x y b) : W.cell? ⟨w.heap.size, 0, none⟩ = some (.int k x) ∧ W.cell? ⟨w.heap.size + 1, 0, none⟩ = some (.int .u8 y) ∧ W.cell? ⟨w.heap.size + 1 + 1, 0, none⟩ = some (.bool b) ∧
    W.frozen? ⟨w.heap.size, 0, none⟩ = false ∧ W.frozen? ⟨w.heap.size + 1, 0, none⟩ = false ∧ W.frozen? ⟨w.heap.size + 1 + 1, 0, none⟩ = false :=
  ⟨by rw [h.1.cell]; rfl, by rw [h.2.1.cell]; rfl, by rw [h.2.2.1.cell]; rfl, h.1.frozen _, h.2.1.frozen _, h.2.2.1.frozen _⟩
theorem Tri.put (h : Tri k t w W x y b) (r s : Int) (c : Bool) : Tri k t w (((W.setCell ⟨w.heap.size, 0, none⟩ (.int k r)).setCell ⟨w.heap.size + 1, 0, none⟩ (.int .u8 s)).setCell ⟨w.heap.size + 1 + 1, 0, none⟩ (.bool c)) r s c :=
  ⟨Blk.far (Blk.far (Blk.set_ h.1 0 _) (by simp) _) (by simp; omega) _, Blk.far (Blk.set_ (Blk.far h.2.1 (by simp) _) 0 _) (by simp) _, Blk.set_ (Blk.far (Blk.far h.2.2.1 (by simp; omega) _) (by simp) _) 0 _,
    Below.setCell (p := ⟨w.heap.size + 1 + 1, 0, none⟩) (Below.setCell (p := ⟨w.heap.size + 1, 0, none⟩) (Below.setCell (p := ⟨w.heap.size, 0, none⟩) h.2.2.2 (Nat.le_refl _) _) (Nat.le_succ _) _) (by simp; omega) _⟩
theorem Tri.putC (h : Tri k t w W x y b) (s : Int) : Tri k t w (W.setCell ⟨w.heap.size + 1, 0, none⟩ (.int .u8 s)) x s b :=
  ⟨Blk.far h.1 (by simp) _, Blk.set_ h.2.1 0 _, Blk.far h.2.2.1 (by simp) _, Below.setCell (p := ⟨w.heap.size + 1, 0, none⟩) h.2.2.2 (Nat.le_succ _) _⟩
end
set_option maxRecDepth 100000 in
theorem keepEight_any (r s : Int) (w W : World) (x y : Int) (b : Bool) (h : Tri .u8 5 w W x y b) :
    Calls Try.prog 25 #[.int .u8 r, .int .u8 s, .pointer (some ⟨w.heap.size, 0, none⟩), .pointer (some ⟨w.heap.size + 1, 0, none⟩), .pointer (some ⟨w.heap.size + 1 + 1, 0, none⟩)] W fun e W' => e = .returned (.tuple #[]) ∧ Tri .u8 5 w W' r s true := by
  have HP := Lib.hid (h.put r s true)
  obtain ⟨c0, c1, c2, f0, f1, f2⟩ := h.cells
  clear h
  go_enter Try.func25, Try.ntmps25
  go_wp2
  go_end0
  exact ⟨rfl, HP.out⟩
set_option maxRecDepth 100000 in
theorem keepChange_any (r s : Int) (w W : World) (x y : Int) (b : Bool) (h : Tri .u8 5 w W x y b) :
    Calls Try.prog 40 #[.int .u8 r, .int .u8 s, .pointer (some ⟨w.heap.size, 0, none⟩), .pointer (some ⟨w.heap.size + 1, 0, none⟩), .pointer (some ⟨w.heap.size + 1 + 1, 0, none⟩)] W fun e W' => e = .returned (.tuple #[]) ∧ Tri .u8 5 w W' r s true := by
  have HP := Lib.hid (h.put r s true)
  obtain ⟨c0, c1, c2, f0, f1, f2⟩ := h.cells
  clear h
  go_enter Try.func40, Try.ntmps40
  go_wp2
  go_end0
  exact ⟨rfl, HP.out⟩
set_option maxRecDepth 100000 in
set_option maxHeartbeats 4000000 in
theorem eight_any (op a b cc : Int) (w : World) (ha : 0 ≤ a) (ha' : a < 256) (hb : 0 ≤ b) (hb' : b < 256) (hcc : CC cc) :
    Calls Try.prog 17 #[.int .i64 op, .int .u8 a, .int .u8 b, .int .u8 cc] w fun e w' => e = .returned (.tuple #[.int .u8 (e8 op a b cc).1, .int .u8 (e8 op a b cc).2.1, .bool (e8 op a b cc).2.2]) ∧ Below w.heap.size w w' := by
  have hmf : ∀ (fn : Fn) (first cap : Array Value) (w : World), (Instr.makeFunc fn first cap).run Try.prog w = .ok (.func fn first cap) w := fun _ _ _ _ => rfl
  have HT := Lib.hid (Tri.new .u8 5 w a cc false)
  rcases e8_cases op with rfl | rfl | rfl | rfl | rfl | rfl | rfl | rfl | rfl | rfl | hop
  · go_enter Try.func17, Try.ntmps17
    go_wp2_with (first
        | (go_at_call 26; refine (adc_any _ _ _ _ ha ha' hb hb' hcc).mono ?_; rintro e w1 ⟨rfl, hb1⟩; have HT1 := Lib.hid (HT.out.below hb1); obtain ⟨c0, c1, c2, f0, f1, f2⟩ := HT1.out.cells; clear hb1)
        | (go_at_call 25; refine (keepEight_any _ _ w _ _ _ _ HT1.out).mono ?_; rintro e w2 ⟨rfl, hT2⟩; have HT2 := Lib.hid hT2; clear c0 c1 c2 f0 f1 f2; obtain ⟨c0, c1, c2, f0, f1, f2⟩ := hT2.cells; clear hT2))
    go_quiet (fail)
    go_wp2
    go_ret3
    exact ⟨rfl, Below.drewN0 HT2.out.2.2.2 _⟩
  · go_enter Try.func17, Try.ntmps17
    go_wp2_with (first
        | (go_at_call 27; refine (add_any _ _ _ _ ha ha' hb hb' hcc).mono ?_; rintro e w1 ⟨rfl, hb1⟩; have HT1 := Lib.hid (HT.out.below hb1); obtain ⟨c0, c1, c2, f0, f1, f2⟩ := HT1.out.cells; clear hb1)
        | (go_at_call 25; refine (keepEight_any _ _ w _ _ _ _ HT1.out).mono ?_; rintro e w2 ⟨rfl, hT2⟩; have HT2 := Lib.hid hT2; clear c0 c1 c2 f0 f1 f2; obtain ⟨c0, c1, c2, f0, f1, f2⟩ := hT2.cells; clear hT2))
    go_quiet (fail)
    go_wp2
    go_ret3
    exact ⟨rfl, Below.drewN0 HT2.out.2.2.2 _⟩
  · go_enter Try.func17, Try.ntmps17
    go_wp2_with (first
        | (go_at_call 28; refine (land_any _ _ _ _ hcc).mono ?_; rintro e w1 ⟨rfl, hb1⟩; have HT1 := Lib.hid (HT.out.below hb1); obtain ⟨c0, c1, c2, f0, f1, f2⟩ := HT1.out.cells; clear hb1)
        | (go_at_call 25; refine (keepEight_any _ _ w _ _ _ _ HT1.out).mono ?_; rintro e w2 ⟨rfl, hT2⟩; have HT2 := Lib.hid hT2; clear c0 c1 c2 f0 f1 f2; obtain ⟨c0, c1, c2, f0, f1, f2⟩ := hT2.cells; clear hT2))
    go_quiet (fail)
    go_wp2
    go_ret3
    exact ⟨rfl, Below.drewN0 HT2.out.2.2.2 _⟩
  · go_enter Try.func17, Try.ntmps17
    go_wp2_with (first
        | (go_at_call 34; refine (lbit_any _ _ _ _ hcc).mono ?_; rintro e w1 ⟨rfl, hb1⟩; have HT1 := Lib.hid (HT.out.below hb1); obtain ⟨c0, c1, c2, f0, f1, f2⟩ := HT1.out.cells; clear hb1)
        | (go_at_call 25; refine (keepEight_any _ _ w _ _ _ _ HT1.out).mono ?_; rintro e w2 ⟨rfl, hT2⟩; have HT2 := Lib.hid hT2; clear c0 c1 c2 f0 f1 f2; obtain ⟨c0, c1, c2, f0, f1, f2⟩ := hT2.cells; clear hT2))
    go_quiet (fail)
    go_wp2
    go_ret3
    exact ⟨rfl, Below.drewN0 (HT1.out.putC _).2.2.2 _⟩
  · go_enter Try.func17, Try.ntmps17
    go_wp2_with (first
        | (go_at_call 35; refine (cmp_any _ _ _ _ ha ha' hb hb' hcc).mono ?_; rintro e w1 ⟨rfl, hb1⟩; have HT1 := Lib.hid (HT.out.below hb1); obtain ⟨c0, c1, c2, f0, f1, f2⟩ := HT1.out.cells; clear hb1)
        | (go_at_call 25; refine (keepEight_any _ _ w _ _ _ _ HT1.out).mono ?_; rintro e w2 ⟨rfl, hT2⟩; have HT2 := Lib.hid hT2; clear c0 c1 c2 f0 f1 f2; obtain ⟨c0, c1, c2, f0, f1, f2⟩ := hT2.cells; clear hT2))
    go_quiet (fail)
    go_wp2
    go_ret3
    exact ⟨rfl, Below.drewN0 (HT1.out.putC _).2.2.2 _⟩
  · go_enter Try.func17, Try.ntmps17
    go_wp2_with (first
        | (go_at_call 29; refine (leor_any _ _ _ _ hcc).mono ?_; rintro e w1 ⟨rfl, hb1⟩; have HT1 := Lib.hid (HT.out.below hb1); obtain ⟨c0, c1, c2, f0, f1, f2⟩ := HT1.out.cells; clear hb1)
        | (go_at_call 25; refine (keepEight_any _ _ w _ _ _ _ HT1.out).mono ?_; rintro e w2 ⟨rfl, hT2⟩; have HT2 := Lib.hid hT2; clear c0 c1 c2 f0 f1 f2; obtain ⟨c0, c1, c2, f0, f1, f2⟩ := hT2.cells; clear hT2))
    go_quiet (fail)
    go_wp2
    go_ret3
    exact ⟨rfl, Below.drewN0 HT2.out.2.2.2 _⟩
  · go_enter Try.func17, Try.ntmps17
    go_wp2_with (first
        | (go_at_call 30; refine (lor_any _ _ _ _ hcc).mono ?_; rintro e w1 ⟨rfl, hb1⟩; have HT1 := Lib.hid (HT.out.below hb1); obtain ⟨c0, c1, c2, f0, f1, f2⟩ := HT1.out.cells; clear hb1)
        | (go_at_call 25; refine (keepEight_any _ _ w _ _ _ _ HT1.out).mono ?_; rintro e w2 ⟨rfl, hT2⟩; have HT2 := Lib.hid hT2; clear c0 c1 c2 f0 f1 f2; obtain ⟨c0, c1, c2, f0, f1, f2⟩ := hT2.cells; clear hT2))
    go_quiet (fail)
    go_wp2
    go_ret3
    exact ⟨rfl, Below.drewN0 HT2.out.2.2.2 _⟩
  · go_enter Try.func17, Try.ntmps17
    go_wp2_with (first
        | (go_at_call 31; refine (sbc_any _ _ _ _ ha ha' hb hb' hcc).mono ?_; rintro e w1 ⟨rfl, hb1⟩; have HT1 := Lib.hid (HT.out.below hb1); obtain ⟨c0, c1, c2, f0, f1, f2⟩ := HT1.out.cells; clear hb1)
        | (go_at_call 25; refine (keepEight_any _ _ w _ _ _ _ HT1.out).mono ?_; rintro e w2 ⟨rfl, hT2⟩; have HT2 := Lib.hid hT2; clear c0 c1 c2 f0 f1 f2; obtain ⟨c0, c1, c2, f0, f1, f2⟩ := hT2.cells; clear hT2))
    go_quiet (fail)
    go_wp2
    go_ret3
    exact ⟨rfl, Below.drewN0 HT2.out.2.2.2 _⟩
  · go_enter Try.func17, Try.ntmps17
    go_wp2_with (first
        | (go_at_call 32; refine (sub_any _ _ _ _ ha ha' hb hb' hcc).mono ?_; rintro e w1 ⟨rfl, hb1⟩; have HT1 := Lib.hid (HT.out.below hb1); obtain ⟨c0, c1, c2, f0, f1, f2⟩ := HT1.out.cells; clear hb1)
        | (go_at_call 25; refine (keepEight_any _ _ w _ _ _ _ HT1.out).mono ?_; rintro e w2 ⟨rfl, hT2⟩; have HT2 := Lib.hid hT2; clear c0 c1 c2 f0 f1 f2; obtain ⟨c0, c1, c2, f0, f1, f2⟩ := hT2.cells; clear hT2))
    go_quiet (fail)
    go_wp2
    go_ret3
    exact ⟨rfl, Below.drewN0 HT2.out.2.2.2 _⟩
  · go_enter Try.func17, Try.ntmps17
    go_wp2_with (first
        | (go_at_call 33; refine (tst_any _ _ _ hcc).mono ?_; rintro e w1 ⟨rfl, hb1⟩; have HT1 := Lib.hid (HT.out.below hb1); obtain ⟨c0, c1, c2, f0, f1, f2⟩ := HT1.out.cells; clear hb1)
        | (go_at_call 25; refine (keepEight_any _ _ w _ _ _ _ HT1.out).mono ?_; rintro e w2 ⟨rfl, hT2⟩; have HT2 := Lib.hid hT2; clear c0 c1 c2 f0 f1 f2; obtain ⟨c0, c1, c2, f0, f1, f2⟩ := hT2.cells; clear hT2))
    go_quiet (fail)
    go_wp2
    go_ret3
    exact ⟨rfl, Below.drewN0 HT2.out.2.2.2 _⟩
  · rw [e8_else hop]
    have d2 := ne_beqA (show ¬ op = 2 by omega)
    have d3 := ne_beqA (show ¬ op = 3 by omega)
    have d4 := ne_beqA (show ¬ op = 4 by omega)
    have d5 := ne_beqA (show ¬ op = 5 by omega)
    have d6 := ne_beqA (show ¬ op = 6 by omega)
    have d7 := ne_beqA (show ¬ op = 7 by omega)
    have d8 := ne_beqA (show ¬ op = 8 by omega)
    have d9 := ne_beqA (show ¬ op = 9 by omega)
    have d10 := ne_beqA (show ¬ op = 10 by omega)
    have d11 := ne_beqA (show ¬ op = 11 by omega)
    clear hop
    obtain ⟨c0, c1, c2, f0, f1, f2⟩ := HT.out.cells
    go_enter Try.func17, Try.ntmps17
    go_wp2
    go_quiet (fail)
    go_wp2
    go_ret3
    exact ⟨rfl, Below.drewN0 HT.out.2.2.2 _⟩
set_option maxRecDepth 100000 in
set_option maxHeartbeats 4000000 in
theorem change_any (op a cc : Int) (w : World) (ha : 0 ≤ a) (ha' : a < 256) (hcc : CC cc) :
    Calls Try.prog 19 #[.int .i64 op, .int .u8 a, .int .u8 cc] w fun e w' => e = .returned (.tuple #[.int .u8 (c8 op a cc).1, .int .u8 (c8 op a cc).2.1, .bool (c8 op a cc).2.2]) ∧ Below w.heap.size w w' := by
  have hmf : ∀ (fn : Fn) (first cap : Array Value) (w : World), (Instr.makeFunc fn first cap).run Try.prog w = .ok (.func fn first cap) w := fun _ _ _ _ => rfl
  have HT := Lib.hid (Tri.new .u8 5 w a cc false)
  rcases c8_cases op with rfl | rfl | rfl | rfl | rfl | rfl | rfl | rfl | rfl | rfl | rfl | hop
  · go_enter Try.func19, Try.ntmps19
    go_wp2_with (first
        | (go_at_call 41; refine (neg_any _ _ _ ha ha' hcc).mono ?_; rintro e w1 ⟨rfl, hb1⟩; have HT1 := Lib.hid (HT.out.below hb1); obtain ⟨c0, c1, c2, f0, f1, f2⟩ := HT1.out.cells; clear hb1)
        | (go_at_call 40; refine (keepChange_any _ _ w _ _ _ _ HT1.out).mono ?_; rintro e w2 ⟨rfl, hT2⟩; have HT2 := Lib.hid hT2; clear c0 c1 c2 f0 f1 f2; obtain ⟨c0, c1, c2, f0, f1, f2⟩ := hT2.cells; clear hT2))
    go_quiet (fail)
    go_wp2
    go_ret3
    exact ⟨ret_three (vint (by show -a % 256 = (0 - a) % 256; rw [Int.zero_sub])) rfl rfl, Below.drewN0 HT2.out.2.2.2 _⟩
  · go_enter Try.func19, Try.ntmps19
    go_wp2_with (first
        | (go_at_call 42; refine (com_any _ _ _ ha ha' hcc).mono ?_; rintro e w1 ⟨rfl, hb1⟩; have HT1 := Lib.hid (HT.out.below hb1); obtain ⟨c0, c1, c2, f0, f1, f2⟩ := HT1.out.cells; clear hb1)
        | (go_at_call 40; refine (keepChange_any _ _ w _ _ _ _ HT1.out).mono ?_; rintro e w2 ⟨rfl, hT2⟩; have HT2 := Lib.hid hT2; clear c0 c1 c2 f0 f1 f2; obtain ⟨c0, c1, c2, f0, f1, f2⟩ := hT2.cells; clear hT2))
    go_quiet (fail)
    go_wp2
    go_ret3
    exact ⟨rfl, Below.drewN0 HT2.out.2.2.2 _⟩
  · go_enter Try.func19, Try.ntmps19
    go_wp2_with (first
        | (go_at_call 43; refine (shLsr_any _ _ _ ha ha' hcc).mono ?_; rintro e w1 ⟨rfl, hb1⟩; have HT1 := Lib.hid (HT.out.below hb1); obtain ⟨c0, c1, c2, f0, f1, f2⟩ := HT1.out.cells; clear hb1)
        | (go_at_call 40; refine (keepChange_any _ _ w _ _ _ _ HT1.out).mono ?_; rintro e w2 ⟨rfl, hT2⟩; have HT2 := Lib.hid hT2; clear c0 c1 c2 f0 f1 f2; obtain ⟨c0, c1, c2, f0, f1, f2⟩ := hT2.cells; clear hT2))
    go_quiet (fail)
    go_wp2
    go_ret3
    exact ⟨rfl, Below.drewN0 HT2.out.2.2.2 _⟩
  · go_enter Try.func19, Try.ntmps19
    go_wp2_with (first
        | (go_at_call 44; refine (shRor_any _ _ _ ha ha' hcc).mono ?_; rintro e w1 ⟨rfl, hb1⟩; have HT1 := Lib.hid (HT.out.below hb1); obtain ⟨c0, c1, c2, f0, f1, f2⟩ := HT1.out.cells; clear hb1)
        | (go_at_call 40; refine (keepChange_any _ _ w _ _ _ _ HT1.out).mono ?_; rintro e w2 ⟨rfl, hT2⟩; have HT2 := Lib.hid hT2; clear c0 c1 c2 f0 f1 f2; obtain ⟨c0, c1, c2, f0, f1, f2⟩ := hT2.cells; clear hT2))
    go_quiet (fail)
    go_wp2
    go_ret3
    exact ⟨rfl, Below.drewN0 HT2.out.2.2.2 _⟩
  · go_enter Try.func19, Try.ntmps19
    go_wp2_with (first
        | (go_at_call 45; refine (shAsr_any _ _ _ ha ha' hcc).mono ?_; rintro e w1 ⟨rfl, hb1⟩; have HT1 := Lib.hid (HT.out.below hb1); obtain ⟨c0, c1, c2, f0, f1, f2⟩ := HT1.out.cells; clear hb1)
        | (go_at_call 40; refine (keepChange_any _ _ w _ _ _ _ HT1.out).mono ?_; rintro e w2 ⟨rfl, hT2⟩; have HT2 := Lib.hid hT2; clear c0 c1 c2 f0 f1 f2; obtain ⟨c0, c1, c2, f0, f1, f2⟩ := hT2.cells; clear hT2))
    go_quiet (fail)
    go_wp2
    go_ret3
    exact ⟨rfl, Below.drewN0 HT2.out.2.2.2 _⟩
  · go_enter Try.func19, Try.ntmps19
    go_wp2_with (first
        | (go_at_call 46; refine (asl_any _ _ _ ha ha' hcc).mono ?_; rintro e w1 ⟨rfl, hb1⟩; have HT1 := Lib.hid (HT.out.below hb1); obtain ⟨c0, c1, c2, f0, f1, f2⟩ := HT1.out.cells; clear hb1)
        | (go_at_call 40; refine (keepChange_any _ _ w _ _ _ _ HT1.out).mono ?_; rintro e w2 ⟨rfl, hT2⟩; have HT2 := Lib.hid hT2; clear c0 c1 c2 f0 f1 f2; obtain ⟨c0, c1, c2, f0, f1, f2⟩ := hT2.cells; clear hT2))
    go_quiet (fail)
    go_wp2
    go_ret3
    exact ⟨rfl, Below.drewN0 HT2.out.2.2.2 _⟩
  · go_enter Try.func19, Try.ntmps19
    go_wp2_with (first
        | (go_at_call 47; refine (rol_any _ _ _ ha ha' hcc).mono ?_; rintro e w1 ⟨rfl, hb1⟩; have HT1 := Lib.hid (HT.out.below hb1); obtain ⟨c0, c1, c2, f0, f1, f2⟩ := HT1.out.cells; clear hb1)
        | (go_at_call 40; refine (keepChange_any _ _ w _ _ _ _ HT1.out).mono ?_; rintro e w2 ⟨rfl, hT2⟩; have HT2 := Lib.hid hT2; clear c0 c1 c2 f0 f1 f2; obtain ⟨c0, c1, c2, f0, f1, f2⟩ := hT2.cells; clear hT2))
    go_quiet (fail)
    go_wp2
    go_ret3
    exact ⟨rfl, Below.drewN0 HT2.out.2.2.2 _⟩
  · go_enter Try.func19, Try.ntmps19
    go_wp2_with (first
        | (go_at_call 48; refine (dec_any _ _ _ ha ha' hcc).mono ?_; rintro e w1 ⟨rfl, hb1⟩; have HT1 := Lib.hid (HT.out.below hb1); obtain ⟨c0, c1, c2, f0, f1, f2⟩ := HT1.out.cells; clear hb1)
        | (go_at_call 40; refine (keepChange_any _ _ w _ _ _ _ HT1.out).mono ?_; rintro e w2 ⟨rfl, hT2⟩; have HT2 := Lib.hid hT2; clear c0 c1 c2 f0 f1 f2; obtain ⟨c0, c1, c2, f0, f1, f2⟩ := hT2.cells; clear hT2))
    go_quiet (fail)
    go_wp2
    go_ret3
    exact ⟨rfl, Below.drewN0 HT2.out.2.2.2 _⟩
  · go_enter Try.func19, Try.ntmps19
    go_wp2_with (first
        | (go_at_call 49; refine (inc_any _ _ _ ha ha' hcc).mono ?_; rintro e w1 ⟨rfl, hb1⟩; have HT1 := Lib.hid (HT.out.below hb1); obtain ⟨c0, c1, c2, f0, f1, f2⟩ := HT1.out.cells; clear hb1)
        | (go_at_call 40; refine (keepChange_any _ _ w _ _ _ _ HT1.out).mono ?_; rintro e w2 ⟨rfl, hT2⟩; have HT2 := Lib.hid hT2; clear c0 c1 c2 f0 f1 f2; obtain ⟨c0, c1, c2, f0, f1, f2⟩ := hT2.cells; clear hT2))
    go_quiet (fail)
    go_wp2
    go_ret3
    exact ⟨rfl, Below.drewN0 HT2.out.2.2.2 _⟩
  · go_enter Try.func19, Try.ntmps19
    go_wp2_with (first
        | (go_at_call 33; refine (tst_any _ _ _ hcc).mono ?_; rintro e w1 ⟨rfl, hb1⟩; have HT1 := Lib.hid (HT.out.below hb1); obtain ⟨c0, c1, c2, f0, f1, f2⟩ := HT1.out.cells; clear hb1)
        | (go_at_call 40; refine (keepChange_any _ _ w _ _ _ _ HT1.out).mono ?_; rintro e w2 ⟨rfl, hT2⟩; have HT2 := Lib.hid hT2; clear c0 c1 c2 f0 f1 f2; obtain ⟨c0, c1, c2, f0, f1, f2⟩ := hT2.cells; clear hT2))
    go_quiet (fail)
    go_wp2
    go_ret3
    exact ⟨rfl, Below.drewN0 (HT1.out.putC _).2.2.2 _⟩
  · go_enter Try.func19, Try.ntmps19
    go_wp2_with (first
        | (go_at_call 50; refine (clr_any _ _ hcc).mono ?_; rintro e w1 ⟨rfl, hb1⟩; have HT1 := Lib.hid (HT.out.below hb1); obtain ⟨c0, c1, c2, f0, f1, f2⟩ := HT1.out.cells; clear hb1)
        | (go_at_call 40; refine (keepChange_any _ _ w _ _ _ _ HT1.out).mono ?_; rintro e w2 ⟨rfl, hT2⟩; have HT2 := Lib.hid hT2; clear c0 c1 c2 f0 f1 f2; obtain ⟨c0, c1, c2, f0, f1, f2⟩ := hT2.cells; clear hT2))
    go_quiet (fail)
    go_wp2
    go_ret3
    exact ⟨rfl, Below.drewN0 HT2.out.2.2.2 _⟩
  · rw [c8_else hop]
    have d13 := ne_beqA (show ¬ op = 13 by omega)
    have d14 := ne_beqA (show ¬ op = 14 by omega)
    have d15 := ne_beqA (show ¬ op = 15 by omega)
    have d16 := ne_beqA (show ¬ op = 16 by omega)
    have d17 := ne_beqA (show ¬ op = 17 by omega)
    have d18 := ne_beqA (show ¬ op = 18 by omega)
    have d19 := ne_beqA (show ¬ op = 19 by omega)
    have d20 := ne_beqA (show ¬ op = 20 by omega)
    have d21 := ne_beqA (show ¬ op = 21 by omega)
    have d22 := ne_beqA (show ¬ op = 22 by omega)
    have d23 := ne_beqA (show ¬ op = 23 by omega)
    clear hop
    obtain ⟨c0, c1, c2, f0, f1, f2⟩ := HT.out.cells
    go_enter Try.func19, Try.ntmps19
    go_wp2
    go_quiet (fail)
    go_wp2
    go_ret3
    exact ⟨rfl, Below.drewN0 HT.out.2.2.2 _⟩
theorem alive24 (w : World) : Calls Try.prog 21 #[] w fun e w' => e = .returned (.bool true) ∧ Below w.heap.size w w' := by
  have h1 : (e8 6 1 1 0).2.1 = 4 := by decide
  have h2 : (e8 6 1 1 0).1 = 1 := by decide
  have h3 : (e8 6 1 1 0).2.2 = false := by decide
  go_enter Try.func21, Try.ntmps21
  go_wp2_with (go_at_call 17; refine (eight_any _ _ _ _ _ (by omega) (by omega) (by omega) (by omega) (CC.mk' (by omega) (by omega))).mono ?_; rintro e w1 ⟨rfl, hb1⟩)
  go_ret
  exact ⟨rfl, hb1⟩
end Go.Proofs.Ytkdekhcnamkcgab
