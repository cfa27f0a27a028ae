/- Contracts of package taker's differences of bytes, and of the document's. -/
import Derived.Test.YtkdekhcnamkcgabAdd
namespace Go.Proofs.Ytkdekhcnamkcgab
open Go.ChangeShapes Go.WideShapes Go.ChangeAt Go.RowKit
set_option linter.unusedVariables false

def subC (cc a b c : Int) : Int :=
  putRef (putRef (nzRef cc ((a - b - c) % 256) 128) 2 (outOf (-128) 127 (sg a - sg b - c))) 1 (decide (a - b - c < 0))
theorem CC.sub {cc : Int} (h : CC cc) (a b c : Int) : CC (subC cc a b c) := ((h.nz _ _).put _ _).put _ _
theorem subC_ref (cc a b c : Int) (h : CC cc) :
    nzRef (putRef (putRef cc 2 (outOf (-128) 127 (sg a - sg b - c))) 1 (decide (a - b - c < 0))) ((a - b - c) % 256) 128 = subC cc a b c := by
  unfold subC
  have h2 := h.put 2 (outOf (-128) 127 (sg a - sg b - c))
  rw [nzRef_swap cc 2 _ _ _ h.1 h.2 bit2 (by decide) (by decide), nzRef_swap _ 1 _ _ _ h2.1 h2.2 bit1 (by decide) (by decide)]
theorem subC_low (cc a b c : Int) (h : CC cc) : subC cc a b c % 2 = if a - b - c < 0 then 1 else 0 := by
  unfold subC
  have h1 := (h.nz ((a - b - c) % 256) 128).put 2 (outOf (-128) 127 (sg a - sg b - c))
  rw [low_put1 _ _ h1.1 h1.2]
  simp
theorem subC_bit4 (cc a b c : Int) (h : CC cc) : hasRef (subC cc a b c) 4 = ((a - b - c) % 256 == 0) := by
  unfold subC
  have h1 := h.nz ((a - b - c) % 256) 128
  have h2 := h1.put 2 (outOf (-128) 127 (sg a - sg b - c))
  rw [hasRef_putN _ 1 4 _ h2.1 h2.2 bit1 bit4 (by decide), hasRef_putN _ 2 4 _ h1.1 h1.2 bit2 bit4 (by decide)]
  unfold nzRef
  have h8 := h.put 8 (decide (128 ≤ (a - b - c) % 256))
  rw [hasRef_put _ 4 _ h8.1 h8.2 bit4]
theorem hasRef_nz8 (cc r half : Int) (h : CC cc) : hasRef (nzRef cc r half) 8 = decide (half ≤ r) := by
  unfold nzRef
  have h1 := h.put 8 (decide (half ≤ r))
  rw [hasRef_putN _ 4 8 _ h1.1 h1.2 bit4 bit8 (by decide), hasRef_put _ 8 _ h.1 h.2 bit8]
theorem subC_bits (cc a b c : Int) (h : CC cc) : hasRef (subC cc a b c) 1 = decide (a - b - c < 0) ∧ hasRef (subC cc a b c) 2 = outOf (-128) 127 (sg a - sg b - c) ∧ hasRef (subC cc a b c) 8 = decide (128 ≤ (a - b - c) % 256) := by
  unfold subC
  have h1 := h.nz ((a - b - c) % 256) 128
  have h2 := h1.put 2 (outOf (-128) 127 (sg a - sg b - c))
  refine ⟨?_, ?_, ?_⟩
  · rw [hasRef_put _ 1 _ h2.1 h2.2 bit1]
  · rw [hasRef_putN _ 1 2 _ h2.1 h2.2 bit1 bit2 (by decide), hasRef_put _ 2 _ h1.1 h1.2 bit2]
  · rw [hasRef_putN _ 1 8 _ h2.1 h2.2 bit1 bit8 (by decide), hasRef_putN _ 2 8 _ h1.1 h1.2 bit2 bit8 (by decide), hasRef_nz8 _ _ _ h]
set_option maxHeartbeats 1000000 in
theorem less_byte (a b c cc : Int) (w : World) (ha : 0 ≤ a) (ha' : a < 256) (hb : 0 ≤ b) (hb' : b < 256) (hc : 0 ≤ c) (hc' : c ≤ 1) (hcc : CC cc) :
    Calls Try.prog 56 #[.int .u8 a, .int .u8 b, .int .u8 c, .int .u8 cc] w fun e w' => e = .returned (.tuple #[.int .u8 ((a - b - c) % 256), .int .u8 (subC cc a b c)]) ∧ Below w.heap.size w w' := by
  have s1 : IntKind.i8.wrap a = sg a := i8_of a ha ha'
  have s2 : IntKind.i8.wrap b = sg b := i8_of b hb hb'
  obtain ⟨r1, r2⟩ := sg_range a ha ha'
  obtain ⟨r3, r4⟩ := sg_range b hb hb'
  go_enter Try.func56, Try.ntmps56
  go_wp2_with (first
    | (go_at_call 58; refine (nz_bits _ _ _ hcc).mono ?_; rintro e w1 ⟨rfl, hb1⟩)
    | (go_at_call 57; refine (with_bit _ _ _ _ _ _ _ _ (by repeat (first | assumption | apply CC.put | apply CC.nz)) (by first | exact bit1 | exact bit2) (Ints.new1 (by simp) (by decide)) (by omega)).mono ?_; rintro e w' ⟨rfl, rfl⟩))
  all_goals
    go_ret2
    refine ⟨ret_two rfl ?_, by repeat (first | assumption | apply Below.alloc0)⟩
    first
      | rfl
      | (unfold subC; rw [outOf_lt (by assumption)])
theorem sub_any (a b cc : Int) (w : World) (ha : 0 ≤ a) (ha' : a < 256) (hb : 0 ≤ b) (hb' : b < 256) (hcc : CC cc) :
    Calls Try.prog 32 #[.int .u8 a, .int .u8 b, .int .u8 cc] w fun e w' => e = .returned (.tuple #[.int .u8 ((a - b) % 256), .int .u8 (subC cc a b 0)]) ∧ Below w.heap.size w w' := by
  go_enter Try.func32, Try.ntmps32
  go_wp2_with (go_at_call 56; refine (less_byte _ _ _ _ _ ha ha' hb hb' (by omega) (by omega) hcc).mono ?_; rintro e w1 ⟨rfl, hb1⟩)
  go_ret2
  exact ⟨rfl, hb1⟩
theorem sbc_any (a b cc : Int) (w : World) (ha : 0 ≤ a) (ha' : a < 256) (hb : 0 ≤ b) (hb' : b < 256) (hcc : CC cc) :
    Calls Try.prog 31 #[.int .u8 a, .int .u8 b, .int .u8 cc] w fun e w' => e = .returned (.tuple #[.int .u8 ((a - b - cc % 2) % 256), .int .u8 (subC cc a b (cc % 2))]) ∧ Below w.heap.size w w' := by
  have s1 := and_one cc hcc.1 hcc.2
  go_enter Try.func31, Try.ntmps31
  go_wp2_with (go_at_call 56; refine (less_byte _ _ _ _ _ ha ha' hb hb' (by omega) (by omega) hcc).mono ?_; rintro e w1 ⟨rfl, hb1⟩)
  go_ret2
  exact ⟨rfl, hb1⟩
theorem cmp_any (a b cc : Int) (w : World) (ha : 0 ≤ a) (ha' : a < 256) (hb : 0 ≤ b) (hb' : b < 256) (hcc : CC cc) :
    Calls Try.prog 35 #[.int .u8 a, .int .u8 b, .int .u8 cc] w fun e w' => e = .returned (.int .u8 (subC cc a b 0)) ∧ Below w.heap.size w w' := by
  go_enter Try.func35, Try.ntmps35
  go_wp2_with (go_at_call 32; refine (sub_any _ _ _ _ ha ha' hb hb' hcc).mono ?_; rintro e w1 ⟨rfl, hb1⟩)
  go_ret
  exact ⟨rfl, hb1⟩
theorem neg_any (a cc : Int) (w : World) (ha : 0 ≤ a) (ha' : a < 256) (hcc : CC cc) :
    Calls Try.prog 41 #[.int .u8 a, .int .u8 cc] w fun e w' => e = .returned (.tuple #[.int .u8 ((0 - a) % 256), .int .u8 (subC cc 0 a 0)]) ∧ Below w.heap.size w w' := by
  go_enter Try.func41, Try.ntmps41
  go_wp2_with (go_at_call 32; refine (sub_any _ _ _ _ (by omega) (by omega) ha ha' hcc).mono ?_; rintro e w1 ⟨rfl, hb1⟩)
  go_ret2
  exact ⟨ret_two (by simp) rfl, hb1⟩
theorem signed05 (a : Int) (w : World) (ha : 0 ≤ a) (ha' : a < 256) :
    Calls Try.prog 62 #[.int .u8 a] w fun e w' => e = .returned (.int .i64 (sg a)) ∧ w = w' := by
  by_cases h : 127 < a
  all_goals
    go_enter Try.func62, Try.ntmps62
    go_wp2
    go_ret
    exact ⟨ret_int (by unfold sg; split <;> omega), rfl⟩
set_option maxHeartbeats 1000000 in
theorem refSub_any (a b c cc : Int) (w : World) (ha : 0 ≤ a) (ha' : a < 256) (hb : 0 ≤ b) (hb' : b < 256) (hc : 0 ≤ c) (hc' : c ≤ 1) (hcc : CC cc) :
    Calls Try.prog 39 #[.int .u8 a, .int .u8 b, .int .i64 c, .int .u8 cc] w fun e w' => e = .returned (.tuple #[.int .u8 ((a - b - c) % 256), .int .u8 (subC cc a b c)]) ∧ w = w' := by
  have hA := Lib.hid (subC_ref cc a b c hcc)
  have hM : Hid ((a - b - c + 512) % 256 = (a - b - c) % 256) := Lib.hid (by omega)
  obtain ⟨r1, r2⟩ := sg_range a ha ha'
  obtain ⟨r3, r4⟩ := sg_range b hb hb'
  go_enter Try.func39, Try.ntmps39
  go_wp2_with (first
    | (go_at_call 62; refine (signed05 _ _ (by assumption) (by assumption)).mono ?_; rintro e w' ⟨rfl, rfl⟩)
    | (go_at_call 51; refine (putRef_cc _ _ _ _ (by repeat (first | assumption | apply CC.put | apply CC.nz)) (by first | exact bit1 | exact bit2)).mono ?_; rintro e w' ⟨rfl, rfl⟩)
    | (go_at_call 60; refine (nzRef_cc _ _ _ (by repeat (first | assumption | apply CC.put | apply CC.nz)) (by omega)).mono ?_; rintro e w' ⟨rfl, rfl⟩))
  all_goals
    go_ret2
    refine ⟨ret_two hM.out ?_, rfl⟩
    rw [← hA.out, ← hM.out]
    first
      | rfl
      | rw [outOf_lt (by assumption)]
end Go.Proofs.Ytkdekhcnamkcgab
