/- Contracts of package taker's differences of bytes, and of the document's. -/
import Derived.Test.YtdkghfapmoikdaaAdd
namespace Go.Proofs.Ytdkghfapmoikdaa
open Go.ChangeShapes Go.WideShapes Go.ChangeAt Go.RowKit
set_option linter.unusedVariables false

def subC (cc a b c : Int) : Int :=
  putRef (putRef (nzRef cc ((a - b - c) % 256) 128) 2 (outOf (-128) 127 (sg a - sg b - c))) 1 (decide (a - b - c < 0))
theorem CC.sub {cc : Int} (h : CC cc) (a b c : Int) : CC (subC cc a b c) := ((h.nz _ _).put _ _).put _ _
theorem subC_ref (cc a b c : Int) (h : CC cc) :
    nzRef (putRef (putRef cc 2 (outOf (-128) 127 (sg a - sg b - c))) 1 (decide (a - b - c < 0))) ((a - b - c) % 256) 128 = subC cc a b c := by
  unfold subC
  have h2 := h.put 2 (outOf (-128) 127 (sg a - sg b - c))
  rw [nzRef_swap cc 2 _ _ _ h.1 h.2 bit2 (by decide) (by decide), nzRef_swap _ 1 _ _ _ h2.1 h2.2 bit1 (by decide) (by decide)]
theorem subC_low (cc a b c : Int) (h : CC cc) : subC cc a b c % 2 = if a - b - c < 0 then 1 else 0 := by
  unfold subC
  have h1 := (h.nz ((a - b - c) % 256) 128).put 2 (outOf (-128) 127 (sg a - sg b - c))
  rw [low_put1 _ _ h1.1 h1.2]
  simp
set_option maxHeartbeats 1000000 in
theorem less_byte (a b c cc : Int) (w : World) (ha : 0 ≤ a) (ha' : a < 256) (hb : 0 ≤ b) (hb' : b < 256) (hc : 0 ≤ c) (hc' : c ≤ 1) (hcc : CC cc) :
    Calls Try.prog 52 #[.int .u8 a, .int .u8 b, .int .u8 c, .int .u8 cc] w fun e w' => e = .returned (.tuple #[.int .u8 ((a - b - c) % 256), .int .u8 (subC cc a b c)]) ∧ Below w.heap.size w w' := by
  have s1 : IntKind.i8.wrap a = sg a := i8_of a ha ha'
  have s2 : IntKind.i8.wrap b = sg b := i8_of b hb hb'
  obtain ⟨r1, r2⟩ := sg_range a ha ha'
  obtain ⟨r3, r4⟩ := sg_range b hb hb'
  go_enter Try.func52, Try.ntmps52
  go_wp2_with (first
    | (go_at_call 56; refine (nz_bits _ _ _ hcc).mono ?_; rintro e w1 ⟨rfl, hb1⟩)
    | (go_at_call 55; refine (with_bit _ _ _ _ _ _ _ _ (by repeat (first | assumption | apply CC.put | apply CC.nz)) (by first | exact bit1 | exact bit2) (Ints.new1 (by simp) (by decide)) (by omega)).mono ?_; rintro e w' ⟨rfl, rfl⟩))
  all_goals
    go_ret2
    refine ⟨ret_two rfl ?_, by repeat (first | assumption | apply Below.alloc0)⟩
    first
      | rfl
      | (unfold subC; rw [outOf_lt (by assumption)])
theorem sub_any (a b cc : Int) (w : World) (ha : 0 ≤ a) (ha' : a < 256) (hb : 0 ≤ b) (hb' : b < 256) (hcc : CC cc) :
    Calls Try.prog 20 #[.int .u8 a, .int .u8 b, .int .u8 cc] w fun e w' => e = .returned (.tuple #[.int .u8 ((a - b) % 256), .int .u8 (subC cc a b 0)]) ∧ Below w.heap.size w w' := by
  go_enter Try.func20, Try.ntmps20
  go_wp2_with (go_at_call 52; refine (less_byte _ _ _ _ _ ha ha' hb hb' (by omega) (by omega) hcc).mono ?_; rintro e w1 ⟨rfl, hb1⟩)
  go_ret2
  exact ⟨rfl, hb1⟩
theorem sbc_any (a b cc : Int) (w : World) (ha : 0 ≤ a) (ha' : a < 256) (hb : 0 ≤ b) (hb' : b < 256) (hcc : CC cc) :
    Calls Try.prog 22 #[.int .u8 a, .int .u8 b, .int .u8 cc] w fun e w' => e = .returned (.tuple #[.int .u8 ((a - b - cc % 2) % 256), .int .u8 (subC cc a b (cc % 2))]) ∧ Below w.heap.size w w' := by
  have s1 := and_one cc hcc.1 hcc.2
  go_enter Try.func22, Try.ntmps22
  go_wp2_with (go_at_call 52; refine (less_byte _ _ _ _ _ ha ha' hb hb' (by omega) (by omega) hcc).mono ?_; rintro e w1 ⟨rfl, hb1⟩)
  go_ret2
  exact ⟨rfl, hb1⟩
theorem cmp_any (a b cc : Int) (w : World) (ha : 0 ≤ a) (ha' : a < 256) (hb : 0 ≤ b) (hb' : b < 256) (hcc : CC cc) :
    Calls Try.prog 24 #[.int .u8 a, .int .u8 b, .int .u8 cc] w fun e w' => e = .returned (.int .u8 (subC cc a b 0)) ∧ Below w.heap.size w w' := by
  go_enter Try.func24, Try.ntmps24
  go_wp2_with (go_at_call 20; refine (sub_any _ _ _ _ ha ha' hb hb' hcc).mono ?_; rintro e w1 ⟨rfl, hb1⟩)
  go_ret
  exact ⟨rfl, hb1⟩
theorem neg_any (a cc : Int) (w : World) (ha : 0 ≤ a) (ha' : a < 256) (hcc : CC cc) :
    Calls Try.prog 23 #[.int .u8 a, .int .u8 cc] w fun e w' => e = .returned (.tuple #[.int .u8 ((0 - a) % 256), .int .u8 (subC cc 0 a 0)]) ∧ Below w.heap.size w w' := by
  go_enter Try.func23, Try.ntmps23
  go_wp2_with (go_at_call 20; refine (sub_any _ _ _ _ (by omega) (by omega) ha ha' hcc).mono ?_; rintro e w1 ⟨rfl, hb1⟩)
  go_ret2
  exact ⟨ret_two (by simp) rfl, hb1⟩
theorem signed05 (a : Int) (w : World) (ha : 0 ≤ a) (ha' : a < 256) :
    Calls Try.prog 53 #[.int .u8 a] w fun e w' => e = .returned (.int .i64 (sg a)) ∧ w = w' := by
  by_cases h : 127 < a
  all_goals
    go_enter Try.func53, Try.ntmps53
    go_wp2
    go_ret
    exact ⟨ret_int (by unfold sg; split <;> omega), rfl⟩
set_option maxHeartbeats 1000000 in
theorem refSub_any (a b c cc : Int) (w : World) (ha : 0 ≤ a) (ha' : a < 256) (hb : 0 ≤ b) (hb' : b < 256) (hc : 0 ≤ c) (hc' : c ≤ 1) (hcc : CC cc) :
    Calls Try.prog 21 #[.int .u8 a, .int .u8 b, .int .i64 c, .int .u8 cc] w fun e w' => e = .returned (.tuple #[.int .u8 ((a - b - c) % 256), .int .u8 (subC cc a b c)]) ∧ w = w' := by
  have hA := Lib.hid (subC_ref cc a b c hcc)
  have hM : Hid ((a - b - c + 512) % 256 = (a - b - c) % 256) := Lib.hid (by omega)
  obtain ⟨r1, r2⟩ := sg_range a ha ha'
  obtain ⟨r3, r4⟩ := sg_range b hb hb'
  go_enter Try.func21, Try.ntmps21
  go_wp2_with (first
    | (go_at_call 53; refine (signed05 _ _ (by assumption) (by assumption)).mono ?_; rintro e w' ⟨rfl, rfl⟩)
    | (go_at_call 36; refine (putRef_cc _ _ _ _ (by repeat (first | assumption | apply CC.put | apply CC.nz)) (by first | exact bit1 | exact bit2)).mono ?_; rintro e w' ⟨rfl, rfl⟩)
    | (go_at_call 48; refine (nzRef_cc _ _ _ (by repeat (first | assumption | apply CC.put | apply CC.nz)) (by omega)).mono ?_; rintro e w' ⟨rfl, rfl⟩))
  all_goals
    go_ret2
    refine ⟨ret_two hM.out ?_, rfl⟩
    rw [← hA.out, ← hM.out]
    first
      | rfl
      | rw [outOf_lt (by assumption)]
theorem alive05 (w : World) : Calls Try.prog 25 #[] w fun e w' => e = .returned (.bool true) ∧ Below w.heap.size w w' := by
  have h1 : subC 0 0 1 0 = 9 := by decide
  go_enter Try.func25, Try.ntmps25
  go_wp2_with (go_at_call 20; refine (sub_any _ _ _ _ (by omega) (by omega) (by omega) (by omega) (CC.mk' (by omega) (by omega))).mono ?_; rintro e w1 ⟨rfl, hb1⟩)
  go_ret
  exact ⟨rfl, hb1⟩
end Go.Proofs.Ytdkghfapmoikdaa
