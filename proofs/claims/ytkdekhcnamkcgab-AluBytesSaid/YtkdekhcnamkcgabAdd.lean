/- Contracts of package adder's sums of bytes, and of the document's. -/
import Derived.Test.YtkdekhcnamkcgabCod
import Derived.Test.YtkdekhcnamkcgabOct
namespace Go.Proofs.Ytkdekhcnamkcgab
open Go.ChangeShapes Go.WideShapes Go.ChangeAt Go.RowKit
set_option linter.unusedVariables false

def sg (a : Int) : Int := if a < 128 then a else a - 256
theorem sg_range (a : Int) (ha : 0 ≤ a) (ha' : a < 256) : -128 ≤ sg a ∧ sg a < 128 := by unfold sg; split <;> omega
/-- Is a number out of this range? -/
def outOf (lo hi t : Int) : Bool := decide (t < lo) || decide (hi < t)
theorem outOf_lt {lo hi t : Int} (h : t < lo) : outOf lo hi t = true := by simp [outOf, h]
theorem outOf_ge {lo hi t : Int} (h : lo ≤ t) : outOf lo hi t = decide (hi < t) := by simp [outOf, show ¬ t < lo by omega]
def addC (cc a b c : Int) : Int :=
  putRef (putRef (putRef (nzRef cc ((a + b + c) % 256) 128) 32 (decide (15 < a % 16 + b % 16 + c))) 2 (outOf (-128) 127 (sg a + sg b + c))) 1 (decide (255 < a + b + c))
theorem CC.add {cc : Int} (h : CC cc) (a b c : Int) : CC (addC cc a b c) := (((h.nz _ _).put _ _).put _ _).put _ _
theorem addC_ref (cc a b c : Int) (h : CC cc) :
    nzRef (putRef (putRef (putRef cc 32 (decide (15 < a % 16 + b % 16 + c))) 2 (outOf (-128) 127 (sg a + sg b + c))) 1 (decide (255 < a + b + c))) ((a + b + c) % 256) 128 = addC cc a b c := by
  unfold addC
  have h1 := h.put 32 (decide (15 < a % 16 + b % 16 + c))
  have h2 := h1.put 2 (outOf (-128) 127 (sg a + sg b + c))
  rw [nzRef_swap cc 32 _ _ _ h.1 h.2 bit32 (by decide) (by decide), nzRef_swap _ 2 _ _ _ h1.1 h1.2 bit2 (by decide) (by decide), nzRef_swap _ 1 _ _ _ h2.1 h2.2 bit1 (by decide) (by decide)]
theorem addC_low (cc a b c : Int) (h : CC cc) : addC cc a b c % 2 = if 255 < a + b + c then 1 else 0 := by
  unfold addC
  have h1 := ((h.nz ((a + b + c) % 256) 128).put 32 (decide (15 < a % 16 + b % 16 + c))).put 2 (outOf (-128) 127 (sg a + sg b + c))
  rw [low_put1 _ _ h1.1 h1.2]
  simp
set_option maxHeartbeats 1000000 in
theorem sum_byte (a b c cc : Int) (w : World) (ha : 0 ≤ a) (ha' : a < 256) (hb : 0 ≤ b) (hb' : b < 256) (hc : 0 ≤ c) (hc' : c ≤ 1) (hcc : CC cc) :
    Calls Try.prog 55 #[.int .u8 a, .int .u8 b, .int .u8 c, .int .u8 cc] w fun e w' => e = .returned (.tuple #[.int .u8 ((a + b + c) % 256), .int .u8 (addC cc a b c)]) ∧ Below w.heap.size w w' := by
  have s1 : IntKind.i8.wrap a = sg a := i8_of a ha ha'
  have s2 : IntKind.i8.wrap b = sg b := i8_of b hb hb'
  have s3 := and_15 a ha ha'
  have s4 := and_15 b hb hb'
  obtain ⟨r1, r2⟩ := sg_range a ha ha'
  obtain ⟨r3, r4⟩ := sg_range b hb hb'
  go_enter Try.func55, Try.ntmps55
  go_wp2_with (first
    | (go_at_call 58; refine (nz_bits _ _ _ hcc).mono ?_; rintro e w1 ⟨rfl, hb1⟩)
    | (go_at_call 57; refine (with_bit _ _ _ _ _ _ _ _ (by repeat (first | assumption | apply CC.put | apply CC.nz)) (by first | exact bit1 | exact bit2 | exact bit32) (Ints.new1 (by simp) (by decide)) (by omega)).mono ?_; rintro e w' ⟨rfl, rfl⟩))
  all_goals
    go_ret2
    refine ⟨ret_two rfl ?_, by repeat (first | assumption | apply Below.alloc0)⟩
    first
      | rfl
      | (unfold addC; rw [outOf_lt (by assumption)])
theorem add_any (a b cc : Int) (w : World) (ha : 0 ≤ a) (ha' : a < 256) (hb : 0 ≤ b) (hb' : b < 256) (hcc : CC cc) :
    Calls Try.prog 27 #[.int .u8 a, .int .u8 b, .int .u8 cc] w fun e w' => e = .returned (.tuple #[.int .u8 ((a + b) % 256), .int .u8 (addC cc a b 0)]) ∧ Below w.heap.size w w' := by
  go_enter Try.func27, Try.ntmps27
  go_wp2_with (go_at_call 55; refine (sum_byte _ _ _ _ _ ha ha' hb hb' (by omega) (by omega) hcc).mono ?_; rintro e w1 ⟨rfl, hb1⟩)
  go_ret2
  exact ⟨rfl, hb1⟩
theorem adc_any (a b cc : Int) (w : World) (ha : 0 ≤ a) (ha' : a < 256) (hb : 0 ≤ b) (hb' : b < 256) (hcc : CC cc) :
    Calls Try.prog 26 #[.int .u8 a, .int .u8 b, .int .u8 cc] w fun e w' => e = .returned (.tuple #[.int .u8 ((a + b + cc % 2) % 256), .int .u8 (addC cc a b (cc % 2))]) ∧ Below w.heap.size w w' := by
  have s1 := and_one cc hcc.1 hcc.2
  go_enter Try.func26, Try.ntmps26
  go_wp2_with (go_at_call 55; refine (sum_byte _ _ _ _ _ ha ha' hb hb' (by omega) (by omega) hcc).mono ?_; rintro e w1 ⟨rfl, hb1⟩)
  go_ret2
  exact ⟨rfl, hb1⟩
theorem signed04 (a : Int) (w : World) (ha : 0 ≤ a) (ha' : a < 256) :
    Calls Try.prog 59 #[.int .u8 a] w fun e w' => e = .returned (.int .i64 (sg a)) ∧ w = w' := by
  by_cases h : 127 < a
  all_goals
    go_enter Try.func59, Try.ntmps59
    go_wp2
    go_ret
    exact ⟨ret_int (by unfold sg; split <;> omega), rfl⟩
set_option maxHeartbeats 1000000 in
theorem refAdd_any (a b c cc : Int) (w : World) (ha : 0 ≤ a) (ha' : a < 256) (hb : 0 ≤ b) (hb' : b < 256) (hc : 0 ≤ c) (hc' : c ≤ 1) (hcc : CC cc) :
    Calls Try.prog 36 #[.int .u8 a, .int .u8 b, .int .i64 c, .int .u8 cc] w fun e w' => e = .returned (.tuple #[.int .u8 ((a + b + c) % 256), .int .u8 (addC cc a b c)]) ∧ w = w' := by
  have hA := Lib.hid (addC_ref cc a b c hcc)
  obtain ⟨r1, r2⟩ := sg_range a ha ha'
  obtain ⟨r3, r4⟩ := sg_range b hb hb'
  go_enter Try.func36, Try.ntmps36
  go_wp2_with (first
    | (go_at_call 59; refine (signed04 _ _ (by assumption) (by assumption)).mono ?_; rintro e w' ⟨rfl, rfl⟩)
    | (go_at_call 51; refine (putRef_cc _ _ _ _ (by repeat (first | assumption | apply CC.put | apply CC.nz)) (by first | exact bit1 | exact bit2 | exact bit32)).mono ?_; rintro e w' ⟨rfl, rfl⟩)
    | (go_at_call 60; refine (nzRef_cc _ _ _ (by repeat (first | assumption | apply CC.put | apply CC.nz)) (by omega)).mono ?_; rintro e w' ⟨rfl, rfl⟩))
  all_goals
    go_ret2
    refine ⟨ret_two rfl ?_, rfl⟩
    rw [← hA.out]
    first
      | rfl
      | rw [outOf_lt (by assumption)]
end Go.Proofs.Ytkdekhcnamkcgab
