/- Contracts of package times' calls. -/
import Derived.Test.YtdkghfapmoikdabCod
import Derived.Test.YtdkghfapmoikdabOct
namespace Go.Proofs.Ytdkghfapmoikdab
open Go.ChangeShapes Go.WideShapes Go.ChangeAt Go.RowKit
set_option linter.unusedVariables false

theorem mul_bound (a b m : Int) (ha : 0 ≤ a) (ha' : a ≤ m) (hb : 0 ≤ b) (hb' : b ≤ m) : 0 ≤ a * b ∧ a * b ≤ m * m :=
  ⟨Int.mul_nonneg ha hb, Int.mul_le_mul ha' hb' hb (by omega)⟩
def mulC (cc n : Int) : Int := putRef (putRef cc 4 (n == 0)) 1 (decide (128 ≤ n % 256))
theorem CC.mul {cc : Int} (h : CC cc) (n : Int) : CC (mulC cc n) := (h.put _ _).put _ _
theorem mulC_low (cc n : Int) (h : CC cc) : mulC cc n % 2 = if 128 ≤ n % 256 then 1 else 0 := by
  unfold mulC
  have h1 := h.put 4 (n == 0)
  rw [low_put1 _ _ h1.1 h1.2]
  simp
theorem round_eq (n : Int) (h0 : 0 ≤ n) : n / 256 + mulC 0 n % 2 = (n + 128) / 256 := by
  rw [mulC_low 0 n (CC.mk' (by omega) (by omega))]
  split <;> omega
theorem mul_any (a b cc : Int) (w : World) (ha : 0 ≤ a) (ha' : a < 256) (hb : 0 ≤ b) (hb' : b < 256) (hcc : CC cc) :
    Calls Try.prog 19 #[.int .u8 a, .int .u8 b, .int .u8 cc] w fun e w' => e = .returned (.tuple #[.int .u16 (a * b), .int .u8 (mulC cc (a * b))]) ∧ Below w.heap.size w w' := by
  obtain ⟨m0, m1⟩ := mul_bound a b 255 ha (by omega) hb (by omega)
  go_enter Try.func19, Try.ntmps19
  go_wp2_with (first
    | (go_at_call 37; refine (low_any _ _ (by omega) (by omega)).mono ?_; rintro e w' ⟨rfl, rfl⟩)
    | (go_at_call 44; refine (with_bit _ _ _ _ _ _ _ _ (by repeat (first | assumption | apply CC.put | apply CC.nz)) (by first | exact bit1 | exact bit4) (Ints.new1 (by simp) (by decide)) (by omega)).mono ?_; rintro e w' ⟨rfl, rfl⟩))
  go_ret2
  exact ⟨rfl, by repeat (first | exact Below.refl _ _ | apply Below.alloc0)⟩
theorem round_any (a b : Int) (w : World) (ha : 0 ≤ a) (ha' : a < 256) (hb : 0 ≤ b) (hb' : b < 256) :
    Calls Try.prog 21 #[.int .u8 a, .int .u8 b] w fun e w' => e = .returned (.int .u8 ((a * b + 128) / 256)) ∧ Below w.heap.size w w' := by
  obtain ⟨m0, m1⟩ := mul_bound a b 255 ha (by omega) hb (by omega)
  have hr := Lib.hid (round_eq (a * b) m0)
  have hc := CC.mul (CC.mk' (show (0 : Int) ≤ 0 by omega) (by omega)) (a * b)
  have h1 := and_one (mulC 0 (a * b)) hc.1 hc.2
  go_enter Try.func21, Try.ntmps21
  go_wp2_with (first
    | (go_at_call 19; refine (mul_any _ _ _ _ ha ha' hb hb' (CC.mk' (by omega) (by omega))).mono ?_; rintro e w1 ⟨rfl, hb1⟩)
    | (go_at_call 38; refine (high_any _ _ (by omega) (by omega)).mono ?_; rintro e w' ⟨rfl, rfl⟩))
  go_ret
  exact ⟨ret_int hr.out, hb1⟩
theorem wide_any (a b : Int) (w : World) (ha : 0 ≤ a) (ha' : a < 65536) (hb : 0 ≤ b) (hb' : b < 65536) :
    Calls Try.prog 23 #[.int .u16 a, .int .u16 b] w fun e w' => e = .returned (.int .u32 (a * b)) ∧ w = w' := by
  obtain ⟨m0, m1⟩ := mul_bound a b 65535 ha (by omega) hb (by omega)
  go_enter Try.func23, Try.ntmps23
  go_wp2
  go_ret
  exact ⟨rfl, rfl⟩
theorem alive10 (w : World) : Calls Try.prog 22 #[] w fun e w' => e = .returned (.bool true) ∧ Below w.heap.size w w' := by
  have h1 : mulC 0 65025 = 0 := by decide
  go_enter Try.func22, Try.ntmps22
  go_wp2_with (go_at_call 19; refine (mul_any _ _ _ _ (by omega) (by omega) (by omega) (by omega) (CC.mk' (by omega) (by omega))).mono ?_; rintro e w1 ⟨rfl, hb1⟩)
  go_ret
  exact ⟨rfl, hb1⟩
end Go.Proofs.Ytdkghfapmoikdab
