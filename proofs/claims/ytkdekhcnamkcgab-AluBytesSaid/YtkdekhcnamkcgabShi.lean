/- Contracts of package shift's and package count's calls, and of the document's. -/
import Derived.Test.YtkdekhcnamkcgabCod
namespace Go.Proofs.Ytkdekhcnamkcgab
open Go.ChangeShapes Go.WideShapes Go.ChangeAt Go.RowKit
set_option linter.unusedVariables false

def rightR (a : Int) (inn : Bool) : Int := if inn then a / 2 + 128 else a / 2
def rightC (cc a : Int) (inn : Bool) : Int := putRef (nzRef cc (rightR a inn) 128) 1 (decide (0 < a % 2))
def leftR (a low : Int) : Int := a * 2 % 256 + low
def xorTop (a : Int) : Bool := decide (128 ≤ bits .xor .u8 a (a * 2 % 256))
def leftC (cc a low : Int) : Int := putRef (putRef (nzRef cc (leftR a low) 128) 2 (xorTop a)) 1 (decide (128 ≤ a))
def inLsr (a cc : Int) : Bool := false
def inAsr (a cc : Int) : Bool := decide (128 ≤ a)
def inRor (a cc : Int) : Bool := hasRef cc 1
theorem CC.right {cc : Int} (h : CC cc) (a : Int) (inn : Bool) : CC (rightC cc a inn) := (h.nz _ _).put _ _
theorem CC.left {cc : Int} (h : CC cc) (a low : Int) : CC (leftC cc a low) := ((h.nz _ _).put _ _).put _ _
theorem or_128 : ∀ a : Fin 128, bits .or .u8 (a.val : Int) 128 = (a.val : Int) + 128 := by decide +kernel
theorem or_low : ∀ (a : Fin 128) (l : Fin 2), bits .or .u8 (a.val * 2 : Nat) (l.val : Int) = ((a.val * 2 : Nat) : Int) + (l.val : Int) := by decide +kernel
theorem top_two : ∀ a : Fin 256, xorTop (a.val : Int) = (decide (127 < (a.val : Int)) != decide (63 < (a.val : Int) % 128)) := by decide +kernel
theorem top_two' (a : Int) (ha : 0 ≤ a) (ha' : a < 256) : xorTop a = (decide (127 < a) != decide (63 < a % 128)) := by
  obtain ⟨n, rfl⟩ := Int.eq_ofNat_of_zero_le ha; exact top_two ⟨n, by omega⟩
theorem or_128' (a : Int) (ha : 0 ≤ a) (ha' : a < 256) : bits .or .u8 (a / 2) 128 = a / 2 + 128 := by
  obtain ⟨n, rfl⟩ := Int.eq_ofNat_of_zero_le ha
  have := or_128 ⟨n / 2, by omega⟩
  simpa using this
theorem or_low' (a l : Int) (ha : 0 ≤ a) (ha' : a < 256) (hl : 0 ≤ l) (hl' : l ≤ 1) : bits .or .u8 (a * 2 % 256) l = a * 2 % 256 + l := by
  obtain ⟨n, rfl⟩ := Int.eq_ofNat_of_zero_le ha
  obtain ⟨m, rfl⟩ := Int.eq_ofNat_of_zero_le hl
  have := or_low ⟨n * 2 % 256 / 2, by omega⟩ ⟨m, by omega⟩
  simp only at this
  rw [show (n * 2 % 256 / 2 * 2 : Nat) = n * 2 % 256 by omega] at this
  have e : (((n * 2 % 256 : Nat)) : Int) = (n : Int) * 2 % 256 := by omega
  rw [e] at this
  exact this
theorem leftR_range (a l : Int) (hl : 0 ≤ l) (hl' : l ≤ 1) : 0 ≤ leftR a l ∧ leftR a l < 256 := by unfold leftR; omega
theorem rightR_range (a : Int) (inn : Bool) (ha : 0 ≤ a) (ha' : a < 256) : 0 ≤ rightR a inn ∧ rightR a inn < 256 := by unfold rightR; split <;> omega
theorem right_any (a cc : Int) (inn : Bool) (w : World) (ha : 0 ≤ a) (ha' : a < 256) (hcc : CC cc) :
    Calls Try.prog 63 #[.int .u8 a, .bool inn, .int .u8 cc] w fun e w' => e = .returned (.tuple #[.int .u8 (rightR a inn), .int .u8 (rightC cc a inn)]) ∧ Below w.heap.size w w' := by
  have h1 := and_one a ha ha'
  have h2 := or_128' a ha ha'
  cases inn
  all_goals
    go_enter Try.func63, Try.ntmps63
    go_wp2_with (first
      | (go_at_call 58; refine (nz_bits _ _ _ hcc).mono ?_; rintro e w1 ⟨rfl, hb1⟩)
      | (go_at_call 57; refine (with_bit _ _ _ _ _ _ _ _ (by repeat (first | assumption | apply CC.put | apply CC.nz)) bit1 (Ints.new1 (by simp) (by decide)) (by omega)).mono ?_; rintro e w' ⟨rfl, rfl⟩))
    go_ret2
    exact ⟨rfl, by repeat (first | assumption | apply Below.alloc0)⟩
theorem left_any (a low cc : Int) (w : World) (ha : 0 ≤ a) (ha' : a < 256) (hl : 0 ≤ low) (hl' : low ≤ 1) (hcc : CC cc) :
    Calls Try.prog 65 #[.int .u8 a, .int .u8 low, .int .u8 cc] w fun e w' => e = .returned (.tuple #[.int .u8 (leftR a low), .int .u8 (leftC cc a low)]) ∧ Below w.heap.size w w' := by
  have h2 := or_low' a low ha ha' hl hl'
  go_enter Try.func65, Try.ntmps65
  go_wp2_with (first
    | (go_at_call 58; refine (nz_bits _ _ _ hcc).mono ?_; rintro e w1 ⟨rfl, hb1⟩)
    | (go_at_call 57; refine (with_bit _ _ _ _ _ _ _ _ (by repeat (first | assumption | apply CC.put | apply CC.nz)) (by first | exact bit1 | exact bit2) (Ints.new1 (by simp) (by decide)) (by omega)).mono ?_; rintro e w' ⟨rfl, rfl⟩))
  go_ret2
  exact ⟨rfl, by repeat (first | assumption | apply Below.alloc0)⟩
theorem shLsr_any (a cc : Int) (w : World) (ha : 0 ≤ a) (ha' : a < 256) (hcc : CC cc) :
    Calls Try.prog 43 #[.int .u8 a, .int .u8 cc] w fun e w' => e = .returned (.tuple #[.int .u8 (rightR a (inLsr a cc)), .int .u8 (rightC cc a (inLsr a cc))]) ∧ Below w.heap.size w w' := by
  go_enter Try.func43, Try.ntmps43
  go_wp2_with (first
    | (go_at_call 64; refine (has_bit _ _ _ _ _ _ _ hcc bit1 (Ints.new1 (by simp) (by decide)) (by omega)).mono ?_; rintro e w' ⟨rfl, rfl⟩)
    | (go_at_call 63; refine (right_any _ _ _ _ ha ha' hcc).mono ?_; rintro e w1 ⟨rfl, hb1⟩))
  go_ret2
  exact ⟨rfl, Below.trans0 (by first | exact Below.refl _ _ | exact Below.alloc0 (Below.refl _ _) _) hb1⟩
theorem shAsr_any (a cc : Int) (w : World) (ha : 0 ≤ a) (ha' : a < 256) (hcc : CC cc) :
    Calls Try.prog 45 #[.int .u8 a, .int .u8 cc] w fun e w' => e = .returned (.tuple #[.int .u8 (rightR a (inAsr a cc)), .int .u8 (rightC cc a (inAsr a cc))]) ∧ Below w.heap.size w w' := by
  go_enter Try.func45, Try.ntmps45
  go_wp2_with (first
    | (go_at_call 64; refine (has_bit _ _ _ _ _ _ _ hcc bit1 (Ints.new1 (by simp) (by decide)) (by omega)).mono ?_; rintro e w' ⟨rfl, rfl⟩)
    | (go_at_call 63; refine (right_any _ _ _ _ ha ha' hcc).mono ?_; rintro e w1 ⟨rfl, hb1⟩))
  go_ret2
  exact ⟨rfl, Below.trans0 (by first | exact Below.refl _ _ | exact Below.alloc0 (Below.refl _ _) _) hb1⟩
theorem shRor_any (a cc : Int) (w : World) (ha : 0 ≤ a) (ha' : a < 256) (hcc : CC cc) :
    Calls Try.prog 44 #[.int .u8 a, .int .u8 cc] w fun e w' => e = .returned (.tuple #[.int .u8 (rightR a (inRor a cc)), .int .u8 (rightC cc a (inRor a cc))]) ∧ Below w.heap.size w w' := by
  go_enter Try.func44, Try.ntmps44
  go_wp2_with (first
    | (go_at_call 64; refine (has_bit _ _ _ _ _ _ _ hcc bit1 (Ints.new1 (by simp) (by decide)) (by omega)).mono ?_; rintro e w' ⟨rfl, rfl⟩)
    | (go_at_call 63; refine (right_any _ _ _ _ ha ha' hcc).mono ?_; rintro e w1 ⟨rfl, hb1⟩))
  go_ret2
  exact ⟨rfl, Below.trans0 (by first | exact Below.refl _ _ | exact Below.alloc0 (Below.refl _ _) _) hb1⟩
theorem asl_any (a cc : Int) (w : World) (ha : 0 ≤ a) (ha' : a < 256) (hcc : CC cc) :
    Calls Try.prog 46 #[.int .u8 a, .int .u8 cc] w fun e w' => e = .returned (.tuple #[.int .u8 (leftR a 0), .int .u8 (leftC cc a 0)]) ∧ Below w.heap.size w w' := by
  go_enter Try.func46, Try.ntmps46
  go_wp2_with (go_at_call 65; refine (left_any _ _ _ _ ha ha' (by omega) (by omega) hcc).mono ?_; rintro e w1 ⟨rfl, hb1⟩)
  go_ret2
  exact ⟨rfl, hb1⟩
theorem rol_any (a cc : Int) (w : World) (ha : 0 ≤ a) (ha' : a < 256) (hcc : CC cc) :
    Calls Try.prog 47 #[.int .u8 a, .int .u8 cc] w fun e w' => e = .returned (.tuple #[.int .u8 (leftR a (cc % 2)), .int .u8 (leftC cc a (cc % 2))]) ∧ Below w.heap.size w w' := by
  have h1 := and_one cc hcc.1 hcc.2
  go_enter Try.func47, Try.ntmps47
  go_wp2_with (go_at_call 65; refine (left_any _ _ _ _ ha ha' (by omega) (by omega) hcc).mono ?_; rintro e w1 ⟨rfl, hb1⟩)
  go_ret2
  exact ⟨rfl, hb1⟩
end Go.Proofs.Ytkdekhcnamkcgab
