/- The document's own shifts (spinetref07), and a byte and C as a ring of nine bits. -/
import Derived.Test.YtkdekhcnamkcgabShi
namespace Go.Proofs.Ytkdekhcnamkcgab
open Go.ChangeShapes Go.WideShapes Go.ChangeAt Go.RowKit
set_option linter.unusedVariables false

theorem odd_lt (a : Int) : (a % 2 == 1) = decide (0 < a % 2) := by rw [Bool.eq_iff_iff]; simp; omega
theorem has1_odd (cc : Int) : hasRef cc 1 = (cc % 2 == 1) := by unfold hasRef; rw [Int.ediv_one]
theorem rightC_ref (cc a : Int) (inn : Bool) : putRef (nzRef cc (rightR a inn) 128) 1 (a % 2 == 1) = rightC cc a inn := by unfold rightC; rw [odd_lt]
theorem leftC_ref (cc a l : Int) (h : CC cc) (ha : 0 ≤ a) (ha' : a < 256) : putRef (putRef (nzRef cc (leftR a l) 128) 1 (decide (127 < a))) 2 (decide (127 < a) != decide (63 < a % 128)) = leftC cc a l := by
  unfold leftC
  have h1 := h.nz (leftR a l) 128
  rw [putRef_swap _ 1 2 _ _ h1.1 h1.2 bit1 bit2 (by decide), top_two' a ha ha']
  congr 1
theorem refRight_any (a cc : Int) (inn : Bool) (w : World) (ha : 0 ≤ a) (ha' : a < 256) (hcc : CC cc) :
    Calls Try.prog 52 #[.int .u8 a, .int .u8 cc, .bool inn] w fun e w' => e = .returned (.tuple #[.int .u8 (rightR a inn), .int .u8 (rightC cc a inn)]) ∧ w = w' := by
  have hr := Lib.hid (rightC_ref cc a inn)
  cases inn
  all_goals
    go_enter Try.func52, Try.ntmps52
    go_wp2_with (first
      | (go_at_call 51; refine (putRef_cc _ _ _ _ (CC.nz hcc _ _) bit1).mono ?_; rintro e w' ⟨rfl, rfl⟩)
      | (go_at_call 60; refine (nzRef_cc _ _ _ hcc (by omega)).mono ?_; rintro e w' ⟨rfl, rfl⟩))
    go_ret2
    exact ⟨ret_two rfl hr.out, rfl⟩
def bit01 (b : Bool) : Int := if b then 1 else 0
theorem bit01_odd (a : Int) : bit01 (a % 2 == 1) = a % 2 := by
  unfold bit01
  rcases (show a % 2 = 0 ∨ a % 2 = 1 by omega) with e | e <;> simp [e]
theorem refLeft_any (a cc : Int) (inn : Bool) (w : World) (ha : 0 ≤ a) (ha' : a < 256) (hcc : CC cc) :
    Calls Try.prog 53 #[.int .u8 a, .int .u8 cc, .bool inn] w fun e w' => e = .returned (.tuple #[.int .u8 (leftR a (bit01 inn)), .int .u8 (leftC cc a (bit01 inn))]) ∧ w = w' := by
  have h0 := Lib.hid (leftC_ref cc a 0 hcc ha ha')
  have h1 := Lib.hid (leftC_ref cc a 1 hcc ha ha')
  have HZ : Hid (a * 2 % 256 + 0 = a * 2 % 256) := Lib.hid (by omega)
  cases inn
  all_goals
    go_enter Try.func53, Try.ntmps53
    go_wp2_with (first
      | (go_at_call 51; refine (putRef_cc _ _ _ _ (by repeat (first | assumption | apply CC.put | apply CC.nz)) (by first | exact bit1 | exact bit2)).mono ?_; rintro e w' ⟨rfl, rfl⟩)
      | (go_at_call 60; refine (nzRef_cc _ _ _ hcc (by omega)).mono ?_; rintro e w' ⟨rfl, rfl⟩))
    go_ret2
    refine ⟨ret_two ?_ ?_, rfl⟩
    · first | rfl | exact HZ.out.symm
    · first
        | exact h1.out
        | (have h := h0.out; unfold leftR at h; rw [HZ.out] at h; exact h)
/-- A byte and C, so many steps round to the left, to the right. -/
def rolS (p : Nat × Nat) : Nat × Nat := (p.1 * 2 % 256 + p.2, p.1 / 128)
def rorS (p : Nat × Nat) : Nat × Nat := (p.1 / 2 + 128 * p.2, p.1 % 2)
def rolN (p : Nat × Nat) : Nat → Nat × Nat
  | 0 => p
  | k + 1 => rolS (rolN p k)
def rorN (p : Nat × Nat) : Nat → Nat × Nat
  | 0 => p
  | k + 1 => rorS (rorN p k)
theorem ring9 : ∀ (a : Fin 256) (c : Fin 2), rolN (a.val, c.val) 9 = (a.val, c.val) ∧ rorN (a.val, c.val) 9 = (a.val, c.val) ∧ rorS (rolS (a.val, c.val)) = (a.val, c.val) := by decide +kernel
theorem leftR_rol (n c : Nat) (hc : c < 2) : leftR (n : Int) (c : Int) = ((rolS (n, c)).1 : Int) := by unfold leftR rolS; omega
theorem leftC_rol (cc : Int) (n c : Nat) (h : CC cc) (hn : n < 256) : leftC cc (n : Int) (c : Int) % 2 = ((rolS (n, c)).2 : Int) := by
  unfold leftC rolS
  have h1 := (h.nz (leftR n c) 128).put 2 (xorTop n)
  rw [low_put1 _ _ h1.1 h1.2]
  by_cases h : 128 ≤ (n : Int) <;> simp [h] <;> omega
theorem rightR_ror (cc : Int) (n : Nat) (h : CC cc) : rightR (n : Int) (hasRef cc 1) = ((rorS (n, (cc % 2).toNat)).1 : Int) := by
  unfold rightR rorS
  rw [has1_odd]
  have h0 := h.1
  by_cases e : cc % 2 = 1
  · simp [e]
  · simp [show cc % 2 = 0 by omega]
theorem rightC_ror (cc : Int) (n c : Nat) (inn : Bool) (h : CC cc) : rightC cc (n : Int) inn % 2 = ((rorS (n, c)).2 : Int) := by
  unfold rightC rorS
  have h1 := h.nz (rightR n inn) 128
  rw [low_put1 _ _ h1.1 h1.2]
  by_cases e : (n : Int) % 2 = 1
  · simp [e]
  · simp [show (n : Int) % 2 = 0 by omega]
theorem rolN_ok (n c : Nat) (hn : n < 256) (hc : c < 2) : ∀ k, (rolN (n, c) k).1 < 256 ∧ (rolN (n, c) k).2 < 2
  | 0 => ⟨hn, hc⟩
  | k + 1 => by have := rolN_ok n c hn hc k; unfold rolN rolS; simp only; omega
theorem rorN_ok (n c : Nat) (hn : n < 256) (hc : c < 2) : ∀ k, (rorN (n, c) k).1 < 256 ∧ (rorN (n, c) k).2 < 2
  | 0 => ⟨hn, hc⟩
  | k + 1 => by have := rorN_ok n c hn hc k; unfold rorN rorS; simp only; omega
end Go.Proofs.Ytkdekhcnamkcgab
