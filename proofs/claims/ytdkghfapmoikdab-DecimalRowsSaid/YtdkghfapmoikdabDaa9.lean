/- What the laws of package decimal ask first: Right, Sum, two, alive. -/
import Derived.Test.YtdkghfapmoikdabDaa
import Derived.Test.YtdkghfapmoikdabOwn
import Derived.Test.YtdkghfapmoikdabEq
import Derived.Deep.RegionHeld3
import Derived.Outline
namespace Go.Proofs.Ytdkghfapmoikdab
open Go.ChangeShapes Go.WideShapes Go.ChangeAt Go.RowKit
set_option linter.unusedVariables false
theorem two_any (n : Int) (w : World) (h0 : 0 ≤ n) (h1 : n < 100) :
    Calls Try.prog 15 #[.int .i64 n] w fun e w' => e = .returned (.int .u8 (n / 10 * 16 + n % 10)) ∧ w = w' := by
  go_enter Try.func15, Try.ntmps15
  go_wp2
  go_ret
  exact ⟨rfl, rfl⟩
def digits (x : Int) : Bool := decide (x / 16 ≤ 9) && decide (x % 16 ≤ 9)
def allDigits (zs : List Int) : Bool := zs.all digits
theorem allDigits_no (zs : List Int) (k : Nat) (hk : k < zs.length) (h : digits (iat zs k) = false) : allDigits zs = false := by
  unfold allDigits
  rw [List.all_eq_false]
  exact ⟨_, List.getElem_mem hk, by rw [← iat_eq _ _ hk, h]; simp⟩
theorem allDigits_next (zs : List Int) (k : Nat) (hk : k < zs.length) (h : allDigits (zs.take k) = true) (h2 : digits (iat zs k) = true) : allDigits (zs.take (k + 1)) = true := by
  unfold allDigits at h ⊢
  rw [List.take_succ_eq_append_getElem hk, List.all_append, h, ← iat_eq _ _ hk]
  simp [h2]
theorem allDigits_step (zs : List Int) (k : Nat) (hk : k < zs.length) : allDigits (zs.take (k + 1)) = (allDigits (zs.take k) && digits (iat zs k)) := by
  unfold allDigits
  rw [List.take_succ_eq_append_getElem hk, List.all_append, ← iat_eq _ _ hk]
  simp
theorem digits_cases (x : Int) : (x % 16 < 10 ∧ x / 16 < 10 ∧ digits x = true) ∨ (x % 16 < 10 ∧ ¬ x / 16 < 10 ∧ digits x = false) ∨ (¬ x % 16 < 10 ∧ digits x = false) := by
  have e : digits x = decide (x / 16 < 10 ∧ x % 16 < 10) := by unfold digits; rw [Bool.eq_iff_iff]; simp; omega
  rw [e]
  by_cases h1 : x % 16 < 10 <;> by_cases h2 : x / 16 < 10 <;> simp [h1, h2]
set_option maxRecDepth 100000 in
set_option maxHeartbeats 1000000 in
theorem right_digits (A : Option Addr) (n c : Nat) (zs : List Int) (B : Nat) (w : World) (h : Ints .u8 w B A n zs) (hn : n ≤ 9223372036854775807) :
    Calls Try.prog 16 #[.slice A n c] w fun e w' => e = .returned (.bool (allDigits zs)) ∧ w = w' := by
  obtain ⟨hl, hwf, hc⟩ := h
  have HL := Lib.hid hl
  clear hl
  rcases Nat.eq_zero_or_pos n with h0 | h0
  · subst h0
    obtain rfl : zs = [] := List.eq_nil_of_length_eq_zero HL.out
    clear hc
    go_enter Try.func16, Try.ntmps16
    go_wp2
    go_loop [7] (fun i => i = .int .i64 0) (fun _ => 0)
    case atStart => exact rfl
    case round =>
      obtain rfl := hrel
      go_wp2
      go_ret
      exact ⟨rfl, rfl⟩
  · obtain ⟨b, off, rfl, hb, hcell⟩ := hc h0
    go_enter Try.func16, Try.ntmps16
    go_wp2
    go_loop [7] (fun i => ∃ k : Nat, k ≤ n ∧ i = .int .i64 k ∧ Hid (allDigits (zs.take k) = true)) (fun i => n - (intOf i).toNat)
    case atStart => exact ⟨0, Nat.zero_le _, rfl, Lib.hid rfl⟩
    case round =>
      obtain ⟨k, hk, rfl, had⟩ := hrel
      by_cases hlt : k < n
      · have hck := hcell k hlt
        have hr := bounds_u8 (iat_wf hwf k (by rw [HL.out]; exact hlt))
        obtain ⟨r0, r1⟩ := hr
        have s15 := and_15 (iat zs k) r0 (by omega)
        clear hcell
        by_cases hd1 : 9 < iat zs k / 16
        · have HD : Hid (allDigits zs = false) := Lib.hid (allDigits_no zs k (by rw [HL.out]; exact hlt) (by unfold digits; simp; omega))
          go_wp2
          go_ret
          exact ⟨by rw [HD.out]; rfl, rfl⟩
        · by_cases hd2 : 9 < iat zs k % 16
          · have HD : Hid (allDigits zs = false) := Lib.hid (allDigits_no zs k (by rw [HL.out]; exact hlt) (by unfold digits; simp; omega))
            go_wp2
            go_ret
            exact ⟨by rw [HD.out]; rfl, rfl⟩
          · have HD : Hid (allDigits (zs.take (k + 1)) = true) := Lib.hid (allDigits_next zs k (by rw [HL.out]; exact hlt) had.out (by unfold digits; simp; omega))
            go_wp2
            go_round
            case rel => exact ⟨k + 1, by omega, by go_num, HD⟩
            case measure => simp [intOf]; omega
      · have HE : Hid (allDigits zs = true) := Lib.hid (by have := had.out; rw [List.take_of_length_le (by rw [HL.out]; omega)] at this; exact this)
        clear hcell
        go_wp2
        go_ret
        exact ⟨by rw [HE.out]; rfl, rfl⟩
end Go.Proofs.Ytdkghfapmoikdab
