/- The contract of the document's own Digits (spinetref02). -/
import Derived.Test.YtnmgjgeniaheoabDoorDigNums
import Derived.Outline
namespace Go.Proofs.YtnmgjgeniaheoabDoor
open Go.ChangeShapes Go.WideShapes Go.ChangeAt Go.RowKit
set_option linter.unusedVariables false
def slen : Value → Nat
  | .string s => s.size
  | _ => 0
theorem slice_sign (w : World) (d : Int) (h0 : 0 ≤ d) (h1 : d < 16) :
    (Instr.slice 9 (.string ⟨#[48, 49, 50, 51, 52, 53, 54, 55, 56, 57, 65, 66, 67, 68, 69, 70]⟩) (some (.int .i64 d)) (some (.int .i64 (d + 1))) none).run Tryd.prog w = .ok (.string (strOfNums [sg d])) w := by
  have key : ∀ k : Fin 16, (Instr.slice 9 (.string ⟨#[48, 49, 50, 51, 52, 53, 54, 55, 56, 57, 65, 66, 67, 68, 69, 70]⟩) (some (.int .i64 (k.val : Int))) (some (.int .i64 ((k.val : Int) + 1))) none).run Tryd.prog w = .ok (.string (strOfNums [sg (k.val : Int)])) w := by
    intro k
    obtain ⟨k, hk⟩ := k
    rcases (show k = 0 ∨ k = 1 ∨ k = 2 ∨ k = 3 ∨ k = 4 ∨ k = 5 ∨ k = 6 ∨ k = 7 ∨ k = 8 ∨ k = 9 ∨ k = 10 ∨ k = 11 ∨ k = 12 ∨ k = 13 ∨ k = 14 ∨ k = 15 by omega) with rfl | rfl | rfl | rfl | rfl | rfl | rfl | rfl | rfl | rfl | rfl | rfl | rfl | rfl | rfl | rfl
    all_goals kernel_rfl
  obtain ⟨k, rfl⟩ := Int.eq_ofNat_of_zero_le h0
  exact key ⟨k, by omega⟩
theorem size_digits (b n : Int) (k : Nat) : (strOfNums (digitsTo b n k)).size = k := by rw [strOfNums_size, digitsTo_len]
theorem strOf_cons (x : Int) (xs : List Int) : strOfNums [x] ++ strOfNums xs = strOfNums (x :: xs) := strOf_append [x] xs
set_option maxRecDepth 100000 in
theorem refDigits10_any (n : Int) (W : Nat) (w : World) (h0 : 0 ≤ n) (hn : n ≤ 18446744073709551615) (hW1 : 1 ≤ W) (hW : W ≤ 16) :
    Calls Tryd.prog 27 #[.int .u64 n, .int .u64 10, .int .i64 W] w fun e w' => e = .returned (.string (strOfNums (written 10 n W))) ∧ w = w' := by
  have HN : Hid (qv 10 n 20 = 0) := Lib.hid (qv_small 10 n 20 h0 (by omega))
  have HQ0 := Lib.hid (qv_zero 10 n)
  go_enter Tryd.func27, Tryd.ntmps27
  go_wp2
  go_loop [0, 7] (fun x s => ∃ k : Nat, k ≤ 20 ∧ x = .int .u64 (qv 10 n k) ∧ s = .string (strOfNums (digitsTo 10 n k)) ∧ Hid (k ≤ W ∨ qv 10 n (k - 1) ≠ 0)) (fun _ s => 21 - slen s)
  case atStart => exact ⟨0, Nat.zero_le _, by rw [HQ0.out], rfl, Lib.hid (.inl (Nat.zero_le _))⟩
  case round =>
    obtain ⟨k, hk, rfl, rfl, hinv⟩ := hrel
    have q0 := qv_nonneg 10 n k (by decide) h0
    have q1 := qv_le 10 n k h0
    have hq2 : qv 10 n k ≤ 18446744073709551615 := by omega
    have d0 := Int.emod_nonneg (qv 10 n k) (show (10 : Int) ≠ 0 by decide)
    have d1 := Int.emod_lt_of_pos (qv 10 n k) (show (0 : Int) < 10 by decide)
    have QN := Lib.hid (qv_next 10 n k (by decide))
    have hs := size_digits 10 n k
    have HS := Lib.hid hs
    have HS1 := Lib.hid (size_digits 10 n (k + 1))
    have hs1 : (strOfNums [sg (qv 10 n k % 10)]).size ≤ 1 := by rw [strOfNums_size]; simp
    have hsl := slice_sign w (qv 10 n k % 10) d0 (by omega)
    have hnx := Lib.hid (digitsTo_next 10 n k)
    have hmx : max (qv 10 n k % 10) 0 = qv 10 n k % 10 := by omega
    by_cases hgo : 0 < qv 10 n k ∨ k < W
    · have hk20 : k < 20 := by
        rcases Nat.lt_or_ge k 20 with e | e
        · exact e
        · exfalso
          obtain rfl : k = 20 := by omega
          have := HN.out; omega
      have hst : Hid (k + 1 ≤ W ∨ qv 10 n (k + 1 - 1) ≠ 0) := Lib.hid (by
        rcases hgo with e | e
        · right; rw [show k + 1 - 1 = k by omega]; omega
        · left; omega)
      by_cases hq : 0 < qv 10 n k
      · clear hgo
        go_wp2
        go_round
        case rel => exact ⟨k + 1, by omega, by rw [QN.out], by rw [hnx.out]; exact congrArg Value.string (strOf_cons _ _), hst⟩
        case measure =>
          rw [strOf_cons, ← hnx.out]
          show 21 - (strOfNums (digitsTo 10 n (k + 1))).size < 21 - (strOfNums (digitsTo 10 n k)).size
          rw [HS.out, HS1.out]; omega
      · have hkW : k < W := by omega
        clear hgo
        go_wp2
        go_round
        case rel => exact ⟨k + 1, by omega, by rw [QN.out], by rw [hnx.out]; exact congrArg Value.string (strOf_cons _ _), hst⟩
        case measure =>
          rw [strOf_cons, ← hnx.out]
          show 21 - (strOfNums (digitsTo 10 n (k + 1))).size < 21 - (strOfNums (digitsTo 10 n k)).size
          rw [HS.out, HS1.out]; omega
    · have hq : ¬ 0 < qv 10 n k := fun h => hgo (.inl h)
      have hkW : ¬ k < W := fun h => hgo (.inr h)
      clear hgo
      have hem := empty_beq (strOfNums (digitsTo 10 n k)) (by rw [HS.out]; omega)
      have hfin : Hid (digitsTo 10 n k = written 10 n W) := Lib.hid (written_eq (by decide) ⟨by omega, by omega, by
        rcases hinv.out with e | e
        · left; omega
        · exact .inr e⟩).symm
      go_wp2
      go_ret
      exact ⟨congrArg (fun l => Ending.returned (.string (strOfNums l))) hfin.out, rfl⟩
set_option maxRecDepth 100000 in
theorem refDigits16_any (n : Int) (W : Nat) (w : World) (h0 : 0 ≤ n) (hn : n ≤ 18446744073709551615) (hW1 : 1 ≤ W) (hW : W ≤ 16) :
    Calls Tryd.prog 27 #[.int .u64 n, .int .u64 16, .int .i64 W] w fun e w' => e = .returned (.string (strOfNums (written 16 n W))) ∧ w = w' := by
  have HN : Hid (qv 16 n 20 = 0) := Lib.hid (qv_small 16 n 20 h0 (by omega))
  have HQ0 := Lib.hid (qv_zero 16 n)
  go_enter Tryd.func27, Tryd.ntmps27
  go_wp2
  go_loop [0, 7] (fun x s => ∃ k : Nat, k ≤ 20 ∧ x = .int .u64 (qv 16 n k) ∧ s = .string (strOfNums (digitsTo 16 n k)) ∧ Hid (k ≤ W ∨ qv 16 n (k - 1) ≠ 0)) (fun _ s => 21 - slen s)
  case atStart => exact ⟨0, Nat.zero_le _, by rw [HQ0.out], rfl, Lib.hid (.inl (Nat.zero_le _))⟩
  case round =>
    obtain ⟨k, hk, rfl, rfl, hinv⟩ := hrel
    have q0 := qv_nonneg 16 n k (by decide) h0
    have q1 := qv_le 16 n k h0
    have hq2 : qv 16 n k ≤ 18446744073709551615 := by omega
    have d0 := Int.emod_nonneg (qv 16 n k) (show (16 : Int) ≠ 0 by decide)
    have d1 := Int.emod_lt_of_pos (qv 16 n k) (show (0 : Int) < 16 by decide)
    have QN := Lib.hid (qv_next 16 n k (by decide))
    have hs := size_digits 16 n k
    have HS := Lib.hid hs
    have HS1 := Lib.hid (size_digits 16 n (k + 1))
    have hs1 : (strOfNums [sg (qv 16 n k % 16)]).size ≤ 1 := by rw [strOfNums_size]; simp
    have hsl := slice_sign w (qv 16 n k % 16) d0 (by omega)
    have hnx := Lib.hid (digitsTo_next 16 n k)
    have hmx : max (qv 16 n k % 16) 0 = qv 16 n k % 16 := by omega
    by_cases hgo : 0 < qv 16 n k ∨ k < W
    · have hk20 : k < 20 := by
        rcases Nat.lt_or_ge k 20 with e | e
        · exact e
        · exfalso
          obtain rfl : k = 20 := by omega
          have := HN.out; omega
      have hst : Hid (k + 1 ≤ W ∨ qv 16 n (k + 1 - 1) ≠ 0) := Lib.hid (by
        rcases hgo with e | e
        · right; rw [show k + 1 - 1 = k by omega]; omega
        · left; omega)
      by_cases hq : 0 < qv 16 n k
      · clear hgo
        go_wp2
        go_round
        case rel => exact ⟨k + 1, by omega, by rw [QN.out], by rw [hnx.out]; exact congrArg Value.string (strOf_cons _ _), hst⟩
        case measure =>
          rw [strOf_cons, ← hnx.out]
          show 21 - (strOfNums (digitsTo 16 n (k + 1))).size < 21 - (strOfNums (digitsTo 16 n k)).size
          rw [HS.out, HS1.out]; omega
      · have hkW : k < W := by omega
        clear hgo
        go_wp2
        go_round
        case rel => exact ⟨k + 1, by omega, by rw [QN.out], by rw [hnx.out]; exact congrArg Value.string (strOf_cons _ _), hst⟩
        case measure =>
          rw [strOf_cons, ← hnx.out]
          show 21 - (strOfNums (digitsTo 16 n (k + 1))).size < 21 - (strOfNums (digitsTo 16 n k)).size
          rw [HS.out, HS1.out]; omega
    · have hq : ¬ 0 < qv 16 n k := fun h => hgo (.inl h)
      have hkW : ¬ k < W := fun h => hgo (.inr h)
      clear hgo
      have hem := empty_beq (strOfNums (digitsTo 16 n k)) (by rw [HS.out]; omega)
      have hfin : Hid (digitsTo 16 n k = written 16 n W) := Lib.hid (written_eq (by decide) ⟨by omega, by omega, by
        rcases hinv.out with e | e
        · left; omega
        · exact .inr e⟩).symm
      go_wp2
      go_ret
      exact ⟨congrArg (fun l => Ending.returned (.string (strOfNums l))) hfin.out, rfl⟩
end Go.Proofs.YtnmgjgeniaheoabDoor
