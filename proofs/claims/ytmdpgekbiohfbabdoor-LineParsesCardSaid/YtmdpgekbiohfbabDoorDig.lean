/- Digits as numbers: plain words, and the contracts of package digit's value and check, of the document's own Value. -/
import Derived.Test.YtmdpgekbiohfbabDoorMem
namespace Go.Proofs.YtmdpgekbiohfbabDoor
open Go.ChangeShapes Go.WideShapes Go.ChangeAt Go.RowKit
set_option linter.unusedVariables false

def valOf (c : Int) : Int := if 48 ≤ c ∧ c ≤ 57 then c - 48 else if 65 ≤ c ∧ c ≤ 70 then c - 55 else if 97 ≤ c ∧ c ≤ 102 then c - 87 else 16
def valRef (c : Int) : Int := if 48 ≤ c ∧ c ≤ 57 then c - 48 else if 65 ≤ c ∧ c ≤ 70 then c - 55 else if 97 ≤ c ∧ c ≤ 102 then c - 87 else 99
theorem valOf_range (c : Int) : 0 ≤ valOf c ∧ valOf c ≤ 16 := by unfold valOf; split <;> (try split) <;> (try split) <;> omega
theorem valRef_range (c : Int) : 0 ≤ valRef c ∧ valRef c ≤ 99 := by unfold valRef; split <;> (try split) <;> (try split) <;> omega
theorem valRef_lt (c b : Int) (hb : b ≤ 16) : valRef c < b ↔ valOf c < b := by unfold valOf valRef; split <;> (try split) <;> (try split) <;> omega
theorem valRef_eq (c b : Int) (hb : b ≤ 16) (h : valOf c < b) : valRef c = valOf c := by revert h; unfold valOf valRef; split <;> (try split) <;> (try split) <;> omega
def good (b c : Int) : Bool := decide (valOf c < b)
def allGood (b : Int) (xs : List Int) : Bool := xs.all (good b)
theorem allGood_take (b : Int) (xs : List Int) (k : Nat) (h : k < xs.length) : allGood b (xs.take (k + 1)) = (allGood b (xs.take k) && good b (iat xs k)) := by
  unfold allGood
  rw [List.take_succ_eq_append_getElem h, List.all_append, iat_eq _ _ h]
  simp
theorem allGood_bad (b : Int) (xs : List Int) (k : Nat) (h : k < xs.length) (hb : good b (iat xs k) = false) : allGood b xs = false := by
  unfold allGood
  rw [List.all_eq_false]
  exact ⟨iat xs k, by rw [iat_eq _ _ h]; exact List.getElem_mem h, by simp [hb]⟩
theorem allGood_at (b : Int) (xs : List Int) (k : Nat) (h : k < xs.length) (ha : allGood b xs = true) : valOf (iat xs k) < b := by
  unfold allGood at ha
  rw [List.all_eq_true] at ha
  have := ha (iat xs k) (by rw [iat_eq _ _ h]; exact List.getElem_mem h)
  simpa [good] using this
/-- Why a text is no number: 21 no digits, or another sign; 12 too many. -/
def chk (b : Int) (most : Nat) (xs : List Int) : Int := if xs.length = 0 then 21 else if allGood b xs = false then 21 else if most < xs.length then 12 else 0
theorem empty_beq (s : ByteArray) (h : 0 < s.size) : s.toList.isEmpty = false := by
  rw [ByteArray.toList_eq]
  cases hl : s.data.toList with
  | nil =>
    have : s.size = 0 := by
      have e : s.data.toList.length = s.size := by rw [Array.length_toList]; rfl
      rw [hl] at e; exact e.symm
    omega
  | cons a l => rfl
theorem value_any (c : Int) (w : World) (h0 : 0 ≤ c) (h1 : c < 256) : Calls Tryd.prog 138 #[.int .u8 c] w fun e w' => e = .returned (.int .i64 (valOf c)) ∧ w = w' := by
  by_cases a1 : 48 ≤ c
  all_goals by_cases a2 : c ≤ 57
  all_goals by_cases a3 : 65 ≤ c
  all_goals by_cases a4 : c ≤ 70
  all_goals by_cases a5 : 97 ≤ c
  all_goals by_cases a6 : c ≤ 102
  all_goals try (exfalso; omega)
  all_goals
    go_enter Tryd.func138, Tryd.ntmps138
    go_wp2
    go_ret
    exact ⟨ret_int (by unfold valOf; split <;> (try split) <;> (try split) <;> omega), rfl⟩
theorem valRef_any (c : Int) (w : World) (h0 : 0 ≤ c) (h1 : c < 256) : Calls Tryd.prog 116 #[.int .u8 c] w fun e w' => e = .returned (.int .i64 (valRef c)) ∧ w = w' := by
  by_cases a1 : 48 ≤ c
  all_goals by_cases a2 : c ≤ 57
  all_goals by_cases a3 : 65 ≤ c
  all_goals by_cases a4 : c ≤ 70
  all_goals by_cases a5 : 97 ≤ c
  all_goals by_cases a6 : c ≤ 102
  all_goals try (exfalso; omega)
  all_goals
    go_enter Tryd.func116, Tryd.ntmps116
    go_wp2
    go_ret
    exact ⟨ret_int (by unfold valRef; split <;> (try split) <;> (try split) <;> omega), rfl⟩
set_option maxRecDepth 100000 in
theorem check_any (s : ByteArray) (b : Int) (most : Nat) (w : World) (hs : s.size ≤ maxLen) (hb0 : 0 ≤ b) (hb1 : b ≤ 16) (hm : most ≤ 100) :
    Calls Tryd.prog 137 #[.string s, .int .i64 b, .int .i64 most] w fun e w' => e = .returned (.int .i64 (chk b most (nums s))) ∧ w = w' := by
  unfold maxLen at hs
  have HL := Lib.hid (nums_len s)
  by_cases he : s.size = 0
  · have hc : Hid (chk b most (nums s) = 21) := Lib.hid (by unfold chk; rw [HL.out, he]; rfl)
    obtain rfl : s = ByteArray.empty := ByteArray.size_eq_zero_iff.1 he
    go_enter Tryd.func137, Tryd.ntmps137
    go_wp2
    go_ret
    exact ⟨ret_int hc.out.symm, rfl⟩
  · have hne := empty_beq s (by omega)
    have hgt : 0 < s.size := by omega
    have hb := get_nums s
    clear he
    go_enter Tryd.func137, Tryd.ntmps137
    go_wp2
    go_loop [12] (fun i => ∃ k : Nat, k ≤ s.size ∧ i = .int .i64 k ∧ Hid (allGood b ((nums s).take k) = true)) (fun i => s.size - (intOf i).toNat)
    case atStart => exact ⟨0, Nat.zero_le _, rfl, Lib.hid rfl⟩
    case round =>
      obtain ⟨k, hk, rfl, hall⟩ := hrel
      by_cases hlt : k < s.size
      · obtain ⟨r0, r1⟩ := iat_nums_range s k
        by_cases hg : valOf (iat (nums s) k) < b
        · have hnx : Hid (allGood b ((nums s).take (k + 1)) = true) := Lib.hid (by
            rw [allGood_take _ _ _ (by rw [HL.out]; exact hlt), hall.out]; simpa [good] using hg)
          go_wp2_with (go_at_call 138; refine (value_any _ _ r0 r1).mono ?_; rintro e w' ⟨rfl, rfl⟩)
          go_round
          case rel => exact ⟨k + 1, by omega, by go_num, hnx⟩
          case measure => simp [intOf]; omega
        · have hc : Hid (chk b most (nums s) = 21) := Lib.hid (by
            unfold chk
            rw [allGood_bad b (nums s) k (by rw [HL.out]; exact hlt) (by simpa [good] using hg)]; split <;> rfl)
          have hg' : b ≤ valOf (iat (nums s) k) := by omega
          clear hg
          go_wp2_with (go_at_call 138; refine (value_any _ _ r0 r1).mono ?_; rintro e w' ⟨rfl, rfl⟩)
          go_ret
          exact ⟨ret_int hc.out.symm, rfl⟩
      · have hfull : Hid (allGood b (nums s) = true) := Lib.hid (by
          have := hall.out; rwa [List.take_of_length_le (by rw [HL.out]; omega)] at this)
        by_cases hmo : most < s.size
        · have hc : Hid (chk b most (nums s) = 12) := Lib.hid (by
            unfold chk; rw [hfull.out, HL.out, if_neg (by omega), if_neg (by simp), if_pos hmo])
          go_wp2
          go_ret
          exact ⟨ret_int hc.out.symm, rfl⟩
        · have hc : Hid (chk b most (nums s) = 0) := Lib.hid (by
            unfold chk; rw [hfull.out, HL.out, if_neg (by omega), if_neg (by simp), if_neg hmo])
          go_wp2
          go_ret
          exact ⟨ret_int hc.out.symm, rfl⟩
end Go.Proofs.YtmdpgekbiohfbabDoor
