/- Digits as numbers: plain words, and the contracts of package digit's value and check, of the document's own Value. -/
import Derived.Test.YtpleboogijgdcaaMem
namespace Go.Proofs.Ytpleboogijgdcaa
open Go.ChangeShapes Go.WideShapes Go.ChangeAt Go.RowKit
set_option linter.unusedVariables false

def valOf (c : Int) : Int := if 48 ≤ c ∧ c ≤ 57 then c - 48 else if 65 ≤ c ∧ c ≤ 70 then c - 55 else if 97 ≤ c ∧ c ≤ 102 then c - 87 else 16
def valRef (c : Int) : Int := if 48 ≤ c ∧ c ≤ 57 then c - 48 else if 65 ≤ c ∧ c ≤ 70 then c - 55 else if 97 ≤ c ∧ c ≤ 102 then c - 87 else 99
theorem valOf_range (c : Int) : 0 ≤ valOf c ∧ valOf c ≤ 16 := by unfold valOf; split <;> (try split) <;> (try split) <;> omega
theorem valRef_range (c : Int) : 0 ≤ valRef c ∧ valRef c ≤ 99 := by unfold valRef; split <;> (try split) <;> (try split) <;> omega
theorem valRef_lt (c b : Int) (hb : b ≤ 16) : valRef c < b ↔ valOf c < b := by unfold valOf valRef; split <;> (try split) <;> (try split) <;> omega
theorem valRef_eq (c b : Int) (hb : b ≤ 16) (h : valOf c < b) : valRef c = valOf c := by revert h; unfold valOf valRef; split <;> (try split) <;> (try split) <;> omega
def good (b c : Int) : Bool := decide (valOf c < b)
def allGood (b : Int) (xs : List Int) : Bool := xs.all (good b)
theorem allGood_take (b : Int) (xs : List Int) (k : Nat) (h : k < xs.length) : allGood b (xs.take (k + 1)) = (allGood b (xs.take k) && good b (iat xs k)) := by
  unfold allGood
  rw [List.take_succ_eq_append_getElem h, List.all_append, iat_eq _ _ h]
  simp
theorem allGood_bad (b : Int) (xs : List Int) (k : Nat) (h : k < xs.length) (hb : good b (iat xs k) = false) : allGood b xs = false := by
  unfold allGood
  rw [List.all_eq_false]
  exact ⟨iat xs k, by rw [iat_eq _ _ h]; exact List.getElem_mem h, by simp [hb]⟩
theorem allGood_at (b : Int) (xs : List Int) (k : Nat) (h : k < xs.length) (ha : allGood b xs = true) : valOf (iat xs k) < b := by
  unfold allGood at ha
  rw [List.all_eq_true] at ha
  have := ha (iat xs k) (by rw [iat_eq _ _ h]; exact List.getElem_mem h)
  simpa [good] using this
/-- Why a text is no number: 21 no digits, or another sign; 12 too many. -/
def chk (b : Int) (most : Nat) (xs : List Int) : Int := if xs.length = 0 then 21 else if allGood b xs = false then 21 else if most < xs.length then 12 else 0
theorem empty_beq (s : ByteArray) (h : 0 < s.size) : s.toList.isEmpty = false := by
  rw [ByteArray.toList_eq]
  cases hl : s.data.toList with
  | nil =>
    have : s.size = 0 := by
      have e : s.data.toList.length = s.size := by rw [Array.length_toList]; rfl
      rw [hl] at e; exact e.symm
    omega
  | cons a l => rfl
end Go.Proofs.Ytpleboogijgdcaa
