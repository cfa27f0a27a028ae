/- Names, in plain words: what symbols.Right and the document's own answer ask of a text. -/
import Derived.Test.YtopkjniegncokaaMem
namespace Go.Proofs.Ytopkjniegncokaa
open Go.ChangeShapes Go.WideShapes Go.ChangeAt Go.RowKit
set_option linter.unusedVariables false

def letC (c : Int) : Bool := decide (65 ≤ c) && decide (c ≤ 90) || decide (97 ≤ c) && decide (c ≤ 122) || decide (c = 46) || decide (c = 95)
def figC (c : Int) : Bool := decide (48 ≤ c) && decide (c ≤ 57)
def worC (c : Int) : Bool := letC c || figC c
def rightL (l : List Int) : Bool := decide (1 ≤ l.length) && decide (l.length ≤ 16) && letC (iat l 0) && l.all worC
theorem let_fig (c : Int) (h : figC c = true) : letC c = false := by
  simp only [figC, letC, Bool.and_eq_true, decide_eq_true_eq, Bool.or_eq_false_iff, Bool.and_eq_false_iff, decide_eq_false_iff_not] at h ⊢
  omega
theorem all_take (f : Int → Bool) (xs : List Int) (k : Nat) (h : k < xs.length) : (xs.take (k + 1)).all f = ((xs.take k).all f && f (iat xs k)) := by
  rw [List.take_succ_eq_append_getElem h, List.all_append, iat_eq _ _ h]
  simp
theorem all_bad (f : Int → Bool) (xs : List Int) (k : Nat) (h : k < xs.length) (hb : f (iat xs k) = false) : xs.all f = false := by
  rw [List.all_eq_false]
  exact ⟨iat xs k, by rw [iat_eq _ _ h]; exact List.getElem_mem h, by simp [hb]⟩
theorem empty_beqS (s : ByteArray) (h : 0 < s.size) : s.toList.isEmpty = false := by
  rw [ByteArray.toList_eq]
  cases hl : s.data.toList with
  | nil =>
    have : s.size = 0 := by
      have e : s.data.toList.length = s.size := by rw [Array.length_toList]; rfl
      rw [hl] at e; exact e.symm
    omega
  | cons a l => rfl
end Go.Proofs.Ytopkjniegncokaa
