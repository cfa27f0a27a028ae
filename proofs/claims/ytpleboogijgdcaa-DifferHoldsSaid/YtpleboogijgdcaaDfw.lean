/- Differ: the first place so far (numbers). -/
import Derived.Test.YtpleboogijgdcaaDfh
namespace Go.Proofs.Ytpleboogijgdcaa
open Go.ChangeShapes Go.WideShapes Go.ChangeAt Go.RowKit
set_option linter.unusedVariables false

noncomputable def fsP (l m : List Rc) (n : Nat) : Int := match (List.range n).find? (dfB l m) with | none => -1 | some k => (k : Int)
theorem fsP_all (l m : List Rc) : fsP l m (mxD l m) = fsD l m := rfl
theorem fsP_next (l m : List Rc) (n : Nat) : fsP l m (n + 1) = if fsP l m n < 0 ∧ dfB l m n = true then (n : Int) else fsP l m n := by
  unfold fsP
  rw [List.range_succ, List.find?_append]
  cases h : (List.range n).find? (dfB l m) with
  | none =>
    by_cases hd : dfB l m n = true
    · simp [hd]
    · simp [hd]
  | some j =>
    simp
    omega
theorem fsP_le (l m : List Rc) (n : Nat) : -1 ≤ fsP l m n ∧ fsP l m n < (n : Int) + 1 := by
  induction n with
  | zero => simp [fsP]
  | succ n ih =>
    rw [fsP_next]
    split <;> omega
theorem dfB_both (l m : List Rc) (k : Nat) (x y : Rc) (hx : l[k]? = some x) (hy : m[k]? = some y) : dfB l m k = !eqB x y := by
  unfold dfB; rw [hx, hy]
  congr 1
  rw [Bool.eq_iff_iff, eqB_iff, eqB_iff, Option.some.injEq]
theorem dfB_one (l m : List Rc) (k : Nat) (h : k < l.length ∨ k < m.length) (h2 : ¬ (k < l.length ∧ k < m.length)) : dfB l m k = true := by
  unfold dfB; rw [Bool.not_eq_true']
  apply eqB_no
  intro e
  by_cases q : k < l.length
  · have q2 : ¬ k < m.length := fun z => h2 ⟨q, z⟩
    rw [List.getElem?_eq_getElem q, List.getElem?_eq_none (by omega)] at e
    cases e
  · rw [List.getElem?_eq_none (by omega), List.getElem?_eq_getElem (h.resolve_left q)] at e
    cases e
theorem mxD_lt (l m : List Rc) (k : Nat) : k < mxD l m ↔ (k < l.length ∨ k < m.length) := by
  unfold mxD
  constructor
  · intro hk
    rcases Nat.le_total l.length m.length with z | z
    · rw [Nat.max_eq_right z] at hk; exact .inr hk
    · rw [Nat.max_eq_left z] at hk; exact .inl hk
  · rintro (h | h)
    · exact Nat.lt_of_lt_of_le h (Nat.le_max_left _ _)
    · exact Nat.lt_of_lt_of_le h (Nat.le_max_right _ _)
end Go.Proofs.Ytpleboogijgdcaa
