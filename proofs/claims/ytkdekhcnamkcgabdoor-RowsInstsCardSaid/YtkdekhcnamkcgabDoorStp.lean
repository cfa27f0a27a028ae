/- Rows of cycles (a kind, and a Bool) as lists: their cells; the document's letters. No program in sight. -/
import Derived.Test.YtkdekhcnamkcgabDoorMem
namespace Go.Proofs.YtkdekhcnamkcgabDoor
set_option linter.unusedVariables false

abbrev Stp := Int × Bool
def stC (x : Stp) : List Value := [.int .i64 x.1, .bool x.2]
def sC (l : List Stp) : List Value := l.flatMap stC
theorem sC_append (l m : List Stp) : sC (l ++ m) = sC l ++ sC m := by simp [sC]
theorem sC_len (l : List Stp) : (sC l).length = l.length * 2 := by
  induction l with
  | nil => rfl
  | cons x l ih => rw [show sC (x :: l) = stC x ++ sC l from rfl, List.length_append, ih, List.length_cons, show (stC x).length = 2 from rfl]; omega
theorem sC_at (l : List Stp) : ∀ (i j : Nat), i < l.length → j < 2 → (sC l)[2 * i + j]? = (stC (l.getD i (0, false)))[j]? := by
  induction l with
  | nil => intro i j h; exact absurd h (by simp)
  | cons x l ih =>
    intro i j h hj
    cases i with
    | zero => simp only [sC, List.flatMap_cons]; rw [List.getElem?_append_left (by simp [stC]; omega)]; simp
    | succ i =>
      have := ih i j (by simpa using h) hj
      simp only [sC, List.flatMap_cons] at this ⊢
      rw [List.getElem?_append_right (by simp [stC]; omega)]
      simp only [List.getD_cons_succ]
      rw [← this]
      congr 1
      simp [stC]; omega
theorem sC_one (l : List Stp) : ∀ u ∈ sC l, u.oneCell' = true := by
  intro u hu
  simp only [sC, List.mem_flatMap] at hu
  obtain ⟨x, _, hx⟩ := hu
  simp only [stC, List.mem_cons, List.not_mem_nil, or_false] at hx
  rcases hx with rfl | rfl <;> rfl
/-- The kind of a letter, of those that the first k name. -/
def letN (k : Nat) : Int := ([63, 79, 65, 78, 73, 76, 83, 80, 85, 68, 75, 82, 86] : List Int).getD k 0
def kindTo (x : Int) : Nat → Int
  | 0 => 0
  | k + 1 => if letN k = x then (k : Int) else kindTo x k
def kindOf (x : Int) : Int := kindTo x 13
def stepS (s : List Stp × Bool) (x : Int) : List Stp × Bool := if x = 43 then (s.1, true) else (s.1 ++ [(kindOf x, s.2)], false)
def stepsOf (xs : List Int) : List Stp := (xs.foldl stepS ([], false)).1
theorem stepS_len (s : List Stp × Bool) (x : Int) : (stepS s x).1.length ≤ s.1.length + 1 := by
  unfold stepS; split <;> simp
theorem foldS_len (xs : List Int) : ∀ s : List Stp × Bool, (xs.foldl stepS s).1.length ≤ s.1.length + xs.length := by
  induction xs with
  | nil => intro s; simp
  | cons x xs ih => intro s; have := ih (stepS s x); have := stepS_len s x; simp only [List.foldl_cons, List.length_cons]; omega
/-- The same row again and again. -/
def rep (xs : List Int) : Nat → List Int
  | 0 => []
  | n + 1 => rep xs n ++ xs
theorem rep_len (xs : List Int) : ∀ n, (rep xs n).length = n * xs.length
  | 0 => by simp [rep]
  | n + 1 => by rw [rep, List.length_append, rep_len xs n, Nat.succ_mul]
def someL (k : Int) (n : Nat) : List Stp := List.replicate n (k, false)
def firstL (k : Int) : List Stp := [(k, true), (k, false)]
theorem take_eq_nextS (l m : List Stp) (k : Nat) (hx : k < l.length) (hy : k < m.length) (h : l.take k = m.take k) (he : l.getD k (0, false) = m.getD k (0, false)) : l.take (k + 1) = m.take (k + 1) := by
  rw [List.take_succ_eq_append_getElem hx, List.take_succ_eq_append_getElem hy, h]
  simp only [List.getD_eq_getElem?_getD, List.getElem?_eq_getElem hx, List.getElem?_eq_getElem hy, Option.getD_some] at he
  rw [he]
theorem ne_of_atS (l m : List Stp) (k : Nat) (he : l.getD k (0, false) ≠ m.getD k (0, false)) : (l == m) = false := by
  rw [beq_eq_false_iff_ne]; rintro rfl; exact he rfl
end Go.Proofs.YtkdekhcnamkcgabDoor
