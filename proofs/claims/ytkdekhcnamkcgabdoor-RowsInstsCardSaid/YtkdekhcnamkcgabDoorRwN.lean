/- Rows of cycles of whole instructions as lists, and the document's letters for them. No program in sight. -/
import Derived.Test.YtkdekhcnamkcgabDoorStp
import Derived.Test.YtkdekhcnamkcgabDoorTbl
import Derived.Test.YtkdekhcnamkcgabDoorPagT
import Derived.Test.YtkdekhcnamkcgabDoorPostT
namespace Go.Proofs.YtkdekhcnamkcgabDoor
set_option linter.unusedVariables false

abbrev idL (n : Nat) : List Stp := someL 4 n
def vecL : List Stp := [firstL 12, idL 1].flatten
def callL : List Stp := [someL 7 1, idL 1, someL 8 2].flatten
def enterL (n : Nat) : List Stp := [idL 1, someL 8 n, idL 1, vecL].flatten
def memL (g : Int) : List Stp :=
  if g = 1 then someL 5 1 else if g = 2 then someL 6 1 else if g = 3 then [(5, true), (4, true), (6, false)] else if g = 4 then [someL 5 1, idL 2].flatten else
  if g = 5 then firstL 5 else if g = 6 then firstL 6 else if g = 7 then [firstL 5, idL 1].flatten else if g = 8 then idL 1 else if g = 10 then callL else []
def oneL (o : Int) : List Stp := if o = 43 ∨ o = 44 then idL 1 else if o = 41 then [someL 3 1, idL 1, someL 8 12].flatten else []
def twoL (g : Int) : List Stp := if g = 7 then idL 1 else []
def aloneL (o : Int) : List Stp :=
  if o = 1 ∨ o = 40 then idL 1 else if o = 50 then idL 9 else if o = 48 then [someL 9 2, idL 1].flatten else if o = 49 then someL 9 1 else if o = 51 then enterL 12 else []
def brL (o : Int) (h : Bool) : List Stp :=
  if o = 34 then idL 1 else if o = 35 then (if h then idL 2 else idL 1) else if o = 36 then idL 2 else if o = 37 then [idL 1, callL].flatten else if o = 38 then [idL 2, callL].flatten else []
def pairL (o : Int) : List Stp := if o = 46 then idL 6 else if o = 47 then idL 4 else []
def manyL (o : Int) (n : Nat) : List Stp :=
  if o = 30 then [idL 2, someL 10 1, someL 8 n].flatten else if o = 31 then [idL 2, someL 9 n, someL 10 1].flatten else []
def aheadL (m : Int) : List Stp :=
  if m = 1 ∨ m = 4 ∨ m = 6 ∨ m = 8 ∨ m = 9 then someL 2 1 else if m = 2 ∨ m = 7 then someL 2 2 else if m = 3 then [someL 2 1, idL 1].flatten else if m = 5 then [someL 2 2, idL 1].flatten else []
def behindL (n k : Nat) (d : Bool) : List Stp :=
  if d then [[someL 2 n, idL k].flatten, firstL 11, idL 1].flatten else [someL 2 n, idL k].flatten
def tailL (o m : Int) (h : Bool) (n : Nat) : List Stp :=
  if m = 3 ∨ m = 4 ∨ m = 5 then memL (grpN o) else if m = 1 then oneL o else if m = 2 then twoL (grpN o) else if m = 0 then [someL 3 1, aloneL o].flatten else
  if m = 6 ∨ m = 7 then brL o h else if m = 8 then pairL o else if m = 9 then manyL o n else []
def restL (d : Bool) : List Stp := [someL 9 (if d then 11 else 2), someL 10 1].flatten
def rowL (k : Int) : List Stp :=
  if k = 1 ∨ k = 3 then [someL 3 2, enterL 12].flatten else if k = 2 then [someL 3 2, enterL 3].flatten else if 4 ≤ k ∧ k ≤ 7 then vecL else []
/-- The letters. -/
def enterS : List Int := [73] ++ rep [85] 12 ++ [73, 43, 86, 86, 73]
def memS (g : Nat) : List Int := ([[], [76], [83], [43, 76, 43, 73, 83], [76, 73, 73], [43, 76, 76], [43, 83, 83], [43, 76, 76, 73], [73], [], [80, 73, 85, 85]] : List (List Int)).getD g []
def aheadS (m : Nat) : List Int := ([[], [65], [65, 65], [65, 73], [65], [65, 65, 73], [65], [65, 65], [65], [65]] : List (List Int)).getD m []
def behindS (n k : Nat) (d : Bool) : List Int := rep [65] n ++ rep [73] k ++ (if d then [43, 82, 82, 73] else [])
def tailS (o m : Nat) (g : Nat) (h : Bool) (n : Nat) : List Int :=
  if m = 3 ∨ m = 4 ∨ m = 5 then memS g else
  if o = 43 ∨ o = 44 ∨ (m = 2 ∧ g = 7) then [73] else if o = 41 then [78, 73] ++ rep [85] 12 else if o = 1 ∨ o = 40 then [78, 73] else if o = 50 then [78] ++ rep [73] 9 else
  if o = 48 then [78, 68, 68, 73] else if o = 49 then [78, 68] else if o = 51 then [78] ++ enterS else if m = 0 then [78] else if o = 34 then [73] else
  if o = 35 then (if h then [73, 73] else [73]) else if o = 36 then [73, 73] else if o = 37 then [73, 80, 73, 85, 85] else if o = 38 then [73, 73, 80, 73, 85, 85] else
  if o = 46 then rep [73] 6 else if o = 47 then rep [73] 4 else if o = 30 then [73, 73, 75] ++ rep [85] n else if o = 31 then [73, 73] ++ rep [68] n ++ [75] else []
def restS (d : Bool) : List Int := if d then rep [68] 11 ++ [75] else [68, 68, 75]
def rowS (k : Int) : List Int :=
  if k = 1 ∨ k = 3 then [78, 78, 73] ++ rep [85] 12 ++ [73, 43, 86, 86, 73] else if k = 2 then [78, 78, 73, 85, 85, 85, 73, 43, 86, 86, 73] else if 4 ≤ k ∧ k ≤ 7 then [43, 86, 86, 73] else []
theorem row_same (k : Int) : stepsOf (rowS k) = rowL k := by
  by_cases h : 1 ≤ k ∧ k ≤ 7
  · rcases (show k = 1 ∨ k = 2 ∨ k = 3 ∨ k = 4 ∨ k = 5 ∨ k = 6 ∨ k = 7 by omega) with rfl | rfl | rfl | rfl | rfl | rfl | rfl <;> decide +kernel
  · have e1 : rowS k = [] := by unfold rowS; repeat (rw [if_neg (by omega)])
    have e2 : rowL k = [] := by unfold rowL; repeat (rw [if_neg (by omega)])
    rw [e1, e2]; rfl
theorem ahead_same : ((List.range 10).all fun m => decide (stepsOf (aheadS m) = aheadL m)) = true := by decide +kernel
theorem behind_same : ((List.range 256).all fun b => decide (stepsOf (behindS (poBytes (poK b)) (poIdle (poK b)) (poI b)) = behindL (poBytes (poK b)) (poIdle (poK b)) (poI b))) = true := by decide +kernel
theorem rest_same : ∀ d : Bool, stepsOf (restS d) = restL d := by decide +kernel
def tailQ (j n : Nat) (h : Bool) : Bool := decide (stepsOf (tailS (eOp (pgT j)) (eMode (pgT j)) (grpN (eOp (pgT j))).toNat h n) = tailL (eOp (pgT j)) (eMode (pgT j)) h n)
theorem tail_same : ((List.range 768).all fun j => (List.range 13).all fun n => tailQ j n true && tailQ j n false) = true := by decide +kernel
/-- Letters one behind the other. -/
theorem fold_app (xs : List Int) : ∀ (l : List Stp) (b : Bool), (xs.foldl stepS (l, b)) = (l ++ (xs.foldl stepS ([], b)).1, (xs.foldl stepS ([], b)).2) := by
  induction xs with
  | nil => intro l b; simp
  | cons x xs ih =>
    intro l b
    simp only [List.foldl_cons]
    by_cases h : x = 43
    · have e : ∀ (l : List Stp) (b : Bool), stepS (l, b) x = (l, true) := fun l b => by unfold stepS; rw [if_pos h]
      rw [e, e, ih l true]
    · have e : ∀ (l : List Stp) (b : Bool), stepS (l, b) x = (l ++ [(kindOf x, b)], false) := fun l b => by unfold stepS; rw [if_neg h]
      rw [e, e, ih, ih ([] ++ _)]
      simp
def endsQ (xs : List Int) : Bool := !(xs.foldl stepS ([], false)).2
theorem steps_app (xs ys : List Int) (h : endsQ xs = true) : stepsOf (xs ++ ys) = stepsOf xs ++ stepsOf ys := by
  unfold stepsOf
  unfold endsQ at h
  rw [List.foldl_append, fold_app ys, ]
  have : (xs.foldl stepS ([], false)).2 = false := by simpa using h
  rw [this]
theorem ends_app (xs ys : List Int) (h : endsQ xs = true) (h' : endsQ ys = true) : endsQ (xs ++ ys) = true := by
  unfold endsQ at *
  have : (xs.foldl stepS ([], false)).2 = false := by simpa using h
  rw [List.foldl_append, fold_app ys, this]
  exact h'
end Go.Proofs.YtkdekhcnamkcgabDoor
