/- The document's operands (spinetref45): what stands inside, in plain words. -/
import Derived.Test.YtmdpgekbiohfbabDoorLdr
import Derived.Test.YtmdpgekbiohfbabDoorLim
import Derived.Test.YtmdpgekbiohfbabDoorExz
namespace Go.Proofs.YtmdpgekbiohfbabDoor
open Go.ChangeShapes Go.WideShapes Go.ChangeAt Go.RowKit
set_option linter.unusedVariables false

theorem regIn_true (s : ByteArray) : ∀ m k, (regIn s m k).2 = true → ∃ j, (regIn s m k).1 = (j : Nat) ∧ regIs s j = true
  | 0, k, h => by simp [regIn] at h
  | m + 1, k, h => by
    unfold regIn at h ⊢
    by_cases hh : regIs s k = true
    · rw [if_pos hh]; exact ⟨k, rfl, hh⟩
    · rw [if_neg hh] at h ⊢; exact regIn_true s m (k + 1) h
theorem regIs_eq {s : ByteArray} {k : Nat} (h : regIs s k = true) : regS k = s := by
  unfold regIs at h
  rw [Bool.and_eq_true, str_eqP, decide_eq_true_eq] at h
  exact h.2
theorem regOf_X : regOf (strOfNums [88]) = (1, true) ∧ regOf (strOfNums [89]) = (2, true) ∧ regOf (strOfNums [85]) = (3, true) ∧ regOf (strOfNums [83]) = (4, true) ∧ regOf (strOfNums [80, 67]) = (5, true) := by decide +kernel
theorem rg_reg (b : List Int) (hb : BytL b) (k : Int) : rgN b k = if (regOf (strOfNums b)).2 = false ∨ ptB (regOf (strOfNums b)).1 k = false then (-1, 0) else ((regOf (strOfNums b)).1, k) := by
  obtain ⟨x1, x2, x3, x4, x5⟩ := regOf_X
  by_cases h1 : b = [88]
  · subst h1; rw [x1]; rfl
  by_cases h2 : b = [89]
  · subst h2; rw [x2]; rfl
  by_cases h3 : b = [85]
  · subst h3; rw [x3]; rfl
  by_cases h4 : b = [83]
  · subst h4; rw [x4]; rfl
  by_cases h5 : b = [80, 67]
  · subst h5; rw [x5]
    unfold rgN ptB
    by_cases hk : k = 0
    · subst hk; rfl
    · simp [hk]
  · have hN : rgN b k = (-1, 0) := by
      unfold rgN
      rw [if_neg h1, if_neg h2, if_neg h3, if_neg h4, if_neg (fun h => h5 h.1)]
    rw [hN, if_pos]
    cases hq : (regOf (strOfNums b)).2
    · exact .inl rfl
    · refine .inr ?_
      obtain ⟨j, hj, hi⟩ := regIn_true (strOfNums b) 12 0 hq
      have he := regIs_eq hi
      have hbn : b = nums (regS j) := by rw [he, str_nums b hb]
      cases hp : ptB (regOf (strOfNums b)).1 k
      · rfl
      · exfalso
        have hr : (regOf (strOfNums b)).1 = (j : Int) := hj
        rw [hr] at hp
        unfold ptB at hp
        simp only [Bool.or_eq_true, Bool.and_eq_true, decide_eq_true_eq] at hp
        rcases hp with (((h | h) | h) | h) | h
        · obtain rfl : j = 1 := by omega
          exact h1 hbn
        · obtain rfl : j = 2 := by omega
          exact h2 hbn
        · obtain rfl : j = 3 := by omega
          exact h3 hbn
        · obtain rfl : j = 4 := by omega
          exact h4 hbn
        · obtain rfl : j = 5 := by omega
          exact h5 hbn
theorem dat_at (s : ByteArray) (n : Nat) (h : n < s.size) : ((s.data[n]!).toNat : Int) = iat (nums s) n := by
  rw [← get_nums s n h]
  have h' : n < s.data.size := h
  rw [getElem!_pos s.data n h']
  rfl
/-- What the document answers of such an operand. -/
def InPost (M : AgV × Bool) (w : World) (e : Ending) (w' : World) : Prop :=
  ∃ (f z : Int) (X : ByteArray) (k r o : Int) (d : Bool), e = .returned (.tuple #[.agg #[.int .i64 f, .int .i64 z, .string X, .int .i64 k, .int .i64 r, .int .i64 o, .bool d], .bool M.2]) ∧
    (M.2 = true → f = M.1.f ∧ z = M.1.s ∧ X = strOfNums M.1.x ∧ k = M.1.k ∧ r = M.1.r ∧ o = M.1.o ∧ d = M.1.i) ∧ Below w.heap.size w w'
theorem stepL_byt {l : List Int} (h : BytL l) : BytL (stepL l).1 := by
  unfold stepL
  repeat' split
  all_goals first | exact h.drop _ | exact h.take _ | exact h
theorem stepL_k0 (l : List Int) : 0 ≤ (stepL l).2 := by
  unfold stepL
  repeat' split
  all_goals simp
theorem ptB_15 {r k : Int} (h : ptB r k = true) : 1 ≤ r ∧ r ≤ 5 ∧ (r = 5 → k = 0) := by
  unfold ptB at h
  simp only [Bool.or_eq_true, Bool.and_eq_true, decide_eq_true_eq] at h
  omega
theorem sizL_012 (l : List Int) : (sizL l).1 = 0 ∨ (sizL l).1 = 1 ∨ (sizL l).1 = 2 := by
  unfold sizL
  repeat' split
  all_goals simp
theorem lookB0 : lookB [] = look0 := by funext n; rfl
end Go.Proofs.YtmdpgekbiohfbabDoor
