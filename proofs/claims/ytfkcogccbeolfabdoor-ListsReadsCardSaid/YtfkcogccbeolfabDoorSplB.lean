/- The law's bit of a name (the last of eight; six for D) is lists' own. -/
import Derived.Test.YtfkcogccbeolfabDoorSplN
import Derived.Test.YtfkcogccbeolfabDoorStrs
namespace Go.Proofs.YtfkcogccbeolfabDoor
open Go.ChangeShapes Go.WideShapes Go.ChangeAt Go.RowKit
set_option linter.unusedVariables false

def bitL (s : ByteArray) (u : Bool) : Nat → Int
  | 0 => if s = regS 0 then 6 else 0
  | k + 1 => if regS (regN k u) = s then ((2 ^ k : Nat) : Int) else bitL s u k
theorem bitL_succ (s : ByteArray) (u : Bool) (k : Nat) : bitL s u (k + 1) = if regS (regN k u) = s then ((2 ^ k : Nat) : Int) else bitL s u k := rfl
theorem bitL_range (s : ByteArray) (u : Bool) : ∀ k, k ≤ 8 → 0 ≤ bitL s u k ∧ bitL s u k < 256
  | 0, _ => by unfold bitL; split <;> decide
  | k + 1, h => by
    rw [bitL_succ]
    split
    · have := pow_lt8 k (by omega)
      obtain ⟨z, hz⟩ : ∃ z, 2 ^ k = z := ⟨_, rfl⟩
      rw [hz] at this ⊢
      omega
    · exact bitL_range s u k (by omega)
theorem regIs_no (s : ByteArray) (k : Nat) (h : ¬ s = regS k) : regIs s k = false := by
  unfold regIs
  have : ((regS k).toList == s.toList) = false := by
    apply beq_false_of_ne
    intro e
    rw [ByteArray.toList_eq, ByteArray.toList_eq] at e
    exact h (ByteArray.ext (Array.toList_inj.1 e.symm))
  rw [this, Bool.and_false]
set_option maxRecDepth 100000 in
theorem bitL_named (s : ByteArray) (u : Bool) : bitL s u 8 = namedF s u := by
  by_cases h0 : s = regS 0
  · subst h0; cases u <;> decide +kernel
  by_cases h1 : s = regS 1
  · subst h1; cases u <;> decide +kernel
  by_cases h2 : s = regS 2
  · subst h2; cases u <;> decide +kernel
  by_cases h3 : s = regS 3
  · subst h3; cases u <;> decide +kernel
  by_cases h4 : s = regS 4
  · subst h4; cases u <;> decide +kernel
  by_cases h5 : s = regS 5
  · subst h5; cases u <;> decide +kernel
  by_cases h8 : s = regS 8
  · subst h8; cases u <;> decide +kernel
  by_cases h9 : s = regS 9
  · subst h9; cases u <;> decide +kernel
  by_cases h10 : s = regS 10
  · subst h10; cases u <;> decide +kernel
  by_cases h11 : s = regS 11
  · subst h11; cases u <;> decide +kernel
  have h6 : regIs s 6 = false := by
    have : (regS 6).toList.isEmpty = true := by decide +kernel
    unfold regIs; rw [this]; rfl
  have h7 : regIs s 7 = false := by
    have : (regS 7).toList.isEmpty = true := by decide +kernel
    unfold regIs; rw [this]; rfl
  have hr : (regOf s).2 = false := by
    unfold regOf
    simp only [regIn, regIs_no s 0 h0, regIs_no s 1 h1, regIs_no s 2 h2, regIs_no s 3 h3, regIs_no s 4 h4, regIs_no s 5 h5, h6, h7, regIs_no s 8 h8, regIs_no s 9 h9, regIs_no s 10 h10, regIs_no s 11 h11, Nat.zero_add, Nat.reduceAdd, Bool.false_eq_true, if_false]
  have hN : namedF s u = 0 := by unfold namedF; rw [if_pos hr]
  have hne : ∀ k, k < 8 → ¬ regS (regN k u) = s := by
    intro k hk
    rcases (show k = 0 ∨ k = 1 ∨ k = 2 ∨ k = 3 ∨ k = 4 ∨ k = 5 ∨ k = 6 ∨ k = 7 by omega) with rfl | rfl | rfl | rfl | rfl | rfl | rfl | rfl
    all_goals
      cases u
      all_goals first
        | exact fun e => h1 e.symm
        | exact fun e => h2 e.symm
        | exact fun e => h3 e.symm
        | exact fun e => h4 e.symm
        | exact fun e => h5 e.symm
        | exact fun e => h8 e.symm
        | exact fun e => h9 e.symm
        | exact fun e => h10 e.symm
        | exact fun e => h11 e.symm
  have hz : ∀ k, k ≤ 8 → bitL s u k = 0 := by
    intro k
    induction k with
    | zero => intro _; unfold bitL; rw [if_neg h0]
    | succ k ih => intro h; rw [bitL_succ, if_neg (hne k (by omega)), ih (by omega)]
  rw [hN, hz 8 (by omega)]
end Go.Proofs.YtfkcogccbeolfabDoor
