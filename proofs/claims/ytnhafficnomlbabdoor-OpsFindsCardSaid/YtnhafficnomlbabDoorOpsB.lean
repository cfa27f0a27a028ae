/- Layer 13: what the laws hold against each other. -/
import Derived.Test.YtnhafficnomlbabDoorOpsA
namespace Go.Proofs.YtnhafficnomlbabDoor
open Go.ChangeShapes Go.WideShapes Go.ChangeAt Go.RowKit
set_option linter.unusedVariables false
theorem reg_fin : ∀ k : Fin 12, regOf (regS k.val) = if (regNames.getD k.val []).isEmpty then (0, false) else ((k.val : Int), true) := by decide +kernel
theorem regOf_reg (r : Int) : regOf (byteStr (regI r)) = if (regI r).isEmpty then (0, false) else (r, true) := by
  by_cases h : 0 ≤ r ∧ r < 12
  · obtain ⟨k, rfl⟩ := Int.eq_ofNat_of_zero_le h.1
    have hk : k < 12 := by omega
    have e : regI (k : Int) = regNames.getD k [] := by unfold regI; rw [if_pos h]; rfl
    rw [regI_at k hk, e]
    exact reg_fin ⟨k, hk⟩
  · have e : regI r = [] := by unfold regI; rw [if_neg h]
    rw [e]
    show regOf (byteStr []) = (0, false)
    decide +kernel
theorem endI_out13 (op r : Int) (h : r < 0 ∨ 15 < r) : (endI op r).2 = false := by
  have h1 : regI r = [] := by unfold regI; rw [if_neg (by omega)]
  have h2 : cndI r = [] := by unfold cndI; rw [if_neg (by omega)]
  have h3 : intE r = ([], false) := by unfold intE; rw [if_neg (by omega), if_neg (by omega), if_neg (by omega)]
  have h4 : ∀ L, (letI' L r).2 = false := fun L => by unfold letI'; rw [h1]; rfl
  have h5 : ∀ n, (cndE n r).2 = false := fun n => by unfold cndE; rw [h2]; rfl
  have h6 : (r == 0) = false := by simp; omega
  unfold endI
  rw [h3]
  repeat' split
  all_goals first
    | exact h4 _
    | exact h5 _
    | exact h6
    | rfl
theorem name_in13 (op r : Int) (h : (nameI op r).isEmpty = false) : 0 < op ∧ op < 52 ∧ 0 ≤ r ∧ r < 16 := by
  unfold nameI at h
  split at h
  · rename_i h1
    split at h
    · rename_i h2
      refine ⟨h1.1, h1.2, ?_⟩
      rcases (show r < 0 ∨ 15 < r ∨ (0 ≤ r ∧ r < 16) by omega) with a | a | a
      · rw [endI_out13 op r (.inl a)] at h2; cases h2
      · rw [endI_out13 op r (.inr a)] at h2; cases h2
      · exact a
    · simp at h
  · simp at h
theorem usual_rows : (rowsW.all fun p => usualT p.1 == p.1) = true := by decide +kernel
theorem look_empty : lookR (usualT []) = (0, 0, false) := by decide +kernel
theorem look_name (op r : Int) : lookR (usualT (nameI op r)) = if (nameI op r).isEmpty then (0, 0, false) else (op, r, true) := by
  cases hn : (nameI op r).isEmpty
  · obtain ⟨a, b, c, d⟩ := name_in13 op r hn
    obtain ⟨o, rfl⟩ := Int.eq_ofNat_of_zero_le (show 0 ≤ op by omega)
    obtain ⟨q, rfl⟩ := Int.eq_ofNat_of_zero_le c
    have hm := code_mem o q (by omega) (by omega) hn
    have hu := List.all_eq_true.1 usual_rows _ hm
    rw [eq_of_beq hu]
    exact look_some o q (by omega) (by omega) _ hn rfl
  · have e : nameI op r = [] := by simpa using hn
    rw [e]; exact look_empty
/-- The last register with this name. -/
def lastR (s : ByteArray) : Nat → Int × Bool
  | 0 => (0, false)
  | k + 1 => if regIs s k then ((k : Int), true) else lastR s k
theorem last_fin : ∀ k : Fin 12, regIs (regS k.val) k.val = true → regOf (regS k.val) = lastR (regS k.val) 12 := by decide +kernel
theorem regIs_same (s : ByteArray) (k : Nat) (h : regIs s k = true) : s = regS k := by
  unfold regIs at h
  rw [Bool.and_eq_true, beq_iff_eq] at h
  rw [← byteStr_back s, ← h.2, byteStr_back]
theorem regIn_none (s : ByteArray) (h : ∀ k, k < 12 → regIs s k = false) : ∀ m k, k + m ≤ 12 → regIn s m k = (0, false)
  | 0, k, _ => rfl
  | m + 1, k, hk => by unfold regIn; rw [h k (by omega)]; exact regIn_none s h m (k + 1) (by omega)
theorem lastR_none (s : ByteArray) (h : ∀ k, k < 12 → regIs s k = false) : ∀ k, k ≤ 12 → lastR s k = (0, false)
  | 0, _ => rfl
  | k + 1, hk => by unfold lastR; rw [h k (by omega)]; exact lastR_none s h k (by omega)
theorem reg_last (s : ByteArray) : regOf s = lastR s 12 := by
  by_cases h : ∃ k, k < 12 ∧ regIs s k = true
  · obtain ⟨k, hk, hr⟩ := h
    obtain rfl := regIs_same s k hr
    exact last_fin ⟨k, hk⟩ hr
  · have h2 : ∀ k, k < 12 → regIs s k = false := fun k hk => by
      cases e : regIs s k
      · rfl
      · exact absurd ⟨k, hk, e⟩ h
    rw [lastR_none s h2 12 (Nat.le_refl _)]
    exact regIn_none s h2 12 0 (by decide)
end Go.Proofs.YtnhafficnomlbabDoor
