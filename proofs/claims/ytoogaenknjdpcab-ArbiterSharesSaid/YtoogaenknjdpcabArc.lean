/- Numbers of the law ArbiterShares: what a bus that is always wanted is told; no two cycles side by side whose sum is 1. -/
import Derived.Test.YtoogaenknjdpcabArb
namespace Go.Proofs.Ytoogaenknjdpcab
set_option linter.unusedVariables false

theorem arL_at (d : Bool) (l : List Bool) (i : Nat) (x : Bool) (h : l[i]? = some x) : (arL d l)[i]? = some (arW d (arS d (l.take i)) x) := by
  have hi : i < l.length := by
    rcases Nat.lt_or_ge i l.length with a | a
    · exact a
    · rw [List.getElem?_eq_none a] at h; cases h
  have key : ∀ j, i < j → j ≤ l.length → (arL d (l.take j))[i]? = some (arW d (arS d (l.take i)) x) := by
    intro j
    induction j with
    | zero => intro h; omega
    | succ j ih =>
      intro h1 h2
      obtain ⟨y, hy⟩ : ∃ y, l[j]? = some y := ⟨_, List.getElem?_eq_getElem (by omega)⟩
      obtain ⟨_, e⟩ := ar_next d l j y hy
      have hlen : (arL d (l.take j)).length = j := by rw [arL_len, List.length_take]; omega
      rw [e]
      rcases Nat.lt_or_ge i j with a | a
      · rw [List.getElem?_append_left (by omega)]; exact ih a (by omega)
      · obtain rfl : i = j := by omega
        rw [List.getElem?_append_right (by omega), hlen, Nat.sub_self]
        rw [h] at hy
        obtain rfl := Option.some.inj hy
        rfl
  have := key l.length hi (Nat.le_refl _)
  rwa [List.take_length] at this
/-- The state behind k cycles in which the bus was wanted. -/
def arK (k : Nat) : Int × Int := if k % 18 = 0 then (0, 0) else if k % 18 = 17 then (2, 0) else (1, ((k % 18 : Nat) : Int) - 1)
theorem arS_true (n : Nat) : ∀ k, k ≤ n → arS true ((List.replicate n true).take k) = arK k := by
  intro k
  induction k with
  | zero => intro _; rfl
  | succ k ih =>
    intro h
    obtain ⟨e, _⟩ := ar_next true (List.replicate n true) k true (by rw [List.getElem?_replicate]; simp; omega)
    rw [e, ih (by omega)]
    unfold arK
    rcases (show k % 18 = 0 ∨ k % 18 = 17 ∨ k % 18 = 16 ∨ (1 ≤ k % 18 ∧ k % 18 ≤ 15) by omega) with h0 | h0 | h0 | ⟨h0, h1⟩
    · have e1 : (k + 1) % 18 = 1 := by omega
      simp [arN, h0, e1]
    · have e1 : (k + 1) % 18 = 0 := by omega
      simp [arN, h0, e1]
    · have e1 : (k + 1) % 18 = 17 := by omega
      simp [arN, h0, e1]
    · have e1 : (k + 1) % 18 = k % 18 + 1 := by omega
      have n0 : k % 18 ≠ 0 := by omega
      have n17 : k % 18 ≠ 17 := by omega
      have m17 : k % 18 ≠ 16 := by omega
      have lt : (((k % 18 : Nat) : Int) - 1 < 15) := by omega
      rw [if_neg n0, if_neg n17, e1, if_neg (by omega), if_neg (by omega)]
      simp only [arN, if_true, show ((1 : Int) = 0) = False by simp, if_false, lt, decide_true, Bool.and_true]
      simp
theorem arS_false (l : List Bool) : arS false l = (0, 0) := by
  have := arS_ok false l
  simpa [arOk] using this
def arWant (k : Nat) : Int := if k % 18 = 0 ∨ k % 18 = 16 then 2 else if k % 18 = 17 then 0 else 1
theorem arL_one (n k : Nat) (h : k < n) : (arL true (List.replicate n true))[k]? = some (arWant k) := by
  rw [arL_at true _ k true (by rw [List.getElem?_replicate]; simp [h]), arS_true n k (by omega)]
  congr 1
  unfold arK arWant
  rcases (show k % 18 = 0 ∨ k % 18 = 17 ∨ k % 18 = 16 ∨ (1 ≤ k % 18 ∧ k % 18 ≤ 15) by omega) with h0 | h0 | h0 | ⟨h0, h1⟩
  · simp [arW, h0]
  · simp [arW, h0]
  · simp [arW, h0]
  · have n0 : k % 18 ≠ 0 := by omega
    have n17 : k % 18 ≠ 17 := by omega
    have m17 : k % 18 ≠ 16 := by omega
    simp [arW, n0, n17, m17]
    omega
theorem arL_two (n k : Nat) (h : k < n) : (arL false (List.replicate n true))[k]? = some 1 := by
  rw [arL_at false _ k true (by rw [List.getElem?_replicate]; simp [h])]
  simp [arW]
theorem arL_side (l : List Bool) (k : Nat) (h : k + 1 < l.length) : ∃ x y, (arL true l)[k]? = some x ∧ (arL true l)[k + 1]? = some y ∧ x + y ≠ 1 ∧ 0 ≤ x ∧ x ≤ 2 ∧ 0 ≤ y ∧ y ≤ 2 := by
  obtain ⟨a, ha⟩ : ∃ a, l[k]? = some a := ⟨_, List.getElem?_eq_getElem (by omega)⟩
  obtain ⟨b, hb⟩ : ∃ b, l[k + 1]? = some b := ⟨_, List.getElem?_eq_getElem h⟩
  obtain ⟨e, _⟩ := ar_next true l k a ha
  have ok := arS_ok true (l.take k)
  refine ⟨_, _, arL_at true l k a ha, arL_at true l (k + 1) b hb, ?_⟩
  rw [e]
  generalize arS true (l.take k) = s at ok ⊢
  obtain ⟨p, c⟩ := s
  rcases ar_cases true p c ok with ⟨rfl, rfl⟩ | ⟨_, rfl, h0, h1⟩ | ⟨_, rfl, rfl⟩ | ⟨_, rfl, rfl⟩
  · cases a <;> cases b <;> simp [arN, arW]
  · cases a
    · cases b <;> simp [arN, arW]
    · cases b
      · simp [arN, arW, h1]
      · rcases (show c < 14 ∨ c = 14 by omega) with h2 | rfl
        · have : c + 1 < 15 := by omega
          simp [arN, arW, h1, this]
        · simp [arN, arW]
  · cases a <;> cases b <;> simp [arN, arW]
  · cases a <;> cases b <;> simp [arN, arW]
end Go.Proofs.Ytoogaenknjdpcab
