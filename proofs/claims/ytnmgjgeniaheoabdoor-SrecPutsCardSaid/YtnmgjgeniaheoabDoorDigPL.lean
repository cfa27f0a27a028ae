/- Plain laws under DigitPairs: what Pairs makes is read as it was. -/
import Derived.Test.YtnmgjgeniaheoabDoorDigUn
namespace Go.Proofs.YtnmgjgeniaheoabDoor
open Go.ChangeShapes Go.WideShapes Go.ChangeAt Go.RowKit
set_option linter.unusedVariables false
theorem iat_consP (x : Int) (xs : List Int) (k : Nat) : iat (x :: xs) (k + 1) = iat xs k := by simp [iat, List.getD_eq_getElem?_getD]
theorem iat_pairs : ∀ (xs : List Int) (k : Nat), k < xs.length → iat (pairsOf xs) (2 * k) = sg (iat xs k / 16) ∧ iat (pairsOf xs) (2 * k + 1) = sg (iat xs k % 16)
  | [], k, h => by simp at h
  | y :: ys, 0, _ => by constructor <;> rfl
  | y :: ys, k + 1, h => by
    have e : pairsOf (y :: ys) = sg (y / 16) :: sg (y % 16) :: pairsOf ys := rfl
    have ih := iat_pairs ys k (by simpa using h)
    rw [e, show 2 * (k + 1) = 2 * k + 1 + 1 by omega, iat_consP, iat_consP, iat_consP, ih.1, iat_consP, iat_consP, ih.2]
    exact ⟨rfl, rfl⟩
theorem pairsOf_len (xs : List Int) : (pairsOf xs).length = 2 * xs.length := by
  have := pairsTo_len xs xs.length (Nat.le_refl _)
  unfold pairsTo at this
  rw [List.take_length] at this
  exact this
theorem pairs_back (xs : List Int) (h : ∀ z ∈ xs, (Lit.int .u8 z).wf = true) : upV (nums (strOfNums (pairsOf xs))) = xs ∧ upE (nums (strOfNums (pairsOf xs))) = 0 := by
  rw [str_nums _ (fun z hz => by have := bounds_u8 (pairsOf_wf xs h z hz); omega)]
  have hg : allGood 16 (pairsOf xs) = true := by
    unfold allGood
    rw [List.all_eq_true]
    intro z hz
    simp only [pairsOf, List.mem_flatMap] at hz
    obtain ⟨y, hy, hz⟩ := hz
    have := bounds_u8 (h y hy)
    simp at hz
    rcases hz with rfl | rfl
    · simp [good, (sg_val (y / 16) (by omega) (by omega)).1]; omega
    · simp [good, (sg_val (y % 16) (by omega) (by omega)).1]; omega
  have hu := up_good (xs := pairsOf xs) (by rw [pairsOf_len]; omega) hg
  rw [hu.1, hu.2]
  refine ⟨?_, rfl⟩
  rw [pairsOf_len, show 2 * xs.length / 2 = xs.length by omega]
  apply List.ext_getElem
  · rw [upTo_len]
  · intro k h1 h2
    have hp := iat_pairs xs k h2
    have hr := bounds_u8 (iat_wf h k h2)
    simp only [upTo, List.getElem_map, List.getElem_range, upAt]
    rw [hp.1, hp.2, (sg_val _ (by omega) (by omega)).1, (sg_val _ (by omega) (by omega)).1, ← iat_eq _ _ h2]
    omega
theorem upV_len (xs : List Int) : (upV xs).length ≤ xs.length := by
  unfold upV; split
  · rw [upTo_len]; omega
  · simp
end Go.Proofs.YtnmgjgeniaheoabDoor
