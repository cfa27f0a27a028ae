/- Lines of digits with sums, in plain words. -/
import Derived.Test.YtnmgjgeniaheoabDoorDigPL
import Derived.Test.YtnmgjgeniaheoabDoorDigLaw
import Derived.Test.YtnmgjgeniaheoabDoorOctRow
import Derived.Test.YtnmgjgeniaheoabDoorByt
import Derived.Test.YtnmgjgeniaheoabDoorPre
namespace Go.Proofs.YtnmgjgeniaheoabDoor
open Go.ChangeShapes Go.WideShapes Go.ChangeAt Go.RowKit
set_option linter.unusedVariables false

theorem dec1 (n : Int) (h : n = 0 ∨ n = 1 ∨ n = 9) : written 10 n 1 = [48 + n] := by
  have hq : qv 10 n 1 = 0 := qv_small 10 n 1 (by omega) (by omega)
  rw [written_eq (by decide) (show Need 10 n 1 1 from ⟨Nat.le_refl _, hq, .inl rfl⟩)]
  rcases h with rfl | rfl | rfl <;> decide
/-- The kind that a text tells at its beginning; below 0: none. -/
def srK (xs : List Int) : Int := if preL [83, 48] xs then 0 else if preL [83, 49] xs then 1 else if preL [83, 57] xs then 9 else -1
structure LnR where
  k : Int
  a : Int
  b : List Int
  e : Int
/-- The line of a text, and why there is none. -/
def rdB (k : Int) (b : List Int) : LnR :=
  if iat b 0 + 1 ≠ b.length then ⟨0, 0, [], 12⟩
  else if sumAll b ≠ 255 then ⟨0, 0, [], 22⟩
  else if k = 9 ∧ 4 < b.length then ⟨0, 0, [], 21⟩
  else ⟨k, 256 * iat b 1 + iat b 2, (b.take (b.length - 1)).drop 3, 0⟩
def rdLn (xs : List Int) : LnR :=
  if srK xs < 0 then ⟨0, 0, [], 21⟩
  else if upE (xs.drop 2) ≠ 0 ∨ (upV (xs.drop 2)).length < 4 then ⟨0, 0, [], 21⟩
  else rdB (srK xs) (upV (xs.drop 2))
theorem upV_byt (xs : List Int) : Byt (upV xs) := Byt.of_wf (upV_wf xs)
theorem rdB_byt (k : Int) (b : List Int) (h : Byt b) : Byt (rdB k b).b := by
  unfold rdB
  split
  · exact Byt.nil_
  split
  · exact Byt.nil_
  split
  · exact Byt.nil_
  · exact (h.take _).drop _
theorem rdLn_byt (xs : List Int) : Byt (rdLn xs).b := by
  unfold rdLn
  split
  · exact Byt.nil_
  split
  · exact Byt.nil_
  · exact rdB_byt _ _ (upV_byt _)
theorem srK_cases (xs : List Int) : srK xs = -1 ∨ ((srK xs = 0 ∨ srK xs = 1 ∨ srK xs = 9) ∧ 2 ≤ xs.length ∧ iat xs 0 = 83 ∧ iat xs 1 = 48 + srK xs) := by
  unfold srK preL
  rcases xs with _ | ⟨x, _ | ⟨y, xs⟩⟩
  · left; rfl
  · left; simp
  · simp only [List.length_cons, List.length_nil, List.take_succ_cons, List.take_zero, decide_eq_true_eq, List.cons.injEq, and_true]
    by_cases h0 : x = 83 ∧ y = 48
    · rw [if_pos h0]; right; refine ⟨by omega, by omega, h0.1, by show y = 48 + 0; omega⟩
    · rw [if_neg h0]
      by_cases h1 : x = 83 ∧ y = 49
      · rw [if_pos h1]; right; refine ⟨by omega, by omega, h1.1, by show y = 48 + 1; omega⟩
      · rw [if_neg h1]
        by_cases h2 : x = 83 ∧ y = 57
        · rw [if_pos h2]; right; refine ⟨by omega, by omega, h2.1, by show y = 48 + 9; omega⟩
        · rw [if_neg h2]; left; rfl
/-- .. the other way round. -/
theorem srK_of (xs : List Int) (h2 : 2 ≤ xs.length) (h : iat xs 0 = 83) (k : Int) (hk : k = 0 ∨ k = 1 ∨ k = 9) (h1 : iat xs 1 = 48 + k) : srK xs = k := by
  rcases xs with _ | ⟨x, _ | ⟨y, xs⟩⟩
  · simp at h2
  · simp at h2
  · have hx : x = 83 := h
    have hy : y = 48 + k := h1
    unfold srK preL
    simp only [List.length_cons, List.length_nil, List.take_succ_cons, List.take_zero, decide_eq_true_eq, List.cons.injEq, and_true]
    rcases hk with rfl | rfl | rfl
    · rw [if_pos ⟨hx, by omega⟩]
    · rw [if_neg (by omega), if_pos ⟨hx, by omega⟩]
    · rw [if_neg (by omega), if_neg (by omega), if_pos ⟨hx, by omega⟩]
theorem sumAll_app (l m : List Int) : sumAll (l ++ m) = m.foldl (fun s x => (s + x) % 256) (sumAll l) := by unfold sumAll; rw [List.foldl_append]
/-- A line's bytes: how many follow, the address, its own; and the sum behind. -/
def lnB (a : Int) (b : List Int) : List Int := [((b.length : Int) + 3) % 256, a / 256, a % 256] ++ b
def lnS (a : Int) (b : List Int) : List Int := lnB a b ++ [255 - sumAll (lnB a b)]
def lnX (k a : Int) (b : List Int) : List Int := [83, 48 + k] ++ pairsOf (lnS a b)
theorem lnB_byt {a : Int} {b : List Int} (ha : 0 ≤ a ∧ a < 65536) (hb : Byt b) : Byt (lnB a b) :=
  Byt.app (fun x hx => by
    simp only [List.mem_cons, List.not_mem_nil, or_false] at hx
    rcases hx with rfl | rfl | rfl <;> omega) hb
theorem lnS_byt {a : Int} {b : List Int} (ha : 0 ≤ a ∧ a < 65536) (hb : Byt b) : Byt (lnS a b) :=
  Byt.app (lnB_byt ha hb) (fun x hx => by
    simp only [List.mem_cons, List.not_mem_nil, or_false] at hx
    have := sumAll_range (lnB a b)
    subst hx; omega)
theorem lnS_len (a : Int) (b : List Int) : (lnS a b).length = b.length + 4 := by simp [lnS, lnB]
theorem pairsOf_byt {l : List Int} (h : Byt l) : ∀ x ∈ pairsOf l, 0 ≤ x ∧ x < 256 := by
  intro x hx
  unfold pairsOf at hx
  rw [List.mem_flatMap] at hx
  obtain ⟨y, hy, hx⟩ := hx
  have := h y hy
  simp only [List.mem_cons, List.not_mem_nil, or_false] at hx
  rcases hx with rfl | rfl
  · exact (sg_val _ (by omega) (by omega)).2
  · exact (sg_val _ (by omega) (by omega)).2
theorem lnX_byt {k a : Int} {b : List Int} (hk : k = 0 ∨ k = 1 ∨ k = 9) (ha : 0 ≤ a ∧ a < 65536) (hb : Byt b) : ∀ x ∈ lnX k a b, 0 ≤ x ∧ x < 256 := by
  intro x hx
  unfold lnX at hx
  rcases List.mem_append.1 hx with h | h
  · simp only [List.mem_cons, List.not_mem_nil, or_false] at h
    rcases h with rfl | rfl <;> omega
  · exact pairsOf_byt (lnS_byt ha hb) x h
theorem sum_fix (l : List Int) : sumAll (l ++ [255 - sumAll l]) = 255 := by
  rw [sumAll_app]
  simp
  omega
/-- What is written is read as it was. -/
theorem rd_back (k a : Int) (b : List Int) (hk : k = 0 ∨ k = 1 ∨ k = 9) (ha : 0 ≤ a ∧ a < 65536) (hb : Byt b) (hl : b.length ≤ 252) (h9 : k = 9 → b.length = 0) : rdLn (lnX k a b) = ⟨k, a, b, 0⟩ := by
  have hS := lnS_byt ha hb
  have hB := pairs_back (lnS a b) hS.wf
  rw [str_nums _ (pairsOf_byt hS)] at hB
  have hK : srK (lnX k a b) = k := srK_of _ (by simp [lnX]) rfl k hk rfl
  have hD : (lnX k a b).drop 2 = pairsOf (lnS a b) := rfl
  have hlen := lnS_len a b
  unfold rdLn
  rw [hK, hD, hB.1, hB.2, if_neg (by omega), if_neg (by rw [hlen]; omega)]
  unfold rdB
  have h0 : iat (lnS a b) 0 = (b.length : Int) + 3 := by
    show ((b.length : Int) + 3) % 256 = _
    omega
  have hs : sumAll (lnS a b) = 255 := sum_fix (lnB a b)
  rw [if_neg (by rw [h0, hlen]; omega), if_neg (by rw [hs]; decide), if_neg (by rw [hlen]; intro h; have := h9 h.1; omega)]
  have h1 : iat (lnS a b) 1 = a / 256 := rfl
  have h2 : iat (lnS a b) 2 = a % 256 := rfl
  have hbb : ((lnS a b).take ((lnS a b).length - 1)).drop 3 = b := by
    rw [hlen]
    unfold lnS lnB
    rw [List.take_append_of_le_length (by simp), List.take_of_length_le (by simp)]
    rfl
  rw [h1, h2, hbb]
  congr 1
  omega
end Go.Proofs.YtnmgjgeniaheoabDoor
