/- Dig, DigRead, DigMath, DigNums, DigRef, DigLaw in one text. -/
import Derived.Test.YtljhfalgplihhaaGreatDoorMem
import Derived.Outline
namespace Go.Proofs.YtljhfalgplihhaaGreatDoor
open Go.ChangeShapes Go.WideShapes Go.ChangeAt Go.RowKit
set_option linter.unusedVariables false

def valOf (c : Int) : Int := if 48 ≤ c ∧ c ≤ 57 then c - 48 else if 65 ≤ c ∧ c ≤ 70 then c - 55 else if 97 ≤ c ∧ c ≤ 102 then c - 87 else 16
def valRef (c : Int) : Int := if 48 ≤ c ∧ c ≤ 57 then c - 48 else if 65 ≤ c ∧ c ≤ 70 then c - 55 else if 97 ≤ c ∧ c ≤ 102 then c - 87 else 99
theorem valOf_range (c : Int) : 0 ≤ valOf c ∧ valOf c ≤ 16 := by unfold valOf; split <;> (try split) <;> (try split) <;> omega
theorem valRef_range (c : Int) : 0 ≤ valRef c ∧ valRef c ≤ 99 := by unfold valRef; split <;> (try split) <;> (try split) <;> omega
theorem valRef_lt (c b : Int) (hb : b ≤ 16) : valRef c < b ↔ valOf c < b := by unfold valOf valRef; split <;> (try split) <;> (try split) <;> omega
theorem valRef_eq (c b : Int) (hb : b ≤ 16) (h : valOf c < b) : valRef c = valOf c := by revert h; unfold valOf valRef; split <;> (try split) <;> (try split) <;> omega
def good (b c : Int) : Bool := decide (valOf c < b)
def allGood (b : Int) (xs : List Int) : Bool := xs.all (good b)
theorem allGood_take (b : Int) (xs : List Int) (k : Nat) (h : k < xs.length) : allGood b (xs.take (k + 1)) = (allGood b (xs.take k) && good b (iat xs k)) := by
  unfold allGood
  rw [List.take_succ_eq_append_getElem h, List.all_append, iat_eq _ _ h]
  simp
theorem allGood_bad (b : Int) (xs : List Int) (k : Nat) (h : k < xs.length) (hb : good b (iat xs k) = false) : allGood b xs = false := by
  unfold allGood
  rw [List.all_eq_false]
  exact ⟨iat xs k, by rw [iat_eq _ _ h]; exact List.getElem_mem h, by simp [hb]⟩
theorem allGood_at (b : Int) (xs : List Int) (k : Nat) (h : k < xs.length) (ha : allGood b xs = true) : valOf (iat xs k) < b := by
  unfold allGood at ha
  rw [List.all_eq_true] at ha
  have := ha (iat xs k) (by rw [iat_eq _ _ h]; exact List.getElem_mem h)
  simpa [good] using this
/-- Why a text is no number: 21 no digits, or another sign; 12 too many. -/
def chk (b : Int) (most : Nat) (xs : List Int) : Int := if xs.length = 0 then 21 else if allGood b xs = false then 21 else if most < xs.length then 12 else 0
theorem empty_beq (s : ByteArray) (h : 0 < s.size) : s.toList.isEmpty = false := by
  rw [ByteArray.toList_eq]
  cases hl : s.data.toList with
  | nil =>
    have : s.size = 0 := by
      have e : s.data.toList.length = s.size := by rw [Array.length_toList]; rfl
      rw [hl] at e; exact e.symm
    omega
  | cons a l => rfl
end Go.Proofs.YtljhfalgplihhaaGreatDoor
namespace Go.Proofs.YtljhfalgplihhaaGreatDoor
open Go.ChangeShapes Go.WideShapes Go.ChangeAt Go.RowKit
set_option linter.unusedVariables false

/-- Digits to a base, one by one; none where the number would be above 2^64 - 1. -/
def scan (b : Int) : List Int → Int → Option Int
  | [], n => some n
  | c :: cs, n => if (18446744073709551615 - valOf c) / b < n then none else scan b cs (b * n + valOf c)
theorem drop_iat (xs : List Int) (k : Nat) (h : k < xs.length) : xs.drop k = iat xs k :: xs.drop (k + 1) := by
  rw [iat_eq _ _ h]; exact List.drop_eq_getElem_cons h
theorem scan_next (b : Int) (xs : List Int) (k : Nat) (m : Int) (h : k < xs.length) (hn : ¬ (18446744073709551615 - valOf (iat xs k)) / b < m) :
    scan b (xs.drop k) m = scan b (xs.drop (k + 1)) (b * m + valOf (iat xs k)) := by
  rw [drop_iat xs k h, scan, if_neg hn]
theorem scan_over (b : Int) (xs : List Int) (k : Nat) (m : Int) (h : k < xs.length) (hn : (18446744073709551615 - valOf (iat xs k)) / b < m) :
    scan b (xs.drop k) m = none := by
  rw [drop_iat xs k h, scan, if_pos hn]
def numV (b : Int) (most : Nat) (xs : List Int) : Int := if chk b most xs = 0 then (match scan b xs 0 with | some n => n | none => 0) else 0
def numE (b : Int) (most : Nat) (xs : List Int) : Int := if chk b most xs = 0 then (match scan b xs 0 with | some _ => 0 | none => 50) else chk b most xs
theorem num_bad {b : Int} {most : Nat} {xs : List Int} (h : chk b most xs ≠ 0) : numV b most xs = 0 ∧ numE b most xs = chk b most xs := by simp [numV, numE, h]
theorem num_some {b : Int} {most : Nat} {xs : List Int} {n : Int} (h : chk b most xs = 0) (hs : scan b xs 0 = some n) : numV b most xs = n ∧ numE b most xs = 0 := by simp [numV, numE, h, hs]
theorem num_none {b : Int} {most : Nat} {xs : List Int} (h : chk b most xs = 0) (hs : scan b xs 0 = none) : numV b most xs = 0 ∧ numE b most xs = 50 := by simp [numV, numE, h, hs]
theorem chk_good {b : Int} {most : Nat} {xs : List Int} (h : chk b most xs = 0) : allGood b xs = true ∧ xs.length ≤ most := by
  unfold chk at h
  split at h
  · omega
  · split at h
    · omega
    · split at h
      · omega
      · rename_i h2 h3; exact ⟨by simpa using h2, by omega⟩
theorem chk_cases (b : Int) (most : Nat) (xs : List Int) : chk b most xs = 0 ∨ chk b most xs = 12 ∨ chk b most xs = 21 := by
  unfold chk; split <;> (try split) <;> (try split) <;> simp
/-- At most 16 digits to the base 16 are a number below 2^64. -/
def p16 (k : Nat) : Int := ((16 ^ k : Nat) : Int)
theorem p16_next (k : Nat) : p16 (k + 1) = 16 * p16 k := by unfold p16; rw [Nat.pow_succ]; omega
theorem p16_le (k : Nat) (h : k ≤ 15) : p16 k ≤ 1152921504606846976 := by
  have := Nat.pow_le_pow_right (show 0 < 16 by decide) h
  unfold p16
  have e : (16 : Nat) ^ 15 = 1152921504606846976 := by decide
  rw [e] at this; omega
theorem u64_step (n v : Int) (n0 : 0 ≤ n) (n1 : n < 1152921504606846976) (v0 : 0 ≤ v) (v1 : v < 16) :
    bits .or .u64 (n * 16) v = 16 * n + v := by
  have h := bits_join .u64 64 (by decide) (fun n h0 h1 => by rw [IntKind.wrap_u64]; omega) 4 (n * 16) v (by omega) (by omega) (by omega) v0 (by omega) (by omega)
  rw [h]; omega
end Go.Proofs.YtljhfalgplihhaaGreatDoor
namespace Go.Proofs.YtljhfalgplihhaaGreatDoor
open Go.ChangeShapes Go.WideShapes Go.ChangeAt Go.RowKit
set_option linter.unusedVariables false

/-- A number without its lowest k digits. -/
def qv (b n : Int) (k : Nat) : Int := n / b ^ k
theorem qv_zero (b n : Int) : qv b n 0 = n := by unfold qv; rw [Int.pow_zero, Int.ediv_one]
theorem qv_next (b n : Int) (k : Nat) (hb : 0 < b) : qv b n (k + 1) = qv b n k / b := by
  unfold qv
  rw [Int.pow_succ, Int.ediv_ediv_of_nonneg (Int.le_of_lt (Int.pow_pos hb))]
theorem qv_nonneg (b n : Int) (k : Nat) (hb : 0 < b) (hn : 0 ≤ n) : 0 ≤ qv b n k := Int.ediv_nonneg hn (Int.le_of_lt (Int.pow_pos hb))
theorem qv_le (b n : Int) (k : Nat) (hn : 0 ≤ n) : qv b n k ≤ n := Int.ediv_le_self _ hn
theorem qv_small (b n : Int) (k : Nat) (h0 : 0 ≤ n) (h : n < b ^ k) : qv b n k = 0 := Int.ediv_eq_zero_of_lt h0 h
theorem qv_stay (b n : Int) (hb : 0 < b) (k : Nat) (h : qv b n k = 0) : ∀ j, qv b n (k + j) = 0
  | 0 => h
  | j + 1 => by rw [← Nat.add_assoc, qv_next _ _ _ hb, qv_stay b n hb k h j, Int.zero_ediv]
theorem qv_down (b n : Int) (hb : 0 < b) (k : Nat) (h : qv b n (k + 1) = 0) (hd : qv b n k % b = 0) : qv b n k = 0 := by
  rw [qv_next _ _ _ hb] at h
  have := Int.mul_ediv_add_emod (qv b n k) b
  rw [h, hd] at this
  simpa using this.symm
def signNums : List Int := [48, 49, 50, 51, 52, 53, 54, 55, 56, 57, 65, 66, 67, 68, 69, 70]
def sg (v : Int) : Int := iat signNums v.toNat
theorem sg_fin : ∀ d : Fin 16, valOf (sg (d.val : Int)) = (d.val : Int) ∧ 0 ≤ sg (d.val : Int) ∧ sg (d.val : Int) < 256 := by decide +kernel
theorem sg_val (v : Int) (h0 : 0 ≤ v) (h1 : v < 16) : valOf (sg v) = v ∧ 0 ≤ sg v ∧ sg v < 256 := by
  obtain ⟨n, rfl⟩ := Int.eq_ofNat_of_zero_le h0
  exact sg_fin ⟨n, by omega⟩
/-- The lowest m digits, the highest of them first. -/
def digitsTo (b n : Int) (m : Nat) : List Int := (List.range m).map fun p => sg (qv b n (m - 1 - p) % b)
theorem digitsTo_next (b n : Int) (m : Nat) : digitsTo b n (m + 1) = sg (qv b n m % b) :: digitsTo b n m := by
  unfold digitsTo
  rw [List.range_succ_eq_map, List.map_cons, List.map_map]
  congr 1
  apply List.map_congr_left
  intro p hp
  show sg (qv b n (m + 1 - 1 - (p + 1)) % b) = _
  rw [show m + 1 - 1 - (p + 1) = m - 1 - p by omega]
theorem digitsTo_len (b n : Int) (m : Nat) : (digitsTo b n m).length = m := by simp [digitsTo]
theorem digitsTo_mem (b n : Int) (m : Nat) (hb : 0 < b) (hb' : b ≤ 16) : ∀ x ∈ digitsTo b n m, 0 ≤ x ∧ x < 256 ∧ valOf x < b := by
  intro x hx
  simp only [digitsTo, List.mem_map, List.mem_range] at hx
  obtain ⟨p, _, rfl⟩ := hx
  have h0 := Int.emod_nonneg (qv b n (m - 1 - p)) (show b ≠ 0 by omega)
  have h1 := Int.emod_lt_of_pos (qv b n (m - 1 - p)) hb
  have := sg_val _ h0 (by omega)
  exact ⟨this.2.1, this.2.2, by rw [this.1]; exact h1⟩
theorem scan_digits (b n : Int) (hb : 0 < b) (hb' : b ≤ 16) (h0 : 0 ≤ n) (hn : n ≤ 18446744073709551615) : ∀ m, scan b (digitsTo b n m) (qv b n m) = some n
  | 0 => by rw [qv_zero]; rfl
  | m + 1 => by
    have d0 := Int.emod_nonneg (qv b n m) (show b ≠ 0 by omega)
    have d1 := Int.emod_lt_of_pos (qv b n m) hb
    have hs := (sg_val _ d0 (by omega)).1
    have hq := qv_le b n m h0
    have hdm := Int.mul_ediv_add_emod (qv b n m) b
    rw [digitsTo_next, scan, hs, qv_next _ _ _ hb, if_neg ?_, hdm]
    · exact scan_digits b n hb hb' h0 hn m
    · have h2 : qv b n m / b ≤ (18446744073709551615 - qv b n m % b) / b := by
        apply (Int.le_ediv_iff_mul_le hb).2
        have := Int.mul_comm (qv b n m / b) b
        omega
      omega
/-- How many digits are written: at least so many, and no noughts ahead of these. -/
def Need (b n : Int) (W m : Nat) : Prop := W ≤ m ∧ qv b n m = 0 ∧ (m = W ∨ qv b n (m - 1) ≠ 0)
theorem need_unique {b n : Int} (hb : 0 < b) {W m m' : Nat} (h : Need b n W m) (h' : Need b n W m') : m = m' := by
  obtain ⟨a1, a2, a3⟩ := h
  obtain ⟨b1, b2, b3⟩ := h'
  rcases Nat.lt_trichotomy m m' with hlt | heq | hgt
  · rcases b3 with e | e
    · omega
    · exfalso; apply e
      have := qv_stay b n hb m a2 (m' - 1 - m)
      rwa [show m + (m' - 1 - m) = m' - 1 by omega] at this
  · exact heq
  · rcases a3 with e | e
    · omega
    · exfalso; apply e
      have := qv_stay b n hb m' b2 (m - 1 - m')
      rwa [show m' + (m - 1 - m') = m - 1 by omega] at this
noncomputable def lenOf (b n : Int) (W : Nat) : Nat := Classical.epsilon (Need b n W)
theorem lenOf_eq {b n : Int} (hb : 0 < b) {W m : Nat} (h : Need b n W m) : lenOf b n W = m :=
  need_unique hb (Classical.epsilon_spec (p := Need b n W) ⟨m, h⟩) h
/-- The digits as they are written. -/
noncomputable def written (b n : Int) (W : Nat) : List Int := digitsTo b n (lenOf b n W)
theorem written_eq {b n : Int} (hb : 0 < b) {W m : Nat} (h : Need b n W m) : written b n W = digitsTo b n m := by unfold written; rw [lenOf_eq hb h]
theorem nums_written (b n : Int) (m : Nat) (hb : 0 < b) (hb' : b ≤ 16) : nums (strOfNums (digitsTo b n m)) = digitsTo b n m :=
  str_nums _ fun x hx => ⟨(digitsTo_mem b n m hb hb' x hx).1, (digitsTo_mem b n m hb hb' x hx).2.1⟩
/-- What is written is read as it was. -/
theorem read_back (b n : Int) (most W m : Nat) (hb : 0 < b) (hb' : b ≤ 16) (h0 : 0 ≤ n) (hn : n ≤ 18446744073709551615) (h : Need b n W m) (hW : 1 ≤ W) (hm : m ≤ most) :
    numV b most (nums (strOfNums (digitsTo b n m))) = n ∧ numE b most (nums (strOfNums (digitsTo b n m))) = 0 := by
  rw [nums_written b n m hb hb']
  have hc : chk b most (digitsTo b n m) = 0 := by
    have hg : allGood b (digitsTo b n m) = true := by
      unfold allGood; rw [List.all_eq_true]
      intro x hx
      simpa [good] using (digitsTo_mem b n m hb hb' x hx).2.2
    have := h.1
    unfold chk
    rw [digitsTo_len, hg, if_neg (by omega), if_neg (by simp), if_neg (by omega)]
  have hs := scan_digits b n hb hb' h0 hn m
  rw [h.2.1] at hs
  exact num_some hc hs
theorem set_range (k : IntKind) (N j : Nat) (f g : Nat → Int) (hj : j < N) (h : ∀ p, p < N → p ≠ j → g p = f p) (v : Int) (hv : v = g j) :
    (((List.range N).map f).map (Value.int k)).toArray.setIfInBounds j (.int k v) = (((List.range N).map g).map (Value.int k)).toArray := by
  subst hv
  apply Array.ext
  · simp
  · intro i h1 h2
    have hi : i < N := by simpa using h1
    rw [Array.getElem_setIfInBounds (by simpa using hi)]
    by_cases e : j = i
    · subst e; simp
    · rw [if_neg e]
      simp only [List.getElem_toArray, List.getElem_map, List.getElem_range]
      rw [h i hi (fun he => e he.symm)]
/-- What holds of the width after k digits from below have been looked at. -/
def WidthInv (b n : Int) (W k m : Nat) : Prop := W ≤ m ∧ (m ≤ W ∨ m ≤ k) ∧ (m = W ∨ qv b n (m - 1) ≠ 0) ∧ ∀ i, m ≤ i → i < k → qv b n i % b = 0
theorem widthInv_start (b n : Int) (W : Nat) : WidthInv b n W 0 W := ⟨Nat.le_refl _, .inl (Nat.le_refl _), .inl rfl, fun i _ h => absurd h (by omega)⟩
theorem widthInv_zero {b n : Int} {W k m : Nat} (h : WidthInv b n W k m) (hd : qv b n k % b = 0) : WidthInv b n W (k + 1) m :=
  ⟨h.1, by rcases h.2.1 with e | e <;> omega, h.2.2.1, fun i h1 h2 => by
    rcases Nat.lt_or_ge i k with e | e
    · exact h.2.2.2 i h1 e
    · obtain rfl : i = k := by omega
      exact hd⟩
theorem widthInv_up {b n : Int} {W k m : Nat} (h : WidthInv b n W k m) (hd : qv b n k % b ≠ 0) (hm : m < k + 1) : WidthInv b n W (k + 1) (k + 1) :=
  ⟨by have := h.1; omega, .inr (Nat.le_refl _), .inr (fun e => hd (by rw [show k + 1 - 1 = k by omega] at e; rw [e]; simp)), fun i h1 h2 => absurd h2 (by omega)⟩
theorem widthInv_same {b n : Int} {W k m : Nat} (h : WidthInv b n W k m) (hm : k + 1 ≤ m) : WidthInv b n W (k + 1) m :=
  ⟨h.1, by rcases h.2.1 with e | e <;> omega, h.2.2.1, fun i h1 h2 => absurd h2 (by omega)⟩
theorem zeros_down (b n : Int) (hb : 0 < b) (N : Nat) (hN : qv b n N = 0) (m : Nat) : ∀ j, m + j = N → (∀ i, m ≤ i → i < N → qv b n i % b = 0) → qv b n m = 0
  | 0, e, _ => by rw [show m = N by omega]; exact hN
  | j + 1, e, h => by
    apply qv_down b n hb m
    · exact zeros_down b n hb N hN (m + 1) j (by omega) (fun i h1 h2 => h i (by omega) h2)
    · exact h m (by omega) (by omega)
theorem widthInv_end {b n : Int} {W N m : Nat} (hb : 0 < b) (h : WidthInv b n W N m) (hW : W ≤ N) (hN : qv b n N = 0) : Need b n W m ∧ m ≤ N := by
  have hm : m ≤ N := by rcases h.2.1 with e | e <;> omega
  exact ⟨⟨h.1, zeros_down b n hb N hN m (N - m) (by omega) h.2.2.2, h.2.2.1⟩, hm⟩
/-- An array of N digits, filled from behind. -/
def arrOf (b n : Int) (N k : Nat) : List Int := (List.range N).map fun p => if N ≤ p + k then sg (qv b n (N - 1 - p) % b) else 0
theorem arrOf_set (b n : Int) (N k : Nat) (hk : k < N) :
    ((arrOf b n N k).map (Value.int .u8)).toArray.setIfInBounds (N - 1 - k) (.int .u8 (sg (qv b n k % b))) = ((arrOf b n N (k + 1)).map (Value.int .u8)).toArray := by
  apply set_range .u8 N (N - 1 - k) _ _ (by omega)
  · intro p hp hne
    by_cases h : N ≤ p + k
    · rw [if_pos h, if_pos (by omega)]
    · rw [if_neg h, if_neg (by omega)]
  · rw [if_pos (by omega), show N - 1 - (N - 1 - k) = k by omega]
theorem arrOf_at (b n : Int) (N m i : Nat) (hm : m ≤ N) (hi : i < m) :
    ((arrOf b n N N).map (Value.int .u8)).toArray[N - m + i]? = some (.int .u8 (iat (digitsTo b n m) i)) := by
  rw [iat_eq _ _ (by rw [digitsTo_len]; exact hi)]
  simp only [arrOf, digitsTo, List.map_map, List.getElem?_toArray, List.getElem?_map, List.getElem_map, List.getElem_range]
  rw [List.getElem?_range (by omega)]
  simp only [Option.map_some, Function.comp_apply]
  rw [if_pos (by omega), show N - 1 - (N - m + i) = m - 1 - i by omega]
theorem arrOf_frozen (b n : Int) (N k : Nat) : (arrOf b n N k).length = N := by simp [arrOf]
theorem bytes_at (w : World) (g off n c : Nat) (xs : List Int) (hn : xs.length = n) (h : ∀ i, i < n → w.cell? ⟨g, off + i, none⟩ = some (.int .u8 (iat xs i))) :
    (convert 22 9 (.slice (some ⟨g, off, none⟩) n c)).run Tryz.prog w = .ok (.string (strOfNums xs)) w :=
  run_convert_bytes_arg w 22 5 Tryz.underlying22 Tryz.underlying5 g off n c xs hn h 9 Tryz.underlying9
theorem hex_digit (n : Int) (k : Nat) (h0 : 0 ≤ n) (h1 : n ≤ 18446744073709551615) : bits .and .u64 (n / 2 ^ (4 * k)) 15 = qv 16 n k % 16 := by
  have e : n / 2 ^ (4 * k) = qv 16 n k := by unfold qv; rw [Int.pow_mul]; rfl
  have hq := qv_le 16 n k h0
  have hq0 := qv_nonneg 16 n k (by omega) h0
  rw [e]
  have := bits_mask .u64 64 (by decide) (fun n h0 h1 => by rw [IntKind.wrap_u64]; omega) 4 (by omega) (qv 16 n k) hq0 (by omega)
  simpa using this
def clampW (wd : Int) : Nat := (if wd < 1 then 1 else if 16 < wd then 16 else wd).toNat
theorem clampW_range (wd : Int) : 1 ≤ clampW wd ∧ clampW wd ≤ 16 := by unfold clampW; split <;> (try split) <;> omega
end Go.Proofs.YtljhfalgplihhaaGreatDoor
namespace Go.Proofs.YtljhfalgplihhaaGreatDoor
open Go.ChangeShapes Go.WideShapes Go.ChangeAt Go.RowKit
set_option linter.unusedVariables false
theorem sign_at : ∀ (j : Nat) (h : j < (⟨#[48, 49, 50, 51, 52, 53, 54, 55, 56, 57, 65, 66, 67, 68, 69, 70]⟩ : ByteArray).size),
    (((⟨#[48, 49, 50, 51, 52, 53, 54, 55, 56, 57, 65, 66, 67, 68, 69, 70]⟩ : ByteArray)[j]'h).toNat : Int) = sg (j : Int) := by
  intro j h
  have hj : j < 16 := h
  have key : ∀ j : Fin 16, (((⟨#[48, 49, 50, 51, 52, 53, 54, 55, 56, 57, 65, 66, 67, 68, 69, 70]⟩ : ByteArray)[j.val]'j.isLt).toNat : Int) = sg (j.val : Int) := by decide +kernel
  exact key ⟨j, hj⟩
theorem sg_toNat (v : Int) : sg ((v.toNat : Nat) : Int) = sg v := by unfold sg; rw [Int.toNat_natCast]
theorem slice_arr16 (w : World) (g m : Nat) (h1 : 1 ≤ m) (hm : m ≤ 16) :
    (Instr.sliceAt 109 (.pointer (some ⟨g, 0, none⟩)) (some (.int .i64 (16 - (m : Int)))) none none).run Tryz.prog w = .ok (.slice (some ⟨g, 16 - m, none⟩) m m) w := by
  have ha : Tryz.prog.arrayLen 109 = 16 := by kernel_rfl
  have hu : Tryz.prog.underlying 109 = some (.array (Tryz.prog.arrayLen 109) (Tryz.prog.elem 109)) := by kernel_rfl
  have hs : ∀ w, (sizeOf (Tryz.prog.elem 109)).run Tryz.prog w = .ok 1 w := fun _ => by kernel_rfl
  rw [run_sliceAt_array_l w _ _ hu .i64 _ (by omega) (by rw [ha]; omega), hs, ha]
  have e : ((16 : Int) - (m : Int)).toNat = 16 - m := by omega
  simp only [Result.andThen_ok, slicedAt, e]
  rw [if_neg (by omega), show 16 - (16 - m) = m by omega]
  have : (⟨g, 0, none⟩ : Addr).add ((16 - m) * 1) = ⟨g, 16 - m, none⟩ := by unfold Addr.add; split <;> simp_all
  rw [this]
theorem slice_arr20 (w : World) (g m : Nat) (h1 : 1 ≤ m) (hm : m ≤ 20) :
    (Instr.sliceAt 168 (.pointer (some ⟨g, 0, none⟩)) (some (.int .i64 (20 - (m : Int)))) none none).run Tryz.prog w = .ok (.slice (some ⟨g, 20 - m, none⟩) m m) w := by
  have ha : Tryz.prog.arrayLen 168 = 20 := by kernel_rfl
  have hu : Tryz.prog.underlying 168 = some (.array (Tryz.prog.arrayLen 168) (Tryz.prog.elem 168)) := by kernel_rfl
  have hs : ∀ w, (sizeOf (Tryz.prog.elem 168)).run Tryz.prog w = .ok 1 w := fun _ => by kernel_rfl
  rw [run_sliceAt_array_l w _ _ hu .i64 _ (by omega) (by rw [ha]; omega), hs, ha]
  have e : ((20 : Int) - (m : Int)).toNat = 20 - m := by omega
  simp only [Result.andThen_ok, slicedAt, e]
  rw [if_neg (by omega), show 20 - (20 - m) = m by omega]
  have : (⟨g, 0, none⟩ : Addr).add ((20 - m) * 1) = ⟨g, 20 - m, none⟩ := by unfold Addr.add; split <;> simp_all
  rw [this]
set_option maxRecDepth 100000 in
theorem hex_any (n wd : Int) (w : World) (h0 : 0 ≤ n) (hn : n ≤ 18446744073709551615) :
    Calls Tryz.prog 27 #[.int .u64 n, .int .i64 wd] w fun e w' => e = .returned (.string (strOfNums (written 16 n (clampW wd)))) ∧ Below w.heap.size w w' := by
  have hcl := clampW_range wd
  have HN : Hid (qv 16 n 16 = 0) := Lib.hid (qv_small 16 n 16 h0 (by omega))
  by_cases c1 : wd < 1
  all_goals by_cases c2 : 16 < wd
  all_goals try (exfalso; omega)
  all_goals
    have HC : Hid ((clampW wd : Int) = if wd < 1 then 1 else if 16 < wd then 16 else wd) := Lib.hid (by unfold clampW; split <;> (try split) <;> omega)
    have c3 : 1 ≤ wd ∨ wd < 1 := by omega
    go_enter Tryz.func27, Tryz.ntmps27
    go_wp2
    go_loopw [6, 12] (fun nd i wr => ∃ k m : Nat, k ≤ 16 ∧ i = .int .i64 k ∧ nd = .int .i64 m ∧ Hid (WidthInv 16 n (clampW wd) k m) ∧ m ≤ 16 ∧ Blk wr w.heap.size 109 ((arrOf 16 n 16 k).map (Value.int .u8)).toArray ∧ Below w.heap.size w wr) (fun _ i _ => 16 - (intOf i).toNat)
    case atStart =>
      refine ⟨0, clampW wd, Nat.zero_le _, rfl, congrArg (Value.int .i64) (by rw [HC.out]; first | (rw [if_pos (by omega)]; done) | (rw [if_neg (by omega), if_pos (by omega)]; done) | (rw [if_neg (by omega), if_neg (by omega)]; done)), Lib.hid (widthInv_start _ _ _), hcl.2, Blk.new _ _ _ _, by go_grown⟩
    case round =>
      obtain ⟨k, m, hk, rfl, rfl, hinv, hm, hblk, hbel⟩ := hrel
      have hsz := hblk.lt
      have hA := hex_digit n k h0 hn
      have hsg := sign_at
      have d0 := Int.emod_nonneg (qv 16 n k) (show (16 : Int) ≠ 0 by decide)
      have d1 := Int.emod_lt_of_pos (qv 16 n k) (show (0 : Int) < 16 by decide)
      generalize hd : qv 16 n k % 16 = d at *
      have HD := Lib.hid hd
      have hmx : max d 0 = d := by omega
      clear hd
      by_cases hlt : k < 16
      · have hck : wr.cell? ⟨w.heap.size, 15 - k, none⟩ = some (.int .u8 (iat (arrOf 16 n 16 k) (15 - k))) := by
          rw [hblk.cell]
          simp [iat_eq, arrOf_frozen, show 15 - k < 16 by omega]
        have hfk := hblk.frozen (15 - k)
        have hset := Lib.hid (arrOf_set 16 n 16 k hlt)
        by_cases hv : 0 < d
        · by_cases hmk : (m : Int) < k + 1
          · have hw2 := Lib.hid (widthInv_up hinv.out (by rw [HD.out]; omega) (show m < k + 1 by omega))
            go_wp2
            go_roundw
            case rel => exact ⟨k + 1, k + 1, by omega, by go_num, by go_num, hw2, by omega, by rw [← hset.out, HD.out]; exact hblk.set_ _ _, by go_grown⟩
            case measure => simp [intOf]; omega
          · have hw2 := Lib.hid (widthInv_same hinv.out (show k + 1 ≤ m by omega))
            go_wp2
            go_roundw
            case rel => exact ⟨k + 1, m, by omega, by go_num, rfl, hw2, by omega, by rw [← hset.out, HD.out]; exact hblk.set_ _ _, by go_grown⟩
            case measure => simp [intOf]; omega
        · have hw2 := Lib.hid (widthInv_zero hinv.out (by rw [HD.out]; omega))
          go_wp2
          go_roundw
          case rel => exact ⟨k + 1, m, by omega, by go_num, rfl, hw2, by omega, by rw [← hset.out, HD.out]; exact hblk.set_ _ _, by go_grown⟩
          case measure => simp [intOf]; omega
      · obtain rfl : k = 16 := by omega
        have hne := Lib.hid (widthInv_end (by decide) hinv.out hcl.2 HN.out)
        have hcv : ∀ c, (convert 22 9 (.slice (some ⟨w.heap.size, 16 - m, none⟩) m c)).run Tryz.prog wr = .ok (.string (strOfNums (digitsTo 16 n m))) wr :=
          fun c => bytes_at wr w.heap.size (16 - m) m c (digitsTo 16 n m) (digitsTo_len _ _ _) (fun i hi => by
            rw [hblk.cell]; exact arrOf_at 16 n 16 m i hm hi)
        have hm1 : 1 ≤ m := by have := hinv.out.1; omega
        have hsl := slice_arr16 wr w.heap.size m hm1 hm
        have hfin : Hid (digitsTo 16 n m = written 16 n (clampW wd)) := Lib.hid (written_eq (by decide) hne.out.1).symm
        go_wp2
        go_ret
        exact ⟨congrArg (fun l => Ending.returned (.string (strOfNums l))) hfin.out, hbel⟩
set_option maxRecDepth 100000 in
theorem dec_any (n : Int) (w : World) (h0 : 0 ≤ n) (hn : n ≤ 18446744073709551615) :
    Calls Tryz.prog 90 #[.int .u64 n] w fun e w' => e = .returned (.string (strOfNums (written 10 n 1))) ∧ Below w.heap.size w w' := by
  have HN : Hid (qv 10 n 20 = 0) := Lib.hid (qv_small 10 n 20 h0 (by omega))
  have HQ0 := Lib.hid (qv_zero 10 n)
  go_enter Tryz.func90, Tryz.ntmps90
  go_wp2
  go_loopw [0, 4, 7] (fun x nd i wr => ∃ k m : Nat, k ≤ 20 ∧ i = .int .i64 k ∧ nd = .int .i64 m ∧ x = .int .u64 (qv 10 n k) ∧ Hid (WidthInv 10 n 1 k m) ∧ m ≤ 20 ∧ Blk wr w.heap.size 168 ((arrOf 10 n 20 k).map (Value.int .u8)).toArray ∧ Below w.heap.size w wr) (fun _ _ i _ => 20 - (intOf i).toNat)
  case atStart => exact ⟨0, 1, Nat.zero_le _, rfl, rfl, by rw [HQ0.out], Lib.hid (widthInv_start _ _ _), by omega, Blk.new _ _ _ _, by go_grown⟩
  case round =>
    obtain ⟨k, m, hk, rfl, rfl, rfl, hinv, hm, hblk, hbel⟩ := hrel
    have hsz := hblk.lt
    have hsg := sign_at
    have q0 := qv_nonneg 10 n k (by decide) h0
    have q1 := qv_le 10 n k h0
    have d0 := Int.emod_nonneg (qv 10 n k) (show (10 : Int) ≠ 0 by decide)
    have d1 := Int.emod_lt_of_pos (qv 10 n k) (show (0 : Int) < 10 by decide)
    have hq2 : qv 10 n k ≤ 18446744073709551615 := by omega
    have QN := Lib.hid (qv_next 10 n k (by decide))
    have hmx : max (qv 10 n k % 10) 0 = qv 10 n k % 10 := by omega
    by_cases hlt : k < 20
    · have hck : wr.cell? ⟨w.heap.size, 19 - k, none⟩ = some (.int .u8 (iat (arrOf 10 n 20 k) (19 - k))) := by
        rw [hblk.cell]
        simp [iat_eq, arrOf_frozen, show 19 - k < 20 by omega]
      have hfk := hblk.frozen (19 - k)
      have hset := Lib.hid (arrOf_set 10 n 20 k hlt)
      by_cases hv : 0 < qv 10 n k % 10
      · have hw2 : Hid (WidthInv 10 n 1 (k + 1) (k + 1)) := Lib.hid (by
          rcases Nat.lt_or_ge m (k + 1) with e | e
          · exact widthInv_up hinv.out (by omega) e
          · have e2 : m = k + 1 := by have := hinv.out.2.1; omega
            rw [← e2]
            have := widthInv_same hinv.out e
            rwa [← e2] at this)
        go_wp2
        go_roundw
        case rel => exact ⟨k + 1, k + 1, by omega, by go_num, by go_num, by rw [QN.out], hw2, by omega, by rw [← hset.out]; exact hblk.set_ _ _, by go_grown⟩
        case measure => simp [intOf]; omega
      · have hw2 := Lib.hid (widthInv_zero hinv.out (by omega))
        go_wp2
        go_roundw
        case rel => exact ⟨k + 1, m, by omega, by go_num, rfl, by rw [QN.out], hw2, by omega, by rw [← hset.out]; exact hblk.set_ _ _, by go_grown⟩
        case measure => simp [intOf]; omega
    · obtain rfl : k = 20 := by omega
      have hne := Lib.hid (widthInv_end (by decide) hinv.out (by decide) HN.out)
      have hcv : ∀ c, (convert 22 9 (.slice (some ⟨w.heap.size, 20 - m, none⟩) m c)).run Tryz.prog wr = .ok (.string (strOfNums (digitsTo 10 n m))) wr :=
        fun c => bytes_at wr w.heap.size (20 - m) m c (digitsTo 10 n m) (digitsTo_len _ _ _) (fun i hi => by
          rw [hblk.cell]; exact arrOf_at 10 n 20 m i hm hi)
      have hm1 : 1 ≤ m := by have := hinv.out.1; omega
      have hsl := slice_arr20 wr w.heap.size m hm1 hm
      have hfin : Hid (digitsTo 10 n m = written 10 n 1) := Lib.hid (written_eq (by decide) hne.out.1).symm
      go_wp2
      go_ret
      exact ⟨congrArg (fun l => Ending.returned (.string (strOfNums l))) hfin.out, hbel⟩
end Go.Proofs.YtljhfalgplihhaaGreatDoor
namespace Go.Proofs.YtljhfalgplihhaaGreatDoor
open Go.ChangeShapes Go.WideShapes Go.ChangeAt Go.RowKit
set_option linter.unusedVariables false
def slen : Value → Nat
  | .string s => s.size
  | _ => 0
theorem slice_sign (w : World) (d : Int) (h0 : 0 ≤ d) (h1 : d < 16) :
    (Instr.slice 9 (.string ⟨#[48, 49, 50, 51, 52, 53, 54, 55, 56, 57, 65, 66, 67, 68, 69, 70]⟩) (some (.int .i64 d)) (some (.int .i64 (d + 1))) none).run Tryz.prog w = .ok (.string (strOfNums [sg d])) w := by
  have key : ∀ k : Fin 16, (Instr.slice 9 (.string ⟨#[48, 49, 50, 51, 52, 53, 54, 55, 56, 57, 65, 66, 67, 68, 69, 70]⟩) (some (.int .i64 (k.val : Int))) (some (.int .i64 ((k.val : Int) + 1))) none).run Tryz.prog w = .ok (.string (strOfNums [sg (k.val : Int)])) w := by
    intro k
    obtain ⟨k, hk⟩ := k
    rcases (show k = 0 ∨ k = 1 ∨ k = 2 ∨ k = 3 ∨ k = 4 ∨ k = 5 ∨ k = 6 ∨ k = 7 ∨ k = 8 ∨ k = 9 ∨ k = 10 ∨ k = 11 ∨ k = 12 ∨ k = 13 ∨ k = 14 ∨ k = 15 by omega) with rfl | rfl | rfl | rfl | rfl | rfl | rfl | rfl | rfl | rfl | rfl | rfl | rfl | rfl | rfl | rfl
    all_goals kernel_rfl
  obtain ⟨k, rfl⟩ := Int.eq_ofNat_of_zero_le h0
  exact key ⟨k, by omega⟩
theorem size_digits (b n : Int) (k : Nat) : (strOfNums (digitsTo b n k)).size = k := by rw [strOfNums_size, digitsTo_len]
theorem strOf_cons (x : Int) (xs : List Int) : strOfNums [x] ++ strOfNums xs = strOfNums (x :: xs) := strOf_append [x] xs
set_option maxRecDepth 100000 in
theorem refDigits10_any (n : Int) (W : Nat) (w : World) (h0 : 0 ≤ n) (hn : n ≤ 18446744073709551615) (hW1 : 1 ≤ W) (hW : W ≤ 16) :
    Calls Tryz.prog 8 #[.int .u64 n, .int .u64 10, .int .i64 W] w fun e w' => e = .returned (.string (strOfNums (written 10 n W))) ∧ w = w' := by
  have HN : Hid (qv 10 n 20 = 0) := Lib.hid (qv_small 10 n 20 h0 (by omega))
  have HQ0 := Lib.hid (qv_zero 10 n)
  go_enter Tryz.func8, Tryz.ntmps8
  go_wp2
  go_loop [0, 7] (fun x s => ∃ k : Nat, k ≤ 20 ∧ x = .int .u64 (qv 10 n k) ∧ s = .string (strOfNums (digitsTo 10 n k)) ∧ Hid (k ≤ W ∨ qv 10 n (k - 1) ≠ 0)) (fun _ s => 21 - slen s)
  case atStart => exact ⟨0, Nat.zero_le _, by rw [HQ0.out], rfl, Lib.hid (.inl (Nat.zero_le _))⟩
  case round =>
    obtain ⟨k, hk, rfl, rfl, hinv⟩ := hrel
    have q0 := qv_nonneg 10 n k (by decide) h0
    have q1 := qv_le 10 n k h0
    have hq2 : qv 10 n k ≤ 18446744073709551615 := by omega
    have d0 := Int.emod_nonneg (qv 10 n k) (show (10 : Int) ≠ 0 by decide)
    have d1 := Int.emod_lt_of_pos (qv 10 n k) (show (0 : Int) < 10 by decide)
    have QN := Lib.hid (qv_next 10 n k (by decide))
    have hs := size_digits 10 n k
    have HS := Lib.hid hs
    have HS1 := Lib.hid (size_digits 10 n (k + 1))
    have hs1 : (strOfNums [sg (qv 10 n k % 10)]).size ≤ 1 := by rw [strOfNums_size]; simp
    have hsl := slice_sign w (qv 10 n k % 10) d0 (by omega)
    have hnx := Lib.hid (digitsTo_next 10 n k)
    have hmx : max (qv 10 n k % 10) 0 = qv 10 n k % 10 := by omega
    by_cases hgo : 0 < qv 10 n k ∨ k < W
    · have hk20 : k < 20 := by
        rcases Nat.lt_or_ge k 20 with e | e
        · exact e
        · exfalso
          obtain rfl : k = 20 := by omega
          have := HN.out; omega
      have hst : Hid (k + 1 ≤ W ∨ qv 10 n (k + 1 - 1) ≠ 0) := Lib.hid (by
        rcases hgo with e | e
        · right; rw [show k + 1 - 1 = k by omega]; omega
        · left; omega)
      by_cases hq : 0 < qv 10 n k
      · clear hgo
        go_wp2
        go_round
        case rel => exact ⟨k + 1, by omega, by rw [QN.out], by rw [hnx.out]; exact congrArg Value.string (strOf_cons _ _), hst⟩
        case measure =>
          rw [strOf_cons, ← hnx.out]
          show 21 - (strOfNums (digitsTo 10 n (k + 1))).size < 21 - (strOfNums (digitsTo 10 n k)).size
          rw [HS.out, HS1.out]; omega
      · have hkW : k < W := by omega
        clear hgo
        go_wp2
        go_round
        case rel => exact ⟨k + 1, by omega, by rw [QN.out], by rw [hnx.out]; exact congrArg Value.string (strOf_cons _ _), hst⟩
        case measure =>
          rw [strOf_cons, ← hnx.out]
          show 21 - (strOfNums (digitsTo 10 n (k + 1))).size < 21 - (strOfNums (digitsTo 10 n k)).size
          rw [HS.out, HS1.out]; omega
    · have hq : ¬ 0 < qv 10 n k := fun h => hgo (.inl h)
      have hkW : ¬ k < W := fun h => hgo (.inr h)
      clear hgo
      have hem := empty_beq (strOfNums (digitsTo 10 n k)) (by rw [HS.out]; omega)
      have hfin : Hid (digitsTo 10 n k = written 10 n W) := Lib.hid (written_eq (by decide) ⟨by omega, by omega, by
        rcases hinv.out with e | e
        · left; omega
        · exact .inr e⟩).symm
      go_wp2
      go_ret
      exact ⟨congrArg (fun l => Ending.returned (.string (strOfNums l))) hfin.out, rfl⟩
set_option maxRecDepth 100000 in
theorem refDigits16_any (n : Int) (W : Nat) (w : World) (h0 : 0 ≤ n) (hn : n ≤ 18446744073709551615) (hW1 : 1 ≤ W) (hW : W ≤ 16) :
    Calls Tryz.prog 8 #[.int .u64 n, .int .u64 16, .int .i64 W] w fun e w' => e = .returned (.string (strOfNums (written 16 n W))) ∧ w = w' := by
  have HN : Hid (qv 16 n 20 = 0) := Lib.hid (qv_small 16 n 20 h0 (by omega))
  have HQ0 := Lib.hid (qv_zero 16 n)
  go_enter Tryz.func8, Tryz.ntmps8
  go_wp2
  go_loop [0, 7] (fun x s => ∃ k : Nat, k ≤ 20 ∧ x = .int .u64 (qv 16 n k) ∧ s = .string (strOfNums (digitsTo 16 n k)) ∧ Hid (k ≤ W ∨ qv 16 n (k - 1) ≠ 0)) (fun _ s => 21 - slen s)
  case atStart => exact ⟨0, Nat.zero_le _, by rw [HQ0.out], rfl, Lib.hid (.inl (Nat.zero_le _))⟩
  case round =>
    obtain ⟨k, hk, rfl, rfl, hinv⟩ := hrel
    have q0 := qv_nonneg 16 n k (by decide) h0
    have q1 := qv_le 16 n k h0
    have hq2 : qv 16 n k ≤ 18446744073709551615 := by omega
    have d0 := Int.emod_nonneg (qv 16 n k) (show (16 : Int) ≠ 0 by decide)
    have d1 := Int.emod_lt_of_pos (qv 16 n k) (show (0 : Int) < 16 by decide)
    have QN := Lib.hid (qv_next 16 n k (by decide))
    have hs := size_digits 16 n k
    have HS := Lib.hid hs
    have HS1 := Lib.hid (size_digits 16 n (k + 1))
    have hs1 : (strOfNums [sg (qv 16 n k % 16)]).size ≤ 1 := by rw [strOfNums_size]; simp
    have hsl := slice_sign w (qv 16 n k % 16) d0 (by omega)
    have hnx := Lib.hid (digitsTo_next 16 n k)
    have hmx : max (qv 16 n k % 16) 0 = qv 16 n k % 16 := by omega
    by_cases hgo : 0 < qv 16 n k ∨ k < W
    · have hk20 : k < 20 := by
        rcases Nat.lt_or_ge k 20 with e | e
        · exact e
        · exfalso
          obtain rfl : k = 20 := by omega
          have := HN.out; omega
      have hst : Hid (k + 1 ≤ W ∨ qv 16 n (k + 1 - 1) ≠ 0) := Lib.hid (by
        rcases hgo with e | e
        · right; rw [show k + 1 - 1 = k by omega]; omega
        · left; omega)
      by_cases hq : 0 < qv 16 n k
      · clear hgo
        go_wp2
        go_round
        case rel => exact ⟨k + 1, by omega, by rw [QN.out], by rw [hnx.out]; exact congrArg Value.string (strOf_cons _ _), hst⟩
        case measure =>
          rw [strOf_cons, ← hnx.out]
          show 21 - (strOfNums (digitsTo 16 n (k + 1))).size < 21 - (strOfNums (digitsTo 16 n k)).size
          rw [HS.out, HS1.out]; omega
      · have hkW : k < W := by omega
        clear hgo
        go_wp2
        go_round
        case rel => exact ⟨k + 1, by omega, by rw [QN.out], by rw [hnx.out]; exact congrArg Value.string (strOf_cons _ _), hst⟩
        case measure =>
          rw [strOf_cons, ← hnx.out]
          show 21 - (strOfNums (digitsTo 16 n (k + 1))).size < 21 - (strOfNums (digitsTo 16 n k)).size
          rw [HS.out, HS1.out]; omega
    · have hq : ¬ 0 < qv 16 n k := fun h => hgo (.inl h)
      have hkW : ¬ k < W := fun h => hgo (.inr h)
      clear hgo
      have hem := empty_beq (strOfNums (digitsTo 16 n k)) (by rw [HS.out]; omega)
      have hfin : Hid (digitsTo 16 n k = written 16 n W) := Lib.hid (written_eq (by decide) ⟨by omega, by omega, by
        rcases hinv.out with e | e
        · left; omega
        · exact .inr e⟩).symm
      go_wp2
      go_ret
      exact ⟨congrArg (fun l => Ending.returned (.string (strOfNums l))) hfin.out, rfl⟩
end Go.Proofs.YtljhfalgplihhaaGreatDoor
namespace Go.Proofs.YtljhfalgplihhaaGreatDoor
open Go.ChangeShapes Go.WideShapes Go.ChangeAt Go.RowKit
set_option linter.unusedVariables false
theorem need_ex (b n : Int) (N W : Nat) (hb : 0 < b) (hW : W ≤ N) (h : qv b n N = 0) : ∃ m, Need b n W m ∧ m ≤ N := by
  have key : ∀ j m, m + j = N → W ≤ m → (m = W ∨ qv b n (m - 1) ≠ 0) → ∃ m, Need b n W m ∧ m ≤ N := by
    intro j
    induction j with
    | zero => intro m e h1 h2; exact ⟨m, ⟨h1, by rw [show m = N by omega]; exact h, h2⟩, by omega⟩
    | succ j ih =>
      intro m e h1 h2
      by_cases hq : qv b n m = 0
      · exact ⟨m, ⟨h1, hq, h2⟩, by omega⟩
      · exact ih (m + 1) (by omega) (by omega) (.inr hq)
  exact key (N - W) W (by omega) (Nat.le_refl _) (.inl rfl)
theorem size_written (b n : Int) (N W : Nat) (hb : 0 < b) (hb' : 2 ≤ b) (hW : W ≤ N) (h0 : 0 ≤ n) (h : n < b ^ N) : (strOfNums (written b n W)).size ≤ N := by
  obtain ⟨m, hm, hl⟩ := need_ex b n N W hb hW (qv_small b n N h0 h)
  rw [written_eq hb hm, strOfNums_size, digitsTo_len]; exact hl
theorem read_hex (n wd : Int) (h0 : 0 ≤ n) (hn : n ≤ 18446744073709551615) :
    numV 16 16 (nums (strOfNums (written 16 n (clampW wd)))) = n ∧ numE 16 16 (nums (strOfNums (written 16 n (clampW wd)))) = 0 := by
  have hcl := clampW_range wd
  obtain ⟨m, hm, hl⟩ := need_ex 16 n 16 (clampW wd) (by decide) hcl.2 (qv_small 16 n 16 h0 (by omega))
  rw [written_eq (by decide) hm]
  exact read_back 16 n 16 _ m (by decide) (by decide) h0 hn hm hcl.1 hl
theorem read_dec (n : Int) (h0 : 0 ≤ n) (hn : n ≤ 18446744073709551615) :
    numV 10 20 (nums (strOfNums (written 10 n 1))) = n ∧ numE 10 20 (nums (strOfNums (written 10 n 1))) = 0 := by
  obtain ⟨m, hm, hl⟩ := need_ex 10 n 20 1 (by decide) (by decide) (qv_small 10 n 20 h0 (by omega))
  rw [written_eq (by decide) hm]
  exact read_back 10 n 20 _ m (by decide) (by decide) h0 hn hm (by decide) hl
theorem refDigits10_int (n : Int) (W : Nat) (wv : Int) (w : World) (h0 : 0 ≤ n) (hn : n ≤ 18446744073709551615) (hW1 : 1 ≤ W) (hW : W ≤ 16) (hv : wv = (W : Int)) :
    Calls Tryz.prog 8 #[.int .u64 n, .int .u64 10, .int .i64 wv] w fun e w' => e = .returned (.string (strOfNums (written 10 n W))) ∧ w = w' := by
  subst hv
  exact refDigits10_any n W w h0 hn hW1 hW
theorem refDigits16_int (n : Int) (W : Nat) (wv : Int) (w : World) (h0 : 0 ≤ n) (hn : n ≤ 18446744073709551615) (hW1 : 1 ≤ W) (hW : W ≤ 16) (hv : wv = (W : Int)) :
    Calls Tryz.prog 8 #[.int .u64 n, .int .u64 16, .int .i64 wv] w fun e w' => e = .returned (.string (strOfNums (written 16 n W))) ∧ w = w' := by
  subst hv
  exact refDigits16_any n W w h0 hn hW1 hW
end Go.Proofs.YtljhfalgplihhaaGreatDoor
