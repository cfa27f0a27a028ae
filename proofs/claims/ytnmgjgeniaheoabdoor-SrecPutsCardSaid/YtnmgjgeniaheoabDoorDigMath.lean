/- Numbers as digits: plain laws. No program in sight. -/
import Derived.Test.YtnmgjgeniaheoabDoorDigRead
namespace Go.Proofs.YtnmgjgeniaheoabDoor
open Go.ChangeShapes Go.WideShapes Go.ChangeAt Go.RowKit
set_option linter.unusedVariables false

/-- A number without its lowest k digits. -/
def qv (b n : Int) (k : Nat) : Int := n / b ^ k
theorem qv_zero (b n : Int) : qv b n 0 = n := by unfold qv; rw [Int.pow_zero, Int.ediv_one]
theorem qv_next (b n : Int) (k : Nat) (hb : 0 < b) : qv b n (k + 1) = qv b n k / b := by
  unfold qv
  rw [Int.pow_succ, Int.ediv_ediv_of_nonneg (Int.le_of_lt (Int.pow_pos hb))]
theorem qv_nonneg (b n : Int) (k : Nat) (hb : 0 < b) (hn : 0 ≤ n) : 0 ≤ qv b n k := Int.ediv_nonneg hn (Int.le_of_lt (Int.pow_pos hb))
theorem qv_le (b n : Int) (k : Nat) (hn : 0 ≤ n) : qv b n k ≤ n := Int.ediv_le_self _ hn
theorem qv_small (b n : Int) (k : Nat) (h0 : 0 ≤ n) (h : n < b ^ k) : qv b n k = 0 := Int.ediv_eq_zero_of_lt h0 h
theorem qv_stay (b n : Int) (hb : 0 < b) (k : Nat) (h : qv b n k = 0) : ∀ j, qv b n (k + j) = 0
  | 0 => h
  | j + 1 => by rw [← Nat.add_assoc, qv_next _ _ _ hb, qv_stay b n hb k h j, Int.zero_ediv]
theorem qv_down (b n : Int) (hb : 0 < b) (k : Nat) (h : qv b n (k + 1) = 0) (hd : qv b n k % b = 0) : qv b n k = 0 := by
  rw [qv_next _ _ _ hb] at h
  have := Int.mul_ediv_add_emod (qv b n k) b
  rw [h, hd] at this
  simpa using this.symm
def signNums : List Int := [48, 49, 50, 51, 52, 53, 54, 55, 56, 57, 65, 66, 67, 68, 69, 70]
def sg (v : Int) : Int := iat signNums v.toNat
theorem sg_fin : ∀ d : Fin 16, valOf (sg (d.val : Int)) = (d.val : Int) ∧ 0 ≤ sg (d.val : Int) ∧ sg (d.val : Int) < 256 := by decide +kernel
theorem sg_val (v : Int) (h0 : 0 ≤ v) (h1 : v < 16) : valOf (sg v) = v ∧ 0 ≤ sg v ∧ sg v < 256 := by
  obtain ⟨n, rfl⟩ := Int.eq_ofNat_of_zero_le h0
  exact sg_fin ⟨n, by omega⟩
/-- The lowest m digits, the highest of them first. -/
def digitsTo (b n : Int) (m : Nat) : List Int := (List.range m).map fun p => sg (qv b n (m - 1 - p) % b)
theorem digitsTo_next (b n : Int) (m : Nat) : digitsTo b n (m + 1) = sg (qv b n m % b) :: digitsTo b n m := by
  unfold digitsTo
  rw [List.range_succ_eq_map, List.map_cons, List.map_map]
  congr 1
  apply List.map_congr_left
  intro p hp
  show sg (qv b n (m + 1 - 1 - (p + 1)) % b) = _
  rw [show m + 1 - 1 - (p + 1) = m - 1 - p by omega]
theorem digitsTo_len (b n : Int) (m : Nat) : (digitsTo b n m).length = m := by simp [digitsTo]
theorem digitsTo_mem (b n : Int) (m : Nat) (hb : 0 < b) (hb' : b ≤ 16) : ∀ x ∈ digitsTo b n m, 0 ≤ x ∧ x < 256 ∧ valOf x < b := by
  intro x hx
  simp only [digitsTo, List.mem_map, List.mem_range] at hx
  obtain ⟨p, _, rfl⟩ := hx
  have h0 := Int.emod_nonneg (qv b n (m - 1 - p)) (show b ≠ 0 by omega)
  have h1 := Int.emod_lt_of_pos (qv b n (m - 1 - p)) hb
  have := sg_val _ h0 (by omega)
  exact ⟨this.2.1, this.2.2, by rw [this.1]; exact h1⟩
theorem scan_digits (b n : Int) (hb : 0 < b) (hb' : b ≤ 16) (h0 : 0 ≤ n) (hn : n ≤ 18446744073709551615) : ∀ m, scan b (digitsTo b n m) (qv b n m) = some n
  | 0 => by rw [qv_zero]; rfl
  | m + 1 => by
    have d0 := Int.emod_nonneg (qv b n m) (show b ≠ 0 by omega)
    have d1 := Int.emod_lt_of_pos (qv b n m) hb
    have hs := (sg_val _ d0 (by omega)).1
    have hq := qv_le b n m h0
    have hdm := Int.mul_ediv_add_emod (qv b n m) b
    rw [digitsTo_next, scan, hs, qv_next _ _ _ hb, if_neg ?_, hdm]
    · exact scan_digits b n hb hb' h0 hn m
    · have h2 : qv b n m / b ≤ (18446744073709551615 - qv b n m % b) / b := by
        apply (Int.le_ediv_iff_mul_le hb).2
        have := Int.mul_comm (qv b n m / b) b
        omega
      omega
/-- How many digits are written: at least so many, and no noughts ahead of these. -/
def Need (b n : Int) (W m : Nat) : Prop := W ≤ m ∧ qv b n m = 0 ∧ (m = W ∨ qv b n (m - 1) ≠ 0)
theorem need_unique {b n : Int} (hb : 0 < b) {W m m' : Nat} (h : Need b n W m) (h' : Need b n W m') : m = m' := by
  obtain ⟨a1, a2, a3⟩ := h
  obtain ⟨b1, b2, b3⟩ := h'
  rcases Nat.lt_trichotomy m m' with hlt | heq | hgt
  · rcases b3 with e | e
    · omega
    · exfalso; apply e
      have := qv_stay b n hb m a2 (m' - 1 - m)
      rwa [show m + (m' - 1 - m) = m' - 1 by omega] at this
  · exact heq
  · rcases a3 with e | e
    · omega
    · exfalso; apply e
      have := qv_stay b n hb m' b2 (m - 1 - m')
      rwa [show m' + (m - 1 - m') = m - 1 by omega] at this
noncomputable def lenOf (b n : Int) (W : Nat) : Nat := Classical.epsilon (Need b n W)
theorem lenOf_eq {b n : Int} (hb : 0 < b) {W m : Nat} (h : Need b n W m) : lenOf b n W = m :=
  need_unique hb (Classical.epsilon_spec (p := Need b n W) ⟨m, h⟩) h
/-- The digits as they are written. -/
noncomputable def written (b n : Int) (W : Nat) : List Int := digitsTo b n (lenOf b n W)
theorem written_eq {b n : Int} (hb : 0 < b) {W m : Nat} (h : Need b n W m) : written b n W = digitsTo b n m := by unfold written; rw [lenOf_eq hb h]
theorem nums_written (b n : Int) (m : Nat) (hb : 0 < b) (hb' : b ≤ 16) : nums (strOfNums (digitsTo b n m)) = digitsTo b n m :=
  str_nums _ fun x hx => ⟨(digitsTo_mem b n m hb hb' x hx).1, (digitsTo_mem b n m hb hb' x hx).2.1⟩
/-- What is written is read as it was. -/
theorem read_back (b n : Int) (most W m : Nat) (hb : 0 < b) (hb' : b ≤ 16) (h0 : 0 ≤ n) (hn : n ≤ 18446744073709551615) (h : Need b n W m) (hW : 1 ≤ W) (hm : m ≤ most) :
    numV b most (nums (strOfNums (digitsTo b n m))) = n ∧ numE b most (nums (strOfNums (digitsTo b n m))) = 0 := by
  rw [nums_written b n m hb hb']
  have hc : chk b most (digitsTo b n m) = 0 := by
    have hg : allGood b (digitsTo b n m) = true := by
      unfold allGood; rw [List.all_eq_true]
      intro x hx
      simpa [good] using (digitsTo_mem b n m hb hb' x hx).2.2
    have := h.1
    unfold chk
    rw [digitsTo_len, hg, if_neg (by omega), if_neg (by simp), if_neg (by omega)]
  have hs := scan_digits b n hb hb' h0 hn m
  rw [h.2.1] at hs
  exact num_some hc hs
theorem set_range (k : IntKind) (N j : Nat) (f g : Nat → Int) (hj : j < N) (h : ∀ p, p < N → p ≠ j → g p = f p) (v : Int) (hv : v = g j) :
    (((List.range N).map f).map (Value.int k)).toArray.setIfInBounds j (.int k v) = (((List.range N).map g).map (Value.int k)).toArray := by
  subst hv
  apply Array.ext
  · simp
  · intro i h1 h2
    have hi : i < N := by simpa using h1
    rw [Array.getElem_setIfInBounds (by simpa using hi)]
    by_cases e : j = i
    · subst e; simp
    · rw [if_neg e]
      simp only [List.getElem_toArray, List.getElem_map, List.getElem_range]
      rw [h i hi (fun he => e he.symm)]
/-- What holds of the width after k digits from below have been looked at. -/
def WidthInv (b n : Int) (W k m : Nat) : Prop := W ≤ m ∧ (m ≤ W ∨ m ≤ k) ∧ (m = W ∨ qv b n (m - 1) ≠ 0) ∧ ∀ i, m ≤ i → i < k → qv b n i % b = 0
theorem widthInv_start (b n : Int) (W : Nat) : WidthInv b n W 0 W := ⟨Nat.le_refl _, .inl (Nat.le_refl _), .inl rfl, fun i _ h => absurd h (by omega)⟩
theorem widthInv_zero {b n : Int} {W k m : Nat} (h : WidthInv b n W k m) (hd : qv b n k % b = 0) : WidthInv b n W (k + 1) m :=
  ⟨h.1, by rcases h.2.1 with e | e <;> omega, h.2.2.1, fun i h1 h2 => by
    rcases Nat.lt_or_ge i k with e | e
    · exact h.2.2.2 i h1 e
    · obtain rfl : i = k := by omega
      exact hd⟩
theorem widthInv_up {b n : Int} {W k m : Nat} (h : WidthInv b n W k m) (hd : qv b n k % b ≠ 0) (hm : m < k + 1) : WidthInv b n W (k + 1) (k + 1) :=
  ⟨by have := h.1; omega, .inr (Nat.le_refl _), .inr (fun e => hd (by rw [show k + 1 - 1 = k by omega] at e; rw [e]; simp)), fun i h1 h2 => absurd h2 (by omega)⟩
theorem widthInv_same {b n : Int} {W k m : Nat} (h : WidthInv b n W k m) (hm : k + 1 ≤ m) : WidthInv b n W (k + 1) m :=
  ⟨h.1, by rcases h.2.1 with e | e <;> omega, h.2.2.1, fun i h1 h2 => absurd h2 (by omega)⟩
theorem zeros_down (b n : Int) (hb : 0 < b) (N : Nat) (hN : qv b n N = 0) (m : Nat) : ∀ j, m + j = N → (∀ i, m ≤ i → i < N → qv b n i % b = 0) → qv b n m = 0
  | 0, e, _ => by rw [show m = N by omega]; exact hN
  | j + 1, e, h => by
    apply qv_down b n hb m
    · exact zeros_down b n hb N hN (m + 1) j (by omega) (fun i h1 h2 => h i (by omega) h2)
    · exact h m (by omega) (by omega)
theorem widthInv_end {b n : Int} {W N m : Nat} (hb : 0 < b) (h : WidthInv b n W N m) (hW : W ≤ N) (hN : qv b n N = 0) : Need b n W m ∧ m ≤ N := by
  have hm : m ≤ N := by rcases h.2.1 with e | e <;> omega
  exact ⟨⟨h.1, zeros_down b n hb N hN m (N - m) (by omega) h.2.2.2, h.2.2.1⟩, hm⟩
/-- An array of N digits, filled from behind. -/
def arrOf (b n : Int) (N k : Nat) : List Int := (List.range N).map fun p => if N ≤ p + k then sg (qv b n (N - 1 - p) % b) else 0
theorem arrOf_set (b n : Int) (N k : Nat) (hk : k < N) :
    ((arrOf b n N k).map (Value.int .u8)).toArray.setIfInBounds (N - 1 - k) (.int .u8 (sg (qv b n k % b))) = ((arrOf b n N (k + 1)).map (Value.int .u8)).toArray := by
  apply set_range .u8 N (N - 1 - k) _ _ (by omega)
  · intro p hp hne
    by_cases h : N ≤ p + k
    · rw [if_pos h, if_pos (by omega)]
    · rw [if_neg h, if_neg (by omega)]
  · rw [if_pos (by omega), show N - 1 - (N - 1 - k) = k by omega]
theorem arrOf_at (b n : Int) (N m i : Nat) (hm : m ≤ N) (hi : i < m) :
    ((arrOf b n N N).map (Value.int .u8)).toArray[N - m + i]? = some (.int .u8 (iat (digitsTo b n m) i)) := by
  rw [iat_eq _ _ (by rw [digitsTo_len]; exact hi)]
  simp only [arrOf, digitsTo, List.map_map, List.getElem?_toArray, List.getElem?_map, List.getElem_map, List.getElem_range]
  rw [List.getElem?_range (by omega)]
  simp only [Option.map_some, Function.comp_apply]
  rw [if_pos (by omega), show N - 1 - (N - m + i) = m - 1 - i by omega]
theorem arrOf_frozen (b n : Int) (N k : Nat) : (arrOf b n N k).length = N := by simp [arrOf]
theorem bytes_at (w : World) (g off n c : Nat) (xs : List Int) (hn : xs.length = n) (h : ∀ i, i < n → w.cell? ⟨g, off + i, none⟩ = some (.int .u8 (iat xs i))) :
    (convert 25 9 (.slice (some ⟨g, off, none⟩) n c)).run Tryd.prog w = .ok (.string (strOfNums xs)) w :=
  run_convert_bytes_arg w 25 5 Tryd.underlying25 Tryd.underlying5 g off n c xs hn h 9 Tryd.underlying9
theorem hex_digit (n : Int) (k : Nat) (h0 : 0 ≤ n) (h1 : n ≤ 18446744073709551615) : bits .and .u64 (n / 2 ^ (4 * k)) 15 = qv 16 n k % 16 := by
  have e : n / 2 ^ (4 * k) = qv 16 n k := by unfold qv; rw [Int.pow_mul]; rfl
  have hq := qv_le 16 n k h0
  have hq0 := qv_nonneg 16 n k (by omega) h0
  rw [e]
  have := bits_mask .u64 64 (by decide) (fun n h0 h1 => by rw [IntKind.wrap_u64]; omega) 4 (by omega) (qv 16 n k) hq0 (by omega)
  simpa using this
def clampW (wd : Int) : Nat := (if wd < 1 then 1 else if 16 < wd then 16 else wd).toNat
theorem clampW_range (wd : Int) : 1 ≤ clampW wd ∧ clampW wd ≤ 16 := by unfold clampW; split <;> (try split) <;> omega
end Go.Proofs.YtnmgjgeniaheoabDoor
