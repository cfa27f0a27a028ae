/- Two registers, plainly: the document's search against ours. -/
import Derived.Test.YtmdpgekbiohfbabDoorLpr
namespace Go.Proofs.YtmdpgekbiohfbabDoor
set_option linter.unusedVariables false

def nmP : List (List UInt8) := [[68], [88], [89], [85], [83], [80, 67], [82, 54], [82, 55], [65], [66], [67, 67], [68, 80], [82, 49, 50], [82, 49, 51], [82, 49, 52], [82, 49, 53]]
def nmS (k : Nat) : ByteArray := byteStr (nmP.getD k [])
def eqN (k : Nat) (A : ByteArray) : Bool := (nmS k).toList == A.toList
def lastE (A : ByteArray) : Nat → Int
  | 0 => -1
  | k + 1 => if eqN k A = true then (k : Int) else lastE A k
theorem lastE_range (A : ByteArray) : ∀ k, -1 ≤ lastE A k ∧ lastE A k < k
  | 0 => by simp [lastE]
  | k + 1 => by
    have := lastE_range A k
    unfold lastE
    split <;> omega
theorem toList_inj {a b : ByteArray} (h : a.toList = b.toList) : a = b := by
  rw [ByteArray.toList_eq, ByteArray.toList_eq] at h
  apply ByteArray.ext
  exact Array.toList_inj.1 h
theorem eqN_iff (k : Nat) (A : ByteArray) : eqN k A = true ↔ A = nmS k := by
  unfold eqN
  rw [beq_iff_eq]
  exact ⟨fun h => (toList_inj h).symm, fun h => by rw [h]⟩
theorem regIs_nm : ∀ k, k < 12 → (regS k).toList.isEmpty = false → regS k = nmS k := by
  intro k hk
  rcases (show k = 0 ∨ k = 1 ∨ k = 2 ∨ k = 3 ∨ k = 4 ∨ k = 5 ∨ k = 6 ∨ k = 7 ∨ k = 8 ∨ k = 9 ∨ k = 10 ∨ k = 11 by omega) with rfl | rfl | rfl | rfl | rfl | rfl | rfl | rfl | rfl | rfl | rfl | rfl
  all_goals first | (intro _; rfl) | (intro h; exact absurd h (by decide +kernel))
theorem regIn_none (A : ByteArray) (h : ∀ k, k < 12 → regIs A k = false) : ∀ m k, k + m ≤ 12 → regIn A m k = (0, false)
  | 0, k, _ => rfl
  | m + 1, k, hk => by
    unfold regIn
    rw [h k (by omega)]
    exact regIn_none A h m (k + 1) (by omega)
theorem nums_is (A : ByteArray) (l : List Int) (k : Nat) (hl : strOfNums l = nmS k) (h : nums A = l) : A = nmS k := by
  rw [← hl, ← h, nums_str]
theorem half_last (A : ByteArray) : halfS A = if lastE A 16 = -1 then (0, false) else (lastE A 16, true) := by
  by_cases hA : ∃ k, k < 16 ∧ A = nmS k
  · obtain ⟨k, hk, rfl⟩ := hA
    rcases (show k = 0 ∨ k = 1 ∨ k = 2 ∨ k = 3 ∨ k = 4 ∨ k = 5 ∨ k = 6 ∨ k = 7 ∨ k = 8 ∨ k = 9 ∨ k = 10 ∨ k = 11 ∨ k = 12 ∨ k = 13 ∨ k = 14 ∨ k = 15 by omega) with rfl | rfl | rfl | rfl | rfl | rfl | rfl | rfl | rfl | rfl | rfl | rfl | rfl | rfl | rfl | rfl
    all_goals kernel_rfl
  · have hn : ∀ k, k < 16 → A ≠ nmS k := fun k hk h => hA ⟨k, hk, h⟩
    have h1 : ∀ k, k ≤ 16 → lastE A k = -1 := by
      intro k
      induction k with
      | zero => intro _; rfl
      | succ k ih =>
        intro hk
        unfold lastE
        rw [if_neg (fun h => hn k (by omega) ((eqN_iff k A).1 h))]
        exact ih (by omega)
    rw [h1 16 (by decide), if_pos rfl]
    unfold halfS
    rw [if_neg (fun h => hn 6 (by decide) (nums_is A _ 6 (by decide +kernel) h)), if_neg (fun h => hn 7 (by decide) (nums_is A _ 7 (by decide +kernel) h)), if_neg (fun h => hn 12 (by decide) (nums_is A _ 12 (by decide +kernel) h)), if_neg (fun h => hn 13 (by decide) (nums_is A _ 13 (by decide +kernel) h)), if_neg (fun h => hn 14 (by decide) (nums_is A _ 14 (by decide +kernel) h)), if_neg (fun h => hn 15 (by decide) (nums_is A _ 15 (by decide +kernel) h))]
    unfold regOf
    refine regIn_none A (fun k hk => ?_) 12 0 (by decide)
    cases h : regIs A k
    · rfl
    · exfalso
      unfold regIs at h
      rw [Bool.and_eq_true, Bool.not_eq_true', beq_iff_eq] at h
      exact hn k (by omega) ((toList_inj h.2).symm.trans (regIs_nm k hk h.1))
theorem get_at (s : ByteArray) (q : Nat) (h : q < s.size) (c : UInt8) : s.data.toList[q]? = some c ↔ iat (nums s) q = (c.toNat : Int) := by
  rw [← get_nums s q h]
  have e : s.data.toList[q]? = some (s[q]'h) := by
    rw [List.getElem?_eq_getElem (by simpa using h)]
    rfl
  rw [e]
  constructor
  · intro h; injection h with h; rw [h]
  · intro h
    have : (s[q]'(by assumption)).toNat = c.toNat := by omega
    rw [UInt8.toNat_inj.1 this]
theorem cut_at (s : ByteArray) (n : Nat) (hn : n < s.size) (h : ∀ q, q < n → iat (nums s) q ≠ 44) (he : iat (nums s) n = 44) :
    cutL s.data.toList = (s.data.toList.take n, s.data.toList.drop (n + 1), true) := by
  have hz := Lib.indexByte_ge s.data.toList 44
  have ha : s.data.toList[n]? = some 44 := (get_at s n hn 44).2 he
  by_cases h0 : 0 ≤ Lib.indexByte s.data.toList 44
  · obtain ⟨o, ho⟩ := Int.eq_ofNat_of_zero_le h0
    obtain ⟨h1, h2⟩ := Lib.indexByte_some ho
    have hon : o = n := by
      rcases Nat.lt_trichotomy o n with hlt | heq | hgt
      · exact absurd ((get_at s o (by omega) 44).1 h1) (h o hlt)
      · exact heq
      · exact absurd ha (h2 n hgt)
    subst hon
    unfold cutL
    rw [ho, if_pos (by omega)]
    rfl
  · exact absurd ha (Lib.indexByte_none (by omega) n)
theorem cut_no (s : ByteArray) (h : ∀ q, q < s.size → iat (nums s) q ≠ 44) : (cutL s.data.toList).2.2 = false := by
  unfold cutL
  by_cases h0 : 0 ≤ Lib.indexByte s.data.toList 44
  · obtain ⟨o, ho⟩ := Int.eq_ofNat_of_zero_le h0
    obtain ⟨h1, h2⟩ := Lib.indexByte_some ho
    have hlt := (List.getElem?_eq_some_iff.1 h1).1
    have hlt' : o < s.size := by simpa using hlt
    exact absurd ((get_at s o hlt' 44).1 h1) (h o hlt')
  · rw [if_neg h0]
theorem take_str (s : ByteArray) (n : Nat) : strOfNums ((nums s).take n) = ⟨(s.data.toList.take n).toArray⟩ := by
  rw [← nums_str ⟨(s.data.toList.take n).toArray⟩]
  unfold nums
  rw [List.map_take]
theorem drop_str (s : ByteArray) (n : Nat) : strOfNums ((nums s).drop n) = ⟨(s.data.toList.drop n).toArray⟩ := by
  rw [← nums_str ⟨(s.data.toList.drop n).toArray⟩]
  unfold nums
  rw [List.map_drop]
/-- The postbyte by two places. -/
def prP (x y : Int) : Int × Int := if x < 0 ∨ y < 0 then (0, 40) else (16 * x + y, 0)
theorem pair_no (s : ByteArray) (h : ∀ q, q < s.size → iat (nums s) q ≠ 44) : pairS s = (0, 21) := by
  unfold pairS pairV
  rw [cut_no s h, if_pos rfl]
theorem pair_at (s : ByteArray) (n : Nat) (hn : n < s.size) (h : ∀ q, q < n → iat (nums s) q ≠ 44) (he : iat (nums s) n = 44) :
    pairS s = prP (lastE (strOfNums ((nums s).take n)) 16) (lastE (strOfNums ((nums s).drop (n + 1))) 16) := by
  unfold pairS
  rw [cut_at s n hn h he]
  dsimp only
  rw [← take_str, ← drop_str]
  generalize strOfNums ((nums s).take n) = A
  generalize strOfNums ((nums s).drop (n + 1)) = B
  rw [half_last A, half_last B]
  have hA := lastE_range A 16
  have hB := lastE_range B 16
  generalize lastE A 16 = a at hA ⊢
  generalize lastE B 16 = b at hB ⊢
  unfold pairV prP
  rw [if_neg (by decide)]
  by_cases h1 : a = -1
  · subst h1; simp
  by_cases h2 : b = -1
  · subst h2; simp
  rw [if_neg h1, if_neg h2, if_neg (by simp), if_neg (by omega)]
end Go.Proofs.YtmdpgekbiohfbabDoor
