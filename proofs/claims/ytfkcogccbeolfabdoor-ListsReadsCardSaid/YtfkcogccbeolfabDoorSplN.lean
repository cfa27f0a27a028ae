/- Pieces between commas, in lists of bytes: the law's own way (a byte at a time) against lists.Read's (strings.Cut at a time). -/
import Derived.Test.YtfkcogccbeolfabDoorLstK
import Derived.Laws.BitsLemmas
namespace Go.Proofs.YtfkcogccbeolfabDoor
open Go.ChangeShapes Go.WideShapes Go.ChangeAt Go.RowKit
set_option linter.unusedVariables false

/-- The pieces of a text of which p is read since the last comma. -/
def splits : List UInt8 → List UInt8 → List (List UInt8)
  | p, [] => [p]
  | p, c :: l => if c = 44 then p :: splits [] l else splits (p ++ [c]) l
theorem splits_cons (c : UInt8) (l p : List UInt8) : splits p (c :: l) = if c = 44 then p :: splits [] l else splits (p ++ [c]) l := rfl
theorem splits_len : ∀ (l p : List UInt8), (splits p l).length ≤ l.length + 1
  | [], p => by simp [splits]
  | c :: l, p => by
    unfold splits
    split
    · have := splits_len l []
      simp only [List.length_cons]; omega
    · have := splits_len l (p ++ [c])
      simp only [List.length_cons]; omega
theorem splits_pos : ∀ (l p : List UInt8), 0 < (splits p l).length
  | [], p => by simp [splits]
  | c :: l, p => by
    unfold splits
    split
    · simp
    · exact splits_pos l (p ++ [c])
theorem splits_piece : ∀ (l p : List UInt8), ∀ q ∈ splits p l, q.length ≤ p.length + l.length
  | [], p, q, h => by
    simp only [splits, List.mem_singleton] at h
    subst h; simp
  | c :: l, p, q, h => by
    unfold splits at h
    split at h
    · rcases List.mem_cons.1 h with rfl | h
      · omega
      · have := splits_piece l [] q h
        simp only [List.length_cons, List.length_nil] at this ⊢; omega
    · have := splits_piece l (p ++ [c]) q h
      simp only [List.length_cons, List.length_append, List.length_nil] at this ⊢; omega
theorem cutL_nil : cutL [] = ([], [], false) := by simp [cutL, Lib.indexByte]
theorem cutL_comma (l : List UInt8) : cutL (44 :: l) = ([], l, true) := by simp [cutL, Lib.indexByte]
theorem cutL_other (c : UInt8) (h : c ≠ 44) (l : List UInt8) : cutL (c :: l) = (c :: (cutL l).1, (cutL l).2.1, (cutL l).2.2) := by
  have hge := Lib.indexByte_ge l 44
  have hb : (c == 44) = false := by simpa using h
  unfold cutL
  simp only [Lib.indexByte, hb, Bool.false_eq_true, if_false]
  by_cases h0 : 0 ≤ Lib.indexByte l 44
  · obtain ⟨k, hk⟩ := Int.eq_ofNat_of_zero_le h0
    have e : ((Lib.indexByte l 44) == -1) = false := by
      rw [hk]; simp
    rw [e]
    simp only [Bool.false_eq_true, if_false]
    rw [if_pos h0, if_pos (by omega)]
    have e2 : (Lib.indexByte l 44 + 1).toNat = (Lib.indexByte l 44).toNat + 1 := by omega
    rw [e2]
    simp
  · have e1 : Lib.indexByte l 44 = -1 := by omega
    rw [e1]
    simp
theorem splits_cut : ∀ (l p : List UInt8), splits p l = (p ++ (cutL l).1) :: (if (cutL l).2.2 then splits [] (cutL l).2.1 else [])
  | [], p => by rw [cutL_nil]; simp [splits]
  | c :: l, p => by
    by_cases h : c = 44
    · subst h
      rw [cutL_comma]
      simp [splits]
    · rw [cutL_other c h]
      rw [splits_cons, if_neg h, splits_cut l (p ++ [c])]
      simp
/-- The law's fold over the pieces. -/
def lawF (u : Bool) : List (List UInt8) → Int → Int × Int
  | [], w => (w, 0)
  | q :: r, w =>
    if namedF (strL q) u = 0 then (0, 40)
    else if bits .and .i64 w (namedF (strL q) u) = 0 then lawF u r (bits .or .i64 w (namedF (strL q) u))
    else (0, 41)
theorem bits_8_64 (a b : Int) (ha : 0 ≤ a) (ha' : a < 256) (hb : 0 ≤ b) (hb' : b < 256) :
    bits .and .i64 a b = bits .and .u8 a b ∧ bits .or .i64 a b = bits .or .u8 a b ∧ 0 ≤ bits .and .u8 a b := by
  obtain ⟨x, rfl⟩ := Int.eq_ofNat_of_zero_le ha
  obtain ⟨y, rfl⟩ := Int.eq_ofNat_of_zero_le hb
  have h8 := bits_nat .u8 8 (by decide) wraps_u8 x y (by omega) (by omega)
  have h64 := bits_nat .i64 8 (by decide) (fun n h0 h1 => by rw [IntKind.wrap_i64]; omega) x y (by omega) (by omega)
  refine ⟨by rw [h8.1, h64.1], by rw [h8.2, h64.2], by rw [h8.1]; omega⟩
theorem readF_succ (u : Bool) (f : Nat) (l : List UInt8) (p : Int) : readF u (f + 1) l p =
    if namedF (strL (cutL l).1) u = 0 then (0, 40)
    else if 0 < bits .and .u8 p (namedF (strL (cutL l).1) u) then (0, 41)
    else if (cutL l).2.2 then readF u f (cutL l).2.1 (bits .or .u8 p (namedF (strL (cutL l).1) u))
    else (bits .or .u8 p (namedF (strL (cutL l).1) u), 0) := rfl
theorem lawF_cons (u : Bool) (q : List UInt8) (r : List (List UInt8)) (w : Int) : lawF u (q :: r) w =
    if namedF (strL q) u = 0 then (0, 40)
    else if bits .and .i64 w (namedF (strL q) u) = 0 then lawF u r (bits .or .i64 w (namedF (strL q) u))
    else (0, 41) := rfl
theorem readF_law (u : Bool) : ∀ (f : Nat) (l : List UInt8) (p : Int), l.length < f → 0 ≤ p → p < 256 → readF u f l p = lawF u (splits [] l) p
  | 0, l, p, h, _, _ => absurd h (by omega)
  | f + 1, l, p, h, p0, p1 => by
    obtain ⟨n0, n1⟩ := namedF_range (strL (cutL l).1) u
    obtain ⟨b1, b2, b3⟩ := bits_8_64 p (namedF (strL (cutL l).1) u) p0 p1 n0 n1
    obtain ⟨r0, r1⟩ := or_range8 p (namedF (strL (cutL l).1) u) p0 p1 n0 n1
    have ih := readF_law u f (cutL l).2.1 (bits .or .u8 p (namedF (strL (cutL l).1) u))
    have hl := cutL_len l
    rw [splits_cut l [], List.nil_append, readF_succ, lawF_cons, b1, b2]
    obtain ⟨A, hA⟩ : ∃ A, bits .and .u8 p (namedF (strL (cutL l).1) u) = A := ⟨_, rfl⟩
    obtain ⟨B, hB⟩ : ∃ B, bits .or .u8 p (namedF (strL (cutL l).1) u) = B := ⟨_, rfl⟩
    rw [hA] at b3
    rw [hB] at r0 r1 ih
    rw [hA, hB]
    by_cases c1 : namedF (strL (cutL l).1) u = 0
    · rw [if_pos c1, if_pos c1]
    · rw [if_neg c1, if_neg c1]
      by_cases c2 : 0 < A
      · rw [if_pos c2, if_neg (show ¬ A = 0 by omega)]
      · rw [if_neg c2, if_pos (show A = 0 by omega)]
        cases hc : (cutL l).2.2
        · rfl
        · have := hl hc
          exact ih (by omega) r0 r1
theorem readS_law (u : Bool) (l : List UInt8) (h : l ≠ []) : readS l u = lawF u (splits [] l) 0 := by
  unfold readS
  rw [if_neg h]
  exact readF_law u _ l 0 (by omega) (by decide) (by decide)
end Go.Proofs.YtfkcogccbeolfabDoor
