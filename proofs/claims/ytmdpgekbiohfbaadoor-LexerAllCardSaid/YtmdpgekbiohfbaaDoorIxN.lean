/- Runes of any text, plainly: what a text's runes are where a byte is none of ASCII's. -/
import Derived.Test.YtmdpgekbiohfbaaDoorSymN
import Derived.Lib.IndexAny
import Derived.Lib.DecodeN
import Derived.Laws.Runes
import Derived.Laws.RangeAny
namespace Go.Proofs.YtmdpgekbiohfbaaDoor
open Go.ChangeShapes Go.WideShapes Go.ChangeAt Go.RowKit
set_option linter.unusedVariables false

theorem decN_valid (n b0 b1 b2 b3 : Nat) (h0 : b0 < 256) : (Lib.decodeN n b0 b1 b2 b3).1 < 55296 ∨ (57343 < (Lib.decodeN n b0 b1 b2 b3).1 ∧ (Lib.decodeN n b0 b1 b2 b3).1 ≤ 1114111) := by
  unfold Lib.decodeN
  repeat' split
  all_goals (simp only; omega)
theorem decN_wide (n b0 b1 b2 b3 : Nat) (hn : 1 ≤ n) : 1 ≤ (Lib.decodeN n b0 b1 b2 b3).2 ∧ (Lib.decodeN n b0 b1 b2 b3).2 ≤ n ∧ (1 < (Lib.decodeN n b0 b1 b2 b3).2 → 128 ≤ b1) ∧ (2 < (Lib.decodeN n b0 b1 b2 b3).2 → 128 ≤ b2) ∧ (3 < (Lib.decodeN n b0 b1 b2 b3).2 → 128 ≤ b3) ∧ (Lib.decodeN n b0 b1 b2 b3).2 ≤ 4 := by
  unfold Lib.decodeN
  repeat' split
  all_goals (simp only; omega)
theorem get_list (s : ByteArray) (i : Nat) (x : UInt8) (h : s.data.toList[i]? = some x) : s.get! i = x := by
  have hl : s.data.toList.length = s.size := by rw [Array.length_toList]; rfl
  have hi : i < s.size := by
    rcases Nat.lt_or_ge i s.size with h' | h'
    · exact h'
    · rw [List.getElem?_eq_none (by omega)] at h; cases h
  rw [List.getElem?_eq_getElem (by omega)] at h
  have hx := Option.some.inj h
  rw [← hx]
  simp only [ByteArray.get!]
  rw [getElem!_pos s.data i (by show i < s.size; omega)]
  simp
/-- Behind a byte that is none of ASCII's, the rune's own bytes are none of some that are ASCII's. -/
theorem noAny_wide (s : ByteArray) (cs : List UInt8) (hcs : ∀ c ∈ cs, c.toNat < 128) (i : Nat) (hi : i < s.size) (x : UInt8) (hx : s.data.toList[i]? = some x) (h : 128 ≤ x.toNat) (hno : Lib.NoAny s.data.toList cs i) :
    Lib.NoAny s.data.toList cs (i + (Utf8.decode s i).2) ∧ 1 ≤ (Utf8.decode s i).2 ∧ i + (Utf8.decode s i).2 ≤ s.size ∧ 128 ≤ (Utf8.decode s i).1 ∧ Utf8.valid ((Utf8.decode s i).1 : Int) = true ∧ (Utf8.decode s i).1 ≤ 1114111 := by
  have hb0 : s.get! i = x := get_list s i x hx
  have hv := decN_valid (s.size - i) (s.get! i).toNat (s.get! (i + 1)).toNat (s.get! (i + 2)).toNat (s.get! (i + 3)).toNat (UInt8.toNat_lt _)
  have hw := decN_wide (s.size - i) (s.get! i).toNat (s.get! (i + 1)).toNat (s.get! (i + 2)).toNat (s.get! (i + 3)).toNat (by omega)
  have hh : 128 ≤ (Utf8.decode s i).1 := (decode_high s i hi (by
    have : s[i]'hi = s.get! i := (get_at s i hi).symm
    rw [this, hb0]; exact h)).1
  rw [← Lib.decode_at] at hv hw
  obtain ⟨w1, w2, w3, w4, w5, w6⟩ := hw
  have hn : ∀ b : UInt8, 128 ≤ b.toNat → cs.contains b = false := fun b hb => by
    cases hq : cs.contains b with
    | false => rfl
    | true =>
      have := hcs b (by simpa using hq)
      omega
  refine ⟨fun j b hj hb => ?_, w1, by omega, hh, ?_, by omega⟩
  · by_cases c0 : j < i
    · exact hno j b c0 hb
    · have hg := get_list s j b hb
      apply hn
      rcases (show j = i ∨ j = i + 1 ∨ j = i + 2 ∨ j = i + 3 by omega) with rfl | rfl | rfl | rfl
      · rw [hx] at hb; cases hb; exact h
      · rw [← hg]; exact w3 (by omega)
      · rw [← hg]; exact w4 (by omega)
      · rw [← hg]; exact w5 (by omega)
  · unfold Utf8.valid
    simp only [Bool.or_eq_true, Bool.and_eq_true, decide_eq_true_eq]
    omega
end Go.Proofs.YtmdpgekbiohfbaaDoor
