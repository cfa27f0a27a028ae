/- Records: contract of record.Get. -/
import Derived.Test.YtpleboogijgdcaaRcT
import Derived.Test.YtpleboogijgdcaaOct
namespace Go.Proofs.Ytpleboogijgdcaa
open Go.ChangeShapes Go.WideShapes Go.ChangeAt Go.RowKit
set_option linter.unusedVariables false

/-- Is bit i of the sum on? -/
def sbB (s : Int) (i : Nat) : Bool := s / 2 ^ i % 2 == 1
theorem sb_fin : ∀ (s : Fin 256) (i : Fin 7), decide (0 < bits .and .u8 ((s.val : Int) / 2 ^ i.val) 1) = sbB (s.val : Int) i.val := by decide +kernel
theorem sb_any (s : Int) (i : Nat) (h0 : 0 ≤ s) (h1 : s < 256) (hi : i < 7) : decide (0 < bits .and .u8 (s / 2 ^ i) 1) = sbB s i := by
  have := sb_fin ⟨s.toNat, by omega⟩ ⟨i, hi⟩
  simpa [Int.toNat_of_nonneg h0] using this
/-- Levels of which the first i are told. -/
def lvK (s : Int) (i : Nat) : Array Value := #[.bool (decide (0 < i) && sbB s 0), .bool (decide (1 < i) && sbB s 1), .bool (decide (2 < i) && sbB s 2), .bool (decide (3 < i) && sbB s 3), .bool (decide (4 < i) && sbB s 4), .bool (decide (5 < i) && sbB s 5), .bool (decide (6 < i) && sbB s 6)]
theorem lvK_set (s : Int) (i : Nat) (h : i < 7) : (lvK s i).setIfInBounds i (.bool (sbB s i)) = lvK s (i + 1) := by
  rcases (show i = 0 ∨ i = 1 ∨ i = 2 ∨ i = 3 ∨ i = 4 ∨ i = 5 ∨ i = 6 by omega) with rfl | rfl | rfl | rfl | rfl | rfl | rfl <;> simp [lvK]
theorem lvK_at (s : Int) (i j : Nat) (hj : j < 7) : ∃ v, (lvK s i)[j]? = some v := by
  rcases (show j = 0 ∨ j = 1 ∨ j = 2 ∨ j = 3 ∨ j = 4 ∨ j = 5 ∨ j = 6 by omega) with rfl | rfl | rfl | rfl | rfl | rfl | rfl <;> exact ⟨_, rfl⟩
/-- The k-th record that bytes tell. -/
def gtR (xs : List Int) (k : Nat) : Rc := ⟨256 * iat xs (4 * k) + iat xs (4 * k + 1), iat xs (4 * k + 2), sbB (iat xs (4 * k + 3)) 0, sbB (iat xs (4 * k + 3)) 1, sbB (iat xs (4 * k + 3)) 2, sbB (iat xs (4 * k + 3)) 3, sbB (iat xs (4 * k + 3)) 4, sbB (iat xs (4 * k + 3)) 5, sbB (iat xs (4 * k + 3)) 6⟩
theorem lvK_7 (xs : List Int) (k : Nat) : lvK (iat xs (4 * k + 3)) 7 = (gtR xs k).lv := by simp [lvK, gtR]
def gtL (xs : List Int) (k : Nat) : List Rc := (List.range k).map (gtR xs)
theorem gtL_next (xs : List Int) (k : Nat) : gtL xs (k + 1) = gtL xs k ++ [gtR xs k] := by simp [gtL, List.range_succ]
theorem gtL_len (xs : List Int) (k : Nat) : (gtL xs k).length = k := by simp [gtL]
def GetPost (n : Nat) (xs : List Int) (w : World) (e : Ending) (w' : World) : Prop :=
  ((e = .returned (.tuple #[.slice none 0 0, .int .i64 12]) ∧ n % 4 ≠ 0) ∨
  (e = .returned (.tuple #[.slice none 0 0, .int .i64 21]) ∧ n % 4 = 0 ∧ ∃ k, 4 * k + 3 < n ∧ 127 < iat xs (4 * k + 3)) ∨
  (∃ v, e = .returned (.tuple #[v, .int .i64 0]) ∧ n % 4 = 0 ∧ (∀ k, 4 * k + 3 < n → iat xs (4 * k + 3) < 128) ∧ eR.Rd w' v (gtL xs (n / 4)))) ∧ Below w.heap.size w w'
end Go.Proofs.Ytpleboogijgdcaa
