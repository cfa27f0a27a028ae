/- What the laws on digits lean on: what is written is read as it was; package digit's answers in the law's own words. -/
import Derived.Test.YtnmgjgeniaheoabDoorDigRef
namespace Go.Proofs.YtnmgjgeniaheoabDoor
open Go.ChangeShapes Go.WideShapes Go.ChangeAt Go.RowKit
set_option linter.unusedVariables false
theorem need_ex (b n : Int) (N W : Nat) (hb : 0 < b) (hW : W ≤ N) (h : qv b n N = 0) : ∃ m, Need b n W m ∧ m ≤ N := by
  have key : ∀ j m, m + j = N → W ≤ m → (m = W ∨ qv b n (m - 1) ≠ 0) → ∃ m, Need b n W m ∧ m ≤ N := by
    intro j
    induction j with
    | zero => intro m e h1 h2; exact ⟨m, ⟨h1, by rw [show m = N by omega]; exact h, h2⟩, by omega⟩
    | succ j ih =>
      intro m e h1 h2
      by_cases hq : qv b n m = 0
      · exact ⟨m, ⟨h1, hq, h2⟩, by omega⟩
      · exact ih (m + 1) (by omega) (by omega) (.inr hq)
  exact key (N - W) W (by omega) (Nat.le_refl _) (.inl rfl)
theorem size_written (b n : Int) (N W : Nat) (hb : 0 < b) (hb' : 2 ≤ b) (hW : W ≤ N) (h0 : 0 ≤ n) (h : n < b ^ N) : (strOfNums (written b n W)).size ≤ N := by
  obtain ⟨m, hm, hl⟩ := need_ex b n N W hb hW (qv_small b n N h0 h)
  rw [written_eq hb hm, strOfNums_size, digitsTo_len]; exact hl
theorem read_hex (n wd : Int) (h0 : 0 ≤ n) (hn : n ≤ 18446744073709551615) :
    numV 16 16 (nums (strOfNums (written 16 n (clampW wd)))) = n ∧ numE 16 16 (nums (strOfNums (written 16 n (clampW wd)))) = 0 := by
  have hcl := clampW_range wd
  obtain ⟨m, hm, hl⟩ := need_ex 16 n 16 (clampW wd) (by decide) hcl.2 (qv_small 16 n 16 h0 (by omega))
  rw [written_eq (by decide) hm]
  exact read_back 16 n 16 _ m (by decide) (by decide) h0 hn hm hcl.1 hl
theorem read_dec (n : Int) (h0 : 0 ≤ n) (hn : n ≤ 18446744073709551615) :
    numV 10 20 (nums (strOfNums (written 10 n 1))) = n ∧ numE 10 20 (nums (strOfNums (written 10 n 1))) = 0 := by
  obtain ⟨m, hm, hl⟩ := need_ex 10 n 20 1 (by decide) (by decide) (qv_small 10 n 20 h0 (by omega))
  rw [written_eq (by decide) hm]
  exact read_back 10 n 20 _ m (by decide) (by decide) h0 hn hm (by decide) hl
theorem refDigits10_int (n : Int) (W : Nat) (wv : Int) (w : World) (h0 : 0 ≤ n) (hn : n ≤ 18446744073709551615) (hW1 : 1 ≤ W) (hW : W ≤ 16) (hv : wv = (W : Int)) :
    Calls Tryd.prog 27 #[.int .u64 n, .int .u64 10, .int .i64 wv] w fun e w' => e = .returned (.string (strOfNums (written 10 n W))) ∧ w = w' := by
  subst hv
  exact refDigits10_any n W w h0 hn hW1 hW
theorem refDigits16_int (n : Int) (W : Nat) (wv : Int) (w : World) (h0 : 0 ≤ n) (hn : n ≤ 18446744073709551615) (hW1 : 1 ≤ W) (hW : W ≤ 16) (hv : wv = (W : Int)) :
    Calls Tryd.prog 27 #[.int .u64 n, .int .u64 16, .int .i64 wv] w fun e w' => e = .returned (.string (strOfNums (written 16 n W))) ∧ w = w' := by
  subst hv
  exact refDigits16_any n W w h0 hn hW1 hW
end Go.Proofs.YtnmgjgeniaheoabDoor
