/- The contracts of package digit's Read and ReadDec, and of the document's own Read: what number any text is, or why it is none. -/
import Derived.Test.YtmdpgekbiohfbabDoorDig
namespace Go.Proofs.YtmdpgekbiohfbabDoor
open Go.ChangeShapes Go.WideShapes Go.ChangeAt Go.RowKit
set_option linter.unusedVariables false

/-- Digits to a base, one by one; none where the number would be above 2^64 - 1. -/
def scan (b : Int) : List Int → Int → Option Int
  | [], n => some n
  | c :: cs, n => if (18446744073709551615 - valOf c) / b < n then none else scan b cs (b * n + valOf c)
theorem drop_iat (xs : List Int) (k : Nat) (h : k < xs.length) : xs.drop k = iat xs k :: xs.drop (k + 1) := by
  rw [iat_eq _ _ h]; exact List.drop_eq_getElem_cons h
theorem scan_next (b : Int) (xs : List Int) (k : Nat) (m : Int) (h : k < xs.length) (hn : ¬ (18446744073709551615 - valOf (iat xs k)) / b < m) :
    scan b (xs.drop k) m = scan b (xs.drop (k + 1)) (b * m + valOf (iat xs k)) := by
  rw [drop_iat xs k h, scan, if_neg hn]
theorem scan_over (b : Int) (xs : List Int) (k : Nat) (m : Int) (h : k < xs.length) (hn : (18446744073709551615 - valOf (iat xs k)) / b < m) :
    scan b (xs.drop k) m = none := by
  rw [drop_iat xs k h, scan, if_pos hn]
def numV (b : Int) (most : Nat) (xs : List Int) : Int := if chk b most xs = 0 then (match scan b xs 0 with | some n => n | none => 0) else 0
def numE (b : Int) (most : Nat) (xs : List Int) : Int := if chk b most xs = 0 then (match scan b xs 0 with | some _ => 0 | none => 50) else chk b most xs
theorem num_bad {b : Int} {most : Nat} {xs : List Int} (h : chk b most xs ≠ 0) : numV b most xs = 0 ∧ numE b most xs = chk b most xs := by simp [numV, numE, h]
theorem num_some {b : Int} {most : Nat} {xs : List Int} {n : Int} (h : chk b most xs = 0) (hs : scan b xs 0 = some n) : numV b most xs = n ∧ numE b most xs = 0 := by simp [numV, numE, h, hs]
theorem num_none {b : Int} {most : Nat} {xs : List Int} (h : chk b most xs = 0) (hs : scan b xs 0 = none) : numV b most xs = 0 ∧ numE b most xs = 50 := by simp [numV, numE, h, hs]
theorem chk_good {b : Int} {most : Nat} {xs : List Int} (h : chk b most xs = 0) : allGood b xs = true ∧ xs.length ≤ most := by
  unfold chk at h
  split at h
  · omega
  · split at h
    · omega
    · split at h
      · omega
      · rename_i h2 h3; exact ⟨by simpa using h2, by omega⟩
theorem chk_cases (b : Int) (most : Nat) (xs : List Int) : chk b most xs = 0 ∨ chk b most xs = 12 ∨ chk b most xs = 21 := by
  unfold chk; split <;> (try split) <;> (try split) <;> simp
/-- At most 16 digits to the base 16 are a number below 2^64. -/
def p16 (k : Nat) : Int := ((16 ^ k : Nat) : Int)
theorem p16_next (k : Nat) : p16 (k + 1) = 16 * p16 k := by unfold p16; rw [Nat.pow_succ]; omega
theorem p16_le (k : Nat) (h : k ≤ 15) : p16 k ≤ 1152921504606846976 := by
  have := Nat.pow_le_pow_right (show 0 < 16 by decide) h
  unfold p16
  have e : (16 : Nat) ^ 15 = 1152921504606846976 := by decide
  rw [e] at this; omega
theorem u64_step (n v : Int) (n0 : 0 ≤ n) (n1 : n < 1152921504606846976) (v0 : 0 ≤ v) (v1 : v < 16) :
    bits .or .u64 (n * 16) v = 16 * n + v := by
  have h := bits_join .u64 64 (by decide) (fun n h0 h1 => by rw [IntKind.wrap_u64]; omega) 4 (n * 16) v (by omega) (by omega) (by omega) v0 (by omega) (by omega)
  rw [h]; omega
set_option maxRecDepth 100000 in
theorem readHex_any (s : ByteArray) (w : World) (hs : s.size ≤ maxLen) :
    Calls Tryd.prog 134 #[.string s] w fun e w' => e = .returned (.tuple #[.int .u64 (numV 16 16 (nums s)), .int .i64 (numE 16 16 (nums s))]) ∧ w = w' := by
  have HL := Lib.hid (nums_len s)
  have hs' := hs
  unfold maxLen at hs'
  rcases Classical.em (chk 16 16 (nums s) = 0) with h0 | h0
  · have hne : (chk 16 16 (nums s) != 0) = false := by rw [h0]; rfl
    have hgd := chk_good h0
    have hlen : s.size ≤ 16 := by have := hgd.2; rw [HL.out] at this; exact this
    have HG := Lib.hid hgd
    have H0 := Lib.hid h0
    have hb := get_nums s
    clear hgd h0
    go_enter Tryd.func134, Tryd.ntmps134
    go_wp2_with (go_at_call 137; refine (check_any _ _ 16 _ hs (by omega) (by omega) (by omega)).mono ?_; rintro e w' ⟨rfl, rfl⟩)
    go_loop [5, 14] (fun n i => ∃ (k : Nat) (m : Int), k ≤ s.size ∧ i = .int .i64 k ∧ n = .int .u64 m ∧ 0 ≤ m ∧ m < p16 k ∧ Hid (scan 16 ((nums s).drop k) m = scan 16 (nums s) 0)) (fun _ i => s.size - (intOf i).toNat)
    case atStart => exact ⟨0, 0, Nat.zero_le _, rfl, rfl, by omega, by decide, Lib.hid rfl⟩
    case round =>
      obtain ⟨k, m, hk, rfl, rfl, m0, m1, hsc⟩ := hrel
      by_cases hlt : k < s.size
      · obtain ⟨r0, r1⟩ := iat_nums_range s k
        obtain ⟨v0, v1⟩ := valOf_range (iat (nums s) k)
        have v2 : valOf (iat (nums s) k) < 16 := allGood_at 16 (nums s) k (by rw [HL.out]; exact hlt) HG.out.1
        have hp := p16_le k (by omega)
        have m2 : m < 1152921504606846976 := by omega
        have ST := Lib.hid (u64_step m _ m0 m2 v0 v2)
        have PN := Lib.hid (p16_next k)
        have hsn : Hid (scan 16 ((nums s).drop (k + 1)) (16 * m + valOf (iat (nums s) k)) = scan 16 (nums s) 0) := Lib.hid ((scan_next _ _ _ _ (by rw [HL.out]; exact hlt) (by omega)).symm.trans hsc.out)
        clear hp
        go_wp2_with (go_at_call 138; refine (value_any _ _ r0 r1).mono ?_; rintro e w' ⟨rfl, rfl⟩)
        go_round
        case rel => exact ⟨k + 1, 16 * m + valOf (iat (nums s) k), by omega, by go_num, by rw [ST.out], by omega, by rw [PN.out]; omega, hsn⟩
        case measure => simp [intOf]; omega
      · have hv : Hid (numV 16 16 (nums s) = m ∧ numE 16 16 (nums s) = 0) := Lib.hid (num_some H0.out (by
          rw [← hsc.out, List.drop_eq_nil_of_le (by rw [HL.out]; omega)]; rfl))
        go_wp2
        go_ret2
        rw [hv.out.1, hv.out.2]
        exact ⟨rfl, rfl⟩
  · have hne : (chk 16 16 (nums s) != 0) = true := by rw [bne_iff_ne]; exact h0
    have hv := Lib.hid (num_bad h0)
    clear h0
    go_enter Tryd.func134, Tryd.ntmps134
    go_wp2_with (go_at_call 137; refine (check_any _ _ 16 _ hs (by omega) (by omega) (by omega)).mono ?_; rintro e w' ⟨rfl, rfl⟩)
    go_ret2
    rw [hv.out.1, hv.out.2]
    exact ⟨rfl, rfl⟩
end Go.Proofs.YtmdpgekbiohfbabDoor
