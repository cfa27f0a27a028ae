/- Contracts of package flags' Text and Read, and of the document's own Text. -/
import Derived.Test.YtgmacigoihiobaaFlgRef
import Derived.Outline
namespace Go.Proofs.Ytgmacigoihiobaa
open Go.ChangeShapes Go.WideShapes Go.ChangeAt Go.RowKit
set_option linter.unusedVariables false

def letterNums : List Int := [69, 70, 72, 73, 78, 90, 86, 67]
def bitOf (k : Nat) : Int := ((128 / 2 ^ k : Nat) : Int)
/-- The k-th sign of the codes' text. -/
def signAt (cc : Int) (k : Nat) : Int := if bits .and .u8 cc (bitOf k) == bitOf k then iat letterNums k else 45
/-- The codes' text after k signs: those that are still to come stand as letters. -/
def textTo (cc : Int) (k : Nat) : List Int := (List.range 8).map fun i => if i < k then signAt cc i else iat letterNums i
def ccText (cc : Int) : List Int := (List.range 8).map fun i => signAt cc i
theorem textTo_keep (cc : Int) (k : Nat) (hk : k < 8) (h : signAt cc k = iat letterNums k) : textTo cc (k + 1) = textTo cc k := by
  rcases (show k = 0 ∨ k = 1 ∨ k = 2 ∨ k = 3 ∨ k = 4 ∨ k = 5 ∨ k = 6 ∨ k = 7 by omega) with rfl | rfl | rfl | rfl | rfl | rfl | rfl | rfl
  all_goals simp [textTo, List.range, List.range.loop, h]
theorem textTo_set (cc : Int) (k : Nat) (hk : k < 8) (h : signAt cc k = 45) :
    ((textTo cc k).map (Value.int .u8)).toArray.setIfInBounds k (.int .u8 45) = ((textTo cc (k + 1)).map (Value.int .u8)).toArray := by
  rcases (show k = 0 ∨ k = 1 ∨ k = 2 ∨ k = 3 ∨ k = 4 ∨ k = 5 ∨ k = 6 ∨ k = 7 by omega) with rfl | rfl | rfl | rfl | rfl | rfl | rfl | rfl
  all_goals simp [textTo, List.range, List.range.loop, h]
theorem textTo_len (cc : Int) (k : Nat) : (textTo cc k).length = 8 := by simp [textTo]
theorem textTo_all (cc : Int) : textTo cc 8 = ccText cc := by simp [textTo, ccText, List.range, List.range.loop]
theorem bitOf_range (k : Nat) : 0 ≤ bitOf k ∧ bitOf k < 256 := by
  unfold bitOf
  have := Nat.div_le_self 128 (2 ^ k)
  generalize 128 / 2 ^ k = m at *
  omega
theorem bitOf_pos (k : Nat) (hk : k < 8) : 0 < bitOf k := by
  rcases (show k = 0 ∨ k = 1 ∨ k = 2 ∨ k = 3 ∨ k = 4 ∨ k = 5 ∨ k = 6 ∨ k = 7 by omega) with rfl | rfl | rfl | rfl | rfl | rfl | rfl | rfl <;> decide
theorem bitOf_half (k : Nat) : bitOf k / 2 = bitOf (k + 1) := by
  unfold bitOf
  rw [Nat.pow_succ, ← Nat.div_div_eq_div_mul]
  omega
theorem bitOf_wf (k : Nat) : (Lit.int .u8 (bitOf k)).wf = true := by
  have := bitOf_range k
  simp [Lit.wf, IntKind.min, IntKind.max, IntKind.signed, IntKind.bits]; omega
theorem bytes_string (w : World) (g : Nat) (xs : List Int) (c : Nat) (fr : Nat × Nat) (h : Blk w g 5 (xs.map (Value.int .u8)).toArray fr) (n : Nat) (hn : n = xs.length) :
    (convert 29 9 (.slice (some ⟨g, 0, none⟩) n c)).run Try.prog w = .ok (.string (strOfNums xs)) w :=
  run_convert_bytes_arg w 29 5 Try.underlying29 Try.underlying5 g 0 n c xs hn.symm (fun i hi => by
    rw [Nat.zero_add, h.cell]
    simp [show i < xs.length by omega]) 9 Try.underlying9
theorem bit_any (k : Nat) (w : World) (hk : k < 8) : Calls Try.prog 51 #[.int .i64 k] w fun e w' => e = .returned (.int .u8 (bitOf k)) ∧ w = w' := by
  rcases (show k = 0 ∨ k = 1 ∨ k = 2 ∨ k = 3 ∨ k = 4 ∨ k = 5 ∨ k = 6 ∨ k = 7 by omega) with rfl | rfl | rfl | rfl | rfl | rfl | rfl | rfl
  all_goals
    go_enter Try.func51, Try.ntmps51
    go_wp2
    go_ret
    exact ⟨rfl, rfl⟩
theorem text_any (cc : Int) (w : World) (h0 : 0 ≤ cc) (h1 : cc < 256) :
    Calls Try.prog 43 #[.int .u8 cc] w fun e w' => e = .returned (.string (strOfNums (ccText cc))) ∧ Below w.heap.size w w' := by
  have kc := fun (w : World) (C : Array Value) (n c : Nat) => Lib.run_convert_bytes_const (P := Try.prog) w 29 5 C n c Try.underlying29 Try.underlying5
  go_enter Try.func43, Try.ntmps43
  go_wp2
  clear kc
  go_loopw [9] (fun i wr => ∃ k : Nat, k ≤ 8 ∧ i = .int .i64 k ∧ Blk wr w.heap.size 5 ((textTo cc k).map (Value.int .u8)).toArray (8, 9) ∧ Below w.heap.size w wr) (fun i _ => 8 - (intOf i).toNat)
  case atStart => exact ⟨0, Nat.zero_le _, rfl, Blk.new _ _ _ _, by go_grown⟩
  case round =>
    obtain ⟨k, hk, rfl, hblk, hbel⟩ := hrel
    have hsz := hblk.lt
    by_cases hlt : k < 8
    · have hck : wr.cell? ⟨w.heap.size, k, none⟩ = some (.int .u8 (iat (textTo cc k) k)) := by
        rw [hblk.cell]
        have hl := textTo_len cc k
        simp [iat_eq, hl, hlt]
      have hfk := hblk.frozen' k hlt
      have O := Lib.hid (or1 (bitOf k) (bitOf_range k).1 (bitOf_range k).2)
      cases hb : (bits .and .u8 cc (bitOf k) == bitOf k)
      · have hsg : Hid (signAt cc k = 45) := Lib.hid (by unfold signAt; rw [hb]; rfl)
        go_wp2_with (first
          | (go_at_call 51; refine (bit_any _ _ hlt).mono ?_; rintro e w' ⟨rfl, rfl⟩)
          | (go_at_call 37; refine (has_any _ _ _ _ _ _ _ (Ints.new1 rfl (bitOf_wf k)) (by omega)).mono ?_; rintro e w' ⟨rfl, rfl⟩; rw [O.out]))
        go_roundw
        case rel => exact ⟨k + 1, by omega, by go_num, by rw [← textTo_set cc k hlt hsg.out]; exact (hblk.set_ k _).alloc _, by go_grown⟩
        case measure => simp [intOf]; omega
      · have hsg : Hid (signAt cc k = iat letterNums k) := Lib.hid (by unfold signAt; rw [hb]; rfl)
        go_wp2_with (first
          | (go_at_call 51; refine (bit_any _ _ hlt).mono ?_; rintro e w' ⟨rfl, rfl⟩)
          | (go_at_call 37; refine (has_any _ _ _ _ _ _ _ (Ints.new1 rfl (bitOf_wf k)) (by omega)).mono ?_; rintro e w' ⟨rfl, rfl⟩; rw [O.out]))
        go_roundw
        case rel => exact ⟨k + 1, by omega, by go_num, by rw [textTo_keep cc k hlt hsg.out]; exact hblk.alloc _, by go_grown⟩
        case measure => simp [intOf]; omega
    · obtain rfl : k = 8 := by omega
      rw [textTo_all] at hblk
      have hcv := bytes_string wr w.heap.size (ccText cc) 8 _ hblk 8 (by simp [ccText])
      go_wp2
      go_ret
      exact ⟨rfl, hbel⟩
def signRef (cc : Int) (k : Nat) : Int := if hasRef cc (bitOf k) then iat letterNums k else 45
def refTo (cc : Int) (k : Nat) : List Int := (List.range k).map (signRef cc)
theorem signRef_fin : ∀ (cc : Fin 256) (k : Fin 8), signRef (cc.val : Int) k.val = signAt (cc.val : Int) k.val := by decide +kernel
theorem refTo_cc (cc : Int) (h0 : 0 ≤ cc) (h1 : cc < 256) : refTo cc 8 = ccText cc := by
  unfold refTo ccText
  apply List.map_congr_left
  intro k hk
  obtain ⟨n, rfl⟩ := Int.eq_ofNat_of_zero_le h0
  exact signRef_fin ⟨n, by omega⟩ ⟨k, by simpa using hk⟩
theorem refTo_next (cc : Int) (k : Nat) : refTo cc (k + 1) = refTo cc k ++ [signRef cc k] := by
  unfold refTo; rw [List.range_succ, List.map_append]; rfl
theorem slice_letter (w : World) (k : Nat) (hk : k < 8) :
    (Instr.slice 9 (.string ⟨#[69, 70, 72, 73, 78, 90, 86, 67]⟩) (some (.int .i64 (k : Int))) (some (.int .i64 ((k : Int) + 1))) none).run Try.prog w = .ok (.string (strOfNums [iat letterNums k])) w := by
  rcases (show k = 0 ∨ k = 1 ∨ k = 2 ∨ k = 3 ∨ k = 4 ∨ k = 5 ∨ k = 6 ∨ k = 7 by omega) with rfl | rfl | rfl | rfl | rfl | rfl | rfl | rfl
  all_goals kernel_rfl
set_option maxRecDepth 100000 in
theorem refText_any (cc : Int) (w : World) (h0 : 0 ≤ cc) (h1 : cc < 256) :
    Calls Try.prog 45 #[.int .u8 cc] w fun e w' => e = .returned (.string (strOfNums (ccText cc))) ∧ w = w' := by
  go_enter Try.func45, Try.ntmps45
  go_wp2
  go_loop [3, 4, 5] (fun s b i => ∃ k : Nat, k ≤ 8 ∧ i = .int .i64 k ∧ b = .int .u8 (bitOf k) ∧ s = .string (strOfNums (refTo cc k))) (fun _ _ i => 8 - (intOf i).toNat)
  case atStart => exact ⟨0, Nat.zero_le _, rfl, rfl, rfl⟩
  case round =>
    obtain ⟨k, hk, rfl, rfl, rfl⟩ := hrel
    by_cases hlt : k < 8
    · have hp := bitOf_pos k hlt
      obtain ⟨hq0, hq1⟩ := bitOf_range k
      have hH := Lib.hid (bitOf_half k)
      have hs : (strOfNums (refTo cc k)).size ≤ 8 := by rw [strOfNums_size]; simp [refTo]; omega
      cases hb : hasRef cc (bitOf k)
      · have hsg : Hid (signRef cc k = 45) := Lib.hid (by unfold signRef; rw [hb]; rfl)
        go_wp2_with (go_at_call 35; refine (hasRef_any _ _ _ h0 h1 hp hq1).mono ?_; rintro e w' ⟨rfl, rfl⟩)
        go_round
        case rel => exact ⟨k + 1, by omega, by go_num, by rw [hH.out], by rw [refTo_next, hsg.out]; exact congrArg Value.string (strOf_append _ [45])⟩
        case measure => simp [intOf]; omega
      · have hsg : Hid (signRef cc k = iat letterNums k) := Lib.hid (by unfold signRef; rw [hb]; rfl)
        have hsl := slice_letter w k hlt
        have hs1 : (strOfNums [iat letterNums k]).size ≤ 1 := by rw [strOfNums_size]; simp
        go_wp2_with (go_at_call 35; refine (hasRef_any _ _ _ h0 h1 hp hq1).mono ?_; rintro e w' ⟨rfl, rfl⟩)
        go_round
        case rel => exact ⟨k + 1, by omega, by go_num, by rw [hH.out], by rw [refTo_next, hsg.out]; exact congrArg Value.string (strOf_append _ [iat letterNums k])⟩
        case measure => simp [intOf]; omega
    · obtain rfl : k = 8 := by omega
      go_wp2
      go_ret
      exact ⟨congrArg (fun l => Ending.returned (.string (strOfNums l))) (refTo_cc cc h0 h1), rfl⟩
def okAt (xs : List Int) (k : Nat) : Bool := iat xs k == iat letterNums k || iat xs k == 45
def readTo (xs : List Int) : Nat → Int
  | 0 => 0
  | k + 1 => if iat xs k == iat letterNums k then bits .or .u8 (readTo xs k) (bitOf k) else readTo xs k
def okTo (xs : List Int) : Nat → Bool
  | 0 => true
  | k + 1 => okTo xs k && okAt xs k
def isCodes (xs : List Int) : Bool := xs.length == 8 && okTo xs 8
theorem okTo_le (xs : List Int) (k : Nat) (h : okAt xs k = false) : ∀ m, k < m → okTo xs m = false
  | 0, hm => absurd hm (by omega)
  | m + 1, hm => by
    unfold okTo
    rcases Nat.lt_or_ge k m with h1 | h1
    · rw [okTo_le xs k h m h1]; rfl
    · obtain rfl : k = m := by omega
      rw [h]; simp
theorem readTo_range (xs : List Int) : ∀ k, 0 ≤ readTo xs k ∧ readTo xs k < 256
  | 0 => by simp [readTo]
  | k + 1 => by
    unfold readTo
    split
    · exact bits_u8_range _ _ _
    · exact readTo_range xs k
theorem codes_fin : ∀ c : Fin 256, readTo (ccText (c.val : Int)) 8 = (c.val : Int) ∧ isCodes (ccText (c.val : Int)) = true := by decide +kernel
theorem codes_bools : ∀ b0 b1 b2 b3 b4 b5 b6 b7 : Bool, ccText (readTo [if b0 then 69 else 45, if b1 then 70 else 45, if b2 then 72 else 45, if b3 then 73 else 45, if b4 then 78 else 45, if b5 then 90 else 45, if b6 then 86 else 45, if b7 then 67 else 45] 8) =
    [if b0 then 69 else 45, if b1 then 70 else 45, if b2 then 72 else 45, if b3 then 73 else 45, if b4 then 78 else 45, if b5 then 90 else 45, if b6 then 86 else 45, if b7 then 67 else 45] := by decide +kernel
theorem codes_back (xs : List Int) (h : isCodes xs = true) : ccText (readTo xs 8) = xs := by
  match xs with
  | [x0, x1, x2, x3, x4, x5, x6, x7] =>
    simp [isCodes, okTo, okAt, iat, letterNums] at h
    have key : ∀ (x l : Int), (x = l ∨ x = 45) → ∃ b : Bool, x = if b then l else 45 := fun x l h => by
      rcases h with h | h
      · exact ⟨true, h⟩
      · exact ⟨false, h⟩
    obtain ⟨⟨⟨⟨⟨⟨⟨h0, h1⟩, h2⟩, h3⟩, h4⟩, h5⟩, h6⟩, h7⟩ := h
    obtain ⟨b0, rfl⟩ := key _ _ h0
    obtain ⟨b1, rfl⟩ := key _ _ h1
    obtain ⟨b2, rfl⟩ := key _ _ h2
    obtain ⟨b3, rfl⟩ := key _ _ h3
    obtain ⟨b4, rfl⟩ := key _ _ h4
    obtain ⟨b5, rfl⟩ := key _ _ h5
    obtain ⟨b6, rfl⟩ := key _ _ h6
    obtain ⟨b7, rfl⟩ := key _ _ h7
    exact codes_bools b0 b1 b2 b3 b4 b5 b6 b7
  | [] | [_] | [_, _] | [_, _, _] | [_, _, _, _] | [_, _, _, _, _] | [_, _, _, _, _, _] | [_, _, _, _, _, _, _] => simp [isCodes] at h
  | _ :: _ :: _ :: _ :: _ :: _ :: _ :: _ :: _ :: _ => simp [isCodes] at h
end Go.Proofs.Ytgmacigoihiobaa
