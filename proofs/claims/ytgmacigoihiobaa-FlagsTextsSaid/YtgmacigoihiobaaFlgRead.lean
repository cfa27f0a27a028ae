/- The contract of package flags' Read. -/
import Derived.Test.YtgmacigoihiobaaFlgText
import Derived.Outline
namespace Go.Proofs.Ytgmacigoihiobaa
open Go.ChangeShapes Go.WideShapes Go.ChangeAt Go.RowKit
set_option linter.unusedVariables false
theorem index_letter (w : World) (k : Nat) (hk : k < 8) :
    (Instr.index 9 (.string ⟨#[69, 70, 72, 73, 78, 90, 86, 67]⟩) (.int .i64 (k : Int))).run Try.prog w = .ok (.int .u8 (iat letterNums k)) w := by
  rcases (show k = 0 ∨ k = 1 ∨ k = 2 ∨ k = 3 ∨ k = 4 ∨ k = 5 ∨ k = 6 ∨ k = 7 by omega) with rfl | rfl | rfl | rfl | rfl | rfl | rfl | rfl
  all_goals kernel_rfl
def readV (s : ByteArray) : Int := if isCodes (nums s) then readTo (nums s) 8 else 0
def readE (s : ByteArray) : Int := if isCodes (nums s) then 0 else 21
theorem isCodes_no (s : ByteArray) (k : Nat) (hk : k < 8) (h : okAt (nums s) k = false) : readV s = 0 ∧ readE s = 21 := by
  have : isCodes (nums s) = false := by unfold isCodes; rw [okTo_le _ k h 8 hk]; simp
  simp [readV, readE, this]
set_option maxRecDepth 100000 in
theorem read_any (s : ByteArray) (w : World) (hs : s.size ≤ maxLen) :
    Calls Try.prog 44 #[.string s] w fun e w' => e = .returned (.tuple #[.int .u8 (readV s), .int .i64 (readE s)]) ∧ Below w.heap.size w w' := by
  unfold maxLen at hs
  by_cases h8 : s.size = 8
  · have hne : ((s.size : Int) != 8) = false := by rw [h8]; rfl
    have H8 := Lib.hid h8
    have hlo : 8 ≤ s.size := by omega
    have hb := get_nums s
    clear h8
    go_enter Try.func44, Try.ntmps44
    go_wp2
    go_loopw [4, 9] (fun c i wr => ∃ k : Nat, k ≤ 8 ∧ i = .int .i64 k ∧ c = .int .u8 (readTo (nums s) k) ∧ Hid (okTo (nums s) k = true) ∧ Below w.heap.size w wr) (fun _ i _ => 8 - (intOf i).toNat)
    case atStart => exact ⟨0, Nat.zero_le _, rfl, rfl, Lib.hid rfl, Below.refl _ _⟩
    case round =>
      obtain ⟨k, hk, rfl, rfl, hok, hbel⟩ := hrel
      have hsz := hbel.size
      by_cases hlt : k < 8
      · have hix := index_letter wr k hlt
        cases h1 : (iat (nums s) k == iat letterNums k)
        · cases h2 : (iat (nums s) k == 45)
          · have hno : Hid (okAt (nums s) k = false) := Lib.hid (by unfold okAt; rw [h1, h2]; rfl)
            go_wp2
            go_ret2
            have := isCodes_no s k hlt hno.out
            rw [this.1, this.2]
            exact ⟨rfl, hbel⟩
          · have hyes : Hid (okAt (nums s) k = true) := Lib.hid (by unfold okAt; rw [h1, h2]; rfl)
            have hst : Hid (readTo (nums s) (k + 1) = readTo (nums s) k) := Lib.hid (by simp only [readTo, h1]; rfl)
            go_wp2
            go_roundw
            case rel => exact ⟨k + 1, by omega, by go_num, by rw [hst.out], Lib.hid (by simp [okTo, hok.out, hyes.out]), hbel⟩
            case measure => simp [intOf]; omega
        · have hyes : Hid (okAt (nums s) k = true) := Lib.hid (by unfold okAt; rw [h1]; rfl)
          have hst : Hid (readTo (nums s) (k + 1) = bits .or .u8 (readTo (nums s) k) (bitOf k)) := Lib.hid (by simp only [readTo, h1]; rfl)
          have O := Lib.hid (or1 (bitOf k) (bitOf_range k).1 (bitOf_range k).2)
          go_wp2_with (first
            | (go_at_call 51; refine (bit_any _ _ hlt).mono ?_; rintro e w' ⟨rfl, rfl⟩)
            | (go_at_call 38; refine (with_any _ _ _ _ _ _ _ _ (Ints.new1 rfl (bitOf_wf k)) (by omega)).mono ?_; rintro e w' ⟨rfl, rfl⟩; rw [O.out]))
          go_roundw
          case rel => exact ⟨k + 1, by omega, by go_num, by rw [hst.out]; rfl, Lib.hid (by simp [okTo, hok.out, hyes.out]), by go_grown⟩
          case measure => simp [intOf]; omega
      · obtain rfl : k = 8 := by omega
        have hv : Hid (readV s = readTo (nums s) 8 ∧ readE s = 0) := Lib.hid (by
          have : isCodes (nums s) = true := by unfold isCodes; rw [nums_len, H8.out, hok.out]; rfl
          simp [readV, readE, this])
        go_wp2
        go_ret2
        rw [hv.out.1, hv.out.2]
        exact ⟨rfl, hbel⟩
  · have hne : ((s.size : Int) != 8) = true := by rw [bne_iff_ne]; omega
    have hv : Hid (readV s = 0 ∧ readE s = 21) := Lib.hid (by
      have : isCodes (nums s) = false := by
        unfold isCodes; rw [nums_len, show (s.size == 8) = false from beq_eq_false_iff_ne.2 h8]; rfl
      simp [readV, readE, this])
    clear h8
    go_enter Try.func44, Try.ntmps44
    go_wp2
    go_ret2
    rw [hv.out.1, hv.out.2]
    exact ⟨rfl, Below.refl _ _⟩
theorem alive03 (w : World) : Calls Try.prog 39 #[] w fun e w' => e = .returned (.bool true) ∧ Below w.heap.size w w' := by
  have e1 : ((strOfNums (ccText 130)).toList == [69, 45, 45, 45, 45, 45, 86, 45]) = true := by decide +kernel
  go_enter Try.func39, Try.ntmps39
  go_wp2_with (go_at_call 43; refine (text_any _ _ (by omega) (by omega)).mono ?_; rintro e w' ⟨rfl, hb⟩)
  go_ret
  exact ⟨rfl, hb⟩
theorem ccText_range (cc : Int) : ∀ x ∈ ccText cc, 0 ≤ x ∧ x < 256 := by
  intro x hx
  simp only [ccText, List.mem_map, List.mem_range] at hx
  obtain ⟨k, hk, rfl⟩ := hx
  unfold signAt
  split
  · rcases (show k = 0 ∨ k = 1 ∨ k = 2 ∨ k = 3 ∨ k = 4 ∨ k = 5 ∨ k = 6 ∨ k = 7 by omega) with rfl | rfl | rfl | rfl | rfl | rfl | rfl | rfl <;> decide
  · decide
theorem read_cc (cc : Int) (h0 : 0 ≤ cc) (h1 : cc < 256) : readV (strOfNums (ccText cc)) = cc ∧ readE (strOfNums (ccText cc)) = 0 := by
  obtain ⟨n, rfl⟩ := Int.eq_ofNat_of_zero_le h0
  have h := codes_fin ⟨n, by omega⟩
  unfold readV readE
  rw [str_nums _ (ccText_range _)]
  simp only [h.2, if_true]
  exact ⟨h.1, trivial⟩
theorem read_hit (s : ByteArray) (c : Nat) (hc : c < 256) (h : ccText (c : Int) = nums s) : readV s = (c : Int) ∧ readE s = 0 := by
  have := read_cc (c : Int) (by omega) (by omega)
  rw [h, nums_str] at this
  exact this
theorem read_miss (s : ByteArray) (h : ∀ c : Nat, c < 256 → ccText (c : Int) ≠ nums s) : readV s = 0 ∧ readE s = 21 := by
  have : isCodes (nums s) = false := by
    rw [Bool.eq_false_iff]
    intro hi
    have hb := codes_back _ hi
    have hr := readTo_range (nums s) 8
    obtain ⟨n, hn⟩ := Int.eq_ofNat_of_zero_le hr.1
    rw [hn] at hb
    exact h n (by omega) hb
  simp [readV, readE, this]
def Missed (s : ByteArray) (k : Nat) : Prop := ∀ c : Nat, c < k → ccText (c : Int) ≠ nums s
theorem missed_next {s : ByteArray} {k : Nat} (h : Missed s k) (hk : ccText (k : Int) ≠ nums s) : Missed s (k + 1) := fun c hc => by
  rcases Nat.lt_or_ge c k with h1 | h1
  · exact h c h1
  · obtain rfl : c = k := by omega
    exact hk
end Go.Proofs.Ytgmacigoihiobaa
