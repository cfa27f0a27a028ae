/- Contracts of package flags' calls that take bits of the codes: which of them are on; the codes with them on, or off; N and Z. -/
import Derived.Test.YtfjkbjkbpbnalabDoorMem
import Derived.Handy
namespace Go.Proofs.YtfjkbjkbpbnalabDoor
open Go.ChangeShapes Go.WideShapes Go.ChangeAt Go.RowKit
set_option linter.unusedVariables false

/-- The bits that are 1 in one of these. -/
def orAll (zs : List Int) : Int := zs.foldl (fun m x => bits .or .u8 m x) 0
theorem bits_u8_range (op : BinOp) (x y : Int) : 0 ≤ bits op .u8 x y ∧ bits op .u8 x y < 256 := by
  have := bounds_u8 (wf_bits op .u8 x y)
  omega
theorem orAll_range (zs : List Int) : 0 ≤ orAll zs ∧ orAll zs < 256 := by
  unfold orAll
  rcases List.eq_nil_or_concat zs with rfl | ⟨ys, y, rfl⟩
  · simp
  · simp only [List.concat_eq_append, List.foldl_append, List.foldl_cons, List.foldl_nil]
    exact bits_u8_range _ _ _
set_option maxHeartbeats 400000 in
theorem mask_any (A : Option Addr) (n c : Nat) (zs : List Int) (B : Nat) (w : World) (h : Ints .u8 w B A n zs) (hn : n ≤ 9223372036854775807) :
    Calls Tryd.prog 60 #[.slice A n c] w fun e w' => e = .returned (.int .u8 (orAll zs)) ∧ w = w' := by
  obtain ⟨hl, hwf, hc⟩ := h
  have hrel0 : orAll (zs.take 0) = 0 := rfl
  rcases Nat.eq_zero_or_pos n with h0 | h0
  · subst h0
    obtain rfl : zs = [] := List.eq_nil_of_length_eq_zero hl
    clear hc
    go_enter Tryd.func60, Tryd.ntmps60
    go_wp2
    go_loop [3, 8] (fun m i => i = .int .i64 0 ∧ m = .int .u8 0) (fun _ _ => 0)
    case atStart => exact ⟨rfl, rfl⟩
    case round =>
      obtain ⟨rfl, rfl⟩ := hrel
      go_wp2
      go_ret
      exact ⟨rfl, rfl⟩
  · obtain ⟨b, off, rfl, hb, hcell⟩ := hc h0
    go_enter Tryd.func60, Tryd.ntmps60
    go_wp2
    go_loop [3, 8] (fun m i => ∃ k : Nat, k ≤ n ∧ i = .int .i64 k ∧ m = .int .u8 (orAll (zs.take k))) (fun _ i => n - (intOf i).toNat)
    case atStart => exact ⟨0, Nat.zero_le _, rfl, rfl⟩
    case round =>
      obtain ⟨k, hk, rfl, rfl⟩ := hrel
      by_cases hlt : k < n
      · have hck := hcell k hlt
        have HS := Lib.hid (foldl_take (fun m x => bits .or .u8 m x) zs 0 k (by omega))
        clear hcell
        go_wp2
        go_round
        case rel => exact ⟨k + 1, by omega, by go_num, by unfold orAll; rw [HS.out]⟩
        case measure => simp [intOf]; omega
      · have HE : Hid (zs.take k = zs) := Lib.hid (List.take_of_length_le (by omega))
        clear hcell
        go_wp2
        go_ret
        exact ⟨ret_int (by rw [HE.out]), rfl⟩
theorem has_any (cc : Int) (A : Option Addr) (n c : Nat) (zs : List Int) (B : Nat) (w : World) (h : Ints .u8 w B A n zs) (hn : n ≤ 9223372036854775807) :
    Calls Tryd.prog 40 #[.int .u8 cc, .slice A n c] w fun e w' => e = .returned (.bool (bits .and .u8 cc (orAll zs) == orAll zs)) ∧ w = w' := by
  go_enter Tryd.func40, Tryd.ntmps40
  go_wp2_with (go_at_call 60; refine (mask_any _ _ _ _ _ _ h hn).mono ?_; rintro e w' ⟨rfl, rfl⟩)
  go_ret
  exact ⟨rfl, rfl⟩
def withOf (cc : Int) (on : Bool) (m : Int) : Int := if on then bits .or .u8 cc m else bits .andNot .u8 cc m
def nzOf (cc r half : Int) : Int := withOf (withOf cc (decide (half ≤ r)) (orAll [8])) (r == 0) (orAll [4])
theorem with_any (cc : Int) (on : Bool) (A : Option Addr) (n c : Nat) (zs : List Int) (B : Nat) (w : World) (h : Ints .u8 w B A n zs) (hn : n ≤ 9223372036854775807) :
    Calls Tryd.prog 84 #[.int .u8 cc, .bool on, .slice A n c] w fun e w' => e = .returned (.int .u8 (withOf cc on (orAll zs))) ∧ w = w' := by
  cases on
  all_goals
    go_enter Tryd.func84, Tryd.ntmps84
    go_wp2_with (go_at_call 60; refine (mask_any _ _ _ _ _ _ h hn).mono ?_; rintro e w' ⟨rfl, rfl⟩)
    go_ret
    exact ⟨rfl, rfl⟩
end Go.Proofs.YtfjkbjkbpbnalabDoor
