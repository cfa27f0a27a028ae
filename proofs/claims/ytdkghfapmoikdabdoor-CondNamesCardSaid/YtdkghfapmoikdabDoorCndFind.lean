/- The contract of package cond's Find. -/
import Derived.Test.YtdkghfapmoikdabDoorCndRN
namespace Go.Proofs.YtdkghfapmoikdabDoor
open Go.ChangeShapes Go.WideShapes Go.ChangeAt Go.RowKit
set_option linter.unusedVariables false
theorem ret_find {a b : Int} {p q : Bool} (h : a = b) (h2 : p = q) : Ending.returned (.tuple #[.int .i64 a, .bool p]) = .returned (.tuple #[.int .i64 b, .bool q]) := by rw [h, h2]
/-- The first name, from number k on, that is this text. -/
def isName (s : ByteArray) (k : Nat) : Bool := (nameS k).toList == s.toList
def foundIn (s : ByteArray) : Nat → Nat → Int × Bool
  | 0, _ => (0, false)
  | m + 1, k => if isName s k then ((k : Int), true) else foundIn s m (k + 1)
def lastIn (s : ByteArray) : Nat → Int × Bool
  | 0 => (0, false)
  | k + 1 => if isName s k then ((k : Int), true) else lastIn s k
theorem found_none (s : ByteArray) (h : ∀ k, k < 16 → isName s k = false) : foundIn s 16 0 = (0, false) ∧ lastIn s 16 = (0, false) := by
  have key1 : ∀ m k, m + k = 16 → foundIn s m k = (0, false) := by
    intro m
    induction m with
    | zero => intro k _; rfl
    | succ m ih => intro k hk; unfold foundIn; rw [h k (by omega), ih (k + 1) (by omega)]; rfl
  have key2 : ∀ k, k ≤ 16 → lastIn s k = (0, false) := by
    intro k
    induction k with
    | zero => intro _; rfl
    | succ k ih => intro hk; unfold lastIn; rw [h k (by omega), ih (by omega)]; rfl
  exact ⟨key1 16 0 rfl, key2 16 (Nat.le_refl _)⟩
set_option maxRecDepth 100000 in
theorem found_last (s : ByteArray) : foundIn s 16 0 = lastIn s 16 := by
  by_cases h : ∃ j, j < 16 ∧ isName s j = true
  · obtain ⟨j, hj, hn⟩ := h
    have hs : s.toList = (nameS j).toList := by unfold isName at hn; rw [beq_iff_eq] at hn; exact hn.symm
    have e : ∀ k, isName s k = isName (nameS j) k := fun k => by unfold isName; rw [hs]
    have e1 : ∀ m k, foundIn s m k = foundIn (nameS j) m k := by
      intro m
      induction m with
      | zero => intro k; rfl
      | succ m ih => intro k; unfold foundIn; rw [e, ih]
    have e2 : ∀ k, lastIn s k = lastIn (nameS j) k := by
      intro k
      induction k with
      | zero => rfl
      | succ k ih => unfold lastIn; rw [e, ih]
    rw [e1, e2]
    rcases (show j = 0 ∨ j = 1 ∨ j = 2 ∨ j = 3 ∨ j = 4 ∨ j = 5 ∨ j = 6 ∨ j = 7 ∨ j = 8 ∨ j = 9 ∨ j = 10 ∨ j = 11 ∨ j = 12 ∨ j = 13 ∨ j = 14 ∨ j = 15 from by omega) with rfl | rfl | rfl | rfl | rfl | rfl | rfl | rfl | rfl | rfl | rfl | rfl | rfl | rfl | rfl | rfl
    all_goals decide +kernel
  · have hno : ∀ k, k < 16 → isName s k = false := fun k hk => by
      cases hc : isName s k
      · rfl
      · exact absurd ⟨k, hk, hc⟩ h
    have := found_none s hno
    rw [this.1, this.2]
theorem found_HS : foundIn ⟨#[67, 67]⟩ 16 0 = (4, true) := by decide +kernel
theorem found_LO : foundIn ⟨#[67, 83]⟩ 16 0 = (5, true) := by decide +kernel
theorem names_agg (w : World) (hT : NamesAt w) (k : Nat) (hk : k < 16) :
    (Instr.index 32 (.agg #[.string (nameS 0), .string (nameS 1), .string (nameS 2), .string (nameS 3), .string (nameS 4), .string (nameS 5), .string (nameS 6), .string (nameS 7), .string (nameS 8), .string (nameS 9), .string (nameS 10), .string (nameS 11), .string (nameS 12), .string (nameS 13), .string (nameS 14), .string (nameS 15)]) (.int .i64 (k : Int))).run Tryd.prog w = .ok (.string (nameS k)) w := by
  rcases (show k = 0 ∨ k = 1 ∨ k = 2 ∨ k = 3 ∨ k = 4 ∨ k = 5 ∨ k = 6 ∨ k = 7 ∨ k = 8 ∨ k = 9 ∨ k = 10 ∨ k = 11 ∨ k = 12 ∨ k = 13 ∨ k = 14 ∨ k = 15 by omega) with rfl | rfl | rfl | rfl | rfl | rfl | rfl | rfl | rfl | rfl | rfl | rfl | rfl | rfl | rfl | rfl
  all_goals kernel_rfl
set_option maxRecDepth 100000 in
set_option maxHeartbeats 2000000 in
theorem find_HS (w : World) (hT : NamesAt w) :
    Calls Tryd.prog 12 #[.string ⟨#[72, 83]⟩] w fun e w' => e = .returned (.tuple #[.int .i64 (foundIn ⟨#[67, 67]⟩ 16 0).1, .bool (foundIn ⟨#[67, 67]⟩ 16 0).2]) ∧ w = w' := by
  have HT := Lib.hid hT
  have c0 := hT 0 (by decide)
  have c1 := hT 1 (by decide)
  have c2 := hT 2 (by decide)
  have c3 := hT 3 (by decide)
  have c4 := hT 4 (by decide)
  have c5 := hT 5 (by decide)
  have c6 := hT 6 (by decide)
  have c7 := hT 7 (by decide)
  have c8 := hT 8 (by decide)
  have c9 := hT 9 (by decide)
  have c10 := hT 10 (by decide)
  have c11 := hT 11 (by decide)
  have c12 := hT 12 (by decide)
  have c13 := hT 13 (by decide)
  have c14 := hT 14 (by decide)
  have c15 := hT 15 (by decide)
  clear hT
  go_enter Tryd.func12, Tryd.ntmps12
  go_wp2
  go_loop [12] (fun i => ∃ k : Nat, k ≤ 16 ∧ i = .int .i64 k ∧ Hid (foundIn ⟨#[67, 67]⟩ 16 0 = foundIn ⟨#[67, 67]⟩ (16 - k) k)) (fun i => 16 - (intOf i).toNat)
  case atStart => exact ⟨0, Nat.zero_le _, rfl, Lib.hid rfl⟩
  case round =>
    obtain ⟨k, hk, rfl, hF⟩ := hrel
    by_cases hlt : k < 16
    · have hix := names_agg w HT.out k hlt
      have h0 : (0 : Int) ≤ (k : Int) := by omega
      have h16 : (k : Int) < 16 := by omega
      cases hn : isName ⟨#[67, 67]⟩ k
      · have e1 : ((nameS k).toList == [67, 67]) = false := by
          have h := hn
          unfold isName at h
          rw [ByteArray.toList_eq ⟨#[67, 67]⟩] at h
          exact h
        have HN : Hid (foundIn ⟨#[67, 67]⟩ (16 - k) k = foundIn ⟨#[67, 67]⟩ (16 - (k + 1)) (k + 1)) := Lib.hid (by rw [show 16 - k = (16 - (k + 1)) + 1 by omega]; simp only [foundIn, hn]; rfl)
        clear hn
        go_wp2
        go_round
        case rel => exact ⟨k + 1, by omega, by go_num, Lib.hid (by rw [hF.out, HN.out])⟩
        case measure => simp [intOf]; omega
      · have e1 : ((nameS k).toList == [67, 67]) = true := by
          have h := hn
          unfold isName at h
          rw [ByteArray.toList_eq ⟨#[67, 67]⟩] at h
          exact h
        have HN : Hid (foundIn ⟨#[67, 67]⟩ (16 - k) k = ((k : Int), true)) := Lib.hid (by rw [show 16 - k = (16 - (k + 1)) + 1 by omega]; simp only [foundIn, hn]; rfl)
        clear hn
        go_wp2
        go_ret2
        exact ⟨ret_find (by rw [hF.out, HN.out]; try rfl) (by rw [hF.out, HN.out]; try rfl), rfl⟩
    · obtain rfl : k = 16 := by omega
      go_wp2
      go_ret2
      exact ⟨ret_find (by rw [hF.out]; try rfl) (by rw [hF.out]; try rfl), rfl⟩
set_option maxRecDepth 100000 in
set_option maxHeartbeats 2000000 in
theorem find_LO (w : World) (hT : NamesAt w) :
    Calls Tryd.prog 12 #[.string ⟨#[76, 79]⟩] w fun e w' => e = .returned (.tuple #[.int .i64 (foundIn ⟨#[67, 83]⟩ 16 0).1, .bool (foundIn ⟨#[67, 83]⟩ 16 0).2]) ∧ w = w' := by
  have HT := Lib.hid hT
  have c0 := hT 0 (by decide)
  have c1 := hT 1 (by decide)
  have c2 := hT 2 (by decide)
  have c3 := hT 3 (by decide)
  have c4 := hT 4 (by decide)
  have c5 := hT 5 (by decide)
  have c6 := hT 6 (by decide)
  have c7 := hT 7 (by decide)
  have c8 := hT 8 (by decide)
  have c9 := hT 9 (by decide)
  have c10 := hT 10 (by decide)
  have c11 := hT 11 (by decide)
  have c12 := hT 12 (by decide)
  have c13 := hT 13 (by decide)
  have c14 := hT 14 (by decide)
  have c15 := hT 15 (by decide)
  clear hT
  go_enter Tryd.func12, Tryd.ntmps12
  go_wp2
  go_loop [12] (fun i => ∃ k : Nat, k ≤ 16 ∧ i = .int .i64 k ∧ Hid (foundIn ⟨#[67, 83]⟩ 16 0 = foundIn ⟨#[67, 83]⟩ (16 - k) k)) (fun i => 16 - (intOf i).toNat)
  case atStart => exact ⟨0, Nat.zero_le _, rfl, Lib.hid rfl⟩
  case round =>
    obtain ⟨k, hk, rfl, hF⟩ := hrel
    by_cases hlt : k < 16
    · have hix := names_agg w HT.out k hlt
      have h0 : (0 : Int) ≤ (k : Int) := by omega
      have h16 : (k : Int) < 16 := by omega
      cases hn : isName ⟨#[67, 83]⟩ k
      · have e1 : ((nameS k).toList == [67, 83]) = false := by
          have h := hn
          unfold isName at h
          rw [ByteArray.toList_eq ⟨#[67, 83]⟩] at h
          exact h
        have HN : Hid (foundIn ⟨#[67, 83]⟩ (16 - k) k = foundIn ⟨#[67, 83]⟩ (16 - (k + 1)) (k + 1)) := Lib.hid (by rw [show 16 - k = (16 - (k + 1)) + 1 by omega]; simp only [foundIn, hn]; rfl)
        clear hn
        go_wp2
        go_round
        case rel => exact ⟨k + 1, by omega, by go_num, Lib.hid (by rw [hF.out, HN.out])⟩
        case measure => simp [intOf]; omega
      · have e1 : ((nameS k).toList == [67, 83]) = true := by
          have h := hn
          unfold isName at h
          rw [ByteArray.toList_eq ⟨#[67, 83]⟩] at h
          exact h
        have HN : Hid (foundIn ⟨#[67, 83]⟩ (16 - k) k = ((k : Int), true)) := Lib.hid (by rw [show 16 - k = (16 - (k + 1)) + 1 by omega]; simp only [foundIn, hn]; rfl)
        clear hn
        go_wp2
        go_ret2
        exact ⟨ret_find (by rw [hF.out, HN.out]; try rfl) (by rw [hF.out, HN.out]; try rfl), rfl⟩
    · obtain rfl : k = 16 := by omega
      go_wp2
      go_ret2
      exact ⟨ret_find (by rw [hF.out]; try rfl) (by rw [hF.out]; try rfl), rfl⟩
set_option maxRecDepth 100000 in
set_option maxHeartbeats 2000000 in
theorem find_else (s : ByteArray) (w : World) (hT : NamesAt w) (h1 : (s.toList == [72, 83]) = false) (h2 : (s.toList == [76, 79]) = false) :
    Calls Tryd.prog 12 #[.string s] w fun e w' => e = .returned (.tuple #[.int .i64 (foundIn s 16 0).1, .bool (foundIn s 16 0).2]) ∧ w = w' := by
  have HT := Lib.hid hT
  have c0 := hT 0 (by decide)
  have c1 := hT 1 (by decide)
  have c2 := hT 2 (by decide)
  have c3 := hT 3 (by decide)
  have c4 := hT 4 (by decide)
  have c5 := hT 5 (by decide)
  have c6 := hT 6 (by decide)
  have c7 := hT 7 (by decide)
  have c8 := hT 8 (by decide)
  have c9 := hT 9 (by decide)
  have c10 := hT 10 (by decide)
  have c11 := hT 11 (by decide)
  have c12 := hT 12 (by decide)
  have c13 := hT 13 (by decide)
  have c14 := hT 14 (by decide)
  have c15 := hT 15 (by decide)
  clear hT
  go_enter Tryd.func12, Tryd.ntmps12
  go_wp2
  go_loop [12] (fun i => ∃ k : Nat, k ≤ 16 ∧ i = .int .i64 k ∧ Hid (foundIn s 16 0 = foundIn s (16 - k) k)) (fun i => 16 - (intOf i).toNat)
  case atStart => exact ⟨0, Nat.zero_le _, rfl, Lib.hid rfl⟩
  case round =>
    obtain ⟨k, hk, rfl, hF⟩ := hrel
    by_cases hlt : k < 16
    · have hix := names_agg w HT.out k hlt
      have h0 : (0 : Int) ≤ (k : Int) := by omega
      have h16 : (k : Int) < 16 := by omega
      cases hn : isName s k
      · have e1 : ((nameS k).toList == s.toList) = false := hn
        have HN : Hid (foundIn s (16 - k) k = foundIn s (16 - (k + 1)) (k + 1)) := Lib.hid (by rw [show 16 - k = (16 - (k + 1)) + 1 by omega]; simp only [foundIn, hn]; rfl)
        clear hn
        go_wp2
        go_round
        case rel => exact ⟨k + 1, by omega, by go_num, Lib.hid (by rw [hF.out, HN.out])⟩
        case measure => simp [intOf]; omega
      · have e1 : ((nameS k).toList == s.toList) = true := hn
        have HN : Hid (foundIn s (16 - k) k = ((k : Int), true)) := Lib.hid (by rw [show 16 - k = (16 - (k + 1)) + 1 by omega]; simp only [foundIn, hn]; rfl)
        clear hn
        go_wp2
        go_ret2
        exact ⟨ret_find (by rw [hF.out, HN.out]; try rfl) (by rw [hF.out, HN.out]; try rfl), rfl⟩
    · obtain rfl : k = 16 := by omega
      go_wp2
      go_ret2
      exact ⟨ret_find (by rw [hF.out]; try rfl) (by rw [hF.out]; try rfl), rfl⟩
end Go.Proofs.YtdkghfapmoikdabDoor
