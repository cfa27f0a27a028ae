/- Contracts of the document's own answer for layer 44: digits, term, Eval. -/
import Derived.Test.YtmdpgekbiohfbabDoorExpN
import Derived.Test.YtmdpgekbiohfbabDoorSym
import Derived.Test.YtmdpgekbiohfbabDoorRws
namespace Go.Proofs.YtmdpgekbiohfbabDoor
open Go.ChangeShapes Go.WideShapes Go.ChangeAt Go.RowKit
set_option linter.unusedVariables false

set_option maxRecDepth 100000 in
set_option maxHeartbeats 2000000 in
theorem rfDigits2_any (w : World) (S : ByteArray) (i0 : Nat) (hi : i0 ≤ S.size) (hs : S.size ≤ 1099511627776) :
    Calls Tryd.prog 107 #[.string S, .int .i64 (i0 : Int), .int .i64 2] w fun e w' => e = .returned (.tuple #[.int .i64 (satV 2 (((nums S).drop i0).take (run (good 2) ((nums S).drop i0)))), .int .i64 ((i0 + run (good 2) ((nums S).drop i0) : Nat) : Int)]) ∧ w = w' := by
  have hb := get_nums S
  have HL := Lib.hid (nums_len S)
  have HD : Hid (((nums S).drop i0).length = S.size - i0) := Lib.hid (by rw [List.length_drop, HL.out])
  go_enter Tryd.func107, Tryd.ntmps107
  go_wp2
  go_loop [1, 8] (fun i n => ∃ (j : Nat) (m : Int), i0 + j ≤ S.size ∧ i = .int .i64 ((i0 + j : Nat) : Int) ∧ n = .int .i64 m ∧ 0 ≤ m ∧ m ≤ 65536 ∧ Hid (m = satV 2 (((nums S).drop i0).take j)) ∧ Hid (∀ q, q < j → good 2 (iat ((nums S).drop i0) q) = true)) (fun i _ => S.size - (intOf i).toNat)
  case atStart => exact ⟨0, 0, by omega, rfl, rfl, by omega, by omega, Lib.hid rfl, Lib.hid (fun q hq => absurd hq (by omega))⟩
  case round =>
    obtain ⟨j, m, hk, rfl, rfl, m0, m1, hm, hg⟩ := hrel
    by_cases hlt : i0 + j < S.size
    · obtain ⟨r0, r1⟩ := iat_nums_range S (i0 + j)
      have hv := valOf_range (iat (nums S) (i0 + j))
      have HST := Lib.hid (satV_take 2 ((nums S).drop i0) j (by rw [HD.out]; omega))
      have HX : Hid (iat ((nums S).drop i0) j = iat (nums S) (i0 + j)) := Lib.hid (iat_drop _ _ _)
      obtain ⟨x, hx⟩ : ∃ x, iat (nums S) (i0 + j) = x := ⟨_, rfl⟩
      have hbx : ∀ h : i0 + j < S.size, ((S[i0 + j]'h).toNat : Int) = x := fun h => by rw [hb _ h, hx]
      obtain ⟨K, hK⟩ : ∃ K, i0 + j = K := ⟨_, rfl⟩
      rw [hx] at hv HX r0 r1
      rw [HX.out] at HST
      have HKE := Lib.hid hK
      rw [hK] at hlt hbx hk ⊢
      clear hx hK hb
      have VR := Lib.hid (fun u => valRef_any x u r0 r1)
      by_cases hgo : valOf x < 2
      · have e1 := valRef_eq x 2 (by omega) hgo
        rw [e1] at VR
        have HG' : Hid (∀ q, q < j + 1 → good 2 (iat ((nums S).drop i0) q) = true) := Lib.hid (fun q hq => by
          rcases Nat.lt_or_ge q j with h1 | h1
          · exact hg.out q h1
          · have : q = j := by omega
            subst this
            rw [HX.out]; simp [good, hgo])
        have HM : Hid (min (2 * m + valOf x) 65536 = satV 2 (((nums S).drop i0).take (j + 1))) := Lib.hid (by rw [HST.out, ← hm.out])
        clear e1 HST
        go_wp2_with (go_at_call 116; refine (VR.out _).mono ?_; rintro e w' ⟨rfl, rfl⟩)
        go_round
        case rel => exact ⟨j + 1, min (2 * m + valOf x) 65536, by have := HKE.out; omega, by have := HKE.out; go_num, by first | rfl | (congr 1; omega), by omega, by omega, HM, HG'⟩
        case measure => simp [intOf]; omega
      · have hge : 2 ≤ valRef x := by
          have hq := valRef_lt x 2 (by omega)
          omega
        have HR : Hid (run (good 2) ((nums S).drop i0) = j) := Lib.hid (run_is _ _ _ (by rw [HD.out]; have := HKE.out; omega) hg.out (fun _ => by rw [HX.out]; simp [good, hgo]))
        clear hgo HST
        go_wp2_with (go_at_call 116; refine (VR.out _).mono ?_; rintro e w' ⟨rfl, rfl⟩)
        go_ret2
        rw [HR.out, ← hm.out, HKE.out]
        exact ⟨rfl, rfl⟩
    · have HR : Hid (run (good 2) ((nums S).drop i0) = j) := Lib.hid (run_is _ _ _ (by rw [HD.out]; omega) hg.out (fun h => absurd h (by rw [HD.out]; omega)))
      go_wp2
      go_ret2
      rw [HR.out, ← hm.out]
      exact ⟨rfl, rfl⟩
set_option maxRecDepth 100000 in
set_option maxHeartbeats 2000000 in
theorem rfDigits10_any (w : World) (S : ByteArray) (i0 : Nat) (hi : i0 ≤ S.size) (hs : S.size ≤ 1099511627776) :
    Calls Tryd.prog 107 #[.string S, .int .i64 (i0 : Int), .int .i64 10] w fun e w' => e = .returned (.tuple #[.int .i64 (satV 10 (((nums S).drop i0).take (run (good 10) ((nums S).drop i0)))), .int .i64 ((i0 + run (good 10) ((nums S).drop i0) : Nat) : Int)]) ∧ w = w' := by
  have hb := get_nums S
  have HL := Lib.hid (nums_len S)
  have HD : Hid (((nums S).drop i0).length = S.size - i0) := Lib.hid (by rw [List.length_drop, HL.out])
  go_enter Tryd.func107, Tryd.ntmps107
  go_wp2
  go_loop [1, 8] (fun i n => ∃ (j : Nat) (m : Int), i0 + j ≤ S.size ∧ i = .int .i64 ((i0 + j : Nat) : Int) ∧ n = .int .i64 m ∧ 0 ≤ m ∧ m ≤ 65536 ∧ Hid (m = satV 10 (((nums S).drop i0).take j)) ∧ Hid (∀ q, q < j → good 10 (iat ((nums S).drop i0) q) = true)) (fun i _ => S.size - (intOf i).toNat)
  case atStart => exact ⟨0, 0, by omega, rfl, rfl, by omega, by omega, Lib.hid rfl, Lib.hid (fun q hq => absurd hq (by omega))⟩
  case round =>
    obtain ⟨j, m, hk, rfl, rfl, m0, m1, hm, hg⟩ := hrel
    by_cases hlt : i0 + j < S.size
    · obtain ⟨r0, r1⟩ := iat_nums_range S (i0 + j)
      have hv := valOf_range (iat (nums S) (i0 + j))
      have HST := Lib.hid (satV_take 10 ((nums S).drop i0) j (by rw [HD.out]; omega))
      have HX : Hid (iat ((nums S).drop i0) j = iat (nums S) (i0 + j)) := Lib.hid (iat_drop _ _ _)
      obtain ⟨x, hx⟩ : ∃ x, iat (nums S) (i0 + j) = x := ⟨_, rfl⟩
      have hbx : ∀ h : i0 + j < S.size, ((S[i0 + j]'h).toNat : Int) = x := fun h => by rw [hb _ h, hx]
      obtain ⟨K, hK⟩ : ∃ K, i0 + j = K := ⟨_, rfl⟩
      rw [hx] at hv HX r0 r1
      rw [HX.out] at HST
      have HKE := Lib.hid hK
      rw [hK] at hlt hbx hk ⊢
      clear hx hK hb
      have VR := Lib.hid (fun u => valRef_any x u r0 r1)
      by_cases hgo : valOf x < 10
      · have e1 := valRef_eq x 10 (by omega) hgo
        rw [e1] at VR
        have HG' : Hid (∀ q, q < j + 1 → good 10 (iat ((nums S).drop i0) q) = true) := Lib.hid (fun q hq => by
          rcases Nat.lt_or_ge q j with h1 | h1
          · exact hg.out q h1
          · have : q = j := by omega
            subst this
            rw [HX.out]; simp [good, hgo])
        have HM : Hid (min (10 * m + valOf x) 65536 = satV 10 (((nums S).drop i0).take (j + 1))) := Lib.hid (by rw [HST.out, ← hm.out])
        clear e1 HST
        go_wp2_with (go_at_call 116; refine (VR.out _).mono ?_; rintro e w' ⟨rfl, rfl⟩)
        go_round
        case rel => exact ⟨j + 1, min (10 * m + valOf x) 65536, by have := HKE.out; omega, by have := HKE.out; go_num, by first | rfl | (congr 1; omega), by omega, by omega, HM, HG'⟩
        case measure => simp [intOf]; omega
      · have hge : 10 ≤ valRef x := by
          have hq := valRef_lt x 10 (by omega)
          omega
        have HR : Hid (run (good 10) ((nums S).drop i0) = j) := Lib.hid (run_is _ _ _ (by rw [HD.out]; have := HKE.out; omega) hg.out (fun _ => by rw [HX.out]; simp [good, hgo]))
        clear hgo HST
        go_wp2_with (go_at_call 116; refine (VR.out _).mono ?_; rintro e w' ⟨rfl, rfl⟩)
        go_ret2
        rw [HR.out, ← hm.out, HKE.out]
        exact ⟨rfl, rfl⟩
    · have HR : Hid (run (good 10) ((nums S).drop i0) = j) := Lib.hid (run_is _ _ _ (by rw [HD.out]; omega) hg.out (fun h => absurd h (by rw [HD.out]; omega)))
      go_wp2
      go_ret2
      rw [HR.out, ← hm.out]
      exact ⟨rfl, rfl⟩
set_option maxRecDepth 100000 in
set_option maxHeartbeats 2000000 in
theorem rfDigits16_any (w : World) (S : ByteArray) (i0 : Nat) (hi : i0 ≤ S.size) (hs : S.size ≤ 1099511627776) :
    Calls Tryd.prog 107 #[.string S, .int .i64 (i0 : Int), .int .i64 16] w fun e w' => e = .returned (.tuple #[.int .i64 (satV 16 (((nums S).drop i0).take (run (good 16) ((nums S).drop i0)))), .int .i64 ((i0 + run (good 16) ((nums S).drop i0) : Nat) : Int)]) ∧ w = w' := by
  have hb := get_nums S
  have HL := Lib.hid (nums_len S)
  have HD : Hid (((nums S).drop i0).length = S.size - i0) := Lib.hid (by rw [List.length_drop, HL.out])
  go_enter Tryd.func107, Tryd.ntmps107
  go_wp2
  go_loop [1, 8] (fun i n => ∃ (j : Nat) (m : Int), i0 + j ≤ S.size ∧ i = .int .i64 ((i0 + j : Nat) : Int) ∧ n = .int .i64 m ∧ 0 ≤ m ∧ m ≤ 65536 ∧ Hid (m = satV 16 (((nums S).drop i0).take j)) ∧ Hid (∀ q, q < j → good 16 (iat ((nums S).drop i0) q) = true)) (fun i _ => S.size - (intOf i).toNat)
  case atStart => exact ⟨0, 0, by omega, rfl, rfl, by omega, by omega, Lib.hid rfl, Lib.hid (fun q hq => absurd hq (by omega))⟩
  case round =>
    obtain ⟨j, m, hk, rfl, rfl, m0, m1, hm, hg⟩ := hrel
    by_cases hlt : i0 + j < S.size
    · obtain ⟨r0, r1⟩ := iat_nums_range S (i0 + j)
      have hv := valOf_range (iat (nums S) (i0 + j))
      have HST := Lib.hid (satV_take 16 ((nums S).drop i0) j (by rw [HD.out]; omega))
      have HX : Hid (iat ((nums S).drop i0) j = iat (nums S) (i0 + j)) := Lib.hid (iat_drop _ _ _)
      obtain ⟨x, hx⟩ : ∃ x, iat (nums S) (i0 + j) = x := ⟨_, rfl⟩
      have hbx : ∀ h : i0 + j < S.size, ((S[i0 + j]'h).toNat : Int) = x := fun h => by rw [hb _ h, hx]
      obtain ⟨K, hK⟩ : ∃ K, i0 + j = K := ⟨_, rfl⟩
      rw [hx] at hv HX r0 r1
      rw [HX.out] at HST
      have HKE := Lib.hid hK
      rw [hK] at hlt hbx hk ⊢
      clear hx hK hb
      have VR := Lib.hid (fun u => valRef_any x u r0 r1)
      by_cases hgo : valOf x < 16
      · have e1 := valRef_eq x 16 (by omega) hgo
        rw [e1] at VR
        have HG' : Hid (∀ q, q < j + 1 → good 16 (iat ((nums S).drop i0) q) = true) := Lib.hid (fun q hq => by
          rcases Nat.lt_or_ge q j with h1 | h1
          · exact hg.out q h1
          · have : q = j := by omega
            subst this
            rw [HX.out]; simp [good, hgo])
        have HM : Hid (min (16 * m + valOf x) 65536 = satV 16 (((nums S).drop i0).take (j + 1))) := Lib.hid (by rw [HST.out, ← hm.out])
        clear e1 HST
        go_wp2_with (go_at_call 116; refine (VR.out _).mono ?_; rintro e w' ⟨rfl, rfl⟩)
        go_round
        case rel => exact ⟨j + 1, min (16 * m + valOf x) 65536, by have := HKE.out; omega, by have := HKE.out; go_num, by first | rfl | (congr 1; omega), by omega, by omega, HM, HG'⟩
        case measure => simp [intOf]; omega
      · have hge : 16 ≤ valRef x := by
          have hq := valRef_lt x 16 (by omega)
          omega
        have HR : Hid (run (good 16) ((nums S).drop i0) = j) := Lib.hid (run_is _ _ _ (by rw [HD.out]; have := HKE.out; omega) hg.out (fun _ => by rw [HX.out]; simp [good, hgo]))
        clear hgo HST
        go_wp2_with (go_at_call 116; refine (VR.out _).mono ?_; rintro e w' ⟨rfl, rfl⟩)
        go_ret2
        rw [HR.out, ← hm.out, HKE.out]
        exact ⟨rfl, rfl⟩
    · have HR : Hid (run (good 16) ((nums S).drop i0) = j) := Lib.hid (run_is _ _ _ (by rw [HD.out]; omega) hg.out (fun h => absurd h (by rw [HD.out]; omega)))
      go_wp2
      go_ret2
      rw [HR.out, ← hm.out]
      exact ⟨rfl, rfl⟩
end Go.Proofs.YtmdpgekbiohfbabDoor
