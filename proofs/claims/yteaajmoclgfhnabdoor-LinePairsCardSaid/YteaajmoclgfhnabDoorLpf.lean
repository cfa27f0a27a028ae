/- Contract of the document's Pair. -/
import Derived.Test.YteaajmoclgfhnabDoorLpn
import Derived.Test.YteaajmoclgfhnabDoorRws
import Derived.Deep.CutBlock
import Derived.Deep.DeepCutAuto
import Derived.Deep.CutRange
namespace Go.Proofs.YteaajmoclgfhnabDoor
open Go.ChangeShapes Go.WideShapes Go.ChangeAt Go.RowKit
set_option linter.unusedVariables false
set_option maxRecDepth 100000 in
theorem rfReg_any (k : Nat) (hk : k < 16) (w : World) :
    Calls Tryd.prog 24 #[.int .i64 (k : Int)] w fun e w' => e = .returned (.string (regS k)) ∧ Below w.heap.size w w' := by
  by_cases h12 : k < 12
  · have k0 : (0 : Int) ≤ (k : Int) := by omega
    have k1 : (k : Int) < 12 := by omega
    go_enter Tryd.func24, Tryd.ntmps24
    go_wp2
    go_ret
    refine ⟨?_, Below.alloc0 (Below.refl _ _) _⟩
    rcases (show k = 0 ∨ k = 1 ∨ k = 2 ∨ k = 3 ∨ k = 4 ∨ k = 5 ∨ k = 6 ∨ k = 7 ∨ k = 8 ∨ k = 9 ∨ k = 10 ∨ k = 11 by omega) with rfl | rfl | rfl | rfl | rfl | rfl | rfl | rfl | rfl | rfl | rfl | rfl
    all_goals rfl
  · rcases (show k = 12 ∨ k = 13 ∨ k = 14 ∨ k = 15 by omega) with rfl | rfl | rfl | rfl
    all_goals
      rw [show regS _ = ⟨#[]⟩ from rfl]
      go_enter Tryd.func24, Tryd.ntmps24
      go_wp2
      go_ret
      exact ⟨rfl, Below.alloc0 (Below.refl _ _) _⟩
theorem lt16 {k : Nat} (h : k < 16) : k = 0 ∨ k = 1 ∨ k = 2 ∨ k = 3 ∨ k = 4 ∨ k = 5 ∨ k = 6 ∨ k = 7 ∨ k = 8 ∨ k = 9 ∨ k = 10 ∨ k = 11 ∨ k = 12 ∨ k = 13 ∨ k = 14 ∨ k = 15 := by omega
theorem reg_em (k : Nat) (h : k < 16) : (regS k).toList.isEmpty = (k == 6 || (k == 7 || Nat.ble 12 k)) := by
  rw [ByteArray.toList_eq]
  rcases lt16 h with rfl | rfl | rfl | rfl | rfl | rfl | rfl | rfl | rfl | rfl | rfl | rfl | rfl | rfl | rfl | rfl <;> rfl
theorem reg_nm (k : Nat) (h : k < 16) (hE : (k == 6 || (k == 7 || Nat.ble 12 k)) = false) : regS k = nmS k := by
  rcases lt16 h with rfl | rfl | rfl | rfl | rfl | rfl | rfl | rfl | rfl | rfl | rfl | rfl | rfl | rfl | rfl | rfl <;> first | rfl | exact absurd hE (by decide)
set_option maxRecDepth 100000 in
set_option maxHeartbeats 16000000 in
theorem rfPair_any (s : ByteArray) (hs : s.size ≤ 1099511627776) (w : World) :
    Calls Tryd.prog 8 #[.string s] w fun e w' => e = .returned (.tuple #[.int .u8 (pairS s).1, .int .i64 (pairS s).2]) ∧ Below w.heap.size w w' := by
  have hb := get_nums s
  obtain ⟨P, hP⟩ : ∃ P, pairS s = P := ⟨_, rfl⟩
  have HP := Lib.hid hP
  rw [hP]
  clear hP
  go_enter Tryd.func8, Tryd.ntmps8
  go_wp2
  go_loop [4] (fun i => ∃ k : Nat, k ≤ s.size ∧ i = .int .i64 (k : Int) ∧ Hid (∀ q, q < k → iat (nums s) q ≠ 44)) (fun i => s.size - (intOf i).toNat)
  case atStart => exact ⟨0, by omega, rfl, Lib.hid (fun q hq => absurd hq (by omega))⟩
  case round =>
    obtain ⟨n, hk, rfl, hg⟩ := hrel
    by_cases hlt : n < s.size
    · obtain ⟨r0, r1⟩ := iat_nums_range s n
      by_cases h44 : iat (nums s) n = 44
      · have HPE := Lib.hid (pair_at s n hlt hg.out h44)
        have e1 := ext_takeP s n
        have e2 := ext_dropP s (n + 1)
        obtain ⟨A, hA⟩ : ∃ A, strOfNums ((nums s).take n) = A := ⟨_, rfl⟩
        obtain ⟨B, hB⟩ : ∃ A, strOfNums ((nums s).drop (n + 1)) = A := ⟨_, rfl⟩
        rw [hA] at e1 HPE
        rw [hB] at e2 HPE
        have hsl1 : ∀ u : World, (Instr.slice 9 (.string s) none (some (.int .i64 (n : Int))) none).run Tryd.prog u = .ok (.string A) u := fun u => by
          rw [run_slice_string_h u 9 s Tryd.underlying9 .i64 (n : Int) (by omega) (by omega), show ((n : Int)).toNat = n by omega, e1]
        have hsl2 : ∀ u : World, (Instr.slice 9 (.string s) (some (.int .i64 ((n : Int) + 1))) none none).run Tryd.prog u = .ok (.string B) u := fun u => by
          rw [run_slice_string_l u 9 s Tryd.underlying9 .i64 ((n : Int) + 1) (by omega) (by omega), show ((n : Int) + 1).toNat = n + 1 by omega, e2]
        have wn : IntKind.i64.wrap ((n : Int) + 1) = (n : Int) + 1 := IntWalk.i64_in _ (by omega)
        have hx : ∀ h : n < s.size, ((s[n]'h).toNat : Int) = 44 := fun h => by rw [hb _ h, h44]
        have hne : ¬ (n : Int) = (s.size : Int) := by omega
        have hPE := HPE.out
        rw [HP.out] at hPE
        have HQ := Lib.hid hPE
        clear hPE
        have HLA := Lib.hid (lastE_range A 16)
        have HLB := Lib.hid (lastE_range B 16)
        clear e1 e2 hA hB HPE hb h44 HP hg r0 r1 hk
        go_wp2
        go_loopw [5, 6, 7] (fun u5 u6 u7 wr => ∃ k : Nat, k ≤ 16 ∧ u7 = .int .i64 (k : Int) ∧ u5 = .int .i64 (lastE A k) ∧ u6 = .int .i64 (lastE B k) ∧ Hid (Below w.heap.size w wr)) (fun _ _ u7 _ => 16 - (intOf u7).toNat)
        case atStart => exact ⟨0, by omega, rfl, rfl, rfl, Lib.hid (Below.refl _ _)⟩
        case round =>
          obtain ⟨k, hk, rfl, rfl, rfl, hBL⟩ := hrel
          by_cases h16 : k < 16
          · clear HLA HLB HQ
            have CR := Lib.hid (fun u => rfReg_any k h16 u)
            have k0 : (0 : Int) ≤ (k : Int) := by omega
            have k1 : (k : Int) < 16 := by omega
            have HEM := Lib.hid (reg_em k h16)
            have HNM := Lib.hid (reg_nm k h16)
            have HA1 := Lib.hid (show lastE A (k + 1) = if eqN k A = true then (k : Int) else lastE A k from rfl)
            have HB1 := Lib.hid (show lastE B (k + 1) = if eqN k B = true then (k : Int) else lastE B k from rfl)
            obtain ⟨R, hR⟩ : ∃ R, regS k = R := ⟨_, rfl⟩
            rw [hR] at CR HEM HNM
            generalize lastE A k = la at HA1 ⊢
            generalize lastE B k = lb at HB1 ⊢
            go_wp2_with fail
            refine (CR.out _).mono ?_
            rintro e w' ⟨rfl, hb2⟩
            have BL2 := Lib.hid (Below.trans0 hBL.out hb2)
            clear hb2 CR hR
            go_upto_if 33 with (fail)
            go_cut [8] (fun u8 wx => u8 = .string (nmS k) ∧ Hid (Below w.heap.size w wx))
            case first =>
              obtain ⟨E, hE⟩ : ∃ E, (k == 6 || (k == 7 || Nat.ble 12 k)) = E := ⟨_, rfl⟩
              rw [hE] at HEM HNM
              have HE := Lib.hid hE
              clear hE
              cases E
              case false =>
                have hem := HEM.out
                have hnm := Lib.hid (HNM.out rfl)
                go_wp2
                all_goals (try (exact absurd ‹R.toList.isEmpty = true› (by rw [hem]; decide)))
                go_meet
                case rel => exact ⟨by rw [hnm.out], BL2⟩
              case true =>
                have hem := HEM.out
                go_wp2
                all_goals (try (exact absurd ‹R.toList.isEmpty = false› (by rw [hem]; decide)))
                all_goals (try (exact absurd hem ‹¬ R.toList.isEmpty = true›))
                go_meet
                case rel =>
                  refine ⟨?_, Lib.hid (Below.alloc0 BL2.out _)⟩
                  rcases lt16 h16 with rfl | rfl | rfl | rfl | rfl | rfl | rfl | rfl | rfl | rfl | rfl | rfl | rfl | rfl | rfl | rfl <;> first | rfl | exact absurd HE.out (by decide)
            case rest =>
              obtain ⟨rfl, hB'⟩ := hcut
              clear HEM HNM BL2
              obtain ⟨N, hN⟩ : ∃ N, nmS k = N := ⟨_, rfl⟩
              have qa : (N.toList == A.toList) = eqN k A := by rw [← hN]; rfl
              have qb : (N.toList == B.toList) = eqN k B := by rw [← hN]; rfl
              generalize eqN k A = ea at qa HA1
              generalize eqN k B = eb at qb HB1
              rw [hN]
              clear hN
              cases ea <;> cases eb
              all_goals
                go_wp2
                go_roundw
                case rel => exact ⟨k + 1, by omega, by go_num, by rw [HA1.out]; rfl, by rw [HB1.out]; rfl, hB'⟩
                case measure => simp [intOf]; omega
          · obtain rfl : k = 16 := by omega
            obtain ⟨l0, l1⟩ := HLA.out
            obtain ⟨m0, m1⟩ := HLB.out
            generalize lastE A 16 = x at HQ l0 l1 ⊢
            generalize lastE B 16 = y at HQ m0 m1 ⊢
            clear HLA HLB hsl1 hsl2 hx
            by_cases hx0 : x < 0
            · have HR : Hid (P = (0, 40)) := Lib.hid (by rw [HQ.out]; unfold prP; rw [if_pos (.inl hx0)])
              go_wp2
              go_ret2
              exact ⟨by rw [HR.out]; rfl, hBL.out⟩
            by_cases hy0 : y < 0
            · have HR : Hid (P = (0, 40)) := Lib.hid (by rw [HQ.out]; unfold prP; rw [if_pos (.inr hy0)])
              go_wp2
              go_ret2
              exact ⟨by rw [HR.out]; rfl, hBL.out⟩
            obtain ⟨x, rfl⟩ := Int.eq_ofNat_of_zero_le (show 0 ≤ x by omega)
            obtain ⟨y, rfl⟩ := Int.eq_ofNat_of_zero_le (show 0 ≤ y by omega)
            have hx1 : (x : Int) < 16 := by omega
            have hy1 : (y : Int) < 16 := by omega
            have HR : Hid (P = (16 * (x : Int) + (y : Int), 0)) := Lib.hid (by rw [HQ.out]; unfold prP; rw [if_neg (by omega)])
            have HM : Hid ((16 * (x : Int) + (y : Int)) % 256 = 16 * (x : Int) + (y : Int)) := Lib.hid (by omega)
            clear l0 l1 m0 m1
            go_wp2
            go_ret2
            exact ⟨by rw [HR.out]; first | rfl | (rw [← HM.out]; rfl) | go_num, hBL.out⟩
      · have hx : ∀ h : n < s.size, ((s[n]'h).toNat : Int) = iat (nums s) n := fun h => hb _ h
        obtain ⟨x, hxx⟩ : ∃ x, iat (nums s) n = x := ⟨_, rfl⟩
        have HG : Hid (∀ q, q < n + 1 → iat (nums s) q ≠ 44) := Lib.hid (fun q hq => by
          rcases Nat.lt_or_ge q n with h1 | h1
          · exact hg.out q h1
          · have : q = n := by omega
            subst this
            exact h44)
        rw [hxx] at hx h44 r0 r1
        clear hb hg hxx
        go_wp2
        go_round
        case rel => exact ⟨n + 1, by omega, by go_num, HG⟩
        case measure => simp [intOf]; omega
    · obtain rfl : n = s.size := by omega
      have hPE := pair_no s hg.out
      rw [HP.out] at hPE
      subst hPE
      clear hb hg hlt HP
      go_wp2
      go_ret2
      exact ⟨rfl, Below.refl _ _⟩
end Go.Proofs.YteaajmoclgfhnabDoor
