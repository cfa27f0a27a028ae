/- Contracts of the document's own answer for layer 44: Eval. -/
import Derived.Test.YtmdpgekbiohfbabDoorExw
import Derived.Test.YtmdpgekbiohfbabDoorExs
namespace Go.Proofs.YtmdpgekbiohfbabDoor
open Go.ChangeShapes Go.WideShapes Go.ChangeAt Go.RowKit
set_option linter.unusedVariables false

theorem tmod16 (s : Int) : ∃ r, Int.tmod s 65536 = r ∧ -65536 < r ∧ r < 65536 ∧ r % 65536 = s % 65536 := by
  refine ⟨_, rfl, ?_⟩
  rcases Int.le_total 0 s with h | h
  · rw [Int.tmod_eq_emod_of_nonneg h]; omega
  · obtain ⟨n, rfl⟩ : ∃ n, s = -n := ⟨-s, by omega⟩
    rw [Int.neg_tmod, Int.tmod_eq_emod_of_nonneg (by omega)]; omega
/-- Behind the document's Eval. -/
def RfEval (w : World) (R : Int × Int × Bool × Bool) (e : Ending) (w' : World) : Prop :=
  (∃ q, w' = w.drewN q) ∧ e = .returned (.tuple #[.int .u16 R.1, .int .i64 R.2.1, .bool (R.2.2.1 || R.2.2.2)])
set_option maxRecDepth 100000 in
set_option maxHeartbeats 4000000 in
theorem rfEval_any (w : World) (S : ByteArray) (a : Int) (ha : 0 ≤ a ∧ a < 65536) (v : Value) (nl : List NmV) (hR : eN.Rd w v nl) (hw : ∀ x ∈ nl, 0 ≤ x.2 ∧ x.2 < 65536) (hn : nl.length ≤ 1000) (hs : S.size ≤ 1000000) :
    Calls Tryd.prog 60 #[.string S, .int .u16 a, v] w (RfEval w (evalE a (lookL (lookB nl)) (nums S))) := by
  have hb := get_nums S
  have HL := Lib.hid (nums_len S)
  have CT := Lib.hid (fun q i (hi : i ≤ S.size) => rfTerm_any (w.drewN q) S i hi a ha v nl (hR.drewN q) hw hn (by omega))
  have HA := Lib.hid ha
  have HLK : Hid (∀ n v, lookL (lookB nl) n = some v → 0 ≤ v ∧ v < 65536) := Lib.hid (fun n v hv => by
    unfold lookL lookB at hv
    cases hf : nl.find? (fun p => decide (p.1 = strOfNums n)) with
    | none => rw [hf] at hv; cases hv
    | some x =>
      rw [hf] at hv
      injection hv with hv
      subst hv
      exact hw x (List.mem_of_find?_eq_some hf))
  obtain ⟨R, hRR⟩ : ∃ R, evalE a (lookL (lookB nl)) (nums S) = R := ⟨_, rfl⟩
  have HP := Lib.hid (fun hq => (evalE_plain a (lookL (lookB nl)) (nums S) hq).symm.trans hRR)
  have HG := Lib.hid (fun hq => (evalE_sign a (lookL (lookB nl)) (nums S) hq).symm.trans hRR)
  rw [hRR]
  obtain ⟨lk, hlk⟩ : ∃ lk, lookL (lookB nl) = lk := ⟨_, rfl⟩
  rw [hlk] at CT HLK HP HG
  clear hRR hR ha hw hlk
  have HB := Lib.hid hb
  -- the loop, from any beginning
  by_cases h0 : S.size = 0
  · have HQ : Hid (evalF a lk (S.size + 1) false 0 false false ((nums S).drop 0) = R) := Lib.hid (by rw [List.drop_zero, ← HL.out]; exact HP.out (by unfold sgn; rw [HL.out, h0]; rfl))
    clear HP HG hb
    go_enter Tryd.func60, Tryd.ntmps60
    go_wp2
    clear h0
    go_loopw [9, 10, 11, 12] (fun v9 v10 v11 v12 wr => ∃ (i : Nat) (s σ : Int) (neg H st nm : Bool) (f q : Nat), v9 = .int .i64 s ∧ v10 = .int .i64 (i : Int) ∧ v11 = .bool H ∧ v12 = .int .i64 σ ∧ wr = w.drewN q ∧ i ≤ S.size ∧ -65536 * (i : Int) ≤ s ∧ s ≤ 65536 * (i : Int) ∧ Hid (neg = true ∧ σ = -1 ∨ neg = false ∧ σ = 1) ∧ Hid (H = (st || nm)) ∧ Hid (S.size - i < f) ∧
      Hid (evalF a lk f neg (s % 65536) st nm ((nums S).drop i) = R)) (fun _ v10 _ _ _ => S.size + 1 - (intOf v10).toNat)
    case atStart => exact ⟨0, 0, 1, false, false, false, false, S.size + 1, 0, rfl, rfl, rfl, rfl, rfl, by omega, by omega, by omega, Lib.hid (by simp), Lib.hid rfl, Lib.hid (by omega), Lib.hid (by rw [show (0 : Int) % 65536 = 0 from rfl]; exact HQ.out)⟩
    case round =>
      obtain ⟨i, s, σ, neg, H, st, nm, f, q, rfl, rfl, rfl, rfl, rfl, hi, s0, s1, HS, HH, HF, HE⟩ := hrel
      obtain ⟨f, rfl⟩ : ∃ f', f = f' + 1 := ⟨f - 1, by have := HF.out; omega⟩
      obtain ⟨T, hT0⟩ : ∃ T, termL a lk ((nums S).drop i) = T := ⟨_, rfl⟩
      have hv := termL_v a HA.out lk HLK.out ((nums S).drop i) (BytL.drop (BytL.nums S) i)
      have HKK := Lib.hid (termL_k a lk ((nums S).drop i))
      have CT1 := Lib.hid (CT.out q i hi)
      have hE := HE.out
      unfold evalF at hE
      rw [hT0] at hv HKK CT1 hE
      clear hT0 HE
      obtain ⟨v, e0, k, st2, nm2⟩ := T
      rw [List.length_drop, HL.out] at HKK
      dsimp only at hv HKK hE
      obtain ⟨v0, v1⟩ := hv
      obtain ⟨H2, hH2⟩ : ∃ H2, (st2 || nm2) = H2 := ⟨_, rfl⟩
      have HE := Lib.hid hE
      have HHH : Hid ((st || st2 || (nm || nm2)) = (H || H2)) := Lib.hid (by rw [← hH2, HH.out]; cases st <;> cases st2 <;> cases nm <;> cases nm2 <;> rfl)
      clear hE
      go_wp2_with fail
      refine CT1.out.mono ?_
      rintro e w2 ⟨⟨q2, rfl⟩, k', rfl, hk⟩
      dsimp only at hk
      rw [hH2]
      rw [World.drewN_drewN]
      have HK := Lib.hid hk
      clear hk CT1 hH2
      by_cases h0 : e0 = 0
      · subst h0
        have hkk := HK.out rfl
        obtain ⟨kp, kl⟩ := HKK.out rfl
        have hE := HE.out
        rw [if_neg (by simp)] at hE
        obtain ⟨K, hK⟩ : ∃ K, i + k = K := ⟨_, rfl⟩
        rw [hK] at hkk
        subst hkk
        have hKs : K ≤ S.size := by omega
        have hiK : i < K := by omega
        have hlen : (((nums S).drop i).drop k).length = S.size - K := by rw [List.drop_drop, hK, List.length_drop, HL.out]
        have hat : iat ((nums S).drop i) k = iat (nums S) K := by rw [iat_drop, hK]
        have hdr : ((nums S).drop i).drop (k + 1) = (nums S).drop (K + 1) := by rw [List.drop_drop, ← hK]; rfl
        rw [hlen, hat, hdr] at hE
        have HE2 := Lib.hid hE
        clear hE HE hlen hat hdr hK kp kl HKK HK
        -- the new sum
        have HS2 : Hid (∃ s2 : Int, s + σ * v = s2 ∧ -65536 * (K : Int) ≤ s2 ∧ s2 ≤ 65536 * (K : Int) ∧ s2 % 65536 = (if neg then s % 65536 - v else s % 65536 + v) % 65536) := Lib.hid (by
          refine ⟨_, rfl, ?_⟩
          rcases HS.out with ⟨rfl, rfl⟩ | ⟨rfl, rfl⟩
          · simp only [if_true]; omega
          · simp only [Bool.false_eq_true, if_false]; omega)
        obtain ⟨s2, hs2, b0, b1, hm2⟩ := HS2.out
        have HM2 := Lib.hid hm2
        clear HS2 hm2
        have hmul : ∃ z, σ * v = z ∧ s + z = s2 ∧ -65536 < z ∧ z < 65536 := by
          refine ⟨_, rfl, hs2, ?_⟩
          rcases HS.out with ⟨_, rfl⟩ | ⟨_, rfl⟩ <;> omega
        obtain ⟨z, hz, hsz, z0, z1⟩ := hmul
        have wz1 : IntKind.i64.wrap (σ * v) = z := by rw [hz]; exact IntWalk.i64_in _ (by omega)
        have wz2 : IntKind.i64.wrap (s + z) = s2 := by rw [hsz]; exact IntWalk.i64_in _ (by omega)
        clear hs2
        by_cases hend : K = S.size
        · have hE := HE2.out
          rw [if_pos (by omega), ← HM2.out] at hE
          have HE3 := Lib.hid hE
          obtain ⟨r, hr, q0, q1, hr2⟩ := tmod16 s2
          have HR2 := Lib.hid hr2
          have hkz : ((K : Int) == (S.size : Int)) = true := by simp; omega
          clear hE hr2 hend HE2
          cases H
          all_goals
            by_cases hr0 : r < 0
            · have HV : Hid (r + 65536 = s2 % 65536) := Lib.hid (by have := HR2.out; omega)
              go_wp2
              go_ret3
              have hE := HE3.out
              subst hE
              refine ⟨⟨_, rfl⟩, ?_⟩
              rw [HHH.out, ← HV.out]; rfl
            · have HV : Hid (r = s2 % 65536) := Lib.hid (by have := HR2.out; omega)
              go_wp2
              go_ret3
              have hE := HE3.out
              subst hE
              refine ⟨⟨_, rfl⟩, ?_⟩
              rw [HHH.out, ← HV.out]; rfl
        · have hKlt : K < S.size := by omega
          have hkz : ((K : Int) == (S.size : Int)) = false := by simp; omega
          obtain ⟨y0, y1⟩ := iat_nums_range S K
          have hE := HE2.out
          rw [if_neg (by omega), ← HM2.out] at hE
          obtain ⟨y, hy⟩ : ∃ y, iat (nums S) K = y := ⟨_, rfl⟩
          have hby : ∀ h : K < S.size, ((S[K]'h).toNat : Int) = y := fun h => by rw [HB.out K h, hy]
          rw [hy] at y0 y1 hE
          have HE3 := Lib.hid hE
          clear hE hend hy HE2
          by_cases q43 : y = 43
          · have hE := HE3.out
            rw [if_pos q43] at hE
            have HE4 := Lib.hid hE
            subst q43
            clear hE HE3
            cases H
            all_goals
              go_wp2
              go_roundw
              case rel => exact ⟨K + 1, s2, 1, false, _, st || st2, nm || nm2, f, _, rfl, by go_num, rfl, rfl, rfl, by omega, by omega, by omega, Lib.hid (by simp), Lib.hid HHH.out.symm, Lib.hid (by have := HF.out; omega), HE4⟩
              case measure => simp [intOf]; omega
          by_cases q45 : y = 45
          · have hE := HE3.out
            rw [if_neg q43, if_pos q45] at hE
            have HE4 := Lib.hid hE
            subst q45
            clear hE HE3 q43
            cases H
            all_goals
              go_wp2
              go_roundw
              case rel => exact ⟨K + 1, s2, -1, true, _, st || st2, nm || nm2, f, _, rfl, by go_num, rfl, rfl, rfl, by omega, by omega, by omega, Lib.hid (by simp), Lib.hid HHH.out.symm, Lib.hid (by have := HF.out; omega), HE4⟩
              case measure => simp [intOf]; omega
          · have hE := HE3.out
            rw [if_neg q43, if_neg q45] at hE
            have HE4 := Lib.hid hE
            have b43 : (y != 43) = true := by simpa using q43
            have b45 : (y != 45) = true := by simpa using q45
            clear hE HE3 q43 q45
            cases H
            all_goals
              go_wp2
              go_ret3
              have hE := HE4.out
              subst hE
              refine ⟨⟨_, rfl⟩, ?_⟩
              rw [HHH.out]; rfl
      · have h0' : (e0 != 0) = true := by simpa using h0
        have hE := HE.out
        rw [if_pos h0] at hE
        have HE2 := Lib.hid hE
        clear hE HE h0
        cases H
        all_goals
          go_wp2
          go_ret3
          have hE := HE2.out
          subst hE
          refine ⟨⟨_, rfl⟩, ?_⟩
          rw [HHH.out]; rfl
  · have hpos : 0 < S.size := by omega
    obtain ⟨r0, r1⟩ := iat_nums_range S 0
    have HSG : Hid (sgn (nums S) = (decide (iat (nums S) 0 = 43) || decide (iat (nums S) 0 = 45))) := Lib.hid (by unfold sgn; rw [HL.out, decide_eq_true hpos, Bool.true_and])
    obtain ⟨x, hx⟩ : ∃ x, iat (nums S) 0 = x := ⟨_, rfl⟩
    have hb0 : ∀ h : 0 < S.size, ((S[0]'h).toNat : Int) = x := fun h => by rw [hb 0 h, hx]
    rw [hx] at HSG HG r0 r1
    clear hx hb h0
    by_cases h43 : x = 43
    · subst h43
      have HQ : Hid (evalF a lk (S.size + 1) false 0 false false ((nums S).drop 1) = R) := Lib.hid (by have := HG.out (HSG.out.trans rfl); rw [HL.out] at this; exact this)
      clear HP HG HSG
      go_enter Tryd.func60, Tryd.ntmps60
      go_wp2
      clear hb0 r0 r1
      go_loopw [9, 10, 11, 12] (fun v9 v10 v11 v12 wr => ∃ (i : Nat) (s σ : Int) (neg H st nm : Bool) (f q : Nat), v9 = .int .i64 s ∧ v10 = .int .i64 (i : Int) ∧ v11 = .bool H ∧ v12 = .int .i64 σ ∧ wr = w.drewN q ∧ i ≤ S.size ∧ -65536 * (i : Int) ≤ s ∧ s ≤ 65536 * (i : Int) ∧ Hid (neg = true ∧ σ = -1 ∨ neg = false ∧ σ = 1) ∧ Hid (H = (st || nm)) ∧ Hid (S.size - i < f) ∧
        Hid (evalF a lk f neg (s % 65536) st nm ((nums S).drop i) = R)) (fun _ v10 _ _ _ => S.size + 1 - (intOf v10).toNat)
      case atStart => exact ⟨1, 0, 1, false, false, false, false, S.size + 1, 0, rfl, rfl, rfl, rfl, rfl, by omega, by omega, by omega, Lib.hid (by simp), Lib.hid rfl, Lib.hid (by omega), Lib.hid (by rw [show (0 : Int) % 65536 = 0 from rfl]; exact HQ.out)⟩
      case round =>
        obtain ⟨i, s, σ, neg, H, st, nm, f, q, rfl, rfl, rfl, rfl, rfl, hi, s0, s1, HS, HH, HF, HE⟩ := hrel
        obtain ⟨f, rfl⟩ : ∃ f', f = f' + 1 := ⟨f - 1, by have := HF.out; omega⟩
        obtain ⟨T, hT0⟩ : ∃ T, termL a lk ((nums S).drop i) = T := ⟨_, rfl⟩
        have hv := termL_v a HA.out lk HLK.out ((nums S).drop i) (BytL.drop (BytL.nums S) i)
        have HKK := Lib.hid (termL_k a lk ((nums S).drop i))
        have CT1 := Lib.hid (CT.out q i hi)
        have hE := HE.out
        unfold evalF at hE
        rw [hT0] at hv HKK CT1 hE
        clear hT0 HE
        obtain ⟨v, e0, k, st2, nm2⟩ := T
        rw [List.length_drop, HL.out] at HKK
        dsimp only at hv HKK hE
        obtain ⟨v0, v1⟩ := hv
        obtain ⟨H2, hH2⟩ : ∃ H2, (st2 || nm2) = H2 := ⟨_, rfl⟩
        have HE := Lib.hid hE
        have HHH : Hid ((st || st2 || (nm || nm2)) = (H || H2)) := Lib.hid (by rw [← hH2, HH.out]; cases st <;> cases st2 <;> cases nm <;> cases nm2 <;> rfl)
        clear hE
        go_wp2_with fail
        refine CT1.out.mono ?_
        rintro e w2 ⟨⟨q2, rfl⟩, k', rfl, hk⟩
        dsimp only at hk
        rw [hH2]
        rw [World.drewN_drewN]
        have HK := Lib.hid hk
        clear hk CT1 hH2
        by_cases h0 : e0 = 0
        · subst h0
          have hkk := HK.out rfl
          obtain ⟨kp, kl⟩ := HKK.out rfl
          have hE := HE.out
          rw [if_neg (by simp)] at hE
          obtain ⟨K, hK⟩ : ∃ K, i + k = K := ⟨_, rfl⟩
          rw [hK] at hkk
          subst hkk
          have hKs : K ≤ S.size := by omega
          have hiK : i < K := by omega
          have hlen : (((nums S).drop i).drop k).length = S.size - K := by rw [List.drop_drop, hK, List.length_drop, HL.out]
          have hat : iat ((nums S).drop i) k = iat (nums S) K := by rw [iat_drop, hK]
          have hdr : ((nums S).drop i).drop (k + 1) = (nums S).drop (K + 1) := by rw [List.drop_drop, ← hK]; rfl
          rw [hlen, hat, hdr] at hE
          have HE2 := Lib.hid hE
          clear hE HE hlen hat hdr hK kp kl HKK HK
          -- the new sum
          have HS2 : Hid (∃ s2 : Int, s + σ * v = s2 ∧ -65536 * (K : Int) ≤ s2 ∧ s2 ≤ 65536 * (K : Int) ∧ s2 % 65536 = (if neg then s % 65536 - v else s % 65536 + v) % 65536) := Lib.hid (by
            refine ⟨_, rfl, ?_⟩
            rcases HS.out with ⟨rfl, rfl⟩ | ⟨rfl, rfl⟩
            · simp only [if_true]; omega
            · simp only [Bool.false_eq_true, if_false]; omega)
          obtain ⟨s2, hs2, b0, b1, hm2⟩ := HS2.out
          have HM2 := Lib.hid hm2
          clear HS2 hm2
          have hmul : ∃ z, σ * v = z ∧ s + z = s2 ∧ -65536 < z ∧ z < 65536 := by
            refine ⟨_, rfl, hs2, ?_⟩
            rcases HS.out with ⟨_, rfl⟩ | ⟨_, rfl⟩ <;> omega
          obtain ⟨z, hz, hsz, z0, z1⟩ := hmul
          have wz1 : IntKind.i64.wrap (σ * v) = z := by rw [hz]; exact IntWalk.i64_in _ (by omega)
          have wz2 : IntKind.i64.wrap (s + z) = s2 := by rw [hsz]; exact IntWalk.i64_in _ (by omega)
          clear hs2
          by_cases hend : K = S.size
          · have hE := HE2.out
            rw [if_pos (by omega), ← HM2.out] at hE
            have HE3 := Lib.hid hE
            obtain ⟨r, hr, q0, q1, hr2⟩ := tmod16 s2
            have HR2 := Lib.hid hr2
            have hkz : ((K : Int) == (S.size : Int)) = true := by simp; omega
            clear hE hr2 hend HE2
            cases H
            all_goals
              by_cases hr0 : r < 0
              · have HV : Hid (r + 65536 = s2 % 65536) := Lib.hid (by have := HR2.out; omega)
                go_wp2
                go_ret3
                have hE := HE3.out
                subst hE
                refine ⟨⟨_, rfl⟩, ?_⟩
                rw [HHH.out, ← HV.out]; rfl
              · have HV : Hid (r = s2 % 65536) := Lib.hid (by have := HR2.out; omega)
                go_wp2
                go_ret3
                have hE := HE3.out
                subst hE
                refine ⟨⟨_, rfl⟩, ?_⟩
                rw [HHH.out, ← HV.out]; rfl
          · have hKlt : K < S.size := by omega
            have hkz : ((K : Int) == (S.size : Int)) = false := by simp; omega
            obtain ⟨y0, y1⟩ := iat_nums_range S K
            have hE := HE2.out
            rw [if_neg (by omega), ← HM2.out] at hE
            obtain ⟨y, hy⟩ : ∃ y, iat (nums S) K = y := ⟨_, rfl⟩
            have hby : ∀ h : K < S.size, ((S[K]'h).toNat : Int) = y := fun h => by rw [HB.out K h, hy]
            rw [hy] at y0 y1 hE
            have HE3 := Lib.hid hE
            clear hE hend hy HE2
            by_cases q43 : y = 43
            · have hE := HE3.out
              rw [if_pos q43] at hE
              have HE4 := Lib.hid hE
              subst q43
              clear hE HE3
              cases H
              all_goals
                go_wp2
                go_roundw
                case rel => exact ⟨K + 1, s2, 1, false, _, st || st2, nm || nm2, f, _, rfl, by go_num, rfl, rfl, rfl, by omega, by omega, by omega, Lib.hid (by simp), Lib.hid HHH.out.symm, Lib.hid (by have := HF.out; omega), HE4⟩
                case measure => simp [intOf]; omega
            by_cases q45 : y = 45
            · have hE := HE3.out
              rw [if_neg q43, if_pos q45] at hE
              have HE4 := Lib.hid hE
              subst q45
              clear hE HE3 q43
              cases H
              all_goals
                go_wp2
                go_roundw
                case rel => exact ⟨K + 1, s2, -1, true, _, st || st2, nm || nm2, f, _, rfl, by go_num, rfl, rfl, rfl, by omega, by omega, by omega, Lib.hid (by simp), Lib.hid HHH.out.symm, Lib.hid (by have := HF.out; omega), HE4⟩
                case measure => simp [intOf]; omega
            · have hE := HE3.out
              rw [if_neg q43, if_neg q45] at hE
              have HE4 := Lib.hid hE
              have b43 : (y != 43) = true := by simpa using q43
              have b45 : (y != 45) = true := by simpa using q45
              clear hE HE3 q43 q45
              cases H
              all_goals
                go_wp2
                go_ret3
                have hE := HE4.out
                subst hE
                refine ⟨⟨_, rfl⟩, ?_⟩
                rw [HHH.out]; rfl
        · have h0' : (e0 != 0) = true := by simpa using h0
          have hE := HE.out
          rw [if_pos h0] at hE
          have HE2 := Lib.hid hE
          clear hE HE h0
          cases H
          all_goals
            go_wp2
            go_ret3
            have hE := HE2.out
            subst hE
            refine ⟨⟨_, rfl⟩, ?_⟩
            rw [HHH.out]; rfl
    · by_cases h45 : x = 45
      · subst h45
        have HQ : Hid (evalF a lk (S.size + 1) true 0 false false ((nums S).drop 1) = R) := Lib.hid (by have := HG.out (HSG.out.trans rfl); rw [HL.out] at this; exact this)
        clear HP HG HSG h43
        go_enter Tryd.func60, Tryd.ntmps60
        go_wp2
        clear hb0 r0 r1
        go_loopw [9, 10, 11, 12] (fun v9 v10 v11 v12 wr => ∃ (i : Nat) (s σ : Int) (neg H st nm : Bool) (f q : Nat), v9 = .int .i64 s ∧ v10 = .int .i64 (i : Int) ∧ v11 = .bool H ∧ v12 = .int .i64 σ ∧ wr = w.drewN q ∧ i ≤ S.size ∧ -65536 * (i : Int) ≤ s ∧ s ≤ 65536 * (i : Int) ∧ Hid (neg = true ∧ σ = -1 ∨ neg = false ∧ σ = 1) ∧ Hid (H = (st || nm)) ∧ Hid (S.size - i < f) ∧
          Hid (evalF a lk f neg (s % 65536) st nm ((nums S).drop i) = R)) (fun _ v10 _ _ _ => S.size + 1 - (intOf v10).toNat)
        case atStart => exact ⟨1, 0, -1, true, false, false, false, S.size + 1, 0, rfl, rfl, rfl, rfl, rfl, by omega, by omega, by omega, Lib.hid (by simp), Lib.hid rfl, Lib.hid (by omega), Lib.hid (by rw [show (0 : Int) % 65536 = 0 from rfl]; exact HQ.out)⟩
        case round =>
          obtain ⟨i, s, σ, neg, H, st, nm, f, q, rfl, rfl, rfl, rfl, rfl, hi, s0, s1, HS, HH, HF, HE⟩ := hrel
          obtain ⟨f, rfl⟩ : ∃ f', f = f' + 1 := ⟨f - 1, by have := HF.out; omega⟩
          obtain ⟨T, hT0⟩ : ∃ T, termL a lk ((nums S).drop i) = T := ⟨_, rfl⟩
          have hv := termL_v a HA.out lk HLK.out ((nums S).drop i) (BytL.drop (BytL.nums S) i)
          have HKK := Lib.hid (termL_k a lk ((nums S).drop i))
          have CT1 := Lib.hid (CT.out q i hi)
          have hE := HE.out
          unfold evalF at hE
          rw [hT0] at hv HKK CT1 hE
          clear hT0 HE
          obtain ⟨v, e0, k, st2, nm2⟩ := T
          rw [List.length_drop, HL.out] at HKK
          dsimp only at hv HKK hE
          obtain ⟨v0, v1⟩ := hv
          obtain ⟨H2, hH2⟩ : ∃ H2, (st2 || nm2) = H2 := ⟨_, rfl⟩
          have HE := Lib.hid hE
          have HHH : Hid ((st || st2 || (nm || nm2)) = (H || H2)) := Lib.hid (by rw [← hH2, HH.out]; cases st <;> cases st2 <;> cases nm <;> cases nm2 <;> rfl)
          clear hE
          go_wp2_with fail
          refine CT1.out.mono ?_
          rintro e w2 ⟨⟨q2, rfl⟩, k', rfl, hk⟩
          dsimp only at hk
          rw [hH2]
          rw [World.drewN_drewN]
          have HK := Lib.hid hk
          clear hk CT1 hH2
          by_cases h0 : e0 = 0
          · subst h0
            have hkk := HK.out rfl
            obtain ⟨kp, kl⟩ := HKK.out rfl
            have hE := HE.out
            rw [if_neg (by simp)] at hE
            obtain ⟨K, hK⟩ : ∃ K, i + k = K := ⟨_, rfl⟩
            rw [hK] at hkk
            subst hkk
            have hKs : K ≤ S.size := by omega
            have hiK : i < K := by omega
            have hlen : (((nums S).drop i).drop k).length = S.size - K := by rw [List.drop_drop, hK, List.length_drop, HL.out]
            have hat : iat ((nums S).drop i) k = iat (nums S) K := by rw [iat_drop, hK]
            have hdr : ((nums S).drop i).drop (k + 1) = (nums S).drop (K + 1) := by rw [List.drop_drop, ← hK]; rfl
            rw [hlen, hat, hdr] at hE
            have HE2 := Lib.hid hE
            clear hE HE hlen hat hdr hK kp kl HKK HK
            -- the new sum
            have HS2 : Hid (∃ s2 : Int, s + σ * v = s2 ∧ -65536 * (K : Int) ≤ s2 ∧ s2 ≤ 65536 * (K : Int) ∧ s2 % 65536 = (if neg then s % 65536 - v else s % 65536 + v) % 65536) := Lib.hid (by
              refine ⟨_, rfl, ?_⟩
              rcases HS.out with ⟨rfl, rfl⟩ | ⟨rfl, rfl⟩
              · simp only [if_true]; omega
              · simp only [Bool.false_eq_true, if_false]; omega)
            obtain ⟨s2, hs2, b0, b1, hm2⟩ := HS2.out
            have HM2 := Lib.hid hm2
            clear HS2 hm2
            have hmul : ∃ z, σ * v = z ∧ s + z = s2 ∧ -65536 < z ∧ z < 65536 := by
              refine ⟨_, rfl, hs2, ?_⟩
              rcases HS.out with ⟨_, rfl⟩ | ⟨_, rfl⟩ <;> omega
            obtain ⟨z, hz, hsz, z0, z1⟩ := hmul
            have wz1 : IntKind.i64.wrap (σ * v) = z := by rw [hz]; exact IntWalk.i64_in _ (by omega)
            have wz2 : IntKind.i64.wrap (s + z) = s2 := by rw [hsz]; exact IntWalk.i64_in _ (by omega)
            clear hs2
            by_cases hend : K = S.size
            · have hE := HE2.out
              rw [if_pos (by omega), ← HM2.out] at hE
              have HE3 := Lib.hid hE
              obtain ⟨r, hr, q0, q1, hr2⟩ := tmod16 s2
              have HR2 := Lib.hid hr2
              have hkz : ((K : Int) == (S.size : Int)) = true := by simp; omega
              clear hE hr2 hend HE2
              cases H
              all_goals
                by_cases hr0 : r < 0
                · have HV : Hid (r + 65536 = s2 % 65536) := Lib.hid (by have := HR2.out; omega)
                  go_wp2
                  go_ret3
                  have hE := HE3.out
                  subst hE
                  refine ⟨⟨_, rfl⟩, ?_⟩
                  rw [HHH.out, ← HV.out]; rfl
                · have HV : Hid (r = s2 % 65536) := Lib.hid (by have := HR2.out; omega)
                  go_wp2
                  go_ret3
                  have hE := HE3.out
                  subst hE
                  refine ⟨⟨_, rfl⟩, ?_⟩
                  rw [HHH.out, ← HV.out]; rfl
            · have hKlt : K < S.size := by omega
              have hkz : ((K : Int) == (S.size : Int)) = false := by simp; omega
              obtain ⟨y0, y1⟩ := iat_nums_range S K
              have hE := HE2.out
              rw [if_neg (by omega), ← HM2.out] at hE
              obtain ⟨y, hy⟩ : ∃ y, iat (nums S) K = y := ⟨_, rfl⟩
              have hby : ∀ h : K < S.size, ((S[K]'h).toNat : Int) = y := fun h => by rw [HB.out K h, hy]
              rw [hy] at y0 y1 hE
              have HE3 := Lib.hid hE
              clear hE hend hy HE2
              by_cases q43 : y = 43
              · have hE := HE3.out
                rw [if_pos q43] at hE
                have HE4 := Lib.hid hE
                subst q43
                clear hE HE3
                cases H
                all_goals
                  go_wp2
                  go_roundw
                  case rel => exact ⟨K + 1, s2, 1, false, _, st || st2, nm || nm2, f, _, rfl, by go_num, rfl, rfl, rfl, by omega, by omega, by omega, Lib.hid (by simp), Lib.hid HHH.out.symm, Lib.hid (by have := HF.out; omega), HE4⟩
                  case measure => simp [intOf]; omega
              by_cases q45 : y = 45
              · have hE := HE3.out
                rw [if_neg q43, if_pos q45] at hE
                have HE4 := Lib.hid hE
                subst q45
                clear hE HE3 q43
                cases H
                all_goals
                  go_wp2
                  go_roundw
                  case rel => exact ⟨K + 1, s2, -1, true, _, st || st2, nm || nm2, f, _, rfl, by go_num, rfl, rfl, rfl, by omega, by omega, by omega, Lib.hid (by simp), Lib.hid HHH.out.symm, Lib.hid (by have := HF.out; omega), HE4⟩
                  case measure => simp [intOf]; omega
              · have hE := HE3.out
                rw [if_neg q43, if_neg q45] at hE
                have HE4 := Lib.hid hE
                have b43 : (y != 43) = true := by simpa using q43
                have b45 : (y != 45) = true := by simpa using q45
                clear hE HE3 q43 q45
                cases H
                all_goals
                  go_wp2
                  go_ret3
                  have hE := HE4.out
                  subst hE
                  refine ⟨⟨_, rfl⟩, ?_⟩
                  rw [HHH.out]; rfl
          · have h0' : (e0 != 0) = true := by simpa using h0
            have hE := HE.out
            rw [if_pos h0] at hE
            have HE2 := Lib.hid hE
            clear hE HE h0
            cases H
            all_goals
              go_wp2
              go_ret3
              have hE := HE2.out
              subst hE
              refine ⟨⟨_, rfl⟩, ?_⟩
              rw [HHH.out]; rfl
      · have HQ : Hid (evalF a lk (S.size + 1) false 0 false false ((nums S).drop 0) = R) := Lib.hid (by rw [List.drop_zero, ← HL.out]; exact HP.out (HSG.out.trans (by rw [decide_eq_false h43, decide_eq_false h45]; rfl)))
        have b43 : (x == 43) = false := by simpa using h43
        have b45 : (x == 45) = false := by simpa using h45
        clear HP HG HSG h43 h45
        go_enter Tryd.func60, Tryd.ntmps60
        go_wp2
        clear hb0 r0 r1 b43 b45
        go_loopw [9, 10, 11, 12] (fun v9 v10 v11 v12 wr => ∃ (i : Nat) (s σ : Int) (neg H st nm : Bool) (f q : Nat), v9 = .int .i64 s ∧ v10 = .int .i64 (i : Int) ∧ v11 = .bool H ∧ v12 = .int .i64 σ ∧ wr = w.drewN q ∧ i ≤ S.size ∧ -65536 * (i : Int) ≤ s ∧ s ≤ 65536 * (i : Int) ∧ Hid (neg = true ∧ σ = -1 ∨ neg = false ∧ σ = 1) ∧ Hid (H = (st || nm)) ∧ Hid (S.size - i < f) ∧
          Hid (evalF a lk f neg (s % 65536) st nm ((nums S).drop i) = R)) (fun _ v10 _ _ _ => S.size + 1 - (intOf v10).toNat)
        case atStart => exact ⟨0, 0, 1, false, false, false, false, S.size + 1, 0, rfl, rfl, rfl, rfl, rfl, by omega, by omega, by omega, Lib.hid (by simp), Lib.hid rfl, Lib.hid (by omega), Lib.hid (by rw [show (0 : Int) % 65536 = 0 from rfl]; exact HQ.out)⟩
        case round =>
          obtain ⟨i, s, σ, neg, H, st, nm, f, q, rfl, rfl, rfl, rfl, rfl, hi, s0, s1, HS, HH, HF, HE⟩ := hrel
          obtain ⟨f, rfl⟩ : ∃ f', f = f' + 1 := ⟨f - 1, by have := HF.out; omega⟩
          obtain ⟨T, hT0⟩ : ∃ T, termL a lk ((nums S).drop i) = T := ⟨_, rfl⟩
          have hv := termL_v a HA.out lk HLK.out ((nums S).drop i) (BytL.drop (BytL.nums S) i)
          have HKK := Lib.hid (termL_k a lk ((nums S).drop i))
          have CT1 := Lib.hid (CT.out q i hi)
          have hE := HE.out
          unfold evalF at hE
          rw [hT0] at hv HKK CT1 hE
          clear hT0 HE
          obtain ⟨v, e0, k, st2, nm2⟩ := T
          rw [List.length_drop, HL.out] at HKK
          dsimp only at hv HKK hE
          obtain ⟨v0, v1⟩ := hv
          obtain ⟨H2, hH2⟩ : ∃ H2, (st2 || nm2) = H2 := ⟨_, rfl⟩
          have HE := Lib.hid hE
          have HHH : Hid ((st || st2 || (nm || nm2)) = (H || H2)) := Lib.hid (by rw [← hH2, HH.out]; cases st <;> cases st2 <;> cases nm <;> cases nm2 <;> rfl)
          clear hE
          go_wp2_with fail
          refine CT1.out.mono ?_
          rintro e w2 ⟨⟨q2, rfl⟩, k', rfl, hk⟩
          dsimp only at hk
          rw [hH2]
          rw [World.drewN_drewN]
          have HK := Lib.hid hk
          clear hk CT1 hH2
          by_cases h0 : e0 = 0
          · subst h0
            have hkk := HK.out rfl
            obtain ⟨kp, kl⟩ := HKK.out rfl
            have hE := HE.out
            rw [if_neg (by simp)] at hE
            obtain ⟨K, hK⟩ : ∃ K, i + k = K := ⟨_, rfl⟩
            rw [hK] at hkk
            subst hkk
            have hKs : K ≤ S.size := by omega
            have hiK : i < K := by omega
            have hlen : (((nums S).drop i).drop k).length = S.size - K := by rw [List.drop_drop, hK, List.length_drop, HL.out]
            have hat : iat ((nums S).drop i) k = iat (nums S) K := by rw [iat_drop, hK]
            have hdr : ((nums S).drop i).drop (k + 1) = (nums S).drop (K + 1) := by rw [List.drop_drop, ← hK]; rfl
            rw [hlen, hat, hdr] at hE
            have HE2 := Lib.hid hE
            clear hE HE hlen hat hdr hK kp kl HKK HK
            -- the new sum
            have HS2 : Hid (∃ s2 : Int, s + σ * v = s2 ∧ -65536 * (K : Int) ≤ s2 ∧ s2 ≤ 65536 * (K : Int) ∧ s2 % 65536 = (if neg then s % 65536 - v else s % 65536 + v) % 65536) := Lib.hid (by
              refine ⟨_, rfl, ?_⟩
              rcases HS.out with ⟨rfl, rfl⟩ | ⟨rfl, rfl⟩
              · simp only [if_true]; omega
              · simp only [Bool.false_eq_true, if_false]; omega)
            obtain ⟨s2, hs2, b0, b1, hm2⟩ := HS2.out
            have HM2 := Lib.hid hm2
            clear HS2 hm2
            have hmul : ∃ z, σ * v = z ∧ s + z = s2 ∧ -65536 < z ∧ z < 65536 := by
              refine ⟨_, rfl, hs2, ?_⟩
              rcases HS.out with ⟨_, rfl⟩ | ⟨_, rfl⟩ <;> omega
            obtain ⟨z, hz, hsz, z0, z1⟩ := hmul
            have wz1 : IntKind.i64.wrap (σ * v) = z := by rw [hz]; exact IntWalk.i64_in _ (by omega)
            have wz2 : IntKind.i64.wrap (s + z) = s2 := by rw [hsz]; exact IntWalk.i64_in _ (by omega)
            clear hs2
            by_cases hend : K = S.size
            · have hE := HE2.out
              rw [if_pos (by omega), ← HM2.out] at hE
              have HE3 := Lib.hid hE
              obtain ⟨r, hr, q0, q1, hr2⟩ := tmod16 s2
              have HR2 := Lib.hid hr2
              have hkz : ((K : Int) == (S.size : Int)) = true := by simp; omega
              clear hE hr2 hend HE2
              cases H
              all_goals
                by_cases hr0 : r < 0
                · have HV : Hid (r + 65536 = s2 % 65536) := Lib.hid (by have := HR2.out; omega)
                  go_wp2
                  go_ret3
                  have hE := HE3.out
                  subst hE
                  refine ⟨⟨_, rfl⟩, ?_⟩
                  rw [HHH.out, ← HV.out]; rfl
                · have HV : Hid (r = s2 % 65536) := Lib.hid (by have := HR2.out; omega)
                  go_wp2
                  go_ret3
                  have hE := HE3.out
                  subst hE
                  refine ⟨⟨_, rfl⟩, ?_⟩
                  rw [HHH.out, ← HV.out]; rfl
            · have hKlt : K < S.size := by omega
              have hkz : ((K : Int) == (S.size : Int)) = false := by simp; omega
              obtain ⟨y0, y1⟩ := iat_nums_range S K
              have hE := HE2.out
              rw [if_neg (by omega), ← HM2.out] at hE
              obtain ⟨y, hy⟩ : ∃ y, iat (nums S) K = y := ⟨_, rfl⟩
              have hby : ∀ h : K < S.size, ((S[K]'h).toNat : Int) = y := fun h => by rw [HB.out K h, hy]
              rw [hy] at y0 y1 hE
              have HE3 := Lib.hid hE
              clear hE hend hy HE2
              by_cases q43 : y = 43
              · have hE := HE3.out
                rw [if_pos q43] at hE
                have HE4 := Lib.hid hE
                subst q43
                clear hE HE3
                cases H
                all_goals
                  go_wp2
                  go_roundw
                  case rel => exact ⟨K + 1, s2, 1, false, _, st || st2, nm || nm2, f, _, rfl, by go_num, rfl, rfl, rfl, by omega, by omega, by omega, Lib.hid (by simp), Lib.hid HHH.out.symm, Lib.hid (by have := HF.out; omega), HE4⟩
                  case measure => simp [intOf]; omega
              by_cases q45 : y = 45
              · have hE := HE3.out
                rw [if_neg q43, if_pos q45] at hE
                have HE4 := Lib.hid hE
                subst q45
                clear hE HE3 q43
                cases H
                all_goals
                  go_wp2
                  go_roundw
                  case rel => exact ⟨K + 1, s2, -1, true, _, st || st2, nm || nm2, f, _, rfl, by go_num, rfl, rfl, rfl, by omega, by omega, by omega, Lib.hid (by simp), Lib.hid HHH.out.symm, Lib.hid (by have := HF.out; omega), HE4⟩
                  case measure => simp [intOf]; omega
              · have hE := HE3.out
                rw [if_neg q43, if_neg q45] at hE
                have HE4 := Lib.hid hE
                have b43 : (y != 43) = true := by simpa using q43
                have b45 : (y != 45) = true := by simpa using q45
                clear hE HE3 q43 q45
                cases H
                all_goals
                  go_wp2
                  go_ret3
                  have hE := HE4.out
                  subst hE
                  refine ⟨⟨_, rfl⟩, ?_⟩
                  rw [HHH.out]; rfl
          · have h0' : (e0 != 0) = true := by simpa using h0
            have hE := HE.out
            rw [if_pos h0] at hE
            have HE2 := Lib.hid hE
            clear hE HE h0
            cases H
            all_goals
              go_wp2
              go_ret3
              have hE := HE2.out
              subst hE
              refine ⟨⟨_, rfl⟩, ?_⟩
              rw [HHH.out]; rfl
end Go.Proofs.YtmdpgekbiohfbabDoor
