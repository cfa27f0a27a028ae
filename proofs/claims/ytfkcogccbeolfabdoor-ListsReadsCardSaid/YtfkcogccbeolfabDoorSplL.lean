/- spinetlaw17.ListsReads. -/
import Derived.Test.YtfkcogccbeolfabDoorSplW
import Derived.Test.YtfkcogccbeolfabDoorSplB
import Derived.Deep.QuietTactic
import Derived.BigQuiet
namespace Go.Proofs.YtfkcogccbeolfabDoor
open Go.ChangeShapes Go.WideShapes Go.ChangeAt Go.RowKit
set_option linter.unusedVariables false

set_option maxRecDepth 100000 in
theorem read_empty (st : Int) (w : World) : Calls Tryd.prog 8 #[.string ⟨#[]⟩, .int .i64 st] w (ReadIs w (0, 0)) := by
  go_enter Tryd.func8, Tryd.ntmps8
  go_wp2
  go_loopw [6, 7] (fun u6 u7 wr => u6 = .int .u8 0 ∧ u7 = .bool false ∧ wr = w) (fun _ _ _ => 0)
  case atStart => exact ⟨rfl, rfl, rfl⟩
  case round =>
    obtain ⟨rfl, rfl, rfl⟩ := hrel
    go_wp2
    go_ret2
    exact ⟨rfl, 0, rfl⟩
set_option maxRecDepth 100000 in
set_option maxHeartbeats 8000000 in
theorem law_long (s : ByteArray) (hs : 60 < s.size) (st : Int) (w : World) :
    Calls Tryd.prog 3 #[.string s, .int .i64 st] w fun e w' => e = .returned (.bool true) ∧ Below w.heap.size w w' := by
  have h60 : (60 : Int) < (s.size : Int) := by omega
  go_enter Tryd.func3, Tryd.ntmps3

  go_wp2
  go_ret
  exact ⟨rfl, Below.refl _ _⟩
--==
theorem w64_pow (k : Nat) (hk : k < 8) : wrap64 ((2 : Int) ^ k) = ((2 ^ k : Nat) : Int) := by
  rcases (show k = 0 ∨ k = 1 ∨ k = 2 ∨ k = 3 ∨ k = 4 ∨ k = 5 ∨ k = 6 ∨ k = 7 by omega) with rfl | rfl | rfl | rfl | rfl | rfl | rfl | rfl <;> first | rfl | decide +kernel | simp [wrap64]
set_option maxRecDepth 100000 in
set_option maxHeartbeats 16000000 in
theorem law_short (l : List UInt8) (hl : l.length ≤ 60) (hne : l ≠ []) (st : Int) (w : World) (hT : TabAt w) :
    Calls Tryd.prog 3 #[.string (strL l), .int .i64 st] w fun e w' => e = .returned (.bool true) ∧ Below w.heap.size w w' := by
  have HT := Lib.hid hT
  have hsz : (strL l).size = l.length := by simp [strL, ByteArray.size]
  have h60 : ¬ (60 : Int) < (l.length : Int) := by omega
  have hE : (strL l).toList.isEmpty = false := by
    rw [ByteArray.toList_eq]
    cases l with
    | nil => exact absurd rfl hne
    | cons a b => rfl
  have hE2 : (strL l).toList = [] ↔ False := by
    rw [ByteArray.toList_eq]
    cases l with
    | nil => exact absurd rfl hne
    | cons a b => simp [strL]
  have CRd := Lib.hid (fun w (hT : TabAt w) => read_some l (by omega) hne st w hT.1 hT.2)
  have HV0 := Lib.hid ((readF_law (st == 3) (l.length + 1) l 0 (by omega) (by decide) (by decide)))
  have CN := Lib.hid (fun w => names_any l hl w)
  have HTl := Lib.hid (show (splits [] l).length ≤ 61 ∧ 0 < (splits [] l).length by have := splits_len l []; have := splits_pos l []; omega)
  obtain ⟨u, hu⟩ : ∃ u, (st == 3) = u := ⟨_, rfl⟩
  rw [hu] at CRd HV0
  have HU := Lib.hid hu
  obtain ⟨V, hV⟩ : ∃ V, readF u (l.length + 1) l 0 = V := ⟨_, rfl⟩
  rw [hV] at CRd HV0
  obtain ⟨T, hTT⟩ : ∃ T, splits [] l = T := ⟨_, rfl⟩
  rw [hTT] at HV0 CN HTl
  clear hTT hV hu hT hl hne
  go_enter Tryd.func3, Tryd.ntmps3
  go_wp2_with fail
  refine (CRd.out _ HT.out).mono ?_
  rintro e w2 ⟨rfl, n2, rfl⟩
  have HB2 := Lib.hid (Below.drewN0 (Below.refl w.heap.size w) n2)
  go_wp2_with fail
  refine (CN.out _).mono ?_
  rintro e w3 ⟨v, rfl, hs3, hb3⟩
  have HB3 := Lib.hid (Below.trans0 HB2.out hb3)
  obtain ⟨A, cp, rfl, hrd⟩ := hs3.read
  rw [List.length_map] at hrd ⊢
  obtain ⟨g, rfl, hg, hcp, hcell⟩ := hrd HTl.out.2
  have HCell := Lib.hid hcell
  have HT3 := Lib.hid (HT.out.below HB3.out)
  clear hs3 hb3 hrd hcell HB2
  go_wp2
  go_loopw [7, 8, 10] (fun u7 u8 u10 wr => ∃ (i : Nat) (wn f : Int), i ≤ T.length ∧ u7 = .int .i64 wn ∧ u8 = .int .i64 f ∧ u10 = .int .i64 i ∧ 0 ≤ wn ∧ wn < 256 ∧ Hid ((f = 0 → V = lawF u (T.drop i) wn) ∧ (f ≠ 0 → V = (0, f))) ∧ Hid (Below w3.heap.size w3 wr)) (fun _ _ u10 _ => T.length - (intOf u10).toNat)
  case atStart => exact ⟨0, 0, 0, Nat.zero_le _, rfl, rfl, rfl, by omega, by omega, Lib.hid ⟨fun _ => HV0.out, fun h => absurd rfl h⟩, Lib.hid (Below.refl _ _)⟩
  case round =>
    obtain ⟨i, wn, f, hi, rfl, rfl, rfl, wn0, wn1, HF, HB⟩ := hrel
    by_cases hf : f = 0
    · subst hf
      by_cases hlt : i < T.length
      · obtain ⟨q, hq⟩ : ∃ q, T[i]'hlt = q := ⟨_, rfl⟩
        have hdr : T.drop i = q :: T.drop (i + 1) := by rw [← hq]; exact List.drop_eq_getElem_cons hlt
        have hc0 := HCell.out i (strL q) (by rw [List.getElem?_map, List.getElem?_eq_getElem hlt, hq]; rfl)
        rw [Nat.zero_add] at hc0
        have HC0 := Lib.hid hc0
        have hlaw := HF.out.1 rfl
        rw [hdr, lawF_cons, ← bitL_named] at hlaw
        have HLaw := Lib.hid hlaw
        have hcr : wr.cell? ⟨g, i, none⟩ = some (.string (strL q)) := (HB.out.cell (p := ⟨g, i, none⟩) hg).trans hc0
        have HI := Lib.hid (And.intro hlt HTl.out)
        have i0 : (0 : Int) ≤ (i : Int) := by omega
        have i1 : (i : Int) < (T.length : Int) := by omega
        have i2 : (i : Int) < 61 := by have := HTl.out.1; omega
        clear hq hdr hc0 hlaw hi hlt
        obtain ⟨s, hs⟩ : ∃ s, strL q = s := ⟨_, rfl⟩
        rw [hs] at HC0 HLaw hcr
        clear hs
        obtain ⟨bD, hD⟩ : ∃ bD, (s.toList == [68]) = bD := ⟨_, rfl⟩
        have HD0 : Hid (bitL s u 0 = if bD then 6 else 0) := Lib.hid (by
          rw [← hD]
          unfold bitL
          by_cases h : s = regS 0
          · rw [if_pos h, h, if_pos (by decide +kernel)]
          · rw [if_neg h, if_neg ?_]
            intro e
            have e2 := eq_of_beq e
            rw [ByteArray.toList_eq] at e2
            refine h (ByteArray.ext (Array.toList_inj.1 (e2.trans ?_)))
            decide +kernel)
        have HGi := Lib.hid hg
        cases bD
        all_goals
          go_wp2
          clear hcr
          go_loopw [11, 12] (fun u11 u12 wr2 => ∃ (k : Nat), k ≤ 8 ∧ u11 = .int .i64 (bitL s u k) ∧ u12 = .int .i64 k ∧ Hid (Below w3.heap.size w3 wr2)) (fun _ u12 _ => 8 - (intOf u12).toNat)
          case atStart => exact ⟨0, Nat.zero_le _, by rw [HD0.out]; rfl, rfl, HB⟩
          case round =>
            obtain ⟨k, hk, rfl, rfl, HB'⟩ := hrel
            have hck : wr.cell? ⟨g, i, none⟩ = some (.string s) := (HB'.out.cell (p := ⟨g, i, none⟩) HGi.out).trans HC0.out
            have hgw : g < wr.heap.size := Nat.lt_of_lt_of_le HGi.out HB'.out.size
            by_cases hk8 : k < 8
            · have k0 : (0 : Int) ≤ (k : Int) := by omega
              have k1 : (k : Int) < 8 := by omega
              have CC := Lib.hid (fun w => code17_any k hk8 (st == 3) w)
              rw [show regN k (st == 3) = regN k u by rw [HU.out]] at CC
              have CG := Lib.hid (fun w => refReg_any (regN k u) (regN_lt k hk8 u) w)
              have HSu := Lib.hid (bitL_succ s u k)
              by_cases hE3 : regS (regN k u) = s
              · rw [if_pos hE3] at HSu
                obtain ⟨R, hR⟩ : ∃ R, regS (regN k u) = R := ⟨_, rfl⟩
                rw [hR] at CG hE3
                rw [hE3] at CG
                obtain ⟨N, hN⟩ : ∃ N, regN k u = N := ⟨_, rfl⟩
                rw [hN] at CG CC
                clear hN hR
                go_wp2
                go_region_held3 (fun w' => w'.cell? ⟨g, i, none⟩ = some (.string s))
                  (first
                    | go_keep
                    | exact hck
                    | exact hck1
                    | exact hck2)
                  ((first
                    | (go_at_call 11; refine (CC.out _).mono ?_; rintro e w1 ⟨rfl, hb1⟩; have hg1 := Nat.lt_of_lt_of_le hgw hb1.size; have hck1 := (hb1.cell (p := ⟨g, i, none⟩) hgw).trans hck)
                    | (go_at_call 10; refine (CG.out _).mono ?_; rintro e w2 ⟨rfl, hb2⟩; have hck2 := (hb2.cell (p := ⟨g, i, none⟩) hg1).trans hck1)))
                have HBn := Lib.hid (Below.trans0 (Below.trans0 (Below.drew0 HB'.out) hb1) hb2)
                clear hb1 hb2
                have hw64 := w64_pow k hk8
                have HSn := Lib.hid (show ((2 ^ k : Nat) : Int) = bitL s u (k + 1) from HSu.out.symm)
                go_wp2
                refine ⟨⟨k + 1, by omega, by rw [hw64, HSn.out], by go_num, HBn⟩, ?_⟩
                simp [intOf]; omega
              · rw [if_neg hE3] at HSu
                obtain ⟨R, hR⟩ : ∃ R, regS (regN k u) = R := ⟨_, rfl⟩
                rw [hR] at CG hE3
                have eR : (R.toList == s.toList) = false := by
                  apply beq_false_of_ne
                  intro e
                  rw [ByteArray.toList_eq, ByteArray.toList_eq] at e
                  exact hE3 (ByteArray.ext (Array.toList_inj.1 e))
                obtain ⟨N, hN⟩ : ∃ N, regN k u = N := ⟨_, rfl⟩
                rw [hN] at CG CC
                clear hN hR
                go_wp2
                go_region_held3 (fun w' => w'.cell? ⟨g, i, none⟩ = some (.string s))
                  (first
                    | go_keep
                    | exact hck
                    | exact hck1
                    | exact hck2)
                  ((first
                    | (go_at_call 11; refine (CC.out _).mono ?_; rintro e w1 ⟨rfl, hb1⟩; have hg1 := Nat.lt_of_lt_of_le hgw hb1.size; have hck1 := (hb1.cell (p := ⟨g, i, none⟩) hgw).trans hck)
                    | (go_at_call 10; refine (CG.out _).mono ?_; rintro e w2 ⟨rfl, hb2⟩; have hck2 := (hb2.cell (p := ⟨g, i, none⟩) hg1).trans hck1)))
                have HBn := Lib.hid (Below.trans0 (Below.trans0 (Below.drew0 HB'.out) hb1) hb2)
                clear hb1 hb2
                go_wp2
                go_roundw
                case rel => exact ⟨k + 1, by omega, by rw [HSu.out], by go_num, HBn⟩
                case measure => simp [intOf]; omega
            · obtain rfl : k = 8 := by omega
              obtain ⟨n0, n1⟩ := bitL_range s u 8 (by omega)
              obtain ⟨N, hN⟩ : ∃ N, bitL s u 8 = N := ⟨_, rfl⟩
              have hLaw := HLaw.out
              rw [hN] at hLaw n0 n1
              rw [hN]
              obtain ⟨q1, q2, q3⟩ := bits_8_64 wn N wn0 wn1 n0 n1
              have hr8 := or_range8 wn N wn0 wn1 n0 n1
              rw [← q2] at hr8
              rw [← q1] at q3
              obtain ⟨r0, r1⟩ := hr8
              obtain ⟨A, hA⟩ : ∃ A, bits .and .i64 wn N = A := ⟨_, rfl⟩
              obtain ⟨B, hB⟩ : ∃ B, bits .or .i64 wn N = B := ⟨_, rfl⟩
              rw [hB] at r0 r1 hLaw
              rw [hA] at hLaw q3
              clear hN q1 q2 HLaw HF hck
              have HLaw := Lib.hid hLaw
              clear hLaw
              by_cases cN : N = 0
              · have HL1 := Lib.hid (HLaw.out.trans (if_pos cN))
                subst cN
                go_wp2
                go_roundw
                case rel => exact ⟨i + 1, B, 40, by have := HI.out; omega, rfl, rfl, by go_num, r0, r1, Lib.hid ⟨fun h => absurd h (by decide), fun _ => HL1.out⟩, HB'⟩
                case measure => have := HI.out.1; simp [intOf]; omega
              · have eN : (N == 0) = false := by simpa using cN
                by_cases cA : A = 0
                · have HL1 := Lib.hid ((HLaw.out.trans (if_neg cN)).trans (if_pos cA))
                  subst cA
                  go_wp2
                  go_roundw
                  case rel => exact ⟨i + 1, B, 0, by have := HI.out; omega, rfl, rfl, by go_num, r0, r1, Lib.hid ⟨fun _ => HL1.out, fun h => absurd rfl h⟩, HB'⟩
                  case measure => have := HI.out.1; simp [intOf]; omega
                · have eA : (A == 0) = false := by simpa using cA
                  have HL1 := Lib.hid ((HLaw.out.trans (if_neg cN)).trans (if_neg cA))
                  go_wp2
                  go_roundw
                  case rel => exact ⟨i + 1, B, 41, by have := HI.out; omega, rfl, rfl, by go_num, r0, r1, Lib.hid ⟨fun h => absurd h (by decide), fun _ => HL1.out⟩, HB'⟩
                  case measure => have := HI.out.1; simp [intOf]; omega
      · obtain rfl : i = T.length := by omega
        have hv := HF.out.1 rfl
        rw [List.drop_length] at hv
        obtain ⟨V1, V2⟩ := V
        obtain ⟨rfl, rfl⟩ : V1 = wn ∧ V2 = 0 := ⟨congrArg Prod.fst hv, congrArg Prod.snd hv⟩
        have t1 : IntKind.i64.wrap V1 = V1 := IntWalk.i64_in _ (by omega)
        have HTr := Lib.hid (HT3.out.below HB.out)
        clear hv
        go_wp2_with fail
        refine (alive17 _ HTr.out).mono ?_
        rintro e w4 ⟨rfl, hb4⟩
        have HB4 := Lib.hid (Below.trans0 HB3.out (Below.trans0 HB.out hb4))
        clear hb4
        go_wp2
        go_ret
        exact ⟨rfl, HB4.out⟩
    · have hv := HF.out.2 hf
      have ef : (f == 0) = false := by simpa using hf
      obtain ⟨V1, V2⟩ := V
      obtain ⟨rfl, rfl⟩ : V1 = 0 ∧ V2 = f := ⟨congrArg Prod.fst hv, congrArg Prod.snd hv⟩
      have HTr := Lib.hid (HT3.out.below HB.out)
      have i0 : (0 : Int) ≤ (i : Int) := by omega
      clear hv
      by_cases hlt : (i : Int) < (T.length : Int)
      all_goals
        go_wp2_with fail
        refine (alive17 _ HTr.out).mono ?_
        rintro e w4 ⟨rfl, hb4⟩
        have HB4 := Lib.hid (Below.trans0 HB3.out (Below.trans0 HB.out hb4))
        clear hb4
        go_wp2
        go_ret
        exact ⟨rfl, HB4.out⟩
set_option maxRecDepth 100000 in
set_option maxHeartbeats 8000000 in
theorem law_empty (st : Int) (w : World) (hT : TabAt w) :
    Calls Tryd.prog 3 #[.string ⟨#[]⟩, .int .i64 st] w fun e w' => e = .returned (.bool true) ∧ Below w.heap.size w w' := by
  have HT := Lib.hid hT
  have CRd := Lib.hid (fun w => read_empty st w)
  have CN : Hid (∀ w, Calls Tryd.prog 9 #[.string ⟨#[]⟩] w fun e w' => ∃ v, e = .returned v ∧ Strs w' w.heap.size v [⟨#[]⟩] ∧ Below w.heap.size w w') := Lib.hid (fun w => names_any [] (by decide) w)
  clear hT
  go_enter Tryd.func3, Tryd.ntmps3
  go_wp2_with fail
  refine (CRd.out _).mono ?_
  rintro e w2 ⟨rfl, n2, rfl⟩
  have HB2 := Lib.hid (Below.drewN0 (Below.refl w.heap.size w) n2)
  go_wp2_with fail
  refine (CN.out _).mono ?_
  rintro e w3 ⟨v, rfl, hs3, hb3⟩
  have HB3 := Lib.hid (Below.trans0 HB2.out hb3)
  obtain ⟨A, cp, rfl, hrd⟩ := hs3.read
  have HT3 := Lib.hid (HT.out.below HB3.out)
  clear hs3 hb3 hrd HB2
  rw [show ([(⟨#[]⟩ : ByteArray)]).length = 1 from rfl]
  go_wp2
  go_loopw [7, 8, 10] (fun u7 u8 u10 wr => u7 = .int .i64 0 ∧ u8 = .int .i64 0 ∧ u10 = .int .i64 0 ∧ wr = w3) (fun _ _ _ _ => 0)
  case atStart => exact ⟨rfl, rfl, rfl, rfl⟩
  case round =>
    obtain ⟨rfl, rfl, rfl, rfl⟩ := hrel
    go_wp2_with fail
    refine (alive17 _ HT3.out).mono ?_
    rintro e w4 ⟨rfl, hb4⟩
    have HB4 := Lib.hid (Below.trans0 HB3.out hb4)
    clear hb4
    go_wp2
    go_ret
    exact ⟨rfl, HB4.out⟩
theorem law_any (s : ByteArray) (st : Int) (w : World) (hT : TabAt w) :
    Calls Tryd.prog 3 #[.string s, .int .i64 st] w fun e w' => e = .returned (.bool true) ∧ Below w.heap.size w w' := by
  by_cases h60 : 60 < s.size
  · exact law_long s h60 st w
  · obtain ⟨l, rfl⟩ : ∃ l, s = strL l := ⟨s.data.toList, rfl⟩
    have hsz : (strL l).size = l.length := by simp [strL, ByteArray.size]
    by_cases h0 : l = []
    · subst h0; exact law_empty st w hT
    · exact law_short l (by omega) h0 st w hT
end Go.Proofs.YtfkcogccbeolfabDoor
