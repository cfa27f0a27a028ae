/- DsL, DsU, DsV, DsW, DsX, Knd, PKd in one text. -/
import Derived.Test.YtljhfalgplihhaaGreatDoorGLst
import Derived.Test.YtljhfalgplihhaaGreatDoorDsT
import Derived.Test.YtljhfalgplihhaaGreatDoorGLai
import Derived.Test.YtljhfalgplihhaaGreatDoorGPag
namespace Go.Proofs.YtljhfalgplihhaaGreatDoor
open Go.ChangeShapes Go.WideShapes Go.ChangeAt Go.RowKit
set_option linter.unusedVariables false
theorem quo_finD : ((List.range 2048).all fun j => Nat.beq (j / 8 / 2 ^ (j % 8) % 2) (if bitN (j / 8) (j % 8) then 1 else 0)) = true := by decide +kernel
theorem quo_bitD (p k : Nat) (hp : p < 256) (hk : k < 8) : (p : Int) / ((2 ^ k : Nat) : Int) % 2 = if bitN p k then 1 else 0 := by
  have h := allB2 2048 _ quo_finD (8 * p + k) (by omega)
  rw [Nat.beq_eq, show (8 * p + k) / 8 = p by omega, show (8 * p + k) % 8 = k by omega] at h
  have e : (p : Int) / ((2 ^ k : Nat) : Int) % 2 = ((p / 2 ^ k % 2 : Nat) : Int) := by simp
  rw [e, h]; split <;> rfl
theorem regNames_leD : ∀ r : Fin 12, (regNames.getD r.val []).length ≤ 2 := by decide
theorem byteStr_sizeD (l : List UInt8) : (byteStr l).size = l.length := by simp [byteStr, ByteArray.size]
def bitAD (k : Nat) : Int := if k < 8 then ((2 ^ k : Nat) : Int) else 0
theorem bitA_nextD (k : Nat) (h : k < 8) : IntKind.u8.wrap (bitAD k * 2) = bitAD (k + 1) := by
  rcases (show k = 0 ∨ k = 1 ∨ k = 2 ∨ k = 3 ∨ k = 4 ∨ k = 5 ∨ k = 6 ∨ k = 7 by omega) with rfl | rfl | rfl | rfl | rfl | rfl | rfl | rfl <;> decide
theorem byteStr_appD (a b : List UInt8) : byteStr a ++ byteStr b = byteStr (a ++ b) := by
  unfold byteStr
  apply ByteArray.ext
  simp
set_option maxRecDepth 100000 in
set_option maxHeartbeats 4000000 in
theorem refList42_any (p : Nat) (hp : p < 256) (u : Bool) (w : World) :
    Calls Tryz.prog 21 #[.int .u8 (p : Int), .bool u] w fun e w' => e = .returned (.string (byteStr (txtL p u 8))) ∧ Below w.heap.size w w' := by
  have HP := Lib.hid hp
  have p0 : (0 : Int) ≤ (p : Int) := by omega
  have p1 : (p : Int) < 256 := by omega
  obtain ⟨T, hTx⟩ : ∃ T, txtL p u 8 = T := ⟨_, rfl⟩
  have HTx := Lib.hid hTx
  rw [hTx]
  clear hp hTx
  go_enter Tryz.func21, Tryz.ntmps21
  go_wp2
  go_loopw [5, 6, 7] (fun u5 u6 u7 wr => ∃ k : Nat, k ≤ 8 ∧ u7 = .int .i64 k ∧ u6 = .int .u8 (bitAD k) ∧ u5 = .string (byteStr (txtL p u k)) ∧ Hid (Below w.heap.size w wr)) (fun _ _ u7 _ => 8 - (intOf u7).toNat)
  case atStart => exact ⟨0, Nat.zero_le _, rfl, rfl, rfl, Lib.hid (Below.refl _ _)⟩
  case round =>
    obtain ⟨k, hk, rfl, rfl, rfl, HBel⟩ := hrel
    by_cases hlt : k < 8
    · obtain ⟨hst, hle⟩ := step_txt p HP.out u k hlt
      have hbit := quo_bitD p k HP.out hlt
      have hnx := bitA_nextD k hlt
      have hpos : (0 : Int) < ((2 ^ k : Nat) : Int) := by have : 0 < 2 ^ k := Nat.pow_pos (by decide); omega
      have hlt256 := pow_lt8 k hlt
      have hba : bitAD k = ((2 ^ k : Nat) : Int) := by unfold bitAD; rw [if_pos hlt]
      rw [← hba] at hbit hpos
      have CR := Lib.hid (fun w => code17_any k hlt u w)
      have CO := Lib.hid (fun w => refReg_any (regN k u) (regN_lt k hlt u) w)
      have hb256 : bitAD k < 256 := by rw [hba]; omega
      obtain ⟨b, hb⟩ : ∃ b : Int, bitAD k = b := ⟨_, rfl⟩
      rw [hb] at hbit hpos hnx hb256
      rw [hb]
      have hb0 : 0 ≤ b := by omega
      obtain ⟨b2, hb2⟩ : ∃ b2 : Int, bitAD (k + 1) = b2 := ⟨_, rfl⟩
      rw [hb2] at hnx
      have HB2n := Lib.hid hb2
      have HSt := Lib.hid hst
      have HLe := Lib.hid hle
      have HK := Lib.hid hk
      have HNm : Hid (regS (regN k u) = byteStr (regNames.getD (regN k u) [])) := Lib.hid rfl
      have hMl := regNames_leD ⟨regN k u, regN_lt k hlt u⟩
      simp only at hMl
      obtain ⟨M, hM⟩ : ∃ M, regNames.getD (regN k u) [] = M := ⟨_, rfl⟩
      rw [hM] at hMl
      obtain ⟨S, hS⟩ : ∃ S, txtL p u k = S := ⟨_, rfl⟩
      obtain ⟨NM, hNM⟩ : ∃ NM, regS (regN k u) = NM := ⟨_, rfl⟩
      rw [hNM] at CO HNm
      rw [hM] at HSt HNm
      rw [hS] at HSt HLe ⊢
      obtain ⟨R, hR⟩ : ∃ R, regN k u = R := ⟨_, rfl⟩
      rw [hR] at CR CO
      have k0 : (0 : Int) ≤ (k : Int) := by omega
      have k1 : (k : Int) < 8 := by omega
      have hX : ∃ X : Int, (p : Int) / b = X := ⟨_, rfl⟩
      obtain ⟨X, hX⟩ := hX
      have hX0 : 0 ≤ X := by rw [← hX]; exact Int.ediv_nonneg p0 hb0
      have hX1 : X < 256 := by have := Int.ediv_le_self b p0; omega
      have hXt : (p : Int).tdiv b = X := by rw [Int.tdiv_eq_ediv_of_nonneg p0, hX]
      rw [hX] at hbit
      have eb : (b == 0) = false := by have : ¬ b = 0 := by omega
                                       simpa using this
      clear hX hb hb2 hba hst hle hM hS hNM hR
      have hn1 : ¬ 9223372036854775807 < NM.size := by rw [HNm.out, byteStr_sizeD]; omega
      have hn2 : ¬ 9223372036854775807 < (byteStr S).size + 1 := by have := HLe.out; rw [byteStr_sizeD]; omega
      have hn3 : ¬ 9223372036854775807 < (byteStr S).size + 1 + NM.size := by have := HLe.out; rw [HNm.out, byteStr_sizeD, byteStr_sizeD]; omega
      clear hMl
      cases g1 : bitN p k
      · have HN : Hid (txtL p u (k + 1) = S) := Lib.hid (by rw [HSt.out, g1]; rfl)
        rw [g1] at hbit
        simp only [Bool.false_eq_true, if_false] at hbit
        clear g1 hlt256 hk hlt HSt
        go_wp2
        go_roundw
        case rel => exact ⟨k + 1, by have := HK.out; omega, by go_num, by rw [HB2n.out], by rw [HN.out], HBel⟩
        case measure => simp [intOf]; omega
      · rw [g1] at hbit
        simp only [if_true] at hbit
        by_cases hS0 : S = []
        · have HN : Hid (txtL p u (k + 1) = M) := Lib.hid (by rw [HSt.out, g1, if_pos rfl, if_pos hS0])
          subst hS0
          rw [show byteStr [] = (⟨#[]⟩ : ByteArray) from rfl]
          have hadd : (⟨#[]⟩ : ByteArray) ++ NM = byteStr M := by rw [HNm.out]; exact byteStr_appD [] M
          have HAdd := Lib.hid hadd
          clear g1 hlt256 hk hlt HSt hadd
          go_wp2_with fail
          refine (CR.out _).mono ?_
          rintro e w1 ⟨rfl, hb1⟩
          have HB1 := Lib.hid (Below.trans0 HBel.out hb1)
          clear hb1
          go_wp2_with fail
          refine (CO.out _).mono ?_
          rintro e w2 ⟨rfl, hb1⟩
          have HB2 := Lib.hid (Below.trans0 HB1.out hb1)
          clear hb1
          go_wp2
          go_roundw
          case rel => exact ⟨k + 1, by have := HK.out; omega, by go_num, by rw [HB2n.out], by rw [HN.out, ← HAdd.out], HB2⟩
          case measure => simp [intOf]; omega
        · have HN : Hid (txtL p u (k + 1) = S ++ 44 :: M) := Lib.hid (by rw [HSt.out, g1, if_pos rfl, if_neg hS0])
          have hE : (byteStr S).toList.isEmpty = false := by
            rw [ByteArray.toList_eq]
            cases S with
            | nil => exact absurd rfl hS0
            | cons a b => rfl
          have hE2 : (byteStr S).toList = [] ↔ False := by
            rw [ByteArray.toList_eq]
            cases S with
            | nil => exact absurd rfl hS0
            | cons a b => simp [byteStr]
          have hadd : byteStr S ++ (⟨#[44]⟩ : ByteArray) ++ NM = byteStr (S ++ 44 :: M) := by
            rw [HNm.out, show (⟨#[44]⟩ : ByteArray) = byteStr [44] from rfl, byteStr_appD, byteStr_appD, List.append_assoc]; rfl
          have HAdd := Lib.hid hadd
          clear g1 hlt256 hk hlt HSt hadd hS0
          go_wp2_with fail
          refine (CR.out _).mono ?_
          rintro e w1 ⟨rfl, hb1⟩
          have HB1 := Lib.hid (Below.trans0 HBel.out hb1)
          clear hb1
          go_wp2_with fail
          refine (CO.out _).mono ?_
          rintro e w2 ⟨rfl, hb1⟩
          have HB2 := Lib.hid (Below.trans0 HB1.out hb1)
          clear hb1
          go_wp2
          go_roundw
          case rel => exact ⟨k + 1, by have := HK.out; omega, by go_num, by rw [HB2n.out], by rw [HN.out, ← HAdd.out], HB2⟩
          case measure => simp [intOf]; omega
    · obtain rfl : k = 8 := by omega
      go_wp2
      go_ret
      exact ⟨congrArg (fun l => Ending.returned (Value.string (byteStr l))) HTx.out, HBel.out⟩
end Go.Proofs.YtljhfalgplihhaaGreatDoor
namespace Go.Proofs.YtljhfalgplihhaaGreatDoor
open Go.ChangeShapes Go.WideShapes Go.ChangeAt Go.RowKit
set_option linter.unusedVariables false
set_option maxHeartbeats 2000000 in
set_option maxRecDepth 100000 in
theorem refText1_any (p c o r v l a : Int) (b : Nat) (hb : b < 256) (A : Option Addr) (n cap : Nat) (w : World) (l0 : 0 ≤ l) (l1 : l ≤ 100) (v0 : 0 ≤ v) (v1 : v < 65536) (a0 : 0 ≤ a) (a1 : a < 65536) (hv : v < 256) (hs : surI o 1 b = true) :
    Calls Tryz.prog 10 #[.agg (iC p c o 1 r (b : Int) v l), .int .u16 a, .slice A n cap] w fun e w' => e = .returned (.string (lineT (nmT o r) (oprT 1 r b v l a))) ∧ Below w.heap.size w w' := by
  have HB0 := Lib.hid (Below.alloc0 (Below.refl w.heap.size w) (Obj.cells (iC p c o 1 r (b : Int) v l) 37))
  have HI0 := Lib.hid (Blk.new w 37 (iC p c o 1 r (b : Int) v l) (0, 0))
  have CS := Lib.hid (fun u => refSure42_any p c o 1 r v l b hb u)
  have CN : Hid (∀ u, Calls Tryz.prog 22 #[.int .i64 o, .int .i64 r] u fun e w' => e = .returned (.string (nmT o r)) ∧ Below u.heap.size u w') := Lib.hid (fun u => refName13_any o r u)
  rw [hs] at CS
  have s1 := oprT_size 1 r b v l a hb v0 v1
  have s2 := nmT_size o r
  have hv256 : v % 256 = v := by omega
  have CH : Hid (∀ u, Calls Tryz.prog 18 #[.int .i64 v, .int .i64 2] u fun e w' => e = .returned (.string (hexT v 2)) ∧ u = w') := Lib.hid (fun u => refHex42_any v 2 u v0 v1 (by omega) (by omega))
  have HO : oprT 1 r b v l a = ⟨#[35]⟩ ++ hexT v 2 := by unfold oprT; simp (decide := true) only [↓reduceIte, hv256]
  have hq := hexT_size v 2 v0 v1 (by omega)
  rw [HO] at s1 ⊢
  generalize hexT v 2 = S at CH hq s1 ⊢
  have z0 : 1 + S.size ≤ 100 := by omega
  obtain ⟨SX, hSX⟩ : ∃ SX, (⟨#[35]⟩ : ByteArray) ++ S = SX := ⟨_, rfl⟩
  rw [hSX] at s1 ⊢
  have HSX := Lib.hid hSX
  clear HO hSX hq
  generalize nmT o r = S2 at CN s2 ⊢
  have z1 : S2.size + 1 ≤ 2000 := by omega
  have z2 : S2.size + 1 + SX.size ≤ 2000 := by omega
  unfold lineT
  clear s1 s2 hs
  cases hE : SX.toList.isEmpty
  all_goals
    go_enter Tryz.func10, Tryz.ntmps10
    go_wp2_with fail
    refine (CS.out _).mono ?_
    rintro e w1 ⟨rfl, hb1⟩
    have HB1 := Lib.hid (Below.trans0 HB0.out hb1)
    have HI1 := Lib.hid (Blk.below HI0.out hb1 (by simp))
    clear hb1
    obtain ⟨c0, c1, c2, c3, c4, c5, c6, c7⟩ := HI1.out.s8
    go_wp2_with fail
    refine (CH.out _).mono ?_
    rintro e w2 ⟨rfl, rfl⟩
    have hSX := HSX.out
    have HBo := HB1
    have HIo := HI1
    go_wp2_with fail
    refine (CN.out _).mono ?_
    rintro e wn ⟨rfl, hbn⟩
    have HBz := Lib.hid (Below.trans0 HBo.out hbn)
    clear hbn
    go_wp2
    go_ret
    exact ⟨rfl, HBz.out⟩
set_option maxHeartbeats 2000000 in
set_option maxRecDepth 100000 in
theorem refText2_any (p c o r v l a : Int) (b : Nat) (hb : b < 256) (A : Option Addr) (n cap : Nat) (w : World) (l0 : 0 ≤ l) (l1 : l ≤ 100) (v0 : 0 ≤ v) (v1 : v < 65536) (a0 : 0 ≤ a) (a1 : a < 65536) (hs : surI o 2 b = true) :
    Calls Tryz.prog 10 #[.agg (iC p c o 2 r (b : Int) v l), .int .u16 a, .slice A n cap] w fun e w' => e = .returned (.string (lineT (nmT o r) (oprT 2 r b v l a))) ∧ Below w.heap.size w w' := by
  have HB0 := Lib.hid (Below.alloc0 (Below.refl w.heap.size w) (Obj.cells (iC p c o 2 r (b : Int) v l) 37))
  have HI0 := Lib.hid (Blk.new w 37 (iC p c o 2 r (b : Int) v l) (0, 0))
  have CS := Lib.hid (fun u => refSure42_any p c o 2 r v l b hb u)
  have CN : Hid (∀ u, Calls Tryz.prog 22 #[.int .i64 o, .int .i64 r] u fun e w' => e = .returned (.string (nmT o r)) ∧ Below u.heap.size u w') := Lib.hid (fun u => refName13_any o r u)
  rw [hs] at CS
  have s1 := oprT_size 2 r b v l a hb v0 v1
  have s2 := nmT_size o r
  have CH : Hid (∀ u, Calls Tryz.prog 18 #[.int .i64 v, .int .i64 4] u fun e w' => e = .returned (.string (hexT v 4)) ∧ u = w') := Lib.hid (fun u => refHex42_any v 4 u v0 v1 (by omega) (by omega))
  have HO : oprT 2 r b v l a = ⟨#[35]⟩ ++ hexT v 4 := by unfold oprT; simp (decide := true) only [↓reduceIte]
  have hq := hexT_size v 4 v0 v1 (by omega)
  rw [HO] at s1 ⊢
  generalize hexT v 4 = S at CH hq s1 ⊢
  have z0 : 1 + S.size ≤ 100 := by omega
  obtain ⟨SX, hSX⟩ : ∃ SX, (⟨#[35]⟩ : ByteArray) ++ S = SX := ⟨_, rfl⟩
  rw [hSX] at s1 ⊢
  have HSX := Lib.hid hSX
  clear HO hSX hq
  generalize nmT o r = S2 at CN s2 ⊢
  have z1 : S2.size + 1 ≤ 2000 := by omega
  have z2 : S2.size + 1 + SX.size ≤ 2000 := by omega
  unfold lineT
  clear s1 s2 hs
  cases hE : SX.toList.isEmpty
  all_goals
    go_enter Tryz.func10, Tryz.ntmps10
    go_wp2_with fail
    refine (CS.out _).mono ?_
    rintro e w1 ⟨rfl, hb1⟩
    have HB1 := Lib.hid (Below.trans0 HB0.out hb1)
    have HI1 := Lib.hid (Blk.below HI0.out hb1 (by simp))
    clear hb1
    obtain ⟨c0, c1, c2, c3, c4, c5, c6, c7⟩ := HI1.out.s8
    go_wp2_with fail
    refine (CH.out _).mono ?_
    rintro e w2 ⟨rfl, rfl⟩
    have hSX := HSX.out
    have HBo := HB1
    have HIo := HI1
    go_wp2_with fail
    refine (CN.out _).mono ?_
    rintro e wn ⟨rfl, hbn⟩
    have HBz := Lib.hid (Below.trans0 HBo.out hbn)
    clear hbn
    go_wp2
    go_ret
    exact ⟨rfl, HBz.out⟩
set_option maxHeartbeats 2000000 in
set_option maxRecDepth 100000 in
theorem refText3_any (p c o r v l a : Int) (b : Nat) (hb : b < 256) (A : Option Addr) (n cap : Nat) (w : World) (l0 : 0 ≤ l) (l1 : l ≤ 100) (v0 : 0 ≤ v) (v1 : v < 65536) (a0 : 0 ≤ a) (a1 : a < 65536) (hv : v < 256) (hs : surI o 3 b = true) :
    Calls Tryz.prog 10 #[.agg (iC p c o 3 r (b : Int) v l), .int .u16 a, .slice A n cap] w fun e w' => e = .returned (.string (lineT (nmT o r) (oprT 3 r b v l a))) ∧ Below w.heap.size w w' := by
  have HB0 := Lib.hid (Below.alloc0 (Below.refl w.heap.size w) (Obj.cells (iC p c o 3 r (b : Int) v l) 37))
  have HI0 := Lib.hid (Blk.new w 37 (iC p c o 3 r (b : Int) v l) (0, 0))
  have CS := Lib.hid (fun u => refSure42_any p c o 3 r v l b hb u)
  have CN : Hid (∀ u, Calls Tryz.prog 22 #[.int .i64 o, .int .i64 r] u fun e w' => e = .returned (.string (nmT o r)) ∧ Below u.heap.size u w') := Lib.hid (fun u => refName13_any o r u)
  rw [hs] at CS
  have s1 := oprT_size 3 r b v l a hb v0 v1
  have s2 := nmT_size o r
  have hv256 : v % 256 = v := by omega
  have CH : Hid (∀ u, Calls Tryz.prog 18 #[.int .i64 v, .int .i64 2] u fun e w' => e = .returned (.string (hexT v 2)) ∧ u = w') := Lib.hid (fun u => refHex42_any v 2 u v0 v1 (by omega) (by omega))
  have HO : oprT 3 r b v l a = ⟨#[60]⟩ ++ hexT v 2 := by unfold oprT; simp (decide := true) only [↓reduceIte, hv256]
  have hq := hexT_size v 2 v0 v1 (by omega)
  rw [HO] at s1 ⊢
  generalize hexT v 2 = S at CH hq s1 ⊢
  have z0 : 1 + S.size ≤ 100 := by omega
  obtain ⟨SX, hSX⟩ : ∃ SX, (⟨#[60]⟩ : ByteArray) ++ S = SX := ⟨_, rfl⟩
  rw [hSX] at s1 ⊢
  have HSX := Lib.hid hSX
  clear HO hSX hq
  generalize nmT o r = S2 at CN s2 ⊢
  have z1 : S2.size + 1 ≤ 2000 := by omega
  have z2 : S2.size + 1 + SX.size ≤ 2000 := by omega
  unfold lineT
  clear s1 s2 hs
  cases hE : SX.toList.isEmpty
  all_goals
    go_enter Tryz.func10, Tryz.ntmps10
    go_wp2_with fail
    refine (CS.out _).mono ?_
    rintro e w1 ⟨rfl, hb1⟩
    have HB1 := Lib.hid (Below.trans0 HB0.out hb1)
    have HI1 := Lib.hid (Blk.below HI0.out hb1 (by simp))
    clear hb1
    obtain ⟨c0, c1, c2, c3, c4, c5, c6, c7⟩ := HI1.out.s8
    go_wp2_with fail
    refine (CH.out _).mono ?_
    rintro e w2 ⟨rfl, rfl⟩
    have hSX := HSX.out
    have HBo := HB1
    have HIo := HI1
    go_wp2_with fail
    refine (CN.out _).mono ?_
    rintro e wn ⟨rfl, hbn⟩
    have HBz := Lib.hid (Below.trans0 HBo.out hbn)
    clear hbn
    go_wp2
    go_ret
    exact ⟨rfl, HBz.out⟩
set_option maxHeartbeats 2000000 in
set_option maxRecDepth 100000 in
theorem refText5_any (p c o r v l a : Int) (b : Nat) (hb : b < 256) (A : Option Addr) (n cap : Nat) (w : World) (l0 : 0 ≤ l) (l1 : l ≤ 100) (v0 : 0 ≤ v) (v1 : v < 65536) (a0 : 0 ≤ a) (a1 : a < 65536) (hs : surI o 5 b = true) :
    Calls Tryz.prog 10 #[.agg (iC p c o 5 r (b : Int) v l), .int .u16 a, .slice A n cap] w fun e w' => e = .returned (.string (lineT (nmT o r) (oprT 5 r b v l a))) ∧ Below w.heap.size w w' := by
  have HB0 := Lib.hid (Below.alloc0 (Below.refl w.heap.size w) (Obj.cells (iC p c o 5 r (b : Int) v l) 37))
  have HI0 := Lib.hid (Blk.new w 37 (iC p c o 5 r (b : Int) v l) (0, 0))
  have CS := Lib.hid (fun u => refSure42_any p c o 5 r v l b hb u)
  have CN : Hid (∀ u, Calls Tryz.prog 22 #[.int .i64 o, .int .i64 r] u fun e w' => e = .returned (.string (nmT o r)) ∧ Below u.heap.size u w') := Lib.hid (fun u => refName13_any o r u)
  rw [hs] at CS
  have s1 := oprT_size 5 r b v l a hb v0 v1
  have s2 := nmT_size o r
  have CH : Hid (∀ u, Calls Tryz.prog 18 #[.int .i64 v, .int .i64 4] u fun e w' => e = .returned (.string (hexT v 4)) ∧ u = w') := Lib.hid (fun u => refHex42_any v 4 u v0 v1 (by omega) (by omega))
  have HO : oprT 5 r b v l a = ⟨#[62]⟩ ++ hexT v 4 := by unfold oprT; simp (decide := true) only [↓reduceIte]
  have hq := hexT_size v 4 v0 v1 (by omega)
  rw [HO] at s1 ⊢
  generalize hexT v 4 = S at CH hq s1 ⊢
  have z0 : 1 + S.size ≤ 100 := by omega
  obtain ⟨SX, hSX⟩ : ∃ SX, (⟨#[62]⟩ : ByteArray) ++ S = SX := ⟨_, rfl⟩
  rw [hSX] at s1 ⊢
  have HSX := Lib.hid hSX
  clear HO hSX hq
  generalize nmT o r = S2 at CN s2 ⊢
  have z1 : S2.size + 1 ≤ 2000 := by omega
  have z2 : S2.size + 1 + SX.size ≤ 2000 := by omega
  unfold lineT
  clear s1 s2 hs
  cases hE : SX.toList.isEmpty
  all_goals
    go_enter Tryz.func10, Tryz.ntmps10
    go_wp2_with fail
    refine (CS.out _).mono ?_
    rintro e w1 ⟨rfl, hb1⟩
    have HB1 := Lib.hid (Below.trans0 HB0.out hb1)
    have HI1 := Lib.hid (Blk.below HI0.out hb1 (by simp))
    clear hb1
    obtain ⟨c0, c1, c2, c3, c4, c5, c6, c7⟩ := HI1.out.s8
    go_wp2_with fail
    refine (CH.out _).mono ?_
    rintro e w2 ⟨rfl, rfl⟩
    have hSX := HSX.out
    have HBo := HB1
    have HIo := HI1
    go_wp2_with fail
    refine (CN.out _).mono ?_
    rintro e wn ⟨rfl, hbn⟩
    have HBz := Lib.hid (Below.trans0 HBo.out hbn)
    clear hbn
    go_wp2
    go_ret
    exact ⟨rfl, HBz.out⟩
set_option maxHeartbeats 2000000 in
set_option maxRecDepth 100000 in
theorem refText6_any (p c o r v l a : Int) (b : Nat) (hb : b < 256) (A : Option Addr) (n cap : Nat) (w : World) (l0 : 0 ≤ l) (l1 : l ≤ 100) (v0 : 0 ≤ v) (v1 : v < 65536) (a0 : 0 ≤ a) (a1 : a < 65536) (hs : surI o 6 b = true) :
    Calls Tryz.prog 10 #[.agg (iC p c o 6 r (b : Int) v l), .int .u16 a, .slice A n cap] w fun e w' => e = .returned (.string (lineT (nmT o r) (oprT 6 r b v l a))) ∧ Below w.heap.size w w' := by
  have HB0 := Lib.hid (Below.alloc0 (Below.refl w.heap.size w) (Obj.cells (iC p c o 6 r (b : Int) v l) 37))
  have HI0 := Lib.hid (Blk.new w 37 (iC p c o 6 r (b : Int) v l) (0, 0))
  have CS := Lib.hid (fun u => refSure42_any p c o 6 r v l b hb u)
  have CN : Hid (∀ u, Calls Tryz.prog 22 #[.int .i64 o, .int .i64 r] u fun e w' => e = .returned (.string (nmT o r)) ∧ Below u.heap.size u w') := Lib.hid (fun u => refName13_any o r u)
  rw [hs] at CS
  have s1 := oprT_size 6 r b v l a hb v0 v1
  have s2 := nmT_size o r
  have ht : 0 ≤ tgtI 6 l v a ∧ tgtI 6 l v a < 65536 := by unfold tgtI; simp (decide := true) only [↓reduceIte]; omega
  have CH : Hid (∀ u, Calls Tryz.prog 18 #[.int .i64 (tgtI 6 l v a), .int .i64 4] u fun e w' => e = .returned (.string (hexT (tgtI 6 l v a) 4)) ∧ u = w') := Lib.hid (fun u => refHex42_any (tgtI 6 l v a) 4 u ht.1 ht.2 (by omega) (by omega))
  have HO : oprT 6 r b v l a = hexT (tgtI 6 l v a) 4 := by unfold oprT; simp (decide := true) only [↓reduceIte]
  rw [HO] at s1 ⊢
  have hX : wrap64 (IntKind.u16.wrap (IntKind.u16.wrap (a + l) + v)) = tgtI 6 l v a := by unfold tgtI wrap64; rw [IntKind.wrap_u16, IntKind.wrap_u16]; simp (decide := true) only [↓reduceIte]; omega
  have hl : l % 65536 = l := by omega
  generalize hexT (tgtI 6 l v a) 4 = SX at CH s1 ⊢
  generalize tgtI 6 l v a = T at CH hX
  clear HO ht
  generalize nmT o r = S2 at CN s2 ⊢
  have z1 : S2.size + 1 ≤ 2000 := by omega
  have z2 : S2.size + 1 + SX.size ≤ 2000 := by omega
  unfold lineT
  clear s1 s2 hs
  cases hE : SX.toList.isEmpty
  all_goals
    go_enter Tryz.func10, Tryz.ntmps10
    go_wp2_with fail
    refine (CS.out _).mono ?_
    rintro e w1 ⟨rfl, hb1⟩
    have HB1 := Lib.hid (Below.trans0 HB0.out hb1)
    have HI1 := Lib.hid (Blk.below HI0.out hb1 (by simp))
    clear hb1
    obtain ⟨c0, c1, c2, c3, c4, c5, c6, c7⟩ := HI1.out.s8
    go_wp2_with fail
    refine (CH.out _).mono ?_
    rintro e w2 ⟨rfl, rfl⟩
    have HBo := HB1
    have HIo := HI1
    go_wp2_with fail
    refine (CN.out _).mono ?_
    rintro e wn ⟨rfl, hbn⟩
    have HBz := Lib.hid (Below.trans0 HBo.out hbn)
    clear hbn
    go_wp2
    go_ret
    exact ⟨rfl, HBz.out⟩
set_option maxHeartbeats 2000000 in
set_option maxRecDepth 100000 in
theorem refText7_any (p c o r v l a : Int) (b : Nat) (hb : b < 256) (A : Option Addr) (n cap : Nat) (w : World) (l0 : 0 ≤ l) (l1 : l ≤ 100) (v0 : 0 ≤ v) (v1 : v < 65536) (a0 : 0 ≤ a) (a1 : a < 65536) (hs : surI o 7 b = true) :
    Calls Tryz.prog 10 #[.agg (iC p c o 7 r (b : Int) v l), .int .u16 a, .slice A n cap] w fun e w' => e = .returned (.string (lineT (nmT o r) (oprT 7 r b v l a))) ∧ Below w.heap.size w w' := by
  have HB0 := Lib.hid (Below.alloc0 (Below.refl w.heap.size w) (Obj.cells (iC p c o 7 r (b : Int) v l) 37))
  have HI0 := Lib.hid (Blk.new w 37 (iC p c o 7 r (b : Int) v l) (0, 0))
  have CS := Lib.hid (fun u => refSure42_any p c o 7 r v l b hb u)
  have CN : Hid (∀ u, Calls Tryz.prog 22 #[.int .i64 o, .int .i64 r] u fun e w' => e = .returned (.string (nmT o r)) ∧ Below u.heap.size u w') := Lib.hid (fun u => refName13_any o r u)
  rw [hs] at CS
  have s1 := oprT_size 7 r b v l a hb v0 v1
  have s2 := nmT_size o r
  have ht : 0 ≤ tgtI 7 l v a ∧ tgtI 7 l v a < 65536 := by unfold tgtI; simp (decide := true) only [↓reduceIte]; omega
  have CH : Hid (∀ u, Calls Tryz.prog 18 #[.int .i64 (tgtI 7 l v a), .int .i64 4] u fun e w' => e = .returned (.string (hexT (tgtI 7 l v a) 4)) ∧ u = w') := Lib.hid (fun u => refHex42_any (tgtI 7 l v a) 4 u ht.1 ht.2 (by omega) (by omega))
  have HO : oprT 7 r b v l a = hexT (tgtI 7 l v a) 4 := by unfold oprT; simp (decide := true) only [↓reduceIte]
  rw [HO] at s1 ⊢
  have hX : wrap64 (IntKind.u16.wrap (IntKind.u16.wrap (a + l) + v)) = tgtI 7 l v a := by unfold tgtI wrap64; rw [IntKind.wrap_u16, IntKind.wrap_u16]; simp (decide := true) only [↓reduceIte]; omega
  have hl : l % 65536 = l := by omega
  generalize hexT (tgtI 7 l v a) 4 = SX at CH s1 ⊢
  generalize tgtI 7 l v a = T at CH hX
  clear HO ht
  generalize nmT o r = S2 at CN s2 ⊢
  have z1 : S2.size + 1 ≤ 2000 := by omega
  have z2 : S2.size + 1 + SX.size ≤ 2000 := by omega
  unfold lineT
  clear s1 s2 hs
  cases hE : SX.toList.isEmpty
  all_goals
    go_enter Tryz.func10, Tryz.ntmps10
    go_wp2_with fail
    refine (CS.out _).mono ?_
    rintro e w1 ⟨rfl, hb1⟩
    have HB1 := Lib.hid (Below.trans0 HB0.out hb1)
    have HI1 := Lib.hid (Blk.below HI0.out hb1 (by simp))
    clear hb1
    obtain ⟨c0, c1, c2, c3, c4, c5, c6, c7⟩ := HI1.out.s8
    go_wp2_with fail
    refine (CH.out _).mono ?_
    rintro e w2 ⟨rfl, rfl⟩
    have HBo := HB1
    have HIo := HI1
    go_wp2_with fail
    refine (CN.out _).mono ?_
    rintro e wn ⟨rfl, hbn⟩
    have HBz := Lib.hid (Below.trans0 HBo.out hbn)
    clear hbn
    go_wp2
    go_ret
    exact ⟨rfl, HBz.out⟩
end Go.Proofs.YtljhfalgplihhaaGreatDoor
namespace Go.Proofs.YtljhfalgplihhaaGreatDoor
open Go.ChangeShapes Go.WideShapes Go.ChangeAt Go.RowKit
set_option linter.unusedVariables false
set_option maxHeartbeats 2000000 in
set_option maxRecDepth 100000 in
theorem refText4_any (p c o r v l a : Int) (b : Nat) (hb : b < 256) (A : Option Addr) (n cap : Nat) (w : World) (l0 : 0 ≤ l) (l1 : l ≤ 100) (v0 : 0 ≤ v) (v1 : v < 65536) (a0 : 0 ≤ a) (a1 : a < 65536) (hs : surI o 4 b = true) :
    Calls Tryz.prog 10 #[.agg (iC p c o 4 r (b : Int) v l), .int .u16 a, .slice A n cap] w fun e w' => e = .returned (.string (lineT (nmT o r) (oprT 4 r b v l a))) ∧ Below w.heap.size w w' := by
  have HB0 := Lib.hid (Below.alloc0 (Below.refl w.heap.size w) (Obj.cells (iC p c o 4 r (b : Int) v l) 37))
  have HI0 := Lib.hid (Blk.new w 37 (iC p c o 4 r (b : Int) v l) (0, 0))
  have CS := Lib.hid (fun u => refSure42_any p c o 4 r v l b hb u)
  have CN : Hid (∀ u, Calls Tryz.prog 22 #[.int .i64 o, .int .i64 r] u fun e w' => e = .returned (.string (nmT o r)) ∧ Below u.heap.size u w') := Lib.hid (fun u => refName13_any o r u)
  rw [hs] at CS
  have s1 := oprT_size 4 r b v l a hb v0 v1
  have s2 := nmT_size o r
  have CI := Lib.hid (fun u => refIndexed_any b hb v u v0 v1)
  have HO : oprT 4 r b v l a = idxT (poK b) (byteStr (regI (poR b : Int))) (poO b : Int) v (poI b) := by unfold oprT; simp (decide := true) only [↓reduceIte]
  rw [HO] at s1 ⊢
  generalize idxT (poK b) (byteStr (regI (poR b : Int))) (poO b : Int) v (poI b) = SX at CI s1 ⊢
  clear HO
  generalize nmT o r = S2 at CN s2 ⊢
  have z1 : S2.size + 1 ≤ 2000 := by omega
  have z2 : S2.size + 1 + SX.size ≤ 2000 := by omega
  unfold lineT
  clear s1 s2 hs
  cases hE : SX.toList.isEmpty
  all_goals
    go_enter Tryz.func10, Tryz.ntmps10
    go_wp2_with fail
    refine (CS.out _).mono ?_
    rintro e w1 ⟨rfl, hb1⟩
    have HB1 := Lib.hid (Below.trans0 HB0.out hb1)
    have HI1 := Lib.hid (Blk.below HI0.out hb1 (by simp))
    clear hb1
    obtain ⟨c0, c1, c2, c3, c4, c5, c6, c7⟩ := HI1.out.s8
    go_wp2_with fail
    refine (CI.out _).mono ?_
    rintro e w2 ⟨rfl, hb2⟩
    have HBo := Lib.hid (Below.trans0 HB1.out hb2)
    have HIo := Lib.hid (Blk.below HI1.out hb2 HI1.out.lt)
    clear hb2 c0 c1 c2 c3 c4 c5 c6 c7
    obtain ⟨c0, c1, c2, c3, c4, c5, c6, c7⟩ := HIo.out.s8
    go_wp2_with fail
    refine (CN.out _).mono ?_
    rintro e wn ⟨rfl, hbn⟩
    have HBz := Lib.hid (Below.trans0 HBo.out hbn)
    clear hbn
    go_wp2
    go_ret
    exact ⟨rfl, HBz.out⟩
set_option maxHeartbeats 2000000 in
set_option maxRecDepth 100000 in
theorem refText9_any (p c o r v l a : Int) (b : Nat) (hb : b < 256) (A : Option Addr) (n cap : Nat) (w : World) (l0 : 0 ≤ l) (l1 : l ≤ 100) (v0 : 0 ≤ v) (v1 : v < 65536) (a0 : 0 ≤ a) (a1 : a < 65536) (hs : surI o 9 b = true) :
    Calls Tryz.prog 10 #[.agg (iC p c o 9 r (b : Int) v l), .int .u16 a, .slice A n cap] w fun e w' => e = .returned (.string (lineT (nmT o r) (oprT 9 r b v l a))) ∧ Below w.heap.size w w' := by
  have HB0 := Lib.hid (Below.alloc0 (Below.refl w.heap.size w) (Obj.cells (iC p c o 9 r (b : Int) v l) 37))
  have HI0 := Lib.hid (Blk.new w 37 (iC p c o 9 r (b : Int) v l) (0, 0))
  have CS := Lib.hid (fun u => refSure42_any p c o 9 r v l b hb u)
  have CN : Hid (∀ u, Calls Tryz.prog 22 #[.int .i64 o, .int .i64 r] u fun e w' => e = .returned (.string (nmT o r)) ∧ Below u.heap.size u w') := Lib.hid (fun u => refName13_any o r u)
  rw [hs] at CS
  have s1 := oprT_size 9 r b v l a hb v0 v1
  have s2 := nmT_size o r
  have CI := Lib.hid (fun u => refList42_any b hb (r == 3) u)
  have HO : oprT 9 r b v l a = byteStr (txtL b (r == 3) 8) := by unfold oprT; simp (decide := true) only [↓reduceIte]
  rw [HO] at s1 ⊢
  generalize byteStr (txtL b (r == 3) 8) = SX at CI s1 ⊢
  clear HO
  generalize nmT o r = S2 at CN s2 ⊢
  have z1 : S2.size + 1 ≤ 2000 := by omega
  have z2 : S2.size + 1 + SX.size ≤ 2000 := by omega
  unfold lineT
  clear s1 s2 hs
  cases hE : SX.toList.isEmpty
  all_goals
    go_enter Tryz.func10, Tryz.ntmps10
    go_wp2_with fail
    refine (CS.out _).mono ?_
    rintro e w1 ⟨rfl, hb1⟩
    have HB1 := Lib.hid (Below.trans0 HB0.out hb1)
    have HI1 := Lib.hid (Blk.below HI0.out hb1 (by simp))
    clear hb1
    obtain ⟨c0, c1, c2, c3, c4, c5, c6, c7⟩ := HI1.out.s8
    go_wp2_with fail
    refine (CI.out _).mono ?_
    rintro e w2 ⟨rfl, hb2⟩
    have HBo := Lib.hid (Below.trans0 HB1.out hb2)
    have HIo := Lib.hid (Blk.below HI1.out hb2 HI1.out.lt)
    clear hb2 c0 c1 c2 c3 c4 c5 c6 c7
    obtain ⟨c0, c1, c2, c3, c4, c5, c6, c7⟩ := HIo.out.s8
    go_wp2_with fail
    refine (CN.out _).mono ?_
    rintro e wn ⟨rfl, hbn⟩
    have HBz := Lib.hid (Below.trans0 HBo.out hbn)
    clear hbn
    go_wp2
    go_ret
    exact ⟨rfl, HBz.out⟩
set_option maxHeartbeats 2000000 in
set_option maxRecDepth 100000 in
theorem refText0_any (p c o m r v l a : Int) (b : Nat) (hb : b < 256) (A : Option Addr) (n cap : Nat) (w : World) (l0 : 0 ≤ l) (l1 : l ≤ 100) (v0 : 0 ≤ v) (v1 : v < 65536) (a0 : 0 ≤ a) (a1 : a < 65536) (hm : m < 1 ∨ 9 < m) (hs : surI o m b = true) :
    Calls Tryz.prog 10 #[.agg (iC p c o m r (b : Int) v l), .int .u16 a, .slice A n cap] w fun e w' => e = .returned (.string (lineT (nmT o r) (oprT m r b v l a))) ∧ Below w.heap.size w w' := by
  have HB0 := Lib.hid (Below.alloc0 (Below.refl w.heap.size w) (Obj.cells (iC p c o m r (b : Int) v l) 37))
  have HI0 := Lib.hid (Blk.new w 37 (iC p c o m r (b : Int) v l) (0, 0))
  have CS := Lib.hid (fun u => refSure42_any p c o m r v l b hb u)
  have CN : Hid (∀ u, Calls Tryz.prog 22 #[.int .i64 o, .int .i64 r] u fun e w' => e = .returned (.string (nmT o r)) ∧ Below u.heap.size u w') := Lib.hid (fun u => refName13_any o r u)
  rw [hs] at CS
  have s1 := oprT_size m r b v l a hb v0 v1
  have s2 := nmT_size o r
  have HO : oprT m r b v l a = ⟨#[]⟩ := by
    unfold oprT
    repeat rw [if_neg (by omega)]
  rw [HO]
  obtain ⟨SX, hSX⟩ : ∃ SX, (⟨#[]⟩ : ByteArray) = SX := ⟨_, rfl⟩
  rw [HO, hSX] at s1
  rw [hSX]
  have e1 := ne_beq (show ¬ m = 1 by omega)
  have e2 := ne_beq (show ¬ m = 2 by omega)
  have e3 := ne_beq (show ¬ m = 3 by omega)
  have e4 := ne_beq (show ¬ m = 4 by omega)
  have e5 := ne_beq (show ¬ m = 5 by omega)
  have e6 := ne_beq (show ¬ m = 6 by omega)
  have e7 := ne_beq (show ¬ m = 7 by omega)
  have e8 := ne_beq (show ¬ m = 8 by omega)
  have e9 := ne_beq (show ¬ m = 9 by omega)
  have hEx : SX.toList.isEmpty = true := by rw [← hSX]; decide +kernel
  clear HO hm
  generalize nmT o r = S2 at CN s2 ⊢
  have z1 : S2.size + 1 ≤ 2000 := by omega
  have z2 : S2.size + 1 + SX.size ≤ 2000 := by omega
  unfold lineT
  clear s1 s2 hs
  rw [hEx]
  subst hSX
  iterate 1
    go_enter Tryz.func10, Tryz.ntmps10
    go_wp2_with fail
    refine (CS.out _).mono ?_
    rintro e w1 ⟨rfl, hb1⟩
    have HB1 := Lib.hid (Below.trans0 HB0.out hb1)
    have HI1 := Lib.hid (Blk.below HI0.out hb1 (by simp))
    clear hb1
    obtain ⟨c0, c1, c2, c3, c4, c5, c6, c7⟩ := HI1.out.s8
    have HBo := HB1
    have HIo := HI1
    go_wp2_with fail
    refine (CN.out _).mono ?_
    rintro e wn ⟨rfl, hbn⟩
    have HBz := Lib.hid (Below.trans0 HBo.out hbn)
    clear hbn
    go_wp2
    go_ret
    exact ⟨rfl, HBz.out⟩
end Go.Proofs.YtljhfalgplihhaaGreatDoor
namespace Go.Proofs.YtljhfalgplihhaaGreatDoor
open Go.ChangeShapes Go.WideShapes Go.ChangeAt Go.RowKit
set_option linter.unusedVariables false
set_option maxHeartbeats 2000000 in
set_option maxRecDepth 100000 in
theorem refText8_any (p c o r v l a : Int) (b : Nat) (hb : b < 256) (A : Option Addr) (n cap : Nat) (w : World) (l0 : 0 ≤ l) (l1 : l ≤ 100) (v0 : 0 ≤ v) (v1 : v < 65536) (a0 : 0 ≤ a) (a1 : a < 65536) (hs : surI o 8 b = true) :
    Calls Tryz.prog 10 #[.agg (iC p c o 8 r (b : Int) v l), .int .u16 a, .slice A n cap] w fun e w' => e = .returned (.string (lineT (nmT o r) (oprT 8 r b v l a))) ∧ Below w.heap.size w w' := by
  have HB0 := Lib.hid (Below.alloc0 (Below.refl w.heap.size w) (Obj.cells (iC p c o 8 r (b : Int) v l) 37))
  have HI0 := Lib.hid (Blk.new w 37 (iC p c o 8 r (b : Int) v l) (0, 0))
  have CS := Lib.hid (fun u => refSure42_any p c o 8 r v l b hb u)
  have CN : Hid (∀ u, Calls Tryz.prog 22 #[.int .i64 o, .int .i64 r] u fun e w' => e = .returned (.string (nmT o r)) ∧ Below u.heap.size u w') := Lib.hid (fun u => refName13_any o r u)
  rw [hs] at CS
  have s1 := oprT_size 8 r b v l a hb v0 v1
  have s2 := nmT_size o r
  have e1 : ((b : Int) / 16) = ((b / 16 : Nat) : Int) := by omega
  have e2 : ((b : Int) % 16) = ((b % 16 : Nat) : Int) := by omega
  have C1 := Lib.hid (fun u => refReg42_any ((b / 16 : Nat) : Int) u (by omega) (by omega))
  have C2 := Lib.hid (fun u => refReg42_any ((b % 16 : Nat) : Int) u (by omega) (by omega))
  have hs1 := regT_size ((b / 16 : Nat) : Int) (by omega) (by omega)
  have hs2 := regT_size ((b % 16 : Nat) : Int) (by omega) (by omega)
  have HId0 := Lib.hid (Blk.drew HI0.out)
  have h0 : (0 : Int) ≤ ((b / 16 : Nat) : Int) := by omega
  have h1 : ((b / 16 : Nat) : Int) < 16 := by omega
  have w1 : IntKind.i64.wrap ((b / 16 : Nat) : Int) = ((b / 16 : Nat) : Int) := IntWalk.i64_in _ (by omega)
  have w2 : IntKind.i64.wrap ((b % 16 : Nat) : Int) = ((b % 16 : Nat) : Int) := IntWalk.i64_in _ (by omega)
  have e3 : (b : Int).tmod 16 = ((b % 16 : Nat) : Int) := by rw [Int.tmod_eq_emod_of_nonneg (by omega)]; omega
  have e4 : (b : Int).tdiv 16 = ((b / 16 : Nat) : Int) := by rw [Int.tdiv_eq_ediv_of_nonneg (by omega)]; omega
  have u1 : IntKind.u8.wrap ((b / 16 : Nat) : Int) = ((b / 16 : Nat) : Int) := by rw [IntKind.wrap_u8]; omega
  have u2 : IntKind.u8.wrap ((b % 16 : Nat) : Int) = ((b % 16 : Nat) : Int) := by rw [IntKind.wrap_u8]; omega
  have HO : oprT 8 r b v l a = regT ((b / 16 : Nat) : Int) ++ ⟨#[44]⟩ ++ regT ((b % 16 : Nat) : Int) := by unfold oprT; simp (decide := true) only [↓reduceIte]
  rw [HO] at s1 ⊢
  generalize regT ((b / 16 : Nat) : Int) = S1 at C1 hs1 s1 ⊢
  generalize regT ((b % 16 : Nat) : Int) = S3 at C2 hs2 s1 ⊢
  generalize ((b / 16 : Nat) : Int) = x1 at C1 e1 h0 h1 w1 e4 u1
  generalize ((b % 16 : Nat) : Int) = x2 at C2 e2 w2 e3 u2
  have y1 : ¬ 9223372036854775807 < S1.size + 1 := by omega
  have y2 : ¬ 9223372036854775807 < S1.size + 1 + S3.size := by omega
  obtain ⟨SX, hSX⟩ : ∃ SX, S1 ++ (⟨#[44]⟩ : ByteArray) ++ S3 = SX := ⟨_, rfl⟩
  rw [hSX] at s1 ⊢
  have HSX := Lib.hid hSX
  clear HO hSX hs1 hs2
  generalize nmT o r = S2 at CN s2 ⊢
  have z1 : S2.size + 1 ≤ 2000 := by omega
  have z2 : S2.size + 1 + SX.size ≤ 2000 := by omega
  unfold lineT
  clear s1 s2 hs
  cases hE : SX.toList.isEmpty
  all_goals
    go_enter Tryz.func10, Tryz.ntmps10
    go_wp2_with fail
    refine (CS.out _).mono ?_
    rintro e w1 ⟨rfl, hb1⟩
    have HB1 := Lib.hid (Below.trans0 HB0.out hb1)
    have HI1 := Lib.hid (Blk.below HI0.out hb1 (by simp))
    clear hb1
    obtain ⟨c0, c1, c2, c3, c4, c5, c6, c7⟩ := HI1.out.s8
    have HId1 := Lib.hid (Blk.drew HI1.out)
    have HBd1 := Lib.hid (Below.drew0 HB1.out)
    clear c0 c1 c2 c3 c4 c5 c6 c7
    obtain ⟨c0, c1, c2, c3, c4, c5, c6, c7⟩ := HI1.out.s8
    go_upto_region 26 with (fail)
    go_region_held3 (fun w' => w'.cell? ⟨w.heap.size, 5, none⟩ = some (.int .u8 (b : Int)))
      (first
        | (with_reducible exact HId1.out.s8.2.2.2.2.2.1)
        | (with_reducible exact HI2.out.s8.2.2.2.2.2.1)
        | (with_reducible exact HI3.out.s8.2.2.2.2.2.1))
      ((go_at_call 20; first
        | ((with_reducible refine (C1.out _).mono ?_); rintro e w3 ⟨rfl, hb3⟩; have HI3 := Lib.hid (Blk.below HI2.out hb3 HI2.out.lt); have HB3 := Lib.hid (Below.trans0 HB2.out hb3); clear hb3)
        | ((with_reducible refine (C2.out _).mono ?_); rintro e w3 ⟨rfl, hb3⟩; have HI3 := Lib.hid (Blk.below HI2.out hb3 HI2.out.lt); have HB3 := Lib.hid (Below.trans0 HB2.out hb3); clear hb3)
        | ((with_reducible refine (C1.out _).mono ?_); rintro e w2 ⟨rfl, hb2⟩; have HI2 := Lib.hid (Blk.below HId1.out hb2 HId1.out.lt); have HB2 := Lib.hid (Below.trans0 HBd1.out hb2); clear hb2)
        | ((with_reducible refine (C2.out _).mono ?_); rintro e w2 ⟨rfl, hb2⟩; have HI2 := Lib.hid (Blk.below HId1.out hb2 HId1.out.lt); have HB2 := Lib.hid (Below.trans0 HBd1.out hb2); clear hb2)))
    all_goals
      have HBo := HB3
      have HIo := HI3
      have hSX := HSX.out
      rw [hSX]
      clear c0 c1 c2 c3 c4 c5 c6 c7
      obtain ⟨c0, c1, c2, c3, c4, c5, c6, c7⟩ := HI3.out.s8
      go_wp2_with fail
      refine (CN.out _).mono ?_
      rintro e wn ⟨rfl, hbn⟩
      have HBz := Lib.hid (Below.trans0 HBo.out hbn)
      clear hbn
      go_wp2
      go_ret
      exact ⟨rfl, HBz.out⟩
end Go.Proofs.YtljhfalgplihhaaGreatDoor
namespace Go.Proofs.YtljhfalgplihhaaGreatDoor
open Go.ChangeShapes Go.WideShapes Go.ChangeAt Go.RowKit
set_option linter.unusedVariables false
set_option maxHeartbeats 2000000 in
set_option maxRecDepth 100000 in
theorem refTextRaw_any (p c o m r v l a : Int) (b : Nat) (hb : b < 256) (X : List Int) (A : Option Addr) (n cap : Nat) (w : World) (hI : Ints .u8 w w.heap.size A n X) (hn : n ≤ 5) (hs : surI o m b = false) :
    Calls Tryz.prog 10 #[.agg (iC p c o m r (b : Int) v l), .int .u16 a, .slice A n cap] w fun e w' => e = .returned (.string (⟨#[70, 67, 66, 32]⟩ ++ rawT X)) ∧ Below w.heap.size w w' := by
  have HB0 := Lib.hid (Below.alloc0 (Below.refl w.heap.size w) (Obj.cells (iC p c o m r (b : Int) v l) 37))
  have CS := Lib.hid (fun u => refSure42_any p c o m r v l b hb u)
  rw [hs] at CS
  have hwf : ∀ k, 0 ≤ iat X k ∧ iat X k < 256 := iat_range8' hI.2.1
  have hlen : X.length = n := hI.1
  have CH : Hid (∀ k u, Calls Tryz.prog 18 #[.int .i64 (iat X k), .int .i64 2] u fun e w' => e = .returned (.string (hexT (iat X k) 2)) ∧ u = w') := Lib.hid (fun k u => refHex42_any (iat X k) 2 u (hwf k).1 (by have := (hwf k).2; omega) (by omega) (by omega))
  have HQ : Hid (∀ k, (hexT (iat X k) 2).size ≤ 17) := Lib.hid (fun k => hexT_size _ _ (hwf k).1 (by have := (hwf k).2; omega) (by omega))
  have hR := seqT_raw X (by omega)
  rw [hlen] at hR
  have HIx := Lib.hid (fun wx (hb : Below w.heap.size w wx) => hI.below hb.size hb)
  have HW := Lib.hid hwf
  obtain ⟨Z, hZ⟩ : ∃ Z : Nat → ByteArray, ∀ k, Z k = ⟨#[70, 67, 66, 32]⟩ ++ seqT X k := ⟨_, fun _ => rfl⟩
  have HZs : Hid (∀ k, (Z k).size ≤ 4 + 18 * k) := Lib.hid (fun k => by
    have e1 : (⟨#[70, 67, 66, 32]⟩ : ByteArray).size = 4 := rfl
    rw [hZ, ByteArray.size_append, e1]
    have := seqT_size X hwf k
    omega)
  have HZ0 : Hid ((⟨#[70, 67, 66, 32]⟩ : ByteArray) = Z 0) := Lib.hid (by rw [hZ]; apply ByteArray.ext; simp [seqT])
  have HZ1 : Hid (Z 0 ++ hexT (iat X 0) 2 = Z 1) := Lib.hid (by rw [hZ, hZ, ByteArray.append_assoc]; rfl)
  have HZk : Hid (∀ k, 0 < k → Z k ++ ⟨#[44]⟩ ++ hexT (iat X k) 2 = Z (k + 1)) := Lib.hid (fun k hk => by
    rw [hZ, hZ, ByteArray.append_assoc, ByteArray.append_assoc]
    show _ = _ ++ ((if k = 0 then seqT X k else seqT X k ++ ⟨#[44]⟩) ++ hexT (iat X k) 2)
    rw [if_neg (by omega), ByteArray.append_assoc])
  have HZn : Hid ((⟨#[70, 67, 66, 32]⟩ : ByteArray) ++ rawT X = Z n) := Lib.hid (by rw [hZ, hR])
  rw [HZn.out]
  clear hs hI hwf hlen hR hZ
  go_enter Tryz.func10, Tryz.ntmps10
  go_wp2_with fail
  refine (CS.out _).mono ?_
  rintro e w1 ⟨rfl, hb1⟩
  have HB1 := Lib.hid (Below.trans0 HB0.out hb1)
  clear hb1
  go_wp2
  rw [HZ0.out]
  go_loopw [7, 8] (fun u7 u8 wr => ∃ k : Nat, k ≤ n ∧ u8 = .int .i64 k ∧ u7 = .string (Z k) ∧ wr = w1) (fun _ u8 _ => n - (intOf u8).toNat)
  case atStart => exact ⟨0, Nat.zero_le _, rfl, rfl, rfl⟩
  case round =>
    obtain ⟨k, hk, rfl, rfl, rfl⟩ := hrel
    have k0 : (0 : Int) ≤ (k : Int) := by omega
    have hzk := HZs.out k
    have hqk := HQ.out k
    have y1 : ¬ 9223372036854775807 < (Z k).size + 1 := by omega
    have y2 : ¬ 9223372036854775807 < (Z k).size + 1 + (hexT (iat X k) 2).size := by omega
    have y3 : ¬ 9223372036854775807 < (Z k).size + (hexT (iat X k) 2).size := by omega
    by_cases hlt : k < n
    · have HI1 := HIx.out _ HB1.out
      obtain ⟨g, off, rfl, hg, hcell⟩ := HI1.2.2 (by omega)
      have hk1 := hcell k hlt
      have hlt' : (k : Int) < (n : Int) := by omega
      obtain ⟨z0, z1⟩ := HW.out k
      clear hcell HI1 hzk hqk
      by_cases hk0 : k = 0
      · subst hk0
        have HS := HZ1.out
        have CHk := Lib.hid (CH.out 0)
        have HSx := Lib.hid HS
        clear HS
        generalize hexT (iat X 0) 2 = T at *
        generalize iat X 0 = x at *
        have d1 : decide (0 < ((0 : Nat) : Int)) = false := by decide
        simp only [Nat.add_zero] at hk1
        go_wp2_with fail
        refine (CHk.out _).mono ?_
        rintro e w2 ⟨rfl, rfl⟩
        have hS := HSx.out
        go_wp2
        go_roundw
        case rel => exact ⟨1, by omega, by go_num, by first | rfl | rw [HSx.out], by first | rfl | trivial⟩
        case measure => simp [intOf]; omega
      · have d1 : decide (0 < (k : Int)) = true := decide_eq_true (by omega)
        have d2 : 0 < k := by omega
        have HSx := Lib.hid (HZk.out k d2)
        have CHk := Lib.hid (CH.out k)
        generalize hexT (iat X k) 2 = T at *
        generalize iat X k = x at *
        go_wp2_with fail
        refine (CHk.out _).mono ?_
        rintro e w2 ⟨rfl, rfl⟩
        go_wp2
        go_roundw
        case rel => exact ⟨k + 1, by omega, by go_num, by first | rfl | rw [HSx.out], by first | rfl | trivial⟩
        case measure => simp [intOf]; omega
    · obtain rfl : k = n := by omega
      go_wp2
      go_ret
      exact ⟨rfl, HB1.out⟩
theorem refText42_any (p c o m r v l a : Int) (b : Nat) (hb : b < 256) (X : List Int) (A : Option Addr) (n cap : Nat) (w : World) (hI : Ints .u8 w w.heap.size A n X) (hn : n ≤ 5) (l0 : 0 ≤ l) (l1 : l ≤ 100) (v0 : 0 ≤ v) (v1 : v < 65536) (a0 : 0 ≤ a) (a1 : a < 65536)
    (hv : m = 1 ∨ m = 3 → v < 256) :
    Calls Tryz.prog 10 #[.agg (iC p c o m r (b : Int) v l), .int .u16 a, .slice A n cap] w fun e w' => e = .returned (.string (textT o m r b v l a X)) ∧ Below w.heap.size w w' := by
  unfold textT
  cases hs : surI o m b
  · exact refTextRaw_any p c o m r v l a b hb X A n cap w hI hn hs
  rw [if_pos rfl]
  rcases (show m = 1 ∨ m = 2 ∨ m = 3 ∨ m = 4 ∨ m = 5 ∨ m = 6 ∨ m = 7 ∨ m = 8 ∨ m = 9 ∨ (m < 1 ∨ 9 < m) by omega) with rfl | rfl | rfl | rfl | rfl | rfl | rfl | rfl | rfl | h
  · exact refText1_any p c o r v l a b hb A n cap w l0 l1 v0 v1 a0 a1 (hv (.inl rfl)) hs
  · exact refText2_any p c o r v l a b hb A n cap w l0 l1 v0 v1 a0 a1 hs
  · exact refText3_any p c o r v l a b hb A n cap w l0 l1 v0 v1 a0 a1 (hv (.inr rfl)) hs
  · exact refText4_any p c o r v l a b hb A n cap w l0 l1 v0 v1 a0 a1 hs
  · exact refText5_any p c o r v l a b hb A n cap w l0 l1 v0 v1 a0 a1 hs
  · exact refText6_any p c o r v l a b hb A n cap w l0 l1 v0 v1 a0 a1 hs
  · exact refText7_any p c o r v l a b hb A n cap w l0 l1 v0 v1 a0 a1 hs
  · exact refText8_any p c o r v l a b hb A n cap w l0 l1 v0 v1 a0 a1 hs
  · exact refText9_any p c o r v l a b hb A n cap w l0 l1 v0 v1 a0 a1 hs
  · exact refText0_any p c o m r v l a b hb A n cap w l0 l1 v0 v1 a0 a1 h hs
end Go.Proofs.YtljhfalgplihhaaGreatDoor
namespace Go.Proofs.YtljhfalgplihhaaGreatDoor
open Go.ChangeShapes Go.WideShapes Go.ChangeAt Go.RowKit
set_option linter.unusedVariables false

def kindsM : List Int := [7, 8, 9, 10, 0, 5, 4, 0, 2, 3, 0, 6, 11, 12, 0, 13]
theorem kindsM_at : ∀ k : Fin 16, kindsM.getD k.val 0 = (kinds16 k.val : Int) := by decide +kernel
theorem kindsAt_of_one {W : World} (h1 : OneLaid Tryz.prog W "spinet/post.kinds" (Lib.tabData .i64 kindsM)) : KindsAt W := fun k hk => by
  have := h1.ints (g := 1) (t := 155) (e := 3) (n := 16) (by kernel_rfl) (by kernel_rfl) Tryz.underlying155 Tryz.underlying3 (by kernel_rfl) (by kernel_rfl) k hk
  rw [this, kindsM_at ⟨k, hk⟩]
theorem kindsAt_of_laid {W : World} (h : laidMetH Tryz.prog [("spinet/post.kinds", Lib.tabData .i64 kindsM)] W) : KindsAt W := by
  rw [MakeChecks.laidMetH_plain _ _ _ (by rfl)] at h
  obtain ⟨ps, h, _⟩ := h
  exact kindsAt_of_one (laidVars_cons h).1
end Go.Proofs.YtljhfalgplihhaaGreatDoor
namespace Go.Proofs.YtljhfalgplihhaaGreatDoor
open Go.ChangeShapes Go.WideShapes Go.ChangeAt Go.RowKit
set_option linter.unusedVariables false
theorem pagKinds_of_laid {W : World} (h : laidMetH Tryz.prog [("spinet/page.eights", Lib.tabData .i64 eightsL), ("spinet/page.changes", Lib.tabData .i64 changesL), ("spinet/page.tens", tab3 tensL), ("spinet/page.thirties", tab3 thirtiesL), ("spinet/post.kinds", Lib.tabData .i64 kindsM)] W) : PagAt W ∧ KindsAt W := by
  rw [MakeChecks.laidMetH_plain _ _ _ (by rfl)] at h
  obtain ⟨ps, h, _⟩ := h
  obtain ⟨h1, p1, h⟩ := laidVars_cons h
  obtain ⟨h2, p2, h⟩ := laidVars_cons h
  obtain ⟨h3, p3, h⟩ := laidVars_cons h
  obtain ⟨h4, p4, h⟩ := laidVars_cons h
  refine ⟨?_, kindsAt_of_one (laidVars_cons h).1⟩
  refine ⟨fun k hk => ?_, fun k hk => ?_, fun k hk => ?_, fun k hk => ?_⟩
  · have := h1.ints (g := 7) (t := 155) (e := 3) (n := 16) (by kernel_rfl) (by kernel_rfl) Tryz.underlying155 Tryz.underlying3 (by kernel_rfl) (by kernel_rfl) k hk
    rw [this, eightsL_at ⟨k, hk⟩]
  · have := h2.ints (g := 8) (t := 155) (e := 3) (n := 16) (by kernel_rfl) (by kernel_rfl) Tryz.underlying155 Tryz.underlying3 (by kernel_rfl) (by kernel_rfl) k hk
    rw [this, changesL_at ⟨k, hk⟩]
  · have := h3.tri (g := 2) (t := 166) (e := 35) (f := 3) (n := 16) (by kernel_rfl) (by kernel_rfl) Tryz.underlying166 Tryz.underlying35 (by kernel_rfl) rfl rfl rfl rfl rfl rfl Tryz.underlying3 (by kernel_rfl) k hk
    rw [getD_get tensL k (0, 0, 0) hk, tensL_at ⟨k, hk⟩] at this
    exact this
  · have := h4.tri (g := 3) (t := 166) (e := 35) (f := 3) (n := 16) (by kernel_rfl) (by kernel_rfl) Tryz.underlying166 Tryz.underlying35 (by kernel_rfl) rfl rfl rfl rfl rfl rfl Tryz.underlying3 (by kernel_rfl) k hk
    rw [getD_get thirtiesL k (0, 0, 0) hk, thirtiesL_at ⟨k, hk⟩] at this
    exact this
end Go.Proofs.YtljhfalgplihhaaGreatDoor
