/- DsL, DsU, DsV, DsW, DsX, Knd, PKd, InsY, DsY, DsZ, Row0 in one text. -/
import Derived.Test.YtopkjniegncokaaDoorGLst
import Derived.Test.YtopkjniegncokaaDoorGDsA
import Derived.Test.YtopkjniegncokaaDoorLaidS
import Derived.Test.YtopkjniegncokaaDoorPost
import Derived.Test.YtopkjniegncokaaDoorPagL
import Derived.Test.YtopkjniegncokaaDoorGIns
import Derived.Shelf.Vars
import Derived.Test.YtopkjniegncokaaDoorMem
namespace Go.Proofs.YtopkjniegncokaaDoor
open Go.ChangeShapes Go.WideShapes Go.ChangeAt Go.RowKit
set_option linter.unusedVariables false
theorem quo_finD : ((List.range 2048).all fun j => Nat.beq (j / 8 / 2 ^ (j % 8) % 2) (if bitN (j / 8) (j % 8) then 1 else 0)) = true := by decide +kernel
theorem quo_bitD (p k : Nat) (hp : p < 256) (hk : k < 8) : (p : Int) / ((2 ^ k : Nat) : Int) % 2 = if bitN p k then 1 else 0 := by
  have h := allB2 2048 _ quo_finD (8 * p + k) (by omega)
  rw [Nat.beq_eq, show (8 * p + k) / 8 = p by omega, show (8 * p + k) % 8 = k by omega] at h
  have e : (p : Int) / ((2 ^ k : Nat) : Int) % 2 = ((p / 2 ^ k % 2 : Nat) : Int) := by simp
  rw [e, h]; split <;> rfl
theorem regNames_leD : ∀ r : Fin 12, (regNames.getD r.val []).length ≤ 2 := by decide
theorem byteStr_sizeD (l : List UInt8) : (byteStr l).size = l.length := by simp [byteStr, ByteArray.size]
def bitAD (k : Nat) : Int := if k < 8 then ((2 ^ k : Nat) : Int) else 0
theorem bitA_nextD (k : Nat) (h : k < 8) : IntKind.u8.wrap (bitAD k * 2) = bitAD (k + 1) := by
  rcases (show k = 0 ∨ k = 1 ∨ k = 2 ∨ k = 3 ∨ k = 4 ∨ k = 5 ∨ k = 6 ∨ k = 7 by omega) with rfl | rfl | rfl | rfl | rfl | rfl | rfl | rfl <;> decide
theorem byteStr_appD (a b : List UInt8) : byteStr a ++ byteStr b = byteStr (a ++ b) := by
  unfold byteStr
  apply ByteArray.ext
  simp
set_option maxRecDepth 100000 in
set_option maxHeartbeats 4000000 in
theorem refList42_any (p : Nat) (hp : p < 256) (u : Bool) (w : World) :
    Calls Tryd.prog 25 #[.int .u8 (p : Int), .bool u] w fun e w' => e = .returned (.string (byteStr (txtL p u 8))) ∧ Below w.heap.size w w' := by
  have HP := Lib.hid hp
  have p0 : (0 : Int) ≤ (p : Int) := by omega
  have p1 : (p : Int) < 256 := by omega
  obtain ⟨T, hTx⟩ : ∃ T, txtL p u 8 = T := ⟨_, rfl⟩
  have HTx := Lib.hid hTx
  rw [hTx]
  clear hp hTx
  go_enter Tryd.func25, Tryd.ntmps25
  go_wp2
  go_loopw [5, 6, 7] (fun u5 u6 u7 wr => ∃ k : Nat, k ≤ 8 ∧ u7 = .int .i64 k ∧ u6 = .int .u8 (bitAD k) ∧ u5 = .string (byteStr (txtL p u k)) ∧ Hid (Below w.heap.size w wr)) (fun _ _ u7 _ => 8 - (intOf u7).toNat)
  case atStart => exact ⟨0, Nat.zero_le _, rfl, rfl, rfl, Lib.hid (Below.refl _ _)⟩
  case round =>
    obtain ⟨k, hk, rfl, rfl, rfl, HBel⟩ := hrel
    by_cases hlt : k < 8
    · obtain ⟨hst, hle⟩ := step_txt p HP.out u k hlt
      have hbit := quo_bitD p k HP.out hlt
      have hnx := bitA_nextD k hlt
      have hpos : (0 : Int) < ((2 ^ k : Nat) : Int) := by have : 0 < 2 ^ k := Nat.pow_pos (by decide); omega
      have hlt256 := pow_lt8 k hlt
      have hba : bitAD k = ((2 ^ k : Nat) : Int) := by unfold bitAD; rw [if_pos hlt]
      rw [← hba] at hbit hpos
      have CR := Lib.hid (fun w => code17_any k hlt u w)
      have CO := Lib.hid (fun w => refReg_any (regN k u) (regN_lt k hlt u) w)
      have hb256 : bitAD k < 256 := by rw [hba]; omega
      obtain ⟨b, hb⟩ : ∃ b : Int, bitAD k = b := ⟨_, rfl⟩
      rw [hb] at hbit hpos hnx hb256
      rw [hb]
      have hb0 : 0 ≤ b := by omega
      obtain ⟨b2, hb2⟩ : ∃ b2 : Int, bitAD (k + 1) = b2 := ⟨_, rfl⟩
      rw [hb2] at hnx
      have HB2n := Lib.hid hb2
      have HSt := Lib.hid hst
      have HLe := Lib.hid hle
      have HK := Lib.hid hk
      have HNm : Hid (regS (regN k u) = byteStr (regNames.getD (regN k u) [])) := Lib.hid rfl
      have hMl := regNames_leD ⟨regN k u, regN_lt k hlt u⟩
      simp only at hMl
      obtain ⟨M, hM⟩ : ∃ M, regNames.getD (regN k u) [] = M := ⟨_, rfl⟩
      rw [hM] at hMl
      obtain ⟨S, hS⟩ : ∃ S, txtL p u k = S := ⟨_, rfl⟩
      obtain ⟨NM, hNM⟩ : ∃ NM, regS (regN k u) = NM := ⟨_, rfl⟩
      rw [hNM] at CO HNm
      rw [hM] at HSt HNm
      rw [hS] at HSt HLe ⊢
      obtain ⟨R, hR⟩ : ∃ R, regN k u = R := ⟨_, rfl⟩
      rw [hR] at CR CO
      have k0 : (0 : Int) ≤ (k : Int) := by omega
      have k1 : (k : Int) < 8 := by omega
      have hX : ∃ X : Int, (p : Int) / b = X := ⟨_, rfl⟩
      obtain ⟨X, hX⟩ := hX
      have hX0 : 0 ≤ X := by rw [← hX]; exact Int.ediv_nonneg p0 hb0
      have hX1 : X < 256 := by have := Int.ediv_le_self b p0; omega
      have hXt : (p : Int).tdiv b = X := by rw [Int.tdiv_eq_ediv_of_nonneg p0, hX]
      rw [hX] at hbit
      have eb : (b == 0) = false := by have : ¬ b = 0 := by omega
                                       simpa using this
      clear hX hb hb2 hba hst hle hM hS hNM hR
      have hn1 : ¬ 9223372036854775807 < NM.size := by rw [HNm.out, byteStr_sizeD]; omega
      have hn2 : ¬ 9223372036854775807 < (byteStr S).size + 1 := by have := HLe.out; rw [byteStr_sizeD]; omega
      have hn3 : ¬ 9223372036854775807 < (byteStr S).size + 1 + NM.size := by have := HLe.out; rw [HNm.out, byteStr_sizeD, byteStr_sizeD]; omega
      clear hMl
      cases g1 : bitN p k
      · have HN : Hid (txtL p u (k + 1) = S) := Lib.hid (by rw [HSt.out, g1]; rfl)
        rw [g1] at hbit
        simp only [Bool.false_eq_true, if_false] at hbit
        clear g1 hlt256 hk hlt HSt
        go_wp2
        go_roundw
        case rel => exact ⟨k + 1, by have := HK.out; omega, by go_num, by rw [HB2n.out], by rw [HN.out], HBel⟩
        case measure => simp [intOf]; omega
      · rw [g1] at hbit
        simp only [if_true] at hbit
        by_cases hS0 : S = []
        · have HN : Hid (txtL p u (k + 1) = M) := Lib.hid (by rw [HSt.out, g1, if_pos rfl, if_pos hS0])
          subst hS0
          rw [show byteStr [] = (⟨#[]⟩ : ByteArray) from rfl]
          have hadd : (⟨#[]⟩ : ByteArray) ++ NM = byteStr M := by rw [HNm.out]; exact byteStr_appD [] M
          have HAdd := Lib.hid hadd
          clear g1 hlt256 hk hlt HSt hadd
          go_wp2_with fail
          refine (CR.out _).mono ?_
          rintro e w1 ⟨rfl, hb1⟩
          have HB1 := Lib.hid (Below.trans0 HBel.out hb1)
          clear hb1
          go_wp2_with fail
          refine (CO.out _).mono ?_
          rintro e w2 ⟨rfl, hb1⟩
          have HB2 := Lib.hid (Below.trans0 HB1.out hb1)
          clear hb1
          go_wp2
          go_roundw
          case rel => exact ⟨k + 1, by have := HK.out; omega, by go_num, by rw [HB2n.out], by rw [HN.out, ← HAdd.out], HB2⟩
          case measure => simp [intOf]; omega
        · have HN : Hid (txtL p u (k + 1) = S ++ 44 :: M) := Lib.hid (by rw [HSt.out, g1, if_pos rfl, if_neg hS0])
          have hE : (byteStr S).toList.isEmpty = false := by
            rw [ByteArray.toList_eq]
            cases S with
            | nil => exact absurd rfl hS0
            | cons a b => rfl
          have hE2 : (byteStr S).toList = [] ↔ False := by
            rw [ByteArray.toList_eq]
            cases S with
            | nil => exact absurd rfl hS0
            | cons a b => simp [byteStr]
          have hadd : byteStr S ++ (⟨#[44]⟩ : ByteArray) ++ NM = byteStr (S ++ 44 :: M) := by
            rw [HNm.out, show (⟨#[44]⟩ : ByteArray) = byteStr [44] from rfl, byteStr_appD, byteStr_appD, List.append_assoc]; rfl
          have HAdd := Lib.hid hadd
          clear g1 hlt256 hk hlt HSt hadd hS0
          go_wp2_with fail
          refine (CR.out _).mono ?_
          rintro e w1 ⟨rfl, hb1⟩
          have HB1 := Lib.hid (Below.trans0 HBel.out hb1)
          clear hb1
          go_wp2_with fail
          refine (CO.out _).mono ?_
          rintro e w2 ⟨rfl, hb1⟩
          have HB2 := Lib.hid (Below.trans0 HB1.out hb1)
          clear hb1
          go_wp2
          go_roundw
          case rel => exact ⟨k + 1, by have := HK.out; omega, by go_num, by rw [HB2n.out], by rw [HN.out, ← HAdd.out], HB2⟩
          case measure => simp [intOf]; omega
    · obtain rfl : k = 8 := by omega
      go_wp2
      go_ret
      exact ⟨congrArg (fun l => Ending.returned (Value.string (byteStr l))) HTx.out, HBel.out⟩
end Go.Proofs.YtopkjniegncokaaDoor
namespace Go.Proofs.YtopkjniegncokaaDoor
open Go.ChangeShapes Go.WideShapes Go.ChangeAt Go.RowKit
set_option linter.unusedVariables false
set_option maxHeartbeats 2000000 in
set_option maxRecDepth 100000 in
theorem refText1_any (p c o r v l a : Int) (b : Nat) (hb : b < 256) (A : Option Addr) (n cap : Nat) (w : World) (l0 : 0 ≤ l) (l1 : l ≤ 100) (v0 : 0 ≤ v) (v1 : v < 65536) (a0 : 0 ≤ a) (a1 : a < 65536) (hv : v < 256) (hs : surI o 1 b = true) :
    Calls Tryd.prog 9 #[.agg (iC p c o 1 r (b : Int) v l), .int .u16 a, .slice A n cap] w fun e w' => e = .returned (.string (lineT (nmT o r) (oprT 1 r b v l a))) ∧ Below w.heap.size w w' := by
  have HB0 := Lib.hid (Below.alloc0 (Below.refl w.heap.size w) (Obj.cells (iC p c o 1 r (b : Int) v l) 27))
  have HI0 := Lib.hid (Blk.new w 27 (iC p c o 1 r (b : Int) v l) (0, 0))
  have CS := Lib.hid (fun u => refSure42_any p c o 1 r v l b hb u)
  have CN : Hid (∀ u, Calls Tryd.prog 26 #[.int .i64 o, .int .i64 r] u fun e w' => e = .returned (.string (nmT o r)) ∧ Below u.heap.size u w') := Lib.hid (fun u => refName13_any o r u)
  rw [hs] at CS
  have s1 := oprT_size 1 r b v l a hb v0 v1
  have s2 := nmT_size o r
  have hv256 : v % 256 = v := by omega
  have CH : Hid (∀ u, Calls Tryd.prog 11 #[.int .i64 v, .int .i64 2] u fun e w' => e = .returned (.string (hexT v 2)) ∧ u = w') := Lib.hid (fun u => refHex42_any v 2 u v0 v1 (by omega) (by omega))
  have HO : oprT 1 r b v l a = ⟨#[35]⟩ ++ hexT v 2 := by unfold oprT; simp (decide := true) only [↓reduceIte, hv256]
  have hq := hexT_size v 2 v0 v1 (by omega)
  rw [HO] at s1 ⊢
  generalize hexT v 2 = S at CH hq s1 ⊢
  have z0 : 1 + S.size ≤ 100 := by omega
  obtain ⟨SX, hSX⟩ : ∃ SX, (⟨#[35]⟩ : ByteArray) ++ S = SX := ⟨_, rfl⟩
  rw [hSX] at s1 ⊢
  have HSX := Lib.hid hSX
  clear HO hSX hq
  generalize nmT o r = S2 at CN s2 ⊢
  have z1 : S2.size + 1 ≤ 2000 := by omega
  have z2 : S2.size + 1 + SX.size ≤ 2000 := by omega
  unfold lineT
  clear s1 s2 hs
  cases hE : SX.toList.isEmpty
  all_goals
    go_enter Tryd.func9, Tryd.ntmps9
    go_wp2_with fail
    refine (CS.out _).mono ?_
    rintro e w1 ⟨rfl, hb1⟩
    have HB1 := Lib.hid (Below.trans0 HB0.out hb1)
    have HI1 := Lib.hid (Blk.below HI0.out hb1 (by simp))
    clear hb1
    obtain ⟨c0, c1, c2, c3, c4, c5, c6, c7⟩ := HI1.out.s8
    go_wp2_with fail
    refine (CH.out _).mono ?_
    rintro e w2 ⟨rfl, rfl⟩
    have hSX := HSX.out
    have HBo := HB1
    have HIo := HI1
    go_wp2_with fail
    refine (CN.out _).mono ?_
    rintro e wn ⟨rfl, hbn⟩
    have HBz := Lib.hid (Below.trans0 HBo.out hbn)
    clear hbn
    go_wp2
    go_ret
    exact ⟨rfl, HBz.out⟩
set_option maxHeartbeats 2000000 in
set_option maxRecDepth 100000 in
theorem refText2_any (p c o r v l a : Int) (b : Nat) (hb : b < 256) (A : Option Addr) (n cap : Nat) (w : World) (l0 : 0 ≤ l) (l1 : l ≤ 100) (v0 : 0 ≤ v) (v1 : v < 65536) (a0 : 0 ≤ a) (a1 : a < 65536) (hs : surI o 2 b = true) :
    Calls Tryd.prog 9 #[.agg (iC p c o 2 r (b : Int) v l), .int .u16 a, .slice A n cap] w fun e w' => e = .returned (.string (lineT (nmT o r) (oprT 2 r b v l a))) ∧ Below w.heap.size w w' := by
  have HB0 := Lib.hid (Below.alloc0 (Below.refl w.heap.size w) (Obj.cells (iC p c o 2 r (b : Int) v l) 27))
  have HI0 := Lib.hid (Blk.new w 27 (iC p c o 2 r (b : Int) v l) (0, 0))
  have CS := Lib.hid (fun u => refSure42_any p c o 2 r v l b hb u)
  have CN : Hid (∀ u, Calls Tryd.prog 26 #[.int .i64 o, .int .i64 r] u fun e w' => e = .returned (.string (nmT o r)) ∧ Below u.heap.size u w') := Lib.hid (fun u => refName13_any o r u)
  rw [hs] at CS
  have s1 := oprT_size 2 r b v l a hb v0 v1
  have s2 := nmT_size o r
  have CH : Hid (∀ u, Calls Tryd.prog 11 #[.int .i64 v, .int .i64 4] u fun e w' => e = .returned (.string (hexT v 4)) ∧ u = w') := Lib.hid (fun u => refHex42_any v 4 u v0 v1 (by omega) (by omega))
  have HO : oprT 2 r b v l a = ⟨#[35]⟩ ++ hexT v 4 := by unfold oprT; simp (decide := true) only [↓reduceIte]
  have hq := hexT_size v 4 v0 v1 (by omega)
  rw [HO] at s1 ⊢
  generalize hexT v 4 = S at CH hq s1 ⊢
  have z0 : 1 + S.size ≤ 100 := by omega
  obtain ⟨SX, hSX⟩ : ∃ SX, (⟨#[35]⟩ : ByteArray) ++ S = SX := ⟨_, rfl⟩
  rw [hSX] at s1 ⊢
  have HSX := Lib.hid hSX
  clear HO hSX hq
  generalize nmT o r = S2 at CN s2 ⊢
  have z1 : S2.size + 1 ≤ 2000 := by omega
  have z2 : S2.size + 1 + SX.size ≤ 2000 := by omega
  unfold lineT
  clear s1 s2 hs
  cases hE : SX.toList.isEmpty
  all_goals
    go_enter Tryd.func9, Tryd.ntmps9
    go_wp2_with fail
    refine (CS.out _).mono ?_
    rintro e w1 ⟨rfl, hb1⟩
    have HB1 := Lib.hid (Below.trans0 HB0.out hb1)
    have HI1 := Lib.hid (Blk.below HI0.out hb1 (by simp))
    clear hb1
    obtain ⟨c0, c1, c2, c3, c4, c5, c6, c7⟩ := HI1.out.s8
    go_wp2_with fail
    refine (CH.out _).mono ?_
    rintro e w2 ⟨rfl, rfl⟩
    have hSX := HSX.out
    have HBo := HB1
    have HIo := HI1
    go_wp2_with fail
    refine (CN.out _).mono ?_
    rintro e wn ⟨rfl, hbn⟩
    have HBz := Lib.hid (Below.trans0 HBo.out hbn)
    clear hbn
    go_wp2
    go_ret
    exact ⟨rfl, HBz.out⟩
set_option maxHeartbeats 2000000 in
set_option maxRecDepth 100000 in
theorem refText3_any (p c o r v l a : Int) (b : Nat) (hb : b < 256) (A : Option Addr) (n cap : Nat) (w : World) (l0 : 0 ≤ l) (l1 : l ≤ 100) (v0 : 0 ≤ v) (v1 : v < 65536) (a0 : 0 ≤ a) (a1 : a < 65536) (hv : v < 256) (hs : surI o 3 b = true) :
    Calls Tryd.prog 9 #[.agg (iC p c o 3 r (b : Int) v l), .int .u16 a, .slice A n cap] w fun e w' => e = .returned (.string (lineT (nmT o r) (oprT 3 r b v l a))) ∧ Below w.heap.size w w' := by
  have HB0 := Lib.hid (Below.alloc0 (Below.refl w.heap.size w) (Obj.cells (iC p c o 3 r (b : Int) v l) 27))
  have HI0 := Lib.hid (Blk.new w 27 (iC p c o 3 r (b : Int) v l) (0, 0))
  have CS := Lib.hid (fun u => refSure42_any p c o 3 r v l b hb u)
  have CN : Hid (∀ u, Calls Tryd.prog 26 #[.int .i64 o, .int .i64 r] u fun e w' => e = .returned (.string (nmT o r)) ∧ Below u.heap.size u w') := Lib.hid (fun u => refName13_any o r u)
  rw [hs] at CS
  have s1 := oprT_size 3 r b v l a hb v0 v1
  have s2 := nmT_size o r
  have hv256 : v % 256 = v := by omega
  have CH : Hid (∀ u, Calls Tryd.prog 11 #[.int .i64 v, .int .i64 2] u fun e w' => e = .returned (.string (hexT v 2)) ∧ u = w') := Lib.hid (fun u => refHex42_any v 2 u v0 v1 (by omega) (by omega))
  have HO : oprT 3 r b v l a = ⟨#[60]⟩ ++ hexT v 2 := by unfold oprT; simp (decide := true) only [↓reduceIte, hv256]
  have hq := hexT_size v 2 v0 v1 (by omega)
  rw [HO] at s1 ⊢
  generalize hexT v 2 = S at CH hq s1 ⊢
  have z0 : 1 + S.size ≤ 100 := by omega
  obtain ⟨SX, hSX⟩ : ∃ SX, (⟨#[60]⟩ : ByteArray) ++ S = SX := ⟨_, rfl⟩
  rw [hSX] at s1 ⊢
  have HSX := Lib.hid hSX
  clear HO hSX hq
  generalize nmT o r = S2 at CN s2 ⊢
  have z1 : S2.size + 1 ≤ 2000 := by omega
  have z2 : S2.size + 1 + SX.size ≤ 2000 := by omega
  unfold lineT
  clear s1 s2 hs
  cases hE : SX.toList.isEmpty
  all_goals
    go_enter Tryd.func9, Tryd.ntmps9
    go_wp2_with fail
    refine (CS.out _).mono ?_
    rintro e w1 ⟨rfl, hb1⟩
    have HB1 := Lib.hid (Below.trans0 HB0.out hb1)
    have HI1 := Lib.hid (Blk.below HI0.out hb1 (by simp))
    clear hb1
    obtain ⟨c0, c1, c2, c3, c4, c5, c6, c7⟩ := HI1.out.s8
    go_wp2_with fail
    refine (CH.out _).mono ?_
    rintro e w2 ⟨rfl, rfl⟩
    have hSX := HSX.out
    have HBo := HB1
    have HIo := HI1
    go_wp2_with fail
    refine (CN.out _).mono ?_
    rintro e wn ⟨rfl, hbn⟩
    have HBz := Lib.hid (Below.trans0 HBo.out hbn)
    clear hbn
    go_wp2
    go_ret
    exact ⟨rfl, HBz.out⟩
set_option maxHeartbeats 2000000 in
set_option maxRecDepth 100000 in
theorem refText5_any (p c o r v l a : Int) (b : Nat) (hb : b < 256) (A : Option Addr) (n cap : Nat) (w : World) (l0 : 0 ≤ l) (l1 : l ≤ 100) (v0 : 0 ≤ v) (v1 : v < 65536) (a0 : 0 ≤ a) (a1 : a < 65536) (hs : surI o 5 b = true) :
    Calls Tryd.prog 9 #[.agg (iC p c o 5 r (b : Int) v l), .int .u16 a, .slice A n cap] w fun e w' => e = .returned (.string (lineT (nmT o r) (oprT 5 r b v l a))) ∧ Below w.heap.size w w' := by
  have HB0 := Lib.hid (Below.alloc0 (Below.refl w.heap.size w) (Obj.cells (iC p c o 5 r (b : Int) v l) 27))
  have HI0 := Lib.hid (Blk.new w 27 (iC p c o 5 r (b : Int) v l) (0, 0))
  have CS := Lib.hid (fun u => refSure42_any p c o 5 r v l b hb u)
  have CN : Hid (∀ u, Calls Tryd.prog 26 #[.int .i64 o, .int .i64 r] u fun e w' => e = .returned (.string (nmT o r)) ∧ Below u.heap.size u w') := Lib.hid (fun u => refName13_any o r u)
  rw [hs] at CS
  have s1 := oprT_size 5 r b v l a hb v0 v1
  have s2 := nmT_size o r
  have CH : Hid (∀ u, Calls Tryd.prog 11 #[.int .i64 v, .int .i64 4] u fun e w' => e = .returned (.string (hexT v 4)) ∧ u = w') := Lib.hid (fun u => refHex42_any v 4 u v0 v1 (by omega) (by omega))
  have HO : oprT 5 r b v l a = ⟨#[62]⟩ ++ hexT v 4 := by unfold oprT; simp (decide := true) only [↓reduceIte]
  have hq := hexT_size v 4 v0 v1 (by omega)
  rw [HO] at s1 ⊢
  generalize hexT v 4 = S at CH hq s1 ⊢
  have z0 : 1 + S.size ≤ 100 := by omega
  obtain ⟨SX, hSX⟩ : ∃ SX, (⟨#[62]⟩ : ByteArray) ++ S = SX := ⟨_, rfl⟩
  rw [hSX] at s1 ⊢
  have HSX := Lib.hid hSX
  clear HO hSX hq
  generalize nmT o r = S2 at CN s2 ⊢
  have z1 : S2.size + 1 ≤ 2000 := by omega
  have z2 : S2.size + 1 + SX.size ≤ 2000 := by omega
  unfold lineT
  clear s1 s2 hs
  cases hE : SX.toList.isEmpty
  all_goals
    go_enter Tryd.func9, Tryd.ntmps9
    go_wp2_with fail
    refine (CS.out _).mono ?_
    rintro e w1 ⟨rfl, hb1⟩
    have HB1 := Lib.hid (Below.trans0 HB0.out hb1)
    have HI1 := Lib.hid (Blk.below HI0.out hb1 (by simp))
    clear hb1
    obtain ⟨c0, c1, c2, c3, c4, c5, c6, c7⟩ := HI1.out.s8
    go_wp2_with fail
    refine (CH.out _).mono ?_
    rintro e w2 ⟨rfl, rfl⟩
    have hSX := HSX.out
    have HBo := HB1
    have HIo := HI1
    go_wp2_with fail
    refine (CN.out _).mono ?_
    rintro e wn ⟨rfl, hbn⟩
    have HBz := Lib.hid (Below.trans0 HBo.out hbn)
    clear hbn
    go_wp2
    go_ret
    exact ⟨rfl, HBz.out⟩
set_option maxHeartbeats 2000000 in
set_option maxRecDepth 100000 in
theorem refText6_any (p c o r v l a : Int) (b : Nat) (hb : b < 256) (A : Option Addr) (n cap : Nat) (w : World) (l0 : 0 ≤ l) (l1 : l ≤ 100) (v0 : 0 ≤ v) (v1 : v < 65536) (a0 : 0 ≤ a) (a1 : a < 65536) (hs : surI o 6 b = true) :
    Calls Tryd.prog 9 #[.agg (iC p c o 6 r (b : Int) v l), .int .u16 a, .slice A n cap] w fun e w' => e = .returned (.string (lineT (nmT o r) (oprT 6 r b v l a))) ∧ Below w.heap.size w w' := by
  have HB0 := Lib.hid (Below.alloc0 (Below.refl w.heap.size w) (Obj.cells (iC p c o 6 r (b : Int) v l) 27))
  have HI0 := Lib.hid (Blk.new w 27 (iC p c o 6 r (b : Int) v l) (0, 0))
  have CS := Lib.hid (fun u => refSure42_any p c o 6 r v l b hb u)
  have CN : Hid (∀ u, Calls Tryd.prog 26 #[.int .i64 o, .int .i64 r] u fun e w' => e = .returned (.string (nmT o r)) ∧ Below u.heap.size u w') := Lib.hid (fun u => refName13_any o r u)
  rw [hs] at CS
  have s1 := oprT_size 6 r b v l a hb v0 v1
  have s2 := nmT_size o r
  have ht : 0 ≤ tgtI 6 l v a ∧ tgtI 6 l v a < 65536 := by unfold tgtI; simp (decide := true) only [↓reduceIte]; omega
  have CH : Hid (∀ u, Calls Tryd.prog 11 #[.int .i64 (tgtI 6 l v a), .int .i64 4] u fun e w' => e = .returned (.string (hexT (tgtI 6 l v a) 4)) ∧ u = w') := Lib.hid (fun u => refHex42_any (tgtI 6 l v a) 4 u ht.1 ht.2 (by omega) (by omega))
  have HO : oprT 6 r b v l a = hexT (tgtI 6 l v a) 4 := by unfold oprT; simp (decide := true) only [↓reduceIte]
  rw [HO] at s1 ⊢
  have hX : wrap64 (IntKind.u16.wrap (IntKind.u16.wrap (a + l) + v)) = tgtI 6 l v a := by unfold tgtI wrap64; rw [IntKind.wrap_u16, IntKind.wrap_u16]; simp (decide := true) only [↓reduceIte]; omega
  have hl : l % 65536 = l := by omega
  generalize hexT (tgtI 6 l v a) 4 = SX at CH s1 ⊢
  generalize tgtI 6 l v a = T at CH hX
  clear HO ht
  generalize nmT o r = S2 at CN s2 ⊢
  have z1 : S2.size + 1 ≤ 2000 := by omega
  have z2 : S2.size + 1 + SX.size ≤ 2000 := by omega
  unfold lineT
  clear s1 s2 hs
  cases hE : SX.toList.isEmpty
  all_goals
    go_enter Tryd.func9, Tryd.ntmps9
    go_wp2_with fail
    refine (CS.out _).mono ?_
    rintro e w1 ⟨rfl, hb1⟩
    have HB1 := Lib.hid (Below.trans0 HB0.out hb1)
    have HI1 := Lib.hid (Blk.below HI0.out hb1 (by simp))
    clear hb1
    obtain ⟨c0, c1, c2, c3, c4, c5, c6, c7⟩ := HI1.out.s8
    go_wp2_with fail
    refine (CH.out _).mono ?_
    rintro e w2 ⟨rfl, rfl⟩
    have HBo := HB1
    have HIo := HI1
    go_wp2_with fail
    refine (CN.out _).mono ?_
    rintro e wn ⟨rfl, hbn⟩
    have HBz := Lib.hid (Below.trans0 HBo.out hbn)
    clear hbn
    go_wp2
    go_ret
    exact ⟨rfl, HBz.out⟩
set_option maxHeartbeats 2000000 in
set_option maxRecDepth 100000 in
theorem refText7_any (p c o r v l a : Int) (b : Nat) (hb : b < 256) (A : Option Addr) (n cap : Nat) (w : World) (l0 : 0 ≤ l) (l1 : l ≤ 100) (v0 : 0 ≤ v) (v1 : v < 65536) (a0 : 0 ≤ a) (a1 : a < 65536) (hs : surI o 7 b = true) :
    Calls Tryd.prog 9 #[.agg (iC p c o 7 r (b : Int) v l), .int .u16 a, .slice A n cap] w fun e w' => e = .returned (.string (lineT (nmT o r) (oprT 7 r b v l a))) ∧ Below w.heap.size w w' := by
  have HB0 := Lib.hid (Below.alloc0 (Below.refl w.heap.size w) (Obj.cells (iC p c o 7 r (b : Int) v l) 27))
  have HI0 := Lib.hid (Blk.new w 27 (iC p c o 7 r (b : Int) v l) (0, 0))
  have CS := Lib.hid (fun u => refSure42_any p c o 7 r v l b hb u)
  have CN : Hid (∀ u, Calls Tryd.prog 26 #[.int .i64 o, .int .i64 r] u fun e w' => e = .returned (.string (nmT o r)) ∧ Below u.heap.size u w') := Lib.hid (fun u => refName13_any o r u)
  rw [hs] at CS
  have s1 := oprT_size 7 r b v l a hb v0 v1
  have s2 := nmT_size o r
  have ht : 0 ≤ tgtI 7 l v a ∧ tgtI 7 l v a < 65536 := by unfold tgtI; simp (decide := true) only [↓reduceIte]; omega
  have CH : Hid (∀ u, Calls Tryd.prog 11 #[.int .i64 (tgtI 7 l v a), .int .i64 4] u fun e w' => e = .returned (.string (hexT (tgtI 7 l v a) 4)) ∧ u = w') := Lib.hid (fun u => refHex42_any (tgtI 7 l v a) 4 u ht.1 ht.2 (by omega) (by omega))
  have HO : oprT 7 r b v l a = hexT (tgtI 7 l v a) 4 := by unfold oprT; simp (decide := true) only [↓reduceIte]
  rw [HO] at s1 ⊢
  have hX : wrap64 (IntKind.u16.wrap (IntKind.u16.wrap (a + l) + v)) = tgtI 7 l v a := by unfold tgtI wrap64; rw [IntKind.wrap_u16, IntKind.wrap_u16]; simp (decide := true) only [↓reduceIte]; omega
  have hl : l % 65536 = l := by omega
  generalize hexT (tgtI 7 l v a) 4 = SX at CH s1 ⊢
  generalize tgtI 7 l v a = T at CH hX
  clear HO ht
  generalize nmT o r = S2 at CN s2 ⊢
  have z1 : S2.size + 1 ≤ 2000 := by omega
  have z2 : S2.size + 1 + SX.size ≤ 2000 := by omega
  unfold lineT
  clear s1 s2 hs
  cases hE : SX.toList.isEmpty
  all_goals
    go_enter Tryd.func9, Tryd.ntmps9
    go_wp2_with fail
    refine (CS.out _).mono ?_
    rintro e w1 ⟨rfl, hb1⟩
    have HB1 := Lib.hid (Below.trans0 HB0.out hb1)
    have HI1 := Lib.hid (Blk.below HI0.out hb1 (by simp))
    clear hb1
    obtain ⟨c0, c1, c2, c3, c4, c5, c6, c7⟩ := HI1.out.s8
    go_wp2_with fail
    refine (CH.out _).mono ?_
    rintro e w2 ⟨rfl, rfl⟩
    have HBo := HB1
    have HIo := HI1
    go_wp2_with fail
    refine (CN.out _).mono ?_
    rintro e wn ⟨rfl, hbn⟩
    have HBz := Lib.hid (Below.trans0 HBo.out hbn)
    clear hbn
    go_wp2
    go_ret
    exact ⟨rfl, HBz.out⟩
end Go.Proofs.YtopkjniegncokaaDoor
namespace Go.Proofs.YtopkjniegncokaaDoor
open Go.ChangeShapes Go.WideShapes Go.ChangeAt Go.RowKit
set_option linter.unusedVariables false
set_option maxHeartbeats 2000000 in
set_option maxRecDepth 100000 in
theorem refText4_any (p c o r v l a : Int) (b : Nat) (hb : b < 256) (A : Option Addr) (n cap : Nat) (w : World) (l0 : 0 ≤ l) (l1 : l ≤ 100) (v0 : 0 ≤ v) (v1 : v < 65536) (a0 : 0 ≤ a) (a1 : a < 65536) (hs : surI o 4 b = true) :
    Calls Tryd.prog 9 #[.agg (iC p c o 4 r (b : Int) v l), .int .u16 a, .slice A n cap] w fun e w' => e = .returned (.string (lineT (nmT o r) (oprT 4 r b v l a))) ∧ Below w.heap.size w w' := by
  have HB0 := Lib.hid (Below.alloc0 (Below.refl w.heap.size w) (Obj.cells (iC p c o 4 r (b : Int) v l) 27))
  have HI0 := Lib.hid (Blk.new w 27 (iC p c o 4 r (b : Int) v l) (0, 0))
  have CS := Lib.hid (fun u => refSure42_any p c o 4 r v l b hb u)
  have CN : Hid (∀ u, Calls Tryd.prog 26 #[.int .i64 o, .int .i64 r] u fun e w' => e = .returned (.string (nmT o r)) ∧ Below u.heap.size u w') := Lib.hid (fun u => refName13_any o r u)
  rw [hs] at CS
  have s1 := oprT_size 4 r b v l a hb v0 v1
  have s2 := nmT_size o r
  have CI := Lib.hid (fun u => refIndexed_any b hb v u v0 v1)
  have HO : oprT 4 r b v l a = idxT (poK b) (byteStr (regI (poR b : Int))) (poO b : Int) v (poI b) := by unfold oprT; simp (decide := true) only [↓reduceIte]
  rw [HO] at s1 ⊢
  generalize idxT (poK b) (byteStr (regI (poR b : Int))) (poO b : Int) v (poI b) = SX at CI s1 ⊢
  clear HO
  generalize nmT o r = S2 at CN s2 ⊢
  have z1 : S2.size + 1 ≤ 2000 := by omega
  have z2 : S2.size + 1 + SX.size ≤ 2000 := by omega
  unfold lineT
  clear s1 s2 hs
  cases hE : SX.toList.isEmpty
  all_goals
    go_enter Tryd.func9, Tryd.ntmps9
    go_wp2_with fail
    refine (CS.out _).mono ?_
    rintro e w1 ⟨rfl, hb1⟩
    have HB1 := Lib.hid (Below.trans0 HB0.out hb1)
    have HI1 := Lib.hid (Blk.below HI0.out hb1 (by simp))
    clear hb1
    obtain ⟨c0, c1, c2, c3, c4, c5, c6, c7⟩ := HI1.out.s8
    go_wp2_with fail
    refine (CI.out _).mono ?_
    rintro e w2 ⟨rfl, hb2⟩
    have HBo := Lib.hid (Below.trans0 HB1.out hb2)
    have HIo := Lib.hid (Blk.below HI1.out hb2 HI1.out.lt)
    clear hb2 c0 c1 c2 c3 c4 c5 c6 c7
    obtain ⟨c0, c1, c2, c3, c4, c5, c6, c7⟩ := HIo.out.s8
    go_wp2_with fail
    refine (CN.out _).mono ?_
    rintro e wn ⟨rfl, hbn⟩
    have HBz := Lib.hid (Below.trans0 HBo.out hbn)
    clear hbn
    go_wp2
    go_ret
    exact ⟨rfl, HBz.out⟩
set_option maxHeartbeats 2000000 in
set_option maxRecDepth 100000 in
theorem refText9_any (p c o r v l a : Int) (b : Nat) (hb : b < 256) (A : Option Addr) (n cap : Nat) (w : World) (l0 : 0 ≤ l) (l1 : l ≤ 100) (v0 : 0 ≤ v) (v1 : v < 65536) (a0 : 0 ≤ a) (a1 : a < 65536) (hs : surI o 9 b = true) :
    Calls Tryd.prog 9 #[.agg (iC p c o 9 r (b : Int) v l), .int .u16 a, .slice A n cap] w fun e w' => e = .returned (.string (lineT (nmT o r) (oprT 9 r b v l a))) ∧ Below w.heap.size w w' := by
  have HB0 := Lib.hid (Below.alloc0 (Below.refl w.heap.size w) (Obj.cells (iC p c o 9 r (b : Int) v l) 27))
  have HI0 := Lib.hid (Blk.new w 27 (iC p c o 9 r (b : Int) v l) (0, 0))
  have CS := Lib.hid (fun u => refSure42_any p c o 9 r v l b hb u)
  have CN : Hid (∀ u, Calls Tryd.prog 26 #[.int .i64 o, .int .i64 r] u fun e w' => e = .returned (.string (nmT o r)) ∧ Below u.heap.size u w') := Lib.hid (fun u => refName13_any o r u)
  rw [hs] at CS
  have s1 := oprT_size 9 r b v l a hb v0 v1
  have s2 := nmT_size o r
  have CI := Lib.hid (fun u => refList42_any b hb (r == 3) u)
  have HO : oprT 9 r b v l a = byteStr (txtL b (r == 3) 8) := by unfold oprT; simp (decide := true) only [↓reduceIte]
  rw [HO] at s1 ⊢
  generalize byteStr (txtL b (r == 3) 8) = SX at CI s1 ⊢
  clear HO
  generalize nmT o r = S2 at CN s2 ⊢
  have z1 : S2.size + 1 ≤ 2000 := by omega
  have z2 : S2.size + 1 + SX.size ≤ 2000 := by omega
  unfold lineT
  clear s1 s2 hs
  cases hE : SX.toList.isEmpty
  all_goals
    go_enter Tryd.func9, Tryd.ntmps9
    go_wp2_with fail
    refine (CS.out _).mono ?_
    rintro e w1 ⟨rfl, hb1⟩
    have HB1 := Lib.hid (Below.trans0 HB0.out hb1)
    have HI1 := Lib.hid (Blk.below HI0.out hb1 (by simp))
    clear hb1
    obtain ⟨c0, c1, c2, c3, c4, c5, c6, c7⟩ := HI1.out.s8
    go_wp2_with fail
    refine (CI.out _).mono ?_
    rintro e w2 ⟨rfl, hb2⟩
    have HBo := Lib.hid (Below.trans0 HB1.out hb2)
    have HIo := Lib.hid (Blk.below HI1.out hb2 HI1.out.lt)
    clear hb2 c0 c1 c2 c3 c4 c5 c6 c7
    obtain ⟨c0, c1, c2, c3, c4, c5, c6, c7⟩ := HIo.out.s8
    go_wp2_with fail
    refine (CN.out _).mono ?_
    rintro e wn ⟨rfl, hbn⟩
    have HBz := Lib.hid (Below.trans0 HBo.out hbn)
    clear hbn
    go_wp2
    go_ret
    exact ⟨rfl, HBz.out⟩
set_option maxHeartbeats 2000000 in
set_option maxRecDepth 100000 in
theorem refText0_any (p c o m r v l a : Int) (b : Nat) (hb : b < 256) (A : Option Addr) (n cap : Nat) (w : World) (l0 : 0 ≤ l) (l1 : l ≤ 100) (v0 : 0 ≤ v) (v1 : v < 65536) (a0 : 0 ≤ a) (a1 : a < 65536) (hm : m < 1 ∨ 9 < m) (hs : surI o m b = true) :
    Calls Tryd.prog 9 #[.agg (iC p c o m r (b : Int) v l), .int .u16 a, .slice A n cap] w fun e w' => e = .returned (.string (lineT (nmT o r) (oprT m r b v l a))) ∧ Below w.heap.size w w' := by
  have HB0 := Lib.hid (Below.alloc0 (Below.refl w.heap.size w) (Obj.cells (iC p c o m r (b : Int) v l) 27))
  have HI0 := Lib.hid (Blk.new w 27 (iC p c o m r (b : Int) v l) (0, 0))
  have CS := Lib.hid (fun u => refSure42_any p c o m r v l b hb u)
  have CN : Hid (∀ u, Calls Tryd.prog 26 #[.int .i64 o, .int .i64 r] u fun e w' => e = .returned (.string (nmT o r)) ∧ Below u.heap.size u w') := Lib.hid (fun u => refName13_any o r u)
  rw [hs] at CS
  have s1 := oprT_size m r b v l a hb v0 v1
  have s2 := nmT_size o r
  have HO : oprT m r b v l a = ⟨#[]⟩ := by
    unfold oprT
    repeat rw [if_neg (by omega)]
  rw [HO]
  obtain ⟨SX, hSX⟩ : ∃ SX, (⟨#[]⟩ : ByteArray) = SX := ⟨_, rfl⟩
  rw [HO, hSX] at s1
  rw [hSX]
  have e1 := ne_beq (show ¬ m = 1 by omega)
  have e2 := ne_beq (show ¬ m = 2 by omega)
  have e3 := ne_beq (show ¬ m = 3 by omega)
  have e4 := ne_beq (show ¬ m = 4 by omega)
  have e5 := ne_beq (show ¬ m = 5 by omega)
  have e6 := ne_beq (show ¬ m = 6 by omega)
  have e7 := ne_beq (show ¬ m = 7 by omega)
  have e8 := ne_beq (show ¬ m = 8 by omega)
  have e9 := ne_beq (show ¬ m = 9 by omega)
  have hEx : SX.toList.isEmpty = true := by rw [← hSX]; decide +kernel
  clear HO hm
  generalize nmT o r = S2 at CN s2 ⊢
  have z1 : S2.size + 1 ≤ 2000 := by omega
  have z2 : S2.size + 1 + SX.size ≤ 2000 := by omega
  unfold lineT
  clear s1 s2 hs
  rw [hEx]
  subst hSX
  iterate 1
    go_enter Tryd.func9, Tryd.ntmps9
    go_wp2_with fail
    refine (CS.out _).mono ?_
    rintro e w1 ⟨rfl, hb1⟩
    have HB1 := Lib.hid (Below.trans0 HB0.out hb1)
    have HI1 := Lib.hid (Blk.below HI0.out hb1 (by simp))
    clear hb1
    obtain ⟨c0, c1, c2, c3, c4, c5, c6, c7⟩ := HI1.out.s8
    have HBo := HB1
    have HIo := HI1
    go_wp2_with fail
    refine (CN.out _).mono ?_
    rintro e wn ⟨rfl, hbn⟩
    have HBz := Lib.hid (Below.trans0 HBo.out hbn)
    clear hbn
    go_wp2
    go_ret
    exact ⟨rfl, HBz.out⟩
end Go.Proofs.YtopkjniegncokaaDoor
namespace Go.Proofs.YtopkjniegncokaaDoor
open Go.ChangeShapes Go.WideShapes Go.ChangeAt Go.RowKit
set_option linter.unusedVariables false
set_option maxHeartbeats 2000000 in
set_option maxRecDepth 100000 in
theorem refText8_any (p c o r v l a : Int) (b : Nat) (hb : b < 256) (A : Option Addr) (n cap : Nat) (w : World) (l0 : 0 ≤ l) (l1 : l ≤ 100) (v0 : 0 ≤ v) (v1 : v < 65536) (a0 : 0 ≤ a) (a1 : a < 65536) (hs : surI o 8 b = true) :
    Calls Tryd.prog 9 #[.agg (iC p c o 8 r (b : Int) v l), .int .u16 a, .slice A n cap] w fun e w' => e = .returned (.string (lineT (nmT o r) (oprT 8 r b v l a))) ∧ Below w.heap.size w w' := by
  have HB0 := Lib.hid (Below.alloc0 (Below.refl w.heap.size w) (Obj.cells (iC p c o 8 r (b : Int) v l) 27))
  have HI0 := Lib.hid (Blk.new w 27 (iC p c o 8 r (b : Int) v l) (0, 0))
  have CS := Lib.hid (fun u => refSure42_any p c o 8 r v l b hb u)
  have CN : Hid (∀ u, Calls Tryd.prog 26 #[.int .i64 o, .int .i64 r] u fun e w' => e = .returned (.string (nmT o r)) ∧ Below u.heap.size u w') := Lib.hid (fun u => refName13_any o r u)
  rw [hs] at CS
  have s1 := oprT_size 8 r b v l a hb v0 v1
  have s2 := nmT_size o r
  have e1 : ((b : Int) / 16) = ((b / 16 : Nat) : Int) := by omega
  have e2 : ((b : Int) % 16) = ((b % 16 : Nat) : Int) := by omega
  have C1 := Lib.hid (fun u => refReg42_any ((b / 16 : Nat) : Int) u (by omega) (by omega))
  have C2 := Lib.hid (fun u => refReg42_any ((b % 16 : Nat) : Int) u (by omega) (by omega))
  have hs1 := regT_size ((b / 16 : Nat) : Int) (by omega) (by omega)
  have hs2 := regT_size ((b % 16 : Nat) : Int) (by omega) (by omega)
  have HId0 := Lib.hid (Blk.drew HI0.out)
  have h0 : (0 : Int) ≤ ((b / 16 : Nat) : Int) := by omega
  have h1 : ((b / 16 : Nat) : Int) < 16 := by omega
  have w1 : IntKind.i64.wrap ((b / 16 : Nat) : Int) = ((b / 16 : Nat) : Int) := IntWalk.i64_in _ (by omega)
  have w2 : IntKind.i64.wrap ((b % 16 : Nat) : Int) = ((b % 16 : Nat) : Int) := IntWalk.i64_in _ (by omega)
  have e3 : (b : Int).tmod 16 = ((b % 16 : Nat) : Int) := by rw [Int.tmod_eq_emod_of_nonneg (by omega)]; omega
  have e4 : (b : Int).tdiv 16 = ((b / 16 : Nat) : Int) := by rw [Int.tdiv_eq_ediv_of_nonneg (by omega)]; omega
  have u1 : IntKind.u8.wrap ((b / 16 : Nat) : Int) = ((b / 16 : Nat) : Int) := by rw [IntKind.wrap_u8]; omega
  have u2 : IntKind.u8.wrap ((b % 16 : Nat) : Int) = ((b % 16 : Nat) : Int) := by rw [IntKind.wrap_u8]; omega
  have HO : oprT 8 r b v l a = regT ((b / 16 : Nat) : Int) ++ ⟨#[44]⟩ ++ regT ((b % 16 : Nat) : Int) := by unfold oprT; simp (decide := true) only [↓reduceIte]
  rw [HO] at s1 ⊢
  generalize regT ((b / 16 : Nat) : Int) = S1 at C1 hs1 s1 ⊢
  generalize regT ((b % 16 : Nat) : Int) = S3 at C2 hs2 s1 ⊢
  generalize ((b / 16 : Nat) : Int) = x1 at C1 e1 h0 h1 w1 e4 u1
  generalize ((b % 16 : Nat) : Int) = x2 at C2 e2 w2 e3 u2
  have y1 : ¬ 9223372036854775807 < S1.size + 1 := by omega
  have y2 : ¬ 9223372036854775807 < S1.size + 1 + S3.size := by omega
  obtain ⟨SX, hSX⟩ : ∃ SX, S1 ++ (⟨#[44]⟩ : ByteArray) ++ S3 = SX := ⟨_, rfl⟩
  rw [hSX] at s1 ⊢
  have HSX := Lib.hid hSX
  clear HO hSX hs1 hs2
  generalize nmT o r = S2 at CN s2 ⊢
  have z1 : S2.size + 1 ≤ 2000 := by omega
  have z2 : S2.size + 1 + SX.size ≤ 2000 := by omega
  unfold lineT
  clear s1 s2 hs
  cases hE : SX.toList.isEmpty
  all_goals
    go_enter Tryd.func9, Tryd.ntmps9
    go_wp2_with fail
    refine (CS.out _).mono ?_
    rintro e w1 ⟨rfl, hb1⟩
    have HB1 := Lib.hid (Below.trans0 HB0.out hb1)
    have HI1 := Lib.hid (Blk.below HI0.out hb1 (by simp))
    clear hb1
    obtain ⟨c0, c1, c2, c3, c4, c5, c6, c7⟩ := HI1.out.s8
    have HId1 := Lib.hid (Blk.drew HI1.out)
    have HBd1 := Lib.hid (Below.drew0 HB1.out)
    clear c0 c1 c2 c3 c4 c5 c6 c7
    obtain ⟨c0, c1, c2, c3, c4, c5, c6, c7⟩ := HI1.out.s8
    go_upto_region 26 with (fail)
    go_region_held3 (fun w' => w'.cell? ⟨w.heap.size, 5, none⟩ = some (.int .u8 (b : Int)))
      (first
        | (with_reducible exact HId1.out.s8.2.2.2.2.2.1)
        | (with_reducible exact HI2.out.s8.2.2.2.2.2.1)
        | (with_reducible exact HI3.out.s8.2.2.2.2.2.1))
      ((go_at_call 14; first
        | ((with_reducible refine (C1.out _).mono ?_); rintro e w3 ⟨rfl, hb3⟩; have HI3 := Lib.hid (Blk.below HI2.out hb3 HI2.out.lt); have HB3 := Lib.hid (Below.trans0 HB2.out hb3); clear hb3)
        | ((with_reducible refine (C2.out _).mono ?_); rintro e w3 ⟨rfl, hb3⟩; have HI3 := Lib.hid (Blk.below HI2.out hb3 HI2.out.lt); have HB3 := Lib.hid (Below.trans0 HB2.out hb3); clear hb3)
        | ((with_reducible refine (C1.out _).mono ?_); rintro e w2 ⟨rfl, hb2⟩; have HI2 := Lib.hid (Blk.below HId1.out hb2 HId1.out.lt); have HB2 := Lib.hid (Below.trans0 HBd1.out hb2); clear hb2)
        | ((with_reducible refine (C2.out _).mono ?_); rintro e w2 ⟨rfl, hb2⟩; have HI2 := Lib.hid (Blk.below HId1.out hb2 HId1.out.lt); have HB2 := Lib.hid (Below.trans0 HBd1.out hb2); clear hb2)))
    all_goals
      have HBo := HB3
      have HIo := HI3
      have hSX := HSX.out
      rw [hSX]
      clear c0 c1 c2 c3 c4 c5 c6 c7
      obtain ⟨c0, c1, c2, c3, c4, c5, c6, c7⟩ := HI3.out.s8
      go_wp2_with fail
      refine (CN.out _).mono ?_
      rintro e wn ⟨rfl, hbn⟩
      have HBz := Lib.hid (Below.trans0 HBo.out hbn)
      clear hbn
      go_wp2
      go_ret
      exact ⟨rfl, HBz.out⟩
end Go.Proofs.YtopkjniegncokaaDoor
namespace Go.Proofs.YtopkjniegncokaaDoor
open Go.ChangeShapes Go.WideShapes Go.ChangeAt Go.RowKit
set_option linter.unusedVariables false
set_option maxHeartbeats 2000000 in
set_option maxRecDepth 100000 in
theorem refTextRaw_any (p c o m r v l a : Int) (b : Nat) (hb : b < 256) (X : List Int) (A : Option Addr) (n cap : Nat) (w : World) (hI : Ints .u8 w w.heap.size A n X) (hn : n ≤ 5) (hs : surI o m b = false) :
    Calls Tryd.prog 9 #[.agg (iC p c o m r (b : Int) v l), .int .u16 a, .slice A n cap] w fun e w' => e = .returned (.string (⟨#[70, 67, 66, 32]⟩ ++ rawT X)) ∧ Below w.heap.size w w' := by
  have HB0 := Lib.hid (Below.alloc0 (Below.refl w.heap.size w) (Obj.cells (iC p c o m r (b : Int) v l) 27))
  have CS := Lib.hid (fun u => refSure42_any p c o m r v l b hb u)
  rw [hs] at CS
  have hwf : ∀ k, 0 ≤ iat X k ∧ iat X k < 256 := iat_range8' hI.2.1
  have hlen : X.length = n := hI.1
  have CH : Hid (∀ k u, Calls Tryd.prog 11 #[.int .i64 (iat X k), .int .i64 2] u fun e w' => e = .returned (.string (hexT (iat X k) 2)) ∧ u = w') := Lib.hid (fun k u => refHex42_any (iat X k) 2 u (hwf k).1 (by have := (hwf k).2; omega) (by omega) (by omega))
  have HQ : Hid (∀ k, (hexT (iat X k) 2).size ≤ 17) := Lib.hid (fun k => hexT_size _ _ (hwf k).1 (by have := (hwf k).2; omega) (by omega))
  have hR := seqT_raw X (by omega)
  rw [hlen] at hR
  have HIx := Lib.hid (fun wx (hb : Below w.heap.size w wx) => hI.below hb.size hb)
  have HW := Lib.hid hwf
  obtain ⟨Z, hZ⟩ : ∃ Z : Nat → ByteArray, ∀ k, Z k = ⟨#[70, 67, 66, 32]⟩ ++ seqT X k := ⟨_, fun _ => rfl⟩
  have HZs : Hid (∀ k, (Z k).size ≤ 4 + 18 * k) := Lib.hid (fun k => by
    have e1 : (⟨#[70, 67, 66, 32]⟩ : ByteArray).size = 4 := rfl
    rw [hZ, ByteArray.size_append, e1]
    have := seqT_size X hwf k
    omega)
  have HZ0 : Hid ((⟨#[70, 67, 66, 32]⟩ : ByteArray) = Z 0) := Lib.hid (by rw [hZ]; apply ByteArray.ext; simp [seqT])
  have HZ1 : Hid (Z 0 ++ hexT (iat X 0) 2 = Z 1) := Lib.hid (by rw [hZ, hZ, ByteArray.append_assoc]; rfl)
  have HZk : Hid (∀ k, 0 < k → Z k ++ ⟨#[44]⟩ ++ hexT (iat X k) 2 = Z (k + 1)) := Lib.hid (fun k hk => by
    rw [hZ, hZ, ByteArray.append_assoc, ByteArray.append_assoc]
    show _ = _ ++ ((if k = 0 then seqT X k else seqT X k ++ ⟨#[44]⟩) ++ hexT (iat X k) 2)
    rw [if_neg (by omega), ByteArray.append_assoc])
  have HZn : Hid ((⟨#[70, 67, 66, 32]⟩ : ByteArray) ++ rawT X = Z n) := Lib.hid (by rw [hZ, hR])
  rw [HZn.out]
  clear hs hI hwf hlen hR hZ
  go_enter Tryd.func9, Tryd.ntmps9
  go_wp2_with fail
  refine (CS.out _).mono ?_
  rintro e w1 ⟨rfl, hb1⟩
  have HB1 := Lib.hid (Below.trans0 HB0.out hb1)
  clear hb1
  go_wp2
  rw [HZ0.out]
  go_loopw [7, 8] (fun u7 u8 wr => ∃ k : Nat, k ≤ n ∧ u8 = .int .i64 k ∧ u7 = .string (Z k) ∧ wr = w1) (fun _ u8 _ => n - (intOf u8).toNat)
  case atStart => exact ⟨0, Nat.zero_le _, rfl, rfl, rfl⟩
  case round =>
    obtain ⟨k, hk, rfl, rfl, rfl⟩ := hrel
    have k0 : (0 : Int) ≤ (k : Int) := by omega
    have hzk := HZs.out k
    have hqk := HQ.out k
    have y1 : ¬ 9223372036854775807 < (Z k).size + 1 := by omega
    have y2 : ¬ 9223372036854775807 < (Z k).size + 1 + (hexT (iat X k) 2).size := by omega
    have y3 : ¬ 9223372036854775807 < (Z k).size + (hexT (iat X k) 2).size := by omega
    by_cases hlt : k < n
    · have HI1 := HIx.out _ HB1.out
      obtain ⟨g, off, rfl, hg, hcell⟩ := HI1.2.2 (by omega)
      have hk1 := hcell k hlt
      have hlt' : (k : Int) < (n : Int) := by omega
      obtain ⟨z0, z1⟩ := HW.out k
      clear hcell HI1 hzk hqk
      by_cases hk0 : k = 0
      · subst hk0
        have HS := HZ1.out
        have CHk := Lib.hid (CH.out 0)
        have HSx := Lib.hid HS
        clear HS
        generalize hexT (iat X 0) 2 = T at *
        generalize iat X 0 = x at *
        have d1 : decide (0 < ((0 : Nat) : Int)) = false := by decide
        simp only [Nat.add_zero] at hk1
        go_wp2_with fail
        refine (CHk.out _).mono ?_
        rintro e w2 ⟨rfl, rfl⟩
        have hS := HSx.out
        go_wp2
        go_roundw
        case rel => exact ⟨1, by omega, by go_num, by first | rfl | rw [HSx.out], by first | rfl | trivial⟩
        case measure => simp [intOf]; omega
      · have d1 : decide (0 < (k : Int)) = true := decide_eq_true (by omega)
        have d2 : 0 < k := by omega
        have HSx := Lib.hid (HZk.out k d2)
        have CHk := Lib.hid (CH.out k)
        generalize hexT (iat X k) 2 = T at *
        generalize iat X k = x at *
        go_wp2_with fail
        refine (CHk.out _).mono ?_
        rintro e w2 ⟨rfl, rfl⟩
        go_wp2
        go_roundw
        case rel => exact ⟨k + 1, by omega, by go_num, by first | rfl | rw [HSx.out], by first | rfl | trivial⟩
        case measure => simp [intOf]; omega
    · obtain rfl : k = n := by omega
      go_wp2
      go_ret
      exact ⟨rfl, HB1.out⟩
theorem refText42_any (p c o m r v l a : Int) (b : Nat) (hb : b < 256) (X : List Int) (A : Option Addr) (n cap : Nat) (w : World) (hI : Ints .u8 w w.heap.size A n X) (hn : n ≤ 5) (l0 : 0 ≤ l) (l1 : l ≤ 100) (v0 : 0 ≤ v) (v1 : v < 65536) (a0 : 0 ≤ a) (a1 : a < 65536)
    (hv : m = 1 ∨ m = 3 → v < 256) :
    Calls Tryd.prog 9 #[.agg (iC p c o m r (b : Int) v l), .int .u16 a, .slice A n cap] w fun e w' => e = .returned (.string (textT o m r b v l a X)) ∧ Below w.heap.size w w' := by
  unfold textT
  cases hs : surI o m b
  · exact refTextRaw_any p c o m r v l a b hb X A n cap w hI hn hs
  rw [if_pos rfl]
  rcases (show m = 1 ∨ m = 2 ∨ m = 3 ∨ m = 4 ∨ m = 5 ∨ m = 6 ∨ m = 7 ∨ m = 8 ∨ m = 9 ∨ (m < 1 ∨ 9 < m) by omega) with rfl | rfl | rfl | rfl | rfl | rfl | rfl | rfl | rfl | h
  · exact refText1_any p c o r v l a b hb A n cap w l0 l1 v0 v1 a0 a1 (hv (.inl rfl)) hs
  · exact refText2_any p c o r v l a b hb A n cap w l0 l1 v0 v1 a0 a1 hs
  · exact refText3_any p c o r v l a b hb A n cap w l0 l1 v0 v1 a0 a1 (hv (.inr rfl)) hs
  · exact refText4_any p c o r v l a b hb A n cap w l0 l1 v0 v1 a0 a1 hs
  · exact refText5_any p c o r v l a b hb A n cap w l0 l1 v0 v1 a0 a1 hs
  · exact refText6_any p c o r v l a b hb A n cap w l0 l1 v0 v1 a0 a1 hs
  · exact refText7_any p c o r v l a b hb A n cap w l0 l1 v0 v1 a0 a1 hs
  · exact refText8_any p c o r v l a b hb A n cap w l0 l1 v0 v1 a0 a1 hs
  · exact refText9_any p c o r v l a b hb A n cap w l0 l1 v0 v1 a0 a1 hs
  · exact refText0_any p c o m r v l a b hb A n cap w l0 l1 v0 v1 a0 a1 h hs
end Go.Proofs.YtopkjniegncokaaDoor
namespace Go.Proofs.YtopkjniegncokaaDoor
open Go.ChangeShapes Go.WideShapes Go.ChangeAt Go.RowKit
set_option linter.unusedVariables false

def kindsM : List Int := [7, 8, 9, 10, 0, 5, 4, 0, 2, 3, 0, 6, 11, 12, 0, 13]
theorem kindsM_at : ∀ k : Fin 16, kindsM.getD k.val 0 = (kinds16 k.val : Int) := by decide +kernel
theorem kindsAt_of_one {W : World} (h1 : OneLaid Tryd.prog W "spinet/post.kinds" (Lib.tabData .i64 kindsM)) : KindsAt W := fun k hk => by
  have := h1.ints (g := 0) (t := 65) (e := 3) (n := 16) (by kernel_rfl) (by kernel_rfl) Tryd.underlying65 Tryd.underlying3 (by kernel_rfl) (by kernel_rfl) k hk
  rw [this, kindsM_at ⟨k, hk⟩]
theorem kindsAt_of_laid {W : World} (h : laidMetH Tryd.prog [("spinet/post.kinds", Lib.tabData .i64 kindsM)] W) : KindsAt W := by
  rw [MakeChecks.laidMetH_plain _ _ _ (by rfl)] at h
  obtain ⟨ps, h, _⟩ := h
  exact kindsAt_of_one (laidVars_cons h).1
end Go.Proofs.YtopkjniegncokaaDoor
namespace Go.Proofs.YtopkjniegncokaaDoor
open Go.ChangeShapes Go.WideShapes Go.ChangeAt Go.RowKit
set_option linter.unusedVariables false
theorem pagKinds_of_laid {W : World} (h : laidMetH Tryd.prog [("spinet/page.eights", Lib.tabData .i64 eightsL), ("spinet/page.changes", Lib.tabData .i64 changesL), ("spinet/page.tens", tab3 tensL), ("spinet/page.thirties", tab3 thirtiesL), ("spinet/post.kinds", Lib.tabData .i64 kindsM)] W) : PagAt W ∧ KindsAt W := by
  rw [MakeChecks.laidMetH_plain _ _ _ (by rfl)] at h
  obtain ⟨ps, h, _⟩ := h
  obtain ⟨h1, p1, h⟩ := laidVars_cons h
  obtain ⟨h2, p2, h⟩ := laidVars_cons h
  obtain ⟨h3, p3, h⟩ := laidVars_cons h
  obtain ⟨h4, p4, h⟩ := laidVars_cons h
  refine ⟨?_, kindsAt_of_one (laidVars_cons h).1⟩
  refine ⟨fun k hk => ?_, fun k hk => ?_, fun k hk => ?_, fun k hk => ?_⟩
  · have := h1.ints (g := 8) (t := 65) (e := 3) (n := 16) (by kernel_rfl) (by kernel_rfl) Tryd.underlying65 Tryd.underlying3 (by kernel_rfl) (by kernel_rfl) k hk
    rw [this, eightsL_at ⟨k, hk⟩]
  · have := h2.ints (g := 9) (t := 65) (e := 3) (n := 16) (by kernel_rfl) (by kernel_rfl) Tryd.underlying65 Tryd.underlying3 (by kernel_rfl) (by kernel_rfl) k hk
    rw [this, changesL_at ⟨k, hk⟩]
  · have := h3.tri (g := 5) (t := 139) (e := 25) (f := 3) (n := 16) (by kernel_rfl) (by kernel_rfl) Tryd.underlying139 Tryd.underlying25 (by kernel_rfl) rfl rfl rfl rfl rfl rfl Tryd.underlying3 (by kernel_rfl) k hk
    rw [getD_get tensL k (0, 0, 0) hk, tensL_at ⟨k, hk⟩] at this
    exact this
  · have := h4.tri (g := 6) (t := 139) (e := 25) (f := 3) (n := 16) (by kernel_rfl) (by kernel_rfl) Tryd.underlying139 Tryd.underlying25 (by kernel_rfl) rfl rfl rfl rfl rfl rfl Tryd.underlying3 (by kernel_rfl) k hk
    rw [getD_get thirtiesL k (0, 0, 0) hk, thirtiesL_at ⟨k, hk⟩] at this
    exact this
end Go.Proofs.YtopkjniegncokaaDoor
namespace Go.Proofs.YtopkjniegncokaaDoor
open Go.ChangeShapes Go.WideShapes Go.ChangeAt Go.RowKit
set_option linter.unusedVariables false

theorem take_range (xs : List Int) (k : Nat) (h : k ≤ xs.length) : xs.take k = (List.range k).map (iat xs) := by
  apply List.ext_getElem
  · simp; omega
  · intro i h1 h2
    simp at h1 h2
    rw [List.getElem_take, List.getElem_map, List.getElem_range, iat_eq _ _ (by omega)]
theorem iat_take (xs : List Int) (k i : Nat) (h : i < k) : iat (xs.take k) i = iat xs i := by
  unfold iat
  rw [List.getD_eq_getElem?_getD, List.getD_eq_getElem?_getD, List.getElem?_take, if_pos h]
theorem inL1_le (xs : List Int) : 1 ≤ inL1 xs ∧ inL1 xs ≤ inL2 xs ∧ inL2 xs ≤ inLn xs := by
  unfold inLn inL2
  refine ⟨?_, by omega, by omega⟩
  unfold inL1; split <;> omega
theorem in_agree {xs zs : List Int} (h : ∀ i, i < inLn xs → iat zs i = iat xs i) :
    inPg zs = inPg xs ∧ inCo zs = inCo xs ∧ inE zs = inE xs ∧ inPo zs = inPo xs ∧ inVa zs = inVa xs ∧ inLn zs = inLn xs := by
  obtain ⟨l1, l2, l3⟩ := inL1_le xs
  have h0 := h 0 (by omega)
  have hPg : inPg zs = inPg xs := by unfold inPg; rw [h0]
  have hL1 : inL1 zs = inL1 xs := by unfold inL1; rw [hPg]
  have hCo : inCo zs = inCo xs := by
    unfold inCo
    rw [hPg]
    by_cases hp : inPg xs = 1
    · rw [if_pos hp, if_pos hp, h0]
    · rw [if_neg hp, if_neg hp, h 1 (by
        have : inL1 xs = 2 := by unfold inL1; rw [if_neg hp]
        omega)]
  have hE : inE zs = inE xs := by unfold inE; rw [hPg, hCo]
  have hMd : inMd zs = inMd xs := by unfold inMd; rw [hE]
  have hL2 : inL2 zs = inL2 xs := by unfold inL2; rw [hL1, hMd]
  have hPo : inPo zs = inPo xs := by
    unfold inPo
    rw [hMd, hL1]
    cases hp : pstd (inMd xs)
    · rfl
    · rw [if_pos rfl, if_pos rfl, h _ (by
        have : inL2 xs = inL1 xs + 1 := by unfold inL2; rw [hp]; rfl
        omega)]
  have hN : inN zs = inN xs := by unfold inN; rw [hMd, hPo]
  have hLn : inLn zs = inLn xs := by unfold inLn; rw [hL2, hN]
  refine ⟨hPg, hCo, hE, hPo, ?_, hLn⟩
  unfold inVa
  rw [hN, hMd, hL2]
  by_cases n1 : inN xs = 1
  · rw [if_pos n1, if_pos n1, h _ (by unfold inLn; omega)]
  · rw [if_neg n1, if_neg n1]
    by_cases n2 : inN xs = 2
    · rw [if_pos n2, if_pos n2, h _ (by unfold inLn; omega), h _ (by unfold inLn; omega)]
    · rw [if_neg n2, if_neg n2]
theorem inN_le {xs : List Int} (h : ∀ z ∈ xs, (Lit.int .u8 z).wf = true) : inN xs ≤ 2 := by
  have hp := inPo_range h
  exact shN_le _ _ (inMd_le h) ⟨hp.1, hp.2⟩
theorem signOf_mod (x : Int) (h0 : 0 ≤ x) (h1 : x < 256) : signOf x % 256 = x := by unfold signOf; split <;> omega
/-- What bytes say is written as these bytes. -/
theorem put_take {xs : List Int} (h : ∀ z ∈ xs, (Lit.int .u8 z).wf = true) (hok : inOk xs = true) :
    putX (inPg xs : Int) (inCo xs) (eMode (inE xs)) (inPo xs).toNat (inVa xs) = xs.take (inLn xs) := by
  have hle : inLn xs ≤ xs.length := of_decide_eq_true hok
  rw [take_range _ _ hle]
  have hpo := inPo_range h
  have hpo' : (((inPo xs).toNat : Nat) : Int) = inPo xs := by omega
  have hr := fun k => iat_range8' h k
  have hA : (inL1 xs = 1 ∧ putA (inPg xs : Int) ++ [inCo xs] = [iat xs 0]) ∨ (inL1 xs = 2 ∧ putA (inPg xs : Int) ++ [inCo xs] = [iat xs 0, iat xs 1]) := by
    unfold inL1 inCo inPg putA
    by_cases h16 : iat xs 0 = 16
    · right; rw [if_pos h16]; simp [h16]
    · by_cases h17 : iat xs 0 = 17
      · right; rw [if_neg h16, if_pos h17]; simp [h17]
      · left; rw [if_neg h16, if_neg h17]; simp
  have hB : (inL2 xs = inL1 xs ∧ putB (eMode (inE xs)) (inPo xs) = []) ∨ (inL2 xs = inL1 xs + 1 ∧ putB (eMode (inE xs)) (inPo xs) = [iat xs (inL1 xs)]) := by
    unfold inL2 putB inPo inMd
    rw [pstdI_nat]
    cases pstd (eMode (inE xs))
    · left; simp
    · right; simp
  have hw : widI (eMode (inE xs) : Int) (inPo xs).toNat = inN xs := by
    have h2 := widI_nat (eMode (inE xs)) (inPo xs).toNat (inMd_le h)
    rw [h2, hpo']; rfl
  have hC : (inN xs = 0 ∧ putC (eMode (inE xs)) (inPo xs).toNat (inVa xs) = []) ∨ (inN xs = 1 ∧ putC (eMode (inE xs)) (inPo xs).toNat (inVa xs) = [iat xs (inL2 xs)]) ∨ (inN xs = 2 ∧ putC (eMode (inE xs)) (inPo xs).toNat (inVa xs) = [iat xs (inL2 xs), iat xs (inL2 xs + 1)]) := by
    have hn := inN_le h
    unfold putC
    rw [hw]
    have r1 := hr (inL2 xs)
    have r2 := hr (inL2 xs + 1)
    rcases (show inN xs = 0 ∨ inN xs = 1 ∨ inN xs = 2 by omega) with hn | hn | hn
    · left; rw [hn]; simp
    · right; left
      refine ⟨hn, ?_⟩
      unfold inVa
      rw [if_pos hn, if_pos hn]
      congr 1
      split
      · exact signOf_mod _ r1.1 r1.2
      · omega
    · right; right
      refine ⟨hn, ?_⟩
      unfold inVa
      rw [hn, if_neg (by decide), if_pos rfl, if_neg (by decide), if_pos rfl]
      congr 1
      · omega
      · congr 1; omega
  unfold putX
  rw [hpo', show inLn xs = inL2 xs + inN xs from rfl]
  rcases hA with ⟨a1, a2⟩ | ⟨a1, a2⟩ <;> rcases hB with ⟨b1, b2⟩ | ⟨b1, b2⟩ <;> rcases hC with ⟨c1, c2⟩ | ⟨c1, c2⟩ | ⟨c1, c2⟩
  all_goals
    rw [a2, b2, c2, b1, c1, a1]
    rfl
theorem insEq_self (p c o m r b v l : Int) : insEq p c o m r b v l p c o m r b v l = true := by unfold insEq; simp
theorem putOk_self {xs : List Int} (h : ∀ z ∈ xs, (Lit.int .u8 z).wf = true) (hok : inOk xs = true) :
    putOk (inPg xs : Int) (inCo xs) (eOp (inE xs)) (eMode (inE xs)) (eReg (inE xs)) (inPo xs).toNat (inVa xs) (inLn xs : Int) (xs.take (inLn xs)) = true := by
  have hle : inLn xs ≤ xs.length := of_decide_eq_true hok
  obtain ⟨h1, h2, h3, h4, h5, h6⟩ := in_agree (xs := xs) (zs := xs.take (inLn xs)) (fun i hi => iat_take _ _ _ hi)
  have hpo := inPo_range h
  have hpo' : (((inPo xs).toNat : Nat) : Int) = inPo xs := by omega
  unfold putOk
  rw [h1, h2, h3, h4, h5, h6, hpo', insEq_self, Bool.and_true]
  unfold inOk
  rw [h6, List.length_take]
  exact decide_eq_true (by omega)
theorem hasPre_take (xs : List Int) (k : Nat) (h : k ≤ xs.length) : hasPre xs (xs.take k) = true := by
  unfold hasPre
  rw [List.length_take, Nat.min_eq_left h, beq_self_eq_true, Bool.and_true]
  exact decide_eq_true h
set_option maxRecDepth 100000 in
set_option maxHeartbeats 1000000 in
theorem eql_ins (w : World) (p c o m r b v l p' c' o' m' r' b' v' l' : Int) :
    (binOp .eql 27 (.agg #[.int .i64 p, .int .u8 c, .int .i64 o, .int .i64 m, .int .i64 r, .int .u8 b, .int .u16 v, .int .i64 l]) (.agg #[.int .i64 p', .int .u8 c', .int .i64 o', .int .i64 m', .int .i64 r', .int .u8 b', .int .u16 v', .int .i64 l'])).run Tryd.prog w = .ok (.bool (insEq p c o m r b v l p' c' o' m' r' b' v' l')) w := by
  unfold insEq
  by_cases h1 : p = p'
  · subst h1
    by_cases h2 : c = c'
    · subst h2
      by_cases h3 : o = o'
      · subst h3
        by_cases h4 : m = m'
        · subst h4
          by_cases h5 : r = r'
          · subst h5
            by_cases h6 : b = b'
            · subst h6
              by_cases h7 : v = v'
              · subst h7
                by_cases h8 : l = l'
                · subst h8
                  go_simp
                · have e : (l == l') = false := by simpa using h8
                  go_simp
              · have e : (v == v') = false := by simpa using h7
                go_simp
            · have e : (b == b') = false := by simpa using h6
              go_simp
          · have e : (r == r') = false := by simpa using h5
            go_simp
        · have e : (m == m') = false := by simpa using h4
          go_simp
      · have e : (o == o') = false := by simpa using h3
        go_simp
    · have e : (c == c') = false := by simpa using h2
      go_simp
  · have e : (p == p') = false := by simpa using h1
    go_simp
end Go.Proofs.YtopkjniegncokaaDoor
namespace Go.Proofs.YtopkjniegncokaaDoor
open Go.ChangeShapes Go.WideShapes Go.ChangeAt Go.RowKit
set_option linter.unusedVariables false
theorem DisAt.of_laid {W : World} (h : laidMetH Tryd.prog [("spinet/cond.names", strData cndNames), ("spinet/page.eights", Lib.tabData .i64 eightsL), ("spinet/page.changes", Lib.tabData .i64 changesL), ("spinet/page.tens", tab3 tensL), ("spinet/page.thirties", tab3 thirtiesL), ("spinet/post.kinds", Lib.tabData .i64 kindsM), ("spinet/ops.registers", strData regNames), ("spinet/ops.stems", strData stemNames), ("spinet/lists.registers", Lib.tabData .i64 lregL)] W) (hS : W.ShapedOpen Tryd.prog) : DisAt W := by
  rw [MakeChecks.laidMetH_plain _ _ _ (by rfl)] at h
  obtain ⟨ps, h, _⟩ := h
  obtain ⟨h1, p1, h⟩ := laidVars_cons h
  obtain ⟨h2, p2, h⟩ := laidVars_cons h
  obtain ⟨h3, p3, h⟩ := laidVars_cons h
  obtain ⟨h4, p4, h⟩ := laidVars_cons h
  obtain ⟨h5, p5, h⟩ := laidVars_cons h
  obtain ⟨h6, p6, h⟩ := laidVars_cons h
  obtain ⟨h7, p7, h⟩ := laidVars_cons h
  obtain ⟨h8, p8, h⟩ := laidVars_cons h
  obtain ⟨h9, p9, h⟩ := laidVars_cons h
  have hO : OregAt W := fun k hk => by
    have hlen : regNames.length = 12 := rfl
    have := h7.strs (g := 2) (t := 86) (e := 9) (n := 12) (by kernel_rfl) (by kernel_rfl) Tryd.underlying86 Tryd.underlying9 (by kernel_rfl) (by kernel_rfl) k (by omega)
    rw [this]
    unfold regS
    rw [List.getD_eq_getElem?_getD, List.getElem?_eq_getElem (by omega)]; rfl
  refine ⟨⟨hO, fun k hk => ?_, fun k hk => ?_, ?_⟩, ⟨hO, fun k hk => ?_⟩, ⟨fun k hk => ?_, fun k hk => ?_, fun k hk => ?_, fun k hk => ?_⟩, kindsAt_of_one h6⟩
  · have hlen : cndNames.length = 16 := rfl
    have := h1.strs (g := 4) (t := 130) (e := 9) (n := 16) (by kernel_rfl) (by kernel_rfl) Tryd.underlying130 Tryd.underlying9 (by kernel_rfl) (by kernel_rfl) k (by omega)
    rw [this, List.getD_eq_getElem?_getD, List.getElem?_eq_getElem (by omega)]; rfl
  · have hlen : stemNames.length = 52 := rfl
    have := h8.strs (g := 1) (t := 73) (e := 9) (n := 52) (by kernel_rfl) (by kernel_rfl) Tryd.underlying73 Tryd.underlying9 (by kernel_rfl) (by kernel_rfl) k (by omega)
    rw [this, List.getD_eq_getElem?_getD, List.getElem?_eq_getElem (by omega)]; rfl
  · exact cell_of_shapedOpen_int (P := Tryd.prog) (g := 7) (t := 3) (zero := #[.int .i64 0]) hS (of_decide_eq_true (by kernel_rfl)) (by kernel_rfl) rfl (by kernel_rfl) (by kernel_rfl) Tryd.underlying3
  · have := h9.ints (g := 3) (t := 115) (e := 3) (n := 8) (by kernel_rfl) (by kernel_rfl) Tryd.underlying115 Tryd.underlying3 (by kernel_rfl) (by kernel_rfl) k hk
    rw [this, lregL_at ⟨k, hk⟩]
  · have := h2.ints (g := 8) (t := 65) (e := 3) (n := 16) (by kernel_rfl) (by kernel_rfl) Tryd.underlying65 Tryd.underlying3 (by kernel_rfl) (by kernel_rfl) k hk
    rw [this, eightsL_at ⟨k, hk⟩]
  · have := h3.ints (g := 9) (t := 65) (e := 3) (n := 16) (by kernel_rfl) (by kernel_rfl) Tryd.underlying65 Tryd.underlying3 (by kernel_rfl) (by kernel_rfl) k hk
    rw [this, changesL_at ⟨k, hk⟩]
  · have := h4.tri (g := 5) (t := 139) (e := 25) (f := 3) (n := 16) (by kernel_rfl) (by kernel_rfl) Tryd.underlying139 Tryd.underlying25 (by kernel_rfl) rfl rfl rfl rfl rfl rfl Tryd.underlying3 (by kernel_rfl) k hk
    rw [getD_get tensL k (0, 0, 0) hk, tensL_at ⟨k, hk⟩] at this
    exact this
  · have := h5.tri (g := 6) (t := 139) (e := 25) (f := 3) (n := 16) (by kernel_rfl) (by kernel_rfl) Tryd.underlying139 Tryd.underlying25 (by kernel_rfl) rfl rfl rfl rfl rfl rfl Tryd.underlying3 (by kernel_rfl) k hk
    rw [getD_get thirtiesL k (0, 0, 0) hk, thirtiesL_at ⟨k, hk⟩] at this
    exact this
theorem agA : inAgg [166, 132] = iC 1 166 11 4 8 132 0 2 ∧ inOk [166, 132] = true := ⟨by kernel_rfl, by decide +kernel⟩
theorem agB : inAgg [32, 254] = iC 1 32 34 6 0 0 65534 2 ∧ inOk [32, 254] = true := ⟨by kernel_rfl, by decide +kernel⟩
theorem wfA : ∀ z ∈ ([166, 132] : List Int), (Lit.int .u8 z).wf = true := by decide
theorem wfB : ∀ z ∈ ([32, 254] : List Int), (Lit.int .u8 z).wf = true := by decide
theorem hex4096 : hexT 4096 4 = ⟨#[36, 49, 48, 48, 48]⟩ := by
  unfold hexT hexD
  rw [written_eq (m := 4) (by decide) ⟨by decide, by decide +kernel, .inl rfl⟩]
  decide +kernel
theorem txA : textT 11 4 8 132 0 2 0 (putX 1 166 4 132 0) = ⟨#[76, 68, 65, 32, 44, 88]⟩ := by
  unfold textT
  rw [if_pos (by decide +kernel)]
  have e : oprT 4 8 132 0 2 0 = ⟨#[44, 88]⟩ := by
    unfold oprT
    decide +kernel
  rw [e]
  unfold lineT nmT
  decide +kernel
theorem txB : textT 34 6 0 0 65534 2 4096 (putX 1 32 6 0 65534) = ⟨#[66, 82, 65, 32, 36, 49, 48, 48, 48]⟩ := by
  unfold textT
  rw [if_pos (by decide +kernel)]
  have e : oprT 6 0 0 65534 2 4096 = ⟨#[36, 49, 48, 48, 48]⟩ := by
    unfold oprT
    have ht : tgtI 6 2 65534 4096 = 4096 := by decide +kernel
    rw [ht]
    simp (decide := true) only [↓reduceIte]
    exact hex4096
  rw [e]
  unfold lineT nmT
  decide +kernel
theorem list_iat (X : List Int) (h : ∀ z ∈ X, 0 ≤ z ∧ z < 256) : ∀ k, 0 ≤ iat X k ∧ iat X k < 256 := by
  intro k
  unfold iat
  rw [List.getD_eq_getElem?_getD]
  cases hk : X[k]? with
  | none => simp
  | some z => exact h z (List.mem_of_getElem? hk)
set_option maxRecDepth 100000 in
set_option maxHeartbeats 2000000 in
theorem alive42 (w : World) (hD : DisAt w) : Calls Tryd.prog 15 #[] w fun e w' => e = .returned (.bool true) ∧ Below w.heap.size w w' := by
  have hb0 := Below.alloc0 (Below.refl w.heap.size w) (Obj.cells #[.int .u8 166, .int .u8 132] 5)
  have HB0 := Lib.hid hb0
  have C1 := of18_any (some ⟨w.heap.size, 0, none⟩) 2 2 [166, 132] _ (ints_blk18 (xs := [166, 132]) (Blk.new w 5 _ (0, 0)) wfA 2 rfl) (by intro h; cases h) (by decide)
  rw [agA.1, agA.2] at C1
  have CA := Lib.hid C1
  have CB : Hid (∀ (u : World) (g : Nat), u.heap.size = g → Calls Tryd.prog 5 #[.slice (some ⟨g, 0, none⟩) 2 2] (u.alloc (Obj.cells #[.int .u8 32, .int .u8 254] 5)) fun e w' => e = .returned (.tuple #[.agg (inAgg [32, 254]), .bool (inOk [32, 254])]) ∧ Below (u.alloc (Obj.cells #[.int .u8 32, .int .u8 254] 5)).heap.size (u.alloc (Obj.cells #[.int .u8 32, .int .u8 254] 5)) w') := Lib.hid (fun u g hg => by
    subst hg
    exact of18_any (some ⟨u.heap.size, 0, none⟩) 2 2 [32, 254] _ (ints_blk18 (xs := [32, 254]) (Blk.new u 5 _ (0, 0)) wfB 2 rfl) (by intro h; cases h) (by decide))
  rw [agB.1, agB.2] at CB
  have HDx := Lib.hid (fun wx (hb : Below w.heap.size w wx) => hD.below hb)
  have T1 := Lib.hid (fun u h => disText_any 1 166 11 4 8 0 2 0 132 (by decide) (by decide) (by decide) u (by decide) (by decide) (by decide) (by decide) (by decide) (by decide) h (by decide +kernel) (list_iat _ (by decide +kernel)))
  have T2 := Lib.hid (fun u h => disText_any 1 32 34 6 0 65534 2 4096 0 (by decide) (by decide) (by decide) u (by decide) (by decide) (by decide) (by decide) (by decide) (by decide) h (by decide +kernel) (list_iat _ (by decide +kernel)))
  rw [txA] at T1
  rw [txB] at T2
  have q1 : ((⟨#[76, 68, 65, 32, 44, 88]⟩ : ByteArray).toList == (⟨#[76, 68, 65, 32, 44, 88]⟩ : ByteArray).toList) = true := by simp
  have q2 : ((⟨#[66, 82, 65, 32, 36, 49, 48, 48, 48]⟩ : ByteArray).toList == (⟨#[66, 82, 65, 32, 36, 49, 48, 48, 48]⟩ : ByteArray).toList) = true := by simp
  clear hD hb0 C1
  go_enter Tryd.func15, Tryd.ntmps15
  go_wp2_with fail
  refine CA.out.mono ?_
  rintro e w1 ⟨rfl, hb1⟩
  have HB1 := Lib.hid (Below.alloc0 (Below.trans0 HB0.out hb1) (Obj.cells (iC 1 166 11 4 8 132 0 2) 27))
  have HS1 := Lib.hid (Blk.new w1 27 (iC 1 166 11 4 8 132 0 2) (0, 0))
  have HBa := Lib.hid (Below.alloc0 HB1.out (Obj.cells #[.int .u8 32, .int .u8 254] 5))
  have HSa := Lib.hid (Blk.alloc HS1.out (Obj.cells #[.int .u8 32, .int .u8 254] 5))
  clear hb1
  go_wp2_with fail
  refine (CB.out _ _ (by simp)).mono ?_
  rintro e w2 ⟨rfl, hb2⟩
  have HB2 := Lib.hid (Below.alloc0 (Below.trans0 HBa.out hb2) (Obj.cells (iC 1 32 34 6 0 0 65534 2) 27))
  have HS2 := Lib.hid (Blk.alloc (Blk.below HSa.out hb2 HSa.out.lt) (Obj.cells (iC 1 32 34 6 0 0 65534 2) 27))
  have HK2 := Lib.hid (Blk.new w2 27 (iC 1 32 34 6 0 0 65534 2) (0, 0))
  clear hb2
  obtain ⟨c0, c1, c2, c3, c4, c5, c6, c7⟩ := HS2.out.s8
  obtain ⟨d0, d1, d2, d3, d4, d5, d6, d7⟩ := HK2.out.s8
  go_wp2_with fail
  refine (T1.out _ (HDx.out _ HB2.out)).mono ?_
  rintro e w3 ⟨rfl, hb3⟩
  have HB3 := Lib.hid (Below.trans0 HB2.out hb3)
  have HK3 := Lib.hid (Blk.below HK2.out hb3 HK2.out.lt)
  clear hb3 c0 c1 c2 c3 c4 c5 c6 c7 d0 d1 d2 d3 d4 d5 d6 d7
  obtain ⟨d0, d1, d2, d3, d4, d5, d6, d7⟩ := HK3.out.s8
  go_wp2_with fail
  refine (T2.out _ (HDx.out _ HB3.out)).mono ?_
  rintro e w4 ⟨rfl, hb4⟩
  have HB4 := Lib.hid (Below.trans0 HB3.out hb4)
  clear hb4 d0 d1 d2 d3 d4 d5 d6 d7
  go_wp2
  go_ret
  exact ⟨rfl, HB4.out⟩
end Go.Proofs.YtopkjniegncokaaDoor
namespace Go.Proofs.YtopkjniegncokaaDoor
open Go.ChangeShapes Go.WideShapes Go.ChangeAt Go.RowKit
set_option linter.unusedVariables false
theorem va_small {xs : List Int} (h : ∀ z ∈ xs, (Lit.int .u8 z).wf = true) (hm : (eMode (inE xs) : Int) = 1 ∨ (eMode (inE xs) : Int) = 3) : inVa xs < 256 := by
  have hr := iat_range8' h (inL2 xs)
  have hN : inN xs = 1 ∧ shS (inMd xs) = false := by
    unfold inN inMd
    rcases hm with hm | hm
    · have e : eMode (inE xs) = 1 := by omega
      rw [e]; exact ⟨rfl, rfl⟩
    · have e : eMode (inE xs) = 3 := by omega
      rw [e]; exact ⟨rfl, rfl⟩
  unfold inVa
  rw [if_pos hN.1, hN.2]
  exact hr.2
theorem va_range {xs : List Int} (h : ∀ z ∈ xs, (Lit.int .u8 z).wf = true) : 0 ≤ inVa xs ∧ inVa xs < 65536 := by
  have r1 := iat_range8' h (inL2 xs)
  have r2 := iat_range8' h (inL2 xs + 1)
  unfold inVa signOf
  split
  · split
    · split <;> omega
    · omega
  · split <;> omega
set_option maxRecDepth 100000 in
set_option maxHeartbeats 8000000 in
theorem law_disTexts (A : Option Addr) (n cap : Nat) (xs : List Int) (a : Int) (a0 : 0 ≤ a) (a1 : a < 65536) (w : World) (hI : Ints .u8 w w.heap.size A n xs) (hA : A = none → n = 0 ∧ cap = 0) (hn : n ≤ cap) (hq : n ≤ 140737488351232) (hD : DisAt w) :
    Calls Tryd.prog 3 #[.slice A n cap, .int .u16 a] w fun e w' => e = .returned (.bool true) ∧ Below w.heap.size w w' := by
  have C2 := of18_any A n cap xs w hI hA hq
  cases hok : inOk xs
  · have hag : inAgg xs = zInst := by unfold inAgg; rw [hok]; rfl
    rw [hag, hok] at C2
    have CO := Lib.hid C2
    clear hag hok hI hA hq C2 hD hn
    by_cases hlen : 20 < n
    · have d1 : decide ((20 : Int) < (n : Int)) = true := decide_eq_true (by omega)
      have d2 : decide (20 < n) = true := decide_eq_true hlen
      clear hlen
      go_enter Tryd.func3, Tryd.ntmps3
      go_wp2_with fail
      refine CO.out.mono ?_
      rintro e w1 ⟨rfl, hb1⟩
      have HB1 := Lib.hid (Below.alloc0 hb1 (Obj.cells zInst 27))
      clear hb1
      go_wp2
      go_ret
      exact ⟨rfl, HB1.out⟩
    · have d1 : decide ((20 : Int) < (n : Int)) = false := decide_eq_false (by omega)
      have d2 : decide (20 < n) = false := decide_eq_false hlen
      clear hlen
      go_enter Tryd.func3, Tryd.ntmps3
      go_wp2_with fail
      refine CO.out.mono ?_
      rintro e w1 ⟨rfl, hb1⟩
      have HB1 := Lib.hid (Below.alloc0 hb1 (Obj.cells zInst 27))
      clear hb1
      go_wp2
      go_ret
      exact ⟨rfl, HB1.out⟩
  have hag : inAgg xs = iC (inPg xs : Int) (inCo xs) (eOp (inE xs)) (eMode (inE xs)) (eReg (inE xs)) (inPo xs) (inVa xs) (inLn xs : Int) := by unfold inAgg insC; rw [if_pos hok]
  have hpo := inPo_range hI.2.1
  have hpt := put_take hI.2.1 hok
  have hpk := putOk_self hI.2.1 hok
  have hle : inLn xs ≤ n := by have := of_decide_eq_true hok; rw [hI.1] at this; exact this
  obtain ⟨b, hb⟩ : ∃ b : Nat, (inPo xs).toNat = b := ⟨_, rfl⟩
  have hbi : inPo xs = (b : Int) := by omega
  have hb256 : b < 256 := by omega
  rw [hb] at hpt hpk
  rw [hbi] at hag
  by_cases hlen : 20 < n
  · have d1 : decide ((20 : Int) < (n : Int)) = true := decide_eq_true (by omega)
    have d2 : decide (20 < n) = true := decide_eq_true hlen
    rw [hag, hok] at C2
    generalize (inPg xs : Int) = p at C2
    generalize inCo xs = co at C2
    generalize (eOp (inE xs) : Int) = o at C2
    generalize (eMode (inE xs) : Int) = m at C2
    generalize (eReg (inE xs) : Int) = r at C2
    generalize inVa xs = va at C2
    generalize (inLn xs : Int) = ln at C2
    have CO := Lib.hid C2
    clear hag hok hI hA hq C2 hD hn hlen hpo hpt hpk hle hb hbi hb256
    go_enter Tryd.func3, Tryd.ntmps3
    go_wp2_with fail
    refine CO.out.mono ?_
    rintro e w1 ⟨rfl, hb1⟩
    have HB1 := Lib.hid (Below.alloc0 hb1 (Obj.cells (iC p co o m r (b : Int) va ln) 27))
    clear hb1
    go_wp2
    go_ret
    exact ⟨rfl, HB1.out⟩
  have d1 : decide ((20 : Int) < (n : Int)) = false := decide_eq_false (by omega)
  have d2 : decide (20 < n) = false := decide_eq_false hlen
  have hco := inCo_range hI.2.1
  have hva := va_range hI.2.1
  have hvs := va_small hI.2.1
  have hl1 := inL1_le xs
  have hXl : (xs.take (inLn xs)).length = inLn xs := by rw [List.length_take, hI.1]; omega
  have hX5 : inLn xs ≤ 5 := by rw [← hXl, ← hpt]; have := putX_len (inPg xs : Int) (inCo xs) (eMode (inE xs)) b (inVa xs); omega
  have hwT : ∀ z ∈ xs.take (inLn xs), (Lit.int .u8 z).wf = true := fun z hz => hI.2.1 z (List.mem_of_mem_take hz)
  have CT0 := fun u h => disText_any (inPg xs : Int) (inCo xs) (eOp (inE xs)) (eMode (inE xs)) (eReg (inE xs)) (inVa xs) (inLn xs : Int) a b hb256 hco.1 hco.2 u (by omega) (by omega) hva.1 hva.2 a0 a1 h (by rw [hpt]; exact hpk) (by rw [hpt]; exact iat_range8' hwT)
  rw [hpt] at CT0
  have CT := Lib.hid CT0
  have CR := Lib.hid (fun wx (hb : Below w.heap.size w wx) => refText42_any (inPg xs : Int) (inCo xs) (eOp (inE xs)) (eMode (inE xs)) (eReg (inE xs)) (inVa xs) (inLn xs : Int) a b hb256 (xs.take (inLn xs)) A (inLn xs) cap wx ((hI.below hb.size hb).take_ _ hle) hX5 (by omega) (by omega) hva.1 hva.2 a0 a1 hvs)
  have CS1 := Lib.hid (fun u (h : DisAt u) => disSure_any (inPg xs : Int) (inCo xs) (eOp (inE xs)) (eMode (inE xs)) (eReg (inE xs)) (inVa xs) (inLn xs : Int) b hb256 u h.2.2.2)
  have CS2 := Lib.hid (fun u => refSure42_any (inPg xs : Int) (inCo xs) (eOp (inE xs)) (eMode (inE xs)) (eReg (inE xs)) (inVa xs) (inLn xs : Int) b hb256 u)
  obtain ⟨x0, x1⟩ := iat_range8' hI.2.1 0
  have CB1 := Lib.hid (fun u => disByte_any (iat xs 0) u x0 x1)
  have CB2 : Hid (∀ u, Calls Tryd.prog 11 #[.int .i64 (iat xs 0), .int .i64 2] u fun e w' => e = .returned (.string (hexT (iat xs 0) 2)) ∧ u = w') := Lib.hid (fun u => refHex42_any (iat xs 0) 2 u x0 (by omega) (by omega) (by omega))
  have CW1 := Lib.hid (fun u => disWord_any a u a0 a1)
  have CW2 : Hid (∀ u, Calls Tryd.prog 11 #[.int .i64 a, .int .i64 4] u fun e w' => e = .returned (.string (hexT a 4)) ∧ u = w') := Lib.hid (fun u => refHex42_any a 4 u a0 a1 (by omega) (by omega))
  have CG1 := Lib.hid (fun u (h : DisAt u) => disReg_any (iat xs 0 % 16) u (by omega) (by omega) h.1.1)
  have CG2 := Lib.hid (fun u => refReg42_any (iat xs 0 % 16) u (by omega) (by omega))
  have CA := Lib.hid (fun u (h : DisAt u) => alive42 u h)
  have HDx := Lib.hid (fun wx (hb : Below w.heap.size w wx) => hD.below hb)
  obtain ⟨ba, off, rfl, hba, hcell⟩ := hI.2.2 (by omega)
  have hc0 := hcell 0 (by omega)
  have HC0 : Hid (w.cell? ⟨ba, off, none⟩ = some (.int .u8 (iat xs 0)) ∧ ba < w.heap.size) := Lib.hid ⟨by have := hc0; simpa using this, hba⟩
  rw [hag, hok] at C2
  have l0 : (0 : Int) ≤ (inLn xs : Int) := by omega
  have l1 : (inLn xs : Int) ≤ (cap : Int) := by omega
  have l1n : inLn xs ≤ cap := by omega
  have l2 : (0 : Int) < (n : Int) := by omega
  have l5 : (inLn xs : Int) ≤ 5 := by omega
  have l3 : 0 < n := by omega
  generalize textT (eOp (inE xs) : Int) (eMode (inE xs) : Int) (eReg (inE xs) : Int) b (inVa xs) (inLn xs : Int) a (xs.take (inLn xs)) = T at CT CR
  generalize surI (eOp (inE xs) : Int) (eMode (inE xs) : Int) b = F at CS1 CS2
  generalize inLn xs = ln at C2 CT CR CS1 CS2 l0 l1 l1n l5
  generalize (inPg xs : Int) = p at C2 CT CR CS1 CS2
  generalize inCo xs = co at C2 CT CR CS1 CS2
  generalize (eOp (inE xs) : Int) = o at C2 CT CR CS1 CS2
  generalize (eMode (inE xs) : Int) = m at C2 CT CR CS1 CS2
  generalize (eReg (inE xs) : Int) = r at C2 CT CR CS1 CS2
  generalize inVa xs = va at C2 CT CR CS1 CS2
  generalize iat xs 0 = x at CB1 CB2 CG1 CG2 HC0 x0 x1
  have xm : x.tmod 16 = x % 16 := Int.tmod_eq_emod_of_nonneg x0
  have xw : IntKind.u8.wrap (x % 16) = x % 16 := by rw [IntKind.wrap_u8]; omega
  have xi : IntKind.i64.wrap (x % 16) = x % 16 := IntWalk.i64_in _ (by omega)
  have xj : IntKind.i64.wrap x = x := IntWalk.i64_in _ (by omega)
  have aj : IntKind.i64.wrap a = a := IntWalk.i64_in _ (by omega)
  have lj : IntKind.i64.wrap (ln : Int) = (ln : Int) := IntWalk.i64_in _ (by omega)
  generalize x % 16 = y at CG1 CG2 xm xw xi
  generalize hexT x 2 = H2 at CB1 CB2
  generalize hexT a 4 = H4 at CW1 CW2
  generalize regT y = GT at CG1 CG2
  have qF : (F == F) = true := by simp
  have qT : (T.toList == T.toList) = true := by simp
  have q2 : (H2.toList == H2.toList) = true := by simp
  have q4 : (H4.toList == H4.toList) = true := by simp
  have qG : (GT.toList == GT.toList) = true := by simp
  have CO := Lib.hid C2
  clear l5
  clear hag hok hI hA hq C2 hD hn hlen hpo hpt hpk hle hb hbi hco hva hvs hl1 hXl hX5 hwT CT0 hcell hc0 hba
  go_enter Tryd.func3, Tryd.ntmps3
  go_wp2_with fail
  refine CO.out.mono ?_
  rintro e w1 ⟨rfl, hb1⟩
  have HB1 := Lib.hid (Below.alloc0 hb1 (Obj.cells (iC p co o m r (b : Int) va (ln : Int)) 27))
  have HS1 := Lib.hid (Blk.new w1 27 (iC p co o m r (b : Int) va (ln : Int)) (0, 0))
  clear hb1
  go_upto_region 4 with (fail)
  obtain ⟨g, hg⟩ : ∃ g, w1.heap.size = g := ⟨_, rfl⟩
  rw [hg] at HS1 ⊢
  generalize w1.alloc (Obj.cells (iC p co o m r (b : Int) va (ln : Int)) 27) = W1 at HB1 HS1 ⊢
  clear hg
  have S0 : Hid (∀ wx, Below W1.heap.size W1 wx → (fun w' : World => w'.cell? ⟨g, 0, none⟩ = some (.int .i64 p) ∧ w'.cell? ⟨g, 1, none⟩ = some (.int .u8 co) ∧ w'.cell? ⟨g, 2, none⟩ = some (.int .i64 o) ∧ w'.cell? ⟨g, 3, none⟩ = some (.int .i64 m) ∧ w'.cell? ⟨g, 4, none⟩ = some (.int .i64 r) ∧ w'.cell? ⟨g, 5, none⟩ = some (.int .u8 (b : Int)) ∧ w'.cell? ⟨g, 6, none⟩ = some (.int .u16 va) ∧ w'.cell? ⟨g, 7, none⟩ = some (.int .i64 (ln : Int)) ∧ w'.cell? ⟨ba, off, none⟩ = some (.int .u8 x)) wx) := Lib.hid (fun wx hb => by
    have hs := (Blk.below HS1.out hb HS1.out.lt).s8
    have hx := (HB1.out.cell (p := ⟨ba, off, none⟩) HC0.out.2).trans HC0.out.1
    have hx2 := (hb.cell (p := ⟨ba, off, none⟩) (by have := HB1.out.size; have := HC0.out.2; show ba < _; omega)).trans hx
    exact ⟨hs.1, hs.2.1, hs.2.2.1, hs.2.2.2.1, hs.2.2.2.2.1, hs.2.2.2.2.2.1, hs.2.2.2.2.2.2.1, hs.2.2.2.2.2.2.2, hx2⟩)
  have B0 := Lib.hid (Below.drew0 (Below.refl W1.heap.size W1))
  have SK := Lib.hid (S0.out _ B0.out)
  refine wp_region_noPanic ?_
  refine wp_region_held_drew (S := (fun w' : World => w'.cell? ⟨g, 0, none⟩ = some (.int .i64 p) ∧ w'.cell? ⟨g, 1, none⟩ = some (.int .u8 co) ∧ w'.cell? ⟨g, 2, none⟩ = some (.int .i64 o) ∧ w'.cell? ⟨g, 3, none⟩ = some (.int .i64 m) ∧ w'.cell? ⟨g, 4, none⟩ = some (.int .i64 r) ∧ w'.cell? ⟨g, 5, none⟩ = some (.int .u8 (b : Int)) ∧ w'.cell? ⟨g, 6, none⟩ = some (.int .u16 va) ∧ w'.cell? ⟨g, 7, none⟩ = some (.int .i64 (ln : Int)) ∧ w'.cell? ⟨ba, off, none⟩ = some (.int .u8 x))) (by kernel_rfl) ?_ (fun hH0 => ?_)
  · (try dsimp only); with_reducible exact SK.out
  refine wpAnyH_take (i := 0) (oi := ({ dst := some 19, op := Op.load 27 (Operand.tmp 5), type := 27, pos := "law.go:27", after := #[], guard := none } : Oper)) (v := ?_) rfl (by kernel_rfl) (by kernel_rfl) (by kernel_rfl) (fun _ _ _ h => h) (Or.inl ⟨by rfl, ?_⟩) (by assumption) ?_
  rotate_left 1
  · (intro w hSw; (try dsimp only at hSw); go_simp; (try with_reducible rfl))
  (try simp only [Act.put, List.setIfInBounds_toArray, List.set_cons_zero, List.set_cons_succ])
  refine wpAnyH_take (i := 2) (oi := ({ dst := some 21, op := Op.load 27 (Operand.tmp 5), type := 27, pos := "law.go:27", after := #[], guard := none } : Oper)) (v := ?_) rfl (by kernel_rfl) (by kernel_rfl) (by kernel_rfl) (fun _ _ _ h => h) (Or.inl ⟨by rfl, ?_⟩) (by assumption) ?_
  rotate_left 1
  · (intro w hSw; (try dsimp only at hSw); go_simp; (try with_reducible rfl))
  (try simp only [Act.put, List.setIfInBounds_toArray, List.set_cons_zero, List.set_cons_succ])
  refine wpAnyH_ready (rs := [1]) (by kernel_rfl) (by simp) ?_
  refine AllReadyH.cons (o := ({ dst := some 20, op := Op.call { callee := Callee.value (Operand.func 6), args := #[Operand.tmp 19], argTypes := #[27] }, type := 4, pos := "law.go:27", after := #[{ on := 0, ground := Ground.data }], guard := none } : Oper)) rfl (fun K hK => ?_) ?_
  rotate_left 1
  · exact AllReadyH.nil
  go_simp
  go_at_call 6
  ((with_reducible refine (CS1.out _ (HDx.out _ (Below.trans0 HB1.out B0.out))).mono ?_); rintro e v1 ⟨rfl, hb⟩; have B1 := Lib.hid (Below.trans0 B0.out hb); have S1 := Lib.hid (S0.out _ B1.out); clear hb)
  first | (refine hK.out _ _ ?_ (fun hH1 => ?_)) | (go_wp2_with fail; refine hK.out _ _ ?_ (fun hH1 => ?_))
  · (try dsimp only); with_reducible exact S1.out
  clear hK K hH0
  (try simp only [Act.put, List.setIfInBounds_toArray, List.set_cons_zero, List.set_cons_succ])
  refine wpAnyH_ready (rs := [3]) (by kernel_rfl) (by simp) ?_
  refine AllReadyH.cons (o := ({ dst := some 22, op := Op.call { callee := Callee.value (Operand.func 7), args := #[Operand.tmp 21], argTypes := #[27] }, type := 4, pos := "law.go:27", after := #[{ on := 2, ground := Ground.data }, { on := 1, ground := Ground.chain }], guard := none } : Oper)) rfl (fun K hK => ?_) ?_
  rotate_left 1
  · exact AllReadyH.nil
  go_simp
  go_at_call 7
  ((with_reducible refine (CS2.out _).mono ?_); rintro e v2 ⟨rfl, hb⟩; have B2 := Lib.hid (Below.trans0 B1.out hb); have S2 := Lib.hid (S0.out _ B2.out); clear hb)
  first | (refine hK.out _ _ ?_ (fun hH2 => ?_)) | (go_wp2_with fail; refine hK.out _ _ ?_ (fun hH2 => ?_))
  · (try dsimp only); with_reducible exact S2.out
  clear hK K hH1
  (try simp only [Act.put, List.setIfInBounds_toArray, List.set_cons_zero, List.set_cons_succ])
  refine wpAnyH_take (i := 4) (oi := ({ dst := some 23, op := Op.binOp BinOp.eql 4 (Operand.tmp 20) (Operand.tmp 22) 4, type := 4, pos := "law.go:27", after := #[{ on := 1, ground := Ground.data }, { on := 3, ground := Ground.data }], guard := none } : Oper)) (v := ?_) rfl (by kernel_rfl) (by kernel_rfl) (by kernel_rfl) (fun _ _ _ h => h) (Or.inl ⟨by rfl, ?_⟩) (by assumption) ?_
  rotate_left 1
  · (intro w hSw; (try dsimp only at hSw); go_simp; (try with_reducible rfl))
  (try simp only [Act.put, List.setIfInBounds_toArray, List.set_cons_zero, List.set_cons_succ])
  refine wpAnyH_take (i := 5) (oi := ({ dst := some 24, op := Op.move (Operand.tmp 23), type := 4, pos := "law.go:27", after := #[{ on := 4, ground := Ground.data }, { on := 3, ground := Ground.chain }], guard := none } : Oper)) (v := ?_) rfl (by kernel_rfl) (by kernel_rfl) (by kernel_rfl) (fun _ _ _ h => h) (Or.inl ⟨by rfl, ?_⟩) (by assumption) ?_
  rotate_left 1
  · (intro w hSw; (try dsimp only at hSw); go_simp; (try with_reducible rfl))
  (try simp only [Act.put, List.setIfInBounds_toArray, List.set_cons_zero, List.set_cons_succ])
  refine wpAnyH_take (i := 6) (oi := ({ dst := some 25, op := Op.load 27 (Operand.tmp 5), type := 27, pos := "law.go:27", after := #[{ on := 5, ground := Ground.guard }], guard := some (5, true) } : Oper)) (v := ?_) rfl (by kernel_rfl) (by kernel_rfl) (by kernel_rfl) (fun _ _ _ h => h) (Or.inl ⟨by rfl, ?_⟩) (by assumption) ?_
  rotate_left 1
  · (intro w hSw; (try dsimp only at hSw); go_simp; (try with_reducible rfl))
  (try simp only [Act.put, List.setIfInBounds_toArray, List.set_cons_zero, List.set_cons_succ])
  refine wpAnyH_take (i := 7) (oi := ({ dst := some 26, op := Op.move (Operand.tmp 1), type := 23, pos := "law.go:27", after := #[{ on := 5, ground := Ground.guard }], guard := some (5, true) } : Oper)) (v := ?_) rfl (by kernel_rfl) (by kernel_rfl) (by kernel_rfl) (fun _ _ _ h => h) (Or.inl ⟨by rfl, ?_⟩) (by assumption) ?_
  rotate_left 1
  · (intro w hSw; (try dsimp only at hSw); go_simp; (try with_reducible rfl))
  (try simp only [Act.put, List.setIfInBounds_toArray, List.set_cons_zero, List.set_cons_succ])
  refine wpAnyH_take (i := 9) (oi := ({ dst := some 28, op := Op.load 27 (Operand.tmp 5), type := 27, pos := "law.go:27", after := #[{ on := 5, ground := Ground.guard }], guard := some (5, true) } : Oper)) (v := ?_) rfl (by kernel_rfl) (by kernel_rfl) (by kernel_rfl) (fun _ _ _ h => h) (Or.inl ⟨by rfl, ?_⟩) (by assumption) ?_
  rotate_left 1
  · (intro w hSw; (try dsimp only at hSw); go_simp; (try with_reducible rfl))
  (try simp only [Act.put, List.setIfInBounds_toArray, List.set_cons_zero, List.set_cons_succ])
  refine wpAnyH_take (i := 10) (oi := ({ dst := some 29, op := Op.move (Operand.tmp 1), type := 23, pos := "law.go:27", after := #[{ on := 5, ground := Ground.guard }], guard := some (5, true) } : Oper)) (v := ?_) rfl (by kernel_rfl) (by kernel_rfl) (by kernel_rfl) (fun _ _ _ h => h) (Or.inl ⟨by rfl, ?_⟩) (by assumption) ?_
  rotate_left 1
  · (intro w hSw; (try dsimp only at hSw); go_simp; (try with_reducible rfl))
  (try simp only [Act.put, List.setIfInBounds_toArray, List.set_cons_zero, List.set_cons_succ])
  refine wpAnyH_take (i := 11) (oi := ({ dst := some 30, op := Op.move (Operand.tmp 0), type := 22, pos := "law.go:27", after := #[{ on := 5, ground := Ground.guard }], guard := some (5, true) } : Oper)) (v := ?_) rfl (by kernel_rfl) (by kernel_rfl) (by kernel_rfl) (fun _ _ _ h => h) (Or.inl ⟨by rfl, ?_⟩) (by assumption) ?_
  rotate_left 1
  · (intro w hSw; (try dsimp only at hSw); go_simp; (try with_reducible rfl))
  (try simp only [Act.put, List.setIfInBounds_toArray, List.set_cons_zero, List.set_cons_succ])
  refine wpAnyH_take (i := 12) (oi := ({ dst := some 31, op := Op.fieldAddr 27 (Operand.tmp 5) 5, type := 0, pos := "law.go:27", after := #[{ on := 5, ground := Ground.guard }], guard := some (5, true) } : Oper)) (v := ?_) rfl (by kernel_rfl) (by kernel_rfl) (by kernel_rfl) (fun _ _ _ h => h) (Or.inl ⟨by rfl, ?_⟩) (by assumption) ?_
  rotate_left 1
  · (intro w hSw; (try dsimp only at hSw); go_simp; (try with_reducible rfl))
  (try simp only [Act.put, List.setIfInBounds_toArray, List.set_cons_zero, List.set_cons_succ])
  refine wpAnyH_take (i := 13) (oi := ({ dst := some 32, op := Op.load 3 (Operand.tmp 31), type := 3, pos := "law.go:27", after := #[{ on := 12, ground := Ground.data }, { on := 5, ground := Ground.guard }], guard := some (5, true) } : Oper)) (v := ?_) rfl (by kernel_rfl) (by kernel_rfl) (by kernel_rfl) (fun _ _ _ h => h) (Or.inl ⟨by rfl, ?_⟩) (by assumption) ?_
  rotate_left 1
  · (intro w hSw; (try dsimp only at hSw); go_simp; (try with_reducible rfl))
  (try simp only [Act.put, List.setIfInBounds_toArray, List.set_cons_zero, List.set_cons_succ])
  refine wpAnyH_take (i := 14) (oi := ({ dst := some 33, op := Op.slice 22 (Operand.tmp 30) none (some (Operand.tmp 32)) none, type := 22, pos := "law.go:27", after := #[{ on := 11, ground := Ground.data }, { on := 13, ground := Ground.data }, { on := 5, ground := Ground.guard }], guard := some (5, true) } : Oper)) (v := ?_) rfl (by kernel_rfl) (by kernel_rfl) (by kernel_rfl) (fun _ _ _ h => h) (Or.inl ⟨by rfl, ?_⟩) (by assumption) ?_
  rotate_left 1
  · (intro w hSw; (try dsimp only at hSw); go_simp; (try with_reducible rfl))
  (try simp only [Act.put, List.setIfInBounds_toArray, List.set_cons_zero, List.set_cons_succ])
  refine wpAnyH_ready (rs := [8]) (by kernel_rfl) (by simp) ?_
  refine AllReadyH.cons (o := ({ dst := some 27, op := Op.call { callee := Callee.value (Operand.func 8), args := #[Operand.tmp 25, Operand.tmp 26], argTypes := #[27, 23] }, type := 9, pos := "law.go:27", after := #[{ on := 6, ground := Ground.data }, { on := 7, ground := Ground.data }, { on := 5, ground := Ground.chain }, { on := 5, ground := Ground.guard }], guard := some (5, true) } : Oper)) rfl (fun K hK => ?_) ?_
  rotate_left 1
  · exact AllReadyH.nil
  go_simp
  go_at_call 8
  ((with_reducible refine (CT.out _ (HDx.out _ (Below.trans0 HB1.out B2.out))).mono ?_); rintro e v3 ⟨rfl, hb⟩; have B3 := Lib.hid (Below.trans0 B2.out hb); have S3 := Lib.hid (S0.out _ B3.out); clear hb)
  first | (refine hK.out _ _ ?_ (fun hH3 => ?_)) | (go_wp2_with fail; refine hK.out _ _ ?_ (fun hH3 => ?_))
  · (try dsimp only); with_reducible exact S3.out
  clear hK K hH2
  (try simp only [Act.put, List.setIfInBounds_toArray, List.set_cons_zero, List.set_cons_succ])
  refine wpAnyH_ready (rs := [15]) (by kernel_rfl) (by simp) ?_
  refine AllReadyH.cons (o := ({ dst := some 34, op := Op.call { callee := Callee.value (Operand.func 9), args := #[Operand.tmp 28, Operand.tmp 29, Operand.tmp 33], argTypes := #[27, 23, 22] }, type := 9, pos := "law.go:27", after := #[{ on := 9, ground := Ground.data }, { on := 10, ground := Ground.data }, { on := 14, ground := Ground.data }, { on := 8, ground := Ground.chain }, { on := 5, ground := Ground.guard }], guard := some (5, true) } : Oper)) rfl (fun K hK => ?_) ?_
  rotate_left 1
  · exact AllReadyH.nil
  go_simp
  go_at_call 9
  ((with_reducible refine (CR.out _ (Below.trans0 HB1.out B3.out)).mono ?_); rintro e v4 ⟨rfl, hb⟩; have B4 := Lib.hid (Below.trans0 B3.out hb); have S4 := Lib.hid (S0.out _ B4.out); clear hb)
  first | (refine hK.out _ _ ?_ (fun hH4 => ?_)) | (go_wp2_with fail; refine hK.out _ _ ?_ (fun hH4 => ?_))
  · (try dsimp only); with_reducible exact S4.out
  clear hK K hH3
  (try simp only [Act.put, List.setIfInBounds_toArray, List.set_cons_zero, List.set_cons_succ])
  refine wpAnyH_take (i := 16) (oi := ({ dst := some 35, op := Op.binOp BinOp.eql 9 (Operand.tmp 27) (Operand.tmp 34) 9, type := 4, pos := "law.go:27", after := #[{ on := 8, ground := Ground.data }, { on := 15, ground := Ground.data }, { on := 5, ground := Ground.guard }], guard := some (5, true) } : Oper)) (v := ?_) rfl (by kernel_rfl) (by kernel_rfl) (by kernel_rfl) (fun _ _ _ h => h) (Or.inl ⟨by rfl, ?_⟩) (by assumption) ?_
  rotate_left 1
  · (intro w hSw; (try dsimp only at hSw); go_simp; (try with_reducible rfl))
  (try simp only [Act.put, List.setIfInBounds_toArray, List.set_cons_zero, List.set_cons_succ])
  refine wpAnyH_take (i := 17) (oi := ({ dst := some 36, op := Op.pick (Operand.tmp 24) (Operand.tmp 35) (Operand.const (Value.bool false)), type := 4, pos := "law.go:27", after := #[{ on := 5, ground := Ground.data }, { on := 16, ground := Ground.data }], guard := none } : Oper)) (v := ?_) rfl (by kernel_rfl) (by kernel_rfl) (by kernel_rfl) (fun _ _ _ h => h) (Or.inl ⟨by rfl, ?_⟩) (by assumption) ?_
  rotate_left 1
  · (intro w hSw; (try dsimp only at hSw); go_simp; (try with_reducible rfl))
  (try simp only [Act.put, List.setIfInBounds_toArray, List.set_cons_zero, List.set_cons_succ])
  refine wpAnyH_take (i := 18) (oi := ({ dst := some 37, op := Op.move (Operand.tmp 36), type := 4, pos := "law.go:27", after := #[{ on := 17, ground := Ground.data }, { on := 15, ground := Ground.chain }], guard := none } : Oper)) (v := ?_) rfl (by kernel_rfl) (by kernel_rfl) (by kernel_rfl) (fun _ _ _ h => h) (Or.inl ⟨by rfl, ?_⟩) (by assumption) ?_
  rotate_left 1
  · (intro w hSw; (try dsimp only at hSw); go_simp; (try with_reducible rfl))
  (try simp only [Act.put, List.setIfInBounds_toArray, List.set_cons_zero, List.set_cons_succ])
  refine wpAnyH_take (i := 19) (oi := ({ dst := some 38, op := Op.move (Operand.tmp 0), type := 22, pos := "law.go:27", after := #[{ on := 18, ground := Ground.guard }], guard := some (18, true) } : Oper)) (v := ?_) rfl (by kernel_rfl) (by kernel_rfl) (by kernel_rfl) (fun _ _ _ h => h) (Or.inl ⟨by rfl, ?_⟩) (by assumption) ?_
  rotate_left 1
  · (intro w hSw; (try dsimp only at hSw); go_simp; (try with_reducible rfl))
  (try simp only [Act.put, List.setIfInBounds_toArray, List.set_cons_zero, List.set_cons_succ])
  refine wpAnyH_take (i := 20) (oi := ({ dst := some 39, op := Op.indexAddr 22 (Operand.tmp 38) (Operand.const (Value.int IntKind.i64 0)), type := 0, pos := "law.go:27", after := #[{ on := 19, ground := Ground.data }, { on := 18, ground := Ground.guard }], guard := some (18, true) } : Oper)) (v := ?_) rfl (by kernel_rfl) (by kernel_rfl) (by kernel_rfl) (fun _ _ _ h => h) (Or.inl ⟨by rfl, ?_⟩) (by assumption) ?_
  rotate_left 1
  · (intro w hSw; (try dsimp only at hSw); go_simp; (try with_reducible rfl))
  (try simp only [Act.put, List.setIfInBounds_toArray, List.set_cons_zero, List.set_cons_succ])
  refine wpAnyH_take (i := 21) (oi := ({ dst := some 40, op := Op.load 5 (Operand.tmp 39), type := 5, pos := "law.go:27", after := #[{ on := 20, ground := Ground.data }, { on := 18, ground := Ground.guard }], guard := some (18, true) } : Oper)) (v := ?_) rfl (by kernel_rfl) (by kernel_rfl) (by kernel_rfl) (fun _ _ _ h => h) (Or.inl ⟨by rfl, ?_⟩) (by assumption) ?_
  rotate_left 1
  · (intro w hSw; (try dsimp only at hSw); go_simp; (try with_reducible rfl))
  (try simp only [Act.put, List.setIfInBounds_toArray, List.set_cons_zero, List.set_cons_succ])
  refine wpAnyH_take (i := 23) (oi := ({ dst := some 42, op := Op.move (Operand.tmp 0), type := 22, pos := "law.go:27", after := #[{ on := 18, ground := Ground.guard }], guard := some (18, true) } : Oper)) (v := ?_) rfl (by kernel_rfl) (by kernel_rfl) (by kernel_rfl) (fun _ _ _ h => h) (Or.inl ⟨by rfl, ?_⟩) (by assumption) ?_
  rotate_left 1
  · (intro w hSw; (try dsimp only at hSw); go_simp; (try with_reducible rfl))
  (try simp only [Act.put, List.setIfInBounds_toArray, List.set_cons_zero, List.set_cons_succ])
  refine wpAnyH_take (i := 24) (oi := ({ dst := some 43, op := Op.indexAddr 22 (Operand.tmp 42) (Operand.const (Value.int IntKind.i64 0)), type := 0, pos := "law.go:27", after := #[{ on := 23, ground := Ground.data }, { on := 18, ground := Ground.guard }], guard := some (18, true) } : Oper)) (v := ?_) rfl (by kernel_rfl) (by kernel_rfl) (by kernel_rfl) (fun _ _ _ h => h) (Or.inl ⟨by rfl, ?_⟩) (by assumption) ?_
  rotate_left 1
  · (intro w hSw; (try dsimp only at hSw); go_simp; (try with_reducible rfl))
  (try simp only [Act.put, List.setIfInBounds_toArray, List.set_cons_zero, List.set_cons_succ])
  refine wpAnyH_take (i := 25) (oi := ({ dst := some 44, op := Op.load 5 (Operand.tmp 43), type := 5, pos := "law.go:27", after := #[{ on := 24, ground := Ground.data }, { on := 18, ground := Ground.guard }], guard := some (18, true) } : Oper)) (v := ?_) rfl (by kernel_rfl) (by kernel_rfl) (by kernel_rfl) (fun _ _ _ h => h) (Or.inl ⟨by rfl, ?_⟩) (by assumption) ?_
  rotate_left 1
  · (intro w hSw; (try dsimp only at hSw); go_simp; (try with_reducible rfl))
  (try simp only [Act.put, List.setIfInBounds_toArray, List.set_cons_zero, List.set_cons_succ])
  refine wpAnyH_take (i := 26) (oi := ({ dst := some 45, op := Op.convert 5 3 (Operand.tmp 44), type := 3, pos := "law.go:27", after := #[{ on := 25, ground := Ground.data }, { on := 18, ground := Ground.guard }], guard := some (18, true) } : Oper)) (v := ?_) rfl (by kernel_rfl) (by kernel_rfl) (by kernel_rfl) (fun _ _ _ h => h) (Or.inl ⟨by rfl, ?_⟩) (by assumption) ?_
  rotate_left 1
  · (intro w hSw; (try dsimp only at hSw); go_simp; (try with_reducible rfl))
  (try simp only [Act.put, List.setIfInBounds_toArray, List.set_cons_zero, List.set_cons_succ])
  refine wpAnyH_ready (rs := [22]) (by kernel_rfl) (by simp) ?_
  refine AllReadyH.cons (o := ({ dst := some 41, op := Op.call { callee := Callee.value (Operand.func 10), args := #[Operand.tmp 40], argTypes := #[5] }, type := 9, pos := "law.go:27", after := #[{ on := 21, ground := Ground.data }, { on := 18, ground := Ground.chain }, { on := 18, ground := Ground.guard }], guard := some (18, true) } : Oper)) rfl (fun K hK => ?_) ?_
  rotate_left 1
  · exact AllReadyH.nil
  go_simp
  go_at_call 10
  ((with_reducible refine (CB1.out _).mono ?_); rintro e v5 ⟨rfl, hb⟩; have B5 := Lib.hid (Below.trans0 B4.out hb); have S5 := Lib.hid (S0.out _ B5.out); clear hb)
  first | (refine hK.out _ _ ?_ (fun hH5 => ?_)) | (go_wp2_with fail; refine hK.out _ _ ?_ (fun hH5 => ?_))
  · (try dsimp only); with_reducible exact S5.out
  clear hK K hH4
  (try simp only [Act.put, List.setIfInBounds_toArray, List.set_cons_zero, List.set_cons_succ])
  refine wpAnyH_ready (rs := [27]) (by kernel_rfl) (by simp) ?_
  refine AllReadyH.cons (o := ({ dst := some 46, op := Op.call { callee := Callee.value (Operand.func 11), args := #[Operand.tmp 45, Operand.const (Value.int IntKind.i64 2)], argTypes := #[3, 3] }, type := 9, pos := "law.go:27", after := #[{ on := 26, ground := Ground.data }, { on := 22, ground := Ground.chain }, { on := 18, ground := Ground.guard }], guard := some (18, true) } : Oper)) rfl (fun K hK => ?_) ?_
  rotate_left 1
  · exact AllReadyH.nil
  go_simp
  go_at_call 11
  ((with_reducible refine (CB2.out _).mono ?_); rintro e v6 ⟨rfl, rfl⟩)
  first | (refine hK.out _ _ ?_ (fun hH6 => ?_)) | (go_wp2_with fail; refine hK.out _ _ ?_ (fun hH6 => ?_))
  · (try dsimp only); with_reducible exact S5.out
  clear hK K hH5
  (try simp only [Act.put, List.setIfInBounds_toArray, List.set_cons_zero, List.set_cons_succ])
  refine wpAnyH_take (i := 28) (oi := ({ dst := some 47, op := Op.binOp BinOp.eql 9 (Operand.tmp 41) (Operand.tmp 46) 9, type := 4, pos := "law.go:27", after := #[{ on := 22, ground := Ground.data }, { on := 27, ground := Ground.data }, { on := 18, ground := Ground.guard }], guard := some (18, true) } : Oper)) (v := ?_) rfl (by kernel_rfl) (by kernel_rfl) (by kernel_rfl) (fun _ _ _ h => h) (Or.inl ⟨by rfl, ?_⟩) (by assumption) ?_
  rotate_left 1
  · (intro w hSw; (try dsimp only at hSw); go_simp; (try with_reducible rfl))
  (try simp only [Act.put, List.setIfInBounds_toArray, List.set_cons_zero, List.set_cons_succ])
  refine wpAnyH_take (i := 29) (oi := ({ dst := some 48, op := Op.pick (Operand.tmp 37) (Operand.tmp 47) (Operand.const (Value.bool false)), type := 4, pos := "law.go:27", after := #[{ on := 18, ground := Ground.data }, { on := 28, ground := Ground.data }], guard := none } : Oper)) (v := ?_) rfl (by kernel_rfl) (by kernel_rfl) (by kernel_rfl) (fun _ _ _ h => h) (Or.inl ⟨by rfl, ?_⟩) (by assumption) ?_
  rotate_left 1
  · (intro w hSw; (try dsimp only at hSw); go_simp; (try with_reducible rfl))
  (try simp only [Act.put, List.setIfInBounds_toArray, List.set_cons_zero, List.set_cons_succ])
  refine wpAnyH_take (i := 30) (oi := ({ dst := some 49, op := Op.move (Operand.tmp 48), type := 4, pos := "law.go:27", after := #[{ on := 29, ground := Ground.data }, { on := 27, ground := Ground.chain }], guard := none } : Oper)) (v := ?_) rfl (by kernel_rfl) (by kernel_rfl) (by kernel_rfl) (fun _ _ _ h => h) (Or.inl ⟨by rfl, ?_⟩) (by assumption) ?_
  rotate_left 1
  · (intro w hSw; (try dsimp only at hSw); go_simp; (try with_reducible rfl))
  (try simp only [Act.put, List.setIfInBounds_toArray, List.set_cons_zero, List.set_cons_succ])
  refine wpAnyH_take (i := 31) (oi := ({ dst := some 50, op := Op.move (Operand.tmp 1), type := 23, pos := "law.go:27", after := #[{ on := 30, ground := Ground.guard }], guard := some (30, true) } : Oper)) (v := ?_) rfl (by kernel_rfl) (by kernel_rfl) (by kernel_rfl) (fun _ _ _ h => h) (Or.inl ⟨by rfl, ?_⟩) (by assumption) ?_
  rotate_left 1
  · (intro w hSw; (try dsimp only at hSw); go_simp; (try with_reducible rfl))
  (try simp only [Act.put, List.setIfInBounds_toArray, List.set_cons_zero, List.set_cons_succ])
  refine wpAnyH_take (i := 33) (oi := ({ dst := some 52, op := Op.move (Operand.tmp 1), type := 23, pos := "law.go:27", after := #[{ on := 30, ground := Ground.guard }], guard := some (30, true) } : Oper)) (v := ?_) rfl (by kernel_rfl) (by kernel_rfl) (by kernel_rfl) (fun _ _ _ h => h) (Or.inl ⟨by rfl, ?_⟩) (by assumption) ?_
  rotate_left 1
  · (intro w hSw; (try dsimp only at hSw); go_simp; (try with_reducible rfl))
  (try simp only [Act.put, List.setIfInBounds_toArray, List.set_cons_zero, List.set_cons_succ])
  refine wpAnyH_take (i := 34) (oi := ({ dst := some 53, op := Op.convert 23 3 (Operand.tmp 52), type := 3, pos := "law.go:27", after := #[{ on := 33, ground := Ground.data }, { on := 30, ground := Ground.guard }], guard := some (30, true) } : Oper)) (v := ?_) rfl (by kernel_rfl) (by kernel_rfl) (by kernel_rfl) (fun _ _ _ h => h) (Or.inl ⟨by rfl, ?_⟩) (by assumption) ?_
  rotate_left 1
  · (intro w hSw; (try dsimp only at hSw); go_simp; (try with_reducible rfl))
  (try simp only [Act.put, List.setIfInBounds_toArray, List.set_cons_zero, List.set_cons_succ])
  refine wpAnyH_ready (rs := [32]) (by kernel_rfl) (by simp) ?_
  refine AllReadyH.cons (o := ({ dst := some 51, op := Op.call { callee := Callee.value (Operand.func 12), args := #[Operand.tmp 50], argTypes := #[23] }, type := 9, pos := "law.go:27", after := #[{ on := 31, ground := Ground.data }, { on := 30, ground := Ground.chain }, { on := 30, ground := Ground.guard }], guard := some (30, true) } : Oper)) rfl (fun K hK => ?_) ?_
  rotate_left 1
  · exact AllReadyH.nil
  go_simp
  go_at_call 12
  ((with_reducible refine (CW1.out _).mono ?_); rintro e v7 ⟨rfl, hb⟩; have B7 := Lib.hid (Below.trans0 B5.out hb); have S7 := Lib.hid (S0.out _ B7.out); clear hb)
  first | (refine hK.out _ _ ?_ (fun hH7 => ?_)) | (go_wp2_with fail; refine hK.out _ _ ?_ (fun hH7 => ?_))
  · (try dsimp only); with_reducible exact S7.out
  clear hK K hH6
  (try simp only [Act.put, List.setIfInBounds_toArray, List.set_cons_zero, List.set_cons_succ])
  refine wpAnyH_ready (rs := [35]) (by kernel_rfl) (by simp) ?_
  refine AllReadyH.cons (o := ({ dst := some 54, op := Op.call { callee := Callee.value (Operand.func 11), args := #[Operand.tmp 53, Operand.const (Value.int IntKind.i64 4)], argTypes := #[3, 3] }, type := 9, pos := "law.go:27", after := #[{ on := 34, ground := Ground.data }, { on := 32, ground := Ground.chain }, { on := 30, ground := Ground.guard }], guard := some (30, true) } : Oper)) rfl (fun K hK => ?_) ?_
  rotate_left 1
  · exact AllReadyH.nil
  go_simp
  go_at_call 11
  ((with_reducible refine (CW2.out _).mono ?_); rintro e v8 ⟨rfl, rfl⟩)
  first | (refine hK.out _ _ ?_ (fun hH8 => ?_)) | (go_wp2_with fail; refine hK.out _ _ ?_ (fun hH8 => ?_))
  · (try dsimp only); with_reducible exact S7.out
  clear hK K hH7
  (try simp only [Act.put, List.setIfInBounds_toArray, List.set_cons_zero, List.set_cons_succ])
  refine wpAnyH_take (i := 36) (oi := ({ dst := some 55, op := Op.binOp BinOp.eql 9 (Operand.tmp 51) (Operand.tmp 54) 9, type := 4, pos := "law.go:27", after := #[{ on := 32, ground := Ground.data }, { on := 35, ground := Ground.data }, { on := 30, ground := Ground.guard }], guard := some (30, true) } : Oper)) (v := ?_) rfl (by kernel_rfl) (by kernel_rfl) (by kernel_rfl) (fun _ _ _ h => h) (Or.inl ⟨by rfl, ?_⟩) (by assumption) ?_
  rotate_left 1
  · (intro w hSw; (try dsimp only at hSw); go_simp; (try with_reducible rfl))
  (try simp only [Act.put, List.setIfInBounds_toArray, List.set_cons_zero, List.set_cons_succ])
  refine wpAnyH_take (i := 37) (oi := ({ dst := some 56, op := Op.pick (Operand.tmp 49) (Operand.tmp 55) (Operand.const (Value.bool false)), type := 4, pos := "law.go:27", after := #[{ on := 30, ground := Ground.data }, { on := 36, ground := Ground.data }], guard := none } : Oper)) (v := ?_) rfl (by kernel_rfl) (by kernel_rfl) (by kernel_rfl) (fun _ _ _ h => h) (Or.inl ⟨by rfl, ?_⟩) (by assumption) ?_
  rotate_left 1
  · (intro w hSw; (try dsimp only at hSw); go_simp; (try with_reducible rfl))
  (try simp only [Act.put, List.setIfInBounds_toArray, List.set_cons_zero, List.set_cons_succ])
  refine wpAnyH_take (i := 38) (oi := ({ dst := some 57, op := Op.move (Operand.tmp 56), type := 4, pos := "law.go:27", after := #[{ on := 37, ground := Ground.data }, { on := 35, ground := Ground.chain }], guard := none } : Oper)) (v := ?_) rfl (by kernel_rfl) (by kernel_rfl) (by kernel_rfl) (fun _ _ _ h => h) (Or.inl ⟨by rfl, ?_⟩) (by assumption) ?_
  rotate_left 1
  · (intro w hSw; (try dsimp only at hSw); go_simp; (try with_reducible rfl))
  (try simp only [Act.put, List.setIfInBounds_toArray, List.set_cons_zero, List.set_cons_succ])
  refine wpAnyH_take (i := 39) (oi := ({ dst := some 58, op := Op.move (Operand.tmp 0), type := 22, pos := "law.go:27", after := #[{ on := 38, ground := Ground.guard }], guard := some (38, true) } : Oper)) (v := ?_) rfl (by kernel_rfl) (by kernel_rfl) (by kernel_rfl) (fun _ _ _ h => h) (Or.inl ⟨by rfl, ?_⟩) (by assumption) ?_
  rotate_left 1
  · (intro w hSw; (try dsimp only at hSw); go_simp; (try with_reducible rfl))
  (try simp only [Act.put, List.setIfInBounds_toArray, List.set_cons_zero, List.set_cons_succ])
  refine wpAnyH_take (i := 40) (oi := ({ dst := some 59, op := Op.indexAddr 22 (Operand.tmp 58) (Operand.const (Value.int IntKind.i64 0)), type := 0, pos := "law.go:27", after := #[{ on := 39, ground := Ground.data }, { on := 38, ground := Ground.guard }], guard := some (38, true) } : Oper)) (v := ?_) rfl (by kernel_rfl) (by kernel_rfl) (by kernel_rfl) (fun _ _ _ h => h) (Or.inl ⟨by rfl, ?_⟩) (by assumption) ?_
  rotate_left 1
  · (intro w hSw; (try dsimp only at hSw); go_simp; (try with_reducible rfl))
  (try simp only [Act.put, List.setIfInBounds_toArray, List.set_cons_zero, List.set_cons_succ])
  refine wpAnyH_take (i := 41) (oi := ({ dst := some 60, op := Op.load 5 (Operand.tmp 59), type := 5, pos := "law.go:27", after := #[{ on := 40, ground := Ground.data }, { on := 38, ground := Ground.guard }], guard := some (38, true) } : Oper)) (v := ?_) rfl (by kernel_rfl) (by kernel_rfl) (by kernel_rfl) (fun _ _ _ h => h) (Or.inl ⟨by rfl, ?_⟩) (by assumption) ?_
  rotate_left 1
  · (intro w hSw; (try dsimp only at hSw); go_simp; (try with_reducible rfl))
  (try simp only [Act.put, List.setIfInBounds_toArray, List.set_cons_zero, List.set_cons_succ])
  refine wpAnyH_take (i := 42) (oi := ({ dst := some 61, op := Op.binOp BinOp.rem 5 (Operand.tmp 60) (Operand.const (Value.int IntKind.u8 16)) 5, type := 5, pos := "law.go:27", after := #[{ on := 41, ground := Ground.data }, { on := 38, ground := Ground.guard }], guard := some (38, true) } : Oper)) (v := ?_) rfl (by kernel_rfl) (by kernel_rfl) (by kernel_rfl) (fun _ _ _ h => h) (Or.inl ⟨by rfl, ?_⟩) (by assumption) ?_
  rotate_left 1
  · (intro w hSw; (try dsimp only at hSw); go_simp; (try with_reducible rfl))
  (try simp only [Act.put, List.setIfInBounds_toArray, List.set_cons_zero, List.set_cons_succ])
  refine wpAnyH_take (i := 43) (oi := ({ dst := some 62, op := Op.convert 5 3 (Operand.tmp 61), type := 3, pos := "law.go:27", after := #[{ on := 42, ground := Ground.data }, { on := 38, ground := Ground.guard }], guard := some (38, true) } : Oper)) (v := ?_) rfl (by kernel_rfl) (by kernel_rfl) (by kernel_rfl) (fun _ _ _ h => h) (Or.inl ⟨by rfl, ?_⟩) (by assumption) ?_
  rotate_left 1
  · (intro w hSw; (try dsimp only at hSw); go_simp; (try with_reducible rfl))
  (try simp only [Act.put, List.setIfInBounds_toArray, List.set_cons_zero, List.set_cons_succ])
  refine wpAnyH_take (i := 45) (oi := ({ dst := some 64, op := Op.move (Operand.tmp 0), type := 22, pos := "law.go:27", after := #[{ on := 38, ground := Ground.guard }], guard := some (38, true) } : Oper)) (v := ?_) rfl (by kernel_rfl) (by kernel_rfl) (by kernel_rfl) (fun _ _ _ h => h) (Or.inl ⟨by rfl, ?_⟩) (by assumption) ?_
  rotate_left 1
  · (intro w hSw; (try dsimp only at hSw); go_simp; (try with_reducible rfl))
  (try simp only [Act.put, List.setIfInBounds_toArray, List.set_cons_zero, List.set_cons_succ])
  refine wpAnyH_take (i := 46) (oi := ({ dst := some 65, op := Op.indexAddr 22 (Operand.tmp 64) (Operand.const (Value.int IntKind.i64 0)), type := 0, pos := "law.go:27", after := #[{ on := 45, ground := Ground.data }, { on := 38, ground := Ground.guard }], guard := some (38, true) } : Oper)) (v := ?_) rfl (by kernel_rfl) (by kernel_rfl) (by kernel_rfl) (fun _ _ _ h => h) (Or.inl ⟨by rfl, ?_⟩) (by assumption) ?_
  rotate_left 1
  · (intro w hSw; (try dsimp only at hSw); go_simp; (try with_reducible rfl))
  (try simp only [Act.put, List.setIfInBounds_toArray, List.set_cons_zero, List.set_cons_succ])
  refine wpAnyH_take (i := 47) (oi := ({ dst := some 66, op := Op.load 5 (Operand.tmp 65), type := 5, pos := "law.go:27", after := #[{ on := 46, ground := Ground.data }, { on := 38, ground := Ground.guard }], guard := some (38, true) } : Oper)) (v := ?_) rfl (by kernel_rfl) (by kernel_rfl) (by kernel_rfl) (fun _ _ _ h => h) (Or.inl ⟨by rfl, ?_⟩) (by assumption) ?_
  rotate_left 1
  · (intro w hSw; (try dsimp only at hSw); go_simp; (try with_reducible rfl))
  (try simp only [Act.put, List.setIfInBounds_toArray, List.set_cons_zero, List.set_cons_succ])
  refine wpAnyH_take (i := 48) (oi := ({ dst := some 67, op := Op.binOp BinOp.rem 5 (Operand.tmp 66) (Operand.const (Value.int IntKind.u8 16)) 5, type := 5, pos := "law.go:27", after := #[{ on := 47, ground := Ground.data }, { on := 38, ground := Ground.guard }], guard := some (38, true) } : Oper)) (v := ?_) rfl (by kernel_rfl) (by kernel_rfl) (by kernel_rfl) (fun _ _ _ h => h) (Or.inl ⟨by rfl, ?_⟩) (by assumption) ?_
  rotate_left 1
  · (intro w hSw; (try dsimp only at hSw); go_simp; (try with_reducible rfl))
  (try simp only [Act.put, List.setIfInBounds_toArray, List.set_cons_zero, List.set_cons_succ])
  refine wpAnyH_take (i := 49) (oi := ({ dst := some 68, op := Op.convert 5 3 (Operand.tmp 67), type := 3, pos := "law.go:27", after := #[{ on := 48, ground := Ground.data }, { on := 38, ground := Ground.guard }], guard := some (38, true) } : Oper)) (v := ?_) rfl (by kernel_rfl) (by kernel_rfl) (by kernel_rfl) (fun _ _ _ h => h) (Or.inl ⟨by rfl, ?_⟩) (by assumption) ?_
  rotate_left 1
  · (intro w hSw; (try dsimp only at hSw); go_simp; (try with_reducible rfl))
  (try simp only [Act.put, List.setIfInBounds_toArray, List.set_cons_zero, List.set_cons_succ])
  refine wpAnyH_ready (rs := [44]) (by kernel_rfl) (by simp) ?_
  refine AllReadyH.cons (o := ({ dst := some 63, op := Op.call { callee := Callee.value (Operand.func 13), args := #[Operand.tmp 62], argTypes := #[3] }, type := 9, pos := "law.go:27", after := #[{ on := 43, ground := Ground.data }, { on := 38, ground := Ground.chain }, { on := 38, ground := Ground.guard }], guard := some (38, true) } : Oper)) rfl (fun K hK => ?_) ?_
  rotate_left 1
  · exact AllReadyH.nil
  go_simp
  go_at_call 13
  ((with_reducible refine (CG1.out _ (HDx.out _ (Below.trans0 HB1.out B7.out))).mono ?_); rintro e v9 ⟨rfl, hb⟩; have B9 := Lib.hid (Below.trans0 B7.out hb); have S9 := Lib.hid (S0.out _ B9.out); clear hb)
  first | (refine hK.out _ _ ?_ (fun hH9 => ?_)) | (go_wp2_with fail; refine hK.out _ _ ?_ (fun hH9 => ?_))
  · (try dsimp only); with_reducible exact S9.out
  clear hK K hH8
  (try simp only [Act.put, List.setIfInBounds_toArray, List.set_cons_zero, List.set_cons_succ])
  refine wpAnyH_ready (rs := [50]) (by kernel_rfl) (by simp) ?_
  refine AllReadyH.cons (o := ({ dst := some 69, op := Op.call { callee := Callee.value (Operand.func 14), args := #[Operand.tmp 68], argTypes := #[3] }, type := 9, pos := "law.go:27", after := #[{ on := 49, ground := Ground.data }, { on := 44, ground := Ground.chain }, { on := 38, ground := Ground.guard }], guard := some (38, true) } : Oper)) rfl (fun K hK => ?_) ?_
  rotate_left 1
  · exact AllReadyH.nil
  go_simp
  go_at_call 14
  ((with_reducible refine (CG2.out _).mono ?_); rintro e va1 ⟨rfl, hb⟩; have BA := Lib.hid (Below.trans0 B9.out hb); have SA := Lib.hid (S0.out _ BA.out); clear hb)
  first | (refine hK.out _ _ ?_ (fun hH10 => ?_)) | (go_wp2_with fail; refine hK.out _ _ ?_ (fun hH10 => ?_))
  · (try dsimp only); with_reducible exact SA.out
  clear hK K hH9
  (try simp only [Act.put, List.setIfInBounds_toArray, List.set_cons_zero, List.set_cons_succ])
  refine wpAnyH_take (i := 51) (oi := ({ dst := some 70, op := Op.binOp BinOp.eql 9 (Operand.tmp 63) (Operand.tmp 69) 9, type := 4, pos := "law.go:27", after := #[{ on := 44, ground := Ground.data }, { on := 50, ground := Ground.data }, { on := 38, ground := Ground.guard }], guard := some (38, true) } : Oper)) (v := ?_) rfl (by kernel_rfl) (by kernel_rfl) (by kernel_rfl) (fun _ _ _ h => h) (Or.inl ⟨by rfl, ?_⟩) (by assumption) ?_
  rotate_left 1
  · (intro w hSw; (try dsimp only at hSw); go_simp; (try with_reducible rfl))
  (try simp only [Act.put, List.setIfInBounds_toArray, List.set_cons_zero, List.set_cons_succ])
  refine wpAnyH_take (i := 52) (oi := ({ dst := some 71, op := Op.pick (Operand.tmp 57) (Operand.tmp 70) (Operand.const (Value.bool false)), type := 4, pos := "law.go:27", after := #[{ on := 38, ground := Ground.data }, { on := 51, ground := Ground.data }], guard := none } : Oper)) (v := ?_) rfl (by kernel_rfl) (by kernel_rfl) (by kernel_rfl) (fun _ _ _ h => h) (Or.inl ⟨by rfl, ?_⟩) (by assumption) ?_
  rotate_left 1
  · (intro w hSw; (try dsimp only at hSw); go_simp; (try with_reducible rfl))
  (try simp only [Act.put, List.setIfInBounds_toArray, List.set_cons_zero, List.set_cons_succ])
  refine wpAnyH_take (i := 53) (oi := ({ dst := some 72, op := Op.move (Operand.tmp 71), type := 4, pos := "law.go:27", after := #[{ on := 52, ground := Ground.data }, { on := 50, ground := Ground.chain }], guard := none } : Oper)) (v := ?_) rfl (by kernel_rfl) (by kernel_rfl) (by kernel_rfl) (fun _ _ _ h => h) (Or.inl ⟨by rfl, ?_⟩) (by assumption) ?_
  rotate_left 1
  · (intro w hSw; (try dsimp only at hSw); go_simp; (try with_reducible rfl))
  (try simp only [Act.put, List.setIfInBounds_toArray, List.set_cons_zero, List.set_cons_succ])
  refine wpAnyH_ready (rs := [54]) (by kernel_rfl) (by simp) ?_
  refine AllReadyH.cons (o := ({ dst := some 73, op := Op.call { callee := Callee.value (Operand.func 15), args := #[], argTypes := #[] }, type := 4, pos := "law.go:27", after := #[{ on := 53, ground := Ground.chain }, { on := 53, ground := Ground.guard }], guard := some (53, true) } : Oper)) rfl (fun K hK => ?_) ?_
  rotate_left 1
  · exact AllReadyH.nil
  go_simp
  go_at_call 15
  ((with_reducible refine (CA.out _ (HDx.out _ (Below.trans0 HB1.out BA.out))).mono ?_); rintro e vb1 ⟨rfl, hb⟩; have BB := Lib.hid (Below.trans0 BA.out hb); have SB := Lib.hid (S0.out _ BB.out); clear hb)
  first | (refine hK.out _ _ ?_ (fun hH11 => ?_)) | (go_wp2_with fail; refine hK.out _ _ ?_ (fun hH11 => ?_))
  · (try dsimp only); with_reducible exact SB.out
  clear hK K hH10
  (try simp only [Act.put, List.setIfInBounds_toArray, List.set_cons_zero, List.set_cons_succ])
  refine wpAnyH_take (i := 55) (oi := ({ dst := some 74, op := Op.pick (Operand.tmp 72) (Operand.tmp 73) (Operand.const (Value.bool false)), type := 4, pos := "law.go:27", after := #[{ on := 53, ground := Ground.data }, { on := 54, ground := Ground.data }], guard := none } : Oper)) (v := ?_) rfl (by kernel_rfl) (by kernel_rfl) (by kernel_rfl) (fun _ _ _ h => h) (Or.inl ⟨by rfl, ?_⟩) (by assumption) ?_
  rotate_left 1
  · (intro w hSw; (try dsimp only at hSw); go_simp; (try with_reducible rfl))
  (try simp only [Act.put, List.setIfInBounds_toArray, List.set_cons_zero, List.set_cons_succ])
  refine wpAnyH_take (i := 56) (oi := ({ dst := some 4, op := Op.assign (Operand.tmp 74), type := 4, pos := "law.go:27", after := #[{ on := 55, ground := Ground.data }, { on := 54, ground := Ground.chain }, { on := 0, ground := Ground.phase }, { on := 1, ground := Ground.phase }, { on := 2, ground := Ground.phase }, { on := 3, ground := Ground.phase }, { on := 4, ground := Ground.phase }, { on := 5, ground := Ground.phase }, { on := 6, ground := Ground.phase }, { on := 7, ground := Ground.phase }, { on := 8, ground := Ground.phase }, { on := 9, ground := Ground.phase }, { on := 10, ground := Ground.phase }, { on := 11, ground := Ground.phase }, { on := 12, ground := Ground.phase }, { on := 13, ground := Ground.phase }, { on := 14, ground := Ground.phase }, { on := 15, ground := Ground.phase }, { on := 16, ground := Ground.phase }, { on := 17, ground := Ground.phase }, { on := 18, ground := Ground.phase }, { on := 19, ground := Ground.phase }, { on := 20, ground := Ground.phase }, { on := 21, ground := Ground.phase }, { on := 22, ground := Ground.phase }, { on := 23, ground := Ground.phase }, { on := 24, ground := Ground.phase }, { on := 25, ground := Ground.phase }, { on := 26, ground := Ground.phase }, { on := 27, ground := Ground.phase }, { on := 28, ground := Ground.phase }, { on := 29, ground := Ground.phase }, { on := 30, ground := Ground.phase }, { on := 31, ground := Ground.phase }, { on := 32, ground := Ground.phase }, { on := 33, ground := Ground.phase }, { on := 34, ground := Ground.phase }, { on := 35, ground := Ground.phase }, { on := 36, ground := Ground.phase }, { on := 37, ground := Ground.phase }, { on := 38, ground := Ground.phase }, { on := 39, ground := Ground.phase }, { on := 40, ground := Ground.phase }, { on := 41, ground := Ground.phase }, { on := 42, ground := Ground.phase }, { on := 43, ground := Ground.phase }, { on := 44, ground := Ground.phase }, { on := 45, ground := Ground.phase }, { on := 46, ground := Ground.phase }, { on := 47, ground := Ground.phase }, { on := 48, ground := Ground.phase }, { on := 49, ground := Ground.phase }, { on := 50, ground := Ground.phase }, { on := 51, ground := Ground.phase }, { on := 52, ground := Ground.phase }, { on := 53, ground := Ground.phase }, { on := 54, ground := Ground.phase }, { on := 55, ground := Ground.phase }], guard := none } : Oper)) (v := ?_) rfl (by kernel_rfl) (by kernel_rfl) (by kernel_rfl) (fun _ _ _ h => h) (Or.inl ⟨by rfl, ?_⟩) (by assumption) ?_
  rotate_left 1
  · (intro w hSw; (try dsimp only at hSw); go_simp; (try with_reducible rfl))
  (try simp only [Act.put, List.setIfInBounds_toArray, List.set_cons_zero, List.set_cons_succ])
  refine wpAnyH_done (by kernel_rfl) ?_ _
  refine NoPanic.normal ?_
  go_wp2
  go_ret
  exact ⟨rfl, Below.trans0 HB1.out BB.out⟩
end Go.Proofs.YtopkjniegncokaaDoor
namespace Go.Proofs.YtopkjniegncokaaDoor
open Go.ChangeShapes Go.WideShapes Go.ChangeAt Go.RowKit
set_option linter.unusedVariables false

theorem IsRow.none0 {k : IntKind} {w : World} {a : Option Addr} {len cap : Nat} {zs : List Int} (h : IsRow k w a len cap zs) (ha : a = none) : len = 0 ∧ cap = 0 := by
  rcases h with ⟨_, h1, h2, _⟩ | ⟨x, hx, _⟩
  · exact ⟨h1, h2⟩
  · rw [ha] at hx; cases hx
theorem IsRow.le_cap {k : IntKind} {w : World} {a : Option Addr} {len cap : Nat} {zs : List Int} (h : IsRow k w a len cap zs) : len ≤ cap := by
  rcases h with ⟨_, h1, h2, _⟩ | ⟨x, hx, hl, _⟩ <;> omega
end Go.Proofs.YtopkjniegncokaaDoor
