/- Contracts: a register's name (package ops, spinetref13); the names of a postbyte's registers (package lists, spinetlaw17). -/
import Derived.Test.YtfkcogccbeolfaaDoorTxtN
import Derived.Test.YtfkcogccbeolfaaDoorLstO
import Derived.Test.YtfkcogccbeolfaaDoorLstL
import Derived.Laws.OwnMore
import Derived.Maps.AppendAt
namespace Go.Proofs.YtfkcogccbeolfaaDoor
open Go.ChangeShapes Go.WideShapes Go.ChangeAt Go.RowKit
set_option linter.unusedVariables false

theorem opsReg_any (k : Nat) (hk : k < 12) (w : World) (hT : OregAt w) :
    Calls Tryd.prog 16 #[.int .i64 (k : Int)] w fun e w' => e = .returned (.string (regS k)) ∧ w = w' := by
  have hc := hT k hk
  have k0 : (0 : Int) ≤ (k : Int) := by omega
  have k1 : (k : Int) < 12 := by omega
  clear hT
  generalize regS k = s at hc ⊢
  go_enter Tryd.func16, Tryd.ntmps16
  go_wp2
  go_ret
  exact ⟨rfl, rfl⟩
set_option maxRecDepth 100000 in
theorem refReg_any (k : Nat) (hk : k < 12) (w : World) :
    Calls Tryd.prog 17 #[.int .i64 (k : Int)] w fun e w' => e = .returned (.string (regS k)) ∧ Below w.heap.size w w' := by
  have k0 : (0 : Int) ≤ (k : Int) := by omega
  have k1 : (k : Int) < 12 := by omega
  go_enter Tryd.func17, Tryd.ntmps17
  go_wp2
  go_ret
  refine ⟨?_, Below.alloc0 (Below.refl _ _) _⟩
  rcases (show k = 0 ∨ k = 1 ∨ k = 2 ∨ k = 3 ∨ k = 4 ∨ k = 5 ∨ k = 6 ∨ k = 7 ∨ k = 8 ∨ k = 9 ∨ k = 10 ∨ k = 11 by omega) with rfl | rfl | rfl | rfl | rfl | rfl | rfl | rfl | rfl | rfl | rfl | rfl
  all_goals rfl
theorem regN_lt (k : Nat) (hk : k < 8) (u : Bool) : regN k u < 12 := by
  rcases (show k = 0 ∨ k = 1 ∨ k = 2 ∨ k = 3 ∨ k = 4 ∨ k = 5 ∨ k = 6 ∨ k = 7 by omega) with rfl | rfl | rfl | rfl | rfl | rfl | rfl | rfl <;> cases u <;> decide
theorem infoStr : (Tryd.prog.info? 9).map (fun i => (i.zero, i.size, i.bytes)) = some (some (.string ⟨#[]⟩), 1, 16) := by kernel_rfl
def Strs (w : World) (base : Nat) (v : Value) (l : List ByteArray) : Prop := w.ownsRow base 9 1 v l.length (l.map Value.string)
theorem Strs.alloc {w : World} {base : Nat} {v : Value} {l : List ByteArray} (h : Strs w base v l) (o : Obj) : Strs (w.alloc o) base v l := World.ownsRow.alloc h o
theorem wpList_appStr {ops : Array Oper} {rest : List Oper} {o : Oper} {a : Act} {Q : Exit → Act → World → Prop} (hgd : o.guard = none) (w : World) (s x : Operand)
    (ho : o.op = .call { callee := .builtin .append, args := #[s, x], argTypes := #[117, 117] })
    (base : Nat) (v : Value) (l : List ByteArray) (hs : a.eval s = v) (hown : Strs w base v l) (ad : Addr) (c : Nat) (r : ByteArray) (hx : a.eval x = .slice (some ad) 1 c)
    (hnews : ∀ j u, [Value.string r][j]? = some u → w.cell? (ad.add j) = some u) (hn : l.length ≤ 1000) (hbase : base ≤ w.heap.size)
    (h : ∀ v' w', Strs w' base v' (l ++ [r]) → Below base w w' → wpList Tryd.prog ops Q rest (a.put o.dst v') w') : wpList Tryd.prog ops Q (o :: rest) a w := by
  obtain ⟨i0, hi, hz0, hz1, hz2⟩ := info_parts infoStr
  refine wpList_append_own_at w hgd s x 117 ho base 9 i0 (.string ⟨#[]⟩) 1 16 Tryd.underlying117 hi hz0 hz1 hz2 rfl (by decide) v l.length (l.map Value.string) hs hown ad 1 c [Value.string r] hx rfl hnews (by simp [Value.oneCell']) (by unfold maxLen; omega) (by omega) hbase ?_
  intro v' w' h1 h2 h3 h4
  refine h v' w' ?_ (Below.grown (Below.refl _ _) h2 hbase (fun k hk => (hown.lt k hk).1))
  unfold Strs
  rw [List.length_append, List.map_append]
  exact h1
theorem Strs.read {w : World} {base : Nat} {v : Value} {l : List ByteArray} (h : Strs w base v l) : ∃ A c, v = .slice A l.length c ∧ (0 < l.length → ∃ g, A = some ⟨g, 0, none⟩ ∧ g < w.heap.size ∧ l.length ≤ c ∧ ∀ (j : Nat) x, l[j]? = some x → w.cell? ⟨g, 0 + j, none⟩ = some (.string x)) := by
  obtain ⟨hl, h2⟩ := h
  rcases h2 with ⟨rfl, hn⟩ | ⟨g, cap, cur, rfl, h3, h4, h5, h6, h7, h8⟩
  · rw [hn]; exact ⟨none, 0, rfl, fun h => absurd h (by decide)⟩
  · refine ⟨_, cap, rfl, fun _ => ⟨g, rfl, Blk.lt (t := _) (cs := cur) (fr := (0, 0)) h4, h5, fun j x hj => ?_⟩⟩
    have hlt : j < l.length := by
      rcases Nat.lt_or_ge j l.length with a | a
      · exact a
      · rw [List.getElem?_eq_none a] at hj; cases hj
    have e : (cur.toList.take (l.length * 1))[j]? = (l.map Value.string)[j]? := by rw [h8]
    rw [List.getElem?_take_of_lt (by omega), Array.getElem?_toList, List.getElem?_map, hj] at e
    rw [Nat.zero_add, Blk.cell (t := _) (cs := cur) (fr := (0, 0)) h4, e]; rfl
theorem nmS_len (p : Nat) (u : Bool) (k : Nat) : (nmS p u k).length ≤ k := by unfold nmS; rw [List.length_map]; exact nmP_len p u k
set_option maxRecDepth 100000 in
set_option maxHeartbeats 4000000 in
theorem text_any (p : Nat) (hp : p < 256) (s : Int) (w : World) (hT : TabAt w) :
    Calls Tryd.prog 45 #[.int .u8 (p : Int), .int .i64 s] w fun e w' => e = .returned (.string (byteStr (txtL p (s == 3) 8))) ∧ Below w.heap.size w w' := by
  have HT := Lib.hid hT
  have HP := Lib.hid hp
  have p0 : (0 : Int) ≤ (p : Int) := by omega
  have p1 : (p : Int) < 256 := by omega
  obtain ⟨u, hu⟩ : ∃ u, (s == 3) = u := ⟨_, rfl⟩
  rw [hu]
  have HU := Lib.hid hu
  obtain ⟨T, hTx⟩ : ∃ T, txtL p u 8 = T := ⟨_, rfl⟩
  have HTx := Lib.hid hTx
  rw [hTx]
  clear hT hu hTx
  go_enter Tryd.func45, Tryd.ntmps45
  go_wp2
  go_loopw [5, 7] (fun u5 u7 wr => ∃ k : Nat, k ≤ 8 ∧ u7 = .int .i64 k ∧ Hid (Strs wr w.heap.size u5 (nmS p u k)) ∧ Hid (Below w.heap.size w wr)) (fun _ u7 _ => 8 - (intOf u7).toNat)
  case atStart => exact ⟨0, Nat.zero_le _, rfl, Lib.hid (World.ownsRow_nil _ _ _ 1), Lib.hid (Below.refl _ _)⟩
  case round =>
    obtain ⟨k, hk, rfl, HL, HBel⟩ := hrel
    by_cases hlt : k < 8
    · have hbit := u8_bit p k HP.out hlt
      have hpos : (0 : Int) < ((2 ^ k : Nat) : Int) := by have : 0 < 2 ^ k := Nat.pow_pos (by decide); omega
      have hlt256 := pow_lt8 k hlt
      have CB := Lib.hid (fun w => bit_any k hlt w)
      have CR := Lib.hid (fun w hT => register_any k hlt s w hT)
      have HTr := Lib.hid (HT.out.below HBel.out)
      rw [HU.out] at CR
      have CO := Lib.hid (fun w hT => opsReg_any (regN k u) (regN_lt k hlt u) w hT)
      obtain ⟨b, hb⟩ : ∃ b : Int, ((2 ^ k : Nat) : Int) = b := ⟨_, rfl⟩
      rw [hb] at hbit hpos
      have hb256 : b < 256 := by omega
      rw [hb] at CB
      have HLn := Lib.hid (nmS_len p u k)
      have HOn := Lib.hid (nmS_on p u k)
      have HOff := Lib.hid (nmS_off p u k)
      obtain ⟨S, hS⟩ : ∃ S, regS (regN k u) = S := ⟨_, rfl⟩
      rw [hS] at CO HOn
      obtain ⟨R, hR⟩ : ∃ R, regN k u = R := ⟨_, rfl⟩
      rw [hR] at CR CO
      have HBs := Lib.hid HBel.out.size
      have HK := Lib.hid hk
      have d0 : decide (0 < b) = true := decide_eq_true hpos
      have k0 : (0 : Int) ≤ (k : Int) := by omega
      have k1 : (k : Int) < 8 := by omega
      cases g1 : bitN p k
      · have HN := Lib.hid (HOff.out g1)
        rw [g1] at hbit
        simp only [Bool.false_eq_true, if_false] at hbit
        clear g1 hR hS hb hlt256 hk hlt d0 HOn HOff
        go_wp2_with (go_at_call 57; refine (CB.out _).mono ?_; rintro e w' ⟨rfl, rfl⟩)
        go_roundw
        case rel => exact ⟨k + 1, by have := HK.out; omega, by go_num, Lib.hid (by rw [HN.out]; exact HL.out), HBel⟩
        case measure => simp [intOf]; omega
      · have HN := Lib.hid (HOn.out g1)
        rw [if_pos g1] at hbit
        clear g1 hR hS hb hlt256 hk hlt HOn HOff
        go_wp2_with (first
          | (go_at_call 57; refine (CB.out _).mono ?_; rintro e w' ⟨rfl, rfl⟩)
          | (go_at_call 58; refine (CR.out _ HTr.out.2).mono ?_; rintro e w' ⟨rfl, rfl⟩)
          | (go_at_call 16; refine (CO.out _ HTr.out.1).mono ?_; rintro e w' ⟨rfl, rfl⟩)
          | (at_builtin; refine wpList_appStr rfl _ _ _ rfl w.heap.size u5 (nmS p u k) rfl (Strs.alloc HL.out _) ⟨wr.heap.size, 0, none⟩ 1 S rfl (cells_of_blk (Blk.new wr _ #[.string S] _)) (by have := HLn.out; have := HK.out; omega) (by have := HBs.out; simp; omega) ?_))
        intro v1 w1 h1 hb1
        have H1 := Lib.hid h1
        have HB1 := Lib.hid ((Below.alloc0 HBel.out _).trans hb1)
        clear h1 hb1 hbit d0
        go_wp2
        go_roundw
        case rel => exact ⟨k + 1, by have := HK.out; omega, by go_num, Lib.hid (by rw [HN.out]; exact H1.out), HB1⟩
        case measure => simp [intOf]; omega
    · obtain rfl : k = 8 := by omega
      obtain ⟨A, c, rfl, hrd⟩ := HL.out.read
      have hjl : Lib.join ((nmS p u 8).map (·.data.toList)) (⟨#[44]⟩ : ByteArray).data.toList = T := by rw [nmS_data, ← HTx.out]; rfl
      have hle := (back_txt p HP.out u).1
      rw [HTx.out] at hle
      by_cases h0 : 0 < (nmS p u 8).length
      · obtain ⟨g, rfl, hg, hc, hcell⟩ := hrd h0
        have CJ := Tryd.strings_Join g 0 c (nmS p u 8) ⟨#[44]⟩ wr hcell hg (by have := nmS_len p u 8; omega) hc (by rw [hjl]; omega)
        rw [hjl] at CJ
        have HJ := Lib.hid CJ
        clear CJ hcell hrd hjl
        go_wp2_with fail
        refine HJ.out.mono ?_
        rintro e w2 ⟨rfl, hb2⟩
        go_wp2
        go_ret
        exact ⟨rfl, Below.trans0 HBel.out hb2⟩
      · have hn : (nmS p u 8).length = 0 := by omega
        have ht : T = [] := by
          rw [← hjl, List.eq_nil_of_length_eq_zero hn]; rfl
        have HT2 := Lib.hid ht
        rw [hn]
        have CJ := Lib.hid (Tryd.strings_Join_none A c ⟨#[44]⟩ wr)
        clear hrd hjl ht
        go_wp2_with fail
        refine CJ.out.mono ?_
        rintro e w2 ⟨rfl, rfl⟩
        go_wp2
        go_ret
        exact ⟨by rw [HT2.out]; rfl, HBel.out⟩
theorem regNames_le : ∀ r : Fin 12, (regNames.getD r.val []).length ≤ 2 := by decide
theorem byteStr_size (l : List UInt8) : (byteStr l).size = l.length := by simp [byteStr, ByteArray.size]
def bitA (k : Nat) : Int := if k < 8 then ((2 ^ k : Nat) : Int) else 0
theorem bitA_next (k : Nat) (h : k < 8) : IntKind.u8.wrap (bitA k * 2) = bitA (k + 1) := by
  rcases (show k = 0 ∨ k = 1 ∨ k = 2 ∨ k = 3 ∨ k = 4 ∨ k = 5 ∨ k = 6 ∨ k = 7 by omega) with rfl | rfl | rfl | rfl | rfl | rfl | rfl | rfl <;> decide
theorem byteStr_app (a b : List UInt8) : byteStr a ++ byteStr b = byteStr (a ++ b) := by
  unfold byteStr
  apply ByteArray.ext
  simp
set_option maxRecDepth 100000 in
set_option maxHeartbeats 4000000 in
theorem refText_any (p : Nat) (hp : p < 256) (u : Bool) (w : World) :
    Calls Tryd.prog 47 #[.int .u8 (p : Int), .bool u] w fun e w' => e = .returned (.string (byteStr (txtL p u 8))) ∧ Below w.heap.size w w' := by
  have HP := Lib.hid hp
  have p0 : (0 : Int) ≤ (p : Int) := by omega
  have p1 : (p : Int) < 256 := by omega
  obtain ⟨T, hTx⟩ : ∃ T, txtL p u 8 = T := ⟨_, rfl⟩
  have HTx := Lib.hid hTx
  rw [hTx]
  clear hp hTx
  go_enter Tryd.func47, Tryd.ntmps47
  go_wp2
  go_loopw [5, 6, 7] (fun u5 u6 u7 wr => ∃ k : Nat, k ≤ 8 ∧ u7 = .int .i64 k ∧ u6 = .int .u8 (bitA k) ∧ u5 = .string (byteStr (txtL p u k)) ∧ Hid (Below w.heap.size w wr)) (fun _ _ u7 _ => 8 - (intOf u7).toNat)
  case atStart => exact ⟨0, Nat.zero_le _, rfl, rfl, rfl, Lib.hid (Below.refl _ _)⟩
  case round =>
    obtain ⟨k, hk, rfl, rfl, rfl, HBel⟩ := hrel
    by_cases hlt : k < 8
    · obtain ⟨hst, hle⟩ := step_txt p HP.out u k hlt
      have hbit := quo_bit p k HP.out hlt
      have hnx := bitA_next k hlt
      have hpos : (0 : Int) < ((2 ^ k : Nat) : Int) := by have : 0 < 2 ^ k := Nat.pow_pos (by decide); omega
      have hlt256 := pow_lt8 k hlt
      have hba : bitA k = ((2 ^ k : Nat) : Int) := by unfold bitA; rw [if_pos hlt]
      rw [← hba] at hbit hpos
      have CR := Lib.hid (fun w => code17_any k hlt u w)
      have CO := Lib.hid (fun w => refReg_any (regN k u) (regN_lt k hlt u) w)
      have hb256 : bitA k < 256 := by rw [hba]; omega
      obtain ⟨b, hb⟩ : ∃ b : Int, bitA k = b := ⟨_, rfl⟩
      rw [hb] at hbit hpos hnx hb256
      rw [hb]
      have hb0 : 0 ≤ b := by omega
      obtain ⟨b2, hb2⟩ : ∃ b2 : Int, bitA (k + 1) = b2 := ⟨_, rfl⟩
      rw [hb2] at hnx
      have HB2n := Lib.hid hb2
      have HSt := Lib.hid hst
      have HLe := Lib.hid hle
      have HK := Lib.hid hk
      have HNm : Hid (regS (regN k u) = byteStr (regNames.getD (regN k u) [])) := Lib.hid rfl
      have hMl := regNames_le ⟨regN k u, regN_lt k hlt u⟩
      simp only at hMl
      obtain ⟨M, hM⟩ : ∃ M, regNames.getD (regN k u) [] = M := ⟨_, rfl⟩
      rw [hM] at hMl
      obtain ⟨S, hS⟩ : ∃ S, txtL p u k = S := ⟨_, rfl⟩
      obtain ⟨NM, hNM⟩ : ∃ NM, regS (regN k u) = NM := ⟨_, rfl⟩
      rw [hNM] at CO HNm
      rw [hM] at HSt HNm
      rw [hS] at HSt HLe ⊢
      obtain ⟨R, hR⟩ : ∃ R, regN k u = R := ⟨_, rfl⟩
      rw [hR] at CR CO
      have k0 : (0 : Int) ≤ (k : Int) := by omega
      have k1 : (k : Int) < 8 := by omega
      have hX : ∃ X : Int, (p : Int) / b = X := ⟨_, rfl⟩
      obtain ⟨X, hX⟩ := hX
      have hX0 : 0 ≤ X := by rw [← hX]; exact Int.ediv_nonneg p0 hb0
      have hX1 : X < 256 := by have := Int.ediv_le_self b p0; omega
      have hXt : (p : Int).tdiv b = X := by rw [Int.tdiv_eq_ediv_of_nonneg p0, hX]
      rw [hX] at hbit
      have eb : (b == 0) = false := by have : ¬ b = 0 := by omega
                                       simpa using this
      clear hX hb hb2 hba hst hle hM hS hNM hR
      have hn1 : ¬ 9223372036854775807 < NM.size := by rw [HNm.out, byteStr_size]; omega
      have hn2 : ¬ 9223372036854775807 < (byteStr S).size + 1 := by have := HLe.out; rw [byteStr_size]; omega
      have hn3 : ¬ 9223372036854775807 < (byteStr S).size + 1 + NM.size := by have := HLe.out; rw [HNm.out, byteStr_size, byteStr_size]; omega
      clear hMl
      cases g1 : bitN p k
      · have HN : Hid (txtL p u (k + 1) = S) := Lib.hid (by rw [HSt.out, g1]; rfl)
        rw [g1] at hbit
        simp only [Bool.false_eq_true, if_false] at hbit
        clear g1 hlt256 hk hlt HSt
        go_wp2
        go_roundw
        case rel => exact ⟨k + 1, by have := HK.out; omega, by go_num, by rw [HB2n.out], by rw [HN.out], HBel⟩
        case measure => simp [intOf]; omega
      · rw [g1] at hbit
        simp only [if_true] at hbit
        by_cases hS0 : S = []
        · have HN : Hid (txtL p u (k + 1) = M) := Lib.hid (by rw [HSt.out, g1, if_pos rfl, if_pos hS0])
          subst hS0
          rw [show byteStr [] = (⟨#[]⟩ : ByteArray) from rfl]
          have hadd : (⟨#[]⟩ : ByteArray) ++ NM = byteStr M := by rw [HNm.out]; exact byteStr_app [] M
          have HAdd := Lib.hid hadd
          clear g1 hlt256 hk hlt HSt hadd
          go_wp2_with fail
          refine (CR.out _).mono ?_
          rintro e w1 ⟨rfl, hb1⟩
          have HB1 := Lib.hid (Below.trans0 HBel.out hb1)
          clear hb1
          go_wp2_with fail
          refine (CO.out _).mono ?_
          rintro e w2 ⟨rfl, hb1⟩
          have HB2 := Lib.hid (Below.trans0 HB1.out hb1)
          clear hb1
          go_wp2
          go_roundw
          case rel => exact ⟨k + 1, by have := HK.out; omega, by go_num, by rw [HB2n.out], by rw [HN.out, ← HAdd.out], HB2⟩
          case measure => simp [intOf]; omega
        · have HN : Hid (txtL p u (k + 1) = S ++ 44 :: M) := Lib.hid (by rw [HSt.out, g1, if_pos rfl, if_neg hS0])
          have hE : (byteStr S).toList.isEmpty = false := by
            rw [ByteArray.toList_eq]
            cases S with
            | nil => exact absurd rfl hS0
            | cons a b => rfl
          have hE2 : (byteStr S).toList = [] ↔ False := by
            rw [ByteArray.toList_eq]
            cases S with
            | nil => exact absurd rfl hS0
            | cons a b => simp [byteStr]
          have hadd : byteStr S ++ (⟨#[44]⟩ : ByteArray) ++ NM = byteStr (S ++ 44 :: M) := by
            rw [HNm.out, show (⟨#[44]⟩ : ByteArray) = byteStr [44] from rfl, byteStr_app, byteStr_app, List.append_assoc]; rfl
          have HAdd := Lib.hid hadd
          clear g1 hlt256 hk hlt HSt hadd hS0
          go_wp2_with fail
          refine (CR.out _).mono ?_
          rintro e w1 ⟨rfl, hb1⟩
          have HB1 := Lib.hid (Below.trans0 HBel.out hb1)
          clear hb1
          go_wp2_with fail
          refine (CO.out _).mono ?_
          rintro e w2 ⟨rfl, hb1⟩
          have HB2 := Lib.hid (Below.trans0 HB1.out hb1)
          clear hb1
          go_wp2
          go_roundw
          case rel => exact ⟨k + 1, by have := HK.out; omega, by go_num, by rw [HB2n.out], by rw [HN.out, ← HAdd.out], HB2⟩
          case measure => simp [intOf]; omega
    · obtain rfl : k = 8 := by omega
      go_wp2
      go_ret
      exact ⟨congrArg (fun l => Ending.returned (Value.string (byteStr l))) HTx.out, HBel.out⟩
end Go.Proofs.YtfkcogccbeolfaaDoor
