/- DlE, DlF, RamN, RamW, DlG, DlH in one text. -/
import Derived.Test.YtljhfalgplihhaaGreatDoorDlD
import Derived.Test.YtljhfalgplihhaaGreatDoorDsZ
import Derived.Test.YtljhfalgplihhaaGreatDoorDigPairs
import Derived.Test.YtljhfalgplihhaaGreatDoorGLst
import Derived.Test.YtljhfalgplihhaaGreatDoorGRam
import Derived.Laws.MakeOwn
import Derived.Great.BuildSlice
import Derived.Deep.MidRow
import Derived.Test.YtljhfalgplihhaaGreatDoorRws
import Derived.Test.YtljhfalgplihhaaGreatDoorEq
import Derived.Deep.QuietTactic
import Derived.BigQuiet
import Derived.Outline
import Derived.ChangeKeysEq
import Derived.Deep.Strs
import Derived.Laws.CopyOwn
namespace Go.Proofs.YtljhfalgplihhaaGreatDoor
open Go.ChangeShapes Go.WideShapes Go.ChangeAt Go.RowKit
set_option linter.unusedVariables false

def blkS (q : Nat) : ByteArray := ⟨(Lib.repeatL [32] q).toArray⟩
/-- A line: the address, a blank, the bytes, q blanks, the text. -/
def linS (D P T : ByteArray) (q : Nat) : ByteArray := (((D ++ ⟨#[32]⟩) ++ P) ++ blkS q) ++ T
/-- The bytes of an instruction at an address. -/
def insB (f : Nat → Int) (a : Nat) : List Int := lstF (partF f a) 5
def insX (f : Nat → Int) (a : Nat) : List Int := (insB f a).take (inLn (insB f a))
/-- The text of the instruction at an address. -/
noncomputable def insT (f : Nat → Int) (a : Nat) : ByteArray :=
  textT (eOp (inE (insB f a))) (eMode (inE (insB f a))) (eReg (inE (insB f a))) (inPo (insB f a)).toNat (inVa (insB f a)) (inLn (insB f a) : Int) (a : Int) (insX f a)
noncomputable def insL (f : Nat → Int) (a : Nat) : ByteArray := linS (strOfNums (written 16 (a : Int) 4)) (strOfNums (pairsOf (insX f a))) (insT f a) (11 - 2 * inLn (insB f a))
def insN (f : Nat → Int) (a : Nat) : Nat := (a + inLn (insB f a)) % 65536
theorem pairsOf_lenL (xs : List Int) : (pairsOf xs).length = 2 * xs.length := by
  have := pairsTo_len xs xs.length (Nat.le_refl _)
  unfold pairsTo at this
  rw [List.take_length] at this
  exact this
theorem insX_len (f : Nat → Int) (hb : ∀ a, 0 ≤ f a ∧ f a < 256) (a : Nat) : (insX f a).length = inLn (insB f a) ∧ 1 ≤ inLn (insB f a) ∧ inLn (insB f a) ≤ 5 := by
  have h := inLn_le5 (lstF_wf (partF f a) 5 (fun x => hb _))
  refine ⟨?_, h⟩
  unfold insX insB
  rw [List.length_take, lstF_len]
  omega
theorem addr4 (a : Nat) (ha : a < 65536) : (strOfNums (written 16 (a : Int) 4)).size = 4 := by
  rw [strOfNums_size, written_eq (by decide) ⟨Nat.le_refl 4, qv_small 16 (a : Int) 4 (by omega) (by omega), .inl rfl⟩]
  rfl
theorem textT_size (o m r : Int) (b : Nat) (v l a : Int) (X : List Int) (hb : b < 256) (v0 : 0 ≤ v) (v1 : v < 65536) (hX : X.length ≤ 5) (hwf : ∀ k, 0 ≤ iat X k ∧ iat X k < 256) : (textT o m r b v l a X).size ≤ 2000 := by
  have s1 := oprT_size m r b v l a hb v0 v1
  have s2 := nmT_size o r
  have s3 := rawT_size X (by omega) hwf
  have e1 : (⟨#[32]⟩ : ByteArray).size = 1 := rfl
  have e2 : (⟨#[70, 67, 66, 32]⟩ : ByteArray).size = 4 := rfl
  unfold textT lineT
  split
  · split
    · omega
    · rw [ByteArray.size_append, ByteArray.size_append]; omega
  · rw [ByteArray.size_append]; omega
theorem blkS_size (q : Nat) : (blkS q).size = q := by
  have : (Lib.repeatL [32] q).length = q * 1 := Lib.repeatL_length [32] q
  unfold blkS
  show (Lib.repeatL [32] q).toArray.size = q
  rw [List.size_toArray]
  omega
set_option maxRecDepth 100000 in
set_option maxHeartbeats 4000000 in
theorem line_any (m : Nat) (p : Nat → Option Nat) (rom : Int) (f : Nat → Int) (a : Nat) (w : World) (h : Ra w m p rom f) (ha : a < 65536) (hD : DisAt w) :
    Calls Tryz.prog 11 #[.int .u16 (a : Int), .iface 28 (.pointer (some ⟨m, 0, none⟩))] w fun e w' => e = .returned (.tuple #[.string (insL f a), .int .u16 (insN f a : Int)]) ∧ Below w.heap.size w w' := by
  have hwf := lstF_wf (partF f a) 5 (fun x => h.byt _)
  have hl5 := insX_len f h.byt a
  have CO := decode_any m p rom f a w h ha hD.2.2.1 hD.2.2.2
  have hok : inOk (insB f a) = true := by unfold inOk insB; rw [lstF_len]; exact decide_eq_true hl5.2.2
  have hag : inAgg (insB f a) = iC (inPg (insB f a) : Int) (inCo (insB f a)) (eOp (inE (insB f a))) (eMode (inE (insB f a))) (eReg (inE (insB f a))) (inPo (insB f a)) (inVa (insB f a)) (inLn (insB f a) : Int) := by unfold inAgg insC; rw [if_pos hok]
  have hpo := inPo_range hwf
  have hpt := put_take hwf hok
  have hpk := putOk_self hwf hok
  have hco := inCo_range hwf
  have hva := va_range hwf
  have hwT : ∀ z ∈ insX f a, (Lit.int .u8 z).wf = true := fun z hz => hwf z (List.mem_of_mem_take hz)
  have hX : (lstF (partF f a) 5).take (inLn (lstF (partF f a) 5)) = insX f a := rfl
  have hT : insT f a = textT (eOp (inE (insB f a))) (eMode (inE (insB f a))) (eReg (inE (insB f a))) (inPo (insB f a)).toNat (inVa (insB f a)) (inLn (insB f a) : Int) (a : Int) (insX f a) := rfl
  have hL : insL f a = linS (strOfNums (written 16 (a : Int) 4)) (strOfNums (pairsOf (insX f a))) (insT f a) (11 - 2 * inLn (insB f a)) := rfl
  have hN : insN f a = (a + inLn (insB f a)) % 65536 := rfl
  rw [hX] at hpt hpk
  change putX (inPg (insB f a) : Int) (inCo (insB f a)) (eMode (inE (insB f a))) (inPo (insB f a)).toNat (inVa (insB f a)) = insX f a at hpt
  change putOk (inPg (insB f a) : Int) (inCo (insB f a)) (eOp (inE (insB f a))) (eMode (inE (insB f a))) (eReg (inE (insB f a))) (inPo (insB f a)).toNat (inVa (insB f a)) (inLn (insB f a) : Int) (insX f a) = true at hpk
  change 0 ≤ inCo (insB f a) ∧ inCo (insB f a) < 256 at hco
  change 0 ≤ inVa (insB f a) ∧ inVa (insB f a) < 65536 at hva
  change 0 ≤ inPo (insB f a) ∧ inPo (insB f a) < 256 at hpo
  have CO2 : Calls Tryz.prog 23 #[.int .u16 (a : Int), .iface 28 (.pointer (some ⟨m, 0, none⟩))] w (fun e w' => e = .returned (.agg (inAgg (insB f a))) ∧ Below w.heap.size w w') := CO
  clear CO hX
  rw [hL, hN, hT]
  obtain ⟨b, hb⟩ : ∃ b : Nat, (inPo (insB f a)).toNat = b := ⟨_, rfl⟩
  have hbi : inPo (insB f a) = (b : Int) := by omega
  have hb256 : b < 256 := by omega
  rw [hb] at hpt hpk ⊢
  rw [hag, hbi] at CO2
  clear hL hN hT hag hok hb hbi hpo hwf
  generalize insX f a = X at *
  generalize (inPg (insB f a) : Int) = pg at *
  generalize inCo (insB f a) = co at *
  generalize (eOp (inE (insB f a)) : Int) = o at *
  generalize (eMode (inE (insB f a)) : Int) = md at *
  generalize (eReg (inE (insB f a)) : Int) = r at *
  generalize inVa (insB f a) = va at *
  generalize inLn (insB f a) = ln at *
  obtain ⟨hXl, hl1, hl5⟩ := hl5
  have CT0 := fun u (hu : Below w.heap.size w u) => disText_any pg co o md r va (ln : Int) (a : Int) b hb256 hco.1 hco.2 u (by omega) (by omega) hva.1 hva.2 (by omega) (by omega) (hD.below hu) (by rw [hpt]; exact hpk) (by rw [hpt]; exact iat_range8' hwT)
  rw [hpt] at CT0
  have CP0 := fun u (hu : Below w.heap.size w u) => put_any pg co o md r va (ln : Int) b hco.1 hco.2 hb256 hva.1 hva.2 u (hD.below hu).2.2.1 (hD.below hu).2.2.2
  rw [hpt, hpk] at CP0
  have CN := Lib.hid (fun u => nextI_any pg co o md r (b : Int) va (ln : Int) (a : Int) (by omega) (by omega) (by omega) (by omega) u)
  have CH := Lib.hid (fun u => hex_any (a : Int) 4 u (by omega) (by omega))
  have CPr := Lib.hid (fun A c u (hI : Ints .u8 u u.heap.size A X.length X) => pairs_any A X.length c X u hI (by omega))
  have hPs : (strOfNums (pairsOf X)).size = 2 * ln := by rw [strOfNums_size, pairsOf_lenL, hXl]
  have CB := Lib.hid (fun u => Tryz.strings_Repeat ⟨#[32]⟩ (11 - 2 * ln) u (by omega) (by have : (⟨#[32]⟩ : ByteArray).size = 1 := rfl; rw [this]; omega))
  have hnx := Lib.hid (show ((a : Int) + (ln : Int)) % 65536 = (((a + ln) % 65536 : Nat) : Int) by omega)
  have hPs3 := Lib.hid hPs
  have hXL := Lib.hid hXl
  clear hXl
  have hTs := textT_size o md r b va (ln : Int) (a : Int) X hb256 hva.1 hva.2 (by have := hXL.out; omega) (iat_range8' hwT)
  have hDs := addr4 a ha
  have hBs := blkS_size (11 - 2 * ln)
  have HZ := Lib.hid (show (strOfNums (written 16 (a : Int) 4)).size + 1 ≤ 9000 ∧ (strOfNums (written 16 (a : Int) 4)).size + 1 + (strOfNums (pairsOf X)).size ≤ 9000 ∧ (strOfNums (written 16 (a : Int) 4)).size + 1 + (strOfNums (pairsOf X)).size + (blkS (11 - 2 * ln)).size ≤ 9000 ∧ (strOfNums (written 16 (a : Int) 4)).size + 1 + (strOfNums (pairsOf X)).size + (blkS (11 - 2 * ln)).size + (textT o md r b va (ln : Int) (a : Int) X).size ≤ 9000 from by omega)
  clear hTs hDs hBs hPs
  have CT := Lib.hid CT0
  have CP := Lib.hid CP0
  have CO := Lib.hid CO2
  clear CT0 CP0 CO2 hpt hpk hwT hva hco h hD
  generalize textT o md r b va (ln : Int) (a : Int) X = T at CT HZ ⊢
  generalize strOfNums (pairsOf X) = P at CPr hPs3 HZ ⊢
  have hD4 : clampW 4 = 4 := rfl
  rw [hD4] at CH
  clear hD4
  generalize strOfNums (written 16 (a : Int) 4) = D at CH HZ ⊢
  unfold linS
  change Hid (∀ u, Calls _ _ _ u fun e w' => e = .returned (.string (blkS (11 - 2 * ln))) ∧ _) at CB
  generalize blkS (11 - 2 * ln) = B at CB HZ ⊢
  go_enter Tryz.func11, Tryz.ntmps11
  go_wp2_with fail
  refine CO.out.mono ?_
  rintro e w1 ⟨rfl, hb1⟩
  have HB1 := Lib.hid (Below.alloc0 hb1 (Obj.cells (iC pg co o md r (b : Int) va (ln : Int)) 37))
  have HS1 := Lib.hid (Blk.new w1 37 (iC pg co o md r (b : Int) va (ln : Int)) (0, 0))
  clear hb1
  go_upto_region 2 with (fail)
  obtain ⟨g, hg⟩ : ∃ g, w1.heap.size = g := ⟨_, rfl⟩
  rw [hg] at HS1 ⊢
  generalize w1.alloc (Obj.cells (iC pg co o md r (b : Int) va (ln : Int)) 37) = W1 at HB1 HS1 ⊢
  clear hg
  have S0 : Hid (∀ wx, Below W1.heap.size W1 wx → (fun w' : World => w'.cell? ⟨g, 0, none⟩ = some (.int .i64 pg) ∧ w'.cell? ⟨g, 1, none⟩ = some (.int .u8 co) ∧ w'.cell? ⟨g, 2, none⟩ = some (.int .i64 o) ∧ w'.cell? ⟨g, 3, none⟩ = some (.int .i64 md) ∧ w'.cell? ⟨g, 4, none⟩ = some (.int .i64 r) ∧ w'.cell? ⟨g, 5, none⟩ = some (.int .u8 (b : Int)) ∧ w'.cell? ⟨g, 6, none⟩ = some (.int .u16 va) ∧ w'.cell? ⟨g, 7, none⟩ = some (.int .i64 (ln : Int))) wx) := Lib.hid (fun wx hb => (Blk.below HS1.out hb HS1.out.lt).s8)
  obtain ⟨c0, c1, c2, c3, c4, c5, c6, c7⟩ := S0.out W1 (Below.refl _ _)
  go_wp2_with fail
  refine (CP.out _ HB1.out).mono ?_
  rintro e w2 ⟨A, cp, rfl, hI2, hb2⟩
  simp only [if_true] at hI2 ⊢
  clear c0 c1 c2 c3 c4 c5 c6 c7
  have B2 := Lib.hid hb2
  go_wp2_with fail
  refine (CPr.out A cp w2 hI2).mono ?_
  rintro e w3 ⟨rfl, hb3⟩
  have B3 := Lib.hid (Below.trans0 B2.out hb3)
  clear hb2 hb3 hI2
  go_wp2_with fail
  have hq : wrap64 (11 - (P.size : Int)) = ((11 - 2 * ln : Nat) : Int) := by rw [hPs3.out]; unfold wrap64; omega
  rw [hq]
  clear hq hPs3
  refine (CB.out w3).mono ?_
  rintro e w4 ⟨rfl, hb4⟩
  have B0 := Lib.hid (Below.trans0 B3.out hb4)
  clear hb4
  go_upto_region 5 with (fail)
  have B0 := Lib.hid (Below.drew0 B0.out)
  have SK := Lib.hid (S0.out _ B0.out)
  have HDW := Lib.hid (fun u (hu : Below W1.heap.size W1 u) => Below.trans0 HB1.out hu)
  have z1 : ¬ 9223372036854775807 < D.size + 1 := by have := HZ.out; omega
  have z2 : ¬ 9223372036854775807 < D.size + 1 + P.size := by have := HZ.out; omega
  have z3 : ¬ 9223372036854775807 < D.size + 1 + P.size + B.size := by have := HZ.out; omega
  have z4 : ¬ 9223372036854775807 < D.size + 1 + P.size + B.size + T.size := by have := HZ.out; omega
  have aw : IntKind.u64.wrap (a : Int) = (a : Int) := by rw [IntKind.wrap_u64]; omega
  refine wp_region_noPanic ?_
  refine wp_region_held_drew (S := (fun w' : World => w'.cell? ⟨g, 0, none⟩ = some (.int .i64 pg) ∧ w'.cell? ⟨g, 1, none⟩ = some (.int .u8 co) ∧ w'.cell? ⟨g, 2, none⟩ = some (.int .i64 o) ∧ w'.cell? ⟨g, 3, none⟩ = some (.int .i64 md) ∧ w'.cell? ⟨g, 4, none⟩ = some (.int .i64 r) ∧ w'.cell? ⟨g, 5, none⟩ = some (.int .u8 (b : Int)) ∧ w'.cell? ⟨g, 6, none⟩ = some (.int .u16 va) ∧ w'.cell? ⟨g, 7, none⟩ = some (.int .i64 (ln : Int)))) (by kernel_rfl) ?_ (fun hH0 => ?_)
  · (try dsimp only); with_reducible exact SK.out
  refine wpAnyH_take (i := 0) (oi := ({ dst := some 25, op := Op.move (Operand.tmp 0), type := 25, pos := "dis.go:65", after := #[], guard := none } : Oper)) (v := ?_) rfl (by kernel_rfl) (by kernel_rfl) (by kernel_rfl) (fun _ _ _ h => h) (Or.inl ⟨by rfl, ?_⟩) (by assumption) ?_
  rotate_left 1
  · (intro w hSw; (try dsimp only at hSw); go_simp; (try with_reducible rfl))
  (try simp only [Act.put, List.setIfInBounds_toArray, List.set_cons_zero, List.set_cons_succ])
  refine wpAnyH_take (i := 1) (oi := ({ dst := some 26, op := Op.convert 25 41 (Operand.tmp 25), type := 41, pos := "dis.go:65", after := #[{ on := 0, ground := Ground.data }], guard := none } : Oper)) (v := ?_) rfl (by kernel_rfl) (by kernel_rfl) (by kernel_rfl) (fun _ _ _ h => h) (Or.inl ⟨by rfl, ?_⟩) (by assumption) ?_
  rotate_left 1
  · (intro w hSw; (try dsimp only at hSw); go_simp; (try with_reducible rfl))
  (try simp only [Act.put, List.setIfInBounds_toArray, List.set_cons_zero, List.set_cons_succ])
  refine wpAnyH_take (i := 4) (oi := ({ dst := some 29, op := Op.move (Operand.tmp 9), type := 9, pos := "dis.go:65", after := #[], guard := none } : Oper)) (v := ?_) rfl (by kernel_rfl) (by kernel_rfl) (by kernel_rfl) (fun _ _ _ h => h) (Or.inl ⟨by rfl, ?_⟩) (by assumption) ?_
  rotate_left 1
  · (intro w hSw; (try dsimp only at hSw); go_simp; (try with_reducible rfl))
  (try simp only [Act.put, List.setIfInBounds_toArray, List.set_cons_zero, List.set_cons_succ])
  refine wpAnyH_take (i := 6) (oi := ({ dst := some 31, op := Op.move (Operand.tmp 10), type := 9, pos := "dis.go:65", after := #[], guard := none } : Oper)) (v := ?_) rfl (by kernel_rfl) (by kernel_rfl) (by kernel_rfl) (fun _ _ _ h => h) (Or.inl ⟨by rfl, ?_⟩) (by assumption) ?_
  rotate_left 1
  · (intro w hSw; (try dsimp only at hSw); go_simp; (try with_reducible rfl))
  (try simp only [Act.put, List.setIfInBounds_toArray, List.set_cons_zero, List.set_cons_succ])
  refine wpAnyH_take (i := 8) (oi := ({ dst := some 33, op := Op.load 37 (Operand.tmp 6), type := 37, pos := "dis.go:65", after := #[], guard := none } : Oper)) (v := ?_) rfl (by kernel_rfl) (by kernel_rfl) (by kernel_rfl) (fun _ _ _ h => h) (Or.inl ⟨by rfl, ?_⟩) (by assumption) ?_
  rotate_left 1
  · (intro w hSw; (try dsimp only at hSw); go_simp; (try with_reducible rfl))
  (try simp only [Act.put, List.setIfInBounds_toArray, List.set_cons_zero, List.set_cons_succ])
  refine wpAnyH_take (i := 9) (oi := ({ dst := some 34, op := Op.move (Operand.tmp 0), type := 25, pos := "dis.go:65", after := #[], guard := none } : Oper)) (v := ?_) rfl (by kernel_rfl) (by kernel_rfl) (by kernel_rfl) (fun _ _ _ h => h) (Or.inl ⟨by rfl, ?_⟩) (by assumption) ?_
  rotate_left 1
  · (intro w hSw; (try dsimp only at hSw); go_simp; (try with_reducible rfl))
  (try simp only [Act.put, List.setIfInBounds_toArray, List.set_cons_zero, List.set_cons_succ])
  refine wpAnyH_take (i := 12) (oi := ({ dst := some 37, op := Op.load 37 (Operand.tmp 6), type := 37, pos := "dis.go:65", after := #[], guard := none } : Oper)) (v := ?_) rfl (by kernel_rfl) (by kernel_rfl) (by kernel_rfl) (fun _ _ _ h => h) (Or.inl ⟨by rfl, ?_⟩) (by assumption) ?_
  rotate_left 1
  · (intro w hSw; (try dsimp only at hSw); go_simp; (try with_reducible rfl))
  (try simp only [Act.put, List.setIfInBounds_toArray, List.set_cons_zero, List.set_cons_succ])
  refine wpAnyH_take (i := 13) (oi := ({ dst := some 38, op := Op.move (Operand.tmp 0), type := 25, pos := "dis.go:65", after := #[], guard := none } : Oper)) (v := ?_) rfl (by kernel_rfl) (by kernel_rfl) (by kernel_rfl) (fun _ _ _ h => h) (Or.inl ⟨by rfl, ?_⟩) (by assumption) ?_
  rotate_left 1
  · (intro w hSw; (try dsimp only at hSw); go_simp; (try with_reducible rfl))
  (try simp only [Act.put, List.setIfInBounds_toArray, List.set_cons_zero, List.set_cons_succ])
  refine wpAnyH_ready (rs := [2]) (by kernel_rfl) (by simp) ?_
  refine AllReadyH.cons (o := ({ dst := some 27, op := Op.call { callee := Callee.value (Operand.func 27), args := #[Operand.tmp 26, Operand.const (Value.int IntKind.i64 4)], argTypes := #[41, 3] }, type := 9, pos := "dis.go:65", after := #[{ on := 1, ground := Ground.data }], guard := none } : Oper)) rfl (fun K hK => ?_) ?_
  rotate_left 1
  · exact AllReadyH.nil
  go_simp
  go_at_call 27
  ((with_reducible refine (CH.out _).mono ?_); rintro e v1 ⟨rfl, hb⟩; have B1 := Lib.hid (Below.trans0 B0.out hb); have S1 := Lib.hid (S0.out _ B1.out); clear hb)
  first | (refine hK.out _ _ ?_ (fun hH1 => ?_)) | (go_wp2_with fail; refine hK.out _ _ ?_ (fun hH1 => ?_))
  · (try dsimp only); with_reducible exact S1.out
  clear hK K hH0
  (try simp only [Act.put, List.setIfInBounds_toArray, List.set_cons_zero, List.set_cons_succ])
  refine wpAnyH_take (i := 3) (oi := ({ dst := some 28, op := Op.binOp BinOp.add 9 (Operand.tmp 27) (Operand.const (Value.string { data := #[32] })) 9, type := 9, pos := "dis.go:65", after := #[{ on := 2, ground := Ground.data }], guard := none } : Oper)) (v := ?_) rfl (by kernel_rfl) (by kernel_rfl) (by kernel_rfl) (fun _ _ _ h => h) (Or.inl ⟨by rfl, ?_⟩) (by assumption) ?_
  rotate_left 1
  · (intro w hSw; (try dsimp only at hSw); go_simp; (try with_reducible rfl))
  (try simp only [Act.put, List.setIfInBounds_toArray, List.set_cons_zero, List.set_cons_succ])
  refine wpAnyH_take (i := 5) (oi := ({ dst := some 30, op := Op.binOp BinOp.add 9 (Operand.tmp 28) (Operand.tmp 29) 9, type := 9, pos := "dis.go:65", after := #[{ on := 3, ground := Ground.data }, { on := 4, ground := Ground.data }], guard := none } : Oper)) (v := ?_) rfl (by kernel_rfl) (by kernel_rfl) (by kernel_rfl) (fun _ _ _ h => h) (Or.inl ⟨by rfl, ?_⟩) (by assumption) ?_
  rotate_left 1
  · (intro w hSw; (try dsimp only at hSw); go_simp; (try with_reducible rfl))
  (try simp only [Act.put, List.setIfInBounds_toArray, List.set_cons_zero, List.set_cons_succ])
  refine wpAnyH_take (i := 7) (oi := ({ dst := some 32, op := Op.binOp BinOp.add 9 (Operand.tmp 30) (Operand.tmp 31) 9, type := 9, pos := "dis.go:65", after := #[{ on := 5, ground := Ground.data }, { on := 6, ground := Ground.data }], guard := none } : Oper)) (v := ?_) rfl (by kernel_rfl) (by kernel_rfl) (by kernel_rfl) (fun _ _ _ h => h) (Or.inl ⟨by rfl, ?_⟩) (by assumption) ?_
  rotate_left 1
  · (intro w hSw; (try dsimp only at hSw); go_simp; (try with_reducible rfl))
  (try simp only [Act.put, List.setIfInBounds_toArray, List.set_cons_zero, List.set_cons_succ])
  refine wpAnyH_ready (rs := [10]) (by kernel_rfl) (by simp) ?_
  refine AllReadyH.cons (o := ({ dst := some 35, op := Op.call { callee := Callee.value (Operand.func 28), args := #[Operand.tmp 33, Operand.tmp 34], argTypes := #[37, 25] }, type := 9, pos := "dis.go:65", after := #[{ on := 8, ground := Ground.data }, { on := 9, ground := Ground.data }, { on := 2, ground := Ground.chain }], guard := none } : Oper)) rfl (fun K hK => ?_) ?_
  rotate_left 1
  · exact AllReadyH.nil
  go_simp
  go_at_call 28
  ((with_reducible refine (CT.out _ (HDW.out _ B1.out)).mono ?_); rintro e v2 ⟨rfl, hb⟩; have B2 := Lib.hid (Below.trans0 B1.out hb); have S2 := Lib.hid (S0.out _ B2.out); clear hb)
  first | (refine hK.out _ _ ?_ (fun hH2 => ?_)) | (go_wp2_with fail; refine hK.out _ _ ?_ (fun hH2 => ?_))
  · (try dsimp only); with_reducible exact S2.out
  clear hK K hH1
  (try simp only [Act.put, List.setIfInBounds_toArray, List.set_cons_zero, List.set_cons_succ])
  refine wpAnyH_take (i := 11) (oi := ({ dst := some 36, op := Op.binOp BinOp.add 9 (Operand.tmp 32) (Operand.tmp 35) 9, type := 9, pos := "dis.go:65", after := #[{ on := 7, ground := Ground.data }, { on := 10, ground := Ground.data }], guard := none } : Oper)) (v := ?_) rfl (by kernel_rfl) (by kernel_rfl) (by kernel_rfl) (fun _ _ _ h => h) (Or.inl ⟨by rfl, ?_⟩) (by assumption) ?_
  rotate_left 1
  · (intro w hSw; (try dsimp only at hSw); go_simp; (try with_reducible rfl))
  (try simp only [Act.put, List.setIfInBounds_toArray, List.set_cons_zero, List.set_cons_succ])
  refine wpAnyH_ready (rs := [14]) (by kernel_rfl) (by simp) ?_
  refine AllReadyH.cons (o := ({ dst := some 39, op := Op.call { callee := Callee.value (Operand.func 29), args := #[Operand.tmp 37, Operand.tmp 38], argTypes := #[37, 25] }, type := 25, pos := "dis.go:65", after := #[{ on := 12, ground := Ground.data }, { on := 13, ground := Ground.data }, { on := 10, ground := Ground.chain }], guard := none } : Oper)) rfl (fun K hK => ?_) ?_
  rotate_left 1
  · exact AllReadyH.nil
  go_simp
  go_at_call 29
  ((with_reducible refine (CN.out _).mono ?_); rintro e v3 ⟨rfl, hb⟩; have B3 := Lib.hid (Below.trans0 B2.out hb); have S3 := Lib.hid (S0.out _ B3.out); clear hb)
  first | (refine hK.out _ _ ?_ (fun hH3 => ?_)) | (go_wp2_with fail; refine hK.out _ _ ?_ (fun hH3 => ?_))
  · (try dsimp only); with_reducible exact S3.out
  clear hK K hH2
  (try simp only [Act.put, List.setIfInBounds_toArray, List.set_cons_zero, List.set_cons_succ])
  refine wpAnyH_take (i := 15) (oi := ({ dst := some 4, op := Op.assign (Operand.tmp 36), type := 9, pos := "dis.go:65", after := #[{ on := 11, ground := Ground.data }, { on := 14, ground := Ground.chain }, { on := 0, ground := Ground.phase }, { on := 1, ground := Ground.phase }, { on := 2, ground := Ground.phase }, { on := 3, ground := Ground.phase }, { on := 4, ground := Ground.phase }, { on := 5, ground := Ground.phase }, { on := 6, ground := Ground.phase }, { on := 7, ground := Ground.phase }, { on := 8, ground := Ground.phase }, { on := 9, ground := Ground.phase }, { on := 10, ground := Ground.phase }, { on := 11, ground := Ground.phase }, { on := 12, ground := Ground.textOnly Departure.lateStores }, { on := 13, ground := Ground.textOnly Departure.lateStores }, { on := 14, ground := Ground.textOnly Departure.lateStoresUnsure }], guard := none } : Oper)) (v := ?_) rfl (by kernel_rfl) (by kernel_rfl) (by kernel_rfl) (fun _ _ _ h => h) (Or.inl ⟨by rfl, ?_⟩) (by assumption) ?_
  rotate_left 1
  · (intro w hSw; (try dsimp only at hSw); go_simp; (try with_reducible rfl))
  (try simp only [Act.put, List.setIfInBounds_toArray, List.set_cons_zero, List.set_cons_succ])
  refine wpAnyH_take (i := 16) (oi := ({ dst := some 5, op := Op.assign (Operand.tmp 39), type := 25, pos := "dis.go:65", after := #[{ on := 14, ground := Ground.data }, { on := 15, ground := Ground.chain }, { on := 0, ground := Ground.phase }, { on := 1, ground := Ground.phase }, { on := 2, ground := Ground.phase }, { on := 3, ground := Ground.phase }, { on := 4, ground := Ground.phase }, { on := 5, ground := Ground.phase }, { on := 6, ground := Ground.phase }, { on := 7, ground := Ground.phase }, { on := 8, ground := Ground.phase }, { on := 9, ground := Ground.phase }, { on := 10, ground := Ground.phase }, { on := 11, ground := Ground.phase }, { on := 12, ground := Ground.phase }, { on := 13, ground := Ground.phase }, { on := 14, ground := Ground.phase }, { on := 15, ground := Ground.phase }], guard := none } : Oper)) (v := ?_) rfl (by kernel_rfl) (by kernel_rfl) (by kernel_rfl) (fun _ _ _ h => h) (Or.inl ⟨by rfl, ?_⟩) (by assumption) ?_
  rotate_left 1
  · (intro w hSw; (try dsimp only at hSw); go_simp; (try with_reducible rfl))
  (try simp only [Act.put, List.setIfInBounds_toArray, List.set_cons_zero, List.set_cons_succ])
  refine wpAnyH_done (by kernel_rfl) ?_ _
  refine NoPanic.normal ?_
  clear z1 z2 z3 z4 aw
  go_wp2
  go_ret2
  rw [hnx.out]
  exact ⟨rfl, HDW.out _ B3.out⟩
end Go.Proofs.YtljhfalgplihhaaGreatDoor
namespace Go.Proofs.YtljhfalgplihhaaGreatDoor
open Go.ChangeShapes Go.WideShapes Go.ChangeAt Go.RowKit
set_option linter.unusedVariables false

/-- The address of the k-th instruction. -/
def adrK (f : Nat → Int) (a : Nat) : Nat → Nat
  | 0 => a
  | k + 1 => insN f (adrK f a k)
theorem adrK_lt (f : Nat → Int) (a : Nat) (ha : a < 65536) : ∀ k, adrK f a k < 65536
  | 0 => ha
  | k + 1 => by unfold adrK insN; omega
noncomputable def linesL (f : Nat → Int) (a n : Nat) : List ByteArray := (List.range n).map fun k => insL f (adrK f a k)
theorem linesL_len (f : Nat → Int) (a n : Nat) : (linesL f a n).length = n := by unfold linesL; rw [List.length_map, List.length_range]
theorem linesL_next (f : Nat → Int) (a n : Nat) : linesL f a (n + 1) = linesL f a n ++ [insL f (adrK f a n)] := by unfold linesL; rw [List.range_succ, List.map_append]; rfl
theorem linesL_at (f : Nat → Int) (a n k : Nat) (h : k < n) : (linesL f a n)[k]? = some (insL f (adrK f a k)) := by
  unfold linesL
  rw [List.getElem?_map, List.getElem?_range h]; rfl
theorem Strs.below_ {w w' : World} {base : Nat} {v : Value} {l : List ByteArray} (h : Strs w base v l) (hb : Below w.heap.size w w') : Strs w' base v l := by
  have hlt := World.ownsRow.lt h
  obtain ⟨hl, h2⟩ := h
  refine ⟨hl, ?_⟩
  rcases h2 with h2 | ⟨g, cap, cur, rfl, h3, h4, h5⟩
  · exact .inl h2
  · exact .inr ⟨g, cap, cur, rfl, h3, (hb.block g (hlt g rfl).2).trans h4, h5⟩
set_option maxRecDepth 100000 in
set_option maxHeartbeats 4000000 in
theorem lines_any (m : Nat) (p : Nat → Option Nat) (rom : Int) (f : Nat → Int) (a : Nat) (many : Int) (n : Nat) (w : World) (h : Ra w m p rom f) (ha : a < 65536) (hD : DisAt w) (hn : (many < 0 ∧ n = 0) ∨ many = n) (hm : n ≤ 30) (hlo : -9223372036854775808 ≤ many) :
    Calls Tryz.prog 6 #[.int .u16 (a : Int), .int .i64 many, .iface 28 (.pointer (some ⟨m, 0, none⟩))] w fun e w' => ∃ v, e = .returned v ∧ Strs w' w.heap.size v (linesL f a n) ∧ Below w.heap.size w w' := by
  have HL := Lib.hid (fun k u (hu : Below w.heap.size w u) => line_any m p rom f (adrK f a k) u (h.below hu) (adrK_lt f a ha k) (hD.below hu))
  have HNx := Lib.hid (fun k => linesL_next f a k)
  have HAd := Lib.hid (show ∀ k, insN f (adrK f a k) = adrK f a (k + 1) from fun k => rfl)
  have S0 := Lib.hid (show Strs w w.heap.size (.slice none 0 0) (linesL f a 0) from World.ownsRow_nil w w.heap.size 9 1)
  have HA0 : Hid (a = adrK f a 0) := Lib.hid rfl
  have HLn := Lib.hid (linesL_len f a)
  clear h hD
  go_enter Tryz.func6, Tryz.ntmps6
  go_wp2
  go_loopw [0, 7, 10] (fun at' out i wr => ∃ k : Nat, k ≤ n ∧ at' = .int .u16 (adrK f a k : Int) ∧ i = .int .i64 k ∧ Hid (Strs wr w.heap.size out (linesL f a k)) ∧ Below w.heap.size w wr) (fun _ _ i _ => n - (intOf i).toNat)
  case atStart => exact ⟨0, by omega, rfl, rfl, S0, Below.refl _ _⟩
  case round =>
    obtain ⟨k, hk, rfl, rfl, hS, hbel⟩ := hrel
    by_cases hlt : k < n
    · have hmy : many = (n : Int) := by omega
      subst hmy
      have hki : (k : Int) < (n : Int) := by omega
      have wk : wrap64 ((k : Int) + 1) = (k : Int) + 1 := by unfold wrap64; omega
      have C := Lib.hid (HL.out k wr hbel)
      rw [HAd.out k] at C
      have HW1 := Lib.hid (fun (w1 : World) (hb1 : Below wr.heap.size wr w1) => show Strs w1 w.heap.size _ (linesL f a k) ∧ w.heap.size ≤ w1.heap.size ∧ Below w.heap.size w w1 from
        ⟨hS.out.below_ hb1, by have := hb1.size; have := hbel.size; omega, Below.trans0 hbel hb1⟩)
      have hl30 : (linesL f a k).length ≤ 1000 := by rw [HLn.out]; omega
      go_wp2_with (first
        | (go_at_call 11; refine C.out.mono ?_; rintro e w1 ⟨rfl, hb1⟩; have H1 := Lib.hid (HW1.out w1 hb1))
        | (at_builtin; refine wpList_appStr rfl _ (.tmp 18) (.tmp 20) rfl w.heap.size _ (linesL f a k) rfl (H1.out.1.alloc _) ⟨w1.heap.size, 0, none⟩ 1 (insL f (adrK f a k)) rfl (fun j u hj => by
            match j, hj with
            | 0, hj =>
              obtain rfl := Option.some.inj hj
              exact (Blk.new w1 9 #[.string (insL f (adrK f a k))] (0, 0)).cell 0) hl30 (by have := H1.out.2.1; simp; omega) ?_; intro v2 w2 ho2 hb2))
      rw [← HNx.out k] at ho2
      have HS2 := Lib.hid ho2
      have HB2 : Below w.heap.size w w2 := (Below.alloc0 H1.out.2.2 _).trans hb2
      clear ho2 hb2 HW1 H1 hS hbel
      go_roundw
      case rel => exact ⟨k + 1, by omega, rfl, by go_num, HS2, HB2⟩
      case measure => simp [intOf]; omega
    · have hnm : decide ((k : Int) < many) = false := decide_eq_false (by omega)
      have hkn : k = n := by omega
      subst hkn
      go_wp2
      go_ret
      exact ⟨_, rfl, hS.out, hbel⟩
end Go.Proofs.YtljhfalgplihhaaGreatDoor
namespace Go.Proofs.YtljhfalgplihhaaGreatDoor
open Go.ChangeShapes Go.WideShapes Go.ChangeAt Go.RowKit
set_option linter.unusedVariables false

/-- Memory made anew: its blocks are new. -/
def NewPost (w : World) (rom : Int) (f : Nat → Int) (e : Ending) (w' : World) : Prop :=
  ∃ m p, e = .returned (.tuple #[.pointer (some ⟨m, 0, none⟩), .int .i64 0]) ∧ Ra w' m p rom f ∧ Below w.heap.size w w' ∧ ∀ b, RS m p b → w.heap.size ≤ b
theorem raNew_arg (A : Option Addr) (n c : Nat) (rom : Int) (w : World) (hr : rom < 0 ∨ 65536 < rom) :
    Calls Tryz.prog 5 #[.slice A n c, .int .i64 rom] w fun e w' => e = .returned (.tuple #[.pointer none, .int .i64 10]) ∧ w = w' := by
  by_cases h0 : rom < 0
  · have d0 := decide_eq_true h0
    go_enter Tryz.func5, Tryz.ntmps5
    go_wp2
    go_ret2
    exact ⟨rfl, rfl⟩
  · have h1 : 65536 < rom := by omega
    have d0 := decide_eq_false h0
    have d1 := decide_eq_true h1
    go_enter Tryz.func5, Tryz.ntmps5
    go_wp2
    go_ret2
    exact ⟨rfl, rfl⟩
def pNo : Nat → Option Nat := fun _ => none
theorem ra_new (w : World) (rom : Int) : Ra (w.alloc (.cells (raCs pNo rom) 51)) w.heap.size pNo rom (fun _ => 0) :=
  ⟨Blk.new w _ _ _, fun _ _ _ _ _ => rfl, fun i g hi hg => (by cases hg), fun i j g hi hj hg => (by cases hg), fun _ => ⟨Int.le_refl _, by omega⟩⟩
set_option maxRecDepth 100000 in
set_option maxHeartbeats 2000000 in
theorem raNew_size (A : Option Addr) (n c : Nat) (rom : Int) (w : World) (hr : 0 ≤ rom ∧ rom ≤ 65536) (hn : n ≤ 9223372036854775807) (hb : 65536 < n) :
    Calls Tryz.prog 5 #[.slice A n c, .int .i64 rom] w fun e w' => e = .returned (.tuple #[.pointer none, .int .i64 12]) ∧ Below w.heap.size w w' := by
  have h0 : ¬ rom < 0 := by omega
  have h1 : ¬ 65536 < rom := by omega
  have d0 := decide_eq_false h0
  have d1 := decide_eq_false h1
  have W1 := Lib.hid (Below.alloc0 (Below.refl w.heap.size w) (.cells (raCs pNo rom) 51))
  have HL := Lib.hid (fun u => raLoad_no w.heap.size 0 A n c u (by omega) hn (by omega))
  go_enter Tryz.func5, Tryz.ntmps5
  go_upto_region 3 with (fail)
  refine wp_region_lit ?_
  refine Great.wpList_readTo rfl (some 13) rfl (.int .i64 rom) (by rfl) ?_
  refine Great.wpList_readTo rfl (some 14) rfl (.agg (raCs pNo rom)) (by kernel_rfl) ?_
  refine Great.wpList_allocTo rfl (some 15) rfl (.pointer (some ⟨w.heap.size, 0, none⟩)) (.cells (raCs pNo rom) 51) (by kernel_rfl) ?_
  generalize w.alloc (.cells (raCs pNo rom) 51) = w1 at W1 ⊢
  obtain ⟨g, hg⟩ : ∃ g, w.heap.size = g := ⟨_, rfl⟩
  rw [hg] at HL ⊢
  clear hr hn hb hg
  go_wp2_with fail
  refine (HL.out _).mono ?_
  rintro e w' ⟨rfl, rfl⟩
  go_wp2
  go_ret2
  exact ⟨rfl, W1.out⟩
set_option maxRecDepth 100000 in
set_option maxHeartbeats 2000000 in
theorem raNew_any (v : Value) (xs : List Int) (rom : Int) (w : World) (hv : eY.Rd w v xs) (hx : Byt xs) (hr : 0 ≤ rom ∧ rom ≤ 65536) (hn : xs.length ≤ 65536) :
    Calls Tryz.prog 5 #[v, .int .i64 rom] w (NewPost w rom (ldF (fun _ => 0) 0 xs xs.length)) := by
  have h0 : ¬ rom < 0 := by omega
  have h1 : ¬ 65536 < rom := by omega
  have d0 := decide_eq_false h0
  have d1 := decide_eq_false h1
  have R1 := ra_new w rom
  have V1 := Els.Rd.alloc hv (.cells (raCs pNo rom) 51)
  have HOF : OffR w.heap.size pNo v := by
    obtain ⟨A, c, rfl, h2⟩ := rdY_open hv
    intro b o n c' e hn' hb
    obtain ⟨rfl, rfl, rfl⟩ := Value.slice.inj e
    obtain ⟨g, off, e2, hlt, _⟩ := h2 hn'
    obtain ⟨rfl, _, _⟩ := Addr.mk.inj (Option.some.inj e2)
    rcases hb with hb | ⟨i, hi, hb⟩
    · omega
    · cases hb
  have HL := Lib.hid (raLoad_ok w.heap.size pNo rom (fun _ => 0) 0 v xs _ R1 V1 hx HOF (by omega))
  have W1 := Lib.hid (Below.alloc0 (Below.refl w.heap.size w) (.cells (raCs pNo rom) 51))
  clear R1 V1 HOF hv
  go_enter Tryz.func5, Tryz.ntmps5
  go_upto_region 3 with (fail)
  refine wp_region_lit ?_
  refine Great.wpList_readTo rfl (some 13) rfl (.int .i64 rom) (by rfl) ?_
  refine Great.wpList_readTo rfl (some 14) rfl (.agg (raCs pNo rom)) (by kernel_rfl) ?_
  refine Great.wpList_allocTo rfl (some 15) rfl (.pointer (some ⟨w.heap.size, 0, none⟩)) (.cells (raCs pNo rom) 51) (by kernel_rfl) ?_
  have HS : Hid (w.heap.size + 1 = (w.alloc (.cells (raCs pNo rom) 51)).heap.size) := Lib.hid (by simp)
  generalize w.alloc (.cells (raCs pNo rom) 51) = w1 at W1 HL HS ⊢
  clear hr hn
  go_wp2_with fail
  refine HL.out.mono ?_
  rintro e w' ⟨rfl, p', hra, hst⟩
  have HRA := Lib.hid hra
  have HST := Lib.hid hst
  clear hra hst HL
  go_wp2
  go_ret2
  refine ⟨_, p', rfl, HRA.out, ?_, fun b hb => ?_⟩
  · refine W1.out.trans ⟨HST.out.os, HST.out.tape, HST.out.output, HST.out.size, fun k hk => HST.out.block k (by have := HS.out; omega) (fun e => ?_)⟩
    rcases e with e | ⟨i, hi, e⟩
    · omega
    · cases e
  · rcases HST.out.own b hb with e | e
    · rcases e with e | ⟨i, hi, e⟩
      · omega
      · cases e
    · have := HS.out; omega
end Go.Proofs.YtljhfalgplihhaaGreatDoor
namespace Go.Proofs.YtljhfalgplihhaaGreatDoor
open Go.ChangeShapes Go.WideShapes Go.ChangeAt Go.RowKit
set_option linter.unusedVariables false

theorem rowF_list (q : Nat → Int) (n : Nat) : (rowF q n).toList = (lstF q n).map (Value.int .u8) := by
  unfold rowF lstF
  rw [List.toList_toArray, List.map_map]; rfl
theorem lstF_splice (f : Nat → Int) (a : Nat) (xs : List Int) (N : Nat) (h : a + xs.length ≤ N) : (lstF f N).take a ++ (xs ++ (lstF f N).drop (a + xs.length)) = lstF (ldF f a xs xs.length) N := by
  apply List.ext_getElem (by simp [lstF_len]; omega)
  intro i h1 h2
  have hN : i < N := by rw [lstF_len] at h2; exact h2
  rw [show (lstF (ldF f a xs xs.length) N)[i] = ldF f a xs xs.length i by simp only [lstF, List.getElem_map, List.getElem_range]]
  unfold ldF
  rcases Nat.lt_or_ge i a with h3 | h3
  · rw [List.getElem_append_left (by rw [List.length_take, lstF_len]; omega), if_neg (by omega)]
    simp only [lstF, List.getElem_take, List.getElem_map, List.getElem_range]
  · have hlt : ((lstF f N).take a).length = a := by rw [List.length_take, lstF_len]; omega
    rw [List.getElem_append_right (by omega)]
    rcases Nat.lt_or_ge i (a + xs.length) with h4 | h4
    · rw [List.getElem_append_left (by omega), if_pos ⟨h3, h4⟩, iat_eq _ _ (by omega)]
      simp only [hlt]
    · rw [List.getElem_append_right (by omega), if_neg (by omega)]
      simp only [lstF, List.getElem_drop, List.getElem_map, List.getElem_range, List.length_take, List.length_map, List.length_range]
      congr 1
      omega
theorem rowF_splice (f : Nat → Int) (a : Nat) (xs : List Int) (N : Nat) (h : a + xs.length ≤ N) : ((rowF f N).toList.take a ++ (xs.map (Value.int .u8) ++ (rowF f N).toList.drop (a + (xs.map (Value.int .u8)).length))).toArray = rowF (ldF f a xs xs.length) N := by
  have e : rowF (ldF f a xs xs.length) N = ((lstF (ldF f a xs xs.length) N).map (Value.int .u8)).toArray := by
    unfold rowF lstF; rw [List.map_map]; rfl
  rw [e, ← lstF_splice f a xs N h, rowF_list, List.map_append, List.map_append, List.map_take, List.map_drop, List.length_map]
theorem rowF_len (q : Nat → Int) (n : Nat) : (rowF q n).size = n := by unfold rowF; rw [List.size_toArray, List.length_map, List.length_range]
theorem step_copy_row {P : Program} {ops : Array Oper} {o : Oper} {a : Act} {w : World} {K : Act → World → Prop} {Q : Exit → Act → World → Prop} {E : Prop} (hgd : o.guard = none) (d s : Operand) (dT sT : TypeId)
    (ho : o.op = .call { callee := .builtin .copy, args := #[d, s], argTypes := #[dT, sT] }) (elem : TypeId) (hu : P.underlying dT = some (.slice elem)) (hsz : (P.info? elem).map (·.size) = some 1)
    (g off dLen dCap : Nat) (ad : Addr) (sLen sCap : Nat) (hd : a.eval d = .slice (some ⟨g, off, none⟩) dLen dCap) (hs : a.eval s = .slice (some ad) sLen sCap)
    (cur : Array Value) (t : TypeId) (hg : w.heap[g]? = some (.cells cur t (0, 0))) (cs : List Value) (hn : cs.length = Nat.min sLen dLen)
    (hsrc : ∀ j v, cs[j]? = some v → w.cell? (ad.add j) = some v) (hfit : off + cs.length ≤ cur.size) (h1 : ∀ v ∈ cs, v.oneCell' = true)
    (h : K (a.put o.dst (goInt cs.length)) (w.setRow g (cur.toList.take off ++ (cs ++ cur.toList.drop (off + cs.length))).toArray)) : if Region.wanted o (yielded ops a.tmps) = true then Oper.wp P o a w K Q else E := by
  have hw : Region.wanted o (yielded ops a.tmps) = true := by simp [Region.wanted, hgd]
  rw [if_pos hw]
  have hrun := run_copy_row (P := P) w dT sT o.type elem g off dLen dCap ad sLen sCap cur t cs hu hsz hg hn hsrc hfit h1
  unfold Oper.wp
  simp [execOp, ho, resolve, invoke, builtin, hd, hs, hrun, Result.andThen]
  exact h
theorem src_at {w : World} {A : Option Addr} {n c : Nat} {xs : List Int} (h : eY.Rd w (.slice A n c) xs) (h0 : 0 < xs.length) : ∃ ad, A = some ad ∧ ∀ j v, (xs.map (Value.int .u8))[j]? = some v → w.cell? (ad.add j) = some v := by
  obtain ⟨A', c', e, h2⟩ := rdY_open h
  obtain ⟨rfl, rfl, rfl⟩ := Value.slice.inj e
  obtain ⟨g, off, rfl, hlt, h3⟩ := h2 h0
  refine ⟨_, rfl, fun j v hj => ?_⟩
  have hjl : j < xs.length := by
    rcases Nat.lt_or_ge j xs.length with a | a
    · exact a
    · rw [List.getElem?_eq_none (by simpa using a)] at hj; cases hj
  rw [Els.add_pl, h3 j hjl]
  rw [List.getElem?_map, List.getElem?_eq_getElem hjl] at hj
  rw [iat_eq _ _ hjl]
  exact hj
theorem wpList_copy_F {ops : Array Oper} {rest : List Oper} {o : Oper} {a : Act} {w : World} {Q : Exit → Act → World → Prop} (hgd : o.guard = none) (d s : Operand)
    (ho : o.op = .call { callee := .builtin .copy, args := #[d, s], argTypes := #[22, 22] })
    (g off dLen dCap : Nat) (A : Option Addr) (sLen sCap : Nat) (hd : a.eval d = .slice (some ⟨g, off, none⟩) dLen dCap) (hs : a.eval s = .slice A sLen sCap)
    (f : Nat → Int) (N : Nat) (hg : Blk w g 5 (rowF f N)) (xs : List Int) (hr : eY.Rd w (.slice A sLen sCap) xs) (hn : xs.length = Nat.min sLen dLen) (hfit : off + xs.length ≤ N)
    (h : ∀ w', Blk w' g 5 (rowF (ldF f off xs xs.length) N) → w.grownBy w' (some g) → wpList Tryz.prog ops Q rest (a.put o.dst (goInt xs.length)) w') : wpList Tryz.prog ops Q (o :: rest) a w := by
  have hsz : (Tryz.prog.info? 5).map (·.size) = some 1 := by kernel_rfl
  rcases Nat.eq_zero_or_pos xs.length with h0 | h0
  · obtain rfl : xs = [] := List.eq_nil_of_length_eq_zero h0
    refine wpList_copy_nothing hgd d s _ _ ho _ Tryz.underlying22 hsz _ A dLen dCap sLen sCap hd hs (by simpa using hn.symm) ?_
    exact h w (by rw [show ldF f off [] ([] : List Int).length = f from ldF_zero f off []]; exact hg) (World.grownBy.refl _ _)
  · obtain ⟨ad, rfl, hsrc⟩ := src_at hr h0
    refine wpList_copy_own hgd d s _ _ ho _ Tryz.underlying22 hsz g off dLen dCap ad sLen sCap hd hs (rowF f N) _ hg (xs.map (Value.int .u8)) (by rw [List.length_map]; exact hn) hsrc (by rw [rowF_len, List.length_map]; exact hfit) (fun v hv => by obtain ⟨z, _, rfl⟩ := List.mem_map.1 hv; rfl) ?_
    rw [rowF_splice f off xs N hfit, List.length_map]
    exact h _ (Blk.row hg _) ⟨rfl, rfl, rfl, by simp, fun k hk hne => setRow_other w g k _ (fun e => hne (by rw [e]))⟩
theorem step_copy_F {ops : Array Oper} {o : Oper} {a : Act} {w : World} {K : Act → World → Prop} {Q : Exit → Act → World → Prop} {E : Prop} (hgd : o.guard = none) (d s : Operand)
    (ho : o.op = .call { callee := .builtin .copy, args := #[d, s], argTypes := #[22, 22] })
    (g off dLen dCap : Nat) (A : Option Addr) (sLen sCap : Nat) (hd : a.eval d = .slice (some ⟨g, off, none⟩) dLen dCap) (hs : a.eval s = .slice A sLen sCap)
    (f : Nat → Int) (N : Nat) (hg : Blk w g 5 (rowF f N)) (xs : List Int) (hr : eY.Rd w (.slice A sLen sCap) xs) (h0 : 0 < xs.length) (hn : xs.length = Nat.min sLen dLen) (hfit : off + xs.length ≤ N)
    (h : ∀ w', Blk w' g 5 (rowF (ldF f off xs xs.length) N) → w.grownBy w' (some g) → K (a.put o.dst (goInt xs.length)) w') : if Region.wanted o (yielded ops a.tmps) = true then Oper.wp Tryz.prog o a w K Q else E := by
  have hsz : (Tryz.prog.info? 5).map (·.size) = some 1 := by kernel_rfl
  obtain ⟨ad, rfl, hsrc⟩ := src_at hr h0
  refine step_copy_row hgd d s _ _ ho _ Tryz.underlying22 hsz g off dLen dCap ad sLen sCap hd hs (rowF f N) _ hg (xs.map (Value.int .u8)) (by rw [List.length_map]; exact hn) hsrc (by rw [rowF_len, List.length_map]; exact hfit) (fun v hv => by obtain ⟨z, _, rfl⟩ := List.mem_map.1 hv; rfl) ?_
  rw [rowF_splice f off xs N hfit, List.length_map]
  exact h _ (Blk.row hg _) ⟨rfl, rfl, rfl, by simp, fun k hk hne => setRow_other w g k _ (fun e => hne (by rw [e]))⟩
end Go.Proofs.YtljhfalgplihhaaGreatDoor
namespace Go.Proofs.YtljhfalgplihhaaGreatDoor
open Go.ChangeShapes Go.WideShapes Go.ChangeAt Go.RowKit
set_option linter.unusedVariables false

def imF (xs ys : List Int) : Nat → Int := ldF (ldF (fun _ => 0) 0 xs xs.length) (65536 - ys.length) ys ys.length
def ImPost (w : World) (xs ys : List Int) (e : Ending) (w' : World) : Prop :=
  ((65536 < xs.length ∨ 65536 < ys.length) ∧ e = .returned (.tuple #[.slice none 0 0, .bool false]) ∧ Below w.heap.size w w') ∨
  (xs.length ≤ 65536 ∧ ys.length ≤ 65536 ∧ ∃ g, w.heap.size ≤ g ∧ e = .returned (.tuple #[.slice (some ⟨g, 0, none⟩) 65536 65536, .bool true]) ∧ Blk w' g 5 (rowF (imF xs ys) 65536) ∧ Below w.heap.size w w')
theorem step_copy_none {ops : Array Oper} {o : Oper} {a : Act} {w : World} {K : Act → World → Prop} {Q : Exit → Act → World → Prop} {E : Prop} (hgd : o.guard = none) (d s : Operand)
    (ho : o.op = .call { callee := .builtin .copy, args := #[d, s], argTypes := #[22, 22] })
    (dp sp : Option Addr) (dLen dCap sLen sCap : Nat) (hd : a.eval d = .slice dp dLen dCap) (hs : a.eval s = .slice sp sLen sCap) (hn : Nat.min sLen dLen = 0)
    (h : K (a.put o.dst (goInt 0)) w) : if Region.wanted o (yielded ops a.tmps) = true then Oper.wp Tryz.prog o a w K Q else E := by
  have hsz : (Tryz.prog.info? 5).map (·.size) = some 1 := by kernel_rfl
  have hw : Region.wanted o (yielded ops a.tmps) = true := by simp [Region.wanted, hgd]
  rw [if_pos hw]
  have hrun := run_copy_none (P := Tryz.prog) w 22 22 o.type 5 dp sp dLen dCap sLen sCap Tryz.underlying22 hsz hn
  unfold Oper.wp
  simp [execOp, ho, resolve, invoke, builtin, hd, hs, hrun, Result.andThen]
  exact h
set_option maxRecDepth 100000 in
set_option maxHeartbeats 4000000 in
theorem image_any (A : Option Addr) (n c : Nat) (xs : List Int) (B : Option Addr) (m d : Nat) (ys : List Int) (w : World) (hx : eY.Rd w (.slice A n c) xs) (hy : eY.Rd w (.slice B m d) ys) (hn : xs.length = n) (hm : ys.length = m) :
    Calls Tryz.prog 4 #[.agg #[.slice A n c, .slice B m d]] w (ImPost w xs ys) := by
  have HB0 := Lib.hid (Below.alloc0 (Below.refl w.heap.size w) (Obj.cells #[.slice A n c, .slice B m d] 24))
  by_cases h1 : 65536 < n
  · have d1 : decide ((65536 : Int) < (n : Int)) = true := decide_eq_true (by omega)
    have d2 : decide (65536 < n) = true := decide_eq_true h1
    have HP := Lib.hid (fun (w' : World) (hb : Below w.heap.size w w') => show ImPost w xs ys (.returned (.tuple #[.slice none 0 0, .bool false])) w' from .inl ⟨.inl (by omega), rfl, hb⟩)
    clear h1 hx hy hn hm
    go_enter Tryz.func4, Tryz.ntmps4
    go_wp2
    go_ret2
    exact HP.out _ HB0.out
  have d1 : decide ((65536 : Int) < (n : Int)) = false := decide_eq_false (by omega)
  have d2 : decide (65536 < n) = false := decide_eq_false h1
  by_cases h2 : 65536 < m
  · have d3 : decide ((65536 : Int) < (m : Int)) = true := decide_eq_true (by omega)
    have d4 : decide (65536 < m) = true := decide_eq_true h2
    have HP := Lib.hid (fun (w' : World) (hb : Below w.heap.size w w') => show ImPost w xs ys (.returned (.tuple #[.slice none 0 0, .bool false])) w' from .inl ⟨.inr (by omega), rfl, hb⟩)
    clear h1 h2 hx hy hn hm
    go_enter Tryz.func4, Tryz.ntmps4
    go_wp2
    go_ret2
    exact HP.out _ HB0.out
  have d3 : decide ((65536 : Int) < (m : Int)) = false := decide_eq_false (by omega)
  have d4 : decide (65536 < m) = false := decide_eq_false h2
  obtain ⟨bx, hbx⟩ : ∃ bx, w.heap.size = bx := ⟨_, rfl⟩
  have HW0 := Lib.hid (Blk.new w 24 #[.slice A n c, .slice B m d] (0, 0))
  have hz1 : (w.alloc (Obj.cells #[.slice A n c, .slice B m d] 24)).heap.size = bx + 1 := by simp [hbx]
  have HX := Lib.hid (Els.Rd.below hx HB0.out)
  have HY := Lib.hid (Els.Rd.below hy HB0.out)
  rw [hbx] at HW0
  have hmk0 := made_N (w.alloc (Obj.cells #[.slice A n c, .slice B m d] 24)) 65536 (Nat.le_refl _)
  have hmk : (Instr.makeSlice 22 (.int .i64 65536) (.int .i64 65536)).run Tryz.prog (w.alloc (Obj.cells #[.slice A n c, .slice B m d] 24)) = .ok (.slice (some ⟨bx + 1, 0, none⟩) 65536 65536) ((w.alloc (Obj.cells #[.slice A n c, .slice B m d] 24)).alloc (.cells (rowF (fun _ => 0) 65536) 5)) := by
    have := hmk0; rw [hz1] at this; exact this
  clear hmk0
  go_enter Tryz.func4, Tryz.ntmps4
  go_upto_region 4 with (fail)
  have HB1 := Lib.hid (Below.alloc0 HB0.out (.cells (rowF (fun _ => 0) 65536) 5))
  have HW1 := Lib.hid (Blk.alloc HW0.out (.cells (rowF (fun _ => 0) 65536) 5))
  have HL1 := Lib.hid (Blk.new (w.alloc (Obj.cells #[.slice A n c, .slice B m d] 24)) 5 (rowF (fun _ => 0) 65536) (0, 0))
  rw [hz1] at HL1
  generalize (w.alloc (Obj.cells #[.slice A n c, .slice B m d] 24)).alloc (.cells (rowF (fun _ => 0) 65536) 5) = w1 at HB1 HW1 HL1 ⊢
  have HX1 := Lib.hid (Els.Rd.below hx HB1.out)
  have HY1 := Lib.hid (Els.Rd.below hy HB1.out)
  have HLT : Hid (eY.Rd w (.slice B m d) ys) := Lib.hid hy
  have HLL := Lib.hid (And.intro hn hm)
  clear hx hy HX HY HB0 HW0 hmk hz1
  have c0 : w1.cell? ⟨bx, 0, none⟩ = some (.slice A n c) := HW1.out.cell 0
  refine wp_region_lit ?_
  refine Great.wpList_readTo rfl (some 16) rfl (.slice (some ⟨bx + 1, 0, none⟩) 65536 65536) (by rfl) ?_
  refine Great.wpList_readTo rfl (some 17) rfl (.pointer (some ⟨bx, 0, none⟩)) (by kernel_rfl) ?_
  refine Great.wpList_readTo rfl (some 18) rfl (.slice A n c) ?_ ?_
  · go_simp
  refine wpList_copy_F rfl (.tmp 16) (.tmp 18) rfl (bx + 1) 0 65536 65536 A n c rfl rfl (fun _ => 0) 65536 HL1.out xs HX1.out (by rw [HLL.out.1]; exact (Nat.min_eq_left (by omega)).symm) (by rw [HLL.out.1]; omega) ?_
  intro w2 hL2 hg2
  have HW2 := Lib.hid (show Blk w2 bx 24 #[.slice A n c, .slice B m d] from (hg2.block bx (by have := HL1.out.lt; omega) (fun e => by have := Option.some.inj e; omega)).trans HW1.out)
  have HB2 := Lib.hid (Below.grown HB1.out hg2 (by have := HB1.out.size; exact this) (fun g e => by obtain rfl := Option.some.inj e; omega))
  have HL2 := Lib.hid hL2
  clear hL2 hg2 HB1 HW1 HL1 HX1 HY1 c0
  have HY2 := Lib.hid (Els.Rd.below HLT.out HB2.out)
  go_upto_region 5 with (fail)
  have c1 : w2.cell? ⟨bx, 1, none⟩ = some (.slice B m d) := HW2.out.cell 1
  have S0 : Hid (w2.drew.cell? ⟨bx, 1, none⟩ = some (.slice B m d)) := Lib.hid c1
  rcases Nat.eq_zero_or_pos m with hm0 | hm0
  · subst hm0
    have w65 : IntKind.i64.wrap 65536 = 65536 := rfl
    refine wp_region_noPanic ?_
    refine wp_region_held_drew (S := (fun w' => w'.cell? ⟨bx, 1, none⟩ = some (.slice B 0 d))) (by kernel_rfl) ?_ (fun hH0 => ?_)
    · (try dsimp only); with_reducible exact S0.out
    refine wpAnyH_take (i := 0) (oi := ({ dst := some 20, op := Op.move (Operand.tmp 4), type := 22, pos := "law.go:26", after := #[], guard := none } : Oper)) (v := ?_) rfl (by kernel_rfl) (by kernel_rfl) (by kernel_rfl) (fun _ _ _ h => h) (Or.inl ⟨by rfl, ?_⟩) (by assumption) ?_
    rotate_left 1
    · (intro w hSw; (try dsimp only at hSw); go_simp; (try with_reducible rfl))
    (try simp only [Act.put, List.setIfInBounds_toArray, List.set_cons_zero, List.set_cons_succ])
    refine wpAnyH_take (i := 1) (oi := ({ dst := some 21, op := Op.fieldAddr 24 (Operand.tmp 1) 1, type := 0, pos := "law.go:26", after := #[], guard := none } : Oper)) (v := ?_) rfl (by kernel_rfl) (by kernel_rfl) (by kernel_rfl) (fun _ _ _ h => h) (Or.inl ⟨by rfl, ?_⟩) (by assumption) ?_
    rotate_left 1
    · (intro w hSw; (try dsimp only at hSw); go_simp; (try with_reducible rfl))
    (try simp only [Act.put, List.setIfInBounds_toArray, List.set_cons_zero, List.set_cons_succ])
    refine wpAnyH_take (i := 2) (oi := ({ dst := some 22, op := Op.load 22 (Operand.tmp 21), type := 22, pos := "law.go:26", after := #[{ on := 1, ground := Ground.data }], guard := none } : Oper)) (v := ?_) rfl (by kernel_rfl) (by kernel_rfl) (by kernel_rfl) (fun _ _ _ h => h) (Or.inl ⟨by rfl, ?_⟩) (by assumption) ?_
    rotate_left 1
    · (intro w hSw; (try dsimp only at hSw); go_simp; (try with_reducible rfl))
    (try simp only [Act.put, List.setIfInBounds_toArray, List.set_cons_zero, List.set_cons_succ])
    refine wpAnyH_take (i := 3) (oi := ({ dst := some 23, op := Op.call { callee := Callee.builtin Builtin.len, args := #[Operand.tmp 22], argTypes := #[22] }, type := 3, pos := "law.go:26", after := #[{ on := 2, ground := Ground.data }], guard := none } : Oper)) (v := ?_) rfl (by kernel_rfl) (by kernel_rfl) (by kernel_rfl) (fun _ _ _ h => h) (Or.inl ⟨by rfl, ?_⟩) (by assumption) ?_
    rotate_left 1
    · (intro w hSw; (try dsimp only at hSw); go_simp; (try with_reducible rfl))
    (try simp only [Act.put, List.setIfInBounds_toArray, List.set_cons_zero, List.set_cons_succ])
    refine wpAnyH_take (i := 4) (oi := ({ dst := some 24, op := Op.binOp BinOp.sub 3 (Operand.const (Value.int IntKind.i64 65536)) (Operand.tmp 23) 3, type := 3, pos := "law.go:26", after := #[{ on := 3, ground := Ground.data }], guard := none } : Oper)) (v := ?_) rfl (by kernel_rfl) (by kernel_rfl) (by kernel_rfl) (fun _ _ _ h => h) (Or.inl ⟨by rfl, ?_⟩) (by assumption) ?_
    rotate_left 1
    · (intro w hSw; (try dsimp only at hSw); go_simp; (try with_reducible rfl))
    (try simp only [Act.put, List.setIfInBounds_toArray, List.set_cons_zero, List.set_cons_succ])
    refine wpAnyH_take (i := 5) (oi := ({ dst := some 25, op := Op.slice 22 (Operand.tmp 20) (some (Operand.tmp 24)) none none, type := 22, pos := "law.go:26", after := #[{ on := 0, ground := Ground.data }, { on := 4, ground := Ground.data }], guard := none } : Oper)) (v := ?_) rfl (by kernel_rfl) (by kernel_rfl) (by kernel_rfl) (fun _ _ _ h => h) (Or.inl ⟨by rfl, ?_⟩) (by assumption) ?_
    rotate_left 1
    · (intro w hSw; (try dsimp only at hSw); go_simp; (try with_reducible rfl))
    (try simp only [Act.put, List.setIfInBounds_toArray, List.set_cons_zero, List.set_cons_succ])
    refine wpAnyH_take (i := 6) (oi := ({ dst := some 26, op := Op.fieldAddr 24 (Operand.tmp 1) 1, type := 0, pos := "law.go:26", after := #[], guard := none } : Oper)) (v := ?_) rfl (by kernel_rfl) (by kernel_rfl) (by kernel_rfl) (fun _ _ _ h => h) (Or.inl ⟨by rfl, ?_⟩) (by assumption) ?_
    rotate_left 1
    · (intro w hSw; (try dsimp only at hSw); go_simp; (try with_reducible rfl))
    (try simp only [Act.put, List.setIfInBounds_toArray, List.set_cons_zero, List.set_cons_succ])
    refine wpAnyH_take (i := 7) (oi := ({ dst := some 27, op := Op.load 22 (Operand.tmp 26), type := 22, pos := "law.go:26", after := #[{ on := 6, ground := Ground.data }], guard := none } : Oper)) (v := ?_) rfl (by kernel_rfl) (by kernel_rfl) (by kernel_rfl) (fun _ _ _ h => h) (Or.inl ⟨by rfl, ?_⟩) (by assumption) ?_
    rotate_left 1
    · (intro w hSw; (try dsimp only at hSw); go_simp; (try with_reducible rfl))
    (try simp only [Act.put, List.setIfInBounds_toArray, List.set_cons_zero, List.set_cons_succ])
    refine wpAnyH_ready (rs := [8]) (by kernel_rfl) (by simp) ?_
    refine AllReadyH.cons (o := ({ dst := some 28, op := Op.call { callee := Callee.builtin Builtin.copy, args := #[Operand.tmp 25, Operand.tmp 27], argTypes := #[22, 22] }, type := 3, pos := "law.go:26", after := #[{ on := 5, ground := Ground.data }, { on := 7, ground := Ground.data }], guard := none } : Oper)) rfl (fun K hK => ?_) ?_
    rotate_left 1
    · exact AllReadyH.nil
    (refine step_copy_none (by rfl) (.tmp 25) (.tmp 27) (by rfl) _ B _ _ 0 d (by rfl) (by rfl) (by simp) ?_)
    first | (refine hK.out _ _ ?_ (fun hH1 => ?_)) | (go_wp2_with fail; refine hK.out _ _ ?_ (fun hH1 => ?_))
    · (try dsimp only); with_reducible exact S0.out
    clear hK K hH0
    (try simp only [Act.put, List.setIfInBounds_toArray, List.set_cons_zero, List.set_cons_succ])
    refine wpAnyH_done (by kernel_rfl) ?_ _
    refine NoPanic.normal ?_
    have hys : ys = [] := List.eq_nil_of_length_eq_zero hm
    have HP := Lib.hid (show ImPost w xs ys (.returned (.tuple #[.slice (some ⟨bx + 1, 0, none⟩) 65536 65536, .bool true])) w2.drew from .inr ⟨by omega, by omega, bx + 1, by omega, rfl, by subst hys; show Blk w2 _ _ (rowF (ldF _ _ [] ([] : List Int).length) _); rw [show ([] : List Int).length = 0 from rfl, ldF_zero]; exact HL2.out, Below.drew0 HB2.out⟩)
    clear c1 S0
    go_wp2
    go_ret2
    exact HP.out
  · obtain ⟨L, hL⟩ : ∃ L, L + m = 65536 := ⟨65536 - m, by omega⟩
    have kwx : IntKind.i64.wrap (65536 - (m : Int)) = (L : Int) := by rw [IntWalk.i64_in _ (by omega)]; omega
    have l0 : (0 : Int) ≤ (L : Int) := by omega
    have l1 : (L : Int) ≤ 65536 := by omega
    have hne : ¬ (65536 = L) := by omega
    refine wp_region_noPanic ?_
    refine wp_region_held_drew (S := (fun w' => w'.cell? ⟨bx, 1, none⟩ = some (.slice B m d))) (by kernel_rfl) ?_ (fun hH0 => ?_)
    · (try dsimp only); with_reducible exact S0.out
    refine wpAnyH_take (i := 0) (oi := ({ dst := some 20, op := Op.move (Operand.tmp 4), type := 22, pos := "law.go:26", after := #[], guard := none } : Oper)) (v := ?_) rfl (by kernel_rfl) (by kernel_rfl) (by kernel_rfl) (fun _ _ _ h => h) (Or.inl ⟨by rfl, ?_⟩) (by assumption) ?_
    rotate_left 1
    · (intro w hSw; (try dsimp only at hSw); go_simp; (try with_reducible rfl))
    (try simp only [Act.put, List.setIfInBounds_toArray, List.set_cons_zero, List.set_cons_succ])
    refine wpAnyH_take (i := 1) (oi := ({ dst := some 21, op := Op.fieldAddr 24 (Operand.tmp 1) 1, type := 0, pos := "law.go:26", after := #[], guard := none } : Oper)) (v := ?_) rfl (by kernel_rfl) (by kernel_rfl) (by kernel_rfl) (fun _ _ _ h => h) (Or.inl ⟨by rfl, ?_⟩) (by assumption) ?_
    rotate_left 1
    · (intro w hSw; (try dsimp only at hSw); go_simp; (try with_reducible rfl))
    (try simp only [Act.put, List.setIfInBounds_toArray, List.set_cons_zero, List.set_cons_succ])
    refine wpAnyH_take (i := 2) (oi := ({ dst := some 22, op := Op.load 22 (Operand.tmp 21), type := 22, pos := "law.go:26", after := #[{ on := 1, ground := Ground.data }], guard := none } : Oper)) (v := ?_) rfl (by kernel_rfl) (by kernel_rfl) (by kernel_rfl) (fun _ _ _ h => h) (Or.inl ⟨by rfl, ?_⟩) (by assumption) ?_
    rotate_left 1
    · (intro w hSw; (try dsimp only at hSw); go_simp; (try with_reducible rfl))
    (try simp only [Act.put, List.setIfInBounds_toArray, List.set_cons_zero, List.set_cons_succ])
    refine wpAnyH_take (i := 3) (oi := ({ dst := some 23, op := Op.call { callee := Callee.builtin Builtin.len, args := #[Operand.tmp 22], argTypes := #[22] }, type := 3, pos := "law.go:26", after := #[{ on := 2, ground := Ground.data }], guard := none } : Oper)) (v := ?_) rfl (by kernel_rfl) (by kernel_rfl) (by kernel_rfl) (fun _ _ _ h => h) (Or.inl ⟨by rfl, ?_⟩) (by assumption) ?_
    rotate_left 1
    · (intro w hSw; (try dsimp only at hSw); go_simp; (try with_reducible rfl))
    (try simp only [Act.put, List.setIfInBounds_toArray, List.set_cons_zero, List.set_cons_succ])
    refine wpAnyH_take (i := 4) (oi := ({ dst := some 24, op := Op.binOp BinOp.sub 3 (Operand.const (Value.int IntKind.i64 65536)) (Operand.tmp 23) 3, type := 3, pos := "law.go:26", after := #[{ on := 3, ground := Ground.data }], guard := none } : Oper)) (v := ?_) rfl (by kernel_rfl) (by kernel_rfl) (by kernel_rfl) (fun _ _ _ h => h) (Or.inl ⟨by rfl, ?_⟩) (by assumption) ?_
    rotate_left 1
    · (intro w hSw; (try dsimp only at hSw); go_simp; (try with_reducible rfl))
    (try simp only [Act.put, List.setIfInBounds_toArray, List.set_cons_zero, List.set_cons_succ])
    refine wpAnyH_take (i := 5) (oi := ({ dst := some 25, op := Op.slice 22 (Operand.tmp 20) (some (Operand.tmp 24)) none none, type := 22, pos := "law.go:26", after := #[{ on := 0, ground := Ground.data }, { on := 4, ground := Ground.data }], guard := none } : Oper)) (v := ?_) rfl (by kernel_rfl) (by kernel_rfl) (by kernel_rfl) (fun _ _ _ h => h) (Or.inl ⟨by rfl, ?_⟩) (by assumption) ?_
    rotate_left 1
    · (intro w hSw; (try dsimp only at hSw); go_simp; (try with_reducible rfl))
    (try simp only [Act.put, List.setIfInBounds_toArray, List.set_cons_zero, List.set_cons_succ])
    refine wpAnyH_take (i := 6) (oi := ({ dst := some 26, op := Op.fieldAddr 24 (Operand.tmp 1) 1, type := 0, pos := "law.go:26", after := #[], guard := none } : Oper)) (v := ?_) rfl (by kernel_rfl) (by kernel_rfl) (by kernel_rfl) (fun _ _ _ h => h) (Or.inl ⟨by rfl, ?_⟩) (by assumption) ?_
    rotate_left 1
    · (intro w hSw; (try dsimp only at hSw); go_simp; (try with_reducible rfl))
    (try simp only [Act.put, List.setIfInBounds_toArray, List.set_cons_zero, List.set_cons_succ])
    refine wpAnyH_take (i := 7) (oi := ({ dst := some 27, op := Op.load 22 (Operand.tmp 26), type := 22, pos := "law.go:26", after := #[{ on := 6, ground := Ground.data }], guard := none } : Oper)) (v := ?_) rfl (by kernel_rfl) (by kernel_rfl) (by kernel_rfl) (fun _ _ _ h => h) (Or.inl ⟨by rfl, ?_⟩) (by assumption) ?_
    rotate_left 1
    · (intro w hSw; (try dsimp only at hSw); go_simp; (try with_reducible rfl))
    (try simp only [Act.put, List.setIfInBounds_toArray, List.set_cons_zero, List.set_cons_succ])
    refine wpAnyH_ready (rs := [8]) (by kernel_rfl) (by simp) ?_
    refine AllReadyH.cons (o := ({ dst := some 28, op := Op.call { callee := Callee.builtin Builtin.copy, args := #[Operand.tmp 25, Operand.tmp 27], argTypes := #[22, 22] }, type := 3, pos := "law.go:26", after := #[{ on := 5, ground := Ground.data }, { on := 7, ground := Ground.data }], guard := none } : Oper)) rfl (fun K hK => ?_) ?_
    rotate_left 1
    · exact AllReadyH.nil
    (refine step_copy_F (by rfl) (.tmp 25) (.tmp 27) (by rfl) (bx + 1) L (65536 - L) (65536 - L) B m d (by first | rfl | (show Value.slice _ _ _ = _; rw [if_neg hne])) (by rfl) (ldF (fun _ => 0) 0 xs xs.length) 65536 HL2.out.drew ys (Els.Rd.drew HY2.out) (by rw [HLL.out.2]; exact hm0) (by rw [HLL.out.2]; exact (Nat.min_eq_left (by omega)).symm) (by rw [HLL.out.2]; omega) ?_; intro w5 hb5 hg5; have S3 : Hid (w5.cell? ⟨bx, 1, none⟩ = some (.slice B m d)) := Lib.hid (hg5.cell S0.out (fun e => by have := Option.some.inj e; simp at this)))
    first | (refine hK.out _ _ ?_ (fun hH1 => ?_)) | (go_wp2_with fail; refine hK.out _ _ ?_ (fun hH1 => ?_))
    · (try dsimp only); with_reducible exact S3.out
    clear hK K hH0
    (try simp only [Act.put, List.setIfInBounds_toArray, List.set_cons_zero, List.set_cons_succ])
    refine wpAnyH_done (by kernel_rfl) ?_ _
    refine NoPanic.normal ?_
    have HP := Lib.hid (show ImPost w xs ys (.returned (.tuple #[.slice (some ⟨bx + 1, 0, none⟩) 65536 65536, .bool true])) w5 from .inr ⟨by omega, by omega, bx + 1, by omega, rfl, by unfold imF; rw [show 65536 - ys.length = L by omega]; exact hb5, Below.grown (Below.drew0 HB2.out) hg5 (by have := HB2.out.size; exact this) (fun g e => by obtain rfl := Option.some.inj e; omega)⟩)
    clear c1 S0 S3 hb5 hg5 kwx l0 l1 hne
    go_wp2
    go_ret2
    exact HP.out
end Go.Proofs.YtljhfalgplihhaaGreatDoor
namespace Go.Proofs.YtljhfalgplihhaaGreatDoor
open Go.ChangeShapes Go.WideShapes Go.ChangeAt Go.RowKit
set_option linter.unusedVariables false

/-- The instruction at an address: its numbers, its line, the address behind it. -/
structure InsAt (f : Nat → Int) (a : Nat) (pg co o md r va : Int) (b ln : Nat) (X : List Int) : Prop where
  agg : inAgg (insB f a) = iC pg co o md r (b : Int) va (ln : Int)
  ok : inOk (insB f a) = true
  take : (insB f a).take ln = X
  len : X.length = ln
  l1 : 1 ≤ ln
  l5 : ln ≤ 5
  b256 : b < 256
  v0 : 0 ≤ va
  v1 : va < 65536
  small : md = 1 ∨ md = 3 → va < 256
  wf : ∀ z ∈ X, (Lit.int .u8 z).wf = true
  line : insL f a = linS (strOfNums (written 16 (a : Int) 4)) (strOfNums (pairsOf X)) (textT o md r b va (ln : Int) (a : Int) X) (11 - 2 * ln)
  next : insN f a = (a + ln) % 65536
  tsize : (textT o md r b va (ln : Int) (a : Int) X).size ≤ 2000
theorem ins_at (f : Nat → Int) (hb : ∀ x, 0 ≤ f x ∧ f x < 256) (a : Nat) : ∃ pg co o md r va b ln X, InsAt f a pg co o md r va b ln X := by
  have hwf : ∀ z ∈ insB f a, (Lit.int .u8 z).wf = true := lstF_wf (partF f a) 5 (fun x => hb _)
  have hl5 := insX_len f hb a
  have hlen : (insB f a).length = 5 := lstF_len _ _
  have hok : inOk (insB f a) = true := by unfold inOk; rw [hlen]; exact decide_eq_true hl5.2.2
  have hpo := inPo_range hwf
  have hbi : inPo (insB f a) = ((inPo (insB f a)).toNat : Int) := by omega
  have hwT : ∀ z ∈ insX f a, (Lit.int .u8 z).wf = true := fun z hz => hwf z (List.mem_of_mem_take hz)
  have hva := va_range hwf
  refine ⟨(inPg (insB f a) : Int), inCo (insB f a), (eOp (inE (insB f a)) : Int), (eMode (inE (insB f a)) : Int), (eReg (inE (insB f a)) : Int), inVa (insB f a), (inPo (insB f a)).toNat, inLn (insB f a), insX f a, ?_, hok, rfl, hl5.1, hl5.2.1, hl5.2.2, by omega, hva.1, hva.2, va_small hwf, hwT, rfl, rfl, ?_⟩
  · unfold inAgg insC; rw [if_pos hok, ← hbi]
  · exact textT_size _ _ _ _ _ _ _ _ (by omega) hva.1 hva.2 (by rw [hl5.1]; exact hl5.2.2) (iat_range8' hwT)
theorem blkS_next (q : Nat) : blkS (q + 1) = blkS q ++ ⟨#[32]⟩ := by
  have e : Lib.repeatL [32] (q + 1) = Lib.repeatL [32] q ++ [32] := by rw [Lib.repeatL_add, Lib.repeatL_one]
  unfold blkS
  rw [e]
  apply ByteArray.ext
  simp
theorem blkS_app (s : ByteArray) (q : Nat) : (s ++ blkS q) ++ ⟨#[32]⟩ = s ++ blkS (q + 1) := by
  rw [blkS_next, ByteArray.append_assoc]
theorem blkS_zero (s : ByteArray) : s ++ blkS 0 = s := by
  unfold blkS
  apply ByteArray.ext
  simp [Lib.repeatL]
end Go.Proofs.YtljhfalgplihhaaGreatDoor
