/- The law SrecPuts answers true for every input, and each argument reads afterwards as it read before. Conditions: none. -/
import Derived.Test.YtnmgjgeniaheoabDoorRows
import Derived.WalkKit
import Derived.ProofKit
import Derived.OpenShut
import Derived.ShutString
import Derived.ChangeOld
import Derived.Below
import Derived.Test.YtnmgjgeniaheoabDoorSrz
import Derived.Test.YtnmgjgeniaheoabDoorSrh
import Derived.Test.YtnmgjgeniaheoabDoorSrl
import Derived.Test.YtnmgjgeniaheoabDoorSry
import Derived.Deep.CutBlock
import Derived.Deep.RegionHeld3
import Derived.LaidMore
import Derived.Lay
import Derived.Test.YtnmgjgeniaheoabDoorCards
import Derived.Test.YtnmgjgeniaheoabDoorTie
import Derived.LaidMore
import Derived.Stop.Joined
import Derived.SevenTiedAt
namespace Go.Proofs.YtnmgjgeniaheoabDoor.srecPuts
open Go.ChangeShapes Go.WideShapes Go.ChangeAt Go.RowKit
open Go.ChangeMaps (open_string shut_string)
set_option linter.unusedVariables false

theorem own : ownKnob Tryd.prog.godebug = none := by kernel_rfl
theorem laidOut : laidOutB Tryd.prog = true := by kernel_rfl

set_option maxRecDepth 100000 in
set_option maxHeartbeats 8000000 in
theorem walk (a0 : Int) (a1 : Option Addr) (len1 cap1 : Nat) (z1 : List PvV) (w : World) (w0 : (Lit.int .u16 a0).wf = true) (w1 : PcsIn w a1 len1 cap1 z1) (hL : laidMetH Tryd.prog Rows.srecPutsRow.laid w) :
    Calls Tryd.prog 3 #[.int .u16 a0, .slice a1 len1 cap1] w fun e w' => e = .returned (.bool true) ∧ Below w.heap.size w w' := by
  -- open 1 : List PvV | PcsIn | open_pcs
  -- heartbeats 8000000
  obtain ⟨l, hR, hln⟩ := PcR.of_in w1
  obtain ⟨s0, s1⟩ := bounds_u16 w0
  have s1 : a0 < 65536 := by omega
  clear w0 w1
  by_cases h1 : len1 ≤ 10
  case neg =>
    go_enter Tryd.func3, Tryd.ntmps3
    go_wp2
    go_ret
    exact ⟨rfl, Below.refl _ _⟩
  have CF := Lib.hid (fits_any _ l w hR (by omega))
  by_cases hf : fitsP l = true
  case neg =>
    have hf : fitsP l = false := by simpa using hf
    rw [hf] at CF
    go_enter Tryd.func3, Tryd.ntmps3
    go_wp2_with fail
    refine CF.out.mono ?_
    rintro e w2 ⟨rfl, kd, rfl⟩
    go_wp2
    go_ret
    exact ⟨rfl, Below.drewN0 (Below.refl _ _) _⟩
  rw [hf] at CF
  obtain ⟨A, c, hv, hc⟩ := hR.open_
  injection hv with e1 e2 e3
  clear e2
  subst e1 e3
  obtain ⟨N, hN⟩ : ∃ N, len1 = N := ⟨_, rfl⟩
  have HN : Hid (l.length = N) := Lib.hid (hln.trans hN)
  have HR := Lib.hid hR
  rw [hln, hN] at hc
  subst hN
  have HC := Lib.hid hc
  have HF := Lib.hid (fun k p (z : l[k]? = some p) => fitsP_at hf z)
  have HFT := Lib.hid hf
  have HX := Lib.hid (fun k p z => lnsA_next l k p z)
  have HCP := Lib.hid (fun k p z j q => cat_part l hf (by omega) k p z j q)
  have HXL := Lib.hid (fun f k p z => ldP_next f l k p z)
  have HSL := Lib.hid sliceY_lh
  have HSA := Lib.hid sliceY_at
  obtain ⟨n, hnn⟩ : ∃ n, w.heap.size = n := ⟨_, rfl⟩
  have HNN := Lib.hid hnn
  have HMK := fun u => rwMade u 65536 (by omega)
  simp only [Int.cast_ofNat_Int] at HMK
  have CTX := Lib.hid (fun a (ha : 0 ≤ a ∧ a < 65536) A m c b u (hR : eY.Rd u (.slice A m c) b) (hm : b.length = m) (hb : Byt b) (hl : m ≤ 252) => seText_any 1 a (.inr (.inl rfl)) ha A m c b u hR hm hb hl)
  have CE := Lib.hid (fun u => seText_any 9 a0 (.inr (.inr rfl)) ⟨s0, s1⟩ none 0 0 [] u (Els.Rd.nil_ u) rfl Byt.nil_ (by omega))
  clear hc hR hln hf
  go_enter Tryd.func3, Tryd.ntmps3
  go_wp2_with fail
  refine CF.out.mono ?_
  rintro e w2 ⟨rfl, kd, rfl⟩
  obtain ⟨u0, hu0⟩ : ∃ u, w.drewN kd = u := ⟨_, rfl⟩
  have hu1 : u0.heap.size = n := by rw [← hu0, ← hnn]; rfl
  have U0 : Hid (Below n w u0) := Lib.hid (by rw [← hu0, ← hnn]; exact Below.drewN0 (Below.refl _ _) _)
  have B0 : Hid (Blk (u0.alloc (.cells (rwF (fun _ => 0) 65536) 5)) n 5 (rwF (ldP (fun _ => 0) (l.take 0)) 65536)) := Lib.hid (by rw [← hu1]; exact Blk.new _ _ _ _)
  have W0 : Hid (Below n w (u0.alloc (.cells (rwF (fun _ => 0) 65536) 5))) := Lib.hid (U0.out.trans (by rw [← hu1]; exact Below.alloc0 (Below.refl _ _) _))
  rw [hu0]
  clear hu0 CF
  go_wp2
  generalize u0.alloc (.cells (rwF (fun _ => 0) 65536) 5) = w1 at B0 W0 ⊢
  go_loopw [5, 7] (fun s i wr => ∃ k : Nat, k ≤ len1 ∧ i = .int .i64 k ∧ s = .string (catN (lnsA (l.take k))) ∧ Hid (Blk wr n 5 (rwF (ldP (fun _ => 0) (l.take k)) 65536)) ∧ Hid (Below n w wr)) (fun _ i _ => len1 - (intOf i).toNat)
  case atStart => exact ⟨0, Nat.zero_le _, rfl, rfl, B0, W0⟩
  case round =>
    obtain ⟨k, hk, rfl, rfl, HB, HW⟩ := hrel
    by_cases hlt : k < len1
    · obtain ⟨g, off, rfl, hg, hcell⟩ := HC.out (by omega)
      rw [HNN.out] at hg
      obtain ⟨p, hp⟩ : ∃ p, l[k]? = some p := ⟨_, List.getElem?_eq_getElem (by rw [HN.out]; exact hlt)⟩
      obtain ⟨B, m, cp, c0, c1, p0, p1, hrd, hm, hby, hcap⟩ := hcell k p hp
      have hcap := hcap (by simp)
      have hfp := (fitP_iff p).1 (HF.out k p hp)
      have d0 : wr.cell? ⟨g, off + k * 2, none⟩ = some (.int .u16 p.1) := (HW.out.cell (p := ⟨g, off + k * 2, none⟩) hg).trans c0
      have d1 : wr.cell? ⟨g, off + k * 2 + 1, none⟩ = some (.slice B m cp) := (HW.out.cell (p := ⟨g, off + k * 2 + 1, none⟩) hg).trans c1
      have k0 : (0 : Int) ≤ k := by omega
      have k1 : (k : Int) < len1 := by omega
      have NX := Lib.hid (HX.out k p hp)
      have NXL := Lib.hid (HXL.out (fun _ => 0) k p hp)
      have NB := Lib.hid (fun j q => HCP.out k p hp j q)
      obtain ⟨D, hD⟩ : ∃ D, lnsA (l.take k) = D := ⟨_, rfl⟩
      rw [hD] at NX NB ⊢
      have sl := fun u => HSA.out u n p.1 p0 p1
      obtain ⟨a, ha⟩ : ∃ a : Nat, p.1.toNat = a := ⟨_, rfl⟩
      have ha2 : p.1 = (a : Int) := by omega
      rw [ha] at sl NXL
      have RD : Hid (eY.Rd wr (.slice B m cp) p.2) := Lib.hid (hrd.below (by rw [HNN.out]; exact HW.out))
      have HRD := Lib.hid hrd
      have HC0 := Lib.hid c0
      have HG := Lib.hid hg
      have HFP := Lib.hid hfp
      have HM := Lib.hid hm
      have HBY := Lib.hid hby
      have HA2 := Lib.hid ha2
      have HP1 : Hid (0 ≤ p.1 ∧ p.1 < 65536) := Lib.hid ⟨p0, p1⟩
      have hm2 : m ≤ 200 := by omega
      have hcat : Hid ((catN D).size ≤ 7000) := Lib.hid (by have := NB.out 0 (by omega); rw [List.range_zero, List.map_nil, List.map_nil, List.append_nil] at this; exact this)
      clear hcell hp c0 c1 hrd hby hfp hm hD ha ha2 hg
      go_wp2_with (refine wpList_copyR rfl (.tmp 41) (.tmp 42) rfl n a (65536 - a) (65536 - a) B m cp rfl rfl (ldP (fun _ => 0) (l.take k)) 65536 HB.out p.2 RD.out (by have := HFP.out; have := HM.out; have := HA2.out; have e : Nat.min m (65536 - a) = if m ≤ 65536 - a then m else 65536 - a := Nat.min_def; rw [e]; split <;> omega) (by have := HFP.out; have := HA2.out; omega) ?_; intro w7 hb7 hg7)
      have B7 : Hid (Blk w7 n 5 (rwF (ldP (fun _ => 0) (l.take (k + 1))) 65536)) := Lib.hid (by rw [NXL.out]; exact hb7)
      have W7 : Hid (Below n w w7) := Lib.hid (HW.out.grown hg7 (by have := HB.out.lt; omega) (fun z hz => by injection hz with hz; omega))
      clear hb7 hg7 d0 d1 sl RD
      go_loopw [5, 9] (fun s i2 wr => ∃ j : Nat, 32 * j < m + 32 ∧ i2 = .int .i64 ((32 * j : Nat) : Int) ∧ s = .string (catN (D ++ ((List.range j).map (ckP p)).map lnT)) ∧ Hid (Blk wr n 5 (rwF (ldP (fun _ => 0) (l.take (k + 1))) 65536)) ∧ Hid (Below n w wr)) (fun _ i2 _ => 100000 - (intOf i2).toNat)
      case atStart => exact ⟨0, by omega, rfl, by rw [List.range_zero, List.map_nil, List.map_nil, List.append_nil], B7, W7⟩
      case round =>
        obtain ⟨j, hj, rfl, rfl, HB2, HW2⟩ := hrel
        obtain ⟨x, hx⟩ : ∃ x : Nat, 32 * j = x := ⟨_, rfl⟩
        rw [hx] at hj ⊢
        have x0 : (0 : Int) ≤ x := by omega
        by_cases hjm : x < m
        · have x1 : (x : Int) < m := by omega
          obtain ⟨T, hT⟩ : ∃ T : Nat, (if m < x + 32 then m else x + 32) = T := ⟨_, rfl⟩
          have hT2 : (x : Int) ≤ (T : Int) := by rw [← hT]; split <;> omega
          have hT3 : T ≤ m := by rw [← hT]; split <;> omega
          have tm1 : min ((x : Int) + 32) (m : Int) = (T : Int) := by rw [← hT]; split <;> omega
          have tm2 : (if (m : Int) < (x : Int) + 32 then (m : Int) else (x : Int) + 32) = (T : Int) := by rw [← hT]; split <;> split <;> omega
          have hw32 : IntKind.i64.wrap ((x : Int) + 32) = (x : Int) + 32 := IntWalk.i64_in _ (by omega)
          have sl := fun u => HSL.out u B m cp x T (by omega) (by omega)
          have hM2 : p.2.length = m := HM.out.symm
          have RT := windowY (HRD.out.below (by rw [HNN.out]; exact HW2.out)) hcap x T (by omega) hT3
          rw [take_min p.2 x T (by rw [hM2, hT]) (by omega)] at RT
          unfold sliced at sl RT
          obtain ⟨AA, hAA⟩ : ∃ AA, (if cp = x then B else B.map (·.add (x * 1))) = AA := ⟨_, rfl⟩
          rw [hAA] at sl RT
          have tu : IntKind.u16.wrap (x : Int) = (x : Int) := by rw [IntKind.wrap_u16]; omega
          have hfp := HFP.out
          have ts : IntKind.u16.wrap (p.1 + (x : Int)) = p.1 + (x : Int) := by rw [IntKind.wrap_u16]; have := HP1.out; omega
          have hckl : ((p.2.drop x).take 32).length = T - x := by rw [List.length_take, List.length_drop, hM2, Nat.min_def, ← hT]; split <;> split <;> omega
          have CTs := fun v (hv : Below n w v) => CTX.out (p.1 + (x : Int)) (by have := HP1.out; omega) AA (T - x) (cp - x) _ v (by
            have RT2 := windowY (HRD.out.below (w' := v) (by rw [HNN.out]; exact hv)) hcap x T (by omega) hT3
            rw [take_min p.2 x T (by rw [hM2, hT]) (by omega)] at RT2
            unfold sliced at RT2
            rw [hAA] at RT2
            exact RT2) hckl ((HBY.out.drop _).take _) (by omega)
          have hTT : strOfNums (lnX 1 (p.1 + (x : Int)) ((p.2.drop x).take 32)) = lnT (ckP p j) := by unfold lnT ckP; rw [hx]; rw [show ((32 : Int) * (j : Int)) = (x : Int) by omega]
          rw [hTT] at CTs
          have CTs := Lib.hid CTs
          have LNX := Lib.hid (lns_take p j)
          have hsz := lnT_size (ckP p j)
          have hsz2 : (ckP p j).2.length ≤ 32 := by unfold ckP; rw [List.length_take]; exact Nat.min_le_left _ _
          obtain ⟨TT, hTT2⟩ : ∃ TT, lnT (ckP p j) = TT := ⟨_, rfl⟩
          rw [hTT2] at CTs LNX hsz
          have HNBj := NB.out j (by have := HM.out; omega)
          obtain ⟨CC, hCC⟩ : ∃ CC, catN (D ++ ((List.range j).map (ckP p)).map lnT) = CC := ⟨_, rfl⟩
          rw [hCC] at HNBj ⊢
          have HCC := Lib.hid hCC
          have y1 : ¬ 9223372036854775807 < TT.size + (⟨#[10]⟩ : ByteArray).size := by show ¬ 9223372036854775807 < TT.size + 1; omega
          have y2 : ¬ 9223372036854775807 < TT.size + 1 := by omega
          have y3 : ¬ 9223372036854775807 < CC.size + (TT.size + 1) := by omega
          have y4 : ¬ 9223372036854775807 < CC.size + (TT.size + (⟨#[10]⟩ : ByteArray).size) := by show ¬ 9223372036854775807 < CC.size + (TT.size + 1); omega
          have y5 : ¬ 9223372036854775807 < CC.size + (TT ++ ⟨#[10]⟩ : ByteArray).size := by rw [ByteArray.size_append]; show ¬ 9223372036854775807 < CC.size + (TT.size + 1); omega
          have HX2 := Lib.hid hx
          have d0 : wr.cell? ⟨g, off + k * 2, none⟩ = some (.int .u16 p.1) := (HW2.out.cell (p := ⟨g, off + k * 2, none⟩) HG.out).trans HC0.out
          have HWd : Hid (Below n w wr.drew) := Lib.hid ⟨HW2.out.os, HW2.out.tape, HW2.out.output, HW2.out.size, HW2.out.block⟩
          have HBd : Hid (Blk wr.drew n 5 (rwF (ldP (fun _ => 0) (l.take (k + 1))) 65536)) := Lib.hid (Blk.drew HB2.out)
          have HS : Hid (∀ u : World, Below n w u → (fun w' : World => w'.cell? ⟨g, off + k * 2, none⟩ = some (.int .u16 p.1)) u) := Lib.hid (fun u z => (z.cell (p := ⟨g, off + k * 2, none⟩) HG.out).trans HC0.out)
          have S0 := Lib.hid (HS.out _ HWd.out)
          clear hAA hTT hTT2 hckl RT hsz hsz2 hT hCC HNBj hM2
          go_wp2_with fail
          clear d0
          refine wp_region_noPanic ?_
          refine wp_region_held_drew (S := (fun w' : World => w'.cell? ⟨g, off + k * 2, none⟩ = some (.int .u16 p.1))) (by kernel_rfl) ?_ (fun hH0 => ?_)
          · (try dsimp only); with_reducible exact S0.out
          refine wpAnyH_take (i := 0) (oi := ({ dst := some 50, op := Op.move (Operand.tmp 5), type := 9, pos := "law.go:54", after := #[], guard := none } : Oper)) (v := ?_) rfl (by kernel_rfl) (by kernel_rfl) (by kernel_rfl) (fun _ _ _ h => h) (Or.inl ⟨by rfl, ?_⟩) (by assumption) ?_
          rotate_left 1
          · (intro w hSw; (try dsimp only at hSw); go_simp; (try with_reducible rfl))
          (try simp only [Act.put, List.setIfInBounds_toArray, List.set_cons_zero, List.set_cons_succ])
          refine wpAnyH_take (i := 1) (oi := ({ dst := some 51, op := Op.move (Operand.tmp 1), type := 23, pos := "law.go:54", after := #[], guard := none } : Oper)) (v := ?_) rfl (by kernel_rfl) (by kernel_rfl) (by kernel_rfl) (fun _ _ _ h => h) (Or.inl ⟨by rfl, ?_⟩) (by assumption) ?_
          rotate_left 1
          · (intro w hSw; (try dsimp only at hSw); go_simp; (try with_reducible rfl))
          (try simp only [Act.put, List.setIfInBounds_toArray, List.set_cons_zero, List.set_cons_succ])
          refine wpAnyH_take (i := 2) (oi := ({ dst := some 52, op := Op.move (Operand.tmp 7), type := 3, pos := "law.go:54", after := #[], guard := none } : Oper)) (v := ?_) rfl (by kernel_rfl) (by kernel_rfl) (by kernel_rfl) (fun _ _ _ h => h) (Or.inl ⟨by rfl, ?_⟩) (by assumption) ?_
          rotate_left 1
          · (intro w hSw; (try dsimp only at hSw); go_simp; (try with_reducible rfl))
          (try simp only [Act.put, List.setIfInBounds_toArray, List.set_cons_zero, List.set_cons_succ])
          refine wpAnyH_take (i := 3) (oi := ({ dst := some 53, op := Op.indexAddr 23 (Operand.tmp 51) (Operand.tmp 52), type := 0, pos := "law.go:54", after := #[{ on := 1, ground := Ground.data }, { on := 2, ground := Ground.data }], guard := none } : Oper)) (v := ?_) rfl (by kernel_rfl) (by kernel_rfl) (by kernel_rfl) (fun _ _ _ h => h) (Or.inl ⟨by rfl, ?_⟩) (by assumption) ?_
          rotate_left 1
          · (intro w hSw; (try dsimp only at hSw); go_simp; (try with_reducible rfl))
          (try simp only [Act.put, List.setIfInBounds_toArray, List.set_cons_zero, List.set_cons_succ])
          refine wpAnyH_take (i := 4) (oi := ({ dst := some 54, op := Op.fieldAddr 27 (Operand.tmp 53) 0, type := 0, pos := "law.go:54", after := #[{ on := 3, ground := Ground.data }], guard := none } : Oper)) (v := ?_) rfl (by kernel_rfl) (by kernel_rfl) (by kernel_rfl) (fun _ _ _ h => h) (Or.inl ⟨by rfl, ?_⟩) (by assumption) ?_
          rotate_left 1
          · (intro w hSw; (try dsimp only at hSw); go_simp; (try with_reducible rfl))
          (try simp only [Act.put, List.setIfInBounds_toArray, List.set_cons_zero, List.set_cons_succ])
          refine wpAnyH_take (i := 5) (oi := ({ dst := some 55, op := Op.load 22 (Operand.tmp 54), type := 22, pos := "law.go:54", after := #[{ on := 4, ground := Ground.data }], guard := none } : Oper)) (v := ?_) rfl (by kernel_rfl) (by kernel_rfl) (by kernel_rfl) (fun _ _ _ h => h) (Or.inl ⟨by rfl, ?_⟩) (by assumption) ?_
          rotate_left 1
          · (intro w hSw; (try dsimp only at hSw); go_simp; (try with_reducible rfl))
          (try simp only [Act.put, List.setIfInBounds_toArray, List.set_cons_zero, List.set_cons_succ])
          refine wpAnyH_take (i := 6) (oi := ({ dst := some 56, op := Op.move (Operand.tmp 9), type := 3, pos := "law.go:54", after := #[], guard := none } : Oper)) (v := ?_) rfl (by kernel_rfl) (by kernel_rfl) (by kernel_rfl) (fun _ _ _ h => h) (Or.inl ⟨by rfl, ?_⟩) (by assumption) ?_
          rotate_left 1
          · (intro w hSw; (try dsimp only at hSw); go_simp; (try with_reducible rfl))
          (try simp only [Act.put, List.setIfInBounds_toArray, List.set_cons_zero, List.set_cons_succ])
          refine wpAnyH_take (i := 7) (oi := ({ dst := some 57, op := Op.convert 3 22 (Operand.tmp 56), type := 22, pos := "law.go:54", after := #[{ on := 6, ground := Ground.data }], guard := none } : Oper)) (v := ?_) rfl (by kernel_rfl) (by kernel_rfl) (by kernel_rfl) (fun _ _ _ h => h) (Or.inl ⟨by rfl, ?_⟩) (by assumption) ?_
          rotate_left 1
          · (intro w hSw; (try dsimp only at hSw); go_simp; (try with_reducible rfl))
          (try simp only [Act.put, List.setIfInBounds_toArray, List.set_cons_zero, List.set_cons_succ])
          refine wpAnyH_take (i := 8) (oi := ({ dst := some 58, op := Op.binOp BinOp.add 22 (Operand.tmp 55) (Operand.tmp 57) 22, type := 22, pos := "law.go:54", after := #[{ on := 5, ground := Ground.data }, { on := 7, ground := Ground.data }], guard := none } : Oper)) (v := ?_) rfl (by kernel_rfl) (by kernel_rfl) (by kernel_rfl) (fun _ _ _ h => h) (Or.inl ⟨by rfl, ?_⟩) (by assumption) ?_
          rotate_left 1
          · (intro w hSw; (try dsimp only at hSw); go_simp; (try with_reducible rfl))
          (try simp only [Act.put, List.setIfInBounds_toArray, List.set_cons_zero, List.set_cons_succ])
          refine wpAnyH_take (i := 9) (oi := ({ dst := some 59, op := Op.move (Operand.tmp 8), type := 25, pos := "law.go:54", after := #[], guard := none } : Oper)) (v := ?_) rfl (by kernel_rfl) (by kernel_rfl) (by kernel_rfl) (fun _ _ _ h => h) (Or.inl ⟨by rfl, ?_⟩) (by assumption) ?_
          rotate_left 1
          · (intro w hSw; (try dsimp only at hSw); go_simp; (try with_reducible rfl))
          (try simp only [Act.put, List.setIfInBounds_toArray, List.set_cons_zero, List.set_cons_succ])
          refine wpAnyH_take (i := 10) (oi := ({ dst := some 60, op := Op.move (Operand.tmp 9), type := 3, pos := "law.go:54", after := #[], guard := none } : Oper)) (v := ?_) rfl (by kernel_rfl) (by kernel_rfl) (by kernel_rfl) (fun _ _ _ h => h) (Or.inl ⟨by rfl, ?_⟩) (by assumption) ?_
          rotate_left 1
          · (intro w hSw; (try dsimp only at hSw); go_simp; (try with_reducible rfl))
          (try simp only [Act.put, List.setIfInBounds_toArray, List.set_cons_zero, List.set_cons_succ])
          refine wpAnyH_take (i := 11) (oi := ({ dst := some 61, op := Op.move (Operand.tmp 9), type := 3, pos := "law.go:54", after := #[], guard := none } : Oper)) (v := ?_) rfl (by kernel_rfl) (by kernel_rfl) (by kernel_rfl) (fun _ _ _ h => h) (Or.inl ⟨by rfl, ?_⟩) (by assumption) ?_
          rotate_left 1
          · (intro w hSw; (try dsimp only at hSw); go_simp; (try with_reducible rfl))
          (try simp only [Act.put, List.setIfInBounds_toArray, List.set_cons_zero, List.set_cons_succ])
          refine wpAnyH_take (i := 12) (oi := ({ dst := some 62, op := Op.binOp BinOp.add 3 (Operand.tmp 61) (Operand.const (Value.int IntKind.i64 32)) 3, type := 3, pos := "law.go:54", after := #[{ on := 11, ground := Ground.data }], guard := none } : Oper)) (v := ?_) rfl (by kernel_rfl) (by kernel_rfl) (by kernel_rfl) (fun _ _ _ h => h) (Or.inl ⟨by rfl, ?_⟩) (by assumption) ?_
          rotate_left 1
          · (intro w hSw; (try dsimp only at hSw); go_simp; (try with_reducible rfl))
          (try simp only [Act.put, List.setIfInBounds_toArray, List.set_cons_zero, List.set_cons_succ])
          refine wpAnyH_take (i := 13) (oi := ({ dst := some 63, op := Op.move (Operand.tmp 8), type := 25, pos := "law.go:54", after := #[], guard := none } : Oper)) (v := ?_) rfl (by kernel_rfl) (by kernel_rfl) (by kernel_rfl) (fun _ _ _ h => h) (Or.inl ⟨by rfl, ?_⟩) (by assumption) ?_
          rotate_left 1
          · (intro w hSw; (try dsimp only at hSw); go_simp; (try with_reducible rfl))
          (try simp only [Act.put, List.setIfInBounds_toArray, List.set_cons_zero, List.set_cons_succ])
          refine wpAnyH_take (i := 14) (oi := ({ dst := some 64, op := Op.call { callee := Callee.builtin Builtin.len, args := #[Operand.tmp 63], argTypes := #[25] }, type := 3, pos := "law.go:54", after := #[{ on := 13, ground := Ground.data }], guard := none } : Oper)) (v := ?_) rfl (by kernel_rfl) (by kernel_rfl) (by kernel_rfl) (fun _ _ _ h => h) (Or.inl ⟨by rfl, ?_⟩) (by assumption) ?_
          rotate_left 1
          · (intro w hSw; (try dsimp only at hSw); go_simp; (try with_reducible rfl))
          (try simp only [Act.put, List.setIfInBounds_toArray, List.set_cons_zero, List.set_cons_succ])
          refine wpAnyH_take (i := 15) (oi := ({ dst := some 65, op := Op.call { callee := Callee.builtin Builtin.min, args := #[Operand.tmp 62, Operand.tmp 64], argTypes := #[3, 3] }, type := 3, pos := "law.go:54", after := #[{ on := 12, ground := Ground.data }, { on := 14, ground := Ground.data }], guard := none } : Oper)) (v := ?_) rfl (by kernel_rfl) (by kernel_rfl) (by kernel_rfl) (fun _ _ _ h => h) (Or.inl ⟨by rfl, ?_⟩) (by assumption) ?_
          rotate_left 1
          · (intro w hSw; (try dsimp only at hSw); go_simp; (try with_reducible rfl))
          (try simp only [Act.put, List.setIfInBounds_toArray, List.set_cons_zero, List.set_cons_succ])
          refine wpAnyH_take (i := 16) (oi := ({ dst := some 66, op := Op.slice 25 (Operand.tmp 59) (some (Operand.tmp 60)) (some (Operand.tmp 65)) none, type := 25, pos := "law.go:54", after := #[{ on := 9, ground := Ground.data }, { on := 10, ground := Ground.data }, { on := 15, ground := Ground.data }], guard := none } : Oper)) (v := ?_) rfl (by kernel_rfl) (by kernel_rfl) (by kernel_rfl) (fun _ _ _ h => h) (Or.inl ⟨by rfl, ?_⟩) (by assumption) ?_
          rotate_left 1
          · (intro w hSw; (try dsimp only at hSw); go_simp; (try with_reducible rfl))
          (try simp only [Act.put, List.setIfInBounds_toArray, List.set_cons_zero, List.set_cons_succ])
          refine wpAnyH_take (i := 17) (oi := ({ dst := some 67, op := Op.build 30 #[(0, Operand.const (Value.int IntKind.i64 1)), (1, Operand.tmp 58), (2, Operand.tmp 66)], type := 30, pos := "law.go:54", after := #[{ on := 8, ground := Ground.data }, { on := 16, ground := Ground.data }], guard := none } : Oper)) (v := ?_) rfl (by kernel_rfl) (by kernel_rfl) (by kernel_rfl) (fun _ _ _ h => h) (Or.inl ⟨by rfl, ?_⟩) (by assumption) ?_
          rotate_left 1
          · (intro w hSw; (try dsimp only at hSw); go_simp; (try with_reducible rfl))
          (try simp only [Act.put, List.setIfInBounds_toArray, List.set_cons_zero, List.set_cons_succ])
          refine wpAnyH_ready (rs := [18]) (by kernel_rfl) (by simp) ?_
          refine AllReadyH.cons (o := ({ dst := some 68, op := Op.call { callee := Callee.value (Operand.func 7), args := #[Operand.tmp 67], argTypes := #[30] }, type := 9, pos := "law.go:54", after := #[{ on := 17, ground := Ground.data }], guard := none } : Oper)) rfl (fun K hK => ?_) ?_
          rotate_left 1
          · exact AllReadyH.nil
          go_simp
          go_at_call 7
          ((with_reducible refine (CTs.out _ HWd.out).mono ?_); rintro e w3 ⟨rfl, hb3⟩; have B3 := Lib.hid (Blk.below HBd.out hb3 HBd.out.lt); have W3 : Hid (Below n w w3) := Lib.hid (HWd.out.trans (hb3.mono (Nat.le_of_lt HBd.out.lt))); have S3 := Lib.hid (HS.out _ W3.out); clear hb3)
          first | (refine hK.out _ _ ?_ (fun hH1 => ?_)) | (go_wp2_with fail; refine hK.out _ _ ?_ (fun hH1 => ?_))
          · (try dsimp only); with_reducible exact S3.out
          clear hK K hH0
          (try simp only [Act.put, List.setIfInBounds_toArray, List.set_cons_zero, List.set_cons_succ])
          refine wpAnyH_take (i := 19) (oi := ({ dst := some 69, op := Op.binOp BinOp.add 9 (Operand.tmp 68) (Operand.const (Value.string { data := #[10] })) 9, type := 9, pos := "law.go:54", after := #[{ on := 18, ground := Ground.data }], guard := none } : Oper)) (v := ?_) rfl (by kernel_rfl) (by kernel_rfl) (by kernel_rfl) (fun _ _ _ h => h) (Or.inl ⟨by rfl, ?_⟩) (by assumption) ?_
          rotate_left 1
          · (intro w hSw; (try dsimp only at hSw); go_simp; (try with_reducible rfl))
          (try simp only [Act.put, List.setIfInBounds_toArray, List.set_cons_zero, List.set_cons_succ])
          refine wpAnyH_take (i := 20) (oi := ({ dst := some 70, op := Op.binOp BinOp.add 9 (Operand.tmp 50) (Operand.tmp 69) 9, type := 9, pos := "law.go:54", after := #[{ on := 0, ground := Ground.data }, { on := 19, ground := Ground.data }], guard := none } : Oper)) (v := ?_) rfl (by kernel_rfl) (by kernel_rfl) (by kernel_rfl) (fun _ _ _ h => h) (Or.inl ⟨by rfl, ?_⟩) (by assumption) ?_
          rotate_left 1
          · (intro w hSw; (try dsimp only at hSw); go_simp; (try with_reducible rfl))
          (try simp only [Act.put, List.setIfInBounds_toArray, List.set_cons_zero, List.set_cons_succ])
          refine wpAnyH_take (i := 21) (oi := ({ dst := some 5, op := Op.assign (Operand.tmp 70), type := 9, pos := "law.go:54", after := #[{ on := 20, ground := Ground.data }, { on := 18, ground := Ground.chain }, { on := 0, ground := Ground.phase }, { on := 1, ground := Ground.phase }, { on := 2, ground := Ground.phase }, { on := 3, ground := Ground.phase }, { on := 4, ground := Ground.phase }, { on := 5, ground := Ground.phase }, { on := 6, ground := Ground.phase }, { on := 7, ground := Ground.phase }, { on := 8, ground := Ground.phase }, { on := 9, ground := Ground.phase }, { on := 10, ground := Ground.phase }, { on := 11, ground := Ground.phase }, { on := 12, ground := Ground.phase }, { on := 13, ground := Ground.phase }, { on := 14, ground := Ground.phase }, { on := 15, ground := Ground.phase }, { on := 16, ground := Ground.phase }, { on := 17, ground := Ground.phase }, { on := 18, ground := Ground.phase }, { on := 19, ground := Ground.phase }, { on := 20, ground := Ground.phase }], guard := none } : Oper)) (v := ?_) rfl (by kernel_rfl) (by kernel_rfl) (by kernel_rfl) (fun _ _ _ h => h) (Or.inl ⟨by rfl, ?_⟩) (by assumption) ?_
          rotate_left 1
          · (intro w hSw; (try dsimp only at hSw); go_simp; (try with_reducible rfl))
          (try simp only [Act.put, List.setIfInBounds_toArray, List.set_cons_zero, List.set_cons_succ])
          refine wpAnyH_done (by kernel_rfl) ?_ _
          refine NoPanic.normal ?_
          all_goals
            go_wp2
            go_roundw
            case rel => exact ⟨j + 1, by have := HX2.out; omega, by have := HX2.out; rw [show 32 * (j + 1) = x + 32 by omega]; rfl, by rw [LNX.out, ← List.append_assoc, catN_app, HCC.out], B3, W3⟩
            case measure => simp [intOf]; omega
        · have x1 : ¬ (x : Int) < m := by omega
          have hjn : Hid (j = ckN p) := Lib.hid (by unfold ckN; have := HM.out; omega)
          go_wp2
          go_roundw
          case rel => exact ⟨k + 1, by omega, by go_num, by rw [NX.out]; unfold ckL; rw [← hjn.out], HB2, HW2⟩
          case measure => simp [intOf]; omega
    · have k1 : ¬ (k : Int) < len1 := by omega
      have B6 : Hid (Blk wr n 5 (rwF (ldP (fun _ => 0) l) 65536)) := Lib.hid (by have := HB.out; rw [List.take_of_length_le (by rw [HN.out]; omega)] at this; exact this)
      have W6 := HW
      rw [List.take_of_length_le (by rw [HN.out]; omega)]
      have CEs := fun v => CE.out v
      rw [show strOfNums (lnX 9 a0 []) = lnE a0 from rfl] at CEs
      have hsz : (lnE a0).size = 10 := by unfold lnE; rw [strOfNums_size, lnX_len]; rfl
      have CEs := Lib.hid CEs
      obtain ⟨TT, hTT⟩ : ∃ TT, lnE a0 = TT := ⟨_, rfl⟩
      rw [hTT] at CEs hsz
      have HTT := Lib.hid hTT
      have hcat : (catN (lnsA l)).size ≤ 6000 := by
        have h1 := catN_size (lnsA l) 74 (lns_bound _ HFT.out)
        have h2 := lns_count l HFT.out
        have h3 : (lnsA l).length ≤ 70 := by have := HN.out; omega
        have := Nat.mul_le_mul h3 (Nat.le_refl 75)
        omega
      obtain ⟨CC, hCC⟩ : ∃ CC, catN (lnsA l) = CC := ⟨_, rfl⟩
      rw [hCC] at hcat ⊢
      have HCC := Lib.hid hCC
      have y1 : ¬ 9223372036854775807 < TT.size + (⟨#[10]⟩ : ByteArray).size := by show ¬ 9223372036854775807 < TT.size + 1; omega
      have y2 : ¬ 9223372036854775807 < TT.size + 1 := by omega
      have y3 : ¬ 9223372036854775807 < CC.size + (TT.size + 1) := by omega
      have y4 : ¬ 9223372036854775807 < CC.size + (TT.size + (⟨#[10]⟩ : ByteArray).size) := by show ¬ 9223372036854775807 < CC.size + (TT.size + 1); omega
      have y5 : ¬ 9223372036854775807 < CC.size + (TT ++ ⟨#[10]⟩ : ByteArray).size := by rw [ByteArray.size_append]; show ¬ 9223372036854775807 < CC.size + (TT.size + 1); omega
      have HSZ := Lib.hid hcat
      have HSZ2 := Lib.hid hsz
      clear hTT hlt hk HB HW hsz hcat hCC
      go_wp2_with fail
      refine (CEs.out _).mono ?_
      rintro e w3 ⟨rfl, hb3⟩
      have B3 := Lib.hid (Blk.below B6.out hb3 B6.out.lt)
      have W3 : Hid (Below n w w3) := Lib.hid (W6.out.trans (hb3.mono (Nat.le_of_lt B6.out.lt)))
      have CP := Lib.hid (put_any a0 s0 s1 _ l w3 (HR.out.below (by rw [HNN.out]; exact W3.out)) HFT.out (by rw [HN.out]; exact h1))
      clear hb3 CEs
      go_wp2_with fail
      refine CP.out.mono ?_
      rintro e w4 ⟨rfl, hb4⟩
      have B4 := Lib.hid (Blk.below B3.out hb4 B3.out.lt)
      have W4 : Hid (Below n w w4) := Lib.hid (W3.out.trans (hb4.mono (Nat.le_of_lt B3.out.lt)))
      have hck : Hid (∀ q ∈ ckAll l, PcOk q ∧ fitP q = true) := Lib.hid (ck_all l _ _ _ HR.out HFT.out)
      have hcn : (ckAll l).length ≤ 70 := by
        have h2 := lns_count l HFT.out
        have h3 : (lnsA l).length = (ckAll l).length := by unfold lnsA; rw [List.length_map]
        have := HN.out
        omega
      have hpc : pcsB 10 (catN (lnsA l ++ [lnE a0])) = ((ckAll l).map lnT ++ [lnE a0]) ++ [⟨#[]⟩] := pcs_back a0 s0 s1 l hck.out
      have hsz9 : (catN (lnsA l ++ [lnE a0])).size ≤ 100000 := by
        rw [catN_app, HTT.out, HCC.out, ByteArray.size_append, ByteArray.size_append]
        have := HSZ.out
        have := HSZ2.out
        show CC.size + (TT.size + 1) ≤ 100000
        omega
      have CG := Lib.hid (get_any (ckAll l) a0 s0 s1 _ hsz9 (fun q hq => (hck.out q hq).1) (by omega) hpc w4)
      have hEQ : catN (lnsA l ++ [lnE a0]) = CC ++ (TT ++ ⟨#[10]⟩) := by rw [catN_app, HTT.out, HCC.out]
      rw [hEQ] at CG ⊢
      have HCN := Lib.hid hcn
      clear hb4 CP hpc hsz9 hEQ hcn
      go_wp2_with fail
      refine CG.out.mono ?_
      rintro e w5 ⟨v5, rfl, hr5, hb5⟩
      have B5 := Lib.hid (Blk.below B4.out hb5 B4.out.lt)
      have W5 : Hid (Below n w w5) := Lib.hid (W4.out.trans (hb5.mono (Nat.le_of_lt B4.out.lt)))
      have R5 := Lib.hid hr5
      obtain ⟨A5, c5, hv5, -⟩ := hr5.open_
      obtain ⟨N5, hN5⟩ : ∃ N5, (ckAll l).length = N5 := ⟨_, rfl⟩
      rw [hN5] at hv5
      subst hv5
      have hfk : fitsP (ckAll l) = true := List.all_eq_true.2 (fun q hq => (hck.out q hq).2)
      have HFK := Lib.hid hfk
      have CF5 := Lib.hid (fits_any _ (ckAll l) w5 R5.out (by have := HCN.out; omega))
      rw [hfk] at CF5
      clear hb5 CG hr5 hN5 hfk hck
      go_wp2_with fail
      refine CF5.out.mono ?_
      rintro e w6 ⟨rfl, kd6, rfl⟩
      have W7 : Hid (Below n w (w5.drewN kd6)) := Lib.hid ⟨W5.out.os, W5.out.tape, W5.out.output, W5.out.size, W5.out.block⟩
      have B7 := Lib.hid (Blk.drewN B5.out kd6)
      have R7 : Hid (PcR false (w5.drewN kd6) (.slice A5 N5 c5) (ckAll l)) := Lib.hid (R5.out.below (Below.drewN0 (Below.refl _ _) _))
      generalize w5.drewN kd6 = u6 at B7 W7 R7 ⊢
      have CL := Lib.hid (load_any _ l u6 (HR.out.below (by rw [HNN.out]; exact W7.out)) HFT.out (by have := HN.out; omega))
      clear CF5
      go_wp2_with fail
      refine CL.out.mono ?_
      rintro e w8 ⟨v8, rfl, hr8, hb8⟩
      have hpf := pc_facts l _ _ _ HR.out
      have HBY := Lib.hid (ldP_rwl l (fun q hq => (hpf q hq).2) 65536)
      have HLD : Hid (ldP (fun _ => 0) (ckAll l) = ldP (fun _ => 0) l) := Lib.hid (ld_ckAll l _ (fun q hq => (hpf q hq).1))
      obtain ⟨X, hX⟩ : ∃ X, rwL (ldP (fun _ => 0) l) 65536 = X := ⟨_, rfl⟩
      have HX2 := Lib.hid hX
      have HXL2 : Hid (X.length = 65536) := Lib.hid (by rw [← hX, rwL_len])
      have B8 := Lib.hid (Blk.below B7.out hb8 B7.out.lt)
      have W8 : Hid (Below n w w8) := Lib.hid (W7.out.trans (hb8.mono (Nat.le_of_lt B7.out.lt)))
      have R8 : Hid (PcR false w8 (.slice A5 N5 c5) (ckAll l)) := Lib.hid (R7.out.below hb8)
      have HMm : Hid (∀ u, Blk u n 5 (rwF (ldP (fun _ => 0) l) 65536) → eY.Rd u (.slice (some ⟨n, 0, none⟩) 65536 65536) X) := Lib.hid (fun u hu => by
        rw [← hX]
        exact rdY_mk (rwL_len _ _) hu.lt (fun i hi => by rw [rwL_len] at hi; rw [Nat.zero_add, hu.cell, rwF_at _ _ _ hi, iat_rwL _ _ _ hi]))
      rw [hX] at hr8 HBY
      have CE8 := Lib.hid (eqY_any v8 _ X X w8 hr8 (HMm.out w8 B8.out) HBY.out HBY.out)
      obtain ⟨A8, c8, hv8, -⟩ := rdY_open hr8
      rw [HXL2.out] at hv8
      subst hv8
      have hxx : (X == X) = true := by simp
      rw [hxx] at CE8
      have CL2 := Lib.hid (fun u hu => load_any _ (ckAll l) u (R8.out.below (w' := u) hu) HFK.out (by have := HCN.out; omega))
      clear hb8 CL hr8 hX hpf hxx
      go_wp2_with fail
      refine CE8.out.mono ?_
      rintro e w9 ⟨rfl, rfl⟩
      clear CE8
      go_wp2_with fail
      refine (CL2.out w8 (Below.refl _ _)).mono ?_
      rintro e w10 ⟨v10, rfl, hr10, hb10⟩
      rw [HLD.out, HX2.out] at hr10
      have B10 := Lib.hid (Blk.below B8.out hb10 B8.out.lt)
      have W10 : Hid (Below n w w10) := Lib.hid (W8.out.trans (hb10.mono (Nat.le_of_lt B8.out.lt)))
      have CE10 := Lib.hid (eqY_any v10 _ X X w10 hr10 (HMm.out w10 B10.out) HBY.out HBY.out)
      obtain ⟨A10, c10, hv10, -⟩ := rdY_open hr10
      rw [HXL2.out] at hv10
      subst hv10
      have hxx : (X == X) = true := by simp
      rw [hxx] at CE10
      have CAl := Lib.hid (alive40 w10)
      clear hb10 hr10 hxx CL2
      go_wp2_with fail
      refine CE10.out.mono ?_
      rintro e w11 ⟨rfl, rfl⟩
      clear CE10
      go_wp2_with fail
      refine CAl.out.mono ?_
      rintro e w12 ⟨rfl, hb12⟩
      have W12 : Hid (Below n w w12) := Lib.hid (W10.out.trans (hb12.mono (Nat.le_of_lt B10.out.lt)))
      clear hb12 CAl
      go_wp2
      go_ret
      exact ⟨rfl, by rw [HNN.out]; exact W12.out⟩

set_option maxRecDepth 100000 in
theorem lifted (os : Os) (started : os.Started) (H : Type) (enc : TypeId × Value → H) :
    ReturnsInHanded {} Tryd.checked os 3 .any (fun w args => (Rows.srecPutsSpec.pre enc Tryd.prog Tryd.f3 Rows.srecPutsRow.domain false w args ∧ laidMetH Tryd.prog Rows.srecPutsRow.laid w) ∧ sizedMet enc Tryd.prog Tryd.f3 (OpenSpec.ofChange Rows.srecPutsSpec) false w args) (Rows.srecPutsSpec.post enc Tryd.prog Tryd.f3 false true false false) := by
  refine returnsInHanded_of_change_and (C := Tryd.checked) (X := fun w _ => laidMetH Tryd.prog Rows.srecPutsRow.laid w) (fun _ _ _ hh h => h.of_heap hh) own started (by kernel_rfl) Tryd.func3
    (ChangeSpec.witness_shaped (enc := enc) (C := Tryd.checked) (os := os) (X := fun w _ => laidMetH Tryd.prog Rows.srecPutsRow.laid w) false (World.laidAll Tryd.prog os Rows.srecPutsRow.laid) #[.int .u16 0, .slice none 0 0] 8 (World.laidAll_os _ _ _) (World.shaped_of_ZipB (by kernel_rfl) (by kernel_rfl)) (by kernel_rfl) (by kernel_rfl) (by kernel_rfl) (by rw [MakeChecks.laidMetH_plain _ _ _ (by kernel_rfl)]; exact laidMet_laidAll _ (by kernel_rfl) (by kernel_rfl))) ?_
  intro W base args ds gs before hval0 hW _ hZ hL _
  have hval : ∀ (j : Nat) t v, Tryd.f3.params[j]? = some t → args[j]? = some v → Value.okWide Tryd.prog W .any base t v := hval0
  have hW' := hW
  obtain ⟨p, q, hA0, hV, rfl, hfz, hnd⟩ := hW
  have hA : DataW.TrodAll enc Tryd.prog W 0 (fun _ => true) true Tryd.f3.params.toList args.toList ds p := hA0
  rw [Tryd.params3] at hA hval
  obtain ⟨v0, vs0, d0, ds0, p0, q0, hargs, rfl, rfl, h0, r0⟩ := trodAll_cons hA
  obtain ⟨v1, vs1, d1, ds1, p1, q1, rfl, rfl, rfl, h1, r1⟩ := trodAll_cons r0
  obtain ⟨rfl, rfl, rfl⟩ := trodAll_nil r1
  obtain rfl : args = #[v0, v1] := by cases args; simp_all
  obtain ⟨rfl, rfl⟩ := trodVars_none hV
  obtain ⟨a0, rfl, rfl, rfl, w0⟩ := open_int Tryd.underlying22 (hval 0 22 v0 rfl rfl) h0
  obtain ⟨a1, len1, cap1, rfl⟩ := okWide_slice Tryd.underlying23 (hval 1 23 v1 rfl rfl)
  have k1 := h1
  have lt1 : ∀ x ∈ p1, x.block < W.heap.size := by obtain ⟨m, hm⟩ := k1; exact DataW.trod_lt m _ _ _ hm
  obtain ⟨z1, w1⟩ : ∃ zs, PcsIn W a1 len1 cap1 zs := by
    obtain ⟨fuel, hf⟩ := h1
    exact open_pcs hf
  clear hA0 hval0
  refine (walk a0 a1 len1 cap1 z1 W w0 w1 hL).mono fun e W' ⟨he, bel⟩ => ?_
  subst he
  exact ⟨_, rfl, _, _, _, [], _, [], hW', trodAll_mk1 (shut_bool Tryd.underlying4 _), (trodAll_cons_mk (shut_int Tryd.underlying22 w0) (trodAll_cons_mk (Below.trod laidOut (by kernel_rfl) (of_decide_eq_true (by kernel_rfl)) k1 bel lt1) trodAll_mk0)), rfl, bel.frame _, fun h => by cases h⟩

theorem over : Rows.srecPutsRow.holds Tryd.pinned (OpenSpec.ofChange Rows.srecPutsSpec) :=
  OpenClaim.holds_of_wide 3 Tryd.f3 rfl rfl rfl rfl rfl rfl rfl ⟨rfl, rfl, rfl, rfl, rfl⟩ rfl rfl rfl rfl rfl (by kernel_rfl) Tryd.func3 (by kernel_rfl)
    (of_decide_eq_true (by kernel_rfl)) (by unfold Func.isWrapper; first | (rw [if_pos (by decide +kernel)]; kernel_rfl) | (rw [if_neg (by decide +kernel)]; exact ⟨rfl, rfl⟩))
    (fun os started H enc _ => lifted os started H enc)

theorem proved : Rows.SrecPutsCardSaid :=
  Claim7.holds_tied_plain_at .later [] [.data, .pinned] true (true, "219c51974a8b42df47d6041195a03a3e0156e273fac0c996cb8cc8dbf2f7255d") false
    over (fun _ h => by cases h) (by kernel_rfl) (fun _ h => by cases h) srecPuts_row_tie rfl ⟨rfl, rfl⟩ (by kernel_rfl) rfl
    (fun f fn hf hfn => by
      obtain rfl : f = 3 := Option.some.inj ((show Tryd.prog.funcNamed "spinet/spinetlaw40.SrecPuts" = some 3 by kernel_rfl).symm.trans hf) |>.symm
      obtain rfl : fn = Tryd.f3 := (Option.some.inj (Tryd.func3.symm.trans hfn)).symm
      exact ⟨by kernel_rfl, fun j t ht => by
        rw [Tryd.params3] at ht
        have hm : t ∈ [22, 23] := by have := Array.mem_of_getElem? ht; simp at this ⊢; omega
        have hall : ([22, 23].all fun u => !Tryd.prog.wantsStandIn u) = true := by kernel_rfl
        exact (show Tryd.prog.wantsStandIn t = false by simpa using List.all_eq_true.1 hall t hm)⟩)
    (by kernel_rfl)
#print axioms proved
end Go.Proofs.YtnmgjgeniaheoabDoor.srecPuts
