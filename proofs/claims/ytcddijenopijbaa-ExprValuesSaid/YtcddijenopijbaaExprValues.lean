/- The law ExprValues answers true for every input, and each argument reads afterwards as it read before. Conditions: none. -/
import Derived.Test.YtcddijenopijbaaRows
import Derived.WalkKit
import Derived.ProofKit
import Derived.OpenShut
import Derived.ShutString
import Derived.ChangeOld
import Derived.Below
import Derived.Test.YtcddijenopijbaaExo
import Derived.Deep.RegionHeld3
namespace Go.Proofs.Ytcddijenopijbaa.exprValues
open Go.ChangeShapes Go.WideShapes Go.ChangeAt Go.RowKit
open Go.ChangeMaps (open_string shut_string)
set_option linter.unusedVariables false

theorem own : ownKnob Try.prog.godebug = none := by kernel_rfl
theorem laidOut : laidOutB Try.prog = true := by kernel_rfl

set_option maxRecDepth 100000 in
set_option maxHeartbeats 1000000 in
theorem walk (a0 : ByteArray) (a1 : Int) (a2 : Option Addr) (len2 cap2 : Nat) (z2 : List NmV) (w : World) (w0 : a0.size ≤ maxLen) (w1 : (Lit.int .u16 a1).wf = true) (w2 : eN.In NmOk w a2 len2 cap2 z2) :
    Calls Try.prog 5 #[.string a0, .int .u16 a1, .slice a2 len2 cap2] w fun e w' => e = .returned (.bool true) ∧ Below w.heap.size w w' := by
  -- open 2 : List NmV | eN.In NmOk | open_nms
  obtain ⟨l, hL⟩ : ∃ l, eN.In NmOk w a2 len2 cap2 l := ⟨_, w2⟩
  clear w2
  obtain ⟨hR, hln, hlm, hok⟩ := hL
  obtain ⟨r0, r1⟩ := bounds_u16 w1
  clear w0 w1
  by_cases h1 : a0.size ≤ 200 ∧ len2 ≤ 20
  · obtain ⟨h1, h2⟩ := h1
    obtain ⟨A, c, hv, hc⟩ := hR.open_
    injection hv with e1 e2 e3
    subst e1
    subst e3
    rw [hln] at hc
    have HR := Lib.hid hR
    have HK := Lib.hid hok
    have HL := Lib.hid hln
    have HC := Lib.hid hc
    have HA1 : Hid (0 ≤ a1 ∧ a1 < 65536) := Lib.hid ⟨r0, by omega⟩
    clear hR hok hln hc e2 hlm
    go_enter Try.func5, Try.ntmps5
    go_wp2
    go_loopw [8] (fun i wr => ∃ k : Nat, k ≤ len2 ∧ i = .int .i64 k ∧ Hid (Below w.heap.size w wr) ∧ Hid (Tab wr w.heap.size w.heap.size k (lookB (l.take k)))) (fun i _ => len2 - (intOf i).toNat)
    case atStart => exact ⟨0, Nat.zero_le _, rfl, Lib.hid (Below.alloc0 (Below.refl _ _) _), Lib.hid (Tab.new w w.heap.size (Nat.le_refl _))⟩
    case round =>
      obtain ⟨k, hk, rfl, HB, HT⟩ := hrel
      obtain ⟨wo, rfl⟩ : ∃ wo : World, wo = wr := ⟨_, rfl⟩
      by_cases hlt : k < len2
      · obtain ⟨g, off, rfl, hg, hcell⟩ := HC.out (by omega)
        have hkl : k < l.length := by rw [HL.out]; exact hlt
        have hx : l[k]? = some l[k] := List.getElem?_eq_getElem hkl
        have CE := hcell k _ hx
        have hxo := HK.out _ (List.getElem_mem hkl)
        obtain ⟨y, hy⟩ : ∃ y, l[k] = y := ⟨_, rfl⟩
        rw [hy] at hx CE hxo
        obtain ⟨ys, yv⟩ := y
        have HX := Lib.hid hx
        have HXO := Lib.hid hxo
        have d0 : wo.cell? ⟨g, off + k * 2, none⟩ = some (.string ys) := (HB.out.cell (p := ⟨g, off + k * 2, none⟩) hg).trans (CE 0 _ rfl)
        have d1 : wo.cell? ⟨g, off + k * 2 + 1, none⟩ = some (.int .u16 yv) := (HB.out.cell (p := ⟨g, off + k * 2 + 1, none⟩) hg).trans (CE 1 _ rfl)
        have k0 : (0 : Int) ≤ (k : Int) := by omega
        have k1 : (k : Int) < (len2 : Int) := by omega
        have HCL := Lib.hid hcell
        have HG := Lib.hid hg
        have HD0 := Lib.hid d0
        clear hcell CE hx hxo hy hg
        go_wp2
        go_loopw [9] (fun i wr => ∃ (j q : Nat), j ≤ k ∧ i = .int .i64 j ∧ wr = wo.drewN q ∧ Hid (∀ m, m < j → ∀ z, l[m]? = some z → z.1 ≠ ys)) (fun i _ => k - (intOf i).toNat)
        case atStart => exact ⟨0, 0, Nat.zero_le _, rfl, rfl, Lib.hid (fun m hm => absurd hm (by omega))⟩
        case round =>
          obtain ⟨j, q, hj, rfl, rfl, hno⟩ := hrel
          by_cases hjk : j < k
          · have hjl : j < l.length := by omega
            have hz : l[j]? = some l[j] := List.getElem?_eq_getElem hjl
            have CE := HCL.out j _ hz
            obtain ⟨z, hzz⟩ : ∃ z, l[j] = z := ⟨_, rfl⟩
            rw [hzz] at hz CE
            obtain ⟨zs, zv⟩ := z
            have HZ := Lib.hid hz
            have b0 : wo.cell? ⟨g, off + j * 2, none⟩ = some (.string zs) := (HB.out.cell (p := ⟨g, off + j * 2, none⟩) HG.out).trans (CE 0 _ rfl)
            have j0 : (0 : Int) ≤ (j : Int) := by omega
            have j1 : (j : Int) < (len2 : Int) := by omega
            have j2 : (j : Int) < (k : Int) := by omega
            clear CE hz hzz
            by_cases hq : zs = ys
            · have hq' : (zs.toList == ys.toList) = true := by rw [hq]; simp
              have HBE := Lib.hid HB.out
              clear hq
              go_wp2
              go_quiet (fail)
              go_wp2
              go_ret
              exact ⟨rfl, by first | exact Below.drewN0 HB.out _ | (rw [World.drewN_drewN]; exact Below.drewN0 HB.out _)⟩
            · have hq' : (zs.toList == ys.toList) = false := by rw [str_eq, decide_eq_false hq]
              have HNO : Hid (∀ m, m < j + 1 → ∀ z, l[m]? = some z → z.1 ≠ ys) := Lib.hid (fun m hm z hz => by
                rcases Nat.lt_or_ge m j with h1 | h1
                · exact hno.out m h1 z hz
                · have : m = j := by omega
                  subst this
                  rw [HZ.out] at hz
                  injection hz with hz
                  subst hz
                  exact hq)
              clear hq
              go_wp2
              go_quiet (fail)
              go_wp2
              go_roundw
              case rel => exact ⟨j + 1, _, by omega, by go_num, by first | rfl | exact World.drewN_drewN _ _ _, HNO⟩
              case measure => simp [intOf]; omega
          · have HNO : Hid (∀ m, m < k → ∀ z, l[m]? = some z → z.1 ≠ ys) := Lib.hid (fun m hm => hno.out m (by omega))
            have CR := Lib.hid (fun u => refRight_any ys u)
            have hjk' : ¬ (j : Int) < (k : Int) := by omega
            cases hrt : rightL (nums ys)
            · rw [hrt] at CR
              clear hrt
              go_wp2_with (go_at_call 16; refine (CR.out _).mono ?_; rintro e w' ⟨rfl, rfl⟩)
              go_ret
              exact ⟨rfl, Below.drewN0 HB.out _⟩
            · rw [hrt] at CR
              have HLN := Lib.hid (lookB_take HNO.out)
              have CS := Lib.hid (fun u (h : Tab u w.heap.size w.heap.size k (lookB (l.take k))) => tabSet_any u w.heap.size w.heap.size k _ h ys HXO.out.2.2 yv ⟨HXO.out.1, HXO.out.2.1⟩ (by omega) hrt HLN.out)
              have HPN : Hid (putL (lookB (l.take k)) ys yv = lookB (l.take (k + 1))) := Lib.hid (lookB_next HX.out HLN.out)
              rw [HPN.out] at CS
              clear hrt
              go_wp2_with (go_at_call 16; refine (CR.out _).mono ?_; rintro e w' ⟨rfl, rfl⟩)
              have S0 : Hid ((fun w' : World => (w'.cell? ⟨g, off + k * 2, none⟩ = some (.string ys) ∧ w'.cell? ⟨g, off + k * 2 + 1, none⟩ = some (.int .u16 yv))) ((wo.drewN q).drew)) := Lib.hid ⟨d0, d1⟩
              refine wp_region_noPanic ?_
              refine wp_region_held_drew (S := (fun w' : World => (w'.cell? ⟨g, off + k * 2, none⟩ = some (.string ys) ∧ w'.cell? ⟨g, off + k * 2 + 1, none⟩ = some (.int .u16 yv)))) (by kernel_rfl) ?_ (fun hH0 => ?_)
              · (try dsimp only); with_reducible exact S0.out
              refine wpAnyH_take (i := 0) (oi := ({ dst := some 60, op := Op.move (Operand.tmp 7), type := 39, pos := "law.go:33", after := #[], guard := none } : Oper)) (v := ?_) rfl (by kernel_rfl) (by kernel_rfl) (by kernel_rfl) (fun _ _ _ h => h) (Or.inl ⟨by rfl, ?_⟩) (by assumption) ?_
              rotate_left 1
              · (intro w hSw; (try dsimp only at hSw); go_simp; (try with_reducible rfl))
              (try simp only [Act.put, List.setIfInBounds_toArray, List.set_cons_zero, List.set_cons_succ])
              refine wpAnyH_take (i := 1) (oi := ({ dst := some 61, op := Op.move (Operand.tmp 2), type := 38, pos := "law.go:33", after := #[], guard := none } : Oper)) (v := ?_) rfl (by kernel_rfl) (by kernel_rfl) (by kernel_rfl) (fun _ _ _ h => h) (Or.inl ⟨by rfl, ?_⟩) (by assumption) ?_
              rotate_left 1
              · (intro w hSw; (try dsimp only at hSw); go_simp; (try with_reducible rfl))
              (try simp only [Act.put, List.setIfInBounds_toArray, List.set_cons_zero, List.set_cons_succ])
              refine wpAnyH_take (i := 2) (oi := ({ dst := some 62, op := Op.move (Operand.tmp 8), type := 3, pos := "law.go:33", after := #[], guard := none } : Oper)) (v := ?_) rfl (by kernel_rfl) (by kernel_rfl) (by kernel_rfl) (fun _ _ _ h => h) (Or.inl ⟨by rfl, ?_⟩) (by assumption) ?_
              rotate_left 1
              · (intro w hSw; (try dsimp only at hSw); go_simp; (try with_reducible rfl))
              (try simp only [Act.put, List.setIfInBounds_toArray, List.set_cons_zero, List.set_cons_succ])
              refine wpAnyH_take (i := 3) (oi := ({ dst := some 63, op := Op.indexAddr 38 (Operand.tmp 61) (Operand.tmp 62), type := 0, pos := "law.go:33", after := #[{ on := 1, ground := Ground.data }, { on := 2, ground := Ground.data }], guard := none } : Oper)) (v := ?_) rfl (by kernel_rfl) (by kernel_rfl) (by kernel_rfl) (fun _ _ _ h => h) (Or.inl ⟨by rfl, ?_⟩) (by assumption) ?_
              rotate_left 1
              · (intro w hSw; (try dsimp only at hSw); go_simp; (try with_reducible rfl))
              (try simp only [Act.put, List.setIfInBounds_toArray, List.set_cons_zero, List.set_cons_succ])
              refine wpAnyH_take (i := 4) (oi := ({ dst := some 64, op := Op.fieldAddr 44 (Operand.tmp 63) 0, type := 0, pos := "law.go:33", after := #[{ on := 3, ground := Ground.data }], guard := none } : Oper)) (v := ?_) rfl (by kernel_rfl) (by kernel_rfl) (by kernel_rfl) (fun _ _ _ h => h) (Or.inl ⟨by rfl, ?_⟩) (by assumption) ?_
              rotate_left 1
              · (intro w hSw; (try dsimp only at hSw); go_simp; (try with_reducible rfl))
              (try simp only [Act.put, List.setIfInBounds_toArray, List.set_cons_zero, List.set_cons_succ])
              refine wpAnyH_take (i := 5) (oi := ({ dst := some 65, op := Op.load 9 (Operand.tmp 64), type := 9, pos := "law.go:33", after := #[{ on := 4, ground := Ground.data }], guard := none } : Oper)) (v := ?_) rfl (by kernel_rfl) (by kernel_rfl) (by kernel_rfl) (fun _ _ _ h => h) (Or.inl ⟨by rfl, ?_⟩) (by assumption) ?_
              rotate_left 1
              · (intro w hSw; (try dsimp only at hSw); go_simp; (try with_reducible rfl))
              (try simp only [Act.put, List.setIfInBounds_toArray, List.set_cons_zero, List.set_cons_succ])
              refine wpAnyH_take (i := 6) (oi := ({ dst := some 66, op := Op.move (Operand.tmp 2), type := 38, pos := "law.go:33", after := #[], guard := none } : Oper)) (v := ?_) rfl (by kernel_rfl) (by kernel_rfl) (by kernel_rfl) (fun _ _ _ h => h) (Or.inl ⟨by rfl, ?_⟩) (by assumption) ?_
              rotate_left 1
              · (intro w hSw; (try dsimp only at hSw); go_simp; (try with_reducible rfl))
              (try simp only [Act.put, List.setIfInBounds_toArray, List.set_cons_zero, List.set_cons_succ])
              refine wpAnyH_take (i := 7) (oi := ({ dst := some 67, op := Op.move (Operand.tmp 8), type := 3, pos := "law.go:33", after := #[], guard := none } : Oper)) (v := ?_) rfl (by kernel_rfl) (by kernel_rfl) (by kernel_rfl) (fun _ _ _ h => h) (Or.inl ⟨by rfl, ?_⟩) (by assumption) ?_
              rotate_left 1
              · (intro w hSw; (try dsimp only at hSw); go_simp; (try with_reducible rfl))
              (try simp only [Act.put, List.setIfInBounds_toArray, List.set_cons_zero, List.set_cons_succ])
              refine wpAnyH_take (i := 8) (oi := ({ dst := some 68, op := Op.indexAddr 38 (Operand.tmp 66) (Operand.tmp 67), type := 0, pos := "law.go:33", after := #[{ on := 6, ground := Ground.data }, { on := 7, ground := Ground.data }], guard := none } : Oper)) (v := ?_) rfl (by kernel_rfl) (by kernel_rfl) (by kernel_rfl) (fun _ _ _ h => h) (Or.inl ⟨by rfl, ?_⟩) (by assumption) ?_
              rotate_left 1
              · (intro w hSw; (try dsimp only at hSw); go_simp; (try with_reducible rfl))
              (try simp only [Act.put, List.setIfInBounds_toArray, List.set_cons_zero, List.set_cons_succ])
              refine wpAnyH_take (i := 9) (oi := ({ dst := some 69, op := Op.fieldAddr 44 (Operand.tmp 68) 1, type := 0, pos := "law.go:33", after := #[{ on := 8, ground := Ground.data }], guard := none } : Oper)) (v := ?_) rfl (by kernel_rfl) (by kernel_rfl) (by kernel_rfl) (fun _ _ _ h => h) (Or.inl ⟨by rfl, ?_⟩) (by assumption) ?_
              rotate_left 1
              · (intro w hSw; (try dsimp only at hSw); go_simp; (try with_reducible rfl))
              (try simp only [Act.put, List.setIfInBounds_toArray, List.set_cons_zero, List.set_cons_succ])
              refine wpAnyH_take (i := 10) (oi := ({ dst := some 70, op := Op.load 22 (Operand.tmp 69), type := 22, pos := "law.go:33", after := #[{ on := 9, ground := Ground.data }], guard := none } : Oper)) (v := ?_) rfl (by kernel_rfl) (by kernel_rfl) (by kernel_rfl) (fun _ _ _ h => h) (Or.inl ⟨by rfl, ?_⟩) (by assumption) ?_
              rotate_left 1
              · (intro w hSw; (try dsimp only at hSw); go_simp; (try with_reducible rfl))
              (try simp only [Act.put, List.setIfInBounds_toArray, List.set_cons_zero, List.set_cons_succ])
              refine wpAnyH_ready (rs := [11]) (by kernel_rfl) (by simp) ?_
              refine AllReadyH.cons (o := ({ dst := some 71, op := Op.call { callee := Callee.value (Operand.func 17), args := #[Operand.tmp 60, Operand.tmp 65, Operand.tmp 70], argTypes := #[39, 9, 22] }, type := 26, pos := "law.go:33", after := #[{ on := 0, ground := Ground.data }, { on := 5, ground := Ground.data }, { on := 10, ground := Ground.data }], guard := none } : Oper)) rfl (fun K hK => ?_) ?_
              rotate_left 1
              · exact AllReadyH.nil
              go_simp
              go_at_call 17
              ((with_reducible refine (CS.out (wo.drewN (q + 1)) (HT.out.drewN (q + 1))).mono ?_); rintro e v1 ⟨rfl, hb, ht⟩; have HT2 := Lib.hid ht; have HB2 := Lib.hid ((Below.drewN0 HB.out (q + 1)).trans hb); have S1 := Lib.hid (show (fun w' : World => (w'.cell? ⟨g, off + k * 2, none⟩ = some (.string ys) ∧ w'.cell? ⟨g, off + k * 2 + 1, none⟩ = some (.int .u16 yv))) v1 from ⟨(hb.cell (p := ⟨g, off + k * 2, none⟩) HG.out).trans d0, (hb.cell (p := ⟨g, off + k * 2 + 1, none⟩) HG.out).trans d1⟩); clear hb ht)
              first | (refine hK.out _ _ ?_ (fun hH1 => ?_)) | (go_wp2_with fail; refine hK.out _ _ ?_ (fun hH1 => ?_))
              · (try dsimp only); with_reducible exact S1.out
              clear hK K hH0
              (try simp only [Act.put, List.setIfInBounds_toArray, List.set_cons_zero, List.set_cons_succ])
              refine wpAnyH_take (i := 12) (oi := ({ dst := some 72, op := Op.binOp BinOp.neq 26 (Operand.tmp 71) (Operand.const (Value.int IntKind.i64 0)) 26, type := 4, pos := "law.go:33", after := #[{ on := 11, ground := Ground.data }], guard := none } : Oper)) (v := ?_) rfl (by kernel_rfl) (by kernel_rfl) (by kernel_rfl) (fun _ _ _ h => h) (Or.inl ⟨by rfl, ?_⟩) (by assumption) ?_
              rotate_left 1
              · (intro w hSw; (try dsimp only at hSw); go_simp; (try with_reducible rfl))
              (try simp only [Act.put, List.setIfInBounds_toArray, List.set_cons_zero, List.set_cons_succ])
              refine wpAnyH_done (by kernel_rfl) ?_ _
              refine NoPanic.normal ?_
              all_goals
                clear S0 S1 CS CR
                go_wp2
                go_roundw
                case rel => exact ⟨k + 1, by omega, by go_num, HB2, HT2⟩
                case measure => simp [intOf]; omega
      · have hkk : k = len2 := by omega
        have HT1 : Hid (Tab wo w.heap.size w.heap.size k (lookB l)) := Lib.hid (by have := HT.out; rwa [List.take_of_length_le (by rw [HL.out]; omega)] at this)
        have CE := Lib.hid (exEval_any wo w.heap.size w.heap.size k _ HT1.out a0 a1 HA1.out (by omega))
        have CR := Lib.hid (fun u (hb : Below w.heap.size w u) => rfEval_any u a0 a1 HA1.out _ l (HR.out.below hb) (fun x hx => ⟨(HK.out x hx).1, (HK.out x hx).2.1⟩) (by rw [HL.out]; omega) (by omega))
        have CC := Lib.hid (fun u => exConst_any u a0 (by omega))
        have CN := Lib.hid (fun u => rfEval_any u a0 0 (by decide) (.slice none 0 0) [] (Els.Rd.nil_ u) (fun x hx => by cases hx) (by simp) (by omega))
        rw [lookB_nil] at CN
        obtain ⟨R1, hR1⟩ : ∃ R, evalE a1 (lookL (lookB l)) (nums a0) = R := ⟨_, rfl⟩
        have HN2 : Hid ((evalE 0 (lookL look0) (nums a0)).2.1 = 0 → (evalE 0 (lookL look0) (nums a0)).2.2.2 = false) := Lib.hid (fun h => evalE_none 0 (nums a0) h)
        obtain ⟨R2, hR2⟩ : ∃ R, evalE 0 (lookL look0) (nums a0) = R := ⟨_, rfl⟩
        rw [hR1] at CE CR
        rw [hR2] at CC CN HN2
        obtain ⟨v1, x1, st1, nm1⟩ := R1
        obtain ⟨v2, x2, st2, nm2⟩ := R2
        dsimp only at CE HN2
        have hnl : ¬ (k : Int) < (len2 : Int) := by omega
        clear hR1 hR2 HT1 HT hkk
        go_wp2_with fail
        refine CE.out.mono ?_
        rintro e w1 ⟨rfl, hb⟩
        have HB1 := Lib.hid (HB.out.trans (hb.mono HB.out.size))
        clear hb
        go_wp2_with fail
        refine (CR.out _ HB1.out).mono ?_
        rintro e w2 ⟨⟨q, rfl⟩, rfl⟩
        have HB2 := Lib.hid (Below.drewN0 HB1.out q)
        go_wp2_with fail
        refine (CC.out _).mono ?_
        rintro e w3 ⟨hb, rfl⟩
        have HB3 := Lib.hid (Below.trans0 HB2.out hb)
        clear hb
        go_wp2_with fail
        refine (CN.out _).mono ?_
        rintro e w4 ⟨⟨q4, rfl⟩, rfl⟩
        have HB4 := Lib.hid (Below.drewN0 HB3.out q4)
        dsimp only
        have HV2 : Hid (constV (v2, x2, st2, nm2) = (if x2 = 0 ∧ st2 = false then v2 else 0) ∧ constB (v2, x2, st2, nm2) = (decide (x2 = 0) && !st2)) := Lib.hid ⟨rfl, rfl⟩
        have cont : Hid (∀ (V : Int) (C H : Bool), constV (v2, x2, st2, nm2) = V → constB (v2, x2, st2, nm2) = C → True) := Lib.hid (fun _ _ _ _ _ => trivial)
        clear cont CE CR CC CN
        by_cases hx2 : x2 = 0
        · have hn2 := HN2.out hx2
          subst hn2
          subst hx2
          cases st2
          · have e1 : constV (v2, 0, false, false) = v2 := by rw [HV2.out.1]; simp
            have e2 : constB (v2, 0, false, false) = true := by rw [HV2.out.2]; rfl
            rw [e1, e2]
            clear e1 e2 HV2 HN2
            go_wp2_with (go_at_call 15; refine (alive44 _).mono ?_; rintro e w' ⟨rfl, hb⟩)
            go_ret
            exact ⟨rfl, Below.trans0 HB4.out hb⟩
          · have e1 : constV (v2, 0, true, false) = 0 := by rw [HV2.out.1]; simp
            have e2 : constB (v2, 0, true, false) = false := by rw [HV2.out.2]; rfl
            rw [e1, e2]
            clear e1 e2 HV2 HN2
            go_wp2_with (go_at_call 15; refine (alive44 _).mono ?_; rintro e w' ⟨rfl, hb⟩)
            go_ret
            exact ⟨rfl, Below.trans0 HB4.out hb⟩
        · have e1 : constV (v2, x2, st2, nm2) = 0 := by rw [HV2.out.1, if_neg (fun h => hx2 h.1)]
          have e2 : constB (v2, x2, st2, nm2) = false := by rw [HV2.out.2, decide_eq_false hx2]; rfl
          rw [e1, e2]
          have hb2 : (x2 == 0) = false := by simpa using hx2
          clear e1 e2 HV2 HN2 hx2
          go_wp2_with (go_at_call 15; refine (alive44 _).mono ?_; rintro e w' ⟨rfl, hb⟩)
          go_ret
          exact ⟨rfl, Below.trans0 HB4.out hb⟩
  · have h1' : ¬ (a0.size ≤ 200) ∨ ¬ (len2 ≤ 20) := by omega
    rcases h1' with h | h
    all_goals
      by_cases h3 : a0.size ≤ 200
      all_goals
        go_enter Try.func5, Try.ntmps5
        go_wp2
        all_goals
          go_ret
          exact ⟨rfl, Below.refl _ _⟩

set_option maxRecDepth 100000 in
theorem lifted (os : Os) (started : os.Started) (H : Type) (enc : TypeId × Value → H) :
    ReturnsInHanded {} Try.checked os 5 .any (Rows.exprValuesSpec.pre6 enc Try.prog Try.f5 Rows.exprValuesRow.domain false) (Rows.exprValuesSpec.post enc Try.prog Try.f5 false true false false) := by
  refine returnsInHanded_of_change (C := Try.checked) own started (by kernel_rfl) Try.func5
    (ChangeSpec.witness6 (enc := enc) (C := Try.checked) false ⟨#[], #[.string ByteArray.empty, .int .u16 0, .slice none 0 0], []⟩ 8 (by kernel_rfl) (by kernel_rfl) (by kernel_rfl) (by kernel_rfl)) ?_
  intro W base args ds gs before hval0 hW hcnd _
  have hval : ∀ (j : Nat) t v, Try.f5.params[j]? = some t → args[j]? = some v → Value.okWide Try.prog W .any base t v := hval0
  have hW' := hW
  obtain ⟨p, q, hA0, hV, rfl, hfz, hnd⟩ := hW
  have hA : DataW.TrodAll enc Try.prog W 0 (fun _ => true) true Try.f5.params.toList args.toList ds p := hA0
  rw [Try.params5] at hA hval
  obtain ⟨v0, vs0, d0, ds0, p0, q0, hargs, rfl, rfl, h0, r0⟩ := trodAll_cons hA
  obtain ⟨v1, vs1, d1, ds1, p1, q1, rfl, rfl, rfl, h1, r1⟩ := trodAll_cons r0
  obtain ⟨v2, vs2, d2, ds2, p2, q2, rfl, rfl, rfl, h2, r2⟩ := trodAll_cons r1
  obtain ⟨rfl, rfl, rfl⟩ := trodAll_nil r2
  obtain rfl : args = #[v0, v1, v2] := by cases args; simp_all
  obtain ⟨rfl, rfl⟩ := trodVars_none hV
  obtain ⟨a0, rfl, rfl, rfl, w0⟩ := open_string Try.underlying9 (hval 0 9 v0 rfl rfl) h0
  obtain ⟨a1, rfl, rfl, rfl, w1⟩ := open_int Try.underlying22 (hval 1 22 v1 rfl rfl) h1
  obtain ⟨a2, len2, cap2, rfl⟩ := okWide_slice Try.underlying38 (hval 2 38 v2 rfl rfl)
  have k2 := h2
  have lt2 : ∀ x ∈ p2, x.block < W.heap.size := by obtain ⟨m, hm⟩ := k2; exact DataW.trod_lt m _ _ _ hm
  obtain ⟨z2, w2⟩ : ∃ zs, eN.In NmOk W a2 len2 cap2 zs := by
    obtain ⟨fuel, hf⟩ := h2
    exact open_nms hf
  clear hA0 hval0
  refine (walk a0 a1 a2 len2 cap2 z2 W w0 w1 w2).mono fun e W' ⟨he, bel⟩ => ?_
  subst he
  exact ⟨_, rfl, _, _, _, [], _, [], hW', trodAll_mk1 (shut_bool Try.underlying4 _), (trodAll_cons_mk (shut_string Try.underlying9 w0) (trodAll_cons_mk (shut_int Try.underlying22 w1) (trodAll_cons_mk (Below.trod laidOut (by kernel_rfl) (of_decide_eq_true (by kernel_rfl)) k2 bel lt2) trodAll_mk0))), rfl, bel.frame _, fun h => by cases h⟩

theorem over : Rows.exprValuesRow.holds Try.pinned (OpenSpec.ofChange Rows.exprValuesSpec) :=
  OpenClaim.holds_of_wide 5 Try.f5 rfl rfl rfl rfl rfl rfl rfl ⟨rfl, rfl, rfl, rfl, rfl⟩ rfl rfl rfl rfl rfl (by kernel_rfl) Try.func5 (by kernel_rfl)
    (of_decide_eq_true (by kernel_rfl)) (by unfold Func.isWrapper; first | (rw [if_pos (by decide +kernel)]; kernel_rfl) | (rw [if_neg (by decide +kernel)]; exact ⟨rfl, rfl⟩))
    (fun os started H enc _ => lifted os started H enc)

theorem proved : Rows.ExprValuesSaid := over
#print axioms proved
end Go.Proofs.Ytcddijenopijbaa.exprValues
