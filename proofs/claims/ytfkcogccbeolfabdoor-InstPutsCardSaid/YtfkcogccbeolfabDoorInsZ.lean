/- The law InstReads over numbers: the walk. -/
import Derived.Test.YtfkcogccbeolfabDoorInsY
namespace Go.Proofs.YtfkcogccbeolfabDoor
open Go.ChangeShapes Go.WideShapes Go.ChangeAt Go.RowKit
set_option linter.unusedVariables false

theorem PutIs.yes {w : World} {X : List Int} {e : Ending} {w' : World} (h : PutIs w X true e w') : ∃ A c, e = .returned (.tuple #[.slice A X.length c, .int .i64 0]) ∧ Ints .u8 w' w'.heap.size A X.length X ∧ Below w.heap.size w w' := h
set_option maxRecDepth 100000 in
set_option maxHeartbeats 8000000 in
theorem law_reads (A : Option Addr) (n cap : Nat) (xs : List Int) (a : Int) (a0 : 0 ≤ a) (a1 : a < 65536) (w : World) (hI : Ints .u8 w w.heap.size A n xs) (hA : A = none → n = 0 ∧ cap = 0) (hn : n ≤ cap) (hP : PagAt w) (hK : KindsAt w) :
    Calls Tryd.prog 4 #[.slice A n cap, .int .u16 a] w fun e w' => e = .returned (.bool true) ∧ Below w.heap.size w w' := by
  by_cases hlen : 20 < n
  · have d1 : decide ((20 : Int) < (n : Int)) = true := decide_eq_true (by omega)
    have d2 : decide (20 < n) = true := decide_eq_true hlen
    clear hlen hI hA hn hP hK
    go_enter Tryd.func4, Tryd.ntmps4
    go_wp2
    go_ret
    exact ⟨rfl, Below.refl _ _⟩
  have d1 : decide ((20 : Int) < (n : Int)) = false := decide_eq_false (by omega)
  have d2 : decide (20 < n) = false := decide_eq_false hlen
  have C1 := Lib.hid (ofI_any A n cap xs w hI (by omega) hP hK)
  have C2 := Lib.hid (fun wx (hb : Below w.heap.size w wx) => of18_any A n cap xs wx (hI.below hb.size hb) hA (by omega))
  have CA := Lib.hid (fun wx (hb : Below w.heap.size w wx) => alive18 wx (hP.below hb) (kinds_below hK hb))
  cases hok : inOk xs
  · have hag : inAgg xs = zInst := by unfold inAgg; rw [hok]; rfl
    rw [hag, hok] at C1 C2
    have he := fun w => eql_ins w 0 0 0 0 0 0 0 0 0 0 0 0 0 0 0 0
    rw [insEq_self] at he
    clear hag hok hI hA hn hP hK hlen
    go_enter Tryd.func4, Tryd.ntmps4
    go_wp2_with fail
    refine C1.out.mono ?_
    rintro e w1 ⟨rfl, hb1⟩
    have HB1 := Lib.hid (Below.alloc0 hb1 (Obj.cells zInst 36))
    have HS1 := Lib.hid (Blk.new w1 36 zInst (0, 0))
    clear hb1
    go_wp2_with fail
    refine (C2.out _ HB1.out).mono ?_
    rintro e w2 ⟨rfl, hb2⟩
    have HB2 := Lib.hid (Below.alloc0 (Below.trans0 HB1.out hb2) (Obj.cells zInst 36))
    have HS2 := Lib.hid (Blk.alloc (Blk.below HS1.out hb2 HS1.out.lt) (Obj.cells zInst 36))
    clear hb2
    go_upto_region 6 with (fail)
    obtain ⟨g, hg⟩ : ∃ g, w1.heap.size = g := ⟨_, rfl⟩
    rw [hg] at HS2 ⊢
    generalize w2.alloc (Obj.cells zInst 36) = W2 at HB2 HS2 ⊢
    obtain ⟨c0, c1, c2, c3, c4, c5, c6, c7⟩ := HS2.out.s8
    go_wp2_with fail
    refine (CA.out _ HB2.out).mono ?_
    rintro e w3 ⟨rfl, hb3⟩
    have HB3 := Lib.hid (Below.trans0 HB2.out hb3)
    clear hb3
    go_wp2
    go_ret
    exact ⟨rfl, HB3.out⟩
  · have hle : inLn xs ≤ n := by have := of_decide_eq_true hok; rw [hI.1] at this; exact this
    have hl1 := inL1_le xs
    have hag : inAgg xs = iC (inPg xs : Int) (inCo xs) (eOp (inE xs)) (eMode (inE xs)) (eReg (inE xs)) (inPo xs) (inVa xs) (inLn xs : Int) := by unfold inAgg insC; rw [if_pos hok]
    have hpo := inPo_range hI.2.1
    have hco := inCo_range hI.2.1
    have hva : 0 ≤ inVa xs ∧ inVa xs < 65536 := by
      have r1 := iat_range8' hI.2.1 (inL2 xs)
      have r2 := iat_range8' hI.2.1 (inL2 xs + 1)
      unfold inVa signOf
      split
      · split
        · split <;> omega
        · omega
      · split <;> omega
    have hpo' : (((inPo xs).toNat : Nat) : Int) = inPo xs := by omega
    have CP0 := fun wx (hb : Below w.heap.size w wx) => put_any (inPg xs : Int) (inCo xs) (eOp (inE xs)) (eMode (inE xs)) (eReg (inE xs)) (inVa xs) (inLn xs : Int) (inPo xs).toNat hco.1 hco.2 (by omega) hva.1 hva.2 wx (hP.below hb) (kinds_below hK hb)
    have CS0 := fun wx (hb : Below w.heap.size w wx) => same18_any (inPg xs : Int) (inCo xs) (eOp (inE xs)) (eMode (inE xs)) (eReg (inE xs)) (inVa xs) (inLn xs : Int) (inPo xs).toNat hco.1 hco.2 (by omega) hva.1 hva.2 A n cap xs wx (hI.below hb.size hb) hA hn (hP.below hb) (kinds_below hK hb)
    rw [put_take hI.2.1 hok, putOk_self hI.2.1 hok, hpo'] at CP0 CS0
    rw [hasPre_take xs _ (by rw [hI.1]; exact hle), Bool.and_self] at CS0
    have CT := Lib.hid (fun wx => target_any (inPg xs : Int) (inCo xs) (eOp (inE xs)) (eMode (inE xs)) (eReg (inE xs)) (inPo xs) (inVa xs) (inLn xs : Int) a (by omega) (by omega) hva.1 hva.2 a0 a1 wx)
    have CN := Lib.hid (fun wx => nextI_any (inPg xs : Int) (inCo xs) (eOp (inE xs)) (eMode (inE xs)) (eReg (inE xs)) (inPo xs) (inVa xs) (inLn xs : Int) a (by omega) (by omega) a0 a1 wx)
    have hXl : (xs.take (inLn xs)).length = inLn xs := by rw [List.length_take, hI.1]; omega
    have CE := Lib.hid (fun A' c' c2 wx (hb : Below w.heap.size w wx) (h' : Ints .u8 wx wx.heap.size A' (inLn xs) (xs.take (inLn xs))) => bytesEqual_any A' A (inLn xs) c' (inLn xs) c2 (xs.take (inLn xs)) (xs.take (inLn xs)) wx.heap.size w.heap.size wx h' ((hI.below (Nat.le_refl _) hb).take_ _ hle))
    have he := fun w => neq_ins w (inPg xs : Int) (inCo xs) (eOp (inE xs)) (eMode (inE xs)) (eReg (inE xs)) (inPo xs) (inVa xs) (inLn xs : Int) (inPg xs : Int) (inCo xs) (eOp (inE xs)) (eMode (inE xs)) (eReg (inE xs)) (inPo xs) (inVa xs) (inLn xs : Int)
    rw [insEq_self, Bool.not_true] at he
    rw [hag, hok] at C1 C2
    simp only [if_true] at C1
    rw [beq_self_eq_true] at CE
    have hAs : ∃ ad, A = some ad := by
      cases A with
      | none => have := hA rfl; omega
      | some ad => exact ⟨ad, rfl⟩
    obtain ⟨ad, rfl⟩ := hAs
    generalize (inPg xs : Int) = p at C1 C2 CP0 CS0 CT CN he
    generalize inCo xs = co at C1 C2 CP0 CS0 CT CN he
    generalize (eOp (inE xs) : Int) = o at C1 C2 CP0 CS0 CT CN he
    generalize (eMode (inE xs) : Int) = m at C1 C2 CP0 CS0 CT CN he
    generalize (eReg (inE xs) : Int) = r at C1 C2 CP0 CS0 CT CN he
    generalize inPo xs = po at C1 C2 CP0 CS0 CT CN he
    have hv0 := hva.1
    have hv1 := hva.2
    generalize inVa xs = va at C1 C2 CP0 CS0 CT CN he hv0 hv1
    generalize xs.take (inLn xs) = X at CP0 CS0 CE hXl
    have hl0 : 1 ≤ inLn xs := by omega
    generalize inLn xs = ln at C1 C2 CP0 CS0 CT CN CE he hXl hle hl0
    have CP := Lib.hid CP0
    have CS := Lib.hid CS0
    have HXl := Lib.hid hXl
    have b0 : (0 : Int) ≤ (ln : Int) := by omega
    have b1 : (ln : Int) ≤ (cap : Int) := by omega
    have b2 : ln ≤ cap := by omega
    have b3 : (ln : Int) ≤ 20 := by omega
    clear hI hA hn hP hK hva hpo hpo' hco hl1 hag hok CP0 CS0 hlen hXl
    go_enter Tryd.func4, Tryd.ntmps4
    go_wp2_with fail
    refine C1.out.mono ?_
    rintro e w1 ⟨rfl, hb1⟩
    have HB1 := Lib.hid (Below.alloc0 hb1 (Obj.cells (iC p co o m r po va (ln : Int)) 36))
    have HS1 := Lib.hid (Blk.new w1 36 (iC p co o m r po va (ln : Int)) (0, 0))
    clear hb1
    go_wp2_with fail
    refine (C2.out _ HB1.out).mono ?_
    rintro e w2 ⟨rfl, hb2⟩
    have HB2 := Lib.hid (Below.alloc0 (Below.trans0 HB1.out hb2) (Obj.cells (iC p co o m r po va (ln : Int)) 36))
    have HS2 := Lib.hid (Blk.alloc (Blk.below HS1.out hb2 HS1.out.lt) (Obj.cells (iC p co o m r po va (ln : Int)) 36))
    have HX2 := Lib.hid (Blk.new w2 36 (iC p co o m r po va (ln : Int)) (0, 0))
    clear hb2
    go_upto_region 7 with (fail)
    obtain ⟨g, hg⟩ : ∃ g, w1.heap.size = g := ⟨_, rfl⟩
    obtain ⟨g7, hg7⟩ : ∃ g, w2.heap.size = g := ⟨_, rfl⟩
    rw [hg] at HS2 ⊢
    rw [hg7] at HX2 ⊢
    generalize w2.alloc (Obj.cells (iC p co o m r po va (ln : Int)) 36) = W2 at HB2 HS2 HX2 ⊢
    clear HB1 HS1 hg hg7
    obtain ⟨c0, c1, c2, c3, c4, c5, c6, c7⟩ := HS2.out.s8
    obtain ⟨e0, e1, e2, e3, e4, e5, e6, e7⟩ := HX2.out.s8
    go_wp2_with fail
    refine (CP.out _ HB2.out).mono ?_
    intro e w3 hput
    obtain ⟨A', c', rfl, hi3, hb3⟩ := hput.yes
    have HB3 := Lib.hid (Below.trans0 HB2.out hb3)
    have HS3 := Lib.hid (Blk.below HS2.out hb3 HS2.out.lt)
    rw [HXl.out] at hi3 ⊢
    have HI3 := Lib.hid hi3
    clear hb3 hi3 hput c0 c1 c2 c3 c4 c5 c6 c7 e0 e1 e2 e3 e4 e5 e6 e7 he HX2
    obtain ⟨c0, c1, c2, c3, c4, c5, c6, c7⟩ := HS3.out.s8
    go_wp2_with fail
    refine (CT.out _).mono ?_
    rintro e w4 ⟨rfl, hb4⟩
    have HB4 := Lib.hid (Below.trans0 HB3.out hb4)
    have HS4 := Lib.hid (Blk.below HS3.out hb4 HS3.out.lt)
    have HI4 := Lib.hid (HI3.out.below hb4.size hb4)
    clear hb4 c0 c1 c2 c3 c4 c5 c6 c7
    obtain ⟨c0, c1, c2, c3, c4, c5, c6, c7⟩ := HS4.out.s8
    go_upto_region 11 with (fail)
    go_cut [13] (fun u13 wx => u13 = .bool (isRel m) ∧ wx = w4)
    case first =>
      rcases (show m = 6 ∨ m = 7 ∨ (¬ m = 6 ∧ ¬ m = 7) by omega) with rfl | rfl | ⟨h6, h7⟩
      · go_wp2_with fail
        go_meet
        case rel => exact ⟨rfl, rfl⟩
      · go_wp2_with fail
        go_meet
        case rel => exact ⟨rfl, rfl⟩
      · have x6 := ne_beq h6
        have x7 := ne_beq h7
        have hb : isRel m = false := by unfold isRel; rw [x6, x7]; rfl
        have HBm := Lib.hid hb
        clear h6 h7 hb
        go_wp2_with fail
        go_meet
        case rel => exact ⟨by rw [HBm.out], rfl⟩
    case rest =>
      obtain ⟨rfl, rfl⟩ := hcut
      have HTg : Hid (tgtI m (ln : Int) va a = if isRel m then (a + (ln : Int) + va) % 65536 else 0) := Lib.hid (by
        unfold tgtI isRel
        by_cases h6 : m = 6
        · rw [if_pos (Or.inl h6)]; simp [h6]
        · by_cases h7 : m = 7
          · rw [if_pos (Or.inr h7)]; simp [h7]
          · rw [if_neg (by omega)]; simp [h6, h7])
      obtain ⟨J, hJ⟩ : ∃ J, isRel m = J := ⟨_, rfl⟩
      obtain ⟨T, hT⟩ : ∃ T, tgtI m (ln : Int) va a = T := ⟨_, rfl⟩
      have hT0 : 0 ≤ T ∧ T < 65536 := by
        rw [← hT, HTg.out]
        split <;> omega
      obtain ⟨hT0, hT1⟩ := hT0
      rw [hJ, hT] at HTg ⊢
      clear CT hJ hT
      go_upto_if 68 with (fail)
      go_cut [14] (fun u14 wx => u14 = .int .i64 T ∧ wx = wc)
      case first =>
        cases J
        · have hv : T = 0 := HTg.out
          subst hv
          go_wp2_with fail
          go_meet
          case rel => exact ⟨rfl, rfl⟩
        · have HV : Hid (T = (a + (ln : Int) + va) % 65536) := Lib.hid HTg.out
          have s1 : IntKind.i64.wrap (a + (ln : Int)) = a + (ln : Int) := IntWalk.i64_in _ (by omega)
          have s2 : IntKind.i64.wrap (a + (ln : Int) + va) = a + (ln : Int) + va := IntWalk.i64_in _ (by omega)
          have s3 : (a + (ln : Int) + va).tmod 65536 = T := by rw [Int.tmod_eq_emod_of_nonneg (by omega), HV.out]
          go_wp2_with fail
          go_meet
          case rel => exact ⟨by first | rfl | (rw [HV.out]), rfl⟩
      case rest =>
        obtain ⟨rfl, rfl⟩ := hcut
        have HSd := Lib.hid (Blk.drew HS4.out)
        have HBd := Lib.hid (Below.drew0 HB4.out)
        have HId := Lib.hid (show Ints .u8 wc.drew wc.drew.heap.size A' ln X from HI4.out)
        have s1 : IntKind.i64.wrap (a + (ln : Int)) = a + (ln : Int) := IntWalk.i64_in _ (by omega)
        have s3 : (a + (ln : Int)).tmod 65536 = (a + (ln : Int)) % 65536 := Int.tmod_eq_emod_of_nonneg (by omega)
        have s4 : IntKind.i64.wrap T = T := IntWalk.i64_in _ (by omega)
        have s5 : IntKind.i64.wrap a = a := IntWalk.i64_in _ (by omega)
        have s6 : IntKind.i64.wrap ((a + (ln : Int)) % 65536) = (a + (ln : Int)) % 65536 := IntWalk.i64_in _ (by omega)
        have bJ : (J == J) = true := by simp
        clear c0 c1 c2 c3 c4 c5 c6 c7 HTg C1 C2 CP
        go_upto_region 15 with (fail)
        go_region_held3 (fun w' => w'.cell? ⟨g, 0, none⟩ = some (.int .i64 p) ∧ w'.cell? ⟨g, 1, none⟩ = some (.int .u8 co) ∧ w'.cell? ⟨g, 2, none⟩ = some (.int .i64 o) ∧ w'.cell? ⟨g, 3, none⟩ = some (.int .i64 m) ∧ w'.cell? ⟨g, 4, none⟩ = some (.int .i64 r) ∧ w'.cell? ⟨g, 5, none⟩ = some (.int .u8 po) ∧ w'.cell? ⟨g, 6, none⟩ = some (.int .u16 va) ∧ w'.cell? ⟨g, 7, none⟩ = some (.int .i64 (ln : Int)))
          (first
            | (with_reducible exact HSd.out.s8)
            | (with_reducible exact HS5.out.s8)
            | (with_reducible exact HS6.out.s8)
            | (with_reducible exact HS7.out.s8))
          (first
            | (go_at_call 18; ((with_reducible refine (CE.out _ _ _ _ HBd.out HId.out).mono ?_); rintro e v4 ⟨rfl, rfl⟩))
            | (go_at_call 19; ((with_reducible refine (CS.out _ HBd.out).mono ?_); rintro e v5 ⟨rfl, hb5⟩; have HS5 := Lib.hid (Blk.below HSd.out hb5 HSd.out.lt); have HB5 := Lib.hid (Below.trans0 HBd.out hb5); clear hb5))
            | (go_at_call 20; ((with_reducible refine (CN.out _).mono ?_); rintro e v6 ⟨rfl, hb6⟩; have HS6 := Lib.hid (Blk.below HS5.out hb6 HS5.out.lt); have HB6 := Lib.hid (Below.trans0 HB5.out hb6); clear hb6))
            | (go_at_call 15; ((with_reducible refine (CA.out _ HB6.out).mono ?_); rintro e v7 ⟨rfl, hb7⟩; have HS7 := Lib.hid (Blk.below HS6.out hb7 HS6.out.lt); have HB7 := Lib.hid (Below.trans0 HB6.out hb7); clear hb7)))
        go_wp2
        go_ret
        exact ⟨rfl, HB7.out⟩
end Go.Proofs.YtfkcogccbeolfabDoor
