/- The law TableBounds, over numbers: the walk. -/
import Derived.Test.YtfkcogccbeolfabDoorTblB
import Derived.Test.YtfkcogccbeolfabDoorPostL
namespace Go.Proofs.YtfkcogccbeolfabDoor
open Go.ChangeShapes Go.WideShapes Go.ChangeAt Go.RowKit
set_option linter.unusedVariables false

/-- What bytes say, by a code of the list and a postbyte. -/
theorem in_parts {xs : List Int} (h : ∀ z ∈ xs, (Lit.int .u8 z).wf = true) :
    ∃ j b : Nat, j < 768 ∧ b < 256 ∧ inE xs = pgT j ∧ inPg xs = j / 256 + 1 ∧ inPo xs = (b : Int) ∧ inLn xs = (if j / 256 = 0 then 1 else 2) + lenN (pgT j) b := by
  have hc := inCo_range h
  have hp := inPo_range h
  have hg : 1 ≤ inPg xs ∧ inPg xs ≤ 3 := by unfold inPg; split; · omega
                                            split <;> omega
  refine ⟨256 * (inPg xs - 1) + (inCo xs).toNat, (inPo xs).toNat, by omega, by omega, ?_, by omega, by omega, ?_⟩
  · unfold inE ofN
    rw [if_pos (by omega)]
    congr 1
  · have hE : inE xs = pgT (256 * (inPg xs - 1) + (inCo xs).toNat) := by
      unfold inE ofN
      rw [if_pos (by omega)]
      congr 1
    rw [← hE]
    unfold inLn inL2 inN lenN inMd
    have hpo : (((inPo xs).toNat : Nat) : Int) = inPo xs := by omega
    rw [hpo]
    have h1 : inL1 xs = if (256 * (inPg xs - 1) + (inCo xs).toNat) / 256 = 0 then 1 else 2 := by
      unfold inL1
      by_cases h1 : inPg xs = 1
      · rw [if_pos h1, if_pos (by omega)]
      · rw [if_neg h1, if_neg (by omega)]
    rw [← h1]
    omega
theorem and128 : bits .and .u8 128 128 = 128 := by decide +kernel
theorem bounds_in {xs : List Int} (h : ∀ z ∈ xs, (Lit.int .u8 z).wf = true) (cc : Int) :
    2 ≤ cycN (inPg xs : Int) (eOp (inE xs)) (eMode (inE xs)) (eReg (inE xs)) (inPo xs).toNat cc 128 ∧
    cycN (inPg xs : Int) (eOp (inE xs)) (eMode (inE xs)) (eReg (inE xs)) (inPo xs).toNat cc 128 ≤ 20 ∧
    (inLn xs : Int) ≤ cycN (inPg xs : Int) (eOp (inE xs)) (eMode (inE xs)) (eReg (inE xs)) (inPo xs).toNat cc 128 ∧
    leastN (inPg xs : Int) (eOp (inE xs)) (eMode (inE xs)) (inPo xs).toNat ≤ cycN (inPg xs : Int) (eOp (inE xs)) (eMode (inE xs)) (eReg (inE xs)) (inPo xs).toNat cc 128 ∧
    cycN (inPg xs : Int) (eOp (inE xs)) (eMode (inE xs)) (eReg (inE xs)) (inPo xs).toNat cc 128 ≤ mostN (inPg xs : Int) (eOp (inE xs)) (eMode (inE xs)) (eReg (inE xs)) (inPo xs).toNat := by
  obtain ⟨j, b, hj, hb, h1, h2, h3, h4⟩ := in_parts h
  rw [h1, h2, h3, h4, Int.toNat_natCast]
  have hh := bnd_ok j b hj hb
  unfold bndB at hh
  simp only [Bool.and_eq_true, decide_eq_true_eq] at hh
  obtain ⟨⟨q1, q2⟩, q3⟩ := hh
  have ht : (takenN (eOp (pgT j)) (eReg (pgT j)) = 0 ∨ takenN (eOp (pgT j)) (eReg (pgT j)) = 1) ∧ (wholeN (eOp (pgT j)) = 0 ∨ wholeN (eOp (pgT j)) = 9) ∧ (takenN (eOp (pgT j)) (eReg (pgT j)) = 0 ∨ wholeN (eOp (pgT j)) = 0) := by
    unfold takenN wholeN
    by_cases a : (eOp (pgT j) : Int) = 49
    · rw [if_neg (by omega), if_pos a]; omega
    · rw [if_neg a]; refine ⟨?_, Or.inl rfl, Or.inr rfl⟩; split <;> simp
  unfold cycN mostN
  rw [and128, if_pos (show (0 : Int) < 128 by decide)]
  generalize leastN ((j / 256 + 1 : Nat) : Int) (eOp (pgT j)) (eMode (pgT j)) b = L at q1 q2 q3 ⊢
  generalize takenN (eOp (pgT j)) (eReg (pgT j)) = t at q2 ht ⊢
  generalize wholeN (eOp (pgT j)) = v at q2 ht ⊢
  generalize holdsX _ cc = H
  generalize (if j / 256 = 0 then 1 else 2) + lenN (pgT j) b = l at q3 ⊢
  cases H <;> simp <;> omega
abbrev rows8 : Array Value := #[.int .i64 0, .int .i64 19, .int .i64 10, .int .i64 19, .int .i64 3, .int .i64 3, .int .i64 3, .int .i64 3]
set_option maxRecDepth 100000 in
set_option maxHeartbeats 4000000 in
theorem law_bounds (A : Option Addr) (n cap : Nat) (xs : List Int) (cc kind : Int) (hcc : CC cc) (w : World) (hI : Ints .u8 w w.heap.size A n xs) (hA : A = none → n = 0 ∧ cap = 0) (hn : n ≤ 140737488351232) (hT : KindsAt w) :
    Calls Tryd.prog 7 #[.slice A n cap, .int .u8 cc, .int .i64 kind] w fun e w' => e = .returned (.bool true) ∧ Below w.heap.size w w' := by
  have hb0 := Below.alloc0 (Below.refl w.heap.size w) (Obj.cells rows8 53)
  have HB0 := Lib.hid hb0
  have HI0 := Lib.hid (hI.below hb0.size hb0)
  have HT0 := Lib.hid (kinds_below hT hb0)
  have HR0 := Lib.hid (Blk.new w 53 rows8 (0, 0))
  have HL := Lib.hid hI.1
  have CO := Lib.hid (fun w hI => of18_any A n cap xs w hI hA hn)
  have CL := Lib.hid (fun w hT => least_any (inPg xs : Int) (inCo xs) (eOp (inE xs)) (eMode (inE xs)) (eReg (inE xs)) (inVa xs) (inLn xs : Int) (inPo xs).toNat (by have := inPo_range hI.2.1; omega) w hT)
  have CM := Lib.hid (fun w hT => most_any (inPg xs : Int) (inCo xs) (eOp (inE xs)) (eMode (inE xs)) (eReg (inE xs)) (inVa xs) (inLn xs : Int) (inPo xs).toNat (by have := inPo_range hI.2.1; omega) w hT)
  have CC' := Lib.hid (fun w hT => cyc_any (inPg xs : Int) (inCo xs) (eOp (inE xs)) (eMode (inE xs)) (eReg (inE xs)) (inVa xs) (inLn xs : Int) (inPo xs).toNat (by have := inPo_range hI.2.1; omega) cc 128 hcc w hT)
  have hpo : (((inPo xs).toNat : Nat) : Int) = inPo xs := by have := inPo_range hI.2.1; omega
  rw [hpo] at CL CM CC'
  have HAg : Hid (inOk xs = true → inAgg xs = iC (inPg xs : Int) (inCo xs) (eOp (inE xs)) (eMode (inE xs)) (eReg (inE xs)) (inPo xs) (inVa xs) (inLn xs : Int)) := Lib.hid (fun h => by unfold inAgg insC; rw [if_pos h])
  obtain ⟨g1, g2, g3, g4, g5⟩ := bounds_in hI.2.1 cc
  generalize cycN (inPg xs : Int) (eOp (inE xs)) (eMode (inE xs)) (eReg (inE xs)) (inPo xs).toNat cc 128 = N at CC' g1 g2 g3 g4 g5
  generalize leastN (inPg xs : Int) (eOp (inE xs)) (eMode (inE xs)) (inPo xs).toNat = L at CL g4
  generalize mostN (inPg xs : Int) (eOp (inE xs)) (eMode (inE xs)) (eReg (inE xs)) (inPo xs).toNat = M at CM g5
  generalize (inLn xs : Int) = ln at CL CM CC' HAg g3
  generalize (inPg xs : Int) = p at CL CM CC' HAg
  generalize (eOp (inE xs) : Int) = o at CL CM CC' HAg
  generalize (eMode (inE xs) : Int) = m at CL CM CC' HAg
  generalize (eReg (inE xs) : Int) = r at CL CM CC' HAg
  generalize inPo xs = po at CL CM CC' HAg
  generalize inVa xs = va at CL CM CC' HAg
  generalize inCo xs = co at CL CM CC' HAg
  have HAz : Hid (inOk xs = false → inAgg xs = zInst) := Lib.hid (fun h => by unfold inAgg; rw [h]; rfl)
  generalize inAgg xs = ag at CO HAg HAz
  generalize inOk xs = ok at CO HAg HAz
  obtain ⟨R, hR⟩ : ∃ R, rowN kind = R := ⟨_, rfl⟩
  have HRN := Lib.hid hR
  have CR := Lib.hid (fun w => row_any kind w)
  rw [hR] at CR
  clear hpo hI hA hn hT hb0 hcc hR
  go_enter Tryd.func7, Tryd.ntmps7
  go_upto_region 3 with (fail)
  generalize w.alloc (Obj.cells rows8 53) = W0 at HB0 HI0 HT0 HR0 ⊢
  obtain ⟨K, hK⟩ : ∃ K, decide (0 ≤ kind ∧ kind < 8) = K := ⟨_, rfl⟩
  go_cut [18] (fun u18 wx => u18 = .bool K ∧ wx = W0)
  case first =>
    by_cases k0 : 0 ≤ kind
    · by_cases k1 : kind < 8
      · obtain rfl : K = true := by rw [← hK]; exact decide_eq_true ⟨k0, k1⟩
        go_wp2_with fail
        go_meet
        case rel => exact ⟨rfl, rfl⟩
      · obtain rfl : K = false := by rw [← hK]; exact decide_eq_false (fun h => k1 h.2)
        have k2 : 8 ≤ kind := by omega
        go_wp2_with fail
        go_meet
        case rel => exact ⟨rfl, rfl⟩
    · obtain rfl : K = false := by rw [← hK]; exact decide_eq_false (fun h => k0 h.1)
      have k2 : kind < 0 := by omega
      go_wp2_with fail
      go_meet
      case rel => exact ⟨rfl, rfl⟩
  case rest =>
    obtain ⟨rfl, rfl⟩ := hcut
    go_upto_if 18 with (fail)
    go_cut [8] (fun u8 wx => u8 = .int .i64 R ∧ wx = wc)
    case first =>
      cases K
      · have hk := of_decide_eq_false hK
        have hr : R = 0 := by rw [← HRN.out]; unfold rowN; rw [if_neg (by omega), if_neg (by omega), if_neg (by omega)]
        subst hr
        clear hk hK
        go_wp2_with fail
        go_meet
        case rel => exact ⟨rfl, rfl⟩
      · have hk := of_decide_eq_true hK
        obtain ⟨r0, r1, r2, r3, r4, r5, r6, r7⟩ := blk8 HR0.out
        clear hK
        rcases (show kind = 0 ∨ kind = 1 ∨ kind = 2 ∨ kind = 3 ∨ kind = 4 ∨ kind = 5 ∨ kind = 6 ∨ kind = 7 by omega) with rfl | rfl | rfl | rfl | rfl | rfl | rfl | rfl
        all_goals
          clear hk
          go_wp2_with fail
          go_meet
          case rel => exact ⟨vint HRN.out, rfl⟩
    case rest =>
      obtain ⟨rfl, rfl⟩ := hcut
      have hRR : (R != R) = false := by simp
      clear hK
      cases ok
      · obtain rfl := HAz.out rfl
        go_wp2_with (go_at_call 29; refine (CR.out _).mono ?_; rintro e w' ⟨rfl, rfl⟩)
        refine (CO.out _ HI0.out).mono ?_
        rintro e w1 ⟨rfl, hb1⟩
        have HB1 := Lib.hid (Below.alloc0 (Below.trans0 HB0.out hb1) (Obj.cells zInst 36))
        have HT1 := Lib.hid (kinds_below HT0.out (Below.alloc0 hb1 (Obj.cells zInst 36)))
        clear hb1
        by_cases hlen : 20 < n
        · have d1 : decide ((20 : Int) < (n : Int)) = true := decide_eq_true (by omega)
          have d2 : decide (20 < n) = true := decide_eq_true hlen
          clear hlen
          go_wp2_with (go_at_call 28; refine (alive19 _ HT1.out).mono ?_; rintro e w9 ⟨rfl, hb9⟩)
          go_ret
          exact ⟨rfl, Below.trans0 HB1.out hb9⟩
        · have d1 : decide ((20 : Int) < (n : Int)) = false := decide_eq_false (by omega)
          have d2 : decide (20 < n) = false := decide_eq_false hlen
          clear hlen
          go_wp2_with (go_at_call 28; refine (alive19 _ HT1.out).mono ?_; rintro e w9 ⟨rfl, hb9⟩)
          go_ret
          exact ⟨rfl, Below.trans0 HB1.out hb9⟩
      · obtain rfl := HAg.out rfl
        go_wp2_with (go_at_call 29; refine (CR.out _).mono ?_; rintro e w' ⟨rfl, rfl⟩)
        refine (CO.out _ HI0.out).mono ?_
        rintro e w1 ⟨rfl, hb1⟩
        have HB1 := Lib.hid (Below.alloc0 (Below.trans0 HB0.out hb1) (Obj.cells (iC p co o m r po va ln) 36))
        have HT1 := Lib.hid (kinds_below HT0.out (Below.alloc0 hb1 (Obj.cells (iC p co o m r po va ln) 36)))
        have HS1 := Lib.hid (Blk.new w1 36 (iC p co o m r po va ln) (0, 0))
        clear hb1
        by_cases hlen : 20 < n
        · have d1 : decide ((20 : Int) < (n : Int)) = true := decide_eq_true (by omega)
          have d2 : decide (20 < n) = true := decide_eq_true hlen
          clear hlen
          go_wp2_with (go_at_call 28; refine (alive19 _ HT1.out).mono ?_; rintro e w9 ⟨rfl, hb9⟩)
          go_ret
          exact ⟨rfl, Below.trans0 HB1.out hb9⟩
        · have d1 : decide ((20 : Int) < (n : Int)) = false := decide_eq_false (by omega)
          have d2 : decide (20 < n) = false := decide_eq_false hlen
          clear hlen
          go_upto_region 10 with (fail)
          obtain ⟨g, hg⟩ : ∃ g, w1.heap.size = g := ⟨_, rfl⟩
          rw [hg] at HS1 ⊢
          generalize w1.alloc (Obj.cells (iC p co o m r po va ln) 36) = W1 at HB1 HT1 HS1 ⊢
          obtain ⟨c0, c1, c2, c3, c4, c5, c6, c7⟩ := blk8 HS1.out
          go_wp2_with fail
          refine (CC'.out _ HT1.out).mono ?_
          rintro e w2 ⟨rfl, hb2⟩
          have HB2 := Lib.hid (Below.trans0 HB1.out hb2)
          have HT2 := Lib.hid (kinds_below HT1.out hb2)
          have HS2 := Lib.hid (Blk.below HS1.out hb2 HS1.out.lt)
          clear hb2 c0 c1 c2 c3 c4 c5 c6 c7
          obtain ⟨c0, c1, c2, c3, c4, c5, c6, c7⟩ := blk8 HS2.out
          have e1 : decide (2 ≤ N) = true := decide_eq_true g1
          have e2 : decide (N ≤ 20) = true := decide_eq_true g2
          have e3 : decide (ln ≤ N) = true := decide_eq_true g3
          have e4 : decide (L ≤ N) = true := decide_eq_true g4
          have e5 : decide (N ≤ M) = true := decide_eq_true g5
          go_wp2_with fail
          refine (CL.out _ HT2.out).mono ?_
          rintro e w3 ⟨rfl, hb3⟩
          have HB3 := Lib.hid (Below.trans0 HB2.out hb3)
          have HT3 := Lib.hid (kinds_below HT2.out hb3)
          have HS3 := Lib.hid (Blk.below HS2.out hb3 HS2.out.lt)
          clear hb3 c0 c1 c2 c3 c4 c5 c6 c7
          obtain ⟨c0, c1, c2, c3, c4, c5, c6, c7⟩ := blk8 HS3.out
          go_wp2_with fail
          refine (CM.out _ HT3.out).mono ?_
          rintro e w4 ⟨rfl, hb4⟩
          have HB4 := Lib.hid (Below.trans0 HB3.out hb4)
          have HT4 := Lib.hid (kinds_below HT3.out hb4)
          clear hb4 c0 c1 c2 c3 c4 c5 c6 c7
          go_wp2_with (go_at_call 28; refine (alive19 _ HT4.out).mono ?_; rintro e w9 ⟨rfl, hb9⟩)
          go_ret
          exact ⟨rfl, Below.trans0 HB4.out hb9⟩
end Go.Proofs.YtfkcogccbeolfabDoor
