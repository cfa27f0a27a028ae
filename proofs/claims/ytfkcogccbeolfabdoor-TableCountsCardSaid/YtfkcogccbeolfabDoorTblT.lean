/- The law TableCounts, over numbers: the walk. -/
import Derived.Test.YtfkcogccbeolfabDoorTblS
namespace Go.Proofs.YtfkcogccbeolfabDoor
open Go.ChangeShapes Go.WideShapes Go.ChangeAt Go.RowKit
set_option linter.unusedVariables false

set_option maxRecDepth 100000 in
set_option maxHeartbeats 8000000 in
theorem law_counts (A : Option Addr) (n cap : Nat) (xs : List Int) (cc pulled : Int) (hcc : CC cc) (q0 : 0 ≤ pulled) (q1 : pulled < 256) (w : World) (hI : Ints .u8 w w.heap.size A n xs) (hA : A = none → n = 0 ∧ cap = 0) (hn : n ≤ 140737488351232) (hT : KindsAt w) :
    Calls Tryd.prog 6 #[.slice A n cap, .int .u8 cc, .int .u8 pulled] w fun e w' => e = .returned (.bool true) ∧ Below w.heap.size w w' := by
  have HT0 := Lib.hid hT
  have HL := Lib.hid hI.1
  have C0 := of18_any A n cap xs w hI hA hn
  have CO := Lib.hid C0
  have HAg : Hid (inOk xs = true → inAgg xs = iC (inPg xs : Int) (inCo xs) (eOp (inE xs)) (eMode (inE xs)) (eReg (inE xs)) (inPo xs) (inVa xs) (inLn xs : Int)) := Lib.hid (fun h => by unfold inAgg insC; rw [if_pos h])
  have HAz : Hid (inOk xs = false → inAgg xs = zInst) := Lib.hid (fun h => by unfold inAgg; rw [h]; rfl)
  obtain ⟨j, b, hj, hb, h1, h2, h3, h4⟩ := in_parts hI.2.1
  have hmd := inMd_le hI.2.1
  unfold inMd at hmd
  rw [h1] at hmd
  rw [h1, h2, h3] at HAg
  have hfl := ref_first j b hj hb
  have hle := ref_least j b hj hb
  have hreg : eReg (pgT j) < 16 := by unfold eReg; omega
  have hcy := ref_cyc ((j / 256 + 1 : Nat) : Int) (eReg (pgT j)) (eOp (pgT j)) (eMode (pgT j)) b cc pulled q0 q1 hle
  generalize ((j / 256 + 1 : Nat) : Int) = p at HAg hle hcy
  generalize (inLn xs : Int) = ln at HAg
  generalize inCo xs = co at HAg
  generalize inVa xs = va at HAg
  obtain ⟨ho, -⟩ := hfl
  generalize eOp (pgT j) = o at HAg hle hcy ho
  generalize eMode (pgT j) = m at HAg hle hcy hmd
  generalize eReg (pgT j) = r at HAg hcy hreg
  have CR := Lib.hid (fun w => refLeast_any p co va ln r o m b ho hmd hb w)
  have CL := Lib.hid (fun w hT => least_any p co o m r va ln b hb w hT)
  have CT := Lib.hid (fun w => taken_any p co o m r b va ln w)
  have CW := Lib.hid (fun w => whole_any p co o m r b va ln w)
  have CM := Lib.hid (fun w hT => most_any p co o m r va ln b hb w hT)
  have CY := Lib.hid (fun w hT => cyc_any p co o m r va ln b hb cc pulled hcc w hT)
  have CS := Lib.hid (fun w => refCyc_any p co va ln o m b r ho hmd hb hreg cc pulled hcc w)
  rw [hle] at CR
  rw [hcy] at CS
  have hM : mostN p o m r b = leastN p o m b + takenN o r + wholeN o := by
    unfold mostN takenN wholeN
    by_cases a : (o : Int) = 49
    · rw [if_neg (by omega), if_pos a]; omega
    · rw [if_neg a]; split <;> omega
  rw [hM] at CM
  have hr := firstN_range o m b hb
  have hl : 0 ≤ leastN p o m b ∧ leastN p o m b ≤ 41 := by unfold leastN; split <;> omega
  have ht : 0 ≤ takenN o r ∧ takenN o r ≤ 1 := by unfold takenN; split <;> omega
  have hw : 0 ≤ wholeN o ∧ wholeN o ≤ 9 := by unfold wholeN; split <;> omega
  have HTw : Hid (takenN o r = (if (o : Int) = 35 ∧ ¬ (r : Int) = 1 then 1 else 0) ∧ wholeN o = (if (o : Int) = 49 then 9 else 0)) := Lib.hid ⟨rfl, rfl⟩
  generalize leastN p o m b = L at CR CL CM hl
  generalize takenN o r = T at CT CM ht HTw
  generalize wholeN o = V at CW CM hw HTw
  generalize cycN p o m r b cc pulled = N at CY CS
  generalize inAgg xs = ag at CO HAg HAz
  generalize inOk xs = ok at CO HAg HAz
  obtain ⟨l0, l1⟩ := hl
  obtain ⟨t0, t1⟩ := ht
  obtain ⟨w0, w1⟩ := hw
  clear hI hA hn hT C0 h1 h2 h3 h4 hle hcy hM hr hcc ho hmd hreg q0 q1 hj
  cases ok
  · obtain rfl := HAz.out rfl
    go_enter Tryd.func6, Tryd.ntmps6
    go_wp2_with fail
    refine CO.out.mono ?_
    rintro e v1 ⟨rfl, hb1⟩
    have HB1 := Lib.hid (Below.alloc0 hb1 (Obj.cells zInst 36))
    clear hb1
    by_cases hlen : 20 < n
    · have d1 : decide ((20 : Int) < (n : Int)) = true := decide_eq_true (by omega)
      have d2 : decide (20 < n) = true := decide_eq_true hlen
      clear hlen
      go_wp2
      go_ret
      exact ⟨rfl, HB1.out⟩
    · have d1 : decide ((20 : Int) < (n : Int)) = false := decide_eq_false (by omega)
      have d2 : decide (20 < n) = false := decide_eq_false hlen
      clear hlen
      go_wp2
      go_ret
      exact ⟨rfl, HB1.out⟩
  · obtain rfl := HAg.out rfl
    go_enter Tryd.func6, Tryd.ntmps6
    go_wp2_with fail
    refine CO.out.mono ?_
    rintro e v1 ⟨rfl, hb1⟩
    have HB1 := Lib.hid (Below.alloc0 hb1 (Obj.cells (iC p co o m r b va ln) 36))
    have HT1 := Lib.hid (kinds_below HT0.out (Below.alloc0 hb1 (Obj.cells (iC p co o m r b va ln) 36)))
    have HS1 := Lib.hid (Blk.new v1 36 (iC p co o m r b va ln) (0, 0))
    clear hb1
    by_cases hlen : 20 < n
    · have d1 : decide ((20 : Int) < (n : Int)) = true := decide_eq_true (by omega)
      have d2 : decide (20 < n) = true := decide_eq_true hlen
      clear hlen
      go_wp2
      go_ret
      exact ⟨rfl, HB1.out⟩
    · have d1 : decide ((20 : Int) < (n : Int)) = false := decide_eq_false (by omega)
      have d2 : decide (20 < n) = false := decide_eq_false hlen
      clear hlen
      go_upto_region 5 with (fail)
      obtain ⟨g, hg⟩ : ∃ g, v1.heap.size = g := ⟨_, rfl⟩
      rw [hg] at HS1 ⊢
      generalize v1.alloc (Obj.cells (iC p co o m r b va ln) 36) = W1 at HB1 HT1 HS1 ⊢
      obtain ⟨c0, c1, c2, c3, c4, c5, c6, c7⟩ := blk8 HS1.out
      obtain ⟨K, hK⟩ : ∃ K, decide ((o : Int) = 35 ∧ ¬ (r : Int) = 1) = K := ⟨_, rfl⟩
      go_cut [33] (fun u33 wx => u33 = .bool K ∧ wx = W1)
      case first =>
        by_cases k0 : (o : Int) = 35
        · by_cases k1 : (r : Int) = 1
          · obtain rfl : K = false := by rw [← hK]; exact decide_eq_false (fun h => h.2 k1)
            have e1 : ((r : Int) != 1) = false := by simp [k1]
            have e2 : ((o : Int) == 35) = true := by simp [k0]
            clear k0 k1 hK
            go_wp2_with fail
            go_meet
            case rel => exact ⟨rfl, rfl⟩
          · obtain rfl : K = true := by rw [← hK]; exact decide_eq_true ⟨k0, k1⟩
            have e1 : ((r : Int) != 1) = true := by simp; omega
            have e2 : ((o : Int) == 35) = true := by simp [k0]
            clear k0 k1 hK
            go_wp2_with fail
            go_meet
            case rel => exact ⟨rfl, rfl⟩
        · obtain rfl : K = false := by rw [← hK]; exact decide_eq_false (fun h => k0 h.1)
          have e2 : ((o : Int) == 35) = false := ne_beq k0
          clear k0 hK
          go_wp2_with fail
          go_meet
          case rel => exact ⟨rfl, rfl⟩
      case rest =>
        obtain ⟨rfl, rfl⟩ := hcut
        go_upto_if 33 with (fail)
        go_cut [9] (fun u9 wx => u9 = .int .i64 T ∧ wx = wc)
        case first =>
          cases K
          · have hv : T = 0 := by rw [HTw.out.1, if_neg (of_decide_eq_false hK)]
            subst hv
            clear hK
            go_wp2_with fail
            go_meet
            case rel => exact ⟨rfl, rfl⟩
          · have hv : T = 1 := by rw [HTw.out.1, if_pos (of_decide_eq_true hK)]
            subst hv
            clear hK
            go_wp2_with fail
            go_meet
            case rel => exact ⟨rfl, rfl⟩
        case rest =>
          obtain ⟨rfl, rfl⟩ := hcut
          clear hK
          go_upto_region 7 with (fail)
          go_cut [37] (fun u37 wx => u37 = .bool ((o : Int) == 49) ∧ wx = wc)
          case first =>
            go_wp2_with fail
            go_meet
            case rel => exact ⟨rfl, rfl⟩
          case rest =>
            obtain ⟨rfl, rfl⟩ := hcut
            obtain ⟨J, hJ⟩ : ∃ J, ((o : Int) == 49) = J := ⟨_, rfl⟩
            rw [hJ]
            go_upto_if 37 with (fail)
            go_cut [10] (fun u10 wx => u10 = .int .i64 V ∧ wx = wc)
            case first =>
              cases J
              · have hv : V = 0 := by rw [HTw.out.2, if_neg (by simpa using hJ)]
                subst hv
                clear hJ
                go_wp2_with fail
                go_meet
                case rel => exact ⟨rfl, rfl⟩
              · have hv : V = 9 := by rw [HTw.out.2, if_pos (by simpa using hJ)]
                subst hv
                clear hJ
                go_wp2_with fail
                go_meet
                case rel => exact ⟨rfl, rfl⟩
            case rest =>
              obtain ⟨rfl, rfl⟩ := hcut
              clear hJ HTw
              go_wp2_with fail
              refine (CR.out _).mono ?_
              rintro e v2 ⟨rfl, hb2⟩
              have HB2 := Lib.hid (Below.drew0 (Below.trans0 HB1.out hb2))
              have HT2 := Lib.hid (kinds_below (kinds_below HT1.out hb2) (Below.drew0 (Below.refl _ _)))
              have HS2 := Lib.hid (Blk.drew (Blk.below HS1.out hb2 HS1.out.lt))
              clear hb2 c0 c1 c2 c3 c4 c5 c6 c7
              have s1 : IntKind.i64.wrap (L + T) = L + T := IntWalk.i64_in _ (by omega)
              have s2 : IntKind.i64.wrap (L + T + V) = L + T + V := IntWalk.i64_in _ (by omega)
              go_wp2
              go_region_held3 (fun w' => w'.cell? ⟨g, 0, none⟩ = some (.int .i64 p) ∧ w'.cell? ⟨g, 1, none⟩ = some (.int .u8 co) ∧ w'.cell? ⟨g, 2, none⟩ = some (.int .i64 (o : Int)) ∧ w'.cell? ⟨g, 3, none⟩ = some (.int .i64 (m : Int)) ∧ w'.cell? ⟨g, 4, none⟩ = some (.int .i64 (r : Int)) ∧ w'.cell? ⟨g, 5, none⟩ = some (.int .u8 (b : Int)) ∧ w'.cell? ⟨g, 6, none⟩ = some (.int .u16 va) ∧ w'.cell? ⟨g, 7, none⟩ = some (.int .i64 ln))
                (first
                  | (with_reducible exact blk8 HS2.out)
                  | (with_reducible exact blk8 HS3.out)
                  | (with_reducible exact blk8 HS4.out)
                  | (with_reducible exact blk8 HS5.out)
                  | (with_reducible exact blk8 HS6.out)
                  | (with_reducible exact blk8 HS7.out)
                  | (with_reducible exact blk8 HS8.out)
                  | (with_reducible exact blk8 HS9.out))
                (first
                  | (go_at_call 22; ((with_reducible refine (CL.out _ HT2.out).mono ?_); rintro e v3 ⟨rfl, hb3⟩; have HS3 := Lib.hid (Blk.below HS2.out hb3 HS2.out.lt); have HB3 := Lib.hid (Below.trans0 HB2.out hb3); have HT3 := Lib.hid (kinds_below HT2.out hb3); clear hb3))
                  | (go_at_call 23; ((with_reducible refine (CT.out _).mono ?_); rintro e v4 ⟨rfl, hb3⟩; have HS4 := Lib.hid (Blk.below HS3.out hb3 HS3.out.lt); have HB4 := Lib.hid (Below.trans0 HB3.out hb3); have HT4 := Lib.hid (kinds_below HT3.out hb3); clear hb3))
                  | (go_at_call 24; ((with_reducible refine (CW.out _).mono ?_); rintro e v5 ⟨rfl, hb3⟩; have HS5 := Lib.hid (Blk.below HS4.out hb3 HS4.out.lt); have HB5 := Lib.hid (Below.trans0 HB4.out hb3); have HT5 := Lib.hid (kinds_below HT4.out hb3); clear hb3))
                  | (go_at_call 25; ((with_reducible refine (CM.out _ HT5.out).mono ?_); rintro e v6 ⟨rfl, hb3⟩; have HS6 := Lib.hid (Blk.below HS5.out hb3 HS5.out.lt); have HB6 := Lib.hid (Below.trans0 HB5.out hb3); have HT6 := Lib.hid (kinds_below HT5.out hb3); clear hb3))
                  | (go_at_call 26; ((with_reducible refine (CY.out _ HT6.out).mono ?_); rintro e v7 ⟨rfl, hb3⟩; have HS7 := Lib.hid (Blk.below HS6.out hb3 HS6.out.lt); have HB7 := Lib.hid (Below.trans0 HB6.out hb3); have HT7 := Lib.hid (kinds_below HT6.out hb3); clear hb3))
                  | (go_at_call 27; ((with_reducible refine (CS.out _).mono ?_); rintro e v8 ⟨rfl, hb3⟩; have HS8 := Lib.hid (Blk.below HS7.out hb3 HS7.out.lt); have HB8 := Lib.hid (Below.trans0 HB7.out hb3); have HT8 := Lib.hid (kinds_below HT7.out hb3); clear hb3))
                  | (go_at_call 28; ((with_reducible refine (alive19 _ HT8.out).mono ?_); rintro e v9 ⟨rfl, hb3⟩; have HS9 := Lib.hid (Blk.below HS8.out hb3 HS8.out.lt); have HB9 := Lib.hid (Below.trans0 HB8.out hb3); clear hb3)))
              go_wp2
              go_ret
              exact ⟨rfl, HB9.out⟩
end Go.Proofs.YtfkcogccbeolfabDoor
