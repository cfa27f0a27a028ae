/- The law PostCodes, over a postbyte's reading as numbers. -/
import Derived.Test.YtfkcogccbeolfaaDoorPostC
import Derived.Test.YtfkcogccbeolfaaDoorPostL
namespace Go.Proofs.YtfkcogccbeolfaaDoor
open Go.ChangeShapes Go.WideShapes Go.ChangeAt Go.RowKit
set_option linter.unusedVariables false

theorem code_any (k r o : Int) (d : Bool) (w : World) (hT : KindsAt w) :
    Calls Tryd.prog 36 #[.agg #[.int .i64 k, .int .i64 r, .int .u16 o, .bool d]] w fun e w' => e = .returned (.tuple #[.int .u8 (codeV (codeL k r o d)), .bool (decide (codeL k r o d < 256))]) ∧ Below w.heap.size w w' := by
  rw [← code_same]
  unfold codeQ
  cases h : hitQ k r o d 159
  · exact code_else k r o d h w hT
  · exact code_hit k r o d h w hT
theorem okQ_of (n : Nat) (b1 b2 b3 b4 : Bool) (h1 : ((poK n : Int) != 0) = b1) (h2 : ((n : Int) % 16 == 4) = b2) (h3 : ((poK n : Int) != 13) = b3) (h4 : ((n : Int) == 159) = b4) : okQ n = ((b1 || b2) && (b3 || b4)) := by
  subst h1 h2 h3 h4
  unfold okQ
  have e1 : (!Nat.beq (poK n) 0) = ((poK n : Int) != 0) := by
    by_cases h : poK n = 0
    · rw [h]; rfl
    · have a : Nat.beq (poK n) 0 = false := by
        cases hh : Nat.beq (poK n) 0
        · rfl
        · rw [Nat.beq_eq] at hh; exact absurd hh h
      have b : ((poK n : Int) != 0) = true := by rw [bne_iff_ne]; omega
      rw [a, b]; rfl
  have e2 : Nat.beq (n % 16) 4 = ((n : Int) % 16 == 4) := by rw [Bool.eq_iff_iff, Nat.beq_eq, beq_iff_eq]; omega
  have e3 : (!Nat.beq (poK n) 13) = ((poK n : Int) != 13) := by
    by_cases h : poK n = 13
    · rw [h]; rfl
    · have a : Nat.beq (poK n) 13 = false := by
        cases hh : Nat.beq (poK n) 13
        · rfl
        · rw [Nat.beq_eq] at hh; exact absurd hh h
      have b : ((poK n : Int) != 13) = true := by rw [bne_iff_ne]; omega
      rw [a, b]; rfl
  have e4 : Nat.beq n 159 = ((n : Int) == 159) := by rw [Bool.eq_iff_iff, Nat.beq_eq, beq_iff_eq]; omega
  rw [e1, e2, e3, e4]
theorem lazy_cases : ∀ b1 b2 b3 b4 : Bool, (((b1 || b2) && (b3 || b4)) = true ∧ ((b1 = true ∧ b3 = true) ∨ (b1 = true ∧ b3 = false ∧ b4 = true) ∨ (b1 = false ∧ b2 = true ∧ b3 = true) ∨ (b1 = false ∧ b2 = true ∧ b3 = false ∧ b4 = true))) ∨
    (((b1 || b2) && (b3 || b4)) = false ∧ ((b1 = false ∧ b2 = false) ∨ (b1 = true ∧ b3 = false ∧ b4 = false) ∨ (b1 = false ∧ b2 = true ∧ b3 = false ∧ b4 = false))) := by decide
set_option maxRecDepth 100000 in
set_option maxHeartbeats 4000000 in
theorem law_codes (k r o : Int) (d : Bool) (h0 : 0 ≤ o) (h1 : o < 65536) (w : World) (hT : KindsAt w) :
    Calls Tryd.prog 8 #[.agg #[.int .i64 k, .int .i64 r, .int .u16 o, .bool d]] w fun e w' => e = .returned (.bool true) ∧ Below w.heap.size w w' := by
  have hV0 : codeL k r o d = fnd (hitL k r o d) (256 - 0) 0 := rfl
  have C := Lib.hid (fun w hT => code_any k r o d w hT)
  obtain ⟨V, hV⟩ : ∃ V, codeL k r o d = V := ⟨_, rfl⟩
  rw [hV] at C hV0
  have HV0 := Lib.hid hV0
  have HT0 := Lib.hid (hT.below (Below.alloc0 (Below.refl _ w) (Obj.cells #[.int .i64 k, .int .i64 r, .int .u16 o, .bool d] 47)))
  have HB0 := Lib.hid (Blk.new w 47 #[.int .i64 k, .int .i64 r, .int .u16 o, .bool d] (0, 0))
  have HT := Lib.hid hT
  clear hT hV hV0
  go_enter Tryd.func8, Tryd.ntmps8
  go_wp2_with fail
  refine (C.out _ HT0.out).mono ?_
  rintro e w1 ⟨rfl, hb1⟩
  have HB1 := Lib.hid (Blk.below HB0.out hb1 (by simp))
  have HA1 := Lib.hid (Below.trans0 (Below.alloc0 (Below.refl _ _) _) hb1)
  clear hb1
  go_wp2_with fail
  go_loopw [5] (fun u5 wr => ∃ i : Nat, i ≤ 256 ∧ u5 = .int .i64 i ∧ Hid (Blk wr w.heap.size 47 (postA k r o d)) ∧ Hid (Below w.heap.size w wr) ∧ Hid (V = fnd (hitL k r o d) (256 - i) i)) (fun u5 _ => 256 - (intOf u5).toNat)
  case atStart => exact ⟨0, Nat.zero_le _, rfl, HB1, HA1, HV0⟩
  case round =>
    obtain ⟨i, hi, rfl, HBk, HBel, hF⟩ := hrel
    by_cases hlt : i < 256
    · have hi0 : (0 : Int) ≤ (i : Int) := by omega
      have hi1 : (i : Int) < 256 := by omega
      have ci := Lib.hid (fun w => refOf_any i hlt w)
      have cs := fun w => same_any k r o d i hlt h0 h1 w
      obtain ⟨z0, z1, z2, z3⟩ := HBk.out.s4
      cases hq : hitQ k r o d i
      · rw [hq] at cs
        have CS := Lib.hid cs
        have HN : Hid (hitL k r o d i = false) := Lib.hid (by unfold hitL; rw [hq]; rfl)
        clear cs hq
        go_wp2_with fail
        refine (ci.out _).mono ?_
        rintro e w2 ⟨rfl, hb2⟩
        have HB2 := Lib.hid (Blk.below HBk.out hb2 HBk.out.lt)
        have HA2 := Lib.hid (Below.trans0 HBel.out hb2)
        clear hb2
        have zz := Blk.s4 (Blk.alloc HB2.out (Obj.cells (refP i) 50))
        obtain ⟨y0, y1, y2, y3⟩ := zz
        go_wp2_with fail
        refine (CS.out _).mono ?_
        rintro e w3 ⟨rfl, hb3⟩
        have HB3 := Lib.hid (Blk.below (Blk.alloc HB2.out (Obj.cells (refP i) 50)) hb3 (by have := HB2.out.lt; simp; omega))
        have HA3 := Lib.hid (Below.trans0 (Below.alloc0 HA2.out (Obj.cells (refP i) 50)) hb3)
        clear hb3
        go_wp2
        go_roundw
        case rel => exact ⟨i + 1, by omega, by go_num, HB3, HA3, Lib.hid (by rw [hF.out, fnd_step _ _ _ hlt HN.out])⟩
        case measure => simp [intOf]; omega
      · rw [hq] at cs
        have CS := Lib.hid cs
        obtain ⟨b1, q1⟩ : ∃ b, ((poK i : Int) != 0) = b := ⟨_, rfl⟩
        obtain ⟨b2, q2⟩ : ∃ b, ((i : Int) % 16 == 4) = b := ⟨_, rfl⟩
        obtain ⟨b3, q3⟩ : ∃ b, ((poK i : Int) != 13) = b := ⟨_, rfl⟩
        obtain ⟨b4, q4⟩ : ∃ b, ((i : Int) == 159) = b := ⟨_, rfl⟩
        have hok := okQ_of i b1 b2 b3 b4 q1 q2 q3 q4
        have HN : Hid (hitL k r o d i = okQ i) := Lib.hid (by unfold hitL; rw [hq]; rfl)
        clear cs hq
        rcases lazy_cases b1 b2 b3 b4 with ⟨hl, hc⟩ | ⟨hl, hc⟩
        · rw [hl] at hok
          have HO := Lib.hid hok
          have hv : V = i := by rw [hF.out, fnd_hit _ _ _ hlt (HN.out.trans HO.out)]
          have e1 : decide (V < 256) = true := by rw [hv]; simpa using hlt
          have e2 : (codeV V == (i : Int)) = true := by rw [hv]; simp [codeV, hlt]
          have e3 : 0 ≤ codeV V := by unfold codeV; split <;> omega
          have e4 : codeV V < 256 := by unfold codeV; split <;> omega
          clear hok hl hv
          rcases hc with ⟨rfl, rfl⟩ | ⟨rfl, rfl, rfl⟩ | ⟨rfl, rfl, rfl⟩ | ⟨rfl, rfl, rfl, rfl⟩
          all_goals
            go_wp2_with fail
            refine (ci.out _).mono ?_
            rintro e w2 ⟨rfl, hb2⟩
            have HB2 := Lib.hid (Blk.below HBk.out hb2 HBk.out.lt)
            have HA2 := Lib.hid (Below.trans0 HBel.out hb2)
            clear hb2
            obtain ⟨y0, y1, y2, y3⟩ := Blk.s4 (Blk.alloc HB2.out (Obj.cells (refP i) 50))
            have HX2 := Lib.hid (Blk.new w2 50 (refP i) (0, 0))
            go_wp2_with fail
            refine (CS.out _).mono ?_
            rintro e w3 ⟨rfl, hb3⟩
            have HX3 := Lib.hid (Blk.below HX2.out hb3 (by simp))
            have HA3 := Lib.hid (Below.trans0 (Below.alloc0 HA2.out (Obj.cells (refP i) 50)) hb3)
            obtain ⟨x0, x1, x2, x3, x4, x5⟩ := HX3.out.s6
            clear hb3
            go_wp2_with fail
            refine (alive15 _ (HT.out.below HA3.out)).mono ?_
            rintro e w4 ⟨rfl, hb4⟩
            have HA4 := Lib.hid (Below.trans0 HA3.out hb4)
            clear hb4
            go_wp2
            go_ret
            exact ⟨rfl, HA4.out⟩
        · rw [hl] at hok
          have HO := Lib.hid hok
          clear hok hl
          rcases hc with ⟨rfl, rfl⟩ | ⟨rfl, rfl, rfl⟩ | ⟨rfl, rfl, rfl, rfl⟩
          all_goals
            go_wp2_with fail
            refine (ci.out _).mono ?_
            rintro e w2 ⟨rfl, hb2⟩
            have HB2 := Lib.hid (Blk.below HBk.out hb2 HBk.out.lt)
            have HA2 := Lib.hid (Below.trans0 HBel.out hb2)
            clear hb2
            obtain ⟨y0, y1, y2, y3⟩ := Blk.s4 (Blk.alloc HB2.out (Obj.cells (refP i) 50))
            have HX2 := Lib.hid (Blk.new w2 50 (refP i) (0, 0))
            go_wp2_with fail
            refine (CS.out _).mono ?_
            rintro e w3 ⟨rfl, hb3⟩
            have HB3 := Lib.hid (Blk.below (Blk.alloc HB2.out (Obj.cells (refP i) 50)) hb3 (by have := HB2.out.lt; simp; omega))
            have HX3 := Lib.hid (Blk.below HX2.out hb3 (by simp))
            have HA3 := Lib.hid (Below.trans0 (Below.alloc0 HA2.out (Obj.cells (refP i) 50)) hb3)
            obtain ⟨x0, x1, x2, x3, x4, x5⟩ := HX3.out.s6
            clear hb3
            go_wp2
            go_roundw
            case rel => exact ⟨i + 1, by omega, by go_num, HB3, HA3, Lib.hid (by rw [hF.out, fnd_step _ _ _ hlt (HN.out.trans HO.out)])⟩
            case measure => simp [intOf]; omega
    · obtain rfl : i = 256 := by omega
      have hv : V = 256 := by rw [hF.out]; rfl
      have e1 : decide (V < 256) = false := by rw [hv]; rfl
      clear hv
      go_wp2_with fail
      refine (alive15 _ (HT.out.below HBel.out)).mono ?_
      rintro e w4 ⟨rfl, hb4⟩
      have HA4 := Lib.hid (Below.trans0 HBel.out hb4)
      clear hb4
      go_wp2
      go_ret
      exact ⟨rfl, HA4.out⟩
end Go.Proofs.YtfkcogccbeolfaaDoor
