/- The contract of package page's Find. -/
import Derived.Test.YtfkcogccbeolfaaDoorPagR
import Derived.Test.YtfkcogccbeolfaaDoorPostS
import Derived.Deep.RegionHeld3
namespace Go.Proofs.YtfkcogccbeolfaaDoor
open Go.ChangeShapes Go.WideShapes Go.ChangeAt Go.RowKit
set_option linter.unusedVariables false

abbrev ent3 (x y z : Int) : Array Value := #[.int .i64 x, .int .i64 y, .int .i64 z]
set_option maxRecDepth 100000 in
theorem eql_ent (w : World) (x y z x' y' z' : Int) :
    (binOp .eql 33 (.agg (ent3 x y z)) (.agg (ent3 x' y' z'))).run Tryd.prog w = .ok (.bool (x == x' && (y == y' && z == z'))) w := by
  by_cases h1 : x = x'
  · subst h1
    by_cases h2 : y = y'
    · subst h2
      by_cases h3 : z = z'
      · subst h3
        go_simp
      · have e3 : (z == z') = false := by simpa using h3
        go_simp
    · have e2 : (y == y') = false := by simpa using h2
      go_simp
  · have e1 : (x == x') = false := by simpa using h1
    go_simp
theorem hitE_comm (x y z : Int) (n : Nat) : ((eOp n : Int) == x && ((eMode n : Int) == y && (eReg n : Int) == z)) = hitE x y z n := by
  unfold hitE
  rw [Bool.eq_iff_iff]
  simp only [Bool.and_eq_true, beq_iff_eq]
  constructor <;> (rintro ⟨a, b, c⟩; exact ⟨a.symm, b.symm, c.symm⟩)
def fPage (j : Nat) : Int := if j < 768 then ((j / 256 + 1 : Nat) : Int) else 0
def fCode (j : Nat) : Int := if j < 768 then ((j % 256 : Nat) : Int) else 0
set_option maxRecDepth 100000 in
theorem pageFind_zero (w : World) :
    Calls Tryd.prog 25 #[.agg #[.int .i64 0, .int .i64 0, .int .i64 0]] w fun e w' => e = .returned (.tuple #[.int .i64 0, .int .u8 0, .bool false]) ∧ Below w.heap.size w w' := by
  go_enter Tryd.func25, Tryd.ntmps25
  go_wp2
  go_ret3
  exact ⟨rfl, Below.alloc0 (Below.refl _ _) _⟩
theorem ret_find3 {a b c d : Int} {p q : Bool} (h : a = c) (h2 : b = d) (h3 : p = q) : Ending.returned (.tuple #[.int .i64 a, .int .u8 b, .bool p]) = .returned (.tuple #[.int .i64 c, .int .u8 d, .bool q]) := by rw [h, h2, h3]
set_option maxRecDepth 100000 in
set_option maxHeartbeats 4000000 in
theorem pageFind_some (x y z : Int) (h : ¬ (x = 0 ∧ y = 0 ∧ z = 0)) (w : World) (hT : PagAt w) :
    Calls Tryd.prog 25 #[.agg #[.int .i64 x, .int .i64 y, .int .i64 z]] w fun e w' => e = .returned (.tuple #[.int .i64 (fPage (findT x y z)), .int .u8 (fCode (findT x y z)), .bool (decide (findT x y z < 768))]) ∧ Below w.heap.size w w' := by
  have he0 : ∀ w, (binOp .eql 33 (.agg (ent3 x y z)) (.agg (ent3 0 0 0))).run Tryd.prog w = .ok (.bool false) w := fun w => by
    rw [eql_ent]
    have : (x == 0 && (y == 0 && z == 0)) = false := by
      rw [← Bool.not_eq_true, Bool.and_eq_true, Bool.and_eq_true, beq_iff_eq, beq_iff_eq, beq_iff_eq]; exact h
    rw [this]
  obtain ⟨J, hJ⟩ : ∃ J, findT x y z = J := ⟨_, rfl⟩
  have hJ0 : J = fnd (hitT x y z) (768 - 256 * 0) (256 * 0) := hJ.symm
  rw [hJ]
  have HJ := Lib.hid hJ0
  have HT := Lib.hid hT
  have HT0 := Lib.hid (hT.below (Below.alloc0 (Below.refl _ w) (Obj.cells #[.int .i64 x, .int .i64 y, .int .i64 z] 33)))
  have HB0 := Lib.hid (Blk.new w 33 #[.int .i64 x, .int .i64 y, .int .i64 z] (0, 0))
  clear hT hJ hJ0 h
  go_enter Tryd.func25, Tryd.ntmps25
  go_wp2
  clear he0
  go_loopw [5] (fun u5 wr => ∃ q : Nat, q ≤ 3 ∧ u5 = .int .i64 ((q : Int) + 1) ∧ Hid (PagAt wr) ∧ Hid (Blk wr w.heap.size 33 (ent3 x y z)) ∧ Hid (Below w.heap.size w wr) ∧ Hid (J = fnd (hitT x y z) (768 - 256 * q) (256 * q))) (fun u5 _ => 4 - (intOf u5).toNat)
  case atStart => exact ⟨0, Nat.zero_le _, by first | rfl | go_num, HT0, HB0, Lib.hid (Below.alloc0 (Below.refl _ _) _), HJ⟩
  case round =>
    obtain ⟨q, hq, rfl, HK, HBk, HBel, hF⟩ := hrel
    by_cases hlt : q < 3
    · have hq1 : (q : Int) < 3 := by omega
      have dq : decide ((q : Int) + 1 ≤ 3) = true := decide_eq_true (by omega)
      go_wp2
      obtain ⟨wo, rfl⟩ : ∃ wo : World, wo = wr := ⟨_, rfl⟩
      go_loopw [14] (fun u14 wi => ∃ i : Nat, i ≤ 256 ∧ u14 = .int .i64 i ∧ Hid (PagAt wi) ∧ Hid (Blk wi w.heap.size 33 (ent3 x y z)) ∧ Hid (Below w.heap.size w wi) ∧ Hid (J = fnd (hitT x y z) (768 - (256 * q + i)) (256 * q + i))) (fun u14 _ => 256 - (intOf u14).toNat)
      case atStart => exact ⟨0, Nat.zero_le _, rfl, HK, HBk, HBel, hF⟩
      case round =>
        obtain ⟨i, hi, rfl, HKi, HBi, HBeli, hFi⟩ := hrel
        by_cases hlti : i < 256
        · have hi0 : (0 : Int) ≤ (i : Int) := by omega
          have hi1 : (i : Int) < 256 := by omega
          have t1 : IntKind.u8.wrap (i : Int) = (i : Int) := by rw [IntKind.wrap_u8]; omega
          have ci : ∀ w, PagAt w → Calls Tryd.prog 22 #[.int .i64 ((q : Int) + 1), .int .u8 (i : Int)] w fun e w' => e = .returned (.agg (entA (pgT (256 * q + i)))) ∧ Below w.heap.size w w' := fun w hT => by
            have := pageOf_in (q + 1) i (by omega) (by omega) hlti w hT
            rw [ofE_eq (q + 1) i (by omega) (by omega) hlti, Nat.add_sub_cancel] at this
            exact this
          have HKd := Lib.hid (show PagAt wr.drew from HKi.out)
          have hlt3 : 256 * q + i < 768 := by omega
          cases hh : hitT x y z (256 * q + i)
          all_goals
            have he : ∀ w, (binOp .eql 33 (.agg (entA (pgT (256 * q + i)))) (.agg (ent3 x y z))).run Tryd.prog w = .ok (.bool (hitT x y z (256 * q + i))) w := fun w => by rw [eql_ent, hitE_comm]; rfl
            rw [hh] at he
            unfold entA at he ci
            have HH := Lib.hid hh
            clear hh
          · generalize (eOp (pgT (256 * q + i)) : Int) = x0 at he ci
            generalize (eMode (pgT (256 * q + i)) : Int) = x1 at he ci
            generalize (eReg (pgT (256 * q + i)) : Int) = x2 at he ci
            have CI := Lib.hid ci
            clear ci
            go_wp2
            go_region_held3 (fun w' => w'.cell? ⟨w.heap.size, 0, none⟩ = some (.int .i64 x) ∧ w'.cell? ⟨w.heap.size, 1, none⟩ = some (.int .i64 y) ∧ w'.cell? ⟨w.heap.size, 2, none⟩ = some (.int .i64 z))
              (first
                | exact HBi.out.s3
                | exact HB2.out.s3)
              (first
                | (go_at_call 22; refine (CI.out _ HKd.out).mono ?_; rintro e w2 ⟨rfl, hb2⟩; have HB2 := Lib.hid (Blk.belowD HBi.out hb2 HBi.out.lt); have Hb2 := Lib.hid hb2; clear hb2))
            have b2 : Below wr.heap.size wr w2 := by first | exact Hb2.out | exact ⟨Hb2.out.os, Hb2.out.tape, Hb2.out.output, Hb2.out.size, Hb2.out.block⟩
            have B2 := Lib.hid b2
            clear b2 he t1
            go_wp2
            go_roundw
            case rel => exact ⟨i + 1, by omega, by go_num, Lib.hid (HKi.out.below (by first | exact B2.out | exact Below.drew0 B2.out)), by first | exact HB2 | exact Lib.hid (Blk.drew HB2.out), Lib.hid (by first | exact Below.trans0 HBeli.out B2.out | exact Below.drew0 (Below.trans0 HBeli.out B2.out)), Lib.hid (by rw [hFi.out, fnd_step _ _ _ hlt3 HH.out]; rfl)⟩
            case measure => simp [intOf]; omega
          · generalize (eOp (pgT (256 * q + i)) : Int) = x0 at he ci
            generalize (eMode (pgT (256 * q + i)) : Int) = x1 at he ci
            generalize (eReg (pgT (256 * q + i)) : Int) = x2 at he ci
            have CI := Lib.hid ci
            clear ci
            go_wp2
            go_region_held3 (fun w' => w'.cell? ⟨w.heap.size, 0, none⟩ = some (.int .i64 x) ∧ w'.cell? ⟨w.heap.size, 1, none⟩ = some (.int .i64 y) ∧ w'.cell? ⟨w.heap.size, 2, none⟩ = some (.int .i64 z))
              (first
                | exact HBi.out.s3
                | exact HB2.out.s3)
              (first
                | (go_at_call 22; refine (CI.out _ HKd.out).mono ?_; rintro e w2 ⟨rfl, hb2⟩; have HB2 := Lib.hid (Blk.belowD HBi.out hb2 HBi.out.lt); have Hb2 := Lib.hid hb2; clear hb2))
            have b2 : Below wr.heap.size wr w2 := by first | exact Hb2.out | exact ⟨Hb2.out.os, Hb2.out.tape, Hb2.out.output, Hb2.out.size, Hb2.out.block⟩
            have B2 := Lib.hid b2
            clear b2 he t1
            go_wp2
            go_ret3
            have hv : J = 256 * q + i := by rw [hFi.out, fnd_hit _ _ _ hlt3 HH.out]
            refine ⟨ret_find3 ?_ ?_ ?_, by first | exact Below.trans0 HBeli.out B2.out | exact Below.drew0 (Below.trans0 HBeli.out B2.out)⟩
            · rw [hv]; unfold fPage; rw [if_pos hlt3]; omega
            · rw [hv]; unfold fCode; rw [if_pos hlt3]; omega
            · rw [hv]; symm; simpa using hlt3
        · obtain rfl : i = 256 := by omega
          go_wp2
          go_roundw
          case rel => exact ⟨q + 1, by omega, by go_num, HKi, HBi, HBeli, Lib.hid (by rw [hFi.out]; rfl)⟩
          case measure => simp [intOf]; omega
    · obtain rfl : q = 3 := by omega
      have hv : J = 768 := by rw [hF.out]; rfl
      go_wp2
      go_ret3
      refine ⟨ret_find3 ?_ ?_ ?_, HBel.out⟩
      · rw [hv]; rfl
      · rw [hv]; rfl
      · rw [hv]; rfl
end Go.Proofs.YtfkcogccbeolfaaDoor
