/- The law PageCodes, over numbers. -/
import Derived.Test.YtfkcogccbeolfaaDoorPagE
import Derived.Test.YtfkcogccbeolfaaDoorPagF
import Derived.Test.YtfkcogccbeolfaaDoorPagL
namespace Go.Proofs.YtfkcogccbeolfaaDoor
open Go.ChangeShapes Go.WideShapes Go.ChangeAt Go.RowKit
set_option linter.unusedVariables false

theorem neq_ent (w : World) (x y z : Int) :
    (binOp .neq 33 (.agg (ent3 x y z)) (.agg (ent3 x y z))).run Tryd.prog w = .ok (.bool false) w := by
  have e1 : (x == x) = true := by simp
  have e2 : (y == y) = true := by simp
  have e3 : (z == z) = true := by simp
  go_simp
set_option maxRecDepth 100000 in
set_option maxHeartbeats 4000000 in
theorem codes_core (p ci o m r P C : Int) (B : Bool) (hc0 : 0 ≤ ci) (hc1 : ci < 256)
    (hOf : ∀ w, PagAt w → Calls Tryd.prog 22 #[.int .i64 p, .int .u8 ci] w fun e w' => e = .returned (.agg (ent3 o m r)) ∧ Below w.heap.size w w')
    (hRef : ∀ w, Calls Tryd.prog 23 #[.int .i64 p, .int .i64 ci] w fun e w' => e = .returned (.agg (ent3 o m r)) ∧ Below w.heap.size w w')
    (hFind : ∀ w, PagAt w → Calls Tryd.prog 25 #[.agg (ent3 o m r)] w fun e w' => e = .returned (.tuple #[.int .i64 P, .int .u8 C, .bool B]) ∧ Below w.heap.size w w')
    (h : (o = 0 ∧ P = 0 ∧ C = 0 ∧ B = false) ∨ (o ≠ 0 ∧ P = p ∧ C = ci ∧ B = true)) (w : World) (hT : PagAt w) :
    Calls Tryd.prog 5 #[.int .i64 p, .int .u8 ci] w fun e w' => e = .returned (.bool true) ∧ Below w.heap.size w w' := by
  have HT := Lib.hid hT
  have HO := Lib.hid hOf
  have HR := Lib.hid hRef
  have HF := Lib.hid hFind
  have HH := Lib.hid h
  have hP := prefix_any ci hc0 hc1
  have tw : IntKind.i64.wrap ci = ci := IntWalk.i64_in _ (by omega)
  have HTw := Lib.hid tw
  clear tw
  have hne : ∀ w, (binOp .neq 33 (.agg (ent3 o m r)) (.agg (ent3 o m r))).run Tryd.prog w = .ok (.bool false) w := fun w => neq_ent w o m r
  clear hT hOf hRef hFind h
  rcases (show (ci = 16 ∧ prefN ci = 2) ∨ (ci = 17 ∧ prefN ci = 3) ∨ (((ci == 16) = false ∧ (ci == 17) = false) ∧ prefN ci = 0) by
    by_cases a : ci = 16
    · left; exact ⟨a, by subst a; rfl⟩
    · by_cases b : ci = 17
      · right; left; exact ⟨b, by subst b; rfl⟩
      · right; right; exact ⟨⟨by simpa using a, by simpa using b⟩, by unfold prefN; rw [if_neg a, if_neg b]⟩) with ⟨rfl, q⟩ | ⟨rfl, q⟩ | ⟨⟨q1, q2⟩, q⟩
  all_goals
    rw [q] at hP
    have HP := Lib.hid hP
    clear hP q
    go_enter Tryd.func5, Tryd.ntmps5
    go_wp2_with fail
    refine (HO.out _ HT.out).mono ?_
    rintro e w1 ⟨rfl, hb1⟩
    have HE := Lib.hid (Blk.new w1 33 (ent3 o m r) (0, 0))
    have HEd := Lib.hid (Blk.drew HE.out)
    have HB1 := Lib.hid (Below.alloc0 hb1 (Obj.cells (ent3 o m r) 33))
    clear hb1
    go_wp2
    have tw := HTw.out
    go_region_held3 (fun w' => w'.cell? ⟨w1.heap.size, 0, none⟩ = some (.int .i64 o) ∧ w'.cell? ⟨w1.heap.size, 1, none⟩ = some (.int .i64 m) ∧ w'.cell? ⟨w1.heap.size, 2, none⟩ = some (.int .i64 r))
      (first
        | (with_reducible exact HEd.out.s3)
        | (with_reducible exact HE2.out.s3))
      (first
        | (go_at_call 23; ((with_reducible refine (HR.out _).mono ?_); rintro e w2 ⟨rfl, hb2⟩; have HE2 := Lib.hid (Blk.below HEd.out hb2 HEd.out.lt); have HB2 := Lib.hid (Below.trans0 (Below.drew0 HB1.out) hb2); clear hb2))
        | (go_at_call 24; ((with_reducible refine (HP.out _).mono ?_); rintro e w3 ⟨rfl, rfl⟩)))
    obtain ⟨c0, c1, c2⟩ := HE2.out.s3
    clear hne tw
    go_wp2_with fail
    refine (HF.out _ (HT.out.below HB2.out)).mono ?_
    rintro e w4 ⟨rfl, hb4⟩
    have HE4 := Lib.hid (Blk.below HE2.out hb4 HE2.out.lt)
    have HB4 := Lib.hid (Below.trans0 HB2.out hb4)
    clear hb4 c0 c1 c2
    obtain ⟨c0, c1, c2⟩ := HE4.out.s3
    rcases HH.out with ⟨rfl, rfl, rfl, rfl⟩ | ⟨h1, rfl, rfl, rfl⟩
    · go_wp2_with fail
      refine (alive14 _ (HT.out.below HB4.out)).mono ?_
      rintro e w5 ⟨rfl, hb5⟩
      have HB5 := Lib.hid (Below.trans0 HB4.out hb5)
      clear hb5
      go_wp2
      go_ret
      exact ⟨rfl, HB5.out⟩
    · have d0 : (o == 0) = false := by simpa using h1
      have b1 : (P == P) = true := by simp
      try have b2 : (C == C) = true := by simp
      clear h1
      go_wp2_with fail
      refine (alive14 _ (HT.out.below HB4.out)).mono ?_
      rintro e w5 ⟨rfl, hb5⟩
      have HB5 := Lib.hid (Below.trans0 HB4.out hb5)
      clear hb5
      go_wp2
      go_ret
      exact ⟨rfl, HB5.out⟩
theorem eOp_pos : ((List.range 768).all fun j => Nat.beq (pgT j) 0 || Nat.blt 0 (eOp (pgT j))) = true := by decide +kernel
theorem law_codes14 (p : Int) (c : Nat) (hc : c < 256) (w : World) (hT : PagAt w) :
    Calls Tryd.prog 5 #[.int .i64 p, .int .u8 (c : Int)] w fun e w' => e = .returned (.bool true) ∧ Below w.heap.size w w' := by
  have hOf : ∀ w, PagAt w → Calls Tryd.prog 22 #[.int .i64 p, .int .u8 (c : Int)] w fun e w' => e = .returned (.agg (entA (ofN p c))) ∧ Below w.heap.size w w' := fun w hT => by
    by_cases hp : 1 ≤ p ∧ p ≤ 3
    · obtain ⟨q, rfl⟩ := Int.eq_ofNat_of_zero_le (show 0 ≤ p by omega)
      have := pageOf_in q c (by omega) (by omega) hc w hT
      rw [ofE_eq q c (by omega) (by omega) hc] at this
      unfold ofN
      rw [if_pos hp, Int.toNat_natCast]
      exact this
    · have := pageOf_out p c (by omega) w
      unfold ofN
      rw [if_neg hp]
      exact this
  have hRef := fun w => refOf14 p c c hc rfl w
  have hPos : ofN p c ≠ 0 → eOp (ofN p c) ≠ 0 ∧ findT (eOp (ofN p c)) (eMode (ofN p c)) (eReg (ofN p c)) = 256 * (p.toNat - 1) + c ∧ 1 ≤ p ∧ p ≤ 3 := fun hne => by
    unfold ofN at hne ⊢
    by_cases hp : 1 ≤ p ∧ p ≤ 3
    · rw [if_pos hp] at hne ⊢
      have hj : 256 * (p.toNat - 1) + c < 768 := by omega
      have := allB 768 _ eOp_pos _ hj
      simp only [Bool.or_eq_true, Nat.beq_eq, Nat.blt_eq] at this
      exact ⟨by omega, findT_self _ hj hne, hp⟩
    · rw [if_neg hp] at hne; exact absurd rfl hne
  by_cases h0 : ofN p c = 0
  · rw [h0] at hOf hRef
    exact codes_core p c 0 0 0 0 0 false (by omega) (by omega) hOf hRef (fun w _ => pageFind_zero w) (.inl ⟨rfl, rfl, rfl, rfl⟩) w hT
  · obtain ⟨h1, h2, h3⟩ := hPos h0
    have hlt : 256 * (p.toNat - 1) + c < 768 := by omega
    have hF := fun w hT => pageFind_some (eOp (ofN p c)) (eMode (ofN p c)) (eReg (ofN p c)) (fun h => h1 (by omega)) w hT
    rw [h2] at hF
    refine codes_core p c _ _ _ _ _ _ (by omega) (by omega) hOf hRef hF (.inr ⟨by omega, ?_, ?_, ?_⟩) w hT
    · unfold fPage; rw [if_pos hlt]; omega
    · unfold fCode; rw [if_pos hlt]; omega
    · simpa using hlt
end Go.Proofs.YtfkcogccbeolfaaDoor
