/- The contracts of package page's Of and Prefix. -/
import Derived.Test.YtopkjniegncokaaDoorPagQ
namespace Go.Proofs.YtopkjniegncokaaDoor
open Go.ChangeShapes Go.WideShapes Go.ChangeAt Go.RowKit
set_option linter.unusedVariables false

abbrev zeroE : Array Value := #[.int .i64 0, .int .i64 0, .int .i64 0]
theorem ent0 : eOp 0 = 0 ∧ eMode 0 = 0 ∧ eReg 0 = 0 := ⟨rfl, rfl, rfl⟩
set_option maxRecDepth 100000 in
set_option maxHeartbeats 4000000 in
theorem pageOf_out (p : Int) (c : Int) (h : p < 1 ∨ 3 < p) (w : World) :
    Calls Tryd.prog 67 #[.int .i64 p, .int .u8 c] w fun e w' => e = .returned (.agg zeroE) ∧ Below w.heap.size w w' := by
  rcases h with h | h
  · go_enter Tryd.func67, Tryd.ntmps67
    go_wp2
    refine bodyPost_ret (v := .agg zeroE) ?_ rfl ⟨rfl, by repeat (first | exact Below.refl _ _ | apply Below.alloc0)⟩
    simp [results, Tryd.results67, go_sem]
  · have h' : ¬ p < 1 := by omega
    go_enter Tryd.func67, Tryd.ntmps67
    go_wp2
    refine bodyPost_ret (v := .agg zeroE) ?_ rfl ⟨rfl, by repeat (first | exact Below.refl _ _ | apply Below.alloc0)⟩
    simp [results, Tryd.results67, go_sem]
set_option maxRecDepth 100000 in
set_option maxHeartbeats 4000000 in
theorem pageOf_in (p c : Nat) (h1 : 1 ≤ p) (h3 : p ≤ 3) (hc : c < 256) (w : World) (hT : PagAt w) :
    Calls Tryd.prog 67 #[.int .i64 (p : Int), .int .u8 (c : Int)] w fun e w' => e = .returned (.agg (entA (ofE p c))) ∧ Below w.heap.size w w' := by
  have HT := Lib.hid (hT.below (Below.alloc0 (Below.refl _ w) (Obj.cells zeroE 25)))
  have q1 : ¬ (p : Int) < 1 := by omega
  have q3 : ¬ 3 < (p : Int) := by omega
  have d0 : decide ((p : Int) < 1) = false := decide_eq_false q1
  by_cases h128 : 128 ≤ c
  · have cm := fun w hT => mem_any p c h1 (by omega) hc w hT
    have ho : ofE p c = memE p c := by unfold ofE; rw [if_pos h128]
    rw [ho]
    unfold entA at cm ⊢
    generalize (eOp (memE p c) : Int) = x0 at cm ⊢
    generalize (eMode (memE p c) : Int) = x1 at cm ⊢
    generalize (eReg (memE p c) : Int) = x2 at cm ⊢
    have CM := Lib.hid cm
    clear cm ho hT
    go_enter Tryd.func67, Tryd.ntmps67
    go_wp2_with fail
    refine (CM.out _ HT.out).mono ?_
    rintro e w1 ⟨rfl, hb1⟩
    have HB := Lib.hid (Below.trans0 (Below.alloc0 (Below.refl _ w) (Obj.cells zeroE 25)) hb1)
    have HZ := Lib.hid (Blk.below (Blk.new w 25 zeroE (0, 0)) hb1 (by simp))
    obtain ⟨z0, z1, z2⟩ := HZ.out.s3
    obtain ⟨y0, y1, y2⟩ := HZ.out.f3
    clear hb1
    go_wp2
    refine bodyPost_ret (v := .agg #[.int .i64 x0, .int .i64 x1, .int .i64 x2]) ?_ rfl ⟨rfl, ?_⟩
    · simp [results, Tryd.results67, go_sem, z0, z1, z2]
    · exact (((HB.out).setCell (by simp) _).setCell (by simp) _).setCell (by simp) _
  · by_cases h63 : c = 63
    · subst h63
      obtain ⟨x, y, z⟩ := ent_mk 51 0 p (by omega) (by omega)
      have ho : ofE p 63 = 51 * 256 + 0 * 16 + p := by unfold ofE; simp
      rw [ho]
      unfold entA
      rw [x, y, z]
      clear ho x y z hT
      go_enter Tryd.func67, Tryd.ntmps67
      go_wp2
      refine bodyPost_ret (v := _) ?_ rfl ⟨rfl, by repeat (first | exact Below.refl _ _ | apply Below.alloc0)⟩
      simp [results, Tryd.results67, go_sem]
    · have d63 : ((c : Int) == 63) = false := by simp; omega
      by_cases hp1 : p = 1
      · subst hp1
        have cl := fun w hT => pageLow_any c (by omega) w hT
        have ho : ofE 1 c = lowE c := by unfold ofE; rw [if_neg h128, if_neg h63, if_pos rfl]
        rw [ho]
        unfold entA at cl ⊢
        generalize (eOp (lowE c) : Int) = x0 at cl ⊢
        generalize (eMode (lowE c) : Int) = x1 at cl ⊢
        generalize (eReg (lowE c) : Int) = x2 at cl ⊢
        have CL := Lib.hid cl
        clear cl ho hT
        go_enter Tryd.func67, Tryd.ntmps67
        go_wp2_with fail
        refine (CL.out _ HT.out).mono ?_
        rintro e w1 ⟨rfl, hb1⟩
        have HB := Lib.hid (Below.trans0 (Below.alloc0 (Below.refl _ w) (Obj.cells zeroE 25)) hb1)
        have HZ := Lib.hid (Blk.below (Blk.new w 25 zeroE (0, 0)) hb1 (by simp))
        obtain ⟨z0, z1, z2⟩ := HZ.out.s3
        obtain ⟨y0, y1, y2⟩ := HZ.out.f3
        clear hb1
        go_wp2
        refine bodyPost_ret (v := .agg #[.int .i64 x0, .int .i64 x1, .int .i64 x2]) ?_ rfl ⟨rfl, ?_⟩
        · simp [results, Tryd.results67, go_sem, z0, z1, z2]
        · exact (((HB.out).setCell (by simp) _).setCell (by simp) _).setCell (by simp) _
      · have dp1 : ((p : Int) == 1) = false := by simp; omega
        have e2 := and15_fin8 ⟨c, hc⟩
        simp only at e2
        by_cases hb : p = 2 ∧ 32 < c ∧ c ≤ 47
        · obtain ⟨rfl, hb1, hb2⟩ := hb
          obtain ⟨x, y, z⟩ := ent_mk 35 7 (c % 16) (by omega) (by omega)
          have ho : ofE 2 c = 35 * 256 + 7 * 16 + c % 16 := by unfold ofE; rw [if_neg h128, if_neg h63, if_neg hp1, if_pos ⟨rfl, hb1, hb2⟩]
          rw [ho]
          unfold entA
          rw [x, y, z]
          clear ho x y z hT
          go_enter Tryd.func67, Tryd.ntmps67
          go_wp2
          refine bodyPost_ret (v := _) ?_ rfl ⟨rfl, by repeat (first | exact Below.refl _ _ | apply Below.alloc0)⟩
          simp [results, Tryd.results67, go_sem]
        · have ho : ofE p c = 0 := by unfold ofE; rw [if_neg h128, if_neg h63, if_neg hp1, if_neg hb]
          rw [ho]
          have hb' : p = 3 ∨ (p = 2 ∧ c ≤ 32) ∨ (p = 2 ∧ 32 < c ∧ 47 < c) := by omega
          clear ho hb hT
          rcases hb' with rfl | ⟨rfl, hb⟩ | ⟨rfl, hb, hb2⟩
          all_goals
            try have f1 : decide ((c : Int) ≤ 47) = false := decide_eq_false (by omega)
            try have f2 : decide (32 < (c : Int)) = false := decide_eq_false (by omega)
            go_enter Tryd.func67, Tryd.ntmps67
            go_wp2
            refine bodyPost_ret (v := .agg (entA 0)) ?_ rfl ⟨rfl, by repeat (first | exact Below.refl _ _ | apply Below.alloc0)⟩
            simp [results, Tryd.results67, go_sem, eOp, eMode, eReg]
def prefN (c : Int) : Int := if c = 16 then 2 else if c = 17 then 3 else 0
theorem prefix_any (c : Int) (h0 : 0 ≤ c) (h1 : c < 256) (w : World) :
    Calls Tryd.prog 66 #[.int .u8 c] w fun e w' => e = .returned (.int .i64 (prefN c)) ∧ w = w' := by
  by_cases a : c = 16
  · subst a
    go_enter Tryd.func66, Tryd.ntmps66
    go_wp2
    go_ret
    exact ⟨rfl, rfl⟩
  · by_cases b : c = 17
    · subst b
      go_enter Tryd.func66, Tryd.ntmps66
      go_wp2
      go_ret
      exact ⟨rfl, rfl⟩
    · have e1 : (c == 16) = false := by simpa using a
      have e2 : (c == 17) = false := by simpa using b
      have hp : Hid (prefN c = 0) := Lib.hid (by unfold prefN; rw [if_neg a, if_neg b])
      go_enter Tryd.func66, Tryd.ntmps66
      go_wp2
      go_ret
      exact ⟨ret_int hp.out.symm, rfl⟩
end Go.Proofs.YtopkjniegncokaaDoor
