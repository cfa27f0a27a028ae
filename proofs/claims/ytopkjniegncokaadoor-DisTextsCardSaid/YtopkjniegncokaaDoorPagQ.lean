/- Contracts of package page: memory, Of. -/
import Derived.Test.YtopkjniegncokaaDoorPagP
namespace Go.Proofs.YtopkjniegncokaaDoor
open Go.ChangeShapes Go.WideShapes Go.ChangeAt Go.RowKit
set_option linter.unusedVariables false

theorem andNot48_fin : ∀ c : Fin 256, bits .andNot .u8 (c.val : Int) 48 = ((c.val / 64 * 64 + c.val % 16 : Nat) : Int) := by decide +kernel
theorem shr4and3_fin : ∀ c : Fin 256, bits .and .u8 ((c.val : Int) / 16) 3 = ((c.val / 16 % 4 : Nat) : Int) := by decide +kernel
set_option maxRecDepth 100000 in
set_option maxHeartbeats 4000000 in
theorem mem_any (p c : Nat) (h1 : 1 ≤ p) (hp : p < 4) (hc : c < 256) (w : World) (hT : PagAt w) :
    Calls Tryd.prog 75 #[.int .i64 (p : Int), .int .u8 (c : Int)] w fun e w' => e = .returned (.agg (entA (memE p c))) ∧ Below w.heap.size w w' := by
  have a1 := andNot48_fin ⟨c, hc⟩
  have a2 := shr4and3_fin ⟨c, hc⟩
  simp only at a1 a2
  have hc' : c / 64 * 64 + c % 16 < 256 := by omega
  have ci := fun w hT => imm_any p (c / 64 * 64 + c % 16) h1 hp hc' w hT
  have HT := Lib.hid (hT.below (Below.alloc0 (Below.refl _ w) (Obj.cells #[.int .i64 0, .int .i64 0, .int .i64 0] 25)))
  obtain ⟨m, hm⟩ : ∃ m, c / 16 % 4 = m := ⟨_, rfl⟩
  have hm4 : m < 4 := by omega
  have hme : memE p c = if eOp (immE p (c / 64 * 64 + c % 16)) = 0 then immE p (c / 64 * 64 + c % 16)
      else if m = 0 then (if eOp (immE p (c / 64 * 64 + c % 16)) = 12 ∨ eOp (immE p (c / 64 * 64 + c % 16)) = 25 then 0 else if eOp (immE p (c / 64 * 64 + c % 16)) = 33 then 9568 else immE p (c / 64 * 64 + c % 16))
      else eOp (immE p (c / 64 * 64 + c % 16)) * 256 + (m + 2) * 16 + eReg (immE p (c / 64 * 64 + c % 16)) := by unfold memE; rw [hm]
  rw [hm] at a2
  rw [hme]
  generalize immE p (c / 64 * 64 + c % 16) = N at ci ⊢
  have hr : eReg N < 16 := by unfold eReg; omega
  have hN : eOp N * 256 + eMode N * 16 + eReg N = N := by unfold eOp eMode eReg; omega
  obtain ⟨o, ho⟩ : ∃ o, eOp N = o := ⟨_, rfl⟩
  obtain ⟨q, hq⟩ : ∃ q, eMode N = q := ⟨_, rfl⟩
  obtain ⟨r, hr'⟩ : ∃ r, eReg N = r := ⟨_, rfl⟩
  unfold entA at ci
  rw [ho, hq, hr'] at ci
  obtain ⟨R, hR⟩ : ∃ R, R = (if eOp N = 0 then N else if m = 0 then (if eOp N = 12 ∨ eOp N = 25 then 0 else if eOp N = 33 then 9568 else N) else eOp N * 256 + (m + 2) * 16 + eReg N) := ⟨_, rfl⟩
  rw [← hR]
  have hfin : (o = 0 ∧ eOp R = o ∧ eMode R = q ∧ eReg R = r) ∨
      (o ≠ 0 ∧ m = 0 ∧ (o = 12 ∨ o = 25) ∧ eOp R = 0 ∧ eMode R = 0 ∧ eReg R = 0) ∨ (m = 0 ∧ o = 33 ∧ eOp R = 37 ∧ eMode R = 6 ∧ eReg R = 0) ∨
      (o ≠ 0 ∧ m = 0 ∧ o ≠ 12 ∧ o ≠ 25 ∧ o ≠ 33 ∧ eOp R = o ∧ eMode R = q ∧ eReg R = r) ∨
      (o ≠ 0 ∧ m ≠ 0 ∧ eOp R = o ∧ eMode R = m + 2 ∧ eReg R = r) := by
    rw [ho, hr'] at hR
    by_cases b0 : o = 0
    · rw [if_pos b0] at hR
      exact .inl ⟨b0, by rw [hR, ho], by rw [hR, hq], by rw [hR, hr']⟩
    · rw [if_neg b0] at hR
      by_cases b1 : m = 0
      · rw [if_pos b1] at hR
        by_cases b2 : o = 12 ∨ o = 25
        · rw [if_pos b2] at hR
          exact .inr (.inl ⟨b0, b1, b2, by rw [hR]; rfl, by rw [hR]; rfl, by rw [hR]; rfl⟩)
        · rw [if_neg b2] at hR
          by_cases b3 : o = 33
          · rw [if_pos b3] at hR
            exact .inr (.inr (.inl ⟨b1, b3, by rw [hR]; rfl, by rw [hR]; rfl, by rw [hR]; rfl⟩))
          · rw [if_neg b3] at hR
            exact .inr (.inr (.inr (.inl ⟨b0, b1, fun h => b2 (.inl h), fun h => b2 (.inr h), b3, by rw [hR, ho], by rw [hR, hq], by rw [hR, hr']⟩)))
      · rw [if_neg b1] at hR
        obtain ⟨x, y, z⟩ := ent_mk o (m + 2) r (by omega) (by rw [← hr']; exact hr)
        exact .inr (.inr (.inr (.inr ⟨b0, b1, by rw [hR]; exact x, by rw [hR]; exact y, by rw [hR]; exact z⟩)))
  unfold entA
  have CI := Lib.hid ci
  have HA1 := Lib.hid a1
  clear ci hme hR hN ho hq hr' hr hT hm
  rcases hfin with ⟨rfl, x1, x2, x3⟩ | ⟨b0, rfl, b2, x1, x2, x3⟩ | ⟨rfl, rfl, x1, x2, x3⟩ | ⟨b0, rfl, b2, b3, b4, x1, x2, x3⟩ | ⟨b0, b1, x1, x2, x3⟩
  all_goals
    rw [x1, x2, x3]
    clear x1 x2 x3
  · -- nothing there
    have a1 := HA1.out
    go_enter Tryd.func75, Tryd.ntmps75
    go_wp2_with fail
    refine (CI.out _ HT.out).mono ?_
    rintro e w1 ⟨rfl, hb1⟩
    have HB := Lib.hid (Below.trans0 (Below.alloc0 (Below.refl _ w) (Obj.cells #[.int .i64 0, .int .i64 0, .int .i64 0] 25)) hb1)
    have HZ := Lib.hid (Blk.below (Blk.new w 25 #[.int .i64 0, .int .i64 0, .int .i64 0] (0, 0)) hb1 (by simp))
    have hlt := HZ.out.lt
    obtain ⟨z0, z1, z2⟩ := HZ.out.s3
    obtain ⟨y0, y1, y2⟩ := HZ.out.f3
    clear hb1
    go_wp2
    refine bodyPost_ret (v := _) ?_ rfl ⟨rfl, ?_⟩
    · simp [results, Tryd.results75, go_sem, z0, z1, z2, World.cell?_alloc_lt, hlt]
    · repeat (first | exact HB.out | apply Below.alloc0 | refine Below.setCell ?_ (by simp) _)
  · have d0 : ((o : Int) == 0) = false := by simp; omega
    rcases b2 with rfl | rfl
    all_goals
      have a1 := HA1.out
      go_enter Tryd.func75, Tryd.ntmps75
      go_wp2_with fail
      refine (CI.out _ HT.out).mono ?_
      rintro e w1 ⟨rfl, hb1⟩
      have HB := Lib.hid (Below.trans0 (Below.alloc0 (Below.refl _ w) (Obj.cells #[.int .i64 0, .int .i64 0, .int .i64 0] 25)) hb1)
      have HZ := Lib.hid (Blk.below (Blk.new w 25 #[.int .i64 0, .int .i64 0, .int .i64 0] (0, 0)) hb1 (by simp))
      have hlt := HZ.out.lt
      obtain ⟨z0, z1, z2⟩ := HZ.out.s3
      obtain ⟨y0, y1, y2⟩ := HZ.out.f3
      clear hb1
      go_wp2
      refine bodyPost_ret (v := _) ?_ rfl ⟨rfl, ?_⟩
      · simp [results, Tryd.results75, go_sem, z0, z1, z2, World.cell?_alloc_lt, hlt]
      · repeat (first | exact HB.out | apply Below.alloc0 | refine Below.setCell ?_ (by simp) _)
  ·
    have a1 := HA1.out
    go_enter Tryd.func75, Tryd.ntmps75
    go_wp2_with fail
    refine (CI.out _ HT.out).mono ?_
    rintro e w1 ⟨rfl, hb1⟩
    have HB := Lib.hid (Below.trans0 (Below.alloc0 (Below.refl _ w) (Obj.cells #[.int .i64 0, .int .i64 0, .int .i64 0] 25)) hb1)
    have HZ := Lib.hid (Blk.below (Blk.new w 25 #[.int .i64 0, .int .i64 0, .int .i64 0] (0, 0)) hb1 (by simp))
    have hlt := HZ.out.lt
    obtain ⟨z0, z1, z2⟩ := HZ.out.s3
    obtain ⟨y0, y1, y2⟩ := HZ.out.f3
    clear hb1
    go_wp2
    refine bodyPost_ret (v := _) ?_ rfl ⟨rfl, ?_⟩
    · simp [results, Tryd.results75, go_sem, z0, z1, z2, World.cell?_alloc_lt, hlt]
    · repeat (first | exact HB.out | apply Below.alloc0 | refine Below.setCell ?_ (by simp) _)
  · have d0 : ((o : Int) == 0) = false := by simp; omega
    have d1 : ((o : Int) == 12) = false := by simp; omega
    have d2 : ((o : Int) == 25) = false := by simp; omega
    have d3 : ((o : Int) == 33) = false := by simp; omega
    have a1 := HA1.out
    go_enter Tryd.func75, Tryd.ntmps75
    go_wp2_with fail
    refine (CI.out _ HT.out).mono ?_
    rintro e w1 ⟨rfl, hb1⟩
    have HB := Lib.hid (Below.trans0 (Below.alloc0 (Below.refl _ w) (Obj.cells #[.int .i64 0, .int .i64 0, .int .i64 0] 25)) hb1)
    have HZ := Lib.hid (Blk.below (Blk.new w 25 #[.int .i64 0, .int .i64 0, .int .i64 0] (0, 0)) hb1 (by simp))
    have hlt := HZ.out.lt
    obtain ⟨z0, z1, z2⟩ := HZ.out.s3
    obtain ⟨y0, y1, y2⟩ := HZ.out.f3
    clear hb1
    go_wp2
    refine bodyPost_ret (v := _) ?_ rfl ⟨rfl, ?_⟩
    · simp [results, Tryd.results75, go_sem, z0, z1, z2, World.cell?_alloc_lt, hlt]
    · repeat (first | exact HB.out | apply Below.alloc0 | refine Below.setCell ?_ (by simp) _)
  · have d0 : ((o : Int) == 0) = false := by simp; omega
    rcases (show m = 1 ∨ m = 2 ∨ m = 3 by omega) with rfl | rfl | rfl
    all_goals
      have a1 := HA1.out
      go_enter Tryd.func75, Tryd.ntmps75
      go_wp2_with fail
      refine (CI.out _ HT.out).mono ?_
      rintro e w1 ⟨rfl, hb1⟩
      have HB := Lib.hid (Below.trans0 (Below.alloc0 (Below.refl _ w) (Obj.cells #[.int .i64 0, .int .i64 0, .int .i64 0] 25)) hb1)
      have HZ := Lib.hid (Blk.below (Blk.new w 25 #[.int .i64 0, .int .i64 0, .int .i64 0] (0, 0)) hb1 (by simp))
      have hlt := HZ.out.lt
      obtain ⟨z0, z1, z2⟩ := HZ.out.s3
      obtain ⟨y0, y1, y2⟩ := HZ.out.f3
      clear hb1
      go_wp2
      refine bodyPost_ret (v := _) ?_ rfl ⟨rfl, ?_⟩
      · simp [results, Tryd.results75, go_sem, z0, z1, z2, World.cell?_alloc_lt, hlt]
      · repeat (first | exact HB.out | apply Below.alloc0 | refine Below.setCell ?_ (by simp) _)
end Go.Proofs.YtopkjniegncokaaDoor
