/- Contracts of package page: low. -/
import Derived.Test.YtopkjniegncokaaDoorPagO
namespace Go.Proofs.YtopkjniegncokaaDoor
open Go.ChangeShapes Go.WideShapes Go.ChangeAt Go.RowKit
set_option linter.unusedVariables false

theorem Blk.s3 {w : World} {g : Nat} {t : TypeId} {a b c : Int} (h : Blk w g t #[.int .i64 a, .int .i64 b, .int .i64 c]) :
    w.cell? ⟨g, 0, none⟩ = some (.int .i64 a) ∧ w.cell? ⟨g, 1, none⟩ = some (.int .i64 b) ∧ w.cell? ⟨g, 2, none⟩ = some (.int .i64 c) := by
  refine ⟨?_, ?_, ?_⟩ <;> (rw [h.cell]; rfl)
theorem Blk.f3 {w : World} {g : Nat} {t : TypeId} {cs : Array Value} (h : Blk w g t cs) : w.frozen? ⟨g, 0, none⟩ = false ∧ w.frozen? ⟨g, 1, none⟩ = false ∧ w.frozen? ⟨g, 2, none⟩ = false := ⟨h.frozen _, h.frozen _, h.frozen _⟩
set_option maxRecDepth 100000 in
set_option maxHeartbeats 1000000 in
theorem low_0 (c : Nat) (hc : c < 128) (h : c / 16 = 0) (w : World) (hT : PagAt w) :
    Calls Tryd.prog 76 #[.int .u8 (c : Int)] w fun e w' => e = .returned (.agg (entA (lowE c))) ∧ Below w.heap.size w w' := by
  have d : (c : Int) / 16 = 0 := by omega
  have c1 : ∀ w, PagAt w → Calls Tryd.prog 83 #[.int .u8 (c : Int), .int .i64 3, .int .i64 0] w fun e w' => e = .returned (.agg (entA (chE (c % 16) 3 0))) ∧ Below w.heap.size w w' := fun w hT => change_any c 3 0 (by omega) (by omega) (by omega) w hT
  obtain ⟨N, hN⟩ : ∃ N, chE (c % 16) 3 0 = N := ⟨_, rfl⟩
  have hl : lowE c = N := by unfold lowE; rw [h]; exact hN
  rw [hN] at c1
  rw [hl]
  unfold entA at c1 ⊢
  generalize (eOp N : Int) = x0 at c1 ⊢
  generalize (eMode N : Int) = x1 at c1 ⊢
  generalize (eReg N : Int) = x2 at c1 ⊢
  have C := Lib.hid c1
  have HT := Lib.hid (hT.below (Below.alloc0 (Below.refl _ w) (Obj.cells #[.int .i64 0, .int .i64 0, .int .i64 0] 25)))
  clear hT hl hN c1
  go_enter Tryd.func76, Tryd.ntmps76
  go_wp2_with fail
  refine (C.out _ HT.out).mono ?_
  rintro e w1 ⟨rfl, hb1⟩
  have HB := Lib.hid (Below.trans0 (Below.alloc0 (Below.refl _ w) (Obj.cells #[.int .i64 0, .int .i64 0, .int .i64 0] 25)) hb1)
  have HZ := Lib.hid (Blk.below (Blk.new w 25 #[.int .i64 0, .int .i64 0, .int .i64 0] (0, 0)) hb1 (by simp))
  obtain ⟨z0, z1, z2⟩ := HZ.out.s3
  obtain ⟨y0, y1, y2⟩ := HZ.out.f3
  clear hb1
  go_wp2
  refine bodyPost_ret (v := .agg #[.int .i64 x0, .int .i64 x1, .int .i64 x2]) ?_ rfl ⟨rfl, ?_⟩
  · simp [results, Tryd.results76, go_sem, z0, z1, z2]
  · exact (((HB.out).setCell (by simp) _).setCell (by simp) _).setCell (by simp) _
set_option maxRecDepth 100000 in
set_option maxHeartbeats 1000000 in
theorem low_4 (c : Nat) (hc : c < 128) (h : c / 16 = 4) (w : World) (hT : PagAt w) :
    Calls Tryd.prog 76 #[.int .u8 (c : Int)] w fun e w' => e = .returned (.agg (entA (lowE c))) ∧ Below w.heap.size w w' := by
  have d : (c : Int) / 16 = 4 := by omega
  have c1 : ∀ w, PagAt w → Calls Tryd.prog 83 #[.int .u8 (c : Int), .int .i64 0, .int .i64 8] w fun e w' => e = .returned (.agg (entA (chE (c % 16) 0 8))) ∧ Below w.heap.size w w' := fun w hT => change_any c 0 8 (by omega) (by omega) (by omega) w hT
  obtain ⟨N, hN⟩ : ∃ N, chE (c % 16) 0 8 = N := ⟨_, rfl⟩
  have hl : lowE c = N := by unfold lowE; rw [h]; exact hN
  rw [hN] at c1
  rw [hl]
  unfold entA at c1 ⊢
  generalize (eOp N : Int) = x0 at c1 ⊢
  generalize (eMode N : Int) = x1 at c1 ⊢
  generalize (eReg N : Int) = x2 at c1 ⊢
  have C := Lib.hid c1
  have HT := Lib.hid (hT.below (Below.alloc0 (Below.refl _ w) (Obj.cells #[.int .i64 0, .int .i64 0, .int .i64 0] 25)))
  clear hT hl hN c1
  go_enter Tryd.func76, Tryd.ntmps76
  go_wp2_with fail
  refine (C.out _ HT.out).mono ?_
  rintro e w1 ⟨rfl, hb1⟩
  have HB := Lib.hid (Below.trans0 (Below.alloc0 (Below.refl _ w) (Obj.cells #[.int .i64 0, .int .i64 0, .int .i64 0] 25)) hb1)
  have HZ := Lib.hid (Blk.below (Blk.new w 25 #[.int .i64 0, .int .i64 0, .int .i64 0] (0, 0)) hb1 (by simp))
  obtain ⟨z0, z1, z2⟩ := HZ.out.s3
  obtain ⟨y0, y1, y2⟩ := HZ.out.f3
  clear hb1
  go_wp2
  refine bodyPost_ret (v := .agg #[.int .i64 x0, .int .i64 x1, .int .i64 x2]) ?_ rfl ⟨rfl, ?_⟩
  · simp [results, Tryd.results76, go_sem, z0, z1, z2]
  · exact (((HB.out).setCell (by simp) _).setCell (by simp) _).setCell (by simp) _
set_option maxRecDepth 100000 in
set_option maxHeartbeats 1000000 in
theorem low_5 (c : Nat) (hc : c < 128) (h : c / 16 = 5) (w : World) (hT : PagAt w) :
    Calls Tryd.prog 76 #[.int .u8 (c : Int)] w fun e w' => e = .returned (.agg (entA (lowE c))) ∧ Below w.heap.size w w' := by
  have d : (c : Int) / 16 = 5 := by omega
  have c1 : ∀ w, PagAt w → Calls Tryd.prog 83 #[.int .u8 (c : Int), .int .i64 0, .int .i64 9] w fun e w' => e = .returned (.agg (entA (chE (c % 16) 0 9))) ∧ Below w.heap.size w w' := fun w hT => change_any c 0 9 (by omega) (by omega) (by omega) w hT
  obtain ⟨N, hN⟩ : ∃ N, chE (c % 16) 0 9 = N := ⟨_, rfl⟩
  have hl : lowE c = N := by unfold lowE; rw [h]; exact hN
  rw [hN] at c1
  rw [hl]
  unfold entA at c1 ⊢
  generalize (eOp N : Int) = x0 at c1 ⊢
  generalize (eMode N : Int) = x1 at c1 ⊢
  generalize (eReg N : Int) = x2 at c1 ⊢
  have C := Lib.hid c1
  have HT := Lib.hid (hT.below (Below.alloc0 (Below.refl _ w) (Obj.cells #[.int .i64 0, .int .i64 0, .int .i64 0] 25)))
  clear hT hl hN c1
  go_enter Tryd.func76, Tryd.ntmps76
  go_wp2_with fail
  refine (C.out _ HT.out).mono ?_
  rintro e w1 ⟨rfl, hb1⟩
  have HB := Lib.hid (Below.trans0 (Below.alloc0 (Below.refl _ w) (Obj.cells #[.int .i64 0, .int .i64 0, .int .i64 0] 25)) hb1)
  have HZ := Lib.hid (Blk.below (Blk.new w 25 #[.int .i64 0, .int .i64 0, .int .i64 0] (0, 0)) hb1 (by simp))
  obtain ⟨z0, z1, z2⟩ := HZ.out.s3
  obtain ⟨y0, y1, y2⟩ := HZ.out.f3
  clear hb1
  go_wp2
  refine bodyPost_ret (v := .agg #[.int .i64 x0, .int .i64 x1, .int .i64 x2]) ?_ rfl ⟨rfl, ?_⟩
  · simp [results, Tryd.results76, go_sem, z0, z1, z2]
  · exact (((HB.out).setCell (by simp) _).setCell (by simp) _).setCell (by simp) _
set_option maxRecDepth 100000 in
set_option maxHeartbeats 1000000 in
theorem low_6 (c : Nat) (hc : c < 128) (h : c / 16 = 6) (w : World) (hT : PagAt w) :
    Calls Tryd.prog 76 #[.int .u8 (c : Int)] w fun e w' => e = .returned (.agg (entA (lowE c))) ∧ Below w.heap.size w w' := by
  have d : (c : Int) / 16 = 6 := by omega
  have c1 : ∀ w, PagAt w → Calls Tryd.prog 83 #[.int .u8 (c : Int), .int .i64 4, .int .i64 0] w fun e w' => e = .returned (.agg (entA (chE (c % 16) 4 0))) ∧ Below w.heap.size w w' := fun w hT => change_any c 4 0 (by omega) (by omega) (by omega) w hT
  obtain ⟨N, hN⟩ : ∃ N, chE (c % 16) 4 0 = N := ⟨_, rfl⟩
  have hl : lowE c = N := by unfold lowE; rw [h]; exact hN
  rw [hN] at c1
  rw [hl]
  unfold entA at c1 ⊢
  generalize (eOp N : Int) = x0 at c1 ⊢
  generalize (eMode N : Int) = x1 at c1 ⊢
  generalize (eReg N : Int) = x2 at c1 ⊢
  have C := Lib.hid c1
  have HT := Lib.hid (hT.below (Below.alloc0 (Below.refl _ w) (Obj.cells #[.int .i64 0, .int .i64 0, .int .i64 0] 25)))
  clear hT hl hN c1
  go_enter Tryd.func76, Tryd.ntmps76
  go_wp2_with fail
  refine (C.out _ HT.out).mono ?_
  rintro e w1 ⟨rfl, hb1⟩
  have HB := Lib.hid (Below.trans0 (Below.alloc0 (Below.refl _ w) (Obj.cells #[.int .i64 0, .int .i64 0, .int .i64 0] 25)) hb1)
  have HZ := Lib.hid (Blk.below (Blk.new w 25 #[.int .i64 0, .int .i64 0, .int .i64 0] (0, 0)) hb1 (by simp))
  obtain ⟨z0, z1, z2⟩ := HZ.out.s3
  obtain ⟨y0, y1, y2⟩ := HZ.out.f3
  clear hb1
  go_wp2
  refine bodyPost_ret (v := .agg #[.int .i64 x0, .int .i64 x1, .int .i64 x2]) ?_ rfl ⟨rfl, ?_⟩
  · simp [results, Tryd.results76, go_sem, z0, z1, z2]
  · exact (((HB.out).setCell (by simp) _).setCell (by simp) _).setCell (by simp) _
set_option maxRecDepth 100000 in
set_option maxHeartbeats 1000000 in
theorem low_7 (c : Nat) (hc : c < 128) (h : c / 16 = 7) (w : World) (hT : PagAt w) :
    Calls Tryd.prog 76 #[.int .u8 (c : Int)] w fun e w' => e = .returned (.agg (entA (lowE c))) ∧ Below w.heap.size w w' := by
  have d : (c : Int) / 16 = 7 := by omega
  have c1 : ∀ w, PagAt w → Calls Tryd.prog 83 #[.int .u8 (c : Int), .int .i64 5, .int .i64 0] w fun e w' => e = .returned (.agg (entA (chE (c % 16) 5 0))) ∧ Below w.heap.size w w' := fun w hT => change_any c 5 0 (by omega) (by omega) (by omega) w hT
  obtain ⟨N, hN⟩ : ∃ N, chE (c % 16) 5 0 = N := ⟨_, rfl⟩
  have hl : lowE c = N := by unfold lowE; rw [h]; exact hN
  rw [hN] at c1
  rw [hl]
  unfold entA at c1 ⊢
  generalize (eOp N : Int) = x0 at c1 ⊢
  generalize (eMode N : Int) = x1 at c1 ⊢
  generalize (eReg N : Int) = x2 at c1 ⊢
  have C := Lib.hid c1
  have HT := Lib.hid (hT.below (Below.alloc0 (Below.refl _ w) (Obj.cells #[.int .i64 0, .int .i64 0, .int .i64 0] 25)))
  clear hT hl hN c1
  go_enter Tryd.func76, Tryd.ntmps76
  go_wp2_with fail
  refine (C.out _ HT.out).mono ?_
  rintro e w1 ⟨rfl, hb1⟩
  have HB := Lib.hid (Below.trans0 (Below.alloc0 (Below.refl _ w) (Obj.cells #[.int .i64 0, .int .i64 0, .int .i64 0] 25)) hb1)
  have HZ := Lib.hid (Blk.below (Blk.new w 25 #[.int .i64 0, .int .i64 0, .int .i64 0] (0, 0)) hb1 (by simp))
  obtain ⟨z0, z1, z2⟩ := HZ.out.s3
  obtain ⟨y0, y1, y2⟩ := HZ.out.f3
  clear hb1
  go_wp2
  refine bodyPost_ret (v := .agg #[.int .i64 x0, .int .i64 x1, .int .i64 x2]) ?_ rfl ⟨rfl, ?_⟩
  · simp [results, Tryd.results76, go_sem, z0, z1, z2]
  · exact (((HB.out).setCell (by simp) _).setCell (by simp) _).setCell (by simp) _
set_option maxRecDepth 100000 in
set_option maxHeartbeats 1000000 in
theorem low_1 (c : Nat) (hc : c < 128) (h : c / 16 = 1) (w : World) (hT : PagAt w) :
    Calls Tryd.prog 76 #[.int .u8 (c : Int)] w fun e w' => e = .returned (.agg (entA (lowE c))) ∧ Below w.heap.size w w' := by
  have d : (c : Int) / 16 = 1 := by omega
  have e2 := and15_fin8 ⟨c, by omega⟩
  simp only at e2
  have hl : lowE c = tenN (c % 16) := by unfold lowE; rw [h]; rfl
  rw [hl]
  have hT2 := (hT.below (Below.alloc0 (Below.refl _ w) (Obj.cells #[.int .i64 0, .int .i64 0, .int .i64 0] 25)))
  obtain ⟨k0, k1, k2⟩ := hT2.2.2.1 (c % 16) (by omega)
  unfold entA
  generalize (eOp (tenN (c % 16)) : Int) = x0 at k0 ⊢
  generalize (eMode (tenN (c % 16)) : Int) = x1 at k1 ⊢
  generalize (eReg (tenN (c % 16)) : Int) = x2 at k2 ⊢
  clear hT hT2 hl
  go_enter Tryd.func76, Tryd.ntmps76
  go_wp2
  refine bodyPost_ret (v := .agg #[.int .i64 x0, .int .i64 x1, .int .i64 x2]) ?_ rfl ⟨rfl, by repeat (first | exact Below.refl _ _ | apply Below.alloc0)⟩
  simp [results, Tryd.results76, go_sem]
set_option maxRecDepth 100000 in
set_option maxHeartbeats 1000000 in
theorem low_3 (c : Nat) (hc : c < 128) (h : c / 16 = 3) (w : World) (hT : PagAt w) :
    Calls Tryd.prog 76 #[.int .u8 (c : Int)] w fun e w' => e = .returned (.agg (entA (lowE c))) ∧ Below w.heap.size w w' := by
  have d : (c : Int) / 16 = 3 := by omega
  have e2 := and15_fin8 ⟨c, by omega⟩
  simp only at e2
  have hl : lowE c = thiN (c % 16) := by unfold lowE; rw [h]; rfl
  rw [hl]
  have hT2 := (hT.below (Below.alloc0 (Below.refl _ w) (Obj.cells #[.int .i64 0, .int .i64 0, .int .i64 0] 25)))
  obtain ⟨k0, k1, k2⟩ := hT2.2.2.2 (c % 16) (by omega)
  unfold entA
  generalize (eOp (thiN (c % 16)) : Int) = x0 at k0 ⊢
  generalize (eMode (thiN (c % 16)) : Int) = x1 at k1 ⊢
  generalize (eReg (thiN (c % 16)) : Int) = x2 at k2 ⊢
  clear hT hT2 hl
  go_enter Tryd.func76, Tryd.ntmps76
  go_wp2
  refine bodyPost_ret (v := .agg #[.int .i64 x0, .int .i64 x1, .int .i64 x2]) ?_ rfl ⟨rfl, by repeat (first | exact Below.refl _ _ | apply Below.alloc0)⟩
  simp [results, Tryd.results76, go_sem]
set_option maxRecDepth 100000 in
set_option maxHeartbeats 1000000 in
theorem low_2 (c : Nat) (hc : c < 128) (h : c / 16 = 2) (w : World) (hT : PagAt w) :
    Calls Tryd.prog 76 #[.int .u8 (c : Int)] w fun e w' => e = .returned (.agg (entA (lowE c))) ∧ Below w.heap.size w w' := by
  have d : (c : Int) / 16 = 2 := by omega
  have e2 := and15_fin8 ⟨c, by omega⟩
  simp only at e2
  have hl : lowE c = 34 * 256 + 6 * 16 + c % 16 := by unfold lowE; rw [h]; rfl
  obtain ⟨q1, q2, q3⟩ := ent_mk 34 6 (c % 16) (by omega) (by omega)
  rw [hl]
  unfold entA
  rw [q1, q2, q3]
  clear hT hl q1 q2 q3
  go_enter Tryd.func76, Tryd.ntmps76
  go_wp2
  refine bodyPost_ret (v := .agg #[.int .i64 ((34 : Nat) : Int), .int .i64 ((6 : Nat) : Int), .int .i64 ((c % 16 : Nat) : Int)]) ?_ rfl ⟨rfl, by repeat (first | exact Below.refl _ _ | apply Below.alloc0)⟩
  simp [results, Tryd.results76, go_sem]
theorem pageLow_any (c : Nat) (hc : c < 128) (w : World) (hT : PagAt w) :
    Calls Tryd.prog 76 #[.int .u8 (c : Int)] w fun e w' => e = .returned (.agg (entA (lowE c))) ∧ Below w.heap.size w w' := by
  rcases (show c / 16 = 0 ∨ c / 16 = 1 ∨ c / 16 = 2 ∨ c / 16 = 3 ∨ c / 16 = 4 ∨ c / 16 = 5 ∨ c / 16 = 6 ∨ c / 16 = 7 by omega) with h | h | h | h | h | h | h | h
  · exact low_0 c hc h w hT
  · exact low_1 c hc h w hT
  · exact low_2 c hc h w hT
  · exact low_3 c hc h w hT
  · exact low_4 c hc h w hT
  · exact low_5 c hc h w hT
  · exact low_6 c hc h w hT
  · exact low_7 c hc h w hT
end Go.Proofs.YtopkjniegncokaaDoor
