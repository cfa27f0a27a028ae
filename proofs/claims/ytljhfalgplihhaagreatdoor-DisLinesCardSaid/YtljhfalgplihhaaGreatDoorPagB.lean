/- The document's columns (spinetref14): the literals. -/
import Derived.Test.YtljhfalgplihhaaGreatDoorGLai
import Derived.Deep.CutBlock
import Derived.Deep.WholeRow
import Derived.Laws.Tables
import Derived.Great.Walk
import Derived.Great.BuildSlice
import Derived.Deep.RegionHeld3
namespace Go.Proofs.YtljhfalgplihhaaGreatDoor
open Go.ChangeShapes Go.WideShapes Go.ChangeAt Go.RowKit
set_option linter.unusedVariables false

theorem blk_new2 (w : World) (o : Obj) (t : TypeId) (cs : Array Value) : Blk ((w.alloc o).alloc (.cells cs t)) (w.heap.size + 1) t cs := by
  have e : (w.alloc o).heap.size = w.heap.size + 1 := by simp
  have := Blk.new (w.alloc o) t cs (0, 0)
  rw [e] at this
  exact this
def cells90 : Array Value := #[.int .i64 27, .int .i64 0, .int .i64 1, .int .i64 131, .int .i64 2, .int .i64 28, .int .i64 1, .int .i64 1, .int .i64 140, .int .i64 2, .int .i64 24, .int .i64 1, .int .i64 1, .int .i64 142, .int .i64 2, .int .i64 25, .int .i64 1, .int .i64 1, .int .i64 143, .int .i64 0, .int .i64 26, .int .i64 0, .int .i64 1, .int .i64 195, .int .i64 2, .int .i64 24, .int .i64 0, .int .i64 1, .int .i64 204, .int .i64 2, .int .i64 25, .int .i64 0, .int .i64 1, .int .i64 205, .int .i64 0, .int .i64 24, .int .i64 3, .int .i64 1, .int .i64 206, .int .i64 2, .int .i64 25, .int .i64 3, .int .i64 1, .int .i64 207, .int .i64 0, .int .i64 33, .int .i64 0, .int .i64 1, .int .i64 141, .int .i64 0, .int .i64 28, .int .i64 0, .int .i64 2, .int .i64 131, .int .i64 2, .int .i64 28, .int .i64 2, .int .i64 2, .int .i64 140, .int .i64 2, .int .i64 24, .int .i64 2, .int .i64 2, .int .i64 142, .int .i64 2, .int .i64 25, .int .i64 2, .int .i64 2, .int .i64 143, .int .i64 0, .int .i64 24, .int .i64 4, .int .i64 2, .int .i64 206, .int .i64 2, .int .i64 25, .int .i64 4, .int .i64 2, .int .i64 207, .int .i64 0, .int .i64 28, .int .i64 3, .int .i64 3, .int .i64 131, .int .i64 2, .int .i64 28, .int .i64 4, .int .i64 3, .int .i64 140, .int .i64 2]
def cells22 : Array Value := #[.int .i64 10, .int .i64 128, .int .i64 6, .int .i64 129, .int .i64 9, .int .i64 130, .int .i64 4, .int .i64 132, .int .i64 5, .int .i64 133, .int .i64 11, .int .i64 134, .int .i64 12, .int .i64 135, .int .i64 7, .int .i64 136, .int .i64 2, .int .i64 137, .int .i64 8, .int .i64 138, .int .i64 3, .int .i64 139]
def zero22 : Array Value := #[.int .i64 0, .int .i64 0, .int .i64 0, .int .i64 0, .int .i64 0, .int .i64 0, .int .i64 0, .int .i64 0, .int .i64 0, .int .i64 0, .int .i64 0, .int .i64 0, .int .i64 0, .int .i64 0, .int .i64 0, .int .i64 0, .int .i64 0, .int .i64 0, .int .i64 0, .int .i64 0, .int .i64 0, .int .i64 0]
def colsTo (k : Nat) : List Value := (List.range (5 * (18 + 2 * k))).map fun j => .int .i64 (pgC j : Int)
theorem cols_start : cells90.toList = colsTo 0 := by rfl
def e0 (k : Nat) : Nat := pgC (5 * (18 + 2 * k))
def e1 (k : Nat) : Nat := pgC (5 * (18 + 2 * k) + 3)
theorem cells22_at (k : Nat) (hk : k < 11) : cells22[k * 2]? = some (.int .i64 (e0 k : Int)) ∧ cells22[k * 2 + 1]? = some (.int .i64 (e1 k : Int)) := by
  rcases (show k = 0 ∨ k = 1 ∨ k = 2 ∨ k = 3 ∨ k = 4 ∨ k = 5 ∨ k = 6 ∨ k = 7 ∨ k = 8 ∨ k = 9 ∨ k = 10 by omega) with rfl | rfl | rfl | rfl | rfl | rfl | rfl | rfl | rfl | rfl | rfl
  all_goals exact ⟨rfl, rfl⟩
def immK (k : Nat) : Int := if k = 6 then 0 else 1
theorem cols_next (k : Nat) (hk : k < 11) : colsTo (k + 1) = colsTo k ++ [.int .i64 (e0 k : Int), .int .i64 8, .int .i64 1, .int .i64 (e1 k : Int), .int .i64 (immK k), .int .i64 (e0 k : Int), .int .i64 9, .int .i64 1, .int .i64 ((e1 k : Int) + 64), .int .i64 (immK k)] := by
  rcases (show k = 0 ∨ k = 1 ∨ k = 2 ∨ k = 3 ∨ k = 4 ∨ k = 5 ∨ k = 6 ∨ k = 7 ∨ k = 8 ∨ k = 9 ∨ k = 10 by omega) with rfl | rfl | rfl | rfl | rfl | rfl | rfl | rfl | rfl | rfl | rfl
  all_goals rfl
theorem e_fin : ∀ k : Fin 11, (((e0 k.val : Int) == 12) = decide (k.val = 6)) ∧ e1 k.val < 256 := by decide +kernel
def ColsIs (w : World) (e : Ending) (w' : World) : Prop := ∃ v, e = .returned v ∧ w'.ownsRow w.heap.size 114 5 v 40 (colsTo 11) ∧ Below w.heap.size w w'
theorem info5 : (Tryz.prog.info? 114).map (fun i => (i.zero, i.size, i.bytes)) = some (some (.agg #[.int .i64 0, .int .i64 0, .int .i64 0, .int .i64 0, .int .i64 0]), 5, 40) := by kernel_rfl
set_option maxRecDepth 100000 in
set_option maxHeartbeats 2000000 in
theorem columns_any (w : World) : Calls Tryz.prog 53 #[] w (ColsIs w) := by
  go_enter Tryz.func53, Tryz.ntmps53
  go_upto_region 1 with (fail)
  refine wp_region_lit ?_
  refine Great.wpList_readTo rfl (some 5) rfl (.agg #[.int .i64 27, .int .i64 0, .int .i64 1, .int .i64 131, .int .i64 2]) (by kernel_rfl) ?_
  refine Great.wpList_readTo rfl (some 6) rfl (.agg #[.int .i64 28, .int .i64 1, .int .i64 1, .int .i64 140, .int .i64 2]) (by kernel_rfl) ?_
  refine Great.wpList_readTo rfl (some 7) rfl (.agg #[.int .i64 24, .int .i64 1, .int .i64 1, .int .i64 142, .int .i64 2]) (by kernel_rfl) ?_
  refine Great.wpList_readTo rfl (some 8) rfl (.agg #[.int .i64 25, .int .i64 1, .int .i64 1, .int .i64 143, .int .i64 0]) (by kernel_rfl) ?_
  refine Great.wpList_readTo rfl (some 9) rfl (.agg #[.int .i64 26, .int .i64 0, .int .i64 1, .int .i64 195, .int .i64 2]) (by kernel_rfl) ?_
  refine Great.wpList_readTo rfl (some 10) rfl (.agg #[.int .i64 24, .int .i64 0, .int .i64 1, .int .i64 204, .int .i64 2]) (by kernel_rfl) ?_
  refine Great.wpList_readTo rfl (some 11) rfl (.agg #[.int .i64 25, .int .i64 0, .int .i64 1, .int .i64 205, .int .i64 0]) (by kernel_rfl) ?_
  refine Great.wpList_readTo rfl (some 12) rfl (.agg #[.int .i64 24, .int .i64 3, .int .i64 1, .int .i64 206, .int .i64 2]) (by kernel_rfl) ?_
  refine Great.wpList_readTo rfl (some 13) rfl (.agg #[.int .i64 25, .int .i64 3, .int .i64 1, .int .i64 207, .int .i64 0]) (by kernel_rfl) ?_
  refine Great.wpList_readTo rfl (some 14) rfl (.agg #[.int .i64 33, .int .i64 0, .int .i64 1, .int .i64 141, .int .i64 0]) (by kernel_rfl) ?_
  refine Great.wpList_readTo rfl (some 15) rfl (.agg #[.int .i64 28, .int .i64 0, .int .i64 2, .int .i64 131, .int .i64 2]) (by kernel_rfl) ?_
  refine Great.wpList_readTo rfl (some 16) rfl (.agg #[.int .i64 28, .int .i64 2, .int .i64 2, .int .i64 140, .int .i64 2]) (by kernel_rfl) ?_
  refine Great.wpList_readTo rfl (some 17) rfl (.agg #[.int .i64 24, .int .i64 2, .int .i64 2, .int .i64 142, .int .i64 2]) (by kernel_rfl) ?_
  refine Great.wpList_readTo rfl (some 18) rfl (.agg #[.int .i64 25, .int .i64 2, .int .i64 2, .int .i64 143, .int .i64 0]) (by kernel_rfl) ?_
  refine Great.wpList_readTo rfl (some 19) rfl (.agg #[.int .i64 24, .int .i64 4, .int .i64 2, .int .i64 206, .int .i64 2]) (by kernel_rfl) ?_
  refine Great.wpList_readTo rfl (some 20) rfl (.agg #[.int .i64 25, .int .i64 4, .int .i64 2, .int .i64 207, .int .i64 0]) (by kernel_rfl) ?_
  refine Great.wpList_readTo rfl (some 21) rfl (.agg #[.int .i64 28, .int .i64 3, .int .i64 3, .int .i64 131, .int .i64 2]) (by kernel_rfl) ?_
  refine Great.wpList_readTo rfl (some 22) rfl (.agg #[.int .i64 28, .int .i64 4, .int .i64 3, .int .i64 140, .int .i64 2]) (by kernel_rfl) ?_
  refine Great.wpList_buildSliceTo rfl 112 114 18 _ rfl w.heap.size rfl (some 23) rfl Tryz.underlying112 cells90 (by kernel_rfl) ?_
  refine Great.wpList_readTo rfl (some 1) rfl (.slice (some ⟨w.heap.size, 0, none⟩) 18 18) (by kernel_rfl) ?_
  refine wpList_nil ?_
  simp only [Act.put, List.setIfInBounds_toArray, List.set_cons_zero, List.set_cons_succ]
  go_upto_region 2 with (fail)
  refine wp_region_lit ?_
  refine Great.wpList_readTo rfl (some 24) rfl (.agg #[.int .i64 10, .int .i64 128]) (by kernel_rfl) ?_
  refine Great.wpList_readTo rfl (some 25) rfl (.agg #[.int .i64 6, .int .i64 129]) (by kernel_rfl) ?_
  refine Great.wpList_readTo rfl (some 26) rfl (.agg #[.int .i64 9, .int .i64 130]) (by kernel_rfl) ?_
  refine Great.wpList_readTo rfl (some 27) rfl (.agg #[.int .i64 4, .int .i64 132]) (by kernel_rfl) ?_
  refine Great.wpList_readTo rfl (some 28) rfl (.agg #[.int .i64 5, .int .i64 133]) (by kernel_rfl) ?_
  refine Great.wpList_readTo rfl (some 29) rfl (.agg #[.int .i64 11, .int .i64 134]) (by kernel_rfl) ?_
  refine Great.wpList_readTo rfl (some 30) rfl (.agg #[.int .i64 12, .int .i64 135]) (by kernel_rfl) ?_
  refine Great.wpList_readTo rfl (some 31) rfl (.agg #[.int .i64 7, .int .i64 136]) (by kernel_rfl) ?_
  refine Great.wpList_readTo rfl (some 32) rfl (.agg #[.int .i64 2, .int .i64 137]) (by kernel_rfl) ?_
  refine Great.wpList_readTo rfl (some 33) rfl (.agg #[.int .i64 8, .int .i64 138]) (by kernel_rfl) ?_
  refine Great.wpList_readTo rfl (some 34) rfl (.agg #[.int .i64 3, .int .i64 139]) (by kernel_rfl) ?_
  refine Great.wpList_readTo rfl (some 35) rfl (.agg cells22) (by kernel_rfl) ?_
  refine Great.wpList_allocTo rfl (some 2) rfl (.pointer (some ⟨(w.alloc (.cells cells90 114)).heap.size, 0, none⟩)) (.cells zero22 151) (by kernel_rfl) ?_
  refine wpList_store_rowTo rfl 151 _ _ rfl rfl (w.alloc (.cells cells90 114)).heap.size cells22 (by kernel_rfl) (by kernel_rfl) 151 zero22 (heap_alloc_last (w.alloc (.cells cells90 114)) (.cells zero22 151)) (by kernel_rfl) (by kernel_rfl) (by kernel_rfl) ?_
  refine wpList_nil ?_
  rw [World.setRow_alloc_new]
  simp only [Act.put, List.setIfInBounds_toArray, List.set_cons_zero, List.set_cons_succ]
  have hz : (w.alloc (.cells cells90 114)).heap.size = w.heap.size + 1 := by simp
  rw [hz]
  have HO0 := Lib.hid (World.ownsRow.alloc (World.ownsRow_lit (base := w.heap.size) (size := 5) (e := 114) w cells90 18 (Nat.le_refl _) (by decide) (by decide)) (Obj.cells cells22 151))
  have HB0 : Hid (Blk ((w.alloc (.cells cells90 114)).alloc (.cells cells22 151)) (w.heap.size + 1) 151 cells22) := Lib.hid (blk_new2 w _ _ _)
  clear hz
  go_wp2
  go_loopw [1, 3] (fun u1 u3 wr => ∃ k : Nat, k ≤ 11 ∧ u3 = .int .i64 k ∧ Hid (wr.ownsRow w.heap.size 114 5 u1 (18 + 2 * k) (colsTo k)) ∧ Hid (u1.ownBlock ≠ some (w.heap.size + 1)) ∧ Hid (Blk wr (w.heap.size + 1) 151 cells22) ∧ Hid (Below w.heap.size w wr)) (fun _ u3 _ => 11 - (intOf u3).toNat)
  case atStart => exact ⟨0, Nat.zero_le _, rfl, Lib.hid (by rw [← cols_start]; exact HO0.out), Lib.hid (by simp [Value.ownBlock]), HB0, Lib.hid (Below.alloc0 (Below.alloc0 (Below.refl _ _) _) _)⟩
  case round =>
    obtain ⟨k, hk, rfl, HO, HNe, HB, HBel⟩ := hrel
    by_cases hlt : k < 11
    · obtain ⟨m0, m1⟩ := cells22_at k hlt
      have c0 := (HB.out.cell (k * 2)).trans m0
      have c1 := (HB.out.cell (k * 2 + 1)).trans m1
      obtain ⟨f0, f1⟩ := e_fin ⟨k, hlt⟩
      simp only at f0 f1
      have hk0 : (0 : Int) ≤ (k : Int) := by omega
      have hk1 : (k : Int) < 11 := by omega
      have HN := Lib.hid (cols_next k hlt)
      have hsz := Lib.hid HBel.out.size
      have t1 : IntKind.i64.wrap ((e1 k : Int) + 64) = (e1 k : Int) + 64 := IntWalk.i64_in _ (by omega)
      have HM := Lib.hid (And.intro m0 m1)
      clear m0 m1
      have HBd := Lib.hid (Blk.drew HB.out)
      have hkk : (if k = 6 then (0 : Int) else 1) = immK k := rfl
      rcases (show (((e0 k : Int) == 12) = true ∧ immK k = 0) ∨ (((e0 k : Int) == 12) = false ∧ immK k = 1) by
        by_cases h6 : k = 6
        · left; exact ⟨by rw [f0]; simpa using h6, by unfold immK; rw [if_pos h6]⟩
        · right; exact ⟨by rw [f0]; simpa using h6, by unfold immK; rw [if_neg h6]⟩) with ⟨g0, gI⟩ | ⟨g0, gI⟩
      · have HI := Lib.hid gI
        clear gI f0 hkk
        go_wp2
        go_region_held3 (fun w' => w'.cell? ⟨w.heap.size + 1, k * 2, none⟩ = some (.int .i64 (e0 k : Int)) ∧ w'.cell? ⟨w.heap.size + 1, k * 2 + 1, none⟩ = some (.int .i64 (e1 k : Int)))
          (first
            | (with_reducible exact ⟨(HBd.out.cell _).trans HM.out.1, (HBd.out.cell _).trans HM.out.2⟩)
            | (with_reducible exact ⟨((Blk.alloc HBd.out _).cell _).trans HM.out.1, ((Blk.alloc HBd.out _).cell _).trans HM.out.2⟩)
            | (with_reducible exact ⟨((Blk.drew (Blk.alloc HB.out _)).cell _).trans HM.out.1, ((Blk.drew (Blk.alloc HB.out _)).cell _).trans HM.out.2⟩)
            | (exact ⟨(HB2.out.cell _).trans HM.out.1, (HB2.out.cell _).trans HM.out.2⟩))
          ((refine step_append_cells (by rfl) _ _ _ 112 114 (by rfl) (.agg #[.int .i64 0, .int .i64 0, .int .i64 0, .int .i64 0, .int .i64 0]) 5 40 info5 Tryz.underlying112 (by rfl) (by decide) w.heap.size u1 (18 + 2 * k) (colsTo k) (by rfl) (HO.out.alloc _) ⟨wr.heap.size, 0, none⟩ 2 2 [.int .i64 (e0 k : Int), .int .i64 8, .int .i64 1, .int .i64 (e1 k : Int), .int .i64 0, .int .i64 (e0 k : Int), .int .i64 9, .int .i64 1, .int .i64 ((e1 k : Int) + 64), .int .i64 0] (by rfl) (by rfl) (cells_of_blk (Blk.new wr.drew _ _ (0, 0))) (by simp [Value.oneCell']) (by unfold maxLen; omega) (by omega) (by have := HBel.out.size; simp; omega) ?_; intro v1 w1 ho1 hb1 hg1 hat1; have HB2 := Lib.hid (Blk.grown (Blk.alloc HBd.out _) hg1 (fun e => HNe.out e.symm)); have HO1 := Lib.hid ho1; have Hb1 := Lib.hid hb1; have HA1 := Lib.hid hat1; clear ho1 hb1 hg1 hat1))
        have hn1 : v1.ownBlock ≠ some (w.heap.size + 1) := by
          have := HB.out.lt
          rcases HA1.out with e | e
          · rw [e]; exact HNe.out
          · rw [e]; intro e2; simp at e2; omega
        have HN1 := Lib.hid hn1
        have b1 : Below w.heap.size w w1 := (Below.alloc0 (Below.drew0 HBel.out) _).trans Hb1.out
        have B1 := Lib.hid b1
        clear hn1 b1 g0 t1
        go_wp2
        go_roundw
        case rel => exact ⟨k + 1, by omega, by go_num, Lib.hid (by rw [HN.out, HI.out]; exact HO1.out), HN1, HB2, B1⟩
        case measure => simp [intOf]; omega
      · have HI := Lib.hid gI
        clear gI f0 hkk
        go_wp2
        go_region_held3 (fun w' => w'.cell? ⟨w.heap.size + 1, k * 2, none⟩ = some (.int .i64 (e0 k : Int)) ∧ w'.cell? ⟨w.heap.size + 1, k * 2 + 1, none⟩ = some (.int .i64 (e1 k : Int)))
          (first
            | (with_reducible exact ⟨(HBd.out.cell _).trans HM.out.1, (HBd.out.cell _).trans HM.out.2⟩)
            | (with_reducible exact ⟨((Blk.alloc HBd.out _).cell _).trans HM.out.1, ((Blk.alloc HBd.out _).cell _).trans HM.out.2⟩)
            | (with_reducible exact ⟨((Blk.drew (Blk.alloc HB.out _)).cell _).trans HM.out.1, ((Blk.drew (Blk.alloc HB.out _)).cell _).trans HM.out.2⟩)
            | (exact ⟨(HB2.out.cell _).trans HM.out.1, (HB2.out.cell _).trans HM.out.2⟩))
          ((refine step_append_cells (by rfl) _ _ _ 112 114 (by rfl) (.agg #[.int .i64 0, .int .i64 0, .int .i64 0, .int .i64 0, .int .i64 0]) 5 40 info5 Tryz.underlying112 (by rfl) (by decide) w.heap.size u1 (18 + 2 * k) (colsTo k) (by rfl) (HO.out.alloc _) ⟨wr.heap.size, 0, none⟩ 2 2 [.int .i64 (e0 k : Int), .int .i64 8, .int .i64 1, .int .i64 (e1 k : Int), .int .i64 1, .int .i64 (e0 k : Int), .int .i64 9, .int .i64 1, .int .i64 ((e1 k : Int) + 64), .int .i64 1] (by rfl) (by rfl) (cells_of_blk (Blk.new wr.drew _ _ (0, 0))) (by simp [Value.oneCell']) (by unfold maxLen; omega) (by omega) (by have := HBel.out.size; simp; omega) ?_; intro v1 w1 ho1 hb1 hg1 hat1; have HB2 := Lib.hid (Blk.grown (Blk.alloc HBd.out _) hg1 (fun e => HNe.out e.symm)); have HO1 := Lib.hid ho1; have Hb1 := Lib.hid hb1; have HA1 := Lib.hid hat1; clear ho1 hb1 hg1 hat1))
        have hn1 : v1.ownBlock ≠ some (w.heap.size + 1) := by
          have := HB.out.lt
          rcases HA1.out with e | e
          · rw [e]; exact HNe.out
          · rw [e]; intro e2; simp at e2; omega
        have HN1 := Lib.hid hn1
        have b1 : Below w.heap.size w w1 := (Below.alloc0 (Below.drew0 HBel.out) _).trans Hb1.out
        have B1 := Lib.hid b1
        clear hn1 b1 g0 t1
        go_wp2
        go_roundw
        case rel => exact ⟨k + 1, by omega, by go_num, Lib.hid (by rw [HN.out, HI.out]; exact HO1.out), HN1, HB2, B1⟩
        case measure => simp [intOf]; omega
    · obtain rfl : k = 11 := by omega
      go_wp2
      go_ret
      exact ⟨_, rfl, HO.out, HBel.out⟩
end Go.Proofs.YtljhfalgplihhaaGreatDoor
