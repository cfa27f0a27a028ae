/- RowO, Beh, RowF, RowL, RwC, RowK in one text (made by tools/merge.py). -/
import Derived.Test.YtkdekhcnamkcgabDoorRow
import Derived.Test.YtkdekhcnamkcgabDoorPostU
import Derived.Test.YtkdekhcnamkcgabDoorRowP
import Derived.Test.YtkdekhcnamkcgabDoorPost
import Derived.Deep.RegionHeld3
import Derived.Test.YtkdekhcnamkcgabDoorRefS
import Derived.Test.YtkdekhcnamkcgabDoorInsO
import Derived.Test.YtkdekhcnamkcgabDoorTblC
namespace Go.Proofs.YtkdekhcnamkcgabDoor
open Go.ChangeShapes Go.WideShapes Go.ChangeAt Go.RowKit
set_option linter.unusedVariables false

theorem blk3 {w : World} {g : Nat} {t : TypeId} {v0 v1 v2 : Value} (h : Blk w g t #[v0, v1, v2]) : w.cell? ⟨g, 0, none⟩ = some v0 ∧ w.cell? ⟨g, 1, none⟩ = some v1 ∧ w.cell? ⟨g, 2, none⟩ = some v2 := by
  refine ⟨?_, ?_, ?_⟩ <;> (rw [h.cell]; rfl)
theorem cnt12 : ((List.range 256).all fun b => Nat.ble (cntN b) 12) = true := by decide +kernel
theorem aloneL_len (o : Int) : (aloneL o).length ≤ 100 := by
  unfold aloneL
  repeat (first | (split; · decide) | decide)
set_option maxRecDepth 100000 in
set_option maxHeartbeats 2000000 in
theorem tail_st (o m r cc : Int) (b : Nat) (hb : b < 256) (hcc : CC cc) (w : World) : Calls Tryd.prog 11 #[.agg #[.int .i64 o, .int .i64 m, .int .i64 r], .int .u8 (b : Int), .int .u8 cc] w (GivesR w (tailL o m (holdsX r cc) (cntN b))) := by
  rcases (show m = 0 ∨ m = 1 ∨ m = 2 ∨ m = 3 ∨ m = 4 ∨ m = 5 ∨ m = 6 ∨ m = 7 ∨ m = 8 ∨ m = 9 ∨ (m < 0 ∨ 9 < m) by omega) with rfl | rfl | rfl | rfl | rfl | rfl | rfl | rfl | rfl | rfl | hm
  · go_enter Tryd.func11, Tryd.ntmps11
    have B0 := Lib.hid (Below.alloc0 (Below.refl w.heap.size w) (Obj.cells #[.int .i64 o, .int .i64 0, .int .i64 r] 24))
    have E0 := Lib.hid (show (w.alloc (Obj.cells #[.int .i64 o, .int .i64 0, .int .i64 r] 24)).drew.cell? ⟨w.heap.size, 0, none⟩ = some (.int .i64 o) from (blk3 (Blk.new w 24 #[.int .i64 o, .int .i64 0, .int .i64 r] (0, 0))).1)
    replace B0 := Lib.hid (Below.drew0 B0.out)
    have LT := Lib.hid (show w.heap.size < (w.alloc (Obj.cells #[.int .i64 o, .int .i64 0, .int .i64 r] 24)).drew.heap.size by show w.heap.size < (w.alloc _).heap.size; simp)
    have hl := Lib.hid (show [someL 3 1, aloneL o].flatten.length ≤ 1099511627776 by have := aloneL_len o; simp [someL]; omega)
    go_upto_region 11 with (fail)
    go_region_held3 (fun w' => w'.cell? ⟨w.heap.size, 0, none⟩ = some (.int .i64 o))
      (first
        | (with_reducible exact E0.out)
        | (with_reducible exact E1.out)
        | (with_reducible exact E2.out)
        | (with_reducible exact E3.out)
        | (with_reducible exact E4.out))
      (first
        | (go_at_call 24; (refine (some_st 3 1 1 rfl (by decide) _).mono ?_; rintro e w1 ⟨v1, rfl, hr1, hb1⟩; obtain ⟨A1, n1, c1, rfl⟩ := hr1.isSl; have R1 := Lib.hid hr1; have B1 := Lib.hid (Below.trans0 B0.out hb1); have E1 := Lib.hid ((hb1.cell (p := ⟨w.heap.size, 0, none⟩) LT.out).trans E0.out); have LT1 := Lib.hid (Nat.lt_of_lt_of_le LT.out hb1.size); clear hr1 hb1))
        | (go_at_call 33; (refine (alone_st o _).mono ?_; rintro e w2 ⟨v2, rfl, hr2, hb2⟩; obtain ⟨A2, n2, c2, rfl⟩ := hr2.isSl; have R1' := Lib.hid (R1.out.below hb2); have R2 := Lib.hid hr2; have B2 := Lib.hid (Below.trans0 B1.out hb2); have E2 := Lib.hid ((hb2.cell (p := ⟨w.heap.size, 0, none⟩) LT1.out).trans E1.out); have LT2 := Lib.hid (Nat.lt_of_lt_of_le LT1.out hb2.size); have E3 := Lib.hid ((Below.cell (Below.alloc0 (Below.refl w2.heap.size w2) (Obj.cells #[.slice A1 n1 c1, .slice A2 n2 c2] 31)) (p := ⟨w.heap.size, 0, none⟩) LT2.out).trans E2.out); clear hr2 hb2))
        | (go_at_call 23; (refine (row2_any _ _ _ _ _ R1'.out R2.out hl.out).mono ?_; rintro e w3 ⟨v3, rfl, hr3, hb3⟩; have R3 := Lib.hid hr3; have B3 := Lib.hid (Below.trans0 B2.out hb3); have E4 := Lib.hid ((hb3.cell (p := ⟨w.heap.size, 0, none⟩) LT2.out).trans E2.out); clear hr3 hb3)))
    go_wp2
    go_ret
    exact ⟨_, rfl, R3.out, B3.out⟩
  · go_enter Tryd.func11, Tryd.ntmps11
    have B0 := Lib.hid (Below.alloc0 (Below.refl w.heap.size w) (Obj.cells #[.int .i64 o, .int .i64 1, .int .i64 r] 24))
    go_wp2_with fail
    refine (one_st o _).mono ?_
    rintro e w1 ⟨v1, rfl, hr1, hb1⟩
    obtain ⟨A1, n1, c1, rfl⟩ := hr1.isSl
    have R1 := Lib.hid hr1
    have B1 := Lib.hid (Below.trans0 B0.out hb1)
    clear hr1 hb1
    go_wp2
    go_ret
    exact ⟨_, rfl, R1.out, B1.out⟩
  · go_enter Tryd.func11, Tryd.ntmps11
    have B0 := Lib.hid (Below.alloc0 (Below.refl w.heap.size w) (Obj.cells #[.int .i64 o, .int .i64 2, .int .i64 r] 24))
    go_wp2_with fail
    refine (two_st o _).mono ?_
    rintro e w1 ⟨v1, rfl, hr1, hb1⟩
    obtain ⟨A1, n1, c1, rfl⟩ := hr1.isSl
    have R1 := Lib.hid hr1
    have B1 := Lib.hid (Below.trans0 B0.out hb1)
    clear hr1 hb1
    go_wp2
    go_ret
    exact ⟨_, rfl, R1.out, B1.out⟩
  · go_enter Tryd.func11, Tryd.ntmps11
    have B0 := Lib.hid (Below.alloc0 (Below.refl w.heap.size w) (Obj.cells #[.int .i64 o, .int .i64 3, .int .i64 r] 24))
    go_wp2_with fail
    refine (memory_st o _).mono ?_
    rintro e w1 ⟨v1, rfl, hr1, hb1⟩
    obtain ⟨A1, n1, c1, rfl⟩ := hr1.isSl
    have R1 := Lib.hid hr1
    have B1 := Lib.hid (Below.trans0 B0.out hb1)
    clear hr1 hb1
    go_wp2
    go_ret
    exact ⟨_, rfl, R1.out, B1.out⟩
  · go_enter Tryd.func11, Tryd.ntmps11
    have B0 := Lib.hid (Below.alloc0 (Below.refl w.heap.size w) (Obj.cells #[.int .i64 o, .int .i64 4, .int .i64 r] 24))
    go_wp2_with fail
    refine (memory_st o _).mono ?_
    rintro e w1 ⟨v1, rfl, hr1, hb1⟩
    obtain ⟨A1, n1, c1, rfl⟩ := hr1.isSl
    have R1 := Lib.hid hr1
    have B1 := Lib.hid (Below.trans0 B0.out hb1)
    clear hr1 hb1
    go_wp2
    go_ret
    exact ⟨_, rfl, R1.out, B1.out⟩
  · go_enter Tryd.func11, Tryd.ntmps11
    have B0 := Lib.hid (Below.alloc0 (Below.refl w.heap.size w) (Obj.cells #[.int .i64 o, .int .i64 5, .int .i64 r] 24))
    go_wp2_with fail
    refine (memory_st o _).mono ?_
    rintro e w1 ⟨v1, rfl, hr1, hb1⟩
    obtain ⟨A1, n1, c1, rfl⟩ := hr1.isSl
    have R1 := Lib.hid hr1
    have B1 := Lib.hid (Below.trans0 B0.out hb1)
    clear hr1 hb1
    go_wp2
    go_ret
    exact ⟨_, rfl, R1.out, B1.out⟩
  · go_enter Tryd.func11, Tryd.ntmps11
    have B0 := Lib.hid (Below.alloc0 (Below.refl w.heap.size w) (Obj.cells #[.int .i64 o, .int .i64 6, .int .i64 r] 24))
    go_wp2_with fail
    refine (branch_st o 6 r cc hcc _).mono ?_
    rintro e w1 ⟨v1, rfl, hr1, hb1⟩
    obtain ⟨A1, n1, c1, rfl⟩ := hr1.isSl
    have R1 := Lib.hid hr1
    have B1 := Lib.hid (Below.trans0 B0.out hb1)
    clear hr1 hb1
    go_wp2
    go_ret
    exact ⟨_, rfl, R1.out, B1.out⟩
  · go_enter Tryd.func11, Tryd.ntmps11
    have B0 := Lib.hid (Below.alloc0 (Below.refl w.heap.size w) (Obj.cells #[.int .i64 o, .int .i64 7, .int .i64 r] 24))
    go_wp2_with fail
    refine (branch_st o 7 r cc hcc _).mono ?_
    rintro e w1 ⟨v1, rfl, hr1, hb1⟩
    obtain ⟨A1, n1, c1, rfl⟩ := hr1.isSl
    have R1 := Lib.hid hr1
    have B1 := Lib.hid (Below.trans0 B0.out hb1)
    clear hr1 hb1
    go_wp2
    go_ret
    exact ⟨_, rfl, R1.out, B1.out⟩
  · go_enter Tryd.func11, Tryd.ntmps11
    have B0 := Lib.hid (Below.alloc0 (Below.refl w.heap.size w) (Obj.cells #[.int .i64 o, .int .i64 8, .int .i64 r] 24))
    go_wp2_with fail
    refine (pair_st o _).mono ?_
    rintro e w1 ⟨v1, rfl, hr1, hb1⟩
    obtain ⟨A1, n1, c1, rfl⟩ := hr1.isSl
    have R1 := Lib.hid hr1
    have B1 := Lib.hid (Below.trans0 B0.out hb1)
    clear hr1 hb1
    go_wp2
    go_ret
    exact ⟨_, rfl, R1.out, B1.out⟩
  · go_enter Tryd.func11, Tryd.ntmps11
    have B0 := Lib.hid (Below.alloc0 (Below.refl w.heap.size w) (Obj.cells #[.int .i64 o, .int .i64 9, .int .i64 r] 24))
    have E0 := Lib.hid (show (w.alloc (Obj.cells #[.int .i64 o, .int .i64 9, .int .i64 r] 24)).drew.cell? ⟨w.heap.size, 0, none⟩ = some (.int .i64 o) from (blk3 (Blk.new w 24 #[.int .i64 o, .int .i64 9, .int .i64 r] (0, 0))).1)
    replace B0 := Lib.hid (Below.drew0 B0.out)
    have LT := Lib.hid (show w.heap.size < (w.alloc (Obj.cells #[.int .i64 o, .int .i64 9, .int .i64 r] 24)).drew.heap.size by show w.heap.size < (w.alloc _).heap.size; simp)
    have hn : cntN b ≤ 100 := by have := Nat.le_of_ble_eq_true (allB 256 _ cnt12 b hb); omega
    have CN := Lib.hid (fun w => count_any b hb w)
    have CM := Lib.hid (fun w => many_st o (cntN b : Int) (cntN b) rfl hn w)
    have hT : Hid (tailL o 9 (holdsX r cc) (cntN b) = manyL o (cntN b)) := Lib.hid rfl
    generalize cntN b = N at CN CM hT
    clear hn
    go_upto_region 18 with (fail)
    go_region_held3 (fun w' => w'.cell? ⟨w.heap.size, 0, none⟩ = some (.int .i64 o))
      (first
        | (with_reducible exact E0.out)
        | (with_reducible exact E1.out)
        | (with_reducible exact E2.out))
      (first
        | (go_at_call 37; (refine (CN.out _).mono ?_; rintro e w1 ⟨rfl, hb1⟩; have B1 := Lib.hid (Below.trans0 B0.out hb1); have E1 := Lib.hid ((hb1.cell (p := ⟨w.heap.size, 0, none⟩) LT.out).trans E0.out); have LT1 := Lib.hid (Nat.lt_of_lt_of_le LT.out hb1.size); clear hb1))
        | (go_at_call 36; (refine (CM.out _).mono ?_; rintro e w2 ⟨v2, rfl, hr2, hb2⟩; have R2 := Lib.hid hr2; have B2 := Lib.hid (Below.trans0 B1.out hb2); have E2 := Lib.hid ((hb2.cell (p := ⟨w.heap.size, 0, none⟩) LT1.out).trans E1.out); clear hr2 hb2)))
    all_goals
      go_wp2
      go_ret
      exact ⟨_, rfl, R2.out, B2.out⟩
  · have hz : tailL o m (holdsX r cc) (cntN b) = [] := by unfold tailL; repeat (rw [if_neg (by omega)])
    rw [hz]
    have e0 : (m == 0) = false := ne_beqR (by omega)
    have e1 : (m == 1) = false := ne_beqR (by omega)
    have e2 : (m == 2) = false := ne_beqR (by omega)
    have e3 : (m == 3) = false := ne_beqR (by omega)
    have e4 : (m == 4) = false := ne_beqR (by omega)
    have e5 : (m == 5) = false := ne_beqR (by omega)
    have e6 : (m == 6) = false := ne_beqR (by omega)
    have e7 : (m == 7) = false := ne_beqR (by omega)
    have e8 : (m == 8) = false := ne_beqR (by omega)
    have e9 : (m == 9) = false := ne_beqR (by omega)
    clear hz hm
    go_enter Tryd.func11, Tryd.ntmps11
    have B0 := Lib.hid (Below.alloc0 (Below.refl w.heap.size w) (Obj.cells #[.int .i64 o, .int .i64 m, .int .i64 r] 24))
    go_wp2
    go_ret
    exact ⟨_, rfl, .inl ⟨rfl, rfl⟩, B0.out⟩


theorem po_le : ((List.range 14).all fun k => Nat.ble (poBytes k) 4 && Nat.ble (poIdle k) 9) = true := by decide +kernel
theorem blkP {w : World} {g : Nat} {t : TypeId} {v0 v1 v2 v3 : Value} (h : Blk w g t #[v0, v1, v2, v3]) : w.cell? ⟨g, 0, none⟩ = some v0 ∧ w.cell? ⟨g, 1, none⟩ = some v1 ∧ w.cell? ⟨g, 2, none⟩ = some v2 ∧ w.cell? ⟨g, 3, none⟩ = some v3 := by
  refine ⟨?_, ?_, ?_, ?_⟩ <;> (rw [h.cell]; rfl)
set_option maxRecDepth 100000 in
set_option maxHeartbeats 4000000 in
theorem behind_st (k : Nat) (hk : k < 14) (r o : Int) (d : Bool) (w : World) : Calls Tryd.prog 26 #[.agg #[.int .i64 (k : Int), .int .i64 r, .int .u16 o, .bool d]] w (GivesR w (behindL (poBytes k) (poIdle k) d)) := by
  have hp := allB 14 _ po_le k hk
  rw [Bool.and_eq_true, Nat.ble_eq, Nat.ble_eq] at hp
  obtain ⟨p1, p2⟩ := hp
  have CB := Lib.hid (fun w => bytes_any k r o d w k rfl hk)
  have CI := Lib.hid (fun w => idle_any k r o d w k rfl hk)
  have HK0 := Lib.hid (show Blk (w.alloc (Obj.cells #[.int .i64 (k : Int), .int .i64 r, .int .u16 o, .bool d] 56)).drew w.heap.size 56 #[.int .i64 (k : Int), .int .i64 r, .int .u16 o, .bool d] from Blk.new w 56 #[.int .i64 (k : Int), .int .i64 r, .int .u16 o, .bool d] (0, 0))
  have B0 := Lib.hid (Below.drew0 (Below.alloc0 (Below.refl w.heap.size w) (Obj.cells #[.int .i64 (k : Int), .int .i64 r, .int .u16 o, .bool d] 56)))
  generalize poBytes k = nb at CB p1 ⊢
  generalize poIdle k = ni at CI p2 ⊢
  have S1 := Lib.hid (fun w => some_st 2 (nb : Int) nb rfl (by omega) w)
  have S2 := Lib.hid (fun w => some_st 4 (ni : Int) ni rfl (by omega) w)
  have hl := Lib.hid (show [someL 2 nb, idL ni].flatten.length ≤ 1099511627776 by simp [someL]; omega)
  have hl2 := Lib.hid (show [[someL 2 nb, idL ni].flatten, firstL 11, idL 1].flatten.length ≤ 1099511627776 by simp [someL, firstL]; omega)
  clear p1 p2 hk
  cases d
  · go_enter Tryd.func26, Tryd.ntmps26
    go_upto_region 1 with (fail)
    go_region_held3 (fun w' => w'.cell? ⟨w.heap.size, 0, none⟩ = some (.int .i64 (k : Int)) ∧ w'.cell? ⟨w.heap.size, 1, none⟩ = some (.int .i64 r) ∧ w'.cell? ⟨w.heap.size, 2, none⟩ = some (.int .u16 o) ∧ w'.cell? ⟨w.heap.size, 3, none⟩ = some (.bool false))
      (first
        | (with_reducible exact blkP HK0.out)
        | (with_reducible exact blkP HK1.out)
        | (with_reducible exact blkP HK2.out)
        | (with_reducible exact blkP HK3.out)
        | (with_reducible exact blkP HK4.out)
        | (with_reducible exact blkP HK5.out)
        | (with_reducible exact blkP HK6.out))
      (first
        | (go_at_call 50; ((with_reducible refine (CB.out _).mono ?_); rintro e w1 ⟨rfl, hb⟩; have HK1 := Lib.hid (Blk.below HK0.out hb HK0.out.lt); have B1 := Lib.hid (Below.trans0 B0.out hb); clear hb))
        | (go_at_call 51; ((with_reducible refine (CI.out _).mono ?_); rintro e w3 ⟨rfl, hb⟩; have HK3 := Lib.hid (Blk.below HK2.out hb HK2.out.lt); have B3 := Lib.hid (Below.trans0 B2.out hb); have R1' := Lib.hid (R1.out.below hb); clear hb))
        | (go_at_call 24; ((with_reducible refine (S1.out _).mono ?_); rintro e w2 ⟨v1, rfl, hr, hb⟩; obtain ⟨A1, n1, c1, rfl⟩ := hr.isSl; have R1 := Lib.hid hr; have HK2 := Lib.hid (Blk.below HK1.out hb HK1.out.lt); have B2 := Lib.hid (Below.trans0 B1.out hb); clear hr hb))
        | (go_at_call 24; ((with_reducible refine (S2.out _).mono ?_); rintro e w4 ⟨v2, rfl, hr, hb⟩; obtain ⟨A2, n2, c2, rfl⟩ := hr.isSl; have R2 := Lib.hid hr; have R1'' := Lib.hid (R1'.out.below hb); have HK4 := Lib.hid (Blk.below HK3.out hb HK3.out.lt); have B4 := Lib.hid (Below.trans0 B3.out hb); have HK5 := Lib.hid (Blk.alloc HK4.out (Obj.cells #[.slice A1 n1 c1, .slice A2 n2 c2] 31)); clear hr hb))
        | (go_at_call 23; (refine (row2_any _ _ _ _ _ R1''.out R2.out hl.out).mono ?_; rintro e w5 ⟨v3, rfl, hr, hb⟩; obtain ⟨A3, n3, c3, rfl⟩ := hr.isSl; have R3 := Lib.hid hr; have HK6 := Lib.hid (Blk.below HK4.out hb HK4.out.lt); have B5 := Lib.hid (Below.trans0 B4.out hb); clear hr hb)))
    obtain ⟨k0, k1, k2, k3⟩ := blkP HK6.out
    go_wp2
    go_ret
    exact ⟨_, rfl, R3.out, B5.out⟩
  · go_enter Tryd.func26, Tryd.ntmps26
    go_upto_region 1 with (fail)
    go_region_held3 (fun w' => w'.cell? ⟨w.heap.size, 0, none⟩ = some (.int .i64 (k : Int)) ∧ w'.cell? ⟨w.heap.size, 1, none⟩ = some (.int .i64 r) ∧ w'.cell? ⟨w.heap.size, 2, none⟩ = some (.int .u16 o) ∧ w'.cell? ⟨w.heap.size, 3, none⟩ = some (.bool true))
      (first
        | (with_reducible exact blkP HK0.out)
        | (with_reducible exact blkP HK1.out)
        | (with_reducible exact blkP HK2.out)
        | (with_reducible exact blkP HK3.out)
        | (with_reducible exact blkP HK4.out)
        | (with_reducible exact blkP HK5.out)
        | (with_reducible exact blkP HK6.out))
      (first
        | (go_at_call 50; ((with_reducible refine (CB.out _).mono ?_); rintro e w1 ⟨rfl, hb⟩; have HK1 := Lib.hid (Blk.below HK0.out hb HK0.out.lt); have B1 := Lib.hid (Below.trans0 B0.out hb); clear hb))
        | (go_at_call 51; ((with_reducible refine (CI.out _).mono ?_); rintro e w3 ⟨rfl, hb⟩; have HK3 := Lib.hid (Blk.below HK2.out hb HK2.out.lt); have B3 := Lib.hid (Below.trans0 B2.out hb); have R1' := Lib.hid (R1.out.below hb); clear hb))
        | (go_at_call 24; ((with_reducible refine (S1.out _).mono ?_); rintro e w2 ⟨v1, rfl, hr, hb⟩; obtain ⟨A1, n1, c1, rfl⟩ := hr.isSl; have R1 := Lib.hid hr; have HK2 := Lib.hid (Blk.below HK1.out hb HK1.out.lt); have B2 := Lib.hid (Below.trans0 B1.out hb); clear hr hb))
        | (go_at_call 24; ((with_reducible refine (S2.out _).mono ?_); rintro e w4 ⟨v2, rfl, hr, hb⟩; obtain ⟨A2, n2, c2, rfl⟩ := hr.isSl; have R2 := Lib.hid hr; have R1'' := Lib.hid (R1'.out.below hb); have HK4 := Lib.hid (Blk.below HK3.out hb HK3.out.lt); have B4 := Lib.hid (Below.trans0 B3.out hb); have HK5 := Lib.hid (Blk.alloc HK4.out (Obj.cells #[.slice A1 n1 c1, .slice A2 n2 c2] 31)); clear hr hb))
        | (go_at_call 23; (refine (row2_any _ _ _ _ _ R1''.out R2.out hl.out).mono ?_; rintro e w5 ⟨v3, rfl, hr, hb⟩; obtain ⟨A3, n3, c3, rfl⟩ := hr.isSl; have R3 := Lib.hid hr; have HK6 := Lib.hid (Blk.below HK4.out hb HK4.out.lt); have B5 := Lib.hid (Below.trans0 B4.out hb); clear hr hb)))
    obtain ⟨k0, k1, k2, k3⟩ := blkP HK6.out
    go_wp2_with fail
    refine (firstP_st 11 _).mono ?_
    rintro e w6 ⟨v4, rfl, hr, hb⟩
    obtain ⟨A4, n4, c4, rfl⟩ := hr.isSl
    replace R3 := Lib.hid (R3.out.below hb)
    have R4 := Lib.hid hr
    have B6 := Lib.hid (Below.trans0 B5.out hb)
    clear hr hb
    go_wp2_with fail
    refine (some_st 4 1 1 rfl (by decide) _).mono ?_
    rintro e w7 ⟨v5, rfl, hr, hb⟩
    obtain ⟨A5, n5, c5, rfl⟩ := hr.isSl
    replace R3 := Lib.hid (R3.out.below hb)
    replace R4 := Lib.hid (R4.out.below hb)
    have R5 := Lib.hid hr
    have B7 := Lib.hid (Below.trans0 B6.out hb)
    clear hr hb
    go_wp2_with fail
    refine (row3_any _ _ _ _ _ _ _ R3.out R4.out R5.out hl2.out).mono ?_
    rintro e w8 ⟨v6, rfl, hr, hb⟩
    go_wp2
    go_ret
    exact ⟨_, rfl, hr, Below.trans0 B7.out hb⟩


def ofL (p o m : Int) (b : Nat) (h d : Bool) : List Stp :=
  let l0 := [someL 1 (if p = 2 ∨ p = 3 then 2 else 1), aheadL m].flatten
  let l1 := if m = 4 then [l0, behindL (poBytes (poK b)) (poIdle (poK b)) (poI b)].flatten else l0
  let l2 := [l1, tailL o m h (cntN b)].flatten
  if o = 49 then [l2, restL d].flatten else l2
theorem len2 (a b : List Stp) : [a, b].flatten.length = a.length + b.length := by simp
theorem someL_len (k : Int) (n : Nat) : (someL k n).length = n := by simp [someL]
theorem aheadL_len (m : Int) : (aheadL m).length ≤ 10 := by
  unfold aheadL
  repeat (first | (split; · decide) | decide)
theorem behindL_len (n k : Nat) (d : Bool) : (behindL n k d).length ≤ n + k + 10 := by
  unfold behindL
  cases d <;> simp [someL, firstL]
  omega
theorem restL_len (d : Bool) : (restL d).length ≤ 20 := by cases d <;> decide
theorem memL_len (g : Int) : (memL g).length ≤ 20 := by
  unfold memL
  repeat (first | (split; · decide) | decide)
theorem tailL_len (o m : Int) (h : Bool) (n : Nat) : (tailL o m h n).length ≤ 60 + n := by
  have h1 := memL_len (grpN o)
  have h2 : (oneL o).length ≤ 20 := by
    unfold oneL
    repeat (first | (split; · decide) | decide)
  have h3 : (twoL (grpN o)).length ≤ 20 := by
    unfold twoL
    repeat (first | (split; · decide) | decide)
  have h4 : (aloneL o).length ≤ 40 := by
    unfold aloneL
    repeat (first | (split; · decide) | decide)
  have h5 : (brL o h).length ≤ 20 := by
    unfold brL
    cases h
    all_goals repeat (first | (split; · decide) | decide)
  have h6 : (pairL o).length ≤ 20 := by
    unfold pairL
    repeat (first | (split; · decide) | decide)
  have h7 : (manyL o n).length ≤ 20 + n := by
    unfold manyL
    repeat (first | (split; · simp [someL]; omega) | simp)
  have h8 : [someL 3 1, aloneL o].flatten.length ≤ 50 := by simp [someL]; omega
  unfold tailL
  repeat (first | (split; · omega) | omega | (simp; done))
theorem KindsAt.bel {w w' : World} (h : KindsAt w) (hb : Below w.heap.size w w') : KindsAt w' := fun k hk => (hb.cell (p := ⟨0, k, none⟩) (cell_lt (h k hk))).trans (h k hk)
theorem blkI {w : World} {g : Nat} {t : TypeId} {v0 v1 v2 v3 v4 v5 v6 v7 : Value} (h : Blk w g t #[v0, v1, v2, v3, v4, v5, v6, v7]) : w.cell? ⟨g, 0, none⟩ = some v0 ∧ w.cell? ⟨g, 1, none⟩ = some v1 ∧ w.cell? ⟨g, 2, none⟩ = some v2 ∧ w.cell? ⟨g, 3, none⟩ = some v3 ∧ w.cell? ⟨g, 4, none⟩ = some v4 ∧ w.cell? ⟨g, 5, none⟩ = some v5 ∧ w.cell? ⟨g, 6, none⟩ = some v6 ∧ w.cell? ⟨g, 7, none⟩ = some v7 := by
  refine ⟨?_, ?_, ?_, ?_, ?_, ?_, ?_, ?_⟩ <;> (rw [h.cell]; rfl)
set_option maxRecDepth 100000 in
set_option maxHeartbeats 8000000 in
theorem rowsOf_1 (c r v l : Int) (b : Nat) (hb : b < 256) (cc pulled : Int) (hcc : CC cc) (q0 : 0 ≤ pulled) (q1 : pulled < 256) (w : World) (hT : KindsAt w) : Calls Tryd.prog 8 #[.agg #[.int .i64 2, .int .u8 c, .int .i64 49, .int .i64 4, .int .i64 r, .int .u8 (b : Int), .int .u16 v, .int .i64 l], .int .u8 cc, .int .u8 pulled] w (GivesR w (ofL 2 49 4 b (holdsX r cc) (decide (127 < pulled)))) := by
  have hO : Hid (ofL 2 49 4 b (holdsX r cc) (decide (127 < pulled)) = [[[[someL 1 2, aheadL 4].flatten, behindL (poBytes (poK b)) (poIdle (poK b)) (poI b)].flatten, tailL 49 4 (holdsX r cc) (cntN b)].flatten, restL (decide (127 < pulled))].flatten) := Lib.hid (by
    have hN : (if (2 : Int) = 2 ∨ (2 : Int) = 3 then 2 else 1) = 2 := rfl
    unfold ofL
    rw [hN]
    simp only [if_true])
  have L0 : [someL 1 2, aheadL 4].flatten.length ≤ 100 := by have := aheadL_len 4; rw [len2, someL_len]; omega
  have hpo := allB 14 _ po_le (poK b) (poK_lt b hb)
  rw [Bool.and_eq_true, Nat.ble_eq, Nat.ble_eq] at hpo
  have L1 : [[someL 1 2, aheadL 4].flatten, behindL (poBytes (poK b)) (poIdle (poK b)) (poI b)].flatten.length ≤ 200 := by have := behindL_len (poBytes (poK b)) (poIdle (poK b)) (poI b); rw [len2]; omega
  have hcn := Nat.le_of_ble_eq_true (allB 256 _ cnt12 b hb)
  have L2 : [[[someL 1 2, aheadL 4].flatten, behindL (poBytes (poK b)) (poIdle (poK b)) (poI b)].flatten, tailL 49 4 (holdsX r cc) (cntN b)].flatten.length ≤ 400 := by have := tailL_len 49 4 (holdsX r cc) (cntN b); rw [len2]; omega
  have L3 : [[[[someL 1 2, aheadL 4].flatten, behindL (poBytes (poK b)) (poIdle (poK b)) (poI b)].flatten, tailL 49 4 (holdsX r cc) (cntN b)].flatten, restL (decide (127 < pulled))].flatten.length ≤ 800 := by have := restL_len (decide (127 < pulled)); rw [len2]; omega
  have HT := Lib.hid (KindsAt.bel hT (Below.drew0 (Below.alloc0 (Below.refl _ w) (Obj.cells #[.int .i64 2, .int .u8 c, .int .i64 49, .int .i64 4, .int .i64 r, .int .u8 (b : Int), .int .u16 v, .int .i64 l] 27))))
  have HK0 := Lib.hid (show Blk (w.alloc (Obj.cells #[.int .i64 2, .int .u8 c, .int .i64 49, .int .i64 4, .int .i64 r, .int .u8 (b : Int), .int .u16 v, .int .i64 l] 27)).drew w.heap.size 27 #[.int .i64 2, .int .u8 c, .int .i64 49, .int .i64 4, .int .i64 r, .int .u8 (b : Int), .int .u16 v, .int .i64 l] from Blk.new w 27 #[.int .i64 2, .int .u8 c, .int .i64 49, .int .i64 4, .int .i64 r, .int .u8 (b : Int), .int .u16 v, .int .i64 l] (0, 0))
  have B0 := Lib.hid (Below.drew0 (Below.alloc0 (Below.refl w.heap.size w) (Obj.cells #[.int .i64 2, .int .u8 c, .int .i64 49, .int .i64 4, .int .i64 r, .int .u8 (b : Int), .int .u16 v, .int .i64 l] 27)))
  have TA := Lib.hid (fun w => tail_st 49 4 r cc b hb hcc w)
  have AH := Lib.hid (fun w => ahead_st 4 w)
  have M0 := Lib.hid (show [someL 1 2, aheadL 4].flatten.length ≤ 1099511627776 by omega)
  have M1 := Lib.hid (show [[someL 1 2, aheadL 4].flatten, behindL (poBytes (poK b)) (poIdle (poK b)) (poI b)].flatten.length ≤ 1099511627776 by omega)
  have M2 := Lib.hid (show [[[someL 1 2, aheadL 4].flatten, behindL (poBytes (poK b)) (poIdle (poK b)) (poI b)].flatten, tailL 49 4 (holdsX r cc) (cntN b)].flatten.length ≤ 1099511627776 by omega)
  have M3 := Lib.hid (show [[[[someL 1 2, aheadL 4].flatten, behindL (poBytes (poK b)) (poIdle (poK b)) (poI b)].flatten, tailL 49 4 (holdsX r cc) (cntN b)].flatten, restL (decide (127 < pulled))].flatten.length ≤ 1099511627776 by omega)
  have RE := Lib.hid (fun w => rest_st pulled q0 q1 w)
  have PO := Lib.hid (fun w hT => of_any b hb w hT)
  have BE := Lib.hid (fun w => behind_st (poK b) (poK_lt b hb) (poR b) (poO b) (poI b) w)
  clear L0 L1 L2 hcn hT L3 hpo
  go_enter Tryd.func8, Tryd.ntmps8
  go_upto_region 4 with (fail)
  go_region_held3 (fun w' => w'.cell? ⟨w.heap.size, 0, none⟩ = some (.int .i64 2) ∧ w'.cell? ⟨w.heap.size, 1, none⟩ = some (.int .u8 c) ∧ w'.cell? ⟨w.heap.size, 2, none⟩ = some (.int .i64 49) ∧ w'.cell? ⟨w.heap.size, 3, none⟩ = some (.int .i64 4) ∧ w'.cell? ⟨w.heap.size, 4, none⟩ = some (.int .i64 r) ∧ w'.cell? ⟨w.heap.size, 5, none⟩ = some (.int .u8 (b : Int)) ∧ w'.cell? ⟨w.heap.size, 6, none⟩ = some (.int .u16 v) ∧ w'.cell? ⟨w.heap.size, 7, none⟩ = some (.int .i64 l))
    (first
      | (with_reducible exact blkI HK0.out)
      | (with_reducible exact blkI HK1.out)
      | (with_reducible exact blkI HK2.out)
      | (with_reducible exact blkI HK3.out)
      | (with_reducible exact blkI HK4.out))
    (first
      | (go_at_call 24; ((with_reducible refine (some_st 1 2 2 rfl (by decide) _).mono ?_); rintro e w1 ⟨v1, rfl, hr, hb⟩; obtain ⟨A1, n1, c1, rfl⟩ := hr.isSl; have R1 := Lib.hid hr; have HK1 := Lib.hid (Blk.below HK0.out hb HK0.out.lt); have B1 := Lib.hid (Below.trans0 B0.out hb); have HT1 := Lib.hid (KindsAt.bel HT.out hb); clear hr hb))
      | (go_at_call 25; ((with_reducible refine (AH.out _).mono ?_); rintro e w2 ⟨v2, rfl, hr, hb⟩; obtain ⟨A2, n2, c2, rfl⟩ := hr.isSl; have R1' := Lib.hid (R1.out.below hb); have R2 := Lib.hid hr; have HK2 := Lib.hid (Blk.below HK1.out hb HK1.out.lt); have B2 := Lib.hid (Below.trans0 B1.out hb); have HT2 := Lib.hid (KindsAt.bel HT1.out hb); have HK3 := Lib.hid (Blk.alloc HK2.out (Obj.cells #[.slice A1 n1 c1, .slice A2 n2 c2] 31)); clear hr hb))
      | (go_at_call 23; (refine (row2_any _ _ _ _ _ R1'.out R2.out M0.out).mono ?_; rintro e w3 ⟨v3, rfl, hr, hb⟩; obtain ⟨A3, n3, c3, rfl⟩ := hr.isSl; have R3 := Lib.hid hr; have HK4 := Lib.hid (Blk.below HK2.out hb HK2.out.lt); have B3 := Lib.hid (Below.trans0 B2.out hb); have HT3 := Lib.hid (KindsAt.bel HT2.out hb); clear hr hb)))
  obtain ⟨i0, i1, i2, i3, i4, i5, i6, i7⟩ := blkI HK4.out
  have HK := HK4
  have HT := HT3
  have B := B3
  have R := R3
  clear R1 R2 R1' HK0 HK1 HK2 HK3 HK4 B0 B1 B2 B3 HT1 HT2 HT3 R3 M0 AH
  go_wp2_with fail
  refine (PO.out _ HT.out).mono ?_
  rintro e w4 ⟨rfl, hb⟩
  replace R := Lib.hid (R.out.below hb)
  replace HK := Lib.hid (Blk.below HK.out hb HK.out.lt)
  replace HT := Lib.hid (KindsAt.bel HT.out hb)
  replace B := Lib.hid (Below.trans0 B.out hb)
  clear hb
  clear i0 i1 i2 i3 i4 i5 i6 i7
  obtain ⟨i0, i1, i2, i3, i4, i5, i6, i7⟩ := blkI HK.out
  go_wp2_with fail
  refine (BE.out _).mono ?_
  rintro e w5 ⟨v5, rfl, hr, hb⟩
  obtain ⟨A5, n5, c5, rfl⟩ := hr.isSl
  replace R := Lib.hid (R.out.below hb)
  have R5 := Lib.hid hr
  replace HK := Lib.hid (Blk.below HK.out hb HK.out.lt)
  replace HT := Lib.hid (KindsAt.bel HT.out hb)
  replace B := Lib.hid (Below.trans0 B.out hb)
  clear hr hb
  clear i0 i1 i2 i3 i4 i5 i6 i7
  obtain ⟨i0, i1, i2, i3, i4, i5, i6, i7⟩ := blkI HK.out
  go_wp2_with fail
  refine (row2_any _ _ _ _ _ R.out R5.out M1.out).mono ?_
  rintro e w6 ⟨v6, rfl, hr, hb⟩
  obtain ⟨A6, n6, c6, rfl⟩ := hr.isSl
  clear R R5
  have R := Lib.hid hr
  replace HK := Lib.hid (Blk.below HK.out hb HK.out.lt)
  replace B := Lib.hid (Below.trans0 B.out hb)
  clear hr hb
  clear i0 i1 i2 i3 i4 i5 i6 i7
  obtain ⟨i0, i1, i2, i3, i4, i5, i6, i7⟩ := blkI HK.out
  go_wp2_with fail
  refine (TA.out _).mono ?_
  rintro e w7 ⟨v7, rfl, hr, hb⟩
  obtain ⟨A7, n7, c7, rfl⟩ := hr.isSl
  replace R := Lib.hid (R.out.below hb)
  have R7 := Lib.hid hr
  replace HK := Lib.hid (Blk.below HK.out hb HK.out.lt)
  replace B := Lib.hid (Below.trans0 B.out hb)
  clear hr hb
  clear i0 i1 i2 i3 i4 i5 i6 i7
  obtain ⟨i0, i1, i2, i3, i4, i5, i6, i7⟩ := blkI HK.out
  go_wp2_with fail
  refine (row2_any _ _ _ _ _ R.out R7.out M2.out).mono ?_
  rintro e w8 ⟨v8, rfl, hr, hb⟩
  obtain ⟨A8, n8, c8, rfl⟩ := hr.isSl
  clear R R7
  have R := Lib.hid hr
  replace HK := Lib.hid (Blk.below HK.out hb HK.out.lt)
  replace B := Lib.hid (Below.trans0 B.out hb)
  clear hr hb
  clear i0 i1 i2 i3 i4 i5 i6 i7
  obtain ⟨i0, i1, i2, i3, i4, i5, i6, i7⟩ := blkI HK.out
  go_wp2_with fail
  refine (RE.out _).mono ?_
  rintro e w9 ⟨v9, rfl, hr, hb⟩
  obtain ⟨A9, n9, c9, rfl⟩ := hr.isSl
  replace R := Lib.hid (R.out.below hb)
  have R9 := Lib.hid hr
  replace HK := Lib.hid (Blk.below HK.out hb HK.out.lt)
  replace B := Lib.hid (Below.trans0 B.out hb)
  clear hr hb
  clear i0 i1 i2 i3 i4 i5 i6 i7
  obtain ⟨i0, i1, i2, i3, i4, i5, i6, i7⟩ := blkI HK.out
  go_wp2_with fail
  refine (row2_any _ _ _ _ _ R.out R9.out M3.out).mono ?_
  rintro e w10 ⟨v10, rfl, hr, hb⟩
  obtain ⟨A10, n10, c10, rfl⟩ := hr.isSl
  clear R R9
  have R := Lib.hid hr
  replace B := Lib.hid (Below.trans0 B.out hb)
  clear hr hb
  go_wp2
  go_ret
  exact ⟨_, rfl, by rw [hO.out]; exact R.out, B.out⟩
set_option maxRecDepth 100000 in
set_option maxHeartbeats 8000000 in
theorem rowsOf_2 (c o r v l : Int) (b : Nat) (hb : b < 256) (cc pulled : Int) (hcc : CC cc) (q0 : 0 ≤ pulled) (q1 : pulled < 256) (ho : ¬ o = 49) (w : World) (hT : KindsAt w) : Calls Tryd.prog 8 #[.agg #[.int .i64 2, .int .u8 c, .int .i64 o, .int .i64 4, .int .i64 r, .int .u8 (b : Int), .int .u16 v, .int .i64 l], .int .u8 cc, .int .u8 pulled] w (GivesR w (ofL 2 o 4 b (holdsX r cc) (decide (127 < pulled)))) := by
  have hO : Hid (ofL 2 o 4 b (holdsX r cc) (decide (127 < pulled)) = [[[someL 1 2, aheadL 4].flatten, behindL (poBytes (poK b)) (poIdle (poK b)) (poI b)].flatten, tailL o 4 (holdsX r cc) (cntN b)].flatten) := Lib.hid (by
    have hN : (if (2 : Int) = 2 ∨ (2 : Int) = 3 then 2 else 1) = 2 := rfl
    unfold ofL
    rw [hN]
    simp only [if_neg ho, if_true])
  have L0 : [someL 1 2, aheadL 4].flatten.length ≤ 100 := by have := aheadL_len 4; rw [len2, someL_len]; omega
  have hpo := allB 14 _ po_le (poK b) (poK_lt b hb)
  rw [Bool.and_eq_true, Nat.ble_eq, Nat.ble_eq] at hpo
  have L1 : [[someL 1 2, aheadL 4].flatten, behindL (poBytes (poK b)) (poIdle (poK b)) (poI b)].flatten.length ≤ 200 := by have := behindL_len (poBytes (poK b)) (poIdle (poK b)) (poI b); rw [len2]; omega
  have hcn := Nat.le_of_ble_eq_true (allB 256 _ cnt12 b hb)
  have L2 : [[[someL 1 2, aheadL 4].flatten, behindL (poBytes (poK b)) (poIdle (poK b)) (poI b)].flatten, tailL o 4 (holdsX r cc) (cntN b)].flatten.length ≤ 400 := by have := tailL_len o 4 (holdsX r cc) (cntN b); rw [len2]; omega
  have HT := Lib.hid (KindsAt.bel hT (Below.drew0 (Below.alloc0 (Below.refl _ w) (Obj.cells #[.int .i64 2, .int .u8 c, .int .i64 o, .int .i64 4, .int .i64 r, .int .u8 (b : Int), .int .u16 v, .int .i64 l] 27))))
  have HK0 := Lib.hid (show Blk (w.alloc (Obj.cells #[.int .i64 2, .int .u8 c, .int .i64 o, .int .i64 4, .int .i64 r, .int .u8 (b : Int), .int .u16 v, .int .i64 l] 27)).drew w.heap.size 27 #[.int .i64 2, .int .u8 c, .int .i64 o, .int .i64 4, .int .i64 r, .int .u8 (b : Int), .int .u16 v, .int .i64 l] from Blk.new w 27 #[.int .i64 2, .int .u8 c, .int .i64 o, .int .i64 4, .int .i64 r, .int .u8 (b : Int), .int .u16 v, .int .i64 l] (0, 0))
  have B0 := Lib.hid (Below.drew0 (Below.alloc0 (Below.refl w.heap.size w) (Obj.cells #[.int .i64 2, .int .u8 c, .int .i64 o, .int .i64 4, .int .i64 r, .int .u8 (b : Int), .int .u16 v, .int .i64 l] 27)))
  have TA := Lib.hid (fun w => tail_st o 4 r cc b hb hcc w)
  have AH := Lib.hid (fun w => ahead_st 4 w)
  have M0 := Lib.hid (show [someL 1 2, aheadL 4].flatten.length ≤ 1099511627776 by omega)
  have M1 := Lib.hid (show [[someL 1 2, aheadL 4].flatten, behindL (poBytes (poK b)) (poIdle (poK b)) (poI b)].flatten.length ≤ 1099511627776 by omega)
  have M2 := Lib.hid (show [[[someL 1 2, aheadL 4].flatten, behindL (poBytes (poK b)) (poIdle (poK b)) (poI b)].flatten, tailL o 4 (holdsX r cc) (cntN b)].flatten.length ≤ 1099511627776 by omega)
  have PO := Lib.hid (fun w hT => of_any b hb w hT)
  have BE := Lib.hid (fun w => behind_st (poK b) (poK_lt b hb) (poR b) (poO b) (poI b) w)
  have e5 : (o == 49) = false := ne_beqR ho
  clear L0 L1 L2 hcn hT hpo ho
  go_enter Tryd.func8, Tryd.ntmps8
  go_upto_region 4 with (fail)
  go_region_held3 (fun w' => w'.cell? ⟨w.heap.size, 0, none⟩ = some (.int .i64 2) ∧ w'.cell? ⟨w.heap.size, 1, none⟩ = some (.int .u8 c) ∧ w'.cell? ⟨w.heap.size, 2, none⟩ = some (.int .i64 o) ∧ w'.cell? ⟨w.heap.size, 3, none⟩ = some (.int .i64 4) ∧ w'.cell? ⟨w.heap.size, 4, none⟩ = some (.int .i64 r) ∧ w'.cell? ⟨w.heap.size, 5, none⟩ = some (.int .u8 (b : Int)) ∧ w'.cell? ⟨w.heap.size, 6, none⟩ = some (.int .u16 v) ∧ w'.cell? ⟨w.heap.size, 7, none⟩ = some (.int .i64 l))
    (first
      | (with_reducible exact blkI HK0.out)
      | (with_reducible exact blkI HK1.out)
      | (with_reducible exact blkI HK2.out)
      | (with_reducible exact blkI HK3.out)
      | (with_reducible exact blkI HK4.out))
    (first
      | (go_at_call 24; ((with_reducible refine (some_st 1 2 2 rfl (by decide) _).mono ?_); rintro e w1 ⟨v1, rfl, hr, hb⟩; obtain ⟨A1, n1, c1, rfl⟩ := hr.isSl; have R1 := Lib.hid hr; have HK1 := Lib.hid (Blk.below HK0.out hb HK0.out.lt); have B1 := Lib.hid (Below.trans0 B0.out hb); have HT1 := Lib.hid (KindsAt.bel HT.out hb); clear hr hb))
      | (go_at_call 25; ((with_reducible refine (AH.out _).mono ?_); rintro e w2 ⟨v2, rfl, hr, hb⟩; obtain ⟨A2, n2, c2, rfl⟩ := hr.isSl; have R1' := Lib.hid (R1.out.below hb); have R2 := Lib.hid hr; have HK2 := Lib.hid (Blk.below HK1.out hb HK1.out.lt); have B2 := Lib.hid (Below.trans0 B1.out hb); have HT2 := Lib.hid (KindsAt.bel HT1.out hb); have HK3 := Lib.hid (Blk.alloc HK2.out (Obj.cells #[.slice A1 n1 c1, .slice A2 n2 c2] 31)); clear hr hb))
      | (go_at_call 23; (refine (row2_any _ _ _ _ _ R1'.out R2.out M0.out).mono ?_; rintro e w3 ⟨v3, rfl, hr, hb⟩; obtain ⟨A3, n3, c3, rfl⟩ := hr.isSl; have R3 := Lib.hid hr; have HK4 := Lib.hid (Blk.below HK2.out hb HK2.out.lt); have B3 := Lib.hid (Below.trans0 B2.out hb); have HT3 := Lib.hid (KindsAt.bel HT2.out hb); clear hr hb)))
  obtain ⟨i0, i1, i2, i3, i4, i5, i6, i7⟩ := blkI HK4.out
  have HK := HK4
  have HT := HT3
  have B := B3
  have R := R3
  clear R1 R2 R1' HK0 HK1 HK2 HK3 HK4 B0 B1 B2 B3 HT1 HT2 HT3 R3 M0 AH
  go_wp2_with fail
  refine (PO.out _ HT.out).mono ?_
  rintro e w4 ⟨rfl, hb⟩
  replace R := Lib.hid (R.out.below hb)
  replace HK := Lib.hid (Blk.below HK.out hb HK.out.lt)
  replace HT := Lib.hid (KindsAt.bel HT.out hb)
  replace B := Lib.hid (Below.trans0 B.out hb)
  clear hb
  clear i0 i1 i2 i3 i4 i5 i6 i7
  obtain ⟨i0, i1, i2, i3, i4, i5, i6, i7⟩ := blkI HK.out
  go_wp2_with fail
  refine (BE.out _).mono ?_
  rintro e w5 ⟨v5, rfl, hr, hb⟩
  obtain ⟨A5, n5, c5, rfl⟩ := hr.isSl
  replace R := Lib.hid (R.out.below hb)
  have R5 := Lib.hid hr
  replace HK := Lib.hid (Blk.below HK.out hb HK.out.lt)
  replace HT := Lib.hid (KindsAt.bel HT.out hb)
  replace B := Lib.hid (Below.trans0 B.out hb)
  clear hr hb
  clear i0 i1 i2 i3 i4 i5 i6 i7
  obtain ⟨i0, i1, i2, i3, i4, i5, i6, i7⟩ := blkI HK.out
  go_wp2_with fail
  refine (row2_any _ _ _ _ _ R.out R5.out M1.out).mono ?_
  rintro e w6 ⟨v6, rfl, hr, hb⟩
  obtain ⟨A6, n6, c6, rfl⟩ := hr.isSl
  clear R R5
  have R := Lib.hid hr
  replace HK := Lib.hid (Blk.below HK.out hb HK.out.lt)
  replace B := Lib.hid (Below.trans0 B.out hb)
  clear hr hb
  clear i0 i1 i2 i3 i4 i5 i6 i7
  obtain ⟨i0, i1, i2, i3, i4, i5, i6, i7⟩ := blkI HK.out
  go_wp2_with fail
  refine (TA.out _).mono ?_
  rintro e w7 ⟨v7, rfl, hr, hb⟩
  obtain ⟨A7, n7, c7, rfl⟩ := hr.isSl
  replace R := Lib.hid (R.out.below hb)
  have R7 := Lib.hid hr
  replace HK := Lib.hid (Blk.below HK.out hb HK.out.lt)
  replace B := Lib.hid (Below.trans0 B.out hb)
  clear hr hb
  clear i0 i1 i2 i3 i4 i5 i6 i7
  obtain ⟨i0, i1, i2, i3, i4, i5, i6, i7⟩ := blkI HK.out
  go_wp2_with fail
  refine (row2_any _ _ _ _ _ R.out R7.out M2.out).mono ?_
  rintro e w8 ⟨v8, rfl, hr, hb⟩
  obtain ⟨A8, n8, c8, rfl⟩ := hr.isSl
  clear R R7
  have R := Lib.hid hr
  replace HK := Lib.hid (Blk.below HK.out hb HK.out.lt)
  replace B := Lib.hid (Below.trans0 B.out hb)
  clear hr hb
  clear i0 i1 i2 i3 i4 i5 i6 i7
  obtain ⟨i0, i1, i2, i3, i4, i5, i6, i7⟩ := blkI HK.out
  go_wp2
  go_ret
  exact ⟨_, rfl, by rw [hO.out]; exact R.out, B.out⟩
set_option maxRecDepth 100000 in
set_option maxHeartbeats 8000000 in
theorem rowsOf_3 (c m r v l : Int) (b : Nat) (hb : b < 256) (cc pulled : Int) (hcc : CC cc) (q0 : 0 ≤ pulled) (q1 : pulled < 256) (hm : ¬ m = 4) (w : World) (hT : KindsAt w) : Calls Tryd.prog 8 #[.agg #[.int .i64 2, .int .u8 c, .int .i64 49, .int .i64 m, .int .i64 r, .int .u8 (b : Int), .int .u16 v, .int .i64 l], .int .u8 cc, .int .u8 pulled] w (GivesR w (ofL 2 49 m b (holdsX r cc) (decide (127 < pulled)))) := by
  have hO : Hid (ofL 2 49 m b (holdsX r cc) (decide (127 < pulled)) = [[[someL 1 2, aheadL m].flatten, tailL 49 m (holdsX r cc) (cntN b)].flatten, restL (decide (127 < pulled))].flatten) := Lib.hid (by
    have hN : (if (2 : Int) = 2 ∨ (2 : Int) = 3 then 2 else 1) = 2 := rfl
    unfold ofL
    rw [hN]
    simp only [if_neg hm, if_true])
  have L0 : [someL 1 2, aheadL m].flatten.length ≤ 100 := by have := aheadL_len m; rw [len2, someL_len]; omega
  have L1 : [someL 1 2, aheadL m].flatten.length ≤ 200 := by omega
  have hcn := Nat.le_of_ble_eq_true (allB 256 _ cnt12 b hb)
  have L2 : [[someL 1 2, aheadL m].flatten, tailL 49 m (holdsX r cc) (cntN b)].flatten.length ≤ 400 := by have := tailL_len 49 m (holdsX r cc) (cntN b); rw [len2]; omega
  have L3 : [[[someL 1 2, aheadL m].flatten, tailL 49 m (holdsX r cc) (cntN b)].flatten, restL (decide (127 < pulled))].flatten.length ≤ 800 := by have := restL_len (decide (127 < pulled)); rw [len2]; omega
  have HT := Lib.hid (KindsAt.bel hT (Below.drew0 (Below.alloc0 (Below.refl _ w) (Obj.cells #[.int .i64 2, .int .u8 c, .int .i64 49, .int .i64 m, .int .i64 r, .int .u8 (b : Int), .int .u16 v, .int .i64 l] 27))))
  have HK0 := Lib.hid (show Blk (w.alloc (Obj.cells #[.int .i64 2, .int .u8 c, .int .i64 49, .int .i64 m, .int .i64 r, .int .u8 (b : Int), .int .u16 v, .int .i64 l] 27)).drew w.heap.size 27 #[.int .i64 2, .int .u8 c, .int .i64 49, .int .i64 m, .int .i64 r, .int .u8 (b : Int), .int .u16 v, .int .i64 l] from Blk.new w 27 #[.int .i64 2, .int .u8 c, .int .i64 49, .int .i64 m, .int .i64 r, .int .u8 (b : Int), .int .u16 v, .int .i64 l] (0, 0))
  have B0 := Lib.hid (Below.drew0 (Below.alloc0 (Below.refl w.heap.size w) (Obj.cells #[.int .i64 2, .int .u8 c, .int .i64 49, .int .i64 m, .int .i64 r, .int .u8 (b : Int), .int .u16 v, .int .i64 l] 27)))
  have TA := Lib.hid (fun w => tail_st 49 m r cc b hb hcc w)
  have AH := Lib.hid (fun w => ahead_st m w)
  have M0 := Lib.hid (show [someL 1 2, aheadL m].flatten.length ≤ 1099511627776 by omega)
  have M1 := Lib.hid (show [someL 1 2, aheadL m].flatten.length ≤ 1099511627776 by omega)
  have M2 := Lib.hid (show [[someL 1 2, aheadL m].flatten, tailL 49 m (holdsX r cc) (cntN b)].flatten.length ≤ 1099511627776 by omega)
  have M3 := Lib.hid (show [[[someL 1 2, aheadL m].flatten, tailL 49 m (holdsX r cc) (cntN b)].flatten, restL (decide (127 < pulled))].flatten.length ≤ 1099511627776 by omega)
  have RE := Lib.hid (fun w => rest_st pulled q0 q1 w)
  have e4 : (m == 4) = false := ne_beqR hm
  clear L0 L1 L2 hcn hT L3 hm
  go_enter Tryd.func8, Tryd.ntmps8
  go_upto_region 4 with (fail)
  go_region_held3 (fun w' => w'.cell? ⟨w.heap.size, 0, none⟩ = some (.int .i64 2) ∧ w'.cell? ⟨w.heap.size, 1, none⟩ = some (.int .u8 c) ∧ w'.cell? ⟨w.heap.size, 2, none⟩ = some (.int .i64 49) ∧ w'.cell? ⟨w.heap.size, 3, none⟩ = some (.int .i64 m) ∧ w'.cell? ⟨w.heap.size, 4, none⟩ = some (.int .i64 r) ∧ w'.cell? ⟨w.heap.size, 5, none⟩ = some (.int .u8 (b : Int)) ∧ w'.cell? ⟨w.heap.size, 6, none⟩ = some (.int .u16 v) ∧ w'.cell? ⟨w.heap.size, 7, none⟩ = some (.int .i64 l))
    (first
      | (with_reducible exact blkI HK0.out)
      | (with_reducible exact blkI HK1.out)
      | (with_reducible exact blkI HK2.out)
      | (with_reducible exact blkI HK3.out)
      | (with_reducible exact blkI HK4.out))
    (first
      | (go_at_call 24; ((with_reducible refine (some_st 1 2 2 rfl (by decide) _).mono ?_); rintro e w1 ⟨v1, rfl, hr, hb⟩; obtain ⟨A1, n1, c1, rfl⟩ := hr.isSl; have R1 := Lib.hid hr; have HK1 := Lib.hid (Blk.below HK0.out hb HK0.out.lt); have B1 := Lib.hid (Below.trans0 B0.out hb); have HT1 := Lib.hid (KindsAt.bel HT.out hb); clear hr hb))
      | (go_at_call 25; ((with_reducible refine (AH.out _).mono ?_); rintro e w2 ⟨v2, rfl, hr, hb⟩; obtain ⟨A2, n2, c2, rfl⟩ := hr.isSl; have R1' := Lib.hid (R1.out.below hb); have R2 := Lib.hid hr; have HK2 := Lib.hid (Blk.below HK1.out hb HK1.out.lt); have B2 := Lib.hid (Below.trans0 B1.out hb); have HT2 := Lib.hid (KindsAt.bel HT1.out hb); have HK3 := Lib.hid (Blk.alloc HK2.out (Obj.cells #[.slice A1 n1 c1, .slice A2 n2 c2] 31)); clear hr hb))
      | (go_at_call 23; (refine (row2_any _ _ _ _ _ R1'.out R2.out M0.out).mono ?_; rintro e w3 ⟨v3, rfl, hr, hb⟩; obtain ⟨A3, n3, c3, rfl⟩ := hr.isSl; have R3 := Lib.hid hr; have HK4 := Lib.hid (Blk.below HK2.out hb HK2.out.lt); have B3 := Lib.hid (Below.trans0 B2.out hb); have HT3 := Lib.hid (KindsAt.bel HT2.out hb); clear hr hb)))
  obtain ⟨i0, i1, i2, i3, i4, i5, i6, i7⟩ := blkI HK4.out
  have HK := HK4
  have HT := HT3
  have B := B3
  have R := R3
  clear R1 R2 R1' HK0 HK1 HK2 HK3 HK4 B0 B1 B2 B3 HT1 HT2 HT3 R3 M0 AH
  go_wp2_with fail
  refine (TA.out _).mono ?_
  rintro e w7 ⟨v7, rfl, hr, hb⟩
  obtain ⟨A7, n7, c7, rfl⟩ := hr.isSl
  replace R := Lib.hid (R.out.below hb)
  have R7 := Lib.hid hr
  replace HK := Lib.hid (Blk.below HK.out hb HK.out.lt)
  replace B := Lib.hid (Below.trans0 B.out hb)
  clear hr hb
  clear i0 i1 i2 i3 i4 i5 i6 i7
  obtain ⟨i0, i1, i2, i3, i4, i5, i6, i7⟩ := blkI HK.out
  go_wp2_with fail
  refine (row2_any _ _ _ _ _ R.out R7.out M2.out).mono ?_
  rintro e w8 ⟨v8, rfl, hr, hb⟩
  obtain ⟨A8, n8, c8, rfl⟩ := hr.isSl
  clear R R7
  have R := Lib.hid hr
  replace HK := Lib.hid (Blk.below HK.out hb HK.out.lt)
  replace B := Lib.hid (Below.trans0 B.out hb)
  clear hr hb
  clear i0 i1 i2 i3 i4 i5 i6 i7
  obtain ⟨i0, i1, i2, i3, i4, i5, i6, i7⟩ := blkI HK.out
  go_wp2_with fail
  refine (RE.out _).mono ?_
  rintro e w9 ⟨v9, rfl, hr, hb⟩
  obtain ⟨A9, n9, c9, rfl⟩ := hr.isSl
  replace R := Lib.hid (R.out.below hb)
  have R9 := Lib.hid hr
  replace HK := Lib.hid (Blk.below HK.out hb HK.out.lt)
  replace B := Lib.hid (Below.trans0 B.out hb)
  clear hr hb
  clear i0 i1 i2 i3 i4 i5 i6 i7
  obtain ⟨i0, i1, i2, i3, i4, i5, i6, i7⟩ := blkI HK.out
  go_wp2_with fail
  refine (row2_any _ _ _ _ _ R.out R9.out M3.out).mono ?_
  rintro e w10 ⟨v10, rfl, hr, hb⟩
  obtain ⟨A10, n10, c10, rfl⟩ := hr.isSl
  clear R R9
  have R := Lib.hid hr
  replace B := Lib.hid (Below.trans0 B.out hb)
  clear hr hb
  go_wp2
  go_ret
  exact ⟨_, rfl, by rw [hO.out]; exact R.out, B.out⟩
set_option maxRecDepth 100000 in
set_option maxHeartbeats 8000000 in
theorem rowsOf_4 (c o m r v l : Int) (b : Nat) (hb : b < 256) (cc pulled : Int) (hcc : CC cc) (q0 : 0 ≤ pulled) (q1 : pulled < 256) (hm : ¬ m = 4) (ho : ¬ o = 49) (w : World) (hT : KindsAt w) : Calls Tryd.prog 8 #[.agg #[.int .i64 2, .int .u8 c, .int .i64 o, .int .i64 m, .int .i64 r, .int .u8 (b : Int), .int .u16 v, .int .i64 l], .int .u8 cc, .int .u8 pulled] w (GivesR w (ofL 2 o m b (holdsX r cc) (decide (127 < pulled)))) := by
  have hO : Hid (ofL 2 o m b (holdsX r cc) (decide (127 < pulled)) = [[someL 1 2, aheadL m].flatten, tailL o m (holdsX r cc) (cntN b)].flatten) := Lib.hid (by
    have hN : (if (2 : Int) = 2 ∨ (2 : Int) = 3 then 2 else 1) = 2 := rfl
    unfold ofL
    rw [hN]
    simp only [if_neg hm, if_neg ho])
  have L0 : [someL 1 2, aheadL m].flatten.length ≤ 100 := by have := aheadL_len m; rw [len2, someL_len]; omega
  have L1 : [someL 1 2, aheadL m].flatten.length ≤ 200 := by omega
  have hcn := Nat.le_of_ble_eq_true (allB 256 _ cnt12 b hb)
  have L2 : [[someL 1 2, aheadL m].flatten, tailL o m (holdsX r cc) (cntN b)].flatten.length ≤ 400 := by have := tailL_len o m (holdsX r cc) (cntN b); rw [len2]; omega
  have HT := Lib.hid (KindsAt.bel hT (Below.drew0 (Below.alloc0 (Below.refl _ w) (Obj.cells #[.int .i64 2, .int .u8 c, .int .i64 o, .int .i64 m, .int .i64 r, .int .u8 (b : Int), .int .u16 v, .int .i64 l] 27))))
  have HK0 := Lib.hid (show Blk (w.alloc (Obj.cells #[.int .i64 2, .int .u8 c, .int .i64 o, .int .i64 m, .int .i64 r, .int .u8 (b : Int), .int .u16 v, .int .i64 l] 27)).drew w.heap.size 27 #[.int .i64 2, .int .u8 c, .int .i64 o, .int .i64 m, .int .i64 r, .int .u8 (b : Int), .int .u16 v, .int .i64 l] from Blk.new w 27 #[.int .i64 2, .int .u8 c, .int .i64 o, .int .i64 m, .int .i64 r, .int .u8 (b : Int), .int .u16 v, .int .i64 l] (0, 0))
  have B0 := Lib.hid (Below.drew0 (Below.alloc0 (Below.refl w.heap.size w) (Obj.cells #[.int .i64 2, .int .u8 c, .int .i64 o, .int .i64 m, .int .i64 r, .int .u8 (b : Int), .int .u16 v, .int .i64 l] 27)))
  have TA := Lib.hid (fun w => tail_st o m r cc b hb hcc w)
  have AH := Lib.hid (fun w => ahead_st m w)
  have M0 := Lib.hid (show [someL 1 2, aheadL m].flatten.length ≤ 1099511627776 by omega)
  have M1 := Lib.hid (show [someL 1 2, aheadL m].flatten.length ≤ 1099511627776 by omega)
  have M2 := Lib.hid (show [[someL 1 2, aheadL m].flatten, tailL o m (holdsX r cc) (cntN b)].flatten.length ≤ 1099511627776 by omega)
  have e4 : (m == 4) = false := ne_beqR hm
  have e5 : (o == 49) = false := ne_beqR ho
  clear L0 L1 L2 hcn hT hm ho
  go_enter Tryd.func8, Tryd.ntmps8
  go_upto_region 4 with (fail)
  go_region_held3 (fun w' => w'.cell? ⟨w.heap.size, 0, none⟩ = some (.int .i64 2) ∧ w'.cell? ⟨w.heap.size, 1, none⟩ = some (.int .u8 c) ∧ w'.cell? ⟨w.heap.size, 2, none⟩ = some (.int .i64 o) ∧ w'.cell? ⟨w.heap.size, 3, none⟩ = some (.int .i64 m) ∧ w'.cell? ⟨w.heap.size, 4, none⟩ = some (.int .i64 r) ∧ w'.cell? ⟨w.heap.size, 5, none⟩ = some (.int .u8 (b : Int)) ∧ w'.cell? ⟨w.heap.size, 6, none⟩ = some (.int .u16 v) ∧ w'.cell? ⟨w.heap.size, 7, none⟩ = some (.int .i64 l))
    (first
      | (with_reducible exact blkI HK0.out)
      | (with_reducible exact blkI HK1.out)
      | (with_reducible exact blkI HK2.out)
      | (with_reducible exact blkI HK3.out)
      | (with_reducible exact blkI HK4.out))
    (first
      | (go_at_call 24; ((with_reducible refine (some_st 1 2 2 rfl (by decide) _).mono ?_); rintro e w1 ⟨v1, rfl, hr, hb⟩; obtain ⟨A1, n1, c1, rfl⟩ := hr.isSl; have R1 := Lib.hid hr; have HK1 := Lib.hid (Blk.below HK0.out hb HK0.out.lt); have B1 := Lib.hid (Below.trans0 B0.out hb); have HT1 := Lib.hid (KindsAt.bel HT.out hb); clear hr hb))
      | (go_at_call 25; ((with_reducible refine (AH.out _).mono ?_); rintro e w2 ⟨v2, rfl, hr, hb⟩; obtain ⟨A2, n2, c2, rfl⟩ := hr.isSl; have R1' := Lib.hid (R1.out.below hb); have R2 := Lib.hid hr; have HK2 := Lib.hid (Blk.below HK1.out hb HK1.out.lt); have B2 := Lib.hid (Below.trans0 B1.out hb); have HT2 := Lib.hid (KindsAt.bel HT1.out hb); have HK3 := Lib.hid (Blk.alloc HK2.out (Obj.cells #[.slice A1 n1 c1, .slice A2 n2 c2] 31)); clear hr hb))
      | (go_at_call 23; (refine (row2_any _ _ _ _ _ R1'.out R2.out M0.out).mono ?_; rintro e w3 ⟨v3, rfl, hr, hb⟩; obtain ⟨A3, n3, c3, rfl⟩ := hr.isSl; have R3 := Lib.hid hr; have HK4 := Lib.hid (Blk.below HK2.out hb HK2.out.lt); have B3 := Lib.hid (Below.trans0 B2.out hb); have HT3 := Lib.hid (KindsAt.bel HT2.out hb); clear hr hb)))
  obtain ⟨i0, i1, i2, i3, i4, i5, i6, i7⟩ := blkI HK4.out
  have HK := HK4
  have HT := HT3
  have B := B3
  have R := R3
  clear R1 R2 R1' HK0 HK1 HK2 HK3 HK4 B0 B1 B2 B3 HT1 HT2 HT3 R3 M0 AH
  go_wp2_with fail
  refine (TA.out _).mono ?_
  rintro e w7 ⟨v7, rfl, hr, hb⟩
  obtain ⟨A7, n7, c7, rfl⟩ := hr.isSl
  replace R := Lib.hid (R.out.below hb)
  have R7 := Lib.hid hr
  replace HK := Lib.hid (Blk.below HK.out hb HK.out.lt)
  replace B := Lib.hid (Below.trans0 B.out hb)
  clear hr hb
  clear i0 i1 i2 i3 i4 i5 i6 i7
  obtain ⟨i0, i1, i2, i3, i4, i5, i6, i7⟩ := blkI HK.out
  go_wp2_with fail
  refine (row2_any _ _ _ _ _ R.out R7.out M2.out).mono ?_
  rintro e w8 ⟨v8, rfl, hr, hb⟩
  obtain ⟨A8, n8, c8, rfl⟩ := hr.isSl
  clear R R7
  have R := Lib.hid hr
  replace HK := Lib.hid (Blk.below HK.out hb HK.out.lt)
  replace B := Lib.hid (Below.trans0 B.out hb)
  clear hr hb
  clear i0 i1 i2 i3 i4 i5 i6 i7
  obtain ⟨i0, i1, i2, i3, i4, i5, i6, i7⟩ := blkI HK.out
  go_wp2
  go_ret
  exact ⟨_, rfl, by rw [hO.out]; exact R.out, B.out⟩
set_option maxRecDepth 100000 in
set_option maxHeartbeats 8000000 in
theorem rowsOf_5 (c r v l : Int) (b : Nat) (hb : b < 256) (cc pulled : Int) (hcc : CC cc) (q0 : 0 ≤ pulled) (q1 : pulled < 256) (w : World) (hT : KindsAt w) : Calls Tryd.prog 8 #[.agg #[.int .i64 3, .int .u8 c, .int .i64 49, .int .i64 4, .int .i64 r, .int .u8 (b : Int), .int .u16 v, .int .i64 l], .int .u8 cc, .int .u8 pulled] w (GivesR w (ofL 3 49 4 b (holdsX r cc) (decide (127 < pulled)))) := by
  have hO : Hid (ofL 3 49 4 b (holdsX r cc) (decide (127 < pulled)) = [[[[someL 1 2, aheadL 4].flatten, behindL (poBytes (poK b)) (poIdle (poK b)) (poI b)].flatten, tailL 49 4 (holdsX r cc) (cntN b)].flatten, restL (decide (127 < pulled))].flatten) := Lib.hid (by
    have hN : (if (3 : Int) = 2 ∨ (3 : Int) = 3 then 2 else 1) = 2 := rfl
    unfold ofL
    rw [hN]
    simp only [if_true])
  have L0 : [someL 1 2, aheadL 4].flatten.length ≤ 100 := by have := aheadL_len 4; rw [len2, someL_len]; omega
  have hpo := allB 14 _ po_le (poK b) (poK_lt b hb)
  rw [Bool.and_eq_true, Nat.ble_eq, Nat.ble_eq] at hpo
  have L1 : [[someL 1 2, aheadL 4].flatten, behindL (poBytes (poK b)) (poIdle (poK b)) (poI b)].flatten.length ≤ 200 := by have := behindL_len (poBytes (poK b)) (poIdle (poK b)) (poI b); rw [len2]; omega
  have hcn := Nat.le_of_ble_eq_true (allB 256 _ cnt12 b hb)
  have L2 : [[[someL 1 2, aheadL 4].flatten, behindL (poBytes (poK b)) (poIdle (poK b)) (poI b)].flatten, tailL 49 4 (holdsX r cc) (cntN b)].flatten.length ≤ 400 := by have := tailL_len 49 4 (holdsX r cc) (cntN b); rw [len2]; omega
  have L3 : [[[[someL 1 2, aheadL 4].flatten, behindL (poBytes (poK b)) (poIdle (poK b)) (poI b)].flatten, tailL 49 4 (holdsX r cc) (cntN b)].flatten, restL (decide (127 < pulled))].flatten.length ≤ 800 := by have := restL_len (decide (127 < pulled)); rw [len2]; omega
  have HT := Lib.hid (KindsAt.bel hT (Below.drew0 (Below.alloc0 (Below.refl _ w) (Obj.cells #[.int .i64 3, .int .u8 c, .int .i64 49, .int .i64 4, .int .i64 r, .int .u8 (b : Int), .int .u16 v, .int .i64 l] 27))))
  have HK0 := Lib.hid (show Blk (w.alloc (Obj.cells #[.int .i64 3, .int .u8 c, .int .i64 49, .int .i64 4, .int .i64 r, .int .u8 (b : Int), .int .u16 v, .int .i64 l] 27)).drew w.heap.size 27 #[.int .i64 3, .int .u8 c, .int .i64 49, .int .i64 4, .int .i64 r, .int .u8 (b : Int), .int .u16 v, .int .i64 l] from Blk.new w 27 #[.int .i64 3, .int .u8 c, .int .i64 49, .int .i64 4, .int .i64 r, .int .u8 (b : Int), .int .u16 v, .int .i64 l] (0, 0))
  have B0 := Lib.hid (Below.drew0 (Below.alloc0 (Below.refl w.heap.size w) (Obj.cells #[.int .i64 3, .int .u8 c, .int .i64 49, .int .i64 4, .int .i64 r, .int .u8 (b : Int), .int .u16 v, .int .i64 l] 27)))
  have TA := Lib.hid (fun w => tail_st 49 4 r cc b hb hcc w)
  have AH := Lib.hid (fun w => ahead_st 4 w)
  have M0 := Lib.hid (show [someL 1 2, aheadL 4].flatten.length ≤ 1099511627776 by omega)
  have M1 := Lib.hid (show [[someL 1 2, aheadL 4].flatten, behindL (poBytes (poK b)) (poIdle (poK b)) (poI b)].flatten.length ≤ 1099511627776 by omega)
  have M2 := Lib.hid (show [[[someL 1 2, aheadL 4].flatten, behindL (poBytes (poK b)) (poIdle (poK b)) (poI b)].flatten, tailL 49 4 (holdsX r cc) (cntN b)].flatten.length ≤ 1099511627776 by omega)
  have M3 := Lib.hid (show [[[[someL 1 2, aheadL 4].flatten, behindL (poBytes (poK b)) (poIdle (poK b)) (poI b)].flatten, tailL 49 4 (holdsX r cc) (cntN b)].flatten, restL (decide (127 < pulled))].flatten.length ≤ 1099511627776 by omega)
  have RE := Lib.hid (fun w => rest_st pulled q0 q1 w)
  have PO := Lib.hid (fun w hT => of_any b hb w hT)
  have BE := Lib.hid (fun w => behind_st (poK b) (poK_lt b hb) (poR b) (poO b) (poI b) w)
  clear L0 L1 L2 hcn hT L3 hpo
  go_enter Tryd.func8, Tryd.ntmps8
  go_upto_region 4 with (fail)
  go_region_held3 (fun w' => w'.cell? ⟨w.heap.size, 0, none⟩ = some (.int .i64 3) ∧ w'.cell? ⟨w.heap.size, 1, none⟩ = some (.int .u8 c) ∧ w'.cell? ⟨w.heap.size, 2, none⟩ = some (.int .i64 49) ∧ w'.cell? ⟨w.heap.size, 3, none⟩ = some (.int .i64 4) ∧ w'.cell? ⟨w.heap.size, 4, none⟩ = some (.int .i64 r) ∧ w'.cell? ⟨w.heap.size, 5, none⟩ = some (.int .u8 (b : Int)) ∧ w'.cell? ⟨w.heap.size, 6, none⟩ = some (.int .u16 v) ∧ w'.cell? ⟨w.heap.size, 7, none⟩ = some (.int .i64 l))
    (first
      | (with_reducible exact blkI HK0.out)
      | (with_reducible exact blkI HK1.out)
      | (with_reducible exact blkI HK2.out)
      | (with_reducible exact blkI HK3.out)
      | (with_reducible exact blkI HK4.out))
    (first
      | (go_at_call 24; ((with_reducible refine (some_st 1 2 2 rfl (by decide) _).mono ?_); rintro e w1 ⟨v1, rfl, hr, hb⟩; obtain ⟨A1, n1, c1, rfl⟩ := hr.isSl; have R1 := Lib.hid hr; have HK1 := Lib.hid (Blk.below HK0.out hb HK0.out.lt); have B1 := Lib.hid (Below.trans0 B0.out hb); have HT1 := Lib.hid (KindsAt.bel HT.out hb); clear hr hb))
      | (go_at_call 25; ((with_reducible refine (AH.out _).mono ?_); rintro e w2 ⟨v2, rfl, hr, hb⟩; obtain ⟨A2, n2, c2, rfl⟩ := hr.isSl; have R1' := Lib.hid (R1.out.below hb); have R2 := Lib.hid hr; have HK2 := Lib.hid (Blk.below HK1.out hb HK1.out.lt); have B2 := Lib.hid (Below.trans0 B1.out hb); have HT2 := Lib.hid (KindsAt.bel HT1.out hb); have HK3 := Lib.hid (Blk.alloc HK2.out (Obj.cells #[.slice A1 n1 c1, .slice A2 n2 c2] 31)); clear hr hb))
      | (go_at_call 23; (refine (row2_any _ _ _ _ _ R1'.out R2.out M0.out).mono ?_; rintro e w3 ⟨v3, rfl, hr, hb⟩; obtain ⟨A3, n3, c3, rfl⟩ := hr.isSl; have R3 := Lib.hid hr; have HK4 := Lib.hid (Blk.below HK2.out hb HK2.out.lt); have B3 := Lib.hid (Below.trans0 B2.out hb); have HT3 := Lib.hid (KindsAt.bel HT2.out hb); clear hr hb)))
  obtain ⟨i0, i1, i2, i3, i4, i5, i6, i7⟩ := blkI HK4.out
  have HK := HK4
  have HT := HT3
  have B := B3
  have R := R3
  clear R1 R2 R1' HK0 HK1 HK2 HK3 HK4 B0 B1 B2 B3 HT1 HT2 HT3 R3 M0 AH
  go_wp2_with fail
  refine (PO.out _ HT.out).mono ?_
  rintro e w4 ⟨rfl, hb⟩
  replace R := Lib.hid (R.out.below hb)
  replace HK := Lib.hid (Blk.below HK.out hb HK.out.lt)
  replace HT := Lib.hid (KindsAt.bel HT.out hb)
  replace B := Lib.hid (Below.trans0 B.out hb)
  clear hb
  clear i0 i1 i2 i3 i4 i5 i6 i7
  obtain ⟨i0, i1, i2, i3, i4, i5, i6, i7⟩ := blkI HK.out
  go_wp2_with fail
  refine (BE.out _).mono ?_
  rintro e w5 ⟨v5, rfl, hr, hb⟩
  obtain ⟨A5, n5, c5, rfl⟩ := hr.isSl
  replace R := Lib.hid (R.out.below hb)
  have R5 := Lib.hid hr
  replace HK := Lib.hid (Blk.below HK.out hb HK.out.lt)
  replace HT := Lib.hid (KindsAt.bel HT.out hb)
  replace B := Lib.hid (Below.trans0 B.out hb)
  clear hr hb
  clear i0 i1 i2 i3 i4 i5 i6 i7
  obtain ⟨i0, i1, i2, i3, i4, i5, i6, i7⟩ := blkI HK.out
  go_wp2_with fail
  refine (row2_any _ _ _ _ _ R.out R5.out M1.out).mono ?_
  rintro e w6 ⟨v6, rfl, hr, hb⟩
  obtain ⟨A6, n6, c6, rfl⟩ := hr.isSl
  clear R R5
  have R := Lib.hid hr
  replace HK := Lib.hid (Blk.below HK.out hb HK.out.lt)
  replace B := Lib.hid (Below.trans0 B.out hb)
  clear hr hb
  clear i0 i1 i2 i3 i4 i5 i6 i7
  obtain ⟨i0, i1, i2, i3, i4, i5, i6, i7⟩ := blkI HK.out
  go_wp2_with fail
  refine (TA.out _).mono ?_
  rintro e w7 ⟨v7, rfl, hr, hb⟩
  obtain ⟨A7, n7, c7, rfl⟩ := hr.isSl
  replace R := Lib.hid (R.out.below hb)
  have R7 := Lib.hid hr
  replace HK := Lib.hid (Blk.below HK.out hb HK.out.lt)
  replace B := Lib.hid (Below.trans0 B.out hb)
  clear hr hb
  clear i0 i1 i2 i3 i4 i5 i6 i7
  obtain ⟨i0, i1, i2, i3, i4, i5, i6, i7⟩ := blkI HK.out
  go_wp2_with fail
  refine (row2_any _ _ _ _ _ R.out R7.out M2.out).mono ?_
  rintro e w8 ⟨v8, rfl, hr, hb⟩
  obtain ⟨A8, n8, c8, rfl⟩ := hr.isSl
  clear R R7
  have R := Lib.hid hr
  replace HK := Lib.hid (Blk.below HK.out hb HK.out.lt)
  replace B := Lib.hid (Below.trans0 B.out hb)
  clear hr hb
  clear i0 i1 i2 i3 i4 i5 i6 i7
  obtain ⟨i0, i1, i2, i3, i4, i5, i6, i7⟩ := blkI HK.out
  go_wp2_with fail
  refine (RE.out _).mono ?_
  rintro e w9 ⟨v9, rfl, hr, hb⟩
  obtain ⟨A9, n9, c9, rfl⟩ := hr.isSl
  replace R := Lib.hid (R.out.below hb)
  have R9 := Lib.hid hr
  replace HK := Lib.hid (Blk.below HK.out hb HK.out.lt)
  replace B := Lib.hid (Below.trans0 B.out hb)
  clear hr hb
  clear i0 i1 i2 i3 i4 i5 i6 i7
  obtain ⟨i0, i1, i2, i3, i4, i5, i6, i7⟩ := blkI HK.out
  go_wp2_with fail
  refine (row2_any _ _ _ _ _ R.out R9.out M3.out).mono ?_
  rintro e w10 ⟨v10, rfl, hr, hb⟩
  obtain ⟨A10, n10, c10, rfl⟩ := hr.isSl
  clear R R9
  have R := Lib.hid hr
  replace B := Lib.hid (Below.trans0 B.out hb)
  clear hr hb
  go_wp2
  go_ret
  exact ⟨_, rfl, by rw [hO.out]; exact R.out, B.out⟩
set_option maxRecDepth 100000 in
set_option maxHeartbeats 8000000 in
theorem rowsOf_6 (c o r v l : Int) (b : Nat) (hb : b < 256) (cc pulled : Int) (hcc : CC cc) (q0 : 0 ≤ pulled) (q1 : pulled < 256) (ho : ¬ o = 49) (w : World) (hT : KindsAt w) : Calls Tryd.prog 8 #[.agg #[.int .i64 3, .int .u8 c, .int .i64 o, .int .i64 4, .int .i64 r, .int .u8 (b : Int), .int .u16 v, .int .i64 l], .int .u8 cc, .int .u8 pulled] w (GivesR w (ofL 3 o 4 b (holdsX r cc) (decide (127 < pulled)))) := by
  have hO : Hid (ofL 3 o 4 b (holdsX r cc) (decide (127 < pulled)) = [[[someL 1 2, aheadL 4].flatten, behindL (poBytes (poK b)) (poIdle (poK b)) (poI b)].flatten, tailL o 4 (holdsX r cc) (cntN b)].flatten) := Lib.hid (by
    have hN : (if (3 : Int) = 2 ∨ (3 : Int) = 3 then 2 else 1) = 2 := rfl
    unfold ofL
    rw [hN]
    simp only [if_neg ho, if_true])
  have L0 : [someL 1 2, aheadL 4].flatten.length ≤ 100 := by have := aheadL_len 4; rw [len2, someL_len]; omega
  have hpo := allB 14 _ po_le (poK b) (poK_lt b hb)
  rw [Bool.and_eq_true, Nat.ble_eq, Nat.ble_eq] at hpo
  have L1 : [[someL 1 2, aheadL 4].flatten, behindL (poBytes (poK b)) (poIdle (poK b)) (poI b)].flatten.length ≤ 200 := by have := behindL_len (poBytes (poK b)) (poIdle (poK b)) (poI b); rw [len2]; omega
  have hcn := Nat.le_of_ble_eq_true (allB 256 _ cnt12 b hb)
  have L2 : [[[someL 1 2, aheadL 4].flatten, behindL (poBytes (poK b)) (poIdle (poK b)) (poI b)].flatten, tailL o 4 (holdsX r cc) (cntN b)].flatten.length ≤ 400 := by have := tailL_len o 4 (holdsX r cc) (cntN b); rw [len2]; omega
  have HT := Lib.hid (KindsAt.bel hT (Below.drew0 (Below.alloc0 (Below.refl _ w) (Obj.cells #[.int .i64 3, .int .u8 c, .int .i64 o, .int .i64 4, .int .i64 r, .int .u8 (b : Int), .int .u16 v, .int .i64 l] 27))))
  have HK0 := Lib.hid (show Blk (w.alloc (Obj.cells #[.int .i64 3, .int .u8 c, .int .i64 o, .int .i64 4, .int .i64 r, .int .u8 (b : Int), .int .u16 v, .int .i64 l] 27)).drew w.heap.size 27 #[.int .i64 3, .int .u8 c, .int .i64 o, .int .i64 4, .int .i64 r, .int .u8 (b : Int), .int .u16 v, .int .i64 l] from Blk.new w 27 #[.int .i64 3, .int .u8 c, .int .i64 o, .int .i64 4, .int .i64 r, .int .u8 (b : Int), .int .u16 v, .int .i64 l] (0, 0))
  have B0 := Lib.hid (Below.drew0 (Below.alloc0 (Below.refl w.heap.size w) (Obj.cells #[.int .i64 3, .int .u8 c, .int .i64 o, .int .i64 4, .int .i64 r, .int .u8 (b : Int), .int .u16 v, .int .i64 l] 27)))
  have TA := Lib.hid (fun w => tail_st o 4 r cc b hb hcc w)
  have AH := Lib.hid (fun w => ahead_st 4 w)
  have M0 := Lib.hid (show [someL 1 2, aheadL 4].flatten.length ≤ 1099511627776 by omega)
  have M1 := Lib.hid (show [[someL 1 2, aheadL 4].flatten, behindL (poBytes (poK b)) (poIdle (poK b)) (poI b)].flatten.length ≤ 1099511627776 by omega)
  have M2 := Lib.hid (show [[[someL 1 2, aheadL 4].flatten, behindL (poBytes (poK b)) (poIdle (poK b)) (poI b)].flatten, tailL o 4 (holdsX r cc) (cntN b)].flatten.length ≤ 1099511627776 by omega)
  have PO := Lib.hid (fun w hT => of_any b hb w hT)
  have BE := Lib.hid (fun w => behind_st (poK b) (poK_lt b hb) (poR b) (poO b) (poI b) w)
  have e5 : (o == 49) = false := ne_beqR ho
  clear L0 L1 L2 hcn hT hpo ho
  go_enter Tryd.func8, Tryd.ntmps8
  go_upto_region 4 with (fail)
  go_region_held3 (fun w' => w'.cell? ⟨w.heap.size, 0, none⟩ = some (.int .i64 3) ∧ w'.cell? ⟨w.heap.size, 1, none⟩ = some (.int .u8 c) ∧ w'.cell? ⟨w.heap.size, 2, none⟩ = some (.int .i64 o) ∧ w'.cell? ⟨w.heap.size, 3, none⟩ = some (.int .i64 4) ∧ w'.cell? ⟨w.heap.size, 4, none⟩ = some (.int .i64 r) ∧ w'.cell? ⟨w.heap.size, 5, none⟩ = some (.int .u8 (b : Int)) ∧ w'.cell? ⟨w.heap.size, 6, none⟩ = some (.int .u16 v) ∧ w'.cell? ⟨w.heap.size, 7, none⟩ = some (.int .i64 l))
    (first
      | (with_reducible exact blkI HK0.out)
      | (with_reducible exact blkI HK1.out)
      | (with_reducible exact blkI HK2.out)
      | (with_reducible exact blkI HK3.out)
      | (with_reducible exact blkI HK4.out))
    (first
      | (go_at_call 24; ((with_reducible refine (some_st 1 2 2 rfl (by decide) _).mono ?_); rintro e w1 ⟨v1, rfl, hr, hb⟩; obtain ⟨A1, n1, c1, rfl⟩ := hr.isSl; have R1 := Lib.hid hr; have HK1 := Lib.hid (Blk.below HK0.out hb HK0.out.lt); have B1 := Lib.hid (Below.trans0 B0.out hb); have HT1 := Lib.hid (KindsAt.bel HT.out hb); clear hr hb))
      | (go_at_call 25; ((with_reducible refine (AH.out _).mono ?_); rintro e w2 ⟨v2, rfl, hr, hb⟩; obtain ⟨A2, n2, c2, rfl⟩ := hr.isSl; have R1' := Lib.hid (R1.out.below hb); have R2 := Lib.hid hr; have HK2 := Lib.hid (Blk.below HK1.out hb HK1.out.lt); have B2 := Lib.hid (Below.trans0 B1.out hb); have HT2 := Lib.hid (KindsAt.bel HT1.out hb); have HK3 := Lib.hid (Blk.alloc HK2.out (Obj.cells #[.slice A1 n1 c1, .slice A2 n2 c2] 31)); clear hr hb))
      | (go_at_call 23; (refine (row2_any _ _ _ _ _ R1'.out R2.out M0.out).mono ?_; rintro e w3 ⟨v3, rfl, hr, hb⟩; obtain ⟨A3, n3, c3, rfl⟩ := hr.isSl; have R3 := Lib.hid hr; have HK4 := Lib.hid (Blk.below HK2.out hb HK2.out.lt); have B3 := Lib.hid (Below.trans0 B2.out hb); have HT3 := Lib.hid (KindsAt.bel HT2.out hb); clear hr hb)))
  obtain ⟨i0, i1, i2, i3, i4, i5, i6, i7⟩ := blkI HK4.out
  have HK := HK4
  have HT := HT3
  have B := B3
  have R := R3
  clear R1 R2 R1' HK0 HK1 HK2 HK3 HK4 B0 B1 B2 B3 HT1 HT2 HT3 R3 M0 AH
  go_wp2_with fail
  refine (PO.out _ HT.out).mono ?_
  rintro e w4 ⟨rfl, hb⟩
  replace R := Lib.hid (R.out.below hb)
  replace HK := Lib.hid (Blk.below HK.out hb HK.out.lt)
  replace HT := Lib.hid (KindsAt.bel HT.out hb)
  replace B := Lib.hid (Below.trans0 B.out hb)
  clear hb
  clear i0 i1 i2 i3 i4 i5 i6 i7
  obtain ⟨i0, i1, i2, i3, i4, i5, i6, i7⟩ := blkI HK.out
  go_wp2_with fail
  refine (BE.out _).mono ?_
  rintro e w5 ⟨v5, rfl, hr, hb⟩
  obtain ⟨A5, n5, c5, rfl⟩ := hr.isSl
  replace R := Lib.hid (R.out.below hb)
  have R5 := Lib.hid hr
  replace HK := Lib.hid (Blk.below HK.out hb HK.out.lt)
  replace HT := Lib.hid (KindsAt.bel HT.out hb)
  replace B := Lib.hid (Below.trans0 B.out hb)
  clear hr hb
  clear i0 i1 i2 i3 i4 i5 i6 i7
  obtain ⟨i0, i1, i2, i3, i4, i5, i6, i7⟩ := blkI HK.out
  go_wp2_with fail
  refine (row2_any _ _ _ _ _ R.out R5.out M1.out).mono ?_
  rintro e w6 ⟨v6, rfl, hr, hb⟩
  obtain ⟨A6, n6, c6, rfl⟩ := hr.isSl
  clear R R5
  have R := Lib.hid hr
  replace HK := Lib.hid (Blk.below HK.out hb HK.out.lt)
  replace B := Lib.hid (Below.trans0 B.out hb)
  clear hr hb
  clear i0 i1 i2 i3 i4 i5 i6 i7
  obtain ⟨i0, i1, i2, i3, i4, i5, i6, i7⟩ := blkI HK.out
  go_wp2_with fail
  refine (TA.out _).mono ?_
  rintro e w7 ⟨v7, rfl, hr, hb⟩
  obtain ⟨A7, n7, c7, rfl⟩ := hr.isSl
  replace R := Lib.hid (R.out.below hb)
  have R7 := Lib.hid hr
  replace HK := Lib.hid (Blk.below HK.out hb HK.out.lt)
  replace B := Lib.hid (Below.trans0 B.out hb)
  clear hr hb
  clear i0 i1 i2 i3 i4 i5 i6 i7
  obtain ⟨i0, i1, i2, i3, i4, i5, i6, i7⟩ := blkI HK.out
  go_wp2_with fail
  refine (row2_any _ _ _ _ _ R.out R7.out M2.out).mono ?_
  rintro e w8 ⟨v8, rfl, hr, hb⟩
  obtain ⟨A8, n8, c8, rfl⟩ := hr.isSl
  clear R R7
  have R := Lib.hid hr
  replace HK := Lib.hid (Blk.below HK.out hb HK.out.lt)
  replace B := Lib.hid (Below.trans0 B.out hb)
  clear hr hb
  clear i0 i1 i2 i3 i4 i5 i6 i7
  obtain ⟨i0, i1, i2, i3, i4, i5, i6, i7⟩ := blkI HK.out
  go_wp2
  go_ret
  exact ⟨_, rfl, by rw [hO.out]; exact R.out, B.out⟩
set_option maxRecDepth 100000 in
set_option maxHeartbeats 8000000 in
theorem rowsOf_7 (c m r v l : Int) (b : Nat) (hb : b < 256) (cc pulled : Int) (hcc : CC cc) (q0 : 0 ≤ pulled) (q1 : pulled < 256) (hm : ¬ m = 4) (w : World) (hT : KindsAt w) : Calls Tryd.prog 8 #[.agg #[.int .i64 3, .int .u8 c, .int .i64 49, .int .i64 m, .int .i64 r, .int .u8 (b : Int), .int .u16 v, .int .i64 l], .int .u8 cc, .int .u8 pulled] w (GivesR w (ofL 3 49 m b (holdsX r cc) (decide (127 < pulled)))) := by
  have hO : Hid (ofL 3 49 m b (holdsX r cc) (decide (127 < pulled)) = [[[someL 1 2, aheadL m].flatten, tailL 49 m (holdsX r cc) (cntN b)].flatten, restL (decide (127 < pulled))].flatten) := Lib.hid (by
    have hN : (if (3 : Int) = 2 ∨ (3 : Int) = 3 then 2 else 1) = 2 := rfl
    unfold ofL
    rw [hN]
    simp only [if_neg hm, if_true])
  have L0 : [someL 1 2, aheadL m].flatten.length ≤ 100 := by have := aheadL_len m; rw [len2, someL_len]; omega
  have L1 : [someL 1 2, aheadL m].flatten.length ≤ 200 := by omega
  have hcn := Nat.le_of_ble_eq_true (allB 256 _ cnt12 b hb)
  have L2 : [[someL 1 2, aheadL m].flatten, tailL 49 m (holdsX r cc) (cntN b)].flatten.length ≤ 400 := by have := tailL_len 49 m (holdsX r cc) (cntN b); rw [len2]; omega
  have L3 : [[[someL 1 2, aheadL m].flatten, tailL 49 m (holdsX r cc) (cntN b)].flatten, restL (decide (127 < pulled))].flatten.length ≤ 800 := by have := restL_len (decide (127 < pulled)); rw [len2]; omega
  have HT := Lib.hid (KindsAt.bel hT (Below.drew0 (Below.alloc0 (Below.refl _ w) (Obj.cells #[.int .i64 3, .int .u8 c, .int .i64 49, .int .i64 m, .int .i64 r, .int .u8 (b : Int), .int .u16 v, .int .i64 l] 27))))
  have HK0 := Lib.hid (show Blk (w.alloc (Obj.cells #[.int .i64 3, .int .u8 c, .int .i64 49, .int .i64 m, .int .i64 r, .int .u8 (b : Int), .int .u16 v, .int .i64 l] 27)).drew w.heap.size 27 #[.int .i64 3, .int .u8 c, .int .i64 49, .int .i64 m, .int .i64 r, .int .u8 (b : Int), .int .u16 v, .int .i64 l] from Blk.new w 27 #[.int .i64 3, .int .u8 c, .int .i64 49, .int .i64 m, .int .i64 r, .int .u8 (b : Int), .int .u16 v, .int .i64 l] (0, 0))
  have B0 := Lib.hid (Below.drew0 (Below.alloc0 (Below.refl w.heap.size w) (Obj.cells #[.int .i64 3, .int .u8 c, .int .i64 49, .int .i64 m, .int .i64 r, .int .u8 (b : Int), .int .u16 v, .int .i64 l] 27)))
  have TA := Lib.hid (fun w => tail_st 49 m r cc b hb hcc w)
  have AH := Lib.hid (fun w => ahead_st m w)
  have M0 := Lib.hid (show [someL 1 2, aheadL m].flatten.length ≤ 1099511627776 by omega)
  have M1 := Lib.hid (show [someL 1 2, aheadL m].flatten.length ≤ 1099511627776 by omega)
  have M2 := Lib.hid (show [[someL 1 2, aheadL m].flatten, tailL 49 m (holdsX r cc) (cntN b)].flatten.length ≤ 1099511627776 by omega)
  have M3 := Lib.hid (show [[[someL 1 2, aheadL m].flatten, tailL 49 m (holdsX r cc) (cntN b)].flatten, restL (decide (127 < pulled))].flatten.length ≤ 1099511627776 by omega)
  have RE := Lib.hid (fun w => rest_st pulled q0 q1 w)
  have e4 : (m == 4) = false := ne_beqR hm
  clear L0 L1 L2 hcn hT L3 hm
  go_enter Tryd.func8, Tryd.ntmps8
  go_upto_region 4 with (fail)
  go_region_held3 (fun w' => w'.cell? ⟨w.heap.size, 0, none⟩ = some (.int .i64 3) ∧ w'.cell? ⟨w.heap.size, 1, none⟩ = some (.int .u8 c) ∧ w'.cell? ⟨w.heap.size, 2, none⟩ = some (.int .i64 49) ∧ w'.cell? ⟨w.heap.size, 3, none⟩ = some (.int .i64 m) ∧ w'.cell? ⟨w.heap.size, 4, none⟩ = some (.int .i64 r) ∧ w'.cell? ⟨w.heap.size, 5, none⟩ = some (.int .u8 (b : Int)) ∧ w'.cell? ⟨w.heap.size, 6, none⟩ = some (.int .u16 v) ∧ w'.cell? ⟨w.heap.size, 7, none⟩ = some (.int .i64 l))
    (first
      | (with_reducible exact blkI HK0.out)
      | (with_reducible exact blkI HK1.out)
      | (with_reducible exact blkI HK2.out)
      | (with_reducible exact blkI HK3.out)
      | (with_reducible exact blkI HK4.out))
    (first
      | (go_at_call 24; ((with_reducible refine (some_st 1 2 2 rfl (by decide) _).mono ?_); rintro e w1 ⟨v1, rfl, hr, hb⟩; obtain ⟨A1, n1, c1, rfl⟩ := hr.isSl; have R1 := Lib.hid hr; have HK1 := Lib.hid (Blk.below HK0.out hb HK0.out.lt); have B1 := Lib.hid (Below.trans0 B0.out hb); have HT1 := Lib.hid (KindsAt.bel HT.out hb); clear hr hb))
      | (go_at_call 25; ((with_reducible refine (AH.out _).mono ?_); rintro e w2 ⟨v2, rfl, hr, hb⟩; obtain ⟨A2, n2, c2, rfl⟩ := hr.isSl; have R1' := Lib.hid (R1.out.below hb); have R2 := Lib.hid hr; have HK2 := Lib.hid (Blk.below HK1.out hb HK1.out.lt); have B2 := Lib.hid (Below.trans0 B1.out hb); have HT2 := Lib.hid (KindsAt.bel HT1.out hb); have HK3 := Lib.hid (Blk.alloc HK2.out (Obj.cells #[.slice A1 n1 c1, .slice A2 n2 c2] 31)); clear hr hb))
      | (go_at_call 23; (refine (row2_any _ _ _ _ _ R1'.out R2.out M0.out).mono ?_; rintro e w3 ⟨v3, rfl, hr, hb⟩; obtain ⟨A3, n3, c3, rfl⟩ := hr.isSl; have R3 := Lib.hid hr; have HK4 := Lib.hid (Blk.below HK2.out hb HK2.out.lt); have B3 := Lib.hid (Below.trans0 B2.out hb); have HT3 := Lib.hid (KindsAt.bel HT2.out hb); clear hr hb)))
  obtain ⟨i0, i1, i2, i3, i4, i5, i6, i7⟩ := blkI HK4.out
  have HK := HK4
  have HT := HT3
  have B := B3
  have R := R3
  clear R1 R2 R1' HK0 HK1 HK2 HK3 HK4 B0 B1 B2 B3 HT1 HT2 HT3 R3 M0 AH
  go_wp2_with fail
  refine (TA.out _).mono ?_
  rintro e w7 ⟨v7, rfl, hr, hb⟩
  obtain ⟨A7, n7, c7, rfl⟩ := hr.isSl
  replace R := Lib.hid (R.out.below hb)
  have R7 := Lib.hid hr
  replace HK := Lib.hid (Blk.below HK.out hb HK.out.lt)
  replace B := Lib.hid (Below.trans0 B.out hb)
  clear hr hb
  clear i0 i1 i2 i3 i4 i5 i6 i7
  obtain ⟨i0, i1, i2, i3, i4, i5, i6, i7⟩ := blkI HK.out
  go_wp2_with fail
  refine (row2_any _ _ _ _ _ R.out R7.out M2.out).mono ?_
  rintro e w8 ⟨v8, rfl, hr, hb⟩
  obtain ⟨A8, n8, c8, rfl⟩ := hr.isSl
  clear R R7
  have R := Lib.hid hr
  replace HK := Lib.hid (Blk.below HK.out hb HK.out.lt)
  replace B := Lib.hid (Below.trans0 B.out hb)
  clear hr hb
  clear i0 i1 i2 i3 i4 i5 i6 i7
  obtain ⟨i0, i1, i2, i3, i4, i5, i6, i7⟩ := blkI HK.out
  go_wp2_with fail
  refine (RE.out _).mono ?_
  rintro e w9 ⟨v9, rfl, hr, hb⟩
  obtain ⟨A9, n9, c9, rfl⟩ := hr.isSl
  replace R := Lib.hid (R.out.below hb)
  have R9 := Lib.hid hr
  replace HK := Lib.hid (Blk.below HK.out hb HK.out.lt)
  replace B := Lib.hid (Below.trans0 B.out hb)
  clear hr hb
  clear i0 i1 i2 i3 i4 i5 i6 i7
  obtain ⟨i0, i1, i2, i3, i4, i5, i6, i7⟩ := blkI HK.out
  go_wp2_with fail
  refine (row2_any _ _ _ _ _ R.out R9.out M3.out).mono ?_
  rintro e w10 ⟨v10, rfl, hr, hb⟩
  obtain ⟨A10, n10, c10, rfl⟩ := hr.isSl
  clear R R9
  have R := Lib.hid hr
  replace B := Lib.hid (Below.trans0 B.out hb)
  clear hr hb
  go_wp2
  go_ret
  exact ⟨_, rfl, by rw [hO.out]; exact R.out, B.out⟩
set_option maxRecDepth 100000 in
set_option maxHeartbeats 8000000 in
theorem rowsOf_8 (c o m r v l : Int) (b : Nat) (hb : b < 256) (cc pulled : Int) (hcc : CC cc) (q0 : 0 ≤ pulled) (q1 : pulled < 256) (hm : ¬ m = 4) (ho : ¬ o = 49) (w : World) (hT : KindsAt w) : Calls Tryd.prog 8 #[.agg #[.int .i64 3, .int .u8 c, .int .i64 o, .int .i64 m, .int .i64 r, .int .u8 (b : Int), .int .u16 v, .int .i64 l], .int .u8 cc, .int .u8 pulled] w (GivesR w (ofL 3 o m b (holdsX r cc) (decide (127 < pulled)))) := by
  have hO : Hid (ofL 3 o m b (holdsX r cc) (decide (127 < pulled)) = [[someL 1 2, aheadL m].flatten, tailL o m (holdsX r cc) (cntN b)].flatten) := Lib.hid (by
    have hN : (if (3 : Int) = 2 ∨ (3 : Int) = 3 then 2 else 1) = 2 := rfl
    unfold ofL
    rw [hN]
    simp only [if_neg hm, if_neg ho])
  have L0 : [someL 1 2, aheadL m].flatten.length ≤ 100 := by have := aheadL_len m; rw [len2, someL_len]; omega
  have L1 : [someL 1 2, aheadL m].flatten.length ≤ 200 := by omega
  have hcn := Nat.le_of_ble_eq_true (allB 256 _ cnt12 b hb)
  have L2 : [[someL 1 2, aheadL m].flatten, tailL o m (holdsX r cc) (cntN b)].flatten.length ≤ 400 := by have := tailL_len o m (holdsX r cc) (cntN b); rw [len2]; omega
  have HT := Lib.hid (KindsAt.bel hT (Below.drew0 (Below.alloc0 (Below.refl _ w) (Obj.cells #[.int .i64 3, .int .u8 c, .int .i64 o, .int .i64 m, .int .i64 r, .int .u8 (b : Int), .int .u16 v, .int .i64 l] 27))))
  have HK0 := Lib.hid (show Blk (w.alloc (Obj.cells #[.int .i64 3, .int .u8 c, .int .i64 o, .int .i64 m, .int .i64 r, .int .u8 (b : Int), .int .u16 v, .int .i64 l] 27)).drew w.heap.size 27 #[.int .i64 3, .int .u8 c, .int .i64 o, .int .i64 m, .int .i64 r, .int .u8 (b : Int), .int .u16 v, .int .i64 l] from Blk.new w 27 #[.int .i64 3, .int .u8 c, .int .i64 o, .int .i64 m, .int .i64 r, .int .u8 (b : Int), .int .u16 v, .int .i64 l] (0, 0))
  have B0 := Lib.hid (Below.drew0 (Below.alloc0 (Below.refl w.heap.size w) (Obj.cells #[.int .i64 3, .int .u8 c, .int .i64 o, .int .i64 m, .int .i64 r, .int .u8 (b : Int), .int .u16 v, .int .i64 l] 27)))
  have TA := Lib.hid (fun w => tail_st o m r cc b hb hcc w)
  have AH := Lib.hid (fun w => ahead_st m w)
  have M0 := Lib.hid (show [someL 1 2, aheadL m].flatten.length ≤ 1099511627776 by omega)
  have M1 := Lib.hid (show [someL 1 2, aheadL m].flatten.length ≤ 1099511627776 by omega)
  have M2 := Lib.hid (show [[someL 1 2, aheadL m].flatten, tailL o m (holdsX r cc) (cntN b)].flatten.length ≤ 1099511627776 by omega)
  have e4 : (m == 4) = false := ne_beqR hm
  have e5 : (o == 49) = false := ne_beqR ho
  clear L0 L1 L2 hcn hT hm ho
  go_enter Tryd.func8, Tryd.ntmps8
  go_upto_region 4 with (fail)
  go_region_held3 (fun w' => w'.cell? ⟨w.heap.size, 0, none⟩ = some (.int .i64 3) ∧ w'.cell? ⟨w.heap.size, 1, none⟩ = some (.int .u8 c) ∧ w'.cell? ⟨w.heap.size, 2, none⟩ = some (.int .i64 o) ∧ w'.cell? ⟨w.heap.size, 3, none⟩ = some (.int .i64 m) ∧ w'.cell? ⟨w.heap.size, 4, none⟩ = some (.int .i64 r) ∧ w'.cell? ⟨w.heap.size, 5, none⟩ = some (.int .u8 (b : Int)) ∧ w'.cell? ⟨w.heap.size, 6, none⟩ = some (.int .u16 v) ∧ w'.cell? ⟨w.heap.size, 7, none⟩ = some (.int .i64 l))
    (first
      | (with_reducible exact blkI HK0.out)
      | (with_reducible exact blkI HK1.out)
      | (with_reducible exact blkI HK2.out)
      | (with_reducible exact blkI HK3.out)
      | (with_reducible exact blkI HK4.out))
    (first
      | (go_at_call 24; ((with_reducible refine (some_st 1 2 2 rfl (by decide) _).mono ?_); rintro e w1 ⟨v1, rfl, hr, hb⟩; obtain ⟨A1, n1, c1, rfl⟩ := hr.isSl; have R1 := Lib.hid hr; have HK1 := Lib.hid (Blk.below HK0.out hb HK0.out.lt); have B1 := Lib.hid (Below.trans0 B0.out hb); have HT1 := Lib.hid (KindsAt.bel HT.out hb); clear hr hb))
      | (go_at_call 25; ((with_reducible refine (AH.out _).mono ?_); rintro e w2 ⟨v2, rfl, hr, hb⟩; obtain ⟨A2, n2, c2, rfl⟩ := hr.isSl; have R1' := Lib.hid (R1.out.below hb); have R2 := Lib.hid hr; have HK2 := Lib.hid (Blk.below HK1.out hb HK1.out.lt); have B2 := Lib.hid (Below.trans0 B1.out hb); have HT2 := Lib.hid (KindsAt.bel HT1.out hb); have HK3 := Lib.hid (Blk.alloc HK2.out (Obj.cells #[.slice A1 n1 c1, .slice A2 n2 c2] 31)); clear hr hb))
      | (go_at_call 23; (refine (row2_any _ _ _ _ _ R1'.out R2.out M0.out).mono ?_; rintro e w3 ⟨v3, rfl, hr, hb⟩; obtain ⟨A3, n3, c3, rfl⟩ := hr.isSl; have R3 := Lib.hid hr; have HK4 := Lib.hid (Blk.below HK2.out hb HK2.out.lt); have B3 := Lib.hid (Below.trans0 B2.out hb); have HT3 := Lib.hid (KindsAt.bel HT2.out hb); clear hr hb)))
  obtain ⟨i0, i1, i2, i3, i4, i5, i6, i7⟩ := blkI HK4.out
  have HK := HK4
  have HT := HT3
  have B := B3
  have R := R3
  clear R1 R2 R1' HK0 HK1 HK2 HK3 HK4 B0 B1 B2 B3 HT1 HT2 HT3 R3 M0 AH
  go_wp2_with fail
  refine (TA.out _).mono ?_
  rintro e w7 ⟨v7, rfl, hr, hb⟩
  obtain ⟨A7, n7, c7, rfl⟩ := hr.isSl
  replace R := Lib.hid (R.out.below hb)
  have R7 := Lib.hid hr
  replace HK := Lib.hid (Blk.below HK.out hb HK.out.lt)
  replace B := Lib.hid (Below.trans0 B.out hb)
  clear hr hb
  clear i0 i1 i2 i3 i4 i5 i6 i7
  obtain ⟨i0, i1, i2, i3, i4, i5, i6, i7⟩ := blkI HK.out
  go_wp2_with fail
  refine (row2_any _ _ _ _ _ R.out R7.out M2.out).mono ?_
  rintro e w8 ⟨v8, rfl, hr, hb⟩
  obtain ⟨A8, n8, c8, rfl⟩ := hr.isSl
  clear R R7
  have R := Lib.hid hr
  replace HK := Lib.hid (Blk.below HK.out hb HK.out.lt)
  replace B := Lib.hid (Below.trans0 B.out hb)
  clear hr hb
  clear i0 i1 i2 i3 i4 i5 i6 i7
  obtain ⟨i0, i1, i2, i3, i4, i5, i6, i7⟩ := blkI HK.out
  go_wp2
  go_ret
  exact ⟨_, rfl, by rw [hO.out]; exact R.out, B.out⟩
set_option maxRecDepth 100000 in
set_option maxHeartbeats 8000000 in
theorem rowsOf_9 (p c r v l : Int) (b : Nat) (hb : b < 256) (cc pulled : Int) (hcc : CC cc) (q0 : 0 ≤ pulled) (q1 : pulled < 256) (hp : ¬ p = 2 ∧ ¬ p = 3) (w : World) (hT : KindsAt w) : Calls Tryd.prog 8 #[.agg #[.int .i64 p, .int .u8 c, .int .i64 49, .int .i64 4, .int .i64 r, .int .u8 (b : Int), .int .u16 v, .int .i64 l], .int .u8 cc, .int .u8 pulled] w (GivesR w (ofL p 49 4 b (holdsX r cc) (decide (127 < pulled)))) := by
  have hO : Hid (ofL p 49 4 b (holdsX r cc) (decide (127 < pulled)) = [[[[someL 1 1, aheadL 4].flatten, behindL (poBytes (poK b)) (poIdle (poK b)) (poI b)].flatten, tailL 49 4 (holdsX r cc) (cntN b)].flatten, restL (decide (127 < pulled))].flatten) := Lib.hid (by
    have hN : (if (p : Int) = 2 ∨ (p : Int) = 3 then 2 else 1) = 1 := if_neg (show ¬ (p = 2 ∨ p = 3) by omega)
    unfold ofL
    rw [hN]
    simp only [if_true])
  have L0 : [someL 1 1, aheadL 4].flatten.length ≤ 100 := by have := aheadL_len 4; rw [len2, someL_len]; omega
  have hpo := allB 14 _ po_le (poK b) (poK_lt b hb)
  rw [Bool.and_eq_true, Nat.ble_eq, Nat.ble_eq] at hpo
  have L1 : [[someL 1 1, aheadL 4].flatten, behindL (poBytes (poK b)) (poIdle (poK b)) (poI b)].flatten.length ≤ 200 := by have := behindL_len (poBytes (poK b)) (poIdle (poK b)) (poI b); rw [len2]; omega
  have hcn := Nat.le_of_ble_eq_true (allB 256 _ cnt12 b hb)
  have L2 : [[[someL 1 1, aheadL 4].flatten, behindL (poBytes (poK b)) (poIdle (poK b)) (poI b)].flatten, tailL 49 4 (holdsX r cc) (cntN b)].flatten.length ≤ 400 := by have := tailL_len 49 4 (holdsX r cc) (cntN b); rw [len2]; omega
  have L3 : [[[[someL 1 1, aheadL 4].flatten, behindL (poBytes (poK b)) (poIdle (poK b)) (poI b)].flatten, tailL 49 4 (holdsX r cc) (cntN b)].flatten, restL (decide (127 < pulled))].flatten.length ≤ 800 := by have := restL_len (decide (127 < pulled)); rw [len2]; omega
  have HT := Lib.hid (KindsAt.bel hT (Below.drew0 (Below.alloc0 (Below.refl _ w) (Obj.cells #[.int .i64 p, .int .u8 c, .int .i64 49, .int .i64 4, .int .i64 r, .int .u8 (b : Int), .int .u16 v, .int .i64 l] 27))))
  have HK0 := Lib.hid (show Blk (w.alloc (Obj.cells #[.int .i64 p, .int .u8 c, .int .i64 49, .int .i64 4, .int .i64 r, .int .u8 (b : Int), .int .u16 v, .int .i64 l] 27)).drew w.heap.size 27 #[.int .i64 p, .int .u8 c, .int .i64 49, .int .i64 4, .int .i64 r, .int .u8 (b : Int), .int .u16 v, .int .i64 l] from Blk.new w 27 #[.int .i64 p, .int .u8 c, .int .i64 49, .int .i64 4, .int .i64 r, .int .u8 (b : Int), .int .u16 v, .int .i64 l] (0, 0))
  have B0 := Lib.hid (Below.drew0 (Below.alloc0 (Below.refl w.heap.size w) (Obj.cells #[.int .i64 p, .int .u8 c, .int .i64 49, .int .i64 4, .int .i64 r, .int .u8 (b : Int), .int .u16 v, .int .i64 l] 27)))
  have TA := Lib.hid (fun w => tail_st 49 4 r cc b hb hcc w)
  have AH := Lib.hid (fun w => ahead_st 4 w)
  have M0 := Lib.hid (show [someL 1 1, aheadL 4].flatten.length ≤ 1099511627776 by omega)
  have M1 := Lib.hid (show [[someL 1 1, aheadL 4].flatten, behindL (poBytes (poK b)) (poIdle (poK b)) (poI b)].flatten.length ≤ 1099511627776 by omega)
  have M2 := Lib.hid (show [[[someL 1 1, aheadL 4].flatten, behindL (poBytes (poK b)) (poIdle (poK b)) (poI b)].flatten, tailL 49 4 (holdsX r cc) (cntN b)].flatten.length ≤ 1099511627776 by omega)
  have M3 := Lib.hid (show [[[[someL 1 1, aheadL 4].flatten, behindL (poBytes (poK b)) (poIdle (poK b)) (poI b)].flatten, tailL 49 4 (holdsX r cc) (cntN b)].flatten, restL (decide (127 < pulled))].flatten.length ≤ 1099511627776 by omega)
  have RE := Lib.hid (fun w => rest_st pulled q0 q1 w)
  have PO := Lib.hid (fun w hT => of_any b hb w hT)
  have BE := Lib.hid (fun w => behind_st (poK b) (poK_lt b hb) (poR b) (poO b) (poI b) w)
  have e2 : (p == 2) = false := ne_beqR hp.1
  have e3 : (p == 3) = false := ne_beqR hp.2
  clear L0 L1 L2 hcn hT L3 hpo hp
  go_enter Tryd.func8, Tryd.ntmps8
  go_upto_region 4 with (fail)
  go_region_held3 (fun w' => w'.cell? ⟨w.heap.size, 0, none⟩ = some (.int .i64 p) ∧ w'.cell? ⟨w.heap.size, 1, none⟩ = some (.int .u8 c) ∧ w'.cell? ⟨w.heap.size, 2, none⟩ = some (.int .i64 49) ∧ w'.cell? ⟨w.heap.size, 3, none⟩ = some (.int .i64 4) ∧ w'.cell? ⟨w.heap.size, 4, none⟩ = some (.int .i64 r) ∧ w'.cell? ⟨w.heap.size, 5, none⟩ = some (.int .u8 (b : Int)) ∧ w'.cell? ⟨w.heap.size, 6, none⟩ = some (.int .u16 v) ∧ w'.cell? ⟨w.heap.size, 7, none⟩ = some (.int .i64 l))
    (first
      | (with_reducible exact blkI HK0.out)
      | (with_reducible exact blkI HK1.out)
      | (with_reducible exact blkI HK2.out)
      | (with_reducible exact blkI HK3.out)
      | (with_reducible exact blkI HK4.out))
    (first
      | (go_at_call 24; ((with_reducible refine (some_st 1 1 1 rfl (by decide) _).mono ?_); rintro e w1 ⟨v1, rfl, hr, hb⟩; obtain ⟨A1, n1, c1, rfl⟩ := hr.isSl; have R1 := Lib.hid hr; have HK1 := Lib.hid (Blk.below HK0.out hb HK0.out.lt); have B1 := Lib.hid (Below.trans0 B0.out hb); have HT1 := Lib.hid (KindsAt.bel HT.out hb); clear hr hb))
      | (go_at_call 25; ((with_reducible refine (AH.out _).mono ?_); rintro e w2 ⟨v2, rfl, hr, hb⟩; obtain ⟨A2, n2, c2, rfl⟩ := hr.isSl; have R1' := Lib.hid (R1.out.below hb); have R2 := Lib.hid hr; have HK2 := Lib.hid (Blk.below HK1.out hb HK1.out.lt); have B2 := Lib.hid (Below.trans0 B1.out hb); have HT2 := Lib.hid (KindsAt.bel HT1.out hb); have HK3 := Lib.hid (Blk.alloc HK2.out (Obj.cells #[.slice A1 n1 c1, .slice A2 n2 c2] 31)); clear hr hb))
      | (go_at_call 23; (refine (row2_any _ _ _ _ _ R1'.out R2.out M0.out).mono ?_; rintro e w3 ⟨v3, rfl, hr, hb⟩; obtain ⟨A3, n3, c3, rfl⟩ := hr.isSl; have R3 := Lib.hid hr; have HK4 := Lib.hid (Blk.below HK2.out hb HK2.out.lt); have B3 := Lib.hid (Below.trans0 B2.out hb); have HT3 := Lib.hid (KindsAt.bel HT2.out hb); clear hr hb)))
  obtain ⟨i0, i1, i2, i3, i4, i5, i6, i7⟩ := blkI HK4.out
  have HK := HK4
  have HT := HT3
  have B := B3
  have R := R3
  clear R1 R2 R1' HK0 HK1 HK2 HK3 HK4 B0 B1 B2 B3 HT1 HT2 HT3 R3 M0 AH
  go_wp2_with fail
  refine (PO.out _ HT.out).mono ?_
  rintro e w4 ⟨rfl, hb⟩
  replace R := Lib.hid (R.out.below hb)
  replace HK := Lib.hid (Blk.below HK.out hb HK.out.lt)
  replace HT := Lib.hid (KindsAt.bel HT.out hb)
  replace B := Lib.hid (Below.trans0 B.out hb)
  clear hb
  clear i0 i1 i2 i3 i4 i5 i6 i7
  obtain ⟨i0, i1, i2, i3, i4, i5, i6, i7⟩ := blkI HK.out
  go_wp2_with fail
  refine (BE.out _).mono ?_
  rintro e w5 ⟨v5, rfl, hr, hb⟩
  obtain ⟨A5, n5, c5, rfl⟩ := hr.isSl
  replace R := Lib.hid (R.out.below hb)
  have R5 := Lib.hid hr
  replace HK := Lib.hid (Blk.below HK.out hb HK.out.lt)
  replace HT := Lib.hid (KindsAt.bel HT.out hb)
  replace B := Lib.hid (Below.trans0 B.out hb)
  clear hr hb
  clear i0 i1 i2 i3 i4 i5 i6 i7
  obtain ⟨i0, i1, i2, i3, i4, i5, i6, i7⟩ := blkI HK.out
  go_wp2_with fail
  refine (row2_any _ _ _ _ _ R.out R5.out M1.out).mono ?_
  rintro e w6 ⟨v6, rfl, hr, hb⟩
  obtain ⟨A6, n6, c6, rfl⟩ := hr.isSl
  clear R R5
  have R := Lib.hid hr
  replace HK := Lib.hid (Blk.below HK.out hb HK.out.lt)
  replace B := Lib.hid (Below.trans0 B.out hb)
  clear hr hb
  clear i0 i1 i2 i3 i4 i5 i6 i7
  obtain ⟨i0, i1, i2, i3, i4, i5, i6, i7⟩ := blkI HK.out
  go_wp2_with fail
  refine (TA.out _).mono ?_
  rintro e w7 ⟨v7, rfl, hr, hb⟩
  obtain ⟨A7, n7, c7, rfl⟩ := hr.isSl
  replace R := Lib.hid (R.out.below hb)
  have R7 := Lib.hid hr
  replace HK := Lib.hid (Blk.below HK.out hb HK.out.lt)
  replace B := Lib.hid (Below.trans0 B.out hb)
  clear hr hb
  clear i0 i1 i2 i3 i4 i5 i6 i7
  obtain ⟨i0, i1, i2, i3, i4, i5, i6, i7⟩ := blkI HK.out
  go_wp2_with fail
  refine (row2_any _ _ _ _ _ R.out R7.out M2.out).mono ?_
  rintro e w8 ⟨v8, rfl, hr, hb⟩
  obtain ⟨A8, n8, c8, rfl⟩ := hr.isSl
  clear R R7
  have R := Lib.hid hr
  replace HK := Lib.hid (Blk.below HK.out hb HK.out.lt)
  replace B := Lib.hid (Below.trans0 B.out hb)
  clear hr hb
  clear i0 i1 i2 i3 i4 i5 i6 i7
  obtain ⟨i0, i1, i2, i3, i4, i5, i6, i7⟩ := blkI HK.out
  go_wp2_with fail
  refine (RE.out _).mono ?_
  rintro e w9 ⟨v9, rfl, hr, hb⟩
  obtain ⟨A9, n9, c9, rfl⟩ := hr.isSl
  replace R := Lib.hid (R.out.below hb)
  have R9 := Lib.hid hr
  replace HK := Lib.hid (Blk.below HK.out hb HK.out.lt)
  replace B := Lib.hid (Below.trans0 B.out hb)
  clear hr hb
  clear i0 i1 i2 i3 i4 i5 i6 i7
  obtain ⟨i0, i1, i2, i3, i4, i5, i6, i7⟩ := blkI HK.out
  go_wp2_with fail
  refine (row2_any _ _ _ _ _ R.out R9.out M3.out).mono ?_
  rintro e w10 ⟨v10, rfl, hr, hb⟩
  obtain ⟨A10, n10, c10, rfl⟩ := hr.isSl
  clear R R9
  have R := Lib.hid hr
  replace B := Lib.hid (Below.trans0 B.out hb)
  clear hr hb
  go_wp2
  go_ret
  exact ⟨_, rfl, by rw [hO.out]; exact R.out, B.out⟩
set_option maxRecDepth 100000 in
set_option maxHeartbeats 8000000 in
theorem rowsOf_10 (p c o r v l : Int) (b : Nat) (hb : b < 256) (cc pulled : Int) (hcc : CC cc) (q0 : 0 ≤ pulled) (q1 : pulled < 256) (hp : ¬ p = 2 ∧ ¬ p = 3) (ho : ¬ o = 49) (w : World) (hT : KindsAt w) : Calls Tryd.prog 8 #[.agg #[.int .i64 p, .int .u8 c, .int .i64 o, .int .i64 4, .int .i64 r, .int .u8 (b : Int), .int .u16 v, .int .i64 l], .int .u8 cc, .int .u8 pulled] w (GivesR w (ofL p o 4 b (holdsX r cc) (decide (127 < pulled)))) := by
  have hO : Hid (ofL p o 4 b (holdsX r cc) (decide (127 < pulled)) = [[[someL 1 1, aheadL 4].flatten, behindL (poBytes (poK b)) (poIdle (poK b)) (poI b)].flatten, tailL o 4 (holdsX r cc) (cntN b)].flatten) := Lib.hid (by
    have hN : (if (p : Int) = 2 ∨ (p : Int) = 3 then 2 else 1) = 1 := if_neg (show ¬ (p = 2 ∨ p = 3) by omega)
    unfold ofL
    rw [hN]
    simp only [if_neg ho, if_true])
  have L0 : [someL 1 1, aheadL 4].flatten.length ≤ 100 := by have := aheadL_len 4; rw [len2, someL_len]; omega
  have hpo := allB 14 _ po_le (poK b) (poK_lt b hb)
  rw [Bool.and_eq_true, Nat.ble_eq, Nat.ble_eq] at hpo
  have L1 : [[someL 1 1, aheadL 4].flatten, behindL (poBytes (poK b)) (poIdle (poK b)) (poI b)].flatten.length ≤ 200 := by have := behindL_len (poBytes (poK b)) (poIdle (poK b)) (poI b); rw [len2]; omega
  have hcn := Nat.le_of_ble_eq_true (allB 256 _ cnt12 b hb)
  have L2 : [[[someL 1 1, aheadL 4].flatten, behindL (poBytes (poK b)) (poIdle (poK b)) (poI b)].flatten, tailL o 4 (holdsX r cc) (cntN b)].flatten.length ≤ 400 := by have := tailL_len o 4 (holdsX r cc) (cntN b); rw [len2]; omega
  have HT := Lib.hid (KindsAt.bel hT (Below.drew0 (Below.alloc0 (Below.refl _ w) (Obj.cells #[.int .i64 p, .int .u8 c, .int .i64 o, .int .i64 4, .int .i64 r, .int .u8 (b : Int), .int .u16 v, .int .i64 l] 27))))
  have HK0 := Lib.hid (show Blk (w.alloc (Obj.cells #[.int .i64 p, .int .u8 c, .int .i64 o, .int .i64 4, .int .i64 r, .int .u8 (b : Int), .int .u16 v, .int .i64 l] 27)).drew w.heap.size 27 #[.int .i64 p, .int .u8 c, .int .i64 o, .int .i64 4, .int .i64 r, .int .u8 (b : Int), .int .u16 v, .int .i64 l] from Blk.new w 27 #[.int .i64 p, .int .u8 c, .int .i64 o, .int .i64 4, .int .i64 r, .int .u8 (b : Int), .int .u16 v, .int .i64 l] (0, 0))
  have B0 := Lib.hid (Below.drew0 (Below.alloc0 (Below.refl w.heap.size w) (Obj.cells #[.int .i64 p, .int .u8 c, .int .i64 o, .int .i64 4, .int .i64 r, .int .u8 (b : Int), .int .u16 v, .int .i64 l] 27)))
  have TA := Lib.hid (fun w => tail_st o 4 r cc b hb hcc w)
  have AH := Lib.hid (fun w => ahead_st 4 w)
  have M0 := Lib.hid (show [someL 1 1, aheadL 4].flatten.length ≤ 1099511627776 by omega)
  have M1 := Lib.hid (show [[someL 1 1, aheadL 4].flatten, behindL (poBytes (poK b)) (poIdle (poK b)) (poI b)].flatten.length ≤ 1099511627776 by omega)
  have M2 := Lib.hid (show [[[someL 1 1, aheadL 4].flatten, behindL (poBytes (poK b)) (poIdle (poK b)) (poI b)].flatten, tailL o 4 (holdsX r cc) (cntN b)].flatten.length ≤ 1099511627776 by omega)
  have PO := Lib.hid (fun w hT => of_any b hb w hT)
  have BE := Lib.hid (fun w => behind_st (poK b) (poK_lt b hb) (poR b) (poO b) (poI b) w)
  have e2 : (p == 2) = false := ne_beqR hp.1
  have e3 : (p == 3) = false := ne_beqR hp.2
  have e5 : (o == 49) = false := ne_beqR ho
  clear L0 L1 L2 hcn hT hpo ho hp
  go_enter Tryd.func8, Tryd.ntmps8
  go_upto_region 4 with (fail)
  go_region_held3 (fun w' => w'.cell? ⟨w.heap.size, 0, none⟩ = some (.int .i64 p) ∧ w'.cell? ⟨w.heap.size, 1, none⟩ = some (.int .u8 c) ∧ w'.cell? ⟨w.heap.size, 2, none⟩ = some (.int .i64 o) ∧ w'.cell? ⟨w.heap.size, 3, none⟩ = some (.int .i64 4) ∧ w'.cell? ⟨w.heap.size, 4, none⟩ = some (.int .i64 r) ∧ w'.cell? ⟨w.heap.size, 5, none⟩ = some (.int .u8 (b : Int)) ∧ w'.cell? ⟨w.heap.size, 6, none⟩ = some (.int .u16 v) ∧ w'.cell? ⟨w.heap.size, 7, none⟩ = some (.int .i64 l))
    (first
      | (with_reducible exact blkI HK0.out)
      | (with_reducible exact blkI HK1.out)
      | (with_reducible exact blkI HK2.out)
      | (with_reducible exact blkI HK3.out)
      | (with_reducible exact blkI HK4.out))
    (first
      | (go_at_call 24; ((with_reducible refine (some_st 1 1 1 rfl (by decide) _).mono ?_); rintro e w1 ⟨v1, rfl, hr, hb⟩; obtain ⟨A1, n1, c1, rfl⟩ := hr.isSl; have R1 := Lib.hid hr; have HK1 := Lib.hid (Blk.below HK0.out hb HK0.out.lt); have B1 := Lib.hid (Below.trans0 B0.out hb); have HT1 := Lib.hid (KindsAt.bel HT.out hb); clear hr hb))
      | (go_at_call 25; ((with_reducible refine (AH.out _).mono ?_); rintro e w2 ⟨v2, rfl, hr, hb⟩; obtain ⟨A2, n2, c2, rfl⟩ := hr.isSl; have R1' := Lib.hid (R1.out.below hb); have R2 := Lib.hid hr; have HK2 := Lib.hid (Blk.below HK1.out hb HK1.out.lt); have B2 := Lib.hid (Below.trans0 B1.out hb); have HT2 := Lib.hid (KindsAt.bel HT1.out hb); have HK3 := Lib.hid (Blk.alloc HK2.out (Obj.cells #[.slice A1 n1 c1, .slice A2 n2 c2] 31)); clear hr hb))
      | (go_at_call 23; (refine (row2_any _ _ _ _ _ R1'.out R2.out M0.out).mono ?_; rintro e w3 ⟨v3, rfl, hr, hb⟩; obtain ⟨A3, n3, c3, rfl⟩ := hr.isSl; have R3 := Lib.hid hr; have HK4 := Lib.hid (Blk.below HK2.out hb HK2.out.lt); have B3 := Lib.hid (Below.trans0 B2.out hb); have HT3 := Lib.hid (KindsAt.bel HT2.out hb); clear hr hb)))
  obtain ⟨i0, i1, i2, i3, i4, i5, i6, i7⟩ := blkI HK4.out
  have HK := HK4
  have HT := HT3
  have B := B3
  have R := R3
  clear R1 R2 R1' HK0 HK1 HK2 HK3 HK4 B0 B1 B2 B3 HT1 HT2 HT3 R3 M0 AH
  go_wp2_with fail
  refine (PO.out _ HT.out).mono ?_
  rintro e w4 ⟨rfl, hb⟩
  replace R := Lib.hid (R.out.below hb)
  replace HK := Lib.hid (Blk.below HK.out hb HK.out.lt)
  replace HT := Lib.hid (KindsAt.bel HT.out hb)
  replace B := Lib.hid (Below.trans0 B.out hb)
  clear hb
  clear i0 i1 i2 i3 i4 i5 i6 i7
  obtain ⟨i0, i1, i2, i3, i4, i5, i6, i7⟩ := blkI HK.out
  go_wp2_with fail
  refine (BE.out _).mono ?_
  rintro e w5 ⟨v5, rfl, hr, hb⟩
  obtain ⟨A5, n5, c5, rfl⟩ := hr.isSl
  replace R := Lib.hid (R.out.below hb)
  have R5 := Lib.hid hr
  replace HK := Lib.hid (Blk.below HK.out hb HK.out.lt)
  replace HT := Lib.hid (KindsAt.bel HT.out hb)
  replace B := Lib.hid (Below.trans0 B.out hb)
  clear hr hb
  clear i0 i1 i2 i3 i4 i5 i6 i7
  obtain ⟨i0, i1, i2, i3, i4, i5, i6, i7⟩ := blkI HK.out
  go_wp2_with fail
  refine (row2_any _ _ _ _ _ R.out R5.out M1.out).mono ?_
  rintro e w6 ⟨v6, rfl, hr, hb⟩
  obtain ⟨A6, n6, c6, rfl⟩ := hr.isSl
  clear R R5
  have R := Lib.hid hr
  replace HK := Lib.hid (Blk.below HK.out hb HK.out.lt)
  replace B := Lib.hid (Below.trans0 B.out hb)
  clear hr hb
  clear i0 i1 i2 i3 i4 i5 i6 i7
  obtain ⟨i0, i1, i2, i3, i4, i5, i6, i7⟩ := blkI HK.out
  go_wp2_with fail
  refine (TA.out _).mono ?_
  rintro e w7 ⟨v7, rfl, hr, hb⟩
  obtain ⟨A7, n7, c7, rfl⟩ := hr.isSl
  replace R := Lib.hid (R.out.below hb)
  have R7 := Lib.hid hr
  replace HK := Lib.hid (Blk.below HK.out hb HK.out.lt)
  replace B := Lib.hid (Below.trans0 B.out hb)
  clear hr hb
  clear i0 i1 i2 i3 i4 i5 i6 i7
  obtain ⟨i0, i1, i2, i3, i4, i5, i6, i7⟩ := blkI HK.out
  go_wp2_with fail
  refine (row2_any _ _ _ _ _ R.out R7.out M2.out).mono ?_
  rintro e w8 ⟨v8, rfl, hr, hb⟩
  obtain ⟨A8, n8, c8, rfl⟩ := hr.isSl
  clear R R7
  have R := Lib.hid hr
  replace HK := Lib.hid (Blk.below HK.out hb HK.out.lt)
  replace B := Lib.hid (Below.trans0 B.out hb)
  clear hr hb
  clear i0 i1 i2 i3 i4 i5 i6 i7
  obtain ⟨i0, i1, i2, i3, i4, i5, i6, i7⟩ := blkI HK.out
  go_wp2
  go_ret
  exact ⟨_, rfl, by rw [hO.out]; exact R.out, B.out⟩
set_option maxRecDepth 100000 in
set_option maxHeartbeats 8000000 in
theorem rowsOf_11 (p c m r v l : Int) (b : Nat) (hb : b < 256) (cc pulled : Int) (hcc : CC cc) (q0 : 0 ≤ pulled) (q1 : pulled < 256) (hp : ¬ p = 2 ∧ ¬ p = 3) (hm : ¬ m = 4) (w : World) (hT : KindsAt w) : Calls Tryd.prog 8 #[.agg #[.int .i64 p, .int .u8 c, .int .i64 49, .int .i64 m, .int .i64 r, .int .u8 (b : Int), .int .u16 v, .int .i64 l], .int .u8 cc, .int .u8 pulled] w (GivesR w (ofL p 49 m b (holdsX r cc) (decide (127 < pulled)))) := by
  have hO : Hid (ofL p 49 m b (holdsX r cc) (decide (127 < pulled)) = [[[someL 1 1, aheadL m].flatten, tailL 49 m (holdsX r cc) (cntN b)].flatten, restL (decide (127 < pulled))].flatten) := Lib.hid (by
    have hN : (if (p : Int) = 2 ∨ (p : Int) = 3 then 2 else 1) = 1 := if_neg (show ¬ (p = 2 ∨ p = 3) by omega)
    unfold ofL
    rw [hN]
    simp only [if_neg hm, if_true])
  have L0 : [someL 1 1, aheadL m].flatten.length ≤ 100 := by have := aheadL_len m; rw [len2, someL_len]; omega
  have L1 : [someL 1 1, aheadL m].flatten.length ≤ 200 := by omega
  have hcn := Nat.le_of_ble_eq_true (allB 256 _ cnt12 b hb)
  have L2 : [[someL 1 1, aheadL m].flatten, tailL 49 m (holdsX r cc) (cntN b)].flatten.length ≤ 400 := by have := tailL_len 49 m (holdsX r cc) (cntN b); rw [len2]; omega
  have L3 : [[[someL 1 1, aheadL m].flatten, tailL 49 m (holdsX r cc) (cntN b)].flatten, restL (decide (127 < pulled))].flatten.length ≤ 800 := by have := restL_len (decide (127 < pulled)); rw [len2]; omega
  have HT := Lib.hid (KindsAt.bel hT (Below.drew0 (Below.alloc0 (Below.refl _ w) (Obj.cells #[.int .i64 p, .int .u8 c, .int .i64 49, .int .i64 m, .int .i64 r, .int .u8 (b : Int), .int .u16 v, .int .i64 l] 27))))
  have HK0 := Lib.hid (show Blk (w.alloc (Obj.cells #[.int .i64 p, .int .u8 c, .int .i64 49, .int .i64 m, .int .i64 r, .int .u8 (b : Int), .int .u16 v, .int .i64 l] 27)).drew w.heap.size 27 #[.int .i64 p, .int .u8 c, .int .i64 49, .int .i64 m, .int .i64 r, .int .u8 (b : Int), .int .u16 v, .int .i64 l] from Blk.new w 27 #[.int .i64 p, .int .u8 c, .int .i64 49, .int .i64 m, .int .i64 r, .int .u8 (b : Int), .int .u16 v, .int .i64 l] (0, 0))
  have B0 := Lib.hid (Below.drew0 (Below.alloc0 (Below.refl w.heap.size w) (Obj.cells #[.int .i64 p, .int .u8 c, .int .i64 49, .int .i64 m, .int .i64 r, .int .u8 (b : Int), .int .u16 v, .int .i64 l] 27)))
  have TA := Lib.hid (fun w => tail_st 49 m r cc b hb hcc w)
  have AH := Lib.hid (fun w => ahead_st m w)
  have M0 := Lib.hid (show [someL 1 1, aheadL m].flatten.length ≤ 1099511627776 by omega)
  have M1 := Lib.hid (show [someL 1 1, aheadL m].flatten.length ≤ 1099511627776 by omega)
  have M2 := Lib.hid (show [[someL 1 1, aheadL m].flatten, tailL 49 m (holdsX r cc) (cntN b)].flatten.length ≤ 1099511627776 by omega)
  have M3 := Lib.hid (show [[[someL 1 1, aheadL m].flatten, tailL 49 m (holdsX r cc) (cntN b)].flatten, restL (decide (127 < pulled))].flatten.length ≤ 1099511627776 by omega)
  have RE := Lib.hid (fun w => rest_st pulled q0 q1 w)
  have e2 : (p == 2) = false := ne_beqR hp.1
  have e3 : (p == 3) = false := ne_beqR hp.2
  have e4 : (m == 4) = false := ne_beqR hm
  clear L0 L1 L2 hcn hT L3 hm hp
  go_enter Tryd.func8, Tryd.ntmps8
  go_upto_region 4 with (fail)
  go_region_held3 (fun w' => w'.cell? ⟨w.heap.size, 0, none⟩ = some (.int .i64 p) ∧ w'.cell? ⟨w.heap.size, 1, none⟩ = some (.int .u8 c) ∧ w'.cell? ⟨w.heap.size, 2, none⟩ = some (.int .i64 49) ∧ w'.cell? ⟨w.heap.size, 3, none⟩ = some (.int .i64 m) ∧ w'.cell? ⟨w.heap.size, 4, none⟩ = some (.int .i64 r) ∧ w'.cell? ⟨w.heap.size, 5, none⟩ = some (.int .u8 (b : Int)) ∧ w'.cell? ⟨w.heap.size, 6, none⟩ = some (.int .u16 v) ∧ w'.cell? ⟨w.heap.size, 7, none⟩ = some (.int .i64 l))
    (first
      | (with_reducible exact blkI HK0.out)
      | (with_reducible exact blkI HK1.out)
      | (with_reducible exact blkI HK2.out)
      | (with_reducible exact blkI HK3.out)
      | (with_reducible exact blkI HK4.out))
    (first
      | (go_at_call 24; ((with_reducible refine (some_st 1 1 1 rfl (by decide) _).mono ?_); rintro e w1 ⟨v1, rfl, hr, hb⟩; obtain ⟨A1, n1, c1, rfl⟩ := hr.isSl; have R1 := Lib.hid hr; have HK1 := Lib.hid (Blk.below HK0.out hb HK0.out.lt); have B1 := Lib.hid (Below.trans0 B0.out hb); have HT1 := Lib.hid (KindsAt.bel HT.out hb); clear hr hb))
      | (go_at_call 25; ((with_reducible refine (AH.out _).mono ?_); rintro e w2 ⟨v2, rfl, hr, hb⟩; obtain ⟨A2, n2, c2, rfl⟩ := hr.isSl; have R1' := Lib.hid (R1.out.below hb); have R2 := Lib.hid hr; have HK2 := Lib.hid (Blk.below HK1.out hb HK1.out.lt); have B2 := Lib.hid (Below.trans0 B1.out hb); have HT2 := Lib.hid (KindsAt.bel HT1.out hb); have HK3 := Lib.hid (Blk.alloc HK2.out (Obj.cells #[.slice A1 n1 c1, .slice A2 n2 c2] 31)); clear hr hb))
      | (go_at_call 23; (refine (row2_any _ _ _ _ _ R1'.out R2.out M0.out).mono ?_; rintro e w3 ⟨v3, rfl, hr, hb⟩; obtain ⟨A3, n3, c3, rfl⟩ := hr.isSl; have R3 := Lib.hid hr; have HK4 := Lib.hid (Blk.below HK2.out hb HK2.out.lt); have B3 := Lib.hid (Below.trans0 B2.out hb); have HT3 := Lib.hid (KindsAt.bel HT2.out hb); clear hr hb)))
  obtain ⟨i0, i1, i2, i3, i4, i5, i6, i7⟩ := blkI HK4.out
  have HK := HK4
  have HT := HT3
  have B := B3
  have R := R3
  clear R1 R2 R1' HK0 HK1 HK2 HK3 HK4 B0 B1 B2 B3 HT1 HT2 HT3 R3 M0 AH
  go_wp2_with fail
  refine (TA.out _).mono ?_
  rintro e w7 ⟨v7, rfl, hr, hb⟩
  obtain ⟨A7, n7, c7, rfl⟩ := hr.isSl
  replace R := Lib.hid (R.out.below hb)
  have R7 := Lib.hid hr
  replace HK := Lib.hid (Blk.below HK.out hb HK.out.lt)
  replace B := Lib.hid (Below.trans0 B.out hb)
  clear hr hb
  clear i0 i1 i2 i3 i4 i5 i6 i7
  obtain ⟨i0, i1, i2, i3, i4, i5, i6, i7⟩ := blkI HK.out
  go_wp2_with fail
  refine (row2_any _ _ _ _ _ R.out R7.out M2.out).mono ?_
  rintro e w8 ⟨v8, rfl, hr, hb⟩
  obtain ⟨A8, n8, c8, rfl⟩ := hr.isSl
  clear R R7
  have R := Lib.hid hr
  replace HK := Lib.hid (Blk.below HK.out hb HK.out.lt)
  replace B := Lib.hid (Below.trans0 B.out hb)
  clear hr hb
  clear i0 i1 i2 i3 i4 i5 i6 i7
  obtain ⟨i0, i1, i2, i3, i4, i5, i6, i7⟩ := blkI HK.out
  go_wp2_with fail
  refine (RE.out _).mono ?_
  rintro e w9 ⟨v9, rfl, hr, hb⟩
  obtain ⟨A9, n9, c9, rfl⟩ := hr.isSl
  replace R := Lib.hid (R.out.below hb)
  have R9 := Lib.hid hr
  replace HK := Lib.hid (Blk.below HK.out hb HK.out.lt)
  replace B := Lib.hid (Below.trans0 B.out hb)
  clear hr hb
  clear i0 i1 i2 i3 i4 i5 i6 i7
  obtain ⟨i0, i1, i2, i3, i4, i5, i6, i7⟩ := blkI HK.out
  go_wp2_with fail
  refine (row2_any _ _ _ _ _ R.out R9.out M3.out).mono ?_
  rintro e w10 ⟨v10, rfl, hr, hb⟩
  obtain ⟨A10, n10, c10, rfl⟩ := hr.isSl
  clear R R9
  have R := Lib.hid hr
  replace B := Lib.hid (Below.trans0 B.out hb)
  clear hr hb
  go_wp2
  go_ret
  exact ⟨_, rfl, by rw [hO.out]; exact R.out, B.out⟩
set_option maxRecDepth 100000 in
set_option maxHeartbeats 8000000 in
theorem rowsOf_12 (p c o m r v l : Int) (b : Nat) (hb : b < 256) (cc pulled : Int) (hcc : CC cc) (q0 : 0 ≤ pulled) (q1 : pulled < 256) (hp : ¬ p = 2 ∧ ¬ p = 3) (hm : ¬ m = 4) (ho : ¬ o = 49) (w : World) (hT : KindsAt w) : Calls Tryd.prog 8 #[.agg #[.int .i64 p, .int .u8 c, .int .i64 o, .int .i64 m, .int .i64 r, .int .u8 (b : Int), .int .u16 v, .int .i64 l], .int .u8 cc, .int .u8 pulled] w (GivesR w (ofL p o m b (holdsX r cc) (decide (127 < pulled)))) := by
  have hO : Hid (ofL p o m b (holdsX r cc) (decide (127 < pulled)) = [[someL 1 1, aheadL m].flatten, tailL o m (holdsX r cc) (cntN b)].flatten) := Lib.hid (by
    have hN : (if (p : Int) = 2 ∨ (p : Int) = 3 then 2 else 1) = 1 := if_neg (show ¬ (p = 2 ∨ p = 3) by omega)
    unfold ofL
    rw [hN]
    simp only [if_neg hm, if_neg ho])
  have L0 : [someL 1 1, aheadL m].flatten.length ≤ 100 := by have := aheadL_len m; rw [len2, someL_len]; omega
  have L1 : [someL 1 1, aheadL m].flatten.length ≤ 200 := by omega
  have hcn := Nat.le_of_ble_eq_true (allB 256 _ cnt12 b hb)
  have L2 : [[someL 1 1, aheadL m].flatten, tailL o m (holdsX r cc) (cntN b)].flatten.length ≤ 400 := by have := tailL_len o m (holdsX r cc) (cntN b); rw [len2]; omega
  have HT := Lib.hid (KindsAt.bel hT (Below.drew0 (Below.alloc0 (Below.refl _ w) (Obj.cells #[.int .i64 p, .int .u8 c, .int .i64 o, .int .i64 m, .int .i64 r, .int .u8 (b : Int), .int .u16 v, .int .i64 l] 27))))
  have HK0 := Lib.hid (show Blk (w.alloc (Obj.cells #[.int .i64 p, .int .u8 c, .int .i64 o, .int .i64 m, .int .i64 r, .int .u8 (b : Int), .int .u16 v, .int .i64 l] 27)).drew w.heap.size 27 #[.int .i64 p, .int .u8 c, .int .i64 o, .int .i64 m, .int .i64 r, .int .u8 (b : Int), .int .u16 v, .int .i64 l] from Blk.new w 27 #[.int .i64 p, .int .u8 c, .int .i64 o, .int .i64 m, .int .i64 r, .int .u8 (b : Int), .int .u16 v, .int .i64 l] (0, 0))
  have B0 := Lib.hid (Below.drew0 (Below.alloc0 (Below.refl w.heap.size w) (Obj.cells #[.int .i64 p, .int .u8 c, .int .i64 o, .int .i64 m, .int .i64 r, .int .u8 (b : Int), .int .u16 v, .int .i64 l] 27)))
  have TA := Lib.hid (fun w => tail_st o m r cc b hb hcc w)
  have AH := Lib.hid (fun w => ahead_st m w)
  have M0 := Lib.hid (show [someL 1 1, aheadL m].flatten.length ≤ 1099511627776 by omega)
  have M1 := Lib.hid (show [someL 1 1, aheadL m].flatten.length ≤ 1099511627776 by omega)
  have M2 := Lib.hid (show [[someL 1 1, aheadL m].flatten, tailL o m (holdsX r cc) (cntN b)].flatten.length ≤ 1099511627776 by omega)
  have e2 : (p == 2) = false := ne_beqR hp.1
  have e3 : (p == 3) = false := ne_beqR hp.2
  have e4 : (m == 4) = false := ne_beqR hm
  have e5 : (o == 49) = false := ne_beqR ho
  clear L0 L1 L2 hcn hT hm ho hp
  go_enter Tryd.func8, Tryd.ntmps8
  go_upto_region 4 with (fail)
  go_region_held3 (fun w' => w'.cell? ⟨w.heap.size, 0, none⟩ = some (.int .i64 p) ∧ w'.cell? ⟨w.heap.size, 1, none⟩ = some (.int .u8 c) ∧ w'.cell? ⟨w.heap.size, 2, none⟩ = some (.int .i64 o) ∧ w'.cell? ⟨w.heap.size, 3, none⟩ = some (.int .i64 m) ∧ w'.cell? ⟨w.heap.size, 4, none⟩ = some (.int .i64 r) ∧ w'.cell? ⟨w.heap.size, 5, none⟩ = some (.int .u8 (b : Int)) ∧ w'.cell? ⟨w.heap.size, 6, none⟩ = some (.int .u16 v) ∧ w'.cell? ⟨w.heap.size, 7, none⟩ = some (.int .i64 l))
    (first
      | (with_reducible exact blkI HK0.out)
      | (with_reducible exact blkI HK1.out)
      | (with_reducible exact blkI HK2.out)
      | (with_reducible exact blkI HK3.out)
      | (with_reducible exact blkI HK4.out))
    (first
      | (go_at_call 24; ((with_reducible refine (some_st 1 1 1 rfl (by decide) _).mono ?_); rintro e w1 ⟨v1, rfl, hr, hb⟩; obtain ⟨A1, n1, c1, rfl⟩ := hr.isSl; have R1 := Lib.hid hr; have HK1 := Lib.hid (Blk.below HK0.out hb HK0.out.lt); have B1 := Lib.hid (Below.trans0 B0.out hb); have HT1 := Lib.hid (KindsAt.bel HT.out hb); clear hr hb))
      | (go_at_call 25; ((with_reducible refine (AH.out _).mono ?_); rintro e w2 ⟨v2, rfl, hr, hb⟩; obtain ⟨A2, n2, c2, rfl⟩ := hr.isSl; have R1' := Lib.hid (R1.out.below hb); have R2 := Lib.hid hr; have HK2 := Lib.hid (Blk.below HK1.out hb HK1.out.lt); have B2 := Lib.hid (Below.trans0 B1.out hb); have HT2 := Lib.hid (KindsAt.bel HT1.out hb); have HK3 := Lib.hid (Blk.alloc HK2.out (Obj.cells #[.slice A1 n1 c1, .slice A2 n2 c2] 31)); clear hr hb))
      | (go_at_call 23; (refine (row2_any _ _ _ _ _ R1'.out R2.out M0.out).mono ?_; rintro e w3 ⟨v3, rfl, hr, hb⟩; obtain ⟨A3, n3, c3, rfl⟩ := hr.isSl; have R3 := Lib.hid hr; have HK4 := Lib.hid (Blk.below HK2.out hb HK2.out.lt); have B3 := Lib.hid (Below.trans0 B2.out hb); have HT3 := Lib.hid (KindsAt.bel HT2.out hb); clear hr hb)))
  obtain ⟨i0, i1, i2, i3, i4, i5, i6, i7⟩ := blkI HK4.out
  have HK := HK4
  have HT := HT3
  have B := B3
  have R := R3
  clear R1 R2 R1' HK0 HK1 HK2 HK3 HK4 B0 B1 B2 B3 HT1 HT2 HT3 R3 M0 AH
  go_wp2_with fail
  refine (TA.out _).mono ?_
  rintro e w7 ⟨v7, rfl, hr, hb⟩
  obtain ⟨A7, n7, c7, rfl⟩ := hr.isSl
  replace R := Lib.hid (R.out.below hb)
  have R7 := Lib.hid hr
  replace HK := Lib.hid (Blk.below HK.out hb HK.out.lt)
  replace B := Lib.hid (Below.trans0 B.out hb)
  clear hr hb
  clear i0 i1 i2 i3 i4 i5 i6 i7
  obtain ⟨i0, i1, i2, i3, i4, i5, i6, i7⟩ := blkI HK.out
  go_wp2_with fail
  refine (row2_any _ _ _ _ _ R.out R7.out M2.out).mono ?_
  rintro e w8 ⟨v8, rfl, hr, hb⟩
  obtain ⟨A8, n8, c8, rfl⟩ := hr.isSl
  clear R R7
  have R := Lib.hid hr
  replace HK := Lib.hid (Blk.below HK.out hb HK.out.lt)
  replace B := Lib.hid (Below.trans0 B.out hb)
  clear hr hb
  clear i0 i1 i2 i3 i4 i5 i6 i7
  obtain ⟨i0, i1, i2, i3, i4, i5, i6, i7⟩ := blkI HK.out
  go_wp2
  go_ret
  exact ⟨_, rfl, by rw [hO.out]; exact R.out, B.out⟩
theorem rowsOf_st (p c o m r v l : Int) (b : Nat) (hb : b < 256) (cc pulled : Int) (hcc : CC cc) (q0 : 0 ≤ pulled) (q1 : pulled < 256) (w : World) (hT : KindsAt w) : Calls Tryd.prog 8 #[.agg #[.int .i64 p, .int .u8 c, .int .i64 o, .int .i64 m, .int .i64 r, .int .u8 (b : Int), .int .u16 v, .int .i64 l], .int .u8 cc, .int .u8 pulled] w (GivesR w (ofL p o m b (holdsX r cc) (decide (127 < pulled)))) := by
  by_cases ho : o = 49 <;> by_cases hm : m = 4 <;> rcases (show p = 2 ∨ p = 3 ∨ (¬ p = 2 ∧ ¬ p = 3) by omega) with hp | hp | hp
  · subst ho; subst hm; subst hp; exact rowsOf_1 c r v l b hb cc pulled hcc q0 q1 w hT
  · subst ho; subst hm; subst hp; exact rowsOf_5 c r v l b hb cc pulled hcc q0 q1 w hT
  · subst ho; subst hm; exact rowsOf_9 p c r v l b hb cc pulled hcc q0 q1 hp w hT
  · subst ho; subst hp; exact rowsOf_3 c m r v l b hb cc pulled hcc q0 q1 hm w hT
  · subst ho; subst hp; exact rowsOf_7 c m r v l b hb cc pulled hcc q0 q1 hm w hT
  · subst ho; exact rowsOf_11 p c m r v l b hb cc pulled hcc q0 q1 hp hm w hT
  · subst hm; subst hp; exact rowsOf_2 c o r v l b hb cc pulled hcc q0 q1 ho w hT
  · subst hm; subst hp; exact rowsOf_6 c o r v l b hb cc pulled hcc q0 q1 ho w hT
  · subst hm; exact rowsOf_10 p c o r v l b hb cc pulled hcc q0 q1 hp ho w hT
  · subst hp; exact rowsOf_4 c o m r v l b hb cc pulled hcc q0 q1 hm ho w hT
  · subst hp; exact rowsOf_8 c o m r v l b hb cc pulled hcc q0 q1 hm ho w hT
  · exact rowsOf_12 p c o m r v l b hb cc pulled hcc q0 q1 hp hm ho w hT


theorem iC23 (xs : List Int) (h : inOk xs = true) : inAgg xs = #[.int .i64 (inPg xs : Int), .int .u8 (inCo xs), .int .i64 (eOp (inE xs) : Int), .int .i64 (eMode (inE xs) : Int), .int .i64 (eReg (inE xs) : Int), .int .u8 (inPo xs), .int .u16 (inVa xs), .int .i64 (inLn xs : Int)] := by
  unfold inAgg; rw [if_pos h]
theorem x39 : inOk [57] = true ∧ inPg [57] = 1 ∧ eOp (inE [57]) = 48 ∧ eMode (inE [57]) = 0 ∧ inPo [57] = 0 := by decide +kernel
theorem of39 : ofL 1 48 0 0 (holdsX (eReg (inE [57]) : Int) 0) false = [(1, false), (3, false), (9, false), (9, false), (4, false)] := by
  generalize holdsX _ 0 = h
  cases h <;> decide +kernel
set_option maxRecDepth 100000 in
set_option maxHeartbeats 2000000 in
theorem alive23 (w : World) (hT : KindsAt w) : Calls Tryd.prog 15 #[] w fun e w' => e = .returned (.bool true) ∧ Below w.heap.size w w' := by
  obtain ⟨h1, h2, h3, h4, h5⟩ := x39
  have hin : Ints .u8 (w.alloc (.cells #[.int .u8 57] 5)) (w.alloc (.cells #[.int .u8 57] 5)).heap.size (some ⟨w.heap.size, 0, none⟩) 1 [57] := by
    have := Ints.new1 (k := .u8) (w := w) (x := 57) (t := 5) rfl (by decide)
    simpa using this
  have CO := of18_any _ 1 1 [57] _ hin (fun h => by cases h) (by decide)
  rw [iC23 _ h1, h1, h2, h3, h4, h5] at CO
  have CR := fun w hT => rowsOf_st 1 (inCo [57]) 48 0 (eReg (inE [57]) : Int) (inVa [57]) (inLn [57] : Int) 0 (by decide) 0 0 (CC.mk' (by omega) (by omega)) (by omega) (by omega) w hT
  rw [show decide ((127 : Int) < 0) = false by decide, of39] at CR
  have CO := Lib.hid CO
  have CR := Lib.hid CR
  have HT := Lib.hid (KindsAt.bel hT (Below.alloc0 (Below.refl _ w) (Obj.cells #[.int .u8 57] 5)))
  have HB := Lib.hid (Below.alloc0 (Below.refl w.heap.size w) (Obj.cells #[.int .u8 57] 5))
  generalize inCo [57] = c at CO CR
  generalize (eReg (inE [57]) : Int) = r at CO CR
  generalize inVa [57] = v at CO CR
  generalize (inLn [57] : Int) = l at CO CR
  clear hin h1 h2 h3 h4 h5 hT
  go_enter Tryd.func15, Tryd.ntmps15
  go_wp2_with fail
  refine CO.out.mono ?_
  rintro e w1 ⟨rfl, hb⟩
  replace HT := Lib.hid (KindsAt.bel (KindsAt.bel HT.out hb) (Below.alloc0 (Below.refl _ w1) (Obj.cells #[.int .i64 1, .int .u8 c, .int .i64 48, .int .i64 0, .int .i64 r, .int .u8 0, .int .u16 v, .int .i64 l] 27)))
  replace HB := Lib.hid (Below.alloc0 (Below.trans0 HB.out hb) (Obj.cells #[.int .i64 1, .int .u8 c, .int .i64 48, .int .i64 0, .int .i64 r, .int .u8 0, .int .u16 v, .int .i64 l] 27))
  clear hb
  go_wp2_with fail
  refine (CR.out _ HT.out).mono ?_
  rintro e w2 ⟨v2, rfl, hr, hb⟩
  replace HB := Lib.hid (Below.trans0 HB.out hb)
  clear hb
  obtain ⟨A, cp, rfl, hc⟩ := hr.open_
  obtain ⟨g, off, eA, hd⟩ := hc (by decide)
  subst eA
  have a0 : w2.cell? ⟨g, off, none⟩ = some (.int .i64 1) := by simpa using (hd 0 (by decide)).1
  have a2 : w2.cell? ⟨g, off + 4, none⟩ = some (.int .i64 9) := by simpa using (hd 2 (by decide)).1
  have a4 : w2.cell? ⟨g, off + 8, none⟩ = some (.int .i64 4) := by simpa using (hd 4 (by decide)).1
  rw [show ([(1, false), (3, false), (9, false), (9, false), (4, false)] : List Stp).length = 5 from rfl]
  clear hr hc hd
  go_wp2
  go_ret
  exact ⟨rfl, HB.out⟩
theorem rowS_ok (k : Int) : (∀ x ∈ rowS k, 0 ≤ x ∧ x < 256) ∧ (rowS k).length ≤ 100 := by
  by_cases h : 1 ≤ k ∧ k ≤ 7
  · rcases (show k = 1 ∨ k = 2 ∨ k = 3 ∨ k = 4 ∨ k = 5 ∨ k = 6 ∨ k = 7 by omega) with rfl | rfl | rfl | rfl | rfl | rfl | rfl <;> decide +kernel
  · have e1 : rowS k = [] := by unfold rowS; repeat (rw [if_neg (by omega)])
    rw [e1]; simp
theorem rowL_len (k : Int) : ((rowL k).length : Int) = rowN k ∧ (rowL k).length ≤ 100 := by
  by_cases h : 1 ≤ k ∧ k ≤ 7
  · rcases (show k = 1 ∨ k = 2 ∨ k = 3 ∨ k = 4 ∨ k = 5 ∨ k = 6 ∨ k = 7 by omega) with rfl | rfl | rfl | rfl | rfl | rfl | rfl <;> decide +kernel
  · have e1 : rowL k = [] := by unfold rowL; repeat (rw [if_neg (by omega)])
    have e2 : rowN k = 0 := by unfold rowN; repeat (rw [if_neg (by omega)])
    rw [e1, e2]; simp
set_option maxRecDepth 100000 in
set_option maxHeartbeats 4000000 in
theorem law_others (k : Int) (w : World) (hT : KindsAt w) :
    Calls Tryd.prog 4 #[.int .i64 k] w fun e w' => e = .returned (.bool true) ∧ Below w.heap.size w w' := by
  obtain ⟨q1, q2⟩ := rowS_ok k
  obtain ⟨q3, q4⟩ := rowL_len k
  have C1 := Lib.hid (fun w => rowR_st k w)
  have C2 := Lib.hid (fun w => row23_any k w)
  have C3 : Hid (∀ w, Calls Tryd.prog 9 #[.string (strOfNums (rowS k))] w (GivesR w (rowL k))) := Lib.hid (fun w => by
    have := steps_str (rowS k) q1 (by omega) w
    rw [row_same] at this
    exact this)
  have C4 := Lib.hid (fun w => row_any k w)
  generalize strOfNums (rowS k) = S at C2 C3
  rw [← q3] at C4
  have HL := Lib.hid q4
  generalize rowL k = L at C1 C3 C4 HL
  have HT := Lib.hid hT
  clear q1 q2 q3 q4 hT
  have HB := Lib.hid (Below.refl w.heap.size w)
  go_enter Tryd.func4, Tryd.ntmps4
  go_wp2_with fail
  refine (C1.out _).mono ?_
  rintro e w1 ⟨v1, rfl, hr, hb⟩
  have R1 := Lib.hid hr
  replace HT := Lib.hid (KindsAt.bel HT.out hb)
  replace HB := Lib.hid (Below.trans0 HB.out hb)
  clear hr hb
  go_wp2_with fail
  refine (C2.out _).mono ?_
  rintro e w' ⟨rfl, rfl⟩
  go_wp2_with fail
  refine (C3.out _).mono ?_
  rintro e w2 ⟨v2, rfl, hr, hb⟩
  replace R1 := Lib.hid (R1.out.below hb)
  have R2 := Lib.hid hr
  replace HT := Lib.hid (KindsAt.bel HT.out hb)
  replace HB := Lib.hid (Below.trans0 HB.out hb)
  clear hr hb
  go_wp2_with fail
  refine (eqSt_same _ _ _ _ _ R1.out R2.out rfl (by have := HL.out; omega)).mono ?_
  rintro e w3 ⟨rfl, hb⟩
  replace HT := Lib.hid (KindsAt.bel HT.out hb)
  replace HB := Lib.hid (Below.trans0 HB.out hb)
  clear hb R1 R2
  go_wp2_with fail
  refine (C1.out _).mono ?_
  rintro e w4 ⟨v4, rfl, hr, hb⟩
  replace HT := Lib.hid (KindsAt.bel HT.out hb)
  replace HB := Lib.hid (Below.trans0 HB.out hb)
  obtain ⟨A, cp, rfl, _⟩ := hr.open_
  clear hr hb
  go_wp2_with fail
  refine (C4.out _).mono ?_
  rintro e w' ⟨rfl, rfl⟩
  go_wp2_with fail
  refine (alive23 _ HT.out).mono ?_
  rintro e w5 ⟨rfl, hb⟩
  replace HB := Lib.hid (Below.trans0 HB.out hb)
  clear hb
  go_wp2
  go_ret
  exact ⟨rfl, HB.out⟩


def cnt (l : List Stp) : Nat := (l.filter fun x => x.1 == 1 || x.1 == 2).length
def kOk (l : List Stp) : Bool := l.all fun x => decide (1 ≤ x.1) && decide (x.1 ≤ 12)
def lastB (l : List Stp) : Bool := (l.getLastD (0, false)).2
theorem cnt_app (a b : List Stp) : cnt (a ++ b) = cnt a + cnt b := by simp [cnt]
theorem cnt2 (a b : List Stp) : cnt [a, b].flatten = cnt a + cnt b := by simp [cnt]
theorem kOk2 (a b : List Stp) (h : kOk a = true) (h' : kOk b = true) : kOk [a, b].flatten = true := by
  unfold kOk at *
  simp only [List.flatten_cons, List.flatten_nil, List.append_nil, List.all_append, h, h', Bool.and_self]
theorem lastB2 (a b : List Stp) (h : lastB a = false) (h' : lastB b = false) : lastB [a, b].flatten = false := by
  unfold lastB at *
  simp only [List.flatten_cons, List.flatten_nil, List.append_nil]
  cases b with
  | nil => simpa using h
  | cons x b =>
    have e : ∀ d, (a ++ x :: b).getLastD d = (x :: b).getLastD d := fun d => by
      rw [List.getLastD_eq_getLast?, List.getLastD_eq_getLast?, List.getLast?_append]
      simp [List.getLast?_cons]
    rw [e]; exact h'
/-- Behind a postbyte; the rest of RTI; ahead. -/
def behQ (b : Nat) : Bool := decide ((behindL (poBytes (poK b)) (poIdle (poK b)) (poI b)).length + 1 = poBytes (poK b) + poIdle (poK b) + (if poI b then 3 else 0) + 1) && decide (cnt (behindL (poBytes (poK b)) (poIdle (poK b)) (poI b)) = poBytes (poK b)) && kOk (behindL (poBytes (poK b)) (poIdle (poK b)) (poI b)) && !(lastB (behindL (poBytes (poK b)) (poIdle (poK b)) (poI b))) && decide (poExtra (poK b) (poI b) + 1 = poBytes (poK b) + poIdle (poK b) + (if poI b then 3 else 0))
theorem behQ_fin : ((List.range 256).all behQ) = true := by decide +kernel
theorem rest_fin : ∀ d : Bool, (restL d).length = (if d then 12 else 3) ∧ cnt (restL d) = 0 ∧ kOk (restL d) = true ∧ lastB (restL d) = false := by decide +kernel
def tlQ (j n : Nat) (h : Bool) : Bool :=
  (decide (eOp (pgT j) = 35) && decide (eReg (pgT j) = 1) && h) ||
  (decide (((if eMode (pgT j) = 4 then 3 else 1 + (aheadL (eMode (pgT j))).length) + (tailL (eOp (pgT j)) (eMode (pgT j)) h n).length : Int) + (if eOp (pgT j) = 49 then 3 else 0) =
      (if eMode (pgT j) = 4 then memN (eOp (pgT j)) else if eMode (pgT j) = 9 then 5 + (n : Int) else firstN (eOp (pgT j)) (eMode (pgT j)) 0) + (if h then takenN (eOp (pgT j)) (eReg (pgT j)) else 0))
    && decide (cnt (aheadL (eMode (pgT j))) + cnt (tailL (eOp (pgT j)) (eMode (pgT j)) h n) = if eMode (pgT j) = 4 then 1 else lenN (pgT j) 0)
    && kOk (aheadL (eMode (pgT j))) && kOk (tailL (eOp (pgT j)) (eMode (pgT j)) h n) && !(lastB (aheadL (eMode (pgT j)))) && !(lastB (tailL (eOp (pgT j)) (eMode (pgT j)) h n)))
theorem tlQ_fin : ((List.range 768).all fun j => (List.range 13).all fun n => tlQ j n true && tlQ j n false) = true := by decide +kernel
theorem one_row (N : Nat) (h : N = 1 ∨ N = 2) : (someL 1 N).length = N ∧ cnt (someL 1 N) = N ∧ kOk (someL 1 N) = true ∧ lastB (someL 1 N) = false := by
  rcases h with rfl | rfl <;> decide
theorem first_m4 (o : Int) (b : Nat) : firstN o 4 b = memN o + poExtra (poK b) (poI b) := rfl
theorem first_m9 (o : Int) (b : Nat) : firstN o 9 b = 5 + cntN b := rfl
theorem row_facts (j b : Nat) (hj : j < 768) (hb : b < 256) (h d : Bool) (hh : ¬ (eOp (pgT j) = 35 ∧ eReg (pgT j) = 1 ∧ h = true)) :
    ((ofL ((j / 256 + 1 : Nat) : Int) (eOp (pgT j)) (eMode (pgT j)) b h d).length : Int) = leastN ((j / 256 + 1 : Nat) : Int) (eOp (pgT j)) (eMode (pgT j)) b + (if h then takenN (eOp (pgT j)) (eReg (pgT j)) else 0) + (if d then wholeN (eOp (pgT j)) else 0) ∧
    cnt (ofL ((j / 256 + 1 : Nat) : Int) (eOp (pgT j)) (eMode (pgT j)) b h d) = (if j / 256 = 0 then 1 else 2) + lenN (pgT j) b ∧
    kOk (ofL ((j / 256 + 1 : Nat) : Int) (eOp (pgT j)) (eMode (pgT j)) b h d) = true ∧ lastB (ofL ((j / 256 + 1 : Nat) : Int) (eOp (pgT j)) (eMode (pgT j)) b h d) = false := by
  have hcn := Nat.le_of_ble_eq_true (allB 256 _ cnt12 b hb)
  have ht0 := allB 13 _ (allB 768 _ tlQ_fin j hj) (cntN b) (by omega)
  have ht : tlQ j (cntN b) h = true := by
    rw [Bool.and_eq_true] at ht0
    cases h
    · exact ht0.2
    · exact ht0.1
  have hbq := allB 256 _ behQ_fin b hb
  unfold behQ at hbq
  simp only [Bool.and_eq_true, decide_eq_true_eq, Bool.not_eq_true'] at hbq
  obtain ⟨⟨⟨⟨b1, b2⟩, b3⟩, b4⟩, b5⟩ := hbq
  obtain ⟨r1, r2, r3, r4⟩ := rest_fin d
  unfold tlQ at ht
  rw [Bool.or_eq_true] at ht
  have ht := ht.resolve_left (fun e => hh (by
    simp only [Bool.and_eq_true, decide_eq_true_eq] at e
    exact ⟨e.1.1, e.1.2, e.2⟩))
  simp only [Bool.and_eq_true, decide_eq_true_eq, Bool.not_eq_true'] at ht
  obtain ⟨⟨⟨⟨⟨t1, t2⟩, t3⟩, t4⟩, t5⟩, t6⟩ := ht
  obtain ⟨N, hN⟩ : ∃ N : Nat, (if ((j / 256 + 1 : Nat) : Int) = 2 ∨ ((j / 256 + 1 : Nat) : Int) = 3 then 2 else 1) = N := ⟨_, rfl⟩
  have hN2 : N = (if j / 256 = 0 then 1 else 2) := by
    rw [← hN]
    by_cases h0 : j / 256 = 0
    · rw [if_pos h0, if_neg (by omega)]
    · rw [if_neg h0, if_pos (by omega)]
  have hNN : N = 1 ∨ N = 2 := by rw [hN2]; split <;> simp
  obtain ⟨a1, a2, a3, a4⟩ := one_row N hNN
  have hls : ∀ o m : Int, leastN ((j / 256 + 1 : Nat) : Int) o m b = firstN o m b + (N : Int) - 1 := fun o m => by
    unfold leastN
    rcases hNN with e | e
    · rw [if_neg (by rw [e] at hN2; intro hx; split at hN2 <;> omega), e]; omega
    · rw [if_pos (by rw [e] at hN2; split at hN2 <;> omega), e]; omega
  have hln : lenN (pgT j) b = if eMode (pgT j) = 4 then 1 + poBytes (poK b) else lenN (pgT j) 0 := by
    split
    · rename_i e
      unfold lenN shN
      rw [e]; rfl
    · rename_i e
      exact lenN_free _ _ e
  have hfr : firstN (eOp (pgT j)) (eMode (pgT j)) b = if eMode (pgT j) = 4 then memN (eOp (pgT j)) + poExtra (poK b) (poI b) else if eMode (pgT j) = 9 then 5 + (cntN b : Int) else firstN (eOp (pgT j)) (eMode (pgT j)) 0 := by
    split
    · rename_i e; rw [e]; rfl
    · rename_i e
      split
      · rename_i e9; rw [e9]; rfl
      · rename_i e9; exact firstN_free _ _ _ (by omega) (by omega)
  have hwh : wholeN (eOp (pgT j)) = if eOp (pgT j) = 49 then 9 else 0 := by
    unfold wholeN
    by_cases e : eOp (pgT j) = 49
    · rw [if_pos e, if_pos (by omega)]
    · rw [if_neg e, if_neg (by omega)]
  have hB4 : eMode (pgT j) = 4 → (aheadL (eMode (pgT j))).length = 1 := fun e => by rw [e]; rfl
  rw [hls, hln, hfr, hwh, ← hN2]
  unfold ofL
  rw [hN]
  generalize eOp (pgT j) = o at *
  generalize eMode (pgT j) = m at *
  generalize behindL (poBytes (poK b)) (poIdle (poK b)) (poI b) = C at *
  generalize aheadL (m : Int) = B at *
  generalize tailL (o : Int) (m : Int) h (cntN b) = T at *
  generalize restL d = R at *
  generalize someL 1 N = A at *
  generalize takenN (o : Int) (eReg (pgT j) : Int) = tk at *
  generalize poExtra (poK b) (poI b) = px at *
  generalize (if h = true then tk else 0) = X at *
  have c4 : ((m : Int) = 4) = (m = 4) := by simp; omega
  have c49 : ((o : Int) = 49) = (o = 49) := by simp; omega
  simp only [c4, c49]
  by_cases e4 : m = 4 <;> by_cases e49 : o = 49
  · have hB := hB4 e4
    subst e4
    subst e49
    simp only [eq_self, if_true] at t1 t2 ⊢
    refine ⟨?_, ?_, ?_, ?_⟩
    · simp only [len2]
      cases d <;> simp only [if_true, if_false, Bool.false_eq_true] at r1 ⊢ <;> omega
    · simp only [cnt2]; omega
    · exact kOk2 _ _ (kOk2 _ _ (kOk2 _ _ (kOk2 _ _ a3 t3) b3) t4) r3
    · exact lastB2 _ _ (lastB2 _ _ (lastB2 _ _ (lastB2 _ _ a4 t5) b4) t6) r4
  · have hB := hB4 e4
    subst e4
    simp only [eq_self, if_true, e49, if_false] at t1 t2 ⊢
    refine ⟨?_, ?_, ?_, ?_⟩
    · simp only [len2]
      cases d <;> simp only [if_true, if_false, Bool.false_eq_true] at r1 ⊢ <;> omega
    · simp only [cnt2]; omega
    · exact kOk2 _ _ (kOk2 _ _ (kOk2 _ _ a3 t3) b3) t4
    · exact lastB2 _ _ (lastB2 _ _ (lastB2 _ _ a4 t5) b4) t6
  · subst e49
    simp only [eq_self, if_true, e4, if_false] at t1 t2 ⊢
    refine ⟨?_, ?_, ?_, ?_⟩
    · simp only [len2]
      cases d <;> simp only [if_true, if_false, Bool.false_eq_true] at r1 ⊢ <;> omega
    · simp only [cnt2]; omega
    · exact kOk2 _ _ (kOk2 _ _ (kOk2 _ _ a3 t3) t4) r3
    · exact lastB2 _ _ (lastB2 _ _ (lastB2 _ _ a4 t5) t6) r4
  · skip
    simp only [e4, if_false, e49] at t1 t2 ⊢
    refine ⟨?_, ?_, ?_, ?_⟩
    · simp only [len2]
      cases d <;> simp only [if_true, if_false, Bool.false_eq_true] at r1 ⊢ <;> omega
    · simp only [cnt2]; omega
    · exact kOk2 _ _ (kOk2 _ _ a3 t3) t4
    · exact lastB2 _ _ (lastB2 _ _ a4 t5) t6


abbrev zI23 : Array Value := #[.int .i64 0, .int .u8 0, .int .i64 0, .int .i64 0, .int .i64 0, .int .u8 0, .int .u16 0, .int .i64 0]
abbrev iC23' (p c o m r b v l : Int) : Array Value := #[.int .i64 p, .int .u8 c, .int .i64 o, .int .i64 m, .int .i64 r, .int .u8 b, .int .u16 v, .int .i64 l]
theorem holdsX_one (cc : Int) : holdsX 1 cc = false := by unfold holdsX; rw [if_pos (by omega)]; rfl
theorem cnt_take (L : List Stp) (k : Nat) (h : k < L.length) : cnt (L.take (k + 1)) = cnt (L.take k) + (if (L.getD k (0, false)).1 = 1 ∨ (L.getD k (0, false)).1 = 2 then 1 else 0) := by
  rw [List.take_succ_eq_append_getElem h, cnt_app]
  have e : L.getD k (0, false) = L[k] := by simp [List.getD_eq_getElem?_getD, h]
  rw [e]
  congr 1
  unfold cnt
  by_cases h1 : L[k].1 = 1
  · simp [h1]
  · by_cases h2 : L[k].1 = 2
    · simp [h2]
    · simp [h1, h2]
theorem kOk_at (L : List Stp) (h : kOk L = true) (k : Nat) (hk : k < L.length) : 1 ≤ (L.getD k (0, false)).1 ∧ (L.getD k (0, false)).1 ≤ 12 := by
  unfold kOk at h
  have e : L.getD k (0, false) = L[k] := by simp [List.getD_eq_getElem?_getD, hk]
  rw [List.all_eq_true] at h
  have := h _ (List.getElem_mem hk)
  rw [e]
  simpa using this
theorem last_at (L : List Stp) (h : lastB L = false) (k : Nat) (hk : k + 1 = L.length) : (L.getD k (0, false)).2 = false := by
  unfold lastB at h
  rw [List.getLastD_eq_getLast?, List.getLast?_eq_getElem?] at h
  rw [List.getD_eq_getElem?_getD, show k = L.length - 1 by omega]
  exact h
set_option maxRecDepth 100000 in
set_option maxHeartbeats 8000000 in
theorem law_count23 (A : Option Addr) (n cap : Nat) (xs : List Int) (cc pulled : Int) (hcc : CC cc) (q0 : 0 ≤ pulled) (q1 : pulled < 256) (w : World) (hI : Ints .u8 w w.heap.size A n xs) (hA : A = none → n = 0 ∧ cap = 0) (hn : n ≤ 140737488351232) (hT : KindsAt w) :
    Calls Tryd.prog 5 #[.slice A n cap, .int .u8 cc, .int .u8 pulled] w fun e w' => e = .returned (.bool true) ∧ Below w.heap.size w w' := by
  have HT0 := Lib.hid hT
  have C0 := of18_any A n cap xs w hI hA hn
  have CO := Lib.hid C0
  have HAg : Hid (inOk xs = true → inAgg xs = iC23' (inPg xs : Int) (inCo xs) (eOp (inE xs)) (eMode (inE xs)) (eReg (inE xs)) (inPo xs) (inVa xs) (inLn xs : Int)) := Lib.hid (fun h => iC23 xs h)
  have HAz : Hid (inOk xs = false → inAgg xs = zI23) := Lib.hid (fun h => by unfold inAgg; rw [h]; rfl)
  obtain ⟨j, b, hj, hb, h1, h2, h3, h4⟩ := in_parts hI.2.1
  have hbd := (bounds_in hI.2.1 cc).2.1
  rw [h1, h2, h3, Int.toNat_natCast] at hbd
  rw [h1, h2, h3, h4] at HAg
  have hh : ¬ (eOp (pgT j) = 35 ∧ eReg (pgT j) = 1 ∧ holdsX (eReg (pgT j) : Int) cc = true) := fun e => by
    have := e.2.2
    rw [e.2.1] at this
    exact absurd (this.symm.trans (holdsX_one cc)) (by decide)
  obtain ⟨f1, f2, f3, f4⟩ := row_facts j b hj hb (holdsX (eReg (pgT j) : Int) cc) (decide (127 < pulled)) hh
  have hp := and128p pulled q0 q1
  have f5 : ((ofL ((j / 256 + 1 : Nat) : Int) (eOp (pgT j)) (eMode (pgT j)) b (holdsX (eReg (pgT j) : Int) cc) (decide (127 < pulled))).length : Int) = cycN ((j / 256 + 1 : Nat) : Int) (eOp (pgT j)) (eMode (pgT j)) (eReg (pgT j)) b cc pulled := by
    rw [f1]
    unfold cycN
    rw [decide_eq_decide] at hp
    by_cases e : 127 < pulled
    · rw [if_pos (hp.2 e), if_pos (decide_eq_true e)]
    · rw [if_neg (fun x => e (hp.1 x)), if_neg (show ¬ (decide (127 < pulled) = true) by simpa using e)]
  have f6 : (ofL ((j / 256 + 1 : Nat) : Int) (eOp (pgT j)) (eMode (pgT j)) b (holdsX (eReg (pgT j) : Int) cc) (decide (127 < pulled))).length ≤ 20 := by
    have hc : cycN ((j / 256 + 1 : Nat) : Int) (eOp (pgT j)) (eMode (pgT j)) (eReg (pgT j)) b cc pulled ≤ cycN ((j / 256 + 1 : Nat) : Int) (eOp (pgT j)) (eMode (pgT j)) (eReg (pgT j)) b cc 128 := by
      have hw : 0 ≤ wholeN (eOp (pgT j)) := by unfold wholeN; split <;> omega
      unfold cycN
      rw [if_pos (show 0 < bits .and .u8 128 128 by decide +kernel)]
      split <;> omega
    omega
  have CR := Lib.hid (fun w hT => rowsOf_st ((j / 256 + 1 : Nat) : Int) (inCo xs) (eOp (pgT j)) (eMode (pgT j)) (eReg (pgT j)) (inVa xs) ((((if j / 256 = 0 then 1 else 2) + lenN (pgT j) b : Nat)) : Int) b hb cc pulled hcc q0 q1 w hT)
  have CY := Lib.hid (fun w hT => cyc_any ((j / 256 + 1 : Nat) : Int) (inCo xs) (eOp (pgT j)) (eMode (pgT j)) (eReg (pgT j)) (inVa xs) ((((if j / 256 = 0 then 1 else 2) + lenN (pgT j) b : Nat)) : Int) b hb cc pulled hcc w hT)
  rw [← f5] at CY
  rw [← f2] at CR CY HAg
  generalize ofL ((j / 256 + 1 : Nat) : Int) (eOp (pgT j)) (eMode (pgT j)) b (holdsX (eReg (pgT j) : Int) cc) (decide (127 < pulled)) = L at CR CY HAg f3 f4 f6
  generalize ((j / 256 + 1 : Nat) : Int) = p at CR CY HAg
  generalize inCo xs = co at CR CY HAg
  generalize inVa xs = va at CR CY HAg
  generalize (eOp (pgT j) : Int) = o at CR CY HAg
  generalize (eMode (pgT j) : Int) = m at CR CY HAg
  generalize (eReg (pgT j) : Int) = r at CR CY HAg
  generalize inAgg xs = ag at CO HAg HAz
  generalize inOk xs = ok at CO HAg HAz
  have F3 := Lib.hid f3
  have F4 := Lib.hid f4
  have F6 := Lib.hid f6
  clear hI hA hn hT C0 h1 h2 h3 h4 f1 f2 f3 f4 f5 f6 hh hp hbd hcc q0 q1 hj
  cases ok
  · obtain rfl := HAz.out rfl
    go_enter Tryd.func5, Tryd.ntmps5
    go_wp2_with fail
    refine CO.out.mono ?_
    rintro e v1 ⟨rfl, hb1⟩
    have HB1 := Lib.hid (Below.alloc0 hb1 (Obj.cells zI23 27))
    clear hb1
    by_cases hlen : 20 < n
    · have d1 : decide ((20 : Int) < (n : Int)) = true := decide_eq_true (by omega)
      clear hlen
      go_wp2
      go_ret
      exact ⟨rfl, HB1.out⟩
    · have d1 : decide ((20 : Int) < (n : Int)) = false := decide_eq_false (by omega)
      clear hlen
      go_wp2
      go_ret
      exact ⟨rfl, HB1.out⟩
  · obtain rfl := HAg.out rfl
    go_enter Tryd.func5, Tryd.ntmps5
    go_wp2_with fail
    refine CO.out.mono ?_
    rintro e v1 ⟨rfl, hb1⟩
    have HB1 := Lib.hid (Below.alloc0 hb1 (Obj.cells (iC23' p co o m r b va (cnt L : Int)) 27))
    have HT1 := Lib.hid (KindsAt.bel HT0.out (Below.alloc0 hb1 (Obj.cells (iC23' p co o m r b va (cnt L : Int)) 27)))
    have HK1 := Lib.hid (Blk.new v1 27 (iC23' p co o m r b va (cnt L : Int)) (0, 0))
    clear hb1
    by_cases hlen : 20 < n
    · have d1 : decide ((20 : Int) < (n : Int)) = true := decide_eq_true (by omega)
      clear hlen
      go_wp2
      go_ret
      exact ⟨rfl, HB1.out⟩
    · have d1 : decide ((20 : Int) < (n : Int)) = false := decide_eq_false (by omega)
      clear hlen
      obtain ⟨c0, c1, c2, c3, c4, c5, c6, c7⟩ := blkI HK1.out
      go_wp2_with fail
      refine (CR.out _ HT1.out).mono ?_
      rintro e v2 ⟨vv, rfl, hr, hb2⟩
      replace HK1 := Lib.hid (Blk.below HK1.out hb2 HK1.out.lt)
      replace HT1 := Lib.hid (KindsAt.bel HT1.out hb2)
      replace HB1 := Lib.hid (Below.trans0 HB1.out hb2)
      obtain ⟨A', cp, rfl, hc⟩ := hr.open_
      have HC := Lib.hid hc
      obtain ⟨N, hN⟩ : ∃ N, L.length = N := ⟨_, rfl⟩
      rw [hN] at HC CY F6 ⊢
      have HN := Lib.hid hN
      clear hr hb2 hc hN c0 c1 c2 c3 c4 c5 c6 c7
      go_wp2
      go_loopw [10, 11] (fun u10 u11 wr => ∃ k : Nat, k ≤ N ∧ u11 = .int .i64 k ∧ u10 = .int .i64 (cnt (L.take k)) ∧ wr = v2) (fun _ u11 _ => N - (intOf u11).toNat)
      case atStart => exact ⟨0, Nat.zero_le _, rfl, rfl, rfl⟩
      case round =>
        obtain ⟨k, hk, rfl, rfl, rfl⟩ := hrel
        by_cases hlt : k < N
        · obtain ⟨g, off, rfl, hcell⟩ := HC.out (by omega)
          obtain ⟨d1', d2'⟩ := hcell k hlt
          have hct := cnt_take L k (by rw [HN.out]; exact hlt)
          obtain ⟨o1, o2⟩ := kOk_at L F3.out k (by rw [HN.out]; exact hlt)
          have hla := fun h => last_at L F4.out k (by rw [HN.out]; exact h)
          have k0 : (0 : Int) ≤ k := by omega
          have k1 : (k : Int) < N := by omega
          have k2 : (N : Int) ≤ 20 := by have := F6.out; omega
          have hcl : cnt (L.take k) ≤ k := by
            have := List.length_filter_le (fun x : Stp => x.1 == 1 || x.1 == 2) (L.take k)
            unfold cnt
            rw [List.length_take] at this
            omega
          generalize L.getD k (0, false) = x at d1' d2' hct o1 o2 hla
          obtain ⟨xk, xb⟩ := x
          simp only at d1' d2' hct o1 o2 hla
          have n1 : decide (xk < 1) = false := decide_eq_false (by omega)
          have n2 : decide (12 < xk) = false := decide_eq_false (by omega)
          generalize cnt (L.take k) = q at hct hcl ⊢
          have HCT := Lib.hid hct
          have hqq : (q : Int) < 21 := by omega
          have hq0 : (0 : Int) ≤ q := by omega
          clear hcell hct hcl
          by_cases e1 : k + 1 = N
          · have hx := hla e1
            subst hx
            have e1' : (((k : Int) + 1) == (N : Int)) = true := by rw [beq_iff_eq]; omega
            clear hla
            rcases (show xk = 1 ∨ xk = 2 ∨ (¬ xk = 1 ∧ ¬ xk = 2) by omega) with rfl | rfl | ⟨m1, m2⟩
            · go_wp2
              exact ⟨⟨k + 1, by omega, rfl, by rw [HCT.out]; rfl, trivial⟩, by simp [intOf]; omega⟩
            · go_wp2
              exact ⟨⟨k + 1, by omega, rfl, by rw [HCT.out]; rfl, trivial⟩, by simp [intOf]; omega⟩
            · have m1' : (xk == 1) = false := ne_beqR m1
              have m2' : (xk == 2) = false := ne_beqR m2
              have HM := Lib.hid (show ¬ (xk = 1 ∨ xk = 2) by omega)
              clear m1 m2
              go_wp2
              exact ⟨⟨k + 1, by omega, rfl, by rw [HCT.out, if_neg HM.out]; rfl, trivial⟩, by simp [intOf]; omega⟩
          · have e1' : (((k : Int) + 1) == (N : Int)) = false := by rw [beq_eq_false_iff_ne]; omega
            clear hla
            cases xb
            · rcases (show xk = 1 ∨ xk = 2 ∨ (¬ xk = 1 ∧ ¬ xk = 2) by omega) with rfl | rfl | ⟨m1, m2⟩
              · go_wp2
                exact ⟨⟨k + 1, by omega, rfl, by rw [HCT.out]; rfl, trivial⟩, by simp [intOf]; omega⟩
              · go_wp2
                exact ⟨⟨k + 1, by omega, rfl, by rw [HCT.out]; rfl, trivial⟩, by simp [intOf]; omega⟩
              · have m1' : (xk == 1) = false := ne_beqR m1
                have m2' : (xk == 2) = false := ne_beqR m2
                have HM := Lib.hid (show ¬ (xk = 1 ∨ xk = 2) by omega)
                clear m1 m2
                go_wp2
                exact ⟨⟨k + 1, by omega, rfl, by rw [HCT.out, if_neg HM.out]; rfl, trivial⟩, by simp [intOf]; omega⟩
            · rcases (show xk = 1 ∨ xk = 2 ∨ (¬ xk = 1 ∧ ¬ xk = 2) by omega) with rfl | rfl | ⟨m1, m2⟩
              · go_wp2
                exact ⟨⟨k + 1, by omega, rfl, by rw [HCT.out]; rfl, trivial⟩, by simp [intOf]; omega⟩
              · go_wp2
                exact ⟨⟨k + 1, by omega, rfl, by rw [HCT.out]; rfl, trivial⟩, by simp [intOf]; omega⟩
              · have m1' : (xk == 1) = false := ne_beqR m1
                have m2' : (xk == 2) = false := ne_beqR m2
                have HM := Lib.hid (show ¬ (xk = 1 ∨ xk = 2) by omega)
                clear m1 m2
                go_wp2
                exact ⟨⟨k + 1, by omega, rfl, by rw [HCT.out, if_neg HM.out]; rfl, trivial⟩, by simp [intOf]; omega⟩
        · obtain rfl : k = N := by omega
          have HE := Lib.hid (List.take_of_length_le (show L.length ≤ k by rw [HN.out]; omega))
          rw [HE.out]
          have h20 : (k : Int) ≤ 20 := by have := F6.out; omega
          obtain ⟨c0, c1, c2, c3, c4, c5, c6, c7⟩ := blkI HK1.out
          clear hlt hk
          go_wp2_with fail
          refine (CY.out _ HT1.out).mono ?_
          rintro e v3 ⟨rfl, hb⟩
          replace HK1 := Lib.hid (Blk.below HK1.out hb HK1.out.lt)
          replace HT1 := Lib.hid (KindsAt.bel HT1.out hb)
          replace HB1 := Lib.hid (Below.trans0 HB1.out hb)
          clear hb c0 c1 c2 c3 c4 c5 c6 c7
          obtain ⟨c0, c1, c2, c3, c4, c5, c6, c7⟩ := blkI HK1.out
          go_wp2_with fail
          refine (alive23 _ HT1.out).mono ?_
          rintro e v4 ⟨rfl, hb⟩
          replace HB1 := Lib.hid (Below.trans0 HB1.out hb)
          clear hb
          go_wp2
          go_ret
          exact ⟨rfl, HB1.out⟩
end Go.Proofs.YtkdekhcnamkcgabDoor
