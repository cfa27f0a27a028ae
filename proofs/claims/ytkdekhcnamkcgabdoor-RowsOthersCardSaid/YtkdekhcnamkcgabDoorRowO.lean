/- Contracts: the cycles behind an instruction's bytes (rows.Tail), behind a postbyte (phase.Behind), of whole instructions (rows.Of). -/
import Derived.Test.YtkdekhcnamkcgabDoorRow
import Derived.Test.YtkdekhcnamkcgabDoorPostU
namespace Go.Proofs.YtkdekhcnamkcgabDoor
open Go.ChangeShapes Go.WideShapes Go.ChangeAt Go.RowKit
set_option linter.unusedVariables false

theorem blk3 {w : World} {g : Nat} {t : TypeId} {v0 v1 v2 : Value} (h : Blk w g t #[v0, v1, v2]) : w.cell? ⟨g, 0, none⟩ = some v0 ∧ w.cell? ⟨g, 1, none⟩ = some v1 ∧ w.cell? ⟨g, 2, none⟩ = some v2 := by
  refine ⟨?_, ?_, ?_⟩ <;> (rw [h.cell]; rfl)
theorem cnt12 : ((List.range 256).all fun b => Nat.ble (cntN b) 12) = true := by decide +kernel
theorem aloneL_len (o : Int) : (aloneL o).length ≤ 100 := by
  unfold aloneL
  repeat (first | (split; · decide) | decide)
set_option maxRecDepth 100000 in
set_option maxHeartbeats 2000000 in
theorem tail_st (o m r cc : Int) (b : Nat) (hb : b < 256) (hcc : CC cc) (w : World) : Calls Tryd.prog 11 #[.agg #[.int .i64 o, .int .i64 m, .int .i64 r], .int .u8 (b : Int), .int .u8 cc] w (GivesR w (tailL o m (holdsX r cc) (cntN b))) := by
  rcases (show m = 0 ∨ m = 1 ∨ m = 2 ∨ m = 3 ∨ m = 4 ∨ m = 5 ∨ m = 6 ∨ m = 7 ∨ m = 8 ∨ m = 9 ∨ (m < 0 ∨ 9 < m) by omega) with rfl | rfl | rfl | rfl | rfl | rfl | rfl | rfl | rfl | rfl | hm
  · go_enter Tryd.func11, Tryd.ntmps11
    have B0 := Lib.hid (Below.alloc0 (Below.refl w.heap.size w) (Obj.cells #[.int .i64 o, .int .i64 0, .int .i64 r] 24))
    have E0 := Lib.hid (show (w.alloc (Obj.cells #[.int .i64 o, .int .i64 0, .int .i64 r] 24)).drew.cell? ⟨w.heap.size, 0, none⟩ = some (.int .i64 o) from (blk3 (Blk.new w 24 #[.int .i64 o, .int .i64 0, .int .i64 r] (0, 0))).1)
    replace B0 := Lib.hid (Below.drew0 B0.out)
    have LT := Lib.hid (show w.heap.size < (w.alloc (Obj.cells #[.int .i64 o, .int .i64 0, .int .i64 r] 24)).drew.heap.size by show w.heap.size < (w.alloc _).heap.size; simp)
    have hl := Lib.hid (show [someL 3 1, aloneL o].flatten.length ≤ 1099511627776 by have := aloneL_len o; simp [someL]; omega)
    go_upto_region 11 with (fail)
    go_region_held3 (fun w' => w'.cell? ⟨w.heap.size, 0, none⟩ = some (.int .i64 o))
      (first
        | (with_reducible exact E0.out)
        | (with_reducible exact E1.out)
        | (with_reducible exact E2.out)
        | (with_reducible exact E3.out)
        | (with_reducible exact E4.out))
      (first
        | (go_at_call 24; (refine (some_st 3 1 1 rfl (by decide) _).mono ?_; rintro e w1 ⟨v1, rfl, hr1, hb1⟩; obtain ⟨A1, n1, c1, rfl⟩ := hr1.isSl; have R1 := Lib.hid hr1; have B1 := Lib.hid (Below.trans0 B0.out hb1); have E1 := Lib.hid ((hb1.cell (p := ⟨w.heap.size, 0, none⟩) LT.out).trans E0.out); have LT1 := Lib.hid (Nat.lt_of_lt_of_le LT.out hb1.size); clear hr1 hb1))
        | (go_at_call 33; (refine (alone_st o _).mono ?_; rintro e w2 ⟨v2, rfl, hr2, hb2⟩; obtain ⟨A2, n2, c2, rfl⟩ := hr2.isSl; have R1' := Lib.hid (R1.out.below hb2); have R2 := Lib.hid hr2; have B2 := Lib.hid (Below.trans0 B1.out hb2); have E2 := Lib.hid ((hb2.cell (p := ⟨w.heap.size, 0, none⟩) LT1.out).trans E1.out); have LT2 := Lib.hid (Nat.lt_of_lt_of_le LT1.out hb2.size); have E3 := Lib.hid ((Below.cell (Below.alloc0 (Below.refl w2.heap.size w2) (Obj.cells #[.slice A1 n1 c1, .slice A2 n2 c2] 31)) (p := ⟨w.heap.size, 0, none⟩) LT2.out).trans E2.out); clear hr2 hb2))
        | (go_at_call 23; (refine (row2_any _ _ _ _ _ R1'.out R2.out hl.out).mono ?_; rintro e w3 ⟨v3, rfl, hr3, hb3⟩; have R3 := Lib.hid hr3; have B3 := Lib.hid (Below.trans0 B2.out hb3); have E4 := Lib.hid ((hb3.cell (p := ⟨w.heap.size, 0, none⟩) LT2.out).trans E2.out); clear hr3 hb3)))
    go_wp2
    go_ret
    exact ⟨_, rfl, R3.out, B3.out⟩
  · go_enter Tryd.func11, Tryd.ntmps11
    have B0 := Lib.hid (Below.alloc0 (Below.refl w.heap.size w) (Obj.cells #[.int .i64 o, .int .i64 1, .int .i64 r] 24))
    go_wp2_with fail
    refine (one_st o _).mono ?_
    rintro e w1 ⟨v1, rfl, hr1, hb1⟩
    obtain ⟨A1, n1, c1, rfl⟩ := hr1.isSl
    have R1 := Lib.hid hr1
    have B1 := Lib.hid (Below.trans0 B0.out hb1)
    clear hr1 hb1
    go_wp2
    go_ret
    exact ⟨_, rfl, R1.out, B1.out⟩
  · go_enter Tryd.func11, Tryd.ntmps11
    have B0 := Lib.hid (Below.alloc0 (Below.refl w.heap.size w) (Obj.cells #[.int .i64 o, .int .i64 2, .int .i64 r] 24))
    go_wp2_with fail
    refine (two_st o _).mono ?_
    rintro e w1 ⟨v1, rfl, hr1, hb1⟩
    obtain ⟨A1, n1, c1, rfl⟩ := hr1.isSl
    have R1 := Lib.hid hr1
    have B1 := Lib.hid (Below.trans0 B0.out hb1)
    clear hr1 hb1
    go_wp2
    go_ret
    exact ⟨_, rfl, R1.out, B1.out⟩
  · go_enter Tryd.func11, Tryd.ntmps11
    have B0 := Lib.hid (Below.alloc0 (Below.refl w.heap.size w) (Obj.cells #[.int .i64 o, .int .i64 3, .int .i64 r] 24))
    go_wp2_with fail
    refine (memory_st o _).mono ?_
    rintro e w1 ⟨v1, rfl, hr1, hb1⟩
    obtain ⟨A1, n1, c1, rfl⟩ := hr1.isSl
    have R1 := Lib.hid hr1
    have B1 := Lib.hid (Below.trans0 B0.out hb1)
    clear hr1 hb1
    go_wp2
    go_ret
    exact ⟨_, rfl, R1.out, B1.out⟩
  · go_enter Tryd.func11, Tryd.ntmps11
    have B0 := Lib.hid (Below.alloc0 (Below.refl w.heap.size w) (Obj.cells #[.int .i64 o, .int .i64 4, .int .i64 r] 24))
    go_wp2_with fail
    refine (memory_st o _).mono ?_
    rintro e w1 ⟨v1, rfl, hr1, hb1⟩
    obtain ⟨A1, n1, c1, rfl⟩ := hr1.isSl
    have R1 := Lib.hid hr1
    have B1 := Lib.hid (Below.trans0 B0.out hb1)
    clear hr1 hb1
    go_wp2
    go_ret
    exact ⟨_, rfl, R1.out, B1.out⟩
  · go_enter Tryd.func11, Tryd.ntmps11
    have B0 := Lib.hid (Below.alloc0 (Below.refl w.heap.size w) (Obj.cells #[.int .i64 o, .int .i64 5, .int .i64 r] 24))
    go_wp2_with fail
    refine (memory_st o _).mono ?_
    rintro e w1 ⟨v1, rfl, hr1, hb1⟩
    obtain ⟨A1, n1, c1, rfl⟩ := hr1.isSl
    have R1 := Lib.hid hr1
    have B1 := Lib.hid (Below.trans0 B0.out hb1)
    clear hr1 hb1
    go_wp2
    go_ret
    exact ⟨_, rfl, R1.out, B1.out⟩
  · go_enter Tryd.func11, Tryd.ntmps11
    have B0 := Lib.hid (Below.alloc0 (Below.refl w.heap.size w) (Obj.cells #[.int .i64 o, .int .i64 6, .int .i64 r] 24))
    go_wp2_with fail
    refine (branch_st o 6 r cc hcc _).mono ?_
    rintro e w1 ⟨v1, rfl, hr1, hb1⟩
    obtain ⟨A1, n1, c1, rfl⟩ := hr1.isSl
    have R1 := Lib.hid hr1
    have B1 := Lib.hid (Below.trans0 B0.out hb1)
    clear hr1 hb1
    go_wp2
    go_ret
    exact ⟨_, rfl, R1.out, B1.out⟩
  · go_enter Tryd.func11, Tryd.ntmps11
    have B0 := Lib.hid (Below.alloc0 (Below.refl w.heap.size w) (Obj.cells #[.int .i64 o, .int .i64 7, .int .i64 r] 24))
    go_wp2_with fail
    refine (branch_st o 7 r cc hcc _).mono ?_
    rintro e w1 ⟨v1, rfl, hr1, hb1⟩
    obtain ⟨A1, n1, c1, rfl⟩ := hr1.isSl
    have R1 := Lib.hid hr1
    have B1 := Lib.hid (Below.trans0 B0.out hb1)
    clear hr1 hb1
    go_wp2
    go_ret
    exact ⟨_, rfl, R1.out, B1.out⟩
  · go_enter Tryd.func11, Tryd.ntmps11
    have B0 := Lib.hid (Below.alloc0 (Below.refl w.heap.size w) (Obj.cells #[.int .i64 o, .int .i64 8, .int .i64 r] 24))
    go_wp2_with fail
    refine (pair_st o _).mono ?_
    rintro e w1 ⟨v1, rfl, hr1, hb1⟩
    obtain ⟨A1, n1, c1, rfl⟩ := hr1.isSl
    have R1 := Lib.hid hr1
    have B1 := Lib.hid (Below.trans0 B0.out hb1)
    clear hr1 hb1
    go_wp2
    go_ret
    exact ⟨_, rfl, R1.out, B1.out⟩
  · go_enter Tryd.func11, Tryd.ntmps11
    have B0 := Lib.hid (Below.alloc0 (Below.refl w.heap.size w) (Obj.cells #[.int .i64 o, .int .i64 9, .int .i64 r] 24))
    have E0 := Lib.hid (show (w.alloc (Obj.cells #[.int .i64 o, .int .i64 9, .int .i64 r] 24)).drew.cell? ⟨w.heap.size, 0, none⟩ = some (.int .i64 o) from (blk3 (Blk.new w 24 #[.int .i64 o, .int .i64 9, .int .i64 r] (0, 0))).1)
    replace B0 := Lib.hid (Below.drew0 B0.out)
    have LT := Lib.hid (show w.heap.size < (w.alloc (Obj.cells #[.int .i64 o, .int .i64 9, .int .i64 r] 24)).drew.heap.size by show w.heap.size < (w.alloc _).heap.size; simp)
    have hn : cntN b ≤ 100 := by have := Nat.le_of_ble_eq_true (allB 256 _ cnt12 b hb); omega
    have CN := Lib.hid (fun w => count_any b hb w)
    have CM := Lib.hid (fun w => many_st o (cntN b : Int) (cntN b) rfl hn w)
    have hT : Hid (tailL o 9 (holdsX r cc) (cntN b) = manyL o (cntN b)) := Lib.hid rfl
    generalize cntN b = N at CN CM hT
    clear hn
    go_upto_region 18 with (fail)
    go_region_held3 (fun w' => w'.cell? ⟨w.heap.size, 0, none⟩ = some (.int .i64 o))
      (first
        | (with_reducible exact E0.out)
        | (with_reducible exact E1.out)
        | (with_reducible exact E2.out))
      (first
        | (go_at_call 37; (refine (CN.out _).mono ?_; rintro e w1 ⟨rfl, hb1⟩; have B1 := Lib.hid (Below.trans0 B0.out hb1); have E1 := Lib.hid ((hb1.cell (p := ⟨w.heap.size, 0, none⟩) LT.out).trans E0.out); have LT1 := Lib.hid (Nat.lt_of_lt_of_le LT.out hb1.size); clear hb1))
        | (go_at_call 36; (refine (CM.out _).mono ?_; rintro e w2 ⟨v2, rfl, hr2, hb2⟩; have R2 := Lib.hid hr2; have B2 := Lib.hid (Below.trans0 B1.out hb2); have E2 := Lib.hid ((hb2.cell (p := ⟨w.heap.size, 0, none⟩) LT1.out).trans E1.out); clear hr2 hb2)))
    all_goals
      go_wp2
      go_ret
      exact ⟨_, rfl, R2.out, B2.out⟩
  · have hz : tailL o m (holdsX r cc) (cntN b) = [] := by unfold tailL; repeat (rw [if_neg (by omega)])
    rw [hz]
    have e0 : (m == 0) = false := ne_beqR (by omega)
    have e1 : (m == 1) = false := ne_beqR (by omega)
    have e2 : (m == 2) = false := ne_beqR (by omega)
    have e3 : (m == 3) = false := ne_beqR (by omega)
    have e4 : (m == 4) = false := ne_beqR (by omega)
    have e5 : (m == 5) = false := ne_beqR (by omega)
    have e6 : (m == 6) = false := ne_beqR (by omega)
    have e7 : (m == 7) = false := ne_beqR (by omega)
    have e8 : (m == 8) = false := ne_beqR (by omega)
    have e9 : (m == 9) = false := ne_beqR (by omega)
    clear hz hm
    go_enter Tryd.func11, Tryd.ntmps11
    have B0 := Lib.hid (Below.alloc0 (Below.refl w.heap.size w) (Obj.cells #[.int .i64 o, .int .i64 m, .int .i64 r] 24))
    go_wp2
    go_ret
    exact ⟨_, rfl, .inl ⟨rfl, rfl⟩, B0.out⟩
end Go.Proofs.YtkdekhcnamkcgabDoor
