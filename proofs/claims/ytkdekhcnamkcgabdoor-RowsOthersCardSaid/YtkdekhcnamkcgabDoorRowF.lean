/- The contract of rows.Of: all cycles of an instruction. -/
import Derived.Test.YtkdekhcnamkcgabDoorRowO
import Derived.Test.YtkdekhcnamkcgabDoorBeh
namespace Go.Proofs.YtkdekhcnamkcgabDoor
open Go.ChangeShapes Go.WideShapes Go.ChangeAt Go.RowKit
set_option linter.unusedVariables false

def ofL (p o m : Int) (b : Nat) (h d : Bool) : List Stp :=
  let l0 := [someL 1 (if p = 2 ∨ p = 3 then 2 else 1), aheadL m].flatten
  let l1 := if m = 4 then [l0, behindL (poBytes (poK b)) (poIdle (poK b)) (poI b)].flatten else l0
  let l2 := [l1, tailL o m h (cntN b)].flatten
  if o = 49 then [l2, restL d].flatten else l2
theorem len2 (a b : List Stp) : [a, b].flatten.length = a.length + b.length := by simp
theorem someL_len (k : Int) (n : Nat) : (someL k n).length = n := by simp [someL]
theorem aheadL_len (m : Int) : (aheadL m).length ≤ 10 := by
  unfold aheadL
  repeat (first | (split; · decide) | decide)
theorem behindL_len (n k : Nat) (d : Bool) : (behindL n k d).length ≤ n + k + 10 := by
  unfold behindL
  cases d <;> simp [someL, firstL]
  omega
theorem restL_len (d : Bool) : (restL d).length ≤ 20 := by cases d <;> decide
theorem memL_len (g : Int) : (memL g).length ≤ 20 := by
  unfold memL
  repeat (first | (split; · decide) | decide)
theorem tailL_len (o m : Int) (h : Bool) (n : Nat) : (tailL o m h n).length ≤ 60 + n := by
  have h1 := memL_len (grpN o)
  have h2 : (oneL o).length ≤ 20 := by
    unfold oneL
    repeat (first | (split; · decide) | decide)
  have h3 : (twoL (grpN o)).length ≤ 20 := by
    unfold twoL
    repeat (first | (split; · decide) | decide)
  have h4 : (aloneL o).length ≤ 40 := by
    unfold aloneL
    repeat (first | (split; · decide) | decide)
  have h5 : (brL o h).length ≤ 20 := by
    unfold brL
    cases h
    all_goals repeat (first | (split; · decide) | decide)
  have h6 : (pairL o).length ≤ 20 := by
    unfold pairL
    repeat (first | (split; · decide) | decide)
  have h7 : (manyL o n).length ≤ 20 + n := by
    unfold manyL
    repeat (first | (split; · simp [someL]; omega) | simp)
  have h8 : [someL 3 1, aloneL o].flatten.length ≤ 50 := by simp [someL]; omega
  unfold tailL
  repeat (first | (split; · omega) | omega | (simp; done))
theorem KindsAt.bel {w w' : World} (h : KindsAt w) (hb : Below w.heap.size w w') : KindsAt w' := fun k hk => (hb.cell (p := ⟨0, k, none⟩) (cell_lt (h k hk))).trans (h k hk)
theorem blkI {w : World} {g : Nat} {t : TypeId} {v0 v1 v2 v3 v4 v5 v6 v7 : Value} (h : Blk w g t #[v0, v1, v2, v3, v4, v5, v6, v7]) : w.cell? ⟨g, 0, none⟩ = some v0 ∧ w.cell? ⟨g, 1, none⟩ = some v1 ∧ w.cell? ⟨g, 2, none⟩ = some v2 ∧ w.cell? ⟨g, 3, none⟩ = some v3 ∧ w.cell? ⟨g, 4, none⟩ = some v4 ∧ w.cell? ⟨g, 5, none⟩ = some v5 ∧ w.cell? ⟨g, 6, none⟩ = some v6 ∧ w.cell? ⟨g, 7, none⟩ = some v7 := by
  refine ⟨?_, ?_, ?_, ?_, ?_, ?_, ?_, ?_⟩ <;> (rw [h.cell]; rfl)
set_option maxRecDepth 100000 in
set_option maxHeartbeats 8000000 in
theorem rowsOf_1 (c r v l : Int) (b : Nat) (hb : b < 256) (cc pulled : Int) (hcc : CC cc) (q0 : 0 ≤ pulled) (q1 : pulled < 256) (w : World) (hT : KindsAt w) : Calls Tryd.prog 8 #[.agg #[.int .i64 2, .int .u8 c, .int .i64 49, .int .i64 4, .int .i64 r, .int .u8 (b : Int), .int .u16 v, .int .i64 l], .int .u8 cc, .int .u8 pulled] w (GivesR w (ofL 2 49 4 b (holdsX r cc) (decide (127 < pulled)))) := by
  have hO : Hid (ofL 2 49 4 b (holdsX r cc) (decide (127 < pulled)) = [[[[someL 1 2, aheadL 4].flatten, behindL (poBytes (poK b)) (poIdle (poK b)) (poI b)].flatten, tailL 49 4 (holdsX r cc) (cntN b)].flatten, restL (decide (127 < pulled))].flatten) := Lib.hid (by
    have hN : (if (2 : Int) = 2 ∨ (2 : Int) = 3 then 2 else 1) = 2 := rfl
    unfold ofL
    rw [hN]
    simp only [if_true])
  have L0 : [someL 1 2, aheadL 4].flatten.length ≤ 100 := by have := aheadL_len 4; rw [len2, someL_len]; omega
  have hpo := allB 14 _ po_le (poK b) (poK_lt b hb)
  rw [Bool.and_eq_true, Nat.ble_eq, Nat.ble_eq] at hpo
  have L1 : [[someL 1 2, aheadL 4].flatten, behindL (poBytes (poK b)) (poIdle (poK b)) (poI b)].flatten.length ≤ 200 := by have := behindL_len (poBytes (poK b)) (poIdle (poK b)) (poI b); rw [len2]; omega
  have hcn := Nat.le_of_ble_eq_true (allB 256 _ cnt12 b hb)
  have L2 : [[[someL 1 2, aheadL 4].flatten, behindL (poBytes (poK b)) (poIdle (poK b)) (poI b)].flatten, tailL 49 4 (holdsX r cc) (cntN b)].flatten.length ≤ 400 := by have := tailL_len 49 4 (holdsX r cc) (cntN b); rw [len2]; omega
  have L3 : [[[[someL 1 2, aheadL 4].flatten, behindL (poBytes (poK b)) (poIdle (poK b)) (poI b)].flatten, tailL 49 4 (holdsX r cc) (cntN b)].flatten, restL (decide (127 < pulled))].flatten.length ≤ 800 := by have := restL_len (decide (127 < pulled)); rw [len2]; omega
  have HT := Lib.hid (KindsAt.bel hT (Below.drew0 (Below.alloc0 (Below.refl _ w) (Obj.cells #[.int .i64 2, .int .u8 c, .int .i64 49, .int .i64 4, .int .i64 r, .int .u8 (b : Int), .int .u16 v, .int .i64 l] 27))))
  have HK0 := Lib.hid (show Blk (w.alloc (Obj.cells #[.int .i64 2, .int .u8 c, .int .i64 49, .int .i64 4, .int .i64 r, .int .u8 (b : Int), .int .u16 v, .int .i64 l] 27)).drew w.heap.size 27 #[.int .i64 2, .int .u8 c, .int .i64 49, .int .i64 4, .int .i64 r, .int .u8 (b : Int), .int .u16 v, .int .i64 l] from Blk.new w 27 #[.int .i64 2, .int .u8 c, .int .i64 49, .int .i64 4, .int .i64 r, .int .u8 (b : Int), .int .u16 v, .int .i64 l] (0, 0))
  have B0 := Lib.hid (Below.drew0 (Below.alloc0 (Below.refl w.heap.size w) (Obj.cells #[.int .i64 2, .int .u8 c, .int .i64 49, .int .i64 4, .int .i64 r, .int .u8 (b : Int), .int .u16 v, .int .i64 l] 27)))
  have TA := Lib.hid (fun w => tail_st 49 4 r cc b hb hcc w)
  have AH := Lib.hid (fun w => ahead_st 4 w)
  have M0 := Lib.hid (show [someL 1 2, aheadL 4].flatten.length ≤ 1099511627776 by omega)
  have M1 := Lib.hid (show [[someL 1 2, aheadL 4].flatten, behindL (poBytes (poK b)) (poIdle (poK b)) (poI b)].flatten.length ≤ 1099511627776 by omega)
  have M2 := Lib.hid (show [[[someL 1 2, aheadL 4].flatten, behindL (poBytes (poK b)) (poIdle (poK b)) (poI b)].flatten, tailL 49 4 (holdsX r cc) (cntN b)].flatten.length ≤ 1099511627776 by omega)
  have M3 := Lib.hid (show [[[[someL 1 2, aheadL 4].flatten, behindL (poBytes (poK b)) (poIdle (poK b)) (poI b)].flatten, tailL 49 4 (holdsX r cc) (cntN b)].flatten, restL (decide (127 < pulled))].flatten.length ≤ 1099511627776 by omega)
  have RE := Lib.hid (fun w => rest_st pulled q0 q1 w)
  have PO := Lib.hid (fun w hT => of_any b hb w hT)
  have BE := Lib.hid (fun w => behind_st (poK b) (poK_lt b hb) (poR b) (poO b) (poI b) w)
  clear L0 L1 L2 hcn hT L3 hpo
  go_enter Tryd.func8, Tryd.ntmps8
  go_upto_region 4 with (fail)
  go_region_held3 (fun w' => w'.cell? ⟨w.heap.size, 0, none⟩ = some (.int .i64 2) ∧ w'.cell? ⟨w.heap.size, 1, none⟩ = some (.int .u8 c) ∧ w'.cell? ⟨w.heap.size, 2, none⟩ = some (.int .i64 49) ∧ w'.cell? ⟨w.heap.size, 3, none⟩ = some (.int .i64 4) ∧ w'.cell? ⟨w.heap.size, 4, none⟩ = some (.int .i64 r) ∧ w'.cell? ⟨w.heap.size, 5, none⟩ = some (.int .u8 (b : Int)) ∧ w'.cell? ⟨w.heap.size, 6, none⟩ = some (.int .u16 v) ∧ w'.cell? ⟨w.heap.size, 7, none⟩ = some (.int .i64 l))
    (first
      | (with_reducible exact blkI HK0.out)
      | (with_reducible exact blkI HK1.out)
      | (with_reducible exact blkI HK2.out)
      | (with_reducible exact blkI HK3.out)
      | (with_reducible exact blkI HK4.out))
    (first
      | (go_at_call 24; ((with_reducible refine (some_st 1 2 2 rfl (by decide) _).mono ?_); rintro e w1 ⟨v1, rfl, hr, hb⟩; obtain ⟨A1, n1, c1, rfl⟩ := hr.isSl; have R1 := Lib.hid hr; have HK1 := Lib.hid (Blk.below HK0.out hb HK0.out.lt); have B1 := Lib.hid (Below.trans0 B0.out hb); have HT1 := Lib.hid (KindsAt.bel HT.out hb); clear hr hb))
      | (go_at_call 25; ((with_reducible refine (AH.out _).mono ?_); rintro e w2 ⟨v2, rfl, hr, hb⟩; obtain ⟨A2, n2, c2, rfl⟩ := hr.isSl; have R1' := Lib.hid (R1.out.below hb); have R2 := Lib.hid hr; have HK2 := Lib.hid (Blk.below HK1.out hb HK1.out.lt); have B2 := Lib.hid (Below.trans0 B1.out hb); have HT2 := Lib.hid (KindsAt.bel HT1.out hb); have HK3 := Lib.hid (Blk.alloc HK2.out (Obj.cells #[.slice A1 n1 c1, .slice A2 n2 c2] 31)); clear hr hb))
      | (go_at_call 23; (refine (row2_any _ _ _ _ _ R1'.out R2.out M0.out).mono ?_; rintro e w3 ⟨v3, rfl, hr, hb⟩; obtain ⟨A3, n3, c3, rfl⟩ := hr.isSl; have R3 := Lib.hid hr; have HK4 := Lib.hid (Blk.below HK2.out hb HK2.out.lt); have B3 := Lib.hid (Below.trans0 B2.out hb); have HT3 := Lib.hid (KindsAt.bel HT2.out hb); clear hr hb)))
  obtain ⟨i0, i1, i2, i3, i4, i5, i6, i7⟩ := blkI HK4.out
  have HK := HK4
  have HT := HT3
  have B := B3
  have R := R3
  clear R1 R2 R1' HK0 HK1 HK2 HK3 HK4 B0 B1 B2 B3 HT1 HT2 HT3 R3 M0 AH
  go_wp2_with fail
  refine (PO.out _ HT.out).mono ?_
  rintro e w4 ⟨rfl, hb⟩
  replace R := Lib.hid (R.out.below hb)
  replace HK := Lib.hid (Blk.below HK.out hb HK.out.lt)
  replace HT := Lib.hid (KindsAt.bel HT.out hb)
  replace B := Lib.hid (Below.trans0 B.out hb)
  clear hb
  clear i0 i1 i2 i3 i4 i5 i6 i7
  obtain ⟨i0, i1, i2, i3, i4, i5, i6, i7⟩ := blkI HK.out
  go_wp2_with fail
  refine (BE.out _).mono ?_
  rintro e w5 ⟨v5, rfl, hr, hb⟩
  obtain ⟨A5, n5, c5, rfl⟩ := hr.isSl
  replace R := Lib.hid (R.out.below hb)
  have R5 := Lib.hid hr
  replace HK := Lib.hid (Blk.below HK.out hb HK.out.lt)
  replace HT := Lib.hid (KindsAt.bel HT.out hb)
  replace B := Lib.hid (Below.trans0 B.out hb)
  clear hr hb
  clear i0 i1 i2 i3 i4 i5 i6 i7
  obtain ⟨i0, i1, i2, i3, i4, i5, i6, i7⟩ := blkI HK.out
  go_wp2_with fail
  refine (row2_any _ _ _ _ _ R.out R5.out M1.out).mono ?_
  rintro e w6 ⟨v6, rfl, hr, hb⟩
  obtain ⟨A6, n6, c6, rfl⟩ := hr.isSl
  clear R R5
  have R := Lib.hid hr
  replace HK := Lib.hid (Blk.below HK.out hb HK.out.lt)
  replace B := Lib.hid (Below.trans0 B.out hb)
  clear hr hb
  clear i0 i1 i2 i3 i4 i5 i6 i7
  obtain ⟨i0, i1, i2, i3, i4, i5, i6, i7⟩ := blkI HK.out
  go_wp2_with fail
  refine (TA.out _).mono ?_
  rintro e w7 ⟨v7, rfl, hr, hb⟩
  obtain ⟨A7, n7, c7, rfl⟩ := hr.isSl
  replace R := Lib.hid (R.out.below hb)
  have R7 := Lib.hid hr
  replace HK := Lib.hid (Blk.below HK.out hb HK.out.lt)
  replace B := Lib.hid (Below.trans0 B.out hb)
  clear hr hb
  clear i0 i1 i2 i3 i4 i5 i6 i7
  obtain ⟨i0, i1, i2, i3, i4, i5, i6, i7⟩ := blkI HK.out
  go_wp2_with fail
  refine (row2_any _ _ _ _ _ R.out R7.out M2.out).mono ?_
  rintro e w8 ⟨v8, rfl, hr, hb⟩
  obtain ⟨A8, n8, c8, rfl⟩ := hr.isSl
  clear R R7
  have R := Lib.hid hr
  replace HK := Lib.hid (Blk.below HK.out hb HK.out.lt)
  replace B := Lib.hid (Below.trans0 B.out hb)
  clear hr hb
  clear i0 i1 i2 i3 i4 i5 i6 i7
  obtain ⟨i0, i1, i2, i3, i4, i5, i6, i7⟩ := blkI HK.out
  go_wp2_with fail
  refine (RE.out _).mono ?_
  rintro e w9 ⟨v9, rfl, hr, hb⟩
  obtain ⟨A9, n9, c9, rfl⟩ := hr.isSl
  replace R := Lib.hid (R.out.below hb)
  have R9 := Lib.hid hr
  replace HK := Lib.hid (Blk.below HK.out hb HK.out.lt)
  replace B := Lib.hid (Below.trans0 B.out hb)
  clear hr hb
  clear i0 i1 i2 i3 i4 i5 i6 i7
  obtain ⟨i0, i1, i2, i3, i4, i5, i6, i7⟩ := blkI HK.out
  go_wp2_with fail
  refine (row2_any _ _ _ _ _ R.out R9.out M3.out).mono ?_
  rintro e w10 ⟨v10, rfl, hr, hb⟩
  obtain ⟨A10, n10, c10, rfl⟩ := hr.isSl
  clear R R9
  have R := Lib.hid hr
  replace B := Lib.hid (Below.trans0 B.out hb)
  clear hr hb
  go_wp2
  go_ret
  exact ⟨_, rfl, by rw [hO.out]; exact R.out, B.out⟩
set_option maxRecDepth 100000 in
set_option maxHeartbeats 8000000 in
theorem rowsOf_2 (c o r v l : Int) (b : Nat) (hb : b < 256) (cc pulled : Int) (hcc : CC cc) (q0 : 0 ≤ pulled) (q1 : pulled < 256) (ho : ¬ o = 49) (w : World) (hT : KindsAt w) : Calls Tryd.prog 8 #[.agg #[.int .i64 2, .int .u8 c, .int .i64 o, .int .i64 4, .int .i64 r, .int .u8 (b : Int), .int .u16 v, .int .i64 l], .int .u8 cc, .int .u8 pulled] w (GivesR w (ofL 2 o 4 b (holdsX r cc) (decide (127 < pulled)))) := by
  have hO : Hid (ofL 2 o 4 b (holdsX r cc) (decide (127 < pulled)) = [[[someL 1 2, aheadL 4].flatten, behindL (poBytes (poK b)) (poIdle (poK b)) (poI b)].flatten, tailL o 4 (holdsX r cc) (cntN b)].flatten) := Lib.hid (by
    have hN : (if (2 : Int) = 2 ∨ (2 : Int) = 3 then 2 else 1) = 2 := rfl
    unfold ofL
    rw [hN]
    simp only [if_neg ho, if_true])
  have L0 : [someL 1 2, aheadL 4].flatten.length ≤ 100 := by have := aheadL_len 4; rw [len2, someL_len]; omega
  have hpo := allB 14 _ po_le (poK b) (poK_lt b hb)
  rw [Bool.and_eq_true, Nat.ble_eq, Nat.ble_eq] at hpo
  have L1 : [[someL 1 2, aheadL 4].flatten, behindL (poBytes (poK b)) (poIdle (poK b)) (poI b)].flatten.length ≤ 200 := by have := behindL_len (poBytes (poK b)) (poIdle (poK b)) (poI b); rw [len2]; omega
  have hcn := Nat.le_of_ble_eq_true (allB 256 _ cnt12 b hb)
  have L2 : [[[someL 1 2, aheadL 4].flatten, behindL (poBytes (poK b)) (poIdle (poK b)) (poI b)].flatten, tailL o 4 (holdsX r cc) (cntN b)].flatten.length ≤ 400 := by have := tailL_len o 4 (holdsX r cc) (cntN b); rw [len2]; omega
  have HT := Lib.hid (KindsAt.bel hT (Below.drew0 (Below.alloc0 (Below.refl _ w) (Obj.cells #[.int .i64 2, .int .u8 c, .int .i64 o, .int .i64 4, .int .i64 r, .int .u8 (b : Int), .int .u16 v, .int .i64 l] 27))))
  have HK0 := Lib.hid (show Blk (w.alloc (Obj.cells #[.int .i64 2, .int .u8 c, .int .i64 o, .int .i64 4, .int .i64 r, .int .u8 (b : Int), .int .u16 v, .int .i64 l] 27)).drew w.heap.size 27 #[.int .i64 2, .int .u8 c, .int .i64 o, .int .i64 4, .int .i64 r, .int .u8 (b : Int), .int .u16 v, .int .i64 l] from Blk.new w 27 #[.int .i64 2, .int .u8 c, .int .i64 o, .int .i64 4, .int .i64 r, .int .u8 (b : Int), .int .u16 v, .int .i64 l] (0, 0))
  have B0 := Lib.hid (Below.drew0 (Below.alloc0 (Below.refl w.heap.size w) (Obj.cells #[.int .i64 2, .int .u8 c, .int .i64 o, .int .i64 4, .int .i64 r, .int .u8 (b : Int), .int .u16 v, .int .i64 l] 27)))
  have TA := Lib.hid (fun w => tail_st o 4 r cc b hb hcc w)
  have AH := Lib.hid (fun w => ahead_st 4 w)
  have M0 := Lib.hid (show [someL 1 2, aheadL 4].flatten.length ≤ 1099511627776 by omega)
  have M1 := Lib.hid (show [[someL 1 2, aheadL 4].flatten, behindL (poBytes (poK b)) (poIdle (poK b)) (poI b)].flatten.length ≤ 1099511627776 by omega)
  have M2 := Lib.hid (show [[[someL 1 2, aheadL 4].flatten, behindL (poBytes (poK b)) (poIdle (poK b)) (poI b)].flatten, tailL o 4 (holdsX r cc) (cntN b)].flatten.length ≤ 1099511627776 by omega)
  have PO := Lib.hid (fun w hT => of_any b hb w hT)
  have BE := Lib.hid (fun w => behind_st (poK b) (poK_lt b hb) (poR b) (poO b) (poI b) w)
  have e5 : (o == 49) = false := ne_beqR ho
  clear L0 L1 L2 hcn hT hpo ho
  go_enter Tryd.func8, Tryd.ntmps8
  go_upto_region 4 with (fail)
  go_region_held3 (fun w' => w'.cell? ⟨w.heap.size, 0, none⟩ = some (.int .i64 2) ∧ w'.cell? ⟨w.heap.size, 1, none⟩ = some (.int .u8 c) ∧ w'.cell? ⟨w.heap.size, 2, none⟩ = some (.int .i64 o) ∧ w'.cell? ⟨w.heap.size, 3, none⟩ = some (.int .i64 4) ∧ w'.cell? ⟨w.heap.size, 4, none⟩ = some (.int .i64 r) ∧ w'.cell? ⟨w.heap.size, 5, none⟩ = some (.int .u8 (b : Int)) ∧ w'.cell? ⟨w.heap.size, 6, none⟩ = some (.int .u16 v) ∧ w'.cell? ⟨w.heap.size, 7, none⟩ = some (.int .i64 l))
    (first
      | (with_reducible exact blkI HK0.out)
      | (with_reducible exact blkI HK1.out)
      | (with_reducible exact blkI HK2.out)
      | (with_reducible exact blkI HK3.out)
      | (with_reducible exact blkI HK4.out))
    (first
      | (go_at_call 24; ((with_reducible refine (some_st 1 2 2 rfl (by decide) _).mono ?_); rintro e w1 ⟨v1, rfl, hr, hb⟩; obtain ⟨A1, n1, c1, rfl⟩ := hr.isSl; have R1 := Lib.hid hr; have HK1 := Lib.hid (Blk.below HK0.out hb HK0.out.lt); have B1 := Lib.hid (Below.trans0 B0.out hb); have HT1 := Lib.hid (KindsAt.bel HT.out hb); clear hr hb))
      | (go_at_call 25; ((with_reducible refine (AH.out _).mono ?_); rintro e w2 ⟨v2, rfl, hr, hb⟩; obtain ⟨A2, n2, c2, rfl⟩ := hr.isSl; have R1' := Lib.hid (R1.out.below hb); have R2 := Lib.hid hr; have HK2 := Lib.hid (Blk.below HK1.out hb HK1.out.lt); have B2 := Lib.hid (Below.trans0 B1.out hb); have HT2 := Lib.hid (KindsAt.bel HT1.out hb); have HK3 := Lib.hid (Blk.alloc HK2.out (Obj.cells #[.slice A1 n1 c1, .slice A2 n2 c2] 31)); clear hr hb))
      | (go_at_call 23; (refine (row2_any _ _ _ _ _ R1'.out R2.out M0.out).mono ?_; rintro e w3 ⟨v3, rfl, hr, hb⟩; obtain ⟨A3, n3, c3, rfl⟩ := hr.isSl; have R3 := Lib.hid hr; have HK4 := Lib.hid (Blk.below HK2.out hb HK2.out.lt); have B3 := Lib.hid (Below.trans0 B2.out hb); have HT3 := Lib.hid (KindsAt.bel HT2.out hb); clear hr hb)))
  obtain ⟨i0, i1, i2, i3, i4, i5, i6, i7⟩ := blkI HK4.out
  have HK := HK4
  have HT := HT3
  have B := B3
  have R := R3
  clear R1 R2 R1' HK0 HK1 HK2 HK3 HK4 B0 B1 B2 B3 HT1 HT2 HT3 R3 M0 AH
  go_wp2_with fail
  refine (PO.out _ HT.out).mono ?_
  rintro e w4 ⟨rfl, hb⟩
  replace R := Lib.hid (R.out.below hb)
  replace HK := Lib.hid (Blk.below HK.out hb HK.out.lt)
  replace HT := Lib.hid (KindsAt.bel HT.out hb)
  replace B := Lib.hid (Below.trans0 B.out hb)
  clear hb
  clear i0 i1 i2 i3 i4 i5 i6 i7
  obtain ⟨i0, i1, i2, i3, i4, i5, i6, i7⟩ := blkI HK.out
  go_wp2_with fail
  refine (BE.out _).mono ?_
  rintro e w5 ⟨v5, rfl, hr, hb⟩
  obtain ⟨A5, n5, c5, rfl⟩ := hr.isSl
  replace R := Lib.hid (R.out.below hb)
  have R5 := Lib.hid hr
  replace HK := Lib.hid (Blk.below HK.out hb HK.out.lt)
  replace HT := Lib.hid (KindsAt.bel HT.out hb)
  replace B := Lib.hid (Below.trans0 B.out hb)
  clear hr hb
  clear i0 i1 i2 i3 i4 i5 i6 i7
  obtain ⟨i0, i1, i2, i3, i4, i5, i6, i7⟩ := blkI HK.out
  go_wp2_with fail
  refine (row2_any _ _ _ _ _ R.out R5.out M1.out).mono ?_
  rintro e w6 ⟨v6, rfl, hr, hb⟩
  obtain ⟨A6, n6, c6, rfl⟩ := hr.isSl
  clear R R5
  have R := Lib.hid hr
  replace HK := Lib.hid (Blk.below HK.out hb HK.out.lt)
  replace B := Lib.hid (Below.trans0 B.out hb)
  clear hr hb
  clear i0 i1 i2 i3 i4 i5 i6 i7
  obtain ⟨i0, i1, i2, i3, i4, i5, i6, i7⟩ := blkI HK.out
  go_wp2_with fail
  refine (TA.out _).mono ?_
  rintro e w7 ⟨v7, rfl, hr, hb⟩
  obtain ⟨A7, n7, c7, rfl⟩ := hr.isSl
  replace R := Lib.hid (R.out.below hb)
  have R7 := Lib.hid hr
  replace HK := Lib.hid (Blk.below HK.out hb HK.out.lt)
  replace B := Lib.hid (Below.trans0 B.out hb)
  clear hr hb
  clear i0 i1 i2 i3 i4 i5 i6 i7
  obtain ⟨i0, i1, i2, i3, i4, i5, i6, i7⟩ := blkI HK.out
  go_wp2_with fail
  refine (row2_any _ _ _ _ _ R.out R7.out M2.out).mono ?_
  rintro e w8 ⟨v8, rfl, hr, hb⟩
  obtain ⟨A8, n8, c8, rfl⟩ := hr.isSl
  clear R R7
  have R := Lib.hid hr
  replace HK := Lib.hid (Blk.below HK.out hb HK.out.lt)
  replace B := Lib.hid (Below.trans0 B.out hb)
  clear hr hb
  clear i0 i1 i2 i3 i4 i5 i6 i7
  obtain ⟨i0, i1, i2, i3, i4, i5, i6, i7⟩ := blkI HK.out
  go_wp2
  go_ret
  exact ⟨_, rfl, by rw [hO.out]; exact R.out, B.out⟩
set_option maxRecDepth 100000 in
set_option maxHeartbeats 8000000 in
theorem rowsOf_3 (c m r v l : Int) (b : Nat) (hb : b < 256) (cc pulled : Int) (hcc : CC cc) (q0 : 0 ≤ pulled) (q1 : pulled < 256) (hm : ¬ m = 4) (w : World) (hT : KindsAt w) : Calls Tryd.prog 8 #[.agg #[.int .i64 2, .int .u8 c, .int .i64 49, .int .i64 m, .int .i64 r, .int .u8 (b : Int), .int .u16 v, .int .i64 l], .int .u8 cc, .int .u8 pulled] w (GivesR w (ofL 2 49 m b (holdsX r cc) (decide (127 < pulled)))) := by
  have hO : Hid (ofL 2 49 m b (holdsX r cc) (decide (127 < pulled)) = [[[someL 1 2, aheadL m].flatten, tailL 49 m (holdsX r cc) (cntN b)].flatten, restL (decide (127 < pulled))].flatten) := Lib.hid (by
    have hN : (if (2 : Int) = 2 ∨ (2 : Int) = 3 then 2 else 1) = 2 := rfl
    unfold ofL
    rw [hN]
    simp only [if_neg hm, if_true])
  have L0 : [someL 1 2, aheadL m].flatten.length ≤ 100 := by have := aheadL_len m; rw [len2, someL_len]; omega
  have L1 : [someL 1 2, aheadL m].flatten.length ≤ 200 := by omega
  have hcn := Nat.le_of_ble_eq_true (allB 256 _ cnt12 b hb)
  have L2 : [[someL 1 2, aheadL m].flatten, tailL 49 m (holdsX r cc) (cntN b)].flatten.length ≤ 400 := by have := tailL_len 49 m (holdsX r cc) (cntN b); rw [len2]; omega
  have L3 : [[[someL 1 2, aheadL m].flatten, tailL 49 m (holdsX r cc) (cntN b)].flatten, restL (decide (127 < pulled))].flatten.length ≤ 800 := by have := restL_len (decide (127 < pulled)); rw [len2]; omega
  have HT := Lib.hid (KindsAt.bel hT (Below.drew0 (Below.alloc0 (Below.refl _ w) (Obj.cells #[.int .i64 2, .int .u8 c, .int .i64 49, .int .i64 m, .int .i64 r, .int .u8 (b : Int), .int .u16 v, .int .i64 l] 27))))
  have HK0 := Lib.hid (show Blk (w.alloc (Obj.cells #[.int .i64 2, .int .u8 c, .int .i64 49, .int .i64 m, .int .i64 r, .int .u8 (b : Int), .int .u16 v, .int .i64 l] 27)).drew w.heap.size 27 #[.int .i64 2, .int .u8 c, .int .i64 49, .int .i64 m, .int .i64 r, .int .u8 (b : Int), .int .u16 v, .int .i64 l] from Blk.new w 27 #[.int .i64 2, .int .u8 c, .int .i64 49, .int .i64 m, .int .i64 r, .int .u8 (b : Int), .int .u16 v, .int .i64 l] (0, 0))
  have B0 := Lib.hid (Below.drew0 (Below.alloc0 (Below.refl w.heap.size w) (Obj.cells #[.int .i64 2, .int .u8 c, .int .i64 49, .int .i64 m, .int .i64 r, .int .u8 (b : Int), .int .u16 v, .int .i64 l] 27)))
  have TA := Lib.hid (fun w => tail_st 49 m r cc b hb hcc w)
  have AH := Lib.hid (fun w => ahead_st m w)
  have M0 := Lib.hid (show [someL 1 2, aheadL m].flatten.length ≤ 1099511627776 by omega)
  have M1 := Lib.hid (show [someL 1 2, aheadL m].flatten.length ≤ 1099511627776 by omega)
  have M2 := Lib.hid (show [[someL 1 2, aheadL m].flatten, tailL 49 m (holdsX r cc) (cntN b)].flatten.length ≤ 1099511627776 by omega)
  have M3 := Lib.hid (show [[[someL 1 2, aheadL m].flatten, tailL 49 m (holdsX r cc) (cntN b)].flatten, restL (decide (127 < pulled))].flatten.length ≤ 1099511627776 by omega)
  have RE := Lib.hid (fun w => rest_st pulled q0 q1 w)
  have e4 : (m == 4) = false := ne_beqR hm
  clear L0 L1 L2 hcn hT L3 hm
  go_enter Tryd.func8, Tryd.ntmps8
  go_upto_region 4 with (fail)
  go_region_held3 (fun w' => w'.cell? ⟨w.heap.size, 0, none⟩ = some (.int .i64 2) ∧ w'.cell? ⟨w.heap.size, 1, none⟩ = some (.int .u8 c) ∧ w'.cell? ⟨w.heap.size, 2, none⟩ = some (.int .i64 49) ∧ w'.cell? ⟨w.heap.size, 3, none⟩ = some (.int .i64 m) ∧ w'.cell? ⟨w.heap.size, 4, none⟩ = some (.int .i64 r) ∧ w'.cell? ⟨w.heap.size, 5, none⟩ = some (.int .u8 (b : Int)) ∧ w'.cell? ⟨w.heap.size, 6, none⟩ = some (.int .u16 v) ∧ w'.cell? ⟨w.heap.size, 7, none⟩ = some (.int .i64 l))
    (first
      | (with_reducible exact blkI HK0.out)
      | (with_reducible exact blkI HK1.out)
      | (with_reducible exact blkI HK2.out)
      | (with_reducible exact blkI HK3.out)
      | (with_reducible exact blkI HK4.out))
    (first
      | (go_at_call 24; ((with_reducible refine (some_st 1 2 2 rfl (by decide) _).mono ?_); rintro e w1 ⟨v1, rfl, hr, hb⟩; obtain ⟨A1, n1, c1, rfl⟩ := hr.isSl; have R1 := Lib.hid hr; have HK1 := Lib.hid (Blk.below HK0.out hb HK0.out.lt); have B1 := Lib.hid (Below.trans0 B0.out hb); have HT1 := Lib.hid (KindsAt.bel HT.out hb); clear hr hb))
      | (go_at_call 25; ((with_reducible refine (AH.out _).mono ?_); rintro e w2 ⟨v2, rfl, hr, hb⟩; obtain ⟨A2, n2, c2, rfl⟩ := hr.isSl; have R1' := Lib.hid (R1.out.below hb); have R2 := Lib.hid hr; have HK2 := Lib.hid (Blk.below HK1.out hb HK1.out.lt); have B2 := Lib.hid (Below.trans0 B1.out hb); have HT2 := Lib.hid (KindsAt.bel HT1.out hb); have HK3 := Lib.hid (Blk.alloc HK2.out (Obj.cells #[.slice A1 n1 c1, .slice A2 n2 c2] 31)); clear hr hb))
      | (go_at_call 23; (refine (row2_any _ _ _ _ _ R1'.out R2.out M0.out).mono ?_; rintro e w3 ⟨v3, rfl, hr, hb⟩; obtain ⟨A3, n3, c3, rfl⟩ := hr.isSl; have R3 := Lib.hid hr; have HK4 := Lib.hid (Blk.below HK2.out hb HK2.out.lt); have B3 := Lib.hid (Below.trans0 B2.out hb); have HT3 := Lib.hid (KindsAt.bel HT2.out hb); clear hr hb)))
  obtain ⟨i0, i1, i2, i3, i4, i5, i6, i7⟩ := blkI HK4.out
  have HK := HK4
  have HT := HT3
  have B := B3
  have R := R3
  clear R1 R2 R1' HK0 HK1 HK2 HK3 HK4 B0 B1 B2 B3 HT1 HT2 HT3 R3 M0 AH
  go_wp2_with fail
  refine (TA.out _).mono ?_
  rintro e w7 ⟨v7, rfl, hr, hb⟩
  obtain ⟨A7, n7, c7, rfl⟩ := hr.isSl
  replace R := Lib.hid (R.out.below hb)
  have R7 := Lib.hid hr
  replace HK := Lib.hid (Blk.below HK.out hb HK.out.lt)
  replace B := Lib.hid (Below.trans0 B.out hb)
  clear hr hb
  clear i0 i1 i2 i3 i4 i5 i6 i7
  obtain ⟨i0, i1, i2, i3, i4, i5, i6, i7⟩ := blkI HK.out
  go_wp2_with fail
  refine (row2_any _ _ _ _ _ R.out R7.out M2.out).mono ?_
  rintro e w8 ⟨v8, rfl, hr, hb⟩
  obtain ⟨A8, n8, c8, rfl⟩ := hr.isSl
  clear R R7
  have R := Lib.hid hr
  replace HK := Lib.hid (Blk.below HK.out hb HK.out.lt)
  replace B := Lib.hid (Below.trans0 B.out hb)
  clear hr hb
  clear i0 i1 i2 i3 i4 i5 i6 i7
  obtain ⟨i0, i1, i2, i3, i4, i5, i6, i7⟩ := blkI HK.out
  go_wp2_with fail
  refine (RE.out _).mono ?_
  rintro e w9 ⟨v9, rfl, hr, hb⟩
  obtain ⟨A9, n9, c9, rfl⟩ := hr.isSl
  replace R := Lib.hid (R.out.below hb)
  have R9 := Lib.hid hr
  replace HK := Lib.hid (Blk.below HK.out hb HK.out.lt)
  replace B := Lib.hid (Below.trans0 B.out hb)
  clear hr hb
  clear i0 i1 i2 i3 i4 i5 i6 i7
  obtain ⟨i0, i1, i2, i3, i4, i5, i6, i7⟩ := blkI HK.out
  go_wp2_with fail
  refine (row2_any _ _ _ _ _ R.out R9.out M3.out).mono ?_
  rintro e w10 ⟨v10, rfl, hr, hb⟩
  obtain ⟨A10, n10, c10, rfl⟩ := hr.isSl
  clear R R9
  have R := Lib.hid hr
  replace B := Lib.hid (Below.trans0 B.out hb)
  clear hr hb
  go_wp2
  go_ret
  exact ⟨_, rfl, by rw [hO.out]; exact R.out, B.out⟩
set_option maxRecDepth 100000 in
set_option maxHeartbeats 8000000 in
theorem rowsOf_4 (c o m r v l : Int) (b : Nat) (hb : b < 256) (cc pulled : Int) (hcc : CC cc) (q0 : 0 ≤ pulled) (q1 : pulled < 256) (hm : ¬ m = 4) (ho : ¬ o = 49) (w : World) (hT : KindsAt w) : Calls Tryd.prog 8 #[.agg #[.int .i64 2, .int .u8 c, .int .i64 o, .int .i64 m, .int .i64 r, .int .u8 (b : Int), .int .u16 v, .int .i64 l], .int .u8 cc, .int .u8 pulled] w (GivesR w (ofL 2 o m b (holdsX r cc) (decide (127 < pulled)))) := by
  have hO : Hid (ofL 2 o m b (holdsX r cc) (decide (127 < pulled)) = [[someL 1 2, aheadL m].flatten, tailL o m (holdsX r cc) (cntN b)].flatten) := Lib.hid (by
    have hN : (if (2 : Int) = 2 ∨ (2 : Int) = 3 then 2 else 1) = 2 := rfl
    unfold ofL
    rw [hN]
    simp only [if_neg hm, if_neg ho])
  have L0 : [someL 1 2, aheadL m].flatten.length ≤ 100 := by have := aheadL_len m; rw [len2, someL_len]; omega
  have L1 : [someL 1 2, aheadL m].flatten.length ≤ 200 := by omega
  have hcn := Nat.le_of_ble_eq_true (allB 256 _ cnt12 b hb)
  have L2 : [[someL 1 2, aheadL m].flatten, tailL o m (holdsX r cc) (cntN b)].flatten.length ≤ 400 := by have := tailL_len o m (holdsX r cc) (cntN b); rw [len2]; omega
  have HT := Lib.hid (KindsAt.bel hT (Below.drew0 (Below.alloc0 (Below.refl _ w) (Obj.cells #[.int .i64 2, .int .u8 c, .int .i64 o, .int .i64 m, .int .i64 r, .int .u8 (b : Int), .int .u16 v, .int .i64 l] 27))))
  have HK0 := Lib.hid (show Blk (w.alloc (Obj.cells #[.int .i64 2, .int .u8 c, .int .i64 o, .int .i64 m, .int .i64 r, .int .u8 (b : Int), .int .u16 v, .int .i64 l] 27)).drew w.heap.size 27 #[.int .i64 2, .int .u8 c, .int .i64 o, .int .i64 m, .int .i64 r, .int .u8 (b : Int), .int .u16 v, .int .i64 l] from Blk.new w 27 #[.int .i64 2, .int .u8 c, .int .i64 o, .int .i64 m, .int .i64 r, .int .u8 (b : Int), .int .u16 v, .int .i64 l] (0, 0))
  have B0 := Lib.hid (Below.drew0 (Below.alloc0 (Below.refl w.heap.size w) (Obj.cells #[.int .i64 2, .int .u8 c, .int .i64 o, .int .i64 m, .int .i64 r, .int .u8 (b : Int), .int .u16 v, .int .i64 l] 27)))
  have TA := Lib.hid (fun w => tail_st o m r cc b hb hcc w)
  have AH := Lib.hid (fun w => ahead_st m w)
  have M0 := Lib.hid (show [someL 1 2, aheadL m].flatten.length ≤ 1099511627776 by omega)
  have M1 := Lib.hid (show [someL 1 2, aheadL m].flatten.length ≤ 1099511627776 by omega)
  have M2 := Lib.hid (show [[someL 1 2, aheadL m].flatten, tailL o m (holdsX r cc) (cntN b)].flatten.length ≤ 1099511627776 by omega)
  have e4 : (m == 4) = false := ne_beqR hm
  have e5 : (o == 49) = false := ne_beqR ho
  clear L0 L1 L2 hcn hT hm ho
  go_enter Tryd.func8, Tryd.ntmps8
  go_upto_region 4 with (fail)
  go_region_held3 (fun w' => w'.cell? ⟨w.heap.size, 0, none⟩ = some (.int .i64 2) ∧ w'.cell? ⟨w.heap.size, 1, none⟩ = some (.int .u8 c) ∧ w'.cell? ⟨w.heap.size, 2, none⟩ = some (.int .i64 o) ∧ w'.cell? ⟨w.heap.size, 3, none⟩ = some (.int .i64 m) ∧ w'.cell? ⟨w.heap.size, 4, none⟩ = some (.int .i64 r) ∧ w'.cell? ⟨w.heap.size, 5, none⟩ = some (.int .u8 (b : Int)) ∧ w'.cell? ⟨w.heap.size, 6, none⟩ = some (.int .u16 v) ∧ w'.cell? ⟨w.heap.size, 7, none⟩ = some (.int .i64 l))
    (first
      | (with_reducible exact blkI HK0.out)
      | (with_reducible exact blkI HK1.out)
      | (with_reducible exact blkI HK2.out)
      | (with_reducible exact blkI HK3.out)
      | (with_reducible exact blkI HK4.out))
    (first
      | (go_at_call 24; ((with_reducible refine (some_st 1 2 2 rfl (by decide) _).mono ?_); rintro e w1 ⟨v1, rfl, hr, hb⟩; obtain ⟨A1, n1, c1, rfl⟩ := hr.isSl; have R1 := Lib.hid hr; have HK1 := Lib.hid (Blk.below HK0.out hb HK0.out.lt); have B1 := Lib.hid (Below.trans0 B0.out hb); have HT1 := Lib.hid (KindsAt.bel HT.out hb); clear hr hb))
      | (go_at_call 25; ((with_reducible refine (AH.out _).mono ?_); rintro e w2 ⟨v2, rfl, hr, hb⟩; obtain ⟨A2, n2, c2, rfl⟩ := hr.isSl; have R1' := Lib.hid (R1.out.below hb); have R2 := Lib.hid hr; have HK2 := Lib.hid (Blk.below HK1.out hb HK1.out.lt); have B2 := Lib.hid (Below.trans0 B1.out hb); have HT2 := Lib.hid (KindsAt.bel HT1.out hb); have HK3 := Lib.hid (Blk.alloc HK2.out (Obj.cells #[.slice A1 n1 c1, .slice A2 n2 c2] 31)); clear hr hb))
      | (go_at_call 23; (refine (row2_any _ _ _ _ _ R1'.out R2.out M0.out).mono ?_; rintro e w3 ⟨v3, rfl, hr, hb⟩; obtain ⟨A3, n3, c3, rfl⟩ := hr.isSl; have R3 := Lib.hid hr; have HK4 := Lib.hid (Blk.below HK2.out hb HK2.out.lt); have B3 := Lib.hid (Below.trans0 B2.out hb); have HT3 := Lib.hid (KindsAt.bel HT2.out hb); clear hr hb)))
  obtain ⟨i0, i1, i2, i3, i4, i5, i6, i7⟩ := blkI HK4.out
  have HK := HK4
  have HT := HT3
  have B := B3
  have R := R3
  clear R1 R2 R1' HK0 HK1 HK2 HK3 HK4 B0 B1 B2 B3 HT1 HT2 HT3 R3 M0 AH
  go_wp2_with fail
  refine (TA.out _).mono ?_
  rintro e w7 ⟨v7, rfl, hr, hb⟩
  obtain ⟨A7, n7, c7, rfl⟩ := hr.isSl
  replace R := Lib.hid (R.out.below hb)
  have R7 := Lib.hid hr
  replace HK := Lib.hid (Blk.below HK.out hb HK.out.lt)
  replace B := Lib.hid (Below.trans0 B.out hb)
  clear hr hb
  clear i0 i1 i2 i3 i4 i5 i6 i7
  obtain ⟨i0, i1, i2, i3, i4, i5, i6, i7⟩ := blkI HK.out
  go_wp2_with fail
  refine (row2_any _ _ _ _ _ R.out R7.out M2.out).mono ?_
  rintro e w8 ⟨v8, rfl, hr, hb⟩
  obtain ⟨A8, n8, c8, rfl⟩ := hr.isSl
  clear R R7
  have R := Lib.hid hr
  replace HK := Lib.hid (Blk.below HK.out hb HK.out.lt)
  replace B := Lib.hid (Below.trans0 B.out hb)
  clear hr hb
  clear i0 i1 i2 i3 i4 i5 i6 i7
  obtain ⟨i0, i1, i2, i3, i4, i5, i6, i7⟩ := blkI HK.out
  go_wp2
  go_ret
  exact ⟨_, rfl, by rw [hO.out]; exact R.out, B.out⟩
set_option maxRecDepth 100000 in
set_option maxHeartbeats 8000000 in
theorem rowsOf_5 (c r v l : Int) (b : Nat) (hb : b < 256) (cc pulled : Int) (hcc : CC cc) (q0 : 0 ≤ pulled) (q1 : pulled < 256) (w : World) (hT : KindsAt w) : Calls Tryd.prog 8 #[.agg #[.int .i64 3, .int .u8 c, .int .i64 49, .int .i64 4, .int .i64 r, .int .u8 (b : Int), .int .u16 v, .int .i64 l], .int .u8 cc, .int .u8 pulled] w (GivesR w (ofL 3 49 4 b (holdsX r cc) (decide (127 < pulled)))) := by
  have hO : Hid (ofL 3 49 4 b (holdsX r cc) (decide (127 < pulled)) = [[[[someL 1 2, aheadL 4].flatten, behindL (poBytes (poK b)) (poIdle (poK b)) (poI b)].flatten, tailL 49 4 (holdsX r cc) (cntN b)].flatten, restL (decide (127 < pulled))].flatten) := Lib.hid (by
    have hN : (if (3 : Int) = 2 ∨ (3 : Int) = 3 then 2 else 1) = 2 := rfl
    unfold ofL
    rw [hN]
    simp only [if_true])
  have L0 : [someL 1 2, aheadL 4].flatten.length ≤ 100 := by have := aheadL_len 4; rw [len2, someL_len]; omega
  have hpo := allB 14 _ po_le (poK b) (poK_lt b hb)
  rw [Bool.and_eq_true, Nat.ble_eq, Nat.ble_eq] at hpo
  have L1 : [[someL 1 2, aheadL 4].flatten, behindL (poBytes (poK b)) (poIdle (poK b)) (poI b)].flatten.length ≤ 200 := by have := behindL_len (poBytes (poK b)) (poIdle (poK b)) (poI b); rw [len2]; omega
  have hcn := Nat.le_of_ble_eq_true (allB 256 _ cnt12 b hb)
  have L2 : [[[someL 1 2, aheadL 4].flatten, behindL (poBytes (poK b)) (poIdle (poK b)) (poI b)].flatten, tailL 49 4 (holdsX r cc) (cntN b)].flatten.length ≤ 400 := by have := tailL_len 49 4 (holdsX r cc) (cntN b); rw [len2]; omega
  have L3 : [[[[someL 1 2, aheadL 4].flatten, behindL (poBytes (poK b)) (poIdle (poK b)) (poI b)].flatten, tailL 49 4 (holdsX r cc) (cntN b)].flatten, restL (decide (127 < pulled))].flatten.length ≤ 800 := by have := restL_len (decide (127 < pulled)); rw [len2]; omega
  have HT := Lib.hid (KindsAt.bel hT (Below.drew0 (Below.alloc0 (Below.refl _ w) (Obj.cells #[.int .i64 3, .int .u8 c, .int .i64 49, .int .i64 4, .int .i64 r, .int .u8 (b : Int), .int .u16 v, .int .i64 l] 27))))
  have HK0 := Lib.hid (show Blk (w.alloc (Obj.cells #[.int .i64 3, .int .u8 c, .int .i64 49, .int .i64 4, .int .i64 r, .int .u8 (b : Int), .int .u16 v, .int .i64 l] 27)).drew w.heap.size 27 #[.int .i64 3, .int .u8 c, .int .i64 49, .int .i64 4, .int .i64 r, .int .u8 (b : Int), .int .u16 v, .int .i64 l] from Blk.new w 27 #[.int .i64 3, .int .u8 c, .int .i64 49, .int .i64 4, .int .i64 r, .int .u8 (b : Int), .int .u16 v, .int .i64 l] (0, 0))
  have B0 := Lib.hid (Below.drew0 (Below.alloc0 (Below.refl w.heap.size w) (Obj.cells #[.int .i64 3, .int .u8 c, .int .i64 49, .int .i64 4, .int .i64 r, .int .u8 (b : Int), .int .u16 v, .int .i64 l] 27)))
  have TA := Lib.hid (fun w => tail_st 49 4 r cc b hb hcc w)
  have AH := Lib.hid (fun w => ahead_st 4 w)
  have M0 := Lib.hid (show [someL 1 2, aheadL 4].flatten.length ≤ 1099511627776 by omega)
  have M1 := Lib.hid (show [[someL 1 2, aheadL 4].flatten, behindL (poBytes (poK b)) (poIdle (poK b)) (poI b)].flatten.length ≤ 1099511627776 by omega)
  have M2 := Lib.hid (show [[[someL 1 2, aheadL 4].flatten, behindL (poBytes (poK b)) (poIdle (poK b)) (poI b)].flatten, tailL 49 4 (holdsX r cc) (cntN b)].flatten.length ≤ 1099511627776 by omega)
  have M3 := Lib.hid (show [[[[someL 1 2, aheadL 4].flatten, behindL (poBytes (poK b)) (poIdle (poK b)) (poI b)].flatten, tailL 49 4 (holdsX r cc) (cntN b)].flatten, restL (decide (127 < pulled))].flatten.length ≤ 1099511627776 by omega)
  have RE := Lib.hid (fun w => rest_st pulled q0 q1 w)
  have PO := Lib.hid (fun w hT => of_any b hb w hT)
  have BE := Lib.hid (fun w => behind_st (poK b) (poK_lt b hb) (poR b) (poO b) (poI b) w)
  clear L0 L1 L2 hcn hT L3 hpo
  go_enter Tryd.func8, Tryd.ntmps8
  go_upto_region 4 with (fail)
  go_region_held3 (fun w' => w'.cell? ⟨w.heap.size, 0, none⟩ = some (.int .i64 3) ∧ w'.cell? ⟨w.heap.size, 1, none⟩ = some (.int .u8 c) ∧ w'.cell? ⟨w.heap.size, 2, none⟩ = some (.int .i64 49) ∧ w'.cell? ⟨w.heap.size, 3, none⟩ = some (.int .i64 4) ∧ w'.cell? ⟨w.heap.size, 4, none⟩ = some (.int .i64 r) ∧ w'.cell? ⟨w.heap.size, 5, none⟩ = some (.int .u8 (b : Int)) ∧ w'.cell? ⟨w.heap.size, 6, none⟩ = some (.int .u16 v) ∧ w'.cell? ⟨w.heap.size, 7, none⟩ = some (.int .i64 l))
    (first
      | (with_reducible exact blkI HK0.out)
      | (with_reducible exact blkI HK1.out)
      | (with_reducible exact blkI HK2.out)
      | (with_reducible exact blkI HK3.out)
      | (with_reducible exact blkI HK4.out))
    (first
      | (go_at_call 24; ((with_reducible refine (some_st 1 2 2 rfl (by decide) _).mono ?_); rintro e w1 ⟨v1, rfl, hr, hb⟩; obtain ⟨A1, n1, c1, rfl⟩ := hr.isSl; have R1 := Lib.hid hr; have HK1 := Lib.hid (Blk.below HK0.out hb HK0.out.lt); have B1 := Lib.hid (Below.trans0 B0.out hb); have HT1 := Lib.hid (KindsAt.bel HT.out hb); clear hr hb))
      | (go_at_call 25; ((with_reducible refine (AH.out _).mono ?_); rintro e w2 ⟨v2, rfl, hr, hb⟩; obtain ⟨A2, n2, c2, rfl⟩ := hr.isSl; have R1' := Lib.hid (R1.out.below hb); have R2 := Lib.hid hr; have HK2 := Lib.hid (Blk.below HK1.out hb HK1.out.lt); have B2 := Lib.hid (Below.trans0 B1.out hb); have HT2 := Lib.hid (KindsAt.bel HT1.out hb); have HK3 := Lib.hid (Blk.alloc HK2.out (Obj.cells #[.slice A1 n1 c1, .slice A2 n2 c2] 31)); clear hr hb))
      | (go_at_call 23; (refine (row2_any _ _ _ _ _ R1'.out R2.out M0.out).mono ?_; rintro e w3 ⟨v3, rfl, hr, hb⟩; obtain ⟨A3, n3, c3, rfl⟩ := hr.isSl; have R3 := Lib.hid hr; have HK4 := Lib.hid (Blk.below HK2.out hb HK2.out.lt); have B3 := Lib.hid (Below.trans0 B2.out hb); have HT3 := Lib.hid (KindsAt.bel HT2.out hb); clear hr hb)))
  obtain ⟨i0, i1, i2, i3, i4, i5, i6, i7⟩ := blkI HK4.out
  have HK := HK4
  have HT := HT3
  have B := B3
  have R := R3
  clear R1 R2 R1' HK0 HK1 HK2 HK3 HK4 B0 B1 B2 B3 HT1 HT2 HT3 R3 M0 AH
  go_wp2_with fail
  refine (PO.out _ HT.out).mono ?_
  rintro e w4 ⟨rfl, hb⟩
  replace R := Lib.hid (R.out.below hb)
  replace HK := Lib.hid (Blk.below HK.out hb HK.out.lt)
  replace HT := Lib.hid (KindsAt.bel HT.out hb)
  replace B := Lib.hid (Below.trans0 B.out hb)
  clear hb
  clear i0 i1 i2 i3 i4 i5 i6 i7
  obtain ⟨i0, i1, i2, i3, i4, i5, i6, i7⟩ := blkI HK.out
  go_wp2_with fail
  refine (BE.out _).mono ?_
  rintro e w5 ⟨v5, rfl, hr, hb⟩
  obtain ⟨A5, n5, c5, rfl⟩ := hr.isSl
  replace R := Lib.hid (R.out.below hb)
  have R5 := Lib.hid hr
  replace HK := Lib.hid (Blk.below HK.out hb HK.out.lt)
  replace HT := Lib.hid (KindsAt.bel HT.out hb)
  replace B := Lib.hid (Below.trans0 B.out hb)
  clear hr hb
  clear i0 i1 i2 i3 i4 i5 i6 i7
  obtain ⟨i0, i1, i2, i3, i4, i5, i6, i7⟩ := blkI HK.out
  go_wp2_with fail
  refine (row2_any _ _ _ _ _ R.out R5.out M1.out).mono ?_
  rintro e w6 ⟨v6, rfl, hr, hb⟩
  obtain ⟨A6, n6, c6, rfl⟩ := hr.isSl
  clear R R5
  have R := Lib.hid hr
  replace HK := Lib.hid (Blk.below HK.out hb HK.out.lt)
  replace B := Lib.hid (Below.trans0 B.out hb)
  clear hr hb
  clear i0 i1 i2 i3 i4 i5 i6 i7
  obtain ⟨i0, i1, i2, i3, i4, i5, i6, i7⟩ := blkI HK.out
  go_wp2_with fail
  refine (TA.out _).mono ?_
  rintro e w7 ⟨v7, rfl, hr, hb⟩
  obtain ⟨A7, n7, c7, rfl⟩ := hr.isSl
  replace R := Lib.hid (R.out.below hb)
  have R7 := Lib.hid hr
  replace HK := Lib.hid (Blk.below HK.out hb HK.out.lt)
  replace B := Lib.hid (Below.trans0 B.out hb)
  clear hr hb
  clear i0 i1 i2 i3 i4 i5 i6 i7
  obtain ⟨i0, i1, i2, i3, i4, i5, i6, i7⟩ := blkI HK.out
  go_wp2_with fail
  refine (row2_any _ _ _ _ _ R.out R7.out M2.out).mono ?_
  rintro e w8 ⟨v8, rfl, hr, hb⟩
  obtain ⟨A8, n8, c8, rfl⟩ := hr.isSl
  clear R R7
  have R := Lib.hid hr
  replace HK := Lib.hid (Blk.below HK.out hb HK.out.lt)
  replace B := Lib.hid (Below.trans0 B.out hb)
  clear hr hb
  clear i0 i1 i2 i3 i4 i5 i6 i7
  obtain ⟨i0, i1, i2, i3, i4, i5, i6, i7⟩ := blkI HK.out
  go_wp2_with fail
  refine (RE.out _).mono ?_
  rintro e w9 ⟨v9, rfl, hr, hb⟩
  obtain ⟨A9, n9, c9, rfl⟩ := hr.isSl
  replace R := Lib.hid (R.out.below hb)
  have R9 := Lib.hid hr
  replace HK := Lib.hid (Blk.below HK.out hb HK.out.lt)
  replace B := Lib.hid (Below.trans0 B.out hb)
  clear hr hb
  clear i0 i1 i2 i3 i4 i5 i6 i7
  obtain ⟨i0, i1, i2, i3, i4, i5, i6, i7⟩ := blkI HK.out
  go_wp2_with fail
  refine (row2_any _ _ _ _ _ R.out R9.out M3.out).mono ?_
  rintro e w10 ⟨v10, rfl, hr, hb⟩
  obtain ⟨A10, n10, c10, rfl⟩ := hr.isSl
  clear R R9
  have R := Lib.hid hr
  replace B := Lib.hid (Below.trans0 B.out hb)
  clear hr hb
  go_wp2
  go_ret
  exact ⟨_, rfl, by rw [hO.out]; exact R.out, B.out⟩
set_option maxRecDepth 100000 in
set_option maxHeartbeats 8000000 in
theorem rowsOf_6 (c o r v l : Int) (b : Nat) (hb : b < 256) (cc pulled : Int) (hcc : CC cc) (q0 : 0 ≤ pulled) (q1 : pulled < 256) (ho : ¬ o = 49) (w : World) (hT : KindsAt w) : Calls Tryd.prog 8 #[.agg #[.int .i64 3, .int .u8 c, .int .i64 o, .int .i64 4, .int .i64 r, .int .u8 (b : Int), .int .u16 v, .int .i64 l], .int .u8 cc, .int .u8 pulled] w (GivesR w (ofL 3 o 4 b (holdsX r cc) (decide (127 < pulled)))) := by
  have hO : Hid (ofL 3 o 4 b (holdsX r cc) (decide (127 < pulled)) = [[[someL 1 2, aheadL 4].flatten, behindL (poBytes (poK b)) (poIdle (poK b)) (poI b)].flatten, tailL o 4 (holdsX r cc) (cntN b)].flatten) := Lib.hid (by
    have hN : (if (3 : Int) = 2 ∨ (3 : Int) = 3 then 2 else 1) = 2 := rfl
    unfold ofL
    rw [hN]
    simp only [if_neg ho, if_true])
  have L0 : [someL 1 2, aheadL 4].flatten.length ≤ 100 := by have := aheadL_len 4; rw [len2, someL_len]; omega
  have hpo := allB 14 _ po_le (poK b) (poK_lt b hb)
  rw [Bool.and_eq_true, Nat.ble_eq, Nat.ble_eq] at hpo
  have L1 : [[someL 1 2, aheadL 4].flatten, behindL (poBytes (poK b)) (poIdle (poK b)) (poI b)].flatten.length ≤ 200 := by have := behindL_len (poBytes (poK b)) (poIdle (poK b)) (poI b); rw [len2]; omega
  have hcn := Nat.le_of_ble_eq_true (allB 256 _ cnt12 b hb)
  have L2 : [[[someL 1 2, aheadL 4].flatten, behindL (poBytes (poK b)) (poIdle (poK b)) (poI b)].flatten, tailL o 4 (holdsX r cc) (cntN b)].flatten.length ≤ 400 := by have := tailL_len o 4 (holdsX r cc) (cntN b); rw [len2]; omega
  have HT := Lib.hid (KindsAt.bel hT (Below.drew0 (Below.alloc0 (Below.refl _ w) (Obj.cells #[.int .i64 3, .int .u8 c, .int .i64 o, .int .i64 4, .int .i64 r, .int .u8 (b : Int), .int .u16 v, .int .i64 l] 27))))
  have HK0 := Lib.hid (show Blk (w.alloc (Obj.cells #[.int .i64 3, .int .u8 c, .int .i64 o, .int .i64 4, .int .i64 r, .int .u8 (b : Int), .int .u16 v, .int .i64 l] 27)).drew w.heap.size 27 #[.int .i64 3, .int .u8 c, .int .i64 o, .int .i64 4, .int .i64 r, .int .u8 (b : Int), .int .u16 v, .int .i64 l] from Blk.new w 27 #[.int .i64 3, .int .u8 c, .int .i64 o, .int .i64 4, .int .i64 r, .int .u8 (b : Int), .int .u16 v, .int .i64 l] (0, 0))
  have B0 := Lib.hid (Below.drew0 (Below.alloc0 (Below.refl w.heap.size w) (Obj.cells #[.int .i64 3, .int .u8 c, .int .i64 o, .int .i64 4, .int .i64 r, .int .u8 (b : Int), .int .u16 v, .int .i64 l] 27)))
  have TA := Lib.hid (fun w => tail_st o 4 r cc b hb hcc w)
  have AH := Lib.hid (fun w => ahead_st 4 w)
  have M0 := Lib.hid (show [someL 1 2, aheadL 4].flatten.length ≤ 1099511627776 by omega)
  have M1 := Lib.hid (show [[someL 1 2, aheadL 4].flatten, behindL (poBytes (poK b)) (poIdle (poK b)) (poI b)].flatten.length ≤ 1099511627776 by omega)
  have M2 := Lib.hid (show [[[someL 1 2, aheadL 4].flatten, behindL (poBytes (poK b)) (poIdle (poK b)) (poI b)].flatten, tailL o 4 (holdsX r cc) (cntN b)].flatten.length ≤ 1099511627776 by omega)
  have PO := Lib.hid (fun w hT => of_any b hb w hT)
  have BE := Lib.hid (fun w => behind_st (poK b) (poK_lt b hb) (poR b) (poO b) (poI b) w)
  have e5 : (o == 49) = false := ne_beqR ho
  clear L0 L1 L2 hcn hT hpo ho
  go_enter Tryd.func8, Tryd.ntmps8
  go_upto_region 4 with (fail)
  go_region_held3 (fun w' => w'.cell? ⟨w.heap.size, 0, none⟩ = some (.int .i64 3) ∧ w'.cell? ⟨w.heap.size, 1, none⟩ = some (.int .u8 c) ∧ w'.cell? ⟨w.heap.size, 2, none⟩ = some (.int .i64 o) ∧ w'.cell? ⟨w.heap.size, 3, none⟩ = some (.int .i64 4) ∧ w'.cell? ⟨w.heap.size, 4, none⟩ = some (.int .i64 r) ∧ w'.cell? ⟨w.heap.size, 5, none⟩ = some (.int .u8 (b : Int)) ∧ w'.cell? ⟨w.heap.size, 6, none⟩ = some (.int .u16 v) ∧ w'.cell? ⟨w.heap.size, 7, none⟩ = some (.int .i64 l))
    (first
      | (with_reducible exact blkI HK0.out)
      | (with_reducible exact blkI HK1.out)
      | (with_reducible exact blkI HK2.out)
      | (with_reducible exact blkI HK3.out)
      | (with_reducible exact blkI HK4.out))
    (first
      | (go_at_call 24; ((with_reducible refine (some_st 1 2 2 rfl (by decide) _).mono ?_); rintro e w1 ⟨v1, rfl, hr, hb⟩; obtain ⟨A1, n1, c1, rfl⟩ := hr.isSl; have R1 := Lib.hid hr; have HK1 := Lib.hid (Blk.below HK0.out hb HK0.out.lt); have B1 := Lib.hid (Below.trans0 B0.out hb); have HT1 := Lib.hid (KindsAt.bel HT.out hb); clear hr hb))
      | (go_at_call 25; ((with_reducible refine (AH.out _).mono ?_); rintro e w2 ⟨v2, rfl, hr, hb⟩; obtain ⟨A2, n2, c2, rfl⟩ := hr.isSl; have R1' := Lib.hid (R1.out.below hb); have R2 := Lib.hid hr; have HK2 := Lib.hid (Blk.below HK1.out hb HK1.out.lt); have B2 := Lib.hid (Below.trans0 B1.out hb); have HT2 := Lib.hid (KindsAt.bel HT1.out hb); have HK3 := Lib.hid (Blk.alloc HK2.out (Obj.cells #[.slice A1 n1 c1, .slice A2 n2 c2] 31)); clear hr hb))
      | (go_at_call 23; (refine (row2_any _ _ _ _ _ R1'.out R2.out M0.out).mono ?_; rintro e w3 ⟨v3, rfl, hr, hb⟩; obtain ⟨A3, n3, c3, rfl⟩ := hr.isSl; have R3 := Lib.hid hr; have HK4 := Lib.hid (Blk.below HK2.out hb HK2.out.lt); have B3 := Lib.hid (Below.trans0 B2.out hb); have HT3 := Lib.hid (KindsAt.bel HT2.out hb); clear hr hb)))
  obtain ⟨i0, i1, i2, i3, i4, i5, i6, i7⟩ := blkI HK4.out
  have HK := HK4
  have HT := HT3
  have B := B3
  have R := R3
  clear R1 R2 R1' HK0 HK1 HK2 HK3 HK4 B0 B1 B2 B3 HT1 HT2 HT3 R3 M0 AH
  go_wp2_with fail
  refine (PO.out _ HT.out).mono ?_
  rintro e w4 ⟨rfl, hb⟩
  replace R := Lib.hid (R.out.below hb)
  replace HK := Lib.hid (Blk.below HK.out hb HK.out.lt)
  replace HT := Lib.hid (KindsAt.bel HT.out hb)
  replace B := Lib.hid (Below.trans0 B.out hb)
  clear hb
  clear i0 i1 i2 i3 i4 i5 i6 i7
  obtain ⟨i0, i1, i2, i3, i4, i5, i6, i7⟩ := blkI HK.out
  go_wp2_with fail
  refine (BE.out _).mono ?_
  rintro e w5 ⟨v5, rfl, hr, hb⟩
  obtain ⟨A5, n5, c5, rfl⟩ := hr.isSl
  replace R := Lib.hid (R.out.below hb)
  have R5 := Lib.hid hr
  replace HK := Lib.hid (Blk.below HK.out hb HK.out.lt)
  replace HT := Lib.hid (KindsAt.bel HT.out hb)
  replace B := Lib.hid (Below.trans0 B.out hb)
  clear hr hb
  clear i0 i1 i2 i3 i4 i5 i6 i7
  obtain ⟨i0, i1, i2, i3, i4, i5, i6, i7⟩ := blkI HK.out
  go_wp2_with fail
  refine (row2_any _ _ _ _ _ R.out R5.out M1.out).mono ?_
  rintro e w6 ⟨v6, rfl, hr, hb⟩
  obtain ⟨A6, n6, c6, rfl⟩ := hr.isSl
  clear R R5
  have R := Lib.hid hr
  replace HK := Lib.hid (Blk.below HK.out hb HK.out.lt)
  replace B := Lib.hid (Below.trans0 B.out hb)
  clear hr hb
  clear i0 i1 i2 i3 i4 i5 i6 i7
  obtain ⟨i0, i1, i2, i3, i4, i5, i6, i7⟩ := blkI HK.out
  go_wp2_with fail
  refine (TA.out _).mono ?_
  rintro e w7 ⟨v7, rfl, hr, hb⟩
  obtain ⟨A7, n7, c7, rfl⟩ := hr.isSl
  replace R := Lib.hid (R.out.below hb)
  have R7 := Lib.hid hr
  replace HK := Lib.hid (Blk.below HK.out hb HK.out.lt)
  replace B := Lib.hid (Below.trans0 B.out hb)
  clear hr hb
  clear i0 i1 i2 i3 i4 i5 i6 i7
  obtain ⟨i0, i1, i2, i3, i4, i5, i6, i7⟩ := blkI HK.out
  go_wp2_with fail
  refine (row2_any _ _ _ _ _ R.out R7.out M2.out).mono ?_
  rintro e w8 ⟨v8, rfl, hr, hb⟩
  obtain ⟨A8, n8, c8, rfl⟩ := hr.isSl
  clear R R7
  have R := Lib.hid hr
  replace HK := Lib.hid (Blk.below HK.out hb HK.out.lt)
  replace B := Lib.hid (Below.trans0 B.out hb)
  clear hr hb
  clear i0 i1 i2 i3 i4 i5 i6 i7
  obtain ⟨i0, i1, i2, i3, i4, i5, i6, i7⟩ := blkI HK.out
  go_wp2
  go_ret
  exact ⟨_, rfl, by rw [hO.out]; exact R.out, B.out⟩
set_option maxRecDepth 100000 in
set_option maxHeartbeats 8000000 in
theorem rowsOf_7 (c m r v l : Int) (b : Nat) (hb : b < 256) (cc pulled : Int) (hcc : CC cc) (q0 : 0 ≤ pulled) (q1 : pulled < 256) (hm : ¬ m = 4) (w : World) (hT : KindsAt w) : Calls Tryd.prog 8 #[.agg #[.int .i64 3, .int .u8 c, .int .i64 49, .int .i64 m, .int .i64 r, .int .u8 (b : Int), .int .u16 v, .int .i64 l], .int .u8 cc, .int .u8 pulled] w (GivesR w (ofL 3 49 m b (holdsX r cc) (decide (127 < pulled)))) := by
  have hO : Hid (ofL 3 49 m b (holdsX r cc) (decide (127 < pulled)) = [[[someL 1 2, aheadL m].flatten, tailL 49 m (holdsX r cc) (cntN b)].flatten, restL (decide (127 < pulled))].flatten) := Lib.hid (by
    have hN : (if (3 : Int) = 2 ∨ (3 : Int) = 3 then 2 else 1) = 2 := rfl
    unfold ofL
    rw [hN]
    simp only [if_neg hm, if_true])
  have L0 : [someL 1 2, aheadL m].flatten.length ≤ 100 := by have := aheadL_len m; rw [len2, someL_len]; omega
  have L1 : [someL 1 2, aheadL m].flatten.length ≤ 200 := by omega
  have hcn := Nat.le_of_ble_eq_true (allB 256 _ cnt12 b hb)
  have L2 : [[someL 1 2, aheadL m].flatten, tailL 49 m (holdsX r cc) (cntN b)].flatten.length ≤ 400 := by have := tailL_len 49 m (holdsX r cc) (cntN b); rw [len2]; omega
  have L3 : [[[someL 1 2, aheadL m].flatten, tailL 49 m (holdsX r cc) (cntN b)].flatten, restL (decide (127 < pulled))].flatten.length ≤ 800 := by have := restL_len (decide (127 < pulled)); rw [len2]; omega
  have HT := Lib.hid (KindsAt.bel hT (Below.drew0 (Below.alloc0 (Below.refl _ w) (Obj.cells #[.int .i64 3, .int .u8 c, .int .i64 49, .int .i64 m, .int .i64 r, .int .u8 (b : Int), .int .u16 v, .int .i64 l] 27))))
  have HK0 := Lib.hid (show Blk (w.alloc (Obj.cells #[.int .i64 3, .int .u8 c, .int .i64 49, .int .i64 m, .int .i64 r, .int .u8 (b : Int), .int .u16 v, .int .i64 l] 27)).drew w.heap.size 27 #[.int .i64 3, .int .u8 c, .int .i64 49, .int .i64 m, .int .i64 r, .int .u8 (b : Int), .int .u16 v, .int .i64 l] from Blk.new w 27 #[.int .i64 3, .int .u8 c, .int .i64 49, .int .i64 m, .int .i64 r, .int .u8 (b : Int), .int .u16 v, .int .i64 l] (0, 0))
  have B0 := Lib.hid (Below.drew0 (Below.alloc0 (Below.refl w.heap.size w) (Obj.cells #[.int .i64 3, .int .u8 c, .int .i64 49, .int .i64 m, .int .i64 r, .int .u8 (b : Int), .int .u16 v, .int .i64 l] 27)))
  have TA := Lib.hid (fun w => tail_st 49 m r cc b hb hcc w)
  have AH := Lib.hid (fun w => ahead_st m w)
  have M0 := Lib.hid (show [someL 1 2, aheadL m].flatten.length ≤ 1099511627776 by omega)
  have M1 := Lib.hid (show [someL 1 2, aheadL m].flatten.length ≤ 1099511627776 by omega)
  have M2 := Lib.hid (show [[someL 1 2, aheadL m].flatten, tailL 49 m (holdsX r cc) (cntN b)].flatten.length ≤ 1099511627776 by omega)
  have M3 := Lib.hid (show [[[someL 1 2, aheadL m].flatten, tailL 49 m (holdsX r cc) (cntN b)].flatten, restL (decide (127 < pulled))].flatten.length ≤ 1099511627776 by omega)
  have RE := Lib.hid (fun w => rest_st pulled q0 q1 w)
  have e4 : (m == 4) = false := ne_beqR hm
  clear L0 L1 L2 hcn hT L3 hm
  go_enter Tryd.func8, Tryd.ntmps8
  go_upto_region 4 with (fail)
  go_region_held3 (fun w' => w'.cell? ⟨w.heap.size, 0, none⟩ = some (.int .i64 3) ∧ w'.cell? ⟨w.heap.size, 1, none⟩ = some (.int .u8 c) ∧ w'.cell? ⟨w.heap.size, 2, none⟩ = some (.int .i64 49) ∧ w'.cell? ⟨w.heap.size, 3, none⟩ = some (.int .i64 m) ∧ w'.cell? ⟨w.heap.size, 4, none⟩ = some (.int .i64 r) ∧ w'.cell? ⟨w.heap.size, 5, none⟩ = some (.int .u8 (b : Int)) ∧ w'.cell? ⟨w.heap.size, 6, none⟩ = some (.int .u16 v) ∧ w'.cell? ⟨w.heap.size, 7, none⟩ = some (.int .i64 l))
    (first
      | (with_reducible exact blkI HK0.out)
      | (with_reducible exact blkI HK1.out)
      | (with_reducible exact blkI HK2.out)
      | (with_reducible exact blkI HK3.out)
      | (with_reducible exact blkI HK4.out))
    (first
      | (go_at_call 24; ((with_reducible refine (some_st 1 2 2 rfl (by decide) _).mono ?_); rintro e w1 ⟨v1, rfl, hr, hb⟩; obtain ⟨A1, n1, c1, rfl⟩ := hr.isSl; have R1 := Lib.hid hr; have HK1 := Lib.hid (Blk.below HK0.out hb HK0.out.lt); have B1 := Lib.hid (Below.trans0 B0.out hb); have HT1 := Lib.hid (KindsAt.bel HT.out hb); clear hr hb))
      | (go_at_call 25; ((with_reducible refine (AH.out _).mono ?_); rintro e w2 ⟨v2, rfl, hr, hb⟩; obtain ⟨A2, n2, c2, rfl⟩ := hr.isSl; have R1' := Lib.hid (R1.out.below hb); have R2 := Lib.hid hr; have HK2 := Lib.hid (Blk.below HK1.out hb HK1.out.lt); have B2 := Lib.hid (Below.trans0 B1.out hb); have HT2 := Lib.hid (KindsAt.bel HT1.out hb); have HK3 := Lib.hid (Blk.alloc HK2.out (Obj.cells #[.slice A1 n1 c1, .slice A2 n2 c2] 31)); clear hr hb))
      | (go_at_call 23; (refine (row2_any _ _ _ _ _ R1'.out R2.out M0.out).mono ?_; rintro e w3 ⟨v3, rfl, hr, hb⟩; obtain ⟨A3, n3, c3, rfl⟩ := hr.isSl; have R3 := Lib.hid hr; have HK4 := Lib.hid (Blk.below HK2.out hb HK2.out.lt); have B3 := Lib.hid (Below.trans0 B2.out hb); have HT3 := Lib.hid (KindsAt.bel HT2.out hb); clear hr hb)))
  obtain ⟨i0, i1, i2, i3, i4, i5, i6, i7⟩ := blkI HK4.out
  have HK := HK4
  have HT := HT3
  have B := B3
  have R := R3
  clear R1 R2 R1' HK0 HK1 HK2 HK3 HK4 B0 B1 B2 B3 HT1 HT2 HT3 R3 M0 AH
  go_wp2_with fail
  refine (TA.out _).mono ?_
  rintro e w7 ⟨v7, rfl, hr, hb⟩
  obtain ⟨A7, n7, c7, rfl⟩ := hr.isSl
  replace R := Lib.hid (R.out.below hb)
  have R7 := Lib.hid hr
  replace HK := Lib.hid (Blk.below HK.out hb HK.out.lt)
  replace B := Lib.hid (Below.trans0 B.out hb)
  clear hr hb
  clear i0 i1 i2 i3 i4 i5 i6 i7
  obtain ⟨i0, i1, i2, i3, i4, i5, i6, i7⟩ := blkI HK.out
  go_wp2_with fail
  refine (row2_any _ _ _ _ _ R.out R7.out M2.out).mono ?_
  rintro e w8 ⟨v8, rfl, hr, hb⟩
  obtain ⟨A8, n8, c8, rfl⟩ := hr.isSl
  clear R R7
  have R := Lib.hid hr
  replace HK := Lib.hid (Blk.below HK.out hb HK.out.lt)
  replace B := Lib.hid (Below.trans0 B.out hb)
  clear hr hb
  clear i0 i1 i2 i3 i4 i5 i6 i7
  obtain ⟨i0, i1, i2, i3, i4, i5, i6, i7⟩ := blkI HK.out
  go_wp2_with fail
  refine (RE.out _).mono ?_
  rintro e w9 ⟨v9, rfl, hr, hb⟩
  obtain ⟨A9, n9, c9, rfl⟩ := hr.isSl
  replace R := Lib.hid (R.out.below hb)
  have R9 := Lib.hid hr
  replace HK := Lib.hid (Blk.below HK.out hb HK.out.lt)
  replace B := Lib.hid (Below.trans0 B.out hb)
  clear hr hb
  clear i0 i1 i2 i3 i4 i5 i6 i7
  obtain ⟨i0, i1, i2, i3, i4, i5, i6, i7⟩ := blkI HK.out
  go_wp2_with fail
  refine (row2_any _ _ _ _ _ R.out R9.out M3.out).mono ?_
  rintro e w10 ⟨v10, rfl, hr, hb⟩
  obtain ⟨A10, n10, c10, rfl⟩ := hr.isSl
  clear R R9
  have R := Lib.hid hr
  replace B := Lib.hid (Below.trans0 B.out hb)
  clear hr hb
  go_wp2
  go_ret
  exact ⟨_, rfl, by rw [hO.out]; exact R.out, B.out⟩
set_option maxRecDepth 100000 in
set_option maxHeartbeats 8000000 in
theorem rowsOf_8 (c o m r v l : Int) (b : Nat) (hb : b < 256) (cc pulled : Int) (hcc : CC cc) (q0 : 0 ≤ pulled) (q1 : pulled < 256) (hm : ¬ m = 4) (ho : ¬ o = 49) (w : World) (hT : KindsAt w) : Calls Tryd.prog 8 #[.agg #[.int .i64 3, .int .u8 c, .int .i64 o, .int .i64 m, .int .i64 r, .int .u8 (b : Int), .int .u16 v, .int .i64 l], .int .u8 cc, .int .u8 pulled] w (GivesR w (ofL 3 o m b (holdsX r cc) (decide (127 < pulled)))) := by
  have hO : Hid (ofL 3 o m b (holdsX r cc) (decide (127 < pulled)) = [[someL 1 2, aheadL m].flatten, tailL o m (holdsX r cc) (cntN b)].flatten) := Lib.hid (by
    have hN : (if (3 : Int) = 2 ∨ (3 : Int) = 3 then 2 else 1) = 2 := rfl
    unfold ofL
    rw [hN]
    simp only [if_neg hm, if_neg ho])
  have L0 : [someL 1 2, aheadL m].flatten.length ≤ 100 := by have := aheadL_len m; rw [len2, someL_len]; omega
  have L1 : [someL 1 2, aheadL m].flatten.length ≤ 200 := by omega
  have hcn := Nat.le_of_ble_eq_true (allB 256 _ cnt12 b hb)
  have L2 : [[someL 1 2, aheadL m].flatten, tailL o m (holdsX r cc) (cntN b)].flatten.length ≤ 400 := by have := tailL_len o m (holdsX r cc) (cntN b); rw [len2]; omega
  have HT := Lib.hid (KindsAt.bel hT (Below.drew0 (Below.alloc0 (Below.refl _ w) (Obj.cells #[.int .i64 3, .int .u8 c, .int .i64 o, .int .i64 m, .int .i64 r, .int .u8 (b : Int), .int .u16 v, .int .i64 l] 27))))
  have HK0 := Lib.hid (show Blk (w.alloc (Obj.cells #[.int .i64 3, .int .u8 c, .int .i64 o, .int .i64 m, .int .i64 r, .int .u8 (b : Int), .int .u16 v, .int .i64 l] 27)).drew w.heap.size 27 #[.int .i64 3, .int .u8 c, .int .i64 o, .int .i64 m, .int .i64 r, .int .u8 (b : Int), .int .u16 v, .int .i64 l] from Blk.new w 27 #[.int .i64 3, .int .u8 c, .int .i64 o, .int .i64 m, .int .i64 r, .int .u8 (b : Int), .int .u16 v, .int .i64 l] (0, 0))
  have B0 := Lib.hid (Below.drew0 (Below.alloc0 (Below.refl w.heap.size w) (Obj.cells #[.int .i64 3, .int .u8 c, .int .i64 o, .int .i64 m, .int .i64 r, .int .u8 (b : Int), .int .u16 v, .int .i64 l] 27)))
  have TA := Lib.hid (fun w => tail_st o m r cc b hb hcc w)
  have AH := Lib.hid (fun w => ahead_st m w)
  have M0 := Lib.hid (show [someL 1 2, aheadL m].flatten.length ≤ 1099511627776 by omega)
  have M1 := Lib.hid (show [someL 1 2, aheadL m].flatten.length ≤ 1099511627776 by omega)
  have M2 := Lib.hid (show [[someL 1 2, aheadL m].flatten, tailL o m (holdsX r cc) (cntN b)].flatten.length ≤ 1099511627776 by omega)
  have e4 : (m == 4) = false := ne_beqR hm
  have e5 : (o == 49) = false := ne_beqR ho
  clear L0 L1 L2 hcn hT hm ho
  go_enter Tryd.func8, Tryd.ntmps8
  go_upto_region 4 with (fail)
  go_region_held3 (fun w' => w'.cell? ⟨w.heap.size, 0, none⟩ = some (.int .i64 3) ∧ w'.cell? ⟨w.heap.size, 1, none⟩ = some (.int .u8 c) ∧ w'.cell? ⟨w.heap.size, 2, none⟩ = some (.int .i64 o) ∧ w'.cell? ⟨w.heap.size, 3, none⟩ = some (.int .i64 m) ∧ w'.cell? ⟨w.heap.size, 4, none⟩ = some (.int .i64 r) ∧ w'.cell? ⟨w.heap.size, 5, none⟩ = some (.int .u8 (b : Int)) ∧ w'.cell? ⟨w.heap.size, 6, none⟩ = some (.int .u16 v) ∧ w'.cell? ⟨w.heap.size, 7, none⟩ = some (.int .i64 l))
    (first
      | (with_reducible exact blkI HK0.out)
      | (with_reducible exact blkI HK1.out)
      | (with_reducible exact blkI HK2.out)
      | (with_reducible exact blkI HK3.out)
      | (with_reducible exact blkI HK4.out))
    (first
      | (go_at_call 24; ((with_reducible refine (some_st 1 2 2 rfl (by decide) _).mono ?_); rintro e w1 ⟨v1, rfl, hr, hb⟩; obtain ⟨A1, n1, c1, rfl⟩ := hr.isSl; have R1 := Lib.hid hr; have HK1 := Lib.hid (Blk.below HK0.out hb HK0.out.lt); have B1 := Lib.hid (Below.trans0 B0.out hb); have HT1 := Lib.hid (KindsAt.bel HT.out hb); clear hr hb))
      | (go_at_call 25; ((with_reducible refine (AH.out _).mono ?_); rintro e w2 ⟨v2, rfl, hr, hb⟩; obtain ⟨A2, n2, c2, rfl⟩ := hr.isSl; have R1' := Lib.hid (R1.out.below hb); have R2 := Lib.hid hr; have HK2 := Lib.hid (Blk.below HK1.out hb HK1.out.lt); have B2 := Lib.hid (Below.trans0 B1.out hb); have HT2 := Lib.hid (KindsAt.bel HT1.out hb); have HK3 := Lib.hid (Blk.alloc HK2.out (Obj.cells #[.slice A1 n1 c1, .slice A2 n2 c2] 31)); clear hr hb))
      | (go_at_call 23; (refine (row2_any _ _ _ _ _ R1'.out R2.out M0.out).mono ?_; rintro e w3 ⟨v3, rfl, hr, hb⟩; obtain ⟨A3, n3, c3, rfl⟩ := hr.isSl; have R3 := Lib.hid hr; have HK4 := Lib.hid (Blk.below HK2.out hb HK2.out.lt); have B3 := Lib.hid (Below.trans0 B2.out hb); have HT3 := Lib.hid (KindsAt.bel HT2.out hb); clear hr hb)))
  obtain ⟨i0, i1, i2, i3, i4, i5, i6, i7⟩ := blkI HK4.out
  have HK := HK4
  have HT := HT3
  have B := B3
  have R := R3
  clear R1 R2 R1' HK0 HK1 HK2 HK3 HK4 B0 B1 B2 B3 HT1 HT2 HT3 R3 M0 AH
  go_wp2_with fail
  refine (TA.out _).mono ?_
  rintro e w7 ⟨v7, rfl, hr, hb⟩
  obtain ⟨A7, n7, c7, rfl⟩ := hr.isSl
  replace R := Lib.hid (R.out.below hb)
  have R7 := Lib.hid hr
  replace HK := Lib.hid (Blk.below HK.out hb HK.out.lt)
  replace B := Lib.hid (Below.trans0 B.out hb)
  clear hr hb
  clear i0 i1 i2 i3 i4 i5 i6 i7
  obtain ⟨i0, i1, i2, i3, i4, i5, i6, i7⟩ := blkI HK.out
  go_wp2_with fail
  refine (row2_any _ _ _ _ _ R.out R7.out M2.out).mono ?_
  rintro e w8 ⟨v8, rfl, hr, hb⟩
  obtain ⟨A8, n8, c8, rfl⟩ := hr.isSl
  clear R R7
  have R := Lib.hid hr
  replace HK := Lib.hid (Blk.below HK.out hb HK.out.lt)
  replace B := Lib.hid (Below.trans0 B.out hb)
  clear hr hb
  clear i0 i1 i2 i3 i4 i5 i6 i7
  obtain ⟨i0, i1, i2, i3, i4, i5, i6, i7⟩ := blkI HK.out
  go_wp2
  go_ret
  exact ⟨_, rfl, by rw [hO.out]; exact R.out, B.out⟩
set_option maxRecDepth 100000 in
set_option maxHeartbeats 8000000 in
theorem rowsOf_9 (p c r v l : Int) (b : Nat) (hb : b < 256) (cc pulled : Int) (hcc : CC cc) (q0 : 0 ≤ pulled) (q1 : pulled < 256) (hp : ¬ p = 2 ∧ ¬ p = 3) (w : World) (hT : KindsAt w) : Calls Tryd.prog 8 #[.agg #[.int .i64 p, .int .u8 c, .int .i64 49, .int .i64 4, .int .i64 r, .int .u8 (b : Int), .int .u16 v, .int .i64 l], .int .u8 cc, .int .u8 pulled] w (GivesR w (ofL p 49 4 b (holdsX r cc) (decide (127 < pulled)))) := by
  have hO : Hid (ofL p 49 4 b (holdsX r cc) (decide (127 < pulled)) = [[[[someL 1 1, aheadL 4].flatten, behindL (poBytes (poK b)) (poIdle (poK b)) (poI b)].flatten, tailL 49 4 (holdsX r cc) (cntN b)].flatten, restL (decide (127 < pulled))].flatten) := Lib.hid (by
    have hN : (if (p : Int) = 2 ∨ (p : Int) = 3 then 2 else 1) = 1 := if_neg (show ¬ (p = 2 ∨ p = 3) by omega)
    unfold ofL
    rw [hN]
    simp only [if_true])
  have L0 : [someL 1 1, aheadL 4].flatten.length ≤ 100 := by have := aheadL_len 4; rw [len2, someL_len]; omega
  have hpo := allB 14 _ po_le (poK b) (poK_lt b hb)
  rw [Bool.and_eq_true, Nat.ble_eq, Nat.ble_eq] at hpo
  have L1 : [[someL 1 1, aheadL 4].flatten, behindL (poBytes (poK b)) (poIdle (poK b)) (poI b)].flatten.length ≤ 200 := by have := behindL_len (poBytes (poK b)) (poIdle (poK b)) (poI b); rw [len2]; omega
  have hcn := Nat.le_of_ble_eq_true (allB 256 _ cnt12 b hb)
  have L2 : [[[someL 1 1, aheadL 4].flatten, behindL (poBytes (poK b)) (poIdle (poK b)) (poI b)].flatten, tailL 49 4 (holdsX r cc) (cntN b)].flatten.length ≤ 400 := by have := tailL_len 49 4 (holdsX r cc) (cntN b); rw [len2]; omega
  have L3 : [[[[someL 1 1, aheadL 4].flatten, behindL (poBytes (poK b)) (poIdle (poK b)) (poI b)].flatten, tailL 49 4 (holdsX r cc) (cntN b)].flatten, restL (decide (127 < pulled))].flatten.length ≤ 800 := by have := restL_len (decide (127 < pulled)); rw [len2]; omega
  have HT := Lib.hid (KindsAt.bel hT (Below.drew0 (Below.alloc0 (Below.refl _ w) (Obj.cells #[.int .i64 p, .int .u8 c, .int .i64 49, .int .i64 4, .int .i64 r, .int .u8 (b : Int), .int .u16 v, .int .i64 l] 27))))
  have HK0 := Lib.hid (show Blk (w.alloc (Obj.cells #[.int .i64 p, .int .u8 c, .int .i64 49, .int .i64 4, .int .i64 r, .int .u8 (b : Int), .int .u16 v, .int .i64 l] 27)).drew w.heap.size 27 #[.int .i64 p, .int .u8 c, .int .i64 49, .int .i64 4, .int .i64 r, .int .u8 (b : Int), .int .u16 v, .int .i64 l] from Blk.new w 27 #[.int .i64 p, .int .u8 c, .int .i64 49, .int .i64 4, .int .i64 r, .int .u8 (b : Int), .int .u16 v, .int .i64 l] (0, 0))
  have B0 := Lib.hid (Below.drew0 (Below.alloc0 (Below.refl w.heap.size w) (Obj.cells #[.int .i64 p, .int .u8 c, .int .i64 49, .int .i64 4, .int .i64 r, .int .u8 (b : Int), .int .u16 v, .int .i64 l] 27)))
  have TA := Lib.hid (fun w => tail_st 49 4 r cc b hb hcc w)
  have AH := Lib.hid (fun w => ahead_st 4 w)
  have M0 := Lib.hid (show [someL 1 1, aheadL 4].flatten.length ≤ 1099511627776 by omega)
  have M1 := Lib.hid (show [[someL 1 1, aheadL 4].flatten, behindL (poBytes (poK b)) (poIdle (poK b)) (poI b)].flatten.length ≤ 1099511627776 by omega)
  have M2 := Lib.hid (show [[[someL 1 1, aheadL 4].flatten, behindL (poBytes (poK b)) (poIdle (poK b)) (poI b)].flatten, tailL 49 4 (holdsX r cc) (cntN b)].flatten.length ≤ 1099511627776 by omega)
  have M3 := Lib.hid (show [[[[someL 1 1, aheadL 4].flatten, behindL (poBytes (poK b)) (poIdle (poK b)) (poI b)].flatten, tailL 49 4 (holdsX r cc) (cntN b)].flatten, restL (decide (127 < pulled))].flatten.length ≤ 1099511627776 by omega)
  have RE := Lib.hid (fun w => rest_st pulled q0 q1 w)
  have PO := Lib.hid (fun w hT => of_any b hb w hT)
  have BE := Lib.hid (fun w => behind_st (poK b) (poK_lt b hb) (poR b) (poO b) (poI b) w)
  have e2 : (p == 2) = false := ne_beqR hp.1
  have e3 : (p == 3) = false := ne_beqR hp.2
  clear L0 L1 L2 hcn hT L3 hpo hp
  go_enter Tryd.func8, Tryd.ntmps8
  go_upto_region 4 with (fail)
  go_region_held3 (fun w' => w'.cell? ⟨w.heap.size, 0, none⟩ = some (.int .i64 p) ∧ w'.cell? ⟨w.heap.size, 1, none⟩ = some (.int .u8 c) ∧ w'.cell? ⟨w.heap.size, 2, none⟩ = some (.int .i64 49) ∧ w'.cell? ⟨w.heap.size, 3, none⟩ = some (.int .i64 4) ∧ w'.cell? ⟨w.heap.size, 4, none⟩ = some (.int .i64 r) ∧ w'.cell? ⟨w.heap.size, 5, none⟩ = some (.int .u8 (b : Int)) ∧ w'.cell? ⟨w.heap.size, 6, none⟩ = some (.int .u16 v) ∧ w'.cell? ⟨w.heap.size, 7, none⟩ = some (.int .i64 l))
    (first
      | (with_reducible exact blkI HK0.out)
      | (with_reducible exact blkI HK1.out)
      | (with_reducible exact blkI HK2.out)
      | (with_reducible exact blkI HK3.out)
      | (with_reducible exact blkI HK4.out))
    (first
      | (go_at_call 24; ((with_reducible refine (some_st 1 1 1 rfl (by decide) _).mono ?_); rintro e w1 ⟨v1, rfl, hr, hb⟩; obtain ⟨A1, n1, c1, rfl⟩ := hr.isSl; have R1 := Lib.hid hr; have HK1 := Lib.hid (Blk.below HK0.out hb HK0.out.lt); have B1 := Lib.hid (Below.trans0 B0.out hb); have HT1 := Lib.hid (KindsAt.bel HT.out hb); clear hr hb))
      | (go_at_call 25; ((with_reducible refine (AH.out _).mono ?_); rintro e w2 ⟨v2, rfl, hr, hb⟩; obtain ⟨A2, n2, c2, rfl⟩ := hr.isSl; have R1' := Lib.hid (R1.out.below hb); have R2 := Lib.hid hr; have HK2 := Lib.hid (Blk.below HK1.out hb HK1.out.lt); have B2 := Lib.hid (Below.trans0 B1.out hb); have HT2 := Lib.hid (KindsAt.bel HT1.out hb); have HK3 := Lib.hid (Blk.alloc HK2.out (Obj.cells #[.slice A1 n1 c1, .slice A2 n2 c2] 31)); clear hr hb))
      | (go_at_call 23; (refine (row2_any _ _ _ _ _ R1'.out R2.out M0.out).mono ?_; rintro e w3 ⟨v3, rfl, hr, hb⟩; obtain ⟨A3, n3, c3, rfl⟩ := hr.isSl; have R3 := Lib.hid hr; have HK4 := Lib.hid (Blk.below HK2.out hb HK2.out.lt); have B3 := Lib.hid (Below.trans0 B2.out hb); have HT3 := Lib.hid (KindsAt.bel HT2.out hb); clear hr hb)))
  obtain ⟨i0, i1, i2, i3, i4, i5, i6, i7⟩ := blkI HK4.out
  have HK := HK4
  have HT := HT3
  have B := B3
  have R := R3
  clear R1 R2 R1' HK0 HK1 HK2 HK3 HK4 B0 B1 B2 B3 HT1 HT2 HT3 R3 M0 AH
  go_wp2_with fail
  refine (PO.out _ HT.out).mono ?_
  rintro e w4 ⟨rfl, hb⟩
  replace R := Lib.hid (R.out.below hb)
  replace HK := Lib.hid (Blk.below HK.out hb HK.out.lt)
  replace HT := Lib.hid (KindsAt.bel HT.out hb)
  replace B := Lib.hid (Below.trans0 B.out hb)
  clear hb
  clear i0 i1 i2 i3 i4 i5 i6 i7
  obtain ⟨i0, i1, i2, i3, i4, i5, i6, i7⟩ := blkI HK.out
  go_wp2_with fail
  refine (BE.out _).mono ?_
  rintro e w5 ⟨v5, rfl, hr, hb⟩
  obtain ⟨A5, n5, c5, rfl⟩ := hr.isSl
  replace R := Lib.hid (R.out.below hb)
  have R5 := Lib.hid hr
  replace HK := Lib.hid (Blk.below HK.out hb HK.out.lt)
  replace HT := Lib.hid (KindsAt.bel HT.out hb)
  replace B := Lib.hid (Below.trans0 B.out hb)
  clear hr hb
  clear i0 i1 i2 i3 i4 i5 i6 i7
  obtain ⟨i0, i1, i2, i3, i4, i5, i6, i7⟩ := blkI HK.out
  go_wp2_with fail
  refine (row2_any _ _ _ _ _ R.out R5.out M1.out).mono ?_
  rintro e w6 ⟨v6, rfl, hr, hb⟩
  obtain ⟨A6, n6, c6, rfl⟩ := hr.isSl
  clear R R5
  have R := Lib.hid hr
  replace HK := Lib.hid (Blk.below HK.out hb HK.out.lt)
  replace B := Lib.hid (Below.trans0 B.out hb)
  clear hr hb
  clear i0 i1 i2 i3 i4 i5 i6 i7
  obtain ⟨i0, i1, i2, i3, i4, i5, i6, i7⟩ := blkI HK.out
  go_wp2_with fail
  refine (TA.out _).mono ?_
  rintro e w7 ⟨v7, rfl, hr, hb⟩
  obtain ⟨A7, n7, c7, rfl⟩ := hr.isSl
  replace R := Lib.hid (R.out.below hb)
  have R7 := Lib.hid hr
  replace HK := Lib.hid (Blk.below HK.out hb HK.out.lt)
  replace B := Lib.hid (Below.trans0 B.out hb)
  clear hr hb
  clear i0 i1 i2 i3 i4 i5 i6 i7
  obtain ⟨i0, i1, i2, i3, i4, i5, i6, i7⟩ := blkI HK.out
  go_wp2_with fail
  refine (row2_any _ _ _ _ _ R.out R7.out M2.out).mono ?_
  rintro e w8 ⟨v8, rfl, hr, hb⟩
  obtain ⟨A8, n8, c8, rfl⟩ := hr.isSl
  clear R R7
  have R := Lib.hid hr
  replace HK := Lib.hid (Blk.below HK.out hb HK.out.lt)
  replace B := Lib.hid (Below.trans0 B.out hb)
  clear hr hb
  clear i0 i1 i2 i3 i4 i5 i6 i7
  obtain ⟨i0, i1, i2, i3, i4, i5, i6, i7⟩ := blkI HK.out
  go_wp2_with fail
  refine (RE.out _).mono ?_
  rintro e w9 ⟨v9, rfl, hr, hb⟩
  obtain ⟨A9, n9, c9, rfl⟩ := hr.isSl
  replace R := Lib.hid (R.out.below hb)
  have R9 := Lib.hid hr
  replace HK := Lib.hid (Blk.below HK.out hb HK.out.lt)
  replace B := Lib.hid (Below.trans0 B.out hb)
  clear hr hb
  clear i0 i1 i2 i3 i4 i5 i6 i7
  obtain ⟨i0, i1, i2, i3, i4, i5, i6, i7⟩ := blkI HK.out
  go_wp2_with fail
  refine (row2_any _ _ _ _ _ R.out R9.out M3.out).mono ?_
  rintro e w10 ⟨v10, rfl, hr, hb⟩
  obtain ⟨A10, n10, c10, rfl⟩ := hr.isSl
  clear R R9
  have R := Lib.hid hr
  replace B := Lib.hid (Below.trans0 B.out hb)
  clear hr hb
  go_wp2
  go_ret
  exact ⟨_, rfl, by rw [hO.out]; exact R.out, B.out⟩
set_option maxRecDepth 100000 in
set_option maxHeartbeats 8000000 in
theorem rowsOf_10 (p c o r v l : Int) (b : Nat) (hb : b < 256) (cc pulled : Int) (hcc : CC cc) (q0 : 0 ≤ pulled) (q1 : pulled < 256) (hp : ¬ p = 2 ∧ ¬ p = 3) (ho : ¬ o = 49) (w : World) (hT : KindsAt w) : Calls Tryd.prog 8 #[.agg #[.int .i64 p, .int .u8 c, .int .i64 o, .int .i64 4, .int .i64 r, .int .u8 (b : Int), .int .u16 v, .int .i64 l], .int .u8 cc, .int .u8 pulled] w (GivesR w (ofL p o 4 b (holdsX r cc) (decide (127 < pulled)))) := by
  have hO : Hid (ofL p o 4 b (holdsX r cc) (decide (127 < pulled)) = [[[someL 1 1, aheadL 4].flatten, behindL (poBytes (poK b)) (poIdle (poK b)) (poI b)].flatten, tailL o 4 (holdsX r cc) (cntN b)].flatten) := Lib.hid (by
    have hN : (if (p : Int) = 2 ∨ (p : Int) = 3 then 2 else 1) = 1 := if_neg (show ¬ (p = 2 ∨ p = 3) by omega)
    unfold ofL
    rw [hN]
    simp only [if_neg ho, if_true])
  have L0 : [someL 1 1, aheadL 4].flatten.length ≤ 100 := by have := aheadL_len 4; rw [len2, someL_len]; omega
  have hpo := allB 14 _ po_le (poK b) (poK_lt b hb)
  rw [Bool.and_eq_true, Nat.ble_eq, Nat.ble_eq] at hpo
  have L1 : [[someL 1 1, aheadL 4].flatten, behindL (poBytes (poK b)) (poIdle (poK b)) (poI b)].flatten.length ≤ 200 := by have := behindL_len (poBytes (poK b)) (poIdle (poK b)) (poI b); rw [len2]; omega
  have hcn := Nat.le_of_ble_eq_true (allB 256 _ cnt12 b hb)
  have L2 : [[[someL 1 1, aheadL 4].flatten, behindL (poBytes (poK b)) (poIdle (poK b)) (poI b)].flatten, tailL o 4 (holdsX r cc) (cntN b)].flatten.length ≤ 400 := by have := tailL_len o 4 (holdsX r cc) (cntN b); rw [len2]; omega
  have HT := Lib.hid (KindsAt.bel hT (Below.drew0 (Below.alloc0 (Below.refl _ w) (Obj.cells #[.int .i64 p, .int .u8 c, .int .i64 o, .int .i64 4, .int .i64 r, .int .u8 (b : Int), .int .u16 v, .int .i64 l] 27))))
  have HK0 := Lib.hid (show Blk (w.alloc (Obj.cells #[.int .i64 p, .int .u8 c, .int .i64 o, .int .i64 4, .int .i64 r, .int .u8 (b : Int), .int .u16 v, .int .i64 l] 27)).drew w.heap.size 27 #[.int .i64 p, .int .u8 c, .int .i64 o, .int .i64 4, .int .i64 r, .int .u8 (b : Int), .int .u16 v, .int .i64 l] from Blk.new w 27 #[.int .i64 p, .int .u8 c, .int .i64 o, .int .i64 4, .int .i64 r, .int .u8 (b : Int), .int .u16 v, .int .i64 l] (0, 0))
  have B0 := Lib.hid (Below.drew0 (Below.alloc0 (Below.refl w.heap.size w) (Obj.cells #[.int .i64 p, .int .u8 c, .int .i64 o, .int .i64 4, .int .i64 r, .int .u8 (b : Int), .int .u16 v, .int .i64 l] 27)))
  have TA := Lib.hid (fun w => tail_st o 4 r cc b hb hcc w)
  have AH := Lib.hid (fun w => ahead_st 4 w)
  have M0 := Lib.hid (show [someL 1 1, aheadL 4].flatten.length ≤ 1099511627776 by omega)
  have M1 := Lib.hid (show [[someL 1 1, aheadL 4].flatten, behindL (poBytes (poK b)) (poIdle (poK b)) (poI b)].flatten.length ≤ 1099511627776 by omega)
  have M2 := Lib.hid (show [[[someL 1 1, aheadL 4].flatten, behindL (poBytes (poK b)) (poIdle (poK b)) (poI b)].flatten, tailL o 4 (holdsX r cc) (cntN b)].flatten.length ≤ 1099511627776 by omega)
  have PO := Lib.hid (fun w hT => of_any b hb w hT)
  have BE := Lib.hid (fun w => behind_st (poK b) (poK_lt b hb) (poR b) (poO b) (poI b) w)
  have e2 : (p == 2) = false := ne_beqR hp.1
  have e3 : (p == 3) = false := ne_beqR hp.2
  have e5 : (o == 49) = false := ne_beqR ho
  clear L0 L1 L2 hcn hT hpo ho hp
  go_enter Tryd.func8, Tryd.ntmps8
  go_upto_region 4 with (fail)
  go_region_held3 (fun w' => w'.cell? ⟨w.heap.size, 0, none⟩ = some (.int .i64 p) ∧ w'.cell? ⟨w.heap.size, 1, none⟩ = some (.int .u8 c) ∧ w'.cell? ⟨w.heap.size, 2, none⟩ = some (.int .i64 o) ∧ w'.cell? ⟨w.heap.size, 3, none⟩ = some (.int .i64 4) ∧ w'.cell? ⟨w.heap.size, 4, none⟩ = some (.int .i64 r) ∧ w'.cell? ⟨w.heap.size, 5, none⟩ = some (.int .u8 (b : Int)) ∧ w'.cell? ⟨w.heap.size, 6, none⟩ = some (.int .u16 v) ∧ w'.cell? ⟨w.heap.size, 7, none⟩ = some (.int .i64 l))
    (first
      | (with_reducible exact blkI HK0.out)
      | (with_reducible exact blkI HK1.out)
      | (with_reducible exact blkI HK2.out)
      | (with_reducible exact blkI HK3.out)
      | (with_reducible exact blkI HK4.out))
    (first
      | (go_at_call 24; ((with_reducible refine (some_st 1 1 1 rfl (by decide) _).mono ?_); rintro e w1 ⟨v1, rfl, hr, hb⟩; obtain ⟨A1, n1, c1, rfl⟩ := hr.isSl; have R1 := Lib.hid hr; have HK1 := Lib.hid (Blk.below HK0.out hb HK0.out.lt); have B1 := Lib.hid (Below.trans0 B0.out hb); have HT1 := Lib.hid (KindsAt.bel HT.out hb); clear hr hb))
      | (go_at_call 25; ((with_reducible refine (AH.out _).mono ?_); rintro e w2 ⟨v2, rfl, hr, hb⟩; obtain ⟨A2, n2, c2, rfl⟩ := hr.isSl; have R1' := Lib.hid (R1.out.below hb); have R2 := Lib.hid hr; have HK2 := Lib.hid (Blk.below HK1.out hb HK1.out.lt); have B2 := Lib.hid (Below.trans0 B1.out hb); have HT2 := Lib.hid (KindsAt.bel HT1.out hb); have HK3 := Lib.hid (Blk.alloc HK2.out (Obj.cells #[.slice A1 n1 c1, .slice A2 n2 c2] 31)); clear hr hb))
      | (go_at_call 23; (refine (row2_any _ _ _ _ _ R1'.out R2.out M0.out).mono ?_; rintro e w3 ⟨v3, rfl, hr, hb⟩; obtain ⟨A3, n3, c3, rfl⟩ := hr.isSl; have R3 := Lib.hid hr; have HK4 := Lib.hid (Blk.below HK2.out hb HK2.out.lt); have B3 := Lib.hid (Below.trans0 B2.out hb); have HT3 := Lib.hid (KindsAt.bel HT2.out hb); clear hr hb)))
  obtain ⟨i0, i1, i2, i3, i4, i5, i6, i7⟩ := blkI HK4.out
  have HK := HK4
  have HT := HT3
  have B := B3
  have R := R3
  clear R1 R2 R1' HK0 HK1 HK2 HK3 HK4 B0 B1 B2 B3 HT1 HT2 HT3 R3 M0 AH
  go_wp2_with fail
  refine (PO.out _ HT.out).mono ?_
  rintro e w4 ⟨rfl, hb⟩
  replace R := Lib.hid (R.out.below hb)
  replace HK := Lib.hid (Blk.below HK.out hb HK.out.lt)
  replace HT := Lib.hid (KindsAt.bel HT.out hb)
  replace B := Lib.hid (Below.trans0 B.out hb)
  clear hb
  clear i0 i1 i2 i3 i4 i5 i6 i7
  obtain ⟨i0, i1, i2, i3, i4, i5, i6, i7⟩ := blkI HK.out
  go_wp2_with fail
  refine (BE.out _).mono ?_
  rintro e w5 ⟨v5, rfl, hr, hb⟩
  obtain ⟨A5, n5, c5, rfl⟩ := hr.isSl
  replace R := Lib.hid (R.out.below hb)
  have R5 := Lib.hid hr
  replace HK := Lib.hid (Blk.below HK.out hb HK.out.lt)
  replace HT := Lib.hid (KindsAt.bel HT.out hb)
  replace B := Lib.hid (Below.trans0 B.out hb)
  clear hr hb
  clear i0 i1 i2 i3 i4 i5 i6 i7
  obtain ⟨i0, i1, i2, i3, i4, i5, i6, i7⟩ := blkI HK.out
  go_wp2_with fail
  refine (row2_any _ _ _ _ _ R.out R5.out M1.out).mono ?_
  rintro e w6 ⟨v6, rfl, hr, hb⟩
  obtain ⟨A6, n6, c6, rfl⟩ := hr.isSl
  clear R R5
  have R := Lib.hid hr
  replace HK := Lib.hid (Blk.below HK.out hb HK.out.lt)
  replace B := Lib.hid (Below.trans0 B.out hb)
  clear hr hb
  clear i0 i1 i2 i3 i4 i5 i6 i7
  obtain ⟨i0, i1, i2, i3, i4, i5, i6, i7⟩ := blkI HK.out
  go_wp2_with fail
  refine (TA.out _).mono ?_
  rintro e w7 ⟨v7, rfl, hr, hb⟩
  obtain ⟨A7, n7, c7, rfl⟩ := hr.isSl
  replace R := Lib.hid (R.out.below hb)
  have R7 := Lib.hid hr
  replace HK := Lib.hid (Blk.below HK.out hb HK.out.lt)
  replace B := Lib.hid (Below.trans0 B.out hb)
  clear hr hb
  clear i0 i1 i2 i3 i4 i5 i6 i7
  obtain ⟨i0, i1, i2, i3, i4, i5, i6, i7⟩ := blkI HK.out
  go_wp2_with fail
  refine (row2_any _ _ _ _ _ R.out R7.out M2.out).mono ?_
  rintro e w8 ⟨v8, rfl, hr, hb⟩
  obtain ⟨A8, n8, c8, rfl⟩ := hr.isSl
  clear R R7
  have R := Lib.hid hr
  replace HK := Lib.hid (Blk.below HK.out hb HK.out.lt)
  replace B := Lib.hid (Below.trans0 B.out hb)
  clear hr hb
  clear i0 i1 i2 i3 i4 i5 i6 i7
  obtain ⟨i0, i1, i2, i3, i4, i5, i6, i7⟩ := blkI HK.out
  go_wp2
  go_ret
  exact ⟨_, rfl, by rw [hO.out]; exact R.out, B.out⟩
set_option maxRecDepth 100000 in
set_option maxHeartbeats 8000000 in
theorem rowsOf_11 (p c m r v l : Int) (b : Nat) (hb : b < 256) (cc pulled : Int) (hcc : CC cc) (q0 : 0 ≤ pulled) (q1 : pulled < 256) (hp : ¬ p = 2 ∧ ¬ p = 3) (hm : ¬ m = 4) (w : World) (hT : KindsAt w) : Calls Tryd.prog 8 #[.agg #[.int .i64 p, .int .u8 c, .int .i64 49, .int .i64 m, .int .i64 r, .int .u8 (b : Int), .int .u16 v, .int .i64 l], .int .u8 cc, .int .u8 pulled] w (GivesR w (ofL p 49 m b (holdsX r cc) (decide (127 < pulled)))) := by
  have hO : Hid (ofL p 49 m b (holdsX r cc) (decide (127 < pulled)) = [[[someL 1 1, aheadL m].flatten, tailL 49 m (holdsX r cc) (cntN b)].flatten, restL (decide (127 < pulled))].flatten) := Lib.hid (by
    have hN : (if (p : Int) = 2 ∨ (p : Int) = 3 then 2 else 1) = 1 := if_neg (show ¬ (p = 2 ∨ p = 3) by omega)
    unfold ofL
    rw [hN]
    simp only [if_neg hm, if_true])
  have L0 : [someL 1 1, aheadL m].flatten.length ≤ 100 := by have := aheadL_len m; rw [len2, someL_len]; omega
  have L1 : [someL 1 1, aheadL m].flatten.length ≤ 200 := by omega
  have hcn := Nat.le_of_ble_eq_true (allB 256 _ cnt12 b hb)
  have L2 : [[someL 1 1, aheadL m].flatten, tailL 49 m (holdsX r cc) (cntN b)].flatten.length ≤ 400 := by have := tailL_len 49 m (holdsX r cc) (cntN b); rw [len2]; omega
  have L3 : [[[someL 1 1, aheadL m].flatten, tailL 49 m (holdsX r cc) (cntN b)].flatten, restL (decide (127 < pulled))].flatten.length ≤ 800 := by have := restL_len (decide (127 < pulled)); rw [len2]; omega
  have HT := Lib.hid (KindsAt.bel hT (Below.drew0 (Below.alloc0 (Below.refl _ w) (Obj.cells #[.int .i64 p, .int .u8 c, .int .i64 49, .int .i64 m, .int .i64 r, .int .u8 (b : Int), .int .u16 v, .int .i64 l] 27))))
  have HK0 := Lib.hid (show Blk (w.alloc (Obj.cells #[.int .i64 p, .int .u8 c, .int .i64 49, .int .i64 m, .int .i64 r, .int .u8 (b : Int), .int .u16 v, .int .i64 l] 27)).drew w.heap.size 27 #[.int .i64 p, .int .u8 c, .int .i64 49, .int .i64 m, .int .i64 r, .int .u8 (b : Int), .int .u16 v, .int .i64 l] from Blk.new w 27 #[.int .i64 p, .int .u8 c, .int .i64 49, .int .i64 m, .int .i64 r, .int .u8 (b : Int), .int .u16 v, .int .i64 l] (0, 0))
  have B0 := Lib.hid (Below.drew0 (Below.alloc0 (Below.refl w.heap.size w) (Obj.cells #[.int .i64 p, .int .u8 c, .int .i64 49, .int .i64 m, .int .i64 r, .int .u8 (b : Int), .int .u16 v, .int .i64 l] 27)))
  have TA := Lib.hid (fun w => tail_st 49 m r cc b hb hcc w)
  have AH := Lib.hid (fun w => ahead_st m w)
  have M0 := Lib.hid (show [someL 1 1, aheadL m].flatten.length ≤ 1099511627776 by omega)
  have M1 := Lib.hid (show [someL 1 1, aheadL m].flatten.length ≤ 1099511627776 by omega)
  have M2 := Lib.hid (show [[someL 1 1, aheadL m].flatten, tailL 49 m (holdsX r cc) (cntN b)].flatten.length ≤ 1099511627776 by omega)
  have M3 := Lib.hid (show [[[someL 1 1, aheadL m].flatten, tailL 49 m (holdsX r cc) (cntN b)].flatten, restL (decide (127 < pulled))].flatten.length ≤ 1099511627776 by omega)
  have RE := Lib.hid (fun w => rest_st pulled q0 q1 w)
  have e2 : (p == 2) = false := ne_beqR hp.1
  have e3 : (p == 3) = false := ne_beqR hp.2
  have e4 : (m == 4) = false := ne_beqR hm
  clear L0 L1 L2 hcn hT L3 hm hp
  go_enter Tryd.func8, Tryd.ntmps8
  go_upto_region 4 with (fail)
  go_region_held3 (fun w' => w'.cell? ⟨w.heap.size, 0, none⟩ = some (.int .i64 p) ∧ w'.cell? ⟨w.heap.size, 1, none⟩ = some (.int .u8 c) ∧ w'.cell? ⟨w.heap.size, 2, none⟩ = some (.int .i64 49) ∧ w'.cell? ⟨w.heap.size, 3, none⟩ = some (.int .i64 m) ∧ w'.cell? ⟨w.heap.size, 4, none⟩ = some (.int .i64 r) ∧ w'.cell? ⟨w.heap.size, 5, none⟩ = some (.int .u8 (b : Int)) ∧ w'.cell? ⟨w.heap.size, 6, none⟩ = some (.int .u16 v) ∧ w'.cell? ⟨w.heap.size, 7, none⟩ = some (.int .i64 l))
    (first
      | (with_reducible exact blkI HK0.out)
      | (with_reducible exact blkI HK1.out)
      | (with_reducible exact blkI HK2.out)
      | (with_reducible exact blkI HK3.out)
      | (with_reducible exact blkI HK4.out))
    (first
      | (go_at_call 24; ((with_reducible refine (some_st 1 1 1 rfl (by decide) _).mono ?_); rintro e w1 ⟨v1, rfl, hr, hb⟩; obtain ⟨A1, n1, c1, rfl⟩ := hr.isSl; have R1 := Lib.hid hr; have HK1 := Lib.hid (Blk.below HK0.out hb HK0.out.lt); have B1 := Lib.hid (Below.trans0 B0.out hb); have HT1 := Lib.hid (KindsAt.bel HT.out hb); clear hr hb))
      | (go_at_call 25; ((with_reducible refine (AH.out _).mono ?_); rintro e w2 ⟨v2, rfl, hr, hb⟩; obtain ⟨A2, n2, c2, rfl⟩ := hr.isSl; have R1' := Lib.hid (R1.out.below hb); have R2 := Lib.hid hr; have HK2 := Lib.hid (Blk.below HK1.out hb HK1.out.lt); have B2 := Lib.hid (Below.trans0 B1.out hb); have HT2 := Lib.hid (KindsAt.bel HT1.out hb); have HK3 := Lib.hid (Blk.alloc HK2.out (Obj.cells #[.slice A1 n1 c1, .slice A2 n2 c2] 31)); clear hr hb))
      | (go_at_call 23; (refine (row2_any _ _ _ _ _ R1'.out R2.out M0.out).mono ?_; rintro e w3 ⟨v3, rfl, hr, hb⟩; obtain ⟨A3, n3, c3, rfl⟩ := hr.isSl; have R3 := Lib.hid hr; have HK4 := Lib.hid (Blk.below HK2.out hb HK2.out.lt); have B3 := Lib.hid (Below.trans0 B2.out hb); have HT3 := Lib.hid (KindsAt.bel HT2.out hb); clear hr hb)))
  obtain ⟨i0, i1, i2, i3, i4, i5, i6, i7⟩ := blkI HK4.out
  have HK := HK4
  have HT := HT3
  have B := B3
  have R := R3
  clear R1 R2 R1' HK0 HK1 HK2 HK3 HK4 B0 B1 B2 B3 HT1 HT2 HT3 R3 M0 AH
  go_wp2_with fail
  refine (TA.out _).mono ?_
  rintro e w7 ⟨v7, rfl, hr, hb⟩
  obtain ⟨A7, n7, c7, rfl⟩ := hr.isSl
  replace R := Lib.hid (R.out.below hb)
  have R7 := Lib.hid hr
  replace HK := Lib.hid (Blk.below HK.out hb HK.out.lt)
  replace B := Lib.hid (Below.trans0 B.out hb)
  clear hr hb
  clear i0 i1 i2 i3 i4 i5 i6 i7
  obtain ⟨i0, i1, i2, i3, i4, i5, i6, i7⟩ := blkI HK.out
  go_wp2_with fail
  refine (row2_any _ _ _ _ _ R.out R7.out M2.out).mono ?_
  rintro e w8 ⟨v8, rfl, hr, hb⟩
  obtain ⟨A8, n8, c8, rfl⟩ := hr.isSl
  clear R R7
  have R := Lib.hid hr
  replace HK := Lib.hid (Blk.below HK.out hb HK.out.lt)
  replace B := Lib.hid (Below.trans0 B.out hb)
  clear hr hb
  clear i0 i1 i2 i3 i4 i5 i6 i7
  obtain ⟨i0, i1, i2, i3, i4, i5, i6, i7⟩ := blkI HK.out
  go_wp2_with fail
  refine (RE.out _).mono ?_
  rintro e w9 ⟨v9, rfl, hr, hb⟩
  obtain ⟨A9, n9, c9, rfl⟩ := hr.isSl
  replace R := Lib.hid (R.out.below hb)
  have R9 := Lib.hid hr
  replace HK := Lib.hid (Blk.below HK.out hb HK.out.lt)
  replace B := Lib.hid (Below.trans0 B.out hb)
  clear hr hb
  clear i0 i1 i2 i3 i4 i5 i6 i7
  obtain ⟨i0, i1, i2, i3, i4, i5, i6, i7⟩ := blkI HK.out
  go_wp2_with fail
  refine (row2_any _ _ _ _ _ R.out R9.out M3.out).mono ?_
  rintro e w10 ⟨v10, rfl, hr, hb⟩
  obtain ⟨A10, n10, c10, rfl⟩ := hr.isSl
  clear R R9
  have R := Lib.hid hr
  replace B := Lib.hid (Below.trans0 B.out hb)
  clear hr hb
  go_wp2
  go_ret
  exact ⟨_, rfl, by rw [hO.out]; exact R.out, B.out⟩
set_option maxRecDepth 100000 in
set_option maxHeartbeats 8000000 in
theorem rowsOf_12 (p c o m r v l : Int) (b : Nat) (hb : b < 256) (cc pulled : Int) (hcc : CC cc) (q0 : 0 ≤ pulled) (q1 : pulled < 256) (hp : ¬ p = 2 ∧ ¬ p = 3) (hm : ¬ m = 4) (ho : ¬ o = 49) (w : World) (hT : KindsAt w) : Calls Tryd.prog 8 #[.agg #[.int .i64 p, .int .u8 c, .int .i64 o, .int .i64 m, .int .i64 r, .int .u8 (b : Int), .int .u16 v, .int .i64 l], .int .u8 cc, .int .u8 pulled] w (GivesR w (ofL p o m b (holdsX r cc) (decide (127 < pulled)))) := by
  have hO : Hid (ofL p o m b (holdsX r cc) (decide (127 < pulled)) = [[someL 1 1, aheadL m].flatten, tailL o m (holdsX r cc) (cntN b)].flatten) := Lib.hid (by
    have hN : (if (p : Int) = 2 ∨ (p : Int) = 3 then 2 else 1) = 1 := if_neg (show ¬ (p = 2 ∨ p = 3) by omega)
    unfold ofL
    rw [hN]
    simp only [if_neg hm, if_neg ho])
  have L0 : [someL 1 1, aheadL m].flatten.length ≤ 100 := by have := aheadL_len m; rw [len2, someL_len]; omega
  have L1 : [someL 1 1, aheadL m].flatten.length ≤ 200 := by omega
  have hcn := Nat.le_of_ble_eq_true (allB 256 _ cnt12 b hb)
  have L2 : [[someL 1 1, aheadL m].flatten, tailL o m (holdsX r cc) (cntN b)].flatten.length ≤ 400 := by have := tailL_len o m (holdsX r cc) (cntN b); rw [len2]; omega
  have HT := Lib.hid (KindsAt.bel hT (Below.drew0 (Below.alloc0 (Below.refl _ w) (Obj.cells #[.int .i64 p, .int .u8 c, .int .i64 o, .int .i64 m, .int .i64 r, .int .u8 (b : Int), .int .u16 v, .int .i64 l] 27))))
  have HK0 := Lib.hid (show Blk (w.alloc (Obj.cells #[.int .i64 p, .int .u8 c, .int .i64 o, .int .i64 m, .int .i64 r, .int .u8 (b : Int), .int .u16 v, .int .i64 l] 27)).drew w.heap.size 27 #[.int .i64 p, .int .u8 c, .int .i64 o, .int .i64 m, .int .i64 r, .int .u8 (b : Int), .int .u16 v, .int .i64 l] from Blk.new w 27 #[.int .i64 p, .int .u8 c, .int .i64 o, .int .i64 m, .int .i64 r, .int .u8 (b : Int), .int .u16 v, .int .i64 l] (0, 0))
  have B0 := Lib.hid (Below.drew0 (Below.alloc0 (Below.refl w.heap.size w) (Obj.cells #[.int .i64 p, .int .u8 c, .int .i64 o, .int .i64 m, .int .i64 r, .int .u8 (b : Int), .int .u16 v, .int .i64 l] 27)))
  have TA := Lib.hid (fun w => tail_st o m r cc b hb hcc w)
  have AH := Lib.hid (fun w => ahead_st m w)
  have M0 := Lib.hid (show [someL 1 1, aheadL m].flatten.length ≤ 1099511627776 by omega)
  have M1 := Lib.hid (show [someL 1 1, aheadL m].flatten.length ≤ 1099511627776 by omega)
  have M2 := Lib.hid (show [[someL 1 1, aheadL m].flatten, tailL o m (holdsX r cc) (cntN b)].flatten.length ≤ 1099511627776 by omega)
  have e2 : (p == 2) = false := ne_beqR hp.1
  have e3 : (p == 3) = false := ne_beqR hp.2
  have e4 : (m == 4) = false := ne_beqR hm
  have e5 : (o == 49) = false := ne_beqR ho
  clear L0 L1 L2 hcn hT hm ho hp
  go_enter Tryd.func8, Tryd.ntmps8
  go_upto_region 4 with (fail)
  go_region_held3 (fun w' => w'.cell? ⟨w.heap.size, 0, none⟩ = some (.int .i64 p) ∧ w'.cell? ⟨w.heap.size, 1, none⟩ = some (.int .u8 c) ∧ w'.cell? ⟨w.heap.size, 2, none⟩ = some (.int .i64 o) ∧ w'.cell? ⟨w.heap.size, 3, none⟩ = some (.int .i64 m) ∧ w'.cell? ⟨w.heap.size, 4, none⟩ = some (.int .i64 r) ∧ w'.cell? ⟨w.heap.size, 5, none⟩ = some (.int .u8 (b : Int)) ∧ w'.cell? ⟨w.heap.size, 6, none⟩ = some (.int .u16 v) ∧ w'.cell? ⟨w.heap.size, 7, none⟩ = some (.int .i64 l))
    (first
      | (with_reducible exact blkI HK0.out)
      | (with_reducible exact blkI HK1.out)
      | (with_reducible exact blkI HK2.out)
      | (with_reducible exact blkI HK3.out)
      | (with_reducible exact blkI HK4.out))
    (first
      | (go_at_call 24; ((with_reducible refine (some_st 1 1 1 rfl (by decide) _).mono ?_); rintro e w1 ⟨v1, rfl, hr, hb⟩; obtain ⟨A1, n1, c1, rfl⟩ := hr.isSl; have R1 := Lib.hid hr; have HK1 := Lib.hid (Blk.below HK0.out hb HK0.out.lt); have B1 := Lib.hid (Below.trans0 B0.out hb); have HT1 := Lib.hid (KindsAt.bel HT.out hb); clear hr hb))
      | (go_at_call 25; ((with_reducible refine (AH.out _).mono ?_); rintro e w2 ⟨v2, rfl, hr, hb⟩; obtain ⟨A2, n2, c2, rfl⟩ := hr.isSl; have R1' := Lib.hid (R1.out.below hb); have R2 := Lib.hid hr; have HK2 := Lib.hid (Blk.below HK1.out hb HK1.out.lt); have B2 := Lib.hid (Below.trans0 B1.out hb); have HT2 := Lib.hid (KindsAt.bel HT1.out hb); have HK3 := Lib.hid (Blk.alloc HK2.out (Obj.cells #[.slice A1 n1 c1, .slice A2 n2 c2] 31)); clear hr hb))
      | (go_at_call 23; (refine (row2_any _ _ _ _ _ R1'.out R2.out M0.out).mono ?_; rintro e w3 ⟨v3, rfl, hr, hb⟩; obtain ⟨A3, n3, c3, rfl⟩ := hr.isSl; have R3 := Lib.hid hr; have HK4 := Lib.hid (Blk.below HK2.out hb HK2.out.lt); have B3 := Lib.hid (Below.trans0 B2.out hb); have HT3 := Lib.hid (KindsAt.bel HT2.out hb); clear hr hb)))
  obtain ⟨i0, i1, i2, i3, i4, i5, i6, i7⟩ := blkI HK4.out
  have HK := HK4
  have HT := HT3
  have B := B3
  have R := R3
  clear R1 R2 R1' HK0 HK1 HK2 HK3 HK4 B0 B1 B2 B3 HT1 HT2 HT3 R3 M0 AH
  go_wp2_with fail
  refine (TA.out _).mono ?_
  rintro e w7 ⟨v7, rfl, hr, hb⟩
  obtain ⟨A7, n7, c7, rfl⟩ := hr.isSl
  replace R := Lib.hid (R.out.below hb)
  have R7 := Lib.hid hr
  replace HK := Lib.hid (Blk.below HK.out hb HK.out.lt)
  replace B := Lib.hid (Below.trans0 B.out hb)
  clear hr hb
  clear i0 i1 i2 i3 i4 i5 i6 i7
  obtain ⟨i0, i1, i2, i3, i4, i5, i6, i7⟩ := blkI HK.out
  go_wp2_with fail
  refine (row2_any _ _ _ _ _ R.out R7.out M2.out).mono ?_
  rintro e w8 ⟨v8, rfl, hr, hb⟩
  obtain ⟨A8, n8, c8, rfl⟩ := hr.isSl
  clear R R7
  have R := Lib.hid hr
  replace HK := Lib.hid (Blk.below HK.out hb HK.out.lt)
  replace B := Lib.hid (Below.trans0 B.out hb)
  clear hr hb
  clear i0 i1 i2 i3 i4 i5 i6 i7
  obtain ⟨i0, i1, i2, i3, i4, i5, i6, i7⟩ := blkI HK.out
  go_wp2
  go_ret
  exact ⟨_, rfl, by rw [hO.out]; exact R.out, B.out⟩
theorem rowsOf_st (p c o m r v l : Int) (b : Nat) (hb : b < 256) (cc pulled : Int) (hcc : CC cc) (q0 : 0 ≤ pulled) (q1 : pulled < 256) (w : World) (hT : KindsAt w) : Calls Tryd.prog 8 #[.agg #[.int .i64 p, .int .u8 c, .int .i64 o, .int .i64 m, .int .i64 r, .int .u8 (b : Int), .int .u16 v, .int .i64 l], .int .u8 cc, .int .u8 pulled] w (GivesR w (ofL p o m b (holdsX r cc) (decide (127 < pulled)))) := by
  by_cases ho : o = 49 <;> by_cases hm : m = 4 <;> rcases (show p = 2 ∨ p = 3 ∨ (¬ p = 2 ∧ ¬ p = 3) by omega) with hp | hp | hp
  · subst ho; subst hm; subst hp; exact rowsOf_1 c r v l b hb cc pulled hcc q0 q1 w hT
  · subst ho; subst hm; subst hp; exact rowsOf_5 c r v l b hb cc pulled hcc q0 q1 w hT
  · subst ho; subst hm; exact rowsOf_9 p c r v l b hb cc pulled hcc q0 q1 hp w hT
  · subst ho; subst hp; exact rowsOf_3 c m r v l b hb cc pulled hcc q0 q1 hm w hT
  · subst ho; subst hp; exact rowsOf_7 c m r v l b hb cc pulled hcc q0 q1 hm w hT
  · subst ho; exact rowsOf_11 p c m r v l b hb cc pulled hcc q0 q1 hp hm w hT
  · subst hm; subst hp; exact rowsOf_2 c o r v l b hb cc pulled hcc q0 q1 ho w hT
  · subst hm; subst hp; exact rowsOf_6 c o r v l b hb cc pulled hcc q0 q1 ho w hT
  · subst hm; exact rowsOf_10 p c o r v l b hb cc pulled hcc q0 q1 hp ho w hT
  · subst hp; exact rowsOf_4 c o m r v l b hb cc pulled hcc q0 q1 hm ho w hT
  · subst hp; exact rowsOf_8 c o m r v l b hb cc pulled hcc q0 q1 hm ho w hT
  · exact rowsOf_12 p c o m r v l b hb cc pulled hcc q0 q1 hp hm ho w hT
end Go.Proofs.YtkdekhcnamkcgabDoor
