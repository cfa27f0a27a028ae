/- The contract of phase.Behind: the cycles behind an indexed mode's postbyte. -/
import Derived.Test.YtkdekhcnamkcgabRowP
import Derived.Test.YtkdekhcnamkcgabPost
import Derived.Test.YtkdekhcnamkcgabPostU
import Derived.Deep.RegionHeld3
namespace Go.Proofs.Ytkdekhcnamkcgab
open Go.ChangeShapes Go.WideShapes Go.ChangeAt Go.RowKit
set_option linter.unusedVariables false

theorem po_le : ((List.range 14).all fun k => Nat.ble (poBytes k) 4 && Nat.ble (poIdle k) 9) = true := by decide +kernel
theorem blkP {w : World} {g : Nat} {t : TypeId} {v0 v1 v2 v3 : Value} (h : Blk w g t #[v0, v1, v2, v3]) : w.cell? ⟨g, 0, none⟩ = some v0 ∧ w.cell? ⟨g, 1, none⟩ = some v1 ∧ w.cell? ⟨g, 2, none⟩ = some v2 ∧ w.cell? ⟨g, 3, none⟩ = some v3 := by
  refine ⟨?_, ?_, ?_, ?_⟩ <;> (rw [h.cell]; rfl)
set_option maxRecDepth 100000 in
set_option maxHeartbeats 4000000 in
theorem behind_st (k : Nat) (hk : k < 14) (r o : Int) (d : Bool) (w : World) : Calls Try.prog 15 #[.agg #[.int .i64 (k : Int), .int .i64 r, .int .u16 o, .bool d]] w (GivesR w (behindL (poBytes k) (poIdle k) d)) := by
  have hp := allB 14 _ po_le k hk
  rw [Bool.and_eq_true, Nat.ble_eq, Nat.ble_eq] at hp
  obtain ⟨p1, p2⟩ := hp
  have CB := Lib.hid (fun w => bytes_any k r o d w k rfl hk)
  have CI := Lib.hid (fun w => idle_any k r o d w k rfl hk)
  have HK0 := Lib.hid (show Blk (w.alloc (Obj.cells #[.int .i64 (k : Int), .int .i64 r, .int .u16 o, .bool d] 37)).drew w.heap.size 37 #[.int .i64 (k : Int), .int .i64 r, .int .u16 o, .bool d] from Blk.new w 37 #[.int .i64 (k : Int), .int .i64 r, .int .u16 o, .bool d] (0, 0))
  have B0 := Lib.hid (Below.drew0 (Below.alloc0 (Below.refl w.heap.size w) (Obj.cells #[.int .i64 (k : Int), .int .i64 r, .int .u16 o, .bool d] 37)))
  generalize poBytes k = nb at CB p1 ⊢
  generalize poIdle k = ni at CI p2 ⊢
  have S1 := Lib.hid (fun w => some_st 2 (nb : Int) nb rfl (by omega) w)
  have S2 := Lib.hid (fun w => some_st 4 (ni : Int) ni rfl (by omega) w)
  have hl := Lib.hid (show [someL 2 nb, idL ni].flatten.length ≤ 1099511627776 by simp [someL]; omega)
  have hl2 := Lib.hid (show [[someL 2 nb, idL ni].flatten, firstL 11, idL 1].flatten.length ≤ 1099511627776 by simp [someL, firstL]; omega)
  clear p1 p2 hk
  cases d
  · go_enter Try.func15, Try.ntmps15
    go_upto_region 1 with (fail)
    go_region_held3 (fun w' => w'.cell? ⟨w.heap.size, 0, none⟩ = some (.int .i64 (k : Int)) ∧ w'.cell? ⟨w.heap.size, 1, none⟩ = some (.int .i64 r) ∧ w'.cell? ⟨w.heap.size, 2, none⟩ = some (.int .u16 o) ∧ w'.cell? ⟨w.heap.size, 3, none⟩ = some (.bool false))
      (first
        | (with_reducible exact blkP HK0.out)
        | (with_reducible exact blkP HK1.out)
        | (with_reducible exact blkP HK2.out)
        | (with_reducible exact blkP HK3.out)
        | (with_reducible exact blkP HK4.out)
        | (with_reducible exact blkP HK5.out)
        | (with_reducible exact blkP HK6.out))
      (first
        | (go_at_call 22; ((with_reducible refine (CB.out _).mono ?_); rintro e w1 ⟨rfl, hb⟩; have HK1 := Lib.hid (Blk.below HK0.out hb HK0.out.lt); have B1 := Lib.hid (Below.trans0 B0.out hb); clear hb))
        | (go_at_call 23; ((with_reducible refine (CI.out _).mono ?_); rintro e w3 ⟨rfl, hb⟩; have HK3 := Lib.hid (Blk.below HK2.out hb HK2.out.lt); have B3 := Lib.hid (Below.trans0 B2.out hb); have R1' := Lib.hid (R1.out.below hb); clear hb))
        | (go_at_call 7; ((with_reducible refine (S1.out _).mono ?_); rintro e w2 ⟨v1, rfl, hr, hb⟩; obtain ⟨A1, n1, c1, rfl⟩ := hr.isSl; have R1 := Lib.hid hr; have HK2 := Lib.hid (Blk.below HK1.out hb HK1.out.lt); have B2 := Lib.hid (Below.trans0 B1.out hb); clear hr hb))
        | (go_at_call 7; ((with_reducible refine (S2.out _).mono ?_); rintro e w4 ⟨v2, rfl, hr, hb⟩; obtain ⟨A2, n2, c2, rfl⟩ := hr.isSl; have R2 := Lib.hid hr; have R1'' := Lib.hid (R1'.out.below hb); have HK4 := Lib.hid (Blk.below HK3.out hb HK3.out.lt); have B4 := Lib.hid (Below.trans0 B3.out hb); have HK5 := Lib.hid (Blk.alloc HK4.out (Obj.cells #[.slice A1 n1 c1, .slice A2 n2 c2] 23)); clear hr hb))
        | (go_at_call 9; (refine (row2_any _ _ _ _ _ R1''.out R2.out hl.out).mono ?_; rintro e w5 ⟨v3, rfl, hr, hb⟩; obtain ⟨A3, n3, c3, rfl⟩ := hr.isSl; have R3 := Lib.hid hr; have HK6 := Lib.hid (Blk.below HK4.out hb HK4.out.lt); have B5 := Lib.hid (Below.trans0 B4.out hb); clear hr hb)))
    obtain ⟨k0, k1, k2, k3⟩ := blkP HK6.out
    go_wp2
    go_ret
    exact ⟨_, rfl, R3.out, B5.out⟩
  · go_enter Try.func15, Try.ntmps15
    go_upto_region 1 with (fail)
    go_region_held3 (fun w' => w'.cell? ⟨w.heap.size, 0, none⟩ = some (.int .i64 (k : Int)) ∧ w'.cell? ⟨w.heap.size, 1, none⟩ = some (.int .i64 r) ∧ w'.cell? ⟨w.heap.size, 2, none⟩ = some (.int .u16 o) ∧ w'.cell? ⟨w.heap.size, 3, none⟩ = some (.bool true))
      (first
        | (with_reducible exact blkP HK0.out)
        | (with_reducible exact blkP HK1.out)
        | (with_reducible exact blkP HK2.out)
        | (with_reducible exact blkP HK3.out)
        | (with_reducible exact blkP HK4.out)
        | (with_reducible exact blkP HK5.out)
        | (with_reducible exact blkP HK6.out))
      (first
        | (go_at_call 22; ((with_reducible refine (CB.out _).mono ?_); rintro e w1 ⟨rfl, hb⟩; have HK1 := Lib.hid (Blk.below HK0.out hb HK0.out.lt); have B1 := Lib.hid (Below.trans0 B0.out hb); clear hb))
        | (go_at_call 23; ((with_reducible refine (CI.out _).mono ?_); rintro e w3 ⟨rfl, hb⟩; have HK3 := Lib.hid (Blk.below HK2.out hb HK2.out.lt); have B3 := Lib.hid (Below.trans0 B2.out hb); have R1' := Lib.hid (R1.out.below hb); clear hb))
        | (go_at_call 7; ((with_reducible refine (S1.out _).mono ?_); rintro e w2 ⟨v1, rfl, hr, hb⟩; obtain ⟨A1, n1, c1, rfl⟩ := hr.isSl; have R1 := Lib.hid hr; have HK2 := Lib.hid (Blk.below HK1.out hb HK1.out.lt); have B2 := Lib.hid (Below.trans0 B1.out hb); clear hr hb))
        | (go_at_call 7; ((with_reducible refine (S2.out _).mono ?_); rintro e w4 ⟨v2, rfl, hr, hb⟩; obtain ⟨A2, n2, c2, rfl⟩ := hr.isSl; have R2 := Lib.hid hr; have R1'' := Lib.hid (R1'.out.below hb); have HK4 := Lib.hid (Blk.below HK3.out hb HK3.out.lt); have B4 := Lib.hid (Below.trans0 B3.out hb); have HK5 := Lib.hid (Blk.alloc HK4.out (Obj.cells #[.slice A1 n1 c1, .slice A2 n2 c2] 23)); clear hr hb))
        | (go_at_call 9; (refine (row2_any _ _ _ _ _ R1''.out R2.out hl.out).mono ?_; rintro e w5 ⟨v3, rfl, hr, hb⟩; obtain ⟨A3, n3, c3, rfl⟩ := hr.isSl; have R3 := Lib.hid hr; have HK6 := Lib.hid (Blk.below HK4.out hb HK4.out.lt); have B5 := Lib.hid (Below.trans0 B4.out hb); clear hr hb)))
    obtain ⟨k0, k1, k2, k3⟩ := blkP HK6.out
    go_wp2_with fail
    refine (firstP_st 11 _).mono ?_
    rintro e w6 ⟨v4, rfl, hr, hb⟩
    obtain ⟨A4, n4, c4, rfl⟩ := hr.isSl
    replace R3 := Lib.hid (R3.out.below hb)
    have R4 := Lib.hid hr
    have B6 := Lib.hid (Below.trans0 B5.out hb)
    clear hr hb
    go_wp2_with fail
    refine (some_st 4 1 1 rfl (by decide) _).mono ?_
    rintro e w7 ⟨v5, rfl, hr, hb⟩
    obtain ⟨A5, n5, c5, rfl⟩ := hr.isSl
    replace R3 := Lib.hid (R3.out.below hb)
    replace R4 := Lib.hid (R4.out.below hb)
    have R5 := Lib.hid hr
    have B7 := Lib.hid (Below.trans0 B6.out hb)
    clear hr hb
    go_wp2_with fail
    refine (row3_any _ _ _ _ _ _ _ R3.out R4.out R5.out hl2.out).mono ?_
    rintro e w8 ⟨v6, rfl, hr, hb⟩
    go_wp2
    go_ret
    exact ⟨_, rfl, hr, Below.trans0 B7.out hb⟩
end Go.Proofs.Ytkdekhcnamkcgab
