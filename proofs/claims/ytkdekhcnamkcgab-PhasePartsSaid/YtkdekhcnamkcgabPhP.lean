/- The law PhaseParts, over numbers. -/
import Derived.Test.YtkdekhcnamkcgabPhL
import Derived.Test.YtkdekhcnamkcgabBeh
import Derived.Test.YtkdekhcnamkcgabRefS
namespace Go.Proofs.Ytkdekhcnamkcgab
open Go.ChangeShapes Go.WideShapes Go.ChangeAt Go.RowKit
set_option linter.unusedVariables false

def okS (xs : List Int) : Bool := xs.all (fun x => decide (0 ≤ x) && decide (x < 256)) && decide (xs.length ≤ 100)
theorem okS_out {xs : List Int} (h : okS xs = true) : (∀ x ∈ xs, 0 ≤ x ∧ x < 256) ∧ xs.length ≤ 100 := by
  unfold okS at h
  rw [Bool.and_eq_true, List.all_eq_true, decide_eq_true_eq] at h
  refine ⟨fun x hx => ?_, h.2⟩
  have := h.1 x hx
  simpa using this
theorem aheadS_ok : ((List.range 10).all fun m => okS (aheadS m)) = true := by decide +kernel
theorem behindS_ok : ((List.range 256).all fun b => okS (behindS (poBytes (poK b)) (poIdle (poK b)) (poI b))) = true := by decide +kernel
theorem aheadL_le (m : Int) : (aheadL m).length ≤ 10 := by
  unfold aheadL
  repeat (first | (split; · decide) | decide)
theorem ahead_pair (m : Int) : ∃ S : ByteArray, (∀ w, Calls Try.prog 14 #[.int .i64 m] w fun e w' => e = .returned (.string S) ∧ Below w.heap.size w w') ∧ (∀ w, Calls Try.prog 13 #[.string S] w (GivesR w (aheadL m))) := by
  by_cases h : 0 ≤ m ∧ m ≤ 9
  · obtain ⟨k, rfl⟩ := Int.eq_ofNat_of_zero_le h.1
    have h1 := okS_out (allB 10 _ aheadS_ok k (by omega))
    have h2 := allB 10 _ ahead_same k (by omega)
    rw [decide_eq_true_eq] at h2
    refine ⟨_, ahead23_in k (by omega), fun w => ?_⟩
    have := steps_str (aheadS k) h1.1 (by omega) w
    rw [h2] at this
    exact this
  · have e : aheadL m = [] := by unfold aheadL; repeat (rw [if_neg (by omega)])
    refine ⟨_, ahead23_out m (by omega), fun w => ?_⟩
    rw [e]
    exact steps_str [] (by simp) (by simp) w
set_option maxRecDepth 100000 in
set_option maxHeartbeats 4000000 in
theorem law_parts22 (m : Int) (b : Nat) (hb : b < 256) (w : World) :
    Calls Try.prog 4 #[.int .i64 m, .int .u8 (b : Int)] w fun e w' => e = .returned (.bool true) ∧ Below w.heap.size w w' := by
  obtain ⟨S, hS1, hS2⟩ := ahead_pair m
  have CP := Lib.hid (fun w => refOf_any b hb w)
  unfold refP at CP
  have A1 := Lib.hid (fun w => ahead_st m w)
  have A2 := Lib.hid hS1
  have A3 := Lib.hid hS2
  have LA := Lib.hid (aheadL_le m)
  have hp := allB 14 _ po_le (poK b) (poK_lt b hb)
  rw [Bool.and_eq_true, Nat.ble_eq, Nat.ble_eq] at hp
  have hle : (behindL (poBytes (poK b)) (poIdle (poK b)) (poI b)).length ≤ 100 := by
    unfold behindL
    cases poI b <;> simp [someL, firstL] <;> omega
  have LB := Lib.hid hle
  have B1 := Lib.hid (fun w => behind_st (poK b) (poK_lt b hb) (poR b) (poO b) (poI b) w)
  have B2 := Lib.hid (fun w => behind23_any b hb w)
  have B3 : Hid (∀ w, Calls Try.prog 13 #[.string (strOfNums (behindS (poBytes (poK b)) (poIdle (poK b)) (poI b)))] w (GivesR w (behindL (poBytes (poK b)) (poIdle (poK b)) (poI b)))) := Lib.hid (fun w => by
    have h1 := okS_out (allB 256 _ behindS_ok b hb)
    have h2 := allB 256 _ behind_same b hb
    rw [decide_eq_true_eq] at h2
    have := steps_str _ h1.1 (by omega) w
    rw [h2] at this
    exact this)
  generalize strOfNums (behindS (poBytes (poK b)) (poIdle (poK b)) (poI b)) = S2 at B2 B3
  generalize behindL (poBytes (poK b)) (poIdle (poK b)) (poI b) = L2 at B1 B3 LB
  generalize aheadL m = L1 at A1 A3 LA
  have hO : IntKind.u16.wrap (poO b : Int) = (poO b : Int) := by rw [IntKind.wrap_u16]; unfold poO; omega
  clear hS1 hS2 hp hle
  go_enter Try.func4, Try.ntmps4
  go_wp2_with fail
  refine (CP.out _).mono ?_
  rintro e w1 ⟨rfl, hb1⟩
  have e2 : (w1.alloc (Obj.cells #[.int .i64 (poK b : Int), .int .i64 (poR b : Int), .int .i64 (poO b : Int), .bool (poI b), .int .i64 (poBytes (poK b) : Int), .int .i64 (poIdle (poK b) : Int)] 33)).heap.size = w1.heap.size + 1 := by simp
  have FP0 := Blk.new (w1.alloc (Obj.cells #[.int .i64 (poK b : Int), .int .i64 (poR b : Int), .int .i64 (poO b : Int), .bool (poI b), .int .i64 (poBytes (poK b) : Int), .int .i64 (poIdle (poK b) : Int)] 33)) 37 #[.int .i64 (poK b : Int), .int .i64 (poR b : Int), .int .u16 (poO b : Int), .bool (poI b)] (0, 0)
  rw [e2] at FP0
  have FP := Lib.hid FP0
  have HB := Lib.hid (Below.alloc0 (Below.alloc0 hb1 (Obj.cells #[.int .i64 (poK b : Int), .int .i64 (poR b : Int), .int .i64 (poO b : Int), .bool (poI b), .int .i64 (poBytes (poK b) : Int), .int .i64 (poIdle (poK b) : Int)] 33)) (Obj.cells #[.int .i64 (poK b : Int), .int .i64 (poR b : Int), .int .u16 (poO b : Int), .bool (poI b)] 37))
  clear hb1 FP0 e2
  go_wp2_with fail
  refine (A1.out _).mono ?_
  rintro e w2 ⟨v2, rfl, hr, hb⟩
  have R2 := Lib.hid hr
  replace FP := Lib.hid (Blk.below FP.out hb FP.out.lt)
  replace HB := Lib.hid (Below.trans0 HB.out hb)
  clear hb hr
  go_wp2_with fail
  refine (A2.out _).mono ?_
  rintro e w3 ⟨rfl, hb⟩
  replace R2 := Lib.hid (R2.out.below hb)
  replace FP := Lib.hid (Blk.below FP.out hb FP.out.lt)
  replace HB := Lib.hid (Below.trans0 HB.out hb)
  clear hb
  go_wp2_with fail
  refine (A3.out _).mono ?_
  rintro e w4 ⟨v4, rfl, hr, hb⟩
  have R4 := Lib.hid hr
  replace R2 := Lib.hid (R2.out.below hb)
  replace FP := Lib.hid (Blk.below FP.out hb FP.out.lt)
  replace HB := Lib.hid (Below.trans0 HB.out hb)
  clear hb hr
  go_wp2_with fail
  refine (eqSt_same _ _ _ _ _ R2.out R4.out rfl (by have := LA.out; omega)).mono ?_
  rintro e w5 ⟨rfl, hb⟩
  replace FP := Lib.hid (Blk.below FP.out hb FP.out.lt)
  replace HB := Lib.hid (Below.trans0 HB.out hb)
  clear hb
  clear R2 R4
  obtain ⟨f0, f1, f2, f3⟩ := blkP FP.out
  go_wp2_with fail
  refine (B1.out _).mono ?_
  rintro e w6 ⟨v6, rfl, hr, hb⟩
  have R6 := Lib.hid hr
  replace FP := Lib.hid (Blk.below FP.out hb FP.out.lt)
  replace HB := Lib.hid (Below.trans0 HB.out hb)
  clear hb hr
  clear f0 f1 f2 f3
  go_wp2_with fail
  refine (B2.out _).mono ?_
  rintro e w7 ⟨rfl, hb⟩
  replace R6 := Lib.hid (R6.out.below hb)
  replace FP := Lib.hid (Blk.below FP.out hb FP.out.lt)
  replace HB := Lib.hid (Below.trans0 HB.out hb)
  clear hb
  go_wp2_with fail
  refine (B3.out _).mono ?_
  rintro e w8 ⟨v8, rfl, hr, hb⟩
  have R8 := Lib.hid hr
  replace R6 := Lib.hid (R6.out.below hb)
  replace FP := Lib.hid (Blk.below FP.out hb FP.out.lt)
  replace HB := Lib.hid (Below.trans0 HB.out hb)
  clear hb hr
  go_wp2_with fail
  refine (eqSt_same _ _ _ _ _ R6.out R8.out rfl (by have := LB.out; omega)).mono ?_
  rintro e w9 ⟨rfl, hb⟩
  replace FP := Lib.hid (Blk.below FP.out hb FP.out.lt)
  replace HB := Lib.hid (Below.trans0 HB.out hb)
  clear hb
  go_wp2_with fail
  refine (alive22 _).mono ?_
  rintro e w10 ⟨rfl, hb⟩
  replace FP := Lib.hid (Blk.below FP.out hb FP.out.lt)
  replace HB := Lib.hid (Below.trans0 HB.out hb)
  clear hb
  go_wp2
  go_ret
  exact ⟨rfl, HB.out⟩
end Go.Proofs.Ytkdekhcnamkcgab
