/- The laws of layer 23 (rows): the chapter's example, RowsOthers. -/
import Derived.Test.YtkdekhcnamkcgabDoorRowF
import Derived.Test.YtkdekhcnamkcgabDoorRefS
import Derived.Test.YtkdekhcnamkcgabDoorInsO
namespace Go.Proofs.YtkdekhcnamkcgabDoor
open Go.ChangeShapes Go.WideShapes Go.ChangeAt Go.RowKit
set_option linter.unusedVariables false

theorem iC23 (xs : List Int) (h : inOk xs = true) : inAgg xs = #[.int .i64 (inPg xs : Int), .int .u8 (inCo xs), .int .i64 (eOp (inE xs) : Int), .int .i64 (eMode (inE xs) : Int), .int .i64 (eReg (inE xs) : Int), .int .u8 (inPo xs), .int .u16 (inVa xs), .int .i64 (inLn xs : Int)] := by
  unfold inAgg; rw [if_pos h]
theorem x39 : inOk [57] = true ∧ inPg [57] = 1 ∧ eOp (inE [57]) = 48 ∧ eMode (inE [57]) = 0 ∧ inPo [57] = 0 := by decide +kernel
theorem of39 : ofL 1 48 0 0 (holdsX (eReg (inE [57]) : Int) 0) false = [(1, false), (3, false), (9, false), (9, false), (4, false)] := by
  generalize holdsX _ 0 = h
  cases h <;> decide +kernel
set_option maxRecDepth 100000 in
set_option maxHeartbeats 2000000 in
theorem alive23 (w : World) (hT : KindsAt w) : Calls Tryd.prog 15 #[] w fun e w' => e = .returned (.bool true) ∧ Below w.heap.size w w' := by
  obtain ⟨h1, h2, h3, h4, h5⟩ := x39
  have hin : Ints .u8 (w.alloc (.cells #[.int .u8 57] 5)) (w.alloc (.cells #[.int .u8 57] 5)).heap.size (some ⟨w.heap.size, 0, none⟩) 1 [57] := by
    have := Ints.new1 (k := .u8) (w := w) (x := 57) (t := 5) rfl (by decide)
    simpa using this
  have CO := of18_any _ 1 1 [57] _ hin (fun h => by cases h) (by decide)
  rw [iC23 _ h1, h1, h2, h3, h4, h5] at CO
  have CR := fun w hT => rowsOf_st 1 (inCo [57]) 48 0 (eReg (inE [57]) : Int) (inVa [57]) (inLn [57] : Int) 0 (by decide) 0 0 (CC.mk' (by omega) (by omega)) (by omega) (by omega) w hT
  rw [show decide ((127 : Int) < 0) = false by decide, of39] at CR
  have CO := Lib.hid CO
  have CR := Lib.hid CR
  have HT := Lib.hid (KindsAt.bel hT (Below.alloc0 (Below.refl _ w) (Obj.cells #[.int .u8 57] 5)))
  have HB := Lib.hid (Below.alloc0 (Below.refl w.heap.size w) (Obj.cells #[.int .u8 57] 5))
  generalize inCo [57] = c at CO CR
  generalize (eReg (inE [57]) : Int) = r at CO CR
  generalize inVa [57] = v at CO CR
  generalize (inLn [57] : Int) = l at CO CR
  clear hin h1 h2 h3 h4 h5 hT
  go_enter Tryd.func15, Tryd.ntmps15
  go_wp2_with fail
  refine CO.out.mono ?_
  rintro e w1 ⟨rfl, hb⟩
  replace HT := Lib.hid (KindsAt.bel (KindsAt.bel HT.out hb) (Below.alloc0 (Below.refl _ w1) (Obj.cells #[.int .i64 1, .int .u8 c, .int .i64 48, .int .i64 0, .int .i64 r, .int .u8 0, .int .u16 v, .int .i64 l] 27)))
  replace HB := Lib.hid (Below.alloc0 (Below.trans0 HB.out hb) (Obj.cells #[.int .i64 1, .int .u8 c, .int .i64 48, .int .i64 0, .int .i64 r, .int .u8 0, .int .u16 v, .int .i64 l] 27))
  clear hb
  go_wp2_with fail
  refine (CR.out _ HT.out).mono ?_
  rintro e w2 ⟨v2, rfl, hr, hb⟩
  replace HB := Lib.hid (Below.trans0 HB.out hb)
  clear hb
  obtain ⟨A, cp, rfl, hc⟩ := hr.open_
  obtain ⟨g, off, eA, hd⟩ := hc (by decide)
  subst eA
  have a0 : w2.cell? ⟨g, off, none⟩ = some (.int .i64 1) := by simpa using (hd 0 (by decide)).1
  have a2 : w2.cell? ⟨g, off + 4, none⟩ = some (.int .i64 9) := by simpa using (hd 2 (by decide)).1
  have a4 : w2.cell? ⟨g, off + 8, none⟩ = some (.int .i64 4) := by simpa using (hd 4 (by decide)).1
  rw [show ([(1, false), (3, false), (9, false), (9, false), (4, false)] : List Stp).length = 5 from rfl]
  clear hr hc hd
  go_wp2
  go_ret
  exact ⟨rfl, HB.out⟩
theorem rowS_ok (k : Int) : (∀ x ∈ rowS k, 0 ≤ x ∧ x < 256) ∧ (rowS k).length ≤ 100 := by
  by_cases h : 1 ≤ k ∧ k ≤ 7
  · rcases (show k = 1 ∨ k = 2 ∨ k = 3 ∨ k = 4 ∨ k = 5 ∨ k = 6 ∨ k = 7 by omega) with rfl | rfl | rfl | rfl | rfl | rfl | rfl <;> decide +kernel
  · have e1 : rowS k = [] := by unfold rowS; repeat (rw [if_neg (by omega)])
    rw [e1]; simp
theorem rowL_len (k : Int) : ((rowL k).length : Int) = rowN k ∧ (rowL k).length ≤ 100 := by
  by_cases h : 1 ≤ k ∧ k ≤ 7
  · rcases (show k = 1 ∨ k = 2 ∨ k = 3 ∨ k = 4 ∨ k = 5 ∨ k = 6 ∨ k = 7 by omega) with rfl | rfl | rfl | rfl | rfl | rfl | rfl <;> decide +kernel
  · have e1 : rowL k = [] := by unfold rowL; repeat (rw [if_neg (by omega)])
    have e2 : rowN k = 0 := by unfold rowN; repeat (rw [if_neg (by omega)])
    rw [e1, e2]; simp
theorem steps_str (xs : List Int) (h : ∀ x ∈ xs, 0 ≤ x ∧ x < 256) (hl : xs.length ≤ 1000) (w : World) :
    Calls Tryd.prog 9 #[.string (strOfNums xs)] w (GivesR w (stepsOf xs)) := by
  have := steps_any (strOfNums xs) (by rw [size_str]; exact hl) w
  rw [str_nums xs h] at this
  exact this
set_option maxRecDepth 100000 in
set_option maxHeartbeats 4000000 in
theorem law_others (k : Int) (w : World) (hT : KindsAt w) :
    Calls Tryd.prog 4 #[.int .i64 k] w fun e w' => e = .returned (.bool true) ∧ Below w.heap.size w w' := by
  obtain ⟨q1, q2⟩ := rowS_ok k
  obtain ⟨q3, q4⟩ := rowL_len k
  have C1 := Lib.hid (fun w => rowR_st k w)
  have C2 := Lib.hid (fun w => row23_any k w)
  have C3 : Hid (∀ w, Calls Tryd.prog 9 #[.string (strOfNums (rowS k))] w (GivesR w (rowL k))) := Lib.hid (fun w => by
    have := steps_str (rowS k) q1 (by omega) w
    rw [row_same] at this
    exact this)
  have C4 := Lib.hid (fun w => row_any k w)
  generalize strOfNums (rowS k) = S at C2 C3
  rw [← q3] at C4
  have HL := Lib.hid q4
  generalize rowL k = L at C1 C3 C4 HL
  have HT := Lib.hid hT
  clear q1 q2 q3 q4 hT
  have HB := Lib.hid (Below.refl w.heap.size w)
  go_enter Tryd.func4, Tryd.ntmps4
  go_wp2_with fail
  refine (C1.out _).mono ?_
  rintro e w1 ⟨v1, rfl, hr, hb⟩
  have R1 := Lib.hid hr
  replace HT := Lib.hid (KindsAt.bel HT.out hb)
  replace HB := Lib.hid (Below.trans0 HB.out hb)
  clear hr hb
  go_wp2_with fail
  refine (C2.out _).mono ?_
  rintro e w' ⟨rfl, rfl⟩
  go_wp2_with fail
  refine (C3.out _).mono ?_
  rintro e w2 ⟨v2, rfl, hr, hb⟩
  replace R1 := Lib.hid (R1.out.below hb)
  have R2 := Lib.hid hr
  replace HT := Lib.hid (KindsAt.bel HT.out hb)
  replace HB := Lib.hid (Below.trans0 HB.out hb)
  clear hr hb
  go_wp2_with fail
  refine (eqSt_same _ _ _ _ _ R1.out R2.out rfl (by have := HL.out; omega)).mono ?_
  rintro e w3 ⟨rfl, hb⟩
  replace HT := Lib.hid (KindsAt.bel HT.out hb)
  replace HB := Lib.hid (Below.trans0 HB.out hb)
  clear hb R1 R2
  go_wp2_with fail
  refine (C1.out _).mono ?_
  rintro e w4 ⟨v4, rfl, hr, hb⟩
  replace HT := Lib.hid (KindsAt.bel HT.out hb)
  replace HB := Lib.hid (Below.trans0 HB.out hb)
  obtain ⟨A, cp, rfl, _⟩ := hr.open_
  clear hr hb
  go_wp2_with fail
  refine (C4.out _).mono ?_
  rintro e w' ⟨rfl, rfl⟩
  go_wp2_with fail
  refine (alive23 _ HT.out).mono ?_
  rintro e w5 ⟨rfl, hb⟩
  replace HB := Lib.hid (Below.trans0 HB.out hb)
  clear hb
  go_wp2
  go_ret
  exact ⟨rfl, HB.out⟩
end Go.Proofs.YtkdekhcnamkcgabDoor
