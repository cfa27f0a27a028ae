/- Contracts: the cycles of an instruction (package table): Least, Taken, Whole, Most, Of. -/
import Derived.Test.YtkdekhcnamkcgabDoorTblF
import Derived.Test.YtkdekhcnamkcgabDoorCnd
namespace Go.Proofs.YtkdekhcnamkcgabDoor
open Go.ChangeShapes Go.WideShapes Go.ChangeAt Go.RowKit
set_option linter.unusedVariables false

def leastN (p o m : Int) (b : Nat) : Int := if p = 2 ∨ p = 3 then firstN o m b + 1 else firstN o m b
def takenN (o r : Int) : Int := if o = 35 ∧ ¬ r = 1 then 1 else 0
def wholeN (o : Int) : Int := if o = 49 then 9 else 0
def mostN (p o m r : Int) (b : Nat) : Int := leastN p o m b + max (takenN o r) (wholeN o)
theorem poExtra_r (b : Nat) (hb : b < 256) : poExtra (poK b) (poI b) ≤ 20 := Nat.le_of_ble_eq_true (allB 256 _ poExtra_le b hb)
theorem firstN_range (o m : Int) (b : Nat) (hb : b < 256) : 0 ≤ firstN o m b ∧ firstN o m b ≤ 40 := by
  have h1 := memN_le o
  have h2 := poExtra_r b hb
  have h3 := cntN_le b
  have h4 : 0 ≤ aloneN o ∧ aloneN o ≤ 19 := by unfold aloneN; repeat (first | (split; · simp) | simp)
  have h5 : 0 ≤ oneN o ∧ oneN o ≤ 16 := by unfold oneN; repeat (first | (split; · simp) | simp)
  have h6 : 0 ≤ twoN o ∧ twoN o ≤ 4 := by unfold twoN; repeat (first | (split; · simp) | simp)
  have h7 : 0 ≤ otherN o ∧ otherN o ≤ 9 := by unfold otherN; repeat (first | (split; · simp) | simp)
  unfold firstN
  repeat (first | (split; · omega) | omega)
theorem blk8 {w : World} {g : Nat} {t : TypeId} {v0 v1 v2 v3 v4 v5 v6 v7 : Value} (h : Blk w g t #[v0, v1, v2, v3, v4, v5, v6, v7]) : w.cell? ⟨g, 0, none⟩ = some v0 ∧ w.cell? ⟨g, 1, none⟩ = some v1 ∧ w.cell? ⟨g, 2, none⟩ = some v2 ∧ w.cell? ⟨g, 3, none⟩ = some v3 ∧ w.cell? ⟨g, 4, none⟩ = some v4 ∧ w.cell? ⟨g, 5, none⟩ = some v5 ∧ w.cell? ⟨g, 6, none⟩ = some v6 ∧ w.cell? ⟨g, 7, none⟩ = some v7 := by
  refine ⟨?_, ?_, ?_, ?_, ?_, ?_, ?_, ?_⟩ <;> (rw [h.cell]; rfl)
set_option maxRecDepth 100000 in
set_option maxHeartbeats 2000000 in
theorem least_any (p c o m r v l : Int) (b : Nat) (hb : b < 256) (w : World) (hT : KindsAt w) :
    Calls Tryd.prog 44 #[.agg (iC p c o m r (b : Int) v l)] w fun e w' => e = .returned (.int .i64 (leastN p o m b)) ∧ Below w.heap.size w w' := by
  have HT := Lib.hid (kinds_below hT (Below.alloc0 (Below.refl _ w) (Obj.cells (iC p c o m r (b : Int) v l) 27)))
  have HB := Lib.hid (Below.alloc0 (Below.refl w.heap.size w) (Obj.cells (iC p c o m r (b : Int) v l) 27))
  have CF := Lib.hid (fun w hT => first_any p c o m r v l b hb w hT)
  have hr := firstN_range o m b hb
  obtain ⟨x, hx⟩ : ∃ x, firstN o m b = x := ⟨_, rfl⟩
  unfold leastN
  rw [hx] at CF hr ⊢
  obtain ⟨hr0, hr1⟩ := hr
  clear hx hT
  rcases (show p = 2 ∨ p = 3 ∨ (¬ p = 2 ∧ ¬ p = 3) by omega) with rfl | rfl | ⟨h2, h3⟩
  iterate 2
    · go_enter Tryd.func44, Tryd.ntmps44
      go_wp2_with (go_at_call 59; refine (CF.out _ HT.out).mono ?_; rintro e w1 ⟨rfl, hb1⟩)
      go_ret
      exact ⟨rfl, HB.out.trans (hb1.mono (by simp))⟩
  · rw [if_neg (by omega)]
    have e2 := ne_beq h2
    have e3 := ne_beq h3
    clear h2 h3
    go_enter Tryd.func44, Tryd.ntmps44
    go_wp2_with (go_at_call 59; refine (CF.out _ HT.out).mono ?_; rintro e w1 ⟨rfl, hb1⟩)
    go_ret
    exact ⟨rfl, HB.out.trans (hb1.mono (by simp))⟩
set_option maxRecDepth 100000 in
set_option maxHeartbeats 2000000 in
theorem taken_any (p c o m r b v l : Int) (w : World) :
    Calls Tryd.prog 46 #[.agg (iC p c o m r b v l)] w fun e w' => e = .returned (.int .i64 (takenN o r)) ∧ Below w.heap.size w w' := by
  have HB := Lib.hid (Below.alloc0 (Below.refl w.heap.size w) (Obj.cells (iC p c o m r b v l) 27))
  unfold takenN
  by_cases h : o = 35
  · subst h
    by_cases h1 : r = 1
    · subst h1
      go_enter Tryd.func46, Tryd.ntmps46
      go_wp2
      go_ret
      exact ⟨rfl, HB.out⟩
    · rw [if_pos ⟨rfl, h1⟩]
      have e1 : (r != 1) = true := by simpa using h1
      go_enter Tryd.func46, Tryd.ntmps46
      go_wp2
      go_ret
      exact ⟨rfl, HB.out⟩
  · rw [if_neg (fun hh => h hh.1)]
    have e := ne_beq h
    clear h
    go_enter Tryd.func46, Tryd.ntmps46
    go_wp2
    go_ret
    exact ⟨rfl, HB.out⟩
set_option maxRecDepth 100000 in
set_option maxHeartbeats 2000000 in
theorem whole_any (p c o m r b v l : Int) (w : World) :
    Calls Tryd.prog 47 #[.agg (iC p c o m r b v l)] w fun e w' => e = .returned (.int .i64 (wholeN o)) ∧ Below w.heap.size w w' := by
  have HB := Lib.hid (Below.alloc0 (Below.refl w.heap.size w) (Obj.cells (iC p c o m r b v l) 27))
  unfold wholeN
  by_cases h : o = 49
  · subst h
    go_enter Tryd.func47, Tryd.ntmps47
    go_wp2
    go_ret
    exact ⟨rfl, HB.out⟩
  · rw [if_neg h]
    have e := ne_beq h
    clear h
    go_enter Tryd.func47, Tryd.ntmps47
    go_wp2
    go_ret
    exact ⟨rfl, HB.out⟩
def holdsX (r cc : Int) : Bool := if 0 ≤ r ∧ r < 16 then holdsB r.toNat cc else false
def cycN (p o m r : Int) (b : Nat) (cc pulled : Int) : Int := leastN p o m b + (if holdsX r cc then takenN o r else 0) + (if 0 < bits .and .u8 pulled 128 then wholeN o else 0)
theorem holds_all (r cc : Int) (w : World) (hcc : CC cc) : Calls Tryd.prog 45 #[.int .i64 r, .int .u8 cc] w fun e w' => e = .returned (.bool (holdsX r cc)) ∧ Below w.heap.size w w' := by
  unfold holdsX
  by_cases h : 0 ≤ r ∧ r < 16
  · rw [if_pos h]; exact holds_at r cc w h.1 h.2 hcc
  · rw [if_neg h]; exact (holds_out r cc w (by omega)).mono fun e w' hh => ⟨hh.1, hh.2 ▸ Below.refl _ _⟩
set_option maxRecDepth 100000 in
set_option maxHeartbeats 4000000 in
theorem cyc_any (p c o m r v l : Int) (b : Nat) (hb : b < 256) (cc pulled : Int) (hcc : CC cc) (w : World) (hT : KindsAt w) :
    Calls Tryd.prog 19 #[.agg (iC p c o m r (b : Int) v l), .int .u8 cc, .int .u8 pulled] w fun e w' => e = .returned (.int .i64 (cycN p o m r b cc pulled)) ∧ Below w.heap.size w w' := by
  have HB := Lib.hid (Below.alloc0 (Below.refl w.heap.size w) (Obj.cells (iC p c o m r (b : Int) v l) 27))
  have HT := Lib.hid (kinds_below hT (Below.alloc0 (Below.refl _ w) (Obj.cells (iC p c o m r (b : Int) v l) 27)))
  have HI := Lib.hid (Blk.new w 27 (iC p c o m r (b : Int) v l) (0, 0))
  have CL := Lib.hid (fun w hT => least_any p c o m r v l b hb w hT)
  have CH := Lib.hid (fun w => holds_all r cc w hcc)
  have CT := Lib.hid (fun w => taken_any p c o m r (b : Int) v l w)
  have CW := Lib.hid (fun w => whole_any p c o m r (b : Int) v l w)
  have hr := firstN_range o m b hb
  have hl : 0 ≤ leastN p o m b ∧ leastN p o m b ≤ 41 := by unfold leastN; split <;> omega
  have ht : 0 ≤ takenN o r ∧ takenN o r ≤ 1 := by unfold takenN; split <;> omega
  have hw : 0 ≤ wholeN o ∧ wholeN o ≤ 9 := by unfold wholeN; split <;> omega
  unfold cycN
  obtain ⟨x, hx⟩ : ∃ x, leastN p o m b = x := ⟨_, rfl⟩
  obtain ⟨y, hy⟩ : ∃ y, takenN o r = y := ⟨_, rfl⟩
  obtain ⟨z, hz⟩ : ∃ z, wholeN o = z := ⟨_, rfl⟩
  obtain ⟨hh, hhh⟩ : ∃ hh, holdsX r cc = hh := ⟨_, rfl⟩
  rw [hx] at CL hl ⊢
  rw [hy] at CT ht ⊢
  rw [hz] at CW hw ⊢
  rw [hhh] at CH ⊢
  obtain ⟨l0, l1⟩ := hl
  obtain ⟨t0, t1⟩ := ht
  obtain ⟨w0, w1⟩ := hw
  obtain ⟨q, hq⟩ : ∃ q, bits .and .u8 pulled 128 = q := ⟨_, rfl⟩
  rw [hq]
  clear hx hy hz hr hT hhh
  cases hh <;> (by_cases hp : 0 < q)
  all_goals
    first
      | (have dp : decide (0 < q) = true := decide_eq_true hp)
      | (have dp : decide (0 < q) = false := decide_eq_false hp)
    go_enter Tryd.func19, Tryd.ntmps19
    go_wp2_with fail
    refine (CL.out _ HT.out).mono ?_
    rintro e w1 ⟨rfl, hb1⟩
    have HI1 := Lib.hid (Blk.below HI.out hb1 HI.out.lt)
    have HB1 := Lib.hid (Below.trans0 HB.out hb1)
    clear hb1
    obtain ⟨c0, c1, c2, c3, c4, c5, c6, c7⟩ := blk8 HI1.out
    go_wp2_with fail
    refine (CH.out _).mono ?_
    rintro e w2 ⟨rfl, hb1⟩
    have HI2 := Lib.hid (Blk.below HI1.out hb1 HI1.out.lt)
    have HB2 := Lib.hid (Below.trans0 HB1.out hb1)
    clear hb1 c0 c1 c2 c3 c4 c5 c6 c7
    obtain ⟨c0, c1, c2, c3, c4, c5, c6, c7⟩ := blk8 HI2.out
  · go_wp2_with fail
    refine (CW.out _).mono ?_
    rintro e w4 ⟨rfl, hb1⟩
    have HB4 := Lib.hid (Below.trans0 HB2.out hb1)
    clear hb1
    go_wp2
    go_ret
    exact ⟨ret_int (by simp), HB4.out⟩
  · go_wp2
    go_ret
    exact ⟨ret_int (by simp), HB2.out⟩
  · go_wp2_with fail
    refine (CT.out _).mono ?_
    rintro e w3 ⟨rfl, hb1⟩
    have HI3 := Lib.hid (Blk.below HI2.out hb1 HI2.out.lt)
    have HB3 := Lib.hid (Below.trans0 HB2.out hb1)
    clear hb1 c0 c1 c2 c3 c4 c5 c6 c7
    obtain ⟨c0, c1, c2, c3, c4, c5, c6, c7⟩ := blk8 HI3.out
    go_wp2_with fail
    refine (CW.out _).mono ?_
    rintro e w4 ⟨rfl, hb1⟩
    have HB4 := Lib.hid (Below.trans0 HB3.out hb1)
    clear hb1
    go_wp2
    go_ret
    exact ⟨ret_int (by simp), HB4.out⟩
  · go_wp2_with fail
    refine (CT.out _).mono ?_
    rintro e w3 ⟨rfl, hb1⟩
    have HB3 := Lib.hid (Below.trans0 HB2.out hb1)
    clear hb1
    go_wp2
    go_ret
    exact ⟨ret_int (by simp), HB3.out⟩
end Go.Proofs.YtkdekhcnamkcgabDoor
