/- The contract of the document's own count of cycles (spinetref19.Of); both counts are the same. -/
import Derived.Test.YtfkcogccbeolfabDoorTblR
import Derived.Test.YtfkcogccbeolfabDoorCndRN
import Derived.Test.YtfkcogccbeolfabDoorTblC
namespace Go.Proofs.YtfkcogccbeolfabDoor
open Go.ChangeShapes Go.WideShapes Go.ChangeAt Go.RowKit
set_option linter.unusedVariables false

def eqJ (j : Nat) : Bool :=
  Nat.blt (eOp (pgT j)) 52 &&
  (if eMode (pgT j) = 0 then decide (aloneN (eOp (pgT j)) = (tb19 (eOp (pgT j) * 3) : Int))
   else if eMode (pgT j) = 1 then decide (oneN (eOp (pgT j)) = (tb19 (eOp (pgT j) * 3 + 1) : Int))
   else if eMode (pgT j) = 2 then decide (twoN (eOp (pgT j)) = (tb19 (eOp (pgT j) * 3 + 1) : Int))
   else if eMode (pgT j) = 3 ∨ eMode (pgT j) = 4 ∨ eMode (pgT j) = 5 then decide (memN (eOp (pgT j)) = (tb19 (eOp (pgT j) * 3 + 2) : Int))
   else if eMode (pgT j) = 9 then decide ((5 : Int) = (tb19 (eOp (pgT j) * 3) : Int))
   else decide (otherN (eOp (pgT j)) = (tb19 (eOp (pgT j) * 3) : Int)))
theorem eqJ_fin : ((List.range 768).all eqJ) = true := by decide +kernel
theorem cnt_pop : ((List.range 256).all fun b => Nat.beq (cntN b) (pop8 b + pop8 (b / 16))) = true := by decide +kernel
theorem ref_first (j b : Nat) (hj : j < 768) (hb : b < 256) : eOp (pgT j) < 52 ∧ (refFirstN (eOp (pgT j)) (eMode (pgT j)) b : Int) = firstN (eOp (pgT j)) (eMode (pgT j)) b := by
  have h := allB 768 _ eqJ_fin j hj
  have hc := allB 256 _ cnt_pop b hb
  have hm := ofN_mode ((j / 256 + 1 : Nat) : Int) (j % 256) (by omega)
  have hE : ofN ((j / 256 + 1 : Nat) : Int) (j % 256) = pgT j := by
    unfold ofN
    rw [if_pos (by omega)]
    congr 1
    omega
  rw [hE] at hm
  rw [Nat.beq_eq] at hc
  unfold eqJ at h
  rw [Bool.and_eq_true] at h
  obtain ⟨h1, h2⟩ := h
  rw [Nat.blt_eq] at h1
  refine ⟨h1, ?_⟩
  generalize eOp (pgT j) = o at h1 h2 ⊢
  generalize eMode (pgT j) = m at hm h2 ⊢
  unfold refFirstN firstN
  rcases (show m = 0 ∨ m = 1 ∨ m = 2 ∨ m = 3 ∨ m = 4 ∨ m = 5 ∨ m = 6 ∨ m = 7 ∨ m = 8 ∨ m = 9 by omega) with rfl | rfl | rfl | rfl | rfl | rfl | rfl | rfl | rfl | rfl
  all_goals
    simp at h2 ⊢
    try omega
theorem ref_least (j b : Nat) (hj : j < 768) (hb : b < 256) : refLeastN ((j / 256 + 1 : Nat) : Int) (eOp (pgT j)) (eMode (pgT j)) b = leastN ((j / 256 + 1 : Nat) : Int) (eOp (pgT j)) (eMode (pgT j)) b := by
  have h := (ref_first j b hj hb).2
  unfold refLeastN leastN
  rw [h]
  by_cases h1 : 1 < ((j / 256 + 1 : Nat) : Int)
  · rw [if_pos h1, if_pos (by omega)]
  · rw [if_neg h1, if_neg (by omega)]
def refCycN (p r : Int) (o m b : Nat) (cc pulled : Int) : Int := refLeastN p o m b + (if o = 35 ∧ holdsX r cc = true then 1 else 0) + (if o = 49 ∧ decide (127 < pulled) = true then 9 else 0)
theorem and128_fin : ∀ q : Fin 256, (decide (0 < bits .and .u8 (q.val : Int) 128)) = decide (127 < (q.val : Int)) := by decide +kernel
theorem holdsX_1 (cc : Int) : holdsX 1 cc = false := by unfold holdsX; rw [if_pos (by omega)]; rfl
theorem ref_cyc (p r : Int) (o m b : Nat) (cc pulled : Int) (h0 : 0 ≤ pulled) (h1 : pulled < 256) (h : refLeastN p o m b = leastN p (o : Int) (m : Int) b) : refCycN p r o m b cc pulled = cycN p o m r b cc pulled := by
  obtain ⟨q, rfl⟩ := Int.eq_ofNat_of_zero_le h0
  have hp := and128_fin ⟨q, by omega⟩
  simp only [decide_eq_decide] at hp
  unfold refCycN cycN takenN wholeN
  rw [h]
  congr 1
  · congr 1
    by_cases ho : o = 35
    · subst ho
      by_cases hr : r = 1
      · subst hr; rw [holdsX_1]; simp
      · cases hh : holdsX r cc <;> simp [hr]
    · rw [if_neg (fun hh => ho hh.1)]
      have : ¬ (o : Int) = 35 := by omega
      simp [this]
  · by_cases ho : o = 49
    · subst ho
      by_cases hq : 127 < (q : Int)
      · rw [if_pos ⟨rfl, decide_eq_true hq⟩, if_pos (hp.2 hq)]; rfl
      · rw [if_neg (fun hh => hq (of_decide_eq_true hh.2)), if_neg (fun hh => hq (hp.1 hh))]
    · rw [if_neg (fun hh => ho hh.1)]
      have : ¬ (o : Int) = 49 := by omega
      simp [this]
set_option maxRecDepth 100000 in
set_option maxHeartbeats 4000000 in
theorem refCyc_any (p c v l : Int) (o m b r : Nat) (ho : o < 52) (hm : m ≤ 9) (hb : b < 256) (hr : r < 16) (cc pulled : Int) (hcc : CC cc) (w : World) :
    Calls Tryd.prog 27 #[.agg (iC p c (o : Int) (m : Int) (r : Int) (b : Int) v l), .int .u8 cc, .int .u8 pulled] w fun e w' => e = .returned (.int .i64 (refCycN p r o m b cc pulled)) ∧ Below w.heap.size w w' := by
  have HB := Lib.hid (Below.alloc0 (Below.refl w.heap.size w) (Obj.cells (iC p c (o : Int) (m : Int) (r : Int) (b : Int) v l) 36))
  have HI := Lib.hid (Blk.new w 36 (iC p c (o : Int) (m : Int) (r : Int) (b : Int) v l) (0, 0))
  have CL := Lib.hid (fun w => refLeast_any p c v l r o m b ho hm hb w)
  have CH := Lib.hid (fun w => refHolds_in r cc w hr hcc)
  have hX : holdsX (r : Int) cc = holdsB r cc := by unfold holdsX; rw [if_pos (by omega), Int.toNat_natCast]
  have hL : 0 ≤ refLeastN p o m b ∧ refLeastN p o m b ≤ 600 := by
    have h1 := tb19_lt (o * 3)
    have h2 := tb19_lt (o * 3 + 1)
    have h3 := tb19_lt (o * 3 + 2)
    have h4 := pop8_le b
    have h5 := pop8_le (b / 16)
    have h6 := poExtra_r b hb
    have h7 : refFirstN o m b ≤ 599 := by
      unfold refFirstN
      repeat (first | (split; · omega) | omega)
    unfold refLeastN
    split <;> omega
  unfold refCycN
  rw [hX]
  obtain ⟨x, hx⟩ : ∃ x, refLeastN p o m b = x := ⟨_, rfl⟩
  obtain ⟨hh, hhh⟩ : ∃ hh, holdsB r cc = hh := ⟨_, rfl⟩
  rw [hx] at CL hL ⊢
  rw [hhh] at CH ⊢
  obtain ⟨l0, l1⟩ := hL
  clear hx hhh hX
  have e1 : ((o : Int) == 35) = decide (o = 35) := by rw [Bool.eq_iff_iff]; simp; omega
  have e2 : ((o : Int) == 49) = decide (o = 49) := by rw [Bool.eq_iff_iff]; simp; omega
  obtain ⟨P, hP⟩ : ∃ P, decide (127 < pulled) = P := ⟨_, rfl⟩
  rw [hP]
  have HPr := Lib.hid hP
  clear hP
  rcases (show (o = 35 ∧ hh = true) ∨ (o = 35 ∧ hh = false) ∨ (o = 49 ∧ P = true) ∨ (o = 49 ∧ P = false) ∨ (¬ o = 35 ∧ ¬ o = 49) by cases hh <;> cases P <;> simp <;> omega) with ⟨rfl, rfl⟩ | ⟨rfl, rfl⟩ | ⟨rfl, rfl⟩ | ⟨rfl, rfl⟩ | ⟨ho1, ho2⟩
  iterate 2
    · have hP := HPr.out
      go_enter Tryd.func27, Tryd.ntmps27
      go_wp2_with fail
      refine (CL.out _).mono ?_
      rintro e w1 ⟨rfl, hb1⟩
      have HI1 := Lib.hid (Blk.below HI.out hb1 HI.out.lt)
      have HB1 := Lib.hid (Below.trans0 HB.out hb1)
      clear hb1
      obtain ⟨c0, c1, c2, c3, c4, c5, c6, c7⟩ := blk8 HI1.out
      go_wp2_with fail
      refine (CH.out _).mono ?_
      rintro e w2 ⟨rfl, hb1⟩
      have HI2 := Lib.hid (Blk.below HI1.out hb1 HI1.out.lt)
      have HB2 := Lib.hid (Below.trans0 HB1.out hb1)
      clear hb1 c0 c1 c2 c3 c4 c5 c6 c7
      obtain ⟨c0, c1, c2, c3, c4, c5, c6, c7⟩ := blk8 HI2.out
      go_wp2
      go_ret
      exact ⟨ret_int (by simp), HB2.out⟩
  iterate 2
    · have hP := HPr.out
      go_enter Tryd.func27, Tryd.ntmps27
      go_wp2_with fail
      refine (CL.out _).mono ?_
      rintro e w1 ⟨rfl, hb1⟩
      have HI1 := Lib.hid (Blk.below HI.out hb1 HI.out.lt)
      have HB1 := Lib.hid (Below.trans0 HB.out hb1)
      clear hb1
      obtain ⟨c0, c1, c2, c3, c4, c5, c6, c7⟩ := blk8 HI1.out
      go_wp2
      go_ret
      exact ⟨ret_int (by simp), HB1.out⟩
  · have e3 : ((o : Int) == 35) = false := ne_beq (by omega)
    have e4 : ((o : Int) == 49) = false := ne_beq (by omega)
    clear e1 e2
    rw [if_neg (fun h => ho1 h.1), if_neg (fun h => ho2 h.1)]
    clear ho1 ho2
    go_enter Tryd.func27, Tryd.ntmps27
    go_wp2_with fail
    refine (CL.out _).mono ?_
    rintro e w1 ⟨rfl, hb1⟩
    have HI1 := Lib.hid (Blk.below HI.out hb1 HI.out.lt)
    have HB1 := Lib.hid (Below.trans0 HB.out hb1)
    clear hb1
    obtain ⟨c0, c1, c2, c3, c4, c5, c6, c7⟩ := blk8 HI1.out
    go_wp2
    go_ret
    exact ⟨ret_int (by simp), HB1.out⟩
end Go.Proofs.YtfkcogccbeolfabDoor
