/- Package dis: is an instruction sure; the document's. -/
import Derived.Test.YtljhfalgplihhaaGreatDoorGTbl
import Derived.Test.YtljhfalgplihhaaGreatDoorInsW
namespace Go.Proofs.YtljhfalgplihhaaGreatDoor
open Go.ChangeShapes Go.WideShapes Go.ChangeAt Go.RowKit
set_option linter.unusedVariables false
def surB (b : Nat) : Bool := (codeB b : Int) == (b : Int)
def surI (o m : Int) (b : Nat) : Bool := !(o == 0) && (!(m == 4) || surB b)
def surR (n g b : Nat) : Bool := !(Nat.beq n 7 || Nat.beq n 10 || Nat.beq n 14 || ((Nat.beq n 12 || Nat.beq n 13) && Nat.blt 0 g)) && (!Nat.beq n 15 || Nat.beq b 159)
theorem sur_fin : ((List.range 256).all fun b => Nat.blt (codeB b) 256 && (Nat.beq (codeB b) b == (Nat.blt b 128 || surR (b % 16) (b / 32 % 4) b))) = true := by decide +kernel
theorem sur_at (b : Nat) (hb : b < 256) : codeB b < 256 ∧ Nat.beq (codeB b) b = (Nat.blt b 128 || surR (b % 16) (b / 32 % 4) b) := by
  have := allB 256 _ sur_fin b hb
  rw [Bool.and_eq_true] at this
  exact ⟨Nat.le_of_ble_eq_true this.1, by simpa using this.2⟩
theorem codeL_B (b : Nat) : codeL (poK b) (poR b) (poO b) (poI b) = codeB b := by
  rw [← code_same]
  unfold codeQ codeB
  rw [hitQ_self, fnd_congr (hitQ_self b)]
  cases Nat.beq (poT b) (poT 159) <;> rfl
set_option maxHeartbeats 1000000 in
theorem disSure_any (p c o m r v l : Int) (b : Nat) (hb : b < 256) (w : World) (hK : KindsAt w) :
    Calls Tryz.prog 49 #[.agg (iC p c o m r (b : Int) v l)] w fun e w' => e = .returned (.bool (surI o m b)) ∧ Below w.heap.size w w' := by
  have HB0 := Lib.hid (Below.alloc0 (Below.refl w.heap.size w) (Obj.cells (iC p c o m r (b : Int) v l) 37))
  have HI0 := Lib.hid (Blk.new w 37 (iC p c o m r (b : Int) v l) (0, 0))
  have HKx := Lib.hid (fun wx (hb : Below w.heap.size w wx) => kinds_below hK hb)
  have C1 := Lib.hid (fun u h => of_any b hb u h)
  have C2 := fun u h => code_any (poK b) (poR b) (poO b) (poI b) u h
  rw [codeL_B] at C2
  have hlt := (sur_at b hb).1
  rw [show codeV (codeB b) = (codeB b : Int) from if_pos hlt, decide_eq_true hlt] at C2
  have HC2 := Lib.hid C2
  unfold surI surB
  clear C2 hlt hK
  generalize (poK b : Int) = k1 at C1 HC2
  generalize (poR b : Int) = r1 at C1 HC2
  generalize (poO b : Int) = o1 at C1 HC2
  generalize poI b = d1 at C1 HC2
  generalize (codeB b : Int) = q at HC2 ⊢
  by_cases h0 : o = 0
  · subst h0
    go_enter Tryz.func49, Tryz.ntmps49
    go_wp2
    go_ret
    exact ⟨rfl, HB0.out⟩
  have e0 := ne_beq h0
  clear h0
  rw [e0]
  by_cases h4 : m = 4
  · subst h4
    go_enter Tryz.func49, Tryz.ntmps49
    go_wp2_with fail
    refine (C1.out _ (HKx.out _ HB0.out)).mono ?_
    rintro e w1 ⟨rfl, hb1⟩
    have HB1 := Lib.hid (Below.trans0 HB0.out hb1)
    have HI1 := Lib.hid (Blk.below HI0.out hb1 (by simp))
    clear hb1
    go_wp2_with fail
    refine (HC2.out _ (HKx.out _ HB1.out)).mono ?_
    rintro e w2 ⟨rfl, hb2⟩
    have HB2 := Lib.hid (Below.trans0 HB1.out hb2)
    have HI2 := Lib.hid (Blk.below HI1.out hb2 HI1.out.lt)
    clear hb2
    obtain ⟨c0, c1, c2, c3, c4, c5, c6, c7⟩ := HI2.out.s8
    go_wp2
    go_ret
    exact ⟨rfl, HB2.out⟩
  · have e4 := ne_beq h4
    clear h4
    rw [e4]
    go_enter Tryz.func49, Tryz.ntmps49
    go_wp2
    go_ret
    exact ⟨rfl, HB0.out⟩
set_option maxHeartbeats 2000000 in
set_option maxRecDepth 100000 in
theorem refSure42_any (p c o m r v l : Int) (b : Nat) (hb : b < 256) (w : World) :
    Calls Tryz.prog 17 #[.agg (iC p c o m r (b : Int) v l)] w fun e w' => e = .returned (.bool (surI o m b)) ∧ Below w.heap.size w w' := by
  have HB0 := Lib.hid (Below.alloc0 (Below.refl w.heap.size w) (Obj.cells (iC p c o m r (b : Int) v l) 37))
  have HI0 := Lib.hid (Blk.new w 37 (iC p c o m r (b : Int) v l) (0, 0))
  have hq := (sur_at b hb).2
  have hS : surB b = (Nat.blt b 128 || surR (b % 16) (b / 32 % 4) b) := by
    rw [← hq]
    unfold surB
    by_cases h : codeB b = b
    · rw [h]; simp
    · rw [show Nat.beq (codeB b) b = false from by rw [Bool.eq_false_iff]; intro h2; exact h (Nat.eq_of_beq_eq_true h2)]
      exact ne_beq (by omega)
  unfold surI
  rw [hS]
  clear hS hq
  by_cases h0 : o = 0
  · subst h0
    go_enter Tryz.func17, Tryz.ntmps17
    go_wp2
    go_ret
    exact ⟨rfl, HB0.out⟩
  have e0 := ne_beq h0
  clear h0
  rw [e0]
  by_cases h4 : m = 4
  · subst h4
    by_cases h128 : b < 128
    · have hl : Nat.blt b 128 = true := Nat.ble_eq_true_of_le h128
      have h128' : (b : Int) < 128 := by omega
      rw [hl]
      go_enter Tryz.func17, Tryz.ntmps17
      go_wp2
      go_ret
      exact ⟨rfl, HB0.out⟩
    · have hl : Nat.blt b 128 = false := by rw [Bool.eq_false_iff]; intro h; exact h128 (Nat.le_of_ble_eq_true h)
      rw [hl]
      have h128' : ¬ (b : Int) < 128 := by omega
      obtain ⟨n, hn⟩ : ∃ n, b % 16 = n := ⟨_, rfl⟩
      obtain ⟨g, hg⟩ : ∃ g, b / 32 % 4 = g := ⟨_, rfl⟩
      have hn16 : n < 16 := by omega
      have hni : (b : Int) % 16 = (n : Int) := by omega
      have hgi : (b : Int) / 32 % 4 = (g : Int) := by omega
      rw [hn, hg]
      unfold surR
      go_enter Tryz.func17, Tryz.ntmps17
      go_upto_region 5 with (fail)
      go_quiet (fail)
      go_upto_region 6 with (fail)
      rw [hni, hgi]
      have hb9 : ((b : Int) == 159) = Nat.beq b 159 := by
        by_cases h : b = 159
        · subst h; rfl
        · rw [ne_beq (by omega), eq_comm, Bool.eq_false_iff]; intro h2; exact h (Nat.eq_of_beq_eq_true h2)
      clear hn hg hni hgi hl
      rcases (show n = 0 ∨ n = 1 ∨ n = 2 ∨ n = 3 ∨ n = 4 ∨ n = 5 ∨ n = 6 ∨ n = 7 ∨ n = 8 ∨ n = 9 ∨ n = 10 ∨ n = 11 ∨ n = 12 ∨ n = 13 ∨ n = 14 ∨ n = 15 by omega) with rfl | rfl | rfl | rfl | rfl | rfl | rfl | rfl | rfl | rfl | rfl | rfl | rfl | rfl | rfl | rfl
      all_goals
        rcases Nat.eq_zero_or_pos g with rfl | hgp
        · go_wp2
          go_ret
          exact ⟨by first | rfl | (rw [hb9]; rfl) | simp [hb9], Below.drewN0 HB0.out _⟩
        · have hgb : Nat.blt 0 g = true := Nat.ble_eq_true_of_le hgp
          have hgi : 0 < (g : Int) := by omega
          go_wp2
          go_ret
          exact ⟨by first | rfl | (rw [hgb]; rfl) | (rw [hb9]; rfl) | simp [hb9, hgb], Below.drewN0 HB0.out _⟩
  · have e4 := ne_beq h4
    have e4' : (m != 4) = true := by simp [bne, e4]
    rw [e4]
    go_enter Tryz.func17, Tryz.ntmps17
    go_wp2
    go_ret
    exact ⟨rfl, HB0.out⟩
end Go.Proofs.YtljhfalgplihhaaGreatDoor
