/- Contracts of the calls of package phase that make rows of cycles. (Made by tools/genrows.py.) -/
import Derived.Test.YtkdekhcnamkcgabDoorPhs
import Derived.Test.YtkdekhcnamkcgabDoorRwN
namespace Go.Proofs.YtkdekhcnamkcgabDoor
open Go.ChangeShapes Go.WideShapes Go.ChangeAt Go.RowKit
set_option linter.unusedVariables false

theorem ne_beqR {o k : Int} (h : ¬ o = k) : (o == k) = false := by simpa using h
/-- A call's answer: a slice that reads as these cycles. -/
def GivesR (w : World) (l : List Stp) (e : Ending) (w' : World) : Prop := ∃ v, e = .returned v ∧ Rd w' v l ∧ Below w.heap.size w w'
theorem Rd.isSl {w : World} {v : Value} {l : List Stp} (h : Rd w v l) : ∃ A n c, v = .slice A n c := by
  rcases h with ⟨rfl, _⟩ | ⟨ad, c, rfl, _⟩
  · exact ⟨_, _, _, rfl⟩
  · exact ⟨_, _, _, rfl⟩
theorem some_st (k n : Int) (N : Nat) (h : n = N) (hN : N ≤ 1000) (w : World) : Calls Tryd.prog 24 #[.int .i64 k, .int .i64 n] w (GivesR w (someL k N)) := by
  have e : someN n = N := by unfold someN; omega
  rw [← e]
  exact some_any k n w
theorem firstP_st (k : Int) (w : World) : Calls Tryd.prog 52 #[.int .i64 k] w (GivesR w (firstL k)) := firstP_any k w
theorem RdL.lit (w : World) (vs : Array Value) (ls : List (List Stp)) (n : Nat) (hl : ls.length = n) (h : ∀ i, i < n → ∃ v, vs[i]? = some v ∧ Rd w v (ls.getD i [])) :
    RdL (w.alloc (.cells vs 31)) (some ⟨w.heap.size, 0, none⟩) n ls := by
  refine ⟨hl, fun _ => ⟨w.heap.size, 0, rfl, by simp, fun i hi => ?_⟩⟩
  obtain ⟨v, h1, h2⟩ := h i hi
  exact ⟨v, by rw [Nat.zero_add, (Blk.new w 31 vs (0, 0)).cell]; exact h1, h2.alloc _⟩
theorem row2_any (v1 v2 : Value) (l1 l2 : List Stp) (w : World) (h1 : Rd w v1 l1) (h2 : Rd w v2 l2) (ht : [l1, l2].flatten.length ≤ 1099511627776) :
    Calls Tryd.prog 23 #[.slice (some ⟨w.heap.size, 0, none⟩) 2 2] (w.alloc (.cells #[v1, v2] 31)) (GivesR w [l1, l2].flatten) := by
  refine (rowP_any _ 2 2 [l1, l2] _ (RdL.lit w #[v1, v2] [l1, l2] 2 rfl (fun i hi => ?_)) (by decide) ht).mono ?_
  · rcases (show i = 0 ∨ i = 1 by omega) with rfl | rfl
    · exact ⟨v1, rfl, h1⟩
    · exact ⟨v2, rfl, h2⟩
  · rintro e w' ⟨v, rfl, hs, hb⟩
    exact ⟨v, rfl, hs.rd, (Below.alloc0 (Below.refl w.heap.size w) _).trans (hb.mono (by simp))⟩
theorem row3_any (v1 v2 v3 : Value) (l1 l2 l3 : List Stp) (w : World) (h1 : Rd w v1 l1) (h2 : Rd w v2 l2) (h3 : Rd w v3 l3) (ht : [l1, l2, l3].flatten.length ≤ 1099511627776) :
    Calls Tryd.prog 23 #[.slice (some ⟨w.heap.size, 0, none⟩) 3 3] (w.alloc (.cells #[v1, v2, v3] 31)) (GivesR w [l1, l2, l3].flatten) := by
  refine (rowP_any _ 3 3 [l1, l2, l3] _ (RdL.lit w #[v1, v2, v3] [l1, l2, l3] 3 rfl (fun i hi => ?_)) (by decide) ht).mono ?_
  · rcases (show i = 0 ∨ i = 1 ∨ i = 2 by omega) with rfl | rfl | rfl
    · exact ⟨v1, rfl, h1⟩
    · exact ⟨v2, rfl, h2⟩
    · exact ⟨v3, rfl, h3⟩
  · rintro e w' ⟨v, rfl, hs, hb⟩
    exact ⟨v, rfl, hs.rd, (Below.alloc0 (Below.refl w.heap.size w) _).trans (hb.mono (by simp))⟩
theorem row4_any (v1 v2 v3 v4 : Value) (l1 l2 l3 l4 : List Stp) (w : World) (h1 : Rd w v1 l1) (h2 : Rd w v2 l2) (h3 : Rd w v3 l3) (h4 : Rd w v4 l4) (ht : [l1, l2, l3, l4].flatten.length ≤ 1099511627776) :
    Calls Tryd.prog 23 #[.slice (some ⟨w.heap.size, 0, none⟩) 4 4] (w.alloc (.cells #[v1, v2, v3, v4] 31)) (GivesR w [l1, l2, l3, l4].flatten) := by
  refine (rowP_any _ 4 4 [l1, l2, l3, l4] _ (RdL.lit w #[v1, v2, v3, v4] [l1, l2, l3, l4] 4 rfl (fun i hi => ?_)) (by decide) ht).mono ?_
  · rcases (show i = 0 ∨ i = 1 ∨ i = 2 ∨ i = 3 by omega) with rfl | rfl | rfl | rfl
    · exact ⟨v1, rfl, h1⟩
    · exact ⟨v2, rfl, h2⟩
    · exact ⟨v3, rfl, h3⟩
    · exact ⟨v4, rfl, h4⟩
  · rintro e w' ⟨v, rfl, hs, hb⟩
    exact ⟨v, rfl, hs.rd, (Below.alloc0 (Below.refl w.heap.size w) _).trans (hb.mono (by simp))⟩
set_option maxRecDepth 100000 in
set_option maxHeartbeats 1000000 in
theorem ahead_st (m : Int) (w : World) : Calls Tryd.prog 25 #[.int .i64 m] w (GivesR w (aheadL m)) := by
  rcases (show m = 1 ∨ m = 4 ∨ m = 6 ∨ m = 8 ∨ m = 9 ∨ m = 2 ∨ m = 7 ∨ m = 3 ∨ m = 5 ∨ (¬ m = 1 ∧ ¬ m = 2 ∧ ¬ m = 3 ∧ ¬ m = 4 ∧ ¬ m = 5 ∧ ¬ m = 6 ∧ ¬ m = 7 ∧ ¬ m = 8 ∧ ¬ m = 9) by omega) with rfl | rfl | rfl | rfl | rfl | rfl | rfl | rfl | rfl | ⟨h1, h2, h3, h4, h5, h6, h7, h8, h9⟩
  · go_enter Tryd.func25, Tryd.ntmps25
    have B0 := Lib.hid (Below.refl w.heap.size w)
    go_wp2_with fail
    refine (some_st 2 1 1 rfl (by decide) _).mono ?_
    rintro e w1 ⟨v1, rfl, hr1, hb1⟩
    obtain ⟨A1, n1, c1, rfl⟩ := hr1.isSl
    have R1 := Lib.hid hr1
    have B1 := Lib.hid (Below.trans0 B0.out hb1)
    clear hr1 hb1
    go_wp2
    go_ret
    exact ⟨_, rfl, R1.out, B1.out⟩
  · go_enter Tryd.func25, Tryd.ntmps25
    have B0 := Lib.hid (Below.refl w.heap.size w)
    go_wp2_with fail
    refine (some_st 2 1 1 rfl (by decide) _).mono ?_
    rintro e w1 ⟨v1, rfl, hr1, hb1⟩
    obtain ⟨A1, n1, c1, rfl⟩ := hr1.isSl
    have R1 := Lib.hid hr1
    have B1 := Lib.hid (Below.trans0 B0.out hb1)
    clear hr1 hb1
    go_wp2
    go_ret
    exact ⟨_, rfl, R1.out, B1.out⟩
  · go_enter Tryd.func25, Tryd.ntmps25
    have B0 := Lib.hid (Below.refl w.heap.size w)
    go_wp2_with fail
    refine (some_st 2 1 1 rfl (by decide) _).mono ?_
    rintro e w1 ⟨v1, rfl, hr1, hb1⟩
    obtain ⟨A1, n1, c1, rfl⟩ := hr1.isSl
    have R1 := Lib.hid hr1
    have B1 := Lib.hid (Below.trans0 B0.out hb1)
    clear hr1 hb1
    go_wp2
    go_ret
    exact ⟨_, rfl, R1.out, B1.out⟩
  · go_enter Tryd.func25, Tryd.ntmps25
    have B0 := Lib.hid (Below.refl w.heap.size w)
    go_wp2_with fail
    refine (some_st 2 1 1 rfl (by decide) _).mono ?_
    rintro e w1 ⟨v1, rfl, hr1, hb1⟩
    obtain ⟨A1, n1, c1, rfl⟩ := hr1.isSl
    have R1 := Lib.hid hr1
    have B1 := Lib.hid (Below.trans0 B0.out hb1)
    clear hr1 hb1
    go_wp2
    go_ret
    exact ⟨_, rfl, R1.out, B1.out⟩
  · go_enter Tryd.func25, Tryd.ntmps25
    have B0 := Lib.hid (Below.refl w.heap.size w)
    go_wp2_with fail
    refine (some_st 2 1 1 rfl (by decide) _).mono ?_
    rintro e w1 ⟨v1, rfl, hr1, hb1⟩
    obtain ⟨A1, n1, c1, rfl⟩ := hr1.isSl
    have R1 := Lib.hid hr1
    have B1 := Lib.hid (Below.trans0 B0.out hb1)
    clear hr1 hb1
    go_wp2
    go_ret
    exact ⟨_, rfl, R1.out, B1.out⟩
  · go_enter Tryd.func25, Tryd.ntmps25
    have B0 := Lib.hid (Below.refl w.heap.size w)
    go_wp2_with fail
    refine (some_st 2 2 2 rfl (by decide) _).mono ?_
    rintro e w1 ⟨v1, rfl, hr1, hb1⟩
    obtain ⟨A1, n1, c1, rfl⟩ := hr1.isSl
    have R1 := Lib.hid hr1
    have B1 := Lib.hid (Below.trans0 B0.out hb1)
    clear hr1 hb1
    go_wp2
    go_ret
    exact ⟨_, rfl, R1.out, B1.out⟩
  · go_enter Tryd.func25, Tryd.ntmps25
    have B0 := Lib.hid (Below.refl w.heap.size w)
    go_wp2_with fail
    refine (some_st 2 2 2 rfl (by decide) _).mono ?_
    rintro e w1 ⟨v1, rfl, hr1, hb1⟩
    obtain ⟨A1, n1, c1, rfl⟩ := hr1.isSl
    have R1 := Lib.hid hr1
    have B1 := Lib.hid (Below.trans0 B0.out hb1)
    clear hr1 hb1
    go_wp2
    go_ret
    exact ⟨_, rfl, R1.out, B1.out⟩
  · go_enter Tryd.func25, Tryd.ntmps25
    have B0 := Lib.hid (Below.refl w.heap.size w)
    go_wp2_with fail
    refine (some_st 2 1 1 rfl (by decide) _).mono ?_
    rintro e w1 ⟨v1, rfl, hr1, hb1⟩
    obtain ⟨A1, n1, c1, rfl⟩ := hr1.isSl
    have R1 := Lib.hid hr1
    have B1 := Lib.hid (Below.trans0 B0.out hb1)
    clear hr1 hb1
    go_wp2_with fail
    refine (some_st 4 1 1 rfl (by decide) _).mono ?_
    rintro e w2 ⟨v2, rfl, hr2, hb2⟩
    obtain ⟨A2, n2, c2, rfl⟩ := hr2.isSl
    replace R1 := Lib.hid (R1.out.below hb2)
    have R2 := Lib.hid hr2
    have B2 := Lib.hid (Below.trans0 B1.out hb2)
    clear hr2 hb2
    go_wp2_with fail
    refine (row2_any _ _ _ _ _ R1.out R2.out (by decide)).mono ?_
    rintro e w3 ⟨v3, rfl, hr3, hb3⟩
    go_wp2
    go_ret
    exact ⟨_, rfl, hr3, Below.trans0 B2.out hb3⟩
  · go_enter Tryd.func25, Tryd.ntmps25
    have B0 := Lib.hid (Below.refl w.heap.size w)
    go_wp2_with fail
    refine (some_st 2 2 2 rfl (by decide) _).mono ?_
    rintro e w1 ⟨v1, rfl, hr1, hb1⟩
    obtain ⟨A1, n1, c1, rfl⟩ := hr1.isSl
    have R1 := Lib.hid hr1
    have B1 := Lib.hid (Below.trans0 B0.out hb1)
    clear hr1 hb1
    go_wp2_with fail
    refine (some_st 4 1 1 rfl (by decide) _).mono ?_
    rintro e w2 ⟨v2, rfl, hr2, hb2⟩
    obtain ⟨A2, n2, c2, rfl⟩ := hr2.isSl
    replace R1 := Lib.hid (R1.out.below hb2)
    have R2 := Lib.hid hr2
    have B2 := Lib.hid (Below.trans0 B1.out hb2)
    clear hr2 hb2
    go_wp2_with fail
    refine (row2_any _ _ _ _ _ R1.out R2.out (by decide)).mono ?_
    rintro e w3 ⟨v3, rfl, hr3, hb3⟩
    go_wp2
    go_ret
    exact ⟨_, rfl, hr3, Below.trans0 B2.out hb3⟩
  · have hz : aheadL m = [] := by unfold aheadL; repeat (rw [if_neg (by omega)])
    rw [hz]
    have e1 : (m == 1) = false := ne_beqR h1
    have e2 : (m == 2) = false := ne_beqR h2
    have e3 : (m == 3) = false := ne_beqR h3
    have e4 : (m == 4) = false := ne_beqR h4
    have e5 : (m == 5) = false := ne_beqR h5
    have e6 : (m == 6) = false := ne_beqR h6
    have e7 : (m == 7) = false := ne_beqR h7
    have e8 : (m == 8) = false := ne_beqR h8
    have e9 : (m == 9) = false := ne_beqR h9
    clear hz h1 h2 h3 h4 h5 h6 h7 h8 h9
    go_enter Tryd.func25, Tryd.ntmps25
    have B0 := Lib.hid (Below.refl w.heap.size w)
    go_wp2
    go_ret
    exact ⟨_, rfl, .inl ⟨rfl, rfl⟩, Below.refl _ _⟩
end Go.Proofs.YtkdekhcnamkcgabDoor
