/- Contracts of the register file's Set, Tfr, Exg, Pair, and of the document's own Get, Set, Tfr, Exg. -/
import Derived.Test.YtfjkbjkbpbnalabDoorFil
import Derived.Maps.AppendAt
namespace Go.Proofs.YtfjkbjkbpbnalabDoor
open Go.ChangeShapes Go.WideShapes Go.ChangeAt Go.RowKit
set_option linter.unusedVariables false

theorem grown_set (w : World) (g i : Nat) (u : Value) : w.grownBy (w.setCell ⟨g, i, none⟩ u) (some g) :=
  ⟨rfl, rfl, rfl, by simp, fun k _ hk => heap_setCell_other w _ k u (fun e => hk (by rw [e]))⟩
theorem grown_same (w : World) (row : Option Nat) : w.grownBy w row := ⟨rfl, rfl, rfl, Nat.le_refl _, fun _ _ _ => rfl⟩
/-- Behind a call that writes into block g alone: other registers stand there. -/
def Put (w w' : World) (g : Nat) (t : TypeId) (r : Rg) : Prop := RgAt w' g t r ∧ w.grownBy w' (some g) ∧ w'.heap.size = w.heap.size
theorem Put.drew {w w' : World} {g : Nat} {t : TypeId} {r : Rg} {n : Nat} (h : Put (w.drewN n) w' g t r) : Put w w' g t r := ⟨h.1, ⟨h.2.1.os, h.2.1.tape, h.2.1.output, h.2.1.size, h.2.1.block⟩, h.2.2⟩
theorem Put.trans {w w1 w2 : World} {g : Nat} {t : TypeId} {r s : Rg} (h : Put w w1 g t r) (h2 : Put w1 w2 g t s) : Put w w2 g t s := ⟨h2.1, h.2.1.trans h2.2.1, h2.2.2.trans h.2.2⟩
theorem Put.below {w w' : World} {g : Nat} {t : TypeId} {r : Rg} (h : Put w w' g t r) {B : Nat} (hB : B ≤ g) (hw : B ≤ w.heap.size) : Below B w w' := Below.grown (Below.refl _ _) h.2.1 hw (fun k hk => by cases hk; exact hB)
set_option maxRecDepth 100000 in
theorem set_any (r : Rg) (hr : r.Ok) (c v : Int) (h0 : 0 ≤ v) (h1 : v < 65536) (w : World) (g : Nat) (t : TypeId) (h : RgAt w g t r) :
    Calls Tryd.prog 65 #[.pointer (some ⟨g, 0, none⟩), .int .i64 c, .int .u16 v] w fun e w' => e = .returned (.bool (isR c)) ∧ Put w w' g t (setR r c v) := by
  obtain ⟨k0, k1, k2, k3, k4, k5, k6, k7, k8⟩ := h.cells
  obtain ⟨f0, f1, f2, f3, f4⟩ : w.frozen? ⟨g, 0, none⟩ = false ∧ w.frozen? ⟨g, 1, none⟩ = false ∧ w.frozen? ⟨g, 2, none⟩ = false ∧ w.frozen? ⟨g, 3, none⟩ = false ∧ w.frozen? ⟨g, 4, none⟩ = false := ⟨h.frozen _, h.frozen _, h.frozen _, h.frozen _, h.frozen _⟩
  obtain ⟨f5, f6, f7, f8⟩ : w.frozen? ⟨g, 5, none⟩ = false ∧ w.frozen? ⟨g, 6, none⟩ = false ∧ w.frozen? ⟨g, 7, none⟩ = false ∧ w.frozen? ⟨g, 8, none⟩ = false := ⟨h.frozen _, h.frozen _, h.frozen _, h.frozen _⟩
  have H := Lib.hid h
  clear h
  rcases code_cases c with rfl | rfl | rfl | rfl | rfl | rfl | rfl | rfl | rfl | rfl | rfl | rfl | hc | hc
  all_goals
    go_enter Tryd.func65, Tryd.ntmps65
    go_wp2_with (first
      | (go_at_call 64; refine (high_any _ _ (by omega) (by omega)).mono ?_; rintro e w' ⟨rfl, rfl⟩)
      | (go_at_call 63; refine (low_any _ _ (by omega) (by omega)).mono ?_; rintro e w' ⟨rfl, rfl⟩))
    go_ret
  · exact ⟨rfl, Blk.set_ (Blk.set_ H.out 0 _) 1 _, (grown_set _ _ _ _).trans (grown_set _ _ _ _), by simp⟩
  · exact ⟨rfl, Blk.set_ H.out 4 _, grown_set _ _ _ _, by simp⟩
  · exact ⟨rfl, Blk.set_ H.out 5 _, grown_set _ _ _ _, by simp⟩
  · exact ⟨rfl, Blk.set_ H.out 6 _, grown_set _ _ _ _, by simp⟩
  · exact ⟨rfl, Blk.set_ H.out 7 _, grown_set _ _ _ _, by simp⟩
  · exact ⟨rfl, Blk.set_ H.out 8 _, grown_set _ _ _ _, by simp⟩
  · exact ⟨rfl, Blk.set_ H.out 0 _, grown_set _ _ _ _, by simp⟩
  · exact ⟨rfl, Blk.set_ H.out 1 _, grown_set _ _ _ _, by simp⟩
  · exact ⟨rfl, Blk.set_ H.out 3 _, grown_set _ _ _ _, by simp⟩
  · exact ⟨rfl, Blk.set_ H.out 2 _, grown_set _ _ _ _, by simp⟩
  · exact ⟨rfl, H.out, grown_same _ _, rfl⟩
  · exact ⟨rfl, H.out, grown_same _ _, rfl⟩
  all_goals
    refine ⟨ret_bool (by unfold isR; simp; omega), ?_, grown_same _ _, rfl⟩
    have e : setR r c v = r := by unfold setR; repeat (rw [if_neg (by omega)])
    rw [e]
    exact H.out
end Go.Proofs.YtfjkbjkbpbnalabDoor
