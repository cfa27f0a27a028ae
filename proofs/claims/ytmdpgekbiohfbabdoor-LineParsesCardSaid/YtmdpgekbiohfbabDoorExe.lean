/- Contracts of package expr: Eval, Const; the chapter's example. -/
import Derived.Test.YtmdpgekbiohfbabDoorExs
namespace Go.Proofs.YtmdpgekbiohfbabDoor
open Go.ChangeShapes Go.WideShapes Go.ChangeAt Go.RowKit
set_option linter.unusedVariables false

theorem below_onB {w w1 w2 : World} {g : Nat} (h : Below w.heap.size w w1) (hg : w.heap.size ≤ g) (h2 : OnB g w1 w2) : Below w.heap.size w w2 :=
  h.grown h2.1 h.size (fun j e => by injection e with e; subst e; exact hg)
/-- What Const says of a sum: its value, if there is no error and the address is not asked for. -/
def constV (R : Int × Int × Bool × Bool) : Int := if R.2.1 = 0 ∧ R.2.2.1 = false then R.1 else 0
def constB (R : Int × Int × Bool × Bool) : Bool := decide (R.2.1 = 0) && !R.2.2.1
set_option maxRecDepth 100000 in
set_option maxHeartbeats 2000000 in
theorem exConst_any (w : World) (S : ByteArray) (hs : S.size ≤ 1099511627776) :
    Calls Tryd.prog 104 #[.string S] w fun e w' => Below w.heap.size w w' ∧ e = .returned (.tuple #[.int .u16 (constV (evalE 0 (lookL look0) (nums S))), .bool (constB (evalE 0 (lookL look0) (nums S)))]) := by
  have CS := Lib.hid (fun u g gt B (hT : ∀ v, OnB g u v → Tab v B gt 0 look0) (hu : RdX u g S 0 (some ⟨gt, 0, none⟩) false) => exSum_any u g B gt 0 look0 hT S 0 (by decide) false hu hs)
  obtain ⟨R, hR⟩ : ∃ R, evalE 0 (lookL look0) (nums S) = R := ⟨_, rfl⟩
  rw [hR] at CS ⊢
  clear hR
  have HV : Hid (∃ V, constV R = V) := Lib.hid ⟨_, rfl⟩
  have HB : Hid (∃ V, constB R = V) := Lib.hid ⟨_, rfl⟩
  obtain ⟨V, hV⟩ := HV.out
  obtain ⟨C, hC⟩ := HB.out
  rw [hV, hC]
  obtain ⟨v, x, st, nm⟩ := R
  unfold constV at hV
  unfold constB at hC
  dsimp only at CS hV hC
  have HVC := Lib.hid (And.intro hV hC)
  clear hV hC HV HB
  go_enter Tryd.func104, Tryd.ntmps104
  go_wp2_with fail
  have HT : Hid (Tab (w.alloc (.cells #[.map none] 182)) w.heap.size w.heap.size 0 look0) := Lib.hid (Tab.new w w.heap.size (Nat.le_refl _))
  refine (CS.out _ (w.heap.size + 1) w.heap.size w.heap.size (fun u hu => HT.out.keep (fun b hb _ => by rw [hu.1.block b (by simp at hb ⊢; omega) (by intro e; injection e with e; simp at hb; omega)]; exact Below.heap_alloc _ _ b hb)) ?_).mono ?_
  · exact Eq.subst (motive := fun k => Blk _ k _ _) (by simp) (Blk.new (w.alloc (.cells #[.map none] 182)) 184 _ (0, 0))
  rintro e w2 ⟨rfl, ho, S', hr⟩
  have HB := Lib.hid (below_onB (Below.alloc0 (Below.alloc0 (Below.refl _ _) _) _) (Nat.le_succ _) ho)
  have c3 := hr.c.2.2.2
  rw [Bool.false_or] at c3
  clear ho hr
  by_cases hx : x = 0
  · subst hx
    cases st
    · have e1 : v = V := by simpa using HVC.out.1
      have e2 : C = true := by simpa using HVC.out.2.symm
      subst e1
      subst e2
      clear HVC
      go_wp2
      go_ret2
      exact ⟨HB.out, rfl⟩
    · have e1 : V = 0 := by simpa using HVC.out.1.symm
      have e2 : C = false := by simpa using HVC.out.2.symm
      subst e1
      subst e2
      clear HVC
      go_wp2
      go_ret2
      exact ⟨HB.out, rfl⟩
  · have hx' : (x != 0) = true := by simpa using hx
    have e1 : V = 0 := by rw [← HVC.out.1, if_neg (fun h => hx h.1)]
    have e2 : C = false := by rw [← HVC.out.2, decide_eq_false hx]; rfl
    subst e1
    subst e2
    clear hx HVC
    go_wp2
    go_ret2
    exact ⟨HB.out, rfl⟩
end Go.Proofs.YtmdpgekbiohfbabDoor
