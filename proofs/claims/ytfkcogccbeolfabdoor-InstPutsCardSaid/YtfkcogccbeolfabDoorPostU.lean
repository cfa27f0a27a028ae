/- Contracts: the document's own cost of a postbyte, the same of two readings, the chapter's example. -/
import Derived.Test.YtfkcogccbeolfabDoorPostR
import Derived.Test.YtfkcogccbeolfabDoorPostS
namespace Go.Proofs.YtfkcogccbeolfabDoor
open Go.ChangeShapes Go.WideShapes Go.ChangeAt Go.RowKit
set_option linter.unusedVariables false

theorem poK_lt (b : Nat) (hb : b < 256) : poK b < 14 := by
  have h : ((List.range 256).all fun b => Nat.blt (poK b) 14) = true := by decide +kernel
  have := allB 256 _ h b hb
  simpa [Nat.blt_eq] using this
set_option maxRecDepth 100000 in
theorem refExtra_any (b : Nat) (hb : b < 256) (w : World) :
    Calls Tryd.prog 47 #[.agg (refP b)] w fun e w' => e = .returned (.int .i64 (poExtra (poK b) (poI b) : Int)) ∧ Below w.heap.size w w' := by
  obtain ⟨p1, p2, p3⟩ := poIdle_fin ⟨poK b, poK_lt b hb⟩
  simp only at p1 p2 p3
  unfold refP poExtra
  obtain ⟨x, hx⟩ : ∃ x, poBytes (poK b) = x := ⟨_, rfl⟩
  obtain ⟨y, hy⟩ : ∃ y, poIdle (poK b) = y := ⟨_, rfl⟩
  rw [hx] at p3 ⊢
  rw [hy] at p1 p2 ⊢
  cases hd : poI b
  all_goals
    clear hx hy hd
    go_enter Tryd.func47, Tryd.ntmps47
    go_wp2
    go_ret
    refine ⟨ret_int ?_, Below.alloc0 (Below.refl _ _) _⟩
    try simp only [if_true, if_false, Bool.false_eq_true]
    first | omega | (push_cast; omega) | (simp; omega)
end Go.Proofs.YtfkcogccbeolfabDoor
