/- Contracts: the document's own cost of a postbyte, the same of two readings, the chapter's example. -/
import Derived.Test.YtfkcogccbeolfaaDoorPostR
import Derived.Test.YtfkcogccbeolfaaDoorPostS
namespace Go.Proofs.YtfkcogccbeolfaaDoor
open Go.ChangeShapes Go.WideShapes Go.ChangeAt Go.RowKit
set_option linter.unusedVariables false

theorem poK_lt (b : Nat) (hb : b < 256) : poK b < 14 := by
  have h : ((List.range 256).all fun b => Nat.blt (poK b) 14) = true := by decide +kernel
  have := allB 256 _ h b hb
  simpa [Nat.blt_eq] using this
set_option maxRecDepth 100000 in
theorem refExtra_any (b : Nat) (hb : b < 256) (w : World) :
    Calls Tryd.prog 34 #[.agg (refP b)] w fun e w' => e = .returned (.int .i64 (poExtra (poK b) (poI b) : Int)) ∧ Below w.heap.size w w' := by
  obtain ⟨p1, p2, p3⟩ := poIdle_fin ⟨poK b, poK_lt b hb⟩
  simp only at p1 p2 p3
  unfold refP poExtra
  obtain ⟨x, hx⟩ : ∃ x, poBytes (poK b) = x := ⟨_, rfl⟩
  obtain ⟨y, hy⟩ : ∃ y, poIdle (poK b) = y := ⟨_, rfl⟩
  rw [hx] at p3 ⊢
  rw [hy] at p1 p2 ⊢
  cases hd : poI b
  all_goals
    clear hx hy hd
    go_enter Tryd.func34, Tryd.ntmps34
    go_wp2
    go_ret
    refine ⟨ret_int ?_, Below.alloc0 (Below.refl _ _) _⟩
    try simp only [if_true, if_false, Bool.false_eq_true]
    first | omega | (push_cast; omega) | (simp; omega)
set_option maxRecDepth 100000 in
set_option maxHeartbeats 1000000 in
theorem same_any (k r o : Int) (d : Bool) (b : Nat) (hb : b < 256) (h0 : 0 ≤ o) (h1 : o < 65536) (w : World) :
    Calls Tryd.prog 30 #[.agg #[.int .i64 k, .int .i64 r, .int .u16 o, .bool d], .agg (refP b)] w fun e w' => e = .returned (.bool (hitQ k r o d b)) ∧ Below w.heap.size w w' := by
  unfold refP hitQ
  generalize poBytes (poK b) = x
  generalize poIdle (poK b) = y
  generalize poK b = k'
  generalize poR b = r'
  generalize poO b = o'
  generalize poI b = d'
  go_enter Tryd.func30, Tryd.ntmps30
  go_wp2
  all_goals
    go_ret
    refine ⟨ret_bool ?_, by repeat (first | exact Below.refl _ _ | apply Below.alloc0)⟩
    simp_all
theorem alive15 (w : World) (hT : KindsAt w) : Calls Tryd.prog 35 #[] w fun e w' => e = .returned (.bool true) ∧ Below w.heap.size w w' := by
  have q1 : poK 159 = 13 := by decide +kernel
  have q2 : poR 159 = 0 := by decide +kernel
  have q3 : poO 159 = 0 := by decide +kernel
  have q4 : poI 159 = true := by decide +kernel
  have c := of_any 159 (by omega) w hT
  rw [q1, q2, q3, q4] at c
  have C := Lib.hid c
  clear c q1 q2 q3 q4
  go_enter Tryd.func35, Tryd.ntmps35
  go_wp2_with fail
  refine C.out.mono ?_
  rintro e w1 ⟨rfl, hb1⟩
  go_wp2
  go_ret
  exact ⟨rfl, hb1⟩
theorem KindsAt.lt {w : World} (h : KindsAt w) : 2 < w.heap.size := cell_lt (h 0 (by decide))
theorem KindsAt.below {w w' : World} (h : KindsAt w) (hb : Below w.heap.size w w') : KindsAt w' := fun k hk => (hb.cell (p := ⟨2, k, none⟩) h.lt).trans (h k hk)
end Go.Proofs.YtfkcogccbeolfaaDoor
