/- The law of package prof: which count is ahead; a row of counts with a part more. -/
import Derived.Test.YtlgaedhbgkhmeaaPfS
import Derived.Test.YtlgaedhbgkhmeaaPfP
import Derived.Deep.CutBlock
import Derived.Deep.DeepCutAuto
namespace Go.Proofs.Ytlgaedhbgkhmeaa
open Go.ChangeShapes Go.WideShapes Go.ChangeAt Go.RowKit
set_option linter.unusedVariables false
set_option maxRecDepth 100000 in
set_option maxHeartbeats 2000000 in
theorem lwBefore_any (x y : SpN) (w : World) : Calls Try.prog 6 #[.agg #[.int .u16 x.a, .int .i64 x.t, .int .i64 x.c, .int .i64 x.l], .agg #[.int .u16 y.a, .int .i64 y.t, .int .i64 y.c, .int .i64 y.l]] w fun e w' => e = .returned (.bool (befN x y)) ∧ Below w.heap.size w w' := by
  have H0 : befN x y = (decide (x.c > y.c) || (decide (x.c = y.c) && decide (x.a < y.a))) := rfl
  obtain ⟨a, t, c, l⟩ := x
  obtain ⟨b, u, d, m⟩ := y
  rw [H0]
  simp only at *
  clear H0
  have HB := Lib.hid (Below.alloc0 (Below.alloc0 (Below.refl w.heap.size w) (Obj.cells #[.int .u16 a, .int .i64 t, .int .i64 c, .int .i64 l] 35)) (Obj.cells #[.int .u16 b, .int .i64 u, .int .i64 d, .int .i64 m] 35))
  by_cases h1 : c > d
  · have e1 : decide (d < c) = true := decide_eq_true h1
    have e2 : (decide (c > d) || (decide (c = d) && decide (a < b))) = true := by rw [decide_eq_true h1]; rfl
    rw [e2]
    clear e2
    go_enter Try.func6, Try.ntmps6
    go_wp2
    go_ret
    exact ⟨rfl, HB.out⟩
  · have e1 : decide (d < c) = false := decide_eq_false h1
    by_cases h2 : c = d
    · subst h2
      by_cases h3 : a < b
      · have e2 : (decide (c > c) || (decide (c = c) && decide (a < b))) = true := by rw [decide_eq_true h3]; simp
        rw [e2]
        clear e2
        have e4 : decide (a < b) = true := decide_eq_true h3
        go_enter Try.func6, Try.ntmps6
        go_wp2
        go_ret
        exact ⟨rfl, HB.out⟩
      · have e2 : (decide (c > c) || (decide (c = c) && decide (a < b))) = false := by rw [decide_eq_false h3]; simp
        rw [e2]
        clear e2
        have e4 : decide (a < b) = false := decide_eq_false h3
        go_enter Try.func6, Try.ntmps6
        go_wp2
        go_ret
        exact ⟨rfl, HB.out⟩
    · have e2 : (decide (c > d) || (decide (c = d) && decide (a < b))) = false := by rw [decide_eq_false h1, decide_eq_false h2]; rfl
      rw [e2]
      clear e2
      have e5 : (c == d) = false := by simpa using h2
      go_enter Try.func6, Try.ntmps6
      go_wp2
      go_ret
      exact ⟨rfl, HB.out⟩
end Go.Proofs.Ytlgaedhbgkhmeaa
