/- Two registers of one width, exchanged twice: as numbers. No program in sight. -/
import Derived.Test.YtfkcogccbeolfaaFil
namespace Go.Proofs.Ytfkcogccbeolfaa
open Go.ChangeShapes Go.WideShapes Go.ChangeAt Go.RowKit
set_option linter.unusedVariables false

def exg2 (r : Rg) (a b : Int) : Rg := setR (setR r b (getR r a)) a (getR r b)
def wide2 (a b : Int) : Prop := (0 ≤ a ∧ a ≤ 5 ∧ 0 ≤ b ∧ b ≤ 5) ∨ (8 ≤ a ∧ a ≤ 11 ∧ 8 ≤ b ∧ b ≤ 11)
theorem getR0 (r : Rg) : getR r 0 = 256 * r.A + r.B := rfl
set_option maxHeartbeats 4000000 in
theorem exg_twice (r : Rg) (hr : r.Ok) (a b : Int) (h : wide2 a b) : exg2 (exg2 r a b) a b = r ∧ getR (exg2 r a b) a = getR r b ∧ getR (exg2 r a b) b = getR r a := by
  obtain ⟨a0, a1, b0, b1, d0, d1, c0, c1, x0, x1, y0, y1, u0, u1, s0, s1, p0, p1⟩ := hr
  obtain ⟨A, B, D, C, X, Y, U, S, P⟩ := r
  simp only at a0 a1 b0 b1 d0 d1 c0 c1 x0 x1 y0 y1 u0 u1 s0 s1 p0 p1
  rcases h with ⟨h1, h2, h3, h4⟩ | ⟨h1, h2, h3, h4⟩
  · rcases (show a = 0 ∨ a = 1 ∨ a = 2 ∨ a = 3 ∨ a = 4 ∨ a = 5 by omega) with rfl | rfl | rfl | rfl | rfl | rfl <;>
    rcases (show b = 0 ∨ b = 1 ∨ b = 2 ∨ b = 3 ∨ b = 4 ∨ b = 5 by omega) with rfl | rfl | rfl | rfl | rfl | rfl <;>
    (simp [exg2, setR, getR] <;> omega)
  · rcases (show a = 8 ∨ a = 9 ∨ a = 10 ∨ a = 11 by omega) with rfl | rfl | rfl | rfl <;>
    rcases (show b = 8 ∨ b = 9 ∨ b = 10 ∨ b = 11 by omega) with rfl | rfl | rfl | rfl <;>
    (simp [exg2, setR, getR] <;> omega)
theorem exg2_ok (r : Rg) (hr : r.Ok) (a b : Int) : (exg2 r a b).Ok :=
  setR_ok _ (setR_ok r hr b _ (getR_range r hr a).1 (getR_range r hr a).2) a _ (getR_range r hr b).1 (getR_range r hr b).2
end Go.Proofs.Ytfkcogccbeolfaa
