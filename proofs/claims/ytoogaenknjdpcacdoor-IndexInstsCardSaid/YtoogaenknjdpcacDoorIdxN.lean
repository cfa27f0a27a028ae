/- The address that a postbyte makes, and the registers then, in numbers. -/
import Derived.Test.YtoogaenknjdpcacDoorFilS
import Derived.Test.YtoogaenknjdpcacDoorFilG
namespace Go.Proofs.YtoogaenknjdpcacDoor
set_option linter.unusedVariables false

def idA (k : Nat) (g o v n : Int) (r : Rg) : Int :=
  if k = 1 then (getR r g + o) % 65536 else if k = 2 then (getR r g + v) % 65536 else if k = 3 then (getR r g + v) % 65536 else
  if k = 4 then (getR r g + signOf r.A) % 65536 else if k = 5 then (getR r g + signOf r.B) % 65536 else if k = 6 then (getR r g + getR r 0) % 65536 else
  if k = 9 then (getR r g - 1) % 65536 else if k = 10 then (getR r g - 2) % 65536 else if k = 11 then (n + v) % 65536 else if k = 12 then (n + v) % 65536 else if k = 13 then v else getR r g
def idR (k : Nat) (g : Int) (r : Rg) : Rg :=
  if k = 7 then setR r g ((getR r g + 1) % 65536) else if k = 8 then setR r g ((getR r g + 2) % 65536) else
  if k = 9 then setR r g ((getR r g - 1) % 65536) else if k = 10 then setR r g ((getR r g - 2) % 65536) else r
theorem setR_same (r : Rg) (hr : r.Ok) (c : Int) : setR r c (getR r c) = r := by
  obtain ⟨a0, a1, b0, b1, d0, d1, c0, c1, x0, x1, y0, y1, u0, u1, s0, s1, p0, p1⟩ := hr
  obtain ⟨A, B, D, C, X, Y, U, S, P⟩ := r
  simp only at *
  rcases code_cases c with rfl | rfl | rfl | rfl | rfl | rfl | rfl | rfl | rfl | rfl | rfl | rfl | hc | hc
  · have e1 : (256 * A + B) / 256 = A := by omega
    have e2 : (256 * A + B) % 256 = B := by omega
    simp [setR, getR, e1, e2]
  iterate 5 · rfl
  · have e1 : (65280 + A) % 256 = A := by omega
    simp [setR, getR, e1]
  · have e1 : (65280 + B) % 256 = B := by omega
    simp [setR, getR, e1]
  · have e1 : (65280 + C) % 256 = C := by omega
    simp [setR, getR, e1]
  · have e1 : (65280 + D) % 256 = D := by omega
    simp [setR, getR, e1]
  iterate 2 · rfl
  all_goals
    unfold setR; repeat (rw [if_neg (by omega)])
end Go.Proofs.YtoogaenknjdpcacDoor
