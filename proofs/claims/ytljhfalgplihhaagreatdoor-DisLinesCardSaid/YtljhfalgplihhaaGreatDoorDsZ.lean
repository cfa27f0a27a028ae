/- Package dis: the law DisTexts over numbers. -/
import Derived.Test.YtljhfalgplihhaaGreatDoorDsY
namespace Go.Proofs.YtljhfalgplihhaaGreatDoor
open Go.ChangeShapes Go.WideShapes Go.ChangeAt Go.RowKit
set_option linter.unusedVariables false
theorem va_small {xs : List Int} (h : ∀ z ∈ xs, (Lit.int .u8 z).wf = true) (hm : (eMode (inE xs) : Int) = 1 ∨ (eMode (inE xs) : Int) = 3) : inVa xs < 256 := by
  have hr := iat_range8' h (inL2 xs)
  have hN : inN xs = 1 ∧ shS (inMd xs) = false := by
    unfold inN inMd
    rcases hm with hm | hm
    · have e : eMode (inE xs) = 1 := by omega
      rw [e]; exact ⟨rfl, rfl⟩
    · have e : eMode (inE xs) = 3 := by omega
      rw [e]; exact ⟨rfl, rfl⟩
  unfold inVa
  rw [if_pos hN.1, hN.2]
  exact hr.2
theorem va_range {xs : List Int} (h : ∀ z ∈ xs, (Lit.int .u8 z).wf = true) : 0 ≤ inVa xs ∧ inVa xs < 65536 := by
  have r1 := iat_range8' h (inL2 xs)
  have r2 := iat_range8' h (inL2 xs + 1)
  unfold inVa signOf
  split
  · split
    · split <;> omega
    · omega
  · split <;> omega
end Go.Proofs.YtljhfalgplihhaaGreatDoor
