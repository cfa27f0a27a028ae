/- Differ: the chapter's example; differ.Own; the law's fields. -/
import Derived.Test.YtpleboogijgdcaaDfr
namespace Go.Proofs.Ytpleboogijgdcaa
open Go.ChangeShapes Go.WideShapes Go.ChangeAt Go.RowKit
set_option linter.unusedVariables false

abbrev zRc : Rc := ⟨0, 0, false, false, false, false, false, false, false⟩
set_option maxRecDepth 100000 in
theorem alive51 (w : World) : Calls Try.prog 11 #[] w fun e w' => e = .returned (.bool true) ∧ Below w.heap.size w w' := by
  have E : fsD [] [zRc] = 0 := fsD_some [] [zRc] 0 (by decide) (by unfold dfB; rw [Bool.not_eq_true']; exact eqB_no (by simp)) (fun j hj => absurd hj (by omega))
  have HR : Hid (eR.Rd (w.alloc (.cells zRc.cells 26)) (.slice (some ⟨w.heap.size, 0, none⟩) 1 1) [zRc]) := Lib.hid (Els.Rd.lit w _ [zRc] _ 1 rfl rfl 1)
  have CF := Lib.hid (dfFirst_any (.slice none 0 0) _ [] [zRc] _ (Els.Rd.nil_ _) HR.out (by simp) (by simp))
  rw [E] at CF
  clear E
  go_enter Try.func11, Try.ntmps11
  go_wp2_with fail
  refine CF.out.mono ?_
  rintro e w1 ⟨rfl, j, rfl⟩
  go_wp2
  go_ret
  exact ⟨rfl, Below.drewN0 (Below.alloc0 (Below.refl _ _) _) _⟩
end Go.Proofs.Ytpleboogijgdcaa
