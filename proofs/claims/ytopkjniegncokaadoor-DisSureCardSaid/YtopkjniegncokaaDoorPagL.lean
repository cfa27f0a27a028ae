/- Package page's four tables, read as the row lists them. -/
import Derived.Test.YtopkjniegncokaaDoorPagR
import Derived.Test.YtopkjniegncokaaDoorPostS
import Derived.Deep.RegionHeld3
import Derived.Test.YtopkjniegncokaaDoorLaidS
namespace Go.Proofs.YtopkjniegncokaaDoor
open Go.ChangeShapes Go.WideShapes Go.ChangeAt Go.RowKit
set_option linter.unusedVariables false

theorem eightsL_at : ∀ k : Fin 16, eightsL.getD k.val 0 = (eiN k.val : Int) := by decide +kernel
theorem changesL_at : ∀ k : Fin 16, changesL.getD k.val 0 = (chN k.val : Int) := by decide +kernel
theorem tensL_at : ∀ k : Fin 16, tensL.getD k.val (0, 0, 0) = ((eOp (tenN k.val) : Int), (eMode (tenN k.val) : Int), (eReg (tenN k.val) : Int)) := by decide +kernel
theorem thirtiesL_at : ∀ k : Fin 16, thirtiesL.getD k.val (0, 0, 0) = ((eOp (thiN k.val) : Int), (eMode (thiN k.val) : Int), (eReg (thiN k.val) : Int)) := by decide +kernel
theorem getD_get {α : Type} (l : List α) (i : Nat) (d : α) (h : i < l.length) : l[i] = l.getD i d := by simp [List.getD, h]
theorem PagAt.of_laid {W : World} (h : laidMetH Tryd.prog [("spinet/page.eights", Lib.tabData .i64 eightsL), ("spinet/page.changes", Lib.tabData .i64 changesL), ("spinet/page.tens", tab3 tensL), ("spinet/page.thirties", tab3 thirtiesL)] W) : PagAt W := by
  rw [MakeChecks.laidMetH_plain _ _ _ (by rfl)] at h
  obtain ⟨ps, h, _⟩ := h
  obtain ⟨h1, p1, h⟩ := laidVars_cons h
  obtain ⟨h2, p2, h⟩ := laidVars_cons h
  obtain ⟨h3, p3, h⟩ := laidVars_cons h
  obtain ⟨h4, p4, h⟩ := laidVars_cons h
  refine ⟨fun k hk => ?_, fun k hk => ?_, fun k hk => ?_, fun k hk => ?_⟩
  · have := h1.ints (g := 8) (t := 65) (e := 3) (n := 16) (by kernel_rfl) (by kernel_rfl) Tryd.underlying65 Tryd.underlying3 (by kernel_rfl) (by kernel_rfl) k hk
    rw [this, eightsL_at ⟨k, hk⟩]
  · have := h2.ints (g := 9) (t := 65) (e := 3) (n := 16) (by kernel_rfl) (by kernel_rfl) Tryd.underlying65 Tryd.underlying3 (by kernel_rfl) (by kernel_rfl) k hk
    rw [this, changesL_at ⟨k, hk⟩]
  · have := h3.tri (g := 5) (t := 139) (e := 25) (f := 3) (n := 16) (by kernel_rfl) (by kernel_rfl) Tryd.underlying139 Tryd.underlying25 (by kernel_rfl) rfl rfl rfl rfl rfl rfl Tryd.underlying3 (by kernel_rfl) k hk
    rw [getD_get tensL k (0, 0, 0) hk, tensL_at ⟨k, hk⟩] at this
    exact this
  · have := h4.tri (g := 6) (t := 139) (e := 25) (f := 3) (n := 16) (by kernel_rfl) (by kernel_rfl) Tryd.underlying139 Tryd.underlying25 (by kernel_rfl) rfl rfl rfl rfl rfl rfl Tryd.underlying3 (by kernel_rfl) k hk
    rw [getD_get thirtiesL k (0, 0, 0) hk, thirtiesL_at ⟨k, hk⟩] at this
    exact this
end Go.Proofs.YtopkjniegncokaaDoor
