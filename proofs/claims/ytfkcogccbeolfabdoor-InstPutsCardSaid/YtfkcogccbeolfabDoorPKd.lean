/- Package page's four tables and package post's kinds, read as a row lists them one behind the other. -/
import Derived.Test.YtfkcogccbeolfabDoorPagL
import Derived.Test.YtfkcogccbeolfabDoorKnd
namespace Go.Proofs.YtfkcogccbeolfabDoor
open Go.ChangeShapes Go.WideShapes Go.ChangeAt Go.RowKit
set_option linter.unusedVariables false
theorem pagKinds_of_laid {W : World} (h : laidMetH Tryd.prog [("spinet/page.eights", Lib.tabData .i64 eightsL), ("spinet/page.changes", Lib.tabData .i64 changesL), ("spinet/page.tens", tab3 tensL), ("spinet/page.thirties", tab3 thirtiesL), ("spinet/post.kinds", Lib.tabData .i64 kindsM)] W) : PagAt W ∧ KindsAt W := by
  rw [MakeChecks.laidMetH_plain _ _ _ (by rfl)] at h
  obtain ⟨ps, h, _⟩ := h
  obtain ⟨h1, p1, h⟩ := laidVars_cons h
  obtain ⟨h2, p2, h⟩ := laidVars_cons h
  obtain ⟨h3, p3, h⟩ := laidVars_cons h
  obtain ⟨h4, p4, h⟩ := laidVars_cons h
  refine ⟨?_, kindsAt_of_one (laidVars_cons h).1⟩
  refine ⟨fun k hk => ?_, fun k hk => ?_, fun k hk => ?_, fun k hk => ?_⟩
  · have := h1.ints (g := 6) (t := 106) (e := 3) (n := 16) (by kernel_rfl) (by kernel_rfl) Tryd.underlying106 Tryd.underlying3 (by kernel_rfl) (by kernel_rfl) k hk
    rw [this, eightsL_at ⟨k, hk⟩]
  · have := h2.ints (g := 7) (t := 106) (e := 3) (n := 16) (by kernel_rfl) (by kernel_rfl) Tryd.underlying106 Tryd.underlying3 (by kernel_rfl) (by kernel_rfl) k hk
    rw [this, changesL_at ⟨k, hk⟩]
  · have := h3.tri (g := 2) (t := 105) (e := 34) (f := 3) (n := 16) (by kernel_rfl) (by kernel_rfl) Tryd.underlying105 Tryd.underlying34 (by kernel_rfl) rfl rfl rfl rfl rfl rfl Tryd.underlying3 (by kernel_rfl) k hk
    rw [getD_get tensL k (0, 0, 0) hk, tensL_at ⟨k, hk⟩] at this
    exact this
  · have := h4.tri (g := 3) (t := 105) (e := 34) (f := 3) (n := 16) (by kernel_rfl) (by kernel_rfl) Tryd.underlying105 Tryd.underlying34 (by kernel_rfl) rfl rfl rfl rfl rfl rfl Tryd.underlying3 (by kernel_rfl) k hk
    rw [getD_get thirtiesL k (0, 0, 0) hk, thirtiesL_at ⟨k, hk⟩] at this
    exact this
end Go.Proofs.YtfkcogccbeolfabDoor
