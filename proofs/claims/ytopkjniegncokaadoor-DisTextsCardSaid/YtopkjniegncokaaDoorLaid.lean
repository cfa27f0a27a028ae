/- Package-level tables of integers, read as the row lists them. -/
import Derived.Test.YtopkjniegncokaaDoorMem
import Derived.Lib.LaidTab
import Derived.LaidMore
import Derived.MakeChecks
namespace Go.Proofs.YtopkjniegncokaaDoor
open Go.ChangeShapes Go.WideShapes Go.ChangeAt Go.RowKit
set_option linter.unusedVariables false
/-- The table stands first on the list. -/
theorem intTab_of_laid {P : Program} {W : World} {name : String} {k : IntKind} {zs : List Int} {g : Nat} {t e : TypeId} {n : Nat}
    (hg : P.globalNamed name = some g) (hty : (P.globals[g]?).map (·.type) = some t) (ht : P.underlying t = some (.array n e)) (he : P.underlying e = some (.int k)) (hce : P.cellsOf e = 1) (hct : P.cellsOf t = n)
    (h : laidMetH P [(name, Lib.tabData k zs)] W) (i : Nat) (hi : i < zs.length) : W.cell? ⟨g, i, none⟩ = some (.int k (zs.getD i 0)) := by
  rw [MakeChecks.laidMetH_plain _ _ _ (by rfl)] at h
  exact (Lib.tabIs_of_head hg hty ht he hce hct h).cell hg i hi
end Go.Proofs.YtopkjniegncokaaDoor
