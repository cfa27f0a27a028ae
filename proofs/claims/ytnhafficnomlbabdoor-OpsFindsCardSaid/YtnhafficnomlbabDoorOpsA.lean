/- Layer 13: the tables as listed; the chapter's example. -/
import Derived.Test.YtnhafficnomlbabDoorOpsF
namespace Go.Proofs.YtnhafficnomlbabDoor
open Go.ChangeShapes Go.WideShapes Go.ChangeAt Go.RowKit
set_option linter.unusedVariables false
theorem one_strs {P : Program} {W : World} {name : String} {ss : List Txt} {g : Nat} {t e : TypeId} {n : Nat}
    (h : OneLaid P W name (strData ss)) (hg : P.globalNamed name = some g) (hty : (P.globals[g]?).map (·.type) = some t) (ht : P.underlying t = some (.array n e)) (he : P.underlying e = some .string) (hce : P.cellsOf e = 1) (hct : P.cellsOf t = n)
    (i : Nat) (hi : i < ss.length) : W.cell? ⟨g, i, none⟩ = some (.string (byteStr (ss.getD i []))) := by
  obtain ⟨g', t', cs, fuel, p, hg', ht', hvar, hd⟩ := h
  obtain rfl := Option.some.inj (hg.symm.trans hg')
  obtain rfl := Option.some.inj (hty.symm.trans ht')
  have h1 := strCells ht he hce hct hd i hi
  rw [World.var?_cell hg hvar i, List.getD_eq_getElem?_getD, List.getElem?_eq_getElem hi]
  simpa using h1
theorem TabO.of_laid {W : World} (h : laidMetH Tryd.prog [("spinet/cond.names", strData cndNames), ("spinet/ops.registers", strData regNames), ("spinet/ops.stems", strData stemNames)] W) (hS : W.ShapedOpen Tryd.prog) : TabO W := by
  rw [MakeChecks.laidMetH_plain _ _ _ (by rfl)] at h
  obtain ⟨ps, h, _⟩ := h
  obtain ⟨h1, p1, h⟩ := laidVars_cons h
  obtain ⟨h2, p2, h⟩ := laidVars_cons h
  obtain ⟨h3, p3, h⟩ := laidVars_cons h
  refine ⟨fun k hk => ?_, fun k hk => ?_, fun k hk => ?_, ?_⟩
  · have hlen : regNames.length = 12 := rfl
    exact one_strs h2 (g := 1) (t := 72) (e := 9) (n := 12) (by kernel_rfl) (by kernel_rfl) Tryd.underlying72 Tryd.underlying9 (by kernel_rfl) (by kernel_rfl) k (by omega)
  · have hlen : cndNames.length = 16 := rfl
    exact one_strs h1 (g := 3) (t := 101) (e := 9) (n := 16) (by kernel_rfl) (by kernel_rfl) Tryd.underlying101 Tryd.underlying9 (by kernel_rfl) (by kernel_rfl) k (by omega)
  · have hlen : stemNames.length = 52 := rfl
    exact one_strs h3 (g := 0) (t := 65) (e := 9) (n := 52) (by kernel_rfl) (by kernel_rfl) Tryd.underlying65 Tryd.underlying9 (by kernel_rfl) (by kernel_rfl) k (by omega)
  · exact cell_of_shapedOpen_int (P := Tryd.prog) (g := 2) (t := 3) (zero := #[.int .i64 0]) hS (of_decide_eq_true (by kernel_rfl)) (by kernel_rfl) rfl (by kernel_rfl) (by kernel_rfl) Tryd.underlying3
theorem ex13 : nameI 24 1 = [76, 68, 88] := by decide +kernel
theorem alive13 (w : World) (hT : TabO w) : Calls Tryd.prog 25 #[] w fun e w' => e = .returned (.bool true) ∧ w = w' := by
  have CN := Lib.hid (opsName_any 24 1 w hT)
  rw [ex13] at CN
  clear hT
  go_enter Tryd.func25, Tryd.ntmps25
  go_wp2_with fail
  refine CN.out.mono ?_
  rintro e w1 ⟨rfl, rfl⟩
  have h1 : ((byteStr [76, 68, 88]).toList == [76, 68, 88]) = true := by decide +kernel
  have h2 : ((byteStr [76, 68, 88]).toList == (⟨#[76, 68, 88]⟩ : ByteArray).toList) = true := by decide +kernel
  go_wp2
  go_ret
  exact ⟨rfl, rfl⟩
end Go.Proofs.YtnhafficnomlbabDoor
