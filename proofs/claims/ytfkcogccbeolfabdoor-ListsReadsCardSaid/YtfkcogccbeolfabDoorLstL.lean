/- The chapter's examples (lists); the law ListsOrders, over numbers. -/
import Derived.Test.YtfkcogccbeolfabDoorLstO
import Derived.Test.YtfkcogccbeolfabDoorLstK
namespace Go.Proofs.YtfkcogccbeolfabDoor
open Go.ChangeShapes Go.WideShapes Go.ChangeAt Go.RowKit
set_option linter.unusedVariables false

theorem OneLaid.strs {P : Program} {W : World} {name : String} {ss : List (List UInt8)} {g : Nat} {t e : TypeId} {n : Nat}
    (h : OneLaid P W name (strData ss)) (hg : P.globalNamed name = some g) (hty : (P.globals[g]?).map (·.type) = some t) (ht : P.underlying t = some (.array n e)) (he : P.underlying e = some .string) (hce : P.cellsOf e = 1) (hct : P.cellsOf t = n)
    (i : Nat) (hi : i < ss.length) : W.cell? ⟨g, i, none⟩ = some (.string (byteStr ss[i])) := by
  obtain ⟨g', t', cs, fuel, p, hg', ht', hvar, hd⟩ := h
  obtain rfl := Option.some.inj (hg.symm.trans hg')
  obtain rfl := Option.some.inj (hty.symm.trans ht')
  have h1 := strCells ht he hce hct hd i hi
  rw [World.var?_cell hg hvar i, ← h1]
  simp
/-- Both tables read as listed. -/
def TabAt (w : World) : Prop := OregAt w ∧ LregAt w
theorem TabAt.below {w w' : World} (h : TabAt w) (hb : Below w.heap.size w w') : TabAt w' := ⟨h.1.below hb, h.2.below hb⟩
def lregL : List Int := [10, 8, 9, 11, 1, 2, 3, 5]
theorem lregL_at : ∀ k : Fin 8, lregL.getD k.val 0 = (regL k.val : Int) := by decide +kernel
theorem TabAt.of_laid {W : World} (h : laidMetH Tryd.prog [("spinet/ops.registers", strData regNames), ("spinet/lists.registers", Lib.tabData .i64 lregL)] W) : TabAt W := by
  rw [MakeChecks.laidMetH_plain _ _ _ (by rfl)] at h
  obtain ⟨ps, h, _⟩ := h
  obtain ⟨h1, p1, h⟩ := laidVars_cons h
  obtain ⟨h2, p2, h⟩ := laidVars_cons h
  refine ⟨fun k hk => ?_, fun k hk => ?_⟩
  · have hlen : regNames.length = 12 := rfl
    have := h1.strs (g := 0) (t := 59) (e := 9) (n := 12) (by kernel_rfl) (by kernel_rfl) Tryd.underlying59 Tryd.underlying9 (by kernel_rfl) (by kernel_rfl) k (by omega)
    rw [this]
    unfold regS
    rw [List.getD_eq_getElem?_getD, List.getElem?_eq_getElem (by omega)]; rfl
  · have := h2.ints (g := 1) (t := 53) (e := 3) (n := 8) (by kernel_rfl) (by kernel_rfl) Tryd.underlying53 Tryd.underlying3 (by kernel_rfl) (by kernel_rfl) k hk
    rw [this, lregL_at ⟨k, hk⟩]
theorem ordL_129 : ordL 129 false = [(10, false), (5, true), (5, false)] := by decide
theorem read_DX : readF false 4 [68, 44, 88] 0 = (22, 0) := by decide +kernel
set_option maxRecDepth 100000 in
set_option maxHeartbeats 2000000 in
theorem alive17 (w : World) (hT : TabAt w) : Calls Tryd.prog 12 #[] w fun e w' => e = .returned (.bool true) ∧ Below w.heap.size w w' := by
  have HT := Lib.hid hT
  have CO := Lib.hid (fun w hT => order_any 129 (by decide) 4 w hT)
  have CR := Lib.hid (fun w hT hR => read_some [68, 44, 88] (by decide) (by decide) 4 w hT hR)
  rw [show ((4 : Int) == 3) = false from rfl] at CO CR
  rw [ordL_129] at CO
  rw [show ([68, 44, 88] : List UInt8).length + 1 = 4 from rfl, read_DX] at CR
  clear hT
  go_enter Tryd.func12, Tryd.ntmps12
  go_wp2_with fail
  refine (CO.out _ HT.out.2).mono ?_
  rintro e w1 ⟨v, rfl, hp, hb1⟩
  obtain ⟨A, cap, rfl, hrd⟩ := hp.read
  obtain ⟨g, cur, rfl, hg, hB, hcap, hcur⟩ := hrd (by decide)
  have HB := Lib.hid hB
  have HCu := Lib.hid hcur
  have HCap := Lib.hid hcap
  have HT1 := Lib.hid (HT.out.below hb1)
  have Hb1 := Lib.hid hb1
  clear hp hrd hg hB hcap hcur hb1
  go_wp2_with fail
  refine (CR.out _ HT1.out.1 HT1.out.2).mono ?_
  rintro e w2 ⟨rfl, n, rfl⟩
  have c0 := (HB.out.cell (0 * 2)).trans (HCu.out 0 (by decide)).1
  have c1 := (HB.out.cell (1 * 2 + 1)).trans (HCu.out 1 (by decide)).2
  simp only [List.getD_cons_zero, List.getD_cons_succ, Nat.zero_mul, Nat.one_mul, Nat.reduceAdd] at c0 c1
  go_wp2
  go_ret
  exact ⟨rfl, Below.drewN0 Hb1.out n⟩
end Go.Proofs.YtfkcogccbeolfabDoor
