/- Package-level tables of integers and of structs of three integers, read as the row lists them, wherever on the list they stand. -/
import Derived.Test.YtopkjniegncokaaDoorLaid
import Derived.ChangeArms
import Derived.OpenShut
namespace Go.Proofs.YtopkjniegncokaaDoor
open Go.ChangeShapes Go.WideShapes Go.ChangeAt Go.RowKit
set_option linter.unusedVariables false
/-- One variable reads as listed: its cells, and their reading. -/
def OneLaid (P : Program) (W : World) (name : String) (d : DataW Unit) : Prop :=
  ∃ g t cs fuel p, P.globalNamed name = some g ∧ (P.globals[g]?).map (·.type) = some t ∧ W.var? P name = some cs ∧ DataW.trod (fun _ => ()) P W 0 (fun _ => true) false fuel t cs.toList = some (d, p)
theorem laidVars_cons {P : Program} {W : World} {name : String} {d : DataW Unit} {rest : List (String × DataW Unit)} {ps : List MemPlace} (h : DataW.LaidVars P W ((name, d) :: rest) ps) :
    OneLaid P W name d ∧ ∃ qs, DataW.LaidVars P W rest qs := by
  obtain ⟨g, t, cs, fuel, p, q, hg, ht, hvar, hd, hr, _⟩ := h
  exact ⟨⟨g, t, cs, fuel, p, hg, ht, hvar, hd⟩, q, hr⟩
theorem OneLaid.ints {P : Program} {W : World} {name : String} {k : IntKind} {zs : List Int} {g : Nat} {t e : TypeId} {n : Nat}
    (h : OneLaid P W name (Lib.tabData k zs)) (hg : P.globalNamed name = some g) (hty : (P.globals[g]?).map (·.type) = some t) (ht : P.underlying t = some (.array n e)) (he : P.underlying e = some (.int k)) (hce : P.cellsOf e = 1) (hct : P.cellsOf t = n)
    (i : Nat) (hi : i < zs.length) : W.cell? ⟨g, i, none⟩ = some (.int k (zs.getD i 0)) := by
  obtain ⟨g', t', cs, fuel, p, hg', ht', hvar, hd⟩ := h
  obtain rfl := Option.some.inj (hg.symm.trans hg')
  obtain rfl := Option.some.inj (hty.symm.trans ht')
  have hc := Lib.cells_of_tab ht he hce hct hd
  rw [World.var?_cell hg hvar i, ← Array.getElem?_toList, hc, List.getElem?_map, List.getElem?_eq_getElem hi]
  simp [List.getD, hi]
def tab3 (zs : List (Int × Int × Int)) : DataW Unit := .agg (zs.map fun z => .agg [.lit (.int .i64 z.1), .lit (.int .i64 z.2.1), .lit (.int .i64 z.2.2)])
theorem OneLaid.tri {P : Program} {W : World} {name : String} {zs : List (Int × Int × Int)} {g : Nat} {t e f : TypeId} {n : Nat} {f0 f1 f2 : Field}
    (h : OneLaid P W name (tab3 zs)) (hg : P.globalNamed name = some g) (hty : (P.globals[g]?).map (·.type) = some t) (ht : P.underlying t = some (.array n e)) (he : P.underlying e = some (.struct #[f0, f1, f2])) (hce : P.cellsOf e = 3)
    (o0 : f0.offset = 0) (o1 : f1.offset = 1) (o2 : f2.offset = 2) (y0 : f0.type = f) (y1 : f1.type = f) (y2 : f2.type = f) (hf : P.underlying f = some (.int .i64)) (hcf : P.cellsOf f = 1)
    (i : Nat) (hi : i < zs.length) : W.cell? ⟨g, i * 3, none⟩ = some (.int .i64 zs[i].1) ∧ W.cell? ⟨g, i * 3 + 1, none⟩ = some (.int .i64 zs[i].2.1) ∧ W.cell? ⟨g, i * 3 + 2, none⟩ = some (.int .i64 zs[i].2.2) := by
  obtain ⟨g', t', cs, fuel, p, hg', ht', hvar, hd⟩ := h
  obtain rfl := Option.some.inj (hg.symm.trans hg')
  obtain rfl := Option.some.inj (hty.symm.trans ht')
  obtain ⟨xs, m, _, hx, _, hn, hel⟩ := DataW.trod_array ht hd
  have hxs : xs.map (·.1) = zs.map fun z => (DataW.agg [.lit (.int .i64 z.1), .lit (.int .i64 z.2.1), .lit (.int .i64 z.2.2)] : DataW Unit) := by
    have := congrArg Prod.fst hx
    simpa [tab3] using this.symm
  have hl : zs.length = xs.length := by have := congrArg List.length hxs; simpa using this.symm
  have h1 := hel i (by omega)
  rw [List.getElem?_eq_getElem (show i < xs.length by omega), hce] at h1
  obtain ⟨ys, m2, _, hy, _, hly, hfl⟩ := DataW.trod_struct he h1
  have h2 : xs[i].1 = DataW.agg [.lit (.int .i64 zs[i].1), .lit (.int .i64 zs[i].2.1), .lit (.int .i64 zs[i].2.2)] := by
    have := congrArg (fun l => l[i]?) hxs
    simp only [List.getElem?_map, List.getElem?_eq_getElem (show i < xs.length by omega), List.getElem?_eq_getElem hi, Option.map_some, Option.some.injEq] at this
    exact this
  have h3 : ys.map (·.1) = [.lit (.int .i64 zs[i].1), .lit (.int .i64 zs[i].2.1), .lit (.int .i64 zs[i].2.2)] := by
    have := congrArg Prod.fst hy
    rw [h2] at this
    simpa using this.symm
  have hly3 : ys.length = 3 := hly
  have cellj : ∀ (j : Nat) (fj : Field) (z : Int), (#[f0, f1, f2] : Array Field)[j]? = some fj → fj.offset = j → fj.type = f → (ys.map (·.1))[j]? = some (.lit (.int .i64 z)) → W.cell? ⟨g, i * 3 + j, none⟩ = some (.int .i64 z) := by
    intro j fj z hj ho hy2 hz
    have hj3 : j < 3 := by
      rcases Nat.lt_or_ge j 3 with a | a
      · exact a
      · rw [Array.getElem?_eq_none (by simpa using a)] at hj; cases hj
    have a := hfl j fj hj
    rw [List.getElem?_eq_getElem (show j < ys.length by omega), ho, hy2, hcf] at a
    obtain ⟨z', hc, hd2, _⟩ := DataW.trod_int hf a
    have hz2 : z' = z := by
      rw [List.getElem?_map, List.getElem?_eq_getElem (show j < ys.length by omega), hd2] at hz
      simpa using hz
    subst hz2
    rw [World.var?_cell hg hvar, ← Array.getElem?_toList]
    have := congrArg (fun l => l[0]?) hc
    simp only [List.getElem?_take, List.getElem?_drop] at this
    simpa [hj3] using this
  exact ⟨cellj 0 f0 _ rfl o0 y0 (by rw [h3]; rfl), cellj 1 f1 _ rfl o1 y1 (by rw [h3]; rfl), cellj 2 f2 _ rfl o2 y2 (by rw [h3]; rfl)⟩
end Go.Proofs.YtopkjniegncokaaDoor
