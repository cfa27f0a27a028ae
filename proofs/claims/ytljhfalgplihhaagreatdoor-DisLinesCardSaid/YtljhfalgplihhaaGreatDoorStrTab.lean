/- A package-level table of strings, read as the row lists it. -/
import Derived.Test.YtljhfalgplihhaaGreatDoorMem
import Derived.Lib.LaidTab
import Derived.LaidMore
import Derived.MakeChecks
namespace Go.Proofs.YtljhfalgplihhaaGreatDoor
open Go.ChangeShapes Go.WideShapes Go.ChangeAt Go.RowKit
set_option linter.unusedVariables false

def strData {H : Type} (ss : List (List UInt8)) : DataW H := .agg (ss.map fun s => .lit (.string s))
def byteStr (s : List UInt8) : ByteArray := ⟨s.toArray⟩
/-- The table's cells are these strings. -/
theorem strCells {H : Type} {enc : TypeId × Value → H} {P : Program} {w : World} {base : Nat} {sp : Nat → Bool} {held : Bool} {fuel : Nat} {t e : TypeId} {n : Nat} {cs : List Value} {ss : List (List UInt8)} {p : List MemPlace}
    (ht : P.underlying t = some (.array n e)) (he : P.underlying e = some .string) (hce : P.cellsOf e = 1) (hct : P.cellsOf t = n)
    (h : DataW.trod enc P w base sp held fuel t cs = some (strData ss, p)) : ∀ i (hi : i < ss.length), cs[i]? = some (.string (byteStr ss[i])) := by
  obtain ⟨xs, m, rfl, hx, hlen, hn, hel⟩ := DataW.trod_array ht h
  intro i hi
  have hxs : xs.map (·.1) = ss.map fun s => (DataW.lit (.string s) : DataW H) := by
    have := congrArg Prod.fst hx
    simpa [strData] using this.symm
  have hl : ss.length = n := by
    have := congrArg List.length hxs
    simp at this
    omega
  have h1 := hel i (by omega)
  rw [hce, Nat.mul_one] at h1
  have hi2 : i < xs.length := by omega
  rw [List.getElem?_eq_getElem hi2] at h1
  obtain ⟨s, hc, hd, _⟩ := DataW.trod_string he h1
  have h2 : xs[i].1 = DataW.lit (.string ss[i]) := by
    have := congrArg (fun l => l[i]?) hxs
    simp only [List.getElem?_map, List.getElem?_eq_getElem hi2, List.getElem?_eq_getElem hi, Option.map_some, Option.some.injEq] at this
    exact this
  have h3 : ss[i] = s.data.toList := by
    rw [hd] at h2
    simp only [DataW.lit.injEq, Lit.string.injEq] at h2
    exact h2.symm
  have h4 : cs[i]? = some (.string s) := by
    have := congrArg (fun l => l[0]?) hc
    simpa [List.getElem?_take, List.getElem?_drop] using this
  rw [h4, h3]
  rfl
/-- From the row's condition to the walk's cells: the table stands first on the list. -/
theorem strTab_of_laid {P : Program} {W : World} {name : String} {ss : List (List UInt8)} {g : Nat} {t e : TypeId} {n : Nat}
    (hg : P.globalNamed name = some g) (hty : (P.globals[g]?).map (·.type) = some t) (ht : P.underlying t = some (.array n e)) (he : P.underlying e = some .string) (hce : P.cellsOf e = 1) (hct : P.cellsOf t = n)
    (h : laidMetH P [(name, strData ss)] W) : ∀ i (hi : i < ss.length), W.cell? ⟨g, i, none⟩ = some (.string (byteStr ss[i])) := by
  rw [MakeChecks.laidMetH_plain _ _ _ (by rfl)] at h
  obtain ⟨ps, ⟨g', t', cs, fuel, p, q, hg', ht', hvar, hd, _, _⟩, _⟩ := h
  obtain rfl := Option.some.inj (hg.symm.trans hg')
  obtain rfl := Option.some.inj (hty.symm.trans ht')
  intro i hi
  have h1 := strCells ht he hce hct hd i hi
  rw [World.var?_cell hg hvar i, ← h1]
  simp
end Go.Proofs.YtljhfalgplihhaaGreatDoor
