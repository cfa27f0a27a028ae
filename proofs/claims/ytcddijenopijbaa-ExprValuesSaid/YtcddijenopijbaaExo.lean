/- The names of ExprValues, opened; what they stand for, one more. -/
import Derived.Test.YtcddijenopijbaaExz
import Derived.Test.YtcddijenopijbaaExe
namespace Go.Proofs.Ytcddijenopijbaa
open Go.ChangeShapes Go.WideShapes Go.ChangeAt Go.RowKit
set_option linter.unusedVariables false

def NmOk (x : NmV) : Prop := 0 ≤ x.2 ∧ x.2 < 65536 ∧ x.1.size ≤ maxLen
theorem open_nms {H : Type} {ee : TypeId × Value → H} {W : World} {base : Nat} {sp : Nat → Bool} {held : Bool} {fuel : Nat} {A : Option Addr} {n c : Nat} {x : DataW H × List MemPlace} (h : DataW.trod ee Try.prog W base sp held fuel 38 (Value.slice A n c).cells.toList = some x) :
    ∃ l, eN.In NmOk W A n c l :=
  Els.open_in (E := eN) NmOk Try.underlying38 (by kernel_rfl) (fun n cs x hl h => by
    match cs, hl with
    | [u, v], _ =>
      obtain ⟨y0, y1, m, _, _, h0, h1⟩ := trod_struct2 Try.underlying44 h
      have e0 : ([u, v].drop 0).take (Try.prog.cellsOf 9) = [u] := by rw [show Try.prog.cellsOf 9 = 1 by kernel_rfl]; rfl
      have e1 : ([u, v].drop 1).take (Try.prog.cellsOf 22) = [v] := by rw [show Try.prog.cellsOf 22 = 1 by kernel_rfl]; rfl
      dsimp only at h0 h1
      rw [e0] at h0
      rw [e1] at h1
      obtain ⟨s, es, _, hs⟩ := DataW.trod_string Try.underlying9 h0
      obtain rfl : u = .string s := by simpa using es
      obtain ⟨z, ez, _, hw⟩ := DataW.trod_int Try.underlying22 h1
      obtain rfl : v = .int .u16 z := by simpa [Value.cells] using ez
      have := bounds_u16 hw
      exact ⟨(s, z), rfl, this.1, by omega, hs⟩) h
theorem lookB_nil : lookB [] = look0 := rfl
theorem lookB_next {l : List NmV} {k : Nat} {x : NmV} (hx : l[k]? = some x) (h : lookB (l.take k) x.1 = none) : putL (lookB (l.take k)) x.1 x.2 = lookB (l.take (k + 1)) := by
  have hk : k < l.length := by
    rcases Nat.lt_or_ge k l.length with h1 | h1
    · exact h1
    · rw [List.getElem?_eq_none h1] at hx; cases hx
  have e : l.take (k + 1) = l.take k ++ [x] := by
    rw [List.take_succ_eq_append_getElem hk]
    rw [List.getElem?_eq_getElem hk] at hx
    injection hx with hx
    rw [hx]
  funext t
  rw [e]
  unfold putL lookB at *
  rw [List.find?_append, List.find?_singleton]
  by_cases ht : t = x.1
  · subst ht
    rw [if_pos rfl]
    have hf : (l.take k).find? (fun p => decide (p.1 = x.1)) = none := by simpa using h
    rw [hf]; simp
  · rw [if_neg ht]
    have : ¬ x.1 = t := fun e => ht e.symm
    cases hf : (l.take k).find? (fun p => decide (p.1 = t)) with
    | none => simp [this]
    | some y => simp
theorem lookB_take {l : List NmV} {k : Nat} {s : ByteArray} (h : ∀ j, j < k → ∀ y, l[j]? = some y → y.1 ≠ s) : lookB (l.take k) s = none :=
  lookB_none (fun j hj y hy => by
    rw [List.length_take] at hj
    rw [List.getElem?_take_of_lt (by omega)] at hy
    exact h j (by omega) y hy)
end Go.Proofs.Ytcddijenopijbaa
