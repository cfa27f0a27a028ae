/- A row of the call's own, one cell of which is written: what it reads as then. No program in sight. -/
import Derived.Test.YtlgaedhbgkhmeaaRws
import Derived.Test.YtlgaedhbgkhmeaaStc
namespace Go.Proofs.Ytlgaedhbgkhmeaa
open Go.ChangeShapes Go.WideShapes Go.ChangeAt Go.RowKit
set_option linter.unusedVariables false
section
variable {α : Type} {E : Els α}
theorem Els.cells_set (E : Els α) (l : List α) (i : Nat) (x y : α) (j : Nat) (u : Value) (hx : l[i]? = some x) (hj : j < E.k) (hy : E.enc y = (E.enc x).set j u) : E.cells (l.set i y) = (E.cells l).set (i * E.k + j) u := by
  have hk := E.pos
  apply List.ext_getElem?
  intro p
  by_cases hp : p < l.length * E.k
  · have hi : p / E.k < l.length := (Nat.div_lt_iff_lt_mul hk).2 hp
    have hm : p % E.k < E.k := Nat.mod_lt _ hk
    have e0 : p / E.k * E.k + p % E.k = p := by rw [Nat.mul_comm, Nat.div_add_mod]
    by_cases ha : p / E.k = i
    · have h1 : (l.set i y)[p / E.k]? = some y := by rw [ha, List.getElem?_set_self (by rw [← ha]; exact hi)]
      have h2 := E.cells_at (l.set i y) (p / E.k) y h1 (p % E.k) hm
      have h3 := E.cells_at l (p / E.k) x (by rw [ha]; exact hx) (p % E.k) hm
      rw [e0] at h2 h3
      rw [h2, hy]
      by_cases hb : j = p % E.k
      · have : i * E.k + j = p := by rw [hb, ← ha]; exact e0
        rw [this, List.getElem?_set_self (by rw [E.cells_len]; exact hp), hb, List.getElem?_set_self (by rw [E.len]; exact hm)]
      · have : i * E.k + j ≠ p := fun e => hb (by rw [← ha] at e; omega)
        rw [List.getElem?_set_ne this, List.getElem?_set_ne hb, h3]
    · have h0 : l[p / E.k]? = some l[p / E.k] := List.getElem?_eq_getElem hi
      have h1 : (l.set i y)[p / E.k]? = some l[p / E.k] := by rw [List.getElem?_set_ne (fun e => ha e.symm)]; exact h0
      have h2 := E.cells_at (l.set i y) (p / E.k) _ h1 (p % E.k) hm
      have h3 := E.cells_at l (p / E.k) _ h0 (p % E.k) hm
      rw [e0] at h2 h3
      have : i * E.k + j ≠ p := fun e => ha (by
        rw [← e, Nat.mul_comm, Nat.mul_add_div hk, Nat.div_eq_of_lt hj]; rfl)
      rw [List.getElem?_set_ne this, h2, h3]
  · rw [List.getElem?_eq_none (by rw [E.cells_len, List.length_set]; omega), List.getElem?_eq_none (by rw [List.length_set, E.cells_len]; omega)]
theorem Els.Own.at_ {t : TypeId} {w : World} {B q n c : Nat} {l : List α} (h : E.Own t w B (.slice (some ⟨q, 0, none⟩) n c) l) (k : Nat) (x : α) (hk : l[k]? = some x) (j : Nat) (u : Value) (hu : (E.enc x)[j]? = some u) :
    w.cell? ⟨q, k * E.k + j, none⟩ = some u ∧ w.frozen? ⟨q, k * E.k + j, none⟩ = false := by
  obtain ⟨hl, h2⟩ := h
  rcases h2 with ⟨e, _⟩ | ⟨q', c', cur, e, h3, h4, h5, h6, h7, h8⟩
  · cases e
  · injection e with e1 e2 e3
    injection e1 with e1
    injection e1 with e1
    subst e1
    have hj : j < E.k := by
      rcases Nat.lt_or_ge j E.k with a | a
      · exact a
      · rw [List.getElem?_eq_none (by rw [E.len]; exact a)] at hu; cases hu
    have hkl : k < l.length := by
      rcases Nat.lt_or_ge k l.length with a | a
      · exact a
      · rw [List.getElem?_eq_none a] at hk; cases hk
    have hb : Blk w q t cur (0, 0) := h4
    refine ⟨?_, hb.frozen _⟩
    have hp : k * E.k + j < l.length * E.k := by
      have : (k + 1) * E.k ≤ l.length * E.k := Nat.mul_le_mul_right _ hkl
      rw [Nat.add_mul, Nat.one_mul] at this
      omega
    rw [hb.cell, ← Array.getElem?_toList, ← List.getElem?_take_of_lt hp, h8, E.cells_at l k x hk j hj]
    exact hu
theorem Els.Own.setAt {t : TypeId} {w : World} {B q n c : Nat} {l : List α} (h : E.Own t w B (.slice (some ⟨q, 0, none⟩) n c) l) (k : Nat) (x y : α) (hk : l[k]? = some x) (j : Nat) (u : Value) (hj : j < E.k) (hy : E.enc y = (E.enc x).set j u) :
    E.Own t (w.setCell ⟨q, k * E.k + j, none⟩ u) B (.slice (some ⟨q, 0, none⟩) n c) (l.set k y) := by
  obtain ⟨hl, h2⟩ := h
  rcases h2 with ⟨e, _⟩ | ⟨q', c', cur, e, h3, h4, h5, h6, h7, h8⟩
  · cases e
  · injection e with e1 e2 e3
    injection e1 with e1
    injection e1 with e1
    subst e1 e2 e3
    have hkl : k < l.length := by
      rcases Nat.lt_or_ge k l.length with a | a
      · exact a
      · rw [List.getElem?_eq_none a] at hk; cases hk
    have hp : k * E.k + j < l.length * E.k := by
      have : (k + 1) * E.k ≤ l.length * E.k := Nat.mul_le_mul_right _ hkl
      rw [Nat.add_mul, Nat.one_mul] at this
      omega
    have hb : Blk w q t cur (0, 0) := h4
    have hs := hb.set_ (k * E.k + j) u
    unfold Els.Own
    rw [List.length_set]
    refine ⟨by rw [E.cells_len, List.length_set], .inr ⟨q, c, _, rfl, h3, hs, h5, h6, by simpa using h7, ?_⟩⟩
    rw [E.cells_set l k x y j u hk hj hy, ← h8]
    apply List.ext_getElem?
    intro p
    by_cases hpl : p < l.length * E.k
    · rw [List.getElem?_take_of_lt hpl, Array.getElem?_toList]
      by_cases e : k * E.k + j = p
      · have hc : p < cur.size := by rw [h7]; exact Nat.lt_of_lt_of_le hpl (Nat.mul_le_mul_right _ h5)
        rw [e, Array.getElem?_setIfInBounds_self_of_lt hc, List.getElem?_set_self (by have := hc; have := hpl; rw [List.length_take]; simp only [Array.length_toList]; omega)]
      · rw [Array.getElem?_setIfInBounds_ne e, List.getElem?_set_ne e, List.getElem?_take_of_lt hpl, Array.getElem?_toList]
    · rw [List.getElem?_take_eq_none (by omega), List.getElem?_eq_none (by rw [List.length_set, List.length_take]; omega)]
end
end Go.Proofs.Ytlgaedhbgkhmeaa
