/- Slices of integers of a call's own: made, appended to, read. -/
import Derived.Test.YtlgaedhbgkhmeaaMem
import Derived.Maps.AppendAt
import Derived.Laws.MakeOwn
import Derived.Laws.OwnMore
import Derived.StillTailTactics
namespace Go.Proofs.Ytlgaedhbgkhmeaa
open Go.ChangeShapes Go.WideShapes Go.ChangeAt Go.RowKit
set_option linter.unusedVariables false

/-- v is a slice of the call's own (its block is base or above), and reads as the integers zs. -/
def Own (k : IntKind) (e : TypeId) (w : World) (base : Nat) (v : Value) (zs : List Int) : Prop := w.ownsRow base e 1 v zs.length (zs.map (Value.int k))
section
variable {k : IntKind} {e : TypeId} {w w' : World} {base : Nat} {v : Value} {zs : List Int}
theorem Own.nil_ (k : IntKind) (e : TypeId) (w : World) (base : Nat) : Own k e w base (.slice none 0 0) [] := World.ownsRow_nil w base e 1
theorem Own.alloc (h : Own k e w base v zs) (o : Obj) : Own k e (w.alloc o) base v zs := World.ownsRow.alloc h o
theorem Own.grown {row : Option Nat} (h : Own k e w base v zs) (hg : w.grownBy w' row) (hne : v.ownBlock = none ∨ v.ownBlock ≠ row) : Own k e w' base v zs := World.ownsRow.kept h hg hne
theorem Own.below (h : Own k e w base v zs) {B : Nat} (hb : Below B w w') (hv : ∀ g, v.ownBlock = some g → g < B) : Own k e w' base v zs := by
  obtain ⟨hl, h2⟩ := h
  refine ⟨hl, ?_⟩
  rcases h2 with h2 | ⟨g, cap, cur, rfl, h3, h4, h5⟩
  · exact .inl h2
  · exact .inr ⟨g, cap, cur, rfl, h3, (hb.block g (hv g rfl)).trans h4, h5⟩
theorem Own.more {base' : Nat} (h : Own k e w base v zs) (hb : base' ≤ base) : Own k e w base' v zs := by
  obtain ⟨hl, h2⟩ := h
  refine ⟨hl, ?_⟩
  rcases h2 with h2 | ⟨g, cap, cur, rfl, h3, h4⟩
  · exact .inl h2
  · exact .inr ⟨g, cap, cur, rfl, Nat.le_trans hb h3, h4⟩
theorem Own.drew (h : Own k e w base v zs) : Own k e w.drew base v zs := h
theorem Own.drewN (h : Own k e w base v zs) (n : Nat) : Own k e (w.drewN n) base v zs := h
theorem Own.lt (h : Own k e w base v zs) : ∀ g, v.ownBlock = some g → base ≤ g ∧ g < w.heap.size := World.ownsRow.lt h
/-- Read as any slice is. -/
theorem Own.ints (h : Own k e w base v zs) (hwf : ∀ z ∈ zs, (Lit.int k z).wf = true) : ∃ A c, v = .slice A zs.length c ∧ Ints k w w.heap.size A zs.length zs := by
  have hlt := h.lt
  have hcs := fun g => World.ownsRow.cells (g := g) h
  obtain ⟨hl, h2⟩ := h
  rcases h2 with ⟨rfl, hn⟩ | ⟨g, cap, cur, rfl, h3, h4, h5, h6, h7, h8⟩
  · have : zs = [] := List.eq_nil_of_length_eq_zero hn
    subst this
    exact ⟨none, 0, rfl, Ints.nil_ _ _ _ _⟩
  · refine ⟨_, cap, rfl, rfl, hwf, fun hn => ⟨g, 0, rfl, (hlt g rfl).2, fun i hi => ?_⟩⟩
    have := hcs g rfl i (.int k (iat zs i)) (by rw [List.getElem?_map, List.getElem?_eq_getElem hi, iat_eq _ _ hi]; rfl)
    rw [← this]
    unfold Addr.add; split <;> simp_all
theorem below_own {row : Option Nat} (hg : w.grownBy w' row) (h : ∀ g, row = some g → base ≤ g) (hb : base ≤ w.heap.size) : Below base w w' :=
  (Below.refl _ _).grown hg hb h
end
theorem cells_new (w' : World) (xs : List Int) (k : IntKind) (t : TypeId) (g : Nat) (cs : Array Value) (hcs : cs = (xs.map (Value.int k)).toArray) (hb : w'.heap[g]? = some (.cells cs t (0, 0))) :
    ∀ j u, (xs.map (Value.int k))[j]? = some u → w'.cell? ((⟨g, 0, none⟩ : Addr).add j) = some u := by
  intro j u hj
  subst hcs
  have hp : (⟨g, 0, none⟩ : Addr).add j = ⟨g, j, none⟩ := by unfold Addr.add; split <;> simp_all
  rw [hp, cell_of_row w' g j _ t (0, 0) hb, List.getElem?_toArray]
  exact hj
theorem cells_lit (w : World) (xs : List Int) (k : IntKind) (t : TypeId) (g : Nat) (hg : g = w.heap.size) (cs : Array Value) (hcs : cs = (xs.map (Value.int k)).toArray) :
    ∀ j u, (xs.map (Value.int k))[j]? = some u → (w.alloc (.cells cs t)).cell? ((⟨g, 0, none⟩ : Addr).add j) = some u := by
  intro j u hj
  subst hg hcs
  have hp : (⟨w.heap.size, 0, none⟩ : Addr).add j = ⟨w.heap.size, j, none⟩ := by unfold Addr.add; split <;> simp_all
  rw [hp, (Blk.new w t _ (0, 0)).cell, List.getElem?_toArray]
  exact hj
end Go.Proofs.Ytlgaedhbgkhmeaa
