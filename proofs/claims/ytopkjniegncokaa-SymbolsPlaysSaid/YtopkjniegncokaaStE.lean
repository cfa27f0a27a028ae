/- Slices of strings as rows (Els), of the call's own, also in a box. -/
import Derived.Test.YtopkjniegncokaaStc
import Derived.Test.YtopkjniegncokaaRws
import Derived.Maps.AppendAt
import Derived.Lib.Join
import Derived.Test.YtopkjniegncokaaShelf
namespace Go.Proofs.Ytopkjniegncokaa
open Go.ChangeShapes Go.WideShapes Go.ChangeAt Go.RowKit
set_option linter.unusedVariables false

abbrev eS : Els ByteArray := ⟨fun s => [.string s], 1, fun _ => rfl, fun x u h => by simp only [List.mem_singleton] at h; subst h; rfl, by decide⟩
theorem eS_cells (l : List ByteArray) : eS.cells l = l.map Value.string := by
  induction l with
  | nil => rfl
  | cons x l ih => rw [Els.cells_cons, ih]; rfl
theorem infoSS : (Try.prog.info? 9).map (fun i => (i.zero, i.size, i.bytes)) = some (some (.string ⟨#[]⟩), 1, 16) := by kernel_rfl
theorem wpList_appS {ops : Array Oper} {rest : List Oper} {o : Oper} {a : Act} {Q : Exit → Act → World → Prop} (hgd : o.guard = none) (w : World) (s x : Operand)
    (ho : o.op = .call { callee := .builtin .append, args := #[s, x], argTypes := #[34, 34] })
    (base : Nat) (v y : Value) (l m : List ByteArray) (hs : a.eval s = v) (hown : eS.Own 9 w base v l) (hx : a.eval x = y) (hr : eS.Rd w y m) (hn : l.length + m.length ≤ 1099511627776) (hbase : base ≤ w.heap.size)
    (h : ∀ v' w', eS.Own 9 w' base v' (l ++ m) → Below base w w' → w.grownBy w' v.ownBlock → (v'.ownBlock = v.ownBlock ∨ v'.ownBlock = some w.heap.size) → wpList Try.prog ops Q rest (a.put o.dst v') w') : wpList Try.prog ops Q (o :: rest) a w := by
  obtain ⟨i0, hi, hz0, hz1, hz2⟩ := info_parts infoSS
  exact wpList_plain hgd fun _ hK => Els.app (E := eS) w s x 34 9 i0 (.string ⟨#[]⟩) 16 Try.underlying34 hi hz0 hz1 hz2 (by decide) rfl ho base v y l m hs hown hx hr hn hbase fun v' w' h2 h3 h4 h5 => hK _ _ (h v' w' h2 h3 h4 h5)
/-- Block g is a box whose slice of strings is the call's own, and reads as L. -/
def BoxS (w : World) (base g : Nat) (L : List ByteArray) : Prop := ∃ v, Blk w g 34 #[v] ∧ eS.Own 9 w base v L ∧ v.ownBlock ≠ some g
theorem BoxS.below {w w' : World} {base g : Nat} {L : List ByteArray} (h : BoxS w base g L) (hb : Below w.heap.size w w') : BoxS w' base g L := by
  obtain ⟨v, h1, h2, h3⟩ := h
  exact ⟨v, h1.below hb h1.lt, h2.below hb, h3⟩
theorem BoxS.new (w : World) (base : Nat) : BoxS (w.alloc (.cells #[.slice none 0 0] 34)) base w.heap.size [] := ⟨_, Blk.new _ _ _ _, Els.Own.nil_ _ _, by intro h; cases h⟩
theorem Els.Own.setFar {α : Type} {E : Els α} {t : TypeId} {w : World} {base g i : Nat} {v : Value} {l : List α} (h : E.Own t w base v l) (hne : v.ownBlock ≠ some g) (u : Value) : E.Own t (w.setCell ⟨g, i, none⟩ u) base v l :=
  h.grown (grown_cell w g i u) (.inr hne)
theorem Els.Own.val {α : Type} {E : Els α} {t : TypeId} {w : World} {base : Nat} {v : Value} {L : List α} {x : α} (h : E.Own t w base v (L ++ [x])) : ∃ g cap, v = .slice (some ⟨g, 0, none⟩) (L.length + 1) cap := by
  obtain ⟨hl, h2⟩ := h
  rcases h2 with ⟨rfl, hn⟩ | ⟨g, cap, cur, rfl, h3⟩
  · simp at hn
  · exact ⟨g, cap, by rw [List.length_append]; rfl⟩
end Go.Proofs.Ytopkjniegncokaa
