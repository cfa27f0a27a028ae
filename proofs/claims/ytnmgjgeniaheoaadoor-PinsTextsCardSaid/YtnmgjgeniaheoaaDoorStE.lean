/- Slices of strings as rows (Els), of the call's own, also in a box. -/
import Derived.Test.YtnmgjgeniaheoaaDoorStc
import Derived.Test.YtnmgjgeniaheoaaDoorRws
import Derived.Maps.AppendAt
import Derived.Lib.Join
import Derived.Test.YtnmgjgeniaheoaaDoorShelf
namespace Go.Proofs.YtnmgjgeniaheoaaDoor
open Go.ChangeShapes Go.WideShapes Go.ChangeAt Go.RowKit
set_option linter.unusedVariables false

abbrev eS : Els ByteArray := ⟨fun s => [.string s], 1, fun _ => rfl, fun x u h => by simp only [List.mem_singleton] at h; subst h; rfl, by decide⟩
theorem eS_cells (l : List ByteArray) : eS.cells l = l.map Value.string := by
  induction l with
  | nil => rfl
  | cons x l ih => rw [Els.cells_cons, ih]; rfl
theorem infoSS : (Tryd.prog.info? 9).map (fun i => (i.zero, i.size, i.bytes)) = some (some (.string ⟨#[]⟩), 1, 16) := by kernel_rfl
theorem wpList_appS {ops : Array Oper} {rest : List Oper} {o : Oper} {a : Act} {Q : Exit → Act → World → Prop} (hgd : o.guard = none) (w : World) (s x : Operand)
    (ho : o.op = .call { callee := .builtin .append, args := #[s, x], argTypes := #[44, 44] })
    (base : Nat) (v y : Value) (l m : List ByteArray) (hs : a.eval s = v) (hown : eS.Own 9 w base v l) (hx : a.eval x = y) (hr : eS.Rd w y m) (hn : l.length + m.length ≤ 1099511627776) (hbase : base ≤ w.heap.size)
    (h : ∀ v' w', eS.Own 9 w' base v' (l ++ m) → Below base w w' → w.grownBy w' v.ownBlock → (v'.ownBlock = v.ownBlock ∨ v'.ownBlock = some w.heap.size) → wpList Tryd.prog ops Q rest (a.put o.dst v') w') : wpList Tryd.prog ops Q (o :: rest) a w := by
  obtain ⟨i0, hi, hz0, hz1, hz2⟩ := info_parts infoSS
  exact wpList_plain hgd fun _ hK => Els.app (E := eS) w s x 44 9 i0 (.string ⟨#[]⟩) 16 Tryd.underlying44 hi hz0 hz1 hz2 (by decide) rfl ho base v y l m hs hown hx hr hn hbase fun v' w' h2 h3 h4 h5 => hK _ _ (h v' w' h2 h3 h4 h5)
/-- Block g is a box whose slice of strings is the call's own, and reads as L. -/
def BoxS (w : World) (base g : Nat) (L : List ByteArray) : Prop := ∃ v, Blk w g 44 #[v] ∧ eS.Own 9 w base v L ∧ v.ownBlock ≠ some g
theorem BoxS.below {w w' : World} {base g : Nat} {L : List ByteArray} (h : BoxS w base g L) (hb : Below w.heap.size w w') : BoxS w' base g L := by
  obtain ⟨v, h1, h2, h3⟩ := h
  exact ⟨v, h1.below hb h1.lt, h2.below hb, h3⟩
theorem BoxS.new (w : World) (base : Nat) : BoxS (w.alloc (.cells #[.slice none 0 0] 44)) base w.heap.size [] := ⟨_, Blk.new _ _ _ _, Els.Own.nil_ _ _, by intro h; cases h⟩
theorem Els.Own.setFar {α : Type} {E : Els α} {t : TypeId} {w : World} {base g i : Nat} {v : Value} {l : List α} (h : E.Own t w base v l) (hne : v.ownBlock ≠ some g) (u : Value) : E.Own t (w.setCell ⟨g, i, none⟩ u) base v l :=
  h.grown (grown_cell w g i u) (.inr hne)
theorem Els.Own.val {α : Type} {E : Els α} {t : TypeId} {w : World} {base : Nat} {v : Value} {L : List α} {x : α} (h : E.Own t w base v (L ++ [x])) : ∃ g cap, v = .slice (some ⟨g, 0, none⟩) (L.length + 1) cap := by
  obtain ⟨hl, h2⟩ := h
  rcases h2 with ⟨rfl, hn⟩ | ⟨g, cap, cur, rfl, h3⟩
  · simp at hn
  · exact ⟨g, cap, by rw [List.length_append]; rfl⟩
/-- Join, of a row of the call's own. -/
theorem joinS_any (v : Value) (L : List ByteArray) (base : Nat) (sep : ByteArray) (w : World) (h : eS.Own 9 w base v L) (hn : L.length ≤ 100000) (hj : (Lib.join (L.map (·.data.toList)) sep.data.toList).length ≤ 1000000) :
    Calls Tryd.prog 20 #[v, .string sep] w fun e w' => e = .returned (.string ⟨(Lib.join (L.map (·.data.toList)) sep.data.toList).toArray⟩) ∧ Below w.heap.size w w' := by
  have hr := h.rd
  obtain ⟨hl, h2⟩ := h
  rcases h2 with ⟨rfl, hn0⟩ | ⟨g, cap, cur, rfl, h3, h4, h5, h6, h7, h8⟩
  · obtain rfl : L = [] := List.eq_nil_of_length_eq_zero hn0
    refine (Tryd.strings_Join_none none 0 sep w).mono ?_
    rintro e w' ⟨rfl, rfl⟩
    exact ⟨rfl, Below.refl _ _⟩
  · obtain ⟨A, c, hv, hc⟩ := hr.open_
    injection hv with e1 e2 e3
    subst e1 e3
    by_cases h0 : 0 < L.length
    · obtain ⟨g', off, e, hlt, hcell⟩ := hc h0
      injection e with e
      injection e with e1 e2 e3
      subst e1 e2
      exact Tryd.strings_Join g 0 cap L sep w (fun j x hj => by simpa using hcell j x hj 0 _ rfl) hlt (by omega) h5 (by omega)
    · obtain rfl : L = [] := List.eq_nil_of_length_eq_zero (by omega)
      refine (Tryd.strings_Join_none _ cap sep w).mono ?_
      rintro e w' ⟨rfl, rfl⟩
      exact ⟨rfl, Below.refl _ _⟩
end Go.Proofs.YtnmgjgeniaheoaaDoor
