/- Pins: six cells each; rows of them read and appended to. -/
import Derived.Test.YtnmgjgeniaheoaaDoorStc
import Derived.Test.YtnmgjgeniaheoaaDoorRws
namespace Go.Proofs.YtnmgjgeniaheoaaDoor
open Go.ChangeShapes Go.WideShapes Go.ChangeAt Go.RowKit
set_option linter.unusedVariables false

/-- Pins: Reset, Nmi, Firq, Irq, Halt, Req. -/
structure Pn where
  p0 : Bool
  p1 : Bool
  p2 : Bool
  p3 : Bool
  p4 : Bool
  p5 : Bool
deriving DecidableEq
abbrev Pn.cells (x : Pn) : Array Value := #[.bool x.p0, .bool x.p1, .bool x.p2, .bool x.p3, .bool x.p4, .bool x.p5]
abbrev eN : Els Pn := ⟨fun x => [.bool x.p0, .bool x.p1, .bool x.p2, .bool x.p3, .bool x.p4, .bool x.p5], 6, fun _ => rfl, fun x u h => by
  simp only [List.mem_cons, List.not_mem_nil, or_false] at h
  rcases h with rfl | rfl | rfl | rfl | rfl | rfl <;> rfl, by decide⟩
theorem pn6_at {w wr : World} {B g off k : Nat} {x : Pn} (hB : Below B w wr) (hg : g < B)
    (CE : ∀ (j : Nat) (u : Value), (eN.enc x)[j]? = some u → w.cell? { block := g, off := off + (k * 6 + j) } = some u) :
    wr.cell? ⟨g, off + k * 6, none⟩ = some (.bool x.p0) ∧ wr.cell? ⟨g, off + k * 6 + 1, none⟩ = some (.bool x.p1) ∧ wr.cell? ⟨g, off + k * 6 + 2, none⟩ = some (.bool x.p2) ∧ wr.cell? ⟨g, off + k * 6 + 3, none⟩ = some (.bool x.p3) ∧ wr.cell? ⟨g, off + k * 6 + 4, none⟩ = some (.bool x.p4) ∧ wr.cell? ⟨g, off + k * 6 + 5, none⟩ = some (.bool x.p5) := by
  have key : ∀ (j : Nat) (u : Value), (eN.enc x)[j]? = some u → wr.cell? ⟨g, off + k * 6 + j, none⟩ = some u := fun j u h => by
    rw [Nat.add_assoc]
    exact (hB.cell (p := ⟨g, off + (k * 6 + j), none⟩) hg).trans (CE j u h)
  exact ⟨key 0 _ rfl, key 1 _ rfl, key 2 _ rfl, key 3 _ rfl, key 4 _ rfl, key 5 _ rfl⟩
theorem infoN : (Tryd.prog.info? 24).map (fun i => (i.zero, i.size, i.bytes)) = some (some (.agg #[.bool false, .bool false, .bool false, .bool false, .bool false, .bool false]), 6, 6) := by kernel_rfl
theorem wpList_appN {ops : Array Oper} {rest : List Oper} {o : Oper} {a : Act} {Q : Exit → Act → World → Prop} (hgd : o.guard = none) (w : World) (s x : Operand)
    (ho : o.op = .call { callee := .builtin .append, args := #[s, x], argTypes := #[22, 22] })
    (base : Nat) (v y : Value) (l m : List Pn) (hs : a.eval s = v) (hown : eN.Own 24 w base v l) (hx : a.eval x = y) (hr : eN.Rd w y m) (hn : l.length + m.length ≤ 1099511627776) (hbase : base ≤ w.heap.size)
    (h : ∀ v' w', eN.Own 24 w' base v' (l ++ m) → Below base w w' → w.grownBy w' v.ownBlock → (v'.ownBlock = v.ownBlock ∨ v'.ownBlock = some w.heap.size) → wpList Tryd.prog ops Q rest (a.put o.dst v') w') : wpList Tryd.prog ops Q (o :: rest) a w := by
  obtain ⟨i0, hi, hz0, hz1, hz2⟩ := info_parts infoN
  exact wpList_plain hgd fun _ hK => Els.app (E := eN) w s x 22 24 i0 _ 6 Tryd.underlying22 hi hz0 hz1 hz2 (by decide) rfl ho base v y l m hs hown hx hr hn hbase fun v' w' h2 h3 h4 h5 => hK _ _ (h v' w' h2 h3 h4 h5)
theorem levels_any (x : Pn) (w : World) : Calls Tryd.prog 17 #[.agg x.cells] w fun e w' => e = .returned (.agg x.cells) ∧ Below w.heap.size w w' := by
  obtain ⟨p0, p1, p2, p3, p4, p5⟩ := x
  go_enter Tryd.func17, Tryd.ntmps17
  go_wp2
  exact bodyPost_ret (v := .agg #[.bool p0, .bool p1, .bool p2, .bool p3, .bool p4, .bool p5]) (results_cell_row Tryd.results17 _ _ (w.heap.size + 1) 42 #[.bool p0, .bool p1, .bool p2, .bool p3, .bool p4, .bool p5] (0, 0) _ rfl (Blk.at1 _) Tryd.underlying42 rfl (by kernel_rfl)) rfl ⟨rfl, Below.alloc0 (Below.alloc0 (Below.refl _ _) _) _⟩
end Go.Proofs.YtnmgjgeniaheoaaDoor
