/- Records: nine cells each; rows of them read, appended to, opened. -/
import Derived.Test.YtnmgjgeniaheoaaDoorStc
import Derived.Test.YtnmgjgeniaheoaaDoorRws
import Derived.Deep.Slices
namespace Go.Proofs.YtnmgjgeniaheoaaDoor
open Go.ChangeShapes Go.WideShapes Go.ChangeAt Go.RowKit
set_option linter.unusedVariables false

/-- A record: address, byte, Read, BA, BS, LIC, AVMA, BUSY, Mine. -/
structure Rc where
  a : Int
  d : Int
  r : Bool
  b1 : Bool
  b2 : Bool
  b3 : Bool
  b4 : Bool
  b5 : Bool
  m : Bool
abbrev Rc.cells (x : Rc) : Array Value := #[.int .u16 x.a, .int .u8 x.d, .bool x.r, .bool x.b1, .bool x.b2, .bool x.b3, .bool x.b4, .bool x.b5, .bool x.m]
abbrev Rc.lv (x : Rc) : Array Value := #[.bool x.r, .bool x.b1, .bool x.b2, .bool x.b3, .bool x.b4, .bool x.b5, .bool x.m]
structure Rc.Ok (x : Rc) : Prop where
  a0 : 0 ≤ x.a
  a1 : x.a < 65536
  d0 : 0 ≤ x.d
  d1 : x.d < 256
theorem World.cell?_alloc_of {w : World} (o : Obj) (g i : Nat) {v : Value} (h : w.cell? ⟨g, i, none⟩ = some v) : (w.alloc o).cell? ⟨g, i, none⟩ = some v := (World.cell?_alloc_lt w o ⟨g, i, none⟩ (cell_lt h)).trans h
abbrev eR : Els Rc := ⟨fun x => [.int .u16 x.a, .int .u8 x.d, .bool x.r, .bool x.b1, .bool x.b2, .bool x.b3, .bool x.b4, .bool x.b5, .bool x.m], 9, fun _ => rfl, fun x u h => by
  simp only [List.mem_cons, List.not_mem_nil, or_false] at h
  rcases h with rfl | rfl | rfl | rfl | rfl | rfl | rfl | rfl | rfl <;> rfl, by decide⟩
theorem rc9_at {w wr : World} {B g off k : Nat} {x : Rc} (hB : Below B w wr) (hg : g < B)
    (CE : ∀ (j : Nat) (u : Value), [Value.int IntKind.u16 x.a, Value.int IntKind.u8 x.d, Value.bool x.r, Value.bool x.b1, Value.bool x.b2, Value.bool x.b3, Value.bool x.b4, Value.bool x.b5, Value.bool x.m][j]? = some u → w.cell? { block := g, off := off + (k * 9 + j) } = some u) :
    wr.cell? ⟨g, off + k * 9, none⟩ = some (.int .u16 x.a) ∧ wr.cell? ⟨g, off + k * 9 + 1, none⟩ = some (.int .u8 x.d) ∧ wr.cell? ⟨g, off + k * 9 + 2, none⟩ = some (.bool x.r) ∧ wr.cell? ⟨g, off + k * 9 + 3, none⟩ = some (.bool x.b1) ∧ wr.cell? ⟨g, off + k * 9 + 4, none⟩ = some (.bool x.b2) ∧ wr.cell? ⟨g, off + k * 9 + 5, none⟩ = some (.bool x.b3) ∧ wr.cell? ⟨g, off + k * 9 + 6, none⟩ = some (.bool x.b4) ∧ wr.cell? ⟨g, off + k * 9 + 7, none⟩ = some (.bool x.b5) ∧ wr.cell? ⟨g, off + k * 9 + 8, none⟩ = some (.bool x.m) := by
  have key : ∀ (j : Nat) (u : Value), [Value.int IntKind.u16 x.a, Value.int IntKind.u8 x.d, Value.bool x.r, Value.bool x.b1, Value.bool x.b2, Value.bool x.b3, Value.bool x.b4, Value.bool x.b5, Value.bool x.m][j]? = some u → wr.cell? ⟨g, off + k * 9 + j, none⟩ = some u := fun j u h => by
    rw [Nat.add_assoc]
    exact (hB.cell (p := ⟨g, off + (k * 9 + j), none⟩) hg).trans (CE j u h)
  exact ⟨key 0 _ rfl, key 1 _ rfl, key 2 _ rfl, key 3 _ rfl, key 4 _ rfl, key 5 _ rfl, key 6 _ rfl, key 7 _ rfl, key 8 _ rfl⟩
end Go.Proofs.YtnmgjgeniaheoaaDoor
