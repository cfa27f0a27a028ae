/- Points at addresses: the calls, opened. -/
import Derived.Test.YteaajmoclgfhnaaWaz
import Derived.Deep.RegionHeld3
namespace Go.Proofs.Yteaajmoclgfhnaa
open Go.ChangeShapes Go.WideShapes Go.ChangeAt Go.RowKit
set_option linter.unusedVariables false

/-- A call: Drop; the point's number, kind, begin, end. -/
structure OpV where
  d : Bool
  n : Int
  k : Int
  f : Int
  t : Int
abbrev eO : Els OpV := ⟨fun x => [.bool x.d, .int .i64 x.n, .int .i64 x.k, .int .u16 x.f, .int .u16 x.t], 5, fun _ => rfl, fun x u h => by
  simp only [List.mem_cons, List.not_mem_nil, or_false] at h
  rcases h with rfl | rfl | rfl | rfl | rfl <;> rfl, by decide⟩
theorem op5_at {w wr : World} {B g off k : Nat} {x : OpV} (hB : Below B w wr) (hg : g < B)
    (CE : ∀ (j : Nat) (u : Value), [Value.bool x.d, Value.int IntKind.i64 x.n, Value.int IntKind.i64 x.k, Value.int IntKind.u16 x.f, Value.int IntKind.u16 x.t][j]? = some u → w.cell? { block := g, off := off + (k * 5 + j) } = some u) :
    wr.cell? ⟨g, off + k * 5, none⟩ = some (.bool x.d) ∧ wr.cell? ⟨g, off + k * 5 + 1, none⟩ = some (.int .i64 x.n) ∧ wr.cell? ⟨g, off + k * 5 + 1 + 1, none⟩ = some (.int .i64 x.k) ∧ wr.cell? ⟨g, off + k * 5 + 1 + 2, none⟩ = some (.int .u16 x.f) ∧ wr.cell? ⟨g, off + k * 5 + 1 + 3, none⟩ = some (.int .u16 x.t) := by
  have key : ∀ (j : Nat) (u : Value), [Value.bool x.d, Value.int IntKind.i64 x.n, Value.int IntKind.i64 x.k, Value.int IntKind.u16 x.f, Value.int IntKind.u16 x.t][j]? = some u → wr.cell? ⟨g, off + k * 5 + j, none⟩ = some u := fun j u h => by
    rw [Nat.add_assoc]
    exact (hB.cell (p := ⟨g, off + (k * 5 + j), none⟩) hg).trans (CE j u h)
  exact ⟨key 0 _ rfl, key 1 _ rfl, key 2 _ rfl, key 3 _ rfl, key 4 _ rfl⟩
theorem open_ops49 {H : Type} {ee : TypeId × Value → H} {W : World} {base : Nat} {sp : Nat → Bool} {held : Bool} {fuel : Nat} {A : Option Addr} {n c : Nat} {x : DataW H × List MemPlace} (h : DataW.trod ee Try.prog W base sp held fuel 45 (Value.slice A n c).cells.toList = some x) :
    ∃ l, eO.In (fun _ => True) W A n c l :=
  Els.open_in (E := eO) (fun _ => True) Try.underlying45 (by kernel_rfl) (fun n cs x hl h => by
    match cs, hl with
    | [c0, c1, c2, c3, c4], _ =>
      obtain ⟨ys, m, _, _, _, hlen, hf⟩ := DataW.trod_struct Try.underlying90 h
      have k16 : Try.prog.cellsOf 23 = 1 := by kernel_rfl
      have ki : Try.prog.cellsOf 3 = 1 := by kernel_rfl
      have kb : Try.prog.cellsOf 4 = 1 := by kernel_rfl
      have kp : Try.prog.cellsOf 88 = 4 := by kernel_rfl
      match ys, hlen with
      | [y0, y1], _ =>
        have h0 : DataW.trod ee Try.prog W base sp held m 4 (([c0, c1, c2, c3, c4].drop 0).take (Try.prog.cellsOf 4)) = some y0 := hf 0 _ rfl
        rw [kb] at h0
        change DataW.trod ee Try.prog W base sp held m 4 [c0] = some y0 at h0
        have h1 : DataW.trod ee Try.prog W base sp held m 88 (([c0, c1, c2, c3, c4].drop 1).take (Try.prog.cellsOf 88)) = some y1 := hf 1 _ rfl
        rw [kp] at h1
        change DataW.trod ee Try.prog W base sp held m 88 [c1, c2, c3, c4] = some y1 at h1
        obtain ⟨zs, m', _, _, _, hlen', hf'⟩ := DataW.trod_struct Try.underlying88 h1
        match zs, hlen' with
        | [z0, z1, z2, z3], _ =>
          have g0 : DataW.trod ee Try.prog W base sp held m' 3 (([c1, c2, c3, c4].drop 0).take (Try.prog.cellsOf 3)) = some z0 := hf' 0 _ rfl
          rw [ki] at g0
          change DataW.trod ee Try.prog W base sp held m' 3 [c1] = some z0 at g0
          have g1 : DataW.trod ee Try.prog W base sp held m' 3 (([c1, c2, c3, c4].drop 1).take (Try.prog.cellsOf 3)) = some z1 := hf' 1 _ rfl
          rw [ki] at g1
          change DataW.trod ee Try.prog W base sp held m' 3 [c2] = some z1 at g1
          have g2 : DataW.trod ee Try.prog W base sp held m' 23 (([c1, c2, c3, c4].drop 2).take (Try.prog.cellsOf 23)) = some z2 := hf' 2 _ rfl
          rw [k16] at g2
          change DataW.trod ee Try.prog W base sp held m' 23 [c3] = some z2 at g2
          have g3 : DataW.trod ee Try.prog W base sp held m' 23 (([c1, c2, c3, c4].drop 3).take (Try.prog.cellsOf 23)) = some z3 := hf' 3 _ rfl
          rw [k16] at g3
          change DataW.trod ee Try.prog W base sp held m' 23 [c4] = some z3 at g3
          obtain ⟨d, e0, _⟩ := DataW.trod_bool Try.underlying4 h0
          obtain ⟨n, e1, _, _⟩ := DataW.trod_int Try.underlying3 g0
          obtain ⟨k, e2, _, _⟩ := DataW.trod_int Try.underlying3 g1
          obtain ⟨f, e3, _, _⟩ := DataW.trod_int Try.underlying23 g2
          obtain ⟨t, e4, _, _⟩ := DataW.trod_int Try.underlying23 g3
          simp only [List.cons.injEq, and_true] at e0 e1 e2 e3 e4
          subst e0 e1 e2 e3 e4
          exact ⟨⟨d, n, k, f, t⟩, rfl, trivial⟩) h
end Go.Proofs.Yteaajmoclgfhnaa
