/- Records: nine cells each; rows of them read, appended to, opened. -/
import Derived.Test.YtlgaedhbgkhmeaaStc
import Derived.Test.YtlgaedhbgkhmeaaRws
import Derived.Deep.Slices
namespace Go.Proofs.Ytlgaedhbgkhmeaa
open Go.ChangeShapes Go.WideShapes Go.ChangeAt Go.RowKit
set_option linter.unusedVariables false

/-- A record: address, byte, Read, BA, BS, LIC, AVMA, BUSY, Mine. -/
structure Rc where
  a : Int
  d : Int
  r : Bool
  b1 : Bool
  b2 : Bool
  b3 : Bool
  b4 : Bool
  b5 : Bool
  m : Bool
abbrev Rc.cells (x : Rc) : Array Value := #[.int .u16 x.a, .int .u8 x.d, .bool x.r, .bool x.b1, .bool x.b2, .bool x.b3, .bool x.b4, .bool x.b5, .bool x.m]
abbrev Rc.lv (x : Rc) : Array Value := #[.bool x.r, .bool x.b1, .bool x.b2, .bool x.b3, .bool x.b4, .bool x.b5, .bool x.m]
structure Rc.Ok (x : Rc) : Prop where
  a0 : 0 ≤ x.a
  a1 : x.a < 65536
  d0 : 0 ≤ x.d
  d1 : x.d < 256
theorem World.cell?_alloc_of {w : World} (o : Obj) (g i : Nat) {v : Value} (h : w.cell? ⟨g, i, none⟩ = some v) : (w.alloc o).cell? ⟨g, i, none⟩ = some v := (World.cell?_alloc_lt w o ⟨g, i, none⟩ (cell_lt h)).trans h
abbrev eR : Els Rc := ⟨fun x => [.int .u16 x.a, .int .u8 x.d, .bool x.r, .bool x.b1, .bool x.b2, .bool x.b3, .bool x.b4, .bool x.b5, .bool x.m], 9, fun _ => rfl, fun x u h => by
  simp only [List.mem_cons, List.not_mem_nil, or_false] at h
  rcases h with rfl | rfl | rfl | rfl | rfl | rfl | rfl | rfl | rfl <;> rfl, by decide⟩
theorem rc9_at {w wr : World} {B g off k : Nat} {x : Rc} (hB : Below B w wr) (hg : g < B)
    (CE : ∀ (j : Nat) (u : Value), [Value.int IntKind.u16 x.a, Value.int IntKind.u8 x.d, Value.bool x.r, Value.bool x.b1, Value.bool x.b2, Value.bool x.b3, Value.bool x.b4, Value.bool x.b5, Value.bool x.m][j]? = some u → w.cell? { block := g, off := off + (k * 9 + j) } = some u) :
    wr.cell? ⟨g, off + k * 9, none⟩ = some (.int .u16 x.a) ∧ wr.cell? ⟨g, off + k * 9 + 1, none⟩ = some (.int .u8 x.d) ∧ wr.cell? ⟨g, off + k * 9 + 2, none⟩ = some (.bool x.r) ∧ wr.cell? ⟨g, off + k * 9 + 3, none⟩ = some (.bool x.b1) ∧ wr.cell? ⟨g, off + k * 9 + 4, none⟩ = some (.bool x.b2) ∧ wr.cell? ⟨g, off + k * 9 + 5, none⟩ = some (.bool x.b3) ∧ wr.cell? ⟨g, off + k * 9 + 6, none⟩ = some (.bool x.b4) ∧ wr.cell? ⟨g, off + k * 9 + 7, none⟩ = some (.bool x.b5) ∧ wr.cell? ⟨g, off + k * 9 + 8, none⟩ = some (.bool x.m) := by
  have key : ∀ (j : Nat) (u : Value), [Value.int IntKind.u16 x.a, Value.int IntKind.u8 x.d, Value.bool x.r, Value.bool x.b1, Value.bool x.b2, Value.bool x.b3, Value.bool x.b4, Value.bool x.b5, Value.bool x.m][j]? = some u → wr.cell? ⟨g, off + k * 9 + j, none⟩ = some u := fun j u h => by
    rw [Nat.add_assoc]
    exact (hB.cell (p := ⟨g, off + (k * 9 + j), none⟩) hg).trans (CE j u h)
  exact ⟨key 0 _ rfl, key 1 _ rfl, key 2 _ rfl, key 3 _ rfl, key 4 _ rfl, key 5 _ rfl, key 6 _ rfl, key 7 _ rfl, key 8 _ rfl⟩
theorem infoR : (Try.prog.info? 51).map (fun i => (i.zero, i.size, i.bytes)) = some (some (.agg #[.int .u16 0, .int .u8 0, .bool false, .bool false, .bool false, .bool false, .bool false, .bool false, .bool false]), 9, 10) := by kernel_rfl
theorem made_R (w : World) (c : Nat) (hc : c ≤ 1099511627776) : ∃ Z, (Instr.makeSlice 29 (.int .i64 0) (.int .i64 (c : Int))).run Try.prog w = .ok (.slice (some ⟨w.heap.size, 0, none⟩) 0 c) (w.alloc Z) ∧ ∀ base, base ≤ w.heap.size → eR.Own 51 (w.alloc Z) base (.slice (some ⟨w.heap.size, 0, none⟩) 0 c) [] := by
  obtain ⟨i0, hi, hz0, hz1, hz2⟩ := info_parts infoR
  exact Els.made (E := eR) w 29 51 i0 _ 10 Try.underlying29 hi hz0 hz1 hz2 (by decide) (by decide) c hc
theorem step_appR {ops : Array Oper} {o : Oper} {a : Act} {K : Act → World → Prop} {Q : Exit → Act → World → Prop} {E : Prop} (hgd : o.guard = none) (w : World) (s x : Operand)
    (ho : o.op = .call { callee := .builtin .append, args := #[s, x], argTypes := #[29, 29] })
    (base : Nat) (v y : Value) (l m : List Rc) (hs : a.eval s = v) (hown : eR.Own 51 w base v l) (hx : a.eval x = y) (hr : eR.Rd w y m) (hn : l.length + m.length ≤ 1099511627776) (hbase : base ≤ w.heap.size)
    (h : ∀ v' w', eR.Own 51 w' base v' (l ++ m) → Below base w w' → w.grownBy w' v.ownBlock → (v'.ownBlock = v.ownBlock ∨ v'.ownBlock = some w.heap.size) → K (a.put o.dst v') w') : if Region.wanted o (yielded ops a.tmps) = true then Oper.wp Try.prog o a w K Q else E := by
  obtain ⟨i0, hi, hz0, hz1, hz2⟩ := info_parts infoR
  rw [if_pos (by simp [Region.wanted, hgd])]
  exact Els.app (E := eR) w s x 29 51 i0 _ 10 Try.underlying29 hi hz0 hz1 hz2 (by decide) rfl ho base v y l m hs hown hx hr hn hbase h
theorem open_recs {H : Type} {ee : TypeId × Value → H} {W : World} {base : Nat} {sp : Nat → Bool} {held : Bool} {fuel : Nat} {A : Option Addr} {n c : Nat} {x : DataW H × List MemPlace} (h : DataW.trod ee Try.prog W base sp held fuel 29 (Value.slice A n c).cells.toList = some x) :
    ∃ l, eR.In Rc.Ok W A n c l :=
  Els.open_in (E := eR) Rc.Ok Try.underlying29 (by kernel_rfl) (fun n cs x hl h => by
    match cs, hl with
    | [c0, c1, c2, c3, c4, c5, c6, c7, c8], _ =>
      obtain ⟨ys, m, _, _, _, hlen, hf⟩ := DataW.trod_struct Try.underlying51 h
      have k16 : Try.prog.cellsOf 23 = 1 := by kernel_rfl
      have k8 : Try.prog.cellsOf 5 = 1 := by kernel_rfl
      have kb : Try.prog.cellsOf 4 = 1 := by kernel_rfl
      match ys, hlen with
      | [y0, y1, y2, y3, y4, y5, y6, y7, y8], _ =>
        have h0 : DataW.trod ee Try.prog W base sp held m 23 (([c0, c1, c2, c3, c4, c5, c6, c7, c8].drop 0).take (Try.prog.cellsOf 23)) = some y0 := hf 0 _ rfl
        rw [k16] at h0
        change DataW.trod ee Try.prog W base sp held m 23 [c0] = some y0 at h0
        have h1 : DataW.trod ee Try.prog W base sp held m 5 (([c0, c1, c2, c3, c4, c5, c6, c7, c8].drop 1).take (Try.prog.cellsOf 5)) = some y1 := hf 1 _ rfl
        rw [k8] at h1
        change DataW.trod ee Try.prog W base sp held m 5 [c1] = some y1 at h1
        have h2 : DataW.trod ee Try.prog W base sp held m 4 (([c0, c1, c2, c3, c4, c5, c6, c7, c8].drop 2).take (Try.prog.cellsOf 4)) = some y2 := hf 2 _ rfl
        rw [kb] at h2
        change DataW.trod ee Try.prog W base sp held m 4 [c2] = some y2 at h2
        have h3 : DataW.trod ee Try.prog W base sp held m 4 (([c0, c1, c2, c3, c4, c5, c6, c7, c8].drop 3).take (Try.prog.cellsOf 4)) = some y3 := hf 3 _ rfl
        rw [kb] at h3
        change DataW.trod ee Try.prog W base sp held m 4 [c3] = some y3 at h3
        have h4 : DataW.trod ee Try.prog W base sp held m 4 (([c0, c1, c2, c3, c4, c5, c6, c7, c8].drop 4).take (Try.prog.cellsOf 4)) = some y4 := hf 4 _ rfl
        rw [kb] at h4
        change DataW.trod ee Try.prog W base sp held m 4 [c4] = some y4 at h4
        have h5 : DataW.trod ee Try.prog W base sp held m 4 (([c0, c1, c2, c3, c4, c5, c6, c7, c8].drop 5).take (Try.prog.cellsOf 4)) = some y5 := hf 5 _ rfl
        rw [kb] at h5
        change DataW.trod ee Try.prog W base sp held m 4 [c5] = some y5 at h5
        have h6 : DataW.trod ee Try.prog W base sp held m 4 (([c0, c1, c2, c3, c4, c5, c6, c7, c8].drop 6).take (Try.prog.cellsOf 4)) = some y6 := hf 6 _ rfl
        rw [kb] at h6
        change DataW.trod ee Try.prog W base sp held m 4 [c6] = some y6 at h6
        have h7 : DataW.trod ee Try.prog W base sp held m 4 (([c0, c1, c2, c3, c4, c5, c6, c7, c8].drop 7).take (Try.prog.cellsOf 4)) = some y7 := hf 7 _ rfl
        rw [kb] at h7
        change DataW.trod ee Try.prog W base sp held m 4 [c7] = some y7 at h7
        have h8 : DataW.trod ee Try.prog W base sp held m 4 (([c0, c1, c2, c3, c4, c5, c6, c7, c8].drop 8).take (Try.prog.cellsOf 4)) = some y8 := hf 8 _ rfl
        rw [kb] at h8
        change DataW.trod ee Try.prog W base sp held m 4 [c8] = some y8 at h8
        obtain ⟨a, e0, _, wa⟩ := DataW.trod_int Try.underlying23 h0
        obtain ⟨d, e1, _, wd⟩ := DataW.trod_int Try.underlying5 h1
        obtain ⟨r, e2, _⟩ := DataW.trod_bool Try.underlying4 h2
        obtain ⟨b1, e3, _⟩ := DataW.trod_bool Try.underlying4 h3
        obtain ⟨b2, e4, _⟩ := DataW.trod_bool Try.underlying4 h4
        obtain ⟨b3, e5, _⟩ := DataW.trod_bool Try.underlying4 h5
        obtain ⟨b4, e6, _⟩ := DataW.trod_bool Try.underlying4 h6
        obtain ⟨b5, e7, _⟩ := DataW.trod_bool Try.underlying4 h7
        obtain ⟨mm, e8, _⟩ := DataW.trod_bool Try.underlying4 h8
        simp only [List.cons.injEq, and_true] at e0 e1 e2 e3 e4 e5 e6 e7 e8
        subst e0 e1 e2 e3 e4 e5 e6 e7 e8
        have q0 := bounds_u16 wa
        have q1 := bounds_u8 wd
        exact ⟨⟨a, d, r, b1, b2, b3, b4, b5, mm⟩, rfl, ⟨q0.1, Int.lt_add_one_of_le q0.2, q1.1, Int.lt_add_one_of_le q1.2⟩⟩) h
end Go.Proofs.Ytlgaedhbgkhmeaa
