/- The law of package symbols over lists: helpers for its row. -/
import Derived.Test.YtopkjniegncokaaTbq
import Derived.Deep.CutBlock
import Derived.Deep.RegionHeld3
import Derived.BigQuiet
import Derived.Outline
namespace Go.Proofs.Ytopkjniegncokaa
open Go.ChangeShapes Go.WideShapes Go.ChangeAt Go.RowKit
set_option linter.unusedVariables false
theorem own_val {α : Type} {E : Els α} {t : TypeId} {w : World} {B : Nat} {v : Value} {l : List α} (h : E.Own t w B v l) (h0 : 0 < l.length) : ∃ q c, v = .slice (some ⟨q, 0, none⟩) l.length c ∧ l.length ≤ c := by
  rcases h.2 with ⟨_, hn⟩ | ⟨q, c, _, e, _, _, h5, _⟩
  · omega
  · exact ⟨q, c, e, h5⟩
theorem own_lit0 {α : Type} {E : Els α} (t : TypeId) (w : World) (B : Nat) (hB : B ≤ w.heap.size) : E.Own t (w.alloc (.cells #[] t)) B (.slice (some ⟨w.heap.size, 0, none⟩) 0 0) [] :=
  ⟨by simp [Els.cells], .inr ⟨w.heap.size, 0, #[], rfl, hB, heap_alloc_new w _, Nat.le_refl _, Nat.zero_le _, by simp, by simp [Els.cells]⟩⟩
theorem Els.Rd.windowP {α : Type} {E : Els α} {w : World} {A : Option Addr} {n c : Nat} {l : List α} (h : E.Rd w (.slice A n c) l) (hc : n ≤ c) (f t : Nat) (hf : f ≤ t) (ht : t ≤ n) :
    E.Rd w (sliced A f t c E.k) ((l.drop f).take (t - f)) := by
  rcases h with ⟨e, rfl⟩ | ⟨ad, c', e, hg, hcl⟩
  · injection e with e1 e2 e3
    subst e1 e2 e3
    obtain rfl : t = 0 := by omega
    obtain rfl : f = 0 := by omega
    exact .inl ⟨rfl, rfl⟩
  · injection e with e1 e2 e3
    subst e1 e2 e3
    have hl : ((l.drop f).take (t - f)).length = t - f := by rw [List.length_take, List.length_drop]; omega
    refine .inr ⟨if c = f then ad else ad.add (f * E.k), c - f, ?_, fun h0 => ?_, fun j u hj => ?_⟩
    · unfold sliced; rw [hl]; split <;> simp
    · obtain ⟨g, off, rfl, hlt⟩ := hg (by omega)
      rw [if_neg (by omega)]
      exact ⟨g, off + f * E.k, Els.add_pl _ _ _, hlt⟩
    · have h0 := E.cells_pos hj
      obtain ⟨g, off, rfl, hlt⟩ := hg (by omega)
      rw [if_neg (by omega), Els.add_pl, Els.add_pl]
      obtain ⟨x, h1, h2⟩ := E.cells_inv _ j u hj
      have hjt : j / E.k < t - f := by
        rcases Nat.lt_or_ge (j / E.k) (t - f) with q | q
        · exact q
        · rw [List.getElem?_eq_none (by omega)] at h1; cases h1
      rw [List.getElem?_take_of_lt hjt, List.getElem?_drop] at h1
      have hjm : j % E.k < E.k := Nat.mod_lt _ E.pos
      have := hcl ((f + j / E.k) * E.k + j % E.k) u (by rw [E.cells_at l _ x h1 _ hjm]; exact h2)
      rw [Els.add_pl] at this
      rw [← this]
      congr 2
      rw [Nat.add_mul, Nat.add_assoc, Nat.add_assoc, Nat.mul_comm (j / E.k), Nat.div_add_mod]
theorem own_apart {α : Type} {E : Els α} {t : TypeId} {w w' : World} {B : Nat} {u v : Value} {l : List α} (h : E.Own t w B v l) (hg : w.grownBy w' u.ownBlock) (hd : ∀ j, u.ownBlock = some j → v.ownBlock ≠ some j) : E.Own t w' B v l := by
  refine h.grown hg ?_
  by_cases hn : v.ownBlock = none
  · exact .inl hn
  · refine .inr fun e => ?_
    cases hu : u.ownBlock with
    | none => rw [hu] at e; exact hn e
    | some j => rw [hu] at e; exact hd j hu e
/-- One of two rows has grown. -/
theorem apart_grown {α : Type} {E : Els α} {t : TypeId} {w : World} {B : Nat} {u u' v : Value} {l : List α} {o : Obj} (h : E.Own t w B v l) (hd : ∀ j, u.ownBlock = some j → v.ownBlock ≠ some j) (e : u'.ownBlock = u.ownBlock ∨ u'.ownBlock = some (w.alloc o).heap.size) : ∀ j, u'.ownBlock = some j → v.ownBlock ≠ some j := fun j e2 e3 => by
  rcases e with e | e
  · rw [e] at e2; exact hd j e2 e3
  · rw [e] at e2
    injection e2 with e2
    have := (h.lt j e3).2
    rw [World.size_alloc] at e2
    omega
theorem apart_symm {u v : Value} (h : ∀ j, u.ownBlock = some j → v.ownBlock ≠ some j) : ∀ j, v.ownBlock = some j → u.ownBlock ≠ some j := fun j e e2 => h j e2 e
theorem slice_h41 (u : World) (A : Option Addr) (n c k : Nat) (h2 : k ≤ c) : (Instr.slice 22 (.slice A n c) none (some (.int .i64 (k : Int))) none).run Try.prog u = .ok (sliced A 0 k c 3) u := by
  have hs : (sizeOf (Try.prog.elem 22)).run Try.prog u = .ok 3 u := by kernel_rfl
  have ht : Try.prog.underlying 22 = some (.slice (Try.prog.elem 22)) := by kernel_rfl
  rw [run_slice_h u 22 A n c ht .i64 (k : Int) (by omega) (by omega), hs]
  rfl
theorem slice_l41 (u : World) (A : Option Addr) (n c f : Nat) (h1 : f + 1 ≤ n) (h2 : n ≤ c) : (Instr.slice 22 (.slice A n c) (some (.int .i64 ((f : Int) + 1))) none none).run Try.prog u = .ok (sliced A (f + 1) n c 3) u := by
  have hs : (sizeOf (Try.prog.elem 22)).run Try.prog u = .ok 3 u := by kernel_rfl
  have ht : Try.prog.underlying 22 = some (.slice (Try.prog.elem 22)) := by kernel_rfl
  rw [run_slice_l u 22 A n c ht .i64 ((f : Int) + 1) (by omega) (by omega), hs]
  rfl
theorem step_appP {ops : Array Oper} {o : Oper} {a : Act} {K : Act → World → Prop} {Q : Exit → Act → World → Prop} {E : Prop} (hgd : o.guard = none) (w : World) (s x : Operand)
    (ho : o.op = .call { callee := .builtin .append, args := #[s, x], argTypes := #[22, 22] })
    (base : Nat) (v y : Value) (l m : List PrV) (hs : a.eval s = v) (hown : eP.Own 29 w base v l) (hx : a.eval x = y) (hr : eP.Rd w y m) (hn : l.length + m.length ≤ 1099511627776) (hbase : base ≤ w.heap.size)
    (h : ∀ v' w', eP.Own 29 w' base v' (l ++ m) → Below base w w' → w.grownBy w' v.ownBlock → (v'.ownBlock = v.ownBlock ∨ v'.ownBlock = some w.heap.size) → K (a.put o.dst v') w') : if Region.wanted o (yielded ops a.tmps) = true then Oper.wp Try.prog o a w K Q else E := by
  rw [if_pos (by simp [Region.wanted, hgd])]
  obtain ⟨i0, hi, hz0, hz1, hz2⟩ := info_parts infoP
  exact Els.app (E := eP) w s x 22 29 i0 (.agg #[.string ⟨#[]⟩, .int .u16 0, .bool false]) 24 Try.underlying22 hi hz0 hz1 hz2 (by decide) rfl ho base v y l m hs hown hx hr hn hbase fun v' w' h2 h3 h4 h5 => h v' w' h2 h3 h4 h5
/-- The law's own row and its table, when the row has grown. -/
theorem TabP.app {w w' : World} {g n : Nat} {ob : Option Nat} {M : PrL} {v : Value} (h : TabP w g ob n M) (hg : w.grownBy w' v.ownBlock) (h1 : v.ownBlock ≠ some g) (h2 : ∀ b, ob = some b → v.ownBlock ≠ some b) : TabP w' g ob n M :=
  h.grown hg (fun e => h1 e.symm) (fun b e e2 => h2 b e e2.symm)
/-- How the law stands: its own row of pairs, and its table, hold the same. -/
structure StQ (w0 w : World) (B : Nat) (v : Value) (ob : Option Nat) (n : Nat) (M : PrL) : Prop where
  tab : TabP w w0.heap.size ob n M
  own : eP.Own 29 w B v (encM M)
  ne : ∀ b, ob = some b → v.ownBlock ≠ some b
  at_ : ∀ b, ob = some b → w0.heap.size ≤ b
  bel : Below w0.heap.size w0 w
  lt : w0.heap.size < B
  le : B ≤ w.heap.size
theorem StQ.neg {w0 w : World} {B n : Nat} {v : Value} {ob : Option Nat} {M : PrL} (h : StQ w0 w B v ob n M) : v.ownBlock ≠ some w0.heap.size := fun e => by
  have := (h.own.lt _ e).1; have := h.lt; omega
/-- A call on the table. -/
theorem StQ.turned {w0 w w' : World} {B n n' : Nat} {v : Value} {ob ob' : Option Nat} {M M' : PrL} (h : StQ w0 w B v ob n M) (ht : Turned w w' w0.heap.size ob ob') (h' : TabP w' w0.heap.size ob' n' M') :
    TabP w' w0.heap.size ob' n' M' ∧ eP.Own 29 w' B v (encM M) ∧ (∀ b, ob' = some b → v.ownBlock ≠ some b) ∧ (∀ b, ob' = some b → w0.heap.size ≤ b) ∧ Below w0.heap.size w0 w' ∧ B ≤ w'.heap.size := by
  obtain ⟨a1, a2⟩ := own_turned h.own ht h.neg h.ne
  obtain ⟨b1, b2⟩ := below_turned h.bel ht (Nat.le_refl _) h.at_
  obtain ⟨row, hg, _⟩ := ht
  exact ⟨h', a1, a2, b2, b1, Nat.le_trans h.le hg.size⟩
theorem StQ.same {w0 w w' : World} {B n n' : Nat} {v : Value} {ob ob' : Option Nat} {M : PrL} (h : StQ w0 w B v ob n M) (ht : Turned w w' w0.heap.size ob ob') (h' : TabP w' w0.heap.size ob' n' M) : StQ w0 w' B v ob' n' M := by
  obtain ⟨c1, c2, c3, c4, c5, c6⟩ := h.turned ht h'
  exact ⟨c1, c2, c3, c4, c5, h.lt, c6⟩
/-- The row appended to. -/
theorem StQ.append {w0 w w' : World} {B n : Nat} {v v' : Value} {ob : Option Nat} {M : PrL} {o : Obj} (h : StQ w0 w B v ob n M) (l : List PrV) (h1 : eP.Own 29 w' B v' l) (h2 : (w.alloc o).grownBy w' v.ownBlock) (h3 : v'.ownBlock = v.ownBlock ∨ v'.ownBlock = some (w.alloc o).heap.size) :
    TabP w' w0.heap.size ob n M ∧ (∀ b, ob = some b → v'.ownBlock ≠ some b) ∧ Below w0.heap.size w0 w' ∧ B ≤ w'.heap.size := by
  have ht := h.tab.below (Below.alloc0 (Below.refl _ _) o)
  have hl := h.tab.lts
  refine ⟨ht.app h2 h.neg h.ne, fun b e => ?_, (Below.alloc0 h.bel o).grown h2 (by have := h.bel.size; simp; omega) (fun j e => ?_), ?_⟩
  · rcases h3 with h3 | h3
    · rw [h3]; exact h.ne b e
    · rw [h3]; intro e2; injection e2 with e2; have := hl.2 b e; simp at e2; omega
  · have := (h.own.lt j e).1; have := h.lt; omega
  · have q1 := h2.size; have q2 := h.le; rw [World.size_alloc] at q1; omega
theorem StQ.drewN {w0 w : World} {B n : Nat} {v : Value} {ob : Option Nat} {M : PrL} (h : StQ w0 w B v ob n M) (k : Nat) : StQ w0 (w.drewN k) B v ob n M :=
  ⟨h.tab.below (Below.drewN0 (Below.refl _ _) k), h.own.drewN k, h.ne, h.at_, Below.drewN0 h.bel k, h.lt, h.le⟩
theorem StQ.more {w0 w : World} {B n : Nat} {v : Value} {ob : Option Nat} {M : PrL} (h : StQ w0 w B v ob n M) (h0 : 0 < M.length) : ∃ q c, v = .slice (some ⟨q, 0, none⟩) M.length c ∧ ∀ k p, M[k]? = some p → w.cell? ⟨q, k * 3, none⟩ = some (.string p.1) ∧ w.cell? ⟨q, k * 3 + 1, none⟩ = some (.int .u16 p.2) := by
  obtain ⟨q, c, e, _⟩ := own_val h.own (by rw [encM_len]; exact h0)
  rw [encM_len] at e
  subst e
  obtain ⟨A, c', hv, hc⟩ := h.own.rd.open_
  injection hv with e1 e2 e3
  subst e1
  obtain ⟨g, off, e, hlt, hcell⟩ := hc (by rw [encM_len]; exact h0)
  injection e with e
  injection e with e4 e5
  subst e4 e5
  refine ⟨q, c, rfl, fun k p hp => ?_⟩
  have hk : (encM M)[k]? = some (p.1, p.2, false) := by rw [encM_at, hp]; rfl
  have c0 := hcell k _ hk 0 (.string p.1) rfl
  have c1 := hcell k _ hk 1 (.int .u16 p.2) rfl
  refine ⟨?_, ?_⟩
  · rw [← c0]; congr 2; show k * 3 = 0 + (k * 3 + 0); omega
  · rw [← c1]; congr 2; show k * 3 + 1 = 0 + (k * 3 + 1); omega
/-- A new row made by two appends, beside the table. -/
theorem tab_two {w0 w w1 w2 : World} {B n : Nat} {v1 v2 : Value} {ob : Option Nat} {M : PrL} {o : Obj} (h : TabP w w0.heap.size ob n M) (ha : ∀ b, ob = some b → w0.heap.size ≤ b) (hb : Below w0.heap.size w0 w) (hB : B ≤ w.heap.size)
    (g1 : (w.alloc o).drew.grownBy w1 (some w.heap.size)) (e1 : v1.ownBlock = some w.heap.size ∨ v1.ownBlock = some (w.alloc o).drew.heap.size) (g2 : w1.grownBy w2 v1.ownBlock) (e2 : v2.ownBlock = v1.ownBlock ∨ v2.ownBlock = some w1.heap.size) :
    TabP w2 w0.heap.size ob n M ∧ (∀ b, ob = some b → v2.ownBlock ≠ some b) ∧ Below w0.heap.size w0 w2 ∧ B ≤ w2.heap.size := by
  have hl := h.lts
  have s0 : (w.alloc o).drew.heap.size = w.heap.size + 1 := by simp
  have s1 := g1.size
  have s2 := g2.size
  have hf : ∀ j, v1.ownBlock = some j → w.heap.size ≤ j := fun j e => by
    rcases e1 with e1 | e1 <;> (rw [e1] at e; injection e with e; omega)
  have t1 := (h.below (Below.drew0 (Below.alloc0 (Below.refl _ _) o))).grown g1 (by intro e; injection e with e; omega) (fun b e e2 => by injection e2 with e2; have := hl.2 b e; omega)
  have t2 := t1.app g2 (fun e => by have := hf _ e; omega) (fun b e e2 => by have := hf _ e2; have := hl.2 b e; omega)
  refine ⟨t2, fun b e e3 => ?_, ?_, by omega⟩
  · have := hl.2 b e
    rcases e2 with e2 | e2
    · rw [e2] at e3; have := hf _ e3; omega
    · rw [e2] at e3; injection e3 with e3; omega
  · have b1 := (Below.drew0 (Below.alloc0 hb o)).grown g1 (by have := hb.size; simp; omega) (fun j e => by injection e with e; have := hb.size; omega)
    exact b1.grown g2 (by have := hb.size; omega) (fun j e => by have := hf _ e; have := hb.size; omega)
end Go.Proofs.Ytopkjniegncokaa
