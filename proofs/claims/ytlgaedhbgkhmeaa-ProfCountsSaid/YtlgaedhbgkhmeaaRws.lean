/- Rows of any elements (an element is so many cells): read as a list, of the call's own, appended to, made; and an argument that is such a row, opened. -/
import Derived.Test.YtlgaedhbgkhmeaaOwn
import Derived.Deep.Slices
import Derived.Outline
namespace Go.Proofs.Ytlgaedhbgkhmeaa
open Go.ChangeShapes Go.WideShapes Go.ChangeAt Go.RowKit
set_option linter.unusedVariables false

/-- How an element lies in memory: its cells. -/
structure Els (α : Type) where
  enc : α → List Value
  k : Nat
  len : ∀ x, (enc x).length = k
  one : ∀ x, ∀ u ∈ enc x, u.oneCell' = true
  pos : 0 < k
namespace Els
variable {α : Type} (E : Els α)
def cells (l : List α) : List Value := l.flatMap E.enc
theorem cells_nil : E.cells [] = [] := rfl
theorem cells_append (l m : List α) : E.cells (l ++ m) = E.cells l ++ E.cells m := by simp [cells]
theorem cells_cons (x : α) (l : List α) : E.cells (x :: l) = E.enc x ++ E.cells l := by simp [cells]
theorem cells_len (l : List α) : (E.cells l).length = l.length * E.k := by
  induction l with
  | nil => simp [cells]
  | cons x l ih => rw [cells_cons, List.length_append, ih, List.length_cons, E.len, Nat.succ_mul, Nat.add_comm]
theorem cells_one (l : List α) : ∀ u ∈ E.cells l, u.oneCell' = true := by
  intro u hu
  simp only [cells, List.mem_flatMap] at hu
  obtain ⟨x, _, hx⟩ := hu
  exact E.one x u hx
theorem cells_at (l : List α) : ∀ (i : Nat) (x : α), l[i]? = some x → ∀ j, j < E.k → (E.cells l)[i * E.k + j]? = (E.enc x)[j]? := by
  induction l with
  | nil => intro i x h; simp at h
  | cons y l ih =>
    intro i x h j hj
    rw [cells_cons]
    cases i with
    | zero =>
      obtain rfl : y = x := by simpa using h
      rw [Nat.zero_mul, Nat.zero_add, List.getElem?_append_left (by rw [E.len]; exact hj)]
    | succ i =>
      have := ih i x (by simpa using h) j hj
      rw [List.getElem?_append_right (by rw [E.len, Nat.succ_mul]; omega), E.len, ← this]
      congr 1
      rw [Nat.succ_mul]; omega
theorem cells_inv (l : List α) (j : Nat) (u : Value) (h : (E.cells l)[j]? = some u) : ∃ x, l[j / E.k]? = some x ∧ (E.enc x)[j % E.k]? = some u := by
  have hp := E.pos
  have hj : j < l.length * E.k := by
    rcases Nat.lt_or_ge j (l.length * E.k) with a | a
    · exact a
    · rw [List.getElem?_eq_none (by rw [E.cells_len]; exact a)] at h; cases h
  have hi : j / E.k < l.length := (Nat.div_lt_iff_lt_mul hp).2 hj
  refine ⟨l[j / E.k], List.getElem?_eq_getElem hi, ?_⟩
  have := E.cells_at l (j / E.k) _ (List.getElem?_eq_getElem hi) (j % E.k) (Nat.mod_lt _ hp)
  rw [← this, ← h, Nat.mul_comm, Nat.div_add_mod]
/-- The slice value reads, in this world, as this list. -/
def Rd (w : World) (v : Value) (l : List α) : Prop :=
  (v = .slice none 0 0 ∧ l = []) ∨ ∃ ad c, v = .slice (some ad) l.length c ∧ (0 < l.length → ∃ g off, ad = ⟨g, off, none⟩ ∧ g < w.heap.size) ∧ ∀ j u, (E.cells l)[j]? = some u → w.cell? (ad.add j) = some u
/-- A slice of the call's own. -/
def Own (t : TypeId) (w : World) (base : Nat) (v : Value) (l : List α) : Prop := w.ownsRow base t E.k v l.length (E.cells l)
theorem add_pl (g off j : Nat) : (⟨g, off, none⟩ : Addr).add j = ⟨g, off + j, none⟩ := by unfold Addr.add; split <;> simp_all
variable {E}
theorem cells_pos {l : List α} {j : Nat} {u : Value} (h : (E.cells l)[j]? = some u) : 0 < l.length := by
  cases l with
  | nil => simp [cells] at h
  | cons x l => simp
section
variable {w w' : World} {base : Nat} {v : Value} {l : List α} {t : TypeId}
theorem Own.nil_ (w : World) (base : Nat) : E.Own t w base (.slice none 0 0) [] := World.ownsRow_nil w base _ E.k
theorem Own.alloc (h : E.Own t w base v l) (o : Obj) : E.Own t (w.alloc o) base v l := World.ownsRow.alloc h o
theorem Own.drew (h : E.Own t w base v l) : E.Own t w.drew base v l := h
theorem Own.drewN (h : E.Own t w base v l) (n : Nat) : E.Own t (w.drewN n) base v l := h
theorem Own.lt (h : E.Own t w base v l) : ∀ g, v.ownBlock = some g → base ≤ g ∧ g < w.heap.size := World.ownsRow.lt h
theorem Own.grown {row : Option Nat} (h : E.Own t w base v l) (hg : w.grownBy w' row) (hne : v.ownBlock = none ∨ v.ownBlock ≠ row) : E.Own t w' base v l := World.ownsRow.kept h hg hne
theorem Own.below (h : E.Own t w base v l) (hb : Below w.heap.size w w') : E.Own t w' base v l := by
  have hlt := h.lt
  obtain ⟨hl, h2⟩ := h
  refine ⟨hl, ?_⟩
  rcases h2 with h2 | ⟨g, cap, cur, rfl, h3, h4, h5⟩
  · exact .inl h2
  · exact .inr ⟨g, cap, cur, rfl, h3, (hb.block g (hlt g rfl).2).trans h4, h5⟩
theorem Own.more {base' : Nat} (h : E.Own t w base v l) (hb : base' ≤ base) : E.Own t w base' v l := by
  obtain ⟨hl, h2⟩ := h
  refine ⟨hl, ?_⟩
  rcases h2 with h2 | ⟨g, cap, cur, rfl, h3, h4⟩
  · exact .inl h2
  · exact .inr ⟨g, cap, cur, rfl, Nat.le_trans hb h3, h4⟩
theorem Rd.keep (h : E.Rd w v l) (hs : w.heap.size ≤ w'.heap.size) (hk : ∀ g o, g < w.heap.size → w'.cell? ⟨g, o, none⟩ = w.cell? ⟨g, o, none⟩) : E.Rd w' v l := by
  rcases h with h | ⟨ad, c, rfl, hg, hc⟩
  · exact .inl h
  · refine .inr ⟨ad, c, rfl, fun h0 => ?_, fun j u hj => ?_⟩
    · obtain ⟨g, off, e, hlt⟩ := hg h0
      exact ⟨g, off, e, Nat.lt_of_lt_of_le hlt hs⟩
    · obtain ⟨g, off, rfl, hlt⟩ := hg (cells_pos hj)
      have := hc j u hj
      rw [add_pl] at this ⊢
      exact (hk g _ hlt).trans this
theorem Rd.below (h : E.Rd w v l) (hb : Below w.heap.size w w') : E.Rd w' v l := h.keep hb.size fun g o hlt => hb.cell (p := ⟨g, o, none⟩) hlt
theorem Rd.alloc (h : E.Rd w v l) (o : Obj) : E.Rd (w.alloc o) v l := h.below (Below.alloc0 (Below.refl _ _) o)
theorem Rd.drew (h : E.Rd w v l) : E.Rd w.drew v l := h
theorem Rd.drewN (h : E.Rd w v l) (n : Nat) : E.Rd (w.drewN n) v l := h
theorem Own.rd (h : E.Own t w base v l) : E.Rd w v l := by
  have hlt := h.lt
  obtain ⟨hl, h2⟩ := h
  rcases h2 with ⟨rfl, hn⟩ | ⟨g, cap, cur, rfl, h3, h4, h5, h6, h7, h8⟩
  · exact .inl ⟨rfl, List.eq_nil_of_length_eq_zero hn⟩
  · refine .inr ⟨⟨g, 0, none⟩, cap, rfl, fun _ => ⟨g, 0, rfl, (hlt g rfl).2⟩, fun j u hj => ?_⟩
    rw [add_pl]
    have hb : Blk w g t cur (0, 0) := h4
    have hjl : j < l.length * E.k := by
      rcases Nat.lt_or_ge j (l.length * E.k) with a | a
      · exact a
      · rw [List.getElem?_eq_none (by rw [E.cells_len]; exact a)] at hj; cases hj
    rw [Nat.zero_add, hb.cell, ← Array.getElem?_toList, ← hj, ← h8, List.getElem?_take_of_lt hjl]
theorem Rd.nil_ (w : World) : E.Rd w (.slice none 0 0) [] := .inl ⟨rfl, rfl⟩
/-- A literal: its block is made just now. -/
theorem Rd.lit (w : World) (t : TypeId) (l : List α) (cs : Array Value) (n : Nat) (hn : l.length = n) (hcs : cs.toList = E.cells l) (c : Nat) : E.Rd (w.alloc (.cells cs t)) (.slice (some ⟨w.heap.size, 0, none⟩) n c) l := by
  subst hn
  refine .inr ⟨⟨w.heap.size, 0, none⟩, c, rfl, fun _ => ⟨w.heap.size, 0, rfl, by simp⟩, fun j u hj => ?_⟩
  rw [add_pl, Nat.zero_add, (Blk.new w _ cs (0, 0)).cell, ← Array.getElem?_toList, hcs]; exact hj
theorem Rd.new {g : Nat} (w : World) (hg : w.heap.size = g) (t : TypeId) (l : List α) (cs : Array Value) (n : Nat) (hn : l.length = n) (hcs : cs.toList = E.cells l) (c : Nat) : E.Rd (w.alloc (.cells cs t)) (.slice (some ⟨g, 0, none⟩) n c) l := by
  subst hg; exact Rd.lit w t l cs n hn hcs c
theorem Rd.blk {g : Nat} (l : List α) (cs : Array Value) (fr : Nat × Nat) (h : Blk w g t cs fr) (n : Nat) (hn : l.length = n) (hcs : cs.toList = E.cells l) (c : Nat) : E.Rd w (.slice (some ⟨g, 0, none⟩) n c) l := by
  subst hn
  refine .inr ⟨⟨g, 0, none⟩, c, rfl, fun _ => ⟨g, 0, rfl, h.lt⟩, fun j u hj => ?_⟩
  rw [add_pl, Nat.zero_add, h.cell, ← Array.getElem?_toList, hcs]; exact hj
/-- What a walk reads: the element at i, cell by cell. -/
theorem Rd.open_ (h : E.Rd w v l) : ∃ A c, v = .slice A l.length c ∧ (0 < l.length → ∃ g off, A = some ⟨g, off, none⟩ ∧ g < w.heap.size ∧ ∀ i x, l[i]? = some x → ∀ j u, (E.enc x)[j]? = some u → w.cell? ⟨g, off + (i * E.k + j), none⟩ = some u) := by
  rcases h with ⟨rfl, rfl⟩ | ⟨ad, c, rfl, hg, hc⟩
  · exact ⟨none, 0, rfl, fun h => absurd h (by simp)⟩
  · refine ⟨_, c, rfl, fun h0 => ?_⟩
    obtain ⟨g, off, rfl, hlt⟩ := hg h0
    refine ⟨g, off, rfl, hlt, fun i x hi j u hu => ?_⟩
    have hj : j < E.k := by
      rcases Nat.lt_or_ge j E.k with a | a
      · exact a
      · rw [List.getElem?_eq_none (by rw [E.len]; exact a)] at hu; cases hu
    have := hc (i * E.k + j) u (by rw [E.cells_at l i x hi j hj]; exact hu)
    rw [add_pl] at this
    exact this
end
/-- Append: the call's own row, and another one behind it. -/
theorem app {o : Oper} {a : Act} {K : Act → World → Prop} {Q : Exit → Act → World → Prop} {P : Program} (w : World) (s x : Operand) (T t : TypeId) (i0 : TypeInfo) (z : Value) (sz : Nat)
    (hT : P.underlying T = some (.slice t)) (hi : P.info? t = some i0) (hz0 : i0.zero = some z) (hz1 : i0.size = E.k) (hz2 : i0.bytes = sz) (hsz : sz ≤ 64) (hzc : z.cells.size = E.k)
    (ho : o.op = .call { callee := .builtin .append, args := #[s, x], argTypes := #[T, T] })
    (base : Nat) (v y : Value) (l m : List α) (hs : a.eval s = v) (hown : E.Own t w base v l) (hx : a.eval x = y) (hr : E.Rd w y m) (hn : l.length + m.length ≤ 1099511627776) (hbase : base ≤ w.heap.size)
    (h : ∀ v' w', E.Own t w' base v' (l ++ m) → Below base w w' → w.grownBy w' v.ownBlock → (v'.ownBlock = v.ownBlock ∨ v'.ownBlock = some w.heap.size) → K (a.put o.dst v') w') : o.wp P a w K Q := by
  rcases hr with ⟨rfl, rfl⟩ | ⟨ad, c, rfl, hg, hc⟩
  · have hr := run_append_owned_none (P := P) (w := w) base T o.type t i0 E.k hT hi v l.length _ hown
    unfold Oper.wp execOp
    simp only [ho, resolve, invoke, builtin, Sem.run_bind, Sem.run_pure, Result.andThen_ok, List.map_toArray, List.map_cons, List.map_nil, hs, hx, hr]
    exact h v w (by rw [List.append_nil]; exact hown) (Below.refl _ _) ⟨rfl, rfl, rfl, Nat.le_refl _, fun _ _ _ => rfl⟩ (.inl rfl)
  · obtain ⟨v', w', hr, h2, h3, _, h5⟩ := run_append_own_at (P := P) w base T o.type t i0 z E.k sz hT hi hz0 hz1 hz2 hzc E.pos v l.length _ hown ad m.length c
      (E.cells m) (by rw [E.cells_len]) hc (E.cells_one m) (by unfold maxLen; omega) (by have : (l.length + m.length) * sz ≤ 1099511627776 * 64 := Nat.mul_le_mul hn hsz; omega) hbase
    unfold Oper.wp execOp
    simp only [ho, resolve, invoke, builtin, Sem.run_bind, Sem.run_pure, Result.andThen_ok, List.map_toArray, List.map_cons, List.map_nil, hs, hx, hr]
    refine h v' w' ?_ (Below.grown (Below.refl _ _) h3 hbase (fun k hk => (hown.lt k hk).1)) h3 h5
    unfold Own
    rw [List.length_append, E.cells_append]
    exact h2
theorem made {P : Program} (w : World) (T t : TypeId) (i0 : TypeInfo) (z : Value) (sz : Nat) (hT : P.underlying T = some (.slice t)) (hi : P.info? t = some i0) (hz0 : i0.zero = some z) (hz1 : i0.size = E.k) (hz2 : i0.bytes = sz) (hsz : sz ≤ 64) (hk : E.k ≤ 64)
    (c : Nat) (hc : c ≤ 1099511627776) : ∃ Z, (Instr.makeSlice T (.int .i64 0) (.int .i64 (c : Int))).run P w = .ok (.slice (some ⟨w.heap.size, 0, none⟩) 0 c) (w.alloc Z) ∧ ∀ base, base ≤ w.heap.size → E.Own t (w.alloc Z) base (.slice (some ⟨w.heap.size, 0, none⟩) 0 c) [] := by
  have h1 : sz * c ≤ 64 * 1099511627776 := Nat.mul_le_mul hsz hc
  have h2 : (i0.bytes : Int) * (c : Int) ≤ 281474976710656 := by
    rw [hz2, ← Int.natCast_mul]; omega
  have hr := run_make (P := P) w T t i0 z hT hi hz0 .i64 .i64 0 c (Int.le_refl _) (by omega) h2 (by omega)
  simp only [Int.toNat_zero, Int.toNat_natCast] at hr
  refine ⟨_, hr, fun base hb => ?_⟩
  have := World.ownsRow_made w (madeCells z.cells (c * i0.size)) c (e := t) (size := E.k) hb (by unfold maxLen; omega) (by rw [size_madeCells, hz1])
  exact this
/-- An argument that is such a row, opened: each element by 'he'. -/
def In (E : Els α) (wf : α → Prop) (w : World) (A : Option Addr) (len cap : Nat) (l : List α) : Prop := E.Rd w (.slice A len cap) l ∧ l.length = len ∧ len ≤ maxLen ∧ ∀ x ∈ l, wf x
theorem open_in {H : Type} {ee : TypeId × Value → H} {W : World} {base : Nat} {sp : Nat → Bool} {held : Bool} {P : Program} {T t : TypeId} (wf : α → Prop) (hT : P.underlying T = some (.slice t)) (hc : P.cellsOf t = E.k)
    (he : ∀ (n : Nat) (cs : List Value) (x : DataW H × List MemPlace), cs.length = E.k → DataW.trod ee P W base sp held n t cs = some x → ∃ y, cs = E.enc y ∧ wf y)
    {fuel : Nat} {A : Option Addr} {n c : Nat} {x : DataW H × List MemPlace} (h : DataW.trod ee P W base sp held fuel T (Value.slice A n c).cells.toList = some x) : ∃ l, E.In wf W A n c l := by
  rcases Go.Deep.open_slice hT h with ⟨hcs, _⟩ | ⟨a, len, cap, m, k, D, Pl, hcs, hb, hl, hm, hmm, hx, hx2⟩
  · simp [Value.cells] at hcs
    obtain ⟨rfl, rfl, rfl⟩ := hcs
    exact ⟨[], .inl ⟨rfl, rfl⟩, rfl, by unfold maxLen; omega, fun _ h => by cases h⟩
  · simp [Value.cells] at hcs
    obtain ⟨rfl, rfl, rfl⟩ := hcs
    have hlm : n ≤ m := by rw [hmm]; split <;> omega
    have each : ∀ i, i < n → ∃ y : α, wf y ∧ ∀ j u, (E.enc y)[j]? = some u → W.cell? ((a.add (i * E.k)).add j) = some u := fun i hi => by
      obtain ⟨cs', h1, h2⟩ := hx2 i (by omega)
      rw [hc] at h1
      obtain ⟨_, hlen, hcell⟩ := World.cells?_some h1
      obtain ⟨y, rfl, hy⟩ := he _ _ _ hlen h2
      refine ⟨y, hy, fun j u hu => ?_⟩
      have hj : j < E.k := by
        rcases Nat.lt_or_ge j E.k with a | a
        · exact a
        · rw [List.getElem?_eq_none (by rw [E.len]; exact a)] at hu; cases hu
      rw [hcell j hj]; exact hu
    rcases Nat.eq_zero_or_pos n with h0 | h0
    · subst h0
      exact ⟨[], .inr ⟨a, c, rfl, fun h => absurd h (by simp), fun j u hj => by simp [cells] at hj⟩, rfl, by omega, fun _ h => by cases h⟩
    obtain ⟨y0, _⟩ := each 0 h0
    haveI : Inhabited α := ⟨y0⟩
    obtain ⟨f, hf⟩ := Go.Deep.choose_lt each
    obtain ⟨g, off, spot⟩ := a
    have hspot : spot = none := by
      have hp := E.pos
      obtain ⟨u, hu⟩ : ∃ u, (E.enc (f 0))[0]? = some u := ⟨_, List.getElem?_eq_getElem (by rw [E.len]; exact hp)⟩
      have := (hf 0 h0).2 0 u hu
      simpa [Addr.add] using World.cell?_spot this
    subst hspot
    refine ⟨(List.range n).map f, .inr ⟨⟨g, off, none⟩, c, by simp, fun _ => ?_, fun j u hj => ?_⟩, by simp, by omega, fun x hx => ?_⟩
    · have hp := E.pos
      obtain ⟨u, hu⟩ : ∃ u, (E.enc (f 0))[0]? = some u := ⟨_, List.getElem?_eq_getElem (by rw [E.len]; exact hp)⟩
      have := (hf 0 h0).2 0 u hu
      rw [add_pl, add_pl] at this
      exact ⟨g, off, rfl, cell_lt this⟩
    · obtain ⟨x, h1, h2⟩ := E.cells_inv _ j u hj
      have hi : j / E.k < n := by
        rcases Nat.lt_or_ge (j / E.k) n with a | a
        · exact a
        · rw [List.getElem?_eq_none (by simpa using a)] at h1; cases h1
      have hx' : f (j / E.k) = x := by simpa [hi] using h1
      subst hx'
      have := (hf _ hi).2 _ _ h2
      rw [add_pl, add_pl] at this
      rw [add_pl, ← this]
      congr 2
      rw [Nat.add_assoc, Nat.mul_comm, Nat.div_add_mod]
    · simp only [List.mem_map, List.mem_range] at hx
      obtain ⟨i, hi, rfl⟩ := hx
      exact (hf i hi).1
end Els
/-- Bools, ints. -/
abbrev eB : Els Bool := ⟨fun b => [.bool b], 1, fun _ => rfl, fun x u h => by simp only [List.mem_singleton] at h; subst h; rfl, by decide⟩
abbrev eI : Els Int := ⟨fun b => [.int .i64 b], 1, fun _ => rfl, fun x u h => by simp only [List.mem_singleton] at h; subst h; rfl, by decide⟩
theorem Els.one_at {α : Type} {E : Els α} {f : α → Value} (hk : E.k = 1) (hf : ∀ x, E.enc x = [f x]) {w : World} {v : Value} {l : List α} (h : E.Rd w v l) :
    ∃ A c, v = .slice A l.length c ∧ (0 < l.length → ∃ g off, A = some ⟨g, off, none⟩ ∧ g < w.heap.size ∧ ∀ i x, l[i]? = some x → w.cell? ⟨g, off + i, none⟩ = some (f x)) := by
  obtain ⟨A, c, hv, h2⟩ := h.open_
  refine ⟨A, c, hv, fun h0 => ?_⟩
  obtain ⟨g, off, rfl, hlt, h3⟩ := h2 h0
  refine ⟨g, off, rfl, hlt, fun i x hi => ?_⟩
  have := h3 i x hi 0 (f x) (by rw [hf]; rfl)
  rw [hk] at this
  simpa using this
theorem infoI : (Try.prog.info? 3).map (fun i => (i.zero, i.size, i.bytes)) = some (some (.int .i64 0), 1, 8) := by kernel_rfl
theorem wpList_appI {ops : Array Oper} {rest : List Oper} {o : Oper} {a : Act} {Q : Exit → Act → World → Prop} (hgd : o.guard = none) (w : World) (s x : Operand)
    (ho : o.op = .call { callee := .builtin .append, args := #[s, x], argTypes := #[76, 76] })
    (base : Nat) (v y : Value) (l m : List Int) (hs : a.eval s = v) (hown : eI.Own 3 w base v l) (hx : a.eval x = y) (hr : eI.Rd w y m) (hn : l.length + m.length ≤ 1099511627776) (hbase : base ≤ w.heap.size)
    (h : ∀ v' w', eI.Own 3 w' base v' (l ++ m) → Below base w w' → w.grownBy w' v.ownBlock → (v'.ownBlock = v.ownBlock ∨ v'.ownBlock = some w.heap.size) → wpList Try.prog ops Q rest (a.put o.dst v') w') : wpList Try.prog ops Q (o :: rest) a w := by
  obtain ⟨i0, hi, hz0, hz1, hz2⟩ := info_parts infoI
  exact wpList_plain hgd fun _ hK => Els.app (E := eI) w s x 76 3 i0 (.int .i64 0) 8 Try.underlying76 hi hz0 hz1 hz2 (by decide) rfl ho base v y l m hs hown hx hr hn hbase fun v' w' h2 h3 h4 h5 => hK _ _ (h v' w' h2 h3 h4 h5)
theorem made_I (w : World) (c : Nat) (hc : c ≤ 1099511627776) : ∃ Z, (Instr.makeSlice 76 (.int .i64 0) (.int .i64 (c : Int))).run Try.prog w = .ok (.slice (some ⟨w.heap.size, 0, none⟩) 0 c) (w.alloc Z) ∧ ∀ base, base ≤ w.heap.size → eI.Own 3 (w.alloc Z) base (.slice (some ⟨w.heap.size, 0, none⟩) 0 c) [] := by
  obtain ⟨i0, hi, hz0, hz1, hz2⟩ := info_parts infoI
  exact Els.made (E := eI) w 76 3 i0 _ 8 Try.underlying76 hi hz0 hz1 hz2 (by decide) (by decide) c hc
theorem open_ints64 {H : Type} {ee : TypeId × Value → H} {W : World} {base : Nat} {sp : Nat → Bool} {held : Bool} {fuel : Nat} {A : Option Addr} {n c : Nat} {x : DataW H × List MemPlace} (h : DataW.trod ee Try.prog W base sp held fuel 76 (Value.slice A n c).cells.toList = some x) :
    ∃ l, eI.In (fun z => (Lit.int .i64 z).wf = true) W A n c l :=
  Els.open_in (E := eI) _ Try.underlying76 (by kernel_rfl) (fun n cs x hl h => by
    match cs, hl with
    | [v], _ =>
      obtain ⟨y, e, _, hw⟩ := DataW.trod_int Try.underlying3 h
      exact ⟨y, e, hw⟩) h
end Go.Proofs.Ytlgaedhbgkhmeaa
