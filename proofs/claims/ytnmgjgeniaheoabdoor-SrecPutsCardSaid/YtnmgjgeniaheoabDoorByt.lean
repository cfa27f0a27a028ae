/- Slices of bytes: read as a list, of the call's own, appended to, cut. -/
import Derived.Test.YtnmgjgeniaheoabDoorRws
import Derived.Test.YtnmgjgeniaheoabDoorEq
namespace Go.Proofs.YtnmgjgeniaheoabDoor
open Go.ChangeShapes Go.WideShapes Go.ChangeAt Go.RowKit
set_option linter.unusedVariables false
abbrev eY : Els Int := ⟨fun b => [.int .u8 b], 1, fun _ => rfl, fun x u h => by simp only [List.mem_singleton] at h; subst h; rfl, by decide⟩
/-- Bytes: each is one. -/
def Byt (l : List Int) : Prop := ∀ x ∈ l, 0 ≤ x ∧ x < 256
theorem Byt.nil_ : Byt [] := fun x h => by cases h
theorem Byt.app {l m : List Int} (h : Byt l) (h' : Byt m) : Byt (l ++ m) := fun x hx => by rcases List.mem_append.1 hx with a | a; exact h x a; exact h' x a
theorem Byt.take {l : List Int} (h : Byt l) (k : Nat) : Byt (l.take k) := fun x hx => h x (List.mem_of_mem_take hx)
theorem Byt.drop {l : List Int} (h : Byt l) (k : Nat) : Byt (l.drop k) := fun x hx => h x (List.mem_of_mem_drop hx)
theorem Byt.at_ {l : List Int} (h : Byt l) (k : Nat) : 0 ≤ iat l k ∧ iat l k < 256 := by
  rcases Nat.lt_or_ge k l.length with h1 | h1
  · rw [iat_eq _ _ h1]; exact h _ (List.getElem_mem h1)
  · simp [iat, List.getD_eq_getElem?_getD, List.getElem?_eq_none h1]
theorem Byt.wf {l : List Int} (h : Byt l) : ∀ z ∈ l, (Lit.int .u8 z).wf = true := fun z hz => by
  obtain ⟨a, b⟩ := h z hz
  simp [Lit.wf, IntKind.min, IntKind.max, IntKind.signed, IntKind.bits]; omega
theorem Byt.of_wf {l : List Int} (h : ∀ z ∈ l, (Lit.int .u8 z).wf = true) : Byt l := fun z hz => by have := bounds_u8 (h z hz); omega
theorem eY_cells (l : List Int) : eY.cells l = l.map (Value.int .u8) := by
  induction l with
  | nil => rfl
  | cons x l ih => rw [Els.cells_cons, ih]; rfl
theorem eY_at (l : List Int) (i : Nat) (h : i < l.length) : (eY.cells l)[i]? = some (.int .u8 (iat l i)) := by
  rw [eY_cells, List.getElem?_map, List.getElem?_eq_getElem h, iat_eq _ _ h]; rfl
/-- Read: where it lies, and each byte. -/
theorem rdY_open {w : World} {v : Value} {l : List Int} (h : eY.Rd w v l) :
    ∃ A c, v = .slice A l.length c ∧ (0 < l.length → ∃ g off, A = some ⟨g, off, none⟩ ∧ g < w.heap.size ∧ ∀ i, i < l.length → w.cell? ⟨g, off + i, none⟩ = some (.int .u8 (iat l i))) := by
  obtain ⟨A, c, hv, h2⟩ := Els.one_at (E := eY) (f := Value.int .u8) rfl (fun _ => rfl) h
  refine ⟨A, c, hv, fun h0 => ?_⟩
  obtain ⟨g, off, rfl, hlt, h3⟩ := h2 h0
  exact ⟨g, off, rfl, hlt, fun i hi => h3 i _ (by rw [iat_eq _ _ hi]; exact List.getElem?_eq_getElem hi)⟩
theorem rdY_mk {w : World} {g off n c : Nat} {l : List Int} (hn : l.length = n) (hg : g < w.heap.size) (h : ∀ i, i < l.length → w.cell? ⟨g, off + i, none⟩ = some (.int .u8 (iat l i))) : eY.Rd w (.slice (some ⟨g, off, none⟩) n c) l := by
  subst hn
  refine .inr ⟨⟨g, off, none⟩, c, rfl, fun _ => ⟨g, off, rfl, hg⟩, fun j u hj => ?_⟩
  have hjl : j < l.length := by
    rcases Nat.lt_or_ge j l.length with a | a
    · exact a
    · rw [eY_cells, List.getElem?_eq_none (by simpa using a)] at hj; cases hj
  rw [eY_at l j hjl] at hj
  rw [Els.add_pl, h j hjl, hj]
theorem rdY_empty (w : World) (ad : Addr) (c : Nat) : eY.Rd w (.slice (some ad) 0 c) [] := .inr ⟨ad, c, rfl, fun h => absurd h (by simp), fun j u hj => by simp [eY_cells] at hj⟩
theorem rdY_ints {w : World} {v : Value} {l : List Int} (h : eY.Rd w v l) (hb : Byt l) : ∃ A c, v = .slice A l.length c ∧ Ints .u8 w w.heap.size A l.length l := by
  obtain ⟨A, c, hv, h2⟩ := rdY_open h
  refine ⟨A, c, hv, rfl, hb.wf, fun h0 => ?_⟩
  obtain ⟨g, off, rfl, hlt, h3⟩ := h2 h0
  exact ⟨g, off, rfl, hlt, h3⟩
/-- A part of it. -/
theorem rdY_part {w : World} {g off n c c' a b m : Nat} {l : List Int} (h : eY.Rd w (.slice (some ⟨g, off, none⟩) n c) l) (hb : b ≤ l.length) (hm : m = b - a) : eY.Rd w (.slice (some ⟨g, off + a, none⟩) m c') ((l.take b).drop a) := by
  have hl : ((l.take b).drop a).length = m := by rw [List.length_drop, List.length_take]; omega
  obtain ⟨A, c1, hv, h2⟩ := rdY_open h
  obtain ⟨rfl, hn, _⟩ := Value.slice.inj hv
  rcases Nat.eq_zero_or_pos m with h0 | h0
  · subst h0
    rw [List.eq_nil_of_length_eq_zero hl]
    exact rdY_empty _ _ _
  · obtain ⟨g', off', e, hlt, h3⟩ := h2 (by omega)
    obtain ⟨rfl, rfl, _⟩ := Addr.mk.inj (Option.some.inj e)
    refine rdY_mk hl hlt fun i hi => ?_
    rw [Nat.add_assoc, h3 (a + i) (by omega)]
    congr 2
    unfold iat
    rw [List.getD_eq_getElem?_getD, List.getD_eq_getElem?_getD, List.getElem?_drop, List.getElem?_take_of_lt (by omega)]
theorem rdY_drop {w : World} {g off n c c' a m : Nat} {l : List Int} (h : eY.Rd w (.slice (some ⟨g, off, none⟩) n c) l) (hm : m = l.length - a) : eY.Rd w (.slice (some ⟨g, off + a, none⟩) m c') (l.drop a) := by
  have := rdY_part (a := a) (c' := c') h (Nat.le_refl _) hm
  rwa [List.take_of_length_le (Nat.le_refl _)] at this
theorem rdY_take {w : World} {g off n c c' m : Nat} {l : List Int} (h : eY.Rd w (.slice (some ⟨g, off, none⟩) n c) l) (hm : m ≤ l.length) : eY.Rd w (.slice (some ⟨g, off, none⟩) m c') (l.take m) := by
  have := rdY_part (a := 0) (b := m) (c' := c') h hm rfl
  simpa using this
theorem rdY_of_row {w : World} {a : Option Addr} {len cap : Nat} {zs : List Int} (h : IsRow .u8 w a len cap zs) : ∃ xs, eY.Rd w (.slice a len cap) xs ∧ xs.length = len ∧ len ≤ maxLen ∧ Byt xs := by
  obtain ⟨xs, hx, hm⟩ := Ints.of_row h
  refine ⟨xs, ?_, hx.1, hm, Byt.of_wf hx.2.1⟩
  rcases Nat.eq_zero_or_pos len with h0 | h0
  · subst h0
    obtain rfl : xs = [] := List.eq_nil_of_length_eq_zero hx.1
    cases a with
    | none =>
      rcases h with ⟨_, _, rfl, _⟩ | ⟨x, e, _⟩
      · exact .inl ⟨rfl, rfl⟩
      · cases e
    | some ad => exact rdY_empty _ _ _
  · obtain ⟨b, off, rfl, hlt, h3⟩ := hx.2.2 h0
    exact rdY_mk hx.1 hlt (fun i hi => h3 i (by rw [← hx.1]; exact hi))
theorem Ints.rdY {w : World} {B n c : Nat} {A : Option Addr} {xs : List Int} (h : Ints .u8 w B A n xs) (hB : B ≤ w.heap.size) (hA : n = 0 → A = none → c = 0) : eY.Rd w (.slice A n c) xs := by
  rcases Nat.eq_zero_or_pos n with h0 | h0
  · subst h0
    obtain rfl : xs = [] := List.eq_nil_of_length_eq_zero h.1
    cases A with
    | none => rw [hA rfl rfl]; exact .inl ⟨rfl, rfl⟩
    | some ad => exact rdY_empty _ _ _
  · obtain ⟨b, off, rfl, hlt, h3⟩ := h.2.2 h0
    exact rdY_mk h.1 (by omega) (fun i hi => h3 i (by rw [← h.1]; exact hi))
theorem rdY_lit1 (w : World) (t : TypeId) (a : Int) : eY.Rd (w.alloc (.cells #[.int .u8 a] t)) (.slice (some ⟨w.heap.size, 0, none⟩) 1 1) [a] := Els.Rd.lit w t [a] _ 1 rfl rfl 1
theorem rdY_lit2 (w : World) (t : TypeId) (a b : Int) : eY.Rd (w.alloc (.cells #[.int .u8 a, .int .u8 b] t)) (.slice (some ⟨w.heap.size, 0, none⟩) 2 2) [a, b] := Els.Rd.lit w t [a, b] _ 2 rfl rfl 2
theorem wpList_appY {ops : Array Oper} {rest : List Oper} {o : Oper} {a : Act} {Q : Exit → Act → World → Prop} (hgd : o.guard = none) (w : World) (s x : Operand)
    (ho : o.op = .call { callee := .builtin .append, args := #[s, x], argTypes := #[25, 25] })
    (base : Nat) (v y : Value) (l m : List Int) (hs : a.eval s = v) (hown : eY.Own 5 w base v l) (hx : a.eval x = y) (hr : eY.Rd w y m) (hn : l.length + m.length ≤ 1099511627776) (hbase : base ≤ w.heap.size)
    (h : ∀ v' w', eY.Own 5 w' base v' (l ++ m) → Below base w w' → w.grownBy w' v.ownBlock → (v'.ownBlock = v.ownBlock ∨ v'.ownBlock = some w.heap.size) → wpList Tryd.prog ops Q rest (a.put o.dst v') w') : wpList Tryd.prog ops Q (o :: rest) a w := by
  obtain ⟨i0, hi, hz0, hz1, hz2⟩ := info_parts info8
  exact wpList_plain hgd fun _ hK => Els.app (E := eY) w s x 25 5 i0 (.int .u8 0) 1 Tryd.underlying25 hi hz0 hz1 hz2 (by decide) rfl ho base v y l m hs hown hx hr hn hbase fun v' w' h2 h3 h4 h5 => hK _ _ (h v' w' h2 h3 h4 h5)
theorem step_appY {ops : Array Oper} {o : Oper} {a : Act} {K : Act → World → Prop} {Q : Exit → Act → World → Prop} {E : Prop} (hgd : o.guard = none) (w : World) (s x : Operand)
    (ho : o.op = .call { callee := .builtin .append, args := #[s, x], argTypes := #[25, 25] })
    (base : Nat) (v y : Value) (l m : List Int) (hs : a.eval s = v) (hown : eY.Own 5 w base v l) (hx : a.eval x = y) (hr : eY.Rd w y m) (hn : l.length + m.length ≤ 1099511627776) (hbase : base ≤ w.heap.size)
    (h : ∀ v' w', eY.Own 5 w' base v' (l ++ m) → Below base w w' → w.grownBy w' v.ownBlock → (v'.ownBlock = v.ownBlock ∨ v'.ownBlock = some w.heap.size) → K (a.put o.dst v') w') : if Region.wanted o (yielded ops a.tmps) = true then Oper.wp Tryd.prog o a w K Q else E := by
  rw [if_pos (by simp [Region.wanted, hgd])]
  obtain ⟨i0, hi, hz0, hz1, hz2⟩ := info_parts info8
  exact Els.app (E := eY) w s x 25 5 i0 (.int .u8 0) 1 Tryd.underlying25 hi hz0 hz1 hz2 (by decide) rfl ho base v y l m hs hown hx hr hn hbase fun v' w' h2 h3 h4 h5 => h v' w' h2 h3 h4 h5
theorem made_Y (w : World) (c : Nat) (hc : c ≤ 1099511627776) : ∃ Z, (Instr.makeSlice 25 (.int .i64 0) (.int .i64 (c : Int))).run Tryd.prog w = .ok (.slice (some ⟨w.heap.size, 0, none⟩) 0 c) (w.alloc Z) ∧ ∀ base, base ≤ w.heap.size → eY.Own 5 (w.alloc Z) base (.slice (some ⟨w.heap.size, 0, none⟩) 0 c) [] := by
  obtain ⟨i0, hi, hz0, hz1, hz2⟩ := info_parts info8
  exact Els.made (E := eY) w 25 5 i0 _ 1 Tryd.underlying25 hi hz0 hz1 hz2 (by decide) (by decide) c hc
/-- A call that answers a slice of bytes of its own. -/
def GivesY (w : World) (l : List Int) (e : Ending) (w' : World) : Prop := ∃ v, e = .returned v ∧ eY.Own 5 w' w.heap.size v l ∧ Below w.heap.size w w'
theorem eqY_any (v v' : Value) (xs ys : List Int) (w : World) (h : eY.Rd w v xs) (h' : eY.Rd w v' ys) (hx : Byt xs) (hy : Byt ys) :
    Calls Tryd.prog 10 #[v, v'] w fun e w' => e = .returned (.bool (xs == ys)) ∧ w = w' := by
  obtain ⟨A, c, rfl, h1⟩ := rdY_ints h hx
  obtain ⟨A', c', rfl, h2⟩ := rdY_ints h' hy
  exact bytesEqual_any _ _ _ _ _ _ _ _ _ _ _ h1 h2
end Go.Proofs.YtnmgjgeniaheoabDoor
