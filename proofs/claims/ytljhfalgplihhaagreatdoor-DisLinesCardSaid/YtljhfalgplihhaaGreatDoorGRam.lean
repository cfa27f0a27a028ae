/- Byt, Oct, Stc, Ram, DlB, RamL, RamP in one text. -/
import Derived.Test.YtljhfalgplihhaaGreatDoorRws
import Derived.Test.YtljhfalgplihhaaGreatDoorEq
import Derived.Test.YtljhfalgplihhaaGreatDoorMem
import Derived.WalkKit
import Derived.ProofKit
import Derived.OpenShut
import Derived.ShutString
import Derived.Laws.BitsAllLaws
import Derived.Laws.BitsLemmas
import Derived.Laws.Tables
import Derived.Laws.Rows
import Derived.Great.Walk
import Derived.Great.BuildSlice
import Derived.Outline
import Derived.Deep.QuietTactic
import Derived.Deep.RegionHeld3
import Derived.BigQuiet
import Derived.IntWalk
import Derived.Deep.DeepCutAuto
import Derived.Defers
import Derived.Recover
import Derived.Laws.MakeOwn
namespace Go.Proofs.YtljhfalgplihhaaGreatDoor
open Go.ChangeShapes Go.WideShapes Go.ChangeAt Go.RowKit
set_option linter.unusedVariables false
abbrev eY : Els Int := ⟨fun b => [.int .u8 b], 1, fun _ => rfl, fun x u h => by simp only [List.mem_singleton] at h; subst h; rfl, by decide⟩
/-- Bytes: each is one. -/
def Byt (l : List Int) : Prop := ∀ x ∈ l, 0 ≤ x ∧ x < 256
theorem Byt.nil_ : Byt [] := fun x h => by cases h
theorem Byt.app {l m : List Int} (h : Byt l) (h' : Byt m) : Byt (l ++ m) := fun x hx => by rcases List.mem_append.1 hx with a | a; exact h x a; exact h' x a
theorem Byt.take {l : List Int} (h : Byt l) (k : Nat) : Byt (l.take k) := fun x hx => h x (List.mem_of_mem_take hx)
theorem Byt.drop {l : List Int} (h : Byt l) (k : Nat) : Byt (l.drop k) := fun x hx => h x (List.mem_of_mem_drop hx)
theorem Byt.at_ {l : List Int} (h : Byt l) (k : Nat) : 0 ≤ iat l k ∧ iat l k < 256 := by
  rcases Nat.lt_or_ge k l.length with h1 | h1
  · rw [iat_eq _ _ h1]; exact h _ (List.getElem_mem h1)
  · simp [iat, List.getD_eq_getElem?_getD, List.getElem?_eq_none h1]
theorem Byt.wf {l : List Int} (h : Byt l) : ∀ z ∈ l, (Lit.int .u8 z).wf = true := fun z hz => by
  obtain ⟨a, b⟩ := h z hz
  simp [Lit.wf, IntKind.min, IntKind.max, IntKind.signed, IntKind.bits]; omega
theorem Byt.of_wf {l : List Int} (h : ∀ z ∈ l, (Lit.int .u8 z).wf = true) : Byt l := fun z hz => by have := bounds_u8 (h z hz); omega
theorem eY_cells (l : List Int) : eY.cells l = l.map (Value.int .u8) := by
  induction l with
  | nil => rfl
  | cons x l ih => rw [Els.cells_cons, ih]; rfl
theorem eY_at (l : List Int) (i : Nat) (h : i < l.length) : (eY.cells l)[i]? = some (.int .u8 (iat l i)) := by
  rw [eY_cells, List.getElem?_map, List.getElem?_eq_getElem h, iat_eq _ _ h]; rfl
/-- Read: where it lies, and each byte. -/
theorem rdY_open {w : World} {v : Value} {l : List Int} (h : eY.Rd w v l) :
    ∃ A c, v = .slice A l.length c ∧ (0 < l.length → ∃ g off, A = some ⟨g, off, none⟩ ∧ g < w.heap.size ∧ ∀ i, i < l.length → w.cell? ⟨g, off + i, none⟩ = some (.int .u8 (iat l i))) := by
  obtain ⟨A, c, hv, h2⟩ := Els.one_at (E := eY) (f := Value.int .u8) rfl (fun _ => rfl) h
  refine ⟨A, c, hv, fun h0 => ?_⟩
  obtain ⟨g, off, rfl, hlt, h3⟩ := h2 h0
  exact ⟨g, off, rfl, hlt, fun i hi => h3 i _ (by rw [iat_eq _ _ hi]; exact List.getElem?_eq_getElem hi)⟩
theorem rdY_mk {w : World} {g off n c : Nat} {l : List Int} (hn : l.length = n) (hg : g < w.heap.size) (h : ∀ i, i < l.length → w.cell? ⟨g, off + i, none⟩ = some (.int .u8 (iat l i))) : eY.Rd w (.slice (some ⟨g, off, none⟩) n c) l := by
  subst hn
  refine .inr ⟨⟨g, off, none⟩, c, rfl, fun _ => ⟨g, off, rfl, hg⟩, fun j u hj => ?_⟩
  have hjl : j < l.length := by
    rcases Nat.lt_or_ge j l.length with a | a
    · exact a
    · rw [eY_cells, List.getElem?_eq_none (by simpa using a)] at hj; cases hj
  rw [eY_at l j hjl] at hj
  rw [Els.add_pl, h j hjl, hj]
theorem rdY_empty (w : World) (ad : Addr) (c : Nat) : eY.Rd w (.slice (some ad) 0 c) [] := .inr ⟨ad, c, rfl, fun h => absurd h (by simp), fun j u hj => by simp [eY_cells] at hj⟩
theorem rdY_ints {w : World} {v : Value} {l : List Int} (h : eY.Rd w v l) (hb : Byt l) : ∃ A c, v = .slice A l.length c ∧ Ints .u8 w w.heap.size A l.length l := by
  obtain ⟨A, c, hv, h2⟩ := rdY_open h
  refine ⟨A, c, hv, rfl, hb.wf, fun h0 => ?_⟩
  obtain ⟨g, off, rfl, hlt, h3⟩ := h2 h0
  exact ⟨g, off, rfl, hlt, h3⟩
/-- A part of it. -/
theorem rdY_part {w : World} {g off n c c' a b m : Nat} {l : List Int} (h : eY.Rd w (.slice (some ⟨g, off, none⟩) n c) l) (hb : b ≤ l.length) (hm : m = b - a) : eY.Rd w (.slice (some ⟨g, off + a, none⟩) m c') ((l.take b).drop a) := by
  have hl : ((l.take b).drop a).length = m := by rw [List.length_drop, List.length_take]; omega
  obtain ⟨A, c1, hv, h2⟩ := rdY_open h
  obtain ⟨rfl, hn, _⟩ := Value.slice.inj hv
  rcases Nat.eq_zero_or_pos m with h0 | h0
  · subst h0
    rw [List.eq_nil_of_length_eq_zero hl]
    exact rdY_empty _ _ _
  · obtain ⟨g', off', e, hlt, h3⟩ := h2 (by omega)
    obtain ⟨rfl, rfl, _⟩ := Addr.mk.inj (Option.some.inj e)
    refine rdY_mk hl hlt fun i hi => ?_
    rw [Nat.add_assoc, h3 (a + i) (by omega)]
    congr 2
    unfold iat
    rw [List.getD_eq_getElem?_getD, List.getD_eq_getElem?_getD, List.getElem?_drop, List.getElem?_take_of_lt (by omega)]
theorem rdY_drop {w : World} {g off n c c' a m : Nat} {l : List Int} (h : eY.Rd w (.slice (some ⟨g, off, none⟩) n c) l) (hm : m = l.length - a) : eY.Rd w (.slice (some ⟨g, off + a, none⟩) m c') (l.drop a) := by
  have := rdY_part (a := a) (c' := c') h (Nat.le_refl _) hm
  rwa [List.take_of_length_le (Nat.le_refl _)] at this
theorem rdY_take {w : World} {g off n c c' m : Nat} {l : List Int} (h : eY.Rd w (.slice (some ⟨g, off, none⟩) n c) l) (hm : m ≤ l.length) : eY.Rd w (.slice (some ⟨g, off, none⟩) m c') (l.take m) := by
  have := rdY_part (a := 0) (b := m) (c' := c') h hm rfl
  simpa using this
theorem rdY_of_row {w : World} {a : Option Addr} {len cap : Nat} {zs : List Int} (h : IsRow .u8 w a len cap zs) : ∃ xs, eY.Rd w (.slice a len cap) xs ∧ xs.length = len ∧ len ≤ maxLen ∧ Byt xs := by
  obtain ⟨xs, hx, hm⟩ := Ints.of_row h
  refine ⟨xs, ?_, hx.1, hm, Byt.of_wf hx.2.1⟩
  rcases Nat.eq_zero_or_pos len with h0 | h0
  · subst h0
    obtain rfl : xs = [] := List.eq_nil_of_length_eq_zero hx.1
    cases a with
    | none =>
      rcases h with ⟨_, _, rfl, _⟩ | ⟨x, e, _⟩
      · exact .inl ⟨rfl, rfl⟩
      · cases e
    | some ad => exact rdY_empty _ _ _
  · obtain ⟨b, off, rfl, hlt, h3⟩ := hx.2.2 h0
    exact rdY_mk hx.1 hlt (fun i hi => h3 i (by rw [← hx.1]; exact hi))
theorem Ints.rdY {w : World} {B n c : Nat} {A : Option Addr} {xs : List Int} (h : Ints .u8 w B A n xs) (hB : B ≤ w.heap.size) (hA : n = 0 → A = none → c = 0) : eY.Rd w (.slice A n c) xs := by
  rcases Nat.eq_zero_or_pos n with h0 | h0
  · subst h0
    obtain rfl : xs = [] := List.eq_nil_of_length_eq_zero h.1
    cases A with
    | none => rw [hA rfl rfl]; exact .inl ⟨rfl, rfl⟩
    | some ad => exact rdY_empty _ _ _
  · obtain ⟨b, off, rfl, hlt, h3⟩ := h.2.2 h0
    exact rdY_mk h.1 (by omega) (fun i hi => h3 i (by rw [← h.1]; exact hi))
theorem rdY_lit1 (w : World) (t : TypeId) (a : Int) : eY.Rd (w.alloc (.cells #[.int .u8 a] t)) (.slice (some ⟨w.heap.size, 0, none⟩) 1 1) [a] := Els.Rd.lit w t [a] _ 1 rfl rfl 1
theorem rdY_lit2 (w : World) (t : TypeId) (a b : Int) : eY.Rd (w.alloc (.cells #[.int .u8 a, .int .u8 b] t)) (.slice (some ⟨w.heap.size, 0, none⟩) 2 2) [a, b] := Els.Rd.lit w t [a, b] _ 2 rfl rfl 2
theorem wpList_appY {ops : Array Oper} {rest : List Oper} {o : Oper} {a : Act} {Q : Exit → Act → World → Prop} (hgd : o.guard = none) (w : World) (s x : Operand)
    (ho : o.op = .call { callee := .builtin .append, args := #[s, x], argTypes := #[22, 22] })
    (base : Nat) (v y : Value) (l m : List Int) (hs : a.eval s = v) (hown : eY.Own 5 w base v l) (hx : a.eval x = y) (hr : eY.Rd w y m) (hn : l.length + m.length ≤ 1099511627776) (hbase : base ≤ w.heap.size)
    (h : ∀ v' w', eY.Own 5 w' base v' (l ++ m) → Below base w w' → w.grownBy w' v.ownBlock → (v'.ownBlock = v.ownBlock ∨ v'.ownBlock = some w.heap.size) → wpList Tryz.prog ops Q rest (a.put o.dst v') w') : wpList Tryz.prog ops Q (o :: rest) a w := by
  obtain ⟨i0, hi, hz0, hz1, hz2⟩ := info_parts info8
  exact wpList_plain hgd fun _ hK => Els.app (E := eY) w s x 22 5 i0 (.int .u8 0) 1 Tryz.underlying22 hi hz0 hz1 hz2 (by decide) rfl ho base v y l m hs hown hx hr hn hbase fun v' w' h2 h3 h4 h5 => hK _ _ (h v' w' h2 h3 h4 h5)
theorem step_appY {ops : Array Oper} {o : Oper} {a : Act} {K : Act → World → Prop} {Q : Exit → Act → World → Prop} {E : Prop} (hgd : o.guard = none) (w : World) (s x : Operand)
    (ho : o.op = .call { callee := .builtin .append, args := #[s, x], argTypes := #[22, 22] })
    (base : Nat) (v y : Value) (l m : List Int) (hs : a.eval s = v) (hown : eY.Own 5 w base v l) (hx : a.eval x = y) (hr : eY.Rd w y m) (hn : l.length + m.length ≤ 1099511627776) (hbase : base ≤ w.heap.size)
    (h : ∀ v' w', eY.Own 5 w' base v' (l ++ m) → Below base w w' → w.grownBy w' v.ownBlock → (v'.ownBlock = v.ownBlock ∨ v'.ownBlock = some w.heap.size) → K (a.put o.dst v') w') : if Region.wanted o (yielded ops a.tmps) = true then Oper.wp Tryz.prog o a w K Q else E := by
  rw [if_pos (by simp [Region.wanted, hgd])]
  obtain ⟨i0, hi, hz0, hz1, hz2⟩ := info_parts info8
  exact Els.app (E := eY) w s x 22 5 i0 (.int .u8 0) 1 Tryz.underlying22 hi hz0 hz1 hz2 (by decide) rfl ho base v y l m hs hown hx hr hn hbase fun v' w' h2 h3 h4 h5 => h v' w' h2 h3 h4 h5
theorem made_Y (w : World) (c : Nat) (hc : c ≤ 1099511627776) : ∃ Z, (Instr.makeSlice 22 (.int .i64 0) (.int .i64 (c : Int))).run Tryz.prog w = .ok (.slice (some ⟨w.heap.size, 0, none⟩) 0 c) (w.alloc Z) ∧ ∀ base, base ≤ w.heap.size → eY.Own 5 (w.alloc Z) base (.slice (some ⟨w.heap.size, 0, none⟩) 0 c) [] := by
  obtain ⟨i0, hi, hz0, hz1, hz2⟩ := info_parts info8
  exact Els.made (E := eY) w 22 5 i0 _ 1 Tryz.underlying22 hi hz0 hz1 hz2 (by decide) (by decide) c hc
/-- A call that answers a slice of bytes of its own. -/
def GivesY (w : World) (l : List Int) (e : Ending) (w' : World) : Prop := ∃ v, e = .returned v ∧ eY.Own 5 w' w.heap.size v l ∧ Below w.heap.size w w'
end Go.Proofs.YtljhfalgplihhaaGreatDoor
namespace Go.Proofs.YtljhfalgplihhaaGreatDoor
open Go.ChangeShapes Go.WideShapes Go.ChangeAt Go.RowKit
set_option linter.unusedVariables false


theorem u16_join (a b : Int) (ha : 0 ≤ a) (ha' : a < 256) (hb : 0 ≤ b) (hb' : b < 256) : bits .or .u16 (a * 256) b = 256 * a + b := by
  have h := bits_join .u16 16 (by decide) (fun n h0 h1 => by rw [IntKind.wrap_u16]; omega) 8 (a * 256) b (by omega) (by omega) (by omega) hb (by omega) (by omega)
  rw [h]; omega
/-- A byte as a word, its sign kept. -/
def signOf (a : Int) : Int := if a < 128 then a else a + 65280
def sign5Of (a : Int) : Int := if a % 32 < 16 then a % 32 else a % 32 + 65504
theorem i8_of (a : Int) (h0 : 0 ≤ a) (h1 : a < 256) : IntKind.i8.wrap a = if a < 128 then a else a - 256 := by
  simp [IntKind.wrap, IntKind.bits, IntKind.signed]
  split <;> split <;> omega
theorem word_any (a b : Int) (w : World) (ha : 0 ≤ a) (ha' : a < 256) (hb : 0 ≤ b) (hb' : b < 256) :
    Calls Tryz.prog 62 #[.int .u8 a, .int .u8 b] w fun e w' => e = .returned (.int .u16 (256 * a + b)) ∧ w = w' := by
  go_enter Tryz.func62, Tryz.ntmps62
  go_wp2
  go_ret
  exact ⟨ret_int (u16_join a b ha ha' hb hb'), rfl⟩
theorem high_any (a : Int) (w : World) (ha : 0 ≤ a) (ha' : a < 65536) :
    Calls Tryz.prog 42 #[.int .u16 a] w fun e w' => e = .returned (.int .u8 (a / 256)) ∧ w = w' := by
  go_enter Tryz.func42, Tryz.ntmps42
  go_wp2
  go_ret
  exact ⟨rfl, rfl⟩
theorem low_any (a : Int) (w : World) (ha : 0 ≤ a) (ha' : a < 65536) :
    Calls Tryz.prog 41 #[.int .u16 a] w fun e w' => e = .returned (.int .u8 (a % 256)) ∧ w = w' := by
  go_enter Tryz.func41, Tryz.ntmps41
  go_wp2
  go_ret
  exact ⟨rfl, rfl⟩
theorem sign_any (a : Int) (w : World) (ha : 0 ≤ a) (ha' : a < 256) :
    Calls Tryz.prog 81 #[.int .u8 a] w fun e w' => e = .returned (.int .u16 (signOf a)) ∧ w = w' := by
  go_enter Tryz.func81, Tryz.ntmps81
  go_wp2
  go_ret
  refine ⟨ret_int ?_, rfl⟩
  rw [i8_of a ha ha', IntKind.wrap_u16]
  unfold signOf
  split <;> omega
theorem sign5_any (a : Int) (w : World) (ha : 0 ≤ a) (ha' : a < 256) :
    Calls Tryz.prog 82 #[.int .u8 a] w fun e w' => e = .returned (.int .u16 (sign5Of a)) ∧ w = w' := by
  go_enter Tryz.func82, Tryz.ntmps82
  go_wp2
  go_ret
  refine ⟨ret_int ?_, rfl⟩
  rw [i8_of _ (by omega) (by omega), IntKind.wrap_u16]
  unfold sign5Of
  split <;> split <;> omega
end Go.Proofs.YtljhfalgplihhaaGreatDoor
namespace Go.Proofs.YtljhfalgplihhaaGreatDoor
open Go.ChangeShapes Go.WideShapes Go.ChangeAt Go.RowKit
set_option linter.unusedVariables false

theorem below_row (w : World) (g B : Nat) (cs : Array Value) (hB : B ≤ g) : Below B w (w.setRow g cs) := ⟨rfl, rfl, rfl, by simp, fun k hk => setRow_other w g k cs (by omega)⟩
theorem below_row' {B : Nat} {w0 w : World} (h : Below B w0 w) (g : Nat) (cs : Array Value) (hB : B ≤ g) : Below B w0 (w.setRow g cs) := h.trans (below_row w g B cs hB)
section
variable {w : World} {g : Nat} {t : TypeId} {cs old : Array Value} {fr : Nat × Nat}
theorem Blk.row (h : Blk w g t old fr) (cs : Array Value) : Blk (w.setRow g cs) g t cs fr := setRow_heap w g old cs t fr h
theorem Blk.rowFar {g' : Nat} (h : Blk w g t cs fr) (hg : g ≠ g') (ds : Array Value) : Blk (w.setRow g' ds) g t cs fr := (setRow_other w g' g ds hg).trans h
theorem Blk.b2 {v0 v1 : Value} (h : Blk w g t #[v0, v1]) : (w.cell? ⟨g, 0, none⟩ = some v0 ∧ w.cell? ⟨g, 1, none⟩ = some v1) ∧ w.frozen? ⟨g, 0, none⟩ = false ∧ w.frozen? ⟨g, 1, none⟩ = false := by
  refine ⟨⟨?_, ?_⟩, h.frozen _, h.frozen _⟩ <;> (rw [h.cell]; rfl)
theorem Blk.b3 {v0 v1 v2 : Value} (h : Blk w g t #[v0, v1, v2]) : (w.cell? ⟨g, 0, none⟩ = some v0 ∧ w.cell? ⟨g, 1, none⟩ = some v1 ∧ w.cell? ⟨g, 2, none⟩ = some v2) ∧ w.frozen? ⟨g, 0, none⟩ = false ∧ w.frozen? ⟨g, 1, none⟩ = false ∧ w.frozen? ⟨g, 2, none⟩ = false := by
  refine ⟨⟨?_, ?_, ?_⟩, h.frozen _, h.frozen _, h.frozen _⟩ <;> (rw [h.cell]; rfl)
theorem Blk.b4 {v0 v1 v2 v3 : Value} (h : Blk w g t #[v0, v1, v2, v3]) : (w.cell? ⟨g, 0, none⟩ = some v0 ∧ w.cell? ⟨g, 1, none⟩ = some v1 ∧ w.cell? ⟨g, 2, none⟩ = some v2 ∧ w.cell? ⟨g, 3, none⟩ = some v3) ∧ w.frozen? ⟨g, 0, none⟩ = false ∧ w.frozen? ⟨g, 1, none⟩ = false ∧ w.frozen? ⟨g, 2, none⟩ = false ∧ w.frozen? ⟨g, 3, none⟩ = false := by
  refine ⟨⟨?_, ?_, ?_, ?_⟩, h.frozen _, h.frozen _, h.frozen _, h.frozen _⟩ <;> (rw [h.cell]; rfl)
theorem Blk.c3 {v0 v1 v2 : Value} (h : Blk w g t #[v0, v1, v2]) : w.cell? ⟨g, 0, none⟩ = some v0 ∧ w.cell? ⟨g, 1, none⟩ = some v1 ∧ w.cell? ⟨g, 2, none⟩ = some v2 := h.b3.1
theorem Blk.c2 {v0 v1 : Value} (h : Blk w g t #[v0, v1]) : w.cell? ⟨g, 0, none⟩ = some v0 ∧ w.cell? ⟨g, 1, none⟩ = some v1 := h.b2.1
theorem Blk.c4 {v0 v1 v2 v3 : Value} (h : Blk w g t #[v0, v1, v2, v3]) : w.cell? ⟨g, 0, none⟩ = some v0 ∧ w.cell? ⟨g, 1, none⟩ = some v1 ∧ w.cell? ⟨g, 2, none⟩ = some v2 ∧ w.cell? ⟨g, 3, none⟩ = some v3 := by
  refine ⟨?_, ?_, ?_, ?_⟩ <;> (rw [h.cell]; rfl)
theorem Blk.c5 {v0 v1 v2 v3 v4 : Value} (h : Blk w g t #[v0, v1, v2, v3, v4]) : w.cell? ⟨g, 0, none⟩ = some v0 ∧ w.cell? ⟨g, 1, none⟩ = some v1 ∧ w.cell? ⟨g, 2, none⟩ = some v2 ∧ w.cell? ⟨g, 3, none⟩ = some v3 ∧ w.cell? ⟨g, 4, none⟩ = some v4 := by
  refine ⟨?_, ?_, ?_, ?_, ?_⟩ <;> (rw [h.cell]; rfl)
theorem Blk.c6 {v0 v1 v2 v3 v4 v5 : Value} (h : Blk w g t #[v0, v1, v2, v3, v4, v5]) : w.cell? ⟨g, 0, none⟩ = some v0 ∧ w.cell? ⟨g, 1, none⟩ = some v1 ∧ w.cell? ⟨g, 2, none⟩ = some v2 ∧ w.cell? ⟨g, 3, none⟩ = some v3 ∧ w.cell? ⟨g, 4, none⟩ = some v4 ∧ w.cell? ⟨g, 5, none⟩ = some v5 := by
  refine ⟨?_, ?_, ?_, ?_, ?_, ?_⟩ <;> (rw [h.cell]; rfl)
theorem Blk.c7 {v0 v1 v2 v3 v4 v5 v6 : Value} (h : Blk w g t #[v0, v1, v2, v3, v4, v5, v6]) : w.cell? ⟨g, 0, none⟩ = some v0 ∧ w.cell? ⟨g, 1, none⟩ = some v1 ∧ w.cell? ⟨g, 2, none⟩ = some v2 ∧ w.cell? ⟨g, 3, none⟩ = some v3 ∧ w.cell? ⟨g, 4, none⟩ = some v4 ∧ w.cell? ⟨g, 5, none⟩ = some v5 ∧ w.cell? ⟨g, 6, none⟩ = some v6 := by
  refine ⟨?_, ?_, ?_, ?_, ?_, ?_, ?_⟩ <;> (rw [h.cell]; rfl)
theorem Blk.c8 {v0 v1 v2 v3 v4 v5 v6 v7 : Value} (h : Blk w g t #[v0, v1, v2, v3, v4, v5, v6, v7]) : w.cell? ⟨g, 0, none⟩ = some v0 ∧ w.cell? ⟨g, 1, none⟩ = some v1 ∧ w.cell? ⟨g, 2, none⟩ = some v2 ∧ w.cell? ⟨g, 3, none⟩ = some v3 ∧ w.cell? ⟨g, 4, none⟩ = some v4 ∧ w.cell? ⟨g, 5, none⟩ = some v5 ∧ w.cell? ⟨g, 6, none⟩ = some v6 ∧ w.cell? ⟨g, 7, none⟩ = some v7 := by
  refine ⟨?_, ?_, ?_, ?_, ?_, ?_, ?_, ?_⟩ <;> (rw [h.cell]; rfl)
theorem Blk.c9 {v0 v1 v2 v3 v4 v5 v6 v7 v8 : Value} (h : Blk w g t #[v0, v1, v2, v3, v4, v5, v6, v7, v8]) : w.cell? ⟨g, 0, none⟩ = some v0 ∧ w.cell? ⟨g, 1, none⟩ = some v1 ∧ w.cell? ⟨g, 2, none⟩ = some v2 ∧ w.cell? ⟨g, 3, none⟩ = some v3 ∧ w.cell? ⟨g, 4, none⟩ = some v4 ∧ w.cell? ⟨g, 5, none⟩ = some v5 ∧ w.cell? ⟨g, 6, none⟩ = some v6 ∧ w.cell? ⟨g, 7, none⟩ = some v7 ∧ w.cell? ⟨g, 8, none⟩ = some v8 := by
  refine ⟨?_, ?_, ?_, ?_, ?_, ?_, ?_, ?_, ?_⟩ <;> (rw [h.cell]; rfl)
theorem Blk.at1 (o : Obj) : Blk ((w.alloc o).alloc (.cells cs t)) (w.heap.size + 1) t cs := by
  have e : (w.alloc o).heap.size = w.heap.size + 1 := by simp
  have := Blk.new (w.alloc o) t cs (0, 0)
  rw [e] at this
  exact this
theorem Blk.at2 (o o2 : Obj) : Blk (((w.alloc o).alloc o2).alloc (.cells cs t)) (w.heap.size + 2) t cs := by
  have e : ((w.alloc o).alloc o2).heap.size = w.heap.size + 2 := by simp
  have := Blk.new ((w.alloc o).alloc o2) t cs (0, 0)
  rw [e] at this
  exact this
theorem Blk.at3 (o o2 o3 : Obj) : Blk ((((w.alloc o).alloc o2).alloc o3).alloc (.cells cs t)) (w.heap.size + 3) t cs := by
  have e : (((w.alloc o).alloc o2).alloc o3).heap.size = w.heap.size + 3 := by simp
  have := Blk.new (((w.alloc o).alloc o2).alloc o3) t cs (0, 0)
  rw [e] at this
  exact this
theorem Blk.set3 {v0 v1 v2 x0 x1 x2 : Value} (h : Blk w g t #[v0, v1, v2]) : Blk (((w.setCell ⟨g, 0, none⟩ x0).setCell ⟨g, 1, none⟩ x1).setCell ⟨g, 2, none⟩ x2) g t #[x0, x1, x2] := Blk.set_ (Blk.set_ (Blk.set_ h 0 x0) 1 x1) 2 x2
theorem Blk.set2 {v0 v1 x0 x1 : Value} (h : Blk w g t #[v0, v1]) : Blk ((w.setCell ⟨g, 0, none⟩ x0).setCell ⟨g, 1, none⟩ x1) g t #[x0, x1] := Blk.set_ (Blk.set_ h 0 x0) 1 x1
end
theorem Below.set0 {B : Nat} {w0 w : World} (h : Below B w0 w) {g i : Nat} (hB : B ≤ g) (u : Value) : Below B w0 (w.setCell ⟨g, i, none⟩ u) := Below.setCell h hB u
theorem grown_cell (w : World) (g i : Nat) (u : Value) : w.grownBy (w.setCell ⟨g, i, none⟩ u) (some g) :=
  ⟨rfl, rfl, rfl, by simp, fun k _ hk => heap_setCell_other w _ k u (fun e => hk (by rw [e]))⟩
/-- A piece of code that ends in one way alone: the frame and the world are told by the first of its ways. -/
theorem once {P : Program} {c : Code} {Q : Exit → Act → World → Prop} {a : Act} {w : World} (h : ∃ F W, Code.wp P c (fun e a' w' => e = .normal ∧ a' = F ∧ w' = W) a w ∧ Q .normal F W) : Code.wp P c Q a w := by
  obtain ⟨F, W, h1, h2⟩ := h
  refine Code.wp_mono ?_ h1
  rintro e a w ⟨rfl, rfl, rfl⟩
  exact h2
end Go.Proofs.YtljhfalgplihhaaGreatDoor
namespace Go.Proofs.YtljhfalgplihhaaGreatDoor
open Go.ChangeShapes Go.WideShapes Go.ChangeAt Go.RowKit
set_option linter.unusedVariables false

/-- The cells of page i. -/
def pgCs (f : Nat → Int) (i : Nat) : Array Value := ((List.range 256).map fun k => Value.int .u8 (f (256 * i + k))).toArray
def ptrTo (g : Option Nat) : Value := .pointer (g.map fun g => ⟨g, 0, none⟩)
/-- The cells of memory: where each page lies, and from where on nothing is written. -/
def raCs (p : Nat → Option Nat) (rom : Int) : Array Value := ((List.range 256).map (fun i => ptrTo (p i)) ++ [Value.int .i64 rom]).toArray
/-- Block m is memory, its pages are p, its bytes f. -/
structure Ra (w : World) (m : Nat) (p : Nat → Option Nat) (rom : Int) (f : Nat → Int) : Prop where
  blk : Blk w m 51 (raCs p rom)
  empty : ∀ i, i < 256 → p i = none → ∀ k, k < 256 → f (256 * i + k) = 0
  page : ∀ i g, i < 256 → p i = some g → g ≠ m ∧ Blk w g 111 (pgCs f i)
  inj : ∀ i j g, i < 256 → j < 256 → p i = some g → p j = some g → i = j
  byt : ∀ a, 0 ≤ f a ∧ f a < 256
/-- The blocks of memory. -/
def RS (m : Nat) (p : Nat → Option Nat) (b : Nat) : Prop := b = m ∨ ∃ i, i < 256 ∧ p i = some b
/-- A step of memory: every other block stands. -/
structure Rst (w w' : World) (m : Nat) (p p' : Nat → Option Nat) : Prop where
  os : w'.os = w.os
  tape : w'.tape = w.tape
  output : w'.output = w.output
  size : w.heap.size ≤ w'.heap.size
  block : ∀ b, b < w.heap.size → ¬ RS m p b → w'.heap[b]? = w.heap[b]?
  own : ∀ b, RS m p' b → RS m p b ∨ w.heap.size ≤ b
theorem Rst.refl (w : World) (m : Nat) (p : Nat → Option Nat) : Rst w w m p p := ⟨rfl, rfl, rfl, Nat.le_refl _, fun _ _ _ => rfl, fun _ h => .inl h⟩
theorem Rst.trans {w1 w2 w3 : World} {m : Nat} {p1 p2 p3 : Nat → Option Nat} (h : Rst w1 w2 m p1 p2) (h' : Rst w2 w3 m p2 p3) : Rst w1 w3 m p1 p3 := by
  refine ⟨h'.os.trans h.os, h'.tape.trans h.tape, h'.output.trans h.output, Nat.le_trans h.size h'.size, fun b hb hn => ?_, fun b hb => ?_⟩
  · refine (h'.block b (Nat.lt_of_lt_of_le hb h.size) (fun e => ?_)).trans (h.block b hb hn)
    rcases h.own b e with e | e
    · exact hn e
    · omega
  · rcases h'.own b hb with e | e
    · exact h.own b e
    · exact .inr (Nat.le_trans h.size e)
theorem Rst.drewN (w : World) (m : Nat) (p : Nat → Option Nat) (n : Nat) : Rst w (w.drewN n) m p p := ⟨rfl, rfl, rfl, Nat.le_refl _, fun _ _ _ => rfl, fun _ h => .inl h⟩
theorem Rst.of_below {w w' : World} (h : Below w.heap.size w w') (m : Nat) (p : Nat → Option Nat) : Rst w w' m p p := ⟨h.os, h.tape, h.output, h.size, fun b hb _ => h.block b hb, fun _ h => .inl h⟩
theorem Rst.below {w w' : World} {m base : Nat} {p p' : Nat → Option Nat} (h : Rst w w' m p p') (hb : base ≤ w.heap.size) (hr : ∀ b, RS m p b → base ≤ b) : Below base w w' :=
  ⟨h.os, h.tape, h.output, h.size, fun k hk => h.block k (by omega) (fun e => by have := hr k e; omega)⟩
section
variable {w w' : World} {m : Nat} {p p' : Nat → Option Nat} {rom : Int} {f : Nat → Int}
theorem pgCs_at (f : Nat → Int) (i k : Nat) (h : k < 256) : (pgCs f i)[k]? = some (.int .u8 (f (256 * i + k))) := by
  unfold pgCs
  rw [List.getElem?_toArray, List.getElem?_map, List.getElem?_range h]; rfl
theorem raCs_at (p : Nat → Option Nat) (rom : Int) (i : Nat) (h : i < 256) : (raCs p rom)[i]? = some (ptrTo (p i)) := by
  unfold raCs
  rw [List.getElem?_toArray, List.getElem?_append_left (by simpa using h), List.getElem?_map, List.getElem?_range h]; rfl
theorem raCs_rom (p : Nat → Option Nat) (rom : Int) : (raCs p rom)[256]? = some (.int .i64 rom) := by
  unfold raCs
  rw [List.getElem?_toArray, List.getElem?_append_right (by simp)]; simp
theorem Ra.lt (h : Ra w m p rom f) : m < w.heap.size := h.blk.lt
theorem Ra.ptr (h : Ra w m p rom f) (i : Nat) (hi : i < 256) : w.cell? ⟨m, i, none⟩ = some (ptrTo (p i)) := by rw [h.blk.cell, raCs_at p rom i hi]
theorem Ra.rom_ (h : Ra w m p rom f) : w.cell? ⟨m, 256, none⟩ = some (.int .i64 rom) := by rw [h.blk.cell, raCs_rom]
theorem Ra.byte (h : Ra w m p rom f) {i g : Nat} (hi : i < 256) (hp : p i = some g) (k : Nat) (hk : k < 256) : w.cell? ⟨g, k, none⟩ = some (.int .u8 (f (256 * i + k))) := by
  rw [(h.page i g hi hp).2.cell, pgCs_at f i k hk]
/-- Where the blocks of memory stand as they were. -/
theorem Ra.keep (h : Ra w m p rom f) (hk : ∀ b, RS m p b → w'.heap[b]? = w.heap[b]?) : Ra w' m p rom f :=
  ⟨(hk m (.inl rfl)).trans h.blk, h.empty, fun i g hi hg => ⟨(h.page i g hi hg).1, (hk g (.inr ⟨i, hi, hg⟩)).trans (h.page i g hi hg).2⟩, h.inj, h.byt⟩
theorem Ra.own_lt (h : Ra w m p rom f) (b : Nat) (hb : RS m p b) : b < w.heap.size := by
  rcases hb with rfl | ⟨i, hi, e⟩
  · exact h.blk.lt
  · exact (h.page i b hi e).2.lt
theorem Ra.drewN (h : Ra w m p rom f) (n : Nat) : Ra (w.drewN n) m p rom f := h.keep fun _ _ => rfl
theorem Ra.drew (h : Ra w m p rom f) : Ra w.drew m p rom f := h.keep fun _ _ => rfl
theorem Ra.alloc (h : Ra w m p rom f) (o : Obj) : Ra (w.alloc o) m p rom f := h.keep fun b hb => Below.heap_alloc w o b (h.own_lt b hb)
theorem Ra.below (h : Ra w m p rom f) (hb : Below w.heap.size w w') : Ra w' m p rom f := h.keep fun b hb' => hb.block b (h.own_lt b hb')
theorem Ra.grown {row : Option Nat} (h : Ra w m p rom f) (hb : w.grownBy w' row) (hn : ∀ b, RS m p b → some b ≠ row) : Ra w' m p rom f := h.keep fun b hb' => hb.block b (h.own_lt b hb') (hn b hb')
end
theorem drewN_two (w : World) (a b : Nat) : (w.drewN a).drewN b = w.drewN (a + b) := by simp [World.drewN, Nat.add_assoc]
theorem raRead_any (m : Nat) (p : Nat → Option Nat) (rom : Int) (f : Nat → Int) (a : Nat) (w : World) (h : Ra w m p rom f) (ha : a < 65536) :
    Calls Tryz.prog 124 #[.pointer (some ⟨m, 0, none⟩), .int .u16 (a : Int)] w fun e w' => e = .returned (.int .u8 (f a)) ∧ ∃ k, w' = w.drewN k := by
  obtain ⟨i, hi⟩ : ∃ i, a / 256 = i := ⟨_, rfl⟩
  obtain ⟨k, hk⟩ : ∃ k, a % 256 = k := ⟨_, rfl⟩
  have i256 : i < 256 := by omega
  have k256 : k < 256 := by omega
  have hik : 256 * i + k = a := by omega
  have HH := Lib.hid (fun u => high_any (a : Int) u (by omega) (by omega))
  have HL := Lib.hid (fun u => low_any (a : Int) u (by omega) (by omega))
  rw [show (a : Int) / 256 = (i : Int) by omega] at HH
  rw [show (a : Int) % 256 = (k : Int) by omega] at HL
  have i0 : (0 : Int) ≤ (i : Int) := by omega
  have i1 : (i : Int) < 256 := by omega
  have k0 : (0 : Int) ≤ (k : Int) := by omega
  have k1 : (k : Int) < 256 := by omega
  have c0 := h.ptr i i256
  cases hp : p i with
  | none =>
    have hz := h.empty i i256 hp k k256
    rw [hik] at hz
    rw [hp] at c0
    simp only [ptrTo, Option.map_none] at c0
    have HZ := Lib.hid hz
    rw [HZ.out]
    clear h hp hz hik hi hk
    go_enter Tryz.func124, Tryz.ntmps124
    go_wp2
    go_quiet ((go_at_call 42; exact Calls.quiet_of ((HH.out _).mono (fun e w' h => ⟨h.1, 0, h.2.symm⟩))))
    go_wp2
    go_ret
    exact ⟨rfl, by first | exact ⟨_, rfl⟩ | exact ⟨_, drewN_two _ _ _⟩ | exact ⟨0, rfl⟩⟩
  | some g =>
    have c1 := h.byte i256 hp k k256
    rw [hik] at c1
    rw [hp] at c0
    simp only [ptrTo, Option.map_some] at c0
    generalize f a = F at *
    clear h hp hik hi hk
    go_enter Tryz.func124, Tryz.ntmps124
    go_wp2
    go_quiet ((go_at_call 42; exact Calls.quiet_of ((HH.out _).mono (fun e w' h => ⟨h.1, 0, h.2.symm⟩))))
    go_wp2
    go_quiet ((go_at_call 41; exact (HL.out _).mono (fun e w' h => ⟨h.1, _, h.2.symm⟩)))
    go_wp2
    go_ret
    exact ⟨rfl, by first | exact ⟨_, rfl⟩ | exact ⟨_, drewN_two _ _ _⟩ | exact ⟨0, rfl⟩⟩
def upd (f : Nat → Int) (a : Nat) (b : Int) : Nat → Int := fun x => if x = a then b else f x
def updP (p : Nat → Option Nat) (i g : Nat) : Nat → Option Nat := fun j => if j = i then some g else p j
theorem pgCs_same (f : Nat → Int) (i k : Nat) (b : Int) (hk : k < 256) : (pgCs f i).setIfInBounds k (.int .u8 b) = pgCs (upd f (256 * i + k) b) i := by
  unfold pgCs
  rw [List.setIfInBounds_toArray]
  congr 1
  apply List.ext_getElem (by simp)
  intro n h1 h2
  rw [List.getElem_set]
  simp only [List.getElem_map, List.getElem_range, upd]
  by_cases e : k = n
  · subst e; simp
  · rw [if_neg e, if_neg (by omega)]
theorem pgCs_other (f : Nat → Int) (i j k : Nat) (b : Int) (hk : k < 256) (h : j ≠ i) : pgCs (upd f (256 * i + k) b) j = pgCs f j := by
  unfold pgCs
  congr 1
  apply List.map_congr_left
  intro n hn
  rw [List.mem_range] at hn
  simp only [upd]
  rw [if_neg (by omega)]
theorem Ra.setByte {w : World} {m : Nat} {p : Nat → Option Nat} {rom : Int} {f : Nat → Int} (h : Ra w m p rom f) {i g : Nat} (hi : i < 256) (hp : p i = some g) (k : Nat) (hk : k < 256) (b : Int) (hb : 0 ≤ b ∧ b < 256) :
    Ra (w.setCell ⟨g, k, none⟩ (.int .u8 b)) m p rom (upd f (256 * i + k) b) ∧ Rst w (w.setCell ⟨g, k, none⟩ (.int .u8 b)) m p p := by
  obtain ⟨hgm, hbl⟩ := h.page i g hi hp
  refine ⟨⟨h.blk.far (Ne.symm hgm) _, fun j hj hn k' hk' => ?_, fun j g' hj hg' => ?_, h.inj, fun x => ?_⟩, ⟨rfl, rfl, rfl, by simp, fun b' hb' hn => ?_, fun _ h => .inl h⟩⟩
  · have hji : j ≠ i := fun e => by subst e; rw [hp] at hn; cases hn
    simp only [upd]
    rw [if_neg (by omega)]
    exact h.empty j hj hn k' hk'
  · by_cases e : j = i
    · subst e
      rw [hp] at hg'
      obtain rfl := Option.some.inj hg'
      refine ⟨hgm, ?_⟩
      rw [← pgCs_same f j k b hk]
      exact hbl.set_ k _
    · obtain ⟨a1, a2⟩ := h.page j g' hj hg'
      refine ⟨a1, ?_⟩
      rw [pgCs_other f i j k b hk e]
      exact a2.far (fun e2 => e (h.inj j i g' hj hi hg' (by rw [hp]; exact congrArg some e2.symm))) _
  · simp only [upd]
    split
    · exact hb
    · exact h.byt x
  · exact heap_setCell_other w _ b' _ (fun e => hn (.inr ⟨i, hi, by rw [hp, e]⟩))
theorem updP_here (p : Nat → Option Nat) (i g : Nat) : updP p i g i = some g := by simp [updP]
theorem updP_else (p : Nat → Option Nat) (i g j : Nat) (h : j ≠ i) : updP p i g j = p j := by simp [updP, h]
theorem raCs_set (p : Nat → Option Nat) (rom : Int) (i g : Nat) (hi : i < 256) : (raCs p rom).setIfInBounds i (.pointer (some ⟨g, 0, none⟩)) = raCs (updP p i g) rom := by
  unfold raCs
  rw [List.setIfInBounds_toArray, List.set_append_left _ _ (by simpa using hi)]
  congr 2
  apply List.ext_getElem (by simp)
  intro n h1 h2
  rw [List.getElem_set]
  simp only [List.getElem_map, List.getElem_range, updP]
  by_cases e : i = n
  · subst e; simp [ptrTo]
  · rw [if_neg e, if_neg (fun e2 => e e2.symm)]
theorem Ra.newPage {w : World} {m : Nat} {p : Nat → Option Nat} {rom : Int} {f : Nat → Int} (h : Ra w m p rom f) {i g : Nat} (hi : i < 256) (hp : p i = none) (hg : ¬ RS m p g) (hB : Blk w g 111 (pgCs f i)) :
    Ra (w.setCell ⟨m, i, none⟩ (.pointer (some ⟨g, 0, none⟩))) m (updP p i g) rom f := by
  have hgm : g ≠ m := fun e => hg (.inl e)
  refine ⟨?_, fun j hj hn k hk => ?_, fun j g' hj hg' => ?_, fun j j' g' hj hj' e e' => ?_, h.byt⟩
  · rw [← raCs_set p rom i g hi]; exact h.blk.set_ i _
  · by_cases e : j = i
    · subst e; rw [updP_here] at hn; cases hn
    · rw [updP_else p i g j e] at hn; exact h.empty j hj hn k hk
  · by_cases e : j = i
    · subst e
      rw [updP_here] at hg'
      obtain rfl := Option.some.inj hg'
      exact ⟨hgm, hB.far hgm _⟩
    · rw [updP_else p i g j e] at hg'
      obtain ⟨a1, a2⟩ := h.page j g' hj hg'
      exact ⟨a1, a2.far a1 _⟩
  · by_cases h1 : j = i
    · by_cases h2 : j' = i
      · rw [h1, h2]
      · rw [updP_else p i g j' h2] at e'
        rw [h1, updP_here] at e
        obtain rfl := Option.some.inj e
        exact absurd (.inr ⟨j', hj', e'⟩) hg
    · by_cases h2 : j' = i
      · rw [updP_else p i g j h1] at e
        rw [h2, updP_here] at e'
        obtain rfl := Option.some.inj e'
        exact absurd (.inr ⟨j, hj, e⟩) hg
      · rw [updP_else p i g j h1] at e
        rw [updP_else p i g j' h2] at e'
        exact h.inj j j' g' hj hj' e e'
/-- The cells of a page made anew. -/
theorem pgCs_zero (f : Nat → Int) (i : Nat) (h : ∀ k, k < 256 → f (256 * i + k) = 0) : pgCs f i = Array.replicate 256 (.int .u8 0) := by
  unfold pgCs
  apply Array.ext'
  rw [Array.toList_replicate]
  rw [List.toList_toArray]
  apply List.ext_getElem (by rw [List.length_map, List.length_range, List.length_replicate])
  intro n h1 h2
  simp only [List.getElem_map, List.getElem_range, List.getElem_replicate]
  rw [List.length_map, List.length_range] at h1
  rw [h n h1]
theorem Ra.putPage {w W0 : World} {m : Nat} {p : Nat → Option Nat} {rom : Int} {f : Nat → Int} {i g : Nat} (h : Ra W0 m p rom f ∧ Blk W0 g 111 (pgCs f i) ∧ Rst w W0 m p p ∧ ¬ RS m p g) (hi : i < 256) (hp : p i = none) (hg : w.heap.size ≤ g) :
    Ra (W0.setCell ⟨m, i, none⟩ (.pointer (some ⟨g, 0, none⟩))).drew m (updP p i g) rom f ∧ Rst w (W0.setCell ⟨m, i, none⟩ (.pointer (some ⟨g, 0, none⟩))).drew m p (updP p i g) := by
  obtain ⟨h1, h2, h3, h4⟩ := h
  refine ⟨(h1.newPage hi hp h4 h2).drew, ⟨h3.os, h3.tape, h3.output, Nat.le_trans h3.size (by simp [World.drew]), fun b hb hn => ?_, fun b hb => ?_⟩⟩
  · exact (heap_setCell_other W0 _ b _ (fun e => hn (.inl e))).trans (h3.block b hb hn)
  · rcases hb with e | ⟨j, hj, e⟩
    · exact .inl (.inl e)
    · by_cases hji : j = i
      · rw [hji, updP_here] at e
        obtain rfl := Option.some.inj e
        exact .inr hg
      · rw [updP_else p i g j hji] at e
        exact .inl (.inr ⟨j, hj, e⟩)
def PokePost (w : World) (m : Nat) (p : Nat → Option Nat) (rom : Int) (f' : Nat → Int) (e : Ending) (w' : World) : Prop := e = .returned (.tuple #[]) ∧ ∃ p', Ra w' m p' rom f' ∧ Rst w w' m p p'
set_option maxHeartbeats 2000000 in
theorem raPoke_any (m : Nat) (p : Nat → Option Nat) (rom : Int) (f : Nat → Int) (a : Nat) (b : Int) (w : World) (h : Ra w m p rom f) (ha : a < 65536) (hb : 0 ≤ b ∧ b < 256) :
    Calls Tryz.prog 30 #[.pointer (some ⟨m, 0, none⟩), .int .u16 (a : Int), .int .u8 b] w (PokePost w m p rom (upd f a b)) := by
  obtain ⟨i, hi⟩ : ∃ i, a / 256 = i := ⟨_, rfl⟩
  obtain ⟨k, hk⟩ : ∃ k, a % 256 = k := ⟨_, rfl⟩
  have i256 : i < 256 := by omega
  have k256 : k < 256 := by omega
  have hik : 256 * i + k = a := by omega
  have HH := Lib.hid (fun u => high_any (a : Int) u (by omega) (by omega))
  have HL := Lib.hid (fun u => low_any (a : Int) u (by omega) (by omega))
  rw [show (a : Int) / 256 = (i : Int) by omega] at HH
  rw [show (a : Int) % 256 = (k : Int) by omega] at HL
  have i0 : (0 : Int) ≤ (i : Int) := by omega
  have i1 : (i : Int) < 256 := by omega
  have k0 : (0 : Int) ≤ (k : Int) := by omega
  have k1 : (k : Int) < 256 := by omega
  have c0 := h.ptr i i256
  have HB := Lib.hid hb
  cases hp : p i with
  | some g =>
    rw [hp] at c0
    simp only [ptrTo, Option.map_some] at c0
    have HR := Lib.hid (fun n => (h.drewN n).setByte i256 hp k k256 b HB.out)
    rw [hik] at HR
    have c1 := h.byte i256 hp k k256
    have f1 := ((h.page i g i256 hp).2).frozen k
    rw [hik] at c1
    generalize f a = F at c1
    clear h hp hik hi hk hb
    go_enter Tryz.func30, Tryz.ntmps30
    go_wp2
    go_quiet ((go_at_call 42; exact Calls.quiet_of ((HH.out _).mono (fun e w' h => ⟨h.1, 0, h.2.symm⟩))))
    go_wp2
    refine wp_region_noPanic ?_
    refine wp_region_held_drew (S := (fun _ => True)) (by kernel_rfl) ?_ (fun hH0 => ?_)
    · trivial
    refine wpAnyH_take (i := 0) (oi := ({ dst := some 26, op := Op.move (Operand.tmp 6), type := 48, pos := "ram.go:51", after := #[], guard := none } : Oper)) (v := ?_) rfl (by kernel_rfl) (by kernel_rfl) (by kernel_rfl) (fun _ _ _ h => h) (Or.inl ⟨by rfl, ?_⟩) (by assumption) ?_
    rotate_left 1
    · (intro w hSw; (try dsimp only at hSw); go_simp; (try with_reducible rfl))
    (try simp only [Act.put, List.setIfInBounds_toArray, List.set_cons_zero, List.set_cons_succ])
    refine wpAnyH_take (i := 1) (oi := ({ dst := some 27, op := Op.move (Operand.tmp 1), type := 25, pos := "ram.go:51", after := #[], guard := none } : Oper)) (v := ?_) rfl (by kernel_rfl) (by kernel_rfl) (by kernel_rfl) (fun _ _ _ h => h) (Or.inl ⟨by rfl, ?_⟩) (by assumption) ?_
    rotate_left 1
    · (intro w hSw; (try dsimp only at hSw); go_simp; (try with_reducible rfl))
    (try simp only [Act.put, List.setIfInBounds_toArray, List.set_cons_zero, List.set_cons_succ])
    refine wpAnyH_take (i := 3) (oi := ({ dst := some 29, op := Op.move (Operand.tmp 2), type := 5, pos := "ram.go:51", after := #[], guard := none } : Oper)) (v := ?_) rfl (by kernel_rfl) (by kernel_rfl) (by kernel_rfl) (fun _ _ _ h => h) (Or.inl ⟨by rfl, ?_⟩) (by assumption) ?_
    rotate_left 1
    · (intro w hSw; (try dsimp only at hSw); go_simp; (try with_reducible rfl))
    (try simp only [Act.put, List.setIfInBounds_toArray, List.set_cons_zero, List.set_cons_succ])
    refine wpAnyH_take (i := 4) (oi := ({ dst := some 30, op := Op.nilCheck (Operand.tmp 26), type := 0, pos := "ram.go:51", after := #[{ on := 0, ground := Ground.data }], guard := none } : Oper)) (v := ?_) rfl (by kernel_rfl) (by kernel_rfl) (by kernel_rfl) (fun _ _ _ h => h) (Or.inl ⟨by rfl, ?_⟩) (by assumption) ?_
    rotate_left 1
    · (intro w hSw; (try dsimp only at hSw); go_simp; (try with_reducible rfl))
    (try simp only [Act.put, List.setIfInBounds_toArray, List.set_cons_zero, List.set_cons_succ])
    refine wpAnyH_ready (rs := [2]) (by kernel_rfl) (by simp) ?_
    refine AllReadyH.cons (o := ({ dst := some 28, op := Op.call { callee := Callee.value (Operand.func 41), args := #[Operand.tmp 27], argTypes := #[25] }, type := 5, pos := "ram.go:51", after := #[{ on := 1, ground := Ground.data }], guard := none } : Oper)) rfl (fun K hK => ?_) ?_
    rotate_left 1
    · exact AllReadyH.nil
    go_simp
    go_at_call 41
    ((with_reducible refine (HL.out _).mono ?_); rintro e w' ⟨rfl, rfl⟩)
    first | (refine hK.out _ _ ?_ (fun hH1 => ?_)) | (go_wp2_with fail; refine hK.out _ _ ?_ (fun hH1 => ?_))
    · trivial
    clear hK K hH0
    (try simp only [Act.put, List.setIfInBounds_toArray, List.set_cons_zero, List.set_cons_succ])
    refine wpAnyH_take (i := 5) (oi := ({ dst := some 31, op := Op.indexAddr 111 (Operand.tmp 30) (Operand.tmp 28), type := 0, pos := "ram.go:51", after := #[{ on := 4, ground := Ground.data }, { on := 2, ground := Ground.data }, { on := 0, ground := Ground.phase }, { on := 1, ground := Ground.phase }, { on := 2, ground := Ground.phase }, { on := 3, ground := Ground.phase }], guard := none } : Oper)) (v := ?_) rfl (by kernel_rfl) (by kernel_rfl) (by kernel_rfl) (fun _ _ _ h => h) (Or.inl ⟨by rfl, ?_⟩) (by assumption) ?_
    rotate_left 1
    · (intro w hSw; (try dsimp only at hSw); go_simp; (try with_reducible rfl))
    (try simp only [Act.put, List.setIfInBounds_toArray, List.set_cons_zero, List.set_cons_succ])
    refine wpAnyH_ready (rs := [6]) (by kernel_rfl) (by simp) ?_
    refine AllReadyH.cons (o := ({ dst := none, op := Op.store 5 (Operand.tmp 31) (Operand.tmp 29), type := 0, pos := "ram.go:51", after := #[{ on := 5, ground := Ground.data }, { on := 3, ground := Ground.data }, { on := 2, ground := Ground.chain }, { on := 0, ground := Ground.phase }, { on := 1, ground := Ground.phase }, { on := 2, ground := Ground.phase }, { on := 3, ground := Ground.phase }], guard := none } : Oper)) rfl (fun K hK => ?_) ?_
    rotate_left 1
    · exact AllReadyH.nil
    go_simp
    first | (refine hK.out _ _ ?_ (fun hH2 => ?_)) | (go_wp2_with fail; refine hK.out _ _ ?_ (fun hH2 => ?_))
    · trivial
    clear hK K hH1
    (try simp only [Act.put, List.setIfInBounds_toArray, List.set_cons_zero, List.set_cons_succ])
    refine wpAnyH_done (by kernel_rfl) ?_ _
    refine NoPanic.normal ?_
    go_wp2
    exact Great.bodyPost_end0 rfl rfl ⟨rfl, p, (HR.out _).1, (Rst.drewN _ _ _ _).trans (HR.out _).2⟩
  | none =>
    rw [hp] at c0
    simp only [ptrTo, Option.map_none] at c0
    have hz := h.empty i i256 hp
    by_cases hb0 : b = 0
    · subst hb0
      have hu : upd f a 0 = f := by
        funext x
        unfold upd
        split
        · rename_i e
          rw [e, ← hik, hz k k256]
        · rfl
      rw [hu]
      have HR := Lib.hid h
      clear h hp hz hik hi hk hb hu
      go_enter Tryz.func30, Tryz.ntmps30
      go_wp2
      go_quiet ((go_at_call 42; exact Calls.quiet_of ((HH.out _).mono (fun e w' h => ⟨h.1, 0, h.2.symm⟩))))
      go_wp2
      exact Great.bodyPost_end0 rfl rfl ⟨rfl, p, HR.out.drewN _, Rst.drewN _ _ _ _⟩
    · have hE : (b == 0) = false := by simpa using hb0
      have f0 := h.blk.frozen i
      have HR := Lib.hid h
      have HP := Lib.hid hp
      have HZ := Lib.hid hz
      have HIK := Lib.hid hik
      clear h hp hz hik hi hk hb hb0
      go_enter Tryz.func30, Tryz.ntmps30
      go_wp2
      go_quiet ((go_at_call 42; exact Calls.quiet_of ((HH.out _).mono (fun e w' h => ⟨h.1, 0, h.2.symm⟩))))
      go_upto_region 3 with (fail)
      refine wp_region_lit ?_
      refine Great.wpList_allocTo rfl (some 18) rfl (.pointer (some ⟨w.heap.size, 0, none⟩)) (.cells (Array.replicate 256 (.int .u8 0)) 111) (by kernel_rfl) ?_
      have R0 : Ra ((w.drewN nq).alloc (.cells (Array.replicate 256 (.int .u8 0)) 111)) m p rom f := (HR.out.drewN nq).alloc _
      have B0 : Blk ((w.drewN nq).alloc (.cells (Array.replicate 256 (.int .u8 0)) 111)) w.heap.size 111 (pgCs f i) := by
        rw [pgCs_zero f i HZ.out]
        exact Blk.new (w.drewN nq) 111 _ _
      have T0 : Rst w ((w.drewN nq).alloc (.cells (Array.replicate 256 (.int .u8 0)) 111)) m p p := Rst.of_below (Below.alloc0 (Below.drewN0 (Below.refl _ _) nq) _) m p
      have N0 : ¬ RS m p w.heap.size := fun e => by have := HR.out.own_lt _ e; omega
      have G0 : w.heap.size ≤ w.heap.size := Nat.le_refl _
      obtain ⟨g, hg⟩ : ∃ g, w.heap.size = g := ⟨_, rfl⟩
      rw [hg] at B0 N0 ⊢
      have HG := Lib.hid (show w.heap.size ≤ g by omega)
      generalize ((w.drewN nq).alloc (.cells (Array.replicate 256 (.int .u8 0)) 111)) = W0 at R0 B0 T0 ⊢
      have c0 := R0.ptr i i256
      rw [HP.out] at c0
      simp only [ptrTo, Option.map_none] at c0
      have f0 := R0.blk.frozen i
      have H0 := Lib.hid (And.intro R0 (And.intro B0 (And.intro T0 N0)))
      clear R0 B0 T0 N0 G0 hg
      go_wp2
      refine wp_region_noPanic ?_
      refine wp_region_held_drew (S := (fun _ => True)) (by kernel_rfl) ?_ (fun hH0 => ?_)
      · trivial
      refine wpAnyH_take (i := 0) (oi := ({ dst := some 19, op := Op.move (Operand.tmp 0), type := 28, pos := "ram.go:49", after := #[], guard := none } : Oper)) (v := ?_) rfl (by kernel_rfl) (by kernel_rfl) (by kernel_rfl) (fun _ _ _ h => h) (Or.inl ⟨by rfl, ?_⟩) (by assumption) ?_
      rotate_left 1
      · (intro w hSw; (try dsimp only at hSw); go_simp; (try with_reducible rfl))
      (try simp only [Act.put, List.setIfInBounds_toArray, List.set_cons_zero, List.set_cons_succ])
      refine wpAnyH_take (i := 1) (oi := ({ dst := some 20, op := Op.move (Operand.tmp 1), type := 25, pos := "ram.go:49", after := #[], guard := none } : Oper)) (v := ?_) rfl (by kernel_rfl) (by kernel_rfl) (by kernel_rfl) (fun _ _ _ h => h) (Or.inl ⟨by rfl, ?_⟩) (by assumption) ?_
      rotate_left 1
      · (intro w hSw; (try dsimp only at hSw); go_simp; (try with_reducible rfl))
      (try simp only [Act.put, List.setIfInBounds_toArray, List.set_cons_zero, List.set_cons_succ])
      refine wpAnyH_take (i := 3) (oi := ({ dst := some 22, op := Op.move (Operand.tmp 6), type := 48, pos := "ram.go:49", after := #[], guard := none } : Oper)) (v := ?_) rfl (by kernel_rfl) (by kernel_rfl) (by kernel_rfl) (fun _ _ _ h => h) (Or.inl ⟨by rfl, ?_⟩) (by assumption) ?_
      rotate_left 1
      · (intro w hSw; (try dsimp only at hSw); go_simp; (try with_reducible rfl))
      (try simp only [Act.put, List.setIfInBounds_toArray, List.set_cons_zero, List.set_cons_succ])
      refine wpAnyH_take (i := 4) (oi := ({ dst := some 23, op := Op.nilCheck (Operand.tmp 19), type := 0, pos := "ram.go:49", after := #[{ on := 0, ground := Ground.data }], guard := none } : Oper)) (v := ?_) rfl (by kernel_rfl) (by kernel_rfl) (by kernel_rfl) (fun _ _ _ h => h) (Or.inl ⟨by rfl, ?_⟩) (by assumption) ?_
      rotate_left 1
      · (intro w hSw; (try dsimp only at hSw); go_simp; (try with_reducible rfl))
      (try simp only [Act.put, List.setIfInBounds_toArray, List.set_cons_zero, List.set_cons_succ])
      refine wpAnyH_take (i := 5) (oi := ({ dst := some 24, op := Op.fieldAddr 51 (Operand.tmp 23) 0, type := 0, pos := "ram.go:49", after := #[{ on := 4, ground := Ground.data }], guard := none } : Oper)) (v := ?_) rfl (by kernel_rfl) (by kernel_rfl) (by kernel_rfl) (fun _ _ _ h => h) (Or.inl ⟨by rfl, ?_⟩) (by assumption) ?_
      rotate_left 1
      · (intro w hSw; (try dsimp only at hSw); go_simp; (try with_reducible rfl))
      (try simp only [Act.put, List.setIfInBounds_toArray, List.set_cons_zero, List.set_cons_succ])
      refine wpAnyH_ready (rs := [2]) (by kernel_rfl) (by simp) ?_
      refine AllReadyH.cons (o := ({ dst := some 21, op := Op.call { callee := Callee.value (Operand.func 42), args := #[Operand.tmp 20], argTypes := #[25] }, type := 5, pos := "ram.go:49", after := #[{ on := 1, ground := Ground.data }], guard := none } : Oper)) rfl (fun K hK => ?_) ?_
      rotate_left 1
      · exact AllReadyH.nil
      go_simp
      go_at_call 42
      ((with_reducible refine (HH.out _).mono ?_); rintro e w' ⟨rfl, rfl⟩)
      first | (refine hK.out _ _ ?_ (fun hH1 => ?_)) | (go_wp2_with fail; refine hK.out _ _ ?_ (fun hH1 => ?_))
      · trivial
      clear hK K hH0
      (try simp only [Act.put, List.setIfInBounds_toArray, List.set_cons_zero, List.set_cons_succ])
      refine wpAnyH_take (i := 6) (oi := ({ dst := some 25, op := Op.indexAddr 49 (Operand.tmp 24) (Operand.tmp 21), type := 0, pos := "ram.go:49", after := #[{ on := 5, ground := Ground.data }, { on := 2, ground := Ground.data }, { on := 0, ground := Ground.phase }, { on := 1, ground := Ground.phase }, { on := 2, ground := Ground.phase }, { on := 3, ground := Ground.phase }], guard := none } : Oper)) (v := ?_) rfl (by kernel_rfl) (by kernel_rfl) (by kernel_rfl) (fun _ _ _ h => h) (Or.inl ⟨by rfl, ?_⟩) (by assumption) ?_
      rotate_left 1
      · (intro w hSw; (try dsimp only at hSw); go_simp; (try with_reducible rfl))
      (try simp only [Act.put, List.setIfInBounds_toArray, List.set_cons_zero, List.set_cons_succ])
      refine wpAnyH_ready (rs := [7]) (by kernel_rfl) (by simp) ?_
      refine AllReadyH.cons (o := ({ dst := none, op := Op.store 48 (Operand.tmp 25) (Operand.tmp 22), type := 0, pos := "ram.go:49", after := #[{ on := 6, ground := Ground.data }, { on := 3, ground := Ground.data }, { on := 2, ground := Ground.chain }, { on := 0, ground := Ground.phase }, { on := 1, ground := Ground.phase }, { on := 2, ground := Ground.phase }, { on := 3, ground := Ground.phase }], guard := none } : Oper)) rfl (fun K hK => ?_) ?_
      rotate_left 1
      · exact AllReadyH.nil
      go_simp
      first | (refine hK.out _ _ ?_ (fun hH2 => ?_)) | (go_wp2_with fail; refine hK.out _ _ ?_ (fun hH2 => ?_))
      · trivial
      clear hK K hH1
      (try simp only [Act.put, List.setIfInBounds_toArray, List.set_cons_zero, List.set_cons_succ])
      refine wpAnyH_done (by kernel_rfl) ?_ _
      refine NoPanic.normal ?_
      have HW := Lib.hid (Ra.putPage H0.out i256 HP.out HG.out)
      clear H0 c0 f0
      generalize ((W0.setCell ⟨m, i, none⟩ (.pointer (some ⟨g, 0, none⟩))).drew) = W1 at HW ⊢
      have c1 := HW.out.1.byte i256 (updP_here p i g) k k256
      have f1 := ((HW.out.1.page i g i256 (updP_here p i g)).2).frozen k
      rw [HIK.out] at c1
      generalize f a = F at c1
      have HR := Lib.hid (HW.out.1.drew.setByte i256 (updP_here p i g) k k256 b HB.out)
      rw [HIK.out] at HR
      go_wp2
      refine wp_region_noPanic ?_
      refine wp_region_held_drew (S := (fun _ => True)) (by kernel_rfl) ?_ (fun hH0 => ?_)
      · trivial
      refine wpAnyH_take (i := 0) (oi := ({ dst := some 26, op := Op.move (Operand.tmp 6), type := 48, pos := "ram.go:51", after := #[], guard := none } : Oper)) (v := ?_) rfl (by kernel_rfl) (by kernel_rfl) (by kernel_rfl) (fun _ _ _ h => h) (Or.inl ⟨by rfl, ?_⟩) (by assumption) ?_
      rotate_left 1
      · (intro w hSw; (try dsimp only at hSw); go_simp; (try with_reducible rfl))
      (try simp only [Act.put, List.setIfInBounds_toArray, List.set_cons_zero, List.set_cons_succ])
      refine wpAnyH_take (i := 1) (oi := ({ dst := some 27, op := Op.move (Operand.tmp 1), type := 25, pos := "ram.go:51", after := #[], guard := none } : Oper)) (v := ?_) rfl (by kernel_rfl) (by kernel_rfl) (by kernel_rfl) (fun _ _ _ h => h) (Or.inl ⟨by rfl, ?_⟩) (by assumption) ?_
      rotate_left 1
      · (intro w hSw; (try dsimp only at hSw); go_simp; (try with_reducible rfl))
      (try simp only [Act.put, List.setIfInBounds_toArray, List.set_cons_zero, List.set_cons_succ])
      refine wpAnyH_take (i := 3) (oi := ({ dst := some 29, op := Op.move (Operand.tmp 2), type := 5, pos := "ram.go:51", after := #[], guard := none } : Oper)) (v := ?_) rfl (by kernel_rfl) (by kernel_rfl) (by kernel_rfl) (fun _ _ _ h => h) (Or.inl ⟨by rfl, ?_⟩) (by assumption) ?_
      rotate_left 1
      · (intro w hSw; (try dsimp only at hSw); go_simp; (try with_reducible rfl))
      (try simp only [Act.put, List.setIfInBounds_toArray, List.set_cons_zero, List.set_cons_succ])
      refine wpAnyH_take (i := 4) (oi := ({ dst := some 30, op := Op.nilCheck (Operand.tmp 26), type := 0, pos := "ram.go:51", after := #[{ on := 0, ground := Ground.data }], guard := none } : Oper)) (v := ?_) rfl (by kernel_rfl) (by kernel_rfl) (by kernel_rfl) (fun _ _ _ h => h) (Or.inl ⟨by rfl, ?_⟩) (by assumption) ?_
      rotate_left 1
      · (intro w hSw; (try dsimp only at hSw); go_simp; (try with_reducible rfl))
      (try simp only [Act.put, List.setIfInBounds_toArray, List.set_cons_zero, List.set_cons_succ])
      refine wpAnyH_ready (rs := [2]) (by kernel_rfl) (by simp) ?_
      refine AllReadyH.cons (o := ({ dst := some 28, op := Op.call { callee := Callee.value (Operand.func 41), args := #[Operand.tmp 27], argTypes := #[25] }, type := 5, pos := "ram.go:51", after := #[{ on := 1, ground := Ground.data }], guard := none } : Oper)) rfl (fun K hK => ?_) ?_
      rotate_left 1
      · exact AllReadyH.nil
      go_simp
      go_at_call 41
      ((with_reducible refine (HL.out _).mono ?_); rintro e w' ⟨rfl, rfl⟩)
      first | (refine hK.out _ _ ?_ (fun hH1 => ?_)) | (go_wp2_with fail; refine hK.out _ _ ?_ (fun hH1 => ?_))
      · trivial
      clear hK K hH0
      (try simp only [Act.put, List.setIfInBounds_toArray, List.set_cons_zero, List.set_cons_succ])
      refine wpAnyH_take (i := 5) (oi := ({ dst := some 31, op := Op.indexAddr 111 (Operand.tmp 30) (Operand.tmp 28), type := 0, pos := "ram.go:51", after := #[{ on := 4, ground := Ground.data }, { on := 2, ground := Ground.data }, { on := 0, ground := Ground.phase }, { on := 1, ground := Ground.phase }, { on := 2, ground := Ground.phase }, { on := 3, ground := Ground.phase }], guard := none } : Oper)) (v := ?_) rfl (by kernel_rfl) (by kernel_rfl) (by kernel_rfl) (fun _ _ _ h => h) (Or.inl ⟨by rfl, ?_⟩) (by assumption) ?_
      rotate_left 1
      · (intro w hSw; (try dsimp only at hSw); go_simp; (try with_reducible rfl))
      (try simp only [Act.put, List.setIfInBounds_toArray, List.set_cons_zero, List.set_cons_succ])
      refine wpAnyH_ready (rs := [6]) (by kernel_rfl) (by simp) ?_
      refine AllReadyH.cons (o := ({ dst := none, op := Op.store 5 (Operand.tmp 31) (Operand.tmp 29), type := 0, pos := "ram.go:51", after := #[{ on := 5, ground := Ground.data }, { on := 3, ground := Ground.data }, { on := 2, ground := Ground.chain }, { on := 0, ground := Ground.phase }, { on := 1, ground := Ground.phase }, { on := 2, ground := Ground.phase }, { on := 3, ground := Ground.phase }], guard := none } : Oper)) rfl (fun K hK => ?_) ?_
      rotate_left 1
      · exact AllReadyH.nil
      go_simp
      first | (refine hK.out _ _ ?_ (fun hH2 => ?_)) | (go_wp2_with fail; refine hK.out _ _ ?_ (fun hH2 => ?_))
      · trivial
      clear hK K hH1
      (try simp only [Act.put, List.setIfInBounds_toArray, List.set_cons_zero, List.set_cons_succ])
      refine wpAnyH_done (by kernel_rfl) ?_ _
      refine NoPanic.normal ?_
      go_wp2
      exact Great.bodyPost_end0 rfl rfl ⟨rfl, updP p i g, HR.out.1, HW.out.2.trans ((Rst.drewN _ _ _ 1).trans HR.out.2)⟩
end Go.Proofs.YtljhfalgplihhaaGreatDoor
namespace Go.Proofs.YtljhfalgplihhaaGreatDoor
open Go.ChangeShapes Go.WideShapes Go.ChangeAt Go.RowKit
set_option linter.unusedVariables false

theorem catchRd_idle (w : World) :
    CallsD Tryz.prog 57 #[] .returning w fun e u' w' => e = .returned (.tuple #[]) ∧ u' = .returning ∧ w' = w := by
  refine callsD_of_wpS Tryz.func57 rfl fun c₀ cs hu => ?_
  first | apply wpS_seq | skip
  apply wpS_region
  simp [wpOpsS, go_sem, recoverD, hu, Tryz.ntmps57]
  cases c₀
  simp_all [bodyPostS, results, Tryz.results57]
theorem busRead_any (m : Nat) (p : Nat → Option Nat) (rom : Int) (f : Nat → Int) (a : Nat) (w : World) (h : Ra w m p rom f) (ha : a < 65536) :
    Calls Tryz.prog 37 #[.agg #[.iface 28 (.pointer (some ⟨m, 0, none⟩))], .int .u16 (a : Int)] w fun e w' => e = .returned (.int .u8 (f a)) ∧ Below w.heap.size w w' := by
  have hmf : ∀ (fn : Fn) (first cap : Array Value) (w : World), (Instr.makeFunc fn first cap).run Tryz.prog w = .ok (.func fn first cap) w := fun _ _ _ _ => rfl
  have R1 := h.alloc (.cells #[.iface 28 (.pointer (some ⟨m, 0, none⟩))] 89)
  have HR := Lib.hid (fun (u : World) (hu : Ra u m p rom f) => raRead_any m p rom f a u hu ha)
  clear h
  go_enter_defers Tryz.func37, Tryz.ntmps37
  go_wp2_with (go_at_call 124; refine (HR.out _ R1).mono ?_; rintro e w' ⟨rfl, k, rfl⟩)
  refine leaves_cons (f := 57) (args := #[]) (by simp) (by simp [go_sem]) ?_
  refine (catchRd_idle _).mono ?_
  rintro e u' w'' ⟨rfl, rfl, rfl⟩
  simp [Leaves, settle, results, Tryz.results37, go_sem]
  exact Below.drewN0 (Below.alloc0 (Below.refl _ w) _) k
end Go.Proofs.YtljhfalgplihhaaGreatDoor
namespace Go.Proofs.YtljhfalgplihhaaGreatDoor
open Go.ChangeShapes Go.WideShapes Go.ChangeAt Go.RowKit
set_option linter.unusedVariables false

/-- The slice lies in no block of memory. -/
def OffR (m : Nat) (p : Nat → Option Nat) (v : Value) : Prop := ∀ b o n c, v = .slice (some ⟨b, o, none⟩) n c → 0 < n → ¬ RS m p b
/-- Memory with k bytes of a list from an address on. -/
def ldF (f : Nat → Int) (a : Nat) (xs : List Int) (k : Nat) : Nat → Int := fun x => if a ≤ x ∧ x < a + k then iat xs (x - a) else f x
theorem ldF_zero (f : Nat → Int) (a : Nat) (xs : List Int) : ldF f a xs 0 = f := by
  funext x
  unfold ldF
  rw [if_neg (by omega)]
theorem ldF_next (f : Nat → Int) (a : Nat) (xs : List Int) (k : Nat) : upd (ldF f a xs k) (a + k) (iat xs k) = ldF f a xs (k + 1) := by
  funext x
  unfold upd ldF
  by_cases e : x = a + k
  · rw [if_pos e, if_pos (by omega), e, Nat.add_sub_cancel_left]
  · rw [if_neg e]
    by_cases h : a ≤ x ∧ x < a + k
    · rw [if_pos h, if_pos (by omega)]
    · rw [if_neg h, if_neg (by omega)]
def LoadPost (w : World) (m : Nat) (p : Nat → Option Nat) (rom : Int) (f' : Nat → Int) (e : Ending) (w' : World) : Prop := e = .returned (.int .i64 0) ∧ ∃ p', Ra w' m p' rom f' ∧ Rst w w' m p p'
theorem raLoad_no (m : Nat) (a : Int) (A : Option Addr) (n c : Nat) (w : World) (ha : -9223372036854775808 ≤ a ∧ a ≤ 9223372036854775807) (hn : n ≤ 9223372036854775807) (hno : ¬ (0 ≤ a ∧ a + n ≤ 65536)) :
    Calls Tryz.prog 13 #[.pointer (some ⟨m, 0, none⟩), .int .i64 a, .slice A n c] w fun e w' => e = .returned (.int .i64 11) ∧ w = w' := by
  by_cases h0 : a < 0
  · have d0 := decide_eq_true h0
    go_enter Tryz.func13, Tryz.ntmps13
    go_wp2
    go_ret
    exact ⟨rfl, rfl⟩
  · by_cases h1 : 65536 < a
    · have d0 := decide_eq_false h0
      have d1 := decide_eq_true h1
      go_enter Tryz.func13, Tryz.ntmps13
      go_wp2
      go_ret
      exact ⟨rfl, rfl⟩
    · have d0 := decide_eq_false h0
      have d1 := decide_eq_false h1
      have h2 : 65536 - a < (n : Int) := by omega
      have d2 := decide_eq_true h2
      have kw : IntKind.i64.wrap (65536 - a) = 65536 - a := IntWalk.i64_in _ (by omega)
      go_enter Tryz.func13, Tryz.ntmps13
      go_wp2
      go_ret
      exact ⟨rfl, rfl⟩
set_option maxHeartbeats 2000000 in
theorem raLoad_ok (m : Nat) (p : Nat → Option Nat) (rom : Int) (f : Nat → Int) (a : Nat) (v : Value) (xs : List Int) (w : World) (h : Ra w m p rom f) (hr : eY.Rd w v xs) (hx : Byt xs) (ho : OffR m p v) (ha : a + xs.length ≤ 65536) :
    Calls Tryz.prog 13 #[.pointer (some ⟨m, 0, none⟩), .int .i64 (a : Int), v] w (LoadPost w m p rom (ldF f a xs xs.length)) := by
  obtain ⟨A, c, rfl, hc⟩ := rdY_open hr
  have HC := Lib.hid hc
  have HO := Lib.hid ho
  have HX := Lib.hid hx
  have HR0 := Lib.hid h
  obtain ⟨n, hn⟩ : ∃ n, xs.length = n := ⟨_, rfl⟩
  have HN := Lib.hid hn
  rw [hn] at HC HO ha ⊢
  clear hr hc ho hx h hn
  have a0 : ¬ (a : Int) < 0 := by omega
  have a1 : ¬ (65536 : Int) < (a : Int) := by omega
  have kw : IntKind.i64.wrap (65536 - (a : Int)) = 65536 - (a : Int) := IntWalk.i64_in _ (by omega)
  have a2 : ¬ (65536 - (a : Int) < (n : Int)) := by omega
  have d0 := decide_eq_false a0
  have d1 := decide_eq_false a1
  have d2 := decide_eq_false a2
  go_enter Tryz.func13, Tryz.ntmps13
  go_wp2
  go_loopw [24] (fun i wr => ∃ k : Nat, k ≤ n ∧ i = .int .i64 k ∧ Hid (∃ p', Ra wr m p' rom (ldF f a xs k) ∧ Rst w wr m p p')) (fun i _ => n - (intOf i).toNat)
  case atStart => exact ⟨0, Nat.zero_le _, rfl, Lib.hid ⟨p, by rw [ldF_zero]; exact HR0.out, Rst.refl _ _ _⟩⟩
  case round =>
    obtain ⟨k, hk, rfl, HK⟩ := hrel
    by_cases hlt : k < n
    · obtain ⟨p1, hR, hS⟩ := HK.out
      obtain ⟨g, off, rfl, hg, hcell⟩ := HC.out (by omega)
      have hne := HO.out g off n c rfl (by omega)
      have c1 : wr.cell? ⟨g, off + k, none⟩ = some (.int .u8 (iat xs k)) := by
        rw [← hcell k hlt]
        unfold World.cell?
        rw [show wr.heap[(⟨g, off + k, none⟩ : Addr).block]? = w.heap[(⟨g, off + k, none⟩ : Addr).block]? from hS.block g hg hne]
      have t0 : (0 : Int) ≤ k := by omega
      have t1 : (k : Int) < n := by omega
      have kb := HX.out.at_ k
      have k1 : IntKind.i64.wrap ((a : Int) + (k : Int)) = (a : Int) + (k : Int) := IntWalk.i64_in _ (by omega)
      have HPK := Lib.hid (raPoke_any m p1 rom (ldF f a xs k) (a + k) (iat xs k) wr hR (by omega) kb)
      rw [ldF_next, Int.natCast_add] at HPK
      have HS := Lib.hid hS
      clear hR hS hcell hne HK
      generalize iat xs k = x at *
      go_wp2_with fail
      refine HPK.out.mono ?_
      rintro e w' ⟨rfl, p2, h1, h2⟩
      have HK2 : Hid (∃ p', Ra w' m p' rom (ldF f a xs (k + 1)) ∧ Rst w w' m p p') := Lib.hid ⟨p2, h1, HS.out.trans h2⟩
      clear h1 h2 HPK
      go_wp2
      go_roundw
      case rel => exact ⟨k + 1, by omega, by go_num, HK2⟩
      case measure => simp [intOf] <;> omega
    · obtain rfl : k = n := by omega
      go_wp2
      go_ret
      obtain ⟨p', h1, h2⟩ := HK.out
      exact ⟨rfl, p', h1, h2⟩
end Go.Proofs.YtljhfalgplihhaaGreatDoor
namespace Go.Proofs.YtljhfalgplihhaaGreatDoor
open Go.ChangeShapes Go.WideShapes Go.ChangeAt Go.RowKit
set_option linter.unusedVariables false

/-- A row of bytes, told as a function: its cells, its list. -/
def rowF (q : Nat → Int) (n : Nat) : Array Value := ((List.range n).map fun i => Value.int .u8 (q i)).toArray
def lstF (q : Nat → Int) (n : Nat) : List Int := (List.range n).map q
theorem lstF_len (q : Nat → Int) (n : Nat) : (lstF q n).length = n := by unfold lstF; rw [List.length_map, List.length_range]
theorem iat_lstF (q : Nat → Int) (n i : Nat) (h : i < n) : iat (lstF q n) i = q i := by
  rw [iat_eq _ _ (by rw [lstF_len]; exact h)]
  simp only [lstF, List.getElem_map, List.getElem_range]
theorem rowF_at (q : Nat → Int) (n i : Nat) (h : i < n) : (rowF q n)[i]? = some (.int .u8 (q i)) := by
  unfold rowF
  rw [List.getElem?_toArray, List.getElem?_map, List.getElem?_range h]; rfl
theorem rowF_set (q : Nat → Int) (n k : Nat) (x : Int) (hk : k < n) : (rowF q n).setIfInBounds k (.int .u8 x) = rowF (upd q k x) n := by
  unfold rowF
  rw [List.setIfInBounds_toArray]
  congr 1
  apply List.ext_getElem (by rw [List.length_set, List.length_map, List.length_map])
  intro j h1 h2
  rw [List.getElem_set]
  simp only [List.getElem_map, List.getElem_range, upd]
  by_cases e : k = j
  · subst e; simp
  · rw [if_neg e, if_neg (fun e2 => e e2.symm)]
theorem rowF_zero (n : Nat) : rowF (fun _ => 0) n = Array.replicate n (.int .u8 0) := by
  unfold rowF
  apply Array.ext'
  rw [Array.toList_replicate, List.toList_toArray]
  apply List.ext_getElem (by rw [List.length_map, List.length_range, List.length_replicate])
  intro j h1 h2
  simp only [List.getElem_map, List.getElem_replicate]
theorem rdY_row {w : World} {g n : Nat} {t : TypeId} {q : Nat → Int} (h : Blk w g t (rowF q n)) (c : Nat) : eY.Rd w (.slice (some ⟨g, 0, none⟩) n c) (lstF q n) := by
  refine rdY_mk (lstF_len q n) h.lt fun i hi => ?_
  rw [lstF_len] at hi
  rw [Nat.zero_add, h.cell, rowF_at q n i hi, iat_lstF q n i hi]
set_option maxRecDepth 100000 in
theorem made_N (w : World) (n : Nat) (hn : n ≤ 65536) : (Instr.makeSlice 22 (.int .i64 (n : Int)) (.int .i64 (n : Int))).run Tryz.prog w = .ok (.slice (some ⟨w.heap.size, 0, none⟩) n n) (w.alloc (.cells (rowF (fun _ => 0) n) 5)) := by
  obtain ⟨i0, hi, hz0, hz1, hz2⟩ := info_parts info8
  have hr := run_make (P := Tryz.prog) w 22 5 i0 _ Tryz.underlying22 hi hz0 .i64 .i64 n n (by omega) (by omega) (by rw [hz2]; omega) (by omega)
  simp only [Int.toNat_natCast] at hr
  rw [hr, hz1, Nat.mul_one, rowF_zero]
  congr 3
  apply Array.ext
  · rw [size_madeCells]; simp
  · intro i h1 h2
    have : i < n := by rw [size_madeCells] at h1; exact h1
    simp [madeCells, Value.cells, Nat.mod_one]
/-- What is read from an address on, beyond the end from 0 on again. -/
def partF (f : Nat → Int) (a : Nat) : Nat → Int := fun i => f ((a + i) % 65536)
def ReadsY (w : World) (l : List Int) (e : Ending) (w' : World) : Prop := ∃ v, e = .returned v ∧ eY.Rd w' v l ∧ Below w.heap.size w w'
end Go.Proofs.YtljhfalgplihhaaGreatDoor
