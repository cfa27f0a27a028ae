/- Package prof's counts: a map from addresses to counts, by the list of what it holds. -/
import Derived.Test.YtlgaedhbgkhmeaaPfM
import Derived.Test.YtlgaedhbgkhmeaaPfS
import Derived.Maps.OwnSet
import Derived.Maps.Views
import Derived.Maps.RangeWalk
namespace Go.Proofs.Ytlgaedhbgkhmeaa
open Go.ChangeShapes Go.WideShapes Go.ChangeAt Go.RowKit
set_option linter.unusedVariables false
abbrev spD (x : SpN) : DataW Unit := .agg [.lit (.int .u16 x.a), .lit (.int .i64 x.t), .lit (.int .i64 x.c), .lit (.int .i64 x.l)]
def z4 : SpN := ⟨0, 0, 0, 0⟩
/-- How a count that stands in the map reads. -/
def spR : Value → Option (DataW Unit × List MemPlace)
  | .agg ⟨[.int .u16 a, .int .i64 t, .int .i64 c, .int .i64 l]⟩ => some (spD ⟨a, t, c, l⟩, [])
  | _ => none
theorem spR_mk (x : SpN) : spR (spV x) = some (spD x, []) := rfl
theorem spR_inv {v : Value} {z : DataW Unit × List MemPlace} (h : spR v = some z) : ∃ x, v = spV x ∧ z = (spD x, []) := by
  unfold spR at h
  split at h
  · injection h with h
    exact ⟨_, rfl, h.symm⟩
  · cases h
theorem spD_inj {x y : SpN} (h : spD x = spD y) : x = y := by
  cases x; cases y
  simp only [spD, DataW.agg.injEq, List.cons.injEq, DataW.lit.injEq, Lit.int.injEq, true_and, and_true] at h
  obtain ⟨rfl, rfl, rfl, rfl⟩ := h
  rfl
/-- What is counted of an address. -/
def lkS (L : List SpN) (a : Int) : Option SpN := L.find? (fun x => x.a == a)
def ofN (L : List SpN) (a : Int) : SpN := (lkS L a).getD z4
/-- .. with a part more. -/
def addV (L : List SpN) (a o l : Int) : SpN := ⟨a, (ofN L a).t + 1, (ofN L a).c + o, (ofN L a).l + l⟩
theorem lkS_at {L : List SpN} {a : Int} {x : SpN} (h : lkS L a = some x) : x ∈ L ∧ x.a = a := ⟨List.mem_of_find?_eq_some h, by have := List.find?_some h; simpa using this⟩
theorem lkS_none {L : List SpN} {a : Int} : lkS L a = none ↔ ∀ x ∈ L, x.a ≠ a := by
  unfold lkS; rw [List.find?_eq_none]; simp
theorem lkS_mem {L : List SpN} (hd : DisN L) {x : SpN} (hx : x ∈ L) : lkS L x.a = some x := by
  cases h : lkS L x.a with
  | none => exact absurd rfl (lkS_none.1 h x hx)
  | some y =>
    obtain ⟨h1, h2⟩ := lkS_at h
    obtain ⟨i, hi⟩ := List.mem_iff_getElem?.1 hx
    obtain ⟨j, hj⟩ := List.mem_iff_getElem?.1 h1
    obtain ⟨hi1, hi2⟩ := List.getElem?_eq_some_iff.1 hi
    obtain ⟨hj1, hj2⟩ := List.getElem?_eq_some_iff.1 hj
    rcases Nat.lt_trichotomy i j with q | q | q
    · have := List.pairwise_iff_getElem.1 hd i j hi1 hj1 q
      rw [hi2, hj2] at this
      exact absurd h2.symm this
    · subst q; rw [hi] at hj; exact hj.symm
    · have := List.pairwise_iff_getElem.1 hd j i hj1 hi1 q
      rw [hi2, hj2] at this
      exact absurd h2 this
theorem find_map_inc (L : List SpN) (a o l b : Int) : (L.map (fun x => if x.a = a then incN o l x else x)).find? (fun x => x.a == b) = (L.find? (fun x => x.a == b)).map (fun x => if x.a = a then incN o l x else x) := by
  rw [List.find?_map]
  congr 1
  have e : ((fun x : SpN => x.a == b) ∘ fun x => if x.a = a then incN o l x else x) = fun x => x.a == b := by
    funext x
    simp only [Function.comp]
    split <;> rfl
  rw [e]
theorem lkS_add (L : List SpN) (a o l b : Int) : lkS (addN L a o l) b = if b = a then some (addV L a o l) else lkS L b := by
  unfold addN
  split
  · rename_i h
    unfold lkS
    rw [find_map_inc]
    by_cases hb : b = a
    · subst hb
      rw [if_pos rfl]
      obtain ⟨x, hx, hxa⟩ := List.any_eq_true.1 h
      cases hf : L.find? (fun x => x.a == b) with
      | none => exact absurd hxa (by have := List.find?_eq_none.1 hf x hx; simpa using this)
      | some y =>
        have ya : y.a = b := by have := List.find?_some hf; simpa using this
        have e : ofN L b = y := by unfold ofN lkS; rw [hf]; rfl
        rw [Option.map_some, if_pos ya]
        unfold addV incN
        rw [e, ya]
    · rw [if_neg hb]
      cases hf : L.find? (fun x => x.a == b) with
      | none => rfl
      | some y =>
        have ya : y.a = b := by have := List.find?_some hf; simpa using this
        rw [Option.map_some, if_neg (by rw [ya]; exact hb)]
  · rename_i h
    have hn : ∀ x ∈ L, x.a ≠ a := fun x hx e => h (List.any_eq_true.2 ⟨x, hx, by simpa using e⟩)
    have h0 : lkS L a = none := lkS_none.2 hn
    have e : ofN L a = z4 := by unfold ofN; rw [h0]; rfl
    unfold lkS
    rw [List.find?_append]
    by_cases hb : b = a
    · subst hb
      have h0' : L.find? (fun x => x.a == b) = none := h0
      rw [if_pos rfl, h0']
      unfold addV
      rw [e]
      simp [z4]
    · rw [if_neg hb]
      cases hf : L.find? (fun x => x.a == b) with
      | none => simp; omega
      | some y => rfl
theorem addN_len_eq (L : List SpN) (a o l : Int) : (addN L a o l).length = L.length + (if (lkS L a).isSome then 0 else 1) := by
  unfold addN
  split
  · rename_i h
    obtain ⟨x, hx, hxa⟩ := List.any_eq_true.1 h
    have : (lkS L a).isSome = true := by
      cases hf : lkS L a with
      | none => exact absurd (by simpa using hxa) (lkS_none.1 hf x hx)
      | some y => rfl
    rw [this, List.length_map]; rfl
  · rename_i h
    have : lkS L a = none := lkS_none.2 (fun x hx e => h (List.any_eq_true.2 ⟨x, hx, by simpa using e⟩))
    rw [this, List.length_append]; rfl
def keyU (a : Int) : Lit := .int .u16 a
theorem proLaw : Maps.Keyed Try.prog 23 := Maps.int_keyed Try.underlying23
theorem proZero (w : World) : (zeroValue 35).run Try.prog w = .ok (spV z4) w := by kernel_rfl
theorem keyU_wf {a : Int} (h : 0 ≤ a ∧ a < 65536) : (Lit.int .u16 a).wf = true := WalkArith.wf_u16 (by omega)
theorem proKey {a : Int} (h : 0 ≤ a ∧ a < 65536) : keyOf Try.prog 23 (.int .u16 a) = some (keyU a) := Maps.keyOf_int_mk Try.underlying23 (keyU_wf h)
/-- The datum's answers are the list's. -/
def LooksS (D : DataW Unit) (L : List SpN) : Prop :=
  Maps.IsMap D ∧ ∀ a : Int, (∀ x, lkS L a = some x → Maps.has D (keyU a) = true ∧ D.atKey (keyU a) (spD z4) = spD x) ∧ (lkS L a = none → Maps.has D (keyU a) = false)
theorem LooksS.empty : LooksS (.map []) [] := ⟨Maps.isMap_empty, fun a => ⟨fun x h => by simp [lkS] at h, fun _ => rfl⟩⟩
theorem LooksS.at_ {D : DataW Unit} {L : List SpN} (h : LooksS D L) (a : Int) : D.atKey (keyU a) (spD z4) = spD (ofN L a) ∧ Maps.has D (keyU a) = (lkS L a).isSome := by
  unfold ofN
  cases hl : lkS L a with
  | none =>
    have h0 := (h.2 a).2 hl
    exact ⟨Maps.atKey_of_not_has h0 _, h0⟩
  | some x =>
    obtain ⟨h1, h2⟩ := (h.2 a).1 x hl
    exact ⟨h2, h1⟩
theorem LooksS.add {D : DataW Unit} {L : List SpN} (h : LooksS D L) (a o l : Int) : LooksS (D.put (keyU a) (spD (addV L a o l))) (addN L a o l) := by
  refine ⟨h.1.put _ _, fun b => ?_⟩
  rw [lkS_add]
  by_cases hb : b = a
  · subst hb
    rw [if_pos rfl]
    exact ⟨fun x e => by injection e with e; subst e; exact ⟨Maps.has_put_same h.1 (by trivial) _, Maps.atKey_put_same h.1 (by trivial) _ _⟩, fun e => by cases e⟩
  · have hne : keyU b ≠ keyU a := fun e => hb (by unfold keyU at e; injection e)
    rw [if_neg hb, Maps.has_put_other hne, Maps.atKey_put_other hne]
    exact h.2 b
/-- The counts in block g, their map in block ob: they hold L, and have at most n addresses' room. -/
def ProP (w : World) (g : Nat) (ob : Option Nat) (n : Nat) (L : List SpN) : Prop :=
  (∀ x ∈ L, 0 ≤ x.a ∧ x.a < 65536) ∧ DisN L ∧
  ((Blk w g 27 #[.map none] ∧ L = [] ∧ ob = none) ∨
   ∃ b D, ob = some b ∧ Blk w g 27 #[.map (some b)] ∧ b ≠ g ∧ w.ownsMap Try.prog 23 spR b n D ∧ LooksS D L ∧ Maps.size D = L.length)
theorem ProP.blk {w : World} {g n : Nat} {ob : Option Nat} {L : List SpN} (h : ProP w g ob n L) : Blk w g 27 #[.map ob] := by
  rcases h.2.2 with ⟨h1, h2, rfl⟩ | ⟨b, D, rfl, h1, _⟩
  · exact h1
  · exact h1
theorem ProP.new (w : World) : ProP (w.alloc (.cells #[.map none] 27 (0, 0))) w.heap.size none 0 [] :=
  ⟨fun p h => by simp at h, List.Pairwise.nil, .inl ⟨Blk.new w _ _ _, rfl, rfl⟩⟩
theorem ProP.grown {w w' : World} {g n : Nat} {ob : Option Nat} {L : List SpN} {row : Option Nat} (h : ProP w g ob n L) (hg : w.grownBy w' row) (h1 : some g ≠ row) (h2 : ∀ b, ob = some b → some b ≠ row) : ProP w' g ob n L := by
  obtain ⟨a1, a2, a3⟩ := h
  refine ⟨a1, a2, ?_⟩
  rcases a3 with ⟨b1, b2, rfl⟩ | ⟨b, D, rfl, b1, b2, b3, b4⟩
  · exact .inl ⟨b1.grown hg h1, b2, rfl⟩
  · exact .inr ⟨b, D, rfl, b1.grown hg h1, b2, b3.kept hg (h2 b rfl), b4⟩
theorem Below.grown0 {w w' : World} (h : Below w.heap.size w w') : w.grownBy w' none := ⟨h.os, h.tape, h.output, h.size, fun k hk _ => h.block k hk⟩
theorem ProP.below {w w' : World} {g n : Nat} {ob : Option Nat} {L : List SpN} (h : ProP w g ob n L) (hb : Below w.heap.size w w') : ProP w' g ob n L := h.grown (Below.grown0 hb) (by simp) (by simp)
theorem ProP.lts {w : World} {g n : Nat} {ob : Option Nat} {L : List SpN} (h : ProP w g ob n L) : g < w.heap.size ∧ ∀ b, ob = some b → b < w.heap.size := by
  refine ⟨h.blk.lt, fun b e => ?_⟩
  rcases h.2.2 with ⟨_, _, rfl⟩ | ⟨b', D, rfl, _, _, h3, _⟩
  · cases e
  · injection e with e
    subst e
    exact h3.lt
theorem ProP.mono {w : World} {g n n' : Nat} {ob : Option Nat} {L : List SpN} (h : ProP w g ob n L) (hn : n ≤ n') : ProP w g ob n' L := by
  obtain ⟨a1, a2, a3⟩ := h
  refine ⟨a1, a2, ?_⟩
  rcases a3 with a3 | ⟨b, D, b1, b2, b3, b4, b5⟩
  · exact .inl a3
  · exact .inr ⟨b, D, b1, b2, b3, b4.mono hn, b5⟩
/-- What a look-up answers. -/
theorem ProP.look {w : World} {g n : Nat} {ob : Option Nat} {L : List SpN} (h : ProP w g ob n L) {a : Int} (ha : 0 ≤ a ∧ a < 65536) :
    (Instr.lookup 25 (.map ob) (.int .u16 a) true).run Try.prog w = .ok (.tuple #[spV (ofN L a), .bool (lkS L a).isSome]) w ∧ (Instr.lookup 25 (.map ob) (.int .u16 a) false).run Try.prog w = .ok (spV (ofN L a)) w := by
  rcases h.2.2 with ⟨h1, rfl, rfl⟩ | ⟨b, D, rfl, h1, h2, h3, h4, h5⟩
  · exact ⟨Maps.look_nil true proLaw Try.underlying25 (proZero w) (proKey ha), Maps.look_nil false proLaw Try.underlying25 (proZero w) (proKey ha)⟩
  · obtain ⟨e1, e2⟩ := h4.at_ a
    obtain ⟨v, ps, hr, hv⟩ := h3.look_ok proLaw Try.underlying25 (proZero w) (spR_mk z4) (proKey ha)
    obtain ⟨u, qs, hr2, hu⟩ := h3.lookup proLaw Try.underlying25 (proZero w) (spR_mk z4) (proKey ha)
    rw [e1] at hv hu
    obtain ⟨x, rfl, hx⟩ := spR_inv hv
    obtain ⟨y, rfl, hy⟩ := spR_inv hu
    injection hx with hx _
    injection hy with hy _
    rw [e2, ← spD_inj hx] at hr
    rw [← spD_inj hy] at hr2
    exact ⟨hr, hr2⟩
end Go.Proofs.Ytlgaedhbgkhmeaa
