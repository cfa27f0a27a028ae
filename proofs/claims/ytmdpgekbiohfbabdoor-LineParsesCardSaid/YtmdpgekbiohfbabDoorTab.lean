/- Contracts of package symbols' table: what a name stands for (Get), one name more (Set). -/
import Derived.Test.YtmdpgekbiohfbabDoorSym
import Derived.Test.YtmdpgekbiohfbabDoorStc
import Derived.Maps.OwnSet
import Derived.Maps.Views
namespace Go.Proofs.YtmdpgekbiohfbabDoor
open Go.ChangeShapes Go.WideShapes Go.ChangeAt Go.RowKit
set_option linter.unusedVariables false

theorem grownBy_set1T (w : World) (g i : Nat) (u : Value) : w.grownBy (w.setCell ⟨g, i, none⟩ u) (some g) :=
  ⟨rfl, rfl, rfl, by simp, fun k _ hk => Below.heap_setCell w _ u k (fun e => hk (by rw [e]))⟩
theorem tabLaw : Maps.Keyed Tryd.prog 9 := Maps.string_keyed Tryd.underlying9
theorem tabZero (w : World) : (zeroValue 23).run Tryd.prog w = .ok (.int .u16 0) w := by kernel_rfl
def keyL (s : ByteArray) : Lit := .string s.data.toList
theorem tabKey (s : ByteArray) (h : s.size ≤ maxLen) : keyOf Tryd.prog 9 (.string s) = some (keyL s) := WideMaps.keyOf_string_mk Tryd.underlying9 h
theorem keyL_inj {s t : ByteArray} (h : keyL s = keyL t) : s = t := by
  unfold keyL at h
  injection h with h
  exact ByteArray.ext (Array.toList_inj.1 h)
/-- The datum's answers are these. -/
def Looks (D : DataW Unit) (look : ByteArray → Option Int) : Prop :=
  Maps.IsMap D ∧ ∀ s : ByteArray, (∀ v, look s = some v → Maps.has D (keyL s) = true ∧ D.atKey (keyL s) (.lit (.int .u16 0)) = .lit (.int .u16 v)) ∧ (look s = none → Maps.has D (keyL s) = false)
/-- The table in block g, all that it has made at or above B: it has at most n names; look says what they stand for. -/
def Tab (w : World) (B g n : Nat) (look : ByteArray → Option Int) : Prop :=
  B ≤ g ∧ (∀ s v, look s = some v → 0 ≤ v ∧ v < 65536) ∧
  ((Blk w g 182 #[.map none] ∧ ∀ s, look s = none) ∨
   ∃ b D, Blk w g 182 #[.map (some b)] ∧ B ≤ b ∧ b ≠ g ∧ w.ownsMap Tryd.prog 9 (plainElem Tryd.prog 23) b n D ∧ Looks D look)
def look0 : ByteArray → Option Int := fun _ => none
theorem Tab.new (w : World) (B : Nat) (hB : B ≤ w.heap.size) : Tab (w.alloc (.cells #[.map none] 182 (0, 0))) B w.heap.size 0 look0 :=
  ⟨hB, fun s v h => by simp [look0] at h, .inl ⟨Blk.new w _ _ _, fun s => rfl⟩⟩
theorem Tab.keep {w w' : World} {B g n : Nat} {look : ByteArray → Option Int} (h : Tab w B g n look) (hk : ∀ b, b < w.heap.size → B ≤ b → w'.heap[b]? = w.heap[b]?) : Tab w' B g n look := by
  obtain ⟨h1, h2, h3⟩ := h
  refine ⟨h1, h2, ?_⟩
  rcases h3 with ⟨h4, h5⟩ | ⟨b, D, h4, h5, h6, h7, h8⟩
  · exact .inl ⟨(hk g h4.lt h1).trans h4, h5⟩
  · refine .inr ⟨b, D, (hk g h4.lt h1).trans h4, h5, h6, ?_, h8⟩
    obtain ⟨es, cl, e1, e2, e3, e4⟩ := h7
    exact ⟨es, cl, (hk b (Array.getElem?_eq_some_iff.1 e1).1 h5).trans e1, e2, e3, e4⟩
theorem Tab.below {w w' : World} {B g n : Nat} {look : ByteArray → Option Int} (h : Tab w B g n look) (hb : Below w.heap.size w w') : Tab w' B g n look := h.keep (fun b hb1 _ => hb.block b hb1)
theorem Tab.alloc {w : World} {B g n : Nat} {look : ByteArray → Option Int} (h : Tab w B g n look) (o : Obj) : Tab (w.alloc o) B g n look := h.below (Below.alloc0 (Below.refl _ _) o)
theorem Tab.drew {w : World} {B g n : Nat} {look : ByteArray → Option Int} (h : Tab w B g n look) : Tab w.drew B g n look := h
theorem Tab.drewN {w : World} {B g n : Nat} {look : ByteArray → Option Int} (h : Tab w B g n look) (k : Nat) : Tab (w.drewN k) B g n look := h
theorem Tab.cell {w : World} {B g n : Nat} {look : ByteArray → Option Int} (h : Tab w B g n look) : ∃ m, w.cell? ⟨g, 0, none⟩ = some (.map m) ∧ ∀ s : ByteArray, s.size ≤ maxLen → ∀ u : World, u.heap = w.heap →
    (Instr.lookup 180 (.map m) (.string s) true).run Tryd.prog u = .ok (.tuple #[.int .u16 (match look s with | some v => v | none => 0), .bool (look s).isSome]) u := by
  obtain ⟨h1, h2, h3⟩ := h
  rcases h3 with ⟨h4, h5⟩ | ⟨b, D, h4, h5, h6, h7, h8⟩
  · refine ⟨none, by rw [h4.cell]; rfl, fun s hs u hu => ?_⟩
    rw [h5 s]
    exact Maps.look_nil true tabLaw Tryd.underlying180 (tabZero u) (tabKey s hs)
  · refine ⟨some b, by rw [h4.cell]; rfl, fun s hs u hu => ?_⟩
    have h7' : u.ownsMap Tryd.prog 9 (plainElem Tryd.prog 23) b n D := by
      obtain ⟨es, cl, e1, e2, e3, e4⟩ := h7
      exact ⟨es, cl, by rw [hu]; exact e1, e2, e3, e4⟩
    obtain ⟨v, ps, hrun, hv⟩ := h7'.look_ok tabLaw Tryd.underlying180 (tabZero u) (plainElem_int Tryd.underlying23 (by decide)) (tabKey s hs)
    obtain ⟨c, rfl, hc, hwc⟩ := plainElem_int_inv Tryd.underlying23 hv
    have hc' := congrArg Prod.fst hc
    dsimp only at hc'
    cases hl : look s with
    | none =>
      have h0 := (h8.2 s).2 hl
      rw [Maps.atKey_of_not_has h0] at hc'
      simp only [DataW.lit.injEq, Lit.int.injEq, true_and] at hc'
      subst hc'
      rw [h0] at hrun
      exact hrun
    | some x =>
      obtain ⟨h0, ha⟩ := (h8.2 s).1 x hl
      rw [ha] at hc'
      simp only [DataW.lit.injEq, Lit.int.injEq, true_and] at hc'
      subst hc'
      rw [h0] at hrun
      exact hrun
set_option maxRecDepth 100000 in
set_option maxHeartbeats 1000000 in
theorem tabGet_any (w : World) (B g n : Nat) (look : ByteArray → Option Int) (h : Tab w B g n look) (s : ByteArray) (hs : s.size ≤ maxLen) :
    Calls Tryd.prog 136 #[.pointer (some ⟨g, 0, none⟩), .string s] w fun e w' => e = .returned (.tuple #[.int .u16 (match look s with | some v => v | none => 0), .bool (look s).isSome]) ∧ w = w' := by
  obtain ⟨m, hc, hl⟩ := h.cell
  have hl1 := hl s hs w rfl
  clear hl h
  generalize (match look s with | some v => v | none => (0 : Int)) = V at hl1 ⊢
  generalize (look s).isSome = P at hl1 ⊢
  go_enter Tryd.func136, Tryd.ntmps136
  go_wp2
  go_ret2
  exact ⟨rfl, rfl⟩
end Go.Proofs.YtmdpgekbiohfbabDoor
