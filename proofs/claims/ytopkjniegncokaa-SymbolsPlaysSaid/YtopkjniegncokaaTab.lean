/- Contracts of package symbols' table: what a name stands for (Get), one name more (Set). -/
import Derived.Test.YtopkjniegncokaaSym
import Derived.Test.YtopkjniegncokaaStc
import Derived.Maps.OwnSet
import Derived.Maps.Views
namespace Go.Proofs.Ytopkjniegncokaa
open Go.ChangeShapes Go.WideShapes Go.ChangeAt Go.RowKit
set_option linter.unusedVariables false

theorem grownBy_set1T (w : World) (g i : Nat) (u : Value) : w.grownBy (w.setCell ⟨g, i, none⟩ u) (some g) :=
  ⟨rfl, rfl, rfl, by simp, fun k _ hk => Below.heap_setCell w _ u k (fun e => hk (by rw [e]))⟩
theorem tabLaw : Maps.Keyed Try.prog 9 := Maps.string_keyed Try.underlying9
theorem tabZero (w : World) : (zeroValue 23).run Try.prog w = .ok (.int .u16 0) w := by kernel_rfl
def keyL (s : ByteArray) : Lit := .string s.data.toList
theorem tabKey (s : ByteArray) (h : s.size ≤ maxLen) : keyOf Try.prog 9 (.string s) = some (keyL s) := WideMaps.keyOf_string_mk Try.underlying9 h
theorem keyL_inj {s t : ByteArray} (h : keyL s = keyL t) : s = t := by
  unfold keyL at h
  injection h with h
  exact ByteArray.ext (Array.toList_inj.1 h)
/-- The datum's answers are these. -/
def Looks (D : DataW Unit) (look : ByteArray → Option Int) : Prop :=
  Maps.IsMap D ∧ ∀ s : ByteArray, (∀ v, look s = some v → Maps.has D (keyL s) = true ∧ D.atKey (keyL s) (.lit (.int .u16 0)) = .lit (.int .u16 v)) ∧ (look s = none → Maps.has D (keyL s) = false)
/-- The table in block g, all that it has made at or above B: it has at most n names; look says what they stand for. -/
def Tab (w : World) (B g n : Nat) (look : ByteArray → Option Int) : Prop :=
  B ≤ g ∧ (∀ s v, look s = some v → 0 ≤ v ∧ v < 65536) ∧
  ((Blk w g 27 #[.map none] ∧ ∀ s, look s = none) ∨
   ∃ b D, Blk w g 27 #[.map (some b)] ∧ B ≤ b ∧ b ≠ g ∧ w.ownsMap Try.prog 9 (plainElem Try.prog 23) b n D ∧ Looks D look)
def look0 : ByteArray → Option Int := fun _ => none
theorem Tab.new (w : World) (B : Nat) (hB : B ≤ w.heap.size) : Tab (w.alloc (.cells #[.map none] 27 (0, 0))) B w.heap.size 0 look0 :=
  ⟨hB, fun s v h => by simp [look0] at h, .inl ⟨Blk.new w _ _ _, fun s => rfl⟩⟩
theorem Tab.keep {w w' : World} {B g n : Nat} {look : ByteArray → Option Int} (h : Tab w B g n look) (hk : ∀ b, b < w.heap.size → B ≤ b → w'.heap[b]? = w.heap[b]?) : Tab w' B g n look := by
  obtain ⟨h1, h2, h3⟩ := h
  refine ⟨h1, h2, ?_⟩
  rcases h3 with ⟨h4, h5⟩ | ⟨b, D, h4, h5, h6, h7, h8⟩
  · exact .inl ⟨(hk g h4.lt h1).trans h4, h5⟩
  · refine .inr ⟨b, D, (hk g h4.lt h1).trans h4, h5, h6, ?_, h8⟩
    obtain ⟨es, cl, e1, e2, e3, e4⟩ := h7
    exact ⟨es, cl, (hk b (Array.getElem?_eq_some_iff.1 e1).1 h5).trans e1, e2, e3, e4⟩
theorem Tab.below {w w' : World} {B g n : Nat} {look : ByteArray → Option Int} (h : Tab w B g n look) (hb : Below w.heap.size w w') : Tab w' B g n look := h.keep (fun b hb1 _ => hb.block b hb1)
theorem Tab.alloc {w : World} {B g n : Nat} {look : ByteArray → Option Int} (h : Tab w B g n look) (o : Obj) : Tab (w.alloc o) B g n look := h.below (Below.alloc0 (Below.refl _ _) o)
theorem Tab.drew {w : World} {B g n : Nat} {look : ByteArray → Option Int} (h : Tab w B g n look) : Tab w.drew B g n look := h
theorem Tab.drewN {w : World} {B g n : Nat} {look : ByteArray → Option Int} (h : Tab w B g n look) (k : Nat) : Tab (w.drewN k) B g n look := h
theorem Tab.cell {w : World} {B g n : Nat} {look : ByteArray → Option Int} (h : Tab w B g n look) : ∃ m, w.cell? ⟨g, 0, none⟩ = some (.map m) ∧ ∀ s : ByteArray, s.size ≤ maxLen → ∀ u : World, u.heap = w.heap →
    (Instr.lookup 25 (.map m) (.string s) true).run Try.prog u = .ok (.tuple #[.int .u16 (match look s with | some v => v | none => 0), .bool (look s).isSome]) u := by
  obtain ⟨h1, h2, h3⟩ := h
  rcases h3 with ⟨h4, h5⟩ | ⟨b, D, h4, h5, h6, h7, h8⟩
  · refine ⟨none, by rw [h4.cell]; rfl, fun s hs u hu => ?_⟩
    rw [h5 s]
    exact Maps.look_nil true tabLaw Try.underlying25 (tabZero u) (tabKey s hs)
  · refine ⟨some b, by rw [h4.cell]; rfl, fun s hs u hu => ?_⟩
    have h7' : u.ownsMap Try.prog 9 (plainElem Try.prog 23) b n D := by
      obtain ⟨es, cl, e1, e2, e3, e4⟩ := h7
      exact ⟨es, cl, by rw [hu]; exact e1, e2, e3, e4⟩
    obtain ⟨v, ps, hrun, hv⟩ := h7'.look_ok tabLaw Try.underlying25 (tabZero u) (plainElem_int Try.underlying23 (by decide)) (tabKey s hs)
    obtain ⟨c, rfl, hc, hwc⟩ := plainElem_int_inv Try.underlying23 hv
    have hc' := congrArg Prod.fst hc
    dsimp only at hc'
    cases hl : look s with
    | none =>
      have h0 := (h8.2 s).2 hl
      rw [Maps.atKey_of_not_has h0] at hc'
      simp only [DataW.lit.injEq, Lit.int.injEq, true_and] at hc'
      subst hc'
      rw [h0] at hrun
      exact hrun
    | some x =>
      obtain ⟨h0, ha⟩ := (h8.2 s).1 x hl
      rw [ha] at hc'
      simp only [DataW.lit.injEq, Lit.int.injEq, true_and] at hc'
      subst hc'
      rw [h0] at hrun
      exact hrun
set_option maxRecDepth 100000 in
set_option maxHeartbeats 1000000 in
theorem tabGet_any (w : World) (B g n : Nat) (look : ByteArray → Option Int) (h : Tab w B g n look) (s : ByteArray) (hs : s.size ≤ maxLen) :
    Calls Try.prog 10 #[.pointer (some ⟨g, 0, none⟩), .string s] w fun e w' => e = .returned (.tuple #[.int .u16 (match look s with | some v => v | none => 0), .bool (look s).isSome]) ∧ w = w' := by
  obtain ⟨m, hc, hl⟩ := h.cell
  have hl1 := hl s hs w rfl
  clear hl h
  generalize (match look s with | some v => v | none => (0 : Int)) = V at hl1 ⊢
  generalize (look s).isSome = P at hl1 ⊢
  go_enter Try.func10, Try.ntmps10
  go_wp2
  go_ret2
  exact ⟨rfl, rfl⟩
def putL (look : ByteArray → Option Int) (s : ByteArray) (v : Int) : ByteArray → Option Int := fun t => if t = s then some v else look t
theorem Looks.put {D : DataW Unit} {look : ByteArray → Option Int} (h : Looks D look) (s : ByteArray) (v : Int) : Looks (D.put (keyL s) (.lit (.int .u16 v))) (putL look s v) := by
  refine ⟨h.1.put _ _, fun t => ?_⟩
  unfold putL
  by_cases ht : t = s
  · subst ht
    rw [if_pos rfl]
    refine ⟨fun u hu => ?_, fun hu => by cases hu⟩
    injection hu with hu
    subst hu
    exact ⟨Maps.has_put_same h.1 (by trivial) _, Maps.atKey_put_same h.1 (by trivial) _ _⟩
  · have hne : keyL t ≠ keyL s := fun e => ht (keyL_inj e)
    rw [if_neg ht, Maps.has_put_other hne, Maps.atKey_put_other hne]
    exact h.2 t
theorem map_nil (m : Option Nat) (w : World) : (binOp .eql 25 (.map m) (.map none)).run Try.prog w = .ok (.bool m.isNone) w := by cases m <;> kernel_rfl
theorem looks_empty : Looks (.map []) look0 := ⟨Maps.isMap_empty, fun s => ⟨fun v h => by simp [look0] at h, fun _ => rfl⟩⟩
set_option maxRecDepth 100000 in
set_option maxHeartbeats 1000000 in
theorem tabSet_any (w : World) (B g n : Nat) (look : ByteArray → Option Int) (h : Tab w B g n look) (s : ByteArray) (hs : s.size ≤ maxLen) (v : Int) (hv : 0 ≤ v ∧ v < 65536) (hn : n ≤ 1000) (hR : rightL (nums s) = true) (hl : look s = none) :
    Calls Try.prog 8 #[.pointer (some ⟨g, 0, none⟩), .string s, .int .u16 v] w fun e w' => e = .returned (.int .i64 0) ∧ Below B w w' ∧ Tab w' B g (n + 1) (putL look s v) := by
  have H := Lib.hid h
  have HS := Lib.hid hs
  obtain ⟨h1, h2, h3⟩ := h
  have RT := Lib.hid (fun u => symRight_any s u)
  rw [hR] at RT
  have HV := Lib.hid (plainElem_int (H := Unit) Try.underlying23 (a := v) (WalkArith.wf_u16 (by omega)))
  have HR2 : Hid (∀ t x, putL look s v t = some x → 0 ≤ x ∧ x < 65536) := Lib.hid (fun t x hx => by
    unfold putL at hx
    split at hx
    · injection hx with hx; subst hx; exact hv
    · exact h2 t x hx)
  have hmm := @run_makeMap Try.prog
  obtain ⟨m, hc, hlk⟩ := H.out.cell
  have hl1 := hlk s hs w rfl
  rw [hl] at hl1
  dsimp only [Option.isSome] at hl1
  rcases h3 with ⟨h4, h5⟩ | ⟨b, D, h4, h5, h6, h7, h8⟩
  · obtain rfl : m = none := by
      rw [h4.cell] at hc
      simpa using hc.symm
    have H1 := Lib.hid h1
    have H4 := Lib.hid h4
    have f0 := h4.frozen 0
    have hlt := h4.lt
    have f1 := (h4.alloc (.map #[] 0)).frozen 0
    have c1 : (w.alloc (.map #[] 0)).cell? ⟨g, 0, none⟩ = some (.map none) := by rw [(h4.alloc (.map #[] 0)).cell]; rfl
    have hmn := map_nil none w
    have H5 : Hid (Looks (.map []) look) := Lib.hid (by
      have : look = look0 := funext h5
      rw [this]; exact looks_empty)
    obtain ⟨W, hW⟩ : ∃ W, (w.alloc (.map #[] 0)).setCell ⟨g, 0, none⟩ (.map (some w.heap.size)) = W := ⟨_, rfl⟩
    have HW1 : Hid (Blk W g 27 #[.map (some w.heap.size)]) := Lib.hid (by rw [← hW]; exact Blk.set_ (Blk.alloc h4 _) 0 _)
    have HW2 : Hid (W.ownsMap Try.prog 9 (plainElem Try.prog 23) w.heap.size n (.map [] : DataW Unit)) := Lib.hid (by
      rw [← hW]
      exact ((World.ownsMap_made w Try.prog 9 _).kept (grownBy_set1T _ g 0 _) (by intro e; injection e with e; omega)).mono (Nat.zero_le _))
    have HW3 : Hid (Below B w W) := Lib.hid (by
      rw [← hW]
      exact ((Below.refl B w).alloc (Nat.le_of_lt (Nat.lt_of_le_of_lt h1 hlt)) _).setCell (p := ⟨g, 0, none⟩) h1 _)
    have hWs : Hid (B ≤ w.heap.size ∧ w.heap.size ≠ g) := Lib.hid ⟨Nat.le_of_lt (Nat.lt_of_le_of_lt h1 hlt), by omega⟩
    have cW := (Blk.cell HW1.out 0)
    have hWc : W.cell? ⟨g, 0, none⟩ = some (.map (some w.heap.size)) := by rw [cW]; rfl
    have HEQ := Lib.hid hW
    clear h1 h2 h4 h5 hlk hl hR cW hW hlt
    go_enter Try.func8, Try.ntmps8
    go_wp2_with (first
      | (go_at_call 4; refine (RT.out _).mono ?_; rintro e w' ⟨rfl, rfl⟩)
      | (at_mapUpdate; rw [HEQ.out]; refine wpList_mapUpdate_own _ rfl _ _ _ 25 rfl 9 23 tabLaw Try.underlying25 _ w.heap.size n (.map []) rfl HW2.out (by unfold maxLen; omega) _ _ _ rfl rfl (tabKey s HS.out) _ [] HV.out ?_))
    intro w1 h1 h2
    have HB := Lib.hid (HW3.out.grown h2 (Nat.le_trans hWs.out.1 HW3.out.size) (fun j e => by injection e with e; subst e; exact hWs.out.1))
    have HT : Hid (Tab w1 B g (n + 1) (putL look s v)) := Lib.hid ⟨H1.out, HR2.out, .inr ⟨w.heap.size, _, Blk.grown HW1.out h2 (by intro e; injection e with e; exact hWs.out.2 e.symm), hWs.out.1, hWs.out.2, h1, H5.out.put s v⟩⟩
    clear h1 h2
    go_wp2
    go_ret
    exact ⟨rfl, HB.out, HT.out⟩
  · obtain rfl : m = some b := by
      rw [h4.cell] at hc
      simpa using hc.symm
    have H4 := Lib.hid h4
    have H5 := Lib.hid h5
    have H6 := Lib.hid h6
    have H7 := Lib.hid h7
    have H8 := Lib.hid h8
    have H1 := Lib.hid h1
    have hmn := map_nil (some b) w
    clear h1 h2 h4 h5 h6 h7 h8 hlk hl hR
    go_enter Try.func8, Try.ntmps8
    go_wp2_with (first
      | (go_at_call 4; refine (RT.out _).mono ?_; rintro e w' ⟨rfl, rfl⟩)
      | (at_mapUpdate; refine wpList_mapUpdate_own _ rfl _ _ _ 25 rfl 9 23 tabLaw Try.underlying25 _ b n D rfl H7.out (by unfold maxLen; omega) _ _ _ rfl rfl (tabKey s HS.out) _ [] HV.out ?_))
    intro w1 h1 h2
    have HB := Lib.hid ((Below.refl B w).grown h2 (Nat.le_of_lt (Nat.lt_of_le_of_lt H1.out H4.out.lt)) (fun j e => by injection e with e; subst e; exact H5.out))
    have HT : Hid (Tab w1 B g (n + 1) (putL look s v)) := Lib.hid ⟨H1.out, HR2.out, .inr ⟨b, _, Blk.grown H4.out h2 (by intro e; injection e with e; exact H6.out e.symm), H5.out, H6.out, h1, H8.out.put s v⟩⟩
    clear h1 h2
    go_wp2
    go_ret
    exact ⟨rfl, HB.out, HT.out⟩
end Go.Proofs.Ytopkjniegncokaa
