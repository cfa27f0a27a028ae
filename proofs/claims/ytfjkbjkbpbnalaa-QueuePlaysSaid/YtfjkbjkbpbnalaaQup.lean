/- The calls of QueuePlays, opened; a slice beside a queue; the library's Clone. -/
import Derived.Test.YtfjkbjkbpbnalaaQue
import Derived.Test.YtfjkbjkbpbnalaaShelf
namespace Go.Proofs.Ytfjkbjkbpbnalaa
open Go.ChangeShapes Go.WideShapes Go.ChangeAt Go.RowKit
set_option linter.unusedVariables false

abbrev OpV := Int × Option Addr × Nat × Nat
abbrev eOp : Els OpV := ⟨fun x => [.int .i64 x.1, .slice x.2.1 x.2.2.1 x.2.2.2], 2, fun _ => rfl, fun x u h => by
  simp only [List.mem_cons, List.not_mem_nil, or_false] at h
  rcases h with rfl | rfl <;> rfl, by decide⟩
/-- The slice in a call reads as some list. -/
def opWf (W : World) (x : OpV) : Prop := ∃ l, eI.In (fun z => (Lit.int .i64 z).wf = true) W x.2.1 x.2.2.1 x.2.2.2 l
def OpsIn (w : World) (A : Option Addr) (n c : Nat) (l : List OpV) : Prop := eOp.In (opWf w) w A n c l
theorem open_ops {H : Type} {ee : TypeId × Value → H} {W : World} {base : Nat} {sp : Nat → Bool} {held : Bool} {fuel : Nat} {A : Option Addr} {n c : Nat} {x : DataW H × List MemPlace} (h : DataW.trod ee Try.prog W base sp held fuel 67 (Value.slice A n c).cells.toList = some x) :
    ∃ l, OpsIn W A n c l :=
  Els.open_in (E := eOp) (opWf W) Try.underlying67 (by kernel_rfl) (fun n cs x hl h => by
    match cs, hl with
    | [u, v], _ =>
      obtain ⟨y0, y1, m, _, _, h0, h1⟩ := trod_struct2 Try.underlying73 h
      have e0 : ([u, v].drop 0).take (Try.prog.cellsOf 3) = [u] := by rw [show Try.prog.cellsOf 3 = 1 by kernel_rfl]; rfl
      have e1 : ([u, v].drop 1).take (Try.prog.cellsOf 62) = [v] := by rw [show Try.prog.cellsOf 62 = 1 by kernel_rfl]; rfl
      dsimp only at h0 h1
      rw [e0] at h0
      rw [e1] at h1
      obtain ⟨z, ez, _, _⟩ := DataW.trod_int Try.underlying3 h0
      obtain rfl : u = .int .i64 z := by simpa [Value.cells] using ez
      obtain ⟨A', n', c', rfl⟩ : ∃ A' n' c', v = .slice A' n' c' := by
        rcases Go.Deep.open_slice Try.underlying62 h1 with ⟨hcs, _⟩ | ⟨a, len, cap, _, _, _, _, hcs, _⟩
        · exact ⟨_, _, _, by simpa using hcs⟩
        · exact ⟨_, _, _, by simpa using hcs⟩
      obtain ⟨l, hin⟩ := open_ints64 (A := A') (n := n') (c := c') h1
      exact ⟨(z, A', n', c'), rfl, l, hin⟩) h
/-- A slice beside a queue in block g. -/
def LS (w : World) (g : Nat) (v : Value) (L : List Int) : Prop := eI.Rd w v L ∧ Off g v ∧ ∀ A n c, v = .slice A n c → n ≤ c
theorem LS.below {w w' : World} {g : Nat} {v : Value} {L : List Int} (h : LS w g v L) (hb : Below w.heap.size w w') : LS w' g v L := ⟨h.1.below hb, h.2⟩
theorem LS.drew {w : World} {g : Nat} {v : Value} {L : List Int} (h : LS w g v L) : LS w.drew g v L := h
theorem LS.grown {w w' : World} {g : Nat} {v : Value} {L : List Int} (h : LS w g v L) (hg : w.grownBy w' (some g)) : LS w' g v L := by
  refine ⟨?_, h.2⟩
  obtain ⟨h1, h2, -⟩ := h
  rcases h1 with h1 | ⟨ad, c, rfl, h3, h4⟩
  · exact .inl h1
  · refine .inr ⟨ad, c, rfl, fun h0 => ?_, fun j u hj => ?_⟩
    · obtain ⟨b, off, e, hlt⟩ := h3 h0
      exact ⟨b, off, e, Nat.lt_of_lt_of_le hlt hg.size⟩
    · obtain ⟨b, off, rfl, hlt⟩ := h3 (Els.cells_pos hj)
      have := h4 j u hj
      rw [Els.add_pl] at this ⊢
      exact hg.cell this (by have := h2 b off _ _ rfl (Els.cells_pos hj); simpa using this)
theorem LS.nil_ (w : World) (g : Nat) : LS w g (.slice none 0 0) [] := ⟨Els.Rd.nil_ w, fun b o n c e => by simp at e, fun A n c e => by simp at e; omega⟩
theorem eI_cells (l : List Int) : eI.cells l = l.map (Value.int .i64) := by
  induction l with
  | nil => rfl
  | cons x l ih => rw [Els.cells_cons, ih]; rfl
theorem LS.own {w : World} {base g : Nat} {t : TypeId} {v : Value} {L : List Int} (h : eI.Own t w base v L) (hg : g < base) : LS w g v L := by
  have hlt := h.lt
  refine ⟨h.rd, fun b o n c e h0 => ?_, ?_⟩
  · subst e
    have := hlt b rfl
    omega
  · obtain ⟨hl, h2⟩ := h
    rcases h2 with ⟨rfl, hn⟩ | ⟨g', cap, cur, rfl, h3, h4, h5, h6, h7, h8⟩
    · intro A n c e; simp at e; omega
    · intro A n c e
      simp only [Value.slice.injEq] at e
      omega
theorem own_cap {w : World} {base : Nat} {t : TypeId} {v : Value} {L : List Int} (h : eI.Own t w base v L) : ∀ A n c, v = .slice A n c → n ≤ c := by
  obtain ⟨hl, h2⟩ := h
  rcases h2 with ⟨rfl, hn⟩ | ⟨g', cap, cur, rfl, h3, h4, h5, h6, h7, h8⟩
  · intro A n c e; simp at e; omega
  · intro A n c e
    simp only [Value.slice.injEq] at e
    omega
/-- The first one, and the slice behind it. -/
theorem LS.cons {w : World} {g : Nat} {v : Value} {x : Int} {L : List Int} (h : LS w g v (x :: L)) : ∃ b off c, v = .slice (some ⟨b, off, none⟩) (L.length + 1) c ∧ L.length + 1 ≤ c ∧ w.cell? ⟨b, off, none⟩ = some (.int .i64 x) ∧ LS w g (.slice (some ⟨b, off + 1, none⟩) L.length (c - 1)) L := by
  obtain ⟨h1, h2, h3⟩ := h
  rcases h1 with ⟨_, h1⟩ | ⟨ad, c, rfl, h4, h5⟩
  · cases h1
  · obtain ⟨b, off, rfl, hlt⟩ := h4 (by simp)
    have hc := h3 _ _ _ rfl
    have h0 := h5 0 (.int .i64 x) (by rw [eI_cells]; rfl)
    rw [Els.add_pl, Nat.add_zero] at h0
    rw [List.length_cons] at hc
    refine ⟨b, off, c, rfl, hc, h0, .inr ⟨_, _, rfl, fun _ => ⟨b, off + 1, rfl, hlt⟩, fun j u hj => ?_⟩, fun b' o n' c' e h0 => ?_, fun A n' c' e => ?_⟩
    · have := h5 (j + 1) u (by rw [eI_cells] at hj ⊢; exact hj)
      rw [Els.add_pl] at this ⊢
      rw [show off + 1 + j = off + (j + 1) by omega]
      exact this
    · simp at e
      have := h2 b off _ _ rfl (by simp)
      omega
    · simp at e; omega
theorem LS.of_in {w W : World} {B n c : Nat} {A : Option Addr} {P : Int → Prop} {l : List Int} (h : eI.In P w A n c l) (hb : Below w.heap.size w W) : eI.Rd W (.slice A n c) l ∧ Off w.heap.size (.slice A n c) := by
  refine ⟨h.1.below hb, fun b o n' c' e h0 => ?_⟩
  obtain ⟨A', c2, e2, h2⟩ := Els.one_at (E := eI) (f := Value.int .i64) rfl (fun _ => rfl) h.1
  simp only [Value.slice.injEq] at e e2
  obtain ⟨rfl, rfl, rfl⟩ := e
  obtain ⟨e3, e4, -⟩ := e2
  obtain ⟨g', off, e5, hlt, -⟩ := h2 (by omega)
  rw [← e3] at e5
  simp at e5
  omega
theorem clone_any (v : Value) (xs : List Int) (w : World) (h : eI.Rd w v xs) (hn : xs.length ≤ 1000000000000) :
    Calls Try.prog 39 #[v] w fun e w' => ∃ v', e = .returned v' ∧ eI.Own 3 w' w.heap.size v' xs ∧ Below w.heap.size w w' := by
  rcases h with ⟨rfl, rfl⟩ | ⟨ad, c, rfl, hg, hc⟩
  · refine (Try.slices_Clone_int_nil 0 0 w).mono ?_
    rintro e w' ⟨rfl, rfl⟩
    exact ⟨_, rfl, Els.Own.nil_ _ _, Below.refl _ _⟩
  · cases xs with
    | nil =>
      refine (Try.slices_Clone_int_zero ad c w).mono ?_
      rintro e w' ⟨v', rfl, ho, -, hb⟩
      exact ⟨v', rfl, ho, hb⟩
    | cons x xs =>
      obtain ⟨b, off, rfl, hlt⟩ := hg (by simp)
      refine (Try.slices_Clone_int b off (x :: xs).length c (x :: xs) w (Nat.le_refl _) (by omega) (fun j hj => by
        have := hc j (.int .i64 ((x :: xs).getD j 0)) (by rw [eI_cells, List.getElem?_map, List.getD_eq_getElem?_getD, List.getElem?_eq_getElem hj]; rfl)
        rw [Els.add_pl] at this
        exact this)).mono ?_
      rintro e w' ⟨v', rfl, ho, -, hb⟩
      rw [List.take_length, ← eI_cells] at ho
      exact ⟨v', rfl, ho, hb⟩
end Go.Proofs.Ytfjkbjkbpbnalaa
