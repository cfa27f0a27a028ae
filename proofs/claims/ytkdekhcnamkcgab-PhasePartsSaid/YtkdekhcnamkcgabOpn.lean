/- An argument that is a slice of rows of cycles, opened. -/
import Derived.Test.YtkdekhcnamkcgabPhs
import Derived.Deep.SlicePairs
namespace Go.Proofs.Ytkdekhcnamkcgab
open Go.ChangeShapes Go.WideShapes Go.ChangeAt Go.RowKit
set_option linter.unusedVariables false

section
variable {H : Type} {enc : TypeId × Value → H} {W : World} {base : Nat} {sp : Nat → Bool} {held : Bool}
theorem sC_map (f : Nat → Stp) (n j : Nat) (u : Value) (h : (sC ((List.range n).map f))[j]? = some u) : j / 2 < n ∧ (j % 2 = 0 → u = .int .i64 (f (j / 2)).1) ∧ (j % 2 = 1 → u = .bool (f (j / 2)).2) := by
  have hl : ((List.range n).map f).length = n := by simp
  have hj : j < n * 2 := by
    rcases Nat.lt_or_ge j (n * 2) with a | a
    · exact a
    · rw [List.getElem?_eq_none (by rw [sC_len, hl]; exact a)] at h; cases h
  have hi : j / 2 < n := by omega
  have hq := sC_at ((List.range n).map f) (j / 2) (j % 2) (by rw [hl]; exact hi) (by omega)
  rw [show 2 * (j / 2) + j % 2 = j by omega, h] at hq
  have hd : ((List.range n).map f).getD (j / 2) (0, false) = f (j / 2) := by simp [List.getD_eq_getElem?_getD, hi]
  rw [hd] at hq
  refine ⟨hi, fun e => ?_, fun e => ?_⟩
  · rw [e] at hq; simpa [stC] using hq
  · rw [e] at hq; simpa [stC] using hq
theorem open_steps {fuel : Nat} {v : Value} {x : DataW H × List MemPlace} (h : DataW.trod enc Try.prog W base sp held fuel 23 [v] = some x) : ∃ l, Rd W v l ∧ l.length ≤ maxLen := by
  rcases Go.Deep.open_slice_pairs Try.underlying23 Try.underlying25 (by kernel_rfl) rfl rfl (by kernel_rfl) (by kernel_rfl) h with ⟨hcs, _⟩ | ⟨a, len, cap, m, n, V0, V1, D0, D1, P0, P1, hcs, hb, hl, hm, hmm, hx, hc⟩
  · obtain rfl : v = .slice none 0 0 := by simpa using hcs
    exact ⟨[], .inl ⟨rfl, rfl⟩, by simp⟩
  · obtain rfl : v = .slice (some a) len cap := by simpa using hcs
    have hlm : len ≤ m := by rw [hmm]; split <;> omega
    have each : ∀ i, i < len → ∃ q : Stp, W.cell? (a.add (i * 2)) = some (.int .i64 q.1) ∧ W.cell? (a.add (i * 2 + 1)) = some (.bool q.2) := fun i hi => by
      obtain ⟨h0, h1, t0, t1⟩ := hc i (by omega)
      obtain ⟨y0, e0, _, w0⟩ := DataW.trod_int Try.underlying3 t0
      obtain ⟨y1, e1, _⟩ := DataW.trod_bool Try.underlying4 t1
      have E0 : V0 i = .int .i64 y0 := by simpa [Value.cells] using e0
      have E1 : V1 i = .bool y1 := by simpa [Value.cells] using e1
      exact ⟨(y0, y1), by rw [h0, E0], by rw [h1, E1]⟩
    obtain ⟨f, hf⟩ := Go.Deep.choose_lt each
    refine ⟨(List.range len).map f, .inr ⟨a, cap, by simp, fun h0 => ?_, fun j u hj => ?_⟩, by simp; omega⟩
    · obtain ⟨h0', _⟩ := hf 0 (by simpa using h0)
      obtain ⟨g, off, spot⟩ := a
      have hspot : spot = none := by simpa [Addr.add] using World.cell?_spot h0'
      subst hspot
      rw [add_plain'] at h0'
      exact ⟨g, off, rfl, cell_lt h0'⟩
    · obtain ⟨h1, h2, h3⟩ := sC_map f len j u hj
      obtain ⟨c0, c1⟩ := hf (j / 2) h1
      rcases (show j % 2 = 0 ∨ j % 2 = 1 by omega) with e | e
      · rw [h2 e, ← c0, show j / 2 * 2 = j by omega]
      · rw [h3 e, ← c1, show j / 2 * 2 + 1 = j by omega]
/-- The slice is these rows. -/
def RowsIn (w : World) (A : Option Addr) (n c : Nat) (ls : List (List Stp)) : Prop := RdL w A n ls ∧ n ≤ maxLen ∧ ∀ i, i < n → (ls.getD i []).length ≤ maxLen
theorem open_rows {fuel : Nat} {A : Option Addr} {n c : Nat} {x : DataW H × List MemPlace} (h : DataW.trod enc Try.prog W base sp held fuel 22 (Value.slice A n c).cells.toList = some x) : ∃ ls, RowsIn W A n c ls := by
  rcases Go.Deep.open_slice1 Try.underlying22 (by kernel_rfl) h with ⟨hcs, _⟩ | ⟨a, len, cap, m, k, V, D, Pl, hcs, hb, hl, hm, hmm, hx, hc⟩
  · simp [Value.cells] at hcs
    obtain ⟨rfl, rfl, rfl⟩ := hcs
    exact ⟨[], ⟨rfl, fun h => absurd h (by omega)⟩, by simp, fun i hi => absurd hi (by omega)⟩
  · simp [Value.cells] at hcs
    obtain ⟨rfl, rfl, rfl⟩ := hcs
    have hlm : n ≤ m := by rw [hmm]; split <;> omega
    have each : ∀ i, i < n → ∃ l : List Stp, Rd W (V i) l ∧ l.length ≤ maxLen := fun i hi => open_steps (hc i (by omega)).2
    obtain ⟨f, hf⟩ := Go.Deep.choose_lt each
    have hg : ∀ i, i < n → ((List.range n).map f).getD i [] = f i := fun i hi => by simp [List.getD_eq_getElem?_getD, hi]
    refine ⟨(List.range n).map f, ⟨by simp, fun h0 => ?_⟩, by omega, fun i hi => by rw [hg i hi]; exact (hf i hi).2⟩
    have h0' := (hc 0 (by omega)).1
    obtain ⟨g, off, spot⟩ := a
    have hspot : spot = none := by simpa [Addr.add] using World.cell?_spot h0'
    subst hspot
    rw [add_plain'] at h0'
    refine ⟨g, off, rfl, cell_lt h0', fun i hi => ⟨V i, ?_, by rw [hg i hi]; exact (hf i hi).1⟩⟩
    have := (hc i (by omega)).1
    rw [add_plain'] at this
    exact this
end
end Go.Proofs.Ytkdekhcnamkcgab
