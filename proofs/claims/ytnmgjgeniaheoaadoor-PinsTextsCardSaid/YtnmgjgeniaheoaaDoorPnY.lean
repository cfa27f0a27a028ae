/- Pins: an argument that is a row of pins, opened. -/
import Derived.Test.YtnmgjgeniaheoaaDoorPnV
import Derived.Test.YtnmgjgeniaheoaaDoorPnA
namespace Go.Proofs.YtnmgjgeniaheoaaDoor
open Go.ChangeShapes Go.WideShapes Go.ChangeAt Go.RowKit
set_option linter.unusedVariables false

theorem open_pins {H : Type} {ee : TypeId × Value → H} {W : World} {base : Nat} {sp : Nat → Bool} {held : Bool} {fuel : Nat} {A : Option Addr} {n c : Nat} {x : DataW H × List MemPlace} (h : DataW.trod ee Tryd.prog W base sp held fuel 22 (Value.slice A n c).cells.toList = some x) :
    ∃ l, eN.In (fun _ => True) W A n c l :=
  Els.open_in (E := eN) (fun _ => True) Tryd.underlying22 (by kernel_rfl) (fun n cs x hl h => by
    match cs, hl with
    | [c0, c1, c2, c3, c4, c5], _ =>
      obtain ⟨ys, m, _, _, _, hlen, hf⟩ := DataW.trod_struct Tryd.underlying24 h
      have kb : Tryd.prog.cellsOf 4 = 1 := by kernel_rfl
      match ys, hlen with
      | [y0, y1, y2, y3, y4, y5], _ =>
        have h0 : DataW.trod ee Tryd.prog W base sp held m 4 (([c0, c1, c2, c3, c4, c5].drop 0).take (Tryd.prog.cellsOf 4)) = some y0 := hf 0 _ rfl
        rw [kb] at h0
        change DataW.trod ee Tryd.prog W base sp held m 4 [c0] = some y0 at h0
        obtain ⟨b0, e0, _⟩ := DataW.trod_bool Tryd.underlying4 h0
        have h1 : DataW.trod ee Tryd.prog W base sp held m 4 (([c0, c1, c2, c3, c4, c5].drop 1).take (Tryd.prog.cellsOf 4)) = some y1 := hf 1 _ rfl
        rw [kb] at h1
        change DataW.trod ee Tryd.prog W base sp held m 4 [c1] = some y1 at h1
        obtain ⟨b1, e1, _⟩ := DataW.trod_bool Tryd.underlying4 h1
        have h2 : DataW.trod ee Tryd.prog W base sp held m 4 (([c0, c1, c2, c3, c4, c5].drop 2).take (Tryd.prog.cellsOf 4)) = some y2 := hf 2 _ rfl
        rw [kb] at h2
        change DataW.trod ee Tryd.prog W base sp held m 4 [c2] = some y2 at h2
        obtain ⟨b2, e2, _⟩ := DataW.trod_bool Tryd.underlying4 h2
        have h3 : DataW.trod ee Tryd.prog W base sp held m 4 (([c0, c1, c2, c3, c4, c5].drop 3).take (Tryd.prog.cellsOf 4)) = some y3 := hf 3 _ rfl
        rw [kb] at h3
        change DataW.trod ee Tryd.prog W base sp held m 4 [c3] = some y3 at h3
        obtain ⟨b3, e3, _⟩ := DataW.trod_bool Tryd.underlying4 h3
        have h4 : DataW.trod ee Tryd.prog W base sp held m 4 (([c0, c1, c2, c3, c4, c5].drop 4).take (Tryd.prog.cellsOf 4)) = some y4 := hf 4 _ rfl
        rw [kb] at h4
        change DataW.trod ee Tryd.prog W base sp held m 4 [c4] = some y4 at h4
        obtain ⟨b4, e4, _⟩ := DataW.trod_bool Tryd.underlying4 h4
        have h5 : DataW.trod ee Tryd.prog W base sp held m 4 (([c0, c1, c2, c3, c4, c5].drop 5).take (Tryd.prog.cellsOf 4)) = some y5 := hf 5 _ rfl
        rw [kb] at h5
        change DataW.trod ee Tryd.prog W base sp held m 4 [c5] = some y5 at h5
        obtain ⟨b5, e5, _⟩ := DataW.trod_bool Tryd.underlying4 h5
        simp only [List.cons.injEq, and_true] at e0 e1 e2 e3 e4 e5
        subst e0 e1 e2 e3 e4 e5
        exact ⟨⟨b0, b1, b2, b3, b4, b5⟩, rfl, trivial⟩) h
def NIn (W : World) (A : Option Addr) (n c : Nat) (l : List Pn) : Prop := eN.In (fun _ => True) W A n c l ∧ n ≤ c
theorem open_pinsC {H : Type} {ee : TypeId × Value → H} {W : World} {base : Nat} {sp : Nat → Bool} {held : Bool} {fuel : Nat} {A : Option Addr} {n c : Nat} {x : DataW H × List MemPlace} (h : DataW.trod ee Tryd.prog W base sp held fuel 22 (Value.slice A n c).cells.toList = some x) :
    ∃ l, NIn W A n c l := by
  obtain ⟨l, hl⟩ := open_pins h
  refine ⟨l, hl, ?_⟩
  rcases Go.Deep.open_slice Tryd.underlying22 h with ⟨hcs, _⟩ | ⟨a, len, cap, m, k, D, Pl, hcs, hb, hl, hm, hmm, hx, hx2⟩
  · simp [Value.cells] at hcs
    obtain ⟨rfl, rfl, rfl⟩ := hcs
    omega
  · simp [Value.cells] at hcs
    obtain ⟨rfl, rfl, rfl⟩ := hcs
    exact hl
end Go.Proofs.YtnmgjgeniaheoaaDoor
