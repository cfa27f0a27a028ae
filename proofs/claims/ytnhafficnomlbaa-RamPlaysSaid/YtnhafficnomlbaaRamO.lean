/- The calls of RamPlays, opened. -/
import Derived.Test.YtnhafficnomlbaaRamV
import Derived.Test.YtnhafficnomlbaaRamC
import Derived.Test.YtnhafficnomlbaaRamS
import Derived.Test.YtnhafficnomlbaaRamA
import Derived.Deep.Strs
namespace Go.Proofs.Ytnhafficnomlbaa
open Go.ChangeShapes Go.WideShapes Go.ChangeAt Go.RowKit
set_option linter.unusedVariables false

theorem open_bytes8 {H : Type} {ee : TypeId × Value → H} {W : World} {base : Nat} {sp : Nat → Bool} {held : Bool} {fuel : Nat} {A : Option Addr} {n c : Nat} {x : DataW H × List MemPlace} (h : DataW.trod ee Try.prog W base sp held fuel 22 (Value.slice A n c).cells.toList = some x) :
    ∃ l, eY.In (fun z => (Lit.int .u8 z).wf = true) W A n c l :=
  Els.open_in (E := eY) _ Try.underlying22 (by kernel_rfl) (fun n cs x hl h => by
    match cs, hl with
    | [v], _ =>
      obtain ⟨y, e, _, hw⟩ := DataW.trod_int Try.underlying5 h
      exact ⟨y, e, hw⟩) h
abbrev OpR := Int × Int × Option Addr × Nat × Nat
abbrev eOr : Els OpR := ⟨fun x => [.int .i64 x.1, .int .i64 x.2.1, .slice x.2.2.1 x.2.2.2.1 x.2.2.2.2], 3, fun _ => rfl, fun x u h => by
  simp only [List.mem_cons, List.not_mem_nil, or_false] at h
  rcases h with rfl | rfl | rfl <;> rfl, by decide⟩
def orWf (W : World) (x : OpR) : Prop := (Lit.int .i64 x.1).wf = true ∧ (Lit.int .i64 x.2.1).wf = true ∧ ∃ l, eY.In (fun z => (Lit.int .u8 z).wf = true) W x.2.2.1 x.2.2.2.1 x.2.2.2.2 l
def OrIn (w : World) (A : Option Addr) (n c : Nat) (l : List OpR) : Prop := eOr.In (orWf w) w A n c l
theorem open_ors {H : Type} {ee : TypeId × Value → H} {W : World} {base : Nat} {sp : Nat → Bool} {held : Bool} {fuel : Nat} {A : Option Addr} {n c : Nat} {x : DataW H × List MemPlace} (h : DataW.trod ee Try.prog W base sp held fuel 42 (Value.slice A n c).cells.toList = some x) :
    ∃ l, OrIn W A n c l :=
  Els.open_in (E := eOr) (orWf W) Try.underlying42 (by kernel_rfl) (fun n cs x hl h => by
    match cs, hl with
    | [u, u1, v], _ =>
      obtain ⟨y0, y1, y2, m, _, _, h0, h1, h2⟩ := Go.Deep.trod_struct3 Try.underlying47 h
      have e0 : ([u, u1, v].drop 0).take (Try.prog.cellsOf 3) = [u] := by rw [show Try.prog.cellsOf 3 = 1 by kernel_rfl]; rfl
      have e1 : ([u, u1, v].drop 1).take (Try.prog.cellsOf 3) = [u1] := by rw [show Try.prog.cellsOf 3 = 1 by kernel_rfl]; rfl
      have e2 : ([u, u1, v].drop 2).take (Try.prog.cellsOf 22) = [v] := by rw [show Try.prog.cellsOf 22 = 1 by kernel_rfl]; rfl
      dsimp only at h0 h1 h2
      rw [e0] at h0
      rw [e1] at h1
      rw [e2] at h2
      obtain ⟨z, ez, _, hz⟩ := DataW.trod_int Try.underlying3 h0
      obtain rfl : u = .int .i64 z := by simpa [Value.cells] using ez
      obtain ⟨z1, ez1, _, hz1⟩ := DataW.trod_int Try.underlying3 h1
      obtain rfl : u1 = .int .i64 z1 := by simpa [Value.cells] using ez1
      obtain ⟨A', n', c', rfl⟩ : ∃ A' n' c', v = .slice A' n' c' := by
        rcases Go.Deep.open_slice Try.underlying22 h2 with ⟨hcs, _⟩ | ⟨a, len, cap, _, _, _, _, hcs, _⟩
        · exact ⟨_, _, _, by simpa using hcs⟩
        · exact ⟨_, _, _, by simpa using hcs⟩
      obtain ⟨l, hin⟩ := open_bytes8 (A := A') (n := n') (c := c') h2
      exact ⟨(z, z1, A', n', c'), rfl, hz, hz1, l, hin⟩) h
/-- A slice of bytes that reads as a list, and lies below a block. -/
def RdB (w : World) (B : Nat) (v : Value) (l : List Int) : Prop := eY.Rd w v l ∧ ∀ b o n c, v = .slice (some ⟨b, o, none⟩) n c → 0 < n → b < B
theorem RdB.of_rd {w : World} {v : Value} {l : List Int} (h : eY.Rd w v l) : RdB w w.heap.size v l := by
  refine ⟨h, fun b o n c e hn => ?_⟩
  obtain ⟨A, c', e2, h2⟩ := rdY_open h
  rw [e] at e2
  obtain ⟨rfl, rfl, rfl⟩ := Value.slice.inj e2
  obtain ⟨g, off, e3, hlt, _⟩ := h2 hn
  obtain ⟨rfl, _, _⟩ := Addr.mk.inj (Option.some.inj e3)
  exact hlt
theorem RdB.off {w : World} {B m : Nat} {v : Value} {l : List Int} {p : Nat → Option Nat} (h : RdB w B v l) (hr : ∀ b, RS m p b → B ≤ b) : OffR m p v := fun b o n c e hn hb => by
  have := h.2 b o n c e hn
  have := hr b hb
  omega
end Go.Proofs.Ytnhafficnomlbaa
