/- Contracts of the register file (package file), and of the document's own (spinetref16). -/
import Derived.Test.YtfjkbjkbpbnalabDoorOct
import Derived.Deep.QuietTactic
import Derived.BigQuiet
import Derived.Deep.RegionHeld3
import Derived.Outline
namespace Go.Proofs.YtfjkbjkbpbnalabDoor
open Go.ChangeShapes Go.WideShapes Go.ChangeAt Go.RowKit
set_option linter.unusedVariables false

/-- The registers as numbers: A, B, DP, CC, X, Y, U, S, PC. -/
structure Rg where
  A : Int
  B : Int
  D : Int
  C : Int
  X : Int
  Y : Int
  U : Int
  S : Int
  P : Int
abbrev Rg.cells (r : Rg) : Array Value := #[.int .u8 r.A, .int .u8 r.B, .int .u8 r.D, .int .u8 r.C, .int .u16 r.X, .int .u16 r.Y, .int .u16 r.U, .int .u16 r.S, .int .u16 r.P]
/-- Each fits its kind. -/
structure Rg.Ok (r : Rg) : Prop where
  a0 : 0 ≤ r.A
  a1 : r.A < 256
  b0 : 0 ≤ r.B
  b1 : r.B < 256
  d0 : 0 ≤ r.D
  d1 : r.D < 256
  c0 : 0 ≤ r.C
  c1 : r.C < 256
  x0 : 0 ≤ r.X
  x1 : r.X < 65536
  y0 : 0 ≤ r.Y
  y1 : r.Y < 65536
  u0 : 0 ≤ r.U
  u1 : r.U < 65536
  s0 : 0 ≤ r.S
  s1 : r.S < 65536
  p0 : 0 ≤ r.P
  p1 : r.P < 65536
theorem rg_ok {A B D C X Y U S P : Int} (hA : (Lit.int .u8 A).wf = true) (hB : (Lit.int .u8 B).wf = true) (hD : (Lit.int .u8 D).wf = true) (hC : (Lit.int .u8 C).wf = true) (hX : (Lit.int .u16 X).wf = true) (hY : (Lit.int .u16 Y).wf = true) (hU : (Lit.int .u16 U).wf = true) (hS : (Lit.int .u16 S).wf = true) (hP : (Lit.int .u16 P).wf = true) :
    Rg.Ok ⟨A, B, D, C, X, Y, U, S, P⟩ := by
  have a := bounds_u8 hA; have b := bounds_u8 hB; have d := bounds_u8 hD; have c := bounds_u8 hC
  have x := bounds_u16 hX; have y := bounds_u16 hY; have u := bounds_u16 hU; have s := bounds_u16 hS; have p := bounds_u16 hP
  constructor <;> (simp only; omega)
/-- A register's word, by its code; other registers, with a word in one of them. -/
def getR (r : Rg) (c : Int) : Int :=
  if c = 0 then 256 * r.A + r.B else if c = 1 then r.X else if c = 2 then r.Y else if c = 3 then r.U else if c = 4 then r.S else if c = 5 then r.P else
  if c = 8 then 65280 + r.A else if c = 9 then 65280 + r.B else if c = 10 then 65280 + r.C else if c = 11 then 65280 + r.D else 65535
def setR (r : Rg) (c v : Int) : Rg :=
  if c = 0 then { r with A := v / 256, B := v % 256 } else if c = 1 then { r with X := v } else if c = 2 then { r with Y := v } else if c = 3 then { r with U := v } else if c = 4 then { r with S := v } else
  if c = 5 then { r with P := v } else if c = 8 then { r with A := v % 256 } else if c = 9 then { r with B := v % 256 } else if c = 10 then { r with C := v % 256 } else if c = 11 then { r with D := v % 256 } else r
def isR (c : Int) : Bool := (decide (0 ≤ c) && decide (c ≤ 5)) || (decide (8 ≤ c) && decide (c ≤ 11))
theorem getR_range (r : Rg) (hr : r.Ok) (c : Int) : 0 ≤ getR r c ∧ getR r c < 65536 := by
  obtain ⟨a0, a1, b0, b1, d0, d1, c0, c1, x0, x1, y0, y1, u0, u1, s0, s1, p0, p1⟩ := hr
  unfold getR
  repeat (first | omega | split)
theorem setR_ok (r : Rg) (hr : r.Ok) (c v : Int) (h0 : 0 ≤ v) (h1 : v < 65536) : (setR r c v).Ok := by
  obtain ⟨a0, a1, b0, b1, d0, d1, c0, c1, x0, x1, y0, y1, u0, u1, s0, s1, p0, p1⟩ := hr
  unfold setR
  repeat (first | (constructor <;> first | assumption | omega | (simp; omega)) | split)
theorem code_cases (c : Int) : c = 0 ∨ c = 1 ∨ c = 2 ∨ c = 3 ∨ c = 4 ∨ c = 5 ∨ c = 8 ∨ c = 9 ∨ c = 10 ∨ c = 11 ∨ c = 6 ∨ c = 7 ∨ c < 0 ∨ 11 < c := by omega
/-- Block g is just these registers. -/
def RgAt (w : World) (g : Nat) (t : TypeId) (r : Rg) : Prop := Blk w g t r.cells
theorem RgAt.cells {w : World} {g : Nat} {t : TypeId} {r : Rg} (h : RgAt w g t r) :
    w.cell? ⟨g, 0, none⟩ = some (.int .u8 r.A) ∧ w.cell? ⟨g, 1, none⟩ = some (.int .u8 r.B) ∧ w.cell? ⟨g, 2, none⟩ = some (.int .u8 r.D) ∧ w.cell? ⟨g, 3, none⟩ = some (.int .u8 r.C) ∧ w.cell? ⟨g, 4, none⟩ = some (.int .u16 r.X) ∧ w.cell? ⟨g, 5, none⟩ = some (.int .u16 r.Y) ∧ w.cell? ⟨g, 6, none⟩ = some (.int .u16 r.U) ∧ w.cell? ⟨g, 7, none⟩ = some (.int .u16 r.S) ∧ w.cell? ⟨g, 8, none⟩ = some (.int .u16 r.P) := by
  have hb : Blk w g t r.cells := h
  refine ⟨?_, ?_, ?_, ?_, ?_, ?_, ?_, ?_, ?_⟩ <;> (rw [hb.cell]; rfl)
theorem RgAt.frozen {w : World} {g : Nat} {t : TypeId} {r : Rg} (h : RgAt w g t r) (i : Nat) : w.frozen? ⟨g, i, none⟩ = false := Blk.frozen h i
theorem RgAt.lt {w : World} {g : Nat} {t : TypeId} {r : Rg} (h : RgAt w g t r) : g < w.heap.size := Blk.lt h
theorem RgAt.below {w w' : World} {g B : Nat} {t : TypeId} {r : Rg} (h : RgAt w g t r) (hb : Below B w w') (hg : g < B) : RgAt w' g t r := Blk.below h hb hg
theorem RgAt.drewN {w : World} {g : Nat} {t : TypeId} {r : Rg} (h : RgAt w g t r) (n : Nat) : RgAt (w.drewN n) g t r := h
theorem RgAt.grown {w w' : World} {g : Nat} {t : TypeId} {r : Rg} {row : Option Nat} (h : RgAt w g t r) (hb : w.grownBy w' row) (hg : some g ≠ row) : RgAt w' g t r := Blk.grown h hb hg
set_option maxRecDepth 100000 in
theorem get_any (r : Rg) (hr : r.Ok) (c : Int) (w : World) (g : Nat) (t : TypeId) (h : RgAt w g t r) :
    Calls Tryd.prog 61 #[.pointer (some ⟨g, 0, none⟩), .int .i64 c] w fun e w' => e = .returned (.int .u16 (getR r c)) ∧ ∃ n, w' = w.drewN n := by
  obtain ⟨a0, a1, b0, b1, d0, d1, c0, c1, x0, x1, y0, y1, u0, u1, s0, s1, p0, p1⟩ := hr
  obtain ⟨k0, k1, k2, k3, k4, k5, k6, k7, k8⟩ := h.cells
  have H := Lib.hid h
  clear h
  rcases code_cases c with rfl | rfl | rfl | rfl | rfl | rfl | rfl | rfl | rfl | rfl | rfl | rfl | hc | hc
  · go_enter Tryd.func61, Tryd.ntmps61
    go_wp2
    go_quiet ((go_at_call 62; exact Calls.quiet_of ((word_any _ _ _ (by omega) (by omega) (by omega) (by omega)).mono (fun e w' h => ⟨h.1, 0, h.2.symm⟩))))
    go_wp2
    go_ret
    exact ⟨rfl, _, rfl⟩
  all_goals
    go_enter Tryd.func61, Tryd.ntmps61
    go_wp2_with (go_at_call 62; refine (word_any _ _ _ (by omega) (by omega) (by omega) (by omega)).mono ?_; rintro e w' ⟨rfl, rfl⟩)
    go_ret
    refine ⟨ret_int ?_, 0, rfl⟩
    first
      | rfl
      | (unfold getR; omega)
      | (unfold getR; repeat (rw [if_neg (by omega)]))
end Go.Proofs.YtfjkbjkbpbnalabDoor
