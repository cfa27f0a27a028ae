/- Records compared: two of them, two rows of them (slices.Equal). -/
import Derived.Test.YtnmgjgeniaheoaaDoorRec
import Derived.BigQuiet
namespace Go.Proofs.YtnmgjgeniaheoaaDoor
open Go.ChangeShapes Go.WideShapes Go.ChangeAt Go.RowKit
set_option linter.unusedVariables false

open Classical in
/-- Whether two are one, as a Bool. -/
noncomputable def eqB {α : Type} (x y : α) : Bool := decide (x = y)
theorem eqB_iff {α : Type} (x y : α) : eqB x y = true ↔ x = y := by simp [eqB]
theorem eqB_no {α : Type} {x y : α} (h : x ≠ y) : eqB x y = false := by simp [eqB, h]
theorem eqB_yes {α : Type} {x y : α} (h : x = y) : eqB x y = true := by simp [eqB, h]
theorem eqB_self {α : Type} (x : α) : eqB x x = true := by simp [eqB]
theorem eqB_comm {α : Type} (x y : α) : eqB x y = eqB y x := by rw [Bool.eq_iff_iff, eqB_iff, eqB_iff]; exact eq_comm
abbrev rc9 (x : Rc) : Array Value := #[.int .u16 x.a, .int .u8 x.d, .bool x.r, .bool x.b1, .bool x.b2, .bool x.b3, .bool x.b4, .bool x.b5, .bool x.m]
theorem rc_ext (x y : Rc) (h1 : x.a = y.a) (h2 : x.d = y.d) (h3 : x.r = y.r) (h4 : x.b1 = y.b1) (h5 : x.b2 = y.b2) (h6 : x.b3 = y.b3) (h7 : x.b4 = y.b4) (h8 : x.b5 = y.b5) (h9 : x.m = y.m) : x = y := by
  cases x; cases y; simp_all
end Go.Proofs.YtnmgjgeniaheoaaDoor
