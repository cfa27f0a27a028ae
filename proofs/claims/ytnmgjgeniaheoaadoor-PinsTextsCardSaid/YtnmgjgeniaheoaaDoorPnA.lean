/- Pins: the chapter's example. -/
import Derived.Test.YtnmgjgeniaheoaaDoorPnX
import Derived.Test.YtnmgjgeniaheoaaDoorPnR
namespace Go.Proofs.YtnmgjgeniaheoaaDoor
open Go.ChangeShapes Go.WideShapes Go.ChangeAt Go.RowKit
set_option linter.unusedVariables false

theorem paL_len (s : ByteArray) : (paL s).length ≤ 4096 := by
  unfold paL
  cases h : prs s with
  | inl e => simp
  | inr o => exact prs_len h
abbrev pnS : ByteArray := ⟨#[82, 42, 50, 32, 46, 32, 78, 70]⟩
theorem pnS_prs : prs pnS = .inr [⟨true, false, false, false, false, false⟩, ⟨true, false, false, false, false, false⟩, ⟨false, false, false, false, false, false⟩, ⟨false, true, true, false, false, false⟩] := by decide +kernel
set_option maxRecDepth 100000 in
set_option maxHeartbeats 2000000 in
theorem alive31 (w : World) : Calls Tryd.prog 12 #[] w fun e w' => e = .returned (.bool true) ∧ Below w.heap.size w w' := by
  have CP := Lib.hid (fun u => parse_any pnS (by decide) u)
  have E := Lib.hid (pa_good pnS_prs)
  go_enter Tryd.func12, Tryd.ntmps12
  go_wp2_with fail
  refine (CP.out _).mono ?_
  rintro e w1 ⟨v, rfl, hr, hb⟩
  have HB := Lib.hid hb
  rw [E.out.2] at hr
  rw [E.out.1]
  obtain ⟨A, c, rfl, hc⟩ := hr.open_
  obtain ⟨g, off, rfl, hg, hcell⟩ := hc (by simp)
  have c1 := hcell 1 _ rfl 0 _ rfl
  have c3 := hcell 3 _ rfl 1 _ rfl
  simp only [Nat.reduceMul, Nat.reduceAdd, Nat.add_zero, List.length_cons, List.length_nil] at c1 c3 ⊢
  clear hc hcell hr hb E
  go_wp2
  go_ret
  exact ⟨rfl, HB.out⟩
end Go.Proofs.YtnmgjgeniaheoaaDoor
