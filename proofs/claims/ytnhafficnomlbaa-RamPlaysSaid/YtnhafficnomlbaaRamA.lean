/- The chapter's example for layer 32. -/
import Derived.Test.YtnhafficnomlbaaRamN
namespace Go.Proofs.Ytnhafficnomlbaa
open Go.ChangeShapes Go.WideShapes Go.ChangeAt Go.RowKit
set_option linter.unusedVariables false

set_option maxRecDepth 100000 in
set_option maxHeartbeats 2000000 in
theorem alive32 (w : World) : Calls Try.prog 23 #[] w fun e w' => e = .returned (.bool true) ∧ Below w.heap.size w w' := by
  have HN := Lib.hid (raNew_any _ [1, 2] 1 _ (rdY_lit2 w 5 1 2) (fun x hx => by simp at hx; omega) (by omega) (by simp))
  have W0 := Lib.hid (Below.alloc0 (Below.refl w.heap.size w) (.cells #[.int .u8 1, .int .u8 2] 5))
  go_enter Try.func23, Try.ntmps23
  go_wp2_with fail
  refine HN.out.mono ?_
  rintro e w1 ⟨m, p, rfl, hra, hb, hown⟩
  have W1 : Hid (Below w.heap.size w w1) := Lib.hid (Below.trans0 W0.out hb)
  have HO : Hid (∀ b, RS m p b → w.heap.size ≤ b) := Lib.hid (fun b hb' => by have := hown b hb'; have := W0.out.size; omega)
  have H1 : Hid (Calls Try.prog 28 #[.pointer (some ⟨m, 0, none⟩), .int .u16 1, .int .u8 9] w1 fun e w' => e = .returned (.bool false) ∧ w1 = w') := Lib.hid (raWrite_no m p 1 _ 1 9 w1 hra (by omega) (by omega))
  have H2 : Hid (Calls Try.prog 28 #[.pointer (some ⟨m, 0, none⟩), .int .u16 0, .int .u8 9] w1 (WritePost w1 m p 1 (upd (ldF (fun _ => 0) 0 [1, 2] 2) 0 9))) := Lib.hid (raWrite_ok m p 1 _ 0 9 w1 hra (by omega) (by omega) (by omega))
  clear hra hb hown HN W0
  go_wp2_with fail
  refine H1.out.mono ?_
  rintro e w' ⟨rfl, rfl⟩
  go_wp2_with fail
  refine H2.out.mono ?_
  rintro e w2 ⟨rfl, p2, hra, hst⟩
  have W2 : Hid (Below w.heap.size w w2) := Lib.hid (W1.out.trans (hst.below W1.out.size HO.out))
  have H3 : Hid (∀ k, Calls Try.prog 42 #[.pointer (some ⟨m, 0, none⟩), .int .u16 0] (w2.drewN k) fun e w' => e = .returned (.int .u8 9) ∧ ∃ k, w' = w2.drewN k) := Lib.hid (fun k => (raRead_any m p2 1 _ 0 (w2.drewN k) (hra.drewN k) (by omega)).mono (by
    rintro e w' ⟨rfl, j, rfl⟩
    exact ⟨rfl, _, drewN_two _ _ _⟩))
  have H4 : Hid (∀ k, Calls Try.prog 42 #[.pointer (some ⟨m, 0, none⟩), .int .u16 1] (w2.drewN k) fun e w' => e = .returned (.int .u8 2) ∧ ∃ k, w' = w2.drewN k) := Lib.hid (fun k => (raRead_any m p2 1 _ 1 (w2.drewN k) (hra.drewN k) (by omega)).mono (by
    rintro e w' ⟨rfl, j, rfl⟩
    exact ⟨rfl, _, drewN_two _ _ _⟩))
  clear hra hst H1 H2
  go_wp2_with fail
  refine (H3.out 0).mono ?_
  rintro e w' ⟨rfl, k, rfl⟩
  go_wp2_with fail
  refine (H4.out k).mono ?_
  rintro e w' ⟨rfl, k2, rfl⟩
  go_wp2
  go_ret
  exact ⟨rfl, Below.drewN0 W2.out k2⟩
end Go.Proofs.Ytnhafficnomlbaa
