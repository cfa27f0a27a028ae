/- The chapter's example of layer 38. -/
import Derived.Test.YtnhafficnomlbaaPck
namespace Go.Proofs.Ytnhafficnomlbaa
open Go.ChangeShapes Go.WideShapes Go.ChangeAt Go.RowKit
set_option linter.unusedVariables false
theorem rdY_lit4 (w : World) (t : TypeId) (a b c d : Int) : eY.Rd (w.alloc (.cells #[.int .u8 a, .int .u8 b, .int .u8 c, .int .u8 d] t)) (.slice (some ⟨w.heap.size, 0, none⟩) 4 4) [a, b, c, d] := Els.Rd.lit w t [a, b, c, d] _ 4 rfl rfl 4
theorem ex38 : packL [7, 7, 7, 1] = [253, 7, 1, 1] := by decide +kernel
theorem alive38 (w : World) : Calls Try.prog 19 #[] w fun e w' => e = .returned (.bool true) ∧ Below w.heap.size w w' := by
  have h1 : Byt [7, 7, 7, 1] := by unfold Byt; decide
  have h2 : Byt [253, 7, 1, 1] := by unfold Byt; decide
  have P := Lib.hid (rdY_lit4 w 5 7 7 7 1)
  have CP := pack_any (some ⟨w.heap.size, 0, none⟩) 4 4 [7, 7, 7, 1] _ P.out (by decide) h1 (by decide)
  rw [ex38] at CP
  have CC := Lib.hid CP
  clear CP P h1
  go_enter Try.func19, Try.ntmps19
  go_wp2_with fail
  refine CC.out.mono ?_
  rintro e w1 ⟨v1, rfl, ho, hb⟩
  have B1 := Lib.hid (Below.trans0 (Below.alloc0 (Below.refl w.heap.size w) _) hb)
  have O1 := Lib.hid ho
  clear ho hb CC
  go_wp2_with fail
  refine (eqY_any _ _ _ _ _ (Els.Rd.alloc O1.out.rd _) (rdY_lit4 w1 5 253 7 1 1) h2 h2).mono ?_
  rintro e w2 ⟨rfl, rfl⟩
  rw [beq_self_eq_true]
  go_wp2
  go_ret
  exact ⟨rfl, Below.alloc0 B1.out _⟩
end Go.Proofs.Ytnhafficnomlbaa
