/- Contracts of package count's calls. -/
import Derived.Test.YtkdekhcnamkcgabCod
namespace Go.Proofs.Ytkdekhcnamkcgab
open Go.ChangeShapes Go.WideShapes Go.ChangeAt Go.RowKit
set_option linter.unusedVariables false

def incC (cc a : Int) : Int := putRef (nzRef cc ((a + 1) % 256) 128) 2 (a == 127)
def decC (cc a : Int) : Int := putRef (nzRef cc ((a - 1) % 256) 128) 2 (a == 128)
theorem CC.inc {cc : Int} (h : CC cc) (a : Int) : CC (incC cc a) := (h.nz _ _).put _ _
theorem CC.dec {cc : Int} (h : CC cc) (a : Int) : CC (decC cc a) := (h.nz _ _).put _ _
theorem incC_low (cc a : Int) (h : CC cc) : incC cc a % 2 = cc % 2 := by
  unfold incC
  have h1 := h.nz ((a + 1) % 256) 128
  rw [low_put _ 2 _ h1.1 h1.2 bit2 (by decide), low_nz _ _ _ h.1 h.2]
theorem decC_low (cc a : Int) (h : CC cc) : decC cc a % 2 = cc % 2 := by
  unfold decC
  have h1 := h.nz ((a - 1) % 256) 128
  rw [low_put _ 2 _ h1.1 h1.2 bit2 (by decide), low_nz _ _ _ h.1 h.2]
theorem inc_any (a cc : Int) (w : World) (ha : 0 ≤ a) (ha' : a < 256) (hcc : CC cc) :
    Calls Try.prog 49 #[.int .u8 a, .int .u8 cc] w fun e w' => e = .returned (.tuple #[.int .u8 ((a + 1) % 256), .int .u8 (incC cc a)]) ∧ Below w.heap.size w w' := by
  go_enter Try.func49, Try.ntmps49
  go_wp2_with (first
    | (go_at_call 58; refine (nz_bits _ _ _ hcc).mono ?_; rintro e w1 ⟨rfl, hb1⟩)
    | (go_at_call 57; refine (with_bit _ _ _ _ _ _ _ _ (CC.nz hcc _ _) bit2 (Ints.new1 (by simp) (by decide)) (by omega)).mono ?_; rintro e w' ⟨rfl, rfl⟩))
  go_ret2
  exact ⟨rfl, by repeat (first | assumption | apply Below.alloc0)⟩
theorem dec_any (a cc : Int) (w : World) (ha : 0 ≤ a) (ha' : a < 256) (hcc : CC cc) :
    Calls Try.prog 48 #[.int .u8 a, .int .u8 cc] w fun e w' => e = .returned (.tuple #[.int .u8 ((a - 1) % 256), .int .u8 (decC cc a)]) ∧ Below w.heap.size w w' := by
  go_enter Try.func48, Try.ntmps48
  go_wp2_with (first
    | (go_at_call 58; refine (nz_bits _ _ _ hcc).mono ?_; rintro e w1 ⟨rfl, hb1⟩)
    | (go_at_call 57; refine (with_bit _ _ _ _ _ _ _ _ (CC.nz hcc _ _) bit2 (Ints.new1 (by simp) (by decide)) (by omega)).mono ?_; rintro e w' ⟨rfl, rfl⟩))
  go_ret2
  exact ⟨rfl, by repeat (first | assumption | apply Below.alloc0)⟩
end Go.Proofs.Ytkdekhcnamkcgab
