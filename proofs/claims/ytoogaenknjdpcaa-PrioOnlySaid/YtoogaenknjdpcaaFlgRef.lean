/- The document's own answers for the condition codes (spinetref03), and that package flags' bits are theirs. -/
import Derived.Test.YtoogaenknjdpcaaFlg
namespace Go.Proofs.Ytoogaenknjdpcaa
open Go.ChangeShapes Go.WideShapes Go.ChangeAt Go.RowKit
set_option linter.unusedVariables false

def hasRef (cc bit : Int) : Bool := cc / bit % 2 == 1
def putRef (cc bit : Int) (on : Bool) : Int := if on && !hasRef cc bit then (cc + bit) % 256 else if !on && hasRef cc bit then (cc - bit) % 256 else cc
theorem putRef_range (cc bit : Int) (on : Bool) (h0 : 0 ≤ cc) (h1 : cc < 256) : 0 ≤ putRef cc bit on ∧ putRef cc bit on < 256 := by
  unfold putRef; split
  · omega
  · split <;> omega
def nzRef (cc r half : Int) : Int := putRef (putRef cc 8 (decide (half ≤ r))) 4 (r == 0)
theorem hasRef_any (cc bit : Int) (w : World) (h0 : 0 ≤ cc) (h1 : cc < 256) (h2 : 0 < bit) (h3 : bit < 256) :
    Calls Try.prog 26 #[.int .u8 cc, .int .u8 bit] w fun e w' => e = .returned (.bool (hasRef cc bit)) ∧ w = w' := by
  have e0 : (bit == 0) = false := by rw [beq_eq_false_iff_ne]; omega
  have q0 : 0 ≤ cc / bit := Int.ediv_nonneg h0 (by omega)
  have q1 : cc / bit ≤ cc := Int.ediv_le_self _ h0
  have q2 : cc.tdiv bit = cc / bit := Int.tdiv_eq_ediv_of_nonneg h0
  go_enter Try.func26, Try.ntmps26
  go_wp2
  go_ret
  exact ⟨rfl, rfl⟩
/-- One bit put on, or off, is what the mask of that bit does. -/
theorem putRef_with : ∀ (i : Fin 8) (cc : Fin 256) (on : Bool), putRef (cc.val : Int) ((2 ^ i.val : Nat) : Int) on = withOf (cc.val : Int) on ((2 ^ i.val : Nat) : Int) := by decide +kernel
theorem putRef_with' (i : Nat) (hi : i < 8) (cc : Int) (on : Bool) (h0 : 0 ≤ cc) (h1 : cc < 256) : putRef cc ((2 ^ i : Nat) : Int) on = withOf cc on ((2 ^ i : Nat) : Int) := by
  obtain ⟨n, rfl⟩ := Int.eq_ofNat_of_zero_le h0
  exact putRef_with ⟨i, hi⟩ ⟨n, by omega⟩ on
end Go.Proofs.Ytoogaenknjdpcaa
