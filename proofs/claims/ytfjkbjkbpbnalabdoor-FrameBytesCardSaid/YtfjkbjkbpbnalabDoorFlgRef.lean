/- The document's own answers for the condition codes (spinetref03), and that package flags' bits are theirs. -/
import Derived.Test.YtfjkbjkbpbnalabDoorFlg
namespace Go.Proofs.YtfjkbjkbpbnalabDoor
open Go.ChangeShapes Go.WideShapes Go.ChangeAt Go.RowKit
set_option linter.unusedVariables false

def hasRef (cc bit : Int) : Bool := cc / bit % 2 == 1
def putRef (cc bit : Int) (on : Bool) : Int := if on && !hasRef cc bit then (cc + bit) % 256 else if !on && hasRef cc bit then (cc - bit) % 256 else cc
theorem putRef_range (cc bit : Int) (on : Bool) (h0 : 0 ≤ cc) (h1 : cc < 256) : 0 ≤ putRef cc bit on ∧ putRef cc bit on < 256 := by
  unfold putRef; split
  · omega
  · split <;> omega
def nzRef (cc r half : Int) : Int := putRef (putRef cc 8 (decide (half ≤ r))) 4 (r == 0)
/-- One bit put on, or off, is what the mask of that bit does. -/
theorem putRef_with : ∀ (i : Fin 8) (cc : Fin 256) (on : Bool), putRef (cc.val : Int) ((2 ^ i.val : Nat) : Int) on = withOf (cc.val : Int) on ((2 ^ i.val : Nat) : Int) := by decide +kernel
theorem putRef_with' (i : Nat) (hi : i < 8) (cc : Int) (on : Bool) (h0 : 0 ≤ cc) (h1 : cc < 256) : putRef cc ((2 ^ i : Nat) : Int) on = withOf cc on ((2 ^ i : Nat) : Int) := by
  obtain ⟨n, rfl⟩ := Int.eq_ofNat_of_zero_le h0
  exact putRef_with ⟨i, hi⟩ ⟨n, by omega⟩ on
end Go.Proofs.YtfjkbjkbpbnalabDoor
