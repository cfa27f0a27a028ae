/- The codes' bits, tried one by one. No program in sight. -/
import Derived.Test.YtfjkbjkbpbnalabDoorFlgRef
namespace Go.Proofs.YtfjkbjkbpbnalabDoor
open Go.ChangeShapes Go.WideShapes Go.ChangeAt Go.RowKit
set_option linter.unusedVariables false

theorem putRef_swap8 : ∀ (cc : Fin 256) (i j : Fin 8) (a b : Bool), i ≠ j →
    putRef (putRef (cc.val : Int) ((2 ^ i.val : Nat) : Int) a) ((2 ^ j.val : Nat) : Int) b = putRef (putRef (cc.val : Int) ((2 ^ j.val : Nat) : Int) b) ((2 ^ i.val : Nat) : Int) a := by decide +kernel
theorem hasRef_put8 : ∀ (cc : Fin 256) (i j : Fin 8) (a : Bool), hasRef (putRef (cc.val : Int) ((2 ^ i.val : Nat) : Int) a) ((2 ^ j.val : Nat) : Int) = if i = j then a else hasRef (cc.val : Int) ((2 ^ j.val : Nat) : Int) := by decide +kernel
theorem hasRef_fin8 : ∀ (cc : Fin 256) (j : Fin 8), hasRef (cc.val : Int) ((2 ^ j.val : Nat) : Int) = (bits .and .u8 (cc.val : Int) ((2 ^ j.val : Nat) : Int) == ((2 ^ j.val : Nat) : Int)) := by decide +kernel
end Go.Proofs.YtfjkbjkbpbnalabDoor
