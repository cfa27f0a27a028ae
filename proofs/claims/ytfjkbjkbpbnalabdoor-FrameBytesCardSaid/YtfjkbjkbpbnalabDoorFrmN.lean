/- What interrupts do, in numbers: the codes that are pushed, those that are there then, the vector, whether all is pushed, whether there is such a row. -/
import Derived.Test.YtfjkbjkbpbnalabDoorCod
namespace Go.Proofs.YtfjkbjkbpbnalabDoor
set_option linter.unusedVariables false

def tFI (cc : Int) : Int := putRef (putRef cc 64 true) 16 true
def tI (cc : Int) : Int := putRef cc 16 true
abbrev Ent := Int × Int × Int × Bool × Bool
def enT (k cc : Int) : Ent :=
  if k = 1 then (putRef cc 128 true, tFI (putRef cc 128 true), 65532, true, true) else
  if k = 2 then (putRef cc 128 false, tFI (putRef cc 128 false), 65526, false, true) else
  if k = 3 then (putRef cc 128 true, tI (putRef cc 128 true), 65528, true, true) else
  if k = 4 then (0, tFI cc, 65534, false, true) else
  if k = 5 then (0, tFI cc, 65532, false, true) else
  if k = 6 then (0, tFI cc, 65526, false, true) else
  if k = 7 then (0, tI cc, 65528, false, true) else
  if k = 11 then (putRef cc 128 true, tFI (putRef cc 128 true), 65530, true, true) else
  if k = 12 then (putRef cc 128 true, putRef cc 128 true, 65524, true, true) else
  if k = 13 then (putRef cc 128 true, putRef cc 128 true, 65522, true, true) else (0, 0, 0, false, false)
def noE : Ent := (0, 0, 0, false, false)
def enO (k cc : Int) : Ent := if 1 ≤ k ∧ k ≤ 7 then enT k cc else noE
def enS (n cc : Int) : Ent := if 1 ≤ n ∧ n ≤ 3 then enT (10 + n) cc else noE
def enC (e : Ent) : Array Value := #[.int .u8 e.1, .int .u8 e.2.1, .int .u16 e.2.2.1, .bool e.2.2.2.1]
theorem with_FI_fin : ∀ cc : Fin 256, withOf (cc.val : Int) true (orAll [64, 16]) = tFI (cc.val : Int) := by decide +kernel
theorem with_no_fin : ∀ cc : Fin 256, withOf (cc.val : Int) true (orAll []) = (cc.val : Int) := by decide +kernel
theorem with_FI {cc : Int} (h : CC cc) : withOf cc true (orAll [64, 16]) = tFI cc := by
  obtain ⟨n, rfl⟩ := Int.eq_ofNat_of_zero_le h.1
  exact with_FI_fin ⟨n, by have := h.2; omega⟩
theorem with_no {cc : Int} (h : CC cc) : withOf cc true (orAll []) = cc := by
  obtain ⟨n, rfl⟩ := Int.eq_ofNat_of_zero_le h.1
  exact with_no_fin ⟨n, by have := h.2; omega⟩
theorem bit16' : IsBit 16 := by unfold IsBit; omega
theorem bit64' : IsBit 64 := by unfold IsBit; omega
theorem bit128' : IsBit 128 := by unfold IsBit; omega
theorem with_I {cc : Int} (h : CC cc) : withOf cc true (orAll [16]) = tI cc := putRef_one cc 16 true h.1 h.2 bit16'
end Go.Proofs.YtfjkbjkbpbnalabDoor
