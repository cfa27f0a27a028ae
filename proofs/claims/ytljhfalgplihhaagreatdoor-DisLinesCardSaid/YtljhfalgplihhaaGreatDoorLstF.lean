/- Contracts: the register of a name, the bits of a name (package ops, lists), in plain lists of bytes. -/
import Derived.Test.YtljhfalgplihhaaGreatDoorGTbl
import Derived.Test.YtljhfalgplihhaaGreatDoorStrTab
namespace Go.Proofs.YtljhfalgplihhaaGreatDoor
open Go.ChangeShapes Go.WideShapes Go.ChangeAt Go.RowKit
set_option linter.unusedVariables false

def regNames : List (List UInt8) := [[68], [88], [89], [85], [83], [80, 67], [], [], [65], [66], [67, 67], [68, 80]]
def regS (k : Nat) : ByteArray := byteStr (regNames.getD k [])
def regIs (s : ByteArray) (k : Nat) : Bool := !(regS k).toList.isEmpty && ((regS k).toList == s.toList)
/-- The first register, from number k on, with this name. -/
def regIn (s : ByteArray) : Nat → Nat → Int × Bool
  | 0, _ => (0, false)
  | m + 1, k => if regIs s k then ((k : Int), true) else regIn s m (k + 1)
def regOf (s : ByteArray) : Int × Bool := regIn s 12 0
/-- The first place, from k on, of m, whose register is c; then its bit. -/
def bitIn (u : Bool) (c : Int) : Nat → Nat → Int
  | 0, _ => 0
  | m + 1, k => if (regN k u : Int) == c then ((2 ^ k : Nat) : Int) else bitIn u c m (k + 1)
def namedF (s : ByteArray) (u : Bool) : Int := if (regOf s).2 = false then 0 else if (regOf s).1 = 0 then 6 else bitIn u (regOf s).1 8 0
theorem bitIn_range (u : Bool) (c : Int) : ∀ m k, k + m ≤ 8 → 0 ≤ bitIn u c m k ∧ bitIn u c m k < 256
  | 0, k, _ => by simp [bitIn]
  | m + 1, k, h => by
    unfold bitIn
    split
    · have := pow_lt8 k (by omega)
      obtain ⟨z, hz⟩ : ∃ z, 2 ^ k = z := ⟨_, rfl⟩
      rw [hz] at this ⊢
      omega
    · exact bitIn_range u c m (k + 1) (by omega)
theorem namedF_range (s : ByteArray) (u : Bool) : 0 ≤ namedF s u ∧ namedF s u < 256 := by
  unfold namedF
  split
  · decide
  · split
    · decide
    · exact bitIn_range u _ 8 0 (by decide)
theorem regIn_range (s : ByteArray) : ∀ m k, k + m ≤ 12 → 0 ≤ (regIn s m k).1 ∧ (regIn s m k).1 < 12
  | 0, k, _ => by simp [regIn]
  | m + 1, k, h => by
    unfold regIn
    split
    · simp only; omega
    · exact regIn_range s m (k + 1) (by omega)
theorem ret_reg {a b : Int} {p q : Bool} (h : a = b) (h2 : p = q) : Ending.returned (.tuple #[.int .i64 a, .bool p]) = .returned (.tuple #[.int .i64 b, .bool q]) := by rw [h, h2]
def OregAt (w : World) : Prop := ∀ k, k < 12 → w.cell? ⟨5, k, none⟩ = some (.string (regS k))
theorem OregAt.below {w w' : World} (h : OregAt w) (hb : Below w.heap.size w w') : OregAt w' := fun k hk =>
  (hb.cell (p := ⟨5, k, none⟩) (cell_lt (h k hk))).trans (h k hk)
theorem regs_agg (w : World) (k : Nat) (hk : k < 12) :
    (Instr.index 121 (.agg #[.string (regS 0), .string (regS 1), .string (regS 2), .string (regS 3), .string (regS 4), .string (regS 5), .string (regS 6), .string (regS 7), .string (regS 8), .string (regS 9), .string (regS 10), .string (regS 11)]) (.int .i64 (k : Int))).run Tryz.prog w = .ok (.string (regS k)) w := by
  rcases (show k = 0 ∨ k = 1 ∨ k = 2 ∨ k = 3 ∨ k = 4 ∨ k = 5 ∨ k = 6 ∨ k = 7 ∨ k = 8 ∨ k = 9 ∨ k = 10 ∨ k = 11 by omega) with rfl | rfl | rfl | rfl | rfl | rfl | rfl | rfl | rfl | rfl | rfl | rfl
  all_goals kernel_rfl
end Go.Proofs.YtljhfalgplihhaaGreatDoor
