/- Records: contract of the law's own put; the number of a record's levels. -/
import Derived.Test.YtpleboogijgdcaaRcT
namespace Go.Proofs.Ytpleboogijgdcaa
open Go.ChangeShapes Go.WideShapes Go.ChangeAt Go.RowKit
set_option linter.unusedVariables false

abbrev eU : Els Int := ⟨fun b => [.int .u8 b], 1, fun _ => rfl, fun x u h => by simp only [List.mem_singleton] at h; subst h; rfl, by decide⟩
def lvB (x : Rc) (k : Nat) : Bool := if k = 0 then x.r else if k = 1 then x.b1 else if k = 2 then x.b2 else if k = 3 then x.b3 else if k = 4 then x.b4 else if k = 5 then x.b5 else x.m
def pwN (k : Nat) : Int := ([1, 2, 4, 8, 16, 32, 64, 128] : List Int).getD k 0
def smN (x : Rc) : Nat → Int
  | 0 => 0
  | k + 1 => smN x k + if lvB x k then pwN k else 0
theorem lt7 {k : Nat} (h : k < 7) : k = 0 ∨ k = 1 ∨ k = 2 ∨ k = 3 ∨ k = 4 ∨ k = 5 ∨ k = 6 := by omega
theorem pwN_next (k : Nat) (h : k < 7) : pwN (k + 1) = 2 * pwN k ∧ 0 < pwN k ∧ pwN k ≤ 64 := by
  rcases lt7 h with rfl | rfl | rfl | rfl | rfl | rfl | rfl <;> decide
theorem smN_bd (x : Rc) (k : Nat) (h : k ≤ 7) : 0 ≤ smN x k ∧ smN x k < pwN k := by
  induction k with
  | zero => exact ⟨Int.le_refl 0, show (0 : Int) < pwN 0 by decide⟩
  | succ k ih =>
    have := ih (by omega)
    obtain ⟨a, b, c⟩ := pwN_next k (by omega)
    simp only [smN]
    split <;> omega
/-- The bytes of a record. -/
def puN (x : Rc) : List Int := [x.a / 256, x.a % 256, x.d, smN x 7]
end Go.Proofs.Ytpleboogijgdcaa
