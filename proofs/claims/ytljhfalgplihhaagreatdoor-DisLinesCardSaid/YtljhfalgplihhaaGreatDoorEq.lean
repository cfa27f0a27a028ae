/- Contracts of the library's Equal on slices of integers (slices.Equal, bytes.Equal). -/
import Derived.Test.YtljhfalgplihhaaGreatDoorOwn
import Derived.Deep.QuietTactic
import Derived.BigQuiet
import Derived.Outline
namespace Go.Proofs.YtljhfalgplihhaaGreatDoor
open Go.ChangeShapes Go.WideShapes Go.ChangeAt Go.RowKit
set_option linter.unusedVariables false
theorem take_eq_next (xs ys : List Int) (k : Nat) (hx : k < xs.length) (hy : k < ys.length) (h : xs.take k = ys.take k) (he : iat xs k = iat ys k) : xs.take (k + 1) = ys.take (k + 1) := by
  rw [List.take_succ_eq_append_getElem hx, List.take_succ_eq_append_getElem hy, h, ← iat_eq _ _ hx, ← iat_eq _ _ hy, he]
theorem ne_of_at (xs ys : List Int) (k : Nat) (he : iat xs k ≠ iat ys k) : (xs == ys) = false := by
  rw [beq_eq_false_iff_ne]; rintro rfl; exact he rfl
theorem bytes_str (A : Option Addr) (n c : Nat) (zs : List Int) (B : Nat) (w : World) (h : Ints .u8 w B A n zs) :
    (convert 22 9 (.slice A n c)).run Tryz.prog w = .ok (.string (strOfNums zs)) w := by
  obtain ⟨hl, hwf, hc⟩ := h
  rcases Nat.eq_zero_or_pos n with h0 | h0
  · subst h0
    obtain rfl : zs = [] := List.eq_nil_of_length_eq_zero hl
    cases A with
    | none => exact run_convert_bytes_nil w 22 5 Tryz.underlying22 Tryz.underlying5 0 c 9 Tryz.underlying9
    | some a => exact run_convert_bytes_back w 22 9 5 a c [] Tryz.underlying22 Tryz.underlying5 Tryz.underlying9 (fun j hj => absurd hj (by simp))
  · obtain ⟨b, off, rfl, hb, hcell⟩ := hc h0
    exact bytes_at' w b off n c zs hl hcell
end Go.Proofs.YtljhfalgplihhaaGreatDoor
