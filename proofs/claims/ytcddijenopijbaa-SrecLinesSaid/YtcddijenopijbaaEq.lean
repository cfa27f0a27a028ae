/- Contracts of the library's Equal on slices of integers (slices.Equal, bytes.Equal). -/
import Derived.Test.YtcddijenopijbaaOwn
import Derived.Deep.QuietTactic
import Derived.BigQuiet
import Derived.Outline
namespace Go.Proofs.Ytcddijenopijbaa
open Go.ChangeShapes Go.WideShapes Go.ChangeAt Go.RowKit
set_option linter.unusedVariables false
theorem take_eq_next (xs ys : List Int) (k : Nat) (hx : k < xs.length) (hy : k < ys.length) (h : xs.take k = ys.take k) (he : iat xs k = iat ys k) : xs.take (k + 1) = ys.take (k + 1) := by
  rw [List.take_succ_eq_append_getElem hx, List.take_succ_eq_append_getElem hy, h, ← iat_eq _ _ hx, ← iat_eq _ _ hy, he]
theorem ne_of_at (xs ys : List Int) (k : Nat) (he : iat xs k ≠ iat ys k) : (xs == ys) = false := by
  rw [beq_eq_false_iff_ne]; rintro rfl; exact he rfl
theorem bytes_str (A : Option Addr) (n c : Nat) (zs : List Int) (B : Nat) (w : World) (h : Ints .u8 w B A n zs) :
    (convert 23 9 (.slice A n c)).run Try.prog w = .ok (.string (strOfNums zs)) w := by
  obtain ⟨hl, hwf, hc⟩ := h
  rcases Nat.eq_zero_or_pos n with h0 | h0
  · subst h0
    obtain rfl : zs = [] := List.eq_nil_of_length_eq_zero hl
    cases A with
    | none => exact run_convert_bytes_nil w 23 5 Try.underlying23 Try.underlying5 0 c 9 Try.underlying9
    | some a => exact run_convert_bytes_back w 23 9 5 a c [] Try.underlying23 Try.underlying5 Try.underlying9 (fun j hj => absurd hj (by simp))
  · obtain ⟨b, off, rfl, hb, hcell⟩ := hc h0
    exact bytes_at' w b off n c zs hl hcell
set_option maxRecDepth 100000 in
theorem bytesEqual_any (A A' : Option Addr) (n c n' c' : Nat) (xs ys : List Int) (B B' : Nat) (w : World) (h : Ints .u8 w B A n xs) (h' : Ints .u8 w B' A' n' ys) :
    Calls Try.prog 9 #[.slice A n c, .slice A' n' c'] w fun e w' => e = .returned (.bool (xs == ys)) ∧ w = w' := by
  have r1 : ∀ z ∈ xs, 0 ≤ z ∧ z < 256 := fun z hz => by have := bounds_u8 (h.2.1 z hz); omega
  have r2 : ∀ z ∈ ys, 0 ≤ z ∧ z < 256 := fun z hz => by have := bounds_u8 (h'.2.1 z hz); omega
  have e1 := bytes_str A n c xs B w h
  have e2 := bytes_str A' n' c' ys B' w h'
  have e3 := Lib.hid (toList_beq xs (strOfNums ys) r1)
  have e4 := Lib.hid (str_nums ys r2)
  clear r1 r2 h h'
  go_enter Try.func9, Try.ntmps9
  go_wp2
  go_ret
  exact ⟨ret_bool (by rw [e3.out, e4.out]), rfl⟩
end Go.Proofs.Ytcddijenopijbaa
