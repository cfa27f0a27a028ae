/- Contracts of the library's Equal on slices of integers (slices.Equal, bytes.Equal). -/
import Derived.Test.YtnmgjgeniaheoabDoorOwn
import Derived.Deep.QuietTactic
import Derived.BigQuiet
import Derived.Outline
namespace Go.Proofs.YtnmgjgeniaheoabDoor
open Go.ChangeShapes Go.WideShapes Go.ChangeAt Go.RowKit
set_option linter.unusedVariables false
theorem take_eq_next (xs ys : List Int) (k : Nat) (hx : k < xs.length) (hy : k < ys.length) (h : xs.take k = ys.take k) (he : iat xs k = iat ys k) : xs.take (k + 1) = ys.take (k + 1) := by
  rw [List.take_succ_eq_append_getElem hx, List.take_succ_eq_append_getElem hy, h, ← iat_eq _ _ hx, ← iat_eq _ _ hy, he]
theorem ne_of_at (xs ys : List Int) (k : Nat) (he : iat xs k ≠ iat ys k) : (xs == ys) = false := by
  rw [beq_eq_false_iff_ne]; rintro rfl; exact he rfl
theorem bytes_str (A : Option Addr) (n c : Nat) (zs : List Int) (B : Nat) (w : World) (h : Ints .u8 w B A n zs) :
    (convert 25 9 (.slice A n c)).run Tryd.prog w = .ok (.string (strOfNums zs)) w := by
  obtain ⟨hl, hwf, hc⟩ := h
  rcases Nat.eq_zero_or_pos n with h0 | h0
  · subst h0
    obtain rfl : zs = [] := List.eq_nil_of_length_eq_zero hl
    cases A with
    | none => exact run_convert_bytes_nil w 25 5 Tryd.underlying25 Tryd.underlying5 0 c 9 Tryd.underlying9
    | some a => exact run_convert_bytes_back w 25 9 5 a c [] Tryd.underlying25 Tryd.underlying5 Tryd.underlying9 (fun j hj => absurd hj (by simp))
  · obtain ⟨b, off, rfl, hb, hcell⟩ := hc h0
    exact bytes_at' w b off n c zs hl hcell
set_option maxRecDepth 100000 in
theorem bytesEqual_any (A A' : Option Addr) (n c n' c' : Nat) (xs ys : List Int) (B B' : Nat) (w : World) (h : Ints .u8 w B A n xs) (h' : Ints .u8 w B' A' n' ys) :
    Calls Tryd.prog 10 #[.slice A n c, .slice A' n' c'] w fun e w' => e = .returned (.bool (xs == ys)) ∧ w = w' := by
  have r1 : ∀ z ∈ xs, 0 ≤ z ∧ z < 256 := fun z hz => by have := bounds_u8 (h.2.1 z hz); omega
  have r2 : ∀ z ∈ ys, 0 ≤ z ∧ z < 256 := fun z hz => by have := bounds_u8 (h'.2.1 z hz); omega
  have e1 := bytes_str A n c xs B w h
  have e2 := bytes_str A' n' c' ys B' w h'
  have e3 := Lib.hid (toList_beq xs (strOfNums ys) r1)
  have e4 := Lib.hid (str_nums ys r2)
  clear r1 r2 h h'
  go_enter Tryd.func10, Tryd.ntmps10
  go_wp2
  go_ret
  exact ⟨ret_bool (by rw [e3.out, e4.out]), rfl⟩
set_option maxRecDepth 100000 in
theorem eq16_any (A A' : Option Addr) (n c n' c' : Nat) (xs ys : List Int) (B B' : Nat) (w : World) (h : Ints .u16 w B A n xs) (h' : Ints .u16 w B' A' n' ys) (hn : n ≤ 1099511627776) (hn' : n' ≤ 1099511627776) :
    Calls Tryd.prog 23 #[.slice A n c, .slice A' n' c'] w fun e w' => e = .returned (.bool (xs == ys)) ∧ ∃ k, w' = w.drewN k := by
  have HL := Lib.hid h.1
  have HL' := Lib.hid h'.1
  have H := Lib.hid h
  have H' := Lib.hid h'
  clear h h'
  by_cases he : n = n'
  · subst he
    have hne : ((n : Int) != (n : Int)) = false := by simp
    go_enter Tryd.func23, Tryd.ntmps23
    go_wp2
    go_loopw [13] (fun i wr => ∃ k : Nat, k ≤ n ∧ i = .int .i64 k ∧ Hid (xs.take k = ys.take k) ∧ ∃ j, wr = w.drewN j) (fun i _ => n - (intOf i).toNat)
    case atStart => exact ⟨0, Nat.zero_le _, rfl, Lib.hid rfl, 0, rfl⟩
    case round =>
      obtain ⟨k, hk, rfl, heq, j, rfl⟩ := hrel
      by_cases hlt : k < n
      · obtain ⟨b, off, rfl, hb, hcell⟩ := H.out.2.2 (by omega)
        obtain ⟨b', off', rfl, hb', hcell'⟩ := H'.out.2.2 (by omega)
        have hc1 := hcell k hlt
        have hc2 := hcell' k hlt
        have hk0 : (0 : Int) ≤ k := by omega
        have hkn : (k : Int) < n := by omega
        clear hcell hcell'
        by_cases hq : iat xs k = iat ys k
        · have hq' : (iat xs k != iat ys k) = false := by rw [hq]; simp
          have hnx := Lib.hid (take_eq_next xs ys k (by rw [HL.out]; exact hlt) (by rw [HL'.out]; exact hlt) heq.out hq)
          clear hq
          go_wp2
          go_quiet (fail)
          go_wp2
          go_roundw
          case rel => exact ⟨k + 1, by omega, by go_num, hnx, _, rfl⟩
          case measure => simp [intOf]; omega
        · have hq' : (iat xs k != iat ys k) = true := by simpa using hq
          have hfa := Lib.hid (ne_of_at xs ys k hq)
          clear hq
          go_wp2
          go_quiet (fail)
          go_wp2
          go_ret
          exact ⟨ret_bool hfa.out.symm, by first | exact ⟨_, rfl⟩ | exact ⟨_, World.drewN_drewN _ _ _⟩⟩
      · have hfin : Hid ((xs == ys) = true) := Lib.hid (by
          have := heq.out
          rw [List.take_of_length_le (by rw [HL.out]; omega), List.take_of_length_le (by rw [HL'.out]; omega)] at this
          rw [this]; simp)
        go_wp2
        go_ret
        exact ⟨ret_bool hfin.out.symm, j, rfl⟩
  · have hne : ((n : Int) != (n' : Int)) = true := by rw [bne_iff_ne]; omega
    have hfa : Hid ((xs == ys) = false) := Lib.hid (by rw [beq_eq_false_iff_ne]; rintro rfl; exact he (by rw [← HL.out, ← HL'.out]))
    clear he
    go_enter Tryd.func23, Tryd.ntmps23
    go_wp2
    go_ret
    exact ⟨ret_bool hfa.out.symm, 0, rfl⟩
end Go.Proofs.YtnmgjgeniaheoabDoor
