/- Contract of the library's Equal on slices of int. -/
import Derived.Test.YteaajmoclgfhnaaRws
import Derived.Test.YteaajmoclgfhnaaEq
import Derived.Deep.QuietTactic
import Derived.BigQuiet
import Derived.Outline
namespace Go.Proofs.Yteaajmoclgfhnaa
open Go.ChangeShapes Go.WideShapes Go.ChangeAt Go.RowKit
set_option linter.unusedVariables false
set_option maxRecDepth 100000 in
theorem eqI_any (v v' : Value) (xs ys : List Int) (w : World) (h : eI.Rd w v xs) (h' : eI.Rd w v' ys) (hn : xs.length ≤ 1099511627776) (hn' : ys.length ≤ 1099511627776) :
    Calls Try.prog 18 #[v, v'] w fun e w' => e = .returned (.bool (xs == ys)) ∧ ∃ k, w' = w.drewN k := by
  obtain ⟨A, c, rfl, hc⟩ := Els.one_at (E := eI) (f := Value.int .i64) rfl (fun _ => rfl) h
  obtain ⟨A', c', rfl, hc'⟩ := Els.one_at (E := eI) (f := Value.int .i64) rfl (fun _ => rfl) h'
  obtain ⟨n, hl⟩ : ∃ n, xs.length = n := ⟨_, rfl⟩
  obtain ⟨n', hl'⟩ : ∃ n', ys.length = n' := ⟨_, rfl⟩
  rw [hl] at hc hn ⊢
  rw [hl'] at hc' hn' ⊢
  have HL := Lib.hid hl
  have HL' := Lib.hid hl'
  have H := Lib.hid hc
  have H' := Lib.hid hc'
  clear h h' hc hc' hl hl'
  by_cases he : n = n'
  · subst he
    have hne : ((n : Int) != (n : Int)) = false := by simp
    go_enter Try.func18, Try.ntmps18
    go_wp2
    go_loopw [13] (fun i wr => ∃ k : Nat, k ≤ n ∧ i = .int .i64 k ∧ Hid (xs.take k = ys.take k) ∧ ∃ j, wr = w.drewN j) (fun i _ => n - (intOf i).toNat)
    case atStart => exact ⟨0, Nat.zero_le _, rfl, Lib.hid rfl, 0, rfl⟩
    case round =>
      obtain ⟨k, hk, rfl, heq, j, rfl⟩ := hrel
      by_cases hlt : k < n
      · obtain ⟨b, off, rfl, hb, hcell⟩ := H.out (by omega)
        obtain ⟨b', off', rfl, hb', hcell'⟩ := H'.out (by omega)
        have hc1 := hcell k (iat xs k) (by rw [iat_eq _ _ (by rw [HL.out]; exact hlt)]; exact List.getElem?_eq_getElem _)
        have hc2 := hcell' k (iat ys k) (by rw [iat_eq _ _ (by rw [HL'.out]; exact hlt)]; exact List.getElem?_eq_getElem _)
        have hk0 : (0 : Int) ≤ k := by omega
        have hkn : (k : Int) < n := by omega
        clear hcell hcell'
        by_cases hq : iat xs k = iat ys k
        · have hq' : (iat xs k != iat ys k) = false := by rw [hq]; simp
          have hnx := Lib.hid (take_eq_next xs ys k (by rw [HL.out]; exact hlt) (by rw [HL'.out]; exact hlt) heq.out hq)
          clear hq
          go_wp2
          go_quiet (fail)
          go_wp2
          go_roundw
          case rel => exact ⟨k + 1, by omega, by go_num, hnx, _, rfl⟩
          case measure => simp [intOf]; omega
        · have hq' : (iat xs k != iat ys k) = true := by simpa using hq
          have hfa := Lib.hid (ne_of_at xs ys k hq)
          clear hq
          go_wp2
          go_quiet (fail)
          go_wp2
          go_ret
          exact ⟨ret_bool hfa.out.symm, by first | exact ⟨_, rfl⟩ | exact ⟨_, World.drewN_drewN _ _ _⟩⟩
      · have hfin : Hid ((xs == ys) = true) := Lib.hid (by
          have := heq.out
          rw [List.take_of_length_le (by rw [HL.out]; omega), List.take_of_length_le (by rw [HL'.out]; omega)] at this
          rw [this]; simp)
        go_wp2
        go_ret
        exact ⟨ret_bool hfin.out.symm, j, rfl⟩
  · have hne : ((n : Int) != (n' : Int)) = true := by rw [bne_iff_ne]; omega
    have hfa : Hid ((xs == ys) = false) := Lib.hid (by rw [beq_eq_false_iff_ne]; rintro rfl; exact he (by rw [← HL.out, ← HL'.out]))
    clear he
    go_enter Try.func18, Try.ntmps18
    go_wp2
    go_ret
    exact ⟨ret_bool hfa.out.symm, 0, rfl⟩
theorem eqI_b (v v' : Value) (l m : List Int) (w : World) (h : eI.Rd w v l) (h' : eI.Rd w v' m) (hn : l.length ≤ 1099511627776) (hn' : m.length ≤ 1099511627776) :
    Calls Try.prog 18 #[v, v'] w fun e w' => e = .returned (.bool (l == m)) ∧ Below w.heap.size w w' := by
  refine (eqI_any v v' l m w h h' hn hn').mono ?_
  rintro e w' ⟨rfl, k, rfl⟩
  exact ⟨rfl, Below.drewN0 (Below.refl _ _) k⟩
end Go.Proofs.Yteaajmoclgfhnaa
