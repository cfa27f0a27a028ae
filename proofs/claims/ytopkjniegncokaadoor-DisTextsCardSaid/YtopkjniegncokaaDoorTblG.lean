/- Contracts: the group of an operation (package ops); what package table makes of it. -/
import Derived.Test.YtopkjniegncokaaDoorTbl
namespace Go.Proofs.YtopkjniegncokaaDoor
open Go.ChangeShapes Go.WideShapes Go.ChangeAt Go.RowKit
set_option linter.unusedVariables false

theorem ne_beq {o k : Int} (h : ¬ o = k) : (o == k) = false := by simpa using h
set_option maxRecDepth 100000 in
set_option maxHeartbeats 8000000 in
theorem group_in (o : Nat) (h : (2 ≤ o ∧ o ≤ 29) ∨ o = 32 ∨ o = 33) (w : World) : Calls Tryd.prog 57 #[.int .i64 (o : Int)] w fun e w' => e = .returned (.int .i64 (grpN (o : Int))) ∧ w = w' := by
  rcases (show o = 2 ∨ o = 3 ∨ o = 4 ∨ o = 5 ∨ o = 6 ∨ o = 7 ∨ o = 8 ∨ o = 9 ∨ o = 10 ∨ o = 11 ∨ o = 12 ∨ o = 13 ∨ o = 14 ∨ o = 15 ∨ o = 16 ∨ o = 17 ∨ o = 18 ∨ o = 19 ∨ o = 20 ∨ o = 21 ∨ o = 22 ∨ o = 23 ∨ o = 24 ∨ o = 25 ∨ o = 26 ∨ o = 27 ∨ o = 28 ∨ o = 29 ∨ o = 32 ∨ o = 33 by omega) with rfl | rfl | rfl | rfl | rfl | rfl | rfl | rfl | rfl | rfl | rfl | rfl | rfl | rfl | rfl | rfl | rfl | rfl | rfl | rfl | rfl | rfl | rfl | rfl | rfl | rfl | rfl | rfl | rfl | rfl
  all_goals
    go_enter Tryd.func57, Tryd.ntmps57
    go_wp2
    go_ret
    exact ⟨rfl, rfl⟩
set_option maxRecDepth 100000 in
set_option maxHeartbeats 8000000 in
theorem group_any (o : Int) (w : World) : Calls Tryd.prog 57 #[.int .i64 o] w fun e w' => e = .returned (.int .i64 (grpN o)) ∧ w = w' := by
  by_cases h : (2 ≤ o ∧ o ≤ 29) ∨ o = 32 ∨ o = 33
  · obtain ⟨n, rfl⟩ := Int.eq_ofNat_of_zero_le (show 0 ≤ o by omega)
    exact group_in n (by omega) w
  · have hg : grpN o = 0 := by unfold grpN; repeat (rw [if_neg (by omega)])
    rw [hg]
    have e2 : (o == 2) = false := ne_beq (by omega)
    have e3 : (o == 3) = false := ne_beq (by omega)
    have e4 : (o == 4) = false := ne_beq (by omega)
    have e5 : (o == 5) = false := ne_beq (by omega)
    have e6 : (o == 6) = false := ne_beq (by omega)
    have e7 : (o == 7) = false := ne_beq (by omega)
    have e8 : (o == 8) = false := ne_beq (by omega)
    have e9 : (o == 9) = false := ne_beq (by omega)
    have e10 : (o == 10) = false := ne_beq (by omega)
    have e11 : (o == 11) = false := ne_beq (by omega)
    have e12 : (o == 12) = false := ne_beq (by omega)
    have e13 : (o == 13) = false := ne_beq (by omega)
    have e14 : (o == 14) = false := ne_beq (by omega)
    have e15 : (o == 15) = false := ne_beq (by omega)
    have e16 : (o == 16) = false := ne_beq (by omega)
    have e17 : (o == 17) = false := ne_beq (by omega)
    have e18 : (o == 18) = false := ne_beq (by omega)
    have e19 : (o == 19) = false := ne_beq (by omega)
    have e20 : (o == 20) = false := ne_beq (by omega)
    have e21 : (o == 21) = false := ne_beq (by omega)
    have e22 : (o == 22) = false := ne_beq (by omega)
    have e23 : (o == 23) = false := ne_beq (by omega)
    have e24 : (o == 24) = false := ne_beq (by omega)
    have e25 : (o == 25) = false := ne_beq (by omega)
    have e26 : (o == 26) = false := ne_beq (by omega)
    have e27 : (o == 27) = false := ne_beq (by omega)
    have e28 : (o == 28) = false := ne_beq (by omega)
    have e29 : (o == 29) = false := ne_beq (by omega)
    have e32 : (o == 32) = false := ne_beq (by omega)
    have e33 : (o == 33) = false := ne_beq (by omega)
    clear h hg
    go_enter Tryd.func57, Tryd.ntmps57
    go_wp2
    go_ret
    exact ⟨rfl, rfl⟩
theorem grpN_cases (o : Int) : grpN o = 0 ∨ grpN o = 1 ∨ grpN o = 2 ∨ grpN o = 3 ∨ grpN o = 4 ∨ grpN o = 5 ∨ grpN o = 6 ∨ grpN o = 7 ∨ grpN o = 8 ∨ grpN o = 9 ∨ grpN o = 10 := by
  unfold grpN; repeat (first | (split; · simp) | simp)
end Go.Proofs.YtopkjniegncokaaDoor
