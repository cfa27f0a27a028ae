/- Contracts of package table's calls that look at an operation alone, in numbers. -/
import Derived.Test.YtkdekhcnamkcgabDoorMem
namespace Go.Proofs.YtkdekhcnamkcgabDoor
open Go.ChangeShapes Go.WideShapes Go.ChangeAt Go.RowKit
set_option linter.unusedVariables false

def aloneN (o : Int) : Int := if o = 1 ∨ o = 40 then 3 else if o = 48 then 5 else if o = 49 then 6 else if o = 50 then 11 else if o = 51 then 19 else 2
def oneN (o : Int) : Int := if o = 43 ∨ o = 44 then 3 else if o = 41 then 16 else 2
def otherN (o : Int) : Int := if o = 34 then 3 else if o = 35 then 4 else if o = 36 then 5 else if o = 47 then 6 else if o = 37 then 7 else if o = 46 then 8 else if o = 38 then 9 else 0
def grpN (o : Int) : Int := if 2 ≤ o ∧ o ≤ 11 then 1 else if o = 12 then 2 else if o = 22 then 4 else if 13 ≤ o ∧ o ≤ 23 then 3 else if o = 24 then 5 else if o = 25 then 6 else if 26 ≤ o ∧ o ≤ 28 then 7 else if o = 29 then 8 else if o = 32 then 9 else if o = 33 then 10 else 0
def twoN (o : Int) : Int := if grpN o = 7 then 4 else 3
def memN (o : Int) : Int := if grpN o = 1 ∨ grpN o = 2 ∨ grpN o = 8 then 4 else if grpN o = 3 ∨ grpN o = 4 ∨ grpN o = 7 then 6 else if grpN o = 5 ∨ grpN o = 6 then 5 else if grpN o = 9 then 3 else if grpN o = 10 then 7 else 0
def rowN (k : Int) : Int := if k = 1 ∨ k = 3 then 19 else if k = 2 then 10 else if 4 ≤ k ∧ k ≤ 7 then 3 else 0
set_option maxRecDepth 100000 in
set_option maxHeartbeats 1000000 in
theorem alone_any (o : Int) (w : World) : Calls Tryd.prog 65 #[.int .i64 o] w fun e w' => e = .returned (.int .i64 (aloneN o)) ∧ w = w' := by
  unfold aloneN
  rcases (show o = 1 ∨ o = 40 ∨ o = 48 ∨ o = 49 ∨ o = 50 ∨ o = 51 ∨ (¬ o = 1 ∧ ¬ o = 40 ∧ ¬ o = 48 ∧ ¬ o = 49 ∧ ¬ o = 50 ∧ ¬ o = 51) by omega) with rfl | rfl | rfl | rfl | rfl | rfl | ⟨h1, h2, h3, h4, h5, h6⟩
  iterate 6
    · go_enter Tryd.func65, Tryd.ntmps65
      go_wp2
      go_ret
      exact ⟨rfl, rfl⟩
  · have e1 : (o == 1) = false := by simpa using h1
    have e2 : (o == 40) = false := by simpa using h2
    have e3 : (o == 48) = false := by simpa using h3
    have e4 : (o == 49) = false := by simpa using h4
    have e5 : (o == 50) = false := by simpa using h5
    have e6 : (o == 51) = false := by simpa using h6
    rw [if_neg (by omega), if_neg h3, if_neg h4, if_neg h5, if_neg h6]
    clear h1 h2 h3 h4 h5 h6
    go_enter Tryd.func65, Tryd.ntmps65
    go_wp2
    go_ret
    exact ⟨rfl, rfl⟩
set_option maxRecDepth 100000 in
set_option maxHeartbeats 1000000 in
theorem one_any (o : Int) (w : World) : Calls Tryd.prog 66 #[.int .i64 o] w fun e w' => e = .returned (.int .i64 (oneN o)) ∧ w = w' := by
  unfold oneN
  rcases (show o = 43 ∨ o = 44 ∨ o = 41 ∨ (¬ o = 43 ∧ ¬ o = 44 ∧ ¬ o = 41) by omega) with rfl | rfl | rfl | ⟨h1, h2, h3⟩
  iterate 3
    · go_enter Tryd.func66, Tryd.ntmps66
      go_wp2
      go_ret
      exact ⟨rfl, rfl⟩
  · have e1 : (o == 43) = false := by simpa using h1
    have e2 : (o == 44) = false := by simpa using h2
    have e3 : (o == 41) = false := by simpa using h3
    rw [if_neg (by omega), if_neg h3]
    clear h1 h2 h3
    go_enter Tryd.func66, Tryd.ntmps66
    go_wp2
    go_ret
    exact ⟨rfl, rfl⟩
set_option maxRecDepth 100000 in
set_option maxHeartbeats 1000000 in
theorem other_any (o : Int) (w : World) : Calls Tryd.prog 70 #[.int .i64 o] w fun e w' => e = .returned (.int .i64 (otherN o)) ∧ w = w' := by
  unfold otherN
  rcases (show o = 34 ∨ o = 35 ∨ o = 36 ∨ o = 47 ∨ o = 37 ∨ o = 46 ∨ o = 38 ∨ (¬ o = 34 ∧ ¬ o = 35 ∧ ¬ o = 36 ∧ ¬ o = 47 ∧ ¬ o = 37 ∧ ¬ o = 46 ∧ ¬ o = 38) by omega) with rfl | rfl | rfl | rfl | rfl | rfl | rfl | ⟨h1, h2, h3, h4, h5, h6, h7⟩
  iterate 7
    · go_enter Tryd.func70, Tryd.ntmps70
      go_wp2
      go_ret
      exact ⟨rfl, rfl⟩
  · have e1 : (o == 34) = false := by simpa using h1
    have e2 : (o == 35) = false := by simpa using h2
    have e3 : (o == 36) = false := by simpa using h3
    have e4 : (o == 47) = false := by simpa using h4
    have e5 : (o == 37) = false := by simpa using h5
    have e6 : (o == 46) = false := by simpa using h6
    have e7 : (o == 38) = false := by simpa using h7
    rw [if_neg h1, if_neg h2, if_neg h3, if_neg h4, if_neg h5, if_neg h6, if_neg h7]
    clear h1 h2 h3 h4 h5 h6 h7
    go_enter Tryd.func70, Tryd.ntmps70
    go_wp2
    go_ret
    exact ⟨rfl, rfl⟩
set_option maxRecDepth 100000 in
set_option maxHeartbeats 1000000 in
theorem row_any (k : Int) (w : World) : Calls Tryd.prog 18 #[.int .i64 k] w fun e w' => e = .returned (.int .i64 (rowN k)) ∧ w = w' := by
  unfold rowN
  rcases (show k = 1 ∨ k = 2 ∨ k = 3 ∨ k = 4 ∨ k = 5 ∨ k = 6 ∨ k = 7 ∨ (¬ k = 1 ∧ ¬ k = 2 ∧ ¬ k = 3 ∧ ¬ k = 4 ∧ ¬ k = 5 ∧ ¬ k = 6 ∧ ¬ k = 7) by omega) with rfl | rfl | rfl | rfl | rfl | rfl | rfl | ⟨h1, h2, h3, h4, h5, h6, h7⟩
  iterate 7
    · go_enter Tryd.func18, Tryd.ntmps18
      go_wp2
      go_ret
      exact ⟨rfl, rfl⟩
  · have e1 : (k == 1) = false := by simpa using h1
    have e2 : (k == 2) = false := by simpa using h2
    have e3 : (k == 3) = false := by simpa using h3
    have e4 : (k == 4) = false := by simpa using h4
    have e5 : (k == 5) = false := by simpa using h5
    have e6 : (k == 6) = false := by simpa using h6
    have e7 : (k == 7) = false := by simpa using h7
    rw [if_neg (by omega), if_neg h2, if_neg (by omega)]
    clear h1 h2 h3 h4 h5 h6 h7
    go_enter Tryd.func18, Tryd.ntmps18
    go_wp2
    go_ret
    exact ⟨rfl, rfl⟩
end Go.Proofs.YtkdekhcnamkcgabDoor
