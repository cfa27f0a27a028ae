/- Contracts: the register of a bit's place, a bit (package lists); the document's own. -/
import Derived.Test.YtopkjniegncokaaDoorLstN
import Derived.Test.YtopkjniegncokaaDoorLaidS
import Derived.Outline
namespace Go.Proofs.YtopkjniegncokaaDoor
open Go.ChangeShapes Go.WideShapes Go.ChangeAt Go.RowKit
set_option linter.unusedVariables false

/-- The table of registers by bits reads as listed. -/
def LregAt (w : World) : Prop := ∀ k, k < 8 → w.cell? ⟨3, k, none⟩ = some (.int .i64 (regL k : Int))
theorem LregAt.below {w w' : World} (h : LregAt w) (hb : Below w.heap.size w w') : LregAt w' := fun k hk =>
  (hb.cell (p := ⟨3, k, none⟩) (cell_lt (h k hk))).trans (h k hk)
theorem regL_is3 (k : Nat) (hk : k < 8) : ((regL k : Int) == 3) = decide (k = 6) := by
  rcases (show k = 0 ∨ k = 1 ∨ k = 2 ∨ k = 3 ∨ k = 4 ∨ k = 5 ∨ k = 6 ∨ k = 7 by omega) with rfl | rfl | rfl | rfl | rfl | rfl | rfl | rfl <;> rfl
set_option maxRecDepth 100000 in
theorem register_any (k : Nat) (hk : k < 8) (s : Int) (w : World) (hT : LregAt w) :
    Calls Tryd.prog 60 #[.int .i64 (k : Int), .int .i64 s] w fun e w' => e = .returned (.int .i64 (regN k (s == 3) : Int)) ∧ w = w' := by
  have hc := hT k hk
  have h3 := regL_is3 k hk
  have k0 : (0 : Int) ≤ (k : Int) := by omega
  have k1 : (k : Int) < 8 := by omega
  have HK := Lib.hid hk
  obtain ⟨r, hr⟩ : ∃ r : Int, (regL k : Int) = r := ⟨_, rfl⟩
  have HR := Lib.hid hr
  rw [hr] at hc h3
  clear hT hk hr
  by_cases h6 : k = 6
  · have g3 : (r == 3) = true := by rw [h3]; simpa using h6
    have H6 := Lib.hid h6
    clear h3 h6
    cases hs : (s == 3)
    all_goals
      go_enter Tryd.func60, Tryd.ntmps60
      go_wp2
      go_ret
      refine ⟨ret_int ?_, rfl⟩
      simp only [regN, H6.out, ← HR.out]; try rfl
  · have g3 : (r == 3) = false := by rw [h3]; simpa using h6
    have H6 := Lib.hid h6
    clear h3 h6
    go_enter Tryd.func60, Tryd.ntmps60
    go_wp2
    go_ret
    refine ⟨ret_int ?_, rfl⟩
    unfold regN
    rw [if_neg (fun h => H6.out h.1), HR.out]
theorem bit_any (k : Nat) (hk : k < 8) (w : World) :
    Calls Tryd.prog 59 #[.int .i64 (k : Int)] w fun e w' => e = .returned (.int .u8 ((2 ^ k : Nat) : Int)) ∧ w = w' := by
  rcases (show k = 0 ∨ k = 1 ∨ k = 2 ∨ k = 3 ∨ k = 4 ∨ k = 5 ∨ k = 6 ∨ k = 7 by omega) with rfl | rfl | rfl | rfl | rfl | rfl | rfl | rfl
  all_goals
    go_enter Tryd.func59, Tryd.ntmps59
    go_wp2
    go_ret
    exact ⟨rfl, rfl⟩
set_option maxRecDepth 100000 in
set_option maxHeartbeats 2000000 in
theorem code17_any (k : Nat) (hk : k < 8) (u : Bool) (w : World) :
    Calls Tryd.prog 43 #[.int .i64 (k : Int), .bool u] w fun e w' => e = .returned (.int .i64 (regN k u : Int)) ∧ Below w.heap.size w w' := by
  rcases (show k = 0 ∨ k = 1 ∨ k = 2 ∨ k = 3 ∨ k = 4 ∨ k = 5 ∨ k = 6 ∨ k = 7 by omega) with rfl | rfl | rfl | rfl | rfl | rfl | rfl | rfl
  all_goals
    cases u
    all_goals
      go_enter Tryd.func43, Tryd.ntmps43
      go_wp2
      go_ret
      exact ⟨rfl, Below.alloc0 (Below.refl _ _) _⟩
end Go.Proofs.YtopkjniegncokaaDoor
