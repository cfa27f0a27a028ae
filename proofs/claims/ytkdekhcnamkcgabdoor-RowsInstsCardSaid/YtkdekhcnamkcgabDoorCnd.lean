/- Contracts of package cond's calls, and of the document's (spinetref12). -/
import Derived.Test.YtkdekhcnamkcgabDoorCod
import Derived.Test.YtkdekhcnamkcgabDoorStrTab
import Derived.Outline
namespace Go.Proofs.YtkdekhcnamkcgabDoor
open Go.ChangeShapes Go.WideShapes Go.ChangeAt Go.RowKit
set_option linter.unusedVariables false

def condNames : List (List UInt8) := [[82, 65], [82, 78], [72, 73], [76, 83], [67, 67], [67, 83], [78, 69], [69, 81], [86, 67], [86, 83], [80, 76], [77, 73], [71, 69], [76, 84], [71, 84], [76, 69]]
def evenB (j : Nat) (cc : Int) : Bool := match j with
  | 1 => !hasRef cc 1 && !hasRef cc 4
  | 2 => !hasRef cc 1
  | 3 => !hasRef cc 4
  | 4 => !hasRef cc 2
  | 5 => !hasRef cc 8
  | 6 => hasRef cc 8 == hasRef cc 2
  | 7 => !hasRef cc 4 && (hasRef cc 8 == hasRef cc 2)
  | _ => true
def holdsB (k : Nat) (cc : Int) : Bool := evenB (k / 2) cc == (k % 2 == 0)
def notK (k : Nat) : Nat := if k % 2 = 0 then k + 1 else k - 1
theorem notK_fin : ∀ k : Fin 16, bits .xor .i64 (k.val : Int) 1 = (notK k.val : Int) ∧ notK k.val < 16 ∧ notK (notK k.val) = k.val ∧ notK k.val / 2 = k.val / 2 ∧ (notK k.val % 2 == 0) = !(k.val % 2 == 0) := by decide +kernel
theorem holds_not (k : Nat) (cc : Int) (hk : k < 16) : (holdsB (notK k) cc != holdsB k cc) = true := by
  obtain ⟨_, _, _, h4, h5⟩ := notK_fin ⟨k, hk⟩
  unfold holdsB
  simp only at h4 h5
  rw [h4, h5]
  cases evenB (k / 2) cc <;> cases (k % 2 == 0) <;> rfl
theorem known_in (n : Int) (w : World) (h0 : 0 ≤ n) (h1 : n < 16) : Calls Tryd.prog 60 #[.int .i64 n] w fun e w' => e = .returned (.bool true) ∧ w = w' := by
  go_enter Tryd.func60, Tryd.ntmps60
  go_wp2
  go_ret
  exact ⟨rfl, rfl⟩
theorem known_out (n : Int) (w : World) (h : n < 0 ∨ 15 < n) : Calls Tryd.prog 60 #[.int .i64 n] w fun e w' => e = .returned (.bool false) ∧ w = w' := by
  rcases h with h | h
  · go_enter Tryd.func60, Tryd.ntmps60
    go_wp2
    go_ret
    exact ⟨rfl, rfl⟩
  · have h2 : ¬ n < 16 := by omega
    have h3 : 0 ≤ n := by omega
    go_enter Tryd.func60, Tryd.ntmps60
    go_wp2
    go_ret
    exact ⟨rfl, rfl⟩
set_option maxRecDepth 100000 in
set_option maxHeartbeats 4000000 in
theorem even_any (x : Int) (j : Nat) (cc : Int) (w : World) (hj : j < 8) (hx : x = 2 * (j : Int)) (hcc : CC cc) :
    Calls Tryd.prog 61 #[.int .i64 x, .int .u8 cc] w fun e w' => e = .returned (.bool (evenB j cc)) ∧ Below w.heap.size w w' := by
  subst hx
  rcases (show j = 0 ∨ j = 1 ∨ j = 2 ∨ j = 3 ∨ j = 4 ∨ j = 5 ∨ j = 6 ∨ j = 7 by omega) with rfl | rfl | rfl | rfl | rfl | rfl | rfl | rfl
  all_goals
    go_enter Tryd.func61, Tryd.ntmps61
    go_wp2_with (go_at_call 71; refine (has_bit _ _ _ _ _ _ _ hcc (by first | exact bit1 | exact bit2 | exact bit4 | exact bit8) (Ints.new1 (by simp) (by decide)) (by omega)).mono ?_; rintro e w' ⟨rfl, rfl⟩)
    all_goals
      go_ret
      refine ⟨ret_bool ?_, by repeat (first | exact Below.refl _ _ | apply Below.alloc0)⟩
      first
        | rfl
        | simp_all [evenB]
theorem holds_in (k : Nat) (cc : Int) (w : World) (hk : k < 16) (hcc : CC cc) :
    Calls Tryd.prog 45 #[.int .i64 (k : Int), .int .u8 cc] w fun e w' => e = .returned (.bool (holdsB k cc)) ∧ Below w.heap.size w w' := by
  have hB : Hid ((evenB (k / 2) cc == ((k : Int) % 2 == 0)) = holdsB k cc) := Lib.hid (by
    unfold holdsB
    congr 1
    rw [Bool.eq_iff_iff]; simp; omega)
  go_enter Tryd.func45, Tryd.ntmps45
  go_wp2_with (first
    | (go_at_call 60; refine (known_in _ _ (by omega) (by omega)).mono ?_; rintro e w' ⟨rfl, rfl⟩)
    | (go_at_call 61; refine (even_any _ (k / 2) _ _ (by omega) (by omega) hcc).mono ?_; rintro e w1 ⟨rfl, hb1⟩))
  go_ret
  exact ⟨ret_bool hB.out, hb1⟩
theorem holds_at (x : Int) (cc : Int) (w : World) (h0 : 0 ≤ x) (h1 : x < 16) (hcc : CC cc) :
    Calls Tryd.prog 45 #[.int .i64 x, .int .u8 cc] w fun e w' => e = .returned (.bool (holdsB x.toNat cc)) ∧ Below w.heap.size w w' := by
  obtain ⟨k, rfl⟩ := Int.eq_ofNat_of_zero_le h0
  exact holds_in k cc w (by omega) hcc
theorem holds_out (n cc : Int) (w : World) (h : n < 0 ∨ 15 < n) :
    Calls Tryd.prog 45 #[.int .i64 n, .int .u8 cc] w fun e w' => e = .returned (.bool false) ∧ w = w' := by
  go_enter Tryd.func45, Tryd.ntmps45
  go_wp2_with (go_at_call 60; refine (known_out _ _ h).mono ?_; rintro e w' ⟨rfl, rfl⟩)
  go_ret
  exact ⟨rfl, rfl⟩
end Go.Proofs.YtkdekhcnamkcgabDoor
