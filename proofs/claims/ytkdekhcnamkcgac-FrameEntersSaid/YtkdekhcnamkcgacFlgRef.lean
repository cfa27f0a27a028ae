/- The document's own answers for the condition codes (spinetref03), and that package flags' bits are theirs. -/
import Derived.Test.YtkdekhcnamkcgacFlg
namespace Go.Proofs.Ytkdekhcnamkcgac
open Go.ChangeShapes Go.WideShapes Go.ChangeAt Go.RowKit
set_option linter.unusedVariables false

def hasRef (cc bit : Int) : Bool := cc / bit % 2 == 1
def putRef (cc bit : Int) (on : Bool) : Int := if on && !hasRef cc bit then (cc + bit) % 256 else if !on && hasRef cc bit then (cc - bit) % 256 else cc
theorem putRef_range (cc bit : Int) (on : Bool) (h0 : 0 ≤ cc) (h1 : cc < 256) : 0 ≤ putRef cc bit on ∧ putRef cc bit on < 256 := by
  unfold putRef; split
  · omega
  · split <;> omega
def nzRef (cc r half : Int) : Int := putRef (putRef cc 8 (decide (half ≤ r))) 4 (r == 0)
theorem putRef_any (cc bit : Int) (on : Bool) (w : World) (h0 : 0 ≤ cc) (h1 : cc < 256) (h2 : 0 < bit) (h3 : bit < 256) :
    Calls Try.prog 77 #[.int .u8 cc, .int .u8 bit, .bool on] w fun e w' => e = .returned (.int .u8 (putRef cc bit on)) ∧ w = w' := by
  have e0 : (bit == 0) = false := by rw [beq_eq_false_iff_ne]; omega
  have q0 : 0 ≤ cc / bit := Int.ediv_nonneg h0 (by omega)
  have q1 : cc / bit ≤ cc := Int.ediv_le_self _ h0
  have q2 : cc.tdiv bit = cc / bit := Int.tdiv_eq_ediv_of_nonneg h0
  have hp : putRef cc bit on = if on && !hasRef cc bit then (cc + bit) % 256 else if !on && hasRef cc bit then (cc - bit) % 256 else cc := rfl
  unfold hasRef at hp
  cases on
  all_goals cases hb : (cc / bit % 2 == 1)
  all_goals
    rw [hb] at hp
    have HP := Lib.hid hp
    clear hp
    go_enter Try.func77, Try.ntmps77
    go_wp2
    go_ret
    refine ⟨?_, rfl⟩
    rw [HP.out]
    first | rfl | exact ret_int (by simp [IntKind.wrap_u8])
theorem nzRef_any (cc r v : Int) (w : World) (h0 : 0 ≤ cc) (h1 : cc < 256) (hr : 0 ≤ r) (hv : v = 256 ∨ v = 65536) :
    Calls Try.prog 76 #[.int .u8 cc, .int .i64 r, .int .i64 v] w fun e w' => e = .returned (.int .u8 (nzRef cc r (v / 2))) ∧ w = w' := by
  have hr1 := putRef_range cc 8 (decide (v / 2 ≤ r)) h0 h1
  obtain ⟨a, b⟩ := hr1
  have v0 : 0 ≤ v := by omega
  have v1 : v ≤ 65536 := by omega
  clear hv
  go_enter Try.func76, Try.ntmps76
  go_wp2_with (go_at_call 77; refine (putRef_any _ _ _ _ (by assumption) (by assumption) (by omega) (by omega)).mono ?_; rintro e w' ⟨rfl, rfl⟩)
  go_ret
  exact ⟨rfl, rfl⟩
/-- One bit put on, or off, is what the mask of that bit does. -/
theorem putRef_with : ∀ (i : Fin 8) (cc : Fin 256) (on : Bool), putRef (cc.val : Int) ((2 ^ i.val : Nat) : Int) on = withOf (cc.val : Int) on ((2 ^ i.val : Nat) : Int) := by decide +kernel
theorem putRef_with' (i : Nat) (hi : i < 8) (cc : Int) (on : Bool) (h0 : 0 ≤ cc) (h1 : cc < 256) : putRef cc ((2 ^ i : Nat) : Int) on = withOf cc on ((2 ^ i : Nat) : Int) := by
  obtain ⟨n, rfl⟩ := Int.eq_ofNat_of_zero_le h0
  exact putRef_with ⟨i, hi⟩ ⟨n, by omega⟩ on
theorem nz_same (cc r half : Int) (h0 : 0 ≤ cc) (h1 : cc < 256) : nzOf cc r half = nzRef cc r half := by
  unfold nzOf nzRef
  rw [or1 8 (by decide) (by decide), or1 4 (by decide) (by decide)]
  have a := putRef_with' 3 (by decide) cc (decide (half ≤ r)) h0 h1
  have hr := putRef_range cc 8 (decide (half ≤ r)) h0 h1
  have b := putRef_with' 2 (by decide) (putRef cc 8 (decide (half ≤ r))) (r == 0) hr.1 hr.2
  simp at a b
  rw [b, a]
end Go.Proofs.Ytkdekhcnamkcgac
