/- Contracts of the calls of package octet that only reckon: what each answers, in numbers. -/
import Derived.Test.YtopkjniegncokaaDoorMem
import Derived.WalkKit
import Derived.ProofKit
import Derived.OpenShut
import Derived.ShutString
import Derived.Laws.BitsAllLaws
import Derived.Laws.BitsLemmas
namespace Go.Proofs.YtopkjniegncokaaDoor
open Go.ChangeShapes Go.WideShapes Go.ChangeAt Go.RowKit
set_option linter.unusedVariables false


theorem u16_join (a b : Int) (ha : 0 ≤ a) (ha' : a < 256) (hb : 0 ≤ b) (hb' : b < 256) : bits .or .u16 (a * 256) b = 256 * a + b := by
  have h := bits_join .u16 16 (by decide) (fun n h0 h1 => by rw [IntKind.wrap_u16]; omega) 8 (a * 256) b (by omega) (by omega) (by omega) hb (by omega) (by omega)
  rw [h]; omega
/-- A byte as a word, its sign kept. -/
def signOf (a : Int) : Int := if a < 128 then a else a + 65280
def sign5Of (a : Int) : Int := if a % 32 < 16 then a % 32 else a % 32 + 65504
theorem i8_of (a : Int) (h0 : 0 ≤ a) (h1 : a < 256) : IntKind.i8.wrap a = if a < 128 then a else a - 256 := by
  simp [IntKind.wrap, IntKind.bits, IntKind.signed]
  split <;> split <;> omega
theorem word_any (a b : Int) (w : World) (ha : 0 ≤ a) (ha' : a < 256) (hb : 0 ≤ b) (hb' : b < 256) :
    Calls Tryd.prog 69 #[.int .u8 a, .int .u8 b] w fun e w' => e = .returned (.int .u16 (256 * a + b)) ∧ w = w' := by
  go_enter Tryd.func69, Tryd.ntmps69
  go_wp2
  go_ret
  exact ⟨ret_int (u16_join a b ha ha' hb hb'), rfl⟩
theorem high_any (a : Int) (w : World) (ha : 0 ≤ a) (ha' : a < 65536) :
    Calls Tryd.prog 49 #[.int .u16 a] w fun e w' => e = .returned (.int .u8 (a / 256)) ∧ w = w' := by
  go_enter Tryd.func49, Tryd.ntmps49
  go_wp2
  go_ret
  exact ⟨rfl, rfl⟩
theorem low_any (a : Int) (w : World) (ha : 0 ≤ a) (ha' : a < 65536) :
    Calls Tryd.prog 38 #[.int .u16 a] w fun e w' => e = .returned (.int .u8 (a % 256)) ∧ w = w' := by
  go_enter Tryd.func38, Tryd.ntmps38
  go_wp2
  go_ret
  exact ⟨rfl, rfl⟩
theorem sign_any (a : Int) (w : World) (ha : 0 ≤ a) (ha' : a < 256) :
    Calls Tryd.prog 77 #[.int .u8 a] w fun e w' => e = .returned (.int .u16 (signOf a)) ∧ w = w' := by
  go_enter Tryd.func77, Tryd.ntmps77
  go_wp2
  go_ret
  refine ⟨ret_int ?_, rfl⟩
  rw [i8_of a ha ha', IntKind.wrap_u16]
  unfold signOf
  split <;> omega
theorem sign5_any (a : Int) (w : World) (ha : 0 ≤ a) (ha' : a < 256) :
    Calls Tryd.prog 34 #[.int .u8 a] w fun e w' => e = .returned (.int .u16 (sign5Of a)) ∧ w = w' := by
  go_enter Tryd.func34, Tryd.ntmps34
  go_wp2
  go_ret
  refine ⟨ret_int ?_, rfl⟩
  rw [i8_of _ (by omega) (by omega), IntKind.wrap_u16]
  unfold sign5Of
  split <;> split <;> omega
end Go.Proofs.YtopkjniegncokaaDoor
