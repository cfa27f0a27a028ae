/- Contracts of the calls of package octet that only reckon: what each answers, in numbers. -/
import Derived.Test.YtpleboogijgdcaaMem
import Derived.WalkKit
import Derived.ProofKit
import Derived.OpenShut
import Derived.ShutString
import Derived.Laws.BitsAllLaws
import Derived.Laws.BitsLemmas
namespace Go.Proofs.Ytpleboogijgdcaa
open Go.ChangeShapes Go.WideShapes Go.ChangeAt Go.RowKit
set_option linter.unusedVariables false


theorem u16_join (a b : Int) (ha : 0 ≤ a) (ha' : a < 256) (hb : 0 ≤ b) (hb' : b < 256) : bits .or .u16 (a * 256) b = 256 * a + b := by
  have h := bits_join .u16 16 (by decide) (fun n h0 h1 => by rw [IntKind.wrap_u16]; omega) 8 (a * 256) b (by omega) (by omega) (by omega) hb (by omega) (by omega)
  rw [h]; omega
/-- A byte as a word, its sign kept. -/
def signOf (a : Int) : Int := if a < 128 then a else a + 65280
def sign5Of (a : Int) : Int := if a % 32 < 16 then a % 32 else a % 32 + 65504
theorem i8_of (a : Int) (h0 : 0 ≤ a) (h1 : a < 256) : IntKind.i8.wrap a = if a < 128 then a else a - 256 := by
  simp [IntKind.wrap, IntKind.bits, IntKind.signed]
  split <;> split <;> omega
end Go.Proofs.Ytpleboogijgdcaa
