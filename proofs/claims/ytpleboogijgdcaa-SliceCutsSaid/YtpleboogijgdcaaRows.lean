/-
  No cell of these rows narrows 'for every input' (looked for: loops, veiled, ifaces, maps, wideKeys, modest, calm, conditions, laid).
  DERIVED. THE GIVEN ROWS OF THIS SEAT. 4 by the template 'for every input the law returns true; each argument reads behind the call as it read before'; 0 by the template 'total and deterministic' (their statements: YtpleboogijgdcaaTotals.lean).
  GIVEN WITH THE SEED: the statements are not yours to turn. If you find one false, say at which input.
  Laid BY PROGRAM, IN A SANDBOX (cutbox-rows.mjs): the forced cells as the released guide's own fill.sh prints them over the translation ce55e7f763273c08… (all of the seat's roots in one cut). By AI agents, Wed Nov 11 2026. No macro, syntax, notation, axiom, sorry.
-/
import Derived.Test.YtpleboogijgdcaaChecked
import GoSem.Claim
import GoSem.ClaimJoined
import GoSem.ClaimMapViews
import Derived.JoinedTies
import Derived.KernelRfl
namespace Go.Proofs.Ytpleboogijgdcaa
/- THE CELL 'sum', in the pinned program and in every row, IS THE sha256 OF THE DUMP (.gsa) THAT YtpleboogijgdcaaProg.lean LOADS. Nothing in Lean hashes anything: it is a label: what it is worth is what the hold of that sum in a sandbox is worth. -/
noncomputable def Try.pinned : Pinned := { name := "ytpleboogijgdcaa", sum := "ce55e7f763273c089e8fc4ca691b1dac857afa329786122081a543ec5460a637", checked := Try.checked }
namespace Rows
def none {H : Type} : Left H := { results := [], args := [] }

/-- 'spinetlaw51.DifferSame': WHATEVER THE INPUT: true; the input reads as it did. -/
def differSameSpec : ChangeSpec := { name := "differSame", fn := fun _ => fun
  | [d1, d2] => { results := [.lit (.bool true)], args := [d1, d2] }
  | _ => none }
def differSameRow : OpenClaim := { program := "ytpleboogijgdcaa", sum := "ce55e7f763273c089e8fc4ca691b1dac857afa329786122081a543ec5460a637", func := "spinet/spinetlaw51.DifferSame", spec := "differSame", inPlace := ["internal/abi.NoEscape", "internal/bytealg.MakeNoZero"], unfollowed := true, recurses := true, apart := false }
def DifferSameSaid : Prop := differSameRow.holds Try.pinned (OpenSpec.ofChange differSameSpec)

/-- ITS FALSE NEIGHBOUR: 'it returns false'. Refute it at one input. -/
def differSameWrong : ChangeSpec := { name := "differSame", fn := fun _ => fun
  | [d1, d2] => { results := [.lit (.bool false)], args := [d1, d2] }
  | _ => none }
def DifferSameWrongFalsely : Prop := differSameRow.holds Try.pinned (OpenSpec.ofChange differSameWrong)

/-- 'spinetlaw51.DifferHolds': WHATEVER THE INPUT: true; the input reads as it did. -/
def differHoldsSpec : ChangeSpec := { name := "differHolds", fn := fun _ => fun
  | [d1, d2, d3] => { results := [.lit (.bool true)], args := [d1, d2, d3] }
  | _ => none }
def differHoldsRow : OpenClaim := { program := "ytpleboogijgdcaa", sum := "ce55e7f763273c089e8fc4ca691b1dac857afa329786122081a543ec5460a637", func := "spinet/spinetlaw51.DifferHolds", spec := "differHolds", inPlace := ["internal/abi.NoEscape", "internal/bytealg.MakeNoZero"], unfollowed := true, recurses := true, apart := false }
def DifferHoldsSaid : Prop := differHoldsRow.holds Try.pinned (OpenSpec.ofChange differHoldsSpec)

/-- ITS FALSE NEIGHBOUR: 'it returns false'. Refute it at one input. -/
def differHoldsWrong : ChangeSpec := { name := "differHolds", fn := fun _ => fun
  | [d1, d2, d3] => { results := [.lit (.bool false)], args := [d1, d2, d3] }
  | _ => none }
def DifferHoldsWrongFalsely : Prop := differHoldsRow.holds Try.pinned (OpenSpec.ofChange differHoldsWrong)

/-- 'spinetlaw48.SliceCuts': WHATEVER THE INPUT: true; the input reads as it did. -/
def sliceCutsSpec : ChangeSpec := { name := "sliceCuts", fn := fun _ => fun
  | [d] => { results := [.lit (.bool true)], args := [d] }
  | _ => none }
def sliceCutsRow : OpenClaim := { program := "ytpleboogijgdcaa", sum := "ce55e7f763273c089e8fc4ca691b1dac857afa329786122081a543ec5460a637", func := "spinet/spinetlaw48.SliceCuts", spec := "sliceCuts", inPlace := ["internal/abi.NoEscape"], apart := false }
def SliceCutsSaid : Prop := sliceCutsRow.holds Try.pinned (OpenSpec.ofChange sliceCutsSpec)

/-- ITS FALSE NEIGHBOUR: 'it returns false'. Refute it at one input. -/
def sliceCutsWrong : ChangeSpec := { name := "sliceCuts", fn := fun _ => fun
  | [d] => { results := [.lit (.bool false)], args := [d] }
  | _ => none }
def SliceCutsWrongFalsely : Prop := sliceCutsRow.holds Try.pinned (OpenSpec.ofChange sliceCutsWrong)

/-- 'spinetlaw53.ProfCounts': WHATEVER THE INPUT: true; the input reads as it did. -/
def profCountsSpec : ChangeSpec := { name := "profCounts", fn := fun _ => fun
  | [d1, d2, d3] => { results := [.lit (.bool true)], args := [d1, d2, d3] }
  | _ => none }
def profCountsRow : OpenClaim := { program := "ytpleboogijgdcaa", sum := "ce55e7f763273c089e8fc4ca691b1dac857afa329786122081a543ec5460a637", func := "spinet/spinetlaw53.ProfCounts", spec := "profCounts", unfollowed := true, recurses := true, apart := false }
def ProfCountsSaid : Prop := profCountsRow.holds Try.pinned (OpenSpec.ofChange profCountsSpec)

/-- ITS FALSE NEIGHBOUR: 'it returns false'. Refute it at one input. -/
def profCountsWrong : ChangeSpec := { name := "profCounts", fn := fun _ => fun
  | [d1, d2, d3] => { results := [.lit (.bool false)], args := [d1, d2, d3] }
  | _ => none }
def ProfCountsWrongFalsely : Prop := profCountsRow.holds Try.pinned (OpenSpec.ofChange profCountsWrong)

/- THE SECOND FORM. 'bulk': how many values and letters a reading holds, each counted each time it is reached (what is shared counts as often as it is met; a slice's spare places count too). A statement '..UptoSaid' is the law's where the arguments, and the package variables that the reading takes, are together of bulk at most 1048576: NARROWER than '..Said'. Prove '..Said' where nothing that the law and all that it calls make is longer than what came in: it says more and counts as full. Else prove '..UptoSaid'. A law counts once. -/
mutual
def uptoBulk {H : Type} : DataW H → Nat
  | .lit (.string bytes) => bytes.length + 1
  | .lit _ => 1
  | .nil => 1
  | .ptr d => uptoBulk d + 1
  | .slice elems spare => uptoBulkAll elems + uptoBulkAll spare + 1
  | .agg parts => uptoBulkAll parts + 1
  | .iface _ d => uptoBulk d + 1
  | .map entries => uptoBulkEntries entries + 1
  | .held _ => 1
def uptoBulkAll {H : Type} : List (DataW H) → Nat
  | [] => 0
  | d :: r => uptoBulk d + uptoBulkAll r
def uptoBulkEntries {H : Type} : List (Lit × DataW H) → Nat
  | [] => 0
  | x :: r => uptoBulkEntry x + uptoBulkEntries r
def uptoBulkEntry {H : Type} : Lit × DataW H → Nat
  | (.string bytes, d) => bytes.length + uptoBulk d + 1
  | (_, d) => uptoBulk d + 1
 end
def uptoSmall : (H : Type) → List (DataW H) → Bool := fun _ ds => decide (uptoBulkAll ds ≤ 1048576)
def OpenSpec.upto (s : _root_.Go.ChangeSpec) : _root_.Go.OpenSpec := { _root_.Go.OpenSpec.ofChange s with cond := some uptoSmall }

/-- 'spinetlaw51.DifferSame', WHERE WHAT IT READS IS OF BULK AT MOST 1048576: true; the input reads as it did. -/
def differSameUptoRow : OpenClaim := { program := "ytpleboogijgdcaa", sum := "ce55e7f763273c089e8fc4ca691b1dac857afa329786122081a543ec5460a637", func := "spinet/spinetlaw51.DifferSame", spec := "differSame", inPlace := ["internal/abi.NoEscape", "internal/bytealg.MakeNoZero"], unfollowed := true, recurses := true, apart := false, narrowed := true }
def DifferSameUptoSaid : Prop := differSameUptoRow.holds Try.pinned (OpenSpec.upto differSameSpec)

/-- 'spinetlaw51.DifferHolds', WHERE WHAT IT READS IS OF BULK AT MOST 1048576: true; the input reads as it did. -/
def differHoldsUptoRow : OpenClaim := { program := "ytpleboogijgdcaa", sum := "ce55e7f763273c089e8fc4ca691b1dac857afa329786122081a543ec5460a637", func := "spinet/spinetlaw51.DifferHolds", spec := "differHolds", inPlace := ["internal/abi.NoEscape", "internal/bytealg.MakeNoZero"], unfollowed := true, recurses := true, apart := false, narrowed := true }
def DifferHoldsUptoSaid : Prop := differHoldsUptoRow.holds Try.pinned (OpenSpec.upto differHoldsSpec)

/-- 'spinetlaw48.SliceCuts', WHERE WHAT IT READS IS OF BULK AT MOST 1048576: true; the input reads as it did. -/
def sliceCutsUptoRow : OpenClaim := { program := "ytpleboogijgdcaa", sum := "ce55e7f763273c089e8fc4ca691b1dac857afa329786122081a543ec5460a637", func := "spinet/spinetlaw48.SliceCuts", spec := "sliceCuts", inPlace := ["internal/abi.NoEscape"], apart := false, narrowed := true }
def SliceCutsUptoSaid : Prop := sliceCutsUptoRow.holds Try.pinned (OpenSpec.upto sliceCutsSpec)

/-- 'spinetlaw53.ProfCounts', WHERE WHAT IT READS IS OF BULK AT MOST 1048576: true; the input reads as it did. -/
def profCountsUptoRow : OpenClaim := { program := "ytpleboogijgdcaa", sum := "ce55e7f763273c089e8fc4ca691b1dac857afa329786122081a543ec5460a637", func := "spinet/spinetlaw53.ProfCounts", spec := "profCounts", unfollowed := true, recurses := true, apart := false, narrowed := true }
def ProfCountsUptoSaid : Prop := profCountsUptoRow.holds Try.pinned (OpenSpec.upto profCountsSpec)

end Rows
end Go.Proofs.Ytpleboogijgdcaa
