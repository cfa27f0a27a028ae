/-
  No cell of these rows narrows 'for every input' (looked for: loops, veiled, ifaces, maps, wideKeys, modest, calm, conditions, laid).
  DERIVED. THE GIVEN ROWS OF THIS SEAT. 3 by the template 'for every input the law returns true; each argument reads behind the call as it read before'; 0 by the template 'total and deterministic' (their statements: YtfkcogccbeolfaaTotals.lean).
  GIVEN WITH THE SEED: the statements are not yours to turn. If you find one false, say at which input.
  Laid BY PROGRAM, IN A SANDBOX (cutbox-rows.mjs): the forced cells as the released guide's own fill.sh prints them over the translation 7c95b36d84e7633b… (all of the seat's roots in one cut). By AI agents, Wed Nov 11 2026. No macro, syntax, notation, axiom, sorry.
-/
import Derived.Test.YtfkcogccbeolfaaChecked
import GoSem.Claim
import GoSem.ClaimJoined
import GoSem.ClaimMapViews
import Derived.JoinedTies
import Derived.KernelRfl
namespace Go.Proofs.Ytfkcogccbeolfaa
/- THE CELL 'sum', in the pinned program and in every row, IS THE sha256 OF THE DUMP (.gsa) THAT YtfkcogccbeolfaaProg.lean LOADS. Nothing in Lean hashes anything: it is a label: what it is worth is what the hold of that sum in a sandbox is worth. -/
noncomputable def Try.pinned : Pinned := { name := "ytfkcogccbeolfaa", sum := "7c95b36d84e7633b51b555a36ba7c93eb7153fa185b5cdf1ff0cc92c3a8499c7", checked := Try.checked }
namespace Rows
def none {H : Type} : Left H := { results := [], args := [] }

/-- 'spinetlaw16.FileSets': WHATEVER THE INPUT: true; the input reads as it did. -/
def fileSetsSpec : ChangeSpec := { name := "fileSets", fn := fun _ => fun
  | [d1, d2, d3] => { results := [.lit (.bool true)], args := [d1, d2, d3] }
  | _ => none }
def fileSetsRow : OpenClaim := { program := "ytfkcogccbeolfaa", sum := "7c95b36d84e7633b51b555a36ba7c93eb7153fa185b5cdf1ff0cc92c3a8499c7", func := "spinet/spinetlaw16.FileSets", spec := "fileSets", apart := false }
def FileSetsSaid : Prop := fileSetsRow.holds Try.pinned (OpenSpec.ofChange fileSetsSpec)

/-- ITS FALSE NEIGHBOUR: 'it returns false'. Refute it at one input. -/
def fileSetsWrong : ChangeSpec := { name := "fileSets", fn := fun _ => fun
  | [d1, d2, d3] => { results := [.lit (.bool false)], args := [d1, d2, d3] }
  | _ => none }
def FileSetsWrongFalsely : Prop := fileSetsRow.holds Try.pinned (OpenSpec.ofChange fileSetsWrong)

/-- 'spinetlaw16.FileMoves': WHATEVER THE INPUT: true; the input reads as it did. -/
def fileMovesSpec : ChangeSpec := { name := "fileMoves", fn := fun _ => fun
  | [d1, d2] => { results := [.lit (.bool true)], args := [d1, d2] }
  | _ => none }
def fileMovesRow : OpenClaim := { program := "ytfkcogccbeolfaa", sum := "7c95b36d84e7633b51b555a36ba7c93eb7153fa185b5cdf1ff0cc92c3a8499c7", func := "spinet/spinetlaw16.FileMoves", spec := "fileMoves", apart := false }
def FileMovesSaid : Prop := fileMovesRow.holds Try.pinned (OpenSpec.ofChange fileMovesSpec)

/-- ITS FALSE NEIGHBOUR: 'it returns false'. Refute it at one input. -/
def fileMovesWrong : ChangeSpec := { name := "fileMoves", fn := fun _ => fun
  | [d1, d2] => { results := [.lit (.bool false)], args := [d1, d2] }
  | _ => none }
def FileMovesWrongFalsely : Prop := fileMovesRow.holds Try.pinned (OpenSpec.ofChange fileMovesWrong)

/-- 'spinetlaw16.FileTwice': WHATEVER THE INPUT: true; the input reads as it did. -/
def fileTwiceSpec : ChangeSpec := { name := "fileTwice", fn := fun _ => fun
  | [d1, d2, d3] => { results := [.lit (.bool true)], args := [d1, d2, d3] }
  | _ => none }
def fileTwiceRow : OpenClaim := { program := "ytfkcogccbeolfaa", sum := "7c95b36d84e7633b51b555a36ba7c93eb7153fa185b5cdf1ff0cc92c3a8499c7", func := "spinet/spinetlaw16.FileTwice", spec := "fileTwice", apart := false }
def FileTwiceSaid : Prop := fileTwiceRow.holds Try.pinned (OpenSpec.ofChange fileTwiceSpec)

/-- ITS FALSE NEIGHBOUR: 'it returns false'. Refute it at one input. -/
def fileTwiceWrong : ChangeSpec := { name := "fileTwice", fn := fun _ => fun
  | [d1, d2, d3] => { results := [.lit (.bool false)], args := [d1, d2, d3] }
  | _ => none }
def FileTwiceWrongFalsely : Prop := fileTwiceRow.holds Try.pinned (OpenSpec.ofChange fileTwiceWrong)

/- THE SECOND FORM. 'bulk': how many values and letters a reading holds, each counted each time it is reached (what is shared counts as often as it is met; a slice's spare places count too). A statement '..UptoSaid' is the law's where the arguments, and the package variables that the reading takes, are together of bulk at most 1048576: NARROWER than '..Said'. Prove '..Said' where nothing that the law and all that it calls make is longer than what came in: it says more and counts as full. Else prove '..UptoSaid'. A law counts once. -/
mutual
def uptoBulk {H : Type} : DataW H → Nat
  | .lit (.string bytes) => bytes.length + 1
  | .lit _ => 1
  | .nil => 1
  | .ptr d => uptoBulk d + 1
  | .slice elems spare => uptoBulkAll elems + uptoBulkAll spare + 1
  | .agg parts => uptoBulkAll parts + 1
  | .iface _ d => uptoBulk d + 1
  | .map entries => uptoBulkEntries entries + 1
  | .held _ => 1
def uptoBulkAll {H : Type} : List (DataW H) → Nat
  | [] => 0
  | d :: r => uptoBulk d + uptoBulkAll r
def uptoBulkEntries {H : Type} : List (Lit × DataW H) → Nat
  | [] => 0
  | x :: r => uptoBulkEntry x + uptoBulkEntries r
def uptoBulkEntry {H : Type} : Lit × DataW H → Nat
  | (.string bytes, d) => bytes.length + uptoBulk d + 1
  | (_, d) => uptoBulk d + 1
 end
def uptoSmall : (H : Type) → List (DataW H) → Bool := fun _ ds => decide (uptoBulkAll ds ≤ 1048576)
def OpenSpec.upto (s : _root_.Go.ChangeSpec) : _root_.Go.OpenSpec := { _root_.Go.OpenSpec.ofChange s with cond := some uptoSmall }

/-- 'spinetlaw16.FileSets', WHERE WHAT IT READS IS OF BULK AT MOST 1048576: true; the input reads as it did. -/
def fileSetsUptoRow : OpenClaim := { program := "ytfkcogccbeolfaa", sum := "7c95b36d84e7633b51b555a36ba7c93eb7153fa185b5cdf1ff0cc92c3a8499c7", func := "spinet/spinetlaw16.FileSets", spec := "fileSets", apart := false, narrowed := true }
def FileSetsUptoSaid : Prop := fileSetsUptoRow.holds Try.pinned (OpenSpec.upto fileSetsSpec)

/-- 'spinetlaw16.FileMoves', WHERE WHAT IT READS IS OF BULK AT MOST 1048576: true; the input reads as it did. -/
def fileMovesUptoRow : OpenClaim := { program := "ytfkcogccbeolfaa", sum := "7c95b36d84e7633b51b555a36ba7c93eb7153fa185b5cdf1ff0cc92c3a8499c7", func := "spinet/spinetlaw16.FileMoves", spec := "fileMoves", apart := false, narrowed := true }
def FileMovesUptoSaid : Prop := fileMovesUptoRow.holds Try.pinned (OpenSpec.upto fileMovesSpec)

/-- 'spinetlaw16.FileTwice', WHERE WHAT IT READS IS OF BULK AT MOST 1048576: true; the input reads as it did. -/
def fileTwiceUptoRow : OpenClaim := { program := "ytfkcogccbeolfaa", sum := "7c95b36d84e7633b51b555a36ba7c93eb7153fa185b5cdf1ff0cc92c3a8499c7", func := "spinet/spinetlaw16.FileTwice", spec := "fileTwice", apart := false, narrowed := true }
def FileTwiceUptoSaid : Prop := fileTwiceUptoRow.holds Try.pinned (OpenSpec.upto fileTwiceSpec)

end Rows
end Go.Proofs.Ytfkcogccbeolfaa
