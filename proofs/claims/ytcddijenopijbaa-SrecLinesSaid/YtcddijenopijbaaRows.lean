/-
  No cell of these rows narrows 'for every input' (looked for: loops, veiled, ifaces, maps, wideKeys, modest, calm, conditions, laid).
  DERIVED. THE GIVEN ROWS OF THIS SEAT. 4 by the template 'for every input the law returns true; each argument reads behind the call as it read before'; 0 by the template 'total and deterministic' (their statements: YtcddijenopijbaaTotals.lean).
  GIVEN WITH THE SEED: the statements are not yours to turn. If you find one false, say at which input.
  Laid BY PROGRAM, IN A SANDBOX (cutbox-rows.mjs): the forced cells as the released guide's own fill.sh prints them over the translation 32b122cbba447ac9… (all of the seat's roots in one cut). By AI agents, Wed Nov 11 2026. No macro, syntax, notation, axiom, sorry.
-/
import Derived.Test.YtcddijenopijbaaChecked
import GoSem.Claim
import GoSem.ClaimJoined
import GoSem.ClaimMapViews
import Derived.JoinedTies
import Derived.KernelRfl
namespace Go.Proofs.Ytcddijenopijbaa
/- THE CELL 'sum', in the pinned program and in every row, IS THE sha256 OF THE DUMP (.gsa) THAT YtcddijenopijbaaProg.lean LOADS. Nothing in Lean hashes anything: it is a label: what it is worth is what the hold of that sum in a sandbox is worth. -/
noncomputable def Try.pinned : Pinned := { name := "ytcddijenopijbaa", sum := "32b122cbba447ac9c336866ab08d654545a33543a22c8e332bb4f6a8d553c4cc", checked := Try.checked }
namespace Rows
def none {H : Type} : Left H := { results := [], args := [] }

/-- 'spinetlaw40.SrecLines': WHATEVER THE INPUT: true; the input reads as it did. -/
def srecLinesSpec : ChangeSpec := { name := "srecLines", fn := fun _ => fun
  | [d1, d2] => { results := [.lit (.bool true)], args := [d1, d2] }
  | _ => none }
def srecLinesRow : OpenClaim := { program := "ytcddijenopijbaa", sum := "32b122cbba447ac9c336866ab08d654545a33543a22c8e332bb4f6a8d553c4cc", func := "spinet/spinetlaw40.SrecLines", spec := "srecLines", apart := false }
def SrecLinesSaid : Prop := srecLinesRow.holds Try.pinned (OpenSpec.ofChange srecLinesSpec)

/-- ITS FALSE NEIGHBOUR: 'it returns false'. Refute it at one input. -/
def srecLinesWrong : ChangeSpec := { name := "srecLines", fn := fun _ => fun
  | [d1, d2] => { results := [.lit (.bool false)], args := [d1, d2] }
  | _ => none }
def SrecLinesWrongFalsely : Prop := srecLinesRow.holds Try.pinned (OpenSpec.ofChange srecLinesWrong)

/-- 'spinetlaw44.ExprFits': WHATEVER THE INPUT: true; the input reads as it did. -/
def exprFitsSpec : ChangeSpec := { name := "exprFits", fn := fun _ => fun
  | [d] => { results := [.lit (.bool true)], args := [d] }
  | _ => none }
def exprFitsRow : OpenClaim := { program := "ytcddijenopijbaa", sum := "32b122cbba447ac9c336866ab08d654545a33543a22c8e332bb4f6a8d553c4cc", func := "spinet/spinetlaw44.ExprFits", spec := "exprFits", apart := false }
def ExprFitsSaid : Prop := exprFitsRow.holds Try.pinned (OpenSpec.ofChange exprFitsSpec)

/-- ITS FALSE NEIGHBOUR: 'it returns false'. Refute it at one input. -/
def exprFitsWrong : ChangeSpec := { name := "exprFits", fn := fun _ => fun
  | [d] => { results := [.lit (.bool false)], args := [d] }
  | _ => none }
def ExprFitsWrongFalsely : Prop := exprFitsRow.holds Try.pinned (OpenSpec.ofChange exprFitsWrong)

/-- 'spinetlaw44.ExprValues': WHATEVER THE INPUT: true; the input reads as it did. -/
def exprValuesSpec : ChangeSpec := { name := "exprValues", fn := fun _ => fun
  | [d1, d2, d3] => { results := [.lit (.bool true)], args := [d1, d2, d3] }
  | _ => none }
def exprValuesRow : OpenClaim := { program := "ytcddijenopijbaa", sum := "32b122cbba447ac9c336866ab08d654545a33543a22c8e332bb4f6a8d553c4cc", func := "spinet/spinetlaw44.ExprValues", spec := "exprValues", apart := false }
def ExprValuesSaid : Prop := exprValuesRow.holds Try.pinned (OpenSpec.ofChange exprValuesSpec)

/-- ITS FALSE NEIGHBOUR: 'it returns false'. Refute it at one input. -/
def exprValuesWrong : ChangeSpec := { name := "exprValues", fn := fun _ => fun
  | [d1, d2, d3] => { results := [.lit (.bool false)], args := [d1, d2, d3] }
  | _ => none }
def ExprValuesWrongFalsely : Prop := exprValuesRow.holds Try.pinned (OpenSpec.ofChange exprValuesWrong)

/-- 'spinetlaw41.SymbolsPlays': WHATEVER THE INPUT: true; the input reads as it did. -/
def symbolsPlaysSpec : ChangeSpec := { name := "symbolsPlays", fn := fun _ => fun
  | [d1, d2, d3] => { results := [.lit (.bool true)], args := [d1, d2, d3] }
  | _ => none }
def symbolsPlaysRow : OpenClaim := { program := "ytcddijenopijbaa", sum := "32b122cbba447ac9c336866ab08d654545a33543a22c8e332bb4f6a8d553c4cc", func := "spinet/spinetlaw41.SymbolsPlays", spec := "symbolsPlays", recurses := true, apart := false }
def SymbolsPlaysSaid : Prop := symbolsPlaysRow.holds Try.pinned (OpenSpec.ofChange symbolsPlaysSpec)

/-- ITS FALSE NEIGHBOUR: 'it returns false'. Refute it at one input. -/
def symbolsPlaysWrong : ChangeSpec := { name := "symbolsPlays", fn := fun _ => fun
  | [d1, d2, d3] => { results := [.lit (.bool false)], args := [d1, d2, d3] }
  | _ => none }
def SymbolsPlaysWrongFalsely : Prop := symbolsPlaysRow.holds Try.pinned (OpenSpec.ofChange symbolsPlaysWrong)

/- THE SECOND FORM. 'bulk': how many values and letters a reading holds, each counted each time it is reached (what is shared counts as often as it is met; a slice's spare places count too). A statement '..UptoSaid' is the law's where the arguments, and the package variables that the reading takes, are together of bulk at most 1048576: NARROWER than '..Said'. Prove '..Said' where nothing that the law and all that it calls make is longer than what came in: it says more and counts as full. Else prove '..UptoSaid'. A law counts once. -/
mutual
def uptoBulk {H : Type} : DataW H → Nat
  | .lit (.string bytes) => bytes.length + 1
  | .lit _ => 1
  | .nil => 1
  | .ptr d => uptoBulk d + 1
  | .slice elems spare => uptoBulkAll elems + uptoBulkAll spare + 1
  | .agg parts => uptoBulkAll parts + 1
  | .iface _ d => uptoBulk d + 1
  | .map entries => uptoBulkEntries entries + 1
  | .held _ => 1
def uptoBulkAll {H : Type} : List (DataW H) → Nat
  | [] => 0
  | d :: r => uptoBulk d + uptoBulkAll r
def uptoBulkEntries {H : Type} : List (Lit × DataW H) → Nat
  | [] => 0
  | x :: r => uptoBulkEntry x + uptoBulkEntries r
def uptoBulkEntry {H : Type} : Lit × DataW H → Nat
  | (.string bytes, d) => bytes.length + uptoBulk d + 1
  | (_, d) => uptoBulk d + 1
 end
def uptoSmall : (H : Type) → List (DataW H) → Bool := fun _ ds => decide (uptoBulkAll ds ≤ 1048576)
def OpenSpec.upto (s : _root_.Go.ChangeSpec) : _root_.Go.OpenSpec := { _root_.Go.OpenSpec.ofChange s with cond := some uptoSmall }

/-- 'spinetlaw40.SrecLines', WHERE WHAT IT READS IS OF BULK AT MOST 1048576: true; the input reads as it did. -/
def srecLinesUptoRow : OpenClaim := { program := "ytcddijenopijbaa", sum := "32b122cbba447ac9c336866ab08d654545a33543a22c8e332bb4f6a8d553c4cc", func := "spinet/spinetlaw40.SrecLines", spec := "srecLines", apart := false, narrowed := true }
def SrecLinesUptoSaid : Prop := srecLinesUptoRow.holds Try.pinned (OpenSpec.upto srecLinesSpec)

/-- 'spinetlaw44.ExprFits', WHERE WHAT IT READS IS OF BULK AT MOST 1048576: true; the input reads as it did. -/
def exprFitsUptoRow : OpenClaim := { program := "ytcddijenopijbaa", sum := "32b122cbba447ac9c336866ab08d654545a33543a22c8e332bb4f6a8d553c4cc", func := "spinet/spinetlaw44.ExprFits", spec := "exprFits", apart := false, narrowed := true }
def ExprFitsUptoSaid : Prop := exprFitsUptoRow.holds Try.pinned (OpenSpec.upto exprFitsSpec)

/-- 'spinetlaw44.ExprValues', WHERE WHAT IT READS IS OF BULK AT MOST 1048576: true; the input reads as it did. -/
def exprValuesUptoRow : OpenClaim := { program := "ytcddijenopijbaa", sum := "32b122cbba447ac9c336866ab08d654545a33543a22c8e332bb4f6a8d553c4cc", func := "spinet/spinetlaw44.ExprValues", spec := "exprValues", apart := false, narrowed := true }
def ExprValuesUptoSaid : Prop := exprValuesUptoRow.holds Try.pinned (OpenSpec.upto exprValuesSpec)

/-- 'spinetlaw41.SymbolsPlays', WHERE WHAT IT READS IS OF BULK AT MOST 1048576: true; the input reads as it did. -/
def symbolsPlaysUptoRow : OpenClaim := { program := "ytcddijenopijbaa", sum := "32b122cbba447ac9c336866ab08d654545a33543a22c8e332bb4f6a8d553c4cc", func := "spinet/spinetlaw41.SymbolsPlays", spec := "symbolsPlays", recurses := true, apart := false, narrowed := true }
def SymbolsPlaysUptoSaid : Prop := symbolsPlaysUptoRow.holds Try.pinned (OpenSpec.upto symbolsPlaysSpec)

end Rows
end Go.Proofs.Ytcddijenopijbaa
