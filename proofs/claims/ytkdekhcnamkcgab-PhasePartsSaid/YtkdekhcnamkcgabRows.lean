/-
  No cell of these rows narrows 'for every input' (looked for: loops, veiled, ifaces, maps, wideKeys, modest, calm, conditions, laid).
  DERIVED. THE GIVEN ROWS OF THIS SEAT. 3 by the template 'for every input the law returns true; each argument reads behind the call as it read before'; 0 by the template 'total and deterministic' (their statements: YtkdekhcnamkcgabTotals.lean).
  GIVEN WITH THE SEED: the statements are not yours to turn. If you find one false, say at which input.
  Laid BY PROGRAM, IN A SANDBOX (cutbox-rows.mjs): the forced cells as the released guide's own fill.sh prints them over the translation 0331ca0748ce608c… (all of the seat's roots in one cut). By AI agents, Wed Nov 11 2026. No macro, syntax, notation, axiom, sorry.
-/
import Derived.Test.YtkdekhcnamkcgabChecked
import GoSem.Claim
import GoSem.ClaimJoined
import GoSem.ClaimMapViews
import Derived.JoinedTies
import Derived.KernelRfl
namespace Go.Proofs.Ytkdekhcnamkcgab
/- THE CELL 'sum', in the pinned program and in every row, IS THE sha256 OF THE DUMP (.gsa) THAT YtkdekhcnamkcgabProg.lean LOADS. Nothing in Lean hashes anything: it is a label: what it is worth is what the hold of that sum in a sandbox is worth. -/
noncomputable def Try.pinned : Pinned := { name := "ytkdekhcnamkcgab", sum := "0331ca0748ce608cfeabb8a3158c4001db308ba81ac2416421e4883d59db61ab", checked := Try.checked }
namespace Rows
def none {H : Type} : Left H := { results := [], args := [] }

/-- 'spinetlaw22.PhaseRows': WHATEVER THE INPUT: true; the input reads as it did. -/
def phaseRowsSpec : ChangeSpec := { name := "phaseRows", fn := fun _ => fun
  | [d1, d2, d3] => { results := [.lit (.bool true)], args := [d1, d2, d3] }
  | _ => none }
def phaseRowsRow : OpenClaim := { program := "ytkdekhcnamkcgab", sum := "0331ca0748ce608cfeabb8a3158c4001db308ba81ac2416421e4883d59db61ab", func := "spinet/spinetlaw22.PhaseRows", spec := "phaseRows", apart := false }
def PhaseRowsSaid : Prop := phaseRowsRow.holds Try.pinned (OpenSpec.ofChange phaseRowsSpec)

/-- ITS FALSE NEIGHBOUR: 'it returns false'. Refute it at one input. -/
def phaseRowsWrong : ChangeSpec := { name := "phaseRows", fn := fun _ => fun
  | [d1, d2, d3] => { results := [.lit (.bool false)], args := [d1, d2, d3] }
  | _ => none }
def PhaseRowsWrongFalsely : Prop := phaseRowsRow.holds Try.pinned (OpenSpec.ofChange phaseRowsWrong)

/-- 'spinetlaw22.PhaseParts': WHATEVER THE INPUT: true; the input reads as it did. -/
def phasePartsSpec : ChangeSpec := { name := "phaseParts", fn := fun _ => fun
  | [d1, d2] => { results := [.lit (.bool true)], args := [d1, d2] }
  | _ => none }
def phasePartsRow : OpenClaim := { program := "ytkdekhcnamkcgab", sum := "0331ca0748ce608cfeabb8a3158c4001db308ba81ac2416421e4883d59db61ab", func := "spinet/spinetlaw22.PhaseParts", spec := "phaseParts", apart := false }
def PhasePartsSaid : Prop := phasePartsRow.holds Try.pinned (OpenSpec.ofChange phasePartsSpec)

/-- ITS FALSE NEIGHBOUR: 'it returns false'. Refute it at one input. -/
def phasePartsWrong : ChangeSpec := { name := "phaseParts", fn := fun _ => fun
  | [d1, d2] => { results := [.lit (.bool false)], args := [d1, d2] }
  | _ => none }
def PhasePartsWrongFalsely : Prop := phasePartsRow.holds Try.pinned (OpenSpec.ofChange phasePartsWrong)

/-- 'spinetlaw24.AluBytes': WHATEVER THE INPUT: true; the input reads as it did. -/
def aluBytesSpec : ChangeSpec := { name := "aluBytes", fn := fun _ => fun
  | [d1, d2] => { results := [.lit (.bool true)], args := [d1, d2] }
  | _ => none }
def aluBytesRow : OpenClaim := { program := "ytkdekhcnamkcgab", sum := "0331ca0748ce608cfeabb8a3158c4001db308ba81ac2416421e4883d59db61ab", func := "spinet/spinetlaw24.AluBytes", spec := "aluBytes", unfollowed := true, recurses := true, apart := false }
def AluBytesSaid : Prop := aluBytesRow.holds Try.pinned (OpenSpec.ofChange aluBytesSpec)

/-- ITS FALSE NEIGHBOUR: 'it returns false'. Refute it at one input. -/
def aluBytesWrong : ChangeSpec := { name := "aluBytes", fn := fun _ => fun
  | [d1, d2] => { results := [.lit (.bool false)], args := [d1, d2] }
  | _ => none }
def AluBytesWrongFalsely : Prop := aluBytesRow.holds Try.pinned (OpenSpec.ofChange aluBytesWrong)

/- THE SECOND FORM. 'bulk': how many values and letters a reading holds, each counted each time it is reached (what is shared counts as often as it is met; a slice's spare places count too). A statement '..UptoSaid' is the law's where the arguments, and the package variables that the reading takes, are together of bulk at most 1048576: NARROWER than '..Said'. Prove '..Said' where nothing that the law and all that it calls make is longer than what came in: it says more and counts as full. Else prove '..UptoSaid'. A law counts once. -/
mutual
def uptoBulk {H : Type} : DataW H → Nat
  | .lit (.string bytes) => bytes.length + 1
  | .lit _ => 1
  | .nil => 1
  | .ptr d => uptoBulk d + 1
  | .slice elems spare => uptoBulkAll elems + uptoBulkAll spare + 1
  | .agg parts => uptoBulkAll parts + 1
  | .iface _ d => uptoBulk d + 1
  | .map entries => uptoBulkEntries entries + 1
  | .held _ => 1
def uptoBulkAll {H : Type} : List (DataW H) → Nat
  | [] => 0
  | d :: r => uptoBulk d + uptoBulkAll r
def uptoBulkEntries {H : Type} : List (Lit × DataW H) → Nat
  | [] => 0
  | x :: r => uptoBulkEntry x + uptoBulkEntries r
def uptoBulkEntry {H : Type} : Lit × DataW H → Nat
  | (.string bytes, d) => bytes.length + uptoBulk d + 1
  | (_, d) => uptoBulk d + 1
 end
def uptoSmall : (H : Type) → List (DataW H) → Bool := fun _ ds => decide (uptoBulkAll ds ≤ 1048576)
def OpenSpec.upto (s : _root_.Go.ChangeSpec) : _root_.Go.OpenSpec := { _root_.Go.OpenSpec.ofChange s with cond := some uptoSmall }

/-- 'spinetlaw22.PhaseRows', WHERE WHAT IT READS IS OF BULK AT MOST 1048576: true; the input reads as it did. -/
def phaseRowsUptoRow : OpenClaim := { program := "ytkdekhcnamkcgab", sum := "0331ca0748ce608cfeabb8a3158c4001db308ba81ac2416421e4883d59db61ab", func := "spinet/spinetlaw22.PhaseRows", spec := "phaseRows", apart := false, narrowed := true }
def PhaseRowsUptoSaid : Prop := phaseRowsUptoRow.holds Try.pinned (OpenSpec.upto phaseRowsSpec)

/-- 'spinetlaw22.PhaseParts', WHERE WHAT IT READS IS OF BULK AT MOST 1048576: true; the input reads as it did. -/
def phasePartsUptoRow : OpenClaim := { program := "ytkdekhcnamkcgab", sum := "0331ca0748ce608cfeabb8a3158c4001db308ba81ac2416421e4883d59db61ab", func := "spinet/spinetlaw22.PhaseParts", spec := "phaseParts", apart := false, narrowed := true }
def PhasePartsUptoSaid : Prop := phasePartsUptoRow.holds Try.pinned (OpenSpec.upto phasePartsSpec)

/-- 'spinetlaw24.AluBytes', WHERE WHAT IT READS IS OF BULK AT MOST 1048576: true; the input reads as it did. -/
def aluBytesUptoRow : OpenClaim := { program := "ytkdekhcnamkcgab", sum := "0331ca0748ce608cfeabb8a3158c4001db308ba81ac2416421e4883d59db61ab", func := "spinet/spinetlaw24.AluBytes", spec := "aluBytes", unfollowed := true, recurses := true, apart := false, narrowed := true }
def AluBytesUptoSaid : Prop := aluBytesUptoRow.holds Try.pinned (OpenSpec.upto aluBytesSpec)

end Rows
end Go.Proofs.Ytkdekhcnamkcgab
