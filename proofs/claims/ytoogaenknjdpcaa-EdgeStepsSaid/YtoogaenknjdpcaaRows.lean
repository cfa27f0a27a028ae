/-
  No cell of these rows narrows 'for every input' (looked for: loops, veiled, ifaces, maps, wideKeys, modest, calm, conditions, laid).
  DERIVED. THE GIVEN ROWS OF THIS SEAT. 6 by the template 'for every input the law returns true; each argument reads behind the call as it read before'; 0 by the template 'total and deterministic' (their statements: YtoogaenknjdpcaaTotals.lean).
  GIVEN WITH THE SEED: the statements are not yours to turn. If you find one false, say at which input.
  Laid BY PROGRAM, IN A SANDBOX (cutbox-rows.mjs): the forced cells as the released guide's own fill.sh prints them over the translation dd586e3594663e51… (all of the seat's roots in one cut). By AI agents, Wed Nov 11 2026. No macro, syntax, notation, axiom, sorry.
-/
import Derived.Test.YtoogaenknjdpcaaChecked
import GoSem.Claim
import GoSem.ClaimJoined
import GoSem.ClaimMapViews
import Derived.JoinedTies
import Derived.KernelRfl
namespace Go.Proofs.Ytoogaenknjdpcaa
/- THE CELL 'sum', in the pinned program and in every row, IS THE sha256 OF THE DUMP (.gsa) THAT YtoogaenknjdpcaaProg.lean LOADS. Nothing in Lean hashes anything: it is a label: what it is worth is what the hold of that sum in a sandbox is worth. -/
noncomputable def Try.pinned : Pinned := { name := "ytoogaenknjdpcaa", sum := "dd586e3594663e5161ed7ef1dcaad170ab80031bb1acc2852d2ce6a930e8fb05", checked := Try.checked }
namespace Rows
def none {H : Type} : Left H := { results := [], args := [] }

/-- 'spinetlaw28.EdgeSteps': WHATEVER THE INPUT: true; the input reads as it did. -/
def edgeStepsSpec : ChangeSpec := { name := "edgeSteps", fn := fun _ => fun
  | [d1, d2] => { results := [.lit (.bool true)], args := [d1, d2] }
  | _ => none }
def edgeStepsRow : OpenClaim := { program := "ytoogaenknjdpcaa", sum := "dd586e3594663e5161ed7ef1dcaad170ab80031bb1acc2852d2ce6a930e8fb05", func := "spinet/spinetlaw28.EdgeSteps", spec := "edgeSteps", apart := false }
def EdgeStepsSaid : Prop := edgeStepsRow.holds Try.pinned (OpenSpec.ofChange edgeStepsSpec)

/-- ITS FALSE NEIGHBOUR: 'it returns false'. Refute it at one input. -/
def edgeStepsWrong : ChangeSpec := { name := "edgeSteps", fn := fun _ => fun
  | [d1, d2] => { results := [.lit (.bool false)], args := [d1, d2] }
  | _ => none }
def EdgeStepsWrongFalsely : Prop := edgeStepsRow.holds Try.pinned (OpenSpec.ofChange edgeStepsWrong)

/-- 'spinetlaw28.EdgeKept': WHATEVER THE INPUT: true; the input reads as it did. -/
def edgeKeptSpec : ChangeSpec := { name := "edgeKept", fn := fun _ => fun
  | [d1, d2, d3] => { results := [.lit (.bool true)], args := [d1, d2, d3] }
  | _ => none }
def edgeKeptRow : OpenClaim := { program := "ytoogaenknjdpcaa", sum := "dd586e3594663e5161ed7ef1dcaad170ab80031bb1acc2852d2ce6a930e8fb05", func := "spinet/spinetlaw28.EdgeKept", spec := "edgeKept", apart := false }
def EdgeKeptSaid : Prop := edgeKeptRow.holds Try.pinned (OpenSpec.ofChange edgeKeptSpec)

/-- ITS FALSE NEIGHBOUR: 'it returns false'. Refute it at one input. -/
def edgeKeptWrong : ChangeSpec := { name := "edgeKept", fn := fun _ => fun
  | [d1, d2, d3] => { results := [.lit (.bool false)], args := [d1, d2, d3] }
  | _ => none }
def EdgeKeptWrongFalsely : Prop := edgeKeptRow.holds Try.pinned (OpenSpec.ofChange edgeKeptWrong)

/-- 'spinetlaw29.PrioRows': WHATEVER THE INPUT: true; the input reads as it did. -/
def prioRowsSpec : ChangeSpec := { name := "prioRows", fn := fun _ => fun
  | [d1, d2, d3] => { results := [.lit (.bool true)], args := [d1, d2, d3] }
  | _ => none }
def prioRowsRow : OpenClaim := { program := "ytoogaenknjdpcaa", sum := "dd586e3594663e5161ed7ef1dcaad170ab80031bb1acc2852d2ce6a930e8fb05", func := "spinet/spinetlaw29.PrioRows", spec := "prioRows", apart := false }
def PrioRowsSaid : Prop := prioRowsRow.holds Try.pinned (OpenSpec.ofChange prioRowsSpec)

/-- ITS FALSE NEIGHBOUR: 'it returns false'. Refute it at one input. -/
def prioRowsWrong : ChangeSpec := { name := "prioRows", fn := fun _ => fun
  | [d1, d2, d3] => { results := [.lit (.bool false)], args := [d1, d2, d3] }
  | _ => none }
def PrioRowsWrongFalsely : Prop := prioRowsRow.holds Try.pinned (OpenSpec.ofChange prioRowsWrong)

/-- 'spinetlaw29.PrioOnly': WHATEVER THE INPUT: true; the input reads as it did. -/
def prioOnlySpec : ChangeSpec := { name := "prioOnly", fn := fun _ => fun
  | [d1, d2, d3] => { results := [.lit (.bool true)], args := [d1, d2, d3] }
  | _ => none }
def prioOnlyRow : OpenClaim := { program := "ytoogaenknjdpcaa", sum := "dd586e3594663e5161ed7ef1dcaad170ab80031bb1acc2852d2ce6a930e8fb05", func := "spinet/spinetlaw29.PrioOnly", spec := "prioOnly", apart := false }
def PrioOnlySaid : Prop := prioOnlyRow.holds Try.pinned (OpenSpec.ofChange prioOnlySpec)

/-- ITS FALSE NEIGHBOUR: 'it returns false'. Refute it at one input. -/
def prioOnlyWrong : ChangeSpec := { name := "prioOnly", fn := fun _ => fun
  | [d1, d2, d3] => { results := [.lit (.bool false)], args := [d1, d2, d3] }
  | _ => none }
def PrioOnlyWrongFalsely : Prop := prioOnlyRow.holds Try.pinned (OpenSpec.ofChange prioOnlyWrong)

/-- 'spinetlaw30.ArbiterSteps': WHATEVER THE INPUT: true; the input reads as it did. -/
def arbiterStepsSpec : ChangeSpec := { name := "arbiterSteps", fn := fun _ => fun
  | [d1, d2, d3] => { results := [.lit (.bool true)], args := [d1, d2, d3] }
  | _ => none }
def arbiterStepsRow : OpenClaim := { program := "ytoogaenknjdpcaa", sum := "dd586e3594663e5161ed7ef1dcaad170ab80031bb1acc2852d2ce6a930e8fb05", func := "spinet/spinetlaw30.ArbiterSteps", spec := "arbiterSteps", apart := false }
def ArbiterStepsSaid : Prop := arbiterStepsRow.holds Try.pinned (OpenSpec.ofChange arbiterStepsSpec)

/-- ITS FALSE NEIGHBOUR: 'it returns false'. Refute it at one input. -/
def arbiterStepsWrong : ChangeSpec := { name := "arbiterSteps", fn := fun _ => fun
  | [d1, d2, d3] => { results := [.lit (.bool false)], args := [d1, d2, d3] }
  | _ => none }
def ArbiterStepsWrongFalsely : Prop := arbiterStepsRow.holds Try.pinned (OpenSpec.ofChange arbiterStepsWrong)

/-- 'spinetlaw30.ArbiterPlans': WHATEVER THE INPUT: true; the input reads as it did. -/
def arbiterPlansSpec : ChangeSpec := { name := "arbiterPlans", fn := fun _ => fun
  | [d1, d2] => { results := [.lit (.bool true)], args := [d1, d2] }
  | _ => none }
def arbiterPlansRow : OpenClaim := { program := "ytoogaenknjdpcaa", sum := "dd586e3594663e5161ed7ef1dcaad170ab80031bb1acc2852d2ce6a930e8fb05", func := "spinet/spinetlaw30.ArbiterPlans", spec := "arbiterPlans", apart := false }
def ArbiterPlansSaid : Prop := arbiterPlansRow.holds Try.pinned (OpenSpec.ofChange arbiterPlansSpec)

/-- ITS FALSE NEIGHBOUR: 'it returns false'. Refute it at one input. -/
def arbiterPlansWrong : ChangeSpec := { name := "arbiterPlans", fn := fun _ => fun
  | [d1, d2] => { results := [.lit (.bool false)], args := [d1, d2] }
  | _ => none }
def ArbiterPlansWrongFalsely : Prop := arbiterPlansRow.holds Try.pinned (OpenSpec.ofChange arbiterPlansWrong)

/- THE SECOND FORM. 'bulk': how many values and letters a reading holds, each counted each time it is reached (what is shared counts as often as it is met; a slice's spare places count too). A statement '..UptoSaid' is the law's where the arguments, and the package variables that the reading takes, are together of bulk at most 1048576: NARROWER than '..Said'. Prove '..Said' where nothing that the law and all that it calls make is longer than what came in: it says more and counts as full. Else prove '..UptoSaid'. A law counts once. -/
mutual
def uptoBulk {H : Type} : DataW H → Nat
  | .lit (.string bytes) => bytes.length + 1
  | .lit _ => 1
  | .nil => 1
  | .ptr d => uptoBulk d + 1
  | .slice elems spare => uptoBulkAll elems + uptoBulkAll spare + 1
  | .agg parts => uptoBulkAll parts + 1
  | .iface _ d => uptoBulk d + 1
  | .map entries => uptoBulkEntries entries + 1
  | .held _ => 1
def uptoBulkAll {H : Type} : List (DataW H) → Nat
  | [] => 0
  | d :: r => uptoBulk d + uptoBulkAll r
def uptoBulkEntries {H : Type} : List (Lit × DataW H) → Nat
  | [] => 0
  | x :: r => uptoBulkEntry x + uptoBulkEntries r
def uptoBulkEntry {H : Type} : Lit × DataW H → Nat
  | (.string bytes, d) => bytes.length + uptoBulk d + 1
  | (_, d) => uptoBulk d + 1
 end
def uptoSmall : (H : Type) → List (DataW H) → Bool := fun _ ds => decide (uptoBulkAll ds ≤ 1048576)
def OpenSpec.upto (s : _root_.Go.ChangeSpec) : _root_.Go.OpenSpec := { _root_.Go.OpenSpec.ofChange s with cond := some uptoSmall }

/-- 'spinetlaw28.EdgeSteps', WHERE WHAT IT READS IS OF BULK AT MOST 1048576: true; the input reads as it did. -/
def edgeStepsUptoRow : OpenClaim := { program := "ytoogaenknjdpcaa", sum := "dd586e3594663e5161ed7ef1dcaad170ab80031bb1acc2852d2ce6a930e8fb05", func := "spinet/spinetlaw28.EdgeSteps", spec := "edgeSteps", apart := false, narrowed := true }
def EdgeStepsUptoSaid : Prop := edgeStepsUptoRow.holds Try.pinned (OpenSpec.upto edgeStepsSpec)

/-- 'spinetlaw28.EdgeKept', WHERE WHAT IT READS IS OF BULK AT MOST 1048576: true; the input reads as it did. -/
def edgeKeptUptoRow : OpenClaim := { program := "ytoogaenknjdpcaa", sum := "dd586e3594663e5161ed7ef1dcaad170ab80031bb1acc2852d2ce6a930e8fb05", func := "spinet/spinetlaw28.EdgeKept", spec := "edgeKept", apart := false, narrowed := true }
def EdgeKeptUptoSaid : Prop := edgeKeptUptoRow.holds Try.pinned (OpenSpec.upto edgeKeptSpec)

/-- 'spinetlaw29.PrioRows', WHERE WHAT IT READS IS OF BULK AT MOST 1048576: true; the input reads as it did. -/
def prioRowsUptoRow : OpenClaim := { program := "ytoogaenknjdpcaa", sum := "dd586e3594663e5161ed7ef1dcaad170ab80031bb1acc2852d2ce6a930e8fb05", func := "spinet/spinetlaw29.PrioRows", spec := "prioRows", apart := false, narrowed := true }
def PrioRowsUptoSaid : Prop := prioRowsUptoRow.holds Try.pinned (OpenSpec.upto prioRowsSpec)

/-- 'spinetlaw29.PrioOnly', WHERE WHAT IT READS IS OF BULK AT MOST 1048576: true; the input reads as it did. -/
def prioOnlyUptoRow : OpenClaim := { program := "ytoogaenknjdpcaa", sum := "dd586e3594663e5161ed7ef1dcaad170ab80031bb1acc2852d2ce6a930e8fb05", func := "spinet/spinetlaw29.PrioOnly", spec := "prioOnly", apart := false, narrowed := true }
def PrioOnlyUptoSaid : Prop := prioOnlyUptoRow.holds Try.pinned (OpenSpec.upto prioOnlySpec)

/-- 'spinetlaw30.ArbiterSteps', WHERE WHAT IT READS IS OF BULK AT MOST 1048576: true; the input reads as it did. -/
def arbiterStepsUptoRow : OpenClaim := { program := "ytoogaenknjdpcaa", sum := "dd586e3594663e5161ed7ef1dcaad170ab80031bb1acc2852d2ce6a930e8fb05", func := "spinet/spinetlaw30.ArbiterSteps", spec := "arbiterSteps", apart := false, narrowed := true }
def ArbiterStepsUptoSaid : Prop := arbiterStepsUptoRow.holds Try.pinned (OpenSpec.upto arbiterStepsSpec)

/-- 'spinetlaw30.ArbiterPlans', WHERE WHAT IT READS IS OF BULK AT MOST 1048576: true; the input reads as it did. -/
def arbiterPlansUptoRow : OpenClaim := { program := "ytoogaenknjdpcaa", sum := "dd586e3594663e5161ed7ef1dcaad170ab80031bb1acc2852d2ce6a930e8fb05", func := "spinet/spinetlaw30.ArbiterPlans", spec := "arbiterPlans", apart := false, narrowed := true }
def ArbiterPlansUptoSaid : Prop := arbiterPlansUptoRow.holds Try.pinned (OpenSpec.upto arbiterPlansSpec)

end Rows
end Go.Proofs.Ytoogaenknjdpcaa
