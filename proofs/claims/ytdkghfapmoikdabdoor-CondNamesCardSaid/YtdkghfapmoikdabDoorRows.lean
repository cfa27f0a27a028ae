/-
  NARROWER THAN 'FOR EVERY INPUT', by the rows' own cells (each row's printed sentence says how): CondHolds: laid · CondNames: laid · CondOrders: laid.
  DERIVED. THE GIVEN ROWS OF THIS SEAT. 3 by the template 'for every input the law returns true; each argument reads behind the call as it read before'; 0 by the template 'total and deterministic' (their statements: YtdkghfapmoikdabDoorTotals.lean).
  GIVEN WITH THE SEED: the statements are not yours to turn. If you find one false, say at which input.
  Laid BY PROGRAM, IN A SANDBOX (cutbox-rows.mjs): the forced cells as the released guide's own fill.sh prints them over the translation 75b19911a0111d23… (all of the seat's roots in one cut). By AI agents, Wed Nov 11 2026. No macro, syntax, notation, axiom, sorry.
-/
import Derived.Test.YtdkghfapmoikdabDoorChecked
import GoSem.Claim
import GoSem.ClaimJoined
import GoSem.ClaimMapViews
import Derived.JoinedTies
import Derived.KernelRfl
namespace Go.Proofs.YtdkghfapmoikdabDoor
/- THE CELL 'sum', in the pinned program and in every row, IS THE sha256 OF THE DUMP (.gsa) THAT YtdkghfapmoikdabDoorProg.lean LOADS. Nothing in Lean hashes anything: it is a label: what it is worth is what the hold of that sum in a sandbox is worth. -/
noncomputable def Tryd.pinned : Pinned := { name := "ytdkghfapmoikdabdoor", sum := "75b19911a0111d2319d6785297ef3f5450a02e1fafd030176cf8871d4bf3c2bb", checked := Tryd.checked }
namespace Rows
def none {H : Type} : Left H := { results := [], args := [] }

/- WHAT THE LISTED PACKAGE-LEVEL VARIABLES READ AS WHEN THE CALL BEGINS. Each datum BY PROGRAM (the guide's laid-datum.mjs) off the statement by which the dump's own 'gosem.cut.vars' lays the variable. In a bare row this is a premise. The card (YtdkghfapmoikdabDoorCards.lean) ties it to the program's text. -/
def laid_spinet_cond_names {H : Type} : DataW H := .agg [.lit (.string [82, 65]), .lit (.string [82, 78]), .lit (.string [72, 73]), .lit (.string [76, 83]), .lit (.string [67, 67]), .lit (.string [67, 83]), .lit (.string [78, 69]), .lit (.string [69, 81]), .lit (.string [86, 67]), .lit (.string [86, 83]), .lit (.string [80, 76]), .lit (.string [77, 73]), .lit (.string [71, 69]), .lit (.string [76, 84]), .lit (.string [71, 84]), .lit (.string [76, 69])]

/-- 'spinetlaw12.CondHolds': WHATEVER THE INPUT: true; the input reads as it did. -/
def condHoldsSpec : ChangeSpec := { name := "condHolds", fn := fun _ => fun
  | [d1, d2] => { results := [.lit (.bool true)], args := [d1, d2] }
  | _ => none }
def condHoldsRow : OpenClaim := { program := "ytdkghfapmoikdabdoor", sum := "75b19911a0111d2319d6785297ef3f5450a02e1fafd030176cf8871d4bf3c2bb", func := "spinet/spinetlaw12.CondHolds", spec := "condHolds", named := ["spinet/cond.names"], apart := false, laid := [("spinet/cond.names", laid_spinet_cond_names)] }
def CondHoldsSaid : Prop := condHoldsRow.holds Tryd.pinned (OpenSpec.ofChange condHoldsSpec)

/-- ITS FALSE NEIGHBOUR: 'it returns false'. Refute it at one input. -/
def condHoldsWrong : ChangeSpec := { name := "condHolds", fn := fun _ => fun
  | [d1, d2] => { results := [.lit (.bool false)], args := [d1, d2] }
  | _ => none }
def CondHoldsWrongFalsely : Prop := condHoldsRow.holds Tryd.pinned (OpenSpec.ofChange condHoldsWrong)

/-- 'spinetlaw12.CondNames': WHATEVER THE INPUT: true; the input reads as it did. -/
def condNamesSpec : ChangeSpec := { name := "condNames", fn := fun _ => fun
  | [d] => { results := [.lit (.bool true)], args := [d] }
  | _ => none }
def condNamesRow : OpenClaim := { program := "ytdkghfapmoikdabdoor", sum := "75b19911a0111d2319d6785297ef3f5450a02e1fafd030176cf8871d4bf3c2bb", func := "spinet/spinetlaw12.CondNames", spec := "condNames", named := ["spinet/cond.names"], apart := false, laid := [("spinet/cond.names", laid_spinet_cond_names)] }
def CondNamesSaid : Prop := condNamesRow.holds Tryd.pinned (OpenSpec.ofChange condNamesSpec)

/-- ITS FALSE NEIGHBOUR: 'it returns false'. Refute it at one input. -/
def condNamesWrong : ChangeSpec := { name := "condNames", fn := fun _ => fun
  | [d] => { results := [.lit (.bool false)], args := [d] }
  | _ => none }
def CondNamesWrongFalsely : Prop := condNamesRow.holds Tryd.pinned (OpenSpec.ofChange condNamesWrong)

/-- 'spinetlaw12.CondOrders': WHATEVER THE INPUT: true; the input reads as it did. -/
def condOrdersSpec : ChangeSpec := { name := "condOrders", fn := fun _ => fun
  | [d1, d2, d3] => { results := [.lit (.bool true)], args := [d1, d2, d3] }
  | _ => none }
def condOrdersRow : OpenClaim := { program := "ytdkghfapmoikdabdoor", sum := "75b19911a0111d2319d6785297ef3f5450a02e1fafd030176cf8871d4bf3c2bb", func := "spinet/spinetlaw12.CondOrders", spec := "condOrders", named := ["spinet/cond.names"], apart := false, laid := [("spinet/cond.names", laid_spinet_cond_names)] }
def CondOrdersSaid : Prop := condOrdersRow.holds Tryd.pinned (OpenSpec.ofChange condOrdersSpec)

/-- ITS FALSE NEIGHBOUR: 'it returns false'. Refute it at one input. -/
def condOrdersWrong : ChangeSpec := { name := "condOrders", fn := fun _ => fun
  | [d1, d2, d3] => { results := [.lit (.bool false)], args := [d1, d2, d3] }
  | _ => none }
def CondOrdersWrongFalsely : Prop := condOrdersRow.holds Tryd.pinned (OpenSpec.ofChange condOrdersWrong)

/- THE SECOND FORM. 'bulk': how many values and letters a reading holds, each counted each time it is reached (what is shared counts as often as it is met; a slice's spare places count too). A statement '..UptoSaid' is the law's where the arguments, and the package variables that the reading takes, are together of bulk at most 1048576: NARROWER than '..Said'. Prove '..Said' where nothing that the law and all that it calls make is longer than what came in: it says more and counts as full. Else prove '..UptoSaid'. A law counts once. -/
mutual
def uptoBulk {H : Type} : DataW H → Nat
  | .lit (.string bytes) => bytes.length + 1
  | .lit _ => 1
  | .nil => 1
  | .ptr d => uptoBulk d + 1
  | .slice elems spare => uptoBulkAll elems + uptoBulkAll spare + 1
  | .agg parts => uptoBulkAll parts + 1
  | .iface _ d => uptoBulk d + 1
  | .map entries => uptoBulkEntries entries + 1
  | .held _ => 1
def uptoBulkAll {H : Type} : List (DataW H) → Nat
  | [] => 0
  | d :: r => uptoBulk d + uptoBulkAll r
def uptoBulkEntries {H : Type} : List (Lit × DataW H) → Nat
  | [] => 0
  | x :: r => uptoBulkEntry x + uptoBulkEntries r
def uptoBulkEntry {H : Type} : Lit × DataW H → Nat
  | (.string bytes, d) => bytes.length + uptoBulk d + 1
  | (_, d) => uptoBulk d + 1
 end
def uptoSmall : (H : Type) → List (DataW H) → Bool := fun _ ds => decide (uptoBulkAll ds ≤ 1048576)
def OpenSpec.upto (s : _root_.Go.ChangeSpec) : _root_.Go.OpenSpec := { _root_.Go.OpenSpec.ofChange s with cond := some uptoSmall }

/-- 'spinetlaw12.CondHolds', WHERE WHAT IT READS IS OF BULK AT MOST 1048576: true; the input reads as it did. -/
def condHoldsUptoRow : OpenClaim := { program := "ytdkghfapmoikdabdoor", sum := "75b19911a0111d2319d6785297ef3f5450a02e1fafd030176cf8871d4bf3c2bb", func := "spinet/spinetlaw12.CondHolds", spec := "condHolds", named := ["spinet/cond.names"], apart := false, laid := [("spinet/cond.names", laid_spinet_cond_names)], narrowed := true }
def CondHoldsUptoSaid : Prop := condHoldsUptoRow.holds Tryd.pinned (OpenSpec.upto condHoldsSpec)

/-- 'spinetlaw12.CondNames', WHERE WHAT IT READS IS OF BULK AT MOST 1048576: true; the input reads as it did. -/
def condNamesUptoRow : OpenClaim := { program := "ytdkghfapmoikdabdoor", sum := "75b19911a0111d2319d6785297ef3f5450a02e1fafd030176cf8871d4bf3c2bb", func := "spinet/spinetlaw12.CondNames", spec := "condNames", named := ["spinet/cond.names"], apart := false, laid := [("spinet/cond.names", laid_spinet_cond_names)], narrowed := true }
def CondNamesUptoSaid : Prop := condNamesUptoRow.holds Tryd.pinned (OpenSpec.upto condNamesSpec)

/-- 'spinetlaw12.CondOrders', WHERE WHAT IT READS IS OF BULK AT MOST 1048576: true; the input reads as it did. -/
def condOrdersUptoRow : OpenClaim := { program := "ytdkghfapmoikdabdoor", sum := "75b19911a0111d2319d6785297ef3f5450a02e1fafd030176cf8871d4bf3c2bb", func := "spinet/spinetlaw12.CondOrders", spec := "condOrders", named := ["spinet/cond.names"], apart := false, laid := [("spinet/cond.names", laid_spinet_cond_names)], narrowed := true }
def CondOrdersUptoSaid : Prop := condOrdersUptoRow.holds Tryd.pinned (OpenSpec.upto condOrdersSpec)

end Rows
end Go.Proofs.YtdkghfapmoikdabDoor
