/-
  NARROWER THAN 'FOR EVERY INPUT', by the rows' own cells (each row's printed sentence says how): RowsInsts: laid · RowsOthers: laid · RowsCount: laid.
  DERIVED. THE GIVEN ROWS OF THIS SEAT. 3 by the template 'for every input the law returns true; each argument reads behind the call as it read before'; 0 by the template 'total and deterministic' (their statements: YtkdekhcnamkcgabDoorTotals.lean).
  GIVEN WITH THE SEED: the statements are not yours to turn. If you find one false, say at which input.
  Laid BY PROGRAM, IN A SANDBOX (cutbox-rows.mjs): the forced cells as the released guide's own fill.sh prints them over the translation 278524aeb0cf005a… (all of the seat's roots in one cut). By AI agents, Wed Nov 11 2026. No macro, syntax, notation, axiom, sorry.
-/
import Derived.Test.YtkdekhcnamkcgabDoorChecked
import GoSem.Claim
import GoSem.ClaimJoined
import GoSem.ClaimMapViews
import Derived.JoinedTies
import Derived.KernelRfl
namespace Go.Proofs.YtkdekhcnamkcgabDoor
/- THE CELL 'sum', in the pinned program and in every row, IS THE sha256 OF THE DUMP (.gsa) THAT YtkdekhcnamkcgabDoorProg.lean LOADS. Nothing in Lean hashes anything: it is a label: what it is worth is what the hold of that sum in a sandbox is worth. -/
noncomputable def Tryd.pinned : Pinned := { name := "ytkdekhcnamkcgabdoor", sum := "278524aeb0cf005ad5b97dedb1f97ae439e206b1614646ea0a7b3ca851893cf4", checked := Tryd.checked }
namespace Rows
def none {H : Type} : Left H := { results := [], args := [] }

/- WHAT THE LISTED PACKAGE-LEVEL VARIABLES READ AS WHEN THE CALL BEGINS. Each datum BY PROGRAM (the guide's laid-datum.mjs) off the statement by which the dump's own 'gosem.cut.vars' lays the variable. In a bare row this is a premise. The card (YtkdekhcnamkcgabDoorCards.lean) ties it to the program's text. -/
def laid_spinet_post_kinds {H : Type} : DataW H := .agg [.lit (.int .i64 7), .lit (.int .i64 8), .lit (.int .i64 9), .lit (.int .i64 10), .lit (.int .i64 0), .lit (.int .i64 5), .lit (.int .i64 4), .lit (.int .i64 0), .lit (.int .i64 2), .lit (.int .i64 3), .lit (.int .i64 0), .lit (.int .i64 6), .lit (.int .i64 11), .lit (.int .i64 12), .lit (.int .i64 0), .lit (.int .i64 13)]

/-- 'spinetlaw23.RowsInsts': WHATEVER THE INPUT: true; the input reads as it did. -/
def rowsInstsSpec : ChangeSpec := { name := "rowsInsts", fn := fun _ => fun
  | [d1, d2, d3] => { results := [.lit (.bool true)], args := [d1, d2, d3] }
  | _ => none }
def rowsInstsRow : OpenClaim := { program := "ytkdekhcnamkcgabdoor", sum := "278524aeb0cf005ad5b97dedb1f97ae439e206b1614646ea0a7b3ca851893cf4", func := "spinet/spinetlaw23.RowsInsts", spec := "rowsInsts", named := ["spinet/post.kinds"], apart := false, laid := [("spinet/post.kinds", laid_spinet_post_kinds)] }
def RowsInstsSaid : Prop := rowsInstsRow.holds Tryd.pinned (OpenSpec.ofChange rowsInstsSpec)

/-- ITS FALSE NEIGHBOUR: 'it returns false'. Refute it at one input. -/
def rowsInstsWrong : ChangeSpec := { name := "rowsInsts", fn := fun _ => fun
  | [d1, d2, d3] => { results := [.lit (.bool false)], args := [d1, d2, d3] }
  | _ => none }
def RowsInstsWrongFalsely : Prop := rowsInstsRow.holds Tryd.pinned (OpenSpec.ofChange rowsInstsWrong)

/-- 'spinetlaw23.RowsOthers': WHATEVER THE INPUT: true; the input reads as it did. -/
def rowsOthersSpec : ChangeSpec := { name := "rowsOthers", fn := fun _ => fun
  | [d] => { results := [.lit (.bool true)], args := [d] }
  | _ => none }
def rowsOthersRow : OpenClaim := { program := "ytkdekhcnamkcgabdoor", sum := "278524aeb0cf005ad5b97dedb1f97ae439e206b1614646ea0a7b3ca851893cf4", func := "spinet/spinetlaw23.RowsOthers", spec := "rowsOthers", named := ["spinet/post.kinds"], apart := false, laid := [("spinet/post.kinds", laid_spinet_post_kinds)] }
def RowsOthersSaid : Prop := rowsOthersRow.holds Tryd.pinned (OpenSpec.ofChange rowsOthersSpec)

/-- ITS FALSE NEIGHBOUR: 'it returns false'. Refute it at one input. -/
def rowsOthersWrong : ChangeSpec := { name := "rowsOthers", fn := fun _ => fun
  | [d] => { results := [.lit (.bool false)], args := [d] }
  | _ => none }
def RowsOthersWrongFalsely : Prop := rowsOthersRow.holds Tryd.pinned (OpenSpec.ofChange rowsOthersWrong)

/-- 'spinetlaw23.RowsCount': WHATEVER THE INPUT: true; the input reads as it did. -/
def rowsCountSpec : ChangeSpec := { name := "rowsCount", fn := fun _ => fun
  | [d1, d2, d3] => { results := [.lit (.bool true)], args := [d1, d2, d3] }
  | _ => none }
def rowsCountRow : OpenClaim := { program := "ytkdekhcnamkcgabdoor", sum := "278524aeb0cf005ad5b97dedb1f97ae439e206b1614646ea0a7b3ca851893cf4", func := "spinet/spinetlaw23.RowsCount", spec := "rowsCount", named := ["spinet/post.kinds"], apart := false, laid := [("spinet/post.kinds", laid_spinet_post_kinds)] }
def RowsCountSaid : Prop := rowsCountRow.holds Tryd.pinned (OpenSpec.ofChange rowsCountSpec)

/-- ITS FALSE NEIGHBOUR: 'it returns false'. Refute it at one input. -/
def rowsCountWrong : ChangeSpec := { name := "rowsCount", fn := fun _ => fun
  | [d1, d2, d3] => { results := [.lit (.bool false)], args := [d1, d2, d3] }
  | _ => none }
def RowsCountWrongFalsely : Prop := rowsCountRow.holds Tryd.pinned (OpenSpec.ofChange rowsCountWrong)

/- THE SECOND FORM. 'bulk': how many values and letters a reading holds, each counted each time it is reached (what is shared counts as often as it is met; a slice's spare places count too). A statement '..UptoSaid' is the law's where the arguments, and the package variables that the reading takes, are together of bulk at most 1048576: NARROWER than '..Said'. Prove '..Said' where nothing that the law and all that it calls make is longer than what came in: it says more and counts as full. Else prove '..UptoSaid'. A law counts once. -/
mutual
def uptoBulk {H : Type} : DataW H → Nat
  | .lit (.string bytes) => bytes.length + 1
  | .lit _ => 1
  | .nil => 1
  | .ptr d => uptoBulk d + 1
  | .slice elems spare => uptoBulkAll elems + uptoBulkAll spare + 1
  | .agg parts => uptoBulkAll parts + 1
  | .iface _ d => uptoBulk d + 1
  | .map entries => uptoBulkEntries entries + 1
  | .held _ => 1
def uptoBulkAll {H : Type} : List (DataW H) → Nat
  | [] => 0
  | d :: r => uptoBulk d + uptoBulkAll r
def uptoBulkEntries {H : Type} : List (Lit × DataW H) → Nat
  | [] => 0
  | x :: r => uptoBulkEntry x + uptoBulkEntries r
def uptoBulkEntry {H : Type} : Lit × DataW H → Nat
  | (.string bytes, d) => bytes.length + uptoBulk d + 1
  | (_, d) => uptoBulk d + 1
 end
def uptoSmall : (H : Type) → List (DataW H) → Bool := fun _ ds => decide (uptoBulkAll ds ≤ 1048576)
def OpenSpec.upto (s : _root_.Go.ChangeSpec) : _root_.Go.OpenSpec := { _root_.Go.OpenSpec.ofChange s with cond := some uptoSmall }

/-- 'spinetlaw23.RowsInsts', WHERE WHAT IT READS IS OF BULK AT MOST 1048576: true; the input reads as it did. -/
def rowsInstsUptoRow : OpenClaim := { program := "ytkdekhcnamkcgabdoor", sum := "278524aeb0cf005ad5b97dedb1f97ae439e206b1614646ea0a7b3ca851893cf4", func := "spinet/spinetlaw23.RowsInsts", spec := "rowsInsts", named := ["spinet/post.kinds"], apart := false, laid := [("spinet/post.kinds", laid_spinet_post_kinds)], narrowed := true }
def RowsInstsUptoSaid : Prop := rowsInstsUptoRow.holds Tryd.pinned (OpenSpec.upto rowsInstsSpec)

/-- 'spinetlaw23.RowsOthers', WHERE WHAT IT READS IS OF BULK AT MOST 1048576: true; the input reads as it did. -/
def rowsOthersUptoRow : OpenClaim := { program := "ytkdekhcnamkcgabdoor", sum := "278524aeb0cf005ad5b97dedb1f97ae439e206b1614646ea0a7b3ca851893cf4", func := "spinet/spinetlaw23.RowsOthers", spec := "rowsOthers", named := ["spinet/post.kinds"], apart := false, laid := [("spinet/post.kinds", laid_spinet_post_kinds)], narrowed := true }
def RowsOthersUptoSaid : Prop := rowsOthersUptoRow.holds Tryd.pinned (OpenSpec.upto rowsOthersSpec)

/-- 'spinetlaw23.RowsCount', WHERE WHAT IT READS IS OF BULK AT MOST 1048576: true; the input reads as it did. -/
def rowsCountUptoRow : OpenClaim := { program := "ytkdekhcnamkcgabdoor", sum := "278524aeb0cf005ad5b97dedb1f97ae439e206b1614646ea0a7b3ca851893cf4", func := "spinet/spinetlaw23.RowsCount", spec := "rowsCount", named := ["spinet/post.kinds"], apart := false, laid := [("spinet/post.kinds", laid_spinet_post_kinds)], narrowed := true }
def RowsCountUptoSaid : Prop := rowsCountUptoRow.holds Tryd.pinned (OpenSpec.upto rowsCountSpec)

end Rows
end Go.Proofs.YtkdekhcnamkcgabDoor
