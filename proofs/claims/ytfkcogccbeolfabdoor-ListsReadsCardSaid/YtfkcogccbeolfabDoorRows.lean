/-
  NARROWER THAN 'FOR EVERY INPUT', by the rows' own cells (each row's printed sentence says how): ListsReads: laid · InstReads: laid · InstPuts: laid · TableCounts: laid · TableBounds: laid.
  DERIVED. THE GIVEN ROWS OF THIS SEAT. 5 by the template 'for every input the law returns true; each argument reads behind the call as it read before'; 0 by the template 'total and deterministic' (their statements: YtfkcogccbeolfabDoorTotals.lean).
  GIVEN WITH THE SEED: the statements are not yours to turn. If you find one false, say at which input.
  Laid BY PROGRAM, IN A SANDBOX (cutbox-rows.mjs): the forced cells as the released guide's own fill.sh prints them over the translation 93f19ff108e83647… (all of the seat's roots in one cut). By AI agents, Wed Nov 11 2026. No macro, syntax, notation, axiom, sorry.
-/
import Derived.Test.YtfkcogccbeolfabDoorChecked
import GoSem.Claim
import GoSem.ClaimJoined
import GoSem.ClaimMapViews
import Derived.JoinedTies
import Derived.KernelRfl
namespace Go.Proofs.YtfkcogccbeolfabDoor
/- THE CELL 'sum', in the pinned program and in every row, IS THE sha256 OF THE DUMP (.gsa) THAT YtfkcogccbeolfabDoorProg.lean LOADS. Nothing in Lean hashes anything: it is a label: what it is worth is what the hold of that sum in a sandbox is worth. -/
noncomputable def Tryd.pinned : Pinned := { name := "ytfkcogccbeolfabdoor", sum := "93f19ff108e836473062b6b82c951c5b804119641ad08dd9d2ecbeddedf7fe02", checked := Tryd.checked }
namespace Rows
def none {H : Type} : Left H := { results := [], args := [] }

/- WHAT THE LISTED PACKAGE-LEVEL VARIABLES READ AS WHEN THE CALL BEGINS. Each datum BY PROGRAM (the guide's laid-datum.mjs) off the statement by which the dump's own 'gosem.cut.vars' lays the variable. In a bare row this is a premise. The card (YtfkcogccbeolfabDoorCards.lean) ties it to the program's text. -/
def laid_spinet_ops_registers {H : Type} : DataW H := .agg [.lit (.string [68]), .lit (.string [88]), .lit (.string [89]), .lit (.string [85]), .lit (.string [83]), .lit (.string [80, 67]), .lit (.string []), .lit (.string []), .lit (.string [65]), .lit (.string [66]), .lit (.string [67, 67]), .lit (.string [68, 80])]
def laid_spinet_lists_registers {H : Type} : DataW H := .agg [.lit (.int .i64 10), .lit (.int .i64 8), .lit (.int .i64 9), .lit (.int .i64 11), .lit (.int .i64 1), .lit (.int .i64 2), .lit (.int .i64 3), .lit (.int .i64 5)]
def laid_spinet_page_eights {H : Type} : DataW H := .agg [.lit (.int .i64 10), .lit (.int .i64 6), .lit (.int .i64 9), .lit (.int .i64 0), .lit (.int .i64 4), .lit (.int .i64 5), .lit (.int .i64 11), .lit (.int .i64 12), .lit (.int .i64 7), .lit (.int .i64 2), .lit (.int .i64 8), .lit (.int .i64 3), .lit (.int .i64 0), .lit (.int .i64 0), .lit (.int .i64 0), .lit (.int .i64 0)]
def laid_spinet_page_changes {H : Type} : DataW H := .agg [.lit (.int .i64 13), .lit (.int .i64 0), .lit (.int .i64 0), .lit (.int .i64 14), .lit (.int .i64 15), .lit (.int .i64 0), .lit (.int .i64 16), .lit (.int .i64 17), .lit (.int .i64 18), .lit (.int .i64 19), .lit (.int .i64 20), .lit (.int .i64 0), .lit (.int .i64 21), .lit (.int .i64 22), .lit (.int .i64 32), .lit (.int .i64 23)]
def laid_spinet_page_tens {H : Type} : DataW H := .agg [.agg [.lit (.int .i64 0), .lit (.int .i64 0), .lit (.int .i64 0)], .agg [.lit (.int .i64 0), .lit (.int .i64 0), .lit (.int .i64 0)], .agg [.lit (.int .i64 39), .lit (.int .i64 0), .lit (.int .i64 0)], .agg [.lit (.int .i64 40), .lit (.int .i64 0), .lit (.int .i64 0)], .agg [.lit (.int .i64 0), .lit (.int .i64 0), .lit (.int .i64 0)], .agg [.lit (.int .i64 0), .lit (.int .i64 0), .lit (.int .i64 0)], .agg [.lit (.int .i64 36), .lit (.int .i64 7), .lit (.int .i64 0)], .agg [.lit (.int .i64 38), .lit (.int .i64 7), .lit (.int .i64 0)], .agg [.lit (.int .i64 0), .lit (.int .i64 0), .lit (.int .i64 0)], .agg [.lit (.int .i64 42), .lit (.int .i64 0), .lit (.int .i64 0)], .agg [.lit (.int .i64 43), .lit (.int .i64 1), .lit (.int .i64 0)], .agg [.lit (.int .i64 0), .lit (.int .i64 0), .lit (.int .i64 0)], .agg [.lit (.int .i64 44), .lit (.int .i64 1), .lit (.int .i64 0)], .agg [.lit (.int .i64 45), .lit (.int .i64 0), .lit (.int .i64 0)], .agg [.lit (.int .i64 46), .lit (.int .i64 8), .lit (.int .i64 0)], .agg [.lit (.int .i64 47), .lit (.int .i64 8), .lit (.int .i64 0)]]
def laid_spinet_page_thirties {H : Type} : DataW H := .agg [.agg [.lit (.int .i64 29), .lit (.int .i64 4), .lit (.int .i64 1)], .agg [.lit (.int .i64 29), .lit (.int .i64 4), .lit (.int .i64 2)], .agg [.lit (.int .i64 29), .lit (.int .i64 4), .lit (.int .i64 4)], .agg [.lit (.int .i64 29), .lit (.int .i64 4), .lit (.int .i64 3)], .agg [.lit (.int .i64 30), .lit (.int .i64 9), .lit (.int .i64 4)], .agg [.lit (.int .i64 31), .lit (.int .i64 9), .lit (.int .i64 4)], .agg [.lit (.int .i64 30), .lit (.int .i64 9), .lit (.int .i64 3)], .agg [.lit (.int .i64 31), .lit (.int .i64 9), .lit (.int .i64 3)], .agg [.lit (.int .i64 0), .lit (.int .i64 0), .lit (.int .i64 0)], .agg [.lit (.int .i64 48), .lit (.int .i64 0), .lit (.int .i64 0)], .agg [.lit (.int .i64 1), .lit (.int .i64 0), .lit (.int .i64 0)], .agg [.lit (.int .i64 49), .lit (.int .i64 0), .lit (.int .i64 0)], .agg [.lit (.int .i64 41), .lit (.int .i64 1), .lit (.int .i64 0)], .agg [.lit (.int .i64 50), .lit (.int .i64 0), .lit (.int .i64 0)], .agg [.lit (.int .i64 0), .lit (.int .i64 0), .lit (.int .i64 0)], .agg [.lit (.int .i64 0), .lit (.int .i64 0), .lit (.int .i64 0)]]
def laid_spinet_post_kinds {H : Type} : DataW H := .agg [.lit (.int .i64 7), .lit (.int .i64 8), .lit (.int .i64 9), .lit (.int .i64 10), .lit (.int .i64 0), .lit (.int .i64 5), .lit (.int .i64 4), .lit (.int .i64 0), .lit (.int .i64 2), .lit (.int .i64 3), .lit (.int .i64 0), .lit (.int .i64 6), .lit (.int .i64 11), .lit (.int .i64 12), .lit (.int .i64 0), .lit (.int .i64 13)]

/-- 'spinetlaw17.ListsReads': WHATEVER THE INPUT: true; the input reads as it did. -/
def listsReadsSpec : ChangeSpec := { name := "listsReads", fn := fun _ => fun
  | [d1, d2] => { results := [.lit (.bool true)], args := [d1, d2] }
  | _ => none }
def listsReadsRow : OpenClaim := { program := "ytfkcogccbeolfabdoor", sum := "93f19ff108e836473062b6b82c951c5b804119641ad08dd9d2ecbeddedf7fe02", func := "spinet/spinetlaw17.ListsReads", spec := "listsReads", inPlace := ["internal/bytealg.IndexByteString", "internal/bytealg.IndexString"], named := ["internal/bytealg.MaxLen", "spinet/ops.registers", "spinet/lists.registers"], apart := false, laid := [("spinet/ops.registers", laid_spinet_ops_registers), ("spinet/lists.registers", laid_spinet_lists_registers)] }
def ListsReadsSaid : Prop := listsReadsRow.holds Tryd.pinned (OpenSpec.ofChange listsReadsSpec)

/-- ITS FALSE NEIGHBOUR: 'it returns false'. Refute it at one input. -/
def listsReadsWrong : ChangeSpec := { name := "listsReads", fn := fun _ => fun
  | [d1, d2] => { results := [.lit (.bool false)], args := [d1, d2] }
  | _ => none }
def ListsReadsWrongFalsely : Prop := listsReadsRow.holds Tryd.pinned (OpenSpec.ofChange listsReadsWrong)

/-- 'spinetlaw18.InstReads': WHATEVER THE INPUT: true; the input reads as it did. -/
def instReadsSpec : ChangeSpec := { name := "instReads", fn := fun _ => fun
  | [d1, d2] => { results := [.lit (.bool true)], args := [d1, d2] }
  | _ => none }
def instReadsRow : OpenClaim := { program := "ytfkcogccbeolfabdoor", sum := "93f19ff108e836473062b6b82c951c5b804119641ad08dd9d2ecbeddedf7fe02", func := "spinet/spinetlaw18.InstReads", spec := "instReads", named := ["spinet/page.eights", "spinet/page.tens", "spinet/page.thirties", "spinet/page.changes", "spinet/post.kinds"], apart := false, laid := [("spinet/page.eights", laid_spinet_page_eights), ("spinet/page.changes", laid_spinet_page_changes), ("spinet/page.tens", laid_spinet_page_tens), ("spinet/page.thirties", laid_spinet_page_thirties), ("spinet/post.kinds", laid_spinet_post_kinds)] }
def InstReadsSaid : Prop := instReadsRow.holds Tryd.pinned (OpenSpec.ofChange instReadsSpec)

/-- ITS FALSE NEIGHBOUR: 'it returns false'. Refute it at one input. -/
def instReadsWrong : ChangeSpec := { name := "instReads", fn := fun _ => fun
  | [d1, d2] => { results := [.lit (.bool false)], args := [d1, d2] }
  | _ => none }
def InstReadsWrongFalsely : Prop := instReadsRow.holds Tryd.pinned (OpenSpec.ofChange instReadsWrong)

/-- 'spinetlaw18.InstPuts': WHATEVER THE INPUT: true; the input reads as it did. -/
def instPutsSpec : ChangeSpec := { name := "instPuts", fn := fun _ => fun
  | [d1, d2] => { results := [.lit (.bool true)], args := [d1, d2] }
  | _ => none }
def instPutsRow : OpenClaim := { program := "ytfkcogccbeolfabdoor", sum := "93f19ff108e836473062b6b82c951c5b804119641ad08dd9d2ecbeddedf7fe02", func := "spinet/spinetlaw18.InstPuts", spec := "instPuts", named := ["spinet/post.kinds", "spinet/page.eights", "spinet/page.tens", "spinet/page.thirties", "spinet/page.changes"], apart := false, laid := [("spinet/page.eights", laid_spinet_page_eights), ("spinet/page.changes", laid_spinet_page_changes), ("spinet/page.tens", laid_spinet_page_tens), ("spinet/page.thirties", laid_spinet_page_thirties), ("spinet/post.kinds", laid_spinet_post_kinds)] }
def InstPutsSaid : Prop := instPutsRow.holds Tryd.pinned (OpenSpec.ofChange instPutsSpec)

/-- ITS FALSE NEIGHBOUR: 'it returns false'. Refute it at one input. -/
def instPutsWrong : ChangeSpec := { name := "instPuts", fn := fun _ => fun
  | [d1, d2] => { results := [.lit (.bool false)], args := [d1, d2] }
  | _ => none }
def InstPutsWrongFalsely : Prop := instPutsRow.holds Tryd.pinned (OpenSpec.ofChange instPutsWrong)

/-- 'spinetlaw19.TableCounts': WHATEVER THE INPUT: true; the input reads as it did. -/
def tableCountsSpec : ChangeSpec := { name := "tableCounts", fn := fun _ => fun
  | [d1, d2, d3] => { results := [.lit (.bool true)], args := [d1, d2, d3] }
  | _ => none }
def tableCountsRow : OpenClaim := { program := "ytfkcogccbeolfabdoor", sum := "93f19ff108e836473062b6b82c951c5b804119641ad08dd9d2ecbeddedf7fe02", func := "spinet/spinetlaw19.TableCounts", spec := "tableCounts", named := ["spinet/post.kinds"], apart := false, laid := [("spinet/post.kinds", laid_spinet_post_kinds)] }
def TableCountsSaid : Prop := tableCountsRow.holds Tryd.pinned (OpenSpec.ofChange tableCountsSpec)

/-- ITS FALSE NEIGHBOUR: 'it returns false'. Refute it at one input. -/
def tableCountsWrong : ChangeSpec := { name := "tableCounts", fn := fun _ => fun
  | [d1, d2, d3] => { results := [.lit (.bool false)], args := [d1, d2, d3] }
  | _ => none }
def TableCountsWrongFalsely : Prop := tableCountsRow.holds Tryd.pinned (OpenSpec.ofChange tableCountsWrong)

/-- 'spinetlaw19.TableBounds': WHATEVER THE INPUT: true; the input reads as it did. -/
def tableBoundsSpec : ChangeSpec := { name := "tableBounds", fn := fun _ => fun
  | [d1, d2, d3] => { results := [.lit (.bool true)], args := [d1, d2, d3] }
  | _ => none }
def tableBoundsRow : OpenClaim := { program := "ytfkcogccbeolfabdoor", sum := "93f19ff108e836473062b6b82c951c5b804119641ad08dd9d2ecbeddedf7fe02", func := "spinet/spinetlaw19.TableBounds", spec := "tableBounds", named := ["spinet/post.kinds"], apart := false, laid := [("spinet/post.kinds", laid_spinet_post_kinds)] }
def TableBoundsSaid : Prop := tableBoundsRow.holds Tryd.pinned (OpenSpec.ofChange tableBoundsSpec)

/-- ITS FALSE NEIGHBOUR: 'it returns false'. Refute it at one input. -/
def tableBoundsWrong : ChangeSpec := { name := "tableBounds", fn := fun _ => fun
  | [d1, d2, d3] => { results := [.lit (.bool false)], args := [d1, d2, d3] }
  | _ => none }
def TableBoundsWrongFalsely : Prop := tableBoundsRow.holds Tryd.pinned (OpenSpec.ofChange tableBoundsWrong)

/- THE SECOND FORM. 'bulk': how many values and letters a reading holds, each counted each time it is reached (what is shared counts as often as it is met; a slice's spare places count too). A statement '..UptoSaid' is the law's where the arguments, and the package variables that the reading takes, are together of bulk at most 1048576: NARROWER than '..Said'. Prove '..Said' where nothing that the law and all that it calls make is longer than what came in: it says more and counts as full. Else prove '..UptoSaid'. A law counts once. -/
mutual
def uptoBulk {H : Type} : DataW H → Nat
  | .lit (.string bytes) => bytes.length + 1
  | .lit _ => 1
  | .nil => 1
  | .ptr d => uptoBulk d + 1
  | .slice elems spare => uptoBulkAll elems + uptoBulkAll spare + 1
  | .agg parts => uptoBulkAll parts + 1
  | .iface _ d => uptoBulk d + 1
  | .map entries => uptoBulkEntries entries + 1
  | .held _ => 1
def uptoBulkAll {H : Type} : List (DataW H) → Nat
  | [] => 0
  | d :: r => uptoBulk d + uptoBulkAll r
def uptoBulkEntries {H : Type} : List (Lit × DataW H) → Nat
  | [] => 0
  | x :: r => uptoBulkEntry x + uptoBulkEntries r
def uptoBulkEntry {H : Type} : Lit × DataW H → Nat
  | (.string bytes, d) => bytes.length + uptoBulk d + 1
  | (_, d) => uptoBulk d + 1
 end
def uptoSmall : (H : Type) → List (DataW H) → Bool := fun _ ds => decide (uptoBulkAll ds ≤ 1048576)
def OpenSpec.upto (s : _root_.Go.ChangeSpec) : _root_.Go.OpenSpec := { _root_.Go.OpenSpec.ofChange s with cond := some uptoSmall }

/-- 'spinetlaw17.ListsReads', WHERE WHAT IT READS IS OF BULK AT MOST 1048576: true; the input reads as it did. -/
def listsReadsUptoRow : OpenClaim := { program := "ytfkcogccbeolfabdoor", sum := "93f19ff108e836473062b6b82c951c5b804119641ad08dd9d2ecbeddedf7fe02", func := "spinet/spinetlaw17.ListsReads", spec := "listsReads", inPlace := ["internal/bytealg.IndexByteString", "internal/bytealg.IndexString"], named := ["internal/bytealg.MaxLen", "spinet/ops.registers", "spinet/lists.registers"], apart := false, laid := [("spinet/ops.registers", laid_spinet_ops_registers), ("spinet/lists.registers", laid_spinet_lists_registers)], narrowed := true }
def ListsReadsUptoSaid : Prop := listsReadsUptoRow.holds Tryd.pinned (OpenSpec.upto listsReadsSpec)

/-- 'spinetlaw18.InstReads', WHERE WHAT IT READS IS OF BULK AT MOST 1048576: true; the input reads as it did. -/
def instReadsUptoRow : OpenClaim := { program := "ytfkcogccbeolfabdoor", sum := "93f19ff108e836473062b6b82c951c5b804119641ad08dd9d2ecbeddedf7fe02", func := "spinet/spinetlaw18.InstReads", spec := "instReads", named := ["spinet/page.eights", "spinet/page.tens", "spinet/page.thirties", "spinet/page.changes", "spinet/post.kinds"], apart := false, laid := [("spinet/page.eights", laid_spinet_page_eights), ("spinet/page.changes", laid_spinet_page_changes), ("spinet/page.tens", laid_spinet_page_tens), ("spinet/page.thirties", laid_spinet_page_thirties), ("spinet/post.kinds", laid_spinet_post_kinds)], narrowed := true }
def InstReadsUptoSaid : Prop := instReadsUptoRow.holds Tryd.pinned (OpenSpec.upto instReadsSpec)

/-- 'spinetlaw18.InstPuts', WHERE WHAT IT READS IS OF BULK AT MOST 1048576: true; the input reads as it did. -/
def instPutsUptoRow : OpenClaim := { program := "ytfkcogccbeolfabdoor", sum := "93f19ff108e836473062b6b82c951c5b804119641ad08dd9d2ecbeddedf7fe02", func := "spinet/spinetlaw18.InstPuts", spec := "instPuts", named := ["spinet/post.kinds", "spinet/page.eights", "spinet/page.tens", "spinet/page.thirties", "spinet/page.changes"], apart := false, laid := [("spinet/page.eights", laid_spinet_page_eights), ("spinet/page.changes", laid_spinet_page_changes), ("spinet/page.tens", laid_spinet_page_tens), ("spinet/page.thirties", laid_spinet_page_thirties), ("spinet/post.kinds", laid_spinet_post_kinds)], narrowed := true }
def InstPutsUptoSaid : Prop := instPutsUptoRow.holds Tryd.pinned (OpenSpec.upto instPutsSpec)

/-- 'spinetlaw19.TableCounts', WHERE WHAT IT READS IS OF BULK AT MOST 1048576: true; the input reads as it did. -/
def tableCountsUptoRow : OpenClaim := { program := "ytfkcogccbeolfabdoor", sum := "93f19ff108e836473062b6b82c951c5b804119641ad08dd9d2ecbeddedf7fe02", func := "spinet/spinetlaw19.TableCounts", spec := "tableCounts", named := ["spinet/post.kinds"], apart := false, laid := [("spinet/post.kinds", laid_spinet_post_kinds)], narrowed := true }
def TableCountsUptoSaid : Prop := tableCountsUptoRow.holds Tryd.pinned (OpenSpec.upto tableCountsSpec)

/-- 'spinetlaw19.TableBounds', WHERE WHAT IT READS IS OF BULK AT MOST 1048576: true; the input reads as it did. -/
def tableBoundsUptoRow : OpenClaim := { program := "ytfkcogccbeolfabdoor", sum := "93f19ff108e836473062b6b82c951c5b804119641ad08dd9d2ecbeddedf7fe02", func := "spinet/spinetlaw19.TableBounds", spec := "tableBounds", named := ["spinet/post.kinds"], apart := false, laid := [("spinet/post.kinds", laid_spinet_post_kinds)], narrowed := true }
def TableBoundsUptoSaid : Prop := tableBoundsUptoRow.holds Tryd.pinned (OpenSpec.upto tableBoundsSpec)

end Rows
end Go.Proofs.YtfkcogccbeolfabDoor
