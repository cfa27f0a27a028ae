/-
  NARROWER THAN 'FOR EVERY INPUT', by the rows' own cells (each row's printed sentence says how): DisLines: laid.
  DERIVED. THE GIVEN ROWS OF THIS SEAT. 1 by the template 'for every input the law returns true; each argument reads behind the call as it read before'; 0 by the template 'total and deterministic' (their statements: YtljhfalgplihhaaGreatDoorTotals.lean).
  GIVEN WITH THE SEED: the statements are not yours to turn. If you find one false, say at which input.
  Laid BY PROGRAM, IN A SANDBOX (cutbox-rows.mjs): the forced cells as the released guide's own fill.sh prints them over the translation a3b6ce7943d37693… (all of the seat's roots in one cut). By AI agents, Wed Nov 11 2026. No macro, syntax, notation, axiom, sorry.
-/
import Derived.Test.YtljhfalgplihhaaGreatDoorChecked
import GoSem.Claim
import GoSem.ClaimJoined
import GoSem.ClaimMapViews
import Derived.JoinedTies
import Derived.KernelRfl
namespace Go.Proofs.YtljhfalgplihhaaGreatDoor
/- THE CELL 'sum', in the pinned program and in every row, IS THE sha256 OF THE DUMP (.gsa) THAT YtljhfalgplihhaaGreatDoorProg.lean LOADS. Nothing in Lean hashes anything: it is a label: what it is worth is what the hold of that sum in a sandbox is worth. -/
noncomputable def Tryz.pinned : Pinned := { name := "ytljhfalgplihhaagreatdoor", sum := "a3b6ce7943d37693d4ff10057da636b765ef1f6739220be191fb24a709a92e24", checked := Tryz.checked }
namespace Rows
def none {H : Type} : Left H := { results := [], args := [] }

/- WHAT THE LISTED PACKAGE-LEVEL VARIABLES READ AS WHEN THE CALL BEGINS. Each datum BY PROGRAM (the guide's laid-datum.mjs) off the statement by which the dump's own 'gosem.cut.vars' lays the variable. In a bare row this is a premise. The card (YtljhfalgplihhaaGreatDoorCards.lean) ties it to the program's text. -/
def laid_spinet_cond_names {H : Type} : DataW H := .agg [.lit (.string [82, 65]), .lit (.string [82, 78]), .lit (.string [72, 73]), .lit (.string [76, 83]), .lit (.string [67, 67]), .lit (.string [67, 83]), .lit (.string [78, 69]), .lit (.string [69, 81]), .lit (.string [86, 67]), .lit (.string [86, 83]), .lit (.string [80, 76]), .lit (.string [77, 73]), .lit (.string [71, 69]), .lit (.string [76, 84]), .lit (.string [71, 84]), .lit (.string [76, 69])]
def laid_spinet_page_eights {H : Type} : DataW H := .agg [.lit (.int .i64 10), .lit (.int .i64 6), .lit (.int .i64 9), .lit (.int .i64 0), .lit (.int .i64 4), .lit (.int .i64 5), .lit (.int .i64 11), .lit (.int .i64 12), .lit (.int .i64 7), .lit (.int .i64 2), .lit (.int .i64 8), .lit (.int .i64 3), .lit (.int .i64 0), .lit (.int .i64 0), .lit (.int .i64 0), .lit (.int .i64 0)]
def laid_spinet_page_changes {H : Type} : DataW H := .agg [.lit (.int .i64 13), .lit (.int .i64 0), .lit (.int .i64 0), .lit (.int .i64 14), .lit (.int .i64 15), .lit (.int .i64 0), .lit (.int .i64 16), .lit (.int .i64 17), .lit (.int .i64 18), .lit (.int .i64 19), .lit (.int .i64 20), .lit (.int .i64 0), .lit (.int .i64 21), .lit (.int .i64 22), .lit (.int .i64 32), .lit (.int .i64 23)]
def laid_spinet_page_tens {H : Type} : DataW H := .agg [.agg [.lit (.int .i64 0), .lit (.int .i64 0), .lit (.int .i64 0)], .agg [.lit (.int .i64 0), .lit (.int .i64 0), .lit (.int .i64 0)], .agg [.lit (.int .i64 39), .lit (.int .i64 0), .lit (.int .i64 0)], .agg [.lit (.int .i64 40), .lit (.int .i64 0), .lit (.int .i64 0)], .agg [.lit (.int .i64 0), .lit (.int .i64 0), .lit (.int .i64 0)], .agg [.lit (.int .i64 0), .lit (.int .i64 0), .lit (.int .i64 0)], .agg [.lit (.int .i64 36), .lit (.int .i64 7), .lit (.int .i64 0)], .agg [.lit (.int .i64 38), .lit (.int .i64 7), .lit (.int .i64 0)], .agg [.lit (.int .i64 0), .lit (.int .i64 0), .lit (.int .i64 0)], .agg [.lit (.int .i64 42), .lit (.int .i64 0), .lit (.int .i64 0)], .agg [.lit (.int .i64 43), .lit (.int .i64 1), .lit (.int .i64 0)], .agg [.lit (.int .i64 0), .lit (.int .i64 0), .lit (.int .i64 0)], .agg [.lit (.int .i64 44), .lit (.int .i64 1), .lit (.int .i64 0)], .agg [.lit (.int .i64 45), .lit (.int .i64 0), .lit (.int .i64 0)], .agg [.lit (.int .i64 46), .lit (.int .i64 8), .lit (.int .i64 0)], .agg [.lit (.int .i64 47), .lit (.int .i64 8), .lit (.int .i64 0)]]
def laid_spinet_page_thirties {H : Type} : DataW H := .agg [.agg [.lit (.int .i64 29), .lit (.int .i64 4), .lit (.int .i64 1)], .agg [.lit (.int .i64 29), .lit (.int .i64 4), .lit (.int .i64 2)], .agg [.lit (.int .i64 29), .lit (.int .i64 4), .lit (.int .i64 4)], .agg [.lit (.int .i64 29), .lit (.int .i64 4), .lit (.int .i64 3)], .agg [.lit (.int .i64 30), .lit (.int .i64 9), .lit (.int .i64 4)], .agg [.lit (.int .i64 31), .lit (.int .i64 9), .lit (.int .i64 4)], .agg [.lit (.int .i64 30), .lit (.int .i64 9), .lit (.int .i64 3)], .agg [.lit (.int .i64 31), .lit (.int .i64 9), .lit (.int .i64 3)], .agg [.lit (.int .i64 0), .lit (.int .i64 0), .lit (.int .i64 0)], .agg [.lit (.int .i64 48), .lit (.int .i64 0), .lit (.int .i64 0)], .agg [.lit (.int .i64 1), .lit (.int .i64 0), .lit (.int .i64 0)], .agg [.lit (.int .i64 49), .lit (.int .i64 0), .lit (.int .i64 0)], .agg [.lit (.int .i64 41), .lit (.int .i64 1), .lit (.int .i64 0)], .agg [.lit (.int .i64 50), .lit (.int .i64 0), .lit (.int .i64 0)], .agg [.lit (.int .i64 0), .lit (.int .i64 0), .lit (.int .i64 0)], .agg [.lit (.int .i64 0), .lit (.int .i64 0), .lit (.int .i64 0)]]
def laid_spinet_post_kinds {H : Type} : DataW H := .agg [.lit (.int .i64 7), .lit (.int .i64 8), .lit (.int .i64 9), .lit (.int .i64 10), .lit (.int .i64 0), .lit (.int .i64 5), .lit (.int .i64 4), .lit (.int .i64 0), .lit (.int .i64 2), .lit (.int .i64 3), .lit (.int .i64 0), .lit (.int .i64 6), .lit (.int .i64 11), .lit (.int .i64 12), .lit (.int .i64 0), .lit (.int .i64 13)]
def laid_spinet_ops_registers {H : Type} : DataW H := .agg [.lit (.string [68]), .lit (.string [88]), .lit (.string [89]), .lit (.string [85]), .lit (.string [83]), .lit (.string [80, 67]), .lit (.string []), .lit (.string []), .lit (.string [65]), .lit (.string [66]), .lit (.string [67, 67]), .lit (.string [68, 80])]
def laid_spinet_ops_stems {H : Type} : DataW H := .agg [.lit (.string []), .lit (.string [65, 66, 88]), .lit (.string [65, 68, 67]), .lit (.string [65, 68, 68]), .lit (.string [65, 78, 68]), .lit (.string [66, 73, 84]), .lit (.string [67, 77, 80]), .lit (.string [69, 79, 82]), .lit (.string [79, 82]), .lit (.string [83, 66, 67]), .lit (.string [83, 85, 66]), .lit (.string [76, 68]), .lit (.string [83, 84]), .lit (.string [78, 69, 71]), .lit (.string [67, 79, 77]), .lit (.string [76, 83, 82]), .lit (.string [82, 79, 82]), .lit (.string [65, 83, 82]), .lit (.string [65, 83, 76]), .lit (.string [82, 79, 76]), .lit (.string [68, 69, 67]), .lit (.string [73, 78, 67]), .lit (.string [84, 83, 84]), .lit (.string [67, 76, 82]), .lit (.string [76, 68]), .lit (.string [83, 84]), .lit (.string [65, 68, 68]), .lit (.string [83, 85, 66]), .lit (.string [67, 77, 80]), .lit (.string [76, 69, 65]), .lit (.string [80, 83, 72]), .lit (.string [80, 85, 76]), .lit (.string [74, 77, 80]), .lit (.string [74, 83, 82]), .lit (.string [66]), .lit (.string [76, 66]), .lit (.string [76, 66, 82, 65]), .lit (.string [66, 83, 82]), .lit (.string [76, 66, 83, 82]), .lit (.string [78, 79, 80]), .lit (.string [83, 89, 78, 67]), .lit (.string [67, 87, 65, 73]), .lit (.string [68, 65, 65]), .lit (.string [79, 82, 67, 67]), .lit (.string [65, 78, 68, 67, 67]), .lit (.string [83, 69, 88]), .lit (.string [69, 88, 71]), .lit (.string [84, 70, 82]), .lit (.string [82, 84, 83]), .lit (.string [82, 84, 73]), .lit (.string [77, 85, 76]), .lit (.string [83, 87, 73])]
def laid_spinet_lists_registers {H : Type} : DataW H := .agg [.lit (.int .i64 10), .lit (.int .i64 8), .lit (.int .i64 9), .lit (.int .i64 11), .lit (.int .i64 1), .lit (.int .i64 2), .lit (.int .i64 3), .lit (.int .i64 5)]

/-- 'spinetlaw42.DisLines': WHATEVER THE INPUT: true; the input reads as it did. -/
def disLinesSpec : ChangeSpec := { name := "disLines", fn := fun _ => fun
  | [d1, d2, d3] => { results := [.lit (.bool true)], args := [d1, d2, d3] }
  | _ => none }
def disLinesRow : OpenClaim := { program := "ytljhfalgplihhaagreatdoor", sum := "a3b6ce7943d37693d4ff10057da636b765ef1f6739220be191fb24a709a92e24", func := "spinet/spinetlaw42.DisLines", spec := "disLines", inPlace := ["internal/abi.NoEscape", "internal/bytealg.MakeNoZero", "internal/bytealg.IndexByteString", "internal/bytealg.IndexString"], unfollowed := true, recurses := true, named := ["spinet/page.eights", "spinet/page.tens", "spinet/page.thirties", "spinet/page.changes", "spinet/post.kinds", "spinet/ops.stems", "spinet/ops.registers", "internal/bytealg.MaxLen", "spinet/cond.names", "spinet/lists.registers"], apart := false, laid := [("spinet/cond.names", laid_spinet_cond_names), ("spinet/page.eights", laid_spinet_page_eights), ("spinet/page.changes", laid_spinet_page_changes), ("spinet/page.tens", laid_spinet_page_tens), ("spinet/page.thirties", laid_spinet_page_thirties), ("spinet/post.kinds", laid_spinet_post_kinds), ("spinet/ops.registers", laid_spinet_ops_registers), ("spinet/ops.stems", laid_spinet_ops_stems), ("spinet/lists.registers", laid_spinet_lists_registers)] }
def DisLinesSaid : Prop := disLinesRow.holds Tryz.pinned (OpenSpec.ofChange disLinesSpec)

/-- ITS FALSE NEIGHBOUR: 'it returns false'. Refute it at one input. -/
def disLinesWrong : ChangeSpec := { name := "disLines", fn := fun _ => fun
  | [d1, d2, d3] => { results := [.lit (.bool false)], args := [d1, d2, d3] }
  | _ => none }
def DisLinesWrongFalsely : Prop := disLinesRow.holds Tryz.pinned (OpenSpec.ofChange disLinesWrong)

/- THE SECOND FORM. 'bulk': how many values and letters a reading holds, each counted each time it is reached (what is shared counts as often as it is met; a slice's spare places count too). A statement '..UptoSaid' is the law's where the arguments, and the package variables that the reading takes, are together of bulk at most 1048576: NARROWER than '..Said'. Prove '..Said' where nothing that the law and all that it calls make is longer than what came in: it says more and counts as full. Else prove '..UptoSaid'. A law counts once. -/
mutual
def uptoBulk {H : Type} : DataW H → Nat
  | .lit (.string bytes) => bytes.length + 1
  | .lit _ => 1
  | .nil => 1
  | .ptr d => uptoBulk d + 1
  | .slice elems spare => uptoBulkAll elems + uptoBulkAll spare + 1
  | .agg parts => uptoBulkAll parts + 1
  | .iface _ d => uptoBulk d + 1
  | .map entries => uptoBulkEntries entries + 1
  | .held _ => 1
def uptoBulkAll {H : Type} : List (DataW H) → Nat
  | [] => 0
  | d :: r => uptoBulk d + uptoBulkAll r
def uptoBulkEntries {H : Type} : List (Lit × DataW H) → Nat
  | [] => 0
  | x :: r => uptoBulkEntry x + uptoBulkEntries r
def uptoBulkEntry {H : Type} : Lit × DataW H → Nat
  | (.string bytes, d) => bytes.length + uptoBulk d + 1
  | (_, d) => uptoBulk d + 1
 end
def uptoSmall : (H : Type) → List (DataW H) → Bool := fun _ ds => decide (uptoBulkAll ds ≤ 1048576)
def OpenSpec.upto (s : _root_.Go.ChangeSpec) : _root_.Go.OpenSpec := { _root_.Go.OpenSpec.ofChange s with cond := some uptoSmall }

/-- 'spinetlaw42.DisLines', WHERE WHAT IT READS IS OF BULK AT MOST 1048576: true; the input reads as it did. -/
def disLinesUptoRow : OpenClaim := { program := "ytljhfalgplihhaagreatdoor", sum := "a3b6ce7943d37693d4ff10057da636b765ef1f6739220be191fb24a709a92e24", func := "spinet/spinetlaw42.DisLines", spec := "disLines", inPlace := ["internal/abi.NoEscape", "internal/bytealg.MakeNoZero", "internal/bytealg.IndexByteString", "internal/bytealg.IndexString"], unfollowed := true, recurses := true, named := ["spinet/page.eights", "spinet/page.tens", "spinet/page.thirties", "spinet/page.changes", "spinet/post.kinds", "spinet/ops.stems", "spinet/ops.registers", "internal/bytealg.MaxLen", "spinet/cond.names", "spinet/lists.registers"], apart := false, laid := [("spinet/cond.names", laid_spinet_cond_names), ("spinet/page.eights", laid_spinet_page_eights), ("spinet/page.changes", laid_spinet_page_changes), ("spinet/page.tens", laid_spinet_page_tens), ("spinet/page.thirties", laid_spinet_page_thirties), ("spinet/post.kinds", laid_spinet_post_kinds), ("spinet/ops.registers", laid_spinet_ops_registers), ("spinet/ops.stems", laid_spinet_ops_stems), ("spinet/lists.registers", laid_spinet_lists_registers)], narrowed := true }
def DisLinesUptoSaid : Prop := disLinesUptoRow.holds Tryz.pinned (OpenSpec.upto disLinesSpec)

end Rows
end Go.Proofs.YtljhfalgplihhaaGreatDoor
