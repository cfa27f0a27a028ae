/-
  NARROWER THAN 'FOR EVERY INPUT', by the rows' own cells (each row's printed sentence says how): SrecPuts: laid · LineParses: laid · FlowReach: laid.
  DERIVED. THE GIVEN ROWS OF THIS SEAT. 3 by the template 'for every input the law returns true; each argument reads behind the call as it read before'; 0 by the template 'total and deterministic' (their statements: YtnmgjgeniaheoabDoorTotals.lean).
  GIVEN WITH THE SEED: the statements are not yours to turn. If you find one false, say at which input.
  Laid BY PROGRAM, IN A SANDBOX (cutbox-rows.mjs): the forced cells as the released guide's own fill.sh prints them over the translation 1a958eb057ffd311… (all of the seat's roots in one cut). By AI agents, Wed Nov 11 2026. No macro, syntax, notation, axiom, sorry.
-/
import Derived.Test.YtnmgjgeniaheoabDoorChecked
import GoSem.PinnedTables
import GoSem.Claim
import GoSem.ClaimJoined
import GoSem.ClaimMapViews
import Derived.JoinedTies
import Derived.KernelRfl
namespace Go.Proofs.YtnmgjgeniaheoabDoor
/- THE CELL 'sum', in the pinned program and in every row, IS THE sha256 OF THE DUMP (.gsa) THAT YtnmgjgeniaheoabDoorProg.lean LOADS. Nothing in Lean hashes anything: it is a label: what it is worth is what the hold of that sum in a sandbox is worth. -/
noncomputable def Tryd.pinned : Pinned := { name := "ytnmgjgeniaheoabdoor", sum := "1a958eb057ffd3113132f2fd256980ad54b7d536bdceeefd4a9fbedcc6e37988", checked := Tryd.checked }
namespace Rows
def none {H : Type} : Left H := { results := [], args := [] }

/- WHAT THE LISTED PACKAGE-LEVEL VARIABLES READ AS WHEN THE CALL BEGINS. Each datum BY PROGRAM (the guide's laid-datum.mjs) off the statement by which the dump's own 'gosem.cut.vars' lays the variable. In a bare row this is a premise. The card (YtnmgjgeniaheoabDoorCards.lean) ties it to the program's text. -/
def laid_unicode_utf8_acceptRanges {H : Type} : DataW H := .agg [.agg [.lit (.int .u8 128), .lit (.int .u8 191)], .agg [.lit (.int .u8 160), .lit (.int .u8 191)], .agg [.lit (.int .u8 128), .lit (.int .u8 159)], .agg [.lit (.int .u8 144), .lit (.int .u8 191)], .agg [.lit (.int .u8 128), .lit (.int .u8 143)], .agg [.lit (.int .u8 0), .lit (.int .u8 0)], .agg [.lit (.int .u8 0), .lit (.int .u8 0)], .agg [.lit (.int .u8 0), .lit (.int .u8 0)], .agg [.lit (.int .u8 0), .lit (.int .u8 0)], .agg [.lit (.int .u8 0), .lit (.int .u8 0)], .agg [.lit (.int .u8 0), .lit (.int .u8 0)], .agg [.lit (.int .u8 0), .lit (.int .u8 0)], .agg [.lit (.int .u8 0), .lit (.int .u8 0)], .agg [.lit (.int .u8 0), .lit (.int .u8 0)], .agg [.lit (.int .u8 0), .lit (.int .u8 0)], .agg [.lit (.int .u8 0), .lit (.int .u8 0)]]
/-- One of Go's own tables, pinned by name: the form's constant. -/
def laid_unicode_utf8_first : DataW Unit := Go.Pinned.utf8First
def laid_spinet_ops_registers {H : Type} : DataW H := .agg [.lit (.string [68]), .lit (.string [88]), .lit (.string [89]), .lit (.string [85]), .lit (.string [83]), .lit (.string [80, 67]), .lit (.string []), .lit (.string []), .lit (.string [65]), .lit (.string [66]), .lit (.string [67, 67]), .lit (.string [68, 80])]
def laid_spinet_page_eights {H : Type} : DataW H := .agg [.lit (.int .i64 10), .lit (.int .i64 6), .lit (.int .i64 9), .lit (.int .i64 0), .lit (.int .i64 4), .lit (.int .i64 5), .lit (.int .i64 11), .lit (.int .i64 12), .lit (.int .i64 7), .lit (.int .i64 2), .lit (.int .i64 8), .lit (.int .i64 3), .lit (.int .i64 0), .lit (.int .i64 0), .lit (.int .i64 0), .lit (.int .i64 0)]
def laid_spinet_page_changes {H : Type} : DataW H := .agg [.lit (.int .i64 13), .lit (.int .i64 0), .lit (.int .i64 0), .lit (.int .i64 14), .lit (.int .i64 15), .lit (.int .i64 0), .lit (.int .i64 16), .lit (.int .i64 17), .lit (.int .i64 18), .lit (.int .i64 19), .lit (.int .i64 20), .lit (.int .i64 0), .lit (.int .i64 21), .lit (.int .i64 22), .lit (.int .i64 32), .lit (.int .i64 23)]
def laid_spinet_page_tens {H : Type} : DataW H := .agg [.agg [.lit (.int .i64 0), .lit (.int .i64 0), .lit (.int .i64 0)], .agg [.lit (.int .i64 0), .lit (.int .i64 0), .lit (.int .i64 0)], .agg [.lit (.int .i64 39), .lit (.int .i64 0), .lit (.int .i64 0)], .agg [.lit (.int .i64 40), .lit (.int .i64 0), .lit (.int .i64 0)], .agg [.lit (.int .i64 0), .lit (.int .i64 0), .lit (.int .i64 0)], .agg [.lit (.int .i64 0), .lit (.int .i64 0), .lit (.int .i64 0)], .agg [.lit (.int .i64 36), .lit (.int .i64 7), .lit (.int .i64 0)], .agg [.lit (.int .i64 38), .lit (.int .i64 7), .lit (.int .i64 0)], .agg [.lit (.int .i64 0), .lit (.int .i64 0), .lit (.int .i64 0)], .agg [.lit (.int .i64 42), .lit (.int .i64 0), .lit (.int .i64 0)], .agg [.lit (.int .i64 43), .lit (.int .i64 1), .lit (.int .i64 0)], .agg [.lit (.int .i64 0), .lit (.int .i64 0), .lit (.int .i64 0)], .agg [.lit (.int .i64 44), .lit (.int .i64 1), .lit (.int .i64 0)], .agg [.lit (.int .i64 45), .lit (.int .i64 0), .lit (.int .i64 0)], .agg [.lit (.int .i64 46), .lit (.int .i64 8), .lit (.int .i64 0)], .agg [.lit (.int .i64 47), .lit (.int .i64 8), .lit (.int .i64 0)]]
def laid_spinet_page_thirties {H : Type} : DataW H := .agg [.agg [.lit (.int .i64 29), .lit (.int .i64 4), .lit (.int .i64 1)], .agg [.lit (.int .i64 29), .lit (.int .i64 4), .lit (.int .i64 2)], .agg [.lit (.int .i64 29), .lit (.int .i64 4), .lit (.int .i64 4)], .agg [.lit (.int .i64 29), .lit (.int .i64 4), .lit (.int .i64 3)], .agg [.lit (.int .i64 30), .lit (.int .i64 9), .lit (.int .i64 4)], .agg [.lit (.int .i64 31), .lit (.int .i64 9), .lit (.int .i64 4)], .agg [.lit (.int .i64 30), .lit (.int .i64 9), .lit (.int .i64 3)], .agg [.lit (.int .i64 31), .lit (.int .i64 9), .lit (.int .i64 3)], .agg [.lit (.int .i64 0), .lit (.int .i64 0), .lit (.int .i64 0)], .agg [.lit (.int .i64 48), .lit (.int .i64 0), .lit (.int .i64 0)], .agg [.lit (.int .i64 1), .lit (.int .i64 0), .lit (.int .i64 0)], .agg [.lit (.int .i64 49), .lit (.int .i64 0), .lit (.int .i64 0)], .agg [.lit (.int .i64 41), .lit (.int .i64 1), .lit (.int .i64 0)], .agg [.lit (.int .i64 50), .lit (.int .i64 0), .lit (.int .i64 0)], .agg [.lit (.int .i64 0), .lit (.int .i64 0), .lit (.int .i64 0)], .agg [.lit (.int .i64 0), .lit (.int .i64 0), .lit (.int .i64 0)]]
def laid_spinet_post_kinds {H : Type} : DataW H := .agg [.lit (.int .i64 7), .lit (.int .i64 8), .lit (.int .i64 9), .lit (.int .i64 10), .lit (.int .i64 0), .lit (.int .i64 5), .lit (.int .i64 4), .lit (.int .i64 0), .lit (.int .i64 2), .lit (.int .i64 3), .lit (.int .i64 0), .lit (.int .i64 6), .lit (.int .i64 11), .lit (.int .i64 12), .lit (.int .i64 0), .lit (.int .i64 13)]

/-- 'spinetlaw40.SrecPuts': WHATEVER THE INPUT: true; the input reads as it did. -/
def srecPutsSpec : ChangeSpec := { name := "srecPuts", fn := fun _ => fun
  | [d1, d2] => { results := [.lit (.bool true)], args := [d1, d2] }
  | _ => none }
def srecPutsRow : OpenClaim := { program := "ytnmgjgeniaheoabdoor", sum := "1a958eb057ffd3113132f2fd256980ad54b7d536bdceeefd4a9fbedcc6e37988", func := "spinet/spinetlaw40.SrecPuts", spec := "srecPuts", inPlace := ["internal/abi.NoEscape", "internal/bytealg.IndexByteString", "internal/bytealg.IndexString"], unfollowed := true, recurses := true, named := ["unicode/utf8.first", "unicode/utf8.acceptRanges", "internal/bytealg.MaxLen"], apart := false, laid := [("unicode/utf8.acceptRanges", laid_unicode_utf8_acceptRanges), ("unicode/utf8.first", laid_unicode_utf8_first)] }
def SrecPutsSaid : Prop := srecPutsRow.holds Tryd.pinned (OpenSpec.ofChange srecPutsSpec)

/-- ITS FALSE NEIGHBOUR: 'it returns false'. Refute it at one input. -/
def srecPutsWrong : ChangeSpec := { name := "srecPuts", fn := fun _ => fun
  | [d1, d2] => { results := [.lit (.bool false)], args := [d1, d2] }
  | _ => none }
def SrecPutsWrongFalsely : Prop := srecPutsRow.holds Tryd.pinned (OpenSpec.ofChange srecPutsWrong)

/-- 'spinetlaw45.LineParses': WHATEVER THE INPUT: true; the input reads as it did. -/
def lineParsesSpec : ChangeSpec := { name := "lineParses", fn := fun _ => fun
  | [d] => { results := [.lit (.bool true)], args := [d] }
  | _ => none }
def lineParsesRow : OpenClaim := { program := "ytnmgjgeniaheoabdoor", sum := "1a958eb057ffd3113132f2fd256980ad54b7d536bdceeefd4a9fbedcc6e37988", func := "spinet/spinetlaw45.LineParses", spec := "lineParses", named := ["spinet/ops.registers"], apart := false, laid := [("spinet/ops.registers", laid_spinet_ops_registers)] }
def LineParsesSaid : Prop := lineParsesRow.holds Tryd.pinned (OpenSpec.ofChange lineParsesSpec)

/-- ITS FALSE NEIGHBOUR: 'it returns false'. Refute it at one input. -/
def lineParsesWrong : ChangeSpec := { name := "lineParses", fn := fun _ => fun
  | [d] => { results := [.lit (.bool false)], args := [d] }
  | _ => none }
def LineParsesWrongFalsely : Prop := lineParsesRow.holds Tryd.pinned (OpenSpec.ofChange lineParsesWrong)

/-- 'spinetlaw54.FlowReach': WHATEVER THE INPUT: true; the input reads as it did. -/
def flowReachSpec : ChangeSpec := { name := "flowReach", fn := fun _ => fun
  | [d1, d2, d3] => { results := [.lit (.bool true)], args := [d1, d2, d3] }
  | _ => none }
def flowReachRow : OpenClaim := { program := "ytnmgjgeniaheoabdoor", sum := "1a958eb057ffd3113132f2fd256980ad54b7d536bdceeefd4a9fbedcc6e37988", func := "spinet/spinetlaw54.FlowReach", spec := "flowReach", unfollowed := true, recurses := true, named := ["spinet/page.eights", "spinet/page.tens", "spinet/page.thirties", "spinet/page.changes", "spinet/post.kinds"], apart := false, laid := [("spinet/page.eights", laid_spinet_page_eights), ("spinet/page.changes", laid_spinet_page_changes), ("spinet/page.tens", laid_spinet_page_tens), ("spinet/page.thirties", laid_spinet_page_thirties), ("spinet/post.kinds", laid_spinet_post_kinds)] }
def FlowReachSaid : Prop := flowReachRow.holds Tryd.pinned (OpenSpec.ofChange flowReachSpec)

/-- ITS FALSE NEIGHBOUR: 'it returns false'. Refute it at one input. -/
def flowReachWrong : ChangeSpec := { name := "flowReach", fn := fun _ => fun
  | [d1, d2, d3] => { results := [.lit (.bool false)], args := [d1, d2, d3] }
  | _ => none }
def FlowReachWrongFalsely : Prop := flowReachRow.holds Tryd.pinned (OpenSpec.ofChange flowReachWrong)

/- THE SECOND FORM. 'bulk': how many values and letters a reading holds, each counted each time it is reached (what is shared counts as often as it is met; a slice's spare places count too). A statement '..UptoSaid' is the law's where the arguments, and the package variables that the reading takes, are together of bulk at most 1048576: NARROWER than '..Said'. Prove '..Said' where nothing that the law and all that it calls make is longer than what came in: it says more and counts as full. Else prove '..UptoSaid'. A law counts once. -/
mutual
def uptoBulk {H : Type} : DataW H → Nat
  | .lit (.string bytes) => bytes.length + 1
  | .lit _ => 1
  | .nil => 1
  | .ptr d => uptoBulk d + 1
  | .slice elems spare => uptoBulkAll elems + uptoBulkAll spare + 1
  | .agg parts => uptoBulkAll parts + 1
  | .iface _ d => uptoBulk d + 1
  | .map entries => uptoBulkEntries entries + 1
  | .held _ => 1
def uptoBulkAll {H : Type} : List (DataW H) → Nat
  | [] => 0
  | d :: r => uptoBulk d + uptoBulkAll r
def uptoBulkEntries {H : Type} : List (Lit × DataW H) → Nat
  | [] => 0
  | x :: r => uptoBulkEntry x + uptoBulkEntries r
def uptoBulkEntry {H : Type} : Lit × DataW H → Nat
  | (.string bytes, d) => bytes.length + uptoBulk d + 1
  | (_, d) => uptoBulk d + 1
 end
def uptoSmall : (H : Type) → List (DataW H) → Bool := fun _ ds => decide (uptoBulkAll ds ≤ 1048576)
def OpenSpec.upto (s : _root_.Go.ChangeSpec) : _root_.Go.OpenSpec := { _root_.Go.OpenSpec.ofChange s with cond := some uptoSmall }

/-- 'spinetlaw40.SrecPuts', WHERE WHAT IT READS IS OF BULK AT MOST 1048576: true; the input reads as it did. -/
def srecPutsUptoRow : OpenClaim := { program := "ytnmgjgeniaheoabdoor", sum := "1a958eb057ffd3113132f2fd256980ad54b7d536bdceeefd4a9fbedcc6e37988", func := "spinet/spinetlaw40.SrecPuts", spec := "srecPuts", inPlace := ["internal/abi.NoEscape", "internal/bytealg.IndexByteString", "internal/bytealg.IndexString"], unfollowed := true, recurses := true, named := ["unicode/utf8.first", "unicode/utf8.acceptRanges", "internal/bytealg.MaxLen"], apart := false, laid := [("unicode/utf8.acceptRanges", laid_unicode_utf8_acceptRanges), ("unicode/utf8.first", laid_unicode_utf8_first)], narrowed := true }
def SrecPutsUptoSaid : Prop := srecPutsUptoRow.holds Tryd.pinned (OpenSpec.upto srecPutsSpec)

/-- 'spinetlaw45.LineParses', WHERE WHAT IT READS IS OF BULK AT MOST 1048576: true; the input reads as it did. -/
def lineParsesUptoRow : OpenClaim := { program := "ytnmgjgeniaheoabdoor", sum := "1a958eb057ffd3113132f2fd256980ad54b7d536bdceeefd4a9fbedcc6e37988", func := "spinet/spinetlaw45.LineParses", spec := "lineParses", named := ["spinet/ops.registers"], apart := false, laid := [("spinet/ops.registers", laid_spinet_ops_registers)], narrowed := true }
def LineParsesUptoSaid : Prop := lineParsesUptoRow.holds Tryd.pinned (OpenSpec.upto lineParsesSpec)

/-- 'spinetlaw54.FlowReach', WHERE WHAT IT READS IS OF BULK AT MOST 1048576: true; the input reads as it did. -/
def flowReachUptoRow : OpenClaim := { program := "ytnmgjgeniaheoabdoor", sum := "1a958eb057ffd3113132f2fd256980ad54b7d536bdceeefd4a9fbedcc6e37988", func := "spinet/spinetlaw54.FlowReach", spec := "flowReach", unfollowed := true, recurses := true, named := ["spinet/page.eights", "spinet/page.tens", "spinet/page.thirties", "spinet/page.changes", "spinet/post.kinds"], apart := false, laid := [("spinet/page.eights", laid_spinet_page_eights), ("spinet/page.changes", laid_spinet_page_changes), ("spinet/page.tens", laid_spinet_page_tens), ("spinet/page.thirties", laid_spinet_page_thirties), ("spinet/post.kinds", laid_spinet_post_kinds)], narrowed := true }
def FlowReachUptoSaid : Prop := flowReachUptoRow.holds Tryd.pinned (OpenSpec.upto flowReachSpec)

end Rows
end Go.Proofs.YtnmgjgeniaheoabDoor
