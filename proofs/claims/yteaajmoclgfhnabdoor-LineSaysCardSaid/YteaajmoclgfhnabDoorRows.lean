/-
  NARROWER THAN 'FOR EVERY INPUT', by the rows' own cells (each row's printed sentence says how): LinePairs: laid · LineParses: laid · LineSays: laid · PinsTexts: laid.
  DERIVED. THE GIVEN ROWS OF THIS SEAT. 4 by the template 'for every input the law returns true; each argument reads behind the call as it read before'; 0 by the template 'total and deterministic' (their statements: YteaajmoclgfhnabDoorTotals.lean).
  GIVEN WITH THE SEED: the statements are not yours to turn. If you find one false, say at which input.
  Laid BY PROGRAM, IN A SANDBOX (cutbox-rows.mjs): the forced cells as the released guide's own fill.sh prints them over the translation 0c0413eb126621c8… (all of the seat's roots in one cut). By AI agents, Wed Nov 11 2026. No macro, syntax, notation, axiom, sorry.
-/
import Derived.Test.YteaajmoclgfhnabDoorChecked
import GoSem.PinnedTables
import GoSem.Claim
import GoSem.ClaimJoined
import GoSem.ClaimMapViews
import Derived.JoinedTies
import Derived.KernelRfl
namespace Go.Proofs.YteaajmoclgfhnabDoor
/- THE CELL 'sum', in the pinned program and in every row, IS THE sha256 OF THE DUMP (.gsa) THAT YteaajmoclgfhnabDoorProg.lean LOADS. Nothing in Lean hashes anything: it is a label: what it is worth is what the hold of that sum in a sandbox is worth. -/
noncomputable def Tryd.pinned : Pinned := { name := "yteaajmoclgfhnabdoor", sum := "0c0413eb126621c882f0d76cf62912e8f1efa323b1775a7fd3dfdd86364e769d", checked := Tryd.checked }
namespace Rows
def none {H : Type} : Left H := { results := [], args := [] }

/- WHAT THE LISTED PACKAGE-LEVEL VARIABLES READ AS WHEN THE CALL BEGINS. Each datum BY PROGRAM (the guide's laid-datum.mjs) off the statement by which the dump's own 'gosem.cut.vars' lays the variable. In a bare row this is a premise. The card (YteaajmoclgfhnabDoorCards.lean) ties it to the program's text. -/
def laid_spinet_ops_registers {H : Type} : DataW H := .agg [.lit (.string [68]), .lit (.string [88]), .lit (.string [89]), .lit (.string [85]), .lit (.string [83]), .lit (.string [80, 67]), .lit (.string []), .lit (.string []), .lit (.string [65]), .lit (.string [66]), .lit (.string [67, 67]), .lit (.string [68, 80])]
def laid_spinet_post_kinds {H : Type} : DataW H := .agg [.lit (.int .i64 7), .lit (.int .i64 8), .lit (.int .i64 9), .lit (.int .i64 10), .lit (.int .i64 0), .lit (.int .i64 5), .lit (.int .i64 4), .lit (.int .i64 0), .lit (.int .i64 2), .lit (.int .i64 3), .lit (.int .i64 0), .lit (.int .i64 6), .lit (.int .i64 11), .lit (.int .i64 12), .lit (.int .i64 0), .lit (.int .i64 13)]
def laid_unicode_utf8_acceptRanges {H : Type} : DataW H := .agg [.agg [.lit (.int .u8 128), .lit (.int .u8 191)], .agg [.lit (.int .u8 160), .lit (.int .u8 191)], .agg [.lit (.int .u8 128), .lit (.int .u8 159)], .agg [.lit (.int .u8 144), .lit (.int .u8 191)], .agg [.lit (.int .u8 128), .lit (.int .u8 143)], .agg [.lit (.int .u8 0), .lit (.int .u8 0)], .agg [.lit (.int .u8 0), .lit (.int .u8 0)], .agg [.lit (.int .u8 0), .lit (.int .u8 0)], .agg [.lit (.int .u8 0), .lit (.int .u8 0)], .agg [.lit (.int .u8 0), .lit (.int .u8 0)], .agg [.lit (.int .u8 0), .lit (.int .u8 0)], .agg [.lit (.int .u8 0), .lit (.int .u8 0)], .agg [.lit (.int .u8 0), .lit (.int .u8 0)], .agg [.lit (.int .u8 0), .lit (.int .u8 0)], .agg [.lit (.int .u8 0), .lit (.int .u8 0)], .agg [.lit (.int .u8 0), .lit (.int .u8 0)]]
/-- One of Go's own tables, pinned by name: the form's constant. -/
def laid_unicode_utf8_first : DataW Unit := Go.Pinned.utf8First

/-- 'spinetlaw45.LinePairs': WHATEVER THE INPUT: true; the input reads as it did. -/
def linePairsSpec : ChangeSpec := { name := "linePairs", fn := fun _ => fun
  | [d] => { results := [.lit (.bool true)], args := [d] }
  | _ => none }
def linePairsRow : OpenClaim := { program := "yteaajmoclgfhnabdoor", sum := "0c0413eb126621c882f0d76cf62912e8f1efa323b1775a7fd3dfdd86364e769d", func := "spinet/spinetlaw45.LinePairs", spec := "linePairs", inPlace := ["internal/bytealg.IndexByteString", "internal/bytealg.IndexString"], named := ["internal/bytealg.MaxLen", "spinet/ops.registers"], apart := false, laid := [("spinet/ops.registers", laid_spinet_ops_registers)] }
def LinePairsSaid : Prop := linePairsRow.holds Tryd.pinned (OpenSpec.ofChange linePairsSpec)

/-- ITS FALSE NEIGHBOUR: 'it returns false'. Refute it at one input. -/
def linePairsWrong : ChangeSpec := { name := "linePairs", fn := fun _ => fun
  | [d] => { results := [.lit (.bool false)], args := [d] }
  | _ => none }
def LinePairsWrongFalsely : Prop := linePairsRow.holds Tryd.pinned (OpenSpec.ofChange linePairsWrong)

/-- 'spinetlaw45.LineParses': WHATEVER THE INPUT: true; the input reads as it did. -/
def lineParsesSpec : ChangeSpec := { name := "lineParses", fn := fun _ => fun
  | [d] => { results := [.lit (.bool true)], args := [d] }
  | _ => none }
def lineParsesRow : OpenClaim := { program := "yteaajmoclgfhnabdoor", sum := "0c0413eb126621c882f0d76cf62912e8f1efa323b1775a7fd3dfdd86364e769d", func := "spinet/spinetlaw45.LineParses", spec := "lineParses", named := ["spinet/ops.registers"], apart := false, laid := [("spinet/ops.registers", laid_spinet_ops_registers)] }
def LineParsesSaid : Prop := lineParsesRow.holds Tryd.pinned (OpenSpec.ofChange lineParsesSpec)

/-- ITS FALSE NEIGHBOUR: 'it returns false'. Refute it at one input. -/
def lineParsesWrong : ChangeSpec := { name := "lineParses", fn := fun _ => fun
  | [d] => { results := [.lit (.bool false)], args := [d] }
  | _ => none }
def LineParsesWrongFalsely : Prop := lineParsesRow.holds Tryd.pinned (OpenSpec.ofChange lineParsesWrong)

/-- 'spinetlaw45.LineSays': WHATEVER THE INPUT: true; the input reads as it did. -/
def lineSaysSpec : ChangeSpec := { name := "lineSays", fn := fun _ => fun
  | [d] => { results := [.lit (.bool true)], args := [d] }
  | _ => none }
def lineSaysRow : OpenClaim := { program := "yteaajmoclgfhnabdoor", sum := "0c0413eb126621c882f0d76cf62912e8f1efa323b1775a7fd3dfdd86364e769d", func := "spinet/spinetlaw45.LineSays", spec := "lineSays", named := ["spinet/ops.registers", "spinet/post.kinds"], apart := false, laid := [("spinet/post.kinds", laid_spinet_post_kinds), ("spinet/ops.registers", laid_spinet_ops_registers)] }
def LineSaysSaid : Prop := lineSaysRow.holds Tryd.pinned (OpenSpec.ofChange lineSaysSpec)

/-- ITS FALSE NEIGHBOUR: 'it returns false'. Refute it at one input. -/
def lineSaysWrong : ChangeSpec := { name := "lineSays", fn := fun _ => fun
  | [d] => { results := [.lit (.bool false)], args := [d] }
  | _ => none }
def LineSaysWrongFalsely : Prop := lineSaysRow.holds Tryd.pinned (OpenSpec.ofChange lineSaysWrong)

/-- 'spinetlaw31.PinsTexts': WHATEVER THE INPUT: true; the input reads as it did. -/
def pinsTextsSpec : ChangeSpec := { name := "pinsTexts", fn := fun _ => fun
  | [d] => { results := [.lit (.bool true)], args := [d] }
  | _ => none }
def pinsTextsRow : OpenClaim := { program := "yteaajmoclgfhnabdoor", sum := "0c0413eb126621c882f0d76cf62912e8f1efa323b1775a7fd3dfdd86364e769d", func := "spinet/spinetlaw31.PinsTexts", spec := "pinsTexts", inPlace := ["internal/bytealg.IndexByteString", "internal/bytealg.IndexString", "internal/abi.NoEscape", "internal/bytealg.MakeNoZero"], unfollowed := true, recurses := true, named := ["internal/bytealg.MaxLen", "unicode/utf8.first", "unicode/utf8.acceptRanges"], apart := false, laid := [("unicode/utf8.acceptRanges", laid_unicode_utf8_acceptRanges), ("unicode/utf8.first", laid_unicode_utf8_first)] }
def PinsTextsSaid : Prop := pinsTextsRow.holds Tryd.pinned (OpenSpec.ofChange pinsTextsSpec)

/-- ITS FALSE NEIGHBOUR: 'it returns false'. Refute it at one input. -/
def pinsTextsWrong : ChangeSpec := { name := "pinsTexts", fn := fun _ => fun
  | [d] => { results := [.lit (.bool false)], args := [d] }
  | _ => none }
def PinsTextsWrongFalsely : Prop := pinsTextsRow.holds Tryd.pinned (OpenSpec.ofChange pinsTextsWrong)

/- THE SECOND FORM. 'bulk': how many values and letters a reading holds, each counted each time it is reached (what is shared counts as often as it is met; a slice's spare places count too). A statement '..UptoSaid' is the law's where the arguments, and the package variables that the reading takes, are together of bulk at most 1048576: NARROWER than '..Said'. Prove '..Said' where nothing that the law and all that it calls make is longer than what came in: it says more and counts as full. Else prove '..UptoSaid'. A law counts once. -/
mutual
def uptoBulk {H : Type} : DataW H → Nat
  | .lit (.string bytes) => bytes.length + 1
  | .lit _ => 1
  | .nil => 1
  | .ptr d => uptoBulk d + 1
  | .slice elems spare => uptoBulkAll elems + uptoBulkAll spare + 1
  | .agg parts => uptoBulkAll parts + 1
  | .iface _ d => uptoBulk d + 1
  | .map entries => uptoBulkEntries entries + 1
  | .held _ => 1
def uptoBulkAll {H : Type} : List (DataW H) → Nat
  | [] => 0
  | d :: r => uptoBulk d + uptoBulkAll r
def uptoBulkEntries {H : Type} : List (Lit × DataW H) → Nat
  | [] => 0
  | x :: r => uptoBulkEntry x + uptoBulkEntries r
def uptoBulkEntry {H : Type} : Lit × DataW H → Nat
  | (.string bytes, d) => bytes.length + uptoBulk d + 1
  | (_, d) => uptoBulk d + 1
 end
def uptoSmall : (H : Type) → List (DataW H) → Bool := fun _ ds => decide (uptoBulkAll ds ≤ 1048576)
def OpenSpec.upto (s : _root_.Go.ChangeSpec) : _root_.Go.OpenSpec := { _root_.Go.OpenSpec.ofChange s with cond := some uptoSmall }

/-- 'spinetlaw45.LinePairs', WHERE WHAT IT READS IS OF BULK AT MOST 1048576: true; the input reads as it did. -/
def linePairsUptoRow : OpenClaim := { program := "yteaajmoclgfhnabdoor", sum := "0c0413eb126621c882f0d76cf62912e8f1efa323b1775a7fd3dfdd86364e769d", func := "spinet/spinetlaw45.LinePairs", spec := "linePairs", inPlace := ["internal/bytealg.IndexByteString", "internal/bytealg.IndexString"], named := ["internal/bytealg.MaxLen", "spinet/ops.registers"], apart := false, laid := [("spinet/ops.registers", laid_spinet_ops_registers)], narrowed := true }
def LinePairsUptoSaid : Prop := linePairsUptoRow.holds Tryd.pinned (OpenSpec.upto linePairsSpec)

/-- 'spinetlaw45.LineParses', WHERE WHAT IT READS IS OF BULK AT MOST 1048576: true; the input reads as it did. -/
def lineParsesUptoRow : OpenClaim := { program := "yteaajmoclgfhnabdoor", sum := "0c0413eb126621c882f0d76cf62912e8f1efa323b1775a7fd3dfdd86364e769d", func := "spinet/spinetlaw45.LineParses", spec := "lineParses", named := ["spinet/ops.registers"], apart := false, laid := [("spinet/ops.registers", laid_spinet_ops_registers)], narrowed := true }
def LineParsesUptoSaid : Prop := lineParsesUptoRow.holds Tryd.pinned (OpenSpec.upto lineParsesSpec)

/-- 'spinetlaw45.LineSays', WHERE WHAT IT READS IS OF BULK AT MOST 1048576: true; the input reads as it did. -/
def lineSaysUptoRow : OpenClaim := { program := "yteaajmoclgfhnabdoor", sum := "0c0413eb126621c882f0d76cf62912e8f1efa323b1775a7fd3dfdd86364e769d", func := "spinet/spinetlaw45.LineSays", spec := "lineSays", named := ["spinet/ops.registers", "spinet/post.kinds"], apart := false, laid := [("spinet/post.kinds", laid_spinet_post_kinds), ("spinet/ops.registers", laid_spinet_ops_registers)], narrowed := true }
def LineSaysUptoSaid : Prop := lineSaysUptoRow.holds Tryd.pinned (OpenSpec.upto lineSaysSpec)

/-- 'spinetlaw31.PinsTexts', WHERE WHAT IT READS IS OF BULK AT MOST 1048576: true; the input reads as it did. -/
def pinsTextsUptoRow : OpenClaim := { program := "yteaajmoclgfhnabdoor", sum := "0c0413eb126621c882f0d76cf62912e8f1efa323b1775a7fd3dfdd86364e769d", func := "spinet/spinetlaw31.PinsTexts", spec := "pinsTexts", inPlace := ["internal/bytealg.IndexByteString", "internal/bytealg.IndexString", "internal/abi.NoEscape", "internal/bytealg.MakeNoZero"], unfollowed := true, recurses := true, named := ["internal/bytealg.MaxLen", "unicode/utf8.first", "unicode/utf8.acceptRanges"], apart := false, laid := [("unicode/utf8.acceptRanges", laid_unicode_utf8_acceptRanges), ("unicode/utf8.first", laid_unicode_utf8_first)], narrowed := true }
def PinsTextsUptoSaid : Prop := pinsTextsUptoRow.holds Tryd.pinned (OpenSpec.upto pinsTextsSpec)

end Rows
end Go.Proofs.YteaajmoclgfhnabDoor
