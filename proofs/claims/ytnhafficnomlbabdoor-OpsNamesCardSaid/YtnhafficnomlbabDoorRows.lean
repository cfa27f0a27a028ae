/-
  NARROWER THAN 'FOR EVERY INPUT', by the rows' own cells (each row's printed sentence says how): PinsTexts: laid · PinsReads: laid · OpsNames: laid · OpsFinds: laid.
  DERIVED. THE GIVEN ROWS OF THIS SEAT. 4 by the template 'for every input the law returns true; each argument reads behind the call as it read before'; 0 by the template 'total and deterministic' (their statements: YtnhafficnomlbabDoorTotals.lean).
  GIVEN WITH THE SEED: the statements are not yours to turn. If you find one false, say at which input.
  Laid BY PROGRAM, IN A SANDBOX (cutbox-rows.mjs): the forced cells as the released guide's own fill.sh prints them over the translation c0f86bcb1d76819a… (all of the seat's roots in one cut). By AI agents, Wed Nov 11 2026. No macro, syntax, notation, axiom, sorry.
-/
import Derived.Test.YtnhafficnomlbabDoorChecked
import GoSem.PinnedTables
import GoSem.Claim
import GoSem.ClaimJoined
import GoSem.ClaimMapViews
import Derived.JoinedTies
import Derived.KernelRfl
namespace Go.Proofs.YtnhafficnomlbabDoor
/- THE CELL 'sum', in the pinned program and in every row, IS THE sha256 OF THE DUMP (.gsa) THAT YtnhafficnomlbabDoorProg.lean LOADS. Nothing in Lean hashes anything: it is a label: what it is worth is what the hold of that sum in a sandbox is worth. -/
noncomputable def Tryd.pinned : Pinned := { name := "ytnhafficnomlbabdoor", sum := "c0f86bcb1d76819a0944651a6027570914a243240ce36a91c66d90c240b2a70a", checked := Tryd.checked }
namespace Rows
def none {H : Type} : Left H := { results := [], args := [] }

/- WHAT THE LISTED PACKAGE-LEVEL VARIABLES READ AS WHEN THE CALL BEGINS. Each datum BY PROGRAM (the guide's laid-datum.mjs) off the statement by which the dump's own 'gosem.cut.vars' lays the variable. In a bare row this is a premise. The card (YtnhafficnomlbabDoorCards.lean) ties it to the program's text. -/
def laid_unicode_utf8_acceptRanges {H : Type} : DataW H := .agg [.agg [.lit (.int .u8 128), .lit (.int .u8 191)], .agg [.lit (.int .u8 160), .lit (.int .u8 191)], .agg [.lit (.int .u8 128), .lit (.int .u8 159)], .agg [.lit (.int .u8 144), .lit (.int .u8 191)], .agg [.lit (.int .u8 128), .lit (.int .u8 143)], .agg [.lit (.int .u8 0), .lit (.int .u8 0)], .agg [.lit (.int .u8 0), .lit (.int .u8 0)], .agg [.lit (.int .u8 0), .lit (.int .u8 0)], .agg [.lit (.int .u8 0), .lit (.int .u8 0)], .agg [.lit (.int .u8 0), .lit (.int .u8 0)], .agg [.lit (.int .u8 0), .lit (.int .u8 0)], .agg [.lit (.int .u8 0), .lit (.int .u8 0)], .agg [.lit (.int .u8 0), .lit (.int .u8 0)], .agg [.lit (.int .u8 0), .lit (.int .u8 0)], .agg [.lit (.int .u8 0), .lit (.int .u8 0)], .agg [.lit (.int .u8 0), .lit (.int .u8 0)]]
/-- One of Go's own tables, pinned by name: the form's constant. -/
def laid_unicode_utf8_first : DataW Unit := Go.Pinned.utf8First
def laid_spinet_cond_names {H : Type} : DataW H := .agg [.lit (.string [82, 65]), .lit (.string [82, 78]), .lit (.string [72, 73]), .lit (.string [76, 83]), .lit (.string [67, 67]), .lit (.string [67, 83]), .lit (.string [78, 69]), .lit (.string [69, 81]), .lit (.string [86, 67]), .lit (.string [86, 83]), .lit (.string [80, 76]), .lit (.string [77, 73]), .lit (.string [71, 69]), .lit (.string [76, 84]), .lit (.string [71, 84]), .lit (.string [76, 69])]
def laid_spinet_ops_registers {H : Type} : DataW H := .agg [.lit (.string [68]), .lit (.string [88]), .lit (.string [89]), .lit (.string [85]), .lit (.string [83]), .lit (.string [80, 67]), .lit (.string []), .lit (.string []), .lit (.string [65]), .lit (.string [66]), .lit (.string [67, 67]), .lit (.string [68, 80])]
def laid_spinet_ops_stems {H : Type} : DataW H := .agg [.lit (.string []), .lit (.string [65, 66, 88]), .lit (.string [65, 68, 67]), .lit (.string [65, 68, 68]), .lit (.string [65, 78, 68]), .lit (.string [66, 73, 84]), .lit (.string [67, 77, 80]), .lit (.string [69, 79, 82]), .lit (.string [79, 82]), .lit (.string [83, 66, 67]), .lit (.string [83, 85, 66]), .lit (.string [76, 68]), .lit (.string [83, 84]), .lit (.string [78, 69, 71]), .lit (.string [67, 79, 77]), .lit (.string [76, 83, 82]), .lit (.string [82, 79, 82]), .lit (.string [65, 83, 82]), .lit (.string [65, 83, 76]), .lit (.string [82, 79, 76]), .lit (.string [68, 69, 67]), .lit (.string [73, 78, 67]), .lit (.string [84, 83, 84]), .lit (.string [67, 76, 82]), .lit (.string [76, 68]), .lit (.string [83, 84]), .lit (.string [65, 68, 68]), .lit (.string [83, 85, 66]), .lit (.string [67, 77, 80]), .lit (.string [76, 69, 65]), .lit (.string [80, 83, 72]), .lit (.string [80, 85, 76]), .lit (.string [74, 77, 80]), .lit (.string [74, 83, 82]), .lit (.string [66]), .lit (.string [76, 66]), .lit (.string [76, 66, 82, 65]), .lit (.string [66, 83, 82]), .lit (.string [76, 66, 83, 82]), .lit (.string [78, 79, 80]), .lit (.string [83, 89, 78, 67]), .lit (.string [67, 87, 65, 73]), .lit (.string [68, 65, 65]), .lit (.string [79, 82, 67, 67]), .lit (.string [65, 78, 68, 67, 67]), .lit (.string [83, 69, 88]), .lit (.string [69, 88, 71]), .lit (.string [84, 70, 82]), .lit (.string [82, 84, 83]), .lit (.string [82, 84, 73]), .lit (.string [77, 85, 76]), .lit (.string [83, 87, 73])]

/-- 'spinetlaw31.PinsTexts': WHATEVER THE INPUT: true; the input reads as it did. -/
def pinsTextsSpec : ChangeSpec := { name := "pinsTexts", fn := fun _ => fun
  | [d] => { results := [.lit (.bool true)], args := [d] }
  | _ => none }
def pinsTextsRow : OpenClaim := { program := "ytnhafficnomlbabdoor", sum := "c0f86bcb1d76819a0944651a6027570914a243240ce36a91c66d90c240b2a70a", func := "spinet/spinetlaw31.PinsTexts", spec := "pinsTexts", inPlace := ["internal/bytealg.IndexByteString", "internal/bytealg.IndexString", "internal/abi.NoEscape", "internal/bytealg.MakeNoZero"], unfollowed := true, recurses := true, named := ["internal/bytealg.MaxLen", "unicode/utf8.first", "unicode/utf8.acceptRanges"], apart := false, laid := [("unicode/utf8.acceptRanges", laid_unicode_utf8_acceptRanges), ("unicode/utf8.first", laid_unicode_utf8_first)] }
def PinsTextsSaid : Prop := pinsTextsRow.holds Tryd.pinned (OpenSpec.ofChange pinsTextsSpec)

/-- ITS FALSE NEIGHBOUR: 'it returns false'. Refute it at one input. -/
def pinsTextsWrong : ChangeSpec := { name := "pinsTexts", fn := fun _ => fun
  | [d] => { results := [.lit (.bool false)], args := [d] }
  | _ => none }
def PinsTextsWrongFalsely : Prop := pinsTextsRow.holds Tryd.pinned (OpenSpec.ofChange pinsTextsWrong)

/-- 'spinetlaw31.PinsReads': WHATEVER THE INPUT: true; the input reads as it did. -/
def pinsReadsSpec : ChangeSpec := { name := "pinsReads", fn := fun _ => fun
  | [d] => { results := [.lit (.bool true)], args := [d] }
  | _ => none }
def pinsReadsRow : OpenClaim := { program := "ytnhafficnomlbabdoor", sum := "c0f86bcb1d76819a0944651a6027570914a243240ce36a91c66d90c240b2a70a", func := "spinet/spinetlaw31.PinsReads", spec := "pinsReads", inPlace := ["internal/bytealg.IndexByteString", "internal/bytealg.IndexString"], unfollowed := true, recurses := true, named := ["unicode/utf8.first", "unicode/utf8.acceptRanges", "internal/bytealg.MaxLen"], apart := false, laid := [("unicode/utf8.acceptRanges", laid_unicode_utf8_acceptRanges), ("unicode/utf8.first", laid_unicode_utf8_first)] }
def PinsReadsSaid : Prop := pinsReadsRow.holds Tryd.pinned (OpenSpec.ofChange pinsReadsSpec)

/-- ITS FALSE NEIGHBOUR: 'it returns false'. Refute it at one input. -/
def pinsReadsWrong : ChangeSpec := { name := "pinsReads", fn := fun _ => fun
  | [d] => { results := [.lit (.bool false)], args := [d] }
  | _ => none }
def PinsReadsWrongFalsely : Prop := pinsReadsRow.holds Tryd.pinned (OpenSpec.ofChange pinsReadsWrong)

/-- 'spinetlaw13.OpsNames': WHATEVER THE INPUT: true; the input reads as it did. -/
def opsNamesSpec : ChangeSpec := { name := "opsNames", fn := fun _ => fun
  | [d1, d2] => { results := [.lit (.bool true)], args := [d1, d2] }
  | _ => none }
def opsNamesRow : OpenClaim := { program := "ytnhafficnomlbabdoor", sum := "c0f86bcb1d76819a0944651a6027570914a243240ce36a91c66d90c240b2a70a", func := "spinet/spinetlaw13.OpsNames", spec := "opsNames", inPlace := ["internal/bytealg.IndexByteString", "internal/bytealg.IndexString"], named := ["spinet/ops.stems", "spinet/ops.registers", "internal/bytealg.MaxLen", "spinet/cond.names"], apart := false, laid := [("spinet/cond.names", laid_spinet_cond_names), ("spinet/ops.registers", laid_spinet_ops_registers), ("spinet/ops.stems", laid_spinet_ops_stems)] }
def OpsNamesSaid : Prop := opsNamesRow.holds Tryd.pinned (OpenSpec.ofChange opsNamesSpec)

/-- ITS FALSE NEIGHBOUR: 'it returns false'. Refute it at one input. -/
def opsNamesWrong : ChangeSpec := { name := "opsNames", fn := fun _ => fun
  | [d1, d2] => { results := [.lit (.bool false)], args := [d1, d2] }
  | _ => none }
def OpsNamesWrongFalsely : Prop := opsNamesRow.holds Tryd.pinned (OpenSpec.ofChange opsNamesWrong)

/-- 'spinetlaw13.OpsFinds': WHATEVER THE INPUT: true; the input reads as it did. -/
def opsFindsSpec : ChangeSpec := { name := "opsFinds", fn := fun _ => fun
  | [d] => { results := [.lit (.bool true)], args := [d] }
  | _ => none }
def opsFindsRow : OpenClaim := { program := "ytnhafficnomlbabdoor", sum := "c0f86bcb1d76819a0944651a6027570914a243240ce36a91c66d90c240b2a70a", func := "spinet/spinetlaw13.OpsFinds", spec := "opsFinds", inPlace := ["internal/bytealg.IndexByteString", "internal/bytealg.IndexString"], named := ["spinet/ops.stems", "spinet/ops.registers", "internal/bytealg.MaxLen", "spinet/cond.names"], apart := false, laid := [("spinet/cond.names", laid_spinet_cond_names), ("spinet/ops.registers", laid_spinet_ops_registers), ("spinet/ops.stems", laid_spinet_ops_stems)] }
def OpsFindsSaid : Prop := opsFindsRow.holds Tryd.pinned (OpenSpec.ofChange opsFindsSpec)

/-- ITS FALSE NEIGHBOUR: 'it returns false'. Refute it at one input. -/
def opsFindsWrong : ChangeSpec := { name := "opsFinds", fn := fun _ => fun
  | [d] => { results := [.lit (.bool false)], args := [d] }
  | _ => none }
def OpsFindsWrongFalsely : Prop := opsFindsRow.holds Tryd.pinned (OpenSpec.ofChange opsFindsWrong)

/- THE SECOND FORM. 'bulk': how many values and letters a reading holds, each counted each time it is reached (what is shared counts as often as it is met; a slice's spare places count too). A statement '..UptoSaid' is the law's where the arguments, and the package variables that the reading takes, are together of bulk at most 1048576: NARROWER than '..Said'. Prove '..Said' where nothing that the law and all that it calls make is longer than what came in: it says more and counts as full. Else prove '..UptoSaid'. A law counts once. -/
mutual
def uptoBulk {H : Type} : DataW H → Nat
  | .lit (.string bytes) => bytes.length + 1
  | .lit _ => 1
  | .nil => 1
  | .ptr d => uptoBulk d + 1
  | .slice elems spare => uptoBulkAll elems + uptoBulkAll spare + 1
  | .agg parts => uptoBulkAll parts + 1
  | .iface _ d => uptoBulk d + 1
  | .map entries => uptoBulkEntries entries + 1
  | .held _ => 1
def uptoBulkAll {H : Type} : List (DataW H) → Nat
  | [] => 0
  | d :: r => uptoBulk d + uptoBulkAll r
def uptoBulkEntries {H : Type} : List (Lit × DataW H) → Nat
  | [] => 0
  | x :: r => uptoBulkEntry x + uptoBulkEntries r
def uptoBulkEntry {H : Type} : Lit × DataW H → Nat
  | (.string bytes, d) => bytes.length + uptoBulk d + 1
  | (_, d) => uptoBulk d + 1
 end
def uptoSmall : (H : Type) → List (DataW H) → Bool := fun _ ds => decide (uptoBulkAll ds ≤ 1048576)
def OpenSpec.upto (s : _root_.Go.ChangeSpec) : _root_.Go.OpenSpec := { _root_.Go.OpenSpec.ofChange s with cond := some uptoSmall }

/-- 'spinetlaw31.PinsTexts', WHERE WHAT IT READS IS OF BULK AT MOST 1048576: true; the input reads as it did. -/
def pinsTextsUptoRow : OpenClaim := { program := "ytnhafficnomlbabdoor", sum := "c0f86bcb1d76819a0944651a6027570914a243240ce36a91c66d90c240b2a70a", func := "spinet/spinetlaw31.PinsTexts", spec := "pinsTexts", inPlace := ["internal/bytealg.IndexByteString", "internal/bytealg.IndexString", "internal/abi.NoEscape", "internal/bytealg.MakeNoZero"], unfollowed := true, recurses := true, named := ["internal/bytealg.MaxLen", "unicode/utf8.first", "unicode/utf8.acceptRanges"], apart := false, laid := [("unicode/utf8.acceptRanges", laid_unicode_utf8_acceptRanges), ("unicode/utf8.first", laid_unicode_utf8_first)], narrowed := true }
def PinsTextsUptoSaid : Prop := pinsTextsUptoRow.holds Tryd.pinned (OpenSpec.upto pinsTextsSpec)

/-- 'spinetlaw31.PinsReads', WHERE WHAT IT READS IS OF BULK AT MOST 1048576: true; the input reads as it did. -/
def pinsReadsUptoRow : OpenClaim := { program := "ytnhafficnomlbabdoor", sum := "c0f86bcb1d76819a0944651a6027570914a243240ce36a91c66d90c240b2a70a", func := "spinet/spinetlaw31.PinsReads", spec := "pinsReads", inPlace := ["internal/bytealg.IndexByteString", "internal/bytealg.IndexString"], unfollowed := true, recurses := true, named := ["unicode/utf8.first", "unicode/utf8.acceptRanges", "internal/bytealg.MaxLen"], apart := false, laid := [("unicode/utf8.acceptRanges", laid_unicode_utf8_acceptRanges), ("unicode/utf8.first", laid_unicode_utf8_first)], narrowed := true }
def PinsReadsUptoSaid : Prop := pinsReadsUptoRow.holds Tryd.pinned (OpenSpec.upto pinsReadsSpec)

/-- 'spinetlaw13.OpsNames', WHERE WHAT IT READS IS OF BULK AT MOST 1048576: true; the input reads as it did. -/
def opsNamesUptoRow : OpenClaim := { program := "ytnhafficnomlbabdoor", sum := "c0f86bcb1d76819a0944651a6027570914a243240ce36a91c66d90c240b2a70a", func := "spinet/spinetlaw13.OpsNames", spec := "opsNames", inPlace := ["internal/bytealg.IndexByteString", "internal/bytealg.IndexString"], named := ["spinet/ops.stems", "spinet/ops.registers", "internal/bytealg.MaxLen", "spinet/cond.names"], apart := false, laid := [("spinet/cond.names", laid_spinet_cond_names), ("spinet/ops.registers", laid_spinet_ops_registers), ("spinet/ops.stems", laid_spinet_ops_stems)], narrowed := true }
def OpsNamesUptoSaid : Prop := opsNamesUptoRow.holds Tryd.pinned (OpenSpec.upto opsNamesSpec)

/-- 'spinetlaw13.OpsFinds', WHERE WHAT IT READS IS OF BULK AT MOST 1048576: true; the input reads as it did. -/
def opsFindsUptoRow : OpenClaim := { program := "ytnhafficnomlbabdoor", sum := "c0f86bcb1d76819a0944651a6027570914a243240ce36a91c66d90c240b2a70a", func := "spinet/spinetlaw13.OpsFinds", spec := "opsFinds", inPlace := ["internal/bytealg.IndexByteString", "internal/bytealg.IndexString"], named := ["spinet/ops.stems", "spinet/ops.registers", "internal/bytealg.MaxLen", "spinet/cond.names"], apart := false, laid := [("spinet/cond.names", laid_spinet_cond_names), ("spinet/ops.registers", laid_spinet_ops_registers), ("spinet/ops.stems", laid_spinet_ops_stems)], narrowed := true }
def OpsFindsUptoSaid : Prop := opsFindsUptoRow.holds Tryd.pinned (OpenSpec.upto opsFindsSpec)

end Rows
end Go.Proofs.YtnhafficnomlbabDoor
