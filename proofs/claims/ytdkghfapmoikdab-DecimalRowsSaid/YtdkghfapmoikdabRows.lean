/-
  No cell of these rows narrows 'for every input' (looked for: loops, veiled, ifaces, maps, wideKeys, modest, calm, conditions, laid).
  DERIVED. THE GIVEN ROWS OF THIS SEAT. 8 by the template 'for every input the law returns true; each argument reads behind the call as it read before'; 0 by the template 'total and deterministic' (their statements: YtdkghfapmoikdabTotals.lean).
  GIVEN WITH THE SEED: the statements are not yours to turn. If you find one false, say at which input.
  Laid BY PROGRAM, IN A SANDBOX (cutbox-rows.mjs): the forced cells as the released guide's own fill.sh prints them over the translation b55a50889094a04f… (all of the seat's roots in one cut). By AI agents, Wed Nov 11 2026. No macro, syntax, notation, axiom, sorry.
-/
import Derived.Test.YtdkghfapmoikdabChecked
import GoSem.Claim
import GoSem.ClaimJoined
import GoSem.ClaimMapViews
import Derived.JoinedTies
import Derived.KernelRfl
namespace Go.Proofs.Ytdkghfapmoikdab
/- THE CELL 'sum', in the pinned program and in every row, IS THE sha256 OF THE DUMP (.gsa) THAT YtdkghfapmoikdabProg.lean LOADS. Nothing in Lean hashes anything: it is a label: what it is worth is what the hold of that sum in a sandbox is worth. -/
noncomputable def Try.pinned : Pinned := { name := "ytdkghfapmoikdab", sum := "b55a50889094a04fd2977317da7152f4b810cca70b609f9de7f3d786ad570ecd", checked := Try.checked }
namespace Rows
def none {H : Type} : Left H := { results := [], args := [] }

/-- 'spinetlaw09.DecimalMends': WHATEVER THE INPUT: true; the input reads as it did. -/
def decimalMendsSpec : ChangeSpec := { name := "decimalMends", fn := fun _ => fun
  | [d1, d2] => { results := [.lit (.bool true)], args := [d1, d2] }
  | _ => none }
def decimalMendsRow : OpenClaim := { program := "ytdkghfapmoikdab", sum := "b55a50889094a04fd2977317da7152f4b810cca70b609f9de7f3d786ad570ecd", func := "spinet/spinetlaw09.DecimalMends", spec := "decimalMends", apart := false }
def DecimalMendsSaid : Prop := decimalMendsRow.holds Try.pinned (OpenSpec.ofChange decimalMendsSpec)

/-- ITS FALSE NEIGHBOUR: 'it returns false'. Refute it at one input. -/
def decimalMendsWrong : ChangeSpec := { name := "decimalMends", fn := fun _ => fun
  | [d1, d2] => { results := [.lit (.bool false)], args := [d1, d2] }
  | _ => none }
def DecimalMendsWrongFalsely : Prop := decimalMendsRow.holds Try.pinned (OpenSpec.ofChange decimalMendsWrong)

/-- 'spinetlaw09.DecimalSums': WHATEVER THE INPUT: true; the input reads as it did. -/
def decimalSumsSpec : ChangeSpec := { name := "decimalSums", fn := fun _ => fun
  | [d1, d2, d3] => { results := [.lit (.bool true)], args := [d1, d2, d3] }
  | _ => none }
def decimalSumsRow : OpenClaim := { program := "ytdkghfapmoikdab", sum := "b55a50889094a04fd2977317da7152f4b810cca70b609f9de7f3d786ad570ecd", func := "spinet/spinetlaw09.DecimalSums", spec := "decimalSums", apart := false }
def DecimalSumsSaid : Prop := decimalSumsRow.holds Try.pinned (OpenSpec.ofChange decimalSumsSpec)

/-- ITS FALSE NEIGHBOUR: 'it returns false'. Refute it at one input. -/
def decimalSumsWrong : ChangeSpec := { name := "decimalSums", fn := fun _ => fun
  | [d1, d2, d3] => { results := [.lit (.bool false)], args := [d1, d2, d3] }
  | _ => none }
def DecimalSumsWrongFalsely : Prop := decimalSumsRow.holds Try.pinned (OpenSpec.ofChange decimalSumsWrong)

/-- 'spinetlaw09.DecimalRows': WHATEVER THE INPUT: true; the input reads as it did. -/
def decimalRowsSpec : ChangeSpec := { name := "decimalRows", fn := fun _ => fun
  | [d1, d2] => { results := [.lit (.bool true)], args := [d1, d2] }
  | _ => none }
def decimalRowsRow : OpenClaim := { program := "ytdkghfapmoikdab", sum := "b55a50889094a04fd2977317da7152f4b810cca70b609f9de7f3d786ad570ecd", func := "spinet/spinetlaw09.DecimalRows", spec := "decimalRows", apart := false }
def DecimalRowsSaid : Prop := decimalRowsRow.holds Try.pinned (OpenSpec.ofChange decimalRowsSpec)

/-- ITS FALSE NEIGHBOUR: 'it returns false'. Refute it at one input. -/
def decimalRowsWrong : ChangeSpec := { name := "decimalRows", fn := fun _ => fun
  | [d1, d2] => { results := [.lit (.bool false)], args := [d1, d2] }
  | _ => none }
def DecimalRowsWrongFalsely : Prop := decimalRowsRow.holds Try.pinned (OpenSpec.ofChange decimalRowsWrong)

/-- 'spinetlaw10.TimesBytes': WHATEVER THE INPUT: true; the input reads as it did. -/
def timesBytesSpec : ChangeSpec := { name := "timesBytes", fn := fun _ => fun
  | [d1, d2, d3] => { results := [.lit (.bool true)], args := [d1, d2, d3] }
  | _ => none }
def timesBytesRow : OpenClaim := { program := "ytdkghfapmoikdab", sum := "b55a50889094a04fd2977317da7152f4b810cca70b609f9de7f3d786ad570ecd", func := "spinet/spinetlaw10.TimesBytes", spec := "timesBytes", apart := false }
def TimesBytesSaid : Prop := timesBytesRow.holds Try.pinned (OpenSpec.ofChange timesBytesSpec)

/-- ITS FALSE NEIGHBOUR: 'it returns false'. Refute it at one input. -/
def timesBytesWrong : ChangeSpec := { name := "timesBytes", fn := fun _ => fun
  | [d1, d2, d3] => { results := [.lit (.bool false)], args := [d1, d2, d3] }
  | _ => none }
def TimesBytesWrongFalsely : Prop := timesBytesRow.holds Try.pinned (OpenSpec.ofChange timesBytesWrong)

/-- 'spinetlaw10.TimesWords': WHATEVER THE INPUT: true; the input reads as it did. -/
def timesWordsSpec : ChangeSpec := { name := "timesWords", fn := fun _ => fun
  | [d1, d2] => { results := [.lit (.bool true)], args := [d1, d2] }
  | _ => none }
def timesWordsRow : OpenClaim := { program := "ytdkghfapmoikdab", sum := "b55a50889094a04fd2977317da7152f4b810cca70b609f9de7f3d786ad570ecd", func := "spinet/spinetlaw10.TimesWords", spec := "timesWords", apart := false }
def TimesWordsSaid : Prop := timesWordsRow.holds Try.pinned (OpenSpec.ofChange timesWordsSpec)

/-- ITS FALSE NEIGHBOUR: 'it returns false'. Refute it at one input. -/
def timesWordsWrong : ChangeSpec := { name := "timesWords", fn := fun _ => fun
  | [d1, d2] => { results := [.lit (.bool false)], args := [d1, d2] }
  | _ => none }
def TimesWordsWrongFalsely : Prop := timesWordsRow.holds Try.pinned (OpenSpec.ofChange timesWordsWrong)

/-- 'spinetlaw11.WideSums': WHATEVER THE INPUT: true; the input reads as it did. -/
def wideSumsSpec : ChangeSpec := { name := "wideSums", fn := fun _ => fun
  | [d1, d2, d3] => { results := [.lit (.bool true)], args := [d1, d2, d3] }
  | _ => none }
def wideSumsRow : OpenClaim := { program := "ytdkghfapmoikdab", sum := "b55a50889094a04fd2977317da7152f4b810cca70b609f9de7f3d786ad570ecd", func := "spinet/spinetlaw11.WideSums", spec := "wideSums", apart := false }
def WideSumsSaid : Prop := wideSumsRow.holds Try.pinned (OpenSpec.ofChange wideSumsSpec)

/-- ITS FALSE NEIGHBOUR: 'it returns false'. Refute it at one input. -/
def wideSumsWrong : ChangeSpec := { name := "wideSums", fn := fun _ => fun
  | [d1, d2, d3] => { results := [.lit (.bool false)], args := [d1, d2, d3] }
  | _ => none }
def WideSumsWrongFalsely : Prop := wideSumsRow.holds Try.pinned (OpenSpec.ofChange wideSumsWrong)

/-- 'spinetlaw11.WideOne': WHATEVER THE INPUT: true; the input reads as it did. -/
def wideOneSpec : ChangeSpec := { name := "wideOne", fn := fun _ => fun
  | [d1, d2, d3] => { results := [.lit (.bool true)], args := [d1, d2, d3] }
  | _ => none }
def wideOneRow : OpenClaim := { program := "ytdkghfapmoikdab", sum := "b55a50889094a04fd2977317da7152f4b810cca70b609f9de7f3d786ad570ecd", func := "spinet/spinetlaw11.WideOne", spec := "wideOne", apart := false }
def WideOneSaid : Prop := wideOneRow.holds Try.pinned (OpenSpec.ofChange wideOneSpec)

/-- ITS FALSE NEIGHBOUR: 'it returns false'. Refute it at one input. -/
def wideOneWrong : ChangeSpec := { name := "wideOne", fn := fun _ => fun
  | [d1, d2, d3] => { results := [.lit (.bool false)], args := [d1, d2, d3] }
  | _ => none }
def WideOneWrongFalsely : Prop := wideOneRow.holds Try.pinned (OpenSpec.ofChange wideOneWrong)

/-- 'spinetlaw11.WideHalves': WHATEVER THE INPUT: true; the input reads as it did. -/
def wideHalvesSpec : ChangeSpec := { name := "wideHalves", fn := fun _ => fun
  | [d1, d2, d3] => { results := [.lit (.bool true)], args := [d1, d2, d3] }
  | _ => none }
def wideHalvesRow : OpenClaim := { program := "ytdkghfapmoikdab", sum := "b55a50889094a04fd2977317da7152f4b810cca70b609f9de7f3d786ad570ecd", func := "spinet/spinetlaw11.WideHalves", spec := "wideHalves", apart := false }
def WideHalvesSaid : Prop := wideHalvesRow.holds Try.pinned (OpenSpec.ofChange wideHalvesSpec)

/-- ITS FALSE NEIGHBOUR: 'it returns false'. Refute it at one input. -/
def wideHalvesWrong : ChangeSpec := { name := "wideHalves", fn := fun _ => fun
  | [d1, d2, d3] => { results := [.lit (.bool false)], args := [d1, d2, d3] }
  | _ => none }
def WideHalvesWrongFalsely : Prop := wideHalvesRow.holds Try.pinned (OpenSpec.ofChange wideHalvesWrong)

/- THE SECOND FORM. 'bulk': how many values and letters a reading holds, each counted each time it is reached (what is shared counts as often as it is met; a slice's spare places count too). A statement '..UptoSaid' is the law's where the arguments, and the package variables that the reading takes, are together of bulk at most 1048576: NARROWER than '..Said'. Prove '..Said' where nothing that the law and all that it calls make is longer than what came in: it says more and counts as full. Else prove '..UptoSaid'. A law counts once. -/
mutual
def uptoBulk {H : Type} : DataW H → Nat
  | .lit (.string bytes) => bytes.length + 1
  | .lit _ => 1
  | .nil => 1
  | .ptr d => uptoBulk d + 1
  | .slice elems spare => uptoBulkAll elems + uptoBulkAll spare + 1
  | .agg parts => uptoBulkAll parts + 1
  | .iface _ d => uptoBulk d + 1
  | .map entries => uptoBulkEntries entries + 1
  | .held _ => 1
def uptoBulkAll {H : Type} : List (DataW H) → Nat
  | [] => 0
  | d :: r => uptoBulk d + uptoBulkAll r
def uptoBulkEntries {H : Type} : List (Lit × DataW H) → Nat
  | [] => 0
  | x :: r => uptoBulkEntry x + uptoBulkEntries r
def uptoBulkEntry {H : Type} : Lit × DataW H → Nat
  | (.string bytes, d) => bytes.length + uptoBulk d + 1
  | (_, d) => uptoBulk d + 1
 end
def uptoSmall : (H : Type) → List (DataW H) → Bool := fun _ ds => decide (uptoBulkAll ds ≤ 1048576)
def OpenSpec.upto (s : _root_.Go.ChangeSpec) : _root_.Go.OpenSpec := { _root_.Go.OpenSpec.ofChange s with cond := some uptoSmall }

/-- 'spinetlaw09.DecimalMends', WHERE WHAT IT READS IS OF BULK AT MOST 1048576: true; the input reads as it did. -/
def decimalMendsUptoRow : OpenClaim := { program := "ytdkghfapmoikdab", sum := "b55a50889094a04fd2977317da7152f4b810cca70b609f9de7f3d786ad570ecd", func := "spinet/spinetlaw09.DecimalMends", spec := "decimalMends", apart := false, narrowed := true }
def DecimalMendsUptoSaid : Prop := decimalMendsUptoRow.holds Try.pinned (OpenSpec.upto decimalMendsSpec)

/-- 'spinetlaw09.DecimalSums', WHERE WHAT IT READS IS OF BULK AT MOST 1048576: true; the input reads as it did. -/
def decimalSumsUptoRow : OpenClaim := { program := "ytdkghfapmoikdab", sum := "b55a50889094a04fd2977317da7152f4b810cca70b609f9de7f3d786ad570ecd", func := "spinet/spinetlaw09.DecimalSums", spec := "decimalSums", apart := false, narrowed := true }
def DecimalSumsUptoSaid : Prop := decimalSumsUptoRow.holds Try.pinned (OpenSpec.upto decimalSumsSpec)

/-- 'spinetlaw09.DecimalRows', WHERE WHAT IT READS IS OF BULK AT MOST 1048576: true; the input reads as it did. -/
def decimalRowsUptoRow : OpenClaim := { program := "ytdkghfapmoikdab", sum := "b55a50889094a04fd2977317da7152f4b810cca70b609f9de7f3d786ad570ecd", func := "spinet/spinetlaw09.DecimalRows", spec := "decimalRows", apart := false, narrowed := true }
def DecimalRowsUptoSaid : Prop := decimalRowsUptoRow.holds Try.pinned (OpenSpec.upto decimalRowsSpec)

/-- 'spinetlaw10.TimesBytes', WHERE WHAT IT READS IS OF BULK AT MOST 1048576: true; the input reads as it did. -/
def timesBytesUptoRow : OpenClaim := { program := "ytdkghfapmoikdab", sum := "b55a50889094a04fd2977317da7152f4b810cca70b609f9de7f3d786ad570ecd", func := "spinet/spinetlaw10.TimesBytes", spec := "timesBytes", apart := false, narrowed := true }
def TimesBytesUptoSaid : Prop := timesBytesUptoRow.holds Try.pinned (OpenSpec.upto timesBytesSpec)

/-- 'spinetlaw10.TimesWords', WHERE WHAT IT READS IS OF BULK AT MOST 1048576: true; the input reads as it did. -/
def timesWordsUptoRow : OpenClaim := { program := "ytdkghfapmoikdab", sum := "b55a50889094a04fd2977317da7152f4b810cca70b609f9de7f3d786ad570ecd", func := "spinet/spinetlaw10.TimesWords", spec := "timesWords", apart := false, narrowed := true }
def TimesWordsUptoSaid : Prop := timesWordsUptoRow.holds Try.pinned (OpenSpec.upto timesWordsSpec)

/-- 'spinetlaw11.WideSums', WHERE WHAT IT READS IS OF BULK AT MOST 1048576: true; the input reads as it did. -/
def wideSumsUptoRow : OpenClaim := { program := "ytdkghfapmoikdab", sum := "b55a50889094a04fd2977317da7152f4b810cca70b609f9de7f3d786ad570ecd", func := "spinet/spinetlaw11.WideSums", spec := "wideSums", apart := false, narrowed := true }
def WideSumsUptoSaid : Prop := wideSumsUptoRow.holds Try.pinned (OpenSpec.upto wideSumsSpec)

/-- 'spinetlaw11.WideOne', WHERE WHAT IT READS IS OF BULK AT MOST 1048576: true; the input reads as it did. -/
def wideOneUptoRow : OpenClaim := { program := "ytdkghfapmoikdab", sum := "b55a50889094a04fd2977317da7152f4b810cca70b609f9de7f3d786ad570ecd", func := "spinet/spinetlaw11.WideOne", spec := "wideOne", apart := false, narrowed := true }
def WideOneUptoSaid : Prop := wideOneUptoRow.holds Try.pinned (OpenSpec.upto wideOneSpec)

/-- 'spinetlaw11.WideHalves', WHERE WHAT IT READS IS OF BULK AT MOST 1048576: true; the input reads as it did. -/
def wideHalvesUptoRow : OpenClaim := { program := "ytdkghfapmoikdab", sum := "b55a50889094a04fd2977317da7152f4b810cca70b609f9de7f3d786ad570ecd", func := "spinet/spinetlaw11.WideHalves", spec := "wideHalves", apart := false, narrowed := true }
def WideHalvesUptoSaid : Prop := wideHalvesUptoRow.holds Try.pinned (OpenSpec.upto wideHalvesSpec)

end Rows
end Go.Proofs.Ytdkghfapmoikdab
