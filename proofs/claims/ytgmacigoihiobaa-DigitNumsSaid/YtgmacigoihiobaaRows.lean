/-
  No cell of these rows narrows 'for every input' (looked for: loops, veiled, ifaces, maps, wideKeys, modest, calm, conditions, laid).
  DERIVED. THE GIVEN ROWS OF THIS SEAT. 9 by the template 'for every input the law returns true; each argument reads behind the call as it read before'; 0 by the template 'total and deterministic' (their statements: YtgmacigoihiobaaTotals.lean).
  GIVEN WITH THE SEED: the statements are not yours to turn. If you find one false, say at which input.
  Laid BY PROGRAM, IN A SANDBOX (cutbox-rows.mjs): the forced cells as the released guide's own fill.sh prints them over the translation 4eaaae32d278ef83… (all of the seat's roots in one cut). By AI agents, Wed Nov 11 2026. No macro, syntax, notation, axiom, sorry.
-/
import Derived.Test.YtgmacigoihiobaaChecked
import GoSem.Claim
import GoSem.ClaimJoined
import GoSem.ClaimMapViews
import Derived.JoinedTies
import Derived.KernelRfl
namespace Go.Proofs.Ytgmacigoihiobaa
/- THE CELL 'sum', in the pinned program and in every row, IS THE sha256 OF THE DUMP (.gsa) THAT YtgmacigoihiobaaProg.lean LOADS. Nothing in Lean hashes anything: it is a label: what it is worth is what the hold of that sum in a sandbox is worth. -/
noncomputable def Try.pinned : Pinned := { name := "ytgmacigoihiobaa", sum := "4eaaae32d278ef830294a9ef243882f92e5a812c97d5fae4b2194958a040cd73", checked := Try.checked }
namespace Rows
def none {H : Type} : Left H := { results := [], args := [] }

/-- 'spinetlaw01.OctetWords': WHATEVER THE INPUT: true; the input reads as it did. -/
def octetWordsSpec : ChangeSpec := { name := "octetWords", fn := fun _ => fun
  | [d1, d2, d3] => { results := [.lit (.bool true)], args := [d1, d2, d3] }
  | _ => none }
def octetWordsRow : OpenClaim := { program := "ytgmacigoihiobaa", sum := "4eaaae32d278ef830294a9ef243882f92e5a812c97d5fae4b2194958a040cd73", func := "spinet/spinetlaw01.OctetWords", spec := "octetWords", apart := false }
def OctetWordsSaid : Prop := octetWordsRow.holds Try.pinned (OpenSpec.ofChange octetWordsSpec)

/-- ITS FALSE NEIGHBOUR: 'it returns false'. Refute it at one input. -/
def octetWordsWrong : ChangeSpec := { name := "octetWords", fn := fun _ => fun
  | [d1, d2, d3] => { results := [.lit (.bool false)], args := [d1, d2, d3] }
  | _ => none }
def OctetWordsWrongFalsely : Prop := octetWordsRow.holds Try.pinned (OpenSpec.ofChange octetWordsWrong)

/-- 'spinetlaw01.OctetSigns': WHATEVER THE INPUT: true; the input reads as it did. -/
def octetSignsSpec : ChangeSpec := { name := "octetSigns", fn := fun _ => fun
  | [d] => { results := [.lit (.bool true)], args := [d] }
  | _ => none }
def octetSignsRow : OpenClaim := { program := "ytgmacigoihiobaa", sum := "4eaaae32d278ef830294a9ef243882f92e5a812c97d5fae4b2194958a040cd73", func := "spinet/spinetlaw01.OctetSigns", spec := "octetSigns", apart := false }
def OctetSignsSaid : Prop := octetSignsRow.holds Try.pinned (OpenSpec.ofChange octetSignsSpec)

/-- ITS FALSE NEIGHBOUR: 'it returns false'. Refute it at one input. -/
def octetSignsWrong : ChangeSpec := { name := "octetSigns", fn := fun _ => fun
  | [d] => { results := [.lit (.bool false)], args := [d] }
  | _ => none }
def OctetSignsWrongFalsely : Prop := octetSignsRow.holds Try.pinned (OpenSpec.ofChange octetSignsWrong)

/-- 'spinetlaw01.OctetRows': WHATEVER THE INPUT: true; the input reads as it did. -/
def octetRowsSpec : ChangeSpec := { name := "octetRows", fn := fun _ => fun
  | [d1, d2] => { results := [.lit (.bool true)], args := [d1, d2] }
  | _ => none }
def octetRowsRow : OpenClaim := { program := "ytgmacigoihiobaa", sum := "4eaaae32d278ef830294a9ef243882f92e5a812c97d5fae4b2194958a040cd73", func := "spinet/spinetlaw01.OctetRows", spec := "octetRows", apart := false }
def OctetRowsSaid : Prop := octetRowsRow.holds Try.pinned (OpenSpec.ofChange octetRowsSpec)

/-- ITS FALSE NEIGHBOUR: 'it returns false'. Refute it at one input. -/
def octetRowsWrong : ChangeSpec := { name := "octetRows", fn := fun _ => fun
  | [d1, d2] => { results := [.lit (.bool false)], args := [d1, d2] }
  | _ => none }
def OctetRowsWrongFalsely : Prop := octetRowsRow.holds Try.pinned (OpenSpec.ofChange octetRowsWrong)

/-- 'spinetlaw02.DigitNums': WHATEVER THE INPUT: true; the input reads as it did. -/
def digitNumsSpec : ChangeSpec := { name := "digitNums", fn := fun _ => fun
  | [d1, d2] => { results := [.lit (.bool true)], args := [d1, d2] }
  | _ => none }
def digitNumsRow : OpenClaim := { program := "ytgmacigoihiobaa", sum := "4eaaae32d278ef830294a9ef243882f92e5a812c97d5fae4b2194958a040cd73", func := "spinet/spinetlaw02.DigitNums", spec := "digitNums", apart := false }
def DigitNumsSaid : Prop := digitNumsRow.holds Try.pinned (OpenSpec.ofChange digitNumsSpec)

/-- ITS FALSE NEIGHBOUR: 'it returns false'. Refute it at one input. -/
def digitNumsWrong : ChangeSpec := { name := "digitNums", fn := fun _ => fun
  | [d1, d2] => { results := [.lit (.bool false)], args := [d1, d2] }
  | _ => none }
def DigitNumsWrongFalsely : Prop := digitNumsRow.holds Try.pinned (OpenSpec.ofChange digitNumsWrong)

/-- 'spinetlaw02.DigitReads': WHATEVER THE INPUT: true; the input reads as it did. -/
def digitReadsSpec : ChangeSpec := { name := "digitReads", fn := fun _ => fun
  | [d] => { results := [.lit (.bool true)], args := [d] }
  | _ => none }
def digitReadsRow : OpenClaim := { program := "ytgmacigoihiobaa", sum := "4eaaae32d278ef830294a9ef243882f92e5a812c97d5fae4b2194958a040cd73", func := "spinet/spinetlaw02.DigitReads", spec := "digitReads", apart := false }
def DigitReadsSaid : Prop := digitReadsRow.holds Try.pinned (OpenSpec.ofChange digitReadsSpec)

/-- ITS FALSE NEIGHBOUR: 'it returns false'. Refute it at one input. -/
def digitReadsWrong : ChangeSpec := { name := "digitReads", fn := fun _ => fun
  | [d] => { results := [.lit (.bool false)], args := [d] }
  | _ => none }
def DigitReadsWrongFalsely : Prop := digitReadsRow.holds Try.pinned (OpenSpec.ofChange digitReadsWrong)

/-- 'spinetlaw02.DigitPairs': WHATEVER THE INPUT: true; the input reads as it did. -/
def digitPairsSpec : ChangeSpec := { name := "digitPairs", fn := fun _ => fun
  | [d1, d2] => { results := [.lit (.bool true)], args := [d1, d2] }
  | _ => none }
def digitPairsRow : OpenClaim := { program := "ytgmacigoihiobaa", sum := "4eaaae32d278ef830294a9ef243882f92e5a812c97d5fae4b2194958a040cd73", func := "spinet/spinetlaw02.DigitPairs", spec := "digitPairs", apart := false }
def DigitPairsSaid : Prop := digitPairsRow.holds Try.pinned (OpenSpec.ofChange digitPairsSpec)

/-- ITS FALSE NEIGHBOUR: 'it returns false'. Refute it at one input. -/
def digitPairsWrong : ChangeSpec := { name := "digitPairs", fn := fun _ => fun
  | [d1, d2] => { results := [.lit (.bool false)], args := [d1, d2] }
  | _ => none }
def DigitPairsWrongFalsely : Prop := digitPairsRow.holds Try.pinned (OpenSpec.ofChange digitPairsWrong)

/-- 'spinetlaw03.FlagsBits': WHATEVER THE INPUT: true; the input reads as it did. -/
def flagsBitsSpec : ChangeSpec := { name := "flagsBits", fn := fun _ => fun
  | [d1, d2, d3] => { results := [.lit (.bool true)], args := [d1, d2, d3] }
  | _ => none }
def flagsBitsRow : OpenClaim := { program := "ytgmacigoihiobaa", sum := "4eaaae32d278ef830294a9ef243882f92e5a812c97d5fae4b2194958a040cd73", func := "spinet/spinetlaw03.FlagsBits", spec := "flagsBits", apart := false }
def FlagsBitsSaid : Prop := flagsBitsRow.holds Try.pinned (OpenSpec.ofChange flagsBitsSpec)

/-- ITS FALSE NEIGHBOUR: 'it returns false'. Refute it at one input. -/
def flagsBitsWrong : ChangeSpec := { name := "flagsBits", fn := fun _ => fun
  | [d1, d2, d3] => { results := [.lit (.bool false)], args := [d1, d2, d3] }
  | _ => none }
def FlagsBitsWrongFalsely : Prop := flagsBitsRow.holds Try.pinned (OpenSpec.ofChange flagsBitsWrong)

/-- 'spinetlaw03.FlagsNumbers': WHATEVER THE INPUT: true; the input reads as it did. -/
def flagsNumbersSpec : ChangeSpec := { name := "flagsNumbers", fn := fun _ => fun
  | [d1, d2, d3] => { results := [.lit (.bool true)], args := [d1, d2, d3] }
  | _ => none }
def flagsNumbersRow : OpenClaim := { program := "ytgmacigoihiobaa", sum := "4eaaae32d278ef830294a9ef243882f92e5a812c97d5fae4b2194958a040cd73", func := "spinet/spinetlaw03.FlagsNumbers", spec := "flagsNumbers", apart := false }
def FlagsNumbersSaid : Prop := flagsNumbersRow.holds Try.pinned (OpenSpec.ofChange flagsNumbersSpec)

/-- ITS FALSE NEIGHBOUR: 'it returns false'. Refute it at one input. -/
def flagsNumbersWrong : ChangeSpec := { name := "flagsNumbers", fn := fun _ => fun
  | [d1, d2, d3] => { results := [.lit (.bool false)], args := [d1, d2, d3] }
  | _ => none }
def FlagsNumbersWrongFalsely : Prop := flagsNumbersRow.holds Try.pinned (OpenSpec.ofChange flagsNumbersWrong)

/-- 'spinetlaw03.FlagsTexts': WHATEVER THE INPUT: true; the input reads as it did. -/
def flagsTextsSpec : ChangeSpec := { name := "flagsTexts", fn := fun _ => fun
  | [d1, d2] => { results := [.lit (.bool true)], args := [d1, d2] }
  | _ => none }
def flagsTextsRow : OpenClaim := { program := "ytgmacigoihiobaa", sum := "4eaaae32d278ef830294a9ef243882f92e5a812c97d5fae4b2194958a040cd73", func := "spinet/spinetlaw03.FlagsTexts", spec := "flagsTexts", apart := false }
def FlagsTextsSaid : Prop := flagsTextsRow.holds Try.pinned (OpenSpec.ofChange flagsTextsSpec)

/-- ITS FALSE NEIGHBOUR: 'it returns false'. Refute it at one input. -/
def flagsTextsWrong : ChangeSpec := { name := "flagsTexts", fn := fun _ => fun
  | [d1, d2] => { results := [.lit (.bool false)], args := [d1, d2] }
  | _ => none }
def FlagsTextsWrongFalsely : Prop := flagsTextsRow.holds Try.pinned (OpenSpec.ofChange flagsTextsWrong)

/- THE SECOND FORM. 'bulk': how many values and letters a reading holds, each counted each time it is reached (what is shared counts as often as it is met; a slice's spare places count too). A statement '..UptoSaid' is the law's where the arguments, and the package variables that the reading takes, are together of bulk at most 1048576: NARROWER than '..Said'. Prove '..Said' where nothing that the law and all that it calls make is longer than what came in: it says more and counts as full. Else prove '..UptoSaid'. A law counts once. -/
mutual
def uptoBulk {H : Type} : DataW H → Nat
  | .lit (.string bytes) => bytes.length + 1
  | .lit _ => 1
  | .nil => 1
  | .ptr d => uptoBulk d + 1
  | .slice elems spare => uptoBulkAll elems + uptoBulkAll spare + 1
  | .agg parts => uptoBulkAll parts + 1
  | .iface _ d => uptoBulk d + 1
  | .map entries => uptoBulkEntries entries + 1
  | .held _ => 1
def uptoBulkAll {H : Type} : List (DataW H) → Nat
  | [] => 0
  | d :: r => uptoBulk d + uptoBulkAll r
def uptoBulkEntries {H : Type} : List (Lit × DataW H) → Nat
  | [] => 0
  | x :: r => uptoBulkEntry x + uptoBulkEntries r
def uptoBulkEntry {H : Type} : Lit × DataW H → Nat
  | (.string bytes, d) => bytes.length + uptoBulk d + 1
  | (_, d) => uptoBulk d + 1
 end
def uptoSmall : (H : Type) → List (DataW H) → Bool := fun _ ds => decide (uptoBulkAll ds ≤ 1048576)
def OpenSpec.upto (s : _root_.Go.ChangeSpec) : _root_.Go.OpenSpec := { _root_.Go.OpenSpec.ofChange s with cond := some uptoSmall }

/-- 'spinetlaw01.OctetWords', WHERE WHAT IT READS IS OF BULK AT MOST 1048576: true; the input reads as it did. -/
def octetWordsUptoRow : OpenClaim := { program := "ytgmacigoihiobaa", sum := "4eaaae32d278ef830294a9ef243882f92e5a812c97d5fae4b2194958a040cd73", func := "spinet/spinetlaw01.OctetWords", spec := "octetWords", apart := false, narrowed := true }
def OctetWordsUptoSaid : Prop := octetWordsUptoRow.holds Try.pinned (OpenSpec.upto octetWordsSpec)

/-- 'spinetlaw01.OctetSigns', WHERE WHAT IT READS IS OF BULK AT MOST 1048576: true; the input reads as it did. -/
def octetSignsUptoRow : OpenClaim := { program := "ytgmacigoihiobaa", sum := "4eaaae32d278ef830294a9ef243882f92e5a812c97d5fae4b2194958a040cd73", func := "spinet/spinetlaw01.OctetSigns", spec := "octetSigns", apart := false, narrowed := true }
def OctetSignsUptoSaid : Prop := octetSignsUptoRow.holds Try.pinned (OpenSpec.upto octetSignsSpec)

/-- 'spinetlaw01.OctetRows', WHERE WHAT IT READS IS OF BULK AT MOST 1048576: true; the input reads as it did. -/
def octetRowsUptoRow : OpenClaim := { program := "ytgmacigoihiobaa", sum := "4eaaae32d278ef830294a9ef243882f92e5a812c97d5fae4b2194958a040cd73", func := "spinet/spinetlaw01.OctetRows", spec := "octetRows", apart := false, narrowed := true }
def OctetRowsUptoSaid : Prop := octetRowsUptoRow.holds Try.pinned (OpenSpec.upto octetRowsSpec)

/-- 'spinetlaw02.DigitNums', WHERE WHAT IT READS IS OF BULK AT MOST 1048576: true; the input reads as it did. -/
def digitNumsUptoRow : OpenClaim := { program := "ytgmacigoihiobaa", sum := "4eaaae32d278ef830294a9ef243882f92e5a812c97d5fae4b2194958a040cd73", func := "spinet/spinetlaw02.DigitNums", spec := "digitNums", apart := false, narrowed := true }
def DigitNumsUptoSaid : Prop := digitNumsUptoRow.holds Try.pinned (OpenSpec.upto digitNumsSpec)

/-- 'spinetlaw02.DigitReads', WHERE WHAT IT READS IS OF BULK AT MOST 1048576: true; the input reads as it did. -/
def digitReadsUptoRow : OpenClaim := { program := "ytgmacigoihiobaa", sum := "4eaaae32d278ef830294a9ef243882f92e5a812c97d5fae4b2194958a040cd73", func := "spinet/spinetlaw02.DigitReads", spec := "digitReads", apart := false, narrowed := true }
def DigitReadsUptoSaid : Prop := digitReadsUptoRow.holds Try.pinned (OpenSpec.upto digitReadsSpec)

/-- 'spinetlaw02.DigitPairs', WHERE WHAT IT READS IS OF BULK AT MOST 1048576: true; the input reads as it did. -/
def digitPairsUptoRow : OpenClaim := { program := "ytgmacigoihiobaa", sum := "4eaaae32d278ef830294a9ef243882f92e5a812c97d5fae4b2194958a040cd73", func := "spinet/spinetlaw02.DigitPairs", spec := "digitPairs", apart := false, narrowed := true }
def DigitPairsUptoSaid : Prop := digitPairsUptoRow.holds Try.pinned (OpenSpec.upto digitPairsSpec)

/-- 'spinetlaw03.FlagsBits', WHERE WHAT IT READS IS OF BULK AT MOST 1048576: true; the input reads as it did. -/
def flagsBitsUptoRow : OpenClaim := { program := "ytgmacigoihiobaa", sum := "4eaaae32d278ef830294a9ef243882f92e5a812c97d5fae4b2194958a040cd73", func := "spinet/spinetlaw03.FlagsBits", spec := "flagsBits", apart := false, narrowed := true }
def FlagsBitsUptoSaid : Prop := flagsBitsUptoRow.holds Try.pinned (OpenSpec.upto flagsBitsSpec)

/-- 'spinetlaw03.FlagsNumbers', WHERE WHAT IT READS IS OF BULK AT MOST 1048576: true; the input reads as it did. -/
def flagsNumbersUptoRow : OpenClaim := { program := "ytgmacigoihiobaa", sum := "4eaaae32d278ef830294a9ef243882f92e5a812c97d5fae4b2194958a040cd73", func := "spinet/spinetlaw03.FlagsNumbers", spec := "flagsNumbers", apart := false, narrowed := true }
def FlagsNumbersUptoSaid : Prop := flagsNumbersUptoRow.holds Try.pinned (OpenSpec.upto flagsNumbersSpec)

/-- 'spinetlaw03.FlagsTexts', WHERE WHAT IT READS IS OF BULK AT MOST 1048576: true; the input reads as it did. -/
def flagsTextsUptoRow : OpenClaim := { program := "ytgmacigoihiobaa", sum := "4eaaae32d278ef830294a9ef243882f92e5a812c97d5fae4b2194958a040cd73", func := "spinet/spinetlaw03.FlagsTexts", spec := "flagsTexts", apart := false, narrowed := true }
def FlagsTextsUptoSaid : Prop := flagsTextsUptoRow.holds Try.pinned (OpenSpec.upto flagsTextsSpec)

end Rows
end Go.Proofs.Ytgmacigoihiobaa
