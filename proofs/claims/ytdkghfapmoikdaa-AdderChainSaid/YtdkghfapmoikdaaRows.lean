/-
  No cell of these rows narrows 'for every input' (looked for: loops, veiled, ifaces, maps, wideKeys, modest, calm, conditions, laid).
  DERIVED. THE GIVEN ROWS OF THIS SEAT. 12 by the template 'for every input the law returns true; each argument reads behind the call as it read before'; 0 by the template 'total and deterministic' (their statements: YtdkghfapmoikdaaTotals.lean).
  GIVEN WITH THE SEED: the statements are not yours to turn. If you find one false, say at which input.
  Laid BY PROGRAM, IN A SANDBOX (cutbox-rows.mjs): the forced cells as the released guide's own fill.sh prints them over the translation 284cf6a42741049e… (all of the seat's roots in one cut). By AI agents, Wed Nov 11 2026. No macro, syntax, notation, axiom, sorry.
-/
import Derived.Test.YtdkghfapmoikdaaChecked
import GoSem.Claim
import GoSem.ClaimJoined
import GoSem.ClaimMapViews
import Derived.JoinedTies
import Derived.KernelRfl
namespace Go.Proofs.Ytdkghfapmoikdaa
/- THE CELL 'sum', in the pinned program and in every row, IS THE sha256 OF THE DUMP (.gsa) THAT YtdkghfapmoikdaaProg.lean LOADS. Nothing in Lean hashes anything: it is a label: what it is worth is what the hold of that sum in a sandbox is worth. -/
noncomputable def Try.pinned : Pinned := { name := "ytdkghfapmoikdaa", sum := "284cf6a42741049e3aae4988f81c6d806325cf6df2b73bc8c6d83ab9c55a3c33", checked := Try.checked }
namespace Rows
def none {H : Type} : Left H := { results := [], args := [] }

/-- 'spinetlaw04.AdderSums': WHATEVER THE INPUT: true; the input reads as it did. -/
def adderSumsSpec : ChangeSpec := { name := "adderSums", fn := fun _ => fun
  | [d1, d2, d3] => { results := [.lit (.bool true)], args := [d1, d2, d3] }
  | _ => none }
def adderSumsRow : OpenClaim := { program := "ytdkghfapmoikdaa", sum := "284cf6a42741049e3aae4988f81c6d806325cf6df2b73bc8c6d83ab9c55a3c33", func := "spinet/spinetlaw04.AdderSums", spec := "adderSums", apart := false }
def AdderSumsSaid : Prop := adderSumsRow.holds Try.pinned (OpenSpec.ofChange adderSumsSpec)

/-- ITS FALSE NEIGHBOUR: 'it returns false'. Refute it at one input. -/
def adderSumsWrong : ChangeSpec := { name := "adderSums", fn := fun _ => fun
  | [d1, d2, d3] => { results := [.lit (.bool false)], args := [d1, d2, d3] }
  | _ => none }
def AdderSumsWrongFalsely : Prop := adderSumsRow.holds Try.pinned (OpenSpec.ofChange adderSumsWrong)

/-- 'spinetlaw04.AdderChain': WHATEVER THE INPUT: true; the input reads as it did. -/
def adderChainSpec : ChangeSpec := { name := "adderChain", fn := fun _ => fun
  | [d1, d2, d3] => { results := [.lit (.bool true)], args := [d1, d2, d3] }
  | _ => none }
def adderChainRow : OpenClaim := { program := "ytdkghfapmoikdaa", sum := "284cf6a42741049e3aae4988f81c6d806325cf6df2b73bc8c6d83ab9c55a3c33", func := "spinet/spinetlaw04.AdderChain", spec := "adderChain", unfollowed := true, recurses := true, apart := false }
def AdderChainSaid : Prop := adderChainRow.holds Try.pinned (OpenSpec.ofChange adderChainSpec)

/-- ITS FALSE NEIGHBOUR: 'it returns false'. Refute it at one input. -/
def adderChainWrong : ChangeSpec := { name := "adderChain", fn := fun _ => fun
  | [d1, d2, d3] => { results := [.lit (.bool false)], args := [d1, d2, d3] }
  | _ => none }
def AdderChainWrongFalsely : Prop := adderChainRow.holds Try.pinned (OpenSpec.ofChange adderChainWrong)

/-- 'spinetlaw05.TakerSums': WHATEVER THE INPUT: true; the input reads as it did. -/
def takerSumsSpec : ChangeSpec := { name := "takerSums", fn := fun _ => fun
  | [d1, d2, d3] => { results := [.lit (.bool true)], args := [d1, d2, d3] }
  | _ => none }
def takerSumsRow : OpenClaim := { program := "ytdkghfapmoikdaa", sum := "284cf6a42741049e3aae4988f81c6d806325cf6df2b73bc8c6d83ab9c55a3c33", func := "spinet/spinetlaw05.TakerSums", spec := "takerSums", apart := false }
def TakerSumsSaid : Prop := takerSumsRow.holds Try.pinned (OpenSpec.ofChange takerSumsSpec)

/-- ITS FALSE NEIGHBOUR: 'it returns false'. Refute it at one input. -/
def takerSumsWrong : ChangeSpec := { name := "takerSums", fn := fun _ => fun
  | [d1, d2, d3] => { results := [.lit (.bool false)], args := [d1, d2, d3] }
  | _ => none }
def TakerSumsWrongFalsely : Prop := takerSumsRow.holds Try.pinned (OpenSpec.ofChange takerSumsWrong)

/-- 'spinetlaw05.TakerBack': WHATEVER THE INPUT: true; the input reads as it did. -/
def takerBackSpec : ChangeSpec := { name := "takerBack", fn := fun _ => fun
  | [d1, d2, d3] => { results := [.lit (.bool true)], args := [d1, d2, d3] }
  | _ => none }
def takerBackRow : OpenClaim := { program := "ytdkghfapmoikdaa", sum := "284cf6a42741049e3aae4988f81c6d806325cf6df2b73bc8c6d83ab9c55a3c33", func := "spinet/spinetlaw05.TakerBack", spec := "takerBack", unfollowed := true, recurses := true, apart := false }
def TakerBackSaid : Prop := takerBackRow.holds Try.pinned (OpenSpec.ofChange takerBackSpec)

/-- ITS FALSE NEIGHBOUR: 'it returns false'. Refute it at one input. -/
def takerBackWrong : ChangeSpec := { name := "takerBack", fn := fun _ => fun
  | [d1, d2, d3] => { results := [.lit (.bool false)], args := [d1, d2, d3] }
  | _ => none }
def TakerBackWrongFalsely : Prop := takerBackRow.holds Try.pinned (OpenSpec.ofChange takerBackWrong)

/-- 'spinetlaw06.LogicBits': WHATEVER THE INPUT: true; the input reads as it did. -/
def logicBitsSpec : ChangeSpec := { name := "logicBits", fn := fun _ => fun
  | [d1, d2, d3] => { results := [.lit (.bool true)], args := [d1, d2, d3] }
  | _ => none }
def logicBitsRow : OpenClaim := { program := "ytdkghfapmoikdaa", sum := "284cf6a42741049e3aae4988f81c6d806325cf6df2b73bc8c6d83ab9c55a3c33", func := "spinet/spinetlaw06.LogicBits", spec := "logicBits", apart := false }
def LogicBitsSaid : Prop := logicBitsRow.holds Try.pinned (OpenSpec.ofChange logicBitsSpec)

/-- ITS FALSE NEIGHBOUR: 'it returns false'. Refute it at one input. -/
def logicBitsWrong : ChangeSpec := { name := "logicBits", fn := fun _ => fun
  | [d1, d2, d3] => { results := [.lit (.bool false)], args := [d1, d2, d3] }
  | _ => none }
def LogicBitsWrongFalsely : Prop := logicBitsRow.holds Try.pinned (OpenSpec.ofChange logicBitsWrong)

/-- 'spinetlaw06.LogicOne': WHATEVER THE INPUT: true; the input reads as it did. -/
def logicOneSpec : ChangeSpec := { name := "logicOne", fn := fun _ => fun
  | [d1, d2] => { results := [.lit (.bool true)], args := [d1, d2] }
  | _ => none }
def logicOneRow : OpenClaim := { program := "ytdkghfapmoikdaa", sum := "284cf6a42741049e3aae4988f81c6d806325cf6df2b73bc8c6d83ab9c55a3c33", func := "spinet/spinetlaw06.LogicOne", spec := "logicOne", apart := false }
def LogicOneSaid : Prop := logicOneRow.holds Try.pinned (OpenSpec.ofChange logicOneSpec)

/-- ITS FALSE NEIGHBOUR: 'it returns false'. Refute it at one input. -/
def logicOneWrong : ChangeSpec := { name := "logicOne", fn := fun _ => fun
  | [d1, d2] => { results := [.lit (.bool false)], args := [d1, d2] }
  | _ => none }
def LogicOneWrongFalsely : Prop := logicOneRow.holds Try.pinned (OpenSpec.ofChange logicOneWrong)

/-- 'spinetlaw06.LogicLaws': WHATEVER THE INPUT: true; the input reads as it did. -/
def logicLawsSpec : ChangeSpec := { name := "logicLaws", fn := fun _ => fun
  | [d1, d2, d3] => { results := [.lit (.bool true)], args := [d1, d2, d3] }
  | _ => none }
def logicLawsRow : OpenClaim := { program := "ytdkghfapmoikdaa", sum := "284cf6a42741049e3aae4988f81c6d806325cf6df2b73bc8c6d83ab9c55a3c33", func := "spinet/spinetlaw06.LogicLaws", spec := "logicLaws", apart := false }
def LogicLawsSaid : Prop := logicLawsRow.holds Try.pinned (OpenSpec.ofChange logicLawsSpec)

/-- ITS FALSE NEIGHBOUR: 'it returns false'. Refute it at one input. -/
def logicLawsWrong : ChangeSpec := { name := "logicLaws", fn := fun _ => fun
  | [d1, d2, d3] => { results := [.lit (.bool false)], args := [d1, d2, d3] }
  | _ => none }
def LogicLawsWrongFalsely : Prop := logicLawsRow.holds Try.pinned (OpenSpec.ofChange logicLawsWrong)

/-- 'spinetlaw07.ShiftRight': WHATEVER THE INPUT: true; the input reads as it did. -/
def shiftRightSpec : ChangeSpec := { name := "shiftRight", fn := fun _ => fun
  | [d1, d2] => { results := [.lit (.bool true)], args := [d1, d2] }
  | _ => none }
def shiftRightRow : OpenClaim := { program := "ytdkghfapmoikdaa", sum := "284cf6a42741049e3aae4988f81c6d806325cf6df2b73bc8c6d83ab9c55a3c33", func := "spinet/spinetlaw07.ShiftRight", spec := "shiftRight", apart := false }
def ShiftRightSaid : Prop := shiftRightRow.holds Try.pinned (OpenSpec.ofChange shiftRightSpec)

/-- ITS FALSE NEIGHBOUR: 'it returns false'. Refute it at one input. -/
def shiftRightWrong : ChangeSpec := { name := "shiftRight", fn := fun _ => fun
  | [d1, d2] => { results := [.lit (.bool false)], args := [d1, d2] }
  | _ => none }
def ShiftRightWrongFalsely : Prop := shiftRightRow.holds Try.pinned (OpenSpec.ofChange shiftRightWrong)

/-- 'spinetlaw07.ShiftLeft': WHATEVER THE INPUT: true; the input reads as it did. -/
def shiftLeftSpec : ChangeSpec := { name := "shiftLeft", fn := fun _ => fun
  | [d1, d2] => { results := [.lit (.bool true)], args := [d1, d2] }
  | _ => none }
def shiftLeftRow : OpenClaim := { program := "ytdkghfapmoikdaa", sum := "284cf6a42741049e3aae4988f81c6d806325cf6df2b73bc8c6d83ab9c55a3c33", func := "spinet/spinetlaw07.ShiftLeft", spec := "shiftLeft", apart := false }
def ShiftLeftSaid : Prop := shiftLeftRow.holds Try.pinned (OpenSpec.ofChange shiftLeftSpec)

/-- ITS FALSE NEIGHBOUR: 'it returns false'. Refute it at one input. -/
def shiftLeftWrong : ChangeSpec := { name := "shiftLeft", fn := fun _ => fun
  | [d1, d2] => { results := [.lit (.bool false)], args := [d1, d2] }
  | _ => none }
def ShiftLeftWrongFalsely : Prop := shiftLeftRow.holds Try.pinned (OpenSpec.ofChange shiftLeftWrong)

/-- 'spinetlaw07.ShiftRing': WHATEVER THE INPUT: true; the input reads as it did. -/
def shiftRingSpec : ChangeSpec := { name := "shiftRing", fn := fun _ => fun
  | [d1, d2] => { results := [.lit (.bool true)], args := [d1, d2] }
  | _ => none }
def shiftRingRow : OpenClaim := { program := "ytdkghfapmoikdaa", sum := "284cf6a42741049e3aae4988f81c6d806325cf6df2b73bc8c6d83ab9c55a3c33", func := "spinet/spinetlaw07.ShiftRing", spec := "shiftRing", apart := false }
def ShiftRingSaid : Prop := shiftRingRow.holds Try.pinned (OpenSpec.ofChange shiftRingSpec)

/-- ITS FALSE NEIGHBOUR: 'it returns false'. Refute it at one input. -/
def shiftRingWrong : ChangeSpec := { name := "shiftRing", fn := fun _ => fun
  | [d1, d2] => { results := [.lit (.bool false)], args := [d1, d2] }
  | _ => none }
def ShiftRingWrongFalsely : Prop := shiftRingRow.holds Try.pinned (OpenSpec.ofChange shiftRingWrong)

/-- 'spinetlaw08.CountSteps': WHATEVER THE INPUT: true; the input reads as it did. -/
def countStepsSpec : ChangeSpec := { name := "countSteps", fn := fun _ => fun
  | [d1, d2] => { results := [.lit (.bool true)], args := [d1, d2] }
  | _ => none }
def countStepsRow : OpenClaim := { program := "ytdkghfapmoikdaa", sum := "284cf6a42741049e3aae4988f81c6d806325cf6df2b73bc8c6d83ab9c55a3c33", func := "spinet/spinetlaw08.CountSteps", spec := "countSteps", apart := false }
def CountStepsSaid : Prop := countStepsRow.holds Try.pinned (OpenSpec.ofChange countStepsSpec)

/-- ITS FALSE NEIGHBOUR: 'it returns false'. Refute it at one input. -/
def countStepsWrong : ChangeSpec := { name := "countSteps", fn := fun _ => fun
  | [d1, d2] => { results := [.lit (.bool false)], args := [d1, d2] }
  | _ => none }
def CountStepsWrongFalsely : Prop := countStepsRow.holds Try.pinned (OpenSpec.ofChange countStepsWrong)

/-- 'spinetlaw08.CountWays': WHATEVER THE INPUT: true; the input reads as it did. -/
def countWaysSpec : ChangeSpec := { name := "countWays", fn := fun _ => fun
  | [d1, d2, d3] => { results := [.lit (.bool true)], args := [d1, d2, d3] }
  | _ => none }
def countWaysRow : OpenClaim := { program := "ytdkghfapmoikdaa", sum := "284cf6a42741049e3aae4988f81c6d806325cf6df2b73bc8c6d83ab9c55a3c33", func := "spinet/spinetlaw08.CountWays", spec := "countWays", apart := false }
def CountWaysSaid : Prop := countWaysRow.holds Try.pinned (OpenSpec.ofChange countWaysSpec)

/-- ITS FALSE NEIGHBOUR: 'it returns false'. Refute it at one input. -/
def countWaysWrong : ChangeSpec := { name := "countWays", fn := fun _ => fun
  | [d1, d2, d3] => { results := [.lit (.bool false)], args := [d1, d2, d3] }
  | _ => none }
def CountWaysWrongFalsely : Prop := countWaysRow.holds Try.pinned (OpenSpec.ofChange countWaysWrong)

/- THE SECOND FORM. 'bulk': how many values and letters a reading holds, each counted each time it is reached (what is shared counts as often as it is met; a slice's spare places count too). A statement '..UptoSaid' is the law's where the arguments, and the package variables that the reading takes, are together of bulk at most 1048576: NARROWER than '..Said'. Prove '..Said' where nothing that the law and all that it calls make is longer than what came in: it says more and counts as full. Else prove '..UptoSaid'. A law counts once. -/
mutual
def uptoBulk {H : Type} : DataW H → Nat
  | .lit (.string bytes) => bytes.length + 1
  | .lit _ => 1
  | .nil => 1
  | .ptr d => uptoBulk d + 1
  | .slice elems spare => uptoBulkAll elems + uptoBulkAll spare + 1
  | .agg parts => uptoBulkAll parts + 1
  | .iface _ d => uptoBulk d + 1
  | .map entries => uptoBulkEntries entries + 1
  | .held _ => 1
def uptoBulkAll {H : Type} : List (DataW H) → Nat
  | [] => 0
  | d :: r => uptoBulk d + uptoBulkAll r
def uptoBulkEntries {H : Type} : List (Lit × DataW H) → Nat
  | [] => 0
  | x :: r => uptoBulkEntry x + uptoBulkEntries r
def uptoBulkEntry {H : Type} : Lit × DataW H → Nat
  | (.string bytes, d) => bytes.length + uptoBulk d + 1
  | (_, d) => uptoBulk d + 1
 end
def uptoSmall : (H : Type) → List (DataW H) → Bool := fun _ ds => decide (uptoBulkAll ds ≤ 1048576)
def OpenSpec.upto (s : _root_.Go.ChangeSpec) : _root_.Go.OpenSpec := { _root_.Go.OpenSpec.ofChange s with cond := some uptoSmall }

/-- 'spinetlaw04.AdderSums', WHERE WHAT IT READS IS OF BULK AT MOST 1048576: true; the input reads as it did. -/
def adderSumsUptoRow : OpenClaim := { program := "ytdkghfapmoikdaa", sum := "284cf6a42741049e3aae4988f81c6d806325cf6df2b73bc8c6d83ab9c55a3c33", func := "spinet/spinetlaw04.AdderSums", spec := "adderSums", apart := false, narrowed := true }
def AdderSumsUptoSaid : Prop := adderSumsUptoRow.holds Try.pinned (OpenSpec.upto adderSumsSpec)

/-- 'spinetlaw04.AdderChain', WHERE WHAT IT READS IS OF BULK AT MOST 1048576: true; the input reads as it did. -/
def adderChainUptoRow : OpenClaim := { program := "ytdkghfapmoikdaa", sum := "284cf6a42741049e3aae4988f81c6d806325cf6df2b73bc8c6d83ab9c55a3c33", func := "spinet/spinetlaw04.AdderChain", spec := "adderChain", unfollowed := true, recurses := true, apart := false, narrowed := true }
def AdderChainUptoSaid : Prop := adderChainUptoRow.holds Try.pinned (OpenSpec.upto adderChainSpec)

/-- 'spinetlaw05.TakerSums', WHERE WHAT IT READS IS OF BULK AT MOST 1048576: true; the input reads as it did. -/
def takerSumsUptoRow : OpenClaim := { program := "ytdkghfapmoikdaa", sum := "284cf6a42741049e3aae4988f81c6d806325cf6df2b73bc8c6d83ab9c55a3c33", func := "spinet/spinetlaw05.TakerSums", spec := "takerSums", apart := false, narrowed := true }
def TakerSumsUptoSaid : Prop := takerSumsUptoRow.holds Try.pinned (OpenSpec.upto takerSumsSpec)

/-- 'spinetlaw05.TakerBack', WHERE WHAT IT READS IS OF BULK AT MOST 1048576: true; the input reads as it did. -/
def takerBackUptoRow : OpenClaim := { program := "ytdkghfapmoikdaa", sum := "284cf6a42741049e3aae4988f81c6d806325cf6df2b73bc8c6d83ab9c55a3c33", func := "spinet/spinetlaw05.TakerBack", spec := "takerBack", unfollowed := true, recurses := true, apart := false, narrowed := true }
def TakerBackUptoSaid : Prop := takerBackUptoRow.holds Try.pinned (OpenSpec.upto takerBackSpec)

/-- 'spinetlaw06.LogicBits', WHERE WHAT IT READS IS OF BULK AT MOST 1048576: true; the input reads as it did. -/
def logicBitsUptoRow : OpenClaim := { program := "ytdkghfapmoikdaa", sum := "284cf6a42741049e3aae4988f81c6d806325cf6df2b73bc8c6d83ab9c55a3c33", func := "spinet/spinetlaw06.LogicBits", spec := "logicBits", apart := false, narrowed := true }
def LogicBitsUptoSaid : Prop := logicBitsUptoRow.holds Try.pinned (OpenSpec.upto logicBitsSpec)

/-- 'spinetlaw06.LogicOne', WHERE WHAT IT READS IS OF BULK AT MOST 1048576: true; the input reads as it did. -/
def logicOneUptoRow : OpenClaim := { program := "ytdkghfapmoikdaa", sum := "284cf6a42741049e3aae4988f81c6d806325cf6df2b73bc8c6d83ab9c55a3c33", func := "spinet/spinetlaw06.LogicOne", spec := "logicOne", apart := false, narrowed := true }
def LogicOneUptoSaid : Prop := logicOneUptoRow.holds Try.pinned (OpenSpec.upto logicOneSpec)

/-- 'spinetlaw06.LogicLaws', WHERE WHAT IT READS IS OF BULK AT MOST 1048576: true; the input reads as it did. -/
def logicLawsUptoRow : OpenClaim := { program := "ytdkghfapmoikdaa", sum := "284cf6a42741049e3aae4988f81c6d806325cf6df2b73bc8c6d83ab9c55a3c33", func := "spinet/spinetlaw06.LogicLaws", spec := "logicLaws", apart := false, narrowed := true }
def LogicLawsUptoSaid : Prop := logicLawsUptoRow.holds Try.pinned (OpenSpec.upto logicLawsSpec)

/-- 'spinetlaw07.ShiftRight', WHERE WHAT IT READS IS OF BULK AT MOST 1048576: true; the input reads as it did. -/
def shiftRightUptoRow : OpenClaim := { program := "ytdkghfapmoikdaa", sum := "284cf6a42741049e3aae4988f81c6d806325cf6df2b73bc8c6d83ab9c55a3c33", func := "spinet/spinetlaw07.ShiftRight", spec := "shiftRight", apart := false, narrowed := true }
def ShiftRightUptoSaid : Prop := shiftRightUptoRow.holds Try.pinned (OpenSpec.upto shiftRightSpec)

/-- 'spinetlaw07.ShiftLeft', WHERE WHAT IT READS IS OF BULK AT MOST 1048576: true; the input reads as it did. -/
def shiftLeftUptoRow : OpenClaim := { program := "ytdkghfapmoikdaa", sum := "284cf6a42741049e3aae4988f81c6d806325cf6df2b73bc8c6d83ab9c55a3c33", func := "spinet/spinetlaw07.ShiftLeft", spec := "shiftLeft", apart := false, narrowed := true }
def ShiftLeftUptoSaid : Prop := shiftLeftUptoRow.holds Try.pinned (OpenSpec.upto shiftLeftSpec)

/-- 'spinetlaw07.ShiftRing', WHERE WHAT IT READS IS OF BULK AT MOST 1048576: true; the input reads as it did. -/
def shiftRingUptoRow : OpenClaim := { program := "ytdkghfapmoikdaa", sum := "284cf6a42741049e3aae4988f81c6d806325cf6df2b73bc8c6d83ab9c55a3c33", func := "spinet/spinetlaw07.ShiftRing", spec := "shiftRing", apart := false, narrowed := true }
def ShiftRingUptoSaid : Prop := shiftRingUptoRow.holds Try.pinned (OpenSpec.upto shiftRingSpec)

/-- 'spinetlaw08.CountSteps', WHERE WHAT IT READS IS OF BULK AT MOST 1048576: true; the input reads as it did. -/
def countStepsUptoRow : OpenClaim := { program := "ytdkghfapmoikdaa", sum := "284cf6a42741049e3aae4988f81c6d806325cf6df2b73bc8c6d83ab9c55a3c33", func := "spinet/spinetlaw08.CountSteps", spec := "countSteps", apart := false, narrowed := true }
def CountStepsUptoSaid : Prop := countStepsUptoRow.holds Try.pinned (OpenSpec.upto countStepsSpec)

/-- 'spinetlaw08.CountWays', WHERE WHAT IT READS IS OF BULK AT MOST 1048576: true; the input reads as it did. -/
def countWaysUptoRow : OpenClaim := { program := "ytdkghfapmoikdaa", sum := "284cf6a42741049e3aae4988f81c6d806325cf6df2b73bc8c6d83ab9c55a3c33", func := "spinet/spinetlaw08.CountWays", spec := "countWays", apart := false, narrowed := true }
def CountWaysUptoSaid : Prop := countWaysUptoRow.holds Try.pinned (OpenSpec.upto countWaysSpec)

end Rows
end Go.Proofs.Ytdkghfapmoikdaa
