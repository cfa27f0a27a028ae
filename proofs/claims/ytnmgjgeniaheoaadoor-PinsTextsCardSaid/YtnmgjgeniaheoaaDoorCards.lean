/-
  DERIVED. GIVEN WITH THE SEED: THE CARDS: each row of YtnmgjgeniaheoaaDoorRows.lean that lists a variable, with what it lists TIED to the program's text (the seventh form; the later family's looks); each row that meets fmt, with fmt's text TOLD by the authors' own Lean function (tested against real Go, not proved from fmt's source: count such statements apart). THE CARD IS WHAT COUNTS. Prove the row's statement (the work); the ties are given (YtnmgjgeniaheoaaDoorTie.lean); close each card by the builder's one call (the guide's Derived/Test/ToyasCard.lean, 'card_holds'). Laid BY PROGRAM, IN A SANDBOX (cutbox-door.mjs). By AI agents, Wed Nov 11 2026. No macro, syntax, notation, axiom, sorry.
-/
import Derived.Test.YtnmgjgeniaheoaaDoorRows
import GoSem.ClaimSeven
namespace Go.Proofs.YtnmgjgeniaheoaaDoor
namespace Rows

/-- THE TIED CARD OF 'spinetlaw31.PinsTexts'. -/
def pinsTextsCard : Claim7 := { stood := { row := pinsTextsRow, standIns := [], harness := (true, "64489b982535b69c804dc4870efc822d12acbc7a04bc5304b151d8f0995898b6"), looks := false }, kinds := [], alts := [], laidByText := true, laidKinds := [.data, .pinned], laidTests := true, laidLooks := .later }
def PinsTextsCardSaid : Prop := Claim7.holds Tryd.pinned (.plain (OpenSpec.ofChange pinsTextsSpec)) pinsTextsCard

/-- THE TIED CARD OF 'spinetlaw31.PinsReads'. -/
def pinsReadsCard : Claim7 := { stood := { row := pinsReadsRow, standIns := [], harness := (true, "64489b982535b69c804dc4870efc822d12acbc7a04bc5304b151d8f0995898b6"), looks := false }, kinds := [], alts := [], laidByText := true, laidKinds := [.data, .pinned], laidTests := true, laidLooks := .later }
def PinsReadsCardSaid : Prop := Claim7.holds Tryd.pinned (.plain (OpenSpec.ofChange pinsReadsSpec)) pinsReadsCard

/-- THE SECOND FORM's CARD OF 'spinetlaw31.PinsTexts'. -/
def pinsTextsUptoCard : Claim7 := { stood := { row := pinsTextsUptoRow, standIns := [], harness := (true, "64489b982535b69c804dc4870efc822d12acbc7a04bc5304b151d8f0995898b6"), looks := false }, kinds := [], alts := [], laidByText := true, laidKinds := [.data, .pinned], laidTests := true, laidLooks := .later }
def PinsTextsUptoCardSaid : Prop := Claim7.holds Tryd.pinned (.plain (OpenSpec.upto pinsTextsSpec)) pinsTextsUptoCard

/-- THE SECOND FORM's CARD OF 'spinetlaw31.PinsReads'. -/
def pinsReadsUptoCard : Claim7 := { stood := { row := pinsReadsUptoRow, standIns := [], harness := (true, "64489b982535b69c804dc4870efc822d12acbc7a04bc5304b151d8f0995898b6"), looks := false }, kinds := [], alts := [], laidByText := true, laidKinds := [.data, .pinned], laidTests := true, laidLooks := .later }
def PinsReadsUptoCardSaid : Prop := Claim7.holds Tryd.pinned (.plain (OpenSpec.upto pinsReadsSpec)) pinsReadsUptoCard
end Rows
end Go.Proofs.YtnmgjgeniaheoaaDoor
