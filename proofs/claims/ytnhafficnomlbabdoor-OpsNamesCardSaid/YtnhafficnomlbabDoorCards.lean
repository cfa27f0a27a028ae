/-
  DERIVED. GIVEN WITH THE SEED: THE CARDS: each row of YtnhafficnomlbabDoorRows.lean that lists a variable, with what it lists TIED to the program's text (the seventh form; the later family's looks); each row that meets fmt, with fmt's text TOLD by the authors' own Lean function (tested against real Go, not proved from fmt's source: count such statements apart). THE CARD IS WHAT COUNTS. Prove the row's statement (the work); the ties are given (YtnhafficnomlbabDoorTie.lean); close each card by the builder's one call (the guide's Derived/Test/ToyasCard.lean, 'card_holds'). Laid BY PROGRAM, IN A SANDBOX (cutbox-door.mjs). By AI agents, Wed Nov 11 2026. No macro, syntax, notation, axiom, sorry.
-/
import Derived.Test.YtnhafficnomlbabDoorRows
import GoSem.ClaimSeven
namespace Go.Proofs.YtnhafficnomlbabDoor
namespace Rows

/-- THE TIED CARD OF 'spinetlaw31.PinsTexts'. -/
def pinsTextsCard : Claim7 := { stood := { row := pinsTextsRow, standIns := [], harness := (true, "959e5173cdb22e24eb7e041718d8a63228c5b2a57927bbf24f95181aa6723eb2"), looks := false }, kinds := [], alts := [], laidByText := true, laidKinds := [.data, .pinned], laidTests := true, laidLooks := .later }
def PinsTextsCardSaid : Prop := Claim7.holds Tryd.pinned (.plain (OpenSpec.ofChange pinsTextsSpec)) pinsTextsCard

/-- THE TIED CARD OF 'spinetlaw31.PinsReads'. -/
def pinsReadsCard : Claim7 := { stood := { row := pinsReadsRow, standIns := [], harness := (true, "959e5173cdb22e24eb7e041718d8a63228c5b2a57927bbf24f95181aa6723eb2"), looks := false }, kinds := [], alts := [], laidByText := true, laidKinds := [.data, .pinned], laidTests := true, laidLooks := .later }
def PinsReadsCardSaid : Prop := Claim7.holds Tryd.pinned (.plain (OpenSpec.ofChange pinsReadsSpec)) pinsReadsCard

/-- THE TIED CARD OF 'spinetlaw13.OpsNames'. -/
def opsNamesCard : Claim7 := { stood := { row := opsNamesRow, standIns := [], harness := (true, "959e5173cdb22e24eb7e041718d8a63228c5b2a57927bbf24f95181aa6723eb2"), looks := false }, kinds := [], alts := [], laidByText := true, laidKinds := [.data, .data, .data], laidTests := true, laidLooks := .later }
def OpsNamesCardSaid : Prop := Claim7.holds Tryd.pinned (.plain (OpenSpec.ofChange opsNamesSpec)) opsNamesCard

/-- THE TIED CARD OF 'spinetlaw13.OpsFinds'. -/
def opsFindsCard : Claim7 := { stood := { row := opsFindsRow, standIns := [], harness := (true, "959e5173cdb22e24eb7e041718d8a63228c5b2a57927bbf24f95181aa6723eb2"), looks := false }, kinds := [], alts := [], laidByText := true, laidKinds := [.data, .data, .data], laidTests := true, laidLooks := .later }
def OpsFindsCardSaid : Prop := Claim7.holds Tryd.pinned (.plain (OpenSpec.ofChange opsFindsSpec)) opsFindsCard

/-- THE SECOND FORM's CARD OF 'spinetlaw31.PinsTexts'. -/
def pinsTextsUptoCard : Claim7 := { stood := { row := pinsTextsUptoRow, standIns := [], harness := (true, "959e5173cdb22e24eb7e041718d8a63228c5b2a57927bbf24f95181aa6723eb2"), looks := false }, kinds := [], alts := [], laidByText := true, laidKinds := [.data, .pinned], laidTests := true, laidLooks := .later }
def PinsTextsUptoCardSaid : Prop := Claim7.holds Tryd.pinned (.plain (OpenSpec.upto pinsTextsSpec)) pinsTextsUptoCard

/-- THE SECOND FORM's CARD OF 'spinetlaw31.PinsReads'. -/
def pinsReadsUptoCard : Claim7 := { stood := { row := pinsReadsUptoRow, standIns := [], harness := (true, "959e5173cdb22e24eb7e041718d8a63228c5b2a57927bbf24f95181aa6723eb2"), looks := false }, kinds := [], alts := [], laidByText := true, laidKinds := [.data, .pinned], laidTests := true, laidLooks := .later }
def PinsReadsUptoCardSaid : Prop := Claim7.holds Tryd.pinned (.plain (OpenSpec.upto pinsReadsSpec)) pinsReadsUptoCard

/-- THE SECOND FORM's CARD OF 'spinetlaw13.OpsNames'. -/
def opsNamesUptoCard : Claim7 := { stood := { row := opsNamesUptoRow, standIns := [], harness := (true, "959e5173cdb22e24eb7e041718d8a63228c5b2a57927bbf24f95181aa6723eb2"), looks := false }, kinds := [], alts := [], laidByText := true, laidKinds := [.data, .data, .data], laidTests := true, laidLooks := .later }
def OpsNamesUptoCardSaid : Prop := Claim7.holds Tryd.pinned (.plain (OpenSpec.upto opsNamesSpec)) opsNamesUptoCard

/-- THE SECOND FORM's CARD OF 'spinetlaw13.OpsFinds'. -/
def opsFindsUptoCard : Claim7 := { stood := { row := opsFindsUptoRow, standIns := [], harness := (true, "959e5173cdb22e24eb7e041718d8a63228c5b2a57927bbf24f95181aa6723eb2"), looks := false }, kinds := [], alts := [], laidByText := true, laidKinds := [.data, .data, .data], laidTests := true, laidLooks := .later }
def OpsFindsUptoCardSaid : Prop := Claim7.holds Tryd.pinned (.plain (OpenSpec.upto opsFindsSpec)) opsFindsUptoCard
end Rows
end Go.Proofs.YtnhafficnomlbabDoor
