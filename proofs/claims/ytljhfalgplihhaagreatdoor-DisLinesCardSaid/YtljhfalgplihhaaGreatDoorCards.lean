/-
  DERIVED. GIVEN WITH THE SEED: THE CARDS: each row of YtljhfalgplihhaaGreatDoorRows.lean that lists a variable, with what it lists TIED to the program's text (the seventh form; the later family's looks); each row that meets fmt, with fmt's text TOLD by the authors' own Lean function (tested against real Go, not proved from fmt's source: count such statements apart). THE CARD IS WHAT COUNTS. Prove the row's statement (the work); the ties are given (YtljhfalgplihhaaGreatDoorTie.lean); close each card by the builder's one call (the guide's Derived/Test/ToyasCard.lean, 'card_holds'). Laid BY PROGRAM, IN A SANDBOX (cutbox-door.mjs). By AI agents, Wed Nov 11 2026. No macro, syntax, notation, axiom, sorry.
-/
import Derived.Test.YtljhfalgplihhaaGreatDoorRows
import GoSem.ClaimSeven
namespace Go.Proofs.YtljhfalgplihhaaGreatDoor
namespace Rows

/-- THE TIED CARD OF 'spinetlaw42.DisLines'. -/
def disLinesCard : Claim7 := { stood := { row := disLinesRow, standIns := [], harness := (true, "f44bfe30555b475da3d3e28effbed1145f4a2fa712074102a331cfc03e5a3c91"), looks := false }, kinds := [], alts := [], laidByText := true, laidKinds := [.data, .data, .data, .data, .data, .data, .data, .data, .data], laidTests := true, laidLooks := .later }
def DisLinesCardSaid : Prop := Claim7.holds Tryz.pinned (.plain (OpenSpec.ofChange disLinesSpec)) disLinesCard

/-- THE SECOND FORM's CARD OF 'spinetlaw42.DisLines'. -/
def disLinesUptoCard : Claim7 := { stood := { row := disLinesUptoRow, standIns := [], harness := (true, "f44bfe30555b475da3d3e28effbed1145f4a2fa712074102a331cfc03e5a3c91"), looks := false }, kinds := [], alts := [], laidByText := true, laidKinds := [.data, .data, .data, .data, .data, .data, .data, .data, .data], laidTests := true, laidLooks := .later }
def DisLinesUptoCardSaid : Prop := Claim7.holds Tryz.pinned (.plain (OpenSpec.upto disLinesSpec)) disLinesUptoCard
end Rows
end Go.Proofs.YtljhfalgplihhaaGreatDoor
