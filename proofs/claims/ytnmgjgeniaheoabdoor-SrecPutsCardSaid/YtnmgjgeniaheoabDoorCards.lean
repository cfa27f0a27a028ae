/-
  DERIVED. GIVEN WITH THE SEED: THE CARDS: each row of YtnmgjgeniaheoabDoorRows.lean that lists a variable, with what it lists TIED to the program's text (the seventh form; the later family's looks); each row that meets fmt, with fmt's text TOLD by the authors' own Lean function (tested against real Go, not proved from fmt's source: count such statements apart). THE CARD IS WHAT COUNTS. Prove the row's statement (the work); the ties are given (YtnmgjgeniaheoabDoorTie.lean); close each card by the builder's one call (the guide's Derived/Test/ToyasCard.lean, 'card_holds'). Laid BY PROGRAM, IN A SANDBOX (cutbox-door.mjs). By AI agents, Wed Nov 11 2026. No macro, syntax, notation, axiom, sorry.
-/
import Derived.Test.YtnmgjgeniaheoabDoorRows
import GoSem.ClaimSeven
namespace Go.Proofs.YtnmgjgeniaheoabDoor
namespace Rows

/-- THE TIED CARD OF 'spinetlaw40.SrecPuts'. -/
def srecPutsCard : Claim7 := { stood := { row := srecPutsRow, standIns := [], harness := (true, "219c51974a8b42df47d6041195a03a3e0156e273fac0c996cb8cc8dbf2f7255d"), looks := false }, kinds := [], alts := [], laidByText := true, laidKinds := [.data, .pinned], laidTests := true, laidLooks := .later }
def SrecPutsCardSaid : Prop := Claim7.holds Tryd.pinned (.plain (OpenSpec.ofChange srecPutsSpec)) srecPutsCard

/-- THE TIED CARD OF 'spinetlaw45.LineParses'. -/
def lineParsesCard : Claim7 := { stood := { row := lineParsesRow, standIns := [], harness := (true, "219c51974a8b42df47d6041195a03a3e0156e273fac0c996cb8cc8dbf2f7255d"), looks := false }, kinds := [], alts := [], laidByText := true, laidKinds := [.data], laidTests := true, laidLooks := .later }
def LineParsesCardSaid : Prop := Claim7.holds Tryd.pinned (.plain (OpenSpec.ofChange lineParsesSpec)) lineParsesCard

/-- THE TIED CARD OF 'spinetlaw54.FlowReach'. -/
def flowReachCard : Claim7 := { stood := { row := flowReachRow, standIns := [], harness := (true, "219c51974a8b42df47d6041195a03a3e0156e273fac0c996cb8cc8dbf2f7255d"), looks := false }, kinds := [], alts := [], laidByText := true, laidKinds := [.data, .data, .data, .data, .data], laidTests := true, laidLooks := .later }
def FlowReachCardSaid : Prop := Claim7.holds Tryd.pinned (.plain (OpenSpec.ofChange flowReachSpec)) flowReachCard

/-- THE SECOND FORM's CARD OF 'spinetlaw40.SrecPuts'. -/
def srecPutsUptoCard : Claim7 := { stood := { row := srecPutsUptoRow, standIns := [], harness := (true, "219c51974a8b42df47d6041195a03a3e0156e273fac0c996cb8cc8dbf2f7255d"), looks := false }, kinds := [], alts := [], laidByText := true, laidKinds := [.data, .pinned], laidTests := true, laidLooks := .later }
def SrecPutsUptoCardSaid : Prop := Claim7.holds Tryd.pinned (.plain (OpenSpec.upto srecPutsSpec)) srecPutsUptoCard

/-- THE SECOND FORM's CARD OF 'spinetlaw45.LineParses'. -/
def lineParsesUptoCard : Claim7 := { stood := { row := lineParsesUptoRow, standIns := [], harness := (true, "219c51974a8b42df47d6041195a03a3e0156e273fac0c996cb8cc8dbf2f7255d"), looks := false }, kinds := [], alts := [], laidByText := true, laidKinds := [.data], laidTests := true, laidLooks := .later }
def LineParsesUptoCardSaid : Prop := Claim7.holds Tryd.pinned (.plain (OpenSpec.upto lineParsesSpec)) lineParsesUptoCard

/-- THE SECOND FORM's CARD OF 'spinetlaw54.FlowReach'. -/
def flowReachUptoCard : Claim7 := { stood := { row := flowReachUptoRow, standIns := [], harness := (true, "219c51974a8b42df47d6041195a03a3e0156e273fac0c996cb8cc8dbf2f7255d"), looks := false }, kinds := [], alts := [], laidByText := true, laidKinds := [.data, .data, .data, .data, .data], laidTests := true, laidLooks := .later }
def FlowReachUptoCardSaid : Prop := Claim7.holds Tryd.pinned (.plain (OpenSpec.upto flowReachSpec)) flowReachUptoCard
end Rows
end Go.Proofs.YtnmgjgeniaheoabDoor
