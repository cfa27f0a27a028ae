/-
  DERIVED. GIVEN WITH THE SEED: THE CARDS: each row of YteaajmoclgfhnabDoorRows.lean that lists a variable, with what it lists TIED to the program's text (the seventh form; the later family's looks); each row that meets fmt, with fmt's text TOLD by the authors' own Lean function (tested against real Go, not proved from fmt's source: count such statements apart). THE CARD IS WHAT COUNTS. Prove the row's statement (the work); the ties are given (YteaajmoclgfhnabDoorTie.lean); close each card by the builder's one call (the guide's Derived/Test/ToyasCard.lean, 'card_holds'). Laid BY PROGRAM, IN A SANDBOX (cutbox-door.mjs). By AI agents, Wed Nov 11 2026. No macro, syntax, notation, axiom, sorry.
-/
import Derived.Test.YteaajmoclgfhnabDoorRows
import GoSem.ClaimSeven
namespace Go.Proofs.YteaajmoclgfhnabDoor
namespace Rows

/-- THE TIED CARD OF 'spinetlaw45.LinePairs'. -/
def linePairsCard : Claim7 := { stood := { row := linePairsRow, standIns := [], harness := (true, "407085ef86f8e9cc3d2cc15c18e6dab92e44dfffa1f20e2d0a492510cb893b57"), looks := false }, kinds := [], alts := [], laidByText := true, laidKinds := [.data], laidTests := true, laidLooks := .later }
def LinePairsCardSaid : Prop := Claim7.holds Tryd.pinned (.plain (OpenSpec.ofChange linePairsSpec)) linePairsCard

/-- THE TIED CARD OF 'spinetlaw45.LineParses'. -/
def lineParsesCard : Claim7 := { stood := { row := lineParsesRow, standIns := [], harness := (true, "407085ef86f8e9cc3d2cc15c18e6dab92e44dfffa1f20e2d0a492510cb893b57"), looks := false }, kinds := [], alts := [], laidByText := true, laidKinds := [.data], laidTests := true, laidLooks := .later }
def LineParsesCardSaid : Prop := Claim7.holds Tryd.pinned (.plain (OpenSpec.ofChange lineParsesSpec)) lineParsesCard

/-- THE TIED CARD OF 'spinetlaw45.LineSays'. -/
def lineSaysCard : Claim7 := { stood := { row := lineSaysRow, standIns := [], harness := (true, "407085ef86f8e9cc3d2cc15c18e6dab92e44dfffa1f20e2d0a492510cb893b57"), looks := false }, kinds := [], alts := [], laidByText := true, laidKinds := [.data, .data], laidTests := true, laidLooks := .later }
def LineSaysCardSaid : Prop := Claim7.holds Tryd.pinned (.plain (OpenSpec.ofChange lineSaysSpec)) lineSaysCard

/-- THE TIED CARD OF 'spinetlaw31.PinsTexts'. -/
def pinsTextsCard : Claim7 := { stood := { row := pinsTextsRow, standIns := [], harness := (true, "407085ef86f8e9cc3d2cc15c18e6dab92e44dfffa1f20e2d0a492510cb893b57"), looks := false }, kinds := [], alts := [], laidByText := true, laidKinds := [.data, .pinned], laidTests := true, laidLooks := .later }
def PinsTextsCardSaid : Prop := Claim7.holds Tryd.pinned (.plain (OpenSpec.ofChange pinsTextsSpec)) pinsTextsCard

/-- THE SECOND FORM's CARD OF 'spinetlaw45.LinePairs'. -/
def linePairsUptoCard : Claim7 := { stood := { row := linePairsUptoRow, standIns := [], harness := (true, "407085ef86f8e9cc3d2cc15c18e6dab92e44dfffa1f20e2d0a492510cb893b57"), looks := false }, kinds := [], alts := [], laidByText := true, laidKinds := [.data], laidTests := true, laidLooks := .later }
def LinePairsUptoCardSaid : Prop := Claim7.holds Tryd.pinned (.plain (OpenSpec.upto linePairsSpec)) linePairsUptoCard

/-- THE SECOND FORM's CARD OF 'spinetlaw45.LineParses'. -/
def lineParsesUptoCard : Claim7 := { stood := { row := lineParsesUptoRow, standIns := [], harness := (true, "407085ef86f8e9cc3d2cc15c18e6dab92e44dfffa1f20e2d0a492510cb893b57"), looks := false }, kinds := [], alts := [], laidByText := true, laidKinds := [.data], laidTests := true, laidLooks := .later }
def LineParsesUptoCardSaid : Prop := Claim7.holds Tryd.pinned (.plain (OpenSpec.upto lineParsesSpec)) lineParsesUptoCard

/-- THE SECOND FORM's CARD OF 'spinetlaw45.LineSays'. -/
def lineSaysUptoCard : Claim7 := { stood := { row := lineSaysUptoRow, standIns := [], harness := (true, "407085ef86f8e9cc3d2cc15c18e6dab92e44dfffa1f20e2d0a492510cb893b57"), looks := false }, kinds := [], alts := [], laidByText := true, laidKinds := [.data, .data], laidTests := true, laidLooks := .later }
def LineSaysUptoCardSaid : Prop := Claim7.holds Tryd.pinned (.plain (OpenSpec.upto lineSaysSpec)) lineSaysUptoCard

/-- THE SECOND FORM's CARD OF 'spinetlaw31.PinsTexts'. -/
def pinsTextsUptoCard : Claim7 := { stood := { row := pinsTextsUptoRow, standIns := [], harness := (true, "407085ef86f8e9cc3d2cc15c18e6dab92e44dfffa1f20e2d0a492510cb893b57"), looks := false }, kinds := [], alts := [], laidByText := true, laidKinds := [.data, .pinned], laidTests := true, laidLooks := .later }
def PinsTextsUptoCardSaid : Prop := Claim7.holds Tryd.pinned (.plain (OpenSpec.upto pinsTextsSpec)) pinsTextsUptoCard
end Rows
end Go.Proofs.YteaajmoclgfhnabDoor
