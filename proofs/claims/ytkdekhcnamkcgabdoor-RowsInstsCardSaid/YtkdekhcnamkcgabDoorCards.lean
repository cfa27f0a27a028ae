/-
  DERIVED. GIVEN WITH THE SEED: THE CARDS: each row of YtkdekhcnamkcgabDoorRows.lean that lists a variable, with what it lists TIED to the program's text (the seventh form; the later family's looks); each row that meets fmt, with fmt's text TOLD by the authors' own Lean function (tested against real Go, not proved from fmt's source: count such statements apart). THE CARD IS WHAT COUNTS. Prove the row's statement (the work); the ties are given (YtkdekhcnamkcgabDoorTie.lean); close each card by the builder's one call (the guide's Derived/Test/ToyasCard.lean, 'card_holds'). Laid BY PROGRAM, IN A SANDBOX (cutbox-door.mjs). By AI agents, Wed Nov 11 2026. No macro, syntax, notation, axiom, sorry.
-/
import Derived.Test.YtkdekhcnamkcgabDoorRows
import GoSem.ClaimSeven
namespace Go.Proofs.YtkdekhcnamkcgabDoor
namespace Rows

/-- THE TIED CARD OF 'spinetlaw23.RowsInsts'. -/
def rowsInstsCard : Claim7 := { stood := { row := rowsInstsRow, standIns := [], harness := (true, "8daadb8d375bb77d47a8b0cdb6162ee15a0e44550cb766aa135765e507c0b0e9"), looks := false }, kinds := [], alts := [], laidByText := true, laidKinds := [.data], laidTests := true, laidLooks := .later }
def RowsInstsCardSaid : Prop := Claim7.holds Tryd.pinned (.plain (OpenSpec.ofChange rowsInstsSpec)) rowsInstsCard

/-- THE TIED CARD OF 'spinetlaw23.RowsOthers'. -/
def rowsOthersCard : Claim7 := { stood := { row := rowsOthersRow, standIns := [], harness := (true, "8daadb8d375bb77d47a8b0cdb6162ee15a0e44550cb766aa135765e507c0b0e9"), looks := false }, kinds := [], alts := [], laidByText := true, laidKinds := [.data], laidTests := true, laidLooks := .later }
def RowsOthersCardSaid : Prop := Claim7.holds Tryd.pinned (.plain (OpenSpec.ofChange rowsOthersSpec)) rowsOthersCard

/-- THE TIED CARD OF 'spinetlaw23.RowsCount'. -/
def rowsCountCard : Claim7 := { stood := { row := rowsCountRow, standIns := [], harness := (true, "8daadb8d375bb77d47a8b0cdb6162ee15a0e44550cb766aa135765e507c0b0e9"), looks := false }, kinds := [], alts := [], laidByText := true, laidKinds := [.data], laidTests := true, laidLooks := .later }
def RowsCountCardSaid : Prop := Claim7.holds Tryd.pinned (.plain (OpenSpec.ofChange rowsCountSpec)) rowsCountCard

/-- THE SECOND FORM's CARD OF 'spinetlaw23.RowsInsts'. -/
def rowsInstsUptoCard : Claim7 := { stood := { row := rowsInstsUptoRow, standIns := [], harness := (true, "8daadb8d375bb77d47a8b0cdb6162ee15a0e44550cb766aa135765e507c0b0e9"), looks := false }, kinds := [], alts := [], laidByText := true, laidKinds := [.data], laidTests := true, laidLooks := .later }
def RowsInstsUptoCardSaid : Prop := Claim7.holds Tryd.pinned (.plain (OpenSpec.upto rowsInstsSpec)) rowsInstsUptoCard

/-- THE SECOND FORM's CARD OF 'spinetlaw23.RowsOthers'. -/
def rowsOthersUptoCard : Claim7 := { stood := { row := rowsOthersUptoRow, standIns := [], harness := (true, "8daadb8d375bb77d47a8b0cdb6162ee15a0e44550cb766aa135765e507c0b0e9"), looks := false }, kinds := [], alts := [], laidByText := true, laidKinds := [.data], laidTests := true, laidLooks := .later }
def RowsOthersUptoCardSaid : Prop := Claim7.holds Tryd.pinned (.plain (OpenSpec.upto rowsOthersSpec)) rowsOthersUptoCard

/-- THE SECOND FORM's CARD OF 'spinetlaw23.RowsCount'. -/
def rowsCountUptoCard : Claim7 := { stood := { row := rowsCountUptoRow, standIns := [], harness := (true, "8daadb8d375bb77d47a8b0cdb6162ee15a0e44550cb766aa135765e507c0b0e9"), looks := false }, kinds := [], alts := [], laidByText := true, laidKinds := [.data], laidTests := true, laidLooks := .later }
def RowsCountUptoCardSaid : Prop := Claim7.holds Tryd.pinned (.plain (OpenSpec.upto rowsCountSpec)) rowsCountUptoCard
end Rows
end Go.Proofs.YtkdekhcnamkcgabDoor
