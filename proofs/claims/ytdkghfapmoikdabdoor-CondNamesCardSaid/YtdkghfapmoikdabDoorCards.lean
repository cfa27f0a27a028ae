/-
  DERIVED. GIVEN WITH THE SEED: THE CARDS: each row of YtdkghfapmoikdabDoorRows.lean that lists a variable, with what it lists TIED to the program's text (the seventh form; the later family's looks); each row that meets fmt, with fmt's text TOLD by the authors' own Lean function (tested against real Go, not proved from fmt's source: count such statements apart). THE CARD IS WHAT COUNTS. Prove the row's statement (the work); the ties are given (YtdkghfapmoikdabDoorTie.lean); close each card by the builder's one call (the guide's Derived/Test/ToyasCard.lean, 'card_holds'). Laid BY PROGRAM, IN A SANDBOX (cutbox-door.mjs). By AI agents, Wed Nov 11 2026. No macro, syntax, notation, axiom, sorry.
-/
import Derived.Test.YtdkghfapmoikdabDoorRows
import GoSem.ClaimSeven
namespace Go.Proofs.YtdkghfapmoikdabDoor
namespace Rows

/-- THE TIED CARD OF 'spinetlaw12.CondHolds'. -/
def condHoldsCard : Claim7 := { stood := { row := condHoldsRow, standIns := [], harness := (true, "ae6ca9fe52bd66716d316738852dc5a81738dc9f81019463abe36bb5ed0d6551"), looks := false }, kinds := [], alts := [], laidByText := true, laidKinds := [.data], laidTests := true, laidLooks := .later }
def CondHoldsCardSaid : Prop := Claim7.holds Tryd.pinned (.plain (OpenSpec.ofChange condHoldsSpec)) condHoldsCard

/-- THE TIED CARD OF 'spinetlaw12.CondNames'. -/
def condNamesCard : Claim7 := { stood := { row := condNamesRow, standIns := [], harness := (true, "ae6ca9fe52bd66716d316738852dc5a81738dc9f81019463abe36bb5ed0d6551"), looks := false }, kinds := [], alts := [], laidByText := true, laidKinds := [.data], laidTests := true, laidLooks := .later }
def CondNamesCardSaid : Prop := Claim7.holds Tryd.pinned (.plain (OpenSpec.ofChange condNamesSpec)) condNamesCard

/-- THE TIED CARD OF 'spinetlaw12.CondOrders'. -/
def condOrdersCard : Claim7 := { stood := { row := condOrdersRow, standIns := [], harness := (true, "ae6ca9fe52bd66716d316738852dc5a81738dc9f81019463abe36bb5ed0d6551"), looks := false }, kinds := [], alts := [], laidByText := true, laidKinds := [.data], laidTests := true, laidLooks := .later }
def CondOrdersCardSaid : Prop := Claim7.holds Tryd.pinned (.plain (OpenSpec.ofChange condOrdersSpec)) condOrdersCard

/-- THE SECOND FORM's CARD OF 'spinetlaw12.CondHolds'. -/
def condHoldsUptoCard : Claim7 := { stood := { row := condHoldsUptoRow, standIns := [], harness := (true, "ae6ca9fe52bd66716d316738852dc5a81738dc9f81019463abe36bb5ed0d6551"), looks := false }, kinds := [], alts := [], laidByText := true, laidKinds := [.data], laidTests := true, laidLooks := .later }
def CondHoldsUptoCardSaid : Prop := Claim7.holds Tryd.pinned (.plain (OpenSpec.upto condHoldsSpec)) condHoldsUptoCard

/-- THE SECOND FORM's CARD OF 'spinetlaw12.CondNames'. -/
def condNamesUptoCard : Claim7 := { stood := { row := condNamesUptoRow, standIns := [], harness := (true, "ae6ca9fe52bd66716d316738852dc5a81738dc9f81019463abe36bb5ed0d6551"), looks := false }, kinds := [], alts := [], laidByText := true, laidKinds := [.data], laidTests := true, laidLooks := .later }
def CondNamesUptoCardSaid : Prop := Claim7.holds Tryd.pinned (.plain (OpenSpec.upto condNamesSpec)) condNamesUptoCard

/-- THE SECOND FORM's CARD OF 'spinetlaw12.CondOrders'. -/
def condOrdersUptoCard : Claim7 := { stood := { row := condOrdersUptoRow, standIns := [], harness := (true, "ae6ca9fe52bd66716d316738852dc5a81738dc9f81019463abe36bb5ed0d6551"), looks := false }, kinds := [], alts := [], laidByText := true, laidKinds := [.data], laidTests := true, laidLooks := .later }
def CondOrdersUptoCardSaid : Prop := Claim7.holds Tryd.pinned (.plain (OpenSpec.upto condOrdersSpec)) condOrdersUptoCard
end Rows
end Go.Proofs.YtdkghfapmoikdabDoor
