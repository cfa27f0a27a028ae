/-
  DERIVED. GIVEN WITH THE SEED: THE CARDS: each row of YtfkcogccbeolfabDoorRows.lean that lists a variable, with what it lists TIED to the program's text (the seventh form; the later family's looks); each row that meets fmt, with fmt's text TOLD by the authors' own Lean function (tested against real Go, not proved from fmt's source: count such statements apart). THE CARD IS WHAT COUNTS. Prove the row's statement (the work); the ties are given (YtfkcogccbeolfabDoorTie.lean); close each card by the builder's one call (the guide's Derived/Test/ToyasCard.lean, 'card_holds'). Laid BY PROGRAM, IN A SANDBOX (cutbox-door.mjs). By AI agents, Wed Nov 11 2026. No macro, syntax, notation, axiom, sorry.
-/
import Derived.Test.YtfkcogccbeolfabDoorRows
import GoSem.ClaimSeven
namespace Go.Proofs.YtfkcogccbeolfabDoor
namespace Rows

/-- THE TIED CARD OF 'spinetlaw17.ListsReads'. -/
def listsReadsCard : Claim7 := { stood := { row := listsReadsRow, standIns := [], harness := (true, "26073e62b93738aef659c23b1ae45a00e84d94f69c2c0e82afbefc8fdb104327"), looks := false }, kinds := [], alts := [], laidByText := true, laidKinds := [.data, .data], laidTests := true, laidLooks := .later }
def ListsReadsCardSaid : Prop := Claim7.holds Tryd.pinned (.plain (OpenSpec.ofChange listsReadsSpec)) listsReadsCard

/-- THE TIED CARD OF 'spinetlaw18.InstReads'. -/
def instReadsCard : Claim7 := { stood := { row := instReadsRow, standIns := [], harness := (true, "26073e62b93738aef659c23b1ae45a00e84d94f69c2c0e82afbefc8fdb104327"), looks := false }, kinds := [], alts := [], laidByText := true, laidKinds := [.data, .data, .data, .data, .data], laidTests := true, laidLooks := .later }
def InstReadsCardSaid : Prop := Claim7.holds Tryd.pinned (.plain (OpenSpec.ofChange instReadsSpec)) instReadsCard

/-- THE TIED CARD OF 'spinetlaw18.InstPuts'. -/
def instPutsCard : Claim7 := { stood := { row := instPutsRow, standIns := [], harness := (true, "26073e62b93738aef659c23b1ae45a00e84d94f69c2c0e82afbefc8fdb104327"), looks := false }, kinds := [], alts := [], laidByText := true, laidKinds := [.data, .data, .data, .data, .data], laidTests := true, laidLooks := .later }
def InstPutsCardSaid : Prop := Claim7.holds Tryd.pinned (.plain (OpenSpec.ofChange instPutsSpec)) instPutsCard

/-- THE TIED CARD OF 'spinetlaw19.TableCounts'. -/
def tableCountsCard : Claim7 := { stood := { row := tableCountsRow, standIns := [], harness := (true, "26073e62b93738aef659c23b1ae45a00e84d94f69c2c0e82afbefc8fdb104327"), looks := false }, kinds := [], alts := [], laidByText := true, laidKinds := [.data], laidTests := true, laidLooks := .later }
def TableCountsCardSaid : Prop := Claim7.holds Tryd.pinned (.plain (OpenSpec.ofChange tableCountsSpec)) tableCountsCard

/-- THE TIED CARD OF 'spinetlaw19.TableBounds'. -/
def tableBoundsCard : Claim7 := { stood := { row := tableBoundsRow, standIns := [], harness := (true, "26073e62b93738aef659c23b1ae45a00e84d94f69c2c0e82afbefc8fdb104327"), looks := false }, kinds := [], alts := [], laidByText := true, laidKinds := [.data], laidTests := true, laidLooks := .later }
def TableBoundsCardSaid : Prop := Claim7.holds Tryd.pinned (.plain (OpenSpec.ofChange tableBoundsSpec)) tableBoundsCard

/-- THE SECOND FORM's CARD OF 'spinetlaw17.ListsReads'. -/
def listsReadsUptoCard : Claim7 := { stood := { row := listsReadsUptoRow, standIns := [], harness := (true, "26073e62b93738aef659c23b1ae45a00e84d94f69c2c0e82afbefc8fdb104327"), looks := false }, kinds := [], alts := [], laidByText := true, laidKinds := [.data, .data], laidTests := true, laidLooks := .later }
def ListsReadsUptoCardSaid : Prop := Claim7.holds Tryd.pinned (.plain (OpenSpec.upto listsReadsSpec)) listsReadsUptoCard

/-- THE SECOND FORM's CARD OF 'spinetlaw18.InstReads'. -/
def instReadsUptoCard : Claim7 := { stood := { row := instReadsUptoRow, standIns := [], harness := (true, "26073e62b93738aef659c23b1ae45a00e84d94f69c2c0e82afbefc8fdb104327"), looks := false }, kinds := [], alts := [], laidByText := true, laidKinds := [.data, .data, .data, .data, .data], laidTests := true, laidLooks := .later }
def InstReadsUptoCardSaid : Prop := Claim7.holds Tryd.pinned (.plain (OpenSpec.upto instReadsSpec)) instReadsUptoCard

/-- THE SECOND FORM's CARD OF 'spinetlaw18.InstPuts'. -/
def instPutsUptoCard : Claim7 := { stood := { row := instPutsUptoRow, standIns := [], harness := (true, "26073e62b93738aef659c23b1ae45a00e84d94f69c2c0e82afbefc8fdb104327"), looks := false }, kinds := [], alts := [], laidByText := true, laidKinds := [.data, .data, .data, .data, .data], laidTests := true, laidLooks := .later }
def InstPutsUptoCardSaid : Prop := Claim7.holds Tryd.pinned (.plain (OpenSpec.upto instPutsSpec)) instPutsUptoCard

/-- THE SECOND FORM's CARD OF 'spinetlaw19.TableCounts'. -/
def tableCountsUptoCard : Claim7 := { stood := { row := tableCountsUptoRow, standIns := [], harness := (true, "26073e62b93738aef659c23b1ae45a00e84d94f69c2c0e82afbefc8fdb104327"), looks := false }, kinds := [], alts := [], laidByText := true, laidKinds := [.data], laidTests := true, laidLooks := .later }
def TableCountsUptoCardSaid : Prop := Claim7.holds Tryd.pinned (.plain (OpenSpec.upto tableCountsSpec)) tableCountsUptoCard

/-- THE SECOND FORM's CARD OF 'spinetlaw19.TableBounds'. -/
def tableBoundsUptoCard : Claim7 := { stood := { row := tableBoundsUptoRow, standIns := [], harness := (true, "26073e62b93738aef659c23b1ae45a00e84d94f69c2c0e82afbefc8fdb104327"), looks := false }, kinds := [], alts := [], laidByText := true, laidKinds := [.data], laidTests := true, laidLooks := .later }
def TableBoundsUptoCardSaid : Prop := Claim7.holds Tryd.pinned (.plain (OpenSpec.upto tableBoundsSpec)) tableBoundsUptoCard
end Rows
end Go.Proofs.YtfkcogccbeolfabDoor
