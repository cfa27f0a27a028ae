/-
  DERIVED. GIVEN WITH THE SEED: THE CARDS: each row of YtoogaenknjdpcacDoorRows.lean that lists a variable, with what it lists TIED to the program's text (the seventh form; the later family's looks); each row that meets fmt, with fmt's text TOLD by the authors' own Lean function (tested against real Go, not proved from fmt's source: count such statements apart). THE CARD IS WHAT COUNTS. Prove the row's statement (the work); the ties are given (YtoogaenknjdpcacDoorTie.lean); close each card by the builder's one call (the guide's Derived/Test/ToyasCard.lean, 'card_holds'). Laid BY PROGRAM, IN A SANDBOX (cutbox-door.mjs). By AI agents, Wed Nov 11 2026. No macro, syntax, notation, axiom, sorry.
-/
import Derived.Test.YtoogaenknjdpcacDoorRows
import GoSem.ClaimSeven
namespace Go.Proofs.YtoogaenknjdpcacDoor
namespace Rows

/-- THE TIED CARD OF 'spinetlaw13.OpsNames'. -/
def opsNamesCard : Claim7 := { stood := { row := opsNamesRow, standIns := [], harness := (true, "07047a1cc7011093a05a3ee1934ea1140914b4f64a9415f89ed2cf363b1aeeba"), looks := false }, kinds := [], alts := [], laidByText := true, laidKinds := [.data, .data, .data], laidTests := true, laidLooks := .later }
def OpsNamesCardSaid : Prop := Claim7.holds Tryd.pinned (.plain (OpenSpec.ofChange opsNamesSpec)) opsNamesCard

/-- THE TIED CARD OF 'spinetlaw13.OpsFinds'. -/
def opsFindsCard : Claim7 := { stood := { row := opsFindsRow, standIns := [], harness := (true, "07047a1cc7011093a05a3ee1934ea1140914b4f64a9415f89ed2cf363b1aeeba"), looks := false }, kinds := [], alts := [], laidByText := true, laidKinds := [.data, .data, .data], laidTests := true, laidLooks := .later }
def OpsFindsCardSaid : Prop := Claim7.holds Tryd.pinned (.plain (OpenSpec.ofChange opsFindsSpec)) opsFindsCard

/-- THE TIED CARD OF 'spinetlaw20.IndexMakes'. -/
def indexMakesCard : Claim7 := { stood := { row := indexMakesRow, standIns := [], harness := (true, "07047a1cc7011093a05a3ee1934ea1140914b4f64a9415f89ed2cf363b1aeeba"), looks := false }, kinds := [], alts := [], laidByText := true, laidKinds := [.data], laidTests := true, laidLooks := .later }
def IndexMakesCardSaid : Prop := Claim7.holds Tryd.pinned (.plain (OpenSpec.ofChange indexMakesSpec)) indexMakesCard

/-- THE TIED CARD OF 'spinetlaw20.IndexInsts'. -/
def indexInstsCard : Claim7 := { stood := { row := indexInstsRow, standIns := [], harness := (true, "07047a1cc7011093a05a3ee1934ea1140914b4f64a9415f89ed2cf363b1aeeba"), looks := false }, kinds := [], alts := [], laidByText := true, laidKinds := [.data], laidTests := true, laidLooks := .later }
def IndexInstsCardSaid : Prop := Claim7.holds Tryd.pinned (.plain (OpenSpec.ofChange indexInstsSpec)) indexInstsCard

/-- THE TIED CARD OF 'spinetlaw25.FrameBytes'. -/
def frameBytesCard : Claim7 := { stood := { row := frameBytesRow, standIns := [], harness := (true, "07047a1cc7011093a05a3ee1934ea1140914b4f64a9415f89ed2cf363b1aeeba"), looks := false }, kinds := [], alts := [], laidByText := true, laidKinds := [.data], laidTests := true, laidLooks := .later }
def FrameBytesCardSaid : Prop := Claim7.holds Tryd.pinned (.plain (OpenSpec.ofChange frameBytesSpec)) frameBytesCard

/-- THE SECOND FORM's CARD OF 'spinetlaw13.OpsNames'. -/
def opsNamesUptoCard : Claim7 := { stood := { row := opsNamesUptoRow, standIns := [], harness := (true, "07047a1cc7011093a05a3ee1934ea1140914b4f64a9415f89ed2cf363b1aeeba"), looks := false }, kinds := [], alts := [], laidByText := true, laidKinds := [.data, .data, .data], laidTests := true, laidLooks := .later }
def OpsNamesUptoCardSaid : Prop := Claim7.holds Tryd.pinned (.plain (OpenSpec.upto opsNamesSpec)) opsNamesUptoCard

/-- THE SECOND FORM's CARD OF 'spinetlaw13.OpsFinds'. -/
def opsFindsUptoCard : Claim7 := { stood := { row := opsFindsUptoRow, standIns := [], harness := (true, "07047a1cc7011093a05a3ee1934ea1140914b4f64a9415f89ed2cf363b1aeeba"), looks := false }, kinds := [], alts := [], laidByText := true, laidKinds := [.data, .data, .data], laidTests := true, laidLooks := .later }
def OpsFindsUptoCardSaid : Prop := Claim7.holds Tryd.pinned (.plain (OpenSpec.upto opsFindsSpec)) opsFindsUptoCard

/-- THE SECOND FORM's CARD OF 'spinetlaw20.IndexMakes'. -/
def indexMakesUptoCard : Claim7 := { stood := { row := indexMakesUptoRow, standIns := [], harness := (true, "07047a1cc7011093a05a3ee1934ea1140914b4f64a9415f89ed2cf363b1aeeba"), looks := false }, kinds := [], alts := [], laidByText := true, laidKinds := [.data], laidTests := true, laidLooks := .later }
def IndexMakesUptoCardSaid : Prop := Claim7.holds Tryd.pinned (.plain (OpenSpec.upto indexMakesSpec)) indexMakesUptoCard

/-- THE SECOND FORM's CARD OF 'spinetlaw20.IndexInsts'. -/
def indexInstsUptoCard : Claim7 := { stood := { row := indexInstsUptoRow, standIns := [], harness := (true, "07047a1cc7011093a05a3ee1934ea1140914b4f64a9415f89ed2cf363b1aeeba"), looks := false }, kinds := [], alts := [], laidByText := true, laidKinds := [.data], laidTests := true, laidLooks := .later }
def IndexInstsUptoCardSaid : Prop := Claim7.holds Tryd.pinned (.plain (OpenSpec.upto indexInstsSpec)) indexInstsUptoCard

/-- THE SECOND FORM's CARD OF 'spinetlaw25.FrameBytes'. -/
def frameBytesUptoCard : Claim7 := { stood := { row := frameBytesUptoRow, standIns := [], harness := (true, "07047a1cc7011093a05a3ee1934ea1140914b4f64a9415f89ed2cf363b1aeeba"), looks := false }, kinds := [], alts := [], laidByText := true, laidKinds := [.data], laidTests := true, laidLooks := .later }
def FrameBytesUptoCardSaid : Prop := Claim7.holds Tryd.pinned (.plain (OpenSpec.upto frameBytesSpec)) frameBytesUptoCard
end Rows
end Go.Proofs.YtoogaenknjdpcacDoor
