/-
  DERIVED. GIVEN WITH THE SEED: THE CARDS: each row of YtkdekhcnamkcgaaDoorRows.lean that lists a variable, with what it lists TIED to the program's text (the seventh form; the later family's looks); each row that meets fmt, with fmt's text TOLD by the authors' own Lean function (tested against real Go, not proved from fmt's source: count such statements apart). THE CARD IS WHAT COUNTS. Prove the row's statement (the work); the ties are given (YtkdekhcnamkcgaaDoorTie.lean); close each card by the builder's one call (the guide's Derived/Test/ToyasCard.lean, 'card_holds'). Laid BY PROGRAM, IN A SANDBOX (cutbox-door.mjs). By AI agents, Wed Nov 11 2026. No macro, syntax, notation, axiom, sorry.
-/
import Derived.Test.YtkdekhcnamkcgaaDoorRows
import GoSem.ClaimSeven
namespace Go.Proofs.YtkdekhcnamkcgaaDoor
namespace Rows

/-- THE TIED CARD OF 'spinetlaw13.OpsNames'. -/
def opsNamesCard : Claim7 := { stood := { row := opsNamesRow, standIns := [], harness := (true, "bc3651b2dc0446ad07fa4586854794203db3f73a5e50644401cf4c38e38ccae7"), looks := false }, kinds := [], alts := [], laidByText := true, laidKinds := [.data, .data, .data], laidTests := true, laidLooks := .later }
def OpsNamesCardSaid : Prop := Claim7.holds Tryd.pinned (.plain (OpenSpec.ofChange opsNamesSpec)) opsNamesCard

/-- THE TIED CARD OF 'spinetlaw13.OpsFinds'. -/
def opsFindsCard : Claim7 := { stood := { row := opsFindsRow, standIns := [], harness := (true, "bc3651b2dc0446ad07fa4586854794203db3f73a5e50644401cf4c38e38ccae7"), looks := false }, kinds := [], alts := [], laidByText := true, laidKinds := [.data, .data, .data], laidTests := true, laidLooks := .later }
def OpsFindsCardSaid : Prop := Claim7.holds Tryd.pinned (.plain (OpenSpec.ofChange opsFindsSpec)) opsFindsCard

/-- THE TIED CARD OF 'spinetlaw20.IndexMakes'. -/
def indexMakesCard : Claim7 := { stood := { row := indexMakesRow, standIns := [], harness := (true, "bc3651b2dc0446ad07fa4586854794203db3f73a5e50644401cf4c38e38ccae7"), looks := false }, kinds := [], alts := [], laidByText := true, laidKinds := [.data], laidTests := true, laidLooks := .later }
def IndexMakesCardSaid : Prop := Claim7.holds Tryd.pinned (.plain (OpenSpec.ofChange indexMakesSpec)) indexMakesCard

/-- THE TIED CARD OF 'spinetlaw20.IndexInsts'. -/
def indexInstsCard : Claim7 := { stood := { row := indexInstsRow, standIns := [], harness := (true, "bc3651b2dc0446ad07fa4586854794203db3f73a5e50644401cf4c38e38ccae7"), looks := false }, kinds := [], alts := [], laidByText := true, laidKinds := [.data], laidTests := true, laidLooks := .later }
def IndexInstsCardSaid : Prop := Claim7.holds Tryd.pinned (.plain (OpenSpec.ofChange indexInstsSpec)) indexInstsCard

/-- THE TIED CARD OF 'spinetlaw20.IndexWalks'. -/
def indexWalksCard : Claim7 := { stood := { row := indexWalksRow, standIns := [], harness := (true, "bc3651b2dc0446ad07fa4586854794203db3f73a5e50644401cf4c38e38ccae7"), looks := false }, kinds := [], alts := [], laidByText := true, laidKinds := [.data], laidTests := true, laidLooks := .later }
def IndexWalksCardSaid : Prop := Claim7.holds Tryd.pinned (.plain (OpenSpec.ofChange indexWalksSpec)) indexWalksCard

/-- THE SECOND FORM's CARD OF 'spinetlaw13.OpsNames'. -/
def opsNamesUptoCard : Claim7 := { stood := { row := opsNamesUptoRow, standIns := [], harness := (true, "bc3651b2dc0446ad07fa4586854794203db3f73a5e50644401cf4c38e38ccae7"), looks := false }, kinds := [], alts := [], laidByText := true, laidKinds := [.data, .data, .data], laidTests := true, laidLooks := .later }
def OpsNamesUptoCardSaid : Prop := Claim7.holds Tryd.pinned (.plain (OpenSpec.upto opsNamesSpec)) opsNamesUptoCard

/-- THE SECOND FORM's CARD OF 'spinetlaw13.OpsFinds'. -/
def opsFindsUptoCard : Claim7 := { stood := { row := opsFindsUptoRow, standIns := [], harness := (true, "bc3651b2dc0446ad07fa4586854794203db3f73a5e50644401cf4c38e38ccae7"), looks := false }, kinds := [], alts := [], laidByText := true, laidKinds := [.data, .data, .data], laidTests := true, laidLooks := .later }
def OpsFindsUptoCardSaid : Prop := Claim7.holds Tryd.pinned (.plain (OpenSpec.upto opsFindsSpec)) opsFindsUptoCard

/-- THE SECOND FORM's CARD OF 'spinetlaw20.IndexMakes'. -/
def indexMakesUptoCard : Claim7 := { stood := { row := indexMakesUptoRow, standIns := [], harness := (true, "bc3651b2dc0446ad07fa4586854794203db3f73a5e50644401cf4c38e38ccae7"), looks := false }, kinds := [], alts := [], laidByText := true, laidKinds := [.data], laidTests := true, laidLooks := .later }
def IndexMakesUptoCardSaid : Prop := Claim7.holds Tryd.pinned (.plain (OpenSpec.upto indexMakesSpec)) indexMakesUptoCard

/-- THE SECOND FORM's CARD OF 'spinetlaw20.IndexInsts'. -/
def indexInstsUptoCard : Claim7 := { stood := { row := indexInstsUptoRow, standIns := [], harness := (true, "bc3651b2dc0446ad07fa4586854794203db3f73a5e50644401cf4c38e38ccae7"), looks := false }, kinds := [], alts := [], laidByText := true, laidKinds := [.data], laidTests := true, laidLooks := .later }
def IndexInstsUptoCardSaid : Prop := Claim7.holds Tryd.pinned (.plain (OpenSpec.upto indexInstsSpec)) indexInstsUptoCard

/-- THE SECOND FORM's CARD OF 'spinetlaw20.IndexWalks'. -/
def indexWalksUptoCard : Claim7 := { stood := { row := indexWalksUptoRow, standIns := [], harness := (true, "bc3651b2dc0446ad07fa4586854794203db3f73a5e50644401cf4c38e38ccae7"), looks := false }, kinds := [], alts := [], laidByText := true, laidKinds := [.data], laidTests := true, laidLooks := .later }
def IndexWalksUptoCardSaid : Prop := Claim7.holds Tryd.pinned (.plain (OpenSpec.upto indexWalksSpec)) indexWalksUptoCard
end Rows
end Go.Proofs.YtkdekhcnamkcgaaDoor
