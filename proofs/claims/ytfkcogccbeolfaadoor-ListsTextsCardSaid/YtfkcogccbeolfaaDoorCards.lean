/-
  DERIVED. GIVEN WITH THE SEED: THE CARDS: each row of YtfkcogccbeolfaaDoorRows.lean that lists a variable, with what it lists TIED to the program's text (the seventh form; the later family's looks); each row that meets fmt, with fmt's text TOLD by the authors' own Lean function (tested against real Go, not proved from fmt's source: count such statements apart). THE CARD IS WHAT COUNTS. Prove the row's statement (the work); the ties are given (YtfkcogccbeolfaaDoorTie.lean); close each card by the builder's one call (the guide's Derived/Test/ToyasCard.lean, 'card_holds'). Laid BY PROGRAM, IN A SANDBOX (cutbox-door.mjs). By AI agents, Wed Nov 11 2026. No macro, syntax, notation, axiom, sorry.
-/
import Derived.Test.YtfkcogccbeolfaaDoorRows
import GoSem.ClaimSeven
namespace Go.Proofs.YtfkcogccbeolfaaDoor
namespace Rows

/-- THE TIED CARD OF 'spinetlaw13.OpsNames'. -/
def opsNamesCard : Claim7 := { stood := { row := opsNamesRow, standIns := [], harness := (true, "7146ad8a51b5847c3f4631558a30b28e633632f5fd456b2ca714025f2d16818e"), looks := false }, kinds := [], alts := [], laidByText := true, laidKinds := [.data, .data, .data], laidTests := true, laidLooks := .later }
def OpsNamesCardSaid : Prop := Claim7.holds Tryd.pinned (.plain (OpenSpec.ofChange opsNamesSpec)) opsNamesCard

/-- THE TIED CARD OF 'spinetlaw13.OpsFinds'. -/
def opsFindsCard : Claim7 := { stood := { row := opsFindsRow, standIns := [], harness := (true, "7146ad8a51b5847c3f4631558a30b28e633632f5fd456b2ca714025f2d16818e"), looks := false }, kinds := [], alts := [], laidByText := true, laidKinds := [.data, .data, .data], laidTests := true, laidLooks := .later }
def OpsFindsCardSaid : Prop := Claim7.holds Tryd.pinned (.plain (OpenSpec.ofChange opsFindsSpec)) opsFindsCard

/-- THE TIED CARD OF 'spinetlaw14.PageCodes'. -/
def pageCodesCard : Claim7 := { stood := { row := pageCodesRow, standIns := [], harness := (true, "7146ad8a51b5847c3f4631558a30b28e633632f5fd456b2ca714025f2d16818e"), looks := false }, kinds := [], alts := [], laidByText := true, laidKinds := [.data, .data, .data, .data], laidTests := true, laidLooks := .later }
def PageCodesCardSaid : Prop := Claim7.holds Tryd.pinned (.plain (OpenSpec.ofChange pageCodesSpec)) pageCodesCard

/-- THE TIED CARD OF 'spinetlaw14.PageFinds'. -/
def pageFindsCard : Claim7 := { stood := { row := pageFindsRow, standIns := [], harness := (true, "7146ad8a51b5847c3f4631558a30b28e633632f5fd456b2ca714025f2d16818e"), looks := false }, kinds := [], alts := [], laidByText := true, laidKinds := [.data, .data, .data, .data], laidTests := true, laidLooks := .later }
def PageFindsCardSaid : Prop := Claim7.holds Tryd.pinned (.plain (OpenSpec.ofChange pageFindsSpec)) pageFindsCard

/-- THE TIED CARD OF 'spinetlaw15.PostBytes'. -/
def postBytesCard : Claim7 := { stood := { row := postBytesRow, standIns := [], harness := (true, "7146ad8a51b5847c3f4631558a30b28e633632f5fd456b2ca714025f2d16818e"), looks := false }, kinds := [], alts := [], laidByText := true, laidKinds := [.data], laidTests := true, laidLooks := .later }
def PostBytesCardSaid : Prop := Claim7.holds Tryd.pinned (.plain (OpenSpec.ofChange postBytesSpec)) postBytesCard

/-- THE TIED CARD OF 'spinetlaw15.PostCodes'. -/
def postCodesCard : Claim7 := { stood := { row := postCodesRow, standIns := [], harness := (true, "7146ad8a51b5847c3f4631558a30b28e633632f5fd456b2ca714025f2d16818e"), looks := false }, kinds := [], alts := [], laidByText := true, laidKinds := [.data], laidTests := true, laidLooks := .later }
def PostCodesCardSaid : Prop := Claim7.holds Tryd.pinned (.plain (OpenSpec.ofChange postCodesSpec)) postCodesCard

/-- THE TIED CARD OF 'spinetlaw17.ListsOrders'. -/
def listsOrdersCard : Claim7 := { stood := { row := listsOrdersRow, standIns := [], harness := (true, "7146ad8a51b5847c3f4631558a30b28e633632f5fd456b2ca714025f2d16818e"), looks := false }, kinds := [], alts := [], laidByText := true, laidKinds := [.data, .data], laidTests := true, laidLooks := .later }
def ListsOrdersCardSaid : Prop := Claim7.holds Tryd.pinned (.plain (OpenSpec.ofChange listsOrdersSpec)) listsOrdersCard

/-- THE TIED CARD OF 'spinetlaw17.ListsParts'. -/
def listsPartsCard : Claim7 := { stood := { row := listsPartsRow, standIns := [], harness := (true, "7146ad8a51b5847c3f4631558a30b28e633632f5fd456b2ca714025f2d16818e"), looks := false }, kinds := [], alts := [], laidByText := true, laidKinds := [.data, .data], laidTests := true, laidLooks := .later }
def ListsPartsCardSaid : Prop := Claim7.holds Tryd.pinned (.plain (OpenSpec.ofChange listsPartsSpec)) listsPartsCard

/-- THE TIED CARD OF 'spinetlaw17.ListsTexts'. -/
def listsTextsCard : Claim7 := { stood := { row := listsTextsRow, standIns := [], harness := (true, "7146ad8a51b5847c3f4631558a30b28e633632f5fd456b2ca714025f2d16818e"), looks := false }, kinds := [], alts := [], laidByText := true, laidKinds := [.data, .data], laidTests := true, laidLooks := .later }
def ListsTextsCardSaid : Prop := Claim7.holds Tryd.pinned (.plain (OpenSpec.ofChange listsTextsSpec)) listsTextsCard

/-- THE SECOND FORM's CARD OF 'spinetlaw13.OpsNames'. -/
def opsNamesUptoCard : Claim7 := { stood := { row := opsNamesUptoRow, standIns := [], harness := (true, "7146ad8a51b5847c3f4631558a30b28e633632f5fd456b2ca714025f2d16818e"), looks := false }, kinds := [], alts := [], laidByText := true, laidKinds := [.data, .data, .data], laidTests := true, laidLooks := .later }
def OpsNamesUptoCardSaid : Prop := Claim7.holds Tryd.pinned (.plain (OpenSpec.upto opsNamesSpec)) opsNamesUptoCard

/-- THE SECOND FORM's CARD OF 'spinetlaw13.OpsFinds'. -/
def opsFindsUptoCard : Claim7 := { stood := { row := opsFindsUptoRow, standIns := [], harness := (true, "7146ad8a51b5847c3f4631558a30b28e633632f5fd456b2ca714025f2d16818e"), looks := false }, kinds := [], alts := [], laidByText := true, laidKinds := [.data, .data, .data], laidTests := true, laidLooks := .later }
def OpsFindsUptoCardSaid : Prop := Claim7.holds Tryd.pinned (.plain (OpenSpec.upto opsFindsSpec)) opsFindsUptoCard

/-- THE SECOND FORM's CARD OF 'spinetlaw14.PageCodes'. -/
def pageCodesUptoCard : Claim7 := { stood := { row := pageCodesUptoRow, standIns := [], harness := (true, "7146ad8a51b5847c3f4631558a30b28e633632f5fd456b2ca714025f2d16818e"), looks := false }, kinds := [], alts := [], laidByText := true, laidKinds := [.data, .data, .data, .data], laidTests := true, laidLooks := .later }
def PageCodesUptoCardSaid : Prop := Claim7.holds Tryd.pinned (.plain (OpenSpec.upto pageCodesSpec)) pageCodesUptoCard

/-- THE SECOND FORM's CARD OF 'spinetlaw14.PageFinds'. -/
def pageFindsUptoCard : Claim7 := { stood := { row := pageFindsUptoRow, standIns := [], harness := (true, "7146ad8a51b5847c3f4631558a30b28e633632f5fd456b2ca714025f2d16818e"), looks := false }, kinds := [], alts := [], laidByText := true, laidKinds := [.data, .data, .data, .data], laidTests := true, laidLooks := .later }
def PageFindsUptoCardSaid : Prop := Claim7.holds Tryd.pinned (.plain (OpenSpec.upto pageFindsSpec)) pageFindsUptoCard

/-- THE SECOND FORM's CARD OF 'spinetlaw15.PostBytes'. -/
def postBytesUptoCard : Claim7 := { stood := { row := postBytesUptoRow, standIns := [], harness := (true, "7146ad8a51b5847c3f4631558a30b28e633632f5fd456b2ca714025f2d16818e"), looks := false }, kinds := [], alts := [], laidByText := true, laidKinds := [.data], laidTests := true, laidLooks := .later }
def PostBytesUptoCardSaid : Prop := Claim7.holds Tryd.pinned (.plain (OpenSpec.upto postBytesSpec)) postBytesUptoCard

/-- THE SECOND FORM's CARD OF 'spinetlaw15.PostCodes'. -/
def postCodesUptoCard : Claim7 := { stood := { row := postCodesUptoRow, standIns := [], harness := (true, "7146ad8a51b5847c3f4631558a30b28e633632f5fd456b2ca714025f2d16818e"), looks := false }, kinds := [], alts := [], laidByText := true, laidKinds := [.data], laidTests := true, laidLooks := .later }
def PostCodesUptoCardSaid : Prop := Claim7.holds Tryd.pinned (.plain (OpenSpec.upto postCodesSpec)) postCodesUptoCard

/-- THE SECOND FORM's CARD OF 'spinetlaw17.ListsOrders'. -/
def listsOrdersUptoCard : Claim7 := { stood := { row := listsOrdersUptoRow, standIns := [], harness := (true, "7146ad8a51b5847c3f4631558a30b28e633632f5fd456b2ca714025f2d16818e"), looks := false }, kinds := [], alts := [], laidByText := true, laidKinds := [.data, .data], laidTests := true, laidLooks := .later }
def ListsOrdersUptoCardSaid : Prop := Claim7.holds Tryd.pinned (.plain (OpenSpec.upto listsOrdersSpec)) listsOrdersUptoCard

/-- THE SECOND FORM's CARD OF 'spinetlaw17.ListsParts'. -/
def listsPartsUptoCard : Claim7 := { stood := { row := listsPartsUptoRow, standIns := [], harness := (true, "7146ad8a51b5847c3f4631558a30b28e633632f5fd456b2ca714025f2d16818e"), looks := false }, kinds := [], alts := [], laidByText := true, laidKinds := [.data, .data], laidTests := true, laidLooks := .later }
def ListsPartsUptoCardSaid : Prop := Claim7.holds Tryd.pinned (.plain (OpenSpec.upto listsPartsSpec)) listsPartsUptoCard

/-- THE SECOND FORM's CARD OF 'spinetlaw17.ListsTexts'. -/
def listsTextsUptoCard : Claim7 := { stood := { row := listsTextsUptoRow, standIns := [], harness := (true, "7146ad8a51b5847c3f4631558a30b28e633632f5fd456b2ca714025f2d16818e"), looks := false }, kinds := [], alts := [], laidByText := true, laidKinds := [.data, .data], laidTests := true, laidLooks := .later }
def ListsTextsUptoCardSaid : Prop := Claim7.holds Tryd.pinned (.plain (OpenSpec.upto listsTextsSpec)) listsTextsUptoCard
end Rows
end Go.Proofs.YtfkcogccbeolfaaDoor
