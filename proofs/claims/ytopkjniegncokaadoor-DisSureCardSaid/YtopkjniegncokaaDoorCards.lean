/-
  DERIVED. GIVEN WITH THE SEED: THE CARDS: each row of YtopkjniegncokaaDoorRows.lean that lists a variable, with what it lists TIED to the program's text (the seventh form; the later family's looks); each row that meets fmt, with fmt's text TOLD by the authors' own Lean function (tested against real Go, not proved from fmt's source: count such statements apart). THE CARD IS WHAT COUNTS. Prove the row's statement (the work); the ties are given (YtopkjniegncokaaDoorTie.lean); close each card by the builder's one call (the guide's Derived/Test/ToyasCard.lean, 'card_holds'). Laid BY PROGRAM, IN A SANDBOX (cutbox-door.mjs). By AI agents, Wed Nov 11 2026. No macro, syntax, notation, axiom, sorry.
-/
import Derived.Test.YtopkjniegncokaaDoorRows
import GoSem.ClaimSeven
namespace Go.Proofs.YtopkjniegncokaaDoor
namespace Rows

/-- THE TIED CARD OF 'spinetlaw42.DisTexts'. -/
def disTextsCard : Claim7 := { stood := { row := disTextsRow, standIns := [], harness := (true, "f516f400b5d1434621953be0bf6e16551c3400a04cfbdbb49774212705667aea"), looks := false }, kinds := [], alts := [], laidByText := true, laidKinds := [.data, .data, .data, .data, .data, .data, .data, .data, .data], laidTests := true, laidLooks := .later }
def DisTextsCardSaid : Prop := Claim7.holds Tryd.pinned (.plain (OpenSpec.ofChange disTextsSpec)) disTextsCard

/-- THE TIED CARD OF 'spinetlaw42.DisSure'. -/
def disSureCard : Claim7 := { stood := { row := disSureRow, standIns := [], harness := (true, "f516f400b5d1434621953be0bf6e16551c3400a04cfbdbb49774212705667aea"), looks := false }, kinds := [], alts := [], laidByText := true, laidKinds := [.data, .data, .data, .data, .data, .data, .data, .data, .data], laidTests := true, laidLooks := .later }
def DisSureCardSaid : Prop := Claim7.holds Tryd.pinned (.plain (OpenSpec.ofChange disSureSpec)) disSureCard

/-- THE SECOND FORM's CARD OF 'spinetlaw42.DisTexts'. -/
def disTextsUptoCard : Claim7 := { stood := { row := disTextsUptoRow, standIns := [], harness := (true, "f516f400b5d1434621953be0bf6e16551c3400a04cfbdbb49774212705667aea"), looks := false }, kinds := [], alts := [], laidByText := true, laidKinds := [.data, .data, .data, .data, .data, .data, .data, .data, .data], laidTests := true, laidLooks := .later }
def DisTextsUptoCardSaid : Prop := Claim7.holds Tryd.pinned (.plain (OpenSpec.upto disTextsSpec)) disTextsUptoCard

/-- THE SECOND FORM's CARD OF 'spinetlaw42.DisSure'. -/
def disSureUptoCard : Claim7 := { stood := { row := disSureUptoRow, standIns := [], harness := (true, "f516f400b5d1434621953be0bf6e16551c3400a04cfbdbb49774212705667aea"), looks := false }, kinds := [], alts := [], laidByText := true, laidKinds := [.data, .data, .data, .data, .data, .data, .data, .data, .data], laidTests := true, laidLooks := .later }
def DisSureUptoCardSaid : Prop := Claim7.holds Tryd.pinned (.plain (OpenSpec.upto disSureSpec)) disSureUptoCard
end Rows
end Go.Proofs.YtopkjniegncokaaDoor
