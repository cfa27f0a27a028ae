/-
  DERIVED. GIVEN WITH THE SEED: THE PROGRAM's TIES (one call each: nine closed facts by the kernel) AND EACH ROW's TIE, after the 31st guide's Derived/Test/Toyas{Tie, Card}.lean. No idea stands in it: it is a product of the set-up. Laid BY PROGRAM, IN A SANDBOX (cutbox-door.mjs). By AI agents, Wed Nov 11 2026. No macro, syntax, notation, axiom, sorry.
-/
import Derived.Test.YtljhfalgplihhaaGreatDoorRows
import Derived.LaidByTextLater
import Derived.SevenTiedAt
import Derived.LaidSub
import Derived.LaidOnce
namespace Go.Proofs.YtljhfalgplihhaaGreatDoor
open Go
set_option maxRecDepth 100000
theorem seatTie1 : Tryz.prog.laidByTextLater [("spinet/cond.names", Rows.laid_spinet_cond_names), ("spinet/page.eights", Rows.laid_spinet_page_eights), ("spinet/page.changes", Rows.laid_spinet_page_changes), ("spinet/page.tens", Rows.laid_spinet_page_tens), ("spinet/page.thirties", Rows.laid_spinet_page_thirties), ("spinet/post.kinds", Rows.laid_spinet_post_kinds), ("spinet/ops.registers", Rows.laid_spinet_ops_registers), ("spinet/ops.stems", Rows.laid_spinet_ops_stems), ("spinet/lists.registers", Rows.laid_spinet_lists_registers)] [.data, .data, .data, .data, .data, .data, .data, .data, .data] true :=
  Program.laidByTextLater_by_one 77 8 53 (by kernel_rfl) (by kernel_rfl) (by kernel_rfl) (by kernel_rfl) (by kernel_rfl) (by kernel_rfl) (fun _ _ => by kernel_rfl)
theorem noOwnUnsafe : Tryz.pinned.checked.prog.headLifts.contains "ownunsafe" = false := by kernel_rfl
theorem tie : Tryz.prog.laidByTextLater [("spinet/cond.names", Rows.laid_spinet_cond_names), ("spinet/page.eights", Rows.laid_spinet_page_eights), ("spinet/page.changes", Rows.laid_spinet_page_changes), ("spinet/page.tens", Rows.laid_spinet_page_tens), ("spinet/page.thirties", Rows.laid_spinet_page_thirties), ("spinet/post.kinds", Rows.laid_spinet_post_kinds), ("spinet/ops.registers", Rows.laid_spinet_ops_registers), ("spinet/ops.stems", Rows.laid_spinet_ops_stems), ("spinet/lists.registers", Rows.laid_spinet_lists_registers)] [.data, .data, .data, .data, .data, .data, .data, .data, .data] true :=
  Program.laidByTextLater.sub seatTie1 ["spinet/cond.names", "spinet/page.eights", "spinet/page.changes", "spinet/page.tens", "spinet/page.thirties", "spinet/post.kinds", "spinet/ops.registers", "spinet/ops.stems", "spinet/lists.registers"] (by kernel_rfl) (by kernel_rfl)
theorem disLines_row_tie : Rows.disLinesRow.laidByTextAt .later Tryz.pinned [.data, .data, .data, .data, .data, .data, .data, .data, .data] true :=
  OpenClaim.laidByTextAt_later rfl rfl tie noOwnUnsafe
theorem disLinesUpto_row_tie : Rows.disLinesUptoRow.laidByTextAt .later Tryz.pinned [.data, .data, .data, .data, .data, .data, .data, .data, .data] true :=
  OpenClaim.laidByTextAt_later rfl rfl tie noOwnUnsafe
end Go.Proofs.YtljhfalgplihhaaGreatDoor
