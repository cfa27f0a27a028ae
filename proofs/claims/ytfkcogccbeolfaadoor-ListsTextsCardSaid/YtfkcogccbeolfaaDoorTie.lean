/-
  DERIVED. GIVEN WITH THE SEED: THE PROGRAM's TIES (one call each: nine closed facts by the kernel) AND EACH ROW's TIE, after the 31st guide's Derived/Test/Toyas{Tie, Card}.lean. No idea stands in it: it is a product of the set-up. Laid BY PROGRAM, IN A SANDBOX (cutbox-door.mjs). By AI agents, Wed Nov 11 2026. No macro, syntax, notation, axiom, sorry.
-/
import Derived.Test.YtfkcogccbeolfaaDoorRows
import Derived.LaidByTextLater
import Derived.SevenTiedAt
import Derived.LaidSub
import Derived.LaidOnce
namespace Go.Proofs.YtfkcogccbeolfaaDoor
open Go
set_option maxRecDepth 100000
theorem seatTie1 : Tryd.prog.laidByTextLater [("spinet/cond.names", Rows.laid_spinet_cond_names), ("spinet/page.eights", Rows.laid_spinet_page_eights), ("spinet/page.changes", Rows.laid_spinet_page_changes), ("spinet/page.tens", Rows.laid_spinet_page_tens), ("spinet/page.thirties", Rows.laid_spinet_page_thirties), ("spinet/post.kinds", Rows.laid_spinet_post_kinds), ("spinet/ops.registers", Rows.laid_spinet_ops_registers), ("spinet/ops.stems", Rows.laid_spinet_ops_stems), ("spinet/lists.registers", Rows.laid_spinet_lists_registers)] [.data, .data, .data, .data, .data, .data, .data, .data, .data] true :=
  Program.laidByTextLater_by_one 77 8 53 (by kernel_rfl) (by kernel_rfl) (by kernel_rfl) (by kernel_rfl) (by kernel_rfl) (by kernel_rfl) (fun _ _ => by kernel_rfl)
theorem noOwnUnsafe : Tryd.pinned.checked.prog.headLifts.contains "ownunsafe" = false := by kernel_rfl
theorem tie : Tryd.prog.laidByTextLater [("spinet/cond.names", Rows.laid_spinet_cond_names), ("spinet/ops.registers", Rows.laid_spinet_ops_registers), ("spinet/ops.stems", Rows.laid_spinet_ops_stems)] [.data, .data, .data] true :=
  Program.laidByTextLater.sub seatTie1 ["spinet/cond.names", "spinet/ops.registers", "spinet/ops.stems"] (by kernel_rfl) (by kernel_rfl)
theorem opsNames_row_tie : Rows.opsNamesRow.laidByTextAt .later Tryd.pinned [.data, .data, .data] true :=
  OpenClaim.laidByTextAt_later rfl rfl tie noOwnUnsafe
theorem opsFinds_row_tie : Rows.opsFindsRow.laidByTextAt .later Tryd.pinned [.data, .data, .data] true :=
  OpenClaim.laidByTextAt_later rfl rfl tie noOwnUnsafe
theorem tie2 : Tryd.prog.laidByTextLater [("spinet/page.eights", Rows.laid_spinet_page_eights), ("spinet/page.changes", Rows.laid_spinet_page_changes), ("spinet/page.tens", Rows.laid_spinet_page_tens), ("spinet/page.thirties", Rows.laid_spinet_page_thirties)] [.data, .data, .data, .data] true :=
  Program.laidByTextLater.sub seatTie1 ["spinet/page.eights", "spinet/page.changes", "spinet/page.tens", "spinet/page.thirties"] (by kernel_rfl) (by kernel_rfl)
theorem pageCodes_row_tie : Rows.pageCodesRow.laidByTextAt .later Tryd.pinned [.data, .data, .data, .data] true :=
  OpenClaim.laidByTextAt_later rfl rfl tie2 noOwnUnsafe
theorem pageFinds_row_tie : Rows.pageFindsRow.laidByTextAt .later Tryd.pinned [.data, .data, .data, .data] true :=
  OpenClaim.laidByTextAt_later rfl rfl tie2 noOwnUnsafe
theorem tie3 : Tryd.prog.laidByTextLater [("spinet/post.kinds", Rows.laid_spinet_post_kinds)] [.data] true :=
  Program.laidByTextLater.sub seatTie1 ["spinet/post.kinds"] (by kernel_rfl) (by kernel_rfl)
theorem postBytes_row_tie : Rows.postBytesRow.laidByTextAt .later Tryd.pinned [.data] true :=
  OpenClaim.laidByTextAt_later rfl rfl tie3 noOwnUnsafe
theorem postCodes_row_tie : Rows.postCodesRow.laidByTextAt .later Tryd.pinned [.data] true :=
  OpenClaim.laidByTextAt_later rfl rfl tie3 noOwnUnsafe
theorem tie4 : Tryd.prog.laidByTextLater [("spinet/ops.registers", Rows.laid_spinet_ops_registers), ("spinet/lists.registers", Rows.laid_spinet_lists_registers)] [.data, .data] true :=
  Program.laidByTextLater.sub seatTie1 ["spinet/ops.registers", "spinet/lists.registers"] (by kernel_rfl) (by kernel_rfl)
theorem listsOrders_row_tie : Rows.listsOrdersRow.laidByTextAt .later Tryd.pinned [.data, .data] true :=
  OpenClaim.laidByTextAt_later rfl rfl tie4 noOwnUnsafe
theorem listsParts_row_tie : Rows.listsPartsRow.laidByTextAt .later Tryd.pinned [.data, .data] true :=
  OpenClaim.laidByTextAt_later rfl rfl tie4 noOwnUnsafe
theorem listsTexts_row_tie : Rows.listsTextsRow.laidByTextAt .later Tryd.pinned [.data, .data] true :=
  OpenClaim.laidByTextAt_later rfl rfl tie4 noOwnUnsafe
theorem opsNamesUpto_row_tie : Rows.opsNamesUptoRow.laidByTextAt .later Tryd.pinned [.data, .data, .data] true :=
  OpenClaim.laidByTextAt_later rfl rfl tie noOwnUnsafe
theorem opsFindsUpto_row_tie : Rows.opsFindsUptoRow.laidByTextAt .later Tryd.pinned [.data, .data, .data] true :=
  OpenClaim.laidByTextAt_later rfl rfl tie noOwnUnsafe
theorem pageCodesUpto_row_tie : Rows.pageCodesUptoRow.laidByTextAt .later Tryd.pinned [.data, .data, .data, .data] true :=
  OpenClaim.laidByTextAt_later rfl rfl tie2 noOwnUnsafe
theorem pageFindsUpto_row_tie : Rows.pageFindsUptoRow.laidByTextAt .later Tryd.pinned [.data, .data, .data, .data] true :=
  OpenClaim.laidByTextAt_later rfl rfl tie2 noOwnUnsafe
theorem postBytesUpto_row_tie : Rows.postBytesUptoRow.laidByTextAt .later Tryd.pinned [.data] true :=
  OpenClaim.laidByTextAt_later rfl rfl tie3 noOwnUnsafe
theorem postCodesUpto_row_tie : Rows.postCodesUptoRow.laidByTextAt .later Tryd.pinned [.data] true :=
  OpenClaim.laidByTextAt_later rfl rfl tie3 noOwnUnsafe
theorem listsOrdersUpto_row_tie : Rows.listsOrdersUptoRow.laidByTextAt .later Tryd.pinned [.data, .data] true :=
  OpenClaim.laidByTextAt_later rfl rfl tie4 noOwnUnsafe
theorem listsPartsUpto_row_tie : Rows.listsPartsUptoRow.laidByTextAt .later Tryd.pinned [.data, .data] true :=
  OpenClaim.laidByTextAt_later rfl rfl tie4 noOwnUnsafe
theorem listsTextsUpto_row_tie : Rows.listsTextsUptoRow.laidByTextAt .later Tryd.pinned [.data, .data] true :=
  OpenClaim.laidByTextAt_later rfl rfl tie4 noOwnUnsafe
end Go.Proofs.YtfkcogccbeolfaaDoor
