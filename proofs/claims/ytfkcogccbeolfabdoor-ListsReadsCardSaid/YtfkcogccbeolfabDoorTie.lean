/-
  DERIVED. GIVEN WITH THE SEED: THE PROGRAM's TIES (one call each: nine closed facts by the kernel) AND EACH ROW's TIE, after the 31st guide's Derived/Test/Toyas{Tie, Card}.lean. No idea stands in it: it is a product of the set-up. Laid BY PROGRAM, IN A SANDBOX (cutbox-door.mjs). By AI agents, Wed Nov 11 2026. No macro, syntax, notation, axiom, sorry.
-/
import Derived.Test.YtfkcogccbeolfabDoorRows
import Derived.LaidByTextLater
import Derived.SevenTiedAt
import Derived.LaidSub
import Derived.LaidOnce
namespace Go.Proofs.YtfkcogccbeolfabDoor
open Go
set_option maxRecDepth 100000
theorem seatTie1 : Tryd.prog.laidByTextLater [("spinet/page.eights", Rows.laid_spinet_page_eights), ("spinet/page.changes", Rows.laid_spinet_page_changes), ("spinet/page.tens", Rows.laid_spinet_page_tens), ("spinet/page.thirties", Rows.laid_spinet_page_thirties), ("spinet/post.kinds", Rows.laid_spinet_post_kinds), ("spinet/ops.registers", Rows.laid_spinet_ops_registers), ("spinet/lists.registers", Rows.laid_spinet_lists_registers)] [.data, .data, .data, .data, .data, .data, .data] true :=
  Program.laidByTextLater_by_one 67 8 49 (by kernel_rfl) (by kernel_rfl) (by kernel_rfl) (by kernel_rfl) (by kernel_rfl) (by kernel_rfl) (fun _ _ => by kernel_rfl)
theorem noOwnUnsafe : Tryd.pinned.checked.prog.headLifts.contains "ownunsafe" = false := by kernel_rfl
theorem tie : Tryd.prog.laidByTextLater [("spinet/ops.registers", Rows.laid_spinet_ops_registers), ("spinet/lists.registers", Rows.laid_spinet_lists_registers)] [.data, .data] true :=
  Program.laidByTextLater.sub seatTie1 ["spinet/ops.registers", "spinet/lists.registers"] (by kernel_rfl) (by kernel_rfl)
theorem listsReads_row_tie : Rows.listsReadsRow.laidByTextAt .later Tryd.pinned [.data, .data] true :=
  OpenClaim.laidByTextAt_later rfl rfl tie noOwnUnsafe
theorem tie2 : Tryd.prog.laidByTextLater [("spinet/page.eights", Rows.laid_spinet_page_eights), ("spinet/page.changes", Rows.laid_spinet_page_changes), ("spinet/page.tens", Rows.laid_spinet_page_tens), ("spinet/page.thirties", Rows.laid_spinet_page_thirties), ("spinet/post.kinds", Rows.laid_spinet_post_kinds)] [.data, .data, .data, .data, .data] true :=
  Program.laidByTextLater.sub seatTie1 ["spinet/page.eights", "spinet/page.changes", "spinet/page.tens", "spinet/page.thirties", "spinet/post.kinds"] (by kernel_rfl) (by kernel_rfl)
theorem instReads_row_tie : Rows.instReadsRow.laidByTextAt .later Tryd.pinned [.data, .data, .data, .data, .data] true :=
  OpenClaim.laidByTextAt_later rfl rfl tie2 noOwnUnsafe
theorem instPuts_row_tie : Rows.instPutsRow.laidByTextAt .later Tryd.pinned [.data, .data, .data, .data, .data] true :=
  OpenClaim.laidByTextAt_later rfl rfl tie2 noOwnUnsafe
theorem tie3 : Tryd.prog.laidByTextLater [("spinet/post.kinds", Rows.laid_spinet_post_kinds)] [.data] true :=
  Program.laidByTextLater.sub seatTie1 ["spinet/post.kinds"] (by kernel_rfl) (by kernel_rfl)
theorem tableCounts_row_tie : Rows.tableCountsRow.laidByTextAt .later Tryd.pinned [.data] true :=
  OpenClaim.laidByTextAt_later rfl rfl tie3 noOwnUnsafe
theorem tableBounds_row_tie : Rows.tableBoundsRow.laidByTextAt .later Tryd.pinned [.data] true :=
  OpenClaim.laidByTextAt_later rfl rfl tie3 noOwnUnsafe
theorem listsReadsUpto_row_tie : Rows.listsReadsUptoRow.laidByTextAt .later Tryd.pinned [.data, .data] true :=
  OpenClaim.laidByTextAt_later rfl rfl tie noOwnUnsafe
theorem instReadsUpto_row_tie : Rows.instReadsUptoRow.laidByTextAt .later Tryd.pinned [.data, .data, .data, .data, .data] true :=
  OpenClaim.laidByTextAt_later rfl rfl tie2 noOwnUnsafe
theorem instPutsUpto_row_tie : Rows.instPutsUptoRow.laidByTextAt .later Tryd.pinned [.data, .data, .data, .data, .data] true :=
  OpenClaim.laidByTextAt_later rfl rfl tie2 noOwnUnsafe
theorem tableCountsUpto_row_tie : Rows.tableCountsUptoRow.laidByTextAt .later Tryd.pinned [.data] true :=
  OpenClaim.laidByTextAt_later rfl rfl tie3 noOwnUnsafe
theorem tableBoundsUpto_row_tie : Rows.tableBoundsUptoRow.laidByTextAt .later Tryd.pinned [.data] true :=
  OpenClaim.laidByTextAt_later rfl rfl tie3 noOwnUnsafe
end Go.Proofs.YtfkcogccbeolfabDoor
