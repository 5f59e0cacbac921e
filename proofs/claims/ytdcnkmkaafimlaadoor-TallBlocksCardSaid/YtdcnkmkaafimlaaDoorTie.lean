/-
  DERIVED. GIVEN WITH THE SEED: THE PROGRAM's TIES (one call each: nine closed facts by the kernel) AND EACH ROW's TIE, after the 31st guide's Derived/Test/Toyas{Tie, Card}.lean. No idea stands in it: it is a product of the set-up. Laid BY PROGRAM, IN A SANDBOX (cutbox-door.mjs). By AI agents, Wed Nov 11 2026. No macro, syntax, notation, axiom, sorry.
-/
import Derived.Test.YtdcnkmkaafimlaaDoorRows
import Derived.LaidByTextLater
import Derived.SevenTiedAt
import Derived.LaidSub
import Derived.LaidOnce
namespace Go.Proofs.YtdcnkmkaafimlaaDoor
open Go
set_option maxRecDepth 100000
theorem seatTie1 : Tryd.prog.laidByTextLater [("cartouche/offs.ranges", Rows.laid_cartouche_offs_ranges), ("cartouche/offs.pieces", Rows.laid_cartouche_offs_pieces), ("cartouche/tall.whole", Rows.laid_cartouche_tall_whole), ("cartouche/tall.moves", Rows.laid_cartouche_tall_moves), ("cartouche/tall.comparisons", Rows.laid_cartouche_tall_comparisons)] [.data, .data, .data, .data, .data] true :=
  Program.laidByTextLater_by_one 53 8 71 (by kernel_rfl) (by kernel_rfl) (by kernel_rfl) (by kernel_rfl) (by kernel_rfl) (by kernel_rfl) (fun _ _ => by kernel_rfl)
theorem noOwnUnsafe : Tryd.pinned.checked.prog.headLifts.contains "ownunsafe" = false := by kernel_rfl
theorem tie : Tryd.prog.laidByTextLater [("cartouche/offs.ranges", Rows.laid_cartouche_offs_ranges), ("cartouche/offs.pieces", Rows.laid_cartouche_offs_pieces), ("cartouche/tall.whole", Rows.laid_cartouche_tall_whole), ("cartouche/tall.moves", Rows.laid_cartouche_tall_moves), ("cartouche/tall.comparisons", Rows.laid_cartouche_tall_comparisons)] [.data, .data, .data, .data, .data] true :=
  Program.laidByTextLater.sub seatTie1 ["cartouche/offs.ranges", "cartouche/offs.pieces", "cartouche/tall.whole", "cartouche/tall.moves", "cartouche/tall.comparisons"] (by kernel_rfl) (by kernel_rfl)
theorem tallLow_row_tie : Rows.tallLowRow.laidByTextAt .later Tryd.pinned [.data, .data, .data, .data, .data] true :=
  OpenClaim.laidByTextAt_later rfl rfl tie noOwnUnsafe
theorem tallBlocks_row_tie : Rows.tallBlocksRow.laidByTextAt .later Tryd.pinned [.data, .data, .data, .data, .data] true :=
  OpenClaim.laidByTextAt_later rfl rfl tie noOwnUnsafe
theorem tallLowUpto_row_tie : Rows.tallLowUptoRow.laidByTextAt .later Tryd.pinned [.data, .data, .data, .data, .data] true :=
  OpenClaim.laidByTextAt_later rfl rfl tie noOwnUnsafe
theorem tallBlocksUpto_row_tie : Rows.tallBlocksUptoRow.laidByTextAt .later Tryd.pinned [.data, .data, .data, .data, .data] true :=
  OpenClaim.laidByTextAt_later rfl rfl tie noOwnUnsafe
end Go.Proofs.YtdcnkmkaafimlaaDoor
