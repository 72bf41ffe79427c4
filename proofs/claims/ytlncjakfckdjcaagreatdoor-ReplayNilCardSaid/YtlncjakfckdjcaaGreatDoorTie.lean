/-
  DERIVED. GIVEN WITH THE SEED: THE PROGRAM's TIES (one call each: nine closed facts by the kernel) AND EACH ROW's TIE, after the 31st guide's Derived/Test/Toyas{Tie, Card}.lean. No idea stands in it: it is a product of the set-up. Laid BY PROGRAM, IN A SANDBOX (cutbox-door.mjs). By AI agents, Wed Nov 11 2026. No macro, syntax, notation, axiom, sorry.
-/
import Derived.Test.YtlncjakfckdjcaaGreatDoorRows
import Derived.LaidByTextLater
import Derived.SevenTiedAt
import Derived.LaidSub
import Derived.LaidOnce
namespace Go.Proofs.YtlncjakfckdjcaaGreatDoor
open Go
set_option maxRecDepth 100000
theorem seatTie1 : Tryz.prog.laidByTextLater [("ashlar/crc.halves", Rows.laid_ashlar_crc_halves), ("ashlar/mark.sizes", Rows.laid_ashlar_mark_sizes), ("ashlar/note.sizes", Rows.laid_ashlar_note_sizes)] [.data, .data, .data] true :=
  Program.laidByTextLater_by_one 24 8 17 (by kernel_rfl) (by kernel_rfl) (by kernel_rfl) (by kernel_rfl) (by kernel_rfl) (by kernel_rfl) (fun _ _ => by kernel_rfl)
theorem noOwnUnsafe : Tryz.pinned.checked.prog.headLifts.contains "ownunsafe" = false := by kernel_rfl
theorem tie : Tryz.prog.laidByTextLater [("ashlar/crc.halves", Rows.laid_ashlar_crc_halves), ("ashlar/mark.sizes", Rows.laid_ashlar_mark_sizes), ("ashlar/note.sizes", Rows.laid_ashlar_note_sizes)] [.data, .data, .data] true :=
  Program.laidByTextLater.sub seatTie1 ["ashlar/crc.halves", "ashlar/mark.sizes", "ashlar/note.sizes"] (by kernel_rfl) (by kernel_rfl)
theorem replayAgain_row_tie : Rows.replayAgainRow.laidByTextAt .later Tryz.pinned [.data, .data, .data] true :=
  OpenClaim.laidByTextAt_later rfl rfl tie noOwnUnsafe
theorem replayNil_row_tie : Rows.replayNilRow.laidByTextAt .later Tryz.pinned [.data, .data, .data] true :=
  OpenClaim.laidByTextAt_later rfl rfl tie noOwnUnsafe
theorem replayAgainUpto_row_tie : Rows.replayAgainUptoRow.laidByTextAt .later Tryz.pinned [.data, .data, .data] true :=
  OpenClaim.laidByTextAt_later rfl rfl tie noOwnUnsafe
theorem replayNilUpto_row_tie : Rows.replayNilUptoRow.laidByTextAt .later Tryz.pinned [.data, .data, .data] true :=
  OpenClaim.laidByTextAt_later rfl rfl tie noOwnUnsafe
end Go.Proofs.YtlncjakfckdjcaaGreatDoor
