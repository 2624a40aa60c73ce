/-
  DERIVED. GIVEN WITH THE SEED: THE PROGRAM's TIES (one call each: nine closed facts by the kernel) AND EACH ROW's TIE, after the 31st guide's Derived/Test/Toyas{Tie, Card}.lean. No idea stands in it: it is a product of the set-up. Laid BY PROGRAM, IN A SANDBOX (cutbox-door.mjs). By AI agents, Wed Nov 11 2026. No macro, syntax, notation, axiom, sorry.
-/
import Derived.Test.YtccoobcggbbciaiGreatDoorRows
import Derived.LaidByTextLater
import Derived.SevenTiedAt
import Derived.LaidSub
import Derived.LaidOnce
namespace Go.Proofs.YtccoobcggbbciaiGreatDoor
open Go
set_option maxRecDepth 100000
theorem seatTie1 : Tryz.prog.laidByTextLater [("punctual/punctuallaw.noCrit", Rows.laid_punctual_punctuallaw_noCrit), ("punctual/punctuallaw.noWindow", Rows.laid_punctual_punctuallaw_noWindow), ("punctual/punctuallaw.noTask", Rows.laid_punctual_punctuallaw_noTask), ("punctual/punctuallaw.noCome", Rows.laid_punctual_punctuallaw_noCome), ("punctual/punctuallaw.noJob", Rows.laid_punctual_punctuallaw_noJob)] [.data, .data, .data, .data, .data] true :=
  Program.laidByTextLater_by_one 34 8 8 (by kernel_rfl) (by kernel_rfl) (by kernel_rfl) (by kernel_rfl) (by kernel_rfl) (by kernel_rfl) (fun _ _ => by kernel_rfl)
theorem noOwnUnsafe : Tryz.pinned.checked.prog.headLifts.contains "ownunsafe" = false := by kernel_rfl
theorem tie : Tryz.prog.laidByTextLater [("punctual/punctuallaw.noCrit", Rows.laid_punctual_punctuallaw_noCrit), ("punctual/punctuallaw.noCome", Rows.laid_punctual_punctuallaw_noCome)] [.data, .data] true :=
  Program.laidByTextLater.sub seatTie1 ["punctual/punctuallaw.noCrit", "punctual/punctuallaw.noCome"] (by kernel_rfl) (by kernel_rfl)
theorem modesPlays_row_tie : Rows.modesPlaysRow.laidByTextAt .later Tryz.pinned [.data, .data] true :=
  OpenClaim.laidByTextAt_later rfl rfl tie noOwnUnsafe
theorem tie2 : Tryz.prog.laidByTextLater [("punctual/punctuallaw.noWindow", Rows.laid_punctual_punctuallaw_noWindow), ("punctual/punctuallaw.noTask", Rows.laid_punctual_punctuallaw_noTask), ("punctual/punctuallaw.noJob", Rows.laid_punctual_punctuallaw_noJob)] [.data, .data, .data] true :=
  Program.laidByTextLater.sub seatTie1 ["punctual/punctuallaw.noWindow", "punctual/punctuallaw.noTask", "punctual/punctuallaw.noJob"] (by kernel_rfl) (by kernel_rfl)
theorem windowsPlay_row_tie : Rows.windowsPlayRow.laidByTextAt .later Tryz.pinned [.data, .data, .data] true :=
  OpenClaim.laidByTextAt_later rfl rfl tie2 noOwnUnsafe
theorem modesPlaysUpto_row_tie : Rows.modesPlaysUptoRow.laidByTextAt .later Tryz.pinned [.data, .data] true :=
  OpenClaim.laidByTextAt_later rfl rfl tie noOwnUnsafe
theorem windowsPlayUpto_row_tie : Rows.windowsPlayUptoRow.laidByTextAt .later Tryz.pinned [.data, .data, .data] true :=
  OpenClaim.laidByTextAt_later rfl rfl tie2 noOwnUnsafe
end Go.Proofs.YtccoobcggbbciaiGreatDoor
