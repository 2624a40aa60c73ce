/-
  DERIVED. GIVEN WITH THE SEED: THE PROGRAM's TIES (one call each: nine closed facts by the kernel) AND EACH ROW's TIE, after the 31st guide's Derived/Test/Toyas{Tie, Card}.lean. No idea stands in it: it is a product of the set-up. Laid BY PROGRAM, IN A SANDBOX (cutbox-door.mjs). By AI agents, Wed Nov 11 2026. No macro, syntax, notation, axiom, sorry.
-/
import Derived.Test.YtccoobcggbbcialDoorRows
import Derived.LaidByTextLater
import Derived.SevenTiedAt
import Derived.LaidSub
import Derived.LaidOnce
namespace Go.Proofs.YtccoobcggbbcialDoor
open Go
set_option maxRecDepth 100000
theorem seatTie1 : Tryd.prog.laidByTextLater [("punctual/punctuallaw.noPart", Rows.laid_punctual_punctuallaw_noPart), ("punctual/punctuallaw.noTask", Rows.laid_punctual_punctuallaw_noTask), ("punctual/punctuallaw.noJob", Rows.laid_punctual_punctuallaw_noJob)] [.data, .data, .data] true :=
  Program.laidByTextLater_by_one 24 8 8 (by kernel_rfl) (by kernel_rfl) (by kernel_rfl) (by kernel_rfl) (by kernel_rfl) (by kernel_rfl) (fun _ _ => by kernel_rfl)
theorem noOwnUnsafe : Tryd.pinned.checked.prog.headLifts.contains "ownunsafe" = false := by kernel_rfl
theorem tie : Tryd.prog.laidByTextLater [("punctual/punctuallaw.noTask", Rows.laid_punctual_punctuallaw_noTask)] [.data] true :=
  Program.laidByTextLater.sub seatTie1 ["punctual/punctuallaw.noTask"] (by kernel_rfl) (by kernel_rfl)
theorem redoResponds_row_tie : Rows.redoRespondsRow.laidByTextAt .later Tryd.pinned [.data] true :=
  OpenClaim.laidByTextAt_later rfl rfl tie noOwnUnsafe
theorem tie2 : Tryd.prog.laidByTextLater [("punctual/punctuallaw.noJob", Rows.laid_punctual_punctuallaw_noJob)] [.data] true :=
  Program.laidByTextLater.sub seatTie1 ["punctual/punctuallaw.noJob"] (by kernel_rfl) (by kernel_rfl)
theorem redoPlays_row_tie : Rows.redoPlaysRow.laidByTextAt .later Tryd.pinned [.data] true :=
  OpenClaim.laidByTextAt_later rfl rfl tie2 noOwnUnsafe
theorem tie3 : Tryd.prog.laidByTextLater [("punctual/punctuallaw.noPart", Rows.laid_punctual_punctuallaw_noPart)] [.data] true :=
  Program.laidByTextLater.sub seatTie1 ["punctual/punctuallaw.noPart"] (by kernel_rfl) (by kernel_rfl)
theorem chainResponds_row_tie : Rows.chainRespondsRow.laidByTextAt .later Tryd.pinned [.data] true :=
  OpenClaim.laidByTextAt_later rfl rfl tie3 noOwnUnsafe
theorem redoRespondsUpto_row_tie : Rows.redoRespondsUptoRow.laidByTextAt .later Tryd.pinned [.data] true :=
  OpenClaim.laidByTextAt_later rfl rfl tie noOwnUnsafe
theorem redoPlaysUpto_row_tie : Rows.redoPlaysUptoRow.laidByTextAt .later Tryd.pinned [.data] true :=
  OpenClaim.laidByTextAt_later rfl rfl tie2 noOwnUnsafe
theorem chainRespondsUpto_row_tie : Rows.chainRespondsUptoRow.laidByTextAt .later Tryd.pinned [.data] true :=
  OpenClaim.laidByTextAt_later rfl rfl tie3 noOwnUnsafe
end Go.Proofs.YtccoobcggbbcialDoor
