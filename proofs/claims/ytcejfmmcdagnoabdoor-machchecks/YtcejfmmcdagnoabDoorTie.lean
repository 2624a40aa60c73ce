/-
  DERIVED. GIVEN WITH THE SEED: THE PROGRAM's TIES (one call each: nine closed facts by the kernel) AND EACH ROW's TIE, after the 31st guide's Derived/Test/Toyas{Tie, Card}.lean. No idea stands in it: it is a product of the set-up. Laid BY PROGRAM, IN A SANDBOX (cutbox-door.mjs). By AI agents, Wed Nov 11 2026. No macro, syntax, notation, axiom, sorry.
-/
import Derived.Test.YtcejfmmcdagnoabDoorRows
import Derived.LaidByTextLater
import Derived.SevenTiedAt
import Derived.LaidSub
import Derived.LaidOnce
namespace Go.Proofs.YtcejfmmcdagnoabDoor
open Go
set_option maxRecDepth 100000
theorem seatTie1 : Tryd.prog.laidByTextLater [("punctual/mach.kinds", Rows.laid_punctual_mach_kinds), ("punctual/tongue.shapes", Rows.laid_punctual_tongue_shapes), ("punctual/tongue.forms", Rows.laid_punctual_tongue_forms), ("punctual/punctuallaw.noIns", Rows.laid_punctual_punctuallaw_noIns)] [.data, .data, .data, .data] true :=
  Program.laidByTextLater_by_one 61 8 115 (by kernel_rfl) (by kernel_rfl) (by kernel_rfl) (by kernel_rfl) (by kernel_rfl) (by kernel_rfl) (fun _ _ => by kernel_rfl)
theorem noOwnUnsafe : Tryd.pinned.checked.prog.headLifts.contains "ownunsafe" = false := by kernel_rfl
theorem tie : Tryd.prog.laidByTextLater [("punctual/tongue.shapes", Rows.laid_punctual_tongue_shapes), ("punctual/tongue.forms", Rows.laid_punctual_tongue_forms)] [.data, .data] true :=
  Program.laidByTextLater.sub seatTie1 ["punctual/tongue.shapes", "punctual/tongue.forms"] (by kernel_rfl) (by kernel_rfl)
theorem meaningRuns_row_tie : Rows.meaningRunsRow.laidByTextAt .later Tryd.pinned [.data, .data] true :=
  OpenClaim.laidByTextAt_later rfl rfl tie noOwnUnsafe
theorem meaningJoins_row_tie : Rows.meaningJoinsRow.laidByTextAt .later Tryd.pinned [.data, .data] true :=
  OpenClaim.laidByTextAt_later rfl rfl tie noOwnUnsafe
theorem tie2 : Tryd.prog.laidByTextLater [("punctual/mach.kinds", Rows.laid_punctual_mach_kinds), ("punctual/punctuallaw.noIns", Rows.laid_punctual_punctuallaw_noIns)] [.data, .data] true :=
  Program.laidByTextLater.sub seatTie1 ["punctual/mach.kinds", "punctual/punctuallaw.noIns"] (by kernel_rfl) (by kernel_rfl)
theorem machChecks_row_tie : Rows.machChecksRow.laidByTextAt .later Tryd.pinned [.data, .data] true :=
  OpenClaim.laidByTextAt_later rfl rfl tie2 noOwnUnsafe
theorem meaningRunsUpto_row_tie : Rows.meaningRunsUptoRow.laidByTextAt .later Tryd.pinned [.data, .data] true :=
  OpenClaim.laidByTextAt_later rfl rfl tie noOwnUnsafe
theorem meaningJoinsUpto_row_tie : Rows.meaningJoinsUptoRow.laidByTextAt .later Tryd.pinned [.data, .data] true :=
  OpenClaim.laidByTextAt_later rfl rfl tie noOwnUnsafe
theorem machChecksUpto_row_tie : Rows.machChecksUptoRow.laidByTextAt .later Tryd.pinned [.data, .data] true :=
  OpenClaim.laidByTextAt_later rfl rfl tie2 noOwnUnsafe
end Go.Proofs.YtcejfmmcdagnoabDoor
