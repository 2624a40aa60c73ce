/-
  DERIVED. GIVEN WITH THE SEED: THE PROGRAM's TIES (one call each: nine closed facts by the kernel) AND EACH ROW's TIE, after the 31st guide's Derived/Test/Toyas{Tie, Card}.lean. No idea stands in it: it is a product of the set-up. Laid BY PROGRAM, IN A SANDBOX (cutbox-door.mjs). By AI agents, Wed Nov 11 2026. No macro, syntax, notation, axiom, sorry.
-/
import Derived.Test.YtccoobcggbbcialGreatDoorRows
import Derived.LaidByTextLater
import Derived.SevenTiedAt
import Derived.LaidSub
import Derived.LaidOnce
namespace Go.Proofs.YtccoobcggbbcialGreatDoor
open Go
set_option maxRecDepth 100000
theorem seatTie1 : Tryz.prog.laidByTextLater [("punctual/mach.kinds", Rows.laid_punctual_mach_kinds), ("punctual/tongue.shapes", Rows.laid_punctual_tongue_shapes), ("punctual/tongue.forms", Rows.laid_punctual_tongue_forms), ("punctual/compile.ends", Rows.laid_punctual_compile_ends), ("punctual/compile.comparisons", Rows.laid_punctual_compile_comparisons), ("punctual/punctuallaw.noPart", Rows.laid_punctual_punctuallaw_noPart), ("punctual/punctuallaw.noCome", Rows.laid_punctual_punctuallaw_noCome)] [.data, .data, .data, .data, .data, .data, .data] true :=
  Program.laidByTextLater_by_one 80 8 115 (by kernel_rfl) (by kernel_rfl) (by kernel_rfl) (by kernel_rfl) (by kernel_rfl) (by kernel_rfl) (fun _ _ => by kernel_rfl)
theorem noOwnUnsafe : Tryz.pinned.checked.prog.headLifts.contains "ownunsafe" = false := by kernel_rfl
theorem tie : Tryz.prog.laidByTextLater [("punctual/mach.kinds", Rows.laid_punctual_mach_kinds), ("punctual/tongue.shapes", Rows.laid_punctual_tongue_shapes), ("punctual/tongue.forms", Rows.laid_punctual_tongue_forms), ("punctual/compile.ends", Rows.laid_punctual_compile_ends), ("punctual/compile.comparisons", Rows.laid_punctual_compile_comparisons)] [.data, .data, .data, .data, .data] true :=
  Program.laidByTextLater.sub seatTie1 ["punctual/mach.kinds", "punctual/tongue.shapes", "punctual/tongue.forms", "punctual/compile.ends", "punctual/compile.comparisons"] (by kernel_rfl) (by kernel_rfl)
theorem kernelMeans_row_tie : Rows.kernelMeansRow.laidByTextAt .later Tryz.pinned [.data, .data, .data, .data, .data] true :=
  OpenClaim.laidByTextAt_later rfl rfl tie noOwnUnsafe
theorem tie2 : Tryz.prog.laidByTextLater [("punctual/punctuallaw.noPart", Rows.laid_punctual_punctuallaw_noPart), ("punctual/punctuallaw.noCome", Rows.laid_punctual_punctuallaw_noCome)] [.data, .data] true :=
  Program.laidByTextLater.sub seatTie1 ["punctual/punctuallaw.noPart", "punctual/punctuallaw.noCome"] (by kernel_rfl) (by kernel_rfl)
theorem chainPlays_row_tie : Rows.chainPlaysRow.laidByTextAt .later Tryz.pinned [.data, .data] true :=
  OpenClaim.laidByTextAt_later rfl rfl tie2 noOwnUnsafe
theorem kernelMeansUpto_row_tie : Rows.kernelMeansUptoRow.laidByTextAt .later Tryz.pinned [.data, .data, .data, .data, .data] true :=
  OpenClaim.laidByTextAt_later rfl rfl tie noOwnUnsafe
theorem chainPlaysUpto_row_tie : Rows.chainPlaysUptoRow.laidByTextAt .later Tryz.pinned [.data, .data] true :=
  OpenClaim.laidByTextAt_later rfl rfl tie2 noOwnUnsafe
end Go.Proofs.YtccoobcggbbcialGreatDoor
