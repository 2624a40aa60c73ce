/-
  DERIVED. GIVEN WITH THE SEED: THE PROGRAM's TIES (one call each: nine closed facts by the kernel) AND EACH ROW's TIE, after the 31st guide's Derived/Test/Toyas{Tie, Card}.lean. No idea stands in it: it is a product of the set-up. Laid BY PROGRAM, IN A SANDBOX (cutbox-door.mjs). By AI agents, Wed Nov 11 2026. No macro, syntax, notation, axiom, sorry.
-/
import Derived.Test.YtnkgbkkakokciacDoorRows
import Derived.LaidByTextLater
import Derived.SevenTiedAt
import Derived.LaidSub
import Derived.LaidOnce
namespace Go.Proofs.YtnkgbkkakokciacDoor
open Go
set_option maxRecDepth 100000
theorem seatTie1 : Tryd.prog.laidByTextLater [("punctual/mach.kinds", Rows.laid_punctual_mach_kinds), ("punctual/tongue.shapes", Rows.laid_punctual_tongue_shapes), ("punctual/tongue.forms", Rows.laid_punctual_tongue_forms), ("punctual/compile.ends", Rows.laid_punctual_compile_ends), ("punctual/compile.comparisons", Rows.laid_punctual_compile_comparisons), ("punctual/punctuallaw.noIns", Rows.laid_punctual_punctuallaw_noIns)] [.data, .data, .data, .data, .data, .data] true :=
  Program.laidByTextLater_by_one 75 8 115 (by kernel_rfl) (by kernel_rfl) (by kernel_rfl) (by kernel_rfl) (by kernel_rfl) (by kernel_rfl) (fun _ _ => by kernel_rfl)
theorem noOwnUnsafe : Tryd.pinned.checked.prog.headLifts.contains "ownunsafe" = false := by kernel_rfl
theorem tie : Tryd.prog.laidByTextLater [("punctual/mach.kinds", Rows.laid_punctual_mach_kinds), ("punctual/punctuallaw.noIns", Rows.laid_punctual_punctuallaw_noIns)] [.data, .data] true :=
  Program.laidByTextLater.sub seatTie1 ["punctual/mach.kinds", "punctual/punctuallaw.noIns"] (by kernel_rfl) (by kernel_rfl)
theorem machRuns_row_tie : Rows.machRunsRow.laidByTextAt .later Tryd.pinned [.data, .data] true :=
  OpenClaim.laidByTextAt_later rfl rfl tie noOwnUnsafe
theorem machTicks_row_tie : Rows.machTicksRow.laidByTextAt .later Tryd.pinned [.data, .data] true :=
  OpenClaim.laidByTextAt_later rfl rfl tie noOwnUnsafe
theorem wcetTells_row_tie : Rows.wcetTellsRow.laidByTextAt .later Tryd.pinned [.data, .data] true :=
  OpenClaim.laidByTextAt_later rfl rfl tie noOwnUnsafe
theorem tie2 : Tryd.prog.laidByTextLater [("punctual/mach.kinds", Rows.laid_punctual_mach_kinds)] [.data] true :=
  Program.laidByTextLater.sub seatTie1 ["punctual/mach.kinds"] (by kernel_rfl) (by kernel_rfl)
theorem machCosts_row_tie : Rows.machCostsRow.laidByTextAt .later Tryd.pinned [.data] true :=
  OpenClaim.laidByTextAt_later rfl rfl tie2 noOwnUnsafe
theorem tie3 : Tryd.prog.laidByTextLater [("punctual/tongue.shapes", Rows.laid_punctual_tongue_shapes), ("punctual/tongue.forms", Rows.laid_punctual_tongue_forms), ("punctual/compile.ends", Rows.laid_punctual_compile_ends), ("punctual/compile.comparisons", Rows.laid_punctual_compile_comparisons)] [.data, .data, .data, .data] true :=
  Program.laidByTextLater.sub seatTie1 ["punctual/tongue.shapes", "punctual/tongue.forms", "punctual/compile.ends", "punctual/compile.comparisons"] (by kernel_rfl) (by kernel_rfl)
theorem compileMakes_row_tie : Rows.compileMakesRow.laidByTextAt .later Tryd.pinned [.data, .data, .data, .data] true :=
  OpenClaim.laidByTextAt_later rfl rfl tie3 noOwnUnsafe
theorem tie4 : Tryd.prog.laidByTextLater [("punctual/mach.kinds", Rows.laid_punctual_mach_kinds), ("punctual/tongue.shapes", Rows.laid_punctual_tongue_shapes), ("punctual/tongue.forms", Rows.laid_punctual_tongue_forms), ("punctual/compile.ends", Rows.laid_punctual_compile_ends), ("punctual/compile.comparisons", Rows.laid_punctual_compile_comparisons)] [.data, .data, .data, .data, .data] true :=
  Program.laidByTextLater.sub seatTie1 ["punctual/mach.kinds", "punctual/tongue.shapes", "punctual/tongue.forms", "punctual/compile.ends", "punctual/compile.comparisons"] (by kernel_rfl) (by kernel_rfl)
theorem compileMeans_row_tie : Rows.compileMeansRow.laidByTextAt .later Tryd.pinned [.data, .data, .data, .data, .data] true :=
  OpenClaim.laidByTextAt_later rfl rfl tie4 noOwnUnsafe
theorem machRunsUpto_row_tie : Rows.machRunsUptoRow.laidByTextAt .later Tryd.pinned [.data, .data] true :=
  OpenClaim.laidByTextAt_later rfl rfl tie noOwnUnsafe
theorem machTicksUpto_row_tie : Rows.machTicksUptoRow.laidByTextAt .later Tryd.pinned [.data, .data] true :=
  OpenClaim.laidByTextAt_later rfl rfl tie noOwnUnsafe
theorem machCostsUpto_row_tie : Rows.machCostsUptoRow.laidByTextAt .later Tryd.pinned [.data] true :=
  OpenClaim.laidByTextAt_later rfl rfl tie2 noOwnUnsafe
theorem compileMakesUpto_row_tie : Rows.compileMakesUptoRow.laidByTextAt .later Tryd.pinned [.data, .data, .data, .data] true :=
  OpenClaim.laidByTextAt_later rfl rfl tie3 noOwnUnsafe
theorem compileMeansUpto_row_tie : Rows.compileMeansUptoRow.laidByTextAt .later Tryd.pinned [.data, .data, .data, .data, .data] true :=
  OpenClaim.laidByTextAt_later rfl rfl tie4 noOwnUnsafe
theorem wcetTellsUpto_row_tie : Rows.wcetTellsUptoRow.laidByTextAt .later Tryd.pinned [.data, .data] true :=
  OpenClaim.laidByTextAt_later rfl rfl tie noOwnUnsafe
end Go.Proofs.YtnkgbkkakokciacDoor
