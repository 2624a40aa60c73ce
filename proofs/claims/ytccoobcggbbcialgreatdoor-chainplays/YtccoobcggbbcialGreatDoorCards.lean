/-
  DERIVED. GIVEN WITH THE SEED: THE CARDS: each row of YtccoobcggbbcialGreatDoorRows.lean that lists a variable, with what it lists TIED to the program's text (the seventh form; the later family's looks); each row that meets fmt, with fmt's text TOLD by the authors' own Lean function (tested against real Go, not proved from fmt's source: count such statements apart). THE CARD IS WHAT COUNTS. Prove the row's statement (the work); the ties are given (YtccoobcggbbcialGreatDoorTie.lean); close each card by the builder's one call (the guide's Derived/Test/ToyasCard.lean, 'card_holds'). Laid BY PROGRAM, IN A SANDBOX (cutbox-door.mjs). By AI agents, Wed Nov 11 2026. No macro, syntax, notation, axiom, sorry.
-/
import Derived.Test.YtccoobcggbbcialGreatDoorRows
import GoSem.ClaimSeven
namespace Go.Proofs.YtccoobcggbbcialGreatDoor
namespace Rows

/-- THE TIED CARD OF 'punctuallaw.KernelMeans'. -/
def kernelMeansCard : Claim7 := { stood := { row := kernelMeansRow, standIns := [], harness := (true, "7f57397cc6ec4d20c85536fdf69799257246f398436655c35397b0d95372dc18"), looks := true }, kinds := [], alts := [], laidByText := true, laidKinds := [.data, .data, .data, .data, .data], laidTests := true, laidLooks := .later }
def KernelMeansCardSaid : Prop := Claim7.holds Tryz.pinned (.plain (OpenSpec.ofChange kernelMeansSpec)) kernelMeansCard

/-- THE TIED CARD OF 'punctuallaw.ChainPlays'. -/
def chainPlaysCard : Claim7 := { stood := { row := chainPlaysRow, standIns := [], harness := (true, "7f57397cc6ec4d20c85536fdf69799257246f398436655c35397b0d95372dc18"), looks := true }, kinds := [], alts := [], laidByText := true, laidKinds := [.data, .data], laidTests := true, laidLooks := .later }
def ChainPlaysCardSaid : Prop := Claim7.holds Tryz.pinned (.plain (OpenSpec.ofChange chainPlaysSpec)) chainPlaysCard

/-- THE SECOND FORM's CARD OF 'punctuallaw.KernelMeans'. -/
def kernelMeansUptoCard : Claim7 := { stood := { row := kernelMeansUptoRow, standIns := [], harness := (true, "7f57397cc6ec4d20c85536fdf69799257246f398436655c35397b0d95372dc18"), looks := true }, kinds := [], alts := [], laidByText := true, laidKinds := [.data, .data, .data, .data, .data], laidTests := true, laidLooks := .later }
def KernelMeansUptoCardSaid : Prop := Claim7.holds Tryz.pinned (.plain (OpenSpec.upto kernelMeansSpec)) kernelMeansUptoCard

/-- THE SECOND FORM's CARD OF 'punctuallaw.ChainPlays'. -/
def chainPlaysUptoCard : Claim7 := { stood := { row := chainPlaysUptoRow, standIns := [], harness := (true, "7f57397cc6ec4d20c85536fdf69799257246f398436655c35397b0d95372dc18"), looks := true }, kinds := [], alts := [], laidByText := true, laidKinds := [.data, .data], laidTests := true, laidLooks := .later }
def ChainPlaysUptoCardSaid : Prop := Claim7.holds Tryz.pinned (.plain (OpenSpec.upto chainPlaysSpec)) chainPlaysUptoCard
end Rows
end Go.Proofs.YtccoobcggbbcialGreatDoor
