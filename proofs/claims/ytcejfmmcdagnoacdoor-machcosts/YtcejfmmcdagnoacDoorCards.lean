/-
  DERIVED. GIVEN WITH THE SEED: THE CARDS: each row of YtcejfmmcdagnoacDoorRows.lean that lists a variable, with what it lists TIED to the program's text (the seventh form; the later family's looks); each row that meets fmt, with fmt's text TOLD by the authors' own Lean function (tested against real Go, not proved from fmt's source: count such statements apart). THE CARD IS WHAT COUNTS. Prove the row's statement (the work); the ties are given (YtcejfmmcdagnoacDoorTie.lean); close each card by the builder's one call (the guide's Derived/Test/ToyasCard.lean, 'card_holds'). Laid BY PROGRAM, IN A SANDBOX (cutbox-door.mjs). By AI agents, Wed Nov 11 2026. No macro, syntax, notation, axiom, sorry.
-/
import Derived.Test.YtcejfmmcdagnoacDoorRows
import GoSem.ClaimSeven
namespace Go.Proofs.YtcejfmmcdagnoacDoor
namespace Rows

/-- THE TIED CARD OF 'punctuallaw.MachRuns'. -/
def machRunsCard : Claim7 := { stood := { row := machRunsRow, standIns := [], harness := (true, "890c1847ab810740201d00561a266f4b3fcfa6fcb8c221c2f27586fac04ca6b7"), looks := false }, kinds := [], alts := [], laidByText := true, laidKinds := [.data, .data], laidTests := true, laidLooks := .later }
def MachRunsCardSaid : Prop := Claim7.holds Tryd.pinned (.plain (OpenSpec.ofChange machRunsSpec)) machRunsCard

/-- THE TIED CARD OF 'punctuallaw.MachTicks'. -/
def machTicksCard : Claim7 := { stood := { row := machTicksRow, standIns := [], harness := (true, "890c1847ab810740201d00561a266f4b3fcfa6fcb8c221c2f27586fac04ca6b7"), looks := false }, kinds := [], alts := [], laidByText := true, laidKinds := [.data, .data], laidTests := true, laidLooks := .later }
def MachTicksCardSaid : Prop := Claim7.holds Tryd.pinned (.plain (OpenSpec.ofChange machTicksSpec)) machTicksCard

/-- THE TIED CARD OF 'punctuallaw.MachCosts'. -/
def machCostsCard : Claim7 := { stood := { row := machCostsRow, standIns := [], harness := (true, "890c1847ab810740201d00561a266f4b3fcfa6fcb8c221c2f27586fac04ca6b7"), looks := false }, kinds := [], alts := [], laidByText := true, laidKinds := [.data], laidTests := true, laidLooks := .later }
def MachCostsCardSaid : Prop := Claim7.holds Tryd.pinned (.plain (OpenSpec.ofChange machCostsSpec)) machCostsCard

/-- THE SECOND FORM's CARD OF 'punctuallaw.MachRuns'. -/
def machRunsUptoCard : Claim7 := { stood := { row := machRunsUptoRow, standIns := [], harness := (true, "890c1847ab810740201d00561a266f4b3fcfa6fcb8c221c2f27586fac04ca6b7"), looks := false }, kinds := [], alts := [], laidByText := true, laidKinds := [.data, .data], laidTests := true, laidLooks := .later }
def MachRunsUptoCardSaid : Prop := Claim7.holds Tryd.pinned (.plain (OpenSpec.upto machRunsSpec)) machRunsUptoCard

/-- THE SECOND FORM's CARD OF 'punctuallaw.MachTicks'. -/
def machTicksUptoCard : Claim7 := { stood := { row := machTicksUptoRow, standIns := [], harness := (true, "890c1847ab810740201d00561a266f4b3fcfa6fcb8c221c2f27586fac04ca6b7"), looks := false }, kinds := [], alts := [], laidByText := true, laidKinds := [.data, .data], laidTests := true, laidLooks := .later }
def MachTicksUptoCardSaid : Prop := Claim7.holds Tryd.pinned (.plain (OpenSpec.upto machTicksSpec)) machTicksUptoCard

/-- THE SECOND FORM's CARD OF 'punctuallaw.MachCosts'. -/
def machCostsUptoCard : Claim7 := { stood := { row := machCostsUptoRow, standIns := [], harness := (true, "890c1847ab810740201d00561a266f4b3fcfa6fcb8c221c2f27586fac04ca6b7"), looks := false }, kinds := [], alts := [], laidByText := true, laidKinds := [.data], laidTests := true, laidLooks := .later }
def MachCostsUptoCardSaid : Prop := Claim7.holds Tryd.pinned (.plain (OpenSpec.upto machCostsSpec)) machCostsUptoCard
end Rows
end Go.Proofs.YtcejfmmcdagnoacDoor
