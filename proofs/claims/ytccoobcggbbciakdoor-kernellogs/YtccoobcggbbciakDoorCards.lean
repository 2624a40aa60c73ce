/-
  DERIVED. GIVEN WITH THE SEED: THE CARDS: each row of YtccoobcggbbciakDoorRows.lean that lists a variable, with what it lists TIED to the program's text (the seventh form; the later family's looks); each row that meets fmt, with fmt's text TOLD by the authors' own Lean function (tested against real Go, not proved from fmt's source: count such statements apart). THE CARD IS WHAT COUNTS. Prove the row's statement (the work); the ties are given (YtccoobcggbbciakDoorTie.lean); close each card by the builder's one call (the guide's Derived/Test/ToyasCard.lean, 'card_holds'). Laid BY PROGRAM, IN A SANDBOX (cutbox-door.mjs). By AI agents, Wed Nov 11 2026. No macro, syntax, notation, axiom, sorry.
-/
import Derived.Test.YtccoobcggbbciakDoorRows
import GoSem.ClaimSeven
namespace Go.Proofs.YtccoobcggbbciakDoor
namespace Rows

/-- THE TIED CARD OF 'punctuallaw.KernelLogs'. -/
def kernelLogsCard : Claim7 := { stood := { row := kernelLogsRow, standIns := [], harness := (true, "ee9a0c86db59ce57d3f83c175d5d5535c1c19bd3a8126584268504df20c8844c"), looks := true }, kinds := [], alts := [], laidByText := true, laidKinds := [.data, .data, .data, .data, .sentinel, .sentinel, .listed, .data, .data, .data, .pinned], laidTests := true, laidLooks := .later }
def KernelLogsCardSaid : Prop := Claim7.holds Tryd.pinned (.plain (OpenSpec.ofChange kernelLogsSpec)) kernelLogsCard

/-- THE TIED CARD OF 'punctuallaw.KernelReplays'. -/
def kernelReplaysCard : Claim7 := { stood := { row := kernelReplaysRow, standIns := [], harness := (true, "ee9a0c86db59ce57d3f83c175d5d5535c1c19bd3a8126584268504df20c8844c"), looks := true }, kinds := [], alts := [], laidByText := true, laidKinds := [.data], laidTests := true, laidLooks := .later }
def KernelReplaysCardSaid : Prop := Claim7.holds Tryd.pinned (.plain (OpenSpec.ofChange kernelReplaysSpec)) kernelReplaysCard

/-- THE SECOND FORM's CARD OF 'punctuallaw.KernelLogs'. -/
def kernelLogsUptoCard : Claim7 := { stood := { row := kernelLogsUptoRow, standIns := [], harness := (true, "ee9a0c86db59ce57d3f83c175d5d5535c1c19bd3a8126584268504df20c8844c"), looks := true }, kinds := [], alts := [], laidByText := true, laidKinds := [.data, .data, .data, .data, .sentinel, .sentinel, .listed, .data, .data, .data, .pinned], laidTests := true, laidLooks := .later }
def KernelLogsUptoCardSaid : Prop := Claim7.holds Tryd.pinned (.plain (OpenSpec.upto kernelLogsSpec)) kernelLogsUptoCard

/-- THE SECOND FORM's CARD OF 'punctuallaw.KernelReplays'. -/
def kernelReplaysUptoCard : Claim7 := { stood := { row := kernelReplaysUptoRow, standIns := [], harness := (true, "ee9a0c86db59ce57d3f83c175d5d5535c1c19bd3a8126584268504df20c8844c"), looks := true }, kinds := [], alts := [], laidByText := true, laidKinds := [.data], laidTests := true, laidLooks := .later }
def KernelReplaysUptoCardSaid : Prop := Claim7.holds Tryd.pinned (.plain (OpenSpec.upto kernelReplaysSpec)) kernelReplaysUptoCard
end Rows
end Go.Proofs.YtccoobcggbbciakDoor
