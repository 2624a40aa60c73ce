/-
  DERIVED. GIVEN WITH THE SEED: THE CARDS: each row of YtccoobcggbbcialDoorRows.lean that lists a variable, with what it lists TIED to the program's text (the seventh form; the later family's looks); each row that meets fmt, with fmt's text TOLD by the authors' own Lean function (tested against real Go, not proved from fmt's source: count such statements apart). THE CARD IS WHAT COUNTS. Prove the row's statement (the work); the ties are given (YtccoobcggbbcialDoorTie.lean); close each card by the builder's one call (the guide's Derived/Test/ToyasCard.lean, 'card_holds'). Laid BY PROGRAM, IN A SANDBOX (cutbox-door.mjs). By AI agents, Wed Nov 11 2026. No macro, syntax, notation, axiom, sorry.
-/
import Derived.Test.YtccoobcggbbcialDoorRows
import GoSem.ClaimSeven
namespace Go.Proofs.YtccoobcggbbcialDoor
namespace Rows

/-- THE TIED CARD OF 'punctuallaw.RedoResponds'. -/
def redoRespondsCard : Claim7 := { stood := { row := redoRespondsRow, standIns := [], harness := (true, "0c1185dad2eb84b59a4f068880f2b721c297eb6a06a58d5d1c0d12fa31de4e02"), looks := false }, kinds := [], alts := [], laidByText := true, laidKinds := [.data], laidTests := true, laidLooks := .later }
def RedoRespondsCardSaid : Prop := Claim7.holds Tryd.pinned (.plain (OpenSpec.ofChange redoRespondsSpec)) redoRespondsCard

/-- THE TIED CARD OF 'punctuallaw.RedoPlays'. -/
def redoPlaysCard : Claim7 := { stood := { row := redoPlaysRow, standIns := [], harness := (true, "0c1185dad2eb84b59a4f068880f2b721c297eb6a06a58d5d1c0d12fa31de4e02"), looks := false }, kinds := [], alts := [], laidByText := true, laidKinds := [.data], laidTests := true, laidLooks := .later }
def RedoPlaysCardSaid : Prop := Claim7.holds Tryd.pinned (.plain (OpenSpec.ofChange redoPlaysSpec)) redoPlaysCard

/-- THE TIED CARD OF 'punctuallaw.ChainResponds'. -/
def chainRespondsCard : Claim7 := { stood := { row := chainRespondsRow, standIns := [], harness := (true, "0c1185dad2eb84b59a4f068880f2b721c297eb6a06a58d5d1c0d12fa31de4e02"), looks := false }, kinds := [], alts := [], laidByText := true, laidKinds := [.data], laidTests := true, laidLooks := .later }
def ChainRespondsCardSaid : Prop := Claim7.holds Tryd.pinned (.plain (OpenSpec.ofChange chainRespondsSpec)) chainRespondsCard

/-- THE SECOND FORM's CARD OF 'punctuallaw.RedoResponds'. -/
def redoRespondsUptoCard : Claim7 := { stood := { row := redoRespondsUptoRow, standIns := [], harness := (true, "0c1185dad2eb84b59a4f068880f2b721c297eb6a06a58d5d1c0d12fa31de4e02"), looks := false }, kinds := [], alts := [], laidByText := true, laidKinds := [.data], laidTests := true, laidLooks := .later }
def RedoRespondsUptoCardSaid : Prop := Claim7.holds Tryd.pinned (.plain (OpenSpec.upto redoRespondsSpec)) redoRespondsUptoCard

/-- THE SECOND FORM's CARD OF 'punctuallaw.RedoPlays'. -/
def redoPlaysUptoCard : Claim7 := { stood := { row := redoPlaysUptoRow, standIns := [], harness := (true, "0c1185dad2eb84b59a4f068880f2b721c297eb6a06a58d5d1c0d12fa31de4e02"), looks := false }, kinds := [], alts := [], laidByText := true, laidKinds := [.data], laidTests := true, laidLooks := .later }
def RedoPlaysUptoCardSaid : Prop := Claim7.holds Tryd.pinned (.plain (OpenSpec.upto redoPlaysSpec)) redoPlaysUptoCard

/-- THE SECOND FORM's CARD OF 'punctuallaw.ChainResponds'. -/
def chainRespondsUptoCard : Claim7 := { stood := { row := chainRespondsUptoRow, standIns := [], harness := (true, "0c1185dad2eb84b59a4f068880f2b721c297eb6a06a58d5d1c0d12fa31de4e02"), looks := false }, kinds := [], alts := [], laidByText := true, laidKinds := [.data], laidTests := true, laidLooks := .later }
def ChainRespondsUptoCardSaid : Prop := Claim7.holds Tryd.pinned (.plain (OpenSpec.upto chainRespondsSpec)) chainRespondsUptoCard
end Rows
end Go.Proofs.YtccoobcggbbcialDoor
