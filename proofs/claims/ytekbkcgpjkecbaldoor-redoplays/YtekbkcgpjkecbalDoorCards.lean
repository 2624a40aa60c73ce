/-
  DERIVED. GIVEN WITH THE SEED: THE CARDS: each row of YtekbkcgpjkecbalDoorRows.lean that lists a variable, with what it lists TIED to the program's text (the seventh form; the later family's looks); each row that meets fmt, with fmt's text TOLD by the authors' own Lean function (tested against real Go, not proved from fmt's source: count such statements apart). THE CARD IS WHAT COUNTS. Prove the row's statement (the work); the ties are given (YtekbkcgpjkecbalDoorTie.lean); close each card by the builder's one call (the guide's Derived/Test/ToyasCard.lean, 'card_holds'). Laid BY PROGRAM, IN A SANDBOX (cutbox-door.mjs). By AI agents, Wed Nov 11 2026. No macro, syntax, notation, axiom, sorry.
-/
import Derived.Test.YtekbkcgpjkecbalDoorRows
import GoSem.ClaimSeven
namespace Go.Proofs.YtekbkcgpjkecbalDoor
namespace Rows

/-- THE TIED CARD OF 'punctuallaw.RedoResponds'. -/
def redoRespondsCard : Claim7 := { stood := { row := redoRespondsRow, standIns := [], harness := (true, "aad14d1f3138da56feb2398bcf7581e1c72ee29bec6e1527d7b75f1b2cfd74ab"), looks := false }, kinds := [], alts := [], laidByText := true, laidKinds := [.data], laidTests := true, laidLooks := .later }
def RedoRespondsCardSaid : Prop := Claim7.holds Tryd.pinned (.plain (OpenSpec.ofChange redoRespondsSpec)) redoRespondsCard

/-- THE TIED CARD OF 'punctuallaw.RedoPlays'. -/
def redoPlaysCard : Claim7 := { stood := { row := redoPlaysRow, standIns := [], harness := (true, "aad14d1f3138da56feb2398bcf7581e1c72ee29bec6e1527d7b75f1b2cfd74ab"), looks := false }, kinds := [], alts := [], laidByText := true, laidKinds := [.data], laidTests := true, laidLooks := .later }
def RedoPlaysCardSaid : Prop := Claim7.holds Tryd.pinned (.plain (OpenSpec.ofChange redoPlaysSpec)) redoPlaysCard

/-- THE SECOND FORM's CARD OF 'punctuallaw.RedoResponds'. -/
def redoRespondsUptoCard : Claim7 := { stood := { row := redoRespondsUptoRow, standIns := [], harness := (true, "aad14d1f3138da56feb2398bcf7581e1c72ee29bec6e1527d7b75f1b2cfd74ab"), looks := false }, kinds := [], alts := [], laidByText := true, laidKinds := [.data], laidTests := true, laidLooks := .later }
def RedoRespondsUptoCardSaid : Prop := Claim7.holds Tryd.pinned (.plain (OpenSpec.upto redoRespondsSpec)) redoRespondsUptoCard

/-- THE SECOND FORM's CARD OF 'punctuallaw.RedoPlays'. -/
def redoPlaysUptoCard : Claim7 := { stood := { row := redoPlaysUptoRow, standIns := [], harness := (true, "aad14d1f3138da56feb2398bcf7581e1c72ee29bec6e1527d7b75f1b2cfd74ab"), looks := false }, kinds := [], alts := [], laidByText := true, laidKinds := [.data], laidTests := true, laidLooks := .later }
def RedoPlaysUptoCardSaid : Prop := Claim7.holds Tryd.pinned (.plain (OpenSpec.upto redoPlaysSpec)) redoPlaysUptoCard
end Rows
end Go.Proofs.YtekbkcgpjkecbalDoor
