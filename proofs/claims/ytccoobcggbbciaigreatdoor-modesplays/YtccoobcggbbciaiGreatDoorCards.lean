/-
  DERIVED. GIVEN WITH THE SEED: THE CARDS: each row of YtccoobcggbbciaiGreatDoorRows.lean that lists a variable, with what it lists TIED to the program's text (the seventh form; the later family's looks); each row that meets fmt, with fmt's text TOLD by the authors' own Lean function (tested against real Go, not proved from fmt's source: count such statements apart). THE CARD IS WHAT COUNTS. Prove the row's statement (the work); the ties are given (YtccoobcggbbciaiGreatDoorTie.lean); close each card by the builder's one call (the guide's Derived/Test/ToyasCard.lean, 'card_holds'). Laid BY PROGRAM, IN A SANDBOX (cutbox-door.mjs). By AI agents, Wed Nov 11 2026. No macro, syntax, notation, axiom, sorry.
-/
import Derived.Test.YtccoobcggbbciaiGreatDoorRows
import GoSem.ClaimSeven
namespace Go.Proofs.YtccoobcggbbciaiGreatDoor
namespace Rows

/-- THE TIED CARD OF 'punctuallaw.ModesPlays'. -/
def modesPlaysCard : Claim7 := { stood := { row := modesPlaysRow, standIns := [], harness := (true, "84b61ce5a26c20406f213d02c78cb41f2010f3318e22de914449caf77f61fd5c"), looks := false }, kinds := [], alts := [], laidByText := true, laidKinds := [.data, .data], laidTests := true, laidLooks := .later }
def ModesPlaysCardSaid : Prop := Claim7.holds Tryz.pinned (.plain (OpenSpec.ofChange modesPlaysSpec)) modesPlaysCard

/-- THE TIED CARD OF 'punctuallaw.WindowsPlay'. -/
def windowsPlayCard : Claim7 := { stood := { row := windowsPlayRow, standIns := [], harness := (true, "84b61ce5a26c20406f213d02c78cb41f2010f3318e22de914449caf77f61fd5c"), looks := false }, kinds := [], alts := [], laidByText := true, laidKinds := [.data, .data, .data], laidTests := true, laidLooks := .later }
def WindowsPlayCardSaid : Prop := Claim7.holds Tryz.pinned (.plain (OpenSpec.ofChange windowsPlaySpec)) windowsPlayCard

/-- THE SECOND FORM's CARD OF 'punctuallaw.ModesPlays'. -/
def modesPlaysUptoCard : Claim7 := { stood := { row := modesPlaysUptoRow, standIns := [], harness := (true, "84b61ce5a26c20406f213d02c78cb41f2010f3318e22de914449caf77f61fd5c"), looks := false }, kinds := [], alts := [], laidByText := true, laidKinds := [.data, .data], laidTests := true, laidLooks := .later }
def ModesPlaysUptoCardSaid : Prop := Claim7.holds Tryz.pinned (.plain (OpenSpec.upto modesPlaysSpec)) modesPlaysUptoCard

/-- THE SECOND FORM's CARD OF 'punctuallaw.WindowsPlay'. -/
def windowsPlayUptoCard : Claim7 := { stood := { row := windowsPlayUptoRow, standIns := [], harness := (true, "84b61ce5a26c20406f213d02c78cb41f2010f3318e22de914449caf77f61fd5c"), looks := false }, kinds := [], alts := [], laidByText := true, laidKinds := [.data, .data, .data], laidTests := true, laidLooks := .later }
def WindowsPlayUptoCardSaid : Prop := Claim7.holds Tryz.pinned (.plain (OpenSpec.upto windowsPlaySpec)) windowsPlayUptoCard
end Rows
end Go.Proofs.YtccoobcggbbciaiGreatDoor
