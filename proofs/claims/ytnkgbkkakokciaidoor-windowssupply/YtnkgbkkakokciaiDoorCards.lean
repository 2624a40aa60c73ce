/-
  DERIVED. GIVEN WITH THE SEED: THE CARDS: each row of YtnkgbkkakokciaiDoorRows.lean that lists a variable, with what it lists TIED to the program's text (the seventh form; the later family's looks); each row that meets fmt, with fmt's text TOLD by the authors' own Lean function (tested against real Go, not proved from fmt's source: count such statements apart). THE CARD IS WHAT COUNTS. Prove the row's statement (the work); the ties are given (YtnkgbkkakokciaiDoorTie.lean); close each card by the builder's one call (the guide's Derived/Test/ToyasCard.lean, 'card_holds'). Laid BY PROGRAM, IN A SANDBOX (cutbox-door.mjs). By AI agents, Wed Nov 11 2026. No macro, syntax, notation, axiom, sorry.
-/
import Derived.Test.YtnkgbkkakokciaiDoorRows
import GoSem.ClaimSeven
namespace Go.Proofs.YtnkgbkkakokciaiDoor
namespace Rows

/-- THE TIED CARD OF 'punctuallaw.WindowsSupply'. -/
def windowsSupplyCard : Claim7 := { stood := { row := windowsSupplyRow, standIns := [], harness := (true, "405ba10403eb8065b94bf8e5931088aa4dad20e1e9b7f7aec58a56042dc8a0b2"), looks := false }, kinds := [], alts := [], laidByText := true, laidKinds := [.data], laidTests := true, laidLooks := .later }
def WindowsSupplyCardSaid : Prop := Claim7.holds Tryd.pinned (.plain (OpenSpec.ofChange windowsSupplySpec)) windowsSupplyCard

/-- THE SECOND FORM's CARD OF 'punctuallaw.WindowsSupply'. -/
def windowsSupplyUptoCard : Claim7 := { stood := { row := windowsSupplyUptoRow, standIns := [], harness := (true, "405ba10403eb8065b94bf8e5931088aa4dad20e1e9b7f7aec58a56042dc8a0b2"), looks := false }, kinds := [], alts := [], laidByText := true, laidKinds := [.data], laidTests := true, laidLooks := .later }
def WindowsSupplyUptoCardSaid : Prop := Claim7.holds Tryd.pinned (.plain (OpenSpec.upto windowsSupplySpec)) windowsSupplyUptoCard
end Rows
end Go.Proofs.YtnkgbkkakokciaiDoor
