/-
  DERIVED. GIVEN WITH THE SEED: THE CARDS: each row of YtccoobcggbbciahDoorRows.lean that lists a variable, with what it lists TIED to the program's text (the seventh form; the later family's looks); each row that meets fmt, with fmt's text TOLD by the authors' own Lean function (tested against real Go, not proved from fmt's source: count such statements apart). THE CARD IS WHAT COUNTS. Prove the row's statement (the work); the ties are given (YtccoobcggbbciahDoorTie.lean); close each card by the builder's one call (the guide's Derived/Test/ToyasCard.lean, 'card_holds'). Laid BY PROGRAM, IN A SANDBOX (cutbox-door.mjs). By AI agents, Wed Nov 11 2026. No macro, syntax, notation, axiom, sorry.
-/
import Derived.Test.YtccoobcggbbciahDoorRows
import GoSem.ClaimSeven
namespace Go.Proofs.YtccoobcggbbciahDoor
namespace Rows

/-- THE TIED CARD OF 'punctuallaw.ModesResponds'. -/
def modesRespondsCard : Claim7 := { stood := { row := modesRespondsRow, standIns := [], harness := (true, "960c4caa2c9c19d9ceafca80af07962589555bfc55b7e749963f4205ed138072"), looks := false }, kinds := [], alts := [], laidByText := true, laidKinds := [.data], laidTests := true, laidLooks := .later }
def ModesRespondsCardSaid : Prop := Claim7.holds Tryd.pinned (.plain (OpenSpec.ofChange modesRespondsSpec)) modesRespondsCard

/-- THE SECOND FORM's CARD OF 'punctuallaw.ModesResponds'. -/
def modesRespondsUptoCard : Claim7 := { stood := { row := modesRespondsUptoRow, standIns := [], harness := (true, "960c4caa2c9c19d9ceafca80af07962589555bfc55b7e749963f4205ed138072"), looks := false }, kinds := [], alts := [], laidByText := true, laidKinds := [.data], laidTests := true, laidLooks := .later }
def ModesRespondsUptoCardSaid : Prop := Claim7.holds Tryd.pinned (.plain (OpenSpec.upto modesRespondsSpec)) modesRespondsUptoCard
end Rows
end Go.Proofs.YtccoobcggbbciahDoor
