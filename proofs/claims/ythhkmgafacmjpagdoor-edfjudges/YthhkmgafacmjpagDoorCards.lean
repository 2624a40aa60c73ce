/-
  DERIVED. GIVEN WITH THE SEED: THE CARDS: each row of YthhkmgafacmjpagDoorRows.lean that lists a variable, with what it lists TIED to the program's text (the seventh form; the later family's looks); each row that meets fmt, with fmt's text TOLD by the authors' own Lean function (tested against real Go, not proved from fmt's source: count such statements apart). THE CARD IS WHAT COUNTS. Prove the row's statement (the work); the ties are given (YthhkmgafacmjpagDoorTie.lean); close each card by the builder's one call (the guide's Derived/Test/ToyasCard.lean, 'card_holds'). Laid BY PROGRAM, IN A SANDBOX (cutbox-door.mjs). By AI agents, Wed Nov 11 2026. No macro, syntax, notation, axiom, sorry.
-/
import Derived.Test.YthhkmgafacmjpagDoorRows
import GoSem.ClaimSeven
namespace Go.Proofs.YthhkmgafacmjpagDoor
namespace Rows

/-- THE TIED CARD OF 'punctuallaw.EdfJudges'. -/
def edfJudgesCard : Claim7 := { stood := { row := edfJudgesRow, standIns := [], harness := (true, "dbf0757f6b892f18b5a4da49b071cf18e70c67f3ed76bc128b7ff187bfd70dad"), looks := false }, kinds := [], alts := [], laidByText := true, laidKinds := [.data], laidTests := true, laidLooks := .later }
def EdfJudgesCardSaid : Prop := Claim7.holds Tryd.pinned (.plain (OpenSpec.ofChange edfJudgesSpec)) edfJudgesCard

/-- THE SECOND FORM's CARD OF 'punctuallaw.EdfJudges'. -/
def edfJudgesUptoCard : Claim7 := { stood := { row := edfJudgesUptoRow, standIns := [], harness := (true, "dbf0757f6b892f18b5a4da49b071cf18e70c67f3ed76bc128b7ff187bfd70dad"), looks := false }, kinds := [], alts := [], laidByText := true, laidKinds := [.data], laidTests := true, laidLooks := .later }
def EdfJudgesUptoCardSaid : Prop := Claim7.holds Tryd.pinned (.plain (OpenSpec.upto edfJudgesSpec)) edfJudgesUptoCard
end Rows
end Go.Proofs.YthhkmgafacmjpagDoor
