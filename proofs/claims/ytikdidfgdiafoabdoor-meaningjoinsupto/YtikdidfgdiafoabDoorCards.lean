/-
  DERIVED. GIVEN WITH THE SEED: THE CARDS: each row of YtikdidfgdiafoabDoorRows.lean that lists a variable, with what it lists TIED to the program's text (the seventh form; the later family's looks); each row that meets fmt, with fmt's text TOLD by the authors' own Lean function (tested against real Go, not proved from fmt's source: count such statements apart). THE CARD IS WHAT COUNTS. Prove the row's statement (the work); the ties are given (YtikdidfgdiafoabDoorTie.lean); close each card by the builder's one call (the guide's Derived/Test/ToyasCard.lean, 'card_holds'). Laid BY PROGRAM, IN A SANDBOX (cutbox-door.mjs). By AI agents, Wed Nov 11 2026. No macro, syntax, notation, axiom, sorry.
-/
import Derived.Test.YtikdidfgdiafoabDoorRows
import GoSem.ClaimSeven
namespace Go.Proofs.YtikdidfgdiafoabDoor
namespace Rows

/-- THE TIED CARD OF 'punctuallaw.MeaningRuns'. -/
def meaningRunsCard : Claim7 := { stood := { row := meaningRunsRow, standIns := [], harness := (true, "f0bfe119c2369942dde2365d18de613b6a43803f240d9842256c7403f7b8d355"), looks := true }, kinds := [], alts := [], laidByText := true, laidKinds := [.data, .data], laidTests := true, laidLooks := .later }
def MeaningRunsCardSaid : Prop := Claim7.holds Tryd.pinned (.plain (OpenSpec.ofChange meaningRunsSpec)) meaningRunsCard

/-- THE TIED CARD OF 'punctuallaw.MeaningJoins'. -/
def meaningJoinsCard : Claim7 := { stood := { row := meaningJoinsRow, standIns := [], harness := (true, "f0bfe119c2369942dde2365d18de613b6a43803f240d9842256c7403f7b8d355"), looks := true }, kinds := [], alts := [], laidByText := true, laidKinds := [.data, .data], laidTests := true, laidLooks := .later }
def MeaningJoinsCardSaid : Prop := Claim7.holds Tryd.pinned (.plain (OpenSpec.ofChange meaningJoinsSpec)) meaningJoinsCard

/-- THE SECOND FORM's CARD OF 'punctuallaw.MeaningRuns'. -/
def meaningRunsUptoCard : Claim7 := { stood := { row := meaningRunsUptoRow, standIns := [], harness := (true, "f0bfe119c2369942dde2365d18de613b6a43803f240d9842256c7403f7b8d355"), looks := true }, kinds := [], alts := [], laidByText := true, laidKinds := [.data, .data], laidTests := true, laidLooks := .later }
def MeaningRunsUptoCardSaid : Prop := Claim7.holds Tryd.pinned (.plain (OpenSpec.upto meaningRunsSpec)) meaningRunsUptoCard

/-- THE SECOND FORM's CARD OF 'punctuallaw.MeaningJoins'. -/
def meaningJoinsUptoCard : Claim7 := { stood := { row := meaningJoinsUptoRow, standIns := [], harness := (true, "f0bfe119c2369942dde2365d18de613b6a43803f240d9842256c7403f7b8d355"), looks := true }, kinds := [], alts := [], laidByText := true, laidKinds := [.data, .data], laidTests := true, laidLooks := .later }
def MeaningJoinsUptoCardSaid : Prop := Claim7.holds Tryd.pinned (.plain (OpenSpec.upto meaningJoinsSpec)) meaningJoinsUptoCard
end Rows
end Go.Proofs.YtikdidfgdiafoabDoor
