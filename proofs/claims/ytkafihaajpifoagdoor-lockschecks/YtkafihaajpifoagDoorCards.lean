/-
  DERIVED. GIVEN WITH THE SEED: THE CARDS: each row of YtkafihaajpifoagDoorRows.lean that lists a variable, with what it lists TIED to the program's text (the seventh form; the later family's looks); each row that meets fmt, with fmt's text TOLD by the authors' own Lean function (tested against real Go, not proved from fmt's source: count such statements apart). THE CARD IS WHAT COUNTS. Prove the row's statement (the work); the ties are given (YtkafihaajpifoagDoorTie.lean); close each card by the builder's one call (the guide's Derived/Test/ToyasCard.lean, 'card_holds'). Laid BY PROGRAM, IN A SANDBOX (cutbox-door.mjs). By AI agents, Wed Nov 11 2026. No macro, syntax, notation, axiom, sorry.
-/
import Derived.Test.YtkafihaajpifoagDoorRows
import GoSem.ClaimSeven
namespace Go.Proofs.YtkafihaajpifoagDoor
namespace Rows

/-- THE TIED CARD OF 'punctuallaw.EdfJudges'. -/
def edfJudgesCard : Claim7 := { stood := { row := edfJudgesRow, standIns := [], harness := (true, "1334b22251c7eefab6e5daa13c247ad22ae035a1639962fe3657e9c3ca4c8467"), looks := false }, kinds := [], alts := [], laidByText := true, laidKinds := [.data], laidTests := true, laidLooks := .later }
def EdfJudgesCardSaid : Prop := Claim7.holds Tryd.pinned (.plain (OpenSpec.ofChange edfJudgesSpec)) edfJudgesCard

/-- THE TIED CARD OF 'punctuallaw.LocksChecks'. -/
def locksChecksCard : Claim7 := { stood := { row := locksChecksRow, standIns := [], harness := (true, "1334b22251c7eefab6e5daa13c247ad22ae035a1639962fe3657e9c3ca4c8467"), looks := false }, kinds := [], alts := [], laidByText := true, laidKinds := [.data], laidTests := true, laidLooks := .later }
def LocksChecksCardSaid : Prop := Claim7.holds Tryd.pinned (.plain (OpenSpec.ofChange locksChecksSpec)) locksChecksCard

/-- THE SECOND FORM's CARD OF 'punctuallaw.EdfJudges'. -/
def edfJudgesUptoCard : Claim7 := { stood := { row := edfJudgesUptoRow, standIns := [], harness := (true, "1334b22251c7eefab6e5daa13c247ad22ae035a1639962fe3657e9c3ca4c8467"), looks := false }, kinds := [], alts := [], laidByText := true, laidKinds := [.data], laidTests := true, laidLooks := .later }
def EdfJudgesUptoCardSaid : Prop := Claim7.holds Tryd.pinned (.plain (OpenSpec.upto edfJudgesSpec)) edfJudgesUptoCard

/-- THE SECOND FORM's CARD OF 'punctuallaw.LocksChecks'. -/
def locksChecksUptoCard : Claim7 := { stood := { row := locksChecksUptoRow, standIns := [], harness := (true, "1334b22251c7eefab6e5daa13c247ad22ae035a1639962fe3657e9c3ca4c8467"), looks := false }, kinds := [], alts := [], laidByText := true, laidKinds := [.data], laidTests := true, laidLooks := .later }
def LocksChecksUptoCardSaid : Prop := Claim7.holds Tryd.pinned (.plain (OpenSpec.upto locksChecksSpec)) locksChecksUptoCard
end Rows
end Go.Proofs.YtkafihaajpifoagDoor
