/-
  DERIVED. GIVEN WITH THE SEED: THE CARDS: each row of YtkafihaajpifoaeDoorRows.lean that lists a variable, with what it lists TIED to the program's text (the seventh form; the later family's looks); each row that meets fmt, with fmt's text TOLD by the authors' own Lean function (tested against real Go, not proved from fmt's source: count such statements apart). THE CARD IS WHAT COUNTS. Prove the row's statement (the work); the ties are given (YtkafihaajpifoaeDoorTie.lean); close each card by the builder's one call (the guide's Derived/Test/ToyasCard.lean, 'card_holds'). Laid BY PROGRAM, IN A SANDBOX (cutbox-door.mjs). By AI agents, Wed Nov 11 2026. No macro, syntax, notation, axiom, sorry.
-/
import Derived.Test.YtkafihaajpifoaeDoorRows
import GoSem.ClaimSeven
namespace Go.Proofs.YtkafihaajpifoaeDoor
namespace Rows

/-- THE TIED CARD OF 'punctuallaw.TasksComes'. -/
def tasksComesCard : Claim7 := { stood := { row := tasksComesRow, standIns := [], harness := (true, "cd664693cc90d001ee10be2a20fd7b58cc17ce7d111ee741a9fd60deccf51e29"), looks := false }, kinds := [], alts := [], laidByText := true, laidKinds := [.data, .data], laidTests := true, laidLooks := .later }
def TasksComesCardSaid : Prop := Claim7.holds Tryd.pinned (.plain (OpenSpec.ofChange tasksComesSpec)) tasksComesCard

/-- THE TIED CARD OF 'punctuallaw.TasksJobs'. -/
def tasksJobsCard : Claim7 := { stood := { row := tasksJobsRow, standIns := [], harness := (true, "cd664693cc90d001ee10be2a20fd7b58cc17ce7d111ee741a9fd60deccf51e29"), looks := false }, kinds := [], alts := [], laidByText := true, laidKinds := [.data, .data], laidTests := true, laidLooks := .later }
def TasksJobsCardSaid : Prop := Claim7.holds Tryd.pinned (.plain (OpenSpec.ofChange tasksJobsSpec)) tasksJobsCard

/-- THE TIED CARD OF 'punctuallaw.SchedPlays'. -/
def schedPlaysCard : Claim7 := { stood := { row := schedPlaysRow, standIns := [], harness := (true, "cd664693cc90d001ee10be2a20fd7b58cc17ce7d111ee741a9fd60deccf51e29"), looks := false }, kinds := [], alts := [], laidByText := true, laidKinds := [.data], laidTests := true, laidLooks := .later }
def SchedPlaysCardSaid : Prop := Claim7.holds Tryd.pinned (.plain (OpenSpec.ofChange schedPlaysSpec)) schedPlaysCard

/-- THE TIED CARD OF 'punctuallaw.SchedLate'. -/
def schedLateCard : Claim7 := { stood := { row := schedLateRow, standIns := [], harness := (true, "cd664693cc90d001ee10be2a20fd7b58cc17ce7d111ee741a9fd60deccf51e29"), looks := false }, kinds := [], alts := [], laidByText := true, laidKinds := [.data], laidTests := true, laidLooks := .later }
def SchedLateCardSaid : Prop := Claim7.holds Tryd.pinned (.plain (OpenSpec.ofChange schedLateSpec)) schedLateCard

/-- THE TIED CARD OF 'punctuallaw.FixedResponds'. -/
def fixedRespondsCard : Claim7 := { stood := { row := fixedRespondsRow, standIns := [], harness := (true, "cd664693cc90d001ee10be2a20fd7b58cc17ce7d111ee741a9fd60deccf51e29"), looks := false }, kinds := [], alts := [], laidByText := true, laidKinds := [.data], laidTests := true, laidLooks := .later }
def FixedRespondsCardSaid : Prop := Claim7.holds Tryd.pinned (.plain (OpenSpec.ofChange fixedRespondsSpec)) fixedRespondsCard

/-- THE SECOND FORM's CARD OF 'punctuallaw.TasksComes'. -/
def tasksComesUptoCard : Claim7 := { stood := { row := tasksComesUptoRow, standIns := [], harness := (true, "cd664693cc90d001ee10be2a20fd7b58cc17ce7d111ee741a9fd60deccf51e29"), looks := false }, kinds := [], alts := [], laidByText := true, laidKinds := [.data, .data], laidTests := true, laidLooks := .later }
def TasksComesUptoCardSaid : Prop := Claim7.holds Tryd.pinned (.plain (OpenSpec.upto tasksComesSpec)) tasksComesUptoCard

/-- THE SECOND FORM's CARD OF 'punctuallaw.TasksJobs'. -/
def tasksJobsUptoCard : Claim7 := { stood := { row := tasksJobsUptoRow, standIns := [], harness := (true, "cd664693cc90d001ee10be2a20fd7b58cc17ce7d111ee741a9fd60deccf51e29"), looks := false }, kinds := [], alts := [], laidByText := true, laidKinds := [.data, .data], laidTests := true, laidLooks := .later }
def TasksJobsUptoCardSaid : Prop := Claim7.holds Tryd.pinned (.plain (OpenSpec.upto tasksJobsSpec)) tasksJobsUptoCard

/-- THE SECOND FORM's CARD OF 'punctuallaw.SchedPlays'. -/
def schedPlaysUptoCard : Claim7 := { stood := { row := schedPlaysUptoRow, standIns := [], harness := (true, "cd664693cc90d001ee10be2a20fd7b58cc17ce7d111ee741a9fd60deccf51e29"), looks := false }, kinds := [], alts := [], laidByText := true, laidKinds := [.data], laidTests := true, laidLooks := .later }
def SchedPlaysUptoCardSaid : Prop := Claim7.holds Tryd.pinned (.plain (OpenSpec.upto schedPlaysSpec)) schedPlaysUptoCard

/-- THE SECOND FORM's CARD OF 'punctuallaw.SchedLate'. -/
def schedLateUptoCard : Claim7 := { stood := { row := schedLateUptoRow, standIns := [], harness := (true, "cd664693cc90d001ee10be2a20fd7b58cc17ce7d111ee741a9fd60deccf51e29"), looks := false }, kinds := [], alts := [], laidByText := true, laidKinds := [.data], laidTests := true, laidLooks := .later }
def SchedLateUptoCardSaid : Prop := Claim7.holds Tryd.pinned (.plain (OpenSpec.upto schedLateSpec)) schedLateUptoCard

/-- THE SECOND FORM's CARD OF 'punctuallaw.FixedResponds'. -/
def fixedRespondsUptoCard : Claim7 := { stood := { row := fixedRespondsUptoRow, standIns := [], harness := (true, "cd664693cc90d001ee10be2a20fd7b58cc17ce7d111ee741a9fd60deccf51e29"), looks := false }, kinds := [], alts := [], laidByText := true, laidKinds := [.data], laidTests := true, laidLooks := .later }
def FixedRespondsUptoCardSaid : Prop := Claim7.holds Tryd.pinned (.plain (OpenSpec.upto fixedRespondsSpec)) fixedRespondsUptoCard
end Rows
end Go.Proofs.YtkafihaajpifoaeDoor
