/-
  DERIVED. GIVEN WITH THE SEED: THE CARDS: each row of YtiemlpajgfcbjaaDoorRows.lean that lists a variable, with what it lists TIED to the program's text (the seventh form; the later family's looks); each row that meets fmt, with fmt's text TOLD by the authors' own Lean function (tested against real Go, not proved from fmt's source: count such statements apart). THE CARD IS WHAT COUNTS. Prove the row's statement (the work); the ties are given (YtiemlpajgfcbjaaDoorTie.lean); close each card by the builder's one call (the guide's Derived/Test/ToyasCard.lean, 'card_holds'). Laid BY PROGRAM, IN A SANDBOX (cutbox-door.mjs). By AI agents, Wed Nov 11 2026. No macro, syntax, notation, axiom, sorry.
-/
import Derived.Test.YtiemlpajgfcbjaaDoorRows
import GoSem.ClaimSeven
namespace Go.Proofs.YtiemlpajgfcbjaaDoor
namespace Rows

/-- THE TIED CARD OF 'punctuallaw.TasksChecks'. -/
def tasksChecksCard : Claim7 := { stood := { row := tasksChecksRow, standIns := [], harness := (true, "182b28ac1a5e2c943bae8d80c75ba7d2cf488a895104d0bf2a8d3856d6715ade"), looks := false }, kinds := [], alts := [], laidByText := true, laidKinds := [.data], laidTests := true, laidLooks := .later }
def TasksChecksCardSaid : Prop := Claim7.holds Tryd.pinned (.plain (OpenSpec.ofChange tasksChecksSpec)) tasksChecksCard

/-- THE TIED CARD OF 'punctuallaw.TasksComes'. -/
def tasksComesCard : Claim7 := { stood := { row := tasksComesRow, standIns := [], harness := (true, "182b28ac1a5e2c943bae8d80c75ba7d2cf488a895104d0bf2a8d3856d6715ade"), looks := false }, kinds := [], alts := [], laidByText := true, laidKinds := [.data, .data], laidTests := true, laidLooks := .later }
def TasksComesCardSaid : Prop := Claim7.holds Tryd.pinned (.plain (OpenSpec.ofChange tasksComesSpec)) tasksComesCard

/-- THE TIED CARD OF 'punctuallaw.TasksJobs'. -/
def tasksJobsCard : Claim7 := { stood := { row := tasksJobsRow, standIns := [], harness := (true, "182b28ac1a5e2c943bae8d80c75ba7d2cf488a895104d0bf2a8d3856d6715ade"), looks := false }, kinds := [], alts := [], laidByText := true, laidKinds := [.data, .data], laidTests := true, laidLooks := .later }
def TasksJobsCardSaid : Prop := Claim7.holds Tryd.pinned (.plain (OpenSpec.ofChange tasksJobsSpec)) tasksJobsCard

/-- THE SECOND FORM's CARD OF 'punctuallaw.TasksChecks'. -/
def tasksChecksUptoCard : Claim7 := { stood := { row := tasksChecksUptoRow, standIns := [], harness := (true, "182b28ac1a5e2c943bae8d80c75ba7d2cf488a895104d0bf2a8d3856d6715ade"), looks := false }, kinds := [], alts := [], laidByText := true, laidKinds := [.data], laidTests := true, laidLooks := .later }
def TasksChecksUptoCardSaid : Prop := Claim7.holds Tryd.pinned (.plain (OpenSpec.upto tasksChecksSpec)) tasksChecksUptoCard

/-- THE SECOND FORM's CARD OF 'punctuallaw.TasksComes'. -/
def tasksComesUptoCard : Claim7 := { stood := { row := tasksComesUptoRow, standIns := [], harness := (true, "182b28ac1a5e2c943bae8d80c75ba7d2cf488a895104d0bf2a8d3856d6715ade"), looks := false }, kinds := [], alts := [], laidByText := true, laidKinds := [.data, .data], laidTests := true, laidLooks := .later }
def TasksComesUptoCardSaid : Prop := Claim7.holds Tryd.pinned (.plain (OpenSpec.upto tasksComesSpec)) tasksComesUptoCard

/-- THE SECOND FORM's CARD OF 'punctuallaw.TasksJobs'. -/
def tasksJobsUptoCard : Claim7 := { stood := { row := tasksJobsUptoRow, standIns := [], harness := (true, "182b28ac1a5e2c943bae8d80c75ba7d2cf488a895104d0bf2a8d3856d6715ade"), looks := false }, kinds := [], alts := [], laidByText := true, laidKinds := [.data, .data], laidTests := true, laidLooks := .later }
def TasksJobsUptoCardSaid : Prop := Claim7.holds Tryd.pinned (.plain (OpenSpec.upto tasksJobsSpec)) tasksJobsUptoCard
end Rows
end Go.Proofs.YtiemlpajgfcbjaaDoor
