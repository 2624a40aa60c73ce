/-
  DERIVED. GIVEN WITH THE SEED: THE CARDS: each row of YtaeamhnjbgmfdaeDoorRows.lean that lists a variable, with what it lists TIED to the program's text (the seventh form; the later family's looks); each row that meets fmt, with fmt's text TOLD by the authors' own Lean function (tested against real Go, not proved from fmt's source: count such statements apart). THE CARD IS WHAT COUNTS. Prove the row's statement (the work); the ties are given (YtaeamhnjbgmfdaeDoorTie.lean); close each card by the builder's one call (the guide's Derived/Test/ToyasCard.lean, 'card_holds'). Laid BY PROGRAM, IN A SANDBOX (cutbox-door.mjs). By AI agents, Wed Nov 11 2026. No macro, syntax, notation, axiom, sorry.
-/
import Derived.Test.YtaeamhnjbgmfdaeDoorRows
import GoSem.ClaimSeven
namespace Go.Proofs.YtaeamhnjbgmfdaeDoor
namespace Rows

/-- THE TIED CARD OF 'punctuallaw.TasksComes'. -/
def tasksComesCard : Claim7 := { stood := { row := tasksComesRow, standIns := [], harness := (true, "32fd489bd2135dc553d1cc1f36f12a0cb9b2208da4e28f978c86aa6d735bb527"), looks := false }, kinds := [], alts := [], laidByText := true, laidKinds := [.data, .data], laidTests := true, laidLooks := .later }
def TasksComesCardSaid : Prop := Claim7.holds Tryd.pinned (.plain (OpenSpec.ofChange tasksComesSpec)) tasksComesCard

/-- THE TIED CARD OF 'punctuallaw.TasksJobs'. -/
def tasksJobsCard : Claim7 := { stood := { row := tasksJobsRow, standIns := [], harness := (true, "32fd489bd2135dc553d1cc1f36f12a0cb9b2208da4e28f978c86aa6d735bb527"), looks := false }, kinds := [], alts := [], laidByText := true, laidKinds := [.data, .data], laidTests := true, laidLooks := .later }
def TasksJobsCardSaid : Prop := Claim7.holds Tryd.pinned (.plain (OpenSpec.ofChange tasksJobsSpec)) tasksJobsCard

/-- THE SECOND FORM's CARD OF 'punctuallaw.TasksComes'. -/
def tasksComesUptoCard : Claim7 := { stood := { row := tasksComesUptoRow, standIns := [], harness := (true, "32fd489bd2135dc553d1cc1f36f12a0cb9b2208da4e28f978c86aa6d735bb527"), looks := false }, kinds := [], alts := [], laidByText := true, laidKinds := [.data, .data], laidTests := true, laidLooks := .later }
def TasksComesUptoCardSaid : Prop := Claim7.holds Tryd.pinned (.plain (OpenSpec.upto tasksComesSpec)) tasksComesUptoCard

/-- THE SECOND FORM's CARD OF 'punctuallaw.TasksJobs'. -/
def tasksJobsUptoCard : Claim7 := { stood := { row := tasksJobsUptoRow, standIns := [], harness := (true, "32fd489bd2135dc553d1cc1f36f12a0cb9b2208da4e28f978c86aa6d735bb527"), looks := false }, kinds := [], alts := [], laidByText := true, laidKinds := [.data, .data], laidTests := true, laidLooks := .later }
def TasksJobsUptoCardSaid : Prop := Claim7.holds Tryd.pinned (.plain (OpenSpec.upto tasksJobsSpec)) tasksJobsUptoCard
end Rows
end Go.Proofs.YtaeamhnjbgmfdaeDoor
