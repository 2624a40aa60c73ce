/-
  DERIVED. GIVEN WITH THE SEED: THE CARDS: each row of YtccoobcggbbciadDoorRows.lean that lists a variable, with what it lists TIED to the program's text (the seventh form; the later family's looks); each row that meets fmt, with fmt's text TOLD by the authors' own Lean function (tested against real Go, not proved from fmt's source: count such statements apart). THE CARD IS WHAT COUNTS. Prove the row's statement (the work); the ties are given (YtccoobcggbbciadDoorTie.lean); close each card by the builder's one call (the guide's Derived/Test/ToyasCard.lean, 'card_holds'). Laid BY PROGRAM, IN A SANDBOX (cutbox-door.mjs). By AI agents, Wed Nov 11 2026. No macro, syntax, notation, axiom, sorry.
-/
import Derived.Test.YtccoobcggbbciadDoorRows
import GoSem.ClaimSeven
namespace Go.Proofs.YtccoobcggbbciadDoor
namespace Rows

/-- THE TIED CARD OF 'punctuallaw.WcetProves'. -/
def wcetProvesCard : Claim7 := { stood := { row := wcetProvesRow, standIns := [], harness := (true, "9463412382bdc95ddf551b2bc1aed950bd741beab3df5b5d05c9b61a097c9794"), looks := true }, kinds := [], alts := [], laidByText := true, laidKinds := [.data, .data], laidTests := true, laidLooks := .later }
def WcetProvesCardSaid : Prop := Claim7.holds Tryd.pinned (.plain (OpenSpec.ofChange wcetProvesSpec)) wcetProvesCard

/-- THE TIED CARD OF 'punctuallaw.WcetBound'. -/
def wcetBoundCard : Claim7 := { stood := { row := wcetBoundRow, standIns := [], harness := (true, "9463412382bdc95ddf551b2bc1aed950bd741beab3df5b5d05c9b61a097c9794"), looks := true }, kinds := [], alts := [], laidByText := true, laidKinds := [.data], laidTests := true, laidLooks := .later }
def WcetBoundCardSaid : Prop := Claim7.holds Tryd.pinned (.plain (OpenSpec.ofChange wcetBoundSpec)) wcetBoundCard

/-- THE TIED CARD OF 'punctuallaw.WcetLeast'. -/
def wcetLeastCard : Claim7 := { stood := { row := wcetLeastRow, standIns := [], harness := (true, "9463412382bdc95ddf551b2bc1aed950bd741beab3df5b5d05c9b61a097c9794"), looks := true }, kinds := [], alts := [], laidByText := true, laidKinds := [.data], laidTests := true, laidLooks := .later }
def WcetLeastCardSaid : Prop := Claim7.holds Tryd.pinned (.plain (OpenSpec.ofChange wcetLeastSpec)) wcetLeastCard

/-- THE TIED CARD OF 'punctuallaw.WcetMet'. -/
def wcetMetCard : Claim7 := { stood := { row := wcetMetRow, standIns := [], harness := (true, "9463412382bdc95ddf551b2bc1aed950bd741beab3df5b5d05c9b61a097c9794"), looks := true }, kinds := [], alts := [], laidByText := true, laidKinds := [.data], laidTests := true, laidLooks := .later }
def WcetMetCardSaid : Prop := Claim7.holds Tryd.pinned (.plain (OpenSpec.ofChange wcetMetSpec)) wcetMetCard

/-- THE TIED CARD OF 'punctuallaw.TasksChecks'. -/
def tasksChecksCard : Claim7 := { stood := { row := tasksChecksRow, standIns := [], harness := (true, "9463412382bdc95ddf551b2bc1aed950bd741beab3df5b5d05c9b61a097c9794"), looks := true }, kinds := [], alts := [], laidByText := true, laidKinds := [.data], laidTests := true, laidLooks := .later }
def TasksChecksCardSaid : Prop := Claim7.holds Tryd.pinned (.plain (OpenSpec.ofChange tasksChecksSpec)) tasksChecksCard

/-- THE TIED CARD OF 'punctuallaw.TasksReads'. -/
def tasksReadsCard : Claim7 := { stood := { row := tasksReadsRow, standIns := [], harness := (true, "9463412382bdc95ddf551b2bc1aed950bd741beab3df5b5d05c9b61a097c9794"), looks := true }, kinds := [], alts := [], laidByText := true, laidKinds := [.data, .data, .data, .data, .sentinel, .sentinel, .data, .pinned], laidTests := true, laidLooks := .later }
def TasksReadsCardSaid : Prop := Claim7.holds Tryd.pinned (.plain (OpenSpec.ofChange tasksReadsSpec)) tasksReadsCard

/-- THE SECOND FORM's CARD OF 'punctuallaw.WcetProves'. -/
def wcetProvesUptoCard : Claim7 := { stood := { row := wcetProvesUptoRow, standIns := [], harness := (true, "9463412382bdc95ddf551b2bc1aed950bd741beab3df5b5d05c9b61a097c9794"), looks := true }, kinds := [], alts := [], laidByText := true, laidKinds := [.data, .data], laidTests := true, laidLooks := .later }
def WcetProvesUptoCardSaid : Prop := Claim7.holds Tryd.pinned (.plain (OpenSpec.upto wcetProvesSpec)) wcetProvesUptoCard

/-- THE SECOND FORM's CARD OF 'punctuallaw.WcetBound'. -/
def wcetBoundUptoCard : Claim7 := { stood := { row := wcetBoundUptoRow, standIns := [], harness := (true, "9463412382bdc95ddf551b2bc1aed950bd741beab3df5b5d05c9b61a097c9794"), looks := true }, kinds := [], alts := [], laidByText := true, laidKinds := [.data], laidTests := true, laidLooks := .later }
def WcetBoundUptoCardSaid : Prop := Claim7.holds Tryd.pinned (.plain (OpenSpec.upto wcetBoundSpec)) wcetBoundUptoCard

/-- THE SECOND FORM's CARD OF 'punctuallaw.WcetLeast'. -/
def wcetLeastUptoCard : Claim7 := { stood := { row := wcetLeastUptoRow, standIns := [], harness := (true, "9463412382bdc95ddf551b2bc1aed950bd741beab3df5b5d05c9b61a097c9794"), looks := true }, kinds := [], alts := [], laidByText := true, laidKinds := [.data], laidTests := true, laidLooks := .later }
def WcetLeastUptoCardSaid : Prop := Claim7.holds Tryd.pinned (.plain (OpenSpec.upto wcetLeastSpec)) wcetLeastUptoCard

/-- THE SECOND FORM's CARD OF 'punctuallaw.WcetMet'. -/
def wcetMetUptoCard : Claim7 := { stood := { row := wcetMetUptoRow, standIns := [], harness := (true, "9463412382bdc95ddf551b2bc1aed950bd741beab3df5b5d05c9b61a097c9794"), looks := true }, kinds := [], alts := [], laidByText := true, laidKinds := [.data], laidTests := true, laidLooks := .later }
def WcetMetUptoCardSaid : Prop := Claim7.holds Tryd.pinned (.plain (OpenSpec.upto wcetMetSpec)) wcetMetUptoCard

/-- THE SECOND FORM's CARD OF 'punctuallaw.TasksChecks'. -/
def tasksChecksUptoCard : Claim7 := { stood := { row := tasksChecksUptoRow, standIns := [], harness := (true, "9463412382bdc95ddf551b2bc1aed950bd741beab3df5b5d05c9b61a097c9794"), looks := true }, kinds := [], alts := [], laidByText := true, laidKinds := [.data], laidTests := true, laidLooks := .later }
def TasksChecksUptoCardSaid : Prop := Claim7.holds Tryd.pinned (.plain (OpenSpec.upto tasksChecksSpec)) tasksChecksUptoCard

/-- THE SECOND FORM's CARD OF 'punctuallaw.TasksReads'. -/
def tasksReadsUptoCard : Claim7 := { stood := { row := tasksReadsUptoRow, standIns := [], harness := (true, "9463412382bdc95ddf551b2bc1aed950bd741beab3df5b5d05c9b61a097c9794"), looks := true }, kinds := [], alts := [], laidByText := true, laidKinds := [.data, .data, .data, .data, .sentinel, .sentinel, .data, .pinned], laidTests := true, laidLooks := .later }
def TasksReadsUptoCardSaid : Prop := Claim7.holds Tryd.pinned (.plain (OpenSpec.upto tasksReadsSpec)) tasksReadsUptoCard
end Rows
end Go.Proofs.YtccoobcggbbciadDoor
