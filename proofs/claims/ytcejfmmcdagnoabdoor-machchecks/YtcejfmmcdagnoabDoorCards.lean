/-
  DERIVED. GIVEN WITH THE SEED: THE CARDS: each row of YtcejfmmcdagnoabDoorRows.lean that lists a variable, with what it lists TIED to the program's text (the seventh form; the later family's looks); each row that meets fmt, with fmt's text TOLD by the authors' own Lean function (tested against real Go, not proved from fmt's source: count such statements apart). THE CARD IS WHAT COUNTS. Prove the row's statement (the work); the ties are given (YtcejfmmcdagnoabDoorTie.lean); close each card by the builder's one call (the guide's Derived/Test/ToyasCard.lean, 'card_holds'). Laid BY PROGRAM, IN A SANDBOX (cutbox-door.mjs). By AI agents, Wed Nov 11 2026. No macro, syntax, notation, axiom, sorry.
-/
import Derived.Test.YtcejfmmcdagnoabDoorRows
import GoSem.ClaimSeven
namespace Go.Proofs.YtcejfmmcdagnoabDoor
namespace Rows

/-- THE TIED CARD OF 'punctuallaw.MeaningRuns'. -/
def meaningRunsCard : Claim7 := { stood := { row := meaningRunsRow, standIns := [], harness := (true, "edd5728f2a5bf452ad684e57ff676705a2d027e8fff0c3f863be41df769ba9c9"), looks := true }, kinds := [], alts := [], laidByText := true, laidKinds := [.data, .data], laidTests := true, laidLooks := .later }
def MeaningRunsCardSaid : Prop := Claim7.holds Tryd.pinned (.plain (OpenSpec.ofChange meaningRunsSpec)) meaningRunsCard

/-- THE TIED CARD OF 'punctuallaw.MeaningJoins'. -/
def meaningJoinsCard : Claim7 := { stood := { row := meaningJoinsRow, standIns := [], harness := (true, "edd5728f2a5bf452ad684e57ff676705a2d027e8fff0c3f863be41df769ba9c9"), looks := true }, kinds := [], alts := [], laidByText := true, laidKinds := [.data, .data], laidTests := true, laidLooks := .later }
def MeaningJoinsCardSaid : Prop := Claim7.holds Tryd.pinned (.plain (OpenSpec.ofChange meaningJoinsSpec)) meaningJoinsCard

/-- THE TIED CARD OF 'punctuallaw.MachChecks'. -/
def machChecksCard : Claim7 := { stood := { row := machChecksRow, standIns := [], harness := (true, "edd5728f2a5bf452ad684e57ff676705a2d027e8fff0c3f863be41df769ba9c9"), looks := true }, kinds := [], alts := [], laidByText := true, laidKinds := [.data, .data], laidTests := true, laidLooks := .later }
def MachChecksCardSaid : Prop := Claim7.holds Tryd.pinned (.plain (OpenSpec.ofChange machChecksSpec)) machChecksCard

/-- THE SECOND FORM's CARD OF 'punctuallaw.MeaningRuns'. -/
def meaningRunsUptoCard : Claim7 := { stood := { row := meaningRunsUptoRow, standIns := [], harness := (true, "edd5728f2a5bf452ad684e57ff676705a2d027e8fff0c3f863be41df769ba9c9"), looks := true }, kinds := [], alts := [], laidByText := true, laidKinds := [.data, .data], laidTests := true, laidLooks := .later }
def MeaningRunsUptoCardSaid : Prop := Claim7.holds Tryd.pinned (.plain (OpenSpec.upto meaningRunsSpec)) meaningRunsUptoCard

/-- THE SECOND FORM's CARD OF 'punctuallaw.MeaningJoins'. -/
def meaningJoinsUptoCard : Claim7 := { stood := { row := meaningJoinsUptoRow, standIns := [], harness := (true, "edd5728f2a5bf452ad684e57ff676705a2d027e8fff0c3f863be41df769ba9c9"), looks := true }, kinds := [], alts := [], laidByText := true, laidKinds := [.data, .data], laidTests := true, laidLooks := .later }
def MeaningJoinsUptoCardSaid : Prop := Claim7.holds Tryd.pinned (.plain (OpenSpec.upto meaningJoinsSpec)) meaningJoinsUptoCard

/-- THE SECOND FORM's CARD OF 'punctuallaw.MachChecks'. -/
def machChecksUptoCard : Claim7 := { stood := { row := machChecksUptoRow, standIns := [], harness := (true, "edd5728f2a5bf452ad684e57ff676705a2d027e8fff0c3f863be41df769ba9c9"), looks := true }, kinds := [], alts := [], laidByText := true, laidKinds := [.data, .data], laidTests := true, laidLooks := .later }
def MachChecksUptoCardSaid : Prop := Claim7.holds Tryd.pinned (.plain (OpenSpec.upto machChecksSpec)) machChecksUptoCard
end Rows
end Go.Proofs.YtcejfmmcdagnoabDoor
