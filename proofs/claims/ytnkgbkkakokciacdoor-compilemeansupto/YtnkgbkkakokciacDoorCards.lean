/-
  DERIVED. GIVEN WITH THE SEED: THE CARDS: each row of YtnkgbkkakokciacDoorRows.lean that lists a variable, with what it lists TIED to the program's text (the seventh form; the later family's looks); each row that meets fmt, with fmt's text TOLD by the authors' own Lean function (tested against real Go, not proved from fmt's source: count such statements apart). THE CARD IS WHAT COUNTS. Prove the row's statement (the work); the ties are given (YtnkgbkkakokciacDoorTie.lean); close each card by the builder's one call (the guide's Derived/Test/ToyasCard.lean, 'card_holds'). Laid BY PROGRAM, IN A SANDBOX (cutbox-door.mjs). By AI agents, Wed Nov 11 2026. No macro, syntax, notation, axiom, sorry.
-/
import Derived.Test.YtnkgbkkakokciacDoorRows
import GoSem.ClaimSeven
namespace Go.Proofs.YtnkgbkkakokciacDoor
namespace Rows

/-- THE TIED CARD OF 'punctuallaw.MachRuns'. -/
def machRunsCard : Claim7 := { stood := { row := machRunsRow, standIns := [], harness := (true, "aa23c29ead9214399766ac940bf8b931e3ccdde1e6a070c25ece63750063ee65"), looks := true }, kinds := [], alts := [], laidByText := true, laidKinds := [.data, .data], laidTests := true, laidLooks := .later }
def MachRunsCardSaid : Prop := Claim7.holds Tryd.pinned (.plain (OpenSpec.ofChange machRunsSpec)) machRunsCard

/-- THE TIED CARD OF 'punctuallaw.MachTicks'. -/
def machTicksCard : Claim7 := { stood := { row := machTicksRow, standIns := [], harness := (true, "aa23c29ead9214399766ac940bf8b931e3ccdde1e6a070c25ece63750063ee65"), looks := true }, kinds := [], alts := [], laidByText := true, laidKinds := [.data, .data], laidTests := true, laidLooks := .later }
def MachTicksCardSaid : Prop := Claim7.holds Tryd.pinned (.plain (OpenSpec.ofChange machTicksSpec)) machTicksCard

/-- THE TIED CARD OF 'punctuallaw.MachCosts'. -/
def machCostsCard : Claim7 := { stood := { row := machCostsRow, standIns := [], harness := (true, "aa23c29ead9214399766ac940bf8b931e3ccdde1e6a070c25ece63750063ee65"), looks := true }, kinds := [], alts := [], laidByText := true, laidKinds := [.data], laidTests := true, laidLooks := .later }
def MachCostsCardSaid : Prop := Claim7.holds Tryd.pinned (.plain (OpenSpec.ofChange machCostsSpec)) machCostsCard

/-- THE TIED CARD OF 'punctuallaw.CompileMakes'. -/
def compileMakesCard : Claim7 := { stood := { row := compileMakesRow, standIns := [], harness := (true, "aa23c29ead9214399766ac940bf8b931e3ccdde1e6a070c25ece63750063ee65"), looks := true }, kinds := [], alts := [], laidByText := true, laidKinds := [.data, .data, .data, .data], laidTests := true, laidLooks := .later }
def CompileMakesCardSaid : Prop := Claim7.holds Tryd.pinned (.plain (OpenSpec.ofChange compileMakesSpec)) compileMakesCard

/-- THE TIED CARD OF 'punctuallaw.CompileMeans'. -/
def compileMeansCard : Claim7 := { stood := { row := compileMeansRow, standIns := [], harness := (true, "aa23c29ead9214399766ac940bf8b931e3ccdde1e6a070c25ece63750063ee65"), looks := true }, kinds := [], alts := [], laidByText := true, laidKinds := [.data, .data, .data, .data, .data], laidTests := true, laidLooks := .later }
def CompileMeansCardSaid : Prop := Claim7.holds Tryd.pinned (.plain (OpenSpec.ofChange compileMeansSpec)) compileMeansCard

/-- THE TIED CARD OF 'punctuallaw.WcetTells'. -/
def wcetTellsCard : Claim7 := { stood := { row := wcetTellsRow, standIns := [], harness := (true, "aa23c29ead9214399766ac940bf8b931e3ccdde1e6a070c25ece63750063ee65"), looks := true }, kinds := [], alts := [], laidByText := true, laidKinds := [.data, .data], laidTests := true, laidLooks := .later }
def WcetTellsCardSaid : Prop := Claim7.holds Tryd.pinned (.plain (OpenSpec.ofChange wcetTellsSpec)) wcetTellsCard

/-- THE SECOND FORM's CARD OF 'punctuallaw.MachRuns'. -/
def machRunsUptoCard : Claim7 := { stood := { row := machRunsUptoRow, standIns := [], harness := (true, "aa23c29ead9214399766ac940bf8b931e3ccdde1e6a070c25ece63750063ee65"), looks := true }, kinds := [], alts := [], laidByText := true, laidKinds := [.data, .data], laidTests := true, laidLooks := .later }
def MachRunsUptoCardSaid : Prop := Claim7.holds Tryd.pinned (.plain (OpenSpec.upto machRunsSpec)) machRunsUptoCard

/-- THE SECOND FORM's CARD OF 'punctuallaw.MachTicks'. -/
def machTicksUptoCard : Claim7 := { stood := { row := machTicksUptoRow, standIns := [], harness := (true, "aa23c29ead9214399766ac940bf8b931e3ccdde1e6a070c25ece63750063ee65"), looks := true }, kinds := [], alts := [], laidByText := true, laidKinds := [.data, .data], laidTests := true, laidLooks := .later }
def MachTicksUptoCardSaid : Prop := Claim7.holds Tryd.pinned (.plain (OpenSpec.upto machTicksSpec)) machTicksUptoCard

/-- THE SECOND FORM's CARD OF 'punctuallaw.MachCosts'. -/
def machCostsUptoCard : Claim7 := { stood := { row := machCostsUptoRow, standIns := [], harness := (true, "aa23c29ead9214399766ac940bf8b931e3ccdde1e6a070c25ece63750063ee65"), looks := true }, kinds := [], alts := [], laidByText := true, laidKinds := [.data], laidTests := true, laidLooks := .later }
def MachCostsUptoCardSaid : Prop := Claim7.holds Tryd.pinned (.plain (OpenSpec.upto machCostsSpec)) machCostsUptoCard

/-- THE SECOND FORM's CARD OF 'punctuallaw.CompileMakes'. -/
def compileMakesUptoCard : Claim7 := { stood := { row := compileMakesUptoRow, standIns := [], harness := (true, "aa23c29ead9214399766ac940bf8b931e3ccdde1e6a070c25ece63750063ee65"), looks := true }, kinds := [], alts := [], laidByText := true, laidKinds := [.data, .data, .data, .data], laidTests := true, laidLooks := .later }
def CompileMakesUptoCardSaid : Prop := Claim7.holds Tryd.pinned (.plain (OpenSpec.upto compileMakesSpec)) compileMakesUptoCard

/-- THE SECOND FORM's CARD OF 'punctuallaw.CompileMeans'. -/
def compileMeansUptoCard : Claim7 := { stood := { row := compileMeansUptoRow, standIns := [], harness := (true, "aa23c29ead9214399766ac940bf8b931e3ccdde1e6a070c25ece63750063ee65"), looks := true }, kinds := [], alts := [], laidByText := true, laidKinds := [.data, .data, .data, .data, .data], laidTests := true, laidLooks := .later }
def CompileMeansUptoCardSaid : Prop := Claim7.holds Tryd.pinned (.plain (OpenSpec.upto compileMeansSpec)) compileMeansUptoCard

/-- THE SECOND FORM's CARD OF 'punctuallaw.WcetTells'. -/
def wcetTellsUptoCard : Claim7 := { stood := { row := wcetTellsUptoRow, standIns := [], harness := (true, "aa23c29ead9214399766ac940bf8b931e3ccdde1e6a070c25ece63750063ee65"), looks := true }, kinds := [], alts := [], laidByText := true, laidKinds := [.data, .data], laidTests := true, laidLooks := .later }
def WcetTellsUptoCardSaid : Prop := Claim7.holds Tryd.pinned (.plain (OpenSpec.upto wcetTellsSpec)) wcetTellsUptoCard
end Rows
end Go.Proofs.YtnkgbkkakokciacDoor
