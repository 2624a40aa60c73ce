/-
  DERIVED. GIVEN WITH THE SEED: THE CARDS: each row of YtdhnjemgnlklkajDoorRows.lean that lists a variable, with what it lists TIED to the program's text (the seventh form; the later family's looks); each row that meets fmt, with fmt's text TOLD by the authors' own Lean function (tested against real Go, not proved from fmt's source: count such statements apart). THE CARD IS WHAT COUNTS. Prove the row's statement (the work); the ties are given (YtdhnjemgnlklkajDoorTie.lean); close each card by the builder's one call (the guide's Derived/Test/ToyasCard.lean, 'card_holds'). Laid BY PROGRAM, IN A SANDBOX (cutbox-door.mjs). By AI agents, Wed Nov 11 2026. No macro, syntax, notation, axiom, sorry.
-/
import Derived.Test.YtdhnjemgnlklkajDoorRows
import GoSem.ClaimSeven
namespace Go.Proofs.YtdhnjemgnlklkajDoor
namespace Rows

/-- THE TIED CARD OF 'punctuallaw.NetTimes'. -/
def netTimesCard : Claim7 := { stood := { row := netTimesRow, standIns := [], harness := (true, "2210fe987cc8236667b58e1d3671564a00b15f58b4f2054db7abe6bd8c57058e"), looks := false }, kinds := [], alts := [], laidByText := true, laidKinds := [.data], laidTests := true, laidLooks := .later }
def NetTimesCardSaid : Prop := Claim7.holds Tryd.pinned (.plain (OpenSpec.ofChange netTimesSpec)) netTimesCard

/-- THE TIED CARD OF 'punctuallaw.NetSends'. -/
def netSendsCard : Claim7 := { stood := { row := netSendsRow, standIns := [], harness := (true, "2210fe987cc8236667b58e1d3671564a00b15f58b4f2054db7abe6bd8c57058e"), looks := false }, kinds := [], alts := [], laidByText := true, laidKinds := [.data, .data], laidTests := true, laidLooks := .later }
def NetSendsCardSaid : Prop := Claim7.holds Tryd.pinned (.plain (OpenSpec.ofChange netSendsSpec)) netSendsCard

/-- THE SECOND FORM's CARD OF 'punctuallaw.NetTimes'. -/
def netTimesUptoCard : Claim7 := { stood := { row := netTimesUptoRow, standIns := [], harness := (true, "2210fe987cc8236667b58e1d3671564a00b15f58b4f2054db7abe6bd8c57058e"), looks := false }, kinds := [], alts := [], laidByText := true, laidKinds := [.data], laidTests := true, laidLooks := .later }
def NetTimesUptoCardSaid : Prop := Claim7.holds Tryd.pinned (.plain (OpenSpec.upto netTimesSpec)) netTimesUptoCard

/-- THE SECOND FORM's CARD OF 'punctuallaw.NetSends'. -/
def netSendsUptoCard : Claim7 := { stood := { row := netSendsUptoRow, standIns := [], harness := (true, "2210fe987cc8236667b58e1d3671564a00b15f58b4f2054db7abe6bd8c57058e"), looks := false }, kinds := [], alts := [], laidByText := true, laidKinds := [.data, .data], laidTests := true, laidLooks := .later }
def NetSendsUptoCardSaid : Prop := Claim7.holds Tryd.pinned (.plain (OpenSpec.upto netSendsSpec)) netSendsUptoCard
end Rows
end Go.Proofs.YtdhnjemgnlklkajDoor
