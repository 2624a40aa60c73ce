/-
  DERIVED. GIVEN WITH THE SEED: THE CARDS: each row of YtcgncdpohaoejafDoorRows.lean that lists a variable, with what it lists TIED to the program's text (the seventh form; the later family's looks); each row that meets fmt, with fmt's text TOLD by the authors' own Lean function (tested against real Go, not proved from fmt's source: count such statements apart). THE CARD IS WHAT COUNTS. Prove the row's statement (the work); the ties are given (YtcgncdpohaoejafDoorTie.lean); close each card by the builder's one call (the guide's Derived/Test/ToyasCard.lean, 'card_holds'). Laid BY PROGRAM, IN A SANDBOX (cutbox-door.mjs). By AI agents, Wed Nov 11 2026. No macro, syntax, notation, axiom, sorry.
-/
import Derived.Test.YtcgncdpohaoejafDoorRows
import GoSem.ClaimSeven
namespace Go.Proofs.YtcgncdpohaoejafDoor
namespace Rows

/-- THE TIED CARD OF 'punctuallaw.FixedRanks'. -/
def fixedRanksCard : Claim7 := { stood := { row := fixedRanksRow, standIns := [], harness := (true, "a12ae4f7a9aa4e8eae096fe9aef866e951f9aa6a808017963b43833e31886f9b"), looks := false }, kinds := [], alts := [], laidByText := true, laidKinds := [.data], laidTests := true, laidLooks := .later }
def FixedRanksCardSaid : Prop := Claim7.holds Tryd.pinned (.plain (OpenSpec.ofChange fixedRanksSpec)) fixedRanksCard

/-- THE SECOND FORM's CARD OF 'punctuallaw.FixedRanks'. -/
def fixedRanksUptoCard : Claim7 := { stood := { row := fixedRanksUptoRow, standIns := [], harness := (true, "a12ae4f7a9aa4e8eae096fe9aef866e951f9aa6a808017963b43833e31886f9b"), looks := false }, kinds := [], alts := [], laidByText := true, laidKinds := [.data], laidTests := true, laidLooks := .later }
def FixedRanksUptoCardSaid : Prop := Claim7.holds Tryd.pinned (.plain (OpenSpec.upto fixedRanksSpec)) fixedRanksUptoCard
end Rows
end Go.Proofs.YtcgncdpohaoejafDoor
