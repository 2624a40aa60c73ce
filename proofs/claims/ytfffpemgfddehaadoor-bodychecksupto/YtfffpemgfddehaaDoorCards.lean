/-
  DERIVED. GIVEN WITH THE SEED: THE CARDS: each row of YtfffpemgfddehaaDoorRows.lean that lists a variable, with what it lists TIED to the program's text (the seventh form; the later family's looks); each row that meets fmt, with fmt's text TOLD by the authors' own Lean function (tested against real Go, not proved from fmt's source: count such statements apart). THE CARD IS WHAT COUNTS. Prove the row's statement (the work); the ties are given (YtfffpemgfddehaaDoorTie.lean); close each card by the builder's one call (the guide's Derived/Test/ToyasCard.lean, 'card_holds'). Laid BY PROGRAM, IN A SANDBOX (cutbox-door.mjs). By AI agents, Wed Nov 11 2026. No macro, syntax, notation, axiom, sorry.
-/
import Derived.Test.YtfffpemgfddehaaDoorRows
import GoSem.ClaimSeven
namespace Go.Proofs.YtfffpemgfddehaaDoor
namespace Rows

/-- THE TIED CARD OF 'punctuallaw.BodyChecks'. -/
def bodyChecksCard : Claim7 := { stood := { row := bodyChecksRow, standIns := [], harness := (true, "1aca2b78414a49db6c056c9783e89edacd19f700795001ade783d75b6fcb2093"), looks := false }, kinds := [], alts := [], laidByText := true, laidKinds := [.data, .data], laidTests := true, laidLooks := .later }
def BodyChecksCardSaid : Prop := Claim7.holds Tryd.pinned (.plain (OpenSpec.ofChange bodyChecksSpec)) bodyChecksCard

/-- THE SECOND FORM's CARD OF 'punctuallaw.BodyChecks'. -/
def bodyChecksUptoCard : Claim7 := { stood := { row := bodyChecksUptoRow, standIns := [], harness := (true, "1aca2b78414a49db6c056c9783e89edacd19f700795001ade783d75b6fcb2093"), looks := false }, kinds := [], alts := [], laidByText := true, laidKinds := [.data, .data], laidTests := true, laidLooks := .later }
def BodyChecksUptoCardSaid : Prop := Claim7.holds Tryd.pinned (.plain (OpenSpec.upto bodyChecksSpec)) bodyChecksUptoCard
end Rows
end Go.Proofs.YtfffpemgfddehaaDoor
