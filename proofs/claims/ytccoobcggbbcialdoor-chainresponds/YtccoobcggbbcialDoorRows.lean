/-
  NARROWER THAN 'FOR EVERY INPUT', by the rows' own cells (each row's printed sentence says how): RedoResponds: laid · RedoPlays: laid · ChainResponds: laid.
  DERIVED. THE GIVEN ROWS OF THIS SEAT. 3 by the template 'for every input the law returns true; each argument reads behind the call as it read before'; 0 by the template 'total and deterministic' (their statements: YtccoobcggbbcialDoorTotals.lean).
  GIVEN WITH THE SEED: the statements are not yours to turn. If you find one false, say at which input.
  Laid BY PROGRAM, IN A SANDBOX (cutbox-rows.mjs): the forced cells as the released guide's own fill.sh prints them over the translation 7c5ea677ba234a2b… (all of the seat's roots in one cut). By AI agents, Wed Nov 11 2026. No macro, syntax, notation, axiom, sorry.
-/
import Derived.Test.YtccoobcggbbcialDoorChecked
import GoSem.Claim
import GoSem.ClaimJoined
import GoSem.ClaimMapViews
import Derived.JoinedTies
import Derived.KernelRfl
namespace Go.Proofs.YtccoobcggbbcialDoor
/- THE CELL 'sum', in the pinned program and in every row, IS THE sha256 OF THE DUMP (.gsa) THAT YtccoobcggbbcialDoorProg.lean LOADS. Nothing in Lean hashes anything: it is a label: what it is worth is what the hold of that sum in a sandbox is worth. -/
noncomputable def Tryd.pinned : Pinned := { name := "ytccoobcggbbcialdoor", sum := "7c5ea677ba234a2b16541c8a7025a5e1e392bdc630ac908062b69d3b7dcf355e", checked := Tryd.checked }
namespace Rows
def none {H : Type} : Left H := { results := [], args := [] }

/- WHAT THE LISTED PACKAGE-LEVEL VARIABLES READ AS WHEN THE CALL BEGINS. Each datum BY PROGRAM (the guide's laid-datum.mjs) off the statement by which the dump's own 'gosem.cut.vars' lays the variable. In a bare row this is a premise. The card (YtccoobcggbbcialDoorCards.lean) ties it to the program's text. -/
def laid_punctual_punctuallaw_noTask {H : Type} : DataW H := .agg [.lit (.string [63]), .lit (.int .i64 (-9)), .lit (.int .i64 0), .lit (.int .i64 0), .lit (.int .i64 0), .lit (.int .i64 0), .lit (.int .i64 0)]
def laid_punctual_punctuallaw_noJob {H : Type} : DataW H := .agg [.lit (.int .i64 (-9)), .lit (.int .i64 0), .lit (.int .i64 0), .lit (.int .i64 0), .lit (.int .i64 0)]
def laid_punctual_punctuallaw_noPart {H : Type} : DataW H := .agg [.lit (.int .i64 0), .lit (.int .i64 0), .lit (.int .i64 0), .lit (.int .i64 (-9)), .lit (.int .i64 0), .lit (.int .i64 0), .lit (.int .i64 0)]

/-- 'punctuallaw.RedoResponds': WHATEVER THE INPUT: true; the input reads as it did. -/
def redoRespondsSpec : ChangeSpec := { name := "redoResponds", fn := fun _ => fun
  | [d1, d2, d3, d4] => { results := [.lit (.bool true)], args := [d1, d2, d3, d4] }
  | _ => none }
def redoRespondsRow : OpenClaim := { program := "ytccoobcggbbcialdoor", sum := "7c5ea677ba234a2b16541c8a7025a5e1e392bdc630ac908062b69d3b7dcf355e", func := "punctual/punctuallaw.RedoResponds", spec := "redoResponds", inPlace := ["slices.overlaps[int]"], unfollowed := true, recurses := true, named := ["punctual/punctuallaw.noTask"], apart := false, laid := [("punctual/punctuallaw.noTask", laid_punctual_punctuallaw_noTask)] }
def RedoRespondsSaid : Prop := redoRespondsRow.holds Tryd.pinned (OpenSpec.ofChange redoRespondsSpec)

/-- ITS FALSE NEIGHBOUR: 'it returns false'. Refute it at one input. -/
def redoRespondsWrong : ChangeSpec := { name := "redoResponds", fn := fun _ => fun
  | [d1, d2, d3, d4] => { results := [.lit (.bool false)], args := [d1, d2, d3, d4] }
  | _ => none }
def RedoRespondsWrongFalsely : Prop := redoRespondsRow.holds Tryd.pinned (OpenSpec.ofChange redoRespondsWrong)

/-- 'punctuallaw.RedoPlays': WHATEVER THE INPUT: true; the input reads as it did. -/
def redoPlaysSpec : ChangeSpec := { name := "redoPlays", fn := fun _ => fun
  | [d1, d2, d3, d4] => { results := [.lit (.bool true)], args := [d1, d2, d3, d4] }
  | _ => none }
def redoPlaysRow : OpenClaim := { program := "ytccoobcggbbcialdoor", sum := "7c5ea677ba234a2b16541c8a7025a5e1e392bdc630ac908062b69d3b7dcf355e", func := "punctual/punctuallaw.RedoPlays", spec := "redoPlays", inPlace := ["slices.overlaps[int]"], unfollowed := true, recurses := true, named := ["punctual/punctuallaw.noJob"], apart := false, laid := [("punctual/punctuallaw.noJob", laid_punctual_punctuallaw_noJob)] }
def RedoPlaysSaid : Prop := redoPlaysRow.holds Tryd.pinned (OpenSpec.ofChange redoPlaysSpec)

/-- ITS FALSE NEIGHBOUR: 'it returns false'. Refute it at one input. -/
def redoPlaysWrong : ChangeSpec := { name := "redoPlays", fn := fun _ => fun
  | [d1, d2, d3, d4] => { results := [.lit (.bool false)], args := [d1, d2, d3, d4] }
  | _ => none }
def RedoPlaysWrongFalsely : Prop := redoPlaysRow.holds Tryd.pinned (OpenSpec.ofChange redoPlaysWrong)

/-- 'punctuallaw.ChainResponds': WHATEVER THE INPUT: true; the input reads as it did. -/
def chainRespondsSpec : ChangeSpec := { name := "chainResponds", fn := fun _ => fun
  | [d1, d2] => { results := [.lit (.bool true)], args := [d1, d2] }
  | _ => none }
def chainRespondsRow : OpenClaim := { program := "ytccoobcggbbcialdoor", sum := "7c5ea677ba234a2b16541c8a7025a5e1e392bdc630ac908062b69d3b7dcf355e", func := "punctual/punctuallaw.ChainResponds", spec := "chainResponds", unfollowed := true, recurses := true, named := ["punctual/punctuallaw.noPart"], apart := false, laid := [("punctual/punctuallaw.noPart", laid_punctual_punctuallaw_noPart)] }
def ChainRespondsSaid : Prop := chainRespondsRow.holds Tryd.pinned (OpenSpec.ofChange chainRespondsSpec)

/-- ITS FALSE NEIGHBOUR: 'it returns false'. Refute it at one input. -/
def chainRespondsWrong : ChangeSpec := { name := "chainResponds", fn := fun _ => fun
  | [d1, d2] => { results := [.lit (.bool false)], args := [d1, d2] }
  | _ => none }
def ChainRespondsWrongFalsely : Prop := chainRespondsRow.holds Tryd.pinned (OpenSpec.ofChange chainRespondsWrong)

/- THE SECOND FORM. 'bulk': how many values and letters a reading holds, each counted each time it is reached (what is shared counts as often as it is met; a slice's spare places count too). A statement '..UptoSaid' is the law's where the arguments, and the package variables that the reading takes, are together of bulk at most 1048576: NARROWER than '..Said'. Prove '..Said' where nothing that the law and all that it calls make is longer than what came in: it says more and counts as full. Else prove '..UptoSaid'. A law counts once. -/
mutual
def uptoBulk {H : Type} : DataW H → Nat
  | .lit (.string bytes) => bytes.length + 1
  | .lit _ => 1
  | .nil => 1
  | .ptr d => uptoBulk d + 1
  | .slice elems spare => uptoBulkAll elems + uptoBulkAll spare + 1
  | .agg parts => uptoBulkAll parts + 1
  | .iface _ d => uptoBulk d + 1
  | .map entries => uptoBulkEntries entries + 1
  | .held _ => 1
def uptoBulkAll {H : Type} : List (DataW H) → Nat
  | [] => 0
  | d :: r => uptoBulk d + uptoBulkAll r
def uptoBulkEntries {H : Type} : List (Lit × DataW H) → Nat
  | [] => 0
  | x :: r => uptoBulkEntry x + uptoBulkEntries r
def uptoBulkEntry {H : Type} : Lit × DataW H → Nat
  | (.string bytes, d) => bytes.length + uptoBulk d + 1
  | (_, d) => uptoBulk d + 1
 end
def uptoSmall : (H : Type) → List (DataW H) → Bool := fun _ ds => decide (uptoBulkAll ds ≤ 1048576)
def OpenSpec.upto (s : _root_.Go.ChangeSpec) : _root_.Go.OpenSpec := { _root_.Go.OpenSpec.ofChange s with cond := some uptoSmall }

/-- 'punctuallaw.RedoResponds', WHERE WHAT IT READS IS OF BULK AT MOST 1048576: true; the input reads as it did. -/
def redoRespondsUptoRow : OpenClaim := { program := "ytccoobcggbbcialdoor", sum := "7c5ea677ba234a2b16541c8a7025a5e1e392bdc630ac908062b69d3b7dcf355e", func := "punctual/punctuallaw.RedoResponds", spec := "redoResponds", inPlace := ["slices.overlaps[int]"], unfollowed := true, recurses := true, named := ["punctual/punctuallaw.noTask"], apart := false, laid := [("punctual/punctuallaw.noTask", laid_punctual_punctuallaw_noTask)], narrowed := true }
def RedoRespondsUptoSaid : Prop := redoRespondsUptoRow.holds Tryd.pinned (OpenSpec.upto redoRespondsSpec)

/-- 'punctuallaw.RedoPlays', WHERE WHAT IT READS IS OF BULK AT MOST 1048576: true; the input reads as it did. -/
def redoPlaysUptoRow : OpenClaim := { program := "ytccoobcggbbcialdoor", sum := "7c5ea677ba234a2b16541c8a7025a5e1e392bdc630ac908062b69d3b7dcf355e", func := "punctual/punctuallaw.RedoPlays", spec := "redoPlays", inPlace := ["slices.overlaps[int]"], unfollowed := true, recurses := true, named := ["punctual/punctuallaw.noJob"], apart := false, laid := [("punctual/punctuallaw.noJob", laid_punctual_punctuallaw_noJob)], narrowed := true }
def RedoPlaysUptoSaid : Prop := redoPlaysUptoRow.holds Tryd.pinned (OpenSpec.upto redoPlaysSpec)

/-- 'punctuallaw.ChainResponds', WHERE WHAT IT READS IS OF BULK AT MOST 1048576: true; the input reads as it did. -/
def chainRespondsUptoRow : OpenClaim := { program := "ytccoobcggbbcialdoor", sum := "7c5ea677ba234a2b16541c8a7025a5e1e392bdc630ac908062b69d3b7dcf355e", func := "punctual/punctuallaw.ChainResponds", spec := "chainResponds", unfollowed := true, recurses := true, named := ["punctual/punctuallaw.noPart"], apart := false, laid := [("punctual/punctuallaw.noPart", laid_punctual_punctuallaw_noPart)], narrowed := true }
def ChainRespondsUptoSaid : Prop := chainRespondsUptoRow.holds Tryd.pinned (OpenSpec.upto chainRespondsSpec)

end Rows
end Go.Proofs.YtccoobcggbbcialDoor
