/-
  NARROWER THAN 'FOR EVERY INPUT', by the rows' own cells (each row's printed sentence says how): ModesPlays: laid · WindowsPlay: laid.
  DERIVED. THE GIVEN ROWS OF THIS SEAT. 2 by the template 'for every input the law returns true; each argument reads behind the call as it read before'; 0 by the template 'total and deterministic' (their statements: YtccoobcggbbciaiGreatDoorTotals.lean).
  GIVEN WITH THE SEED: the statements are not yours to turn. If you find one false, say at which input.
  Laid BY PROGRAM, IN A SANDBOX (cutbox-rows.mjs): the forced cells as the released guide's own fill.sh prints them over the translation 49a1359dcbffeb3d… (all of the seat's roots in one cut). By AI agents, Wed Nov 11 2026. No macro, syntax, notation, axiom, sorry.
-/
import Derived.Test.YtccoobcggbbciaiGreatDoorChecked
import GoSem.Claim
import GoSem.ClaimJoined
import GoSem.ClaimMapViews
import Derived.JoinedTies
import Derived.KernelRfl
namespace Go.Proofs.YtccoobcggbbciaiGreatDoor
/- THE CELL 'sum', in the pinned program and in every row, IS THE sha256 OF THE DUMP (.gsa) THAT YtccoobcggbbciaiGreatDoorProg.lean LOADS. Nothing in Lean hashes anything: it is a label: what it is worth is what the hold of that sum in a sandbox is worth. -/
noncomputable def Tryz.pinned : Pinned := { name := "ytccoobcggbbciaigreatdoor", sum := "49a1359dcbffeb3d57b402e8561b9b84d3ae390bb00599ca36dbecf93804919f", checked := Tryz.checked }
namespace Rows
def none {H : Type} : Left H := { results := [], args := [] }

/- WHAT THE LISTED PACKAGE-LEVEL VARIABLES READ AS WHEN THE CALL BEGINS. Each datum BY PROGRAM (the guide's laid-datum.mjs) off the statement by which the dump's own 'gosem.cut.vars' lays the variable. In a bare row this is a premise. The card (YtccoobcggbbciaiGreatDoorCards.lean) ties it to the program's text. -/
def laid_punctual_punctuallaw_noCrit {H : Type} : DataW H := .agg [.lit (.int .i64 (-9)), .lit (.int .i64 0), .lit (.int .i64 0), .lit (.int .i64 0), .lit (.bool false), .lit (.int .i64 0)]
def laid_punctual_punctuallaw_noCome {H : Type} : DataW H := .agg [.lit (.int .i64 (-9)), .lit (.int .i64 0)]
def laid_punctual_punctuallaw_noWindow {H : Type} : DataW H := .agg [.lit (.int .i64 (-9)), .lit (.int .i64 0)]
def laid_punctual_punctuallaw_noTask {H : Type} : DataW H := .agg [.lit (.string [63]), .lit (.int .i64 (-9)), .lit (.int .i64 0), .lit (.int .i64 0), .lit (.int .i64 0), .lit (.int .i64 0), .lit (.int .i64 0)]
def laid_punctual_punctuallaw_noJob {H : Type} : DataW H := .agg [.lit (.int .i64 (-9)), .lit (.int .i64 0), .lit (.int .i64 0), .lit (.int .i64 0), .lit (.int .i64 0)]

/-- 'punctuallaw.ModesPlays': WHATEVER THE INPUT: true; the input reads as it did. -/
def modesPlaysSpec : ChangeSpec := { name := "modesPlays", fn := fun _ => fun
  | [d1, d2, d3, d4] => { results := [.lit (.bool true)], args := [d1, d2, d3, d4] }
  | _ => none }
def modesPlaysRow : OpenClaim := { program := "ytccoobcggbbciaigreatdoor", sum := "49a1359dcbffeb3d57b402e8561b9b84d3ae390bb00599ca36dbecf93804919f", func := "punctual/punctuallaw.ModesPlays", spec := "modesPlays", inPlace := ["slices.overlaps[int]", "internal/reflectlite.ValueOf", "internal/reflectlite.Swapper", "(internal/reflectlite.Value).Len"], unfollowed := true, recurses := true, named := ["punctual/punctuallaw.noCrit", "punctual/punctuallaw.noCome"], apart := false, laid := [("punctual/punctuallaw.noCrit", laid_punctual_punctuallaw_noCrit), ("punctual/punctuallaw.noCome", laid_punctual_punctuallaw_noCome)] }
def ModesPlaysSaid : Prop := modesPlaysRow.holds Tryz.pinned (OpenSpec.ofChange modesPlaysSpec)

/-- ITS FALSE NEIGHBOUR: 'it returns false'. Refute it at one input. -/
def modesPlaysWrong : ChangeSpec := { name := "modesPlays", fn := fun _ => fun
  | [d1, d2, d3, d4] => { results := [.lit (.bool false)], args := [d1, d2, d3, d4] }
  | _ => none }
def ModesPlaysWrongFalsely : Prop := modesPlaysRow.holds Tryz.pinned (OpenSpec.ofChange modesPlaysWrong)

/-- 'punctuallaw.WindowsPlay': WHATEVER THE INPUT: true; the input reads as it did. -/
def windowsPlaySpec : ChangeSpec := { name := "windowsPlay", fn := fun _ => fun
  | [d1, d2, d3, d4, d5, d6] => { results := [.lit (.bool true)], args := [d1, d2, d3, d4, d5, d6] }
  | _ => none }
def windowsPlayRow : OpenClaim := { program := "ytccoobcggbbciaigreatdoor", sum := "49a1359dcbffeb3d57b402e8561b9b84d3ae390bb00599ca36dbecf93804919f", func := "punctual/punctuallaw.WindowsPlay", spec := "windowsPlay", inPlace := ["slices.overlaps[int]"], unfollowed := true, recurses := true, named := ["punctual/punctuallaw.noTask", "punctual/punctuallaw.noWindow", "punctual/punctuallaw.noJob"], apart := false, laid := [("punctual/punctuallaw.noWindow", laid_punctual_punctuallaw_noWindow), ("punctual/punctuallaw.noTask", laid_punctual_punctuallaw_noTask), ("punctual/punctuallaw.noJob", laid_punctual_punctuallaw_noJob)] }
def WindowsPlaySaid : Prop := windowsPlayRow.holds Tryz.pinned (OpenSpec.ofChange windowsPlaySpec)

/-- ITS FALSE NEIGHBOUR: 'it returns false'. Refute it at one input. -/
def windowsPlayWrong : ChangeSpec := { name := "windowsPlay", fn := fun _ => fun
  | [d1, d2, d3, d4, d5, d6] => { results := [.lit (.bool false)], args := [d1, d2, d3, d4, d5, d6] }
  | _ => none }
def WindowsPlayWrongFalsely : Prop := windowsPlayRow.holds Tryz.pinned (OpenSpec.ofChange windowsPlayWrong)

/- THE SECOND FORM. 'bulk': how many values and letters a reading holds, each counted each time it is reached (what is shared counts as often as it is met; a slice's spare places count too). A statement '..UptoSaid' is the law's where the arguments, and the package variables that the reading takes, are together of bulk at most 1048576: NARROWER than '..Said'. Prove '..Said' where nothing that the law and all that it calls make is longer than what came in: it says more and counts as full. Else prove '..UptoSaid'. A law counts once. -/
mutual
def uptoBulk {H : Type} : DataW H → Nat
  | .lit (.string bytes) => bytes.length + 1
  | .lit _ => 1
  | .nil => 1
  | .ptr d => uptoBulk d + 1
  | .slice elems spare => uptoBulkAll elems + uptoBulkAll spare + 1
  | .agg parts => uptoBulkAll parts + 1
  | .iface _ d => uptoBulk d + 1
  | .map entries => uptoBulkEntries entries + 1
  | .held _ => 1
def uptoBulkAll {H : Type} : List (DataW H) → Nat
  | [] => 0
  | d :: r => uptoBulk d + uptoBulkAll r
def uptoBulkEntries {H : Type} : List (Lit × DataW H) → Nat
  | [] => 0
  | x :: r => uptoBulkEntry x + uptoBulkEntries r
def uptoBulkEntry {H : Type} : Lit × DataW H → Nat
  | (.string bytes, d) => bytes.length + uptoBulk d + 1
  | (_, d) => uptoBulk d + 1
 end
def uptoSmall : (H : Type) → List (DataW H) → Bool := fun _ ds => decide (uptoBulkAll ds ≤ 1048576)
def OpenSpec.upto (s : _root_.Go.ChangeSpec) : _root_.Go.OpenSpec := { _root_.Go.OpenSpec.ofChange s with cond := some uptoSmall }

/-- 'punctuallaw.ModesPlays', WHERE WHAT IT READS IS OF BULK AT MOST 1048576: true; the input reads as it did. -/
def modesPlaysUptoRow : OpenClaim := { program := "ytccoobcggbbciaigreatdoor", sum := "49a1359dcbffeb3d57b402e8561b9b84d3ae390bb00599ca36dbecf93804919f", func := "punctual/punctuallaw.ModesPlays", spec := "modesPlays", inPlace := ["slices.overlaps[int]", "internal/reflectlite.ValueOf", "internal/reflectlite.Swapper", "(internal/reflectlite.Value).Len"], unfollowed := true, recurses := true, named := ["punctual/punctuallaw.noCrit", "punctual/punctuallaw.noCome"], apart := false, laid := [("punctual/punctuallaw.noCrit", laid_punctual_punctuallaw_noCrit), ("punctual/punctuallaw.noCome", laid_punctual_punctuallaw_noCome)], narrowed := true }
def ModesPlaysUptoSaid : Prop := modesPlaysUptoRow.holds Tryz.pinned (OpenSpec.upto modesPlaysSpec)

/-- 'punctuallaw.WindowsPlay', WHERE WHAT IT READS IS OF BULK AT MOST 1048576: true; the input reads as it did. -/
def windowsPlayUptoRow : OpenClaim := { program := "ytccoobcggbbciaigreatdoor", sum := "49a1359dcbffeb3d57b402e8561b9b84d3ae390bb00599ca36dbecf93804919f", func := "punctual/punctuallaw.WindowsPlay", spec := "windowsPlay", inPlace := ["slices.overlaps[int]"], unfollowed := true, recurses := true, named := ["punctual/punctuallaw.noTask", "punctual/punctuallaw.noWindow", "punctual/punctuallaw.noJob"], apart := false, laid := [("punctual/punctuallaw.noWindow", laid_punctual_punctuallaw_noWindow), ("punctual/punctuallaw.noTask", laid_punctual_punctuallaw_noTask), ("punctual/punctuallaw.noJob", laid_punctual_punctuallaw_noJob)], narrowed := true }
def WindowsPlayUptoSaid : Prop := windowsPlayUptoRow.holds Tryz.pinned (OpenSpec.upto windowsPlaySpec)

end Rows
end Go.Proofs.YtccoobcggbbciaiGreatDoor
