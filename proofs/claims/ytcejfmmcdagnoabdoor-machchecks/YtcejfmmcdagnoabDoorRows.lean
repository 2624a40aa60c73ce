/-
  NARROWER THAN 'FOR EVERY INPUT', by the rows' own cells (each row's printed sentence says how): MeaningRuns: loops, laid · MeaningJoins: loops, laid · MachChecks: laid.
  DERIVED. THE GIVEN ROWS OF THIS SEAT. 3 by the template 'for every input the law returns true; each argument reads behind the call as it read before'; 0 by the template 'total and deterministic' (their statements: YtcejfmmcdagnoabDoorTotals.lean).
  GIVEN WITH THE SEED: the statements are not yours to turn. If you find one false, say at which input.
  Laid BY PROGRAM, IN A SANDBOX (cutbox-rows.mjs): the forced cells as the released guide's own fill.sh prints them over the translation 0f436fd86053d03c… (all of the seat's roots in one cut). By AI agents, Wed Nov 11 2026. No macro, syntax, notation, axiom, sorry.
-/
import Derived.Test.YtcejfmmcdagnoabDoorChecked
import GoSem.Claim
import GoSem.ClaimJoined
import GoSem.ClaimMapViews
import Derived.JoinedTies
import Derived.KernelRfl
namespace Go.Proofs.YtcejfmmcdagnoabDoor
/- THE CELL 'sum', in the pinned program and in every row, IS THE sha256 OF THE DUMP (.gsa) THAT YtcejfmmcdagnoabDoorProg.lean LOADS. Nothing in Lean hashes anything: it is a label: what it is worth is what the hold of that sum in a sandbox is worth. -/
noncomputable def Tryd.pinned : Pinned := { name := "ytcejfmmcdagnoabdoor", sum := "0f436fd86053d03cccd0e5a906b9f22b1a07a12e74387e685ec00b75ab41143e", checked := Tryd.checked }
namespace Rows
def none {H : Type} : Left H := { results := [], args := [] }

/- WHAT THE LISTED PACKAGE-LEVEL VARIABLES READ AS WHEN THE CALL BEGINS. Each datum BY PROGRAM (the guide's laid-datum.mjs) off the statement by which the dump's own 'gosem.cut.vars' lays the variable. In a bare row this is a premise. The card (YtcejfmmcdagnoabDoorCards.lean) ties it to the program's text. -/
def laid_punctual_tongue_shapes {H : Type} : DataW H := .agg [.agg [.lit (.int .i64 0), .lit (.int .i64 0), .lit (.bool false), .lit (.bool false), .lit (.bool false), .lit (.bool false)], .agg [.lit (.int .i64 0), .lit (.int .i64 7), .lit (.bool true), .lit (.bool false), .lit (.bool false), .lit (.bool false)], .agg [.lit (.int .i64 0), .lit (.int .i64 3), .lit (.bool true), .lit (.bool false), .lit (.bool false), .lit (.bool false)], .agg [.lit (.int .i64 0), .lit (.int .i64 0), .lit (.bool false), .lit (.bool true), .lit (.bool true), .lit (.bool true)], .agg [.lit (.int .i64 0), .lit (.int .i64 1000), .lit (.bool false), .lit (.bool false), .lit (.bool true), .lit (.bool false)], .agg [.lit (.int .i64 0), .lit (.int .i64 1000), .lit (.bool false), .lit (.bool true), .lit (.bool true), .lit (.bool false)], .agg [.lit (.int .i64 0), .lit (.int .i64 3), .lit (.bool false), .lit (.bool false), .lit (.bool true), .lit (.bool false)], .agg [.lit (.int .i64 1), .lit (.int .i64 1000), .lit (.bool false), .lit (.bool false), .lit (.bool false), .lit (.bool false)]]
def laid_punctual_tongue_forms {H : Type} : DataW H := .agg [.agg [.lit (.int .i64 0), .lit (.int .i64 0)], .agg [.lit (.int .i64 999999999), .lit (.int .i64 0)], .agg [.lit (.int .i64 7), .lit (.int .i64 0)], .agg [.lit (.int .i64 3), .lit (.int .i64 0)], .agg [.lit (.int .i64 0), .lit (.int .i64 1)], .agg [.lit (.int .i64 0), .lit (.int .i64 2)], .agg [.lit (.int .i64 0), .lit (.int .i64 2)], .agg [.lit (.int .i64 0), .lit (.int .i64 2)]]
def laid_punctual_mach_kinds {H : Type} : DataW H := .agg [.agg [.lit (.int .i64 0), .lit (.int .i64 0), .lit (.int .i64 0), .lit (.int .i64 0), .lit (.int .i64 0), .lit (.int .i64 0)], .agg [.lit (.int .i64 0), .lit (.int .i64 999999999), .lit (.int .i64 0), .lit (.int .i64 0), .lit (.int .i64 1), .lit (.int .i64 1)], .agg [.lit (.int .i64 0), .lit (.int .i64 7), .lit (.int .i64 0), .lit (.int .i64 0), .lit (.int .i64 1), .lit (.int .i64 1)], .agg [.lit (.int .i64 0), .lit (.int .i64 7), .lit (.int .i64 0), .lit (.int .i64 1), .lit (.int .i64 0), .lit (.int .i64 1)], .agg [.lit (.int .i64 0), .lit (.int .i64 0), .lit (.int .i64 0), .lit (.int .i64 2), .lit (.int .i64 1), .lit (.int .i64 1)], .agg [.lit (.int .i64 0), .lit (.int .i64 0), .lit (.int .i64 0), .lit (.int .i64 2), .lit (.int .i64 1), .lit (.int .i64 1)], .agg [.lit (.int .i64 0), .lit (.int .i64 0), .lit (.int .i64 0), .lit (.int .i64 2), .lit (.int .i64 1), .lit (.int .i64 3)], .agg [.lit (.int .i64 0), .lit (.int .i64 0), .lit (.int .i64 0), .lit (.int .i64 2), .lit (.int .i64 1), .lit (.int .i64 1)], .agg [.lit (.int .i64 0), .lit (.int .i64 0), .lit (.int .i64 0), .lit (.int .i64 2), .lit (.int .i64 1), .lit (.int .i64 1)], .agg [.lit (.int .i64 0), .lit (.int .i64 3), .lit (.int .i64 0), .lit (.int .i64 0), .lit (.int .i64 1), .lit (.int .i64 2)], .agg [.lit (.int .i64 0), .lit (.int .i64 3), .lit (.int .i64 0), .lit (.int .i64 1), .lit (.int .i64 0), .lit (.int .i64 2)], .agg [.lit (.int .i64 0), .lit (.int .i64 2000), .lit (.int .i64 0), .lit (.int .i64 0), .lit (.int .i64 0), .lit (.int .i64 2)], .agg [.lit (.int .i64 0), .lit (.int .i64 2000), .lit (.int .i64 0), .lit (.int .i64 1), .lit (.int .i64 0), .lit (.int .i64 1)], .agg [.lit (.int .i64 0), .lit (.int .i64 7), .lit (.int .i64 1000), .lit (.int .i64 0), .lit (.int .i64 0), .lit (.int .i64 1)], .agg [.lit (.int .i64 0), .lit (.int .i64 7), .lit (.int .i64 2000), .lit (.int .i64 0), .lit (.int .i64 0), .lit (.int .i64 1)], .agg [.lit (.int .i64 0), .lit (.int .i64 7), .lit (.int .i64 0), .lit (.int .i64 0), .lit (.int .i64 0), .lit (.int .i64 1)], .agg [.lit (.int .i64 0), .lit (.int .i64 3), .lit (.int .i64 0), .lit (.int .i64 0), .lit (.int .i64 0), .lit (.int .i64 1)], .agg [.lit (.int .i64 0), .lit (.int .i64 3), .lit (.int .i64 0), .lit (.int .i64 0), .lit (.int .i64 0), .lit (.int .i64 1)], .agg [.lit (.int .i64 1), .lit (.int .i64 1000), .lit (.int .i64 0), .lit (.int .i64 0), .lit (.int .i64 0), .lit (.int .i64 0)]]
def laid_punctual_punctuallaw_noIns {H : Type} : DataW H := .agg [.lit (.int .i64 (-1)), .lit (.int .i64 (-2)), .lit (.int .i64 (-3))]

/-- 'punctuallaw.MeaningRuns': WHATEVER THE INPUT: true; the input reads as it did. -/
def meaningRunsSpec : ChangeSpec := { name := "meaningRuns", fn := fun _ => fun
  | [d1, d2, d3] => { results := [.lit (.bool true)], args := [d1, d2, d3] }
  | _ => none }
def meaningRunsRow : OpenClaim := { program := "ytcejfmmcdagnoabdoor", sum := "0f436fd86053d03cccd0e5a906b9f22b1a07a12e74387e685ec00b75ab41143e", func := "punctual/punctuallaw.MeaningRuns", spec := "meaningRuns", unfollowed := true, recurses := true, named := ["punctual/tongue.shapes", "punctual/tongue.forms"], loops := true, apart := false, laid := [("punctual/tongue.shapes", laid_punctual_tongue_shapes), ("punctual/tongue.forms", laid_punctual_tongue_forms)] }
def MeaningRunsSaid : Prop := meaningRunsRow.holds Tryd.pinned (OpenSpec.ofChange meaningRunsSpec)

/-- ITS FALSE NEIGHBOUR: 'it returns false'. Refute it at one input. -/
def meaningRunsWrong : ChangeSpec := { name := "meaningRuns", fn := fun _ => fun
  | [d1, d2, d3] => { results := [.lit (.bool false)], args := [d1, d2, d3] }
  | _ => none }
def MeaningRunsWrongFalsely : Prop := meaningRunsRow.holds Tryd.pinned (OpenSpec.ofChange meaningRunsWrong)

/-- 'punctuallaw.MeaningJoins': WHATEVER THE INPUT: true; the input reads as it did. -/
def meaningJoinsSpec : ChangeSpec := { name := "meaningJoins", fn := fun _ => fun
  | [d1, d2, d3, d4] => { results := [.lit (.bool true)], args := [d1, d2, d3, d4] }
  | _ => none }
def meaningJoinsRow : OpenClaim := { program := "ytcejfmmcdagnoabdoor", sum := "0f436fd86053d03cccd0e5a906b9f22b1a07a12e74387e685ec00b75ab41143e", func := "punctual/punctuallaw.MeaningJoins", spec := "meaningJoins", unfollowed := true, recurses := true, named := ["punctual/tongue.shapes", "punctual/tongue.forms"], loops := true, apart := false, laid := [("punctual/tongue.shapes", laid_punctual_tongue_shapes), ("punctual/tongue.forms", laid_punctual_tongue_forms)] }
def MeaningJoinsSaid : Prop := meaningJoinsRow.holds Tryd.pinned (OpenSpec.ofChange meaningJoinsSpec)

/-- ITS FALSE NEIGHBOUR: 'it returns false'. Refute it at one input. -/
def meaningJoinsWrong : ChangeSpec := { name := "meaningJoins", fn := fun _ => fun
  | [d1, d2, d3, d4] => { results := [.lit (.bool false)], args := [d1, d2, d3, d4] }
  | _ => none }
def MeaningJoinsWrongFalsely : Prop := meaningJoinsRow.holds Tryd.pinned (OpenSpec.ofChange meaningJoinsWrong)

/-- 'punctuallaw.MachChecks': WHATEVER THE INPUT: true; the input reads as it did. -/
def machChecksSpec : ChangeSpec := { name := "machChecks", fn := fun _ => fun
  | [d] => { results := [.lit (.bool true)], args := [d] }
  | _ => none }
def machChecksRow : OpenClaim := { program := "ytcejfmmcdagnoabdoor", sum := "0f436fd86053d03cccd0e5a906b9f22b1a07a12e74387e685ec00b75ab41143e", func := "punctual/punctuallaw.MachChecks", spec := "machChecks", unfollowed := true, recurses := true, named := ["punctual/punctuallaw.noIns", "punctual/mach.kinds"], apart := false, laid := [("punctual/mach.kinds", laid_punctual_mach_kinds), ("punctual/punctuallaw.noIns", laid_punctual_punctuallaw_noIns)] }
def MachChecksSaid : Prop := machChecksRow.holds Tryd.pinned (OpenSpec.ofChange machChecksSpec)

/-- ITS FALSE NEIGHBOUR: 'it returns false'. Refute it at one input. -/
def machChecksWrong : ChangeSpec := { name := "machChecks", fn := fun _ => fun
  | [d] => { results := [.lit (.bool false)], args := [d] }
  | _ => none }
def MachChecksWrongFalsely : Prop := machChecksRow.holds Tryd.pinned (OpenSpec.ofChange machChecksWrong)

/- THE SECOND FORM. 'bulk': how many values and letters a reading holds, each counted each time it is reached (what is shared counts as often as it is met; a slice's spare places count too). A statement '..UptoSaid' is the law's where the arguments, and the package variables that the reading takes, are together of bulk at most 1048576: NARROWER than '..Said'. Prove '..Said' where nothing that the law and all that it calls make is longer than what came in: it says more and counts as full. Else prove '..UptoSaid'. A law counts once. -/
mutual
def uptoBulk {H : Type} : DataW H → Nat
  | .lit (.string bytes) => bytes.length + 1
  | .lit _ => 1
  | .nil => 1
  | .ptr d => uptoBulk d + 1
  | .slice elems spare => uptoBulkAll elems + uptoBulkAll spare + 1
  | .agg parts => uptoBulkAll parts + 1
  | .iface _ d => uptoBulk d + 1
  | .map entries => uptoBulkEntries entries + 1
  | .held _ => 1
def uptoBulkAll {H : Type} : List (DataW H) → Nat
  | [] => 0
  | d :: r => uptoBulk d + uptoBulkAll r
def uptoBulkEntries {H : Type} : List (Lit × DataW H) → Nat
  | [] => 0
  | x :: r => uptoBulkEntry x + uptoBulkEntries r
def uptoBulkEntry {H : Type} : Lit × DataW H → Nat
  | (.string bytes, d) => bytes.length + uptoBulk d + 1
  | (_, d) => uptoBulk d + 1
 end
def uptoSmall : (H : Type) → List (DataW H) → Bool := fun _ ds => decide (uptoBulkAll ds ≤ 1048576)
def OpenSpec.upto (s : _root_.Go.ChangeSpec) : _root_.Go.OpenSpec := { _root_.Go.OpenSpec.ofChange s with cond := some uptoSmall }

/-- 'punctuallaw.MeaningRuns', WHERE WHAT IT READS IS OF BULK AT MOST 1048576: true; the input reads as it did. -/
def meaningRunsUptoRow : OpenClaim := { program := "ytcejfmmcdagnoabdoor", sum := "0f436fd86053d03cccd0e5a906b9f22b1a07a12e74387e685ec00b75ab41143e", func := "punctual/punctuallaw.MeaningRuns", spec := "meaningRuns", unfollowed := true, recurses := true, named := ["punctual/tongue.shapes", "punctual/tongue.forms"], loops := true, apart := false, laid := [("punctual/tongue.shapes", laid_punctual_tongue_shapes), ("punctual/tongue.forms", laid_punctual_tongue_forms)], narrowed := true }
def MeaningRunsUptoSaid : Prop := meaningRunsUptoRow.holds Tryd.pinned (OpenSpec.upto meaningRunsSpec)

/-- 'punctuallaw.MeaningJoins', WHERE WHAT IT READS IS OF BULK AT MOST 1048576: true; the input reads as it did. -/
def meaningJoinsUptoRow : OpenClaim := { program := "ytcejfmmcdagnoabdoor", sum := "0f436fd86053d03cccd0e5a906b9f22b1a07a12e74387e685ec00b75ab41143e", func := "punctual/punctuallaw.MeaningJoins", spec := "meaningJoins", unfollowed := true, recurses := true, named := ["punctual/tongue.shapes", "punctual/tongue.forms"], loops := true, apart := false, laid := [("punctual/tongue.shapes", laid_punctual_tongue_shapes), ("punctual/tongue.forms", laid_punctual_tongue_forms)], narrowed := true }
def MeaningJoinsUptoSaid : Prop := meaningJoinsUptoRow.holds Tryd.pinned (OpenSpec.upto meaningJoinsSpec)

/-- 'punctuallaw.MachChecks', WHERE WHAT IT READS IS OF BULK AT MOST 1048576: true; the input reads as it did. -/
def machChecksUptoRow : OpenClaim := { program := "ytcejfmmcdagnoabdoor", sum := "0f436fd86053d03cccd0e5a906b9f22b1a07a12e74387e685ec00b75ab41143e", func := "punctual/punctuallaw.MachChecks", spec := "machChecks", unfollowed := true, recurses := true, named := ["punctual/punctuallaw.noIns", "punctual/mach.kinds"], apart := false, laid := [("punctual/mach.kinds", laid_punctual_mach_kinds), ("punctual/punctuallaw.noIns", laid_punctual_punctuallaw_noIns)], narrowed := true }
def MachChecksUptoSaid : Prop := machChecksUptoRow.holds Tryd.pinned (OpenSpec.upto machChecksSpec)

end Rows
end Go.Proofs.YtcejfmmcdagnoabDoor
