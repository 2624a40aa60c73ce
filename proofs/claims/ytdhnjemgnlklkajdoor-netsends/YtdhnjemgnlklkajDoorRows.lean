/-
  NARROWER THAN 'FOR EVERY INPUT', by the rows' own cells (each row's printed sentence says how): NetTimes: laid · NetSends: laid.
  DERIVED. THE GIVEN ROWS OF THIS SEAT. 2 by the template 'for every input the law returns true; each argument reads behind the call as it read before'; 0 by the template 'total and deterministic' (their statements: YtdhnjemgnlklkajDoorTotals.lean).
  GIVEN WITH THE SEED: the statements are not yours to turn. If you find one false, say at which input.
  Laid BY PROGRAM, IN A SANDBOX (cutbox-rows.mjs): the forced cells as the released guide's own fill.sh prints them over the translation 30ae9ab84763e974… (all of the seat's roots in one cut). By AI agents, Wed Nov 11 2026. No macro, syntax, notation, axiom, sorry.
-/
import Derived.Test.YtdhnjemgnlklkajDoorChecked
import GoSem.Claim
import GoSem.ClaimJoined
import GoSem.ClaimMapViews
import Derived.JoinedTies
import Derived.KernelRfl
namespace Go.Proofs.YtdhnjemgnlklkajDoor
/- THE CELL 'sum', in the pinned program and in every row, IS THE sha256 OF THE DUMP (.gsa) THAT YtdhnjemgnlklkajDoorProg.lean LOADS. Nothing in Lean hashes anything: it is a label: what it is worth is what the hold of that sum in a sandbox is worth. -/
noncomputable def Tryd.pinned : Pinned := { name := "ytdhnjemgnlklkajdoor", sum := "30ae9ab84763e9745da9fcf1c72479b143f167efb671d4f189300b1429ce61fe", checked := Tryd.checked }
namespace Rows
def none {H : Type} : Left H := { results := [], args := [] }

/- WHAT THE LISTED PACKAGE-LEVEL VARIABLES READ AS WHEN THE CALL BEGINS. Each datum BY PROGRAM (the guide's laid-datum.mjs) off the statement by which the dump's own 'gosem.cut.vars' lays the variable. In a bare row this is a premise. The card (YtdhnjemgnlklkajDoorCards.lean) ties it to the program's text. -/
def laid_punctual_punctuallaw_noFrame {H : Type} : DataW H := .agg [.lit (.int .i64 (-9)), .lit (.int .i64 0), .lit (.int .i64 0), .lit (.int .i64 0)]
def laid_punctual_punctuallaw_noCome {H : Type} : DataW H := .agg [.lit (.int .i64 (-9)), .lit (.int .i64 0)]

/-- 'punctuallaw.NetTimes': WHATEVER THE INPUT: true; the input reads as it did. -/
def netTimesSpec : ChangeSpec := { name := "netTimes", fn := fun _ => fun
  | [d] => { results := [.lit (.bool true)], args := [d] }
  | _ => none }
def netTimesRow : OpenClaim := { program := "ytdhnjemgnlklkajdoor", sum := "30ae9ab84763e9745da9fcf1c72479b143f167efb671d4f189300b1429ce61fe", func := "punctual/punctuallaw.NetTimes", spec := "netTimes", inPlace := ["slices.overlaps[int]"], unfollowed := true, recurses := true, named := ["punctual/punctuallaw.noFrame"], apart := false, laid := [("punctual/punctuallaw.noFrame", laid_punctual_punctuallaw_noFrame)] }
def NetTimesSaid : Prop := netTimesRow.holds Tryd.pinned (OpenSpec.ofChange netTimesSpec)

/-- ITS FALSE NEIGHBOUR: 'it returns false'. Refute it at one input. -/
def netTimesWrong : ChangeSpec := { name := "netTimes", fn := fun _ => fun
  | [d] => { results := [.lit (.bool false)], args := [d] }
  | _ => none }
def NetTimesWrongFalsely : Prop := netTimesRow.holds Tryd.pinned (OpenSpec.ofChange netTimesWrong)

/-- 'punctuallaw.NetSends': WHATEVER THE INPUT: true; the input reads as it did. -/
def netSendsSpec : ChangeSpec := { name := "netSends", fn := fun _ => fun
  | [d1, d2, d3, d4] => { results := [.lit (.bool true)], args := [d1, d2, d3, d4] }
  | _ => none }
def netSendsRow : OpenClaim := { program := "ytdhnjemgnlklkajdoor", sum := "30ae9ab84763e9745da9fcf1c72479b143f167efb671d4f189300b1429ce61fe", func := "punctual/punctuallaw.NetSends", spec := "netSends", inPlace := ["slices.overlaps[int]"], unfollowed := true, recurses := true, named := ["punctual/punctuallaw.noFrame", "punctual/punctuallaw.noCome"], apart := false, laid := [("punctual/punctuallaw.noFrame", laid_punctual_punctuallaw_noFrame), ("punctual/punctuallaw.noCome", laid_punctual_punctuallaw_noCome)] }
def NetSendsSaid : Prop := netSendsRow.holds Tryd.pinned (OpenSpec.ofChange netSendsSpec)

/-- ITS FALSE NEIGHBOUR: 'it returns false'. Refute it at one input. -/
def netSendsWrong : ChangeSpec := { name := "netSends", fn := fun _ => fun
  | [d1, d2, d3, d4] => { results := [.lit (.bool false)], args := [d1, d2, d3, d4] }
  | _ => none }
def NetSendsWrongFalsely : Prop := netSendsRow.holds Tryd.pinned (OpenSpec.ofChange netSendsWrong)

/- THE SECOND FORM. 'bulk': how many values and letters a reading holds, each counted each time it is reached (what is shared counts as often as it is met; a slice's spare places count too). A statement '..UptoSaid' is the law's where the arguments, and the package variables that the reading takes, are together of bulk at most 1048576: NARROWER than '..Said'. Prove '..Said' where nothing that the law and all that it calls make is longer than what came in: it says more and counts as full. Else prove '..UptoSaid'. A law counts once. -/
mutual
def uptoBulk {H : Type} : DataW H → Nat
  | .lit (.string bytes) => bytes.length + 1
  | .lit _ => 1
  | .nil => 1
  | .ptr d => uptoBulk d + 1
  | .slice elems spare => uptoBulkAll elems + uptoBulkAll spare + 1
  | .agg parts => uptoBulkAll parts + 1
  | .iface _ d => uptoBulk d + 1
  | .map entries => uptoBulkEntries entries + 1
  | .held _ => 1
def uptoBulkAll {H : Type} : List (DataW H) → Nat
  | [] => 0
  | d :: r => uptoBulk d + uptoBulkAll r
def uptoBulkEntries {H : Type} : List (Lit × DataW H) → Nat
  | [] => 0
  | x :: r => uptoBulkEntry x + uptoBulkEntries r
def uptoBulkEntry {H : Type} : Lit × DataW H → Nat
  | (.string bytes, d) => bytes.length + uptoBulk d + 1
  | (_, d) => uptoBulk d + 1
 end
def uptoSmall : (H : Type) → List (DataW H) → Bool := fun _ ds => decide (uptoBulkAll ds ≤ 1048576)
def OpenSpec.upto (s : _root_.Go.ChangeSpec) : _root_.Go.OpenSpec := { _root_.Go.OpenSpec.ofChange s with cond := some uptoSmall }

/-- 'punctuallaw.NetTimes', WHERE WHAT IT READS IS OF BULK AT MOST 1048576: true; the input reads as it did. -/
def netTimesUptoRow : OpenClaim := { program := "ytdhnjemgnlklkajdoor", sum := "30ae9ab84763e9745da9fcf1c72479b143f167efb671d4f189300b1429ce61fe", func := "punctual/punctuallaw.NetTimes", spec := "netTimes", inPlace := ["slices.overlaps[int]"], unfollowed := true, recurses := true, named := ["punctual/punctuallaw.noFrame"], apart := false, laid := [("punctual/punctuallaw.noFrame", laid_punctual_punctuallaw_noFrame)], narrowed := true }
def NetTimesUptoSaid : Prop := netTimesUptoRow.holds Tryd.pinned (OpenSpec.upto netTimesSpec)

/-- 'punctuallaw.NetSends', WHERE WHAT IT READS IS OF BULK AT MOST 1048576: true; the input reads as it did. -/
def netSendsUptoRow : OpenClaim := { program := "ytdhnjemgnlklkajdoor", sum := "30ae9ab84763e9745da9fcf1c72479b143f167efb671d4f189300b1429ce61fe", func := "punctual/punctuallaw.NetSends", spec := "netSends", inPlace := ["slices.overlaps[int]"], unfollowed := true, recurses := true, named := ["punctual/punctuallaw.noFrame", "punctual/punctuallaw.noCome"], apart := false, laid := [("punctual/punctuallaw.noFrame", laid_punctual_punctuallaw_noFrame), ("punctual/punctuallaw.noCome", laid_punctual_punctuallaw_noCome)], narrowed := true }
def NetSendsUptoSaid : Prop := netSendsUptoRow.holds Tryd.pinned (OpenSpec.upto netSendsSpec)

end Rows
end Go.Proofs.YtdhnjemgnlklkajDoor
