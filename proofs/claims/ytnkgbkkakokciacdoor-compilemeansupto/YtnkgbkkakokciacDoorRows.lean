/-
  NARROWER THAN 'FOR EVERY INPUT', by the rows' own cells (each row's printed sentence says how): MachRuns: laid · MachTicks: laid · MachCosts: laid · CompileMakes: loops, laid · CompileMeans: loops, laid · WcetTells: laid.
  DERIVED. THE GIVEN ROWS OF THIS SEAT. 6 by the template 'for every input the law returns true; each argument reads behind the call as it read before'; 0 by the template 'total and deterministic' (their statements: YtnkgbkkakokciacDoorTotals.lean).
  GIVEN WITH THE SEED: the statements are not yours to turn. If you find one false, say at which input.
  Laid BY PROGRAM, IN A SANDBOX (cutbox-rows.mjs): the forced cells as the released guide's own fill.sh prints them over the translation e8a484db56b588ed… (all of the seat's roots in one cut). By AI agents, Wed Nov 11 2026. No macro, syntax, notation, axiom, sorry.
-/
import Derived.Test.YtnkgbkkakokciacDoorChecked
import GoSem.Claim
import GoSem.ClaimJoined
import GoSem.ClaimMapViews
import Derived.JoinedTies
import Derived.KernelRfl
namespace Go.Proofs.YtnkgbkkakokciacDoor
/- THE CELL 'sum', in the pinned program and in every row, IS THE sha256 OF THE DUMP (.gsa) THAT YtnkgbkkakokciacDoorProg.lean LOADS. Nothing in Lean hashes anything: it is a label: what it is worth is what the hold of that sum in a sandbox is worth. -/
noncomputable def Tryd.pinned : Pinned := { name := "ytnkgbkkakokciacdoor", sum := "e8a484db56b588edcf89f11cd19933a07e2d713268520d4f22a3a4afa1d4002d", checked := Tryd.checked }
namespace Rows
def none {H : Type} : Left H := { results := [], args := [] }

/- WHAT THE LISTED PACKAGE-LEVEL VARIABLES READ AS WHEN THE CALL BEGINS. Each datum BY PROGRAM (the guide's laid-datum.mjs) off the statement by which the dump's own 'gosem.cut.vars' lays the variable. In a bare row this is a premise. The card (YtnkgbkkakokciacDoorCards.lean) ties it to the program's text. -/
def laid_punctual_mach_kinds {H : Type} : DataW H := .agg [.agg [.lit (.int .i64 0), .lit (.int .i64 0), .lit (.int .i64 0), .lit (.int .i64 0), .lit (.int .i64 0), .lit (.int .i64 0)], .agg [.lit (.int .i64 0), .lit (.int .i64 999999999), .lit (.int .i64 0), .lit (.int .i64 0), .lit (.int .i64 1), .lit (.int .i64 1)], .agg [.lit (.int .i64 0), .lit (.int .i64 7), .lit (.int .i64 0), .lit (.int .i64 0), .lit (.int .i64 1), .lit (.int .i64 1)], .agg [.lit (.int .i64 0), .lit (.int .i64 7), .lit (.int .i64 0), .lit (.int .i64 1), .lit (.int .i64 0), .lit (.int .i64 1)], .agg [.lit (.int .i64 0), .lit (.int .i64 0), .lit (.int .i64 0), .lit (.int .i64 2), .lit (.int .i64 1), .lit (.int .i64 1)], .agg [.lit (.int .i64 0), .lit (.int .i64 0), .lit (.int .i64 0), .lit (.int .i64 2), .lit (.int .i64 1), .lit (.int .i64 1)], .agg [.lit (.int .i64 0), .lit (.int .i64 0), .lit (.int .i64 0), .lit (.int .i64 2), .lit (.int .i64 1), .lit (.int .i64 3)], .agg [.lit (.int .i64 0), .lit (.int .i64 0), .lit (.int .i64 0), .lit (.int .i64 2), .lit (.int .i64 1), .lit (.int .i64 1)], .agg [.lit (.int .i64 0), .lit (.int .i64 0), .lit (.int .i64 0), .lit (.int .i64 2), .lit (.int .i64 1), .lit (.int .i64 1)], .agg [.lit (.int .i64 0), .lit (.int .i64 3), .lit (.int .i64 0), .lit (.int .i64 0), .lit (.int .i64 1), .lit (.int .i64 2)], .agg [.lit (.int .i64 0), .lit (.int .i64 3), .lit (.int .i64 0), .lit (.int .i64 1), .lit (.int .i64 0), .lit (.int .i64 2)], .agg [.lit (.int .i64 0), .lit (.int .i64 2000), .lit (.int .i64 0), .lit (.int .i64 0), .lit (.int .i64 0), .lit (.int .i64 2)], .agg [.lit (.int .i64 0), .lit (.int .i64 2000), .lit (.int .i64 0), .lit (.int .i64 1), .lit (.int .i64 0), .lit (.int .i64 1)], .agg [.lit (.int .i64 0), .lit (.int .i64 7), .lit (.int .i64 1000), .lit (.int .i64 0), .lit (.int .i64 0), .lit (.int .i64 1)], .agg [.lit (.int .i64 0), .lit (.int .i64 7), .lit (.int .i64 2000), .lit (.int .i64 0), .lit (.int .i64 0), .lit (.int .i64 1)], .agg [.lit (.int .i64 0), .lit (.int .i64 7), .lit (.int .i64 0), .lit (.int .i64 0), .lit (.int .i64 0), .lit (.int .i64 1)], .agg [.lit (.int .i64 0), .lit (.int .i64 3), .lit (.int .i64 0), .lit (.int .i64 0), .lit (.int .i64 0), .lit (.int .i64 1)], .agg [.lit (.int .i64 0), .lit (.int .i64 3), .lit (.int .i64 0), .lit (.int .i64 0), .lit (.int .i64 0), .lit (.int .i64 1)], .agg [.lit (.int .i64 1), .lit (.int .i64 1000), .lit (.int .i64 0), .lit (.int .i64 0), .lit (.int .i64 0), .lit (.int .i64 0)]]
def laid_punctual_punctuallaw_noIns {H : Type} : DataW H := .agg [.lit (.int .i64 (-1)), .lit (.int .i64 (-2)), .lit (.int .i64 (-3))]
def laid_punctual_tongue_shapes {H : Type} : DataW H := .agg [.agg [.lit (.int .i64 0), .lit (.int .i64 0), .lit (.bool false), .lit (.bool false), .lit (.bool false), .lit (.bool false)], .agg [.lit (.int .i64 0), .lit (.int .i64 7), .lit (.bool true), .lit (.bool false), .lit (.bool false), .lit (.bool false)], .agg [.lit (.int .i64 0), .lit (.int .i64 3), .lit (.bool true), .lit (.bool false), .lit (.bool false), .lit (.bool false)], .agg [.lit (.int .i64 0), .lit (.int .i64 0), .lit (.bool false), .lit (.bool true), .lit (.bool true), .lit (.bool true)], .agg [.lit (.int .i64 0), .lit (.int .i64 1000), .lit (.bool false), .lit (.bool false), .lit (.bool true), .lit (.bool false)], .agg [.lit (.int .i64 0), .lit (.int .i64 1000), .lit (.bool false), .lit (.bool true), .lit (.bool true), .lit (.bool false)], .agg [.lit (.int .i64 0), .lit (.int .i64 3), .lit (.bool false), .lit (.bool false), .lit (.bool true), .lit (.bool false)], .agg [.lit (.int .i64 1), .lit (.int .i64 1000), .lit (.bool false), .lit (.bool false), .lit (.bool false), .lit (.bool false)]]
def laid_punctual_tongue_forms {H : Type} : DataW H := .agg [.agg [.lit (.int .i64 0), .lit (.int .i64 0)], .agg [.lit (.int .i64 999999999), .lit (.int .i64 0)], .agg [.lit (.int .i64 7), .lit (.int .i64 0)], .agg [.lit (.int .i64 3), .lit (.int .i64 0)], .agg [.lit (.int .i64 0), .lit (.int .i64 1)], .agg [.lit (.int .i64 0), .lit (.int .i64 2)], .agg [.lit (.int .i64 0), .lit (.int .i64 2)], .agg [.lit (.int .i64 0), .lit (.int .i64 2)]]
def laid_punctual_compile_ends {H : Type} : DataW H := .agg [.lit (.int .i64 0), .lit (.int .i64 1), .lit (.int .i64 2), .lit (.int .i64 9), .lit (.int .i64 0), .lit (.int .i64 4), .lit (.int .i64 5), .lit (.int .i64 6)]
def laid_punctual_compile_comparisons {H : Type} : DataW H := .agg [.agg [.lit (.int .i64 0), .lit (.bool false)], .agg [.lit (.int .i64 7), .lit (.bool false)], .agg [.lit (.int .i64 8), .lit (.bool false)], .agg [.lit (.int .i64 8), .lit (.bool true)], .agg [.lit (.int .i64 7), .lit (.bool true)]]

/-- 'punctuallaw.MachRuns': WHATEVER THE INPUT: true; the input reads as it did. -/
def machRunsSpec : ChangeSpec := { name := "machRuns", fn := fun _ => fun
  | [d1, d2, d3] => { results := [.lit (.bool true)], args := [d1, d2, d3] }
  | _ => none }
def machRunsRow : OpenClaim := { program := "ytnkgbkkakokciacdoor", sum := "e8a484db56b588edcf89f11cd19933a07e2d713268520d4f22a3a4afa1d4002d", func := "punctual/punctuallaw.MachRuns", spec := "machRuns", unfollowed := true, recurses := true, named := ["punctual/punctuallaw.noIns", "punctual/mach.kinds"], apart := false, laid := [("punctual/mach.kinds", laid_punctual_mach_kinds), ("punctual/punctuallaw.noIns", laid_punctual_punctuallaw_noIns)] }
def MachRunsSaid : Prop := machRunsRow.holds Tryd.pinned (OpenSpec.ofChange machRunsSpec)

/-- ITS FALSE NEIGHBOUR: 'it returns false'. Refute it at one input. -/
def machRunsWrong : ChangeSpec := { name := "machRuns", fn := fun _ => fun
  | [d1, d2, d3] => { results := [.lit (.bool false)], args := [d1, d2, d3] }
  | _ => none }
def MachRunsWrongFalsely : Prop := machRunsRow.holds Tryd.pinned (OpenSpec.ofChange machRunsWrong)

/-- 'punctuallaw.MachTicks': WHATEVER THE INPUT: true; the input reads as it did. -/
def machTicksSpec : ChangeSpec := { name := "machTicks", fn := fun _ => fun
  | [d1, d2, d3, d4, d5] => { results := [.lit (.bool true)], args := [d1, d2, d3, d4, d5] }
  | _ => none }
def machTicksRow : OpenClaim := { program := "ytnkgbkkakokciacdoor", sum := "e8a484db56b588edcf89f11cd19933a07e2d713268520d4f22a3a4afa1d4002d", func := "punctual/punctuallaw.MachTicks", spec := "machTicks", unfollowed := true, recurses := true, named := ["punctual/punctuallaw.noIns", "punctual/mach.kinds"], apart := false, laid := [("punctual/mach.kinds", laid_punctual_mach_kinds), ("punctual/punctuallaw.noIns", laid_punctual_punctuallaw_noIns)] }
def MachTicksSaid : Prop := machTicksRow.holds Tryd.pinned (OpenSpec.ofChange machTicksSpec)

/-- ITS FALSE NEIGHBOUR: 'it returns false'. Refute it at one input. -/
def machTicksWrong : ChangeSpec := { name := "machTicks", fn := fun _ => fun
  | [d1, d2, d3, d4, d5] => { results := [.lit (.bool false)], args := [d1, d2, d3, d4, d5] }
  | _ => none }
def MachTicksWrongFalsely : Prop := machTicksRow.holds Tryd.pinned (OpenSpec.ofChange machTicksWrong)

/-- 'punctuallaw.MachCosts': WHATEVER THE INPUT: true; the input reads as it did. -/
def machCostsSpec : ChangeSpec := { name := "machCosts", fn := fun _ => fun
  | [d1, d2] => { results := [.lit (.bool true)], args := [d1, d2] }
  | _ => none }
def machCostsRow : OpenClaim := { program := "ytnkgbkkakokciacdoor", sum := "e8a484db56b588edcf89f11cd19933a07e2d713268520d4f22a3a4afa1d4002d", func := "punctual/punctuallaw.MachCosts", spec := "machCosts", named := ["punctual/mach.kinds"], apart := false, laid := [("punctual/mach.kinds", laid_punctual_mach_kinds)] }
def MachCostsSaid : Prop := machCostsRow.holds Tryd.pinned (OpenSpec.ofChange machCostsSpec)

/-- ITS FALSE NEIGHBOUR: 'it returns false'. Refute it at one input. -/
def machCostsWrong : ChangeSpec := { name := "machCosts", fn := fun _ => fun
  | [d1, d2] => { results := [.lit (.bool false)], args := [d1, d2] }
  | _ => none }
def MachCostsWrongFalsely : Prop := machCostsRow.holds Tryd.pinned (OpenSpec.ofChange machCostsWrong)

/-- 'punctuallaw.CompileMakes': WHATEVER THE INPUT: true; the input reads as it did. -/
def compileMakesSpec : ChangeSpec := { name := "compileMakes", fn := fun _ => fun
  | [d] => { results := [.lit (.bool true)], args := [d] }
  | _ => none }
def compileMakesRow : OpenClaim := { program := "ytnkgbkkakokciacdoor", sum := "e8a484db56b588edcf89f11cd19933a07e2d713268520d4f22a3a4afa1d4002d", func := "punctual/punctuallaw.CompileMakes", spec := "compileMakes", unfollowed := true, recurses := true, named := ["punctual/tongue.shapes", "punctual/tongue.forms", "punctual/compile.ends", "punctual/compile.comparisons"], loops := true, apart := false, laid := [("punctual/tongue.shapes", laid_punctual_tongue_shapes), ("punctual/tongue.forms", laid_punctual_tongue_forms), ("punctual/compile.ends", laid_punctual_compile_ends), ("punctual/compile.comparisons", laid_punctual_compile_comparisons)] }
def CompileMakesSaid : Prop := compileMakesRow.holds Tryd.pinned (OpenSpec.ofChange compileMakesSpec)

/-- ITS FALSE NEIGHBOUR: 'it returns false'. Refute it at one input. -/
def compileMakesWrong : ChangeSpec := { name := "compileMakes", fn := fun _ => fun
  | [d] => { results := [.lit (.bool false)], args := [d] }
  | _ => none }
def CompileMakesWrongFalsely : Prop := compileMakesRow.holds Tryd.pinned (OpenSpec.ofChange compileMakesWrong)

/-- 'punctuallaw.CompileMeans': WHATEVER THE INPUT: true; the input reads as it did. -/
def compileMeansSpec : ChangeSpec := { name := "compileMeans", fn := fun _ => fun
  | [d1, d2, d3] => { results := [.lit (.bool true)], args := [d1, d2, d3] }
  | _ => none }
def compileMeansRow : OpenClaim := { program := "ytnkgbkkakokciacdoor", sum := "e8a484db56b588edcf89f11cd19933a07e2d713268520d4f22a3a4afa1d4002d", func := "punctual/punctuallaw.CompileMeans", spec := "compileMeans", unfollowed := true, recurses := true, named := ["punctual/tongue.shapes", "punctual/tongue.forms", "punctual/compile.ends", "punctual/compile.comparisons", "punctual/mach.kinds"], loops := true, apart := false, laid := [("punctual/mach.kinds", laid_punctual_mach_kinds), ("punctual/tongue.shapes", laid_punctual_tongue_shapes), ("punctual/tongue.forms", laid_punctual_tongue_forms), ("punctual/compile.ends", laid_punctual_compile_ends), ("punctual/compile.comparisons", laid_punctual_compile_comparisons)] }
def CompileMeansSaid : Prop := compileMeansRow.holds Tryd.pinned (OpenSpec.ofChange compileMeansSpec)

/-- ITS FALSE NEIGHBOUR: 'it returns false'. Refute it at one input. -/
def compileMeansWrong : ChangeSpec := { name := "compileMeans", fn := fun _ => fun
  | [d1, d2, d3] => { results := [.lit (.bool false)], args := [d1, d2, d3] }
  | _ => none }
def CompileMeansWrongFalsely : Prop := compileMeansRow.holds Tryd.pinned (OpenSpec.ofChange compileMeansWrong)

/-- 'punctuallaw.WcetTells': WHATEVER THE INPUT: true; the input reads as it did. -/
def wcetTellsSpec : ChangeSpec := { name := "wcetTells", fn := fun _ => fun
  | [d] => { results := [.lit (.bool true)], args := [d] }
  | _ => none }
def wcetTellsRow : OpenClaim := { program := "ytnkgbkkakokciacdoor", sum := "e8a484db56b588edcf89f11cd19933a07e2d713268520d4f22a3a4afa1d4002d", func := "punctual/punctuallaw.WcetTells", spec := "wcetTells", unfollowed := true, recurses := true, named := ["punctual/punctuallaw.noIns", "punctual/mach.kinds"], apart := false, laid := [("punctual/mach.kinds", laid_punctual_mach_kinds), ("punctual/punctuallaw.noIns", laid_punctual_punctuallaw_noIns)] }
def WcetTellsSaid : Prop := wcetTellsRow.holds Tryd.pinned (OpenSpec.ofChange wcetTellsSpec)

/-- ITS FALSE NEIGHBOUR: 'it returns false'. Refute it at one input. -/
def wcetTellsWrong : ChangeSpec := { name := "wcetTells", fn := fun _ => fun
  | [d] => { results := [.lit (.bool false)], args := [d] }
  | _ => none }
def WcetTellsWrongFalsely : Prop := wcetTellsRow.holds Tryd.pinned (OpenSpec.ofChange wcetTellsWrong)

/- THE SECOND FORM. 'bulk': how many values and letters a reading holds, each counted each time it is reached (what is shared counts as often as it is met; a slice's spare places count too). A statement '..UptoSaid' is the law's where the arguments, and the package variables that the reading takes, are together of bulk at most 1048576: NARROWER than '..Said'. Prove '..Said' where nothing that the law and all that it calls make is longer than what came in: it says more and counts as full. Else prove '..UptoSaid'. A law counts once. -/
mutual
def uptoBulk {H : Type} : DataW H → Nat
  | .lit (.string bytes) => bytes.length + 1
  | .lit _ => 1
  | .nil => 1
  | .ptr d => uptoBulk d + 1
  | .slice elems spare => uptoBulkAll elems + uptoBulkAll spare + 1
  | .agg parts => uptoBulkAll parts + 1
  | .iface _ d => uptoBulk d + 1
  | .map entries => uptoBulkEntries entries + 1
  | .held _ => 1
def uptoBulkAll {H : Type} : List (DataW H) → Nat
  | [] => 0
  | d :: r => uptoBulk d + uptoBulkAll r
def uptoBulkEntries {H : Type} : List (Lit × DataW H) → Nat
  | [] => 0
  | x :: r => uptoBulkEntry x + uptoBulkEntries r
def uptoBulkEntry {H : Type} : Lit × DataW H → Nat
  | (.string bytes, d) => bytes.length + uptoBulk d + 1
  | (_, d) => uptoBulk d + 1
 end
def uptoSmall : (H : Type) → List (DataW H) → Bool := fun _ ds => decide (uptoBulkAll ds ≤ 1048576)
def OpenSpec.upto (s : _root_.Go.ChangeSpec) : _root_.Go.OpenSpec := { _root_.Go.OpenSpec.ofChange s with cond := some uptoSmall }

/-- 'punctuallaw.MachRuns', WHERE WHAT IT READS IS OF BULK AT MOST 1048576: true; the input reads as it did. -/
def machRunsUptoRow : OpenClaim := { program := "ytnkgbkkakokciacdoor", sum := "e8a484db56b588edcf89f11cd19933a07e2d713268520d4f22a3a4afa1d4002d", func := "punctual/punctuallaw.MachRuns", spec := "machRuns", unfollowed := true, recurses := true, named := ["punctual/punctuallaw.noIns", "punctual/mach.kinds"], apart := false, laid := [("punctual/mach.kinds", laid_punctual_mach_kinds), ("punctual/punctuallaw.noIns", laid_punctual_punctuallaw_noIns)], narrowed := true }
def MachRunsUptoSaid : Prop := machRunsUptoRow.holds Tryd.pinned (OpenSpec.upto machRunsSpec)

/-- 'punctuallaw.MachTicks', WHERE WHAT IT READS IS OF BULK AT MOST 1048576: true; the input reads as it did. -/
def machTicksUptoRow : OpenClaim := { program := "ytnkgbkkakokciacdoor", sum := "e8a484db56b588edcf89f11cd19933a07e2d713268520d4f22a3a4afa1d4002d", func := "punctual/punctuallaw.MachTicks", spec := "machTicks", unfollowed := true, recurses := true, named := ["punctual/punctuallaw.noIns", "punctual/mach.kinds"], apart := false, laid := [("punctual/mach.kinds", laid_punctual_mach_kinds), ("punctual/punctuallaw.noIns", laid_punctual_punctuallaw_noIns)], narrowed := true }
def MachTicksUptoSaid : Prop := machTicksUptoRow.holds Tryd.pinned (OpenSpec.upto machTicksSpec)

/-- 'punctuallaw.MachCosts', WHERE WHAT IT READS IS OF BULK AT MOST 1048576: true; the input reads as it did. -/
def machCostsUptoRow : OpenClaim := { program := "ytnkgbkkakokciacdoor", sum := "e8a484db56b588edcf89f11cd19933a07e2d713268520d4f22a3a4afa1d4002d", func := "punctual/punctuallaw.MachCosts", spec := "machCosts", named := ["punctual/mach.kinds"], apart := false, laid := [("punctual/mach.kinds", laid_punctual_mach_kinds)], narrowed := true }
def MachCostsUptoSaid : Prop := machCostsUptoRow.holds Tryd.pinned (OpenSpec.upto machCostsSpec)

/-- 'punctuallaw.CompileMakes', WHERE WHAT IT READS IS OF BULK AT MOST 1048576: true; the input reads as it did. -/
def compileMakesUptoRow : OpenClaim := { program := "ytnkgbkkakokciacdoor", sum := "e8a484db56b588edcf89f11cd19933a07e2d713268520d4f22a3a4afa1d4002d", func := "punctual/punctuallaw.CompileMakes", spec := "compileMakes", unfollowed := true, recurses := true, named := ["punctual/tongue.shapes", "punctual/tongue.forms", "punctual/compile.ends", "punctual/compile.comparisons"], loops := true, apart := false, laid := [("punctual/tongue.shapes", laid_punctual_tongue_shapes), ("punctual/tongue.forms", laid_punctual_tongue_forms), ("punctual/compile.ends", laid_punctual_compile_ends), ("punctual/compile.comparisons", laid_punctual_compile_comparisons)], narrowed := true }
def CompileMakesUptoSaid : Prop := compileMakesUptoRow.holds Tryd.pinned (OpenSpec.upto compileMakesSpec)

/-- 'punctuallaw.CompileMeans', WHERE WHAT IT READS IS OF BULK AT MOST 1048576: true; the input reads as it did. -/
def compileMeansUptoRow : OpenClaim := { program := "ytnkgbkkakokciacdoor", sum := "e8a484db56b588edcf89f11cd19933a07e2d713268520d4f22a3a4afa1d4002d", func := "punctual/punctuallaw.CompileMeans", spec := "compileMeans", unfollowed := true, recurses := true, named := ["punctual/tongue.shapes", "punctual/tongue.forms", "punctual/compile.ends", "punctual/compile.comparisons", "punctual/mach.kinds"], loops := true, apart := false, laid := [("punctual/mach.kinds", laid_punctual_mach_kinds), ("punctual/tongue.shapes", laid_punctual_tongue_shapes), ("punctual/tongue.forms", laid_punctual_tongue_forms), ("punctual/compile.ends", laid_punctual_compile_ends), ("punctual/compile.comparisons", laid_punctual_compile_comparisons)], narrowed := true }
def CompileMeansUptoSaid : Prop := compileMeansUptoRow.holds Tryd.pinned (OpenSpec.upto compileMeansSpec)

/-- 'punctuallaw.WcetTells', WHERE WHAT IT READS IS OF BULK AT MOST 1048576: true; the input reads as it did. -/
def wcetTellsUptoRow : OpenClaim := { program := "ytnkgbkkakokciacdoor", sum := "e8a484db56b588edcf89f11cd19933a07e2d713268520d4f22a3a4afa1d4002d", func := "punctual/punctuallaw.WcetTells", spec := "wcetTells", unfollowed := true, recurses := true, named := ["punctual/punctuallaw.noIns", "punctual/mach.kinds"], apart := false, laid := [("punctual/mach.kinds", laid_punctual_mach_kinds), ("punctual/punctuallaw.noIns", laid_punctual_punctuallaw_noIns)], narrowed := true }
def WcetTellsUptoSaid : Prop := wcetTellsUptoRow.holds Tryd.pinned (OpenSpec.upto wcetTellsSpec)

end Rows
end Go.Proofs.YtnkgbkkakokciacDoor
