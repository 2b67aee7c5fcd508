/-
  NARROWER THAN 'FOR EVERY INPUT', by the rows' own cells (each row's printed sentence says how): FnCells: laid · FnExactBinaryOf: laid · FnExactHelperSays: laid · FnExactCellNo: laid · FnExactEmptyChart: laid · FnExactCellFor: laid · FnExactFillChart: laid · FnExactCellAt: laid · FnExactAccepts: laid · FnExactJoinSteps: laid.
  DERIVED. THE GIVEN ROWS OF THIS SEAT. 10 by the template 'for every input the law returns true; each argument reads behind the call as it read before'; 0 by the template 'total and deterministic' (their statements: YtaobkanliiiapaaDoorTotals.lean).
  GIVEN WITH THE SEED: the statements are not yours to turn. If you find one false, say at which input.
  Laid BY PROGRAM, IN A SANDBOX (cutbox-rows.mjs): the forced cells as the released guide's own fill.sh prints them over the translation 2264721f286fd5a9… (all of the seat's roots in one cut). By AI agents, Wed Nov 11 2026. No macro, syntax, notation, axiom, sorry.
-/
import Derived.Test.YtaobkanliiiapaaDoorChecked
import GoSem.Claim
import GoSem.ClaimJoined
import GoSem.ClaimMapViews
import Derived.JoinedTies
import Derived.KernelRfl
namespace Go.Proofs.YtaobkanliiiapaaDoor
/- THE CELL 'sum', in the pinned program and in every row, IS THE sha256 OF THE DUMP (.gsa) THAT YtaobkanliiiapaaDoorProg.lean LOADS. Nothing in Lean hashes anything: it is a label: what it is worth is what the hold of that sum in a sandbox is worth. -/
noncomputable def Tryd.pinned : Pinned := { name := "ytaobkanliiiapaadoor", sum := "2264721f286fd5a9a867c6738a377425a1d4ba679880ba9d1383aa96043c8c7e", checked := Tryd.checked }
namespace Rows
def none {H : Type} : Left H := { results := [], args := [] }

/- WHAT THE LISTED PACKAGE-LEVEL VARIABLES READ AS WHEN THE CALL BEGINS. Each datum BY PROGRAM (the guide's laid-datum.mjs) off the statement by which the dump's own 'gosem.cut.vars' lays the variable. In a bare row this is a premise. The card (YtaobkanliiiapaaDoorCards.lean) ties it to the program's text. -/
def laid_loop_example_g00758_impl_limits {H : Type} : DataW H := .agg [.agg [.lit (.int .i64 1), .lit (.int .i64 6)], .agg [.lit (.int .i64 1), .lit (.int .i64 4)], .agg [.lit (.int .i64 0), .lit (.int .i64 16)], .agg [.lit (.int .i64 0), .lit (.int .i64 4)], .agg [.lit (.int .i64 0), .lit (.int .i64 10)], .agg [.lit (.int .i64 1), .lit (.int .i64 40)]]

/-- 'laws.FnCells': WHATEVER THE INPUT: true; the input reads as it did. -/
def fnCellsSpec : ChangeSpec := { name := "fnCells", vars := ["loop.example/g00758/impl.limits"], fn := fun _ => fun
  | [d1, d2, g1] => { results := [.lit (.bool true)], args := [d1, d2], vars := [g1] }
  | _ => none }
def fnCellsRow : OpenClaim := { program := "ytaobkanliiiapaadoor", sum := "2264721f286fd5a9a867c6738a377425a1d4ba679880ba9d1383aa96043c8c7e", func := "loop.example/g00758/laws.FnCells", spec := "fnCells", unfollowed := true, recurses := true, named := ["loop.example/g00758/impl.limits"], apart := false, laid := [("loop.example/g00758/impl.limits", laid_loop_example_g00758_impl_limits)] }
def FnCellsSaid : Prop := fnCellsRow.holds Tryd.pinned (OpenSpec.ofChange fnCellsSpec)

/-- ITS FALSE NEIGHBOUR: 'it returns false'. Refute it at one input. -/
def fnCellsWrong : ChangeSpec := { name := "fnCells", vars := ["loop.example/g00758/impl.limits"], fn := fun _ => fun
  | [d1, d2, g1] => { results := [.lit (.bool false)], args := [d1, d2], vars := [g1] }
  | _ => none }
def FnCellsWrongFalsely : Prop := fnCellsRow.holds Tryd.pinned (OpenSpec.ofChange fnCellsWrong)

/-- 'laws.FnExactBinaryOf': WHATEVER THE INPUT: true; the input reads as it did. -/
def fnExactBinaryOfSpec : ChangeSpec := { name := "fnExactBinaryOf", vars := ["loop.example/g00758/impl.limits"], fn := fun _ => fun
  | [d, g1] => { results := [.lit (.bool true)], args := [d], vars := [g1] }
  | _ => none }
def fnExactBinaryOfRow : OpenClaim := { program := "ytaobkanliiiapaadoor", sum := "2264721f286fd5a9a867c6738a377425a1d4ba679880ba9d1383aa96043c8c7e", func := "loop.example/g00758/laws.FnExactBinaryOf", spec := "fnExactBinaryOf", unfollowed := true, recurses := true, named := ["loop.example/g00758/impl.limits"], apart := false, laid := [("loop.example/g00758/impl.limits", laid_loop_example_g00758_impl_limits)] }
def FnExactBinaryOfSaid : Prop := fnExactBinaryOfRow.holds Tryd.pinned (OpenSpec.ofChange fnExactBinaryOfSpec)

/-- ITS FALSE NEIGHBOUR: 'it returns false'. Refute it at one input. -/
def fnExactBinaryOfWrong : ChangeSpec := { name := "fnExactBinaryOf", vars := ["loop.example/g00758/impl.limits"], fn := fun _ => fun
  | [d, g1] => { results := [.lit (.bool false)], args := [d], vars := [g1] }
  | _ => none }
def FnExactBinaryOfWrongFalsely : Prop := fnExactBinaryOfRow.holds Tryd.pinned (OpenSpec.ofChange fnExactBinaryOfWrong)

/-- 'laws.FnExactHelperSays': WHATEVER THE INPUT: true; the input reads as it did. -/
def fnExactHelperSaysSpec : ChangeSpec := { name := "fnExactHelperSays", vars := ["loop.example/g00758/impl.limits"], fn := fun _ => fun
  | [d1, d2, g1] => { results := [.lit (.bool true)], args := [d1, d2], vars := [g1] }
  | _ => none }
def fnExactHelperSaysRow : OpenClaim := { program := "ytaobkanliiiapaadoor", sum := "2264721f286fd5a9a867c6738a377425a1d4ba679880ba9d1383aa96043c8c7e", func := "loop.example/g00758/laws.FnExactHelperSays", spec := "fnExactHelperSays", unfollowed := true, recurses := true, named := ["loop.example/g00758/impl.limits"], apart := false, laid := [("loop.example/g00758/impl.limits", laid_loop_example_g00758_impl_limits)] }
def FnExactHelperSaysSaid : Prop := fnExactHelperSaysRow.holds Tryd.pinned (OpenSpec.ofChange fnExactHelperSaysSpec)

/-- ITS FALSE NEIGHBOUR: 'it returns false'. Refute it at one input. -/
def fnExactHelperSaysWrong : ChangeSpec := { name := "fnExactHelperSays", vars := ["loop.example/g00758/impl.limits"], fn := fun _ => fun
  | [d1, d2, g1] => { results := [.lit (.bool false)], args := [d1, d2], vars := [g1] }
  | _ => none }
def FnExactHelperSaysWrongFalsely : Prop := fnExactHelperSaysRow.holds Tryd.pinned (OpenSpec.ofChange fnExactHelperSaysWrong)

/-- 'laws.FnExactCellNo': WHATEVER THE INPUT: true; the input reads as it did. -/
def fnExactCellNoSpec : ChangeSpec := { name := "fnExactCellNo", vars := ["loop.example/g00758/impl.limits"], fn := fun _ => fun
  | [d1, d2, d3, g1] => { results := [.lit (.bool true)], args := [d1, d2, d3], vars := [g1] }
  | _ => none }
def fnExactCellNoRow : OpenClaim := { program := "ytaobkanliiiapaadoor", sum := "2264721f286fd5a9a867c6738a377425a1d4ba679880ba9d1383aa96043c8c7e", func := "loop.example/g00758/laws.FnExactCellNo", spec := "fnExactCellNo", named := ["loop.example/g00758/impl.limits"], apart := false, laid := [("loop.example/g00758/impl.limits", laid_loop_example_g00758_impl_limits)] }
def FnExactCellNoSaid : Prop := fnExactCellNoRow.holds Tryd.pinned (OpenSpec.ofChange fnExactCellNoSpec)

/-- ITS FALSE NEIGHBOUR: 'it returns false'. Refute it at one input. -/
def fnExactCellNoWrong : ChangeSpec := { name := "fnExactCellNo", vars := ["loop.example/g00758/impl.limits"], fn := fun _ => fun
  | [d1, d2, d3, g1] => { results := [.lit (.bool false)], args := [d1, d2, d3], vars := [g1] }
  | _ => none }
def FnExactCellNoWrongFalsely : Prop := fnExactCellNoRow.holds Tryd.pinned (OpenSpec.ofChange fnExactCellNoWrong)

/-- 'laws.FnExactEmptyChart': WHATEVER THE INPUT: true; the input reads as it did. -/
def fnExactEmptyChartSpec : ChangeSpec := { name := "fnExactEmptyChart", vars := ["loop.example/g00758/impl.limits"], fn := fun _ => fun
  | [d, g1] => { results := [.lit (.bool true)], args := [d], vars := [g1] }
  | _ => none }
def fnExactEmptyChartRow : OpenClaim := { program := "ytaobkanliiiapaadoor", sum := "2264721f286fd5a9a867c6738a377425a1d4ba679880ba9d1383aa96043c8c7e", func := "loop.example/g00758/laws.FnExactEmptyChart", spec := "fnExactEmptyChart", named := ["loop.example/g00758/impl.limits"], apart := false, laid := [("loop.example/g00758/impl.limits", laid_loop_example_g00758_impl_limits)] }
def FnExactEmptyChartSaid : Prop := fnExactEmptyChartRow.holds Tryd.pinned (OpenSpec.ofChange fnExactEmptyChartSpec)

/-- ITS FALSE NEIGHBOUR: 'it returns false'. Refute it at one input. -/
def fnExactEmptyChartWrong : ChangeSpec := { name := "fnExactEmptyChart", vars := ["loop.example/g00758/impl.limits"], fn := fun _ => fun
  | [d, g1] => { results := [.lit (.bool false)], args := [d], vars := [g1] }
  | _ => none }
def FnExactEmptyChartWrongFalsely : Prop := fnExactEmptyChartRow.holds Tryd.pinned (OpenSpec.ofChange fnExactEmptyChartWrong)

/-- 'laws.FnExactCellFor': WHATEVER THE INPUT: true; the input reads as it did. -/
def fnExactCellForSpec : ChangeSpec := { name := "fnExactCellFor", vars := ["loop.example/g00758/impl.limits"], fn := fun _ => fun
  | [d1, d2, d3, d4, d5, g1] => { results := [.lit (.bool true)], args := [d1, d2, d3, d4, d5], vars := [g1] }
  | _ => none }
def fnExactCellForRow : OpenClaim := { program := "ytaobkanliiiapaadoor", sum := "2264721f286fd5a9a867c6738a377425a1d4ba679880ba9d1383aa96043c8c7e", func := "loop.example/g00758/laws.FnExactCellFor", spec := "fnExactCellFor", unfollowed := true, recurses := true, named := ["loop.example/g00758/impl.limits"], apart := false, laid := [("loop.example/g00758/impl.limits", laid_loop_example_g00758_impl_limits)] }
def FnExactCellForSaid : Prop := fnExactCellForRow.holds Tryd.pinned (OpenSpec.ofChange fnExactCellForSpec)

/-- ITS FALSE NEIGHBOUR: 'it returns false'. Refute it at one input. -/
def fnExactCellForWrong : ChangeSpec := { name := "fnExactCellFor", vars := ["loop.example/g00758/impl.limits"], fn := fun _ => fun
  | [d1, d2, d3, d4, d5, g1] => { results := [.lit (.bool false)], args := [d1, d2, d3, d4, d5], vars := [g1] }
  | _ => none }
def FnExactCellForWrongFalsely : Prop := fnExactCellForRow.holds Tryd.pinned (OpenSpec.ofChange fnExactCellForWrong)

/-- 'laws.FnExactFillChart': WHATEVER THE INPUT: true; the input reads as it did. -/
def fnExactFillChartSpec : ChangeSpec := { name := "fnExactFillChart", vars := ["loop.example/g00758/impl.limits"], fn := fun _ => fun
  | [d1, d2, g1] => { results := [.lit (.bool true)], args := [d1, d2], vars := [g1] }
  | _ => none }
def fnExactFillChartRow : OpenClaim := { program := "ytaobkanliiiapaadoor", sum := "2264721f286fd5a9a867c6738a377425a1d4ba679880ba9d1383aa96043c8c7e", func := "loop.example/g00758/laws.FnExactFillChart", spec := "fnExactFillChart", unfollowed := true, recurses := true, named := ["loop.example/g00758/impl.limits"], apart := false, laid := [("loop.example/g00758/impl.limits", laid_loop_example_g00758_impl_limits)] }
def FnExactFillChartSaid : Prop := fnExactFillChartRow.holds Tryd.pinned (OpenSpec.ofChange fnExactFillChartSpec)

/-- ITS FALSE NEIGHBOUR: 'it returns false'. Refute it at one input. -/
def fnExactFillChartWrong : ChangeSpec := { name := "fnExactFillChart", vars := ["loop.example/g00758/impl.limits"], fn := fun _ => fun
  | [d1, d2, g1] => { results := [.lit (.bool false)], args := [d1, d2], vars := [g1] }
  | _ => none }
def FnExactFillChartWrongFalsely : Prop := fnExactFillChartRow.holds Tryd.pinned (OpenSpec.ofChange fnExactFillChartWrong)

/-- 'laws.FnExactCellAt': WHATEVER THE INPUT: true; the input reads as it did. -/
def fnExactCellAtSpec : ChangeSpec := { name := "fnExactCellAt", vars := ["loop.example/g00758/impl.limits"], fn := fun _ => fun
  | [d1, d2, d3, g1] => { results := [.lit (.bool true)], args := [d1, d2, d3], vars := [g1] }
  | _ => none }
def fnExactCellAtRow : OpenClaim := { program := "ytaobkanliiiapaadoor", sum := "2264721f286fd5a9a867c6738a377425a1d4ba679880ba9d1383aa96043c8c7e", func := "loop.example/g00758/laws.FnExactCellAt", spec := "fnExactCellAt", unfollowed := true, recurses := true, named := ["loop.example/g00758/impl.limits"], apart := false, laid := [("loop.example/g00758/impl.limits", laid_loop_example_g00758_impl_limits)] }
def FnExactCellAtSaid : Prop := fnExactCellAtRow.holds Tryd.pinned (OpenSpec.ofChange fnExactCellAtSpec)

/-- ITS FALSE NEIGHBOUR: 'it returns false'. Refute it at one input. -/
def fnExactCellAtWrong : ChangeSpec := { name := "fnExactCellAt", vars := ["loop.example/g00758/impl.limits"], fn := fun _ => fun
  | [d1, d2, d3, g1] => { results := [.lit (.bool false)], args := [d1, d2, d3], vars := [g1] }
  | _ => none }
def FnExactCellAtWrongFalsely : Prop := fnExactCellAtRow.holds Tryd.pinned (OpenSpec.ofChange fnExactCellAtWrong)

/-- 'laws.FnExactAccepts': WHATEVER THE INPUT: true; the input reads as it did. -/
def fnExactAcceptsSpec : ChangeSpec := { name := "fnExactAccepts", vars := ["loop.example/g00758/impl.limits"], fn := fun _ => fun
  | [d1, d2, g1] => { results := [.lit (.bool true)], args := [d1, d2], vars := [g1] }
  | _ => none }
def fnExactAcceptsRow : OpenClaim := { program := "ytaobkanliiiapaadoor", sum := "2264721f286fd5a9a867c6738a377425a1d4ba679880ba9d1383aa96043c8c7e", func := "loop.example/g00758/laws.FnExactAccepts", spec := "fnExactAccepts", unfollowed := true, recurses := true, named := ["loop.example/g00758/impl.limits"], apart := false, laid := [("loop.example/g00758/impl.limits", laid_loop_example_g00758_impl_limits)] }
def FnExactAcceptsSaid : Prop := fnExactAcceptsRow.holds Tryd.pinned (OpenSpec.ofChange fnExactAcceptsSpec)

/-- ITS FALSE NEIGHBOUR: 'it returns false'. Refute it at one input. -/
def fnExactAcceptsWrong : ChangeSpec := { name := "fnExactAccepts", vars := ["loop.example/g00758/impl.limits"], fn := fun _ => fun
  | [d1, d2, g1] => { results := [.lit (.bool false)], args := [d1, d2], vars := [g1] }
  | _ => none }
def FnExactAcceptsWrongFalsely : Prop := fnExactAcceptsRow.holds Tryd.pinned (OpenSpec.ofChange fnExactAcceptsWrong)

/-- 'laws.FnExactJoinSteps': WHATEVER THE INPUT: true; the input reads as it did. -/
def fnExactJoinStepsSpec : ChangeSpec := { name := "fnExactJoinSteps", vars := ["loop.example/g00758/impl.limits"], fn := fun _ => fun
  | [d1, d2, g1] => { results := [.lit (.bool true)], args := [d1, d2], vars := [g1] }
  | _ => none }
def fnExactJoinStepsRow : OpenClaim := { program := "ytaobkanliiiapaadoor", sum := "2264721f286fd5a9a867c6738a377425a1d4ba679880ba9d1383aa96043c8c7e", func := "loop.example/g00758/laws.FnExactJoinSteps", spec := "fnExactJoinSteps", unfollowed := true, recurses := true, named := ["loop.example/g00758/impl.limits"], apart := false, laid := [("loop.example/g00758/impl.limits", laid_loop_example_g00758_impl_limits)] }
def FnExactJoinStepsSaid : Prop := fnExactJoinStepsRow.holds Tryd.pinned (OpenSpec.ofChange fnExactJoinStepsSpec)

/-- ITS FALSE NEIGHBOUR: 'it returns false'. Refute it at one input. -/
def fnExactJoinStepsWrong : ChangeSpec := { name := "fnExactJoinSteps", vars := ["loop.example/g00758/impl.limits"], fn := fun _ => fun
  | [d1, d2, g1] => { results := [.lit (.bool false)], args := [d1, d2], vars := [g1] }
  | _ => none }
def FnExactJoinStepsWrongFalsely : Prop := fnExactJoinStepsRow.holds Tryd.pinned (OpenSpec.ofChange fnExactJoinStepsWrong)

/- THE SECOND FORM. 'bulk': how many values and letters a reading holds, each counted each time it is reached (what is shared counts as often as it is met; a slice's spare places count too). A statement '..UptoSaid' is the law's where the arguments, and the package variables that the reading takes, are together of bulk at most 1048576: NARROWER than '..Said'. Prove '..Said' where nothing that the law and all that it calls make is longer than what came in: it says more and counts as full. Else prove '..UptoSaid'. A law counts once. -/
mutual
def uptoBulk {H : Type} : DataW H → Nat
  | .lit (.string bytes) => bytes.length + 1
  | .lit _ => 1
  | .nil => 1
  | .ptr d => uptoBulk d + 1
  | .slice elems spare => uptoBulkAll elems + uptoBulkAll spare + 1
  | .agg parts => uptoBulkAll parts + 1
  | .iface _ d => uptoBulk d + 1
  | .map entries => uptoBulkEntries entries + 1
  | .held _ => 1
def uptoBulkAll {H : Type} : List (DataW H) → Nat
  | [] => 0
  | d :: r => uptoBulk d + uptoBulkAll r
def uptoBulkEntries {H : Type} : List (Lit × DataW H) → Nat
  | [] => 0
  | x :: r => uptoBulkEntry x + uptoBulkEntries r
def uptoBulkEntry {H : Type} : Lit × DataW H → Nat
  | (.string bytes, d) => bytes.length + uptoBulk d + 1
  | (_, d) => uptoBulk d + 1
 end
def uptoSmall : (H : Type) → List (DataW H) → Bool := fun _ ds => decide (uptoBulkAll ds ≤ 1048576)
def OpenSpec.upto (s : _root_.Go.ChangeSpec) : _root_.Go.OpenSpec := { _root_.Go.OpenSpec.ofChange s with cond := some uptoSmall }

/-- 'laws.FnCells', WHERE WHAT IT READS IS OF BULK AT MOST 1048576: true; the input reads as it did. -/
def fnCellsUptoRow : OpenClaim := { program := "ytaobkanliiiapaadoor", sum := "2264721f286fd5a9a867c6738a377425a1d4ba679880ba9d1383aa96043c8c7e", func := "loop.example/g00758/laws.FnCells", spec := "fnCells", unfollowed := true, recurses := true, named := ["loop.example/g00758/impl.limits"], apart := false, laid := [("loop.example/g00758/impl.limits", laid_loop_example_g00758_impl_limits)], narrowed := true }
def FnCellsUptoSaid : Prop := fnCellsUptoRow.holds Tryd.pinned (OpenSpec.upto fnCellsSpec)

/-- 'laws.FnExactBinaryOf', WHERE WHAT IT READS IS OF BULK AT MOST 1048576: true; the input reads as it did. -/
def fnExactBinaryOfUptoRow : OpenClaim := { program := "ytaobkanliiiapaadoor", sum := "2264721f286fd5a9a867c6738a377425a1d4ba679880ba9d1383aa96043c8c7e", func := "loop.example/g00758/laws.FnExactBinaryOf", spec := "fnExactBinaryOf", unfollowed := true, recurses := true, named := ["loop.example/g00758/impl.limits"], apart := false, laid := [("loop.example/g00758/impl.limits", laid_loop_example_g00758_impl_limits)], narrowed := true }
def FnExactBinaryOfUptoSaid : Prop := fnExactBinaryOfUptoRow.holds Tryd.pinned (OpenSpec.upto fnExactBinaryOfSpec)

/-- 'laws.FnExactHelperSays', WHERE WHAT IT READS IS OF BULK AT MOST 1048576: true; the input reads as it did. -/
def fnExactHelperSaysUptoRow : OpenClaim := { program := "ytaobkanliiiapaadoor", sum := "2264721f286fd5a9a867c6738a377425a1d4ba679880ba9d1383aa96043c8c7e", func := "loop.example/g00758/laws.FnExactHelperSays", spec := "fnExactHelperSays", unfollowed := true, recurses := true, named := ["loop.example/g00758/impl.limits"], apart := false, laid := [("loop.example/g00758/impl.limits", laid_loop_example_g00758_impl_limits)], narrowed := true }
def FnExactHelperSaysUptoSaid : Prop := fnExactHelperSaysUptoRow.holds Tryd.pinned (OpenSpec.upto fnExactHelperSaysSpec)

/-- 'laws.FnExactCellNo', WHERE WHAT IT READS IS OF BULK AT MOST 1048576: true; the input reads as it did. -/
def fnExactCellNoUptoRow : OpenClaim := { program := "ytaobkanliiiapaadoor", sum := "2264721f286fd5a9a867c6738a377425a1d4ba679880ba9d1383aa96043c8c7e", func := "loop.example/g00758/laws.FnExactCellNo", spec := "fnExactCellNo", named := ["loop.example/g00758/impl.limits"], apart := false, laid := [("loop.example/g00758/impl.limits", laid_loop_example_g00758_impl_limits)], narrowed := true }
def FnExactCellNoUptoSaid : Prop := fnExactCellNoUptoRow.holds Tryd.pinned (OpenSpec.upto fnExactCellNoSpec)

/-- 'laws.FnExactEmptyChart', WHERE WHAT IT READS IS OF BULK AT MOST 1048576: true; the input reads as it did. -/
def fnExactEmptyChartUptoRow : OpenClaim := { program := "ytaobkanliiiapaadoor", sum := "2264721f286fd5a9a867c6738a377425a1d4ba679880ba9d1383aa96043c8c7e", func := "loop.example/g00758/laws.FnExactEmptyChart", spec := "fnExactEmptyChart", named := ["loop.example/g00758/impl.limits"], apart := false, laid := [("loop.example/g00758/impl.limits", laid_loop_example_g00758_impl_limits)], narrowed := true }
def FnExactEmptyChartUptoSaid : Prop := fnExactEmptyChartUptoRow.holds Tryd.pinned (OpenSpec.upto fnExactEmptyChartSpec)

/-- 'laws.FnExactCellFor', WHERE WHAT IT READS IS OF BULK AT MOST 1048576: true; the input reads as it did. -/
def fnExactCellForUptoRow : OpenClaim := { program := "ytaobkanliiiapaadoor", sum := "2264721f286fd5a9a867c6738a377425a1d4ba679880ba9d1383aa96043c8c7e", func := "loop.example/g00758/laws.FnExactCellFor", spec := "fnExactCellFor", unfollowed := true, recurses := true, named := ["loop.example/g00758/impl.limits"], apart := false, laid := [("loop.example/g00758/impl.limits", laid_loop_example_g00758_impl_limits)], narrowed := true }
def FnExactCellForUptoSaid : Prop := fnExactCellForUptoRow.holds Tryd.pinned (OpenSpec.upto fnExactCellForSpec)

/-- 'laws.FnExactFillChart', WHERE WHAT IT READS IS OF BULK AT MOST 1048576: true; the input reads as it did. -/
def fnExactFillChartUptoRow : OpenClaim := { program := "ytaobkanliiiapaadoor", sum := "2264721f286fd5a9a867c6738a377425a1d4ba679880ba9d1383aa96043c8c7e", func := "loop.example/g00758/laws.FnExactFillChart", spec := "fnExactFillChart", unfollowed := true, recurses := true, named := ["loop.example/g00758/impl.limits"], apart := false, laid := [("loop.example/g00758/impl.limits", laid_loop_example_g00758_impl_limits)], narrowed := true }
def FnExactFillChartUptoSaid : Prop := fnExactFillChartUptoRow.holds Tryd.pinned (OpenSpec.upto fnExactFillChartSpec)

/-- 'laws.FnExactCellAt', WHERE WHAT IT READS IS OF BULK AT MOST 1048576: true; the input reads as it did. -/
def fnExactCellAtUptoRow : OpenClaim := { program := "ytaobkanliiiapaadoor", sum := "2264721f286fd5a9a867c6738a377425a1d4ba679880ba9d1383aa96043c8c7e", func := "loop.example/g00758/laws.FnExactCellAt", spec := "fnExactCellAt", unfollowed := true, recurses := true, named := ["loop.example/g00758/impl.limits"], apart := false, laid := [("loop.example/g00758/impl.limits", laid_loop_example_g00758_impl_limits)], narrowed := true }
def FnExactCellAtUptoSaid : Prop := fnExactCellAtUptoRow.holds Tryd.pinned (OpenSpec.upto fnExactCellAtSpec)

/-- 'laws.FnExactAccepts', WHERE WHAT IT READS IS OF BULK AT MOST 1048576: true; the input reads as it did. -/
def fnExactAcceptsUptoRow : OpenClaim := { program := "ytaobkanliiiapaadoor", sum := "2264721f286fd5a9a867c6738a377425a1d4ba679880ba9d1383aa96043c8c7e", func := "loop.example/g00758/laws.FnExactAccepts", spec := "fnExactAccepts", unfollowed := true, recurses := true, named := ["loop.example/g00758/impl.limits"], apart := false, laid := [("loop.example/g00758/impl.limits", laid_loop_example_g00758_impl_limits)], narrowed := true }
def FnExactAcceptsUptoSaid : Prop := fnExactAcceptsUptoRow.holds Tryd.pinned (OpenSpec.upto fnExactAcceptsSpec)

/-- 'laws.FnExactJoinSteps', WHERE WHAT IT READS IS OF BULK AT MOST 1048576: true; the input reads as it did. -/
def fnExactJoinStepsUptoRow : OpenClaim := { program := "ytaobkanliiiapaadoor", sum := "2264721f286fd5a9a867c6738a377425a1d4ba679880ba9d1383aa96043c8c7e", func := "loop.example/g00758/laws.FnExactJoinSteps", spec := "fnExactJoinSteps", unfollowed := true, recurses := true, named := ["loop.example/g00758/impl.limits"], apart := false, laid := [("loop.example/g00758/impl.limits", laid_loop_example_g00758_impl_limits)], narrowed := true }
def FnExactJoinStepsUptoSaid : Prop := fnExactJoinStepsUptoRow.holds Tryd.pinned (OpenSpec.upto fnExactJoinStepsSpec)

end Rows
end Go.Proofs.YtaobkanliiiapaaDoor
