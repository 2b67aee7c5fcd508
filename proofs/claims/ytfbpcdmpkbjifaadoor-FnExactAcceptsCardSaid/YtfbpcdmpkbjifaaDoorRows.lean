/-
  NARROWER THAN 'FOR EVERY INPUT', by the rows' own cells (each row's printed sentence says how): FnExactPartOf: laid · FnExactStepsIn: laid · FnExactAheadOf: laid · FnExactRacesIn: laid · FnExactIsWave: laid · FnExactCellFor: laid · FnExactFillChart: laid · FnExactAccepts: laid · FnCells: laid.
  DERIVED. THE GIVEN ROWS OF THIS SEAT. 9 by the template 'for every input the law returns true; each argument reads behind the call as it read before'; 0 by the template 'total and deterministic' (their statements: YtfbpcdmpkbjifaaDoorTotals.lean).
  GIVEN WITH THE SEED: the statements are not yours to turn. If you find one false, say at which input.
  Laid BY PROGRAM, IN A SANDBOX (cutbox-rows.mjs): the forced cells as the released guide's own fill.sh prints them over the translation 1e9dd228841233c8… (all of the seat's roots in one cut). By AI agents, Wed Nov 11 2026. No macro, syntax, notation, axiom, sorry.
-/
import Derived.Test.YtfbpcdmpkbjifaaDoorChecked
import GoSem.Claim
import GoSem.ClaimJoined
import GoSem.ClaimMapViews
import Derived.JoinedTies
import Derived.KernelRfl
namespace Go.Proofs.YtfbpcdmpkbjifaaDoor
/- THE CELL 'sum', in the pinned program and in every row, IS THE sha256 OF THE DUMP (.gsa) THAT YtfbpcdmpkbjifaaDoorProg.lean LOADS. Nothing in Lean hashes anything: it is a label: what it is worth is what the hold of that sum in a sandbox is worth. -/
noncomputable def Tryd.pinned : Pinned := { name := "ytfbpcdmpkbjifaadoor", sum := "1e9dd228841233c8acb2bb7097305e080f9c549d09fc5f59911f5b82ff5f60ac", checked := Tryd.checked }
namespace Rows
def none {H : Type} : Left H := { results := [], args := [] }

/- WHAT THE LISTED PACKAGE-LEVEL VARIABLES READ AS WHEN THE CALL BEGINS. Each datum BY PROGRAM (the guide's laid-datum.mjs) off the statement by which the dump's own 'gosem.cut.vars' lays the variable. In a bare row this is a premise. The card (YtfbpcdmpkbjifaaDoorCards.lean) ties it to the program's text. -/
def laid_loop_example_g00758_impl_limits {H : Type} : DataW H := .agg [.agg [.lit (.int .i64 1), .lit (.int .i64 6)], .agg [.lit (.int .i64 1), .lit (.int .i64 4)], .agg [.lit (.int .i64 0), .lit (.int .i64 16)], .agg [.lit (.int .i64 0), .lit (.int .i64 4)], .agg [.lit (.int .i64 0), .lit (.int .i64 10)], .agg [.lit (.int .i64 1), .lit (.int .i64 40)], .agg [.lit (.int .i64 1), .lit (.int .i64 4)], .agg [.lit (.int .i64 0), .lit (.int .i64 200)]]

/-- 'laws.FnExactPartOf': WHATEVER THE INPUT: true; the input reads as it did. -/
def fnExactPartOfSpec : ChangeSpec := { name := "fnExactPartOf", vars := ["loop.example/g00758/impl.limits"], fn := fun _ => fun
  | [d1, d2, d3, d4, g1] => { results := [.lit (.bool true)], args := [d1, d2, d3, d4], vars := [g1] }
  | _ => none }
def fnExactPartOfRow : OpenClaim := { program := "ytfbpcdmpkbjifaadoor", sum := "1e9dd228841233c8acb2bb7097305e080f9c549d09fc5f59911f5b82ff5f60ac", func := "loop.example/g00758/laws.FnExactPartOf", spec := "fnExactPartOf", named := ["loop.example/g00758/impl.limits"], apart := false, laid := [("loop.example/g00758/impl.limits", laid_loop_example_g00758_impl_limits)] }
def FnExactPartOfSaid : Prop := fnExactPartOfRow.holds Tryd.pinned (OpenSpec.ofChange fnExactPartOfSpec)

/-- ITS FALSE NEIGHBOUR: 'it returns false'. Refute it at one input. -/
def fnExactPartOfWrong : ChangeSpec := { name := "fnExactPartOf", vars := ["loop.example/g00758/impl.limits"], fn := fun _ => fun
  | [d1, d2, d3, d4, g1] => { results := [.lit (.bool false)], args := [d1, d2, d3, d4], vars := [g1] }
  | _ => none }
def FnExactPartOfWrongFalsely : Prop := fnExactPartOfRow.holds Tryd.pinned (OpenSpec.ofChange fnExactPartOfWrong)

/-- 'laws.FnExactStepsIn': WHATEVER THE INPUT: true; the input reads as it did. -/
def fnExactStepsInSpec : ChangeSpec := { name := "fnExactStepsIn", vars := ["loop.example/g00758/impl.limits"], fn := fun _ => fun
  | [d1, d2, g1] => { results := [.lit (.bool true)], args := [d1, d2], vars := [g1] }
  | _ => none }
def fnExactStepsInRow : OpenClaim := { program := "ytfbpcdmpkbjifaadoor", sum := "1e9dd228841233c8acb2bb7097305e080f9c549d09fc5f59911f5b82ff5f60ac", func := "loop.example/g00758/laws.FnExactStepsIn", spec := "fnExactStepsIn", named := ["loop.example/g00758/impl.limits"], apart := false, laid := [("loop.example/g00758/impl.limits", laid_loop_example_g00758_impl_limits)] }
def FnExactStepsInSaid : Prop := fnExactStepsInRow.holds Tryd.pinned (OpenSpec.ofChange fnExactStepsInSpec)

/-- ITS FALSE NEIGHBOUR: 'it returns false'. Refute it at one input. -/
def fnExactStepsInWrong : ChangeSpec := { name := "fnExactStepsIn", vars := ["loop.example/g00758/impl.limits"], fn := fun _ => fun
  | [d1, d2, g1] => { results := [.lit (.bool false)], args := [d1, d2], vars := [g1] }
  | _ => none }
def FnExactStepsInWrongFalsely : Prop := fnExactStepsInRow.holds Tryd.pinned (OpenSpec.ofChange fnExactStepsInWrong)

/-- 'laws.FnExactAheadOf': WHATEVER THE INPUT: true; the input reads as it did. -/
def fnExactAheadOfSpec : ChangeSpec := { name := "fnExactAheadOf", vars := ["loop.example/g00758/impl.limits"], fn := fun _ => fun
  | [d1, d2, d3, d4, g1] => { results := [.lit (.bool true)], args := [d1, d2, d3, d4], vars := [g1] }
  | _ => none }
def fnExactAheadOfRow : OpenClaim := { program := "ytfbpcdmpkbjifaadoor", sum := "1e9dd228841233c8acb2bb7097305e080f9c549d09fc5f59911f5b82ff5f60ac", func := "loop.example/g00758/laws.FnExactAheadOf", spec := "fnExactAheadOf", named := ["loop.example/g00758/impl.limits"], apart := false, laid := [("loop.example/g00758/impl.limits", laid_loop_example_g00758_impl_limits)] }
def FnExactAheadOfSaid : Prop := fnExactAheadOfRow.holds Tryd.pinned (OpenSpec.ofChange fnExactAheadOfSpec)

/-- ITS FALSE NEIGHBOUR: 'it returns false'. Refute it at one input. -/
def fnExactAheadOfWrong : ChangeSpec := { name := "fnExactAheadOf", vars := ["loop.example/g00758/impl.limits"], fn := fun _ => fun
  | [d1, d2, d3, d4, g1] => { results := [.lit (.bool false)], args := [d1, d2, d3, d4], vars := [g1] }
  | _ => none }
def FnExactAheadOfWrongFalsely : Prop := fnExactAheadOfRow.holds Tryd.pinned (OpenSpec.ofChange fnExactAheadOfWrong)

/-- 'laws.FnExactRacesIn': WHATEVER THE INPUT: true; the input reads as it did. -/
def fnExactRacesInSpec : ChangeSpec := { name := "fnExactRacesIn", vars := ["loop.example/g00758/impl.limits"], fn := fun _ => fun
  | [d1, d2, d3, g1] => { results := [.lit (.bool true)], args := [d1, d2, d3], vars := [g1] }
  | _ => none }
def fnExactRacesInRow : OpenClaim := { program := "ytfbpcdmpkbjifaadoor", sum := "1e9dd228841233c8acb2bb7097305e080f9c549d09fc5f59911f5b82ff5f60ac", func := "loop.example/g00758/laws.FnExactRacesIn", spec := "fnExactRacesIn", named := ["loop.example/g00758/impl.limits"], apart := false, laid := [("loop.example/g00758/impl.limits", laid_loop_example_g00758_impl_limits)] }
def FnExactRacesInSaid : Prop := fnExactRacesInRow.holds Tryd.pinned (OpenSpec.ofChange fnExactRacesInSpec)

/-- ITS FALSE NEIGHBOUR: 'it returns false'. Refute it at one input. -/
def fnExactRacesInWrong : ChangeSpec := { name := "fnExactRacesIn", vars := ["loop.example/g00758/impl.limits"], fn := fun _ => fun
  | [d1, d2, d3, g1] => { results := [.lit (.bool false)], args := [d1, d2, d3], vars := [g1] }
  | _ => none }
def FnExactRacesInWrongFalsely : Prop := fnExactRacesInRow.holds Tryd.pinned (OpenSpec.ofChange fnExactRacesInWrong)

/-- 'laws.FnExactIsWave': WHATEVER THE INPUT: true; the input reads as it did. -/
def fnExactIsWaveSpec : ChangeSpec := { name := "fnExactIsWave", vars := ["loop.example/g00758/impl.limits"], fn := fun _ => fun
  | [d1, d2, d3, g1] => { results := [.lit (.bool true)], args := [d1, d2, d3], vars := [g1] }
  | _ => none }
def fnExactIsWaveRow : OpenClaim := { program := "ytfbpcdmpkbjifaadoor", sum := "1e9dd228841233c8acb2bb7097305e080f9c549d09fc5f59911f5b82ff5f60ac", func := "loop.example/g00758/laws.FnExactIsWave", spec := "fnExactIsWave", named := ["loop.example/g00758/impl.limits"], apart := false, laid := [("loop.example/g00758/impl.limits", laid_loop_example_g00758_impl_limits)] }
def FnExactIsWaveSaid : Prop := fnExactIsWaveRow.holds Tryd.pinned (OpenSpec.ofChange fnExactIsWaveSpec)

/-- ITS FALSE NEIGHBOUR: 'it returns false'. Refute it at one input. -/
def fnExactIsWaveWrong : ChangeSpec := { name := "fnExactIsWave", vars := ["loop.example/g00758/impl.limits"], fn := fun _ => fun
  | [d1, d2, d3, g1] => { results := [.lit (.bool false)], args := [d1, d2, d3], vars := [g1] }
  | _ => none }
def FnExactIsWaveWrongFalsely : Prop := fnExactIsWaveRow.holds Tryd.pinned (OpenSpec.ofChange fnExactIsWaveWrong)

/-- 'laws.FnExactCellFor': WHATEVER THE INPUT: true; the input reads as it did. -/
def fnExactCellForSpec : ChangeSpec := { name := "fnExactCellFor", vars := ["loop.example/g00758/impl.limits"], fn := fun _ => fun
  | [d1, d2, d3, d4, d5, g1] => { results := [.lit (.bool true)], args := [d1, d2, d3, d4, d5], vars := [g1] }
  | _ => none }
def fnExactCellForRow : OpenClaim := { program := "ytfbpcdmpkbjifaadoor", sum := "1e9dd228841233c8acb2bb7097305e080f9c549d09fc5f59911f5b82ff5f60ac", func := "loop.example/g00758/laws.FnExactCellFor", spec := "fnExactCellFor", unfollowed := true, recurses := true, named := ["loop.example/g00758/impl.limits"], apart := false, laid := [("loop.example/g00758/impl.limits", laid_loop_example_g00758_impl_limits)] }
def FnExactCellForSaid : Prop := fnExactCellForRow.holds Tryd.pinned (OpenSpec.ofChange fnExactCellForSpec)

/-- ITS FALSE NEIGHBOUR: 'it returns false'. Refute it at one input. -/
def fnExactCellForWrong : ChangeSpec := { name := "fnExactCellFor", vars := ["loop.example/g00758/impl.limits"], fn := fun _ => fun
  | [d1, d2, d3, d4, d5, g1] => { results := [.lit (.bool false)], args := [d1, d2, d3, d4, d5], vars := [g1] }
  | _ => none }
def FnExactCellForWrongFalsely : Prop := fnExactCellForRow.holds Tryd.pinned (OpenSpec.ofChange fnExactCellForWrong)

/-- 'laws.FnExactFillChart': WHATEVER THE INPUT: true; the input reads as it did. -/
def fnExactFillChartSpec : ChangeSpec := { name := "fnExactFillChart", vars := ["loop.example/g00758/impl.limits"], fn := fun _ => fun
  | [d1, d2, g1] => { results := [.lit (.bool true)], args := [d1, d2], vars := [g1] }
  | _ => none }
def fnExactFillChartRow : OpenClaim := { program := "ytfbpcdmpkbjifaadoor", sum := "1e9dd228841233c8acb2bb7097305e080f9c549d09fc5f59911f5b82ff5f60ac", func := "loop.example/g00758/laws.FnExactFillChart", spec := "fnExactFillChart", unfollowed := true, recurses := true, named := ["loop.example/g00758/impl.limits"], apart := false, laid := [("loop.example/g00758/impl.limits", laid_loop_example_g00758_impl_limits)] }
def FnExactFillChartSaid : Prop := fnExactFillChartRow.holds Tryd.pinned (OpenSpec.ofChange fnExactFillChartSpec)

/-- ITS FALSE NEIGHBOUR: 'it returns false'. Refute it at one input. -/
def fnExactFillChartWrong : ChangeSpec := { name := "fnExactFillChart", vars := ["loop.example/g00758/impl.limits"], fn := fun _ => fun
  | [d1, d2, g1] => { results := [.lit (.bool false)], args := [d1, d2], vars := [g1] }
  | _ => none }
def FnExactFillChartWrongFalsely : Prop := fnExactFillChartRow.holds Tryd.pinned (OpenSpec.ofChange fnExactFillChartWrong)

/-- 'laws.FnExactAccepts': WHATEVER THE INPUT: true; the input reads as it did. -/
def fnExactAcceptsSpec : ChangeSpec := { name := "fnExactAccepts", vars := ["loop.example/g00758/impl.limits"], fn := fun _ => fun
  | [d1, d2, g1] => { results := [.lit (.bool true)], args := [d1, d2], vars := [g1] }
  | _ => none }
def fnExactAcceptsRow : OpenClaim := { program := "ytfbpcdmpkbjifaadoor", sum := "1e9dd228841233c8acb2bb7097305e080f9c549d09fc5f59911f5b82ff5f60ac", func := "loop.example/g00758/laws.FnExactAccepts", spec := "fnExactAccepts", unfollowed := true, recurses := true, named := ["loop.example/g00758/impl.limits"], apart := false, laid := [("loop.example/g00758/impl.limits", laid_loop_example_g00758_impl_limits)] }
def FnExactAcceptsSaid : Prop := fnExactAcceptsRow.holds Tryd.pinned (OpenSpec.ofChange fnExactAcceptsSpec)

/-- ITS FALSE NEIGHBOUR: 'it returns false'. Refute it at one input. -/
def fnExactAcceptsWrong : ChangeSpec := { name := "fnExactAccepts", vars := ["loop.example/g00758/impl.limits"], fn := fun _ => fun
  | [d1, d2, g1] => { results := [.lit (.bool false)], args := [d1, d2], vars := [g1] }
  | _ => none }
def FnExactAcceptsWrongFalsely : Prop := fnExactAcceptsRow.holds Tryd.pinned (OpenSpec.ofChange fnExactAcceptsWrong)

/-- 'laws.FnCells': WHATEVER THE INPUT: true; the input reads as it did. -/
def fnCellsSpec : ChangeSpec := { name := "fnCells", vars := ["loop.example/g00758/impl.limits"], fn := fun _ => fun
  | [d1, d2, g1] => { results := [.lit (.bool true)], args := [d1, d2], vars := [g1] }
  | _ => none }
def fnCellsRow : OpenClaim := { program := "ytfbpcdmpkbjifaadoor", sum := "1e9dd228841233c8acb2bb7097305e080f9c549d09fc5f59911f5b82ff5f60ac", func := "loop.example/g00758/laws.FnCells", spec := "fnCells", unfollowed := true, recurses := true, named := ["loop.example/g00758/impl.limits"], apart := false, laid := [("loop.example/g00758/impl.limits", laid_loop_example_g00758_impl_limits)] }
def FnCellsSaid : Prop := fnCellsRow.holds Tryd.pinned (OpenSpec.ofChange fnCellsSpec)

/-- ITS FALSE NEIGHBOUR: 'it returns false'. Refute it at one input. -/
def fnCellsWrong : ChangeSpec := { name := "fnCells", vars := ["loop.example/g00758/impl.limits"], fn := fun _ => fun
  | [d1, d2, g1] => { results := [.lit (.bool false)], args := [d1, d2], vars := [g1] }
  | _ => none }
def FnCellsWrongFalsely : Prop := fnCellsRow.holds Tryd.pinned (OpenSpec.ofChange fnCellsWrong)

/- THE SECOND FORM. 'bulk': how many values and letters a reading holds, each counted each time it is reached (what is shared counts as often as it is met; a slice's spare places count too). A statement '..UptoSaid' is the law's where the arguments, and the package variables that the reading takes, are together of bulk at most 1048576: NARROWER than '..Said'. Prove '..Said' where nothing that the law and all that it calls make is longer than what came in: it says more and counts as full. Else prove '..UptoSaid'. A law counts once. -/
mutual
def uptoBulk {H : Type} : DataW H → Nat
  | .lit (.string bytes) => bytes.length + 1
  | .lit _ => 1
  | .nil => 1
  | .ptr d => uptoBulk d + 1
  | .slice elems spare => uptoBulkAll elems + uptoBulkAll spare + 1
  | .agg parts => uptoBulkAll parts + 1
  | .iface _ d => uptoBulk d + 1
  | .map entries => uptoBulkEntries entries + 1
  | .held _ => 1
def uptoBulkAll {H : Type} : List (DataW H) → Nat
  | [] => 0
  | d :: r => uptoBulk d + uptoBulkAll r
def uptoBulkEntries {H : Type} : List (Lit × DataW H) → Nat
  | [] => 0
  | x :: r => uptoBulkEntry x + uptoBulkEntries r
def uptoBulkEntry {H : Type} : Lit × DataW H → Nat
  | (.string bytes, d) => bytes.length + uptoBulk d + 1
  | (_, d) => uptoBulk d + 1
 end
def uptoSmall : (H : Type) → List (DataW H) → Bool := fun _ ds => decide (uptoBulkAll ds ≤ 1048576)
def OpenSpec.upto (s : _root_.Go.ChangeSpec) : _root_.Go.OpenSpec := { _root_.Go.OpenSpec.ofChange s with cond := some uptoSmall }

/-- 'laws.FnExactPartOf', WHERE WHAT IT READS IS OF BULK AT MOST 1048576: true; the input reads as it did. -/
def fnExactPartOfUptoRow : OpenClaim := { program := "ytfbpcdmpkbjifaadoor", sum := "1e9dd228841233c8acb2bb7097305e080f9c549d09fc5f59911f5b82ff5f60ac", func := "loop.example/g00758/laws.FnExactPartOf", spec := "fnExactPartOf", named := ["loop.example/g00758/impl.limits"], apart := false, laid := [("loop.example/g00758/impl.limits", laid_loop_example_g00758_impl_limits)], narrowed := true }
def FnExactPartOfUptoSaid : Prop := fnExactPartOfUptoRow.holds Tryd.pinned (OpenSpec.upto fnExactPartOfSpec)

/-- 'laws.FnExactStepsIn', WHERE WHAT IT READS IS OF BULK AT MOST 1048576: true; the input reads as it did. -/
def fnExactStepsInUptoRow : OpenClaim := { program := "ytfbpcdmpkbjifaadoor", sum := "1e9dd228841233c8acb2bb7097305e080f9c549d09fc5f59911f5b82ff5f60ac", func := "loop.example/g00758/laws.FnExactStepsIn", spec := "fnExactStepsIn", named := ["loop.example/g00758/impl.limits"], apart := false, laid := [("loop.example/g00758/impl.limits", laid_loop_example_g00758_impl_limits)], narrowed := true }
def FnExactStepsInUptoSaid : Prop := fnExactStepsInUptoRow.holds Tryd.pinned (OpenSpec.upto fnExactStepsInSpec)

/-- 'laws.FnExactAheadOf', WHERE WHAT IT READS IS OF BULK AT MOST 1048576: true; the input reads as it did. -/
def fnExactAheadOfUptoRow : OpenClaim := { program := "ytfbpcdmpkbjifaadoor", sum := "1e9dd228841233c8acb2bb7097305e080f9c549d09fc5f59911f5b82ff5f60ac", func := "loop.example/g00758/laws.FnExactAheadOf", spec := "fnExactAheadOf", named := ["loop.example/g00758/impl.limits"], apart := false, laid := [("loop.example/g00758/impl.limits", laid_loop_example_g00758_impl_limits)], narrowed := true }
def FnExactAheadOfUptoSaid : Prop := fnExactAheadOfUptoRow.holds Tryd.pinned (OpenSpec.upto fnExactAheadOfSpec)

/-- 'laws.FnExactRacesIn', WHERE WHAT IT READS IS OF BULK AT MOST 1048576: true; the input reads as it did. -/
def fnExactRacesInUptoRow : OpenClaim := { program := "ytfbpcdmpkbjifaadoor", sum := "1e9dd228841233c8acb2bb7097305e080f9c549d09fc5f59911f5b82ff5f60ac", func := "loop.example/g00758/laws.FnExactRacesIn", spec := "fnExactRacesIn", named := ["loop.example/g00758/impl.limits"], apart := false, laid := [("loop.example/g00758/impl.limits", laid_loop_example_g00758_impl_limits)], narrowed := true }
def FnExactRacesInUptoSaid : Prop := fnExactRacesInUptoRow.holds Tryd.pinned (OpenSpec.upto fnExactRacesInSpec)

/-- 'laws.FnExactIsWave', WHERE WHAT IT READS IS OF BULK AT MOST 1048576: true; the input reads as it did. -/
def fnExactIsWaveUptoRow : OpenClaim := { program := "ytfbpcdmpkbjifaadoor", sum := "1e9dd228841233c8acb2bb7097305e080f9c549d09fc5f59911f5b82ff5f60ac", func := "loop.example/g00758/laws.FnExactIsWave", spec := "fnExactIsWave", named := ["loop.example/g00758/impl.limits"], apart := false, laid := [("loop.example/g00758/impl.limits", laid_loop_example_g00758_impl_limits)], narrowed := true }
def FnExactIsWaveUptoSaid : Prop := fnExactIsWaveUptoRow.holds Tryd.pinned (OpenSpec.upto fnExactIsWaveSpec)

/-- 'laws.FnExactCellFor', WHERE WHAT IT READS IS OF BULK AT MOST 1048576: true; the input reads as it did. -/
def fnExactCellForUptoRow : OpenClaim := { program := "ytfbpcdmpkbjifaadoor", sum := "1e9dd228841233c8acb2bb7097305e080f9c549d09fc5f59911f5b82ff5f60ac", func := "loop.example/g00758/laws.FnExactCellFor", spec := "fnExactCellFor", unfollowed := true, recurses := true, named := ["loop.example/g00758/impl.limits"], apart := false, laid := [("loop.example/g00758/impl.limits", laid_loop_example_g00758_impl_limits)], narrowed := true }
def FnExactCellForUptoSaid : Prop := fnExactCellForUptoRow.holds Tryd.pinned (OpenSpec.upto fnExactCellForSpec)

/-- 'laws.FnExactFillChart', WHERE WHAT IT READS IS OF BULK AT MOST 1048576: true; the input reads as it did. -/
def fnExactFillChartUptoRow : OpenClaim := { program := "ytfbpcdmpkbjifaadoor", sum := "1e9dd228841233c8acb2bb7097305e080f9c549d09fc5f59911f5b82ff5f60ac", func := "loop.example/g00758/laws.FnExactFillChart", spec := "fnExactFillChart", unfollowed := true, recurses := true, named := ["loop.example/g00758/impl.limits"], apart := false, laid := [("loop.example/g00758/impl.limits", laid_loop_example_g00758_impl_limits)], narrowed := true }
def FnExactFillChartUptoSaid : Prop := fnExactFillChartUptoRow.holds Tryd.pinned (OpenSpec.upto fnExactFillChartSpec)

/-- 'laws.FnExactAccepts', WHERE WHAT IT READS IS OF BULK AT MOST 1048576: true; the input reads as it did. -/
def fnExactAcceptsUptoRow : OpenClaim := { program := "ytfbpcdmpkbjifaadoor", sum := "1e9dd228841233c8acb2bb7097305e080f9c549d09fc5f59911f5b82ff5f60ac", func := "loop.example/g00758/laws.FnExactAccepts", spec := "fnExactAccepts", unfollowed := true, recurses := true, named := ["loop.example/g00758/impl.limits"], apart := false, laid := [("loop.example/g00758/impl.limits", laid_loop_example_g00758_impl_limits)], narrowed := true }
def FnExactAcceptsUptoSaid : Prop := fnExactAcceptsUptoRow.holds Tryd.pinned (OpenSpec.upto fnExactAcceptsSpec)

/-- 'laws.FnCells', WHERE WHAT IT READS IS OF BULK AT MOST 1048576: true; the input reads as it did. -/
def fnCellsUptoRow : OpenClaim := { program := "ytfbpcdmpkbjifaadoor", sum := "1e9dd228841233c8acb2bb7097305e080f9c549d09fc5f59911f5b82ff5f60ac", func := "loop.example/g00758/laws.FnCells", spec := "fnCells", unfollowed := true, recurses := true, named := ["loop.example/g00758/impl.limits"], apart := false, laid := [("loop.example/g00758/impl.limits", laid_loop_example_g00758_impl_limits)], narrowed := true }
def FnCellsUptoSaid : Prop := fnCellsUptoRow.holds Tryd.pinned (OpenSpec.upto fnCellsSpec)

end Rows
end Go.Proofs.YtfbpcdmpkbjifaaDoor
