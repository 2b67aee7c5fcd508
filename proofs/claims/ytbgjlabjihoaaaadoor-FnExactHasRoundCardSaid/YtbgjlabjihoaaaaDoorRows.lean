/-
  NARROWER THAN 'FOR EVERY INPUT', by the rows' own cells (each row's printed sentence says how): FnExactEdgesOf: laid · FnExactChildrenOf: laid · FnExactHasRound: laid · FnExactPackedSize: laid.
  DERIVED. THE GIVEN ROWS OF THIS SEAT. 4 by the template 'for every input the law returns true; each argument reads behind the call as it read before'; 0 by the template 'total and deterministic' (their statements: YtbgjlabjihoaaaaDoorTotals.lean).
  GIVEN WITH THE SEED: the statements are not yours to turn. If you find one false, say at which input.
  Laid BY PROGRAM, IN A SANDBOX (cutbox-rows.mjs): the forced cells as the released guide's own fill.sh prints them over the translation 33018e0e03a7330a… (all of the seat's roots in one cut). By AI agents, Wed Nov 11 2026. No macro, syntax, notation, axiom, sorry.
-/
import Derived.Test.YtbgjlabjihoaaaaDoorChecked
import GoSem.Claim
import GoSem.ClaimJoined
import GoSem.ClaimMapViews
import Derived.JoinedTies
import Derived.KernelRfl
namespace Go.Proofs.YtbgjlabjihoaaaaDoor
/- THE CELL 'sum', in the pinned program and in every row, IS THE sha256 OF THE DUMP (.gsa) THAT YtbgjlabjihoaaaaDoorProg.lean LOADS. Nothing in Lean hashes anything: it is a label: what it is worth is what the hold of that sum in a sandbox is worth. -/
noncomputable def Tryd.pinned : Pinned := { name := "ytbgjlabjihoaaaadoor", sum := "33018e0e03a7330aa36c9d7cecb8e6b1b8c4c4059f58d50804ca036489d11f9f", checked := Tryd.checked }
namespace Rows
def none {H : Type} : Left H := { results := [], args := [] }

/- WHAT THE LISTED PACKAGE-LEVEL VARIABLES READ AS WHEN THE CALL BEGINS. Each datum BY PROGRAM (the guide's laid-datum.mjs) off the statement by which the dump's own 'gosem.cut.vars' lays the variable. In a bare row this is a premise. The card (YtbgjlabjihoaaaaDoorCards.lean) ties it to the program's text. -/
def laid_loop_example_g00758_impl_limits {H : Type} : DataW H := .agg [.agg [.lit (.int .i64 1), .lit (.int .i64 6)], .agg [.lit (.int .i64 1), .lit (.int .i64 4)], .agg [.lit (.int .i64 0), .lit (.int .i64 16)], .agg [.lit (.int .i64 0), .lit (.int .i64 4)], .agg [.lit (.int .i64 0), .lit (.int .i64 10)], .agg [.lit (.int .i64 1), .lit (.int .i64 40)], .agg [.lit (.int .i64 1), .lit (.int .i64 4)], .agg [.lit (.int .i64 0), .lit (.int .i64 200)], .agg [.lit (.int .i64 0), .lit (.int .i64 600)], .agg [.lit (.int .i64 0), .lit (.int .i64 600)]]

/-- 'laws.FnExactEdgesOf': WHATEVER THE INPUT: true; the input reads as it did. -/
def fnExactEdgesOfSpec : ChangeSpec := { name := "fnExactEdgesOf", vars := ["loop.example/g00758/impl.limits"], fn := fun _ => fun
  | [d1, d2, g1] => { results := [.lit (.bool true)], args := [d1, d2], vars := [g1] }
  | _ => none }
def fnExactEdgesOfRow : OpenClaim := { program := "ytbgjlabjihoaaaadoor", sum := "33018e0e03a7330aa36c9d7cecb8e6b1b8c4c4059f58d50804ca036489d11f9f", func := "loop.example/g00758/laws.FnExactEdgesOf", spec := "fnExactEdgesOf", named := ["loop.example/g00758/impl.limits"], apart := false, laid := [("loop.example/g00758/impl.limits", laid_loop_example_g00758_impl_limits)] }
def FnExactEdgesOfSaid : Prop := fnExactEdgesOfRow.holds Tryd.pinned (OpenSpec.ofChange fnExactEdgesOfSpec)

/-- ITS FALSE NEIGHBOUR: 'it returns false'. Refute it at one input. -/
def fnExactEdgesOfWrong : ChangeSpec := { name := "fnExactEdgesOf", vars := ["loop.example/g00758/impl.limits"], fn := fun _ => fun
  | [d1, d2, g1] => { results := [.lit (.bool false)], args := [d1, d2], vars := [g1] }
  | _ => none }
def FnExactEdgesOfWrongFalsely : Prop := fnExactEdgesOfRow.holds Tryd.pinned (OpenSpec.ofChange fnExactEdgesOfWrong)

/-- 'laws.FnExactChildrenOf': WHATEVER THE INPUT: true; the input reads as it did. -/
def fnExactChildrenOfSpec : ChangeSpec := { name := "fnExactChildrenOf", vars := ["loop.example/g00758/impl.limits"], fn := fun _ => fun
  | [d1, d2, d3, g1] => { results := [.lit (.bool true)], args := [d1, d2, d3], vars := [g1] }
  | _ => none }
def fnExactChildrenOfRow : OpenClaim := { program := "ytbgjlabjihoaaaadoor", sum := "33018e0e03a7330aa36c9d7cecb8e6b1b8c4c4059f58d50804ca036489d11f9f", func := "loop.example/g00758/laws.FnExactChildrenOf", spec := "fnExactChildrenOf", named := ["loop.example/g00758/impl.limits"], apart := false, laid := [("loop.example/g00758/impl.limits", laid_loop_example_g00758_impl_limits)] }
def FnExactChildrenOfSaid : Prop := fnExactChildrenOfRow.holds Tryd.pinned (OpenSpec.ofChange fnExactChildrenOfSpec)

/-- ITS FALSE NEIGHBOUR: 'it returns false'. Refute it at one input. -/
def fnExactChildrenOfWrong : ChangeSpec := { name := "fnExactChildrenOf", vars := ["loop.example/g00758/impl.limits"], fn := fun _ => fun
  | [d1, d2, d3, g1] => { results := [.lit (.bool false)], args := [d1, d2, d3], vars := [g1] }
  | _ => none }
def FnExactChildrenOfWrongFalsely : Prop := fnExactChildrenOfRow.holds Tryd.pinned (OpenSpec.ofChange fnExactChildrenOfWrong)

/-- 'laws.FnExactHasRound': WHATEVER THE INPUT: true; the input reads as it did. -/
def fnExactHasRoundSpec : ChangeSpec := { name := "fnExactHasRound", vars := ["loop.example/g00758/impl.limits"], fn := fun _ => fun
  | [d1, d2, g1] => { results := [.lit (.bool true)], args := [d1, d2], vars := [g1] }
  | _ => none }
def fnExactHasRoundRow : OpenClaim := { program := "ytbgjlabjihoaaaadoor", sum := "33018e0e03a7330aa36c9d7cecb8e6b1b8c4c4059f58d50804ca036489d11f9f", func := "loop.example/g00758/laws.FnExactHasRound", spec := "fnExactHasRound", named := ["loop.example/g00758/impl.limits"], apart := false, laid := [("loop.example/g00758/impl.limits", laid_loop_example_g00758_impl_limits)] }
def FnExactHasRoundSaid : Prop := fnExactHasRoundRow.holds Tryd.pinned (OpenSpec.ofChange fnExactHasRoundSpec)

/-- ITS FALSE NEIGHBOUR: 'it returns false'. Refute it at one input. -/
def fnExactHasRoundWrong : ChangeSpec := { name := "fnExactHasRound", vars := ["loop.example/g00758/impl.limits"], fn := fun _ => fun
  | [d1, d2, g1] => { results := [.lit (.bool false)], args := [d1, d2], vars := [g1] }
  | _ => none }
def FnExactHasRoundWrongFalsely : Prop := fnExactHasRoundRow.holds Tryd.pinned (OpenSpec.ofChange fnExactHasRoundWrong)

/-- 'laws.FnExactPackedSize': WHATEVER THE INPUT: true; the input reads as it did. -/
def fnExactPackedSizeSpec : ChangeSpec := { name := "fnExactPackedSize", vars := ["loop.example/g00758/impl.limits"], fn := fun _ => fun
  | [d, g1] => { results := [.lit (.bool true)], args := [d], vars := [g1] }
  | _ => none }
def fnExactPackedSizeRow : OpenClaim := { program := "ytbgjlabjihoaaaadoor", sum := "33018e0e03a7330aa36c9d7cecb8e6b1b8c4c4059f58d50804ca036489d11f9f", func := "loop.example/g00758/laws.FnExactPackedSize", spec := "fnExactPackedSize", named := ["loop.example/g00758/impl.limits"], apart := false, laid := [("loop.example/g00758/impl.limits", laid_loop_example_g00758_impl_limits)] }
def FnExactPackedSizeSaid : Prop := fnExactPackedSizeRow.holds Tryd.pinned (OpenSpec.ofChange fnExactPackedSizeSpec)

/-- ITS FALSE NEIGHBOUR: 'it returns false'. Refute it at one input. -/
def fnExactPackedSizeWrong : ChangeSpec := { name := "fnExactPackedSize", vars := ["loop.example/g00758/impl.limits"], fn := fun _ => fun
  | [d, g1] => { results := [.lit (.bool false)], args := [d], vars := [g1] }
  | _ => none }
def FnExactPackedSizeWrongFalsely : Prop := fnExactPackedSizeRow.holds Tryd.pinned (OpenSpec.ofChange fnExactPackedSizeWrong)

/- THE SECOND FORM. 'bulk': how many values and letters a reading holds, each counted each time it is reached (what is shared counts as often as it is met; a slice's spare places count too). A statement '..UptoSaid' is the law's where the arguments, and the package variables that the reading takes, are together of bulk at most 1048576: NARROWER than '..Said'. Prove '..Said' where nothing that the law and all that it calls make is longer than what came in: it says more and counts as full. Else prove '..UptoSaid'. A law counts once. -/
mutual
def uptoBulk {H : Type} : DataW H → Nat
  | .lit (.string bytes) => bytes.length + 1
  | .lit _ => 1
  | .nil => 1
  | .ptr d => uptoBulk d + 1
  | .slice elems spare => uptoBulkAll elems + uptoBulkAll spare + 1
  | .agg parts => uptoBulkAll parts + 1
  | .iface _ d => uptoBulk d + 1
  | .map entries => uptoBulkEntries entries + 1
  | .held _ => 1
def uptoBulkAll {H : Type} : List (DataW H) → Nat
  | [] => 0
  | d :: r => uptoBulk d + uptoBulkAll r
def uptoBulkEntries {H : Type} : List (Lit × DataW H) → Nat
  | [] => 0
  | x :: r => uptoBulkEntry x + uptoBulkEntries r
def uptoBulkEntry {H : Type} : Lit × DataW H → Nat
  | (.string bytes, d) => bytes.length + uptoBulk d + 1
  | (_, d) => uptoBulk d + 1
 end
def uptoSmall : (H : Type) → List (DataW H) → Bool := fun _ ds => decide (uptoBulkAll ds ≤ 1048576)
def OpenSpec.upto (s : _root_.Go.ChangeSpec) : _root_.Go.OpenSpec := { _root_.Go.OpenSpec.ofChange s with cond := some uptoSmall }

/-- 'laws.FnExactEdgesOf', WHERE WHAT IT READS IS OF BULK AT MOST 1048576: true; the input reads as it did. -/
def fnExactEdgesOfUptoRow : OpenClaim := { program := "ytbgjlabjihoaaaadoor", sum := "33018e0e03a7330aa36c9d7cecb8e6b1b8c4c4059f58d50804ca036489d11f9f", func := "loop.example/g00758/laws.FnExactEdgesOf", spec := "fnExactEdgesOf", named := ["loop.example/g00758/impl.limits"], apart := false, laid := [("loop.example/g00758/impl.limits", laid_loop_example_g00758_impl_limits)], narrowed := true }
def FnExactEdgesOfUptoSaid : Prop := fnExactEdgesOfUptoRow.holds Tryd.pinned (OpenSpec.upto fnExactEdgesOfSpec)

/-- 'laws.FnExactChildrenOf', WHERE WHAT IT READS IS OF BULK AT MOST 1048576: true; the input reads as it did. -/
def fnExactChildrenOfUptoRow : OpenClaim := { program := "ytbgjlabjihoaaaadoor", sum := "33018e0e03a7330aa36c9d7cecb8e6b1b8c4c4059f58d50804ca036489d11f9f", func := "loop.example/g00758/laws.FnExactChildrenOf", spec := "fnExactChildrenOf", named := ["loop.example/g00758/impl.limits"], apart := false, laid := [("loop.example/g00758/impl.limits", laid_loop_example_g00758_impl_limits)], narrowed := true }
def FnExactChildrenOfUptoSaid : Prop := fnExactChildrenOfUptoRow.holds Tryd.pinned (OpenSpec.upto fnExactChildrenOfSpec)

/-- 'laws.FnExactHasRound', WHERE WHAT IT READS IS OF BULK AT MOST 1048576: true; the input reads as it did. -/
def fnExactHasRoundUptoRow : OpenClaim := { program := "ytbgjlabjihoaaaadoor", sum := "33018e0e03a7330aa36c9d7cecb8e6b1b8c4c4059f58d50804ca036489d11f9f", func := "loop.example/g00758/laws.FnExactHasRound", spec := "fnExactHasRound", named := ["loop.example/g00758/impl.limits"], apart := false, laid := [("loop.example/g00758/impl.limits", laid_loop_example_g00758_impl_limits)], narrowed := true }
def FnExactHasRoundUptoSaid : Prop := fnExactHasRoundUptoRow.holds Tryd.pinned (OpenSpec.upto fnExactHasRoundSpec)

/-- 'laws.FnExactPackedSize', WHERE WHAT IT READS IS OF BULK AT MOST 1048576: true; the input reads as it did. -/
def fnExactPackedSizeUptoRow : OpenClaim := { program := "ytbgjlabjihoaaaadoor", sum := "33018e0e03a7330aa36c9d7cecb8e6b1b8c4c4059f58d50804ca036489d11f9f", func := "loop.example/g00758/laws.FnExactPackedSize", spec := "fnExactPackedSize", named := ["loop.example/g00758/impl.limits"], apart := false, laid := [("loop.example/g00758/impl.limits", laid_loop_example_g00758_impl_limits)], narrowed := true }
def FnExactPackedSizeUptoSaid : Prop := fnExactPackedSizeUptoRow.holds Tryd.pinned (OpenSpec.upto fnExactPackedSizeSpec)

end Rows
end Go.Proofs.YtbgjlabjihoaaaaDoor
