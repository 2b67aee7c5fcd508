/-
  NARROWER THAN 'FOR EVERY INPUT', by the rows' own cells (each row's printed sentence says how): FnGrammarText: laid · FnExactNullableOf: laid · FnExactProductiveOf: laid · FnExactReachedOf: laid · FnExactUsefulOf: laid · FnExactGrowingOf: laid · FnExactIsFinite: laid · FnExactLeastLong: laid · FnExactIsUseful: laid.
  DERIVED. THE GIVEN ROWS OF THIS SEAT. 9 by the template 'for every input the law returns true; each argument reads behind the call as it read before'; 0 by the template 'total and deterministic' (their statements: YtacehfjhpnplbaaDoorTotals.lean).
  GIVEN WITH THE SEED: the statements are not yours to turn. If you find one false, say at which input.
  Laid BY PROGRAM, IN A SANDBOX (cutbox-rows.mjs): the forced cells as the released guide's own fill.sh prints them over the translation bfc1315685369892… (all of the seat's roots in one cut). By AI agents, Wed Nov 11 2026. No macro, syntax, notation, axiom, sorry.
-/
import Derived.Test.YtacehfjhpnplbaaDoorChecked
import GoSem.Claim
import GoSem.ClaimJoined
import GoSem.ClaimMapViews
import Derived.JoinedTies
import Derived.KernelRfl
namespace Go.Proofs.YtacehfjhpnplbaaDoor
/- THE CELL 'sum', in the pinned program and in every row, IS THE sha256 OF THE DUMP (.gsa) THAT YtacehfjhpnplbaaDoorProg.lean LOADS. Nothing in Lean hashes anything: it is a label: what it is worth is what the hold of that sum in a sandbox is worth. -/
noncomputable def Tryd.pinned : Pinned := { name := "ytacehfjhpnplbaadoor", sum := "bfc1315685369892ea19919718941a53cacd93f4295ee7cc4b216654f6892a00", checked := Tryd.checked }
namespace Rows
def none {H : Type} : Left H := { results := [], args := [] }

/- WHAT THE LISTED PACKAGE-LEVEL VARIABLES READ AS WHEN THE CALL BEGINS. Each datum BY PROGRAM (the guide's laid-datum.mjs) off the statement by which the dump's own 'gosem.cut.vars' lays the variable. In a bare row this is a premise. The card (YtacehfjhpnplbaaDoorCards.lean) ties it to the program's text. -/
def laid_loop_example_g00758_impl_limits {H : Type} : DataW H := .agg [.agg [.lit (.int .i64 1), .lit (.int .i64 6)], .agg [.lit (.int .i64 1), .lit (.int .i64 4)], .agg [.lit (.int .i64 0), .lit (.int .i64 16)], .agg [.lit (.int .i64 0), .lit (.int .i64 4)], .agg [.lit (.int .i64 0), .lit (.int .i64 10)]]
def laid_loop_example_g00758_impl_nonLetters {H : Type} : DataW H := .agg [.lit (.int .u8 83), .lit (.int .u8 65), .lit (.int .u8 66), .lit (.int .u8 67), .lit (.int .u8 68), .lit (.int .u8 69)]
def laid_loop_example_g00758_impl_tokLetters {H : Type} : DataW H := .agg [.lit (.int .u8 97), .lit (.int .u8 98), .lit (.int .u8 99), .lit (.int .u8 100)]

/-- 'laws.FnGrammarText': WHATEVER THE INPUT: true; the input reads as it did. -/
def fnGrammarTextSpec : ChangeSpec := { name := "fnGrammarText", vars := ["loop.example/g00758/impl.limits", "loop.example/g00758/impl.nonLetters", "loop.example/g00758/impl.tokLetters"], fn := fun _ => fun
  | [d1, d2, g1, g2, g3] => { results := [.lit (.bool true)], args := [d1, d2], vars := [g1, g2, g3] }
  | _ => none }
def fnGrammarTextRow : OpenClaim := { program := "ytacehfjhpnplbaadoor", sum := "bfc1315685369892ea19919718941a53cacd93f4295ee7cc4b216654f6892a00", func := "loop.example/g00758/laws.FnGrammarText", spec := "fnGrammarText", unfollowed := true, recurses := true, named := ["loop.example/g00758/impl.limits", "loop.example/g00758/impl.nonLetters", "loop.example/g00758/impl.tokLetters"], apart := false, laid := [("loop.example/g00758/impl.limits", laid_loop_example_g00758_impl_limits), ("loop.example/g00758/impl.nonLetters", laid_loop_example_g00758_impl_nonLetters), ("loop.example/g00758/impl.tokLetters", laid_loop_example_g00758_impl_tokLetters)] }
def FnGrammarTextSaid : Prop := fnGrammarTextRow.holds Tryd.pinned (OpenSpec.ofChange fnGrammarTextSpec)

/-- ITS FALSE NEIGHBOUR: 'it returns false'. Refute it at one input. -/
def fnGrammarTextWrong : ChangeSpec := { name := "fnGrammarText", vars := ["loop.example/g00758/impl.limits", "loop.example/g00758/impl.nonLetters", "loop.example/g00758/impl.tokLetters"], fn := fun _ => fun
  | [d1, d2, g1, g2, g3] => { results := [.lit (.bool false)], args := [d1, d2], vars := [g1, g2, g3] }
  | _ => none }
def FnGrammarTextWrongFalsely : Prop := fnGrammarTextRow.holds Tryd.pinned (OpenSpec.ofChange fnGrammarTextWrong)

/-- 'laws.FnExactNullableOf': WHATEVER THE INPUT: true; the input reads as it did. -/
def fnExactNullableOfSpec : ChangeSpec := { name := "fnExactNullableOf", vars := ["loop.example/g00758/impl.limits"], fn := fun _ => fun
  | [d, g1] => { results := [.lit (.bool true)], args := [d], vars := [g1] }
  | _ => none }
def fnExactNullableOfRow : OpenClaim := { program := "ytacehfjhpnplbaadoor", sum := "bfc1315685369892ea19919718941a53cacd93f4295ee7cc4b216654f6892a00", func := "loop.example/g00758/laws.FnExactNullableOf", spec := "fnExactNullableOf", unfollowed := true, recurses := true, named := ["loop.example/g00758/impl.limits"], apart := false, laid := [("loop.example/g00758/impl.limits", laid_loop_example_g00758_impl_limits)] }
def FnExactNullableOfSaid : Prop := fnExactNullableOfRow.holds Tryd.pinned (OpenSpec.ofChange fnExactNullableOfSpec)

/-- ITS FALSE NEIGHBOUR: 'it returns false'. Refute it at one input. -/
def fnExactNullableOfWrong : ChangeSpec := { name := "fnExactNullableOf", vars := ["loop.example/g00758/impl.limits"], fn := fun _ => fun
  | [d, g1] => { results := [.lit (.bool false)], args := [d], vars := [g1] }
  | _ => none }
def FnExactNullableOfWrongFalsely : Prop := fnExactNullableOfRow.holds Tryd.pinned (OpenSpec.ofChange fnExactNullableOfWrong)

/-- 'laws.FnExactProductiveOf': WHATEVER THE INPUT: true; the input reads as it did. -/
def fnExactProductiveOfSpec : ChangeSpec := { name := "fnExactProductiveOf", vars := ["loop.example/g00758/impl.limits"], fn := fun _ => fun
  | [d, g1] => { results := [.lit (.bool true)], args := [d], vars := [g1] }
  | _ => none }
def fnExactProductiveOfRow : OpenClaim := { program := "ytacehfjhpnplbaadoor", sum := "bfc1315685369892ea19919718941a53cacd93f4295ee7cc4b216654f6892a00", func := "loop.example/g00758/laws.FnExactProductiveOf", spec := "fnExactProductiveOf", unfollowed := true, recurses := true, named := ["loop.example/g00758/impl.limits"], apart := false, laid := [("loop.example/g00758/impl.limits", laid_loop_example_g00758_impl_limits)] }
def FnExactProductiveOfSaid : Prop := fnExactProductiveOfRow.holds Tryd.pinned (OpenSpec.ofChange fnExactProductiveOfSpec)

/-- ITS FALSE NEIGHBOUR: 'it returns false'. Refute it at one input. -/
def fnExactProductiveOfWrong : ChangeSpec := { name := "fnExactProductiveOf", vars := ["loop.example/g00758/impl.limits"], fn := fun _ => fun
  | [d, g1] => { results := [.lit (.bool false)], args := [d], vars := [g1] }
  | _ => none }
def FnExactProductiveOfWrongFalsely : Prop := fnExactProductiveOfRow.holds Tryd.pinned (OpenSpec.ofChange fnExactProductiveOfWrong)

/-- 'laws.FnExactReachedOf': WHATEVER THE INPUT: true; the input reads as it did. -/
def fnExactReachedOfSpec : ChangeSpec := { name := "fnExactReachedOf", vars := ["loop.example/g00758/impl.limits"], fn := fun _ => fun
  | [d, g1] => { results := [.lit (.bool true)], args := [d], vars := [g1] }
  | _ => none }
def fnExactReachedOfRow : OpenClaim := { program := "ytacehfjhpnplbaadoor", sum := "bfc1315685369892ea19919718941a53cacd93f4295ee7cc4b216654f6892a00", func := "loop.example/g00758/laws.FnExactReachedOf", spec := "fnExactReachedOf", unfollowed := true, recurses := true, named := ["loop.example/g00758/impl.limits"], apart := false, laid := [("loop.example/g00758/impl.limits", laid_loop_example_g00758_impl_limits)] }
def FnExactReachedOfSaid : Prop := fnExactReachedOfRow.holds Tryd.pinned (OpenSpec.ofChange fnExactReachedOfSpec)

/-- ITS FALSE NEIGHBOUR: 'it returns false'. Refute it at one input. -/
def fnExactReachedOfWrong : ChangeSpec := { name := "fnExactReachedOf", vars := ["loop.example/g00758/impl.limits"], fn := fun _ => fun
  | [d, g1] => { results := [.lit (.bool false)], args := [d], vars := [g1] }
  | _ => none }
def FnExactReachedOfWrongFalsely : Prop := fnExactReachedOfRow.holds Tryd.pinned (OpenSpec.ofChange fnExactReachedOfWrong)

/-- 'laws.FnExactUsefulOf': WHATEVER THE INPUT: true; the input reads as it did. -/
def fnExactUsefulOfSpec : ChangeSpec := { name := "fnExactUsefulOf", vars := ["loop.example/g00758/impl.limits"], fn := fun _ => fun
  | [d, g1] => { results := [.lit (.bool true)], args := [d], vars := [g1] }
  | _ => none }
def fnExactUsefulOfRow : OpenClaim := { program := "ytacehfjhpnplbaadoor", sum := "bfc1315685369892ea19919718941a53cacd93f4295ee7cc4b216654f6892a00", func := "loop.example/g00758/laws.FnExactUsefulOf", spec := "fnExactUsefulOf", unfollowed := true, recurses := true, named := ["loop.example/g00758/impl.limits"], apart := false, laid := [("loop.example/g00758/impl.limits", laid_loop_example_g00758_impl_limits)] }
def FnExactUsefulOfSaid : Prop := fnExactUsefulOfRow.holds Tryd.pinned (OpenSpec.ofChange fnExactUsefulOfSpec)

/-- ITS FALSE NEIGHBOUR: 'it returns false'. Refute it at one input. -/
def fnExactUsefulOfWrong : ChangeSpec := { name := "fnExactUsefulOf", vars := ["loop.example/g00758/impl.limits"], fn := fun _ => fun
  | [d, g1] => { results := [.lit (.bool false)], args := [d], vars := [g1] }
  | _ => none }
def FnExactUsefulOfWrongFalsely : Prop := fnExactUsefulOfRow.holds Tryd.pinned (OpenSpec.ofChange fnExactUsefulOfWrong)

/-- 'laws.FnExactGrowingOf': WHATEVER THE INPUT: true; the input reads as it did. -/
def fnExactGrowingOfSpec : ChangeSpec := { name := "fnExactGrowingOf", vars := ["loop.example/g00758/impl.limits"], fn := fun _ => fun
  | [d, g1] => { results := [.lit (.bool true)], args := [d], vars := [g1] }
  | _ => none }
def fnExactGrowingOfRow : OpenClaim := { program := "ytacehfjhpnplbaadoor", sum := "bfc1315685369892ea19919718941a53cacd93f4295ee7cc4b216654f6892a00", func := "loop.example/g00758/laws.FnExactGrowingOf", spec := "fnExactGrowingOf", unfollowed := true, recurses := true, named := ["loop.example/g00758/impl.limits"], apart := false, laid := [("loop.example/g00758/impl.limits", laid_loop_example_g00758_impl_limits)] }
def FnExactGrowingOfSaid : Prop := fnExactGrowingOfRow.holds Tryd.pinned (OpenSpec.ofChange fnExactGrowingOfSpec)

/-- ITS FALSE NEIGHBOUR: 'it returns false'. Refute it at one input. -/
def fnExactGrowingOfWrong : ChangeSpec := { name := "fnExactGrowingOf", vars := ["loop.example/g00758/impl.limits"], fn := fun _ => fun
  | [d, g1] => { results := [.lit (.bool false)], args := [d], vars := [g1] }
  | _ => none }
def FnExactGrowingOfWrongFalsely : Prop := fnExactGrowingOfRow.holds Tryd.pinned (OpenSpec.ofChange fnExactGrowingOfWrong)

/-- 'laws.FnExactIsFinite': WHATEVER THE INPUT: true; the input reads as it did. -/
def fnExactIsFiniteSpec : ChangeSpec := { name := "fnExactIsFinite", vars := ["loop.example/g00758/impl.limits"], fn := fun _ => fun
  | [d, g1] => { results := [.lit (.bool true)], args := [d], vars := [g1] }
  | _ => none }
def fnExactIsFiniteRow : OpenClaim := { program := "ytacehfjhpnplbaadoor", sum := "bfc1315685369892ea19919718941a53cacd93f4295ee7cc4b216654f6892a00", func := "loop.example/g00758/laws.FnExactIsFinite", spec := "fnExactIsFinite", unfollowed := true, recurses := true, named := ["loop.example/g00758/impl.limits"], apart := false, laid := [("loop.example/g00758/impl.limits", laid_loop_example_g00758_impl_limits)] }
def FnExactIsFiniteSaid : Prop := fnExactIsFiniteRow.holds Tryd.pinned (OpenSpec.ofChange fnExactIsFiniteSpec)

/-- ITS FALSE NEIGHBOUR: 'it returns false'. Refute it at one input. -/
def fnExactIsFiniteWrong : ChangeSpec := { name := "fnExactIsFinite", vars := ["loop.example/g00758/impl.limits"], fn := fun _ => fun
  | [d, g1] => { results := [.lit (.bool false)], args := [d], vars := [g1] }
  | _ => none }
def FnExactIsFiniteWrongFalsely : Prop := fnExactIsFiniteRow.holds Tryd.pinned (OpenSpec.ofChange fnExactIsFiniteWrong)

/-- 'laws.FnExactLeastLong': WHATEVER THE INPUT: true; the input reads as it did. -/
def fnExactLeastLongSpec : ChangeSpec := { name := "fnExactLeastLong", vars := ["loop.example/g00758/impl.limits"], fn := fun _ => fun
  | [d, g1] => { results := [.lit (.bool true)], args := [d], vars := [g1] }
  | _ => none }
def fnExactLeastLongRow : OpenClaim := { program := "ytacehfjhpnplbaadoor", sum := "bfc1315685369892ea19919718941a53cacd93f4295ee7cc4b216654f6892a00", func := "loop.example/g00758/laws.FnExactLeastLong", spec := "fnExactLeastLong", named := ["loop.example/g00758/impl.limits"], apart := false, laid := [("loop.example/g00758/impl.limits", laid_loop_example_g00758_impl_limits)] }
def FnExactLeastLongSaid : Prop := fnExactLeastLongRow.holds Tryd.pinned (OpenSpec.ofChange fnExactLeastLongSpec)

/-- ITS FALSE NEIGHBOUR: 'it returns false'. Refute it at one input. -/
def fnExactLeastLongWrong : ChangeSpec := { name := "fnExactLeastLong", vars := ["loop.example/g00758/impl.limits"], fn := fun _ => fun
  | [d, g1] => { results := [.lit (.bool false)], args := [d], vars := [g1] }
  | _ => none }
def FnExactLeastLongWrongFalsely : Prop := fnExactLeastLongRow.holds Tryd.pinned (OpenSpec.ofChange fnExactLeastLongWrong)

/-- 'laws.FnExactIsUseful': WHATEVER THE INPUT: true; the input reads as it did. -/
def fnExactIsUsefulSpec : ChangeSpec := { name := "fnExactIsUseful", vars := ["loop.example/g00758/impl.limits"], fn := fun _ => fun
  | [d, g1] => { results := [.lit (.bool true)], args := [d], vars := [g1] }
  | _ => none }
def fnExactIsUsefulRow : OpenClaim := { program := "ytacehfjhpnplbaadoor", sum := "bfc1315685369892ea19919718941a53cacd93f4295ee7cc4b216654f6892a00", func := "loop.example/g00758/laws.FnExactIsUseful", spec := "fnExactIsUseful", unfollowed := true, recurses := true, named := ["loop.example/g00758/impl.limits"], apart := false, laid := [("loop.example/g00758/impl.limits", laid_loop_example_g00758_impl_limits)] }
def FnExactIsUsefulSaid : Prop := fnExactIsUsefulRow.holds Tryd.pinned (OpenSpec.ofChange fnExactIsUsefulSpec)

/-- ITS FALSE NEIGHBOUR: 'it returns false'. Refute it at one input. -/
def fnExactIsUsefulWrong : ChangeSpec := { name := "fnExactIsUseful", vars := ["loop.example/g00758/impl.limits"], fn := fun _ => fun
  | [d, g1] => { results := [.lit (.bool false)], args := [d], vars := [g1] }
  | _ => none }
def FnExactIsUsefulWrongFalsely : Prop := fnExactIsUsefulRow.holds Tryd.pinned (OpenSpec.ofChange fnExactIsUsefulWrong)

/- THE SECOND FORM. 'bulk': how many values and letters a reading holds, each counted each time it is reached (what is shared counts as often as it is met; a slice's spare places count too). A statement '..UptoSaid' is the law's where the arguments, and the package variables that the reading takes, are together of bulk at most 1048576: NARROWER than '..Said'. Prove '..Said' where nothing that the law and all that it calls make is longer than what came in: it says more and counts as full. Else prove '..UptoSaid'. A law counts once. -/
mutual
def uptoBulk {H : Type} : DataW H → Nat
  | .lit (.string bytes) => bytes.length + 1
  | .lit _ => 1
  | .nil => 1
  | .ptr d => uptoBulk d + 1
  | .slice elems spare => uptoBulkAll elems + uptoBulkAll spare + 1
  | .agg parts => uptoBulkAll parts + 1
  | .iface _ d => uptoBulk d + 1
  | .map entries => uptoBulkEntries entries + 1
  | .held _ => 1
def uptoBulkAll {H : Type} : List (DataW H) → Nat
  | [] => 0
  | d :: r => uptoBulk d + uptoBulkAll r
def uptoBulkEntries {H : Type} : List (Lit × DataW H) → Nat
  | [] => 0
  | x :: r => uptoBulkEntry x + uptoBulkEntries r
def uptoBulkEntry {H : Type} : Lit × DataW H → Nat
  | (.string bytes, d) => bytes.length + uptoBulk d + 1
  | (_, d) => uptoBulk d + 1
 end
def uptoSmall : (H : Type) → List (DataW H) → Bool := fun _ ds => decide (uptoBulkAll ds ≤ 1048576)
def OpenSpec.upto (s : _root_.Go.ChangeSpec) : _root_.Go.OpenSpec := { _root_.Go.OpenSpec.ofChange s with cond := some uptoSmall }

/-- 'laws.FnGrammarText', WHERE WHAT IT READS IS OF BULK AT MOST 1048576: true; the input reads as it did. -/
def fnGrammarTextUptoRow : OpenClaim := { program := "ytacehfjhpnplbaadoor", sum := "bfc1315685369892ea19919718941a53cacd93f4295ee7cc4b216654f6892a00", func := "loop.example/g00758/laws.FnGrammarText", spec := "fnGrammarText", unfollowed := true, recurses := true, named := ["loop.example/g00758/impl.limits", "loop.example/g00758/impl.nonLetters", "loop.example/g00758/impl.tokLetters"], apart := false, laid := [("loop.example/g00758/impl.limits", laid_loop_example_g00758_impl_limits), ("loop.example/g00758/impl.nonLetters", laid_loop_example_g00758_impl_nonLetters), ("loop.example/g00758/impl.tokLetters", laid_loop_example_g00758_impl_tokLetters)], narrowed := true }
def FnGrammarTextUptoSaid : Prop := fnGrammarTextUptoRow.holds Tryd.pinned (OpenSpec.upto fnGrammarTextSpec)

/-- 'laws.FnExactNullableOf', WHERE WHAT IT READS IS OF BULK AT MOST 1048576: true; the input reads as it did. -/
def fnExactNullableOfUptoRow : OpenClaim := { program := "ytacehfjhpnplbaadoor", sum := "bfc1315685369892ea19919718941a53cacd93f4295ee7cc4b216654f6892a00", func := "loop.example/g00758/laws.FnExactNullableOf", spec := "fnExactNullableOf", unfollowed := true, recurses := true, named := ["loop.example/g00758/impl.limits"], apart := false, laid := [("loop.example/g00758/impl.limits", laid_loop_example_g00758_impl_limits)], narrowed := true }
def FnExactNullableOfUptoSaid : Prop := fnExactNullableOfUptoRow.holds Tryd.pinned (OpenSpec.upto fnExactNullableOfSpec)

/-- 'laws.FnExactProductiveOf', WHERE WHAT IT READS IS OF BULK AT MOST 1048576: true; the input reads as it did. -/
def fnExactProductiveOfUptoRow : OpenClaim := { program := "ytacehfjhpnplbaadoor", sum := "bfc1315685369892ea19919718941a53cacd93f4295ee7cc4b216654f6892a00", func := "loop.example/g00758/laws.FnExactProductiveOf", spec := "fnExactProductiveOf", unfollowed := true, recurses := true, named := ["loop.example/g00758/impl.limits"], apart := false, laid := [("loop.example/g00758/impl.limits", laid_loop_example_g00758_impl_limits)], narrowed := true }
def FnExactProductiveOfUptoSaid : Prop := fnExactProductiveOfUptoRow.holds Tryd.pinned (OpenSpec.upto fnExactProductiveOfSpec)

/-- 'laws.FnExactReachedOf', WHERE WHAT IT READS IS OF BULK AT MOST 1048576: true; the input reads as it did. -/
def fnExactReachedOfUptoRow : OpenClaim := { program := "ytacehfjhpnplbaadoor", sum := "bfc1315685369892ea19919718941a53cacd93f4295ee7cc4b216654f6892a00", func := "loop.example/g00758/laws.FnExactReachedOf", spec := "fnExactReachedOf", unfollowed := true, recurses := true, named := ["loop.example/g00758/impl.limits"], apart := false, laid := [("loop.example/g00758/impl.limits", laid_loop_example_g00758_impl_limits)], narrowed := true }
def FnExactReachedOfUptoSaid : Prop := fnExactReachedOfUptoRow.holds Tryd.pinned (OpenSpec.upto fnExactReachedOfSpec)

/-- 'laws.FnExactUsefulOf', WHERE WHAT IT READS IS OF BULK AT MOST 1048576: true; the input reads as it did. -/
def fnExactUsefulOfUptoRow : OpenClaim := { program := "ytacehfjhpnplbaadoor", sum := "bfc1315685369892ea19919718941a53cacd93f4295ee7cc4b216654f6892a00", func := "loop.example/g00758/laws.FnExactUsefulOf", spec := "fnExactUsefulOf", unfollowed := true, recurses := true, named := ["loop.example/g00758/impl.limits"], apart := false, laid := [("loop.example/g00758/impl.limits", laid_loop_example_g00758_impl_limits)], narrowed := true }
def FnExactUsefulOfUptoSaid : Prop := fnExactUsefulOfUptoRow.holds Tryd.pinned (OpenSpec.upto fnExactUsefulOfSpec)

/-- 'laws.FnExactGrowingOf', WHERE WHAT IT READS IS OF BULK AT MOST 1048576: true; the input reads as it did. -/
def fnExactGrowingOfUptoRow : OpenClaim := { program := "ytacehfjhpnplbaadoor", sum := "bfc1315685369892ea19919718941a53cacd93f4295ee7cc4b216654f6892a00", func := "loop.example/g00758/laws.FnExactGrowingOf", spec := "fnExactGrowingOf", unfollowed := true, recurses := true, named := ["loop.example/g00758/impl.limits"], apart := false, laid := [("loop.example/g00758/impl.limits", laid_loop_example_g00758_impl_limits)], narrowed := true }
def FnExactGrowingOfUptoSaid : Prop := fnExactGrowingOfUptoRow.holds Tryd.pinned (OpenSpec.upto fnExactGrowingOfSpec)

/-- 'laws.FnExactIsFinite', WHERE WHAT IT READS IS OF BULK AT MOST 1048576: true; the input reads as it did. -/
def fnExactIsFiniteUptoRow : OpenClaim := { program := "ytacehfjhpnplbaadoor", sum := "bfc1315685369892ea19919718941a53cacd93f4295ee7cc4b216654f6892a00", func := "loop.example/g00758/laws.FnExactIsFinite", spec := "fnExactIsFinite", unfollowed := true, recurses := true, named := ["loop.example/g00758/impl.limits"], apart := false, laid := [("loop.example/g00758/impl.limits", laid_loop_example_g00758_impl_limits)], narrowed := true }
def FnExactIsFiniteUptoSaid : Prop := fnExactIsFiniteUptoRow.holds Tryd.pinned (OpenSpec.upto fnExactIsFiniteSpec)

/-- 'laws.FnExactLeastLong', WHERE WHAT IT READS IS OF BULK AT MOST 1048576: true; the input reads as it did. -/
def fnExactLeastLongUptoRow : OpenClaim := { program := "ytacehfjhpnplbaadoor", sum := "bfc1315685369892ea19919718941a53cacd93f4295ee7cc4b216654f6892a00", func := "loop.example/g00758/laws.FnExactLeastLong", spec := "fnExactLeastLong", named := ["loop.example/g00758/impl.limits"], apart := false, laid := [("loop.example/g00758/impl.limits", laid_loop_example_g00758_impl_limits)], narrowed := true }
def FnExactLeastLongUptoSaid : Prop := fnExactLeastLongUptoRow.holds Tryd.pinned (OpenSpec.upto fnExactLeastLongSpec)

/-- 'laws.FnExactIsUseful', WHERE WHAT IT READS IS OF BULK AT MOST 1048576: true; the input reads as it did. -/
def fnExactIsUsefulUptoRow : OpenClaim := { program := "ytacehfjhpnplbaadoor", sum := "bfc1315685369892ea19919718941a53cacd93f4295ee7cc4b216654f6892a00", func := "loop.example/g00758/laws.FnExactIsUseful", spec := "fnExactIsUseful", unfollowed := true, recurses := true, named := ["loop.example/g00758/impl.limits"], apart := false, laid := [("loop.example/g00758/impl.limits", laid_loop_example_g00758_impl_limits)], narrowed := true }
def FnExactIsUsefulUptoSaid : Prop := fnExactIsUsefulUptoRow.holds Tryd.pinned (OpenSpec.upto fnExactIsUsefulSpec)

end Rows
end Go.Proofs.YtacehfjhpnplbaaDoor
