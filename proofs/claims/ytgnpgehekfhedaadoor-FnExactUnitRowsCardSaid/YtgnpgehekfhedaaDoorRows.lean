/-
  NARROWER THAN 'FOR EVERY INPUT', by the rows' own cells (each row's printed sentence says how): FnExactBinaryOf: laid · FnExactHelperSays: laid · FnExactUnitPairs: laid · FnExactClosedSet: laid · FnExactUnitRow: laid · FnExactUnitRows: laid · FnExactHasUnitRound: laid · FnDerives: laid.
  DERIVED. THE GIVEN ROWS OF THIS SEAT. 8 by the template 'for every input the law returns true; each argument reads behind the call as it read before'; 0 by the template 'total and deterministic' (their statements: YtgnpgehekfhedaaDoorTotals.lean).
  GIVEN WITH THE SEED: the statements are not yours to turn. If you find one false, say at which input.
  Laid BY PROGRAM, IN A SANDBOX (cutbox-rows.mjs): the forced cells as the released guide's own fill.sh prints them over the translation 27fe7e4f59d5fa54… (all of the seat's roots in one cut). By AI agents, Wed Nov 11 2026. No macro, syntax, notation, axiom, sorry.
-/
import Derived.Test.YtgnpgehekfhedaaDoorChecked
import GoSem.Claim
import GoSem.ClaimJoined
import GoSem.ClaimMapViews
import Derived.JoinedTies
import Derived.KernelRfl
namespace Go.Proofs.YtgnpgehekfhedaaDoor
/- THE CELL 'sum', in the pinned program and in every row, IS THE sha256 OF THE DUMP (.gsa) THAT YtgnpgehekfhedaaDoorProg.lean LOADS. Nothing in Lean hashes anything: it is a label: what it is worth is what the hold of that sum in a sandbox is worth. -/
noncomputable def Tryd.pinned : Pinned := { name := "ytgnpgehekfhedaadoor", sum := "27fe7e4f59d5fa54289812a9b8c22e071741c19978618fbee9814e5c2a8f4b78", checked := Tryd.checked }
namespace Rows
def none {H : Type} : Left H := { results := [], args := [] }

/- WHAT THE LISTED PACKAGE-LEVEL VARIABLES READ AS WHEN THE CALL BEGINS. Each datum BY PROGRAM (the guide's laid-datum.mjs) off the statement by which the dump's own 'gosem.cut.vars' lays the variable. In a bare row this is a premise. The card (YtgnpgehekfhedaaDoorCards.lean) ties it to the program's text. -/
def laid_loop_example_g00758_impl_limits {H : Type} : DataW H := .agg [.agg [.lit (.int .i64 1), .lit (.int .i64 6)], .agg [.lit (.int .i64 1), .lit (.int .i64 4)], .agg [.lit (.int .i64 0), .lit (.int .i64 16)], .agg [.lit (.int .i64 0), .lit (.int .i64 4)], .agg [.lit (.int .i64 0), .lit (.int .i64 10)], .agg [.lit (.int .i64 1), .lit (.int .i64 40)]]

/-- 'laws.FnExactBinaryOf': WHATEVER THE INPUT: true; the input reads as it did. -/
def fnExactBinaryOfSpec : ChangeSpec := { name := "fnExactBinaryOf", vars := ["loop.example/g00758/impl.limits"], fn := fun _ => fun
  | [d, g1] => { results := [.lit (.bool true)], args := [d], vars := [g1] }
  | _ => none }
def fnExactBinaryOfRow : OpenClaim := { program := "ytgnpgehekfhedaadoor", sum := "27fe7e4f59d5fa54289812a9b8c22e071741c19978618fbee9814e5c2a8f4b78", func := "loop.example/g00758/laws.FnExactBinaryOf", spec := "fnExactBinaryOf", unfollowed := true, recurses := true, named := ["loop.example/g00758/impl.limits"], apart := false, laid := [("loop.example/g00758/impl.limits", laid_loop_example_g00758_impl_limits)] }
def FnExactBinaryOfSaid : Prop := fnExactBinaryOfRow.holds Tryd.pinned (OpenSpec.ofChange fnExactBinaryOfSpec)

/-- ITS FALSE NEIGHBOUR: 'it returns false'. Refute it at one input. -/
def fnExactBinaryOfWrong : ChangeSpec := { name := "fnExactBinaryOf", vars := ["loop.example/g00758/impl.limits"], fn := fun _ => fun
  | [d, g1] => { results := [.lit (.bool false)], args := [d], vars := [g1] }
  | _ => none }
def FnExactBinaryOfWrongFalsely : Prop := fnExactBinaryOfRow.holds Tryd.pinned (OpenSpec.ofChange fnExactBinaryOfWrong)

/-- 'laws.FnExactHelperSays': WHATEVER THE INPUT: true; the input reads as it did. -/
def fnExactHelperSaysSpec : ChangeSpec := { name := "fnExactHelperSays", vars := ["loop.example/g00758/impl.limits"], fn := fun _ => fun
  | [d1, d2, g1] => { results := [.lit (.bool true)], args := [d1, d2], vars := [g1] }
  | _ => none }
def fnExactHelperSaysRow : OpenClaim := { program := "ytgnpgehekfhedaadoor", sum := "27fe7e4f59d5fa54289812a9b8c22e071741c19978618fbee9814e5c2a8f4b78", func := "loop.example/g00758/laws.FnExactHelperSays", spec := "fnExactHelperSays", unfollowed := true, recurses := true, named := ["loop.example/g00758/impl.limits"], apart := false, laid := [("loop.example/g00758/impl.limits", laid_loop_example_g00758_impl_limits)] }
def FnExactHelperSaysSaid : Prop := fnExactHelperSaysRow.holds Tryd.pinned (OpenSpec.ofChange fnExactHelperSaysSpec)

/-- ITS FALSE NEIGHBOUR: 'it returns false'. Refute it at one input. -/
def fnExactHelperSaysWrong : ChangeSpec := { name := "fnExactHelperSays", vars := ["loop.example/g00758/impl.limits"], fn := fun _ => fun
  | [d1, d2, g1] => { results := [.lit (.bool false)], args := [d1, d2], vars := [g1] }
  | _ => none }
def FnExactHelperSaysWrongFalsely : Prop := fnExactHelperSaysRow.holds Tryd.pinned (OpenSpec.ofChange fnExactHelperSaysWrong)

/-- 'laws.FnExactUnitPairs': WHATEVER THE INPUT: true; the input reads as it did. -/
def fnExactUnitPairsSpec : ChangeSpec := { name := "fnExactUnitPairs", vars := ["loop.example/g00758/impl.limits"], fn := fun _ => fun
  | [d, g1] => { results := [.lit (.bool true)], args := [d], vars := [g1] }
  | _ => none }
def fnExactUnitPairsRow : OpenClaim := { program := "ytgnpgehekfhedaadoor", sum := "27fe7e4f59d5fa54289812a9b8c22e071741c19978618fbee9814e5c2a8f4b78", func := "loop.example/g00758/laws.FnExactUnitPairs", spec := "fnExactUnitPairs", unfollowed := true, recurses := true, named := ["loop.example/g00758/impl.limits"], apart := false, laid := [("loop.example/g00758/impl.limits", laid_loop_example_g00758_impl_limits)] }
def FnExactUnitPairsSaid : Prop := fnExactUnitPairsRow.holds Tryd.pinned (OpenSpec.ofChange fnExactUnitPairsSpec)

/-- ITS FALSE NEIGHBOUR: 'it returns false'. Refute it at one input. -/
def fnExactUnitPairsWrong : ChangeSpec := { name := "fnExactUnitPairs", vars := ["loop.example/g00758/impl.limits"], fn := fun _ => fun
  | [d, g1] => { results := [.lit (.bool false)], args := [d], vars := [g1] }
  | _ => none }
def FnExactUnitPairsWrongFalsely : Prop := fnExactUnitPairsRow.holds Tryd.pinned (OpenSpec.ofChange fnExactUnitPairsWrong)

/-- 'laws.FnExactClosedSet': WHATEVER THE INPUT: true; the input reads as it did. -/
def fnExactClosedSetSpec : ChangeSpec := { name := "fnExactClosedSet", vars := ["loop.example/g00758/impl.limits"], fn := fun _ => fun
  | [d1, d2, g1] => { results := [.lit (.bool true)], args := [d1, d2], vars := [g1] }
  | _ => none }
def fnExactClosedSetRow : OpenClaim := { program := "ytgnpgehekfhedaadoor", sum := "27fe7e4f59d5fa54289812a9b8c22e071741c19978618fbee9814e5c2a8f4b78", func := "loop.example/g00758/laws.FnExactClosedSet", spec := "fnExactClosedSet", unfollowed := true, recurses := true, named := ["loop.example/g00758/impl.limits"], apart := false, laid := [("loop.example/g00758/impl.limits", laid_loop_example_g00758_impl_limits)] }
def FnExactClosedSetSaid : Prop := fnExactClosedSetRow.holds Tryd.pinned (OpenSpec.ofChange fnExactClosedSetSpec)

/-- ITS FALSE NEIGHBOUR: 'it returns false'. Refute it at one input. -/
def fnExactClosedSetWrong : ChangeSpec := { name := "fnExactClosedSet", vars := ["loop.example/g00758/impl.limits"], fn := fun _ => fun
  | [d1, d2, g1] => { results := [.lit (.bool false)], args := [d1, d2], vars := [g1] }
  | _ => none }
def FnExactClosedSetWrongFalsely : Prop := fnExactClosedSetRow.holds Tryd.pinned (OpenSpec.ofChange fnExactClosedSetWrong)

/-- 'laws.FnExactUnitRow': WHATEVER THE INPUT: true; the input reads as it did. -/
def fnExactUnitRowSpec : ChangeSpec := { name := "fnExactUnitRow", vars := ["loop.example/g00758/impl.limits"], fn := fun _ => fun
  | [d1, d2, g1] => { results := [.lit (.bool true)], args := [d1, d2], vars := [g1] }
  | _ => none }
def fnExactUnitRowRow : OpenClaim := { program := "ytgnpgehekfhedaadoor", sum := "27fe7e4f59d5fa54289812a9b8c22e071741c19978618fbee9814e5c2a8f4b78", func := "loop.example/g00758/laws.FnExactUnitRow", spec := "fnExactUnitRow", unfollowed := true, recurses := true, named := ["loop.example/g00758/impl.limits"], apart := false, laid := [("loop.example/g00758/impl.limits", laid_loop_example_g00758_impl_limits)] }
def FnExactUnitRowSaid : Prop := fnExactUnitRowRow.holds Tryd.pinned (OpenSpec.ofChange fnExactUnitRowSpec)

/-- ITS FALSE NEIGHBOUR: 'it returns false'. Refute it at one input. -/
def fnExactUnitRowWrong : ChangeSpec := { name := "fnExactUnitRow", vars := ["loop.example/g00758/impl.limits"], fn := fun _ => fun
  | [d1, d2, g1] => { results := [.lit (.bool false)], args := [d1, d2], vars := [g1] }
  | _ => none }
def FnExactUnitRowWrongFalsely : Prop := fnExactUnitRowRow.holds Tryd.pinned (OpenSpec.ofChange fnExactUnitRowWrong)

/-- 'laws.FnExactUnitRows': WHATEVER THE INPUT: true; the input reads as it did. -/
def fnExactUnitRowsSpec : ChangeSpec := { name := "fnExactUnitRows", vars := ["loop.example/g00758/impl.limits"], fn := fun _ => fun
  | [d, g1] => { results := [.lit (.bool true)], args := [d], vars := [g1] }
  | _ => none }
def fnExactUnitRowsRow : OpenClaim := { program := "ytgnpgehekfhedaadoor", sum := "27fe7e4f59d5fa54289812a9b8c22e071741c19978618fbee9814e5c2a8f4b78", func := "loop.example/g00758/laws.FnExactUnitRows", spec := "fnExactUnitRows", unfollowed := true, recurses := true, named := ["loop.example/g00758/impl.limits"], apart := false, laid := [("loop.example/g00758/impl.limits", laid_loop_example_g00758_impl_limits)] }
def FnExactUnitRowsSaid : Prop := fnExactUnitRowsRow.holds Tryd.pinned (OpenSpec.ofChange fnExactUnitRowsSpec)

/-- ITS FALSE NEIGHBOUR: 'it returns false'. Refute it at one input. -/
def fnExactUnitRowsWrong : ChangeSpec := { name := "fnExactUnitRows", vars := ["loop.example/g00758/impl.limits"], fn := fun _ => fun
  | [d, g1] => { results := [.lit (.bool false)], args := [d], vars := [g1] }
  | _ => none }
def FnExactUnitRowsWrongFalsely : Prop := fnExactUnitRowsRow.holds Tryd.pinned (OpenSpec.ofChange fnExactUnitRowsWrong)

/-- 'laws.FnExactHasUnitRound': WHATEVER THE INPUT: true; the input reads as it did. -/
def fnExactHasUnitRoundSpec : ChangeSpec := { name := "fnExactHasUnitRound", vars := ["loop.example/g00758/impl.limits"], fn := fun _ => fun
  | [d, g1] => { results := [.lit (.bool true)], args := [d], vars := [g1] }
  | _ => none }
def fnExactHasUnitRoundRow : OpenClaim := { program := "ytgnpgehekfhedaadoor", sum := "27fe7e4f59d5fa54289812a9b8c22e071741c19978618fbee9814e5c2a8f4b78", func := "loop.example/g00758/laws.FnExactHasUnitRound", spec := "fnExactHasUnitRound", unfollowed := true, recurses := true, named := ["loop.example/g00758/impl.limits"], apart := false, laid := [("loop.example/g00758/impl.limits", laid_loop_example_g00758_impl_limits)] }
def FnExactHasUnitRoundSaid : Prop := fnExactHasUnitRoundRow.holds Tryd.pinned (OpenSpec.ofChange fnExactHasUnitRoundSpec)

/-- ITS FALSE NEIGHBOUR: 'it returns false'. Refute it at one input. -/
def fnExactHasUnitRoundWrong : ChangeSpec := { name := "fnExactHasUnitRound", vars := ["loop.example/g00758/impl.limits"], fn := fun _ => fun
  | [d, g1] => { results := [.lit (.bool false)], args := [d], vars := [g1] }
  | _ => none }
def FnExactHasUnitRoundWrongFalsely : Prop := fnExactHasUnitRoundRow.holds Tryd.pinned (OpenSpec.ofChange fnExactHasUnitRoundWrong)

/-- 'laws.FnDerives': WHATEVER THE INPUT: true; the input reads as it did. -/
def fnDerivesSpec : ChangeSpec := { name := "fnDerives", vars := ["loop.example/g00758/impl.limits"], fn := fun _ => fun
  | [d1, d2, g1] => { results := [.lit (.bool true)], args := [d1, d2], vars := [g1] }
  | _ => none }
def fnDerivesRow : OpenClaim := { program := "ytgnpgehekfhedaadoor", sum := "27fe7e4f59d5fa54289812a9b8c22e071741c19978618fbee9814e5c2a8f4b78", func := "loop.example/g00758/laws.FnDerives", spec := "fnDerives", unfollowed := true, recurses := true, named := ["loop.example/g00758/impl.limits"], apart := false, laid := [("loop.example/g00758/impl.limits", laid_loop_example_g00758_impl_limits)] }
def FnDerivesSaid : Prop := fnDerivesRow.holds Tryd.pinned (OpenSpec.ofChange fnDerivesSpec)

/-- ITS FALSE NEIGHBOUR: 'it returns false'. Refute it at one input. -/
def fnDerivesWrong : ChangeSpec := { name := "fnDerives", vars := ["loop.example/g00758/impl.limits"], fn := fun _ => fun
  | [d1, d2, g1] => { results := [.lit (.bool false)], args := [d1, d2], vars := [g1] }
  | _ => none }
def FnDerivesWrongFalsely : Prop := fnDerivesRow.holds Tryd.pinned (OpenSpec.ofChange fnDerivesWrong)

/- THE SECOND FORM. 'bulk': how many values and letters a reading holds, each counted each time it is reached (what is shared counts as often as it is met; a slice's spare places count too). A statement '..UptoSaid' is the law's where the arguments, and the package variables that the reading takes, are together of bulk at most 1048576: NARROWER than '..Said'. Prove '..Said' where nothing that the law and all that it calls make is longer than what came in: it says more and counts as full. Else prove '..UptoSaid'. A law counts once. -/
mutual
def uptoBulk {H : Type} : DataW H → Nat
  | .lit (.string bytes) => bytes.length + 1
  | .lit _ => 1
  | .nil => 1
  | .ptr d => uptoBulk d + 1
  | .slice elems spare => uptoBulkAll elems + uptoBulkAll spare + 1
  | .agg parts => uptoBulkAll parts + 1
  | .iface _ d => uptoBulk d + 1
  | .map entries => uptoBulkEntries entries + 1
  | .held _ => 1
def uptoBulkAll {H : Type} : List (DataW H) → Nat
  | [] => 0
  | d :: r => uptoBulk d + uptoBulkAll r
def uptoBulkEntries {H : Type} : List (Lit × DataW H) → Nat
  | [] => 0
  | x :: r => uptoBulkEntry x + uptoBulkEntries r
def uptoBulkEntry {H : Type} : Lit × DataW H → Nat
  | (.string bytes, d) => bytes.length + uptoBulk d + 1
  | (_, d) => uptoBulk d + 1
 end
def uptoSmall : (H : Type) → List (DataW H) → Bool := fun _ ds => decide (uptoBulkAll ds ≤ 1048576)
def OpenSpec.upto (s : _root_.Go.ChangeSpec) : _root_.Go.OpenSpec := { _root_.Go.OpenSpec.ofChange s with cond := some uptoSmall }

/-- 'laws.FnExactBinaryOf', WHERE WHAT IT READS IS OF BULK AT MOST 1048576: true; the input reads as it did. -/
def fnExactBinaryOfUptoRow : OpenClaim := { program := "ytgnpgehekfhedaadoor", sum := "27fe7e4f59d5fa54289812a9b8c22e071741c19978618fbee9814e5c2a8f4b78", func := "loop.example/g00758/laws.FnExactBinaryOf", spec := "fnExactBinaryOf", unfollowed := true, recurses := true, named := ["loop.example/g00758/impl.limits"], apart := false, laid := [("loop.example/g00758/impl.limits", laid_loop_example_g00758_impl_limits)], narrowed := true }
def FnExactBinaryOfUptoSaid : Prop := fnExactBinaryOfUptoRow.holds Tryd.pinned (OpenSpec.upto fnExactBinaryOfSpec)

/-- 'laws.FnExactHelperSays', WHERE WHAT IT READS IS OF BULK AT MOST 1048576: true; the input reads as it did. -/
def fnExactHelperSaysUptoRow : OpenClaim := { program := "ytgnpgehekfhedaadoor", sum := "27fe7e4f59d5fa54289812a9b8c22e071741c19978618fbee9814e5c2a8f4b78", func := "loop.example/g00758/laws.FnExactHelperSays", spec := "fnExactHelperSays", unfollowed := true, recurses := true, named := ["loop.example/g00758/impl.limits"], apart := false, laid := [("loop.example/g00758/impl.limits", laid_loop_example_g00758_impl_limits)], narrowed := true }
def FnExactHelperSaysUptoSaid : Prop := fnExactHelperSaysUptoRow.holds Tryd.pinned (OpenSpec.upto fnExactHelperSaysSpec)

/-- 'laws.FnExactUnitPairs', WHERE WHAT IT READS IS OF BULK AT MOST 1048576: true; the input reads as it did. -/
def fnExactUnitPairsUptoRow : OpenClaim := { program := "ytgnpgehekfhedaadoor", sum := "27fe7e4f59d5fa54289812a9b8c22e071741c19978618fbee9814e5c2a8f4b78", func := "loop.example/g00758/laws.FnExactUnitPairs", spec := "fnExactUnitPairs", unfollowed := true, recurses := true, named := ["loop.example/g00758/impl.limits"], apart := false, laid := [("loop.example/g00758/impl.limits", laid_loop_example_g00758_impl_limits)], narrowed := true }
def FnExactUnitPairsUptoSaid : Prop := fnExactUnitPairsUptoRow.holds Tryd.pinned (OpenSpec.upto fnExactUnitPairsSpec)

/-- 'laws.FnExactClosedSet', WHERE WHAT IT READS IS OF BULK AT MOST 1048576: true; the input reads as it did. -/
def fnExactClosedSetUptoRow : OpenClaim := { program := "ytgnpgehekfhedaadoor", sum := "27fe7e4f59d5fa54289812a9b8c22e071741c19978618fbee9814e5c2a8f4b78", func := "loop.example/g00758/laws.FnExactClosedSet", spec := "fnExactClosedSet", unfollowed := true, recurses := true, named := ["loop.example/g00758/impl.limits"], apart := false, laid := [("loop.example/g00758/impl.limits", laid_loop_example_g00758_impl_limits)], narrowed := true }
def FnExactClosedSetUptoSaid : Prop := fnExactClosedSetUptoRow.holds Tryd.pinned (OpenSpec.upto fnExactClosedSetSpec)

/-- 'laws.FnExactUnitRow', WHERE WHAT IT READS IS OF BULK AT MOST 1048576: true; the input reads as it did. -/
def fnExactUnitRowUptoRow : OpenClaim := { program := "ytgnpgehekfhedaadoor", sum := "27fe7e4f59d5fa54289812a9b8c22e071741c19978618fbee9814e5c2a8f4b78", func := "loop.example/g00758/laws.FnExactUnitRow", spec := "fnExactUnitRow", unfollowed := true, recurses := true, named := ["loop.example/g00758/impl.limits"], apart := false, laid := [("loop.example/g00758/impl.limits", laid_loop_example_g00758_impl_limits)], narrowed := true }
def FnExactUnitRowUptoSaid : Prop := fnExactUnitRowUptoRow.holds Tryd.pinned (OpenSpec.upto fnExactUnitRowSpec)

/-- 'laws.FnExactUnitRows', WHERE WHAT IT READS IS OF BULK AT MOST 1048576: true; the input reads as it did. -/
def fnExactUnitRowsUptoRow : OpenClaim := { program := "ytgnpgehekfhedaadoor", sum := "27fe7e4f59d5fa54289812a9b8c22e071741c19978618fbee9814e5c2a8f4b78", func := "loop.example/g00758/laws.FnExactUnitRows", spec := "fnExactUnitRows", unfollowed := true, recurses := true, named := ["loop.example/g00758/impl.limits"], apart := false, laid := [("loop.example/g00758/impl.limits", laid_loop_example_g00758_impl_limits)], narrowed := true }
def FnExactUnitRowsUptoSaid : Prop := fnExactUnitRowsUptoRow.holds Tryd.pinned (OpenSpec.upto fnExactUnitRowsSpec)

/-- 'laws.FnExactHasUnitRound', WHERE WHAT IT READS IS OF BULK AT MOST 1048576: true; the input reads as it did. -/
def fnExactHasUnitRoundUptoRow : OpenClaim := { program := "ytgnpgehekfhedaadoor", sum := "27fe7e4f59d5fa54289812a9b8c22e071741c19978618fbee9814e5c2a8f4b78", func := "loop.example/g00758/laws.FnExactHasUnitRound", spec := "fnExactHasUnitRound", unfollowed := true, recurses := true, named := ["loop.example/g00758/impl.limits"], apart := false, laid := [("loop.example/g00758/impl.limits", laid_loop_example_g00758_impl_limits)], narrowed := true }
def FnExactHasUnitRoundUptoSaid : Prop := fnExactHasUnitRoundUptoRow.holds Tryd.pinned (OpenSpec.upto fnExactHasUnitRoundSpec)

/-- 'laws.FnDerives', WHERE WHAT IT READS IS OF BULK AT MOST 1048576: true; the input reads as it did. -/
def fnDerivesUptoRow : OpenClaim := { program := "ytgnpgehekfhedaadoor", sum := "27fe7e4f59d5fa54289812a9b8c22e071741c19978618fbee9814e5c2a8f4b78", func := "loop.example/g00758/laws.FnDerives", spec := "fnDerives", unfollowed := true, recurses := true, named := ["loop.example/g00758/impl.limits"], apart := false, laid := [("loop.example/g00758/impl.limits", laid_loop_example_g00758_impl_limits)], narrowed := true }
def FnDerivesUptoSaid : Prop := fnDerivesUptoRow.holds Tryd.pinned (OpenSpec.upto fnDerivesSpec)

end Rows
end Go.Proofs.YtgnpgehekfhedaaDoor
