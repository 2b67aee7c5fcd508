/-
  NARROWER THAN 'FOR EVERY INPUT', by the rows' own cells (each row's printed sentence says how): FnExactGoodGrammar: laid · FnExactGoodWord: laid · FnExactRulesOf: laid · FnExactSizeOf: laid · FnExactReverseOf: laid · FnExactRenameNons: laid · FnExactWithoutRule: laid.
  DERIVED. THE GIVEN ROWS OF THIS SEAT. 7 by the template 'for every input the law returns true; each argument reads behind the call as it read before'; 0 by the template 'total and deterministic' (their statements: YtpaccjfabclikaaDoorTotals.lean).
  GIVEN WITH THE SEED: the statements are not yours to turn. If you find one false, say at which input.
  Laid BY PROGRAM, IN A SANDBOX (cutbox-rows.mjs): the forced cells as the released guide's own fill.sh prints them over the translation f4cae695cc7e415b… (all of the seat's roots in one cut). By AI agents, Wed Nov 11 2026. No macro, syntax, notation, axiom, sorry.
-/
import Derived.Test.YtpaccjfabclikaaDoorChecked
import GoSem.Claim
import GoSem.ClaimJoined
import GoSem.ClaimMapViews
import Derived.JoinedTies
import Derived.KernelRfl
namespace Go.Proofs.YtpaccjfabclikaaDoor
/- THE CELL 'sum', in the pinned program and in every row, IS THE sha256 OF THE DUMP (.gsa) THAT YtpaccjfabclikaaDoorProg.lean LOADS. Nothing in Lean hashes anything: it is a label: what it is worth is what the hold of that sum in a sandbox is worth. -/
noncomputable def Tryd.pinned : Pinned := { name := "ytpaccjfabclikaadoor", sum := "f4cae695cc7e415beffa9b918731724295d24ff7b36ecc5462cc8ba9a217067e", checked := Tryd.checked }
namespace Rows
def none {H : Type} : Left H := { results := [], args := [] }

/- WHAT THE LISTED PACKAGE-LEVEL VARIABLES READ AS WHEN THE CALL BEGINS. Each datum BY PROGRAM (the guide's laid-datum.mjs) off the statement by which the dump's own 'gosem.cut.vars' lays the variable. In a bare row this is a premise. The card (YtpaccjfabclikaaDoorCards.lean) ties it to the program's text. -/
def laid_loop_example_g00758_impl_limits {H : Type} : DataW H := .agg [.agg [.lit (.int .i64 1), .lit (.int .i64 6)], .agg [.lit (.int .i64 1), .lit (.int .i64 4)], .agg [.lit (.int .i64 0), .lit (.int .i64 16)], .agg [.lit (.int .i64 0), .lit (.int .i64 4)], .agg [.lit (.int .i64 0), .lit (.int .i64 10)]]

/-- 'laws.FnExactGoodGrammar': WHATEVER THE INPUT: true; the input reads as it did. -/
def fnExactGoodGrammarSpec : ChangeSpec := { name := "fnExactGoodGrammar", vars := ["loop.example/g00758/impl.limits"], fn := fun _ => fun
  | [d, g1] => { results := [.lit (.bool true)], args := [d], vars := [g1] }
  | _ => none }
def fnExactGoodGrammarRow : OpenClaim := { program := "ytpaccjfabclikaadoor", sum := "f4cae695cc7e415beffa9b918731724295d24ff7b36ecc5462cc8ba9a217067e", func := "loop.example/g00758/laws.FnExactGoodGrammar", spec := "fnExactGoodGrammar", named := ["loop.example/g00758/impl.limits"], apart := false, laid := [("loop.example/g00758/impl.limits", laid_loop_example_g00758_impl_limits)] }
def FnExactGoodGrammarSaid : Prop := fnExactGoodGrammarRow.holds Tryd.pinned (OpenSpec.ofChange fnExactGoodGrammarSpec)

/-- ITS FALSE NEIGHBOUR: 'it returns false'. Refute it at one input. -/
def fnExactGoodGrammarWrong : ChangeSpec := { name := "fnExactGoodGrammar", vars := ["loop.example/g00758/impl.limits"], fn := fun _ => fun
  | [d, g1] => { results := [.lit (.bool false)], args := [d], vars := [g1] }
  | _ => none }
def FnExactGoodGrammarWrongFalsely : Prop := fnExactGoodGrammarRow.holds Tryd.pinned (OpenSpec.ofChange fnExactGoodGrammarWrong)

/-- 'laws.FnExactGoodWord': WHATEVER THE INPUT: true; the input reads as it did. -/
def fnExactGoodWordSpec : ChangeSpec := { name := "fnExactGoodWord", vars := ["loop.example/g00758/impl.limits"], fn := fun _ => fun
  | [d1, d2, g1] => { results := [.lit (.bool true)], args := [d1, d2], vars := [g1] }
  | _ => none }
def fnExactGoodWordRow : OpenClaim := { program := "ytpaccjfabclikaadoor", sum := "f4cae695cc7e415beffa9b918731724295d24ff7b36ecc5462cc8ba9a217067e", func := "loop.example/g00758/laws.FnExactGoodWord", spec := "fnExactGoodWord", named := ["loop.example/g00758/impl.limits"], apart := false, laid := [("loop.example/g00758/impl.limits", laid_loop_example_g00758_impl_limits)] }
def FnExactGoodWordSaid : Prop := fnExactGoodWordRow.holds Tryd.pinned (OpenSpec.ofChange fnExactGoodWordSpec)

/-- ITS FALSE NEIGHBOUR: 'it returns false'. Refute it at one input. -/
def fnExactGoodWordWrong : ChangeSpec := { name := "fnExactGoodWord", vars := ["loop.example/g00758/impl.limits"], fn := fun _ => fun
  | [d1, d2, g1] => { results := [.lit (.bool false)], args := [d1, d2], vars := [g1] }
  | _ => none }
def FnExactGoodWordWrongFalsely : Prop := fnExactGoodWordRow.holds Tryd.pinned (OpenSpec.ofChange fnExactGoodWordWrong)

/-- 'laws.FnExactRulesOf': WHATEVER THE INPUT: true; the input reads as it did. -/
def fnExactRulesOfSpec : ChangeSpec := { name := "fnExactRulesOf", vars := ["loop.example/g00758/impl.limits"], fn := fun _ => fun
  | [d1, d2, g1] => { results := [.lit (.bool true)], args := [d1, d2], vars := [g1] }
  | _ => none }
def fnExactRulesOfRow : OpenClaim := { program := "ytpaccjfabclikaadoor", sum := "f4cae695cc7e415beffa9b918731724295d24ff7b36ecc5462cc8ba9a217067e", func := "loop.example/g00758/laws.FnExactRulesOf", spec := "fnExactRulesOf", named := ["loop.example/g00758/impl.limits"], apart := false, laid := [("loop.example/g00758/impl.limits", laid_loop_example_g00758_impl_limits)] }
def FnExactRulesOfSaid : Prop := fnExactRulesOfRow.holds Tryd.pinned (OpenSpec.ofChange fnExactRulesOfSpec)

/-- ITS FALSE NEIGHBOUR: 'it returns false'. Refute it at one input. -/
def fnExactRulesOfWrong : ChangeSpec := { name := "fnExactRulesOf", vars := ["loop.example/g00758/impl.limits"], fn := fun _ => fun
  | [d1, d2, g1] => { results := [.lit (.bool false)], args := [d1, d2], vars := [g1] }
  | _ => none }
def FnExactRulesOfWrongFalsely : Prop := fnExactRulesOfRow.holds Tryd.pinned (OpenSpec.ofChange fnExactRulesOfWrong)

/-- 'laws.FnExactSizeOf': WHATEVER THE INPUT: true; the input reads as it did. -/
def fnExactSizeOfSpec : ChangeSpec := { name := "fnExactSizeOf", vars := ["loop.example/g00758/impl.limits"], fn := fun _ => fun
  | [d, g1] => { results := [.lit (.bool true)], args := [d], vars := [g1] }
  | _ => none }
def fnExactSizeOfRow : OpenClaim := { program := "ytpaccjfabclikaadoor", sum := "f4cae695cc7e415beffa9b918731724295d24ff7b36ecc5462cc8ba9a217067e", func := "loop.example/g00758/laws.FnExactSizeOf", spec := "fnExactSizeOf", named := ["loop.example/g00758/impl.limits"], apart := false, laid := [("loop.example/g00758/impl.limits", laid_loop_example_g00758_impl_limits)] }
def FnExactSizeOfSaid : Prop := fnExactSizeOfRow.holds Tryd.pinned (OpenSpec.ofChange fnExactSizeOfSpec)

/-- ITS FALSE NEIGHBOUR: 'it returns false'. Refute it at one input. -/
def fnExactSizeOfWrong : ChangeSpec := { name := "fnExactSizeOf", vars := ["loop.example/g00758/impl.limits"], fn := fun _ => fun
  | [d, g1] => { results := [.lit (.bool false)], args := [d], vars := [g1] }
  | _ => none }
def FnExactSizeOfWrongFalsely : Prop := fnExactSizeOfRow.holds Tryd.pinned (OpenSpec.ofChange fnExactSizeOfWrong)

/-- 'laws.FnExactReverseOf': WHATEVER THE INPUT: true; the input reads as it did. -/
def fnExactReverseOfSpec : ChangeSpec := { name := "fnExactReverseOf", vars := ["loop.example/g00758/impl.limits"], fn := fun _ => fun
  | [d, g1] => { results := [.lit (.bool true)], args := [d], vars := [g1] }
  | _ => none }
def fnExactReverseOfRow : OpenClaim := { program := "ytpaccjfabclikaadoor", sum := "f4cae695cc7e415beffa9b918731724295d24ff7b36ecc5462cc8ba9a217067e", func := "loop.example/g00758/laws.FnExactReverseOf", spec := "fnExactReverseOf", named := ["loop.example/g00758/impl.limits"], apart := false, laid := [("loop.example/g00758/impl.limits", laid_loop_example_g00758_impl_limits)] }
def FnExactReverseOfSaid : Prop := fnExactReverseOfRow.holds Tryd.pinned (OpenSpec.ofChange fnExactReverseOfSpec)

/-- ITS FALSE NEIGHBOUR: 'it returns false'. Refute it at one input. -/
def fnExactReverseOfWrong : ChangeSpec := { name := "fnExactReverseOf", vars := ["loop.example/g00758/impl.limits"], fn := fun _ => fun
  | [d, g1] => { results := [.lit (.bool false)], args := [d], vars := [g1] }
  | _ => none }
def FnExactReverseOfWrongFalsely : Prop := fnExactReverseOfRow.holds Tryd.pinned (OpenSpec.ofChange fnExactReverseOfWrong)

/-- 'laws.FnExactRenameNons': WHATEVER THE INPUT: true; the input reads as it did. -/
def fnExactRenameNonsSpec : ChangeSpec := { name := "fnExactRenameNons", vars := ["loop.example/g00758/impl.limits"], fn := fun _ => fun
  | [d1, d2, g1] => { results := [.lit (.bool true)], args := [d1, d2], vars := [g1] }
  | _ => none }
def fnExactRenameNonsRow : OpenClaim := { program := "ytpaccjfabclikaadoor", sum := "f4cae695cc7e415beffa9b918731724295d24ff7b36ecc5462cc8ba9a217067e", func := "loop.example/g00758/laws.FnExactRenameNons", spec := "fnExactRenameNons", named := ["loop.example/g00758/impl.limits"], apart := false, laid := [("loop.example/g00758/impl.limits", laid_loop_example_g00758_impl_limits)] }
def FnExactRenameNonsSaid : Prop := fnExactRenameNonsRow.holds Tryd.pinned (OpenSpec.ofChange fnExactRenameNonsSpec)

/-- ITS FALSE NEIGHBOUR: 'it returns false'. Refute it at one input. -/
def fnExactRenameNonsWrong : ChangeSpec := { name := "fnExactRenameNons", vars := ["loop.example/g00758/impl.limits"], fn := fun _ => fun
  | [d1, d2, g1] => { results := [.lit (.bool false)], args := [d1, d2], vars := [g1] }
  | _ => none }
def FnExactRenameNonsWrongFalsely : Prop := fnExactRenameNonsRow.holds Tryd.pinned (OpenSpec.ofChange fnExactRenameNonsWrong)

/-- 'laws.FnExactWithoutRule': WHATEVER THE INPUT: true; the input reads as it did. -/
def fnExactWithoutRuleSpec : ChangeSpec := { name := "fnExactWithoutRule", vars := ["loop.example/g00758/impl.limits"], fn := fun _ => fun
  | [d1, d2, g1] => { results := [.lit (.bool true)], args := [d1, d2], vars := [g1] }
  | _ => none }
def fnExactWithoutRuleRow : OpenClaim := { program := "ytpaccjfabclikaadoor", sum := "f4cae695cc7e415beffa9b918731724295d24ff7b36ecc5462cc8ba9a217067e", func := "loop.example/g00758/laws.FnExactWithoutRule", spec := "fnExactWithoutRule", named := ["loop.example/g00758/impl.limits"], apart := false, laid := [("loop.example/g00758/impl.limits", laid_loop_example_g00758_impl_limits)] }
def FnExactWithoutRuleSaid : Prop := fnExactWithoutRuleRow.holds Tryd.pinned (OpenSpec.ofChange fnExactWithoutRuleSpec)

/-- ITS FALSE NEIGHBOUR: 'it returns false'. Refute it at one input. -/
def fnExactWithoutRuleWrong : ChangeSpec := { name := "fnExactWithoutRule", vars := ["loop.example/g00758/impl.limits"], fn := fun _ => fun
  | [d1, d2, g1] => { results := [.lit (.bool false)], args := [d1, d2], vars := [g1] }
  | _ => none }
def FnExactWithoutRuleWrongFalsely : Prop := fnExactWithoutRuleRow.holds Tryd.pinned (OpenSpec.ofChange fnExactWithoutRuleWrong)

/- THE SECOND FORM. 'bulk': how many values and letters a reading holds, each counted each time it is reached (what is shared counts as often as it is met; a slice's spare places count too). A statement '..UptoSaid' is the law's where the arguments, and the package variables that the reading takes, are together of bulk at most 1048576: NARROWER than '..Said'. Prove '..Said' where nothing that the law and all that it calls make is longer than what came in: it says more and counts as full. Else prove '..UptoSaid'. A law counts once. -/
mutual
def uptoBulk {H : Type} : DataW H → Nat
  | .lit (.string bytes) => bytes.length + 1
  | .lit _ => 1
  | .nil => 1
  | .ptr d => uptoBulk d + 1
  | .slice elems spare => uptoBulkAll elems + uptoBulkAll spare + 1
  | .agg parts => uptoBulkAll parts + 1
  | .iface _ d => uptoBulk d + 1
  | .map entries => uptoBulkEntries entries + 1
  | .held _ => 1
def uptoBulkAll {H : Type} : List (DataW H) → Nat
  | [] => 0
  | d :: r => uptoBulk d + uptoBulkAll r
def uptoBulkEntries {H : Type} : List (Lit × DataW H) → Nat
  | [] => 0
  | x :: r => uptoBulkEntry x + uptoBulkEntries r
def uptoBulkEntry {H : Type} : Lit × DataW H → Nat
  | (.string bytes, d) => bytes.length + uptoBulk d + 1
  | (_, d) => uptoBulk d + 1
 end
def uptoSmall : (H : Type) → List (DataW H) → Bool := fun _ ds => decide (uptoBulkAll ds ≤ 1048576)
def OpenSpec.upto (s : _root_.Go.ChangeSpec) : _root_.Go.OpenSpec := { _root_.Go.OpenSpec.ofChange s with cond := some uptoSmall }

/-- 'laws.FnExactGoodGrammar', WHERE WHAT IT READS IS OF BULK AT MOST 1048576: true; the input reads as it did. -/
def fnExactGoodGrammarUptoRow : OpenClaim := { program := "ytpaccjfabclikaadoor", sum := "f4cae695cc7e415beffa9b918731724295d24ff7b36ecc5462cc8ba9a217067e", func := "loop.example/g00758/laws.FnExactGoodGrammar", spec := "fnExactGoodGrammar", named := ["loop.example/g00758/impl.limits"], apart := false, laid := [("loop.example/g00758/impl.limits", laid_loop_example_g00758_impl_limits)], narrowed := true }
def FnExactGoodGrammarUptoSaid : Prop := fnExactGoodGrammarUptoRow.holds Tryd.pinned (OpenSpec.upto fnExactGoodGrammarSpec)

/-- 'laws.FnExactGoodWord', WHERE WHAT IT READS IS OF BULK AT MOST 1048576: true; the input reads as it did. -/
def fnExactGoodWordUptoRow : OpenClaim := { program := "ytpaccjfabclikaadoor", sum := "f4cae695cc7e415beffa9b918731724295d24ff7b36ecc5462cc8ba9a217067e", func := "loop.example/g00758/laws.FnExactGoodWord", spec := "fnExactGoodWord", named := ["loop.example/g00758/impl.limits"], apart := false, laid := [("loop.example/g00758/impl.limits", laid_loop_example_g00758_impl_limits)], narrowed := true }
def FnExactGoodWordUptoSaid : Prop := fnExactGoodWordUptoRow.holds Tryd.pinned (OpenSpec.upto fnExactGoodWordSpec)

/-- 'laws.FnExactRulesOf', WHERE WHAT IT READS IS OF BULK AT MOST 1048576: true; the input reads as it did. -/
def fnExactRulesOfUptoRow : OpenClaim := { program := "ytpaccjfabclikaadoor", sum := "f4cae695cc7e415beffa9b918731724295d24ff7b36ecc5462cc8ba9a217067e", func := "loop.example/g00758/laws.FnExactRulesOf", spec := "fnExactRulesOf", named := ["loop.example/g00758/impl.limits"], apart := false, laid := [("loop.example/g00758/impl.limits", laid_loop_example_g00758_impl_limits)], narrowed := true }
def FnExactRulesOfUptoSaid : Prop := fnExactRulesOfUptoRow.holds Tryd.pinned (OpenSpec.upto fnExactRulesOfSpec)

/-- 'laws.FnExactSizeOf', WHERE WHAT IT READS IS OF BULK AT MOST 1048576: true; the input reads as it did. -/
def fnExactSizeOfUptoRow : OpenClaim := { program := "ytpaccjfabclikaadoor", sum := "f4cae695cc7e415beffa9b918731724295d24ff7b36ecc5462cc8ba9a217067e", func := "loop.example/g00758/laws.FnExactSizeOf", spec := "fnExactSizeOf", named := ["loop.example/g00758/impl.limits"], apart := false, laid := [("loop.example/g00758/impl.limits", laid_loop_example_g00758_impl_limits)], narrowed := true }
def FnExactSizeOfUptoSaid : Prop := fnExactSizeOfUptoRow.holds Tryd.pinned (OpenSpec.upto fnExactSizeOfSpec)

/-- 'laws.FnExactReverseOf', WHERE WHAT IT READS IS OF BULK AT MOST 1048576: true; the input reads as it did. -/
def fnExactReverseOfUptoRow : OpenClaim := { program := "ytpaccjfabclikaadoor", sum := "f4cae695cc7e415beffa9b918731724295d24ff7b36ecc5462cc8ba9a217067e", func := "loop.example/g00758/laws.FnExactReverseOf", spec := "fnExactReverseOf", named := ["loop.example/g00758/impl.limits"], apart := false, laid := [("loop.example/g00758/impl.limits", laid_loop_example_g00758_impl_limits)], narrowed := true }
def FnExactReverseOfUptoSaid : Prop := fnExactReverseOfUptoRow.holds Tryd.pinned (OpenSpec.upto fnExactReverseOfSpec)

/-- 'laws.FnExactRenameNons', WHERE WHAT IT READS IS OF BULK AT MOST 1048576: true; the input reads as it did. -/
def fnExactRenameNonsUptoRow : OpenClaim := { program := "ytpaccjfabclikaadoor", sum := "f4cae695cc7e415beffa9b918731724295d24ff7b36ecc5462cc8ba9a217067e", func := "loop.example/g00758/laws.FnExactRenameNons", spec := "fnExactRenameNons", named := ["loop.example/g00758/impl.limits"], apart := false, laid := [("loop.example/g00758/impl.limits", laid_loop_example_g00758_impl_limits)], narrowed := true }
def FnExactRenameNonsUptoSaid : Prop := fnExactRenameNonsUptoRow.holds Tryd.pinned (OpenSpec.upto fnExactRenameNonsSpec)

/-- 'laws.FnExactWithoutRule', WHERE WHAT IT READS IS OF BULK AT MOST 1048576: true; the input reads as it did. -/
def fnExactWithoutRuleUptoRow : OpenClaim := { program := "ytpaccjfabclikaadoor", sum := "f4cae695cc7e415beffa9b918731724295d24ff7b36ecc5462cc8ba9a217067e", func := "loop.example/g00758/laws.FnExactWithoutRule", spec := "fnExactWithoutRule", named := ["loop.example/g00758/impl.limits"], apart := false, laid := [("loop.example/g00758/impl.limits", laid_loop_example_g00758_impl_limits)], narrowed := true }
def FnExactWithoutRuleUptoSaid : Prop := fnExactWithoutRuleUptoRow.holds Tryd.pinned (OpenSpec.upto fnExactWithoutRuleSpec)

end Rows
end Go.Proofs.YtpaccjfabclikaaDoor
