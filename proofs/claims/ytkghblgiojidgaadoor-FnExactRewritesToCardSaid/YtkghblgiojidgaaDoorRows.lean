/-
  NARROWER THAN 'FOR EVERY INPUT', by the rows' own cells (each row's printed sentence says how): FnExactIsFinite: laid · FnExactDerives: laid · FnExactInLanguage: laid · FnExactSpansOf: laid · FnExactShortWords: laid · FnExactSequenceDerives: laid · FnExactDeriveStep: laid · FnExactRewritesTo: laid · FnDerives: laid.
  DERIVED. THE GIVEN ROWS OF THIS SEAT. 9 by the template 'for every input the law returns true; each argument reads behind the call as it read before'; 0 by the template 'total and deterministic' (their statements: YtkghblgiojidgaaDoorTotals.lean).
  GIVEN WITH THE SEED: the statements are not yours to turn. If you find one false, say at which input.
  Laid BY PROGRAM, IN A SANDBOX (cutbox-rows.mjs): the forced cells as the released guide's own fill.sh prints them over the translation f8411501ecb5f0d2… (all of the seat's roots in one cut). By AI agents, Wed Nov 11 2026. No macro, syntax, notation, axiom, sorry.
-/
import Derived.Test.YtkghblgiojidgaaDoorChecked
import GoSem.Claim
import GoSem.ClaimJoined
import GoSem.ClaimMapViews
import Derived.JoinedTies
import Derived.KernelRfl
namespace Go.Proofs.YtkghblgiojidgaaDoor
/- THE CELL 'sum', in the pinned program and in every row, IS THE sha256 OF THE DUMP (.gsa) THAT YtkghblgiojidgaaDoorProg.lean LOADS. Nothing in Lean hashes anything: it is a label: what it is worth is what the hold of that sum in a sandbox is worth. -/
noncomputable def Tryd.pinned : Pinned := { name := "ytkghblgiojidgaadoor", sum := "f8411501ecb5f0d21b4d70404cb11599eef1bb7a7d1c4c7c614914c9ae3e3483", checked := Tryd.checked }
namespace Rows
def none {H : Type} : Left H := { results := [], args := [] }

/- WHAT THE LISTED PACKAGE-LEVEL VARIABLES READ AS WHEN THE CALL BEGINS. Each datum BY PROGRAM (the guide's laid-datum.mjs) off the statement by which the dump's own 'gosem.cut.vars' lays the variable. In a bare row this is a premise. The card (YtkghblgiojidgaaDoorCards.lean) ties it to the program's text. -/
def laid_loop_example_g00758_impl_limits {H : Type} : DataW H := .agg [.agg [.lit (.int .i64 1), .lit (.int .i64 6)], .agg [.lit (.int .i64 1), .lit (.int .i64 4)], .agg [.lit (.int .i64 0), .lit (.int .i64 16)], .agg [.lit (.int .i64 0), .lit (.int .i64 4)], .agg [.lit (.int .i64 0), .lit (.int .i64 10)]]

/-- 'laws.FnExactIsFinite': WHATEVER THE INPUT: true; the input reads as it did. -/
def fnExactIsFiniteSpec : ChangeSpec := { name := "fnExactIsFinite", vars := ["loop.example/g00758/impl.limits"], fn := fun _ => fun
  | [d, g1] => { results := [.lit (.bool true)], args := [d], vars := [g1] }
  | _ => none }
def fnExactIsFiniteRow : OpenClaim := { program := "ytkghblgiojidgaadoor", sum := "f8411501ecb5f0d21b4d70404cb11599eef1bb7a7d1c4c7c614914c9ae3e3483", func := "loop.example/g00758/laws.FnExactIsFinite", spec := "fnExactIsFinite", unfollowed := true, recurses := true, named := ["loop.example/g00758/impl.limits"], apart := false, laid := [("loop.example/g00758/impl.limits", laid_loop_example_g00758_impl_limits)] }
def FnExactIsFiniteSaid : Prop := fnExactIsFiniteRow.holds Tryd.pinned (OpenSpec.ofChange fnExactIsFiniteSpec)

/-- ITS FALSE NEIGHBOUR: 'it returns false'. Refute it at one input. -/
def fnExactIsFiniteWrong : ChangeSpec := { name := "fnExactIsFinite", vars := ["loop.example/g00758/impl.limits"], fn := fun _ => fun
  | [d, g1] => { results := [.lit (.bool false)], args := [d], vars := [g1] }
  | _ => none }
def FnExactIsFiniteWrongFalsely : Prop := fnExactIsFiniteRow.holds Tryd.pinned (OpenSpec.ofChange fnExactIsFiniteWrong)

/-- 'laws.FnExactDerives': WHATEVER THE INPUT: true; the input reads as it did. -/
def fnExactDerivesSpec : ChangeSpec := { name := "fnExactDerives", vars := ["loop.example/g00758/impl.limits"], fn := fun _ => fun
  | [d1, d2, d3, g1] => { results := [.lit (.bool true)], args := [d1, d2, d3], vars := [g1] }
  | _ => none }
def fnExactDerivesRow : OpenClaim := { program := "ytkghblgiojidgaadoor", sum := "f8411501ecb5f0d21b4d70404cb11599eef1bb7a7d1c4c7c614914c9ae3e3483", func := "loop.example/g00758/laws.FnExactDerives", spec := "fnExactDerives", unfollowed := true, recurses := true, named := ["loop.example/g00758/impl.limits"], apart := false, laid := [("loop.example/g00758/impl.limits", laid_loop_example_g00758_impl_limits)] }
def FnExactDerivesSaid : Prop := fnExactDerivesRow.holds Tryd.pinned (OpenSpec.ofChange fnExactDerivesSpec)

/-- ITS FALSE NEIGHBOUR: 'it returns false'. Refute it at one input. -/
def fnExactDerivesWrong : ChangeSpec := { name := "fnExactDerives", vars := ["loop.example/g00758/impl.limits"], fn := fun _ => fun
  | [d1, d2, d3, g1] => { results := [.lit (.bool false)], args := [d1, d2, d3], vars := [g1] }
  | _ => none }
def FnExactDerivesWrongFalsely : Prop := fnExactDerivesRow.holds Tryd.pinned (OpenSpec.ofChange fnExactDerivesWrong)

/-- 'laws.FnExactInLanguage': WHATEVER THE INPUT: true; the input reads as it did. -/
def fnExactInLanguageSpec : ChangeSpec := { name := "fnExactInLanguage", vars := ["loop.example/g00758/impl.limits"], fn := fun _ => fun
  | [d1, d2, g1] => { results := [.lit (.bool true)], args := [d1, d2], vars := [g1] }
  | _ => none }
def fnExactInLanguageRow : OpenClaim := { program := "ytkghblgiojidgaadoor", sum := "f8411501ecb5f0d21b4d70404cb11599eef1bb7a7d1c4c7c614914c9ae3e3483", func := "loop.example/g00758/laws.FnExactInLanguage", spec := "fnExactInLanguage", unfollowed := true, recurses := true, named := ["loop.example/g00758/impl.limits"], apart := false, laid := [("loop.example/g00758/impl.limits", laid_loop_example_g00758_impl_limits)] }
def FnExactInLanguageSaid : Prop := fnExactInLanguageRow.holds Tryd.pinned (OpenSpec.ofChange fnExactInLanguageSpec)

/-- ITS FALSE NEIGHBOUR: 'it returns false'. Refute it at one input. -/
def fnExactInLanguageWrong : ChangeSpec := { name := "fnExactInLanguage", vars := ["loop.example/g00758/impl.limits"], fn := fun _ => fun
  | [d1, d2, g1] => { results := [.lit (.bool false)], args := [d1, d2], vars := [g1] }
  | _ => none }
def FnExactInLanguageWrongFalsely : Prop := fnExactInLanguageRow.holds Tryd.pinned (OpenSpec.ofChange fnExactInLanguageWrong)

/-- 'laws.FnExactSpansOf': WHATEVER THE INPUT: true; the input reads as it did. -/
def fnExactSpansOfSpec : ChangeSpec := { name := "fnExactSpansOf", vars := ["loop.example/g00758/impl.limits"], fn := fun _ => fun
  | [d1, d2, g1] => { results := [.lit (.bool true)], args := [d1, d2], vars := [g1] }
  | _ => none }
def fnExactSpansOfRow : OpenClaim := { program := "ytkghblgiojidgaadoor", sum := "f8411501ecb5f0d21b4d70404cb11599eef1bb7a7d1c4c7c614914c9ae3e3483", func := "loop.example/g00758/laws.FnExactSpansOf", spec := "fnExactSpansOf", unfollowed := true, recurses := true, named := ["loop.example/g00758/impl.limits"], apart := false, laid := [("loop.example/g00758/impl.limits", laid_loop_example_g00758_impl_limits)] }
def FnExactSpansOfSaid : Prop := fnExactSpansOfRow.holds Tryd.pinned (OpenSpec.ofChange fnExactSpansOfSpec)

/-- ITS FALSE NEIGHBOUR: 'it returns false'. Refute it at one input. -/
def fnExactSpansOfWrong : ChangeSpec := { name := "fnExactSpansOf", vars := ["loop.example/g00758/impl.limits"], fn := fun _ => fun
  | [d1, d2, g1] => { results := [.lit (.bool false)], args := [d1, d2], vars := [g1] }
  | _ => none }
def FnExactSpansOfWrongFalsely : Prop := fnExactSpansOfRow.holds Tryd.pinned (OpenSpec.ofChange fnExactSpansOfWrong)

/-- 'laws.FnExactShortWords': WHATEVER THE INPUT: true; the input reads as it did. -/
def fnExactShortWordsSpec : ChangeSpec := { name := "fnExactShortWords", vars := ["loop.example/g00758/impl.limits"], fn := fun _ => fun
  | [d1, d2, g1] => { results := [.lit (.bool true)], args := [d1, d2], vars := [g1] }
  | _ => none }
def fnExactShortWordsRow : OpenClaim := { program := "ytkghblgiojidgaadoor", sum := "f8411501ecb5f0d21b4d70404cb11599eef1bb7a7d1c4c7c614914c9ae3e3483", func := "loop.example/g00758/laws.FnExactShortWords", spec := "fnExactShortWords", unfollowed := true, recurses := true, named := ["loop.example/g00758/impl.limits"], apart := false, laid := [("loop.example/g00758/impl.limits", laid_loop_example_g00758_impl_limits)] }
def FnExactShortWordsSaid : Prop := fnExactShortWordsRow.holds Tryd.pinned (OpenSpec.ofChange fnExactShortWordsSpec)

/-- ITS FALSE NEIGHBOUR: 'it returns false'. Refute it at one input. -/
def fnExactShortWordsWrong : ChangeSpec := { name := "fnExactShortWords", vars := ["loop.example/g00758/impl.limits"], fn := fun _ => fun
  | [d1, d2, g1] => { results := [.lit (.bool false)], args := [d1, d2], vars := [g1] }
  | _ => none }
def FnExactShortWordsWrongFalsely : Prop := fnExactShortWordsRow.holds Tryd.pinned (OpenSpec.ofChange fnExactShortWordsWrong)

/-- 'laws.FnExactSequenceDerives': WHATEVER THE INPUT: true; the input reads as it did. -/
def fnExactSequenceDerivesSpec : ChangeSpec := { name := "fnExactSequenceDerives", vars := ["loop.example/g00758/impl.limits"], fn := fun _ => fun
  | [d1, d2, d3, g1] => { results := [.lit (.bool true)], args := [d1, d2, d3], vars := [g1] }
  | _ => none }
def fnExactSequenceDerivesRow : OpenClaim := { program := "ytkghblgiojidgaadoor", sum := "f8411501ecb5f0d21b4d70404cb11599eef1bb7a7d1c4c7c614914c9ae3e3483", func := "loop.example/g00758/laws.FnExactSequenceDerives", spec := "fnExactSequenceDerives", unfollowed := true, recurses := true, named := ["loop.example/g00758/impl.limits"], apart := false, laid := [("loop.example/g00758/impl.limits", laid_loop_example_g00758_impl_limits)] }
def FnExactSequenceDerivesSaid : Prop := fnExactSequenceDerivesRow.holds Tryd.pinned (OpenSpec.ofChange fnExactSequenceDerivesSpec)

/-- ITS FALSE NEIGHBOUR: 'it returns false'. Refute it at one input. -/
def fnExactSequenceDerivesWrong : ChangeSpec := { name := "fnExactSequenceDerives", vars := ["loop.example/g00758/impl.limits"], fn := fun _ => fun
  | [d1, d2, d3, g1] => { results := [.lit (.bool false)], args := [d1, d2, d3], vars := [g1] }
  | _ => none }
def FnExactSequenceDerivesWrongFalsely : Prop := fnExactSequenceDerivesRow.holds Tryd.pinned (OpenSpec.ofChange fnExactSequenceDerivesWrong)

/-- 'laws.FnExactDeriveStep': WHATEVER THE INPUT: true; the input reads as it did. -/
def fnExactDeriveStepSpec : ChangeSpec := { name := "fnExactDeriveStep", vars := ["loop.example/g00758/impl.limits"], fn := fun _ => fun
  | [d1, d2, d3, d4, g1] => { results := [.lit (.bool true)], args := [d1, d2, d3, d4], vars := [g1] }
  | _ => none }
def fnExactDeriveStepRow : OpenClaim := { program := "ytkghblgiojidgaadoor", sum := "f8411501ecb5f0d21b4d70404cb11599eef1bb7a7d1c4c7c614914c9ae3e3483", func := "loop.example/g00758/laws.FnExactDeriveStep", spec := "fnExactDeriveStep", named := ["loop.example/g00758/impl.limits"], apart := false, laid := [("loop.example/g00758/impl.limits", laid_loop_example_g00758_impl_limits)] }
def FnExactDeriveStepSaid : Prop := fnExactDeriveStepRow.holds Tryd.pinned (OpenSpec.ofChange fnExactDeriveStepSpec)

/-- ITS FALSE NEIGHBOUR: 'it returns false'. Refute it at one input. -/
def fnExactDeriveStepWrong : ChangeSpec := { name := "fnExactDeriveStep", vars := ["loop.example/g00758/impl.limits"], fn := fun _ => fun
  | [d1, d2, d3, d4, g1] => { results := [.lit (.bool false)], args := [d1, d2, d3, d4], vars := [g1] }
  | _ => none }
def FnExactDeriveStepWrongFalsely : Prop := fnExactDeriveStepRow.holds Tryd.pinned (OpenSpec.ofChange fnExactDeriveStepWrong)

/-- 'laws.FnExactRewritesTo': WHATEVER THE INPUT: true; the input reads as it did. -/
def fnExactRewritesToSpec : ChangeSpec := { name := "fnExactRewritesTo", vars := ["loop.example/g00758/impl.limits"], fn := fun _ => fun
  | [d1, d2, g1] => { results := [.lit (.bool true)], args := [d1, d2], vars := [g1] }
  | _ => none }
def fnExactRewritesToRow : OpenClaim := { program := "ytkghblgiojidgaadoor", sum := "f8411501ecb5f0d21b4d70404cb11599eef1bb7a7d1c4c7c614914c9ae3e3483", func := "loop.example/g00758/laws.FnExactRewritesTo", spec := "fnExactRewritesTo", named := ["loop.example/g00758/impl.limits"], apart := false, laid := [("loop.example/g00758/impl.limits", laid_loop_example_g00758_impl_limits)] }
def FnExactRewritesToSaid : Prop := fnExactRewritesToRow.holds Tryd.pinned (OpenSpec.ofChange fnExactRewritesToSpec)

/-- ITS FALSE NEIGHBOUR: 'it returns false'. Refute it at one input. -/
def fnExactRewritesToWrong : ChangeSpec := { name := "fnExactRewritesTo", vars := ["loop.example/g00758/impl.limits"], fn := fun _ => fun
  | [d1, d2, g1] => { results := [.lit (.bool false)], args := [d1, d2], vars := [g1] }
  | _ => none }
def FnExactRewritesToWrongFalsely : Prop := fnExactRewritesToRow.holds Tryd.pinned (OpenSpec.ofChange fnExactRewritesToWrong)

/-- 'laws.FnDerives': WHATEVER THE INPUT: true; the input reads as it did. -/
def fnDerivesSpec : ChangeSpec := { name := "fnDerives", vars := ["loop.example/g00758/impl.limits"], fn := fun _ => fun
  | [d1, d2, g1] => { results := [.lit (.bool true)], args := [d1, d2], vars := [g1] }
  | _ => none }
def fnDerivesRow : OpenClaim := { program := "ytkghblgiojidgaadoor", sum := "f8411501ecb5f0d21b4d70404cb11599eef1bb7a7d1c4c7c614914c9ae3e3483", func := "loop.example/g00758/laws.FnDerives", spec := "fnDerives", unfollowed := true, recurses := true, named := ["loop.example/g00758/impl.limits"], apart := false, laid := [("loop.example/g00758/impl.limits", laid_loop_example_g00758_impl_limits)] }
def FnDerivesSaid : Prop := fnDerivesRow.holds Tryd.pinned (OpenSpec.ofChange fnDerivesSpec)

/-- ITS FALSE NEIGHBOUR: 'it returns false'. Refute it at one input. -/
def fnDerivesWrong : ChangeSpec := { name := "fnDerives", vars := ["loop.example/g00758/impl.limits"], fn := fun _ => fun
  | [d1, d2, g1] => { results := [.lit (.bool false)], args := [d1, d2], vars := [g1] }
  | _ => none }
def FnDerivesWrongFalsely : Prop := fnDerivesRow.holds Tryd.pinned (OpenSpec.ofChange fnDerivesWrong)

/- THE SECOND FORM. 'bulk': how many values and letters a reading holds, each counted each time it is reached (what is shared counts as often as it is met; a slice's spare places count too). A statement '..UptoSaid' is the law's where the arguments, and the package variables that the reading takes, are together of bulk at most 1048576: NARROWER than '..Said'. Prove '..Said' where nothing that the law and all that it calls make is longer than what came in: it says more and counts as full. Else prove '..UptoSaid'. A law counts once. -/
mutual
def uptoBulk {H : Type} : DataW H → Nat
  | .lit (.string bytes) => bytes.length + 1
  | .lit _ => 1
  | .nil => 1
  | .ptr d => uptoBulk d + 1
  | .slice elems spare => uptoBulkAll elems + uptoBulkAll spare + 1
  | .agg parts => uptoBulkAll parts + 1
  | .iface _ d => uptoBulk d + 1
  | .map entries => uptoBulkEntries entries + 1
  | .held _ => 1
def uptoBulkAll {H : Type} : List (DataW H) → Nat
  | [] => 0
  | d :: r => uptoBulk d + uptoBulkAll r
def uptoBulkEntries {H : Type} : List (Lit × DataW H) → Nat
  | [] => 0
  | x :: r => uptoBulkEntry x + uptoBulkEntries r
def uptoBulkEntry {H : Type} : Lit × DataW H → Nat
  | (.string bytes, d) => bytes.length + uptoBulk d + 1
  | (_, d) => uptoBulk d + 1
 end
def uptoSmall : (H : Type) → List (DataW H) → Bool := fun _ ds => decide (uptoBulkAll ds ≤ 1048576)
def OpenSpec.upto (s : _root_.Go.ChangeSpec) : _root_.Go.OpenSpec := { _root_.Go.OpenSpec.ofChange s with cond := some uptoSmall }

/-- 'laws.FnExactIsFinite', WHERE WHAT IT READS IS OF BULK AT MOST 1048576: true; the input reads as it did. -/
def fnExactIsFiniteUptoRow : OpenClaim := { program := "ytkghblgiojidgaadoor", sum := "f8411501ecb5f0d21b4d70404cb11599eef1bb7a7d1c4c7c614914c9ae3e3483", func := "loop.example/g00758/laws.FnExactIsFinite", spec := "fnExactIsFinite", unfollowed := true, recurses := true, named := ["loop.example/g00758/impl.limits"], apart := false, laid := [("loop.example/g00758/impl.limits", laid_loop_example_g00758_impl_limits)], narrowed := true }
def FnExactIsFiniteUptoSaid : Prop := fnExactIsFiniteUptoRow.holds Tryd.pinned (OpenSpec.upto fnExactIsFiniteSpec)

/-- 'laws.FnExactDerives', WHERE WHAT IT READS IS OF BULK AT MOST 1048576: true; the input reads as it did. -/
def fnExactDerivesUptoRow : OpenClaim := { program := "ytkghblgiojidgaadoor", sum := "f8411501ecb5f0d21b4d70404cb11599eef1bb7a7d1c4c7c614914c9ae3e3483", func := "loop.example/g00758/laws.FnExactDerives", spec := "fnExactDerives", unfollowed := true, recurses := true, named := ["loop.example/g00758/impl.limits"], apart := false, laid := [("loop.example/g00758/impl.limits", laid_loop_example_g00758_impl_limits)], narrowed := true }
def FnExactDerivesUptoSaid : Prop := fnExactDerivesUptoRow.holds Tryd.pinned (OpenSpec.upto fnExactDerivesSpec)

/-- 'laws.FnExactInLanguage', WHERE WHAT IT READS IS OF BULK AT MOST 1048576: true; the input reads as it did. -/
def fnExactInLanguageUptoRow : OpenClaim := { program := "ytkghblgiojidgaadoor", sum := "f8411501ecb5f0d21b4d70404cb11599eef1bb7a7d1c4c7c614914c9ae3e3483", func := "loop.example/g00758/laws.FnExactInLanguage", spec := "fnExactInLanguage", unfollowed := true, recurses := true, named := ["loop.example/g00758/impl.limits"], apart := false, laid := [("loop.example/g00758/impl.limits", laid_loop_example_g00758_impl_limits)], narrowed := true }
def FnExactInLanguageUptoSaid : Prop := fnExactInLanguageUptoRow.holds Tryd.pinned (OpenSpec.upto fnExactInLanguageSpec)

/-- 'laws.FnExactSpansOf', WHERE WHAT IT READS IS OF BULK AT MOST 1048576: true; the input reads as it did. -/
def fnExactSpansOfUptoRow : OpenClaim := { program := "ytkghblgiojidgaadoor", sum := "f8411501ecb5f0d21b4d70404cb11599eef1bb7a7d1c4c7c614914c9ae3e3483", func := "loop.example/g00758/laws.FnExactSpansOf", spec := "fnExactSpansOf", unfollowed := true, recurses := true, named := ["loop.example/g00758/impl.limits"], apart := false, laid := [("loop.example/g00758/impl.limits", laid_loop_example_g00758_impl_limits)], narrowed := true }
def FnExactSpansOfUptoSaid : Prop := fnExactSpansOfUptoRow.holds Tryd.pinned (OpenSpec.upto fnExactSpansOfSpec)

/-- 'laws.FnExactShortWords', WHERE WHAT IT READS IS OF BULK AT MOST 1048576: true; the input reads as it did. -/
def fnExactShortWordsUptoRow : OpenClaim := { program := "ytkghblgiojidgaadoor", sum := "f8411501ecb5f0d21b4d70404cb11599eef1bb7a7d1c4c7c614914c9ae3e3483", func := "loop.example/g00758/laws.FnExactShortWords", spec := "fnExactShortWords", unfollowed := true, recurses := true, named := ["loop.example/g00758/impl.limits"], apart := false, laid := [("loop.example/g00758/impl.limits", laid_loop_example_g00758_impl_limits)], narrowed := true }
def FnExactShortWordsUptoSaid : Prop := fnExactShortWordsUptoRow.holds Tryd.pinned (OpenSpec.upto fnExactShortWordsSpec)

/-- 'laws.FnExactSequenceDerives', WHERE WHAT IT READS IS OF BULK AT MOST 1048576: true; the input reads as it did. -/
def fnExactSequenceDerivesUptoRow : OpenClaim := { program := "ytkghblgiojidgaadoor", sum := "f8411501ecb5f0d21b4d70404cb11599eef1bb7a7d1c4c7c614914c9ae3e3483", func := "loop.example/g00758/laws.FnExactSequenceDerives", spec := "fnExactSequenceDerives", unfollowed := true, recurses := true, named := ["loop.example/g00758/impl.limits"], apart := false, laid := [("loop.example/g00758/impl.limits", laid_loop_example_g00758_impl_limits)], narrowed := true }
def FnExactSequenceDerivesUptoSaid : Prop := fnExactSequenceDerivesUptoRow.holds Tryd.pinned (OpenSpec.upto fnExactSequenceDerivesSpec)

/-- 'laws.FnExactDeriveStep', WHERE WHAT IT READS IS OF BULK AT MOST 1048576: true; the input reads as it did. -/
def fnExactDeriveStepUptoRow : OpenClaim := { program := "ytkghblgiojidgaadoor", sum := "f8411501ecb5f0d21b4d70404cb11599eef1bb7a7d1c4c7c614914c9ae3e3483", func := "loop.example/g00758/laws.FnExactDeriveStep", spec := "fnExactDeriveStep", named := ["loop.example/g00758/impl.limits"], apart := false, laid := [("loop.example/g00758/impl.limits", laid_loop_example_g00758_impl_limits)], narrowed := true }
def FnExactDeriveStepUptoSaid : Prop := fnExactDeriveStepUptoRow.holds Tryd.pinned (OpenSpec.upto fnExactDeriveStepSpec)

/-- 'laws.FnExactRewritesTo', WHERE WHAT IT READS IS OF BULK AT MOST 1048576: true; the input reads as it did. -/
def fnExactRewritesToUptoRow : OpenClaim := { program := "ytkghblgiojidgaadoor", sum := "f8411501ecb5f0d21b4d70404cb11599eef1bb7a7d1c4c7c614914c9ae3e3483", func := "loop.example/g00758/laws.FnExactRewritesTo", spec := "fnExactRewritesTo", named := ["loop.example/g00758/impl.limits"], apart := false, laid := [("loop.example/g00758/impl.limits", laid_loop_example_g00758_impl_limits)], narrowed := true }
def FnExactRewritesToUptoSaid : Prop := fnExactRewritesToUptoRow.holds Tryd.pinned (OpenSpec.upto fnExactRewritesToSpec)

/-- 'laws.FnDerives', WHERE WHAT IT READS IS OF BULK AT MOST 1048576: true; the input reads as it did. -/
def fnDerivesUptoRow : OpenClaim := { program := "ytkghblgiojidgaadoor", sum := "f8411501ecb5f0d21b4d70404cb11599eef1bb7a7d1c4c7c614914c9ae3e3483", func := "loop.example/g00758/laws.FnDerives", spec := "fnDerives", unfollowed := true, recurses := true, named := ["loop.example/g00758/impl.limits"], apart := false, laid := [("loop.example/g00758/impl.limits", laid_loop_example_g00758_impl_limits)], narrowed := true }
def FnDerivesUptoSaid : Prop := fnDerivesUptoRow.holds Tryd.pinned (OpenSpec.upto fnDerivesSpec)

end Rows
end Go.Proofs.YtkghblgiojidgaaDoor
