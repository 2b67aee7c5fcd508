/-
  NARROWER THAN 'FOR EVERY INPUT', by the rows' own cells (each row's printed sentence says how): FnGrammarText: laid · FnExactGrammarText: laid · FnExactReadGrammar: laid · FnExactWordText: laid · FnExactReadWord: laid · FnExactSymbolText: laid.
  DERIVED. THE GIVEN ROWS OF THIS SEAT. 6 by the template 'for every input the law returns true; each argument reads behind the call as it read before'; 0 by the template 'total and deterministic' (their statements: YtaaagcokjndaoaaDoorTotals.lean).
  GIVEN WITH THE SEED: the statements are not yours to turn. If you find one false, say at which input.
  Laid BY PROGRAM, IN A SANDBOX (cutbox-rows.mjs): the forced cells as the released guide's own fill.sh prints them over the translation c4abaa3b40fc3c4c… (all of the seat's roots in one cut). By AI agents, Wed Nov 11 2026. No macro, syntax, notation, axiom, sorry.
-/
import Derived.Test.YtaaagcokjndaoaaDoorChecked
import GoSem.Claim
import GoSem.ClaimJoined
import GoSem.ClaimMapViews
import Derived.JoinedTies
import Derived.KernelRfl
namespace Go.Proofs.YtaaagcokjndaoaaDoor
/- THE CELL 'sum', in the pinned program and in every row, IS THE sha256 OF THE DUMP (.gsa) THAT YtaaagcokjndaoaaDoorProg.lean LOADS. Nothing in Lean hashes anything: it is a label: what it is worth is what the hold of that sum in a sandbox is worth. -/
noncomputable def Tryd.pinned : Pinned := { name := "ytaaagcokjndaoaadoor", sum := "c4abaa3b40fc3c4c7d098e209977874e0bb27f77bace1d1de2ebf2b1206f3128", checked := Tryd.checked }
namespace Rows
def none {H : Type} : Left H := { results := [], args := [] }

/- WHAT THE LISTED PACKAGE-LEVEL VARIABLES READ AS WHEN THE CALL BEGINS. Each datum BY PROGRAM (the guide's laid-datum.mjs) off the statement by which the dump's own 'gosem.cut.vars' lays the variable. In a bare row this is a premise. The card (YtaaagcokjndaoaaDoorCards.lean) ties it to the program's text. -/
def laid_loop_example_g00758_impl_limits {H : Type} : DataW H := .agg [.agg [.lit (.int .i64 1), .lit (.int .i64 6)], .agg [.lit (.int .i64 1), .lit (.int .i64 4)], .agg [.lit (.int .i64 0), .lit (.int .i64 16)], .agg [.lit (.int .i64 0), .lit (.int .i64 4)], .agg [.lit (.int .i64 0), .lit (.int .i64 10)]]
def laid_loop_example_g00758_impl_nonLetters {H : Type} : DataW H := .agg [.lit (.int .u8 83), .lit (.int .u8 65), .lit (.int .u8 66), .lit (.int .u8 67), .lit (.int .u8 68), .lit (.int .u8 69)]
def laid_loop_example_g00758_impl_tokLetters {H : Type} : DataW H := .agg [.lit (.int .u8 97), .lit (.int .u8 98), .lit (.int .u8 99), .lit (.int .u8 100)]

/-- 'laws.FnGrammarText': WHATEVER THE INPUT: true; the input reads as it did. -/
def fnGrammarTextSpec : ChangeSpec := { name := "fnGrammarText", vars := ["loop.example/g00758/impl.limits", "loop.example/g00758/impl.nonLetters", "loop.example/g00758/impl.tokLetters"], fn := fun _ => fun
  | [d1, d2, g1, g2, g3] => { results := [.lit (.bool true)], args := [d1, d2], vars := [g1, g2, g3] }
  | _ => none }
def fnGrammarTextRow : OpenClaim := { program := "ytaaagcokjndaoaadoor", sum := "c4abaa3b40fc3c4c7d098e209977874e0bb27f77bace1d1de2ebf2b1206f3128", func := "loop.example/g00758/laws.FnGrammarText", spec := "fnGrammarText", unfollowed := true, recurses := true, named := ["loop.example/g00758/impl.limits", "loop.example/g00758/impl.nonLetters", "loop.example/g00758/impl.tokLetters"], apart := false, laid := [("loop.example/g00758/impl.limits", laid_loop_example_g00758_impl_limits), ("loop.example/g00758/impl.nonLetters", laid_loop_example_g00758_impl_nonLetters), ("loop.example/g00758/impl.tokLetters", laid_loop_example_g00758_impl_tokLetters)] }
def FnGrammarTextSaid : Prop := fnGrammarTextRow.holds Tryd.pinned (OpenSpec.ofChange fnGrammarTextSpec)

/-- ITS FALSE NEIGHBOUR: 'it returns false'. Refute it at one input. -/
def fnGrammarTextWrong : ChangeSpec := { name := "fnGrammarText", vars := ["loop.example/g00758/impl.limits", "loop.example/g00758/impl.nonLetters", "loop.example/g00758/impl.tokLetters"], fn := fun _ => fun
  | [d1, d2, g1, g2, g3] => { results := [.lit (.bool false)], args := [d1, d2], vars := [g1, g2, g3] }
  | _ => none }
def FnGrammarTextWrongFalsely : Prop := fnGrammarTextRow.holds Tryd.pinned (OpenSpec.ofChange fnGrammarTextWrong)

/-- 'laws.FnExactGrammarText': WHATEVER THE INPUT: true; the input reads as it did. -/
def fnExactGrammarTextSpec : ChangeSpec := { name := "fnExactGrammarText", vars := ["loop.example/g00758/impl.limits", "loop.example/g00758/impl.nonLetters", "loop.example/g00758/impl.tokLetters"], fn := fun _ => fun
  | [d, g1, g2, g3] => { results := [.lit (.bool true)], args := [d], vars := [g1, g2, g3] }
  | _ => none }
def fnExactGrammarTextRow : OpenClaim := { program := "ytaaagcokjndaoaadoor", sum := "c4abaa3b40fc3c4c7d098e209977874e0bb27f77bace1d1de2ebf2b1206f3128", func := "loop.example/g00758/laws.FnExactGrammarText", spec := "fnExactGrammarText", recurses := true, named := ["loop.example/g00758/impl.limits", "loop.example/g00758/impl.nonLetters", "loop.example/g00758/impl.tokLetters"], apart := false, laid := [("loop.example/g00758/impl.limits", laid_loop_example_g00758_impl_limits), ("loop.example/g00758/impl.nonLetters", laid_loop_example_g00758_impl_nonLetters), ("loop.example/g00758/impl.tokLetters", laid_loop_example_g00758_impl_tokLetters)] }
def FnExactGrammarTextSaid : Prop := fnExactGrammarTextRow.holds Tryd.pinned (OpenSpec.ofChange fnExactGrammarTextSpec)

/-- ITS FALSE NEIGHBOUR: 'it returns false'. Refute it at one input. -/
def fnExactGrammarTextWrong : ChangeSpec := { name := "fnExactGrammarText", vars := ["loop.example/g00758/impl.limits", "loop.example/g00758/impl.nonLetters", "loop.example/g00758/impl.tokLetters"], fn := fun _ => fun
  | [d, g1, g2, g3] => { results := [.lit (.bool false)], args := [d], vars := [g1, g2, g3] }
  | _ => none }
def FnExactGrammarTextWrongFalsely : Prop := fnExactGrammarTextRow.holds Tryd.pinned (OpenSpec.ofChange fnExactGrammarTextWrong)

/-- 'laws.FnExactReadGrammar': WHATEVER THE INPUT: true; the input reads as it did. -/
def fnExactReadGrammarSpec : ChangeSpec := { name := "fnExactReadGrammar", vars := ["loop.example/g00758/impl.limits", "loop.example/g00758/impl.nonLetters", "loop.example/g00758/impl.tokLetters"], fn := fun _ => fun
  | [d, g1, g2, g3] => { results := [.lit (.bool true)], args := [d], vars := [g1, g2, g3] }
  | _ => none }
def fnExactReadGrammarRow : OpenClaim := { program := "ytaaagcokjndaoaadoor", sum := "c4abaa3b40fc3c4c7d098e209977874e0bb27f77bace1d1de2ebf2b1206f3128", func := "loop.example/g00758/laws.FnExactReadGrammar", spec := "fnExactReadGrammar", unfollowed := true, recurses := true, named := ["loop.example/g00758/impl.limits", "loop.example/g00758/impl.nonLetters", "loop.example/g00758/impl.tokLetters"], apart := false, laid := [("loop.example/g00758/impl.limits", laid_loop_example_g00758_impl_limits), ("loop.example/g00758/impl.nonLetters", laid_loop_example_g00758_impl_nonLetters), ("loop.example/g00758/impl.tokLetters", laid_loop_example_g00758_impl_tokLetters)] }
def FnExactReadGrammarSaid : Prop := fnExactReadGrammarRow.holds Tryd.pinned (OpenSpec.ofChange fnExactReadGrammarSpec)

/-- ITS FALSE NEIGHBOUR: 'it returns false'. Refute it at one input. -/
def fnExactReadGrammarWrong : ChangeSpec := { name := "fnExactReadGrammar", vars := ["loop.example/g00758/impl.limits", "loop.example/g00758/impl.nonLetters", "loop.example/g00758/impl.tokLetters"], fn := fun _ => fun
  | [d, g1, g2, g3] => { results := [.lit (.bool false)], args := [d], vars := [g1, g2, g3] }
  | _ => none }
def FnExactReadGrammarWrongFalsely : Prop := fnExactReadGrammarRow.holds Tryd.pinned (OpenSpec.ofChange fnExactReadGrammarWrong)

/-- 'laws.FnExactWordText': WHATEVER THE INPUT: true; the input reads as it did. -/
def fnExactWordTextSpec : ChangeSpec := { name := "fnExactWordText", vars := ["loop.example/g00758/impl.tokLetters", "loop.example/g00758/impl.limits"], fn := fun _ => fun
  | [d1, d2, g1, g2] => { results := [.lit (.bool true)], args := [d1, d2], vars := [g1, g2] }
  | _ => none }
def fnExactWordTextRow : OpenClaim := { program := "ytaaagcokjndaoaadoor", sum := "c4abaa3b40fc3c4c7d098e209977874e0bb27f77bace1d1de2ebf2b1206f3128", func := "loop.example/g00758/laws.FnExactWordText", spec := "fnExactWordText", named := ["loop.example/g00758/impl.tokLetters", "loop.example/g00758/impl.limits"], apart := false, laid := [("loop.example/g00758/impl.limits", laid_loop_example_g00758_impl_limits), ("loop.example/g00758/impl.tokLetters", laid_loop_example_g00758_impl_tokLetters)] }
def FnExactWordTextSaid : Prop := fnExactWordTextRow.holds Tryd.pinned (OpenSpec.ofChange fnExactWordTextSpec)

/-- ITS FALSE NEIGHBOUR: 'it returns false'. Refute it at one input. -/
def fnExactWordTextWrong : ChangeSpec := { name := "fnExactWordText", vars := ["loop.example/g00758/impl.tokLetters", "loop.example/g00758/impl.limits"], fn := fun _ => fun
  | [d1, d2, g1, g2] => { results := [.lit (.bool false)], args := [d1, d2], vars := [g1, g2] }
  | _ => none }
def FnExactWordTextWrongFalsely : Prop := fnExactWordTextRow.holds Tryd.pinned (OpenSpec.ofChange fnExactWordTextWrong)

/-- 'laws.FnExactReadWord': WHATEVER THE INPUT: true; the input reads as it did. -/
def fnExactReadWordSpec : ChangeSpec := { name := "fnExactReadWord", vars := ["loop.example/g00758/impl.limits", "loop.example/g00758/impl.nonLetters", "loop.example/g00758/impl.tokLetters"], fn := fun _ => fun
  | [d1, d2, g1, g2, g3] => { results := [.lit (.bool true)], args := [d1, d2], vars := [g1, g2, g3] }
  | _ => none }
def fnExactReadWordRow : OpenClaim := { program := "ytaaagcokjndaoaadoor", sum := "c4abaa3b40fc3c4c7d098e209977874e0bb27f77bace1d1de2ebf2b1206f3128", func := "loop.example/g00758/laws.FnExactReadWord", spec := "fnExactReadWord", unfollowed := true, recurses := true, named := ["loop.example/g00758/impl.limits", "loop.example/g00758/impl.nonLetters", "loop.example/g00758/impl.tokLetters"], apart := false, laid := [("loop.example/g00758/impl.limits", laid_loop_example_g00758_impl_limits), ("loop.example/g00758/impl.nonLetters", laid_loop_example_g00758_impl_nonLetters), ("loop.example/g00758/impl.tokLetters", laid_loop_example_g00758_impl_tokLetters)] }
def FnExactReadWordSaid : Prop := fnExactReadWordRow.holds Tryd.pinned (OpenSpec.ofChange fnExactReadWordSpec)

/-- ITS FALSE NEIGHBOUR: 'it returns false'. Refute it at one input. -/
def fnExactReadWordWrong : ChangeSpec := { name := "fnExactReadWord", vars := ["loop.example/g00758/impl.limits", "loop.example/g00758/impl.nonLetters", "loop.example/g00758/impl.tokLetters"], fn := fun _ => fun
  | [d1, d2, g1, g2, g3] => { results := [.lit (.bool false)], args := [d1, d2], vars := [g1, g2, g3] }
  | _ => none }
def FnExactReadWordWrongFalsely : Prop := fnExactReadWordRow.holds Tryd.pinned (OpenSpec.ofChange fnExactReadWordWrong)

/-- 'laws.FnExactSymbolText': WHATEVER THE INPUT: true; the input reads as it did. -/
def fnExactSymbolTextSpec : ChangeSpec := { name := "fnExactSymbolText", vars := ["loop.example/g00758/impl.nonLetters", "loop.example/g00758/impl.tokLetters"], fn := fun _ => fun
  | [d, g1, g2] => { results := [.lit (.bool true)], args := [d], vars := [g1, g2] }
  | _ => none }
def fnExactSymbolTextRow : OpenClaim := { program := "ytaaagcokjndaoaadoor", sum := "c4abaa3b40fc3c4c7d098e209977874e0bb27f77bace1d1de2ebf2b1206f3128", func := "loop.example/g00758/laws.FnExactSymbolText", spec := "fnExactSymbolText", named := ["loop.example/g00758/impl.nonLetters", "loop.example/g00758/impl.tokLetters"], apart := false, laid := [("loop.example/g00758/impl.nonLetters", laid_loop_example_g00758_impl_nonLetters), ("loop.example/g00758/impl.tokLetters", laid_loop_example_g00758_impl_tokLetters)] }
def FnExactSymbolTextSaid : Prop := fnExactSymbolTextRow.holds Tryd.pinned (OpenSpec.ofChange fnExactSymbolTextSpec)

/-- ITS FALSE NEIGHBOUR: 'it returns false'. Refute it at one input. -/
def fnExactSymbolTextWrong : ChangeSpec := { name := "fnExactSymbolText", vars := ["loop.example/g00758/impl.nonLetters", "loop.example/g00758/impl.tokLetters"], fn := fun _ => fun
  | [d, g1, g2] => { results := [.lit (.bool false)], args := [d], vars := [g1, g2] }
  | _ => none }
def FnExactSymbolTextWrongFalsely : Prop := fnExactSymbolTextRow.holds Tryd.pinned (OpenSpec.ofChange fnExactSymbolTextWrong)

/- THE SECOND FORM. 'bulk': how many values and letters a reading holds, each counted each time it is reached (what is shared counts as often as it is met; a slice's spare places count too). A statement '..UptoSaid' is the law's where the arguments, and the package variables that the reading takes, are together of bulk at most 1048576: NARROWER than '..Said'. Prove '..Said' where nothing that the law and all that it calls make is longer than what came in: it says more and counts as full. Else prove '..UptoSaid'. A law counts once. -/
mutual
def uptoBulk {H : Type} : DataW H → Nat
  | .lit (.string bytes) => bytes.length + 1
  | .lit _ => 1
  | .nil => 1
  | .ptr d => uptoBulk d + 1
  | .slice elems spare => uptoBulkAll elems + uptoBulkAll spare + 1
  | .agg parts => uptoBulkAll parts + 1
  | .iface _ d => uptoBulk d + 1
  | .map entries => uptoBulkEntries entries + 1
  | .held _ => 1
def uptoBulkAll {H : Type} : List (DataW H) → Nat
  | [] => 0
  | d :: r => uptoBulk d + uptoBulkAll r
def uptoBulkEntries {H : Type} : List (Lit × DataW H) → Nat
  | [] => 0
  | x :: r => uptoBulkEntry x + uptoBulkEntries r
def uptoBulkEntry {H : Type} : Lit × DataW H → Nat
  | (.string bytes, d) => bytes.length + uptoBulk d + 1
  | (_, d) => uptoBulk d + 1
 end
def uptoSmall : (H : Type) → List (DataW H) → Bool := fun _ ds => decide (uptoBulkAll ds ≤ 1048576)
def OpenSpec.upto (s : _root_.Go.ChangeSpec) : _root_.Go.OpenSpec := { _root_.Go.OpenSpec.ofChange s with cond := some uptoSmall }

/-- 'laws.FnGrammarText', WHERE WHAT IT READS IS OF BULK AT MOST 1048576: true; the input reads as it did. -/
def fnGrammarTextUptoRow : OpenClaim := { program := "ytaaagcokjndaoaadoor", sum := "c4abaa3b40fc3c4c7d098e209977874e0bb27f77bace1d1de2ebf2b1206f3128", func := "loop.example/g00758/laws.FnGrammarText", spec := "fnGrammarText", unfollowed := true, recurses := true, named := ["loop.example/g00758/impl.limits", "loop.example/g00758/impl.nonLetters", "loop.example/g00758/impl.tokLetters"], apart := false, laid := [("loop.example/g00758/impl.limits", laid_loop_example_g00758_impl_limits), ("loop.example/g00758/impl.nonLetters", laid_loop_example_g00758_impl_nonLetters), ("loop.example/g00758/impl.tokLetters", laid_loop_example_g00758_impl_tokLetters)], narrowed := true }
def FnGrammarTextUptoSaid : Prop := fnGrammarTextUptoRow.holds Tryd.pinned (OpenSpec.upto fnGrammarTextSpec)

/-- 'laws.FnExactGrammarText', WHERE WHAT IT READS IS OF BULK AT MOST 1048576: true; the input reads as it did. -/
def fnExactGrammarTextUptoRow : OpenClaim := { program := "ytaaagcokjndaoaadoor", sum := "c4abaa3b40fc3c4c7d098e209977874e0bb27f77bace1d1de2ebf2b1206f3128", func := "loop.example/g00758/laws.FnExactGrammarText", spec := "fnExactGrammarText", recurses := true, named := ["loop.example/g00758/impl.limits", "loop.example/g00758/impl.nonLetters", "loop.example/g00758/impl.tokLetters"], apart := false, laid := [("loop.example/g00758/impl.limits", laid_loop_example_g00758_impl_limits), ("loop.example/g00758/impl.nonLetters", laid_loop_example_g00758_impl_nonLetters), ("loop.example/g00758/impl.tokLetters", laid_loop_example_g00758_impl_tokLetters)], narrowed := true }
def FnExactGrammarTextUptoSaid : Prop := fnExactGrammarTextUptoRow.holds Tryd.pinned (OpenSpec.upto fnExactGrammarTextSpec)

/-- 'laws.FnExactReadGrammar', WHERE WHAT IT READS IS OF BULK AT MOST 1048576: true; the input reads as it did. -/
def fnExactReadGrammarUptoRow : OpenClaim := { program := "ytaaagcokjndaoaadoor", sum := "c4abaa3b40fc3c4c7d098e209977874e0bb27f77bace1d1de2ebf2b1206f3128", func := "loop.example/g00758/laws.FnExactReadGrammar", spec := "fnExactReadGrammar", unfollowed := true, recurses := true, named := ["loop.example/g00758/impl.limits", "loop.example/g00758/impl.nonLetters", "loop.example/g00758/impl.tokLetters"], apart := false, laid := [("loop.example/g00758/impl.limits", laid_loop_example_g00758_impl_limits), ("loop.example/g00758/impl.nonLetters", laid_loop_example_g00758_impl_nonLetters), ("loop.example/g00758/impl.tokLetters", laid_loop_example_g00758_impl_tokLetters)], narrowed := true }
def FnExactReadGrammarUptoSaid : Prop := fnExactReadGrammarUptoRow.holds Tryd.pinned (OpenSpec.upto fnExactReadGrammarSpec)

/-- 'laws.FnExactWordText', WHERE WHAT IT READS IS OF BULK AT MOST 1048576: true; the input reads as it did. -/
def fnExactWordTextUptoRow : OpenClaim := { program := "ytaaagcokjndaoaadoor", sum := "c4abaa3b40fc3c4c7d098e209977874e0bb27f77bace1d1de2ebf2b1206f3128", func := "loop.example/g00758/laws.FnExactWordText", spec := "fnExactWordText", named := ["loop.example/g00758/impl.tokLetters", "loop.example/g00758/impl.limits"], apart := false, laid := [("loop.example/g00758/impl.limits", laid_loop_example_g00758_impl_limits), ("loop.example/g00758/impl.tokLetters", laid_loop_example_g00758_impl_tokLetters)], narrowed := true }
def FnExactWordTextUptoSaid : Prop := fnExactWordTextUptoRow.holds Tryd.pinned (OpenSpec.upto fnExactWordTextSpec)

/-- 'laws.FnExactReadWord', WHERE WHAT IT READS IS OF BULK AT MOST 1048576: true; the input reads as it did. -/
def fnExactReadWordUptoRow : OpenClaim := { program := "ytaaagcokjndaoaadoor", sum := "c4abaa3b40fc3c4c7d098e209977874e0bb27f77bace1d1de2ebf2b1206f3128", func := "loop.example/g00758/laws.FnExactReadWord", spec := "fnExactReadWord", unfollowed := true, recurses := true, named := ["loop.example/g00758/impl.limits", "loop.example/g00758/impl.nonLetters", "loop.example/g00758/impl.tokLetters"], apart := false, laid := [("loop.example/g00758/impl.limits", laid_loop_example_g00758_impl_limits), ("loop.example/g00758/impl.nonLetters", laid_loop_example_g00758_impl_nonLetters), ("loop.example/g00758/impl.tokLetters", laid_loop_example_g00758_impl_tokLetters)], narrowed := true }
def FnExactReadWordUptoSaid : Prop := fnExactReadWordUptoRow.holds Tryd.pinned (OpenSpec.upto fnExactReadWordSpec)

/-- 'laws.FnExactSymbolText', WHERE WHAT IT READS IS OF BULK AT MOST 1048576: true; the input reads as it did. -/
def fnExactSymbolTextUptoRow : OpenClaim := { program := "ytaaagcokjndaoaadoor", sum := "c4abaa3b40fc3c4c7d098e209977874e0bb27f77bace1d1de2ebf2b1206f3128", func := "loop.example/g00758/laws.FnExactSymbolText", spec := "fnExactSymbolText", named := ["loop.example/g00758/impl.nonLetters", "loop.example/g00758/impl.tokLetters"], apart := false, laid := [("loop.example/g00758/impl.nonLetters", laid_loop_example_g00758_impl_nonLetters), ("loop.example/g00758/impl.tokLetters", laid_loop_example_g00758_impl_tokLetters)], narrowed := true }
def FnExactSymbolTextUptoSaid : Prop := fnExactSymbolTextUptoRow.holds Tryd.pinned (OpenSpec.upto fnExactSymbolTextSpec)

end Rows
end Go.Proofs.YtaaagcokjndaoaaDoor
