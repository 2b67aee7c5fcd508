/-
  NARROWER THAN 'FOR EVERY INPUT', by the rows' own cells (each row's printed sentence says how): FnExactSpansOf: laid · FnExactShortWords: laid · FnExactBinaryOf: laid · FnExactGoodBinary: laid · FnExactBinarySize: laid · FnExactHelperSays: laid · FnExactBinaryNull: laid · FnExactBinaryGrammar: laid.
  DERIVED. THE GIVEN ROWS OF THIS SEAT. 8 by the template 'for every input the law returns true; each argument reads behind the call as it read before'; 0 by the template 'total and deterministic' (their statements: YtjfhkcoiomokoaaDoorTotals.lean).
  GIVEN WITH THE SEED: the statements are not yours to turn. If you find one false, say at which input.
  Laid BY PROGRAM, IN A SANDBOX (cutbox-rows.mjs): the forced cells as the released guide's own fill.sh prints them over the translation 8913e3be54ecfbdf… (all of the seat's roots in one cut). By AI agents, Wed Nov 11 2026. No macro, syntax, notation, axiom, sorry.
-/
import Derived.Test.YtjfhkcoiomokoaaDoorChecked
import GoSem.Claim
import GoSem.ClaimJoined
import GoSem.ClaimMapViews
import Derived.JoinedTies
import Derived.KernelRfl
namespace Go.Proofs.YtjfhkcoiomokoaaDoor
/- THE CELL 'sum', in the pinned program and in every row, IS THE sha256 OF THE DUMP (.gsa) THAT YtjfhkcoiomokoaaDoorProg.lean LOADS. Nothing in Lean hashes anything: it is a label: what it is worth is what the hold of that sum in a sandbox is worth. -/
noncomputable def Tryd.pinned : Pinned := { name := "ytjfhkcoiomokoaadoor", sum := "8913e3be54ecfbdf920abe672db7b627d57d66648b2bc45055a2f49ce324231b", checked := Tryd.checked }
namespace Rows
def none {H : Type} : Left H := { results := [], args := [] }

/- WHAT THE LISTED PACKAGE-LEVEL VARIABLES READ AS WHEN THE CALL BEGINS. Each datum BY PROGRAM (the guide's laid-datum.mjs) off the statement by which the dump's own 'gosem.cut.vars' lays the variable. In a bare row this is a premise. The card (YtjfhkcoiomokoaaDoorCards.lean) ties it to the program's text. -/
def laid_loop_example_g00758_impl_limits {H : Type} : DataW H := .agg [.agg [.lit (.int .i64 1), .lit (.int .i64 6)], .agg [.lit (.int .i64 1), .lit (.int .i64 4)], .agg [.lit (.int .i64 0), .lit (.int .i64 16)], .agg [.lit (.int .i64 0), .lit (.int .i64 4)], .agg [.lit (.int .i64 0), .lit (.int .i64 10)], .agg [.lit (.int .i64 1), .lit (.int .i64 40)]]

/-- 'laws.FnExactSpansOf': WHATEVER THE INPUT: true; the input reads as it did. -/
def fnExactSpansOfSpec : ChangeSpec := { name := "fnExactSpansOf", vars := ["loop.example/g00758/impl.limits"], fn := fun _ => fun
  | [d1, d2, g1] => { results := [.lit (.bool true)], args := [d1, d2], vars := [g1] }
  | _ => none }
def fnExactSpansOfRow : OpenClaim := { program := "ytjfhkcoiomokoaadoor", sum := "8913e3be54ecfbdf920abe672db7b627d57d66648b2bc45055a2f49ce324231b", func := "loop.example/g00758/laws.FnExactSpansOf", spec := "fnExactSpansOf", unfollowed := true, recurses := true, named := ["loop.example/g00758/impl.limits"], apart := false, laid := [("loop.example/g00758/impl.limits", laid_loop_example_g00758_impl_limits)] }
def FnExactSpansOfSaid : Prop := fnExactSpansOfRow.holds Tryd.pinned (OpenSpec.ofChange fnExactSpansOfSpec)

/-- ITS FALSE NEIGHBOUR: 'it returns false'. Refute it at one input. -/
def fnExactSpansOfWrong : ChangeSpec := { name := "fnExactSpansOf", vars := ["loop.example/g00758/impl.limits"], fn := fun _ => fun
  | [d1, d2, g1] => { results := [.lit (.bool false)], args := [d1, d2], vars := [g1] }
  | _ => none }
def FnExactSpansOfWrongFalsely : Prop := fnExactSpansOfRow.holds Tryd.pinned (OpenSpec.ofChange fnExactSpansOfWrong)

/-- 'laws.FnExactShortWords': WHATEVER THE INPUT: true; the input reads as it did. -/
def fnExactShortWordsSpec : ChangeSpec := { name := "fnExactShortWords", vars := ["loop.example/g00758/impl.limits"], fn := fun _ => fun
  | [d1, d2, g1] => { results := [.lit (.bool true)], args := [d1, d2], vars := [g1] }
  | _ => none }
def fnExactShortWordsRow : OpenClaim := { program := "ytjfhkcoiomokoaadoor", sum := "8913e3be54ecfbdf920abe672db7b627d57d66648b2bc45055a2f49ce324231b", func := "loop.example/g00758/laws.FnExactShortWords", spec := "fnExactShortWords", unfollowed := true, recurses := true, named := ["loop.example/g00758/impl.limits"], apart := false, laid := [("loop.example/g00758/impl.limits", laid_loop_example_g00758_impl_limits)] }
def FnExactShortWordsSaid : Prop := fnExactShortWordsRow.holds Tryd.pinned (OpenSpec.ofChange fnExactShortWordsSpec)

/-- ITS FALSE NEIGHBOUR: 'it returns false'. Refute it at one input. -/
def fnExactShortWordsWrong : ChangeSpec := { name := "fnExactShortWords", vars := ["loop.example/g00758/impl.limits"], fn := fun _ => fun
  | [d1, d2, g1] => { results := [.lit (.bool false)], args := [d1, d2], vars := [g1] }
  | _ => none }
def FnExactShortWordsWrongFalsely : Prop := fnExactShortWordsRow.holds Tryd.pinned (OpenSpec.ofChange fnExactShortWordsWrong)

/-- 'laws.FnExactBinaryOf': WHATEVER THE INPUT: true; the input reads as it did. -/
def fnExactBinaryOfSpec : ChangeSpec := { name := "fnExactBinaryOf", vars := ["loop.example/g00758/impl.limits"], fn := fun _ => fun
  | [d, g1] => { results := [.lit (.bool true)], args := [d], vars := [g1] }
  | _ => none }
def fnExactBinaryOfRow : OpenClaim := { program := "ytjfhkcoiomokoaadoor", sum := "8913e3be54ecfbdf920abe672db7b627d57d66648b2bc45055a2f49ce324231b", func := "loop.example/g00758/laws.FnExactBinaryOf", spec := "fnExactBinaryOf", unfollowed := true, recurses := true, named := ["loop.example/g00758/impl.limits"], apart := false, laid := [("loop.example/g00758/impl.limits", laid_loop_example_g00758_impl_limits)] }
def FnExactBinaryOfSaid : Prop := fnExactBinaryOfRow.holds Tryd.pinned (OpenSpec.ofChange fnExactBinaryOfSpec)

/-- ITS FALSE NEIGHBOUR: 'it returns false'. Refute it at one input. -/
def fnExactBinaryOfWrong : ChangeSpec := { name := "fnExactBinaryOf", vars := ["loop.example/g00758/impl.limits"], fn := fun _ => fun
  | [d, g1] => { results := [.lit (.bool false)], args := [d], vars := [g1] }
  | _ => none }
def FnExactBinaryOfWrongFalsely : Prop := fnExactBinaryOfRow.holds Tryd.pinned (OpenSpec.ofChange fnExactBinaryOfWrong)

/-- 'laws.FnExactGoodBinary': WHATEVER THE INPUT: true; the input reads as it did. -/
def fnExactGoodBinarySpec : ChangeSpec := { name := "fnExactGoodBinary", vars := ["loop.example/g00758/impl.limits"], fn := fun _ => fun
  | [d, g1] => { results := [.lit (.bool true)], args := [d], vars := [g1] }
  | _ => none }
def fnExactGoodBinaryRow : OpenClaim := { program := "ytjfhkcoiomokoaadoor", sum := "8913e3be54ecfbdf920abe672db7b627d57d66648b2bc45055a2f49ce324231b", func := "loop.example/g00758/laws.FnExactGoodBinary", spec := "fnExactGoodBinary", unfollowed := true, recurses := true, named := ["loop.example/g00758/impl.limits"], apart := false, laid := [("loop.example/g00758/impl.limits", laid_loop_example_g00758_impl_limits)] }
def FnExactGoodBinarySaid : Prop := fnExactGoodBinaryRow.holds Tryd.pinned (OpenSpec.ofChange fnExactGoodBinarySpec)

/-- ITS FALSE NEIGHBOUR: 'it returns false'. Refute it at one input. -/
def fnExactGoodBinaryWrong : ChangeSpec := { name := "fnExactGoodBinary", vars := ["loop.example/g00758/impl.limits"], fn := fun _ => fun
  | [d, g1] => { results := [.lit (.bool false)], args := [d], vars := [g1] }
  | _ => none }
def FnExactGoodBinaryWrongFalsely : Prop := fnExactGoodBinaryRow.holds Tryd.pinned (OpenSpec.ofChange fnExactGoodBinaryWrong)

/-- 'laws.FnExactBinarySize': WHATEVER THE INPUT: true; the input reads as it did. -/
def fnExactBinarySizeSpec : ChangeSpec := { name := "fnExactBinarySize", vars := ["loop.example/g00758/impl.limits"], fn := fun _ => fun
  | [d, g1] => { results := [.lit (.bool true)], args := [d], vars := [g1] }
  | _ => none }
def fnExactBinarySizeRow : OpenClaim := { program := "ytjfhkcoiomokoaadoor", sum := "8913e3be54ecfbdf920abe672db7b627d57d66648b2bc45055a2f49ce324231b", func := "loop.example/g00758/laws.FnExactBinarySize", spec := "fnExactBinarySize", unfollowed := true, recurses := true, named := ["loop.example/g00758/impl.limits"], apart := false, laid := [("loop.example/g00758/impl.limits", laid_loop_example_g00758_impl_limits)] }
def FnExactBinarySizeSaid : Prop := fnExactBinarySizeRow.holds Tryd.pinned (OpenSpec.ofChange fnExactBinarySizeSpec)

/-- ITS FALSE NEIGHBOUR: 'it returns false'. Refute it at one input. -/
def fnExactBinarySizeWrong : ChangeSpec := { name := "fnExactBinarySize", vars := ["loop.example/g00758/impl.limits"], fn := fun _ => fun
  | [d, g1] => { results := [.lit (.bool false)], args := [d], vars := [g1] }
  | _ => none }
def FnExactBinarySizeWrongFalsely : Prop := fnExactBinarySizeRow.holds Tryd.pinned (OpenSpec.ofChange fnExactBinarySizeWrong)

/-- 'laws.FnExactHelperSays': WHATEVER THE INPUT: true; the input reads as it did. -/
def fnExactHelperSaysSpec : ChangeSpec := { name := "fnExactHelperSays", vars := ["loop.example/g00758/impl.limits"], fn := fun _ => fun
  | [d1, d2, g1] => { results := [.lit (.bool true)], args := [d1, d2], vars := [g1] }
  | _ => none }
def fnExactHelperSaysRow : OpenClaim := { program := "ytjfhkcoiomokoaadoor", sum := "8913e3be54ecfbdf920abe672db7b627d57d66648b2bc45055a2f49ce324231b", func := "loop.example/g00758/laws.FnExactHelperSays", spec := "fnExactHelperSays", unfollowed := true, recurses := true, named := ["loop.example/g00758/impl.limits"], apart := false, laid := [("loop.example/g00758/impl.limits", laid_loop_example_g00758_impl_limits)] }
def FnExactHelperSaysSaid : Prop := fnExactHelperSaysRow.holds Tryd.pinned (OpenSpec.ofChange fnExactHelperSaysSpec)

/-- ITS FALSE NEIGHBOUR: 'it returns false'. Refute it at one input. -/
def fnExactHelperSaysWrong : ChangeSpec := { name := "fnExactHelperSays", vars := ["loop.example/g00758/impl.limits"], fn := fun _ => fun
  | [d1, d2, g1] => { results := [.lit (.bool false)], args := [d1, d2], vars := [g1] }
  | _ => none }
def FnExactHelperSaysWrongFalsely : Prop := fnExactHelperSaysRow.holds Tryd.pinned (OpenSpec.ofChange fnExactHelperSaysWrong)

/-- 'laws.FnExactBinaryNull': WHATEVER THE INPUT: true; the input reads as it did. -/
def fnExactBinaryNullSpec : ChangeSpec := { name := "fnExactBinaryNull", vars := ["loop.example/g00758/impl.limits"], fn := fun _ => fun
  | [d, g1] => { results := [.lit (.bool true)], args := [d], vars := [g1] }
  | _ => none }
def fnExactBinaryNullRow : OpenClaim := { program := "ytjfhkcoiomokoaadoor", sum := "8913e3be54ecfbdf920abe672db7b627d57d66648b2bc45055a2f49ce324231b", func := "loop.example/g00758/laws.FnExactBinaryNull", spec := "fnExactBinaryNull", unfollowed := true, recurses := true, named := ["loop.example/g00758/impl.limits"], apart := false, laid := [("loop.example/g00758/impl.limits", laid_loop_example_g00758_impl_limits)] }
def FnExactBinaryNullSaid : Prop := fnExactBinaryNullRow.holds Tryd.pinned (OpenSpec.ofChange fnExactBinaryNullSpec)

/-- ITS FALSE NEIGHBOUR: 'it returns false'. Refute it at one input. -/
def fnExactBinaryNullWrong : ChangeSpec := { name := "fnExactBinaryNull", vars := ["loop.example/g00758/impl.limits"], fn := fun _ => fun
  | [d, g1] => { results := [.lit (.bool false)], args := [d], vars := [g1] }
  | _ => none }
def FnExactBinaryNullWrongFalsely : Prop := fnExactBinaryNullRow.holds Tryd.pinned (OpenSpec.ofChange fnExactBinaryNullWrong)

/-- 'laws.FnExactBinaryGrammar': WHATEVER THE INPUT: true; the input reads as it did. -/
def fnExactBinaryGrammarSpec : ChangeSpec := { name := "fnExactBinaryGrammar", vars := ["loop.example/g00758/impl.limits"], fn := fun _ => fun
  | [d, g1] => { results := [.lit (.bool true)], args := [d], vars := [g1] }
  | _ => none }
def fnExactBinaryGrammarRow : OpenClaim := { program := "ytjfhkcoiomokoaadoor", sum := "8913e3be54ecfbdf920abe672db7b627d57d66648b2bc45055a2f49ce324231b", func := "loop.example/g00758/laws.FnExactBinaryGrammar", spec := "fnExactBinaryGrammar", unfollowed := true, recurses := true, named := ["loop.example/g00758/impl.limits"], apart := false, laid := [("loop.example/g00758/impl.limits", laid_loop_example_g00758_impl_limits)] }
def FnExactBinaryGrammarSaid : Prop := fnExactBinaryGrammarRow.holds Tryd.pinned (OpenSpec.ofChange fnExactBinaryGrammarSpec)

/-- ITS FALSE NEIGHBOUR: 'it returns false'. Refute it at one input. -/
def fnExactBinaryGrammarWrong : ChangeSpec := { name := "fnExactBinaryGrammar", vars := ["loop.example/g00758/impl.limits"], fn := fun _ => fun
  | [d, g1] => { results := [.lit (.bool false)], args := [d], vars := [g1] }
  | _ => none }
def FnExactBinaryGrammarWrongFalsely : Prop := fnExactBinaryGrammarRow.holds Tryd.pinned (OpenSpec.ofChange fnExactBinaryGrammarWrong)

/- THE SECOND FORM. 'bulk': how many values and letters a reading holds, each counted each time it is reached (what is shared counts as often as it is met; a slice's spare places count too). A statement '..UptoSaid' is the law's where the arguments, and the package variables that the reading takes, are together of bulk at most 1048576: NARROWER than '..Said'. Prove '..Said' where nothing that the law and all that it calls make is longer than what came in: it says more and counts as full. Else prove '..UptoSaid'. A law counts once. -/
mutual
def uptoBulk {H : Type} : DataW H → Nat
  | .lit (.string bytes) => bytes.length + 1
  | .lit _ => 1
  | .nil => 1
  | .ptr d => uptoBulk d + 1
  | .slice elems spare => uptoBulkAll elems + uptoBulkAll spare + 1
  | .agg parts => uptoBulkAll parts + 1
  | .iface _ d => uptoBulk d + 1
  | .map entries => uptoBulkEntries entries + 1
  | .held _ => 1
def uptoBulkAll {H : Type} : List (DataW H) → Nat
  | [] => 0
  | d :: r => uptoBulk d + uptoBulkAll r
def uptoBulkEntries {H : Type} : List (Lit × DataW H) → Nat
  | [] => 0
  | x :: r => uptoBulkEntry x + uptoBulkEntries r
def uptoBulkEntry {H : Type} : Lit × DataW H → Nat
  | (.string bytes, d) => bytes.length + uptoBulk d + 1
  | (_, d) => uptoBulk d + 1
 end
def uptoSmall : (H : Type) → List (DataW H) → Bool := fun _ ds => decide (uptoBulkAll ds ≤ 1048576)
def OpenSpec.upto (s : _root_.Go.ChangeSpec) : _root_.Go.OpenSpec := { _root_.Go.OpenSpec.ofChange s with cond := some uptoSmall }

/-- 'laws.FnExactSpansOf', WHERE WHAT IT READS IS OF BULK AT MOST 1048576: true; the input reads as it did. -/
def fnExactSpansOfUptoRow : OpenClaim := { program := "ytjfhkcoiomokoaadoor", sum := "8913e3be54ecfbdf920abe672db7b627d57d66648b2bc45055a2f49ce324231b", func := "loop.example/g00758/laws.FnExactSpansOf", spec := "fnExactSpansOf", unfollowed := true, recurses := true, named := ["loop.example/g00758/impl.limits"], apart := false, laid := [("loop.example/g00758/impl.limits", laid_loop_example_g00758_impl_limits)], narrowed := true }
def FnExactSpansOfUptoSaid : Prop := fnExactSpansOfUptoRow.holds Tryd.pinned (OpenSpec.upto fnExactSpansOfSpec)

/-- 'laws.FnExactShortWords', WHERE WHAT IT READS IS OF BULK AT MOST 1048576: true; the input reads as it did. -/
def fnExactShortWordsUptoRow : OpenClaim := { program := "ytjfhkcoiomokoaadoor", sum := "8913e3be54ecfbdf920abe672db7b627d57d66648b2bc45055a2f49ce324231b", func := "loop.example/g00758/laws.FnExactShortWords", spec := "fnExactShortWords", unfollowed := true, recurses := true, named := ["loop.example/g00758/impl.limits"], apart := false, laid := [("loop.example/g00758/impl.limits", laid_loop_example_g00758_impl_limits)], narrowed := true }
def FnExactShortWordsUptoSaid : Prop := fnExactShortWordsUptoRow.holds Tryd.pinned (OpenSpec.upto fnExactShortWordsSpec)

/-- 'laws.FnExactBinaryOf', WHERE WHAT IT READS IS OF BULK AT MOST 1048576: true; the input reads as it did. -/
def fnExactBinaryOfUptoRow : OpenClaim := { program := "ytjfhkcoiomokoaadoor", sum := "8913e3be54ecfbdf920abe672db7b627d57d66648b2bc45055a2f49ce324231b", func := "loop.example/g00758/laws.FnExactBinaryOf", spec := "fnExactBinaryOf", unfollowed := true, recurses := true, named := ["loop.example/g00758/impl.limits"], apart := false, laid := [("loop.example/g00758/impl.limits", laid_loop_example_g00758_impl_limits)], narrowed := true }
def FnExactBinaryOfUptoSaid : Prop := fnExactBinaryOfUptoRow.holds Tryd.pinned (OpenSpec.upto fnExactBinaryOfSpec)

/-- 'laws.FnExactGoodBinary', WHERE WHAT IT READS IS OF BULK AT MOST 1048576: true; the input reads as it did. -/
def fnExactGoodBinaryUptoRow : OpenClaim := { program := "ytjfhkcoiomokoaadoor", sum := "8913e3be54ecfbdf920abe672db7b627d57d66648b2bc45055a2f49ce324231b", func := "loop.example/g00758/laws.FnExactGoodBinary", spec := "fnExactGoodBinary", unfollowed := true, recurses := true, named := ["loop.example/g00758/impl.limits"], apart := false, laid := [("loop.example/g00758/impl.limits", laid_loop_example_g00758_impl_limits)], narrowed := true }
def FnExactGoodBinaryUptoSaid : Prop := fnExactGoodBinaryUptoRow.holds Tryd.pinned (OpenSpec.upto fnExactGoodBinarySpec)

/-- 'laws.FnExactBinarySize', WHERE WHAT IT READS IS OF BULK AT MOST 1048576: true; the input reads as it did. -/
def fnExactBinarySizeUptoRow : OpenClaim := { program := "ytjfhkcoiomokoaadoor", sum := "8913e3be54ecfbdf920abe672db7b627d57d66648b2bc45055a2f49ce324231b", func := "loop.example/g00758/laws.FnExactBinarySize", spec := "fnExactBinarySize", unfollowed := true, recurses := true, named := ["loop.example/g00758/impl.limits"], apart := false, laid := [("loop.example/g00758/impl.limits", laid_loop_example_g00758_impl_limits)], narrowed := true }
def FnExactBinarySizeUptoSaid : Prop := fnExactBinarySizeUptoRow.holds Tryd.pinned (OpenSpec.upto fnExactBinarySizeSpec)

/-- 'laws.FnExactHelperSays', WHERE WHAT IT READS IS OF BULK AT MOST 1048576: true; the input reads as it did. -/
def fnExactHelperSaysUptoRow : OpenClaim := { program := "ytjfhkcoiomokoaadoor", sum := "8913e3be54ecfbdf920abe672db7b627d57d66648b2bc45055a2f49ce324231b", func := "loop.example/g00758/laws.FnExactHelperSays", spec := "fnExactHelperSays", unfollowed := true, recurses := true, named := ["loop.example/g00758/impl.limits"], apart := false, laid := [("loop.example/g00758/impl.limits", laid_loop_example_g00758_impl_limits)], narrowed := true }
def FnExactHelperSaysUptoSaid : Prop := fnExactHelperSaysUptoRow.holds Tryd.pinned (OpenSpec.upto fnExactHelperSaysSpec)

/-- 'laws.FnExactBinaryNull', WHERE WHAT IT READS IS OF BULK AT MOST 1048576: true; the input reads as it did. -/
def fnExactBinaryNullUptoRow : OpenClaim := { program := "ytjfhkcoiomokoaadoor", sum := "8913e3be54ecfbdf920abe672db7b627d57d66648b2bc45055a2f49ce324231b", func := "loop.example/g00758/laws.FnExactBinaryNull", spec := "fnExactBinaryNull", unfollowed := true, recurses := true, named := ["loop.example/g00758/impl.limits"], apart := false, laid := [("loop.example/g00758/impl.limits", laid_loop_example_g00758_impl_limits)], narrowed := true }
def FnExactBinaryNullUptoSaid : Prop := fnExactBinaryNullUptoRow.holds Tryd.pinned (OpenSpec.upto fnExactBinaryNullSpec)

/-- 'laws.FnExactBinaryGrammar', WHERE WHAT IT READS IS OF BULK AT MOST 1048576: true; the input reads as it did. -/
def fnExactBinaryGrammarUptoRow : OpenClaim := { program := "ytjfhkcoiomokoaadoor", sum := "8913e3be54ecfbdf920abe672db7b627d57d66648b2bc45055a2f49ce324231b", func := "loop.example/g00758/laws.FnExactBinaryGrammar", spec := "fnExactBinaryGrammar", unfollowed := true, recurses := true, named := ["loop.example/g00758/impl.limits"], apart := false, laid := [("loop.example/g00758/impl.limits", laid_loop_example_g00758_impl_limits)], narrowed := true }
def FnExactBinaryGrammarUptoSaid : Prop := fnExactBinaryGrammarUptoRow.holds Tryd.pinned (OpenSpec.upto fnExactBinaryGrammarSpec)

end Rows
end Go.Proofs.YtjfhkcoiomokoaaDoor
