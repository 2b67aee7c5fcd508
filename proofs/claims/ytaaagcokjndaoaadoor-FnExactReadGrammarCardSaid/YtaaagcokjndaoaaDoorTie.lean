/-
  DERIVED. GIVEN WITH THE SEED: THE PROGRAM's TIES (one call each: nine closed facts by the kernel) AND EACH ROW's TIE, after the 31st guide's Derived/Test/Toyas{Tie, Card}.lean. No idea stands in it: it is a product of the set-up. Laid BY PROGRAM, IN A SANDBOX (cutbox-door.mjs). By AI agents, Wed Nov 11 2026. No macro, syntax, notation, axiom, sorry.
-/
import Derived.Test.YtaaagcokjndaoaaDoorRows
import Derived.LaidByTextLater
import Derived.SevenTiedAt
import Derived.LaidSub
import Derived.LaidOnce
namespace Go.Proofs.YtaaagcokjndaoaaDoor
open Go
set_option maxRecDepth 100000
theorem seatTie1 : Tryd.prog.laidByTextLater [("loop.example/g00758/impl.limits", Rows.laid_loop_example_g00758_impl_limits), ("loop.example/g00758/impl.nonLetters", Rows.laid_loop_example_g00758_impl_nonLetters), ("loop.example/g00758/impl.tokLetters", Rows.laid_loop_example_g00758_impl_tokLetters)] [.data, .data, .data] true :=
  Program.laidByTextLater_by_one 29 8 11 (by kernel_rfl) (by kernel_rfl) (by kernel_rfl) (by kernel_rfl) (by kernel_rfl) (by kernel_rfl) (fun _ _ => by kernel_rfl)
theorem noOwnUnsafe : Tryd.pinned.checked.prog.headLifts.contains "ownunsafe" = false := by kernel_rfl
theorem tie : Tryd.prog.laidByTextLater [("loop.example/g00758/impl.limits", Rows.laid_loop_example_g00758_impl_limits), ("loop.example/g00758/impl.nonLetters", Rows.laid_loop_example_g00758_impl_nonLetters), ("loop.example/g00758/impl.tokLetters", Rows.laid_loop_example_g00758_impl_tokLetters)] [.data, .data, .data] true :=
  Program.laidByTextLater.sub seatTie1 ["loop.example/g00758/impl.limits", "loop.example/g00758/impl.nonLetters", "loop.example/g00758/impl.tokLetters"] (by kernel_rfl) (by kernel_rfl)
theorem fnGrammarText_row_tie : Rows.fnGrammarTextRow.laidByTextAt .later Tryd.pinned [.data, .data, .data] true :=
  OpenClaim.laidByTextAt_later rfl rfl tie noOwnUnsafe
theorem fnExactGrammarText_row_tie : Rows.fnExactGrammarTextRow.laidByTextAt .later Tryd.pinned [.data, .data, .data] true :=
  OpenClaim.laidByTextAt_later rfl rfl tie noOwnUnsafe
theorem fnExactReadGrammar_row_tie : Rows.fnExactReadGrammarRow.laidByTextAt .later Tryd.pinned [.data, .data, .data] true :=
  OpenClaim.laidByTextAt_later rfl rfl tie noOwnUnsafe
theorem fnExactReadWord_row_tie : Rows.fnExactReadWordRow.laidByTextAt .later Tryd.pinned [.data, .data, .data] true :=
  OpenClaim.laidByTextAt_later rfl rfl tie noOwnUnsafe
theorem tie2 : Tryd.prog.laidByTextLater [("loop.example/g00758/impl.limits", Rows.laid_loop_example_g00758_impl_limits), ("loop.example/g00758/impl.tokLetters", Rows.laid_loop_example_g00758_impl_tokLetters)] [.data, .data] true :=
  Program.laidByTextLater.sub seatTie1 ["loop.example/g00758/impl.limits", "loop.example/g00758/impl.tokLetters"] (by kernel_rfl) (by kernel_rfl)
theorem fnExactWordText_row_tie : Rows.fnExactWordTextRow.laidByTextAt .later Tryd.pinned [.data, .data] true :=
  OpenClaim.laidByTextAt_later rfl rfl tie2 noOwnUnsafe
theorem tie3 : Tryd.prog.laidByTextLater [("loop.example/g00758/impl.nonLetters", Rows.laid_loop_example_g00758_impl_nonLetters), ("loop.example/g00758/impl.tokLetters", Rows.laid_loop_example_g00758_impl_tokLetters)] [.data, .data] true :=
  Program.laidByTextLater.sub seatTie1 ["loop.example/g00758/impl.nonLetters", "loop.example/g00758/impl.tokLetters"] (by kernel_rfl) (by kernel_rfl)
theorem fnExactSymbolText_row_tie : Rows.fnExactSymbolTextRow.laidByTextAt .later Tryd.pinned [.data, .data] true :=
  OpenClaim.laidByTextAt_later rfl rfl tie3 noOwnUnsafe
theorem fnGrammarTextUpto_row_tie : Rows.fnGrammarTextUptoRow.laidByTextAt .later Tryd.pinned [.data, .data, .data] true :=
  OpenClaim.laidByTextAt_later rfl rfl tie noOwnUnsafe
theorem fnExactGrammarTextUpto_row_tie : Rows.fnExactGrammarTextUptoRow.laidByTextAt .later Tryd.pinned [.data, .data, .data] true :=
  OpenClaim.laidByTextAt_later rfl rfl tie noOwnUnsafe
theorem fnExactReadGrammarUpto_row_tie : Rows.fnExactReadGrammarUptoRow.laidByTextAt .later Tryd.pinned [.data, .data, .data] true :=
  OpenClaim.laidByTextAt_later rfl rfl tie noOwnUnsafe
theorem fnExactWordTextUpto_row_tie : Rows.fnExactWordTextUptoRow.laidByTextAt .later Tryd.pinned [.data, .data] true :=
  OpenClaim.laidByTextAt_later rfl rfl tie2 noOwnUnsafe
theorem fnExactReadWordUpto_row_tie : Rows.fnExactReadWordUptoRow.laidByTextAt .later Tryd.pinned [.data, .data, .data] true :=
  OpenClaim.laidByTextAt_later rfl rfl tie noOwnUnsafe
theorem fnExactSymbolTextUpto_row_tie : Rows.fnExactSymbolTextUptoRow.laidByTextAt .later Tryd.pinned [.data, .data] true :=
  OpenClaim.laidByTextAt_later rfl rfl tie3 noOwnUnsafe
end Go.Proofs.YtaaagcokjndaoaaDoor
