/-
  DERIVED. GIVEN WITH THE SEED: THE CARDS: each row of YtjfhkcoiomokoaaDoorRows.lean that lists a variable, with what it lists TIED to the program's text (the seventh form; the later family's looks); each row that meets fmt, with fmt's text TOLD by the authors' own Lean function (tested against real Go, not proved from fmt's source: count such statements apart). THE CARD IS WHAT COUNTS. Prove the row's statement (the work); the ties are given (YtjfhkcoiomokoaaDoorTie.lean); close each card by the builder's one call (the guide's Derived/Test/ToyasCard.lean, 'card_holds'). Laid BY PROGRAM, IN A SANDBOX (cutbox-door.mjs). By AI agents, Wed Nov 11 2026. No macro, syntax, notation, axiom, sorry.
-/
import Derived.Test.YtjfhkcoiomokoaaDoorRows
import GoSem.ClaimSeven
namespace Go.Proofs.YtjfhkcoiomokoaaDoor
namespace Rows

/-- THE TIED CARD OF 'laws.FnExactSpansOf'. -/
def fnExactSpansOfCard : Claim7 := { stood := { row := fnExactSpansOfRow, standIns := [], harness := (true, "541ab252535a64f61b383d981b2006ce37062e3785817d7f4eac89880f20ffa6"), looks := false }, kinds := [], alts := [], laidByText := true, laidKinds := [.data], laidTests := true, laidLooks := .later }
def FnExactSpansOfCardSaid : Prop := Claim7.holds Tryd.pinned (.plain (OpenSpec.ofChange fnExactSpansOfSpec)) fnExactSpansOfCard

/-- THE TIED CARD OF 'laws.FnExactShortWords'. -/
def fnExactShortWordsCard : Claim7 := { stood := { row := fnExactShortWordsRow, standIns := [], harness := (true, "541ab252535a64f61b383d981b2006ce37062e3785817d7f4eac89880f20ffa6"), looks := false }, kinds := [], alts := [], laidByText := true, laidKinds := [.data], laidTests := true, laidLooks := .later }
def FnExactShortWordsCardSaid : Prop := Claim7.holds Tryd.pinned (.plain (OpenSpec.ofChange fnExactShortWordsSpec)) fnExactShortWordsCard

/-- THE TIED CARD OF 'laws.FnExactBinaryOf'. -/
def fnExactBinaryOfCard : Claim7 := { stood := { row := fnExactBinaryOfRow, standIns := [], harness := (true, "541ab252535a64f61b383d981b2006ce37062e3785817d7f4eac89880f20ffa6"), looks := false }, kinds := [], alts := [], laidByText := true, laidKinds := [.data], laidTests := true, laidLooks := .later }
def FnExactBinaryOfCardSaid : Prop := Claim7.holds Tryd.pinned (.plain (OpenSpec.ofChange fnExactBinaryOfSpec)) fnExactBinaryOfCard

/-- THE TIED CARD OF 'laws.FnExactGoodBinary'. -/
def fnExactGoodBinaryCard : Claim7 := { stood := { row := fnExactGoodBinaryRow, standIns := [], harness := (true, "541ab252535a64f61b383d981b2006ce37062e3785817d7f4eac89880f20ffa6"), looks := false }, kinds := [], alts := [], laidByText := true, laidKinds := [.data], laidTests := true, laidLooks := .later }
def FnExactGoodBinaryCardSaid : Prop := Claim7.holds Tryd.pinned (.plain (OpenSpec.ofChange fnExactGoodBinarySpec)) fnExactGoodBinaryCard

/-- THE TIED CARD OF 'laws.FnExactBinarySize'. -/
def fnExactBinarySizeCard : Claim7 := { stood := { row := fnExactBinarySizeRow, standIns := [], harness := (true, "541ab252535a64f61b383d981b2006ce37062e3785817d7f4eac89880f20ffa6"), looks := false }, kinds := [], alts := [], laidByText := true, laidKinds := [.data], laidTests := true, laidLooks := .later }
def FnExactBinarySizeCardSaid : Prop := Claim7.holds Tryd.pinned (.plain (OpenSpec.ofChange fnExactBinarySizeSpec)) fnExactBinarySizeCard

/-- THE TIED CARD OF 'laws.FnExactHelperSays'. -/
def fnExactHelperSaysCard : Claim7 := { stood := { row := fnExactHelperSaysRow, standIns := [], harness := (true, "541ab252535a64f61b383d981b2006ce37062e3785817d7f4eac89880f20ffa6"), looks := false }, kinds := [], alts := [], laidByText := true, laidKinds := [.data], laidTests := true, laidLooks := .later }
def FnExactHelperSaysCardSaid : Prop := Claim7.holds Tryd.pinned (.plain (OpenSpec.ofChange fnExactHelperSaysSpec)) fnExactHelperSaysCard

/-- THE TIED CARD OF 'laws.FnExactBinaryNull'. -/
def fnExactBinaryNullCard : Claim7 := { stood := { row := fnExactBinaryNullRow, standIns := [], harness := (true, "541ab252535a64f61b383d981b2006ce37062e3785817d7f4eac89880f20ffa6"), looks := false }, kinds := [], alts := [], laidByText := true, laidKinds := [.data], laidTests := true, laidLooks := .later }
def FnExactBinaryNullCardSaid : Prop := Claim7.holds Tryd.pinned (.plain (OpenSpec.ofChange fnExactBinaryNullSpec)) fnExactBinaryNullCard

/-- THE TIED CARD OF 'laws.FnExactBinaryGrammar'. -/
def fnExactBinaryGrammarCard : Claim7 := { stood := { row := fnExactBinaryGrammarRow, standIns := [], harness := (true, "541ab252535a64f61b383d981b2006ce37062e3785817d7f4eac89880f20ffa6"), looks := false }, kinds := [], alts := [], laidByText := true, laidKinds := [.data], laidTests := true, laidLooks := .later }
def FnExactBinaryGrammarCardSaid : Prop := Claim7.holds Tryd.pinned (.plain (OpenSpec.ofChange fnExactBinaryGrammarSpec)) fnExactBinaryGrammarCard

/-- THE SECOND FORM's CARD OF 'laws.FnExactSpansOf'. -/
def fnExactSpansOfUptoCard : Claim7 := { stood := { row := fnExactSpansOfUptoRow, standIns := [], harness := (true, "541ab252535a64f61b383d981b2006ce37062e3785817d7f4eac89880f20ffa6"), looks := false }, kinds := [], alts := [], laidByText := true, laidKinds := [.data], laidTests := true, laidLooks := .later }
def FnExactSpansOfUptoCardSaid : Prop := Claim7.holds Tryd.pinned (.plain (OpenSpec.upto fnExactSpansOfSpec)) fnExactSpansOfUptoCard

/-- THE SECOND FORM's CARD OF 'laws.FnExactShortWords'. -/
def fnExactShortWordsUptoCard : Claim7 := { stood := { row := fnExactShortWordsUptoRow, standIns := [], harness := (true, "541ab252535a64f61b383d981b2006ce37062e3785817d7f4eac89880f20ffa6"), looks := false }, kinds := [], alts := [], laidByText := true, laidKinds := [.data], laidTests := true, laidLooks := .later }
def FnExactShortWordsUptoCardSaid : Prop := Claim7.holds Tryd.pinned (.plain (OpenSpec.upto fnExactShortWordsSpec)) fnExactShortWordsUptoCard

/-- THE SECOND FORM's CARD OF 'laws.FnExactBinaryOf'. -/
def fnExactBinaryOfUptoCard : Claim7 := { stood := { row := fnExactBinaryOfUptoRow, standIns := [], harness := (true, "541ab252535a64f61b383d981b2006ce37062e3785817d7f4eac89880f20ffa6"), looks := false }, kinds := [], alts := [], laidByText := true, laidKinds := [.data], laidTests := true, laidLooks := .later }
def FnExactBinaryOfUptoCardSaid : Prop := Claim7.holds Tryd.pinned (.plain (OpenSpec.upto fnExactBinaryOfSpec)) fnExactBinaryOfUptoCard

/-- THE SECOND FORM's CARD OF 'laws.FnExactGoodBinary'. -/
def fnExactGoodBinaryUptoCard : Claim7 := { stood := { row := fnExactGoodBinaryUptoRow, standIns := [], harness := (true, "541ab252535a64f61b383d981b2006ce37062e3785817d7f4eac89880f20ffa6"), looks := false }, kinds := [], alts := [], laidByText := true, laidKinds := [.data], laidTests := true, laidLooks := .later }
def FnExactGoodBinaryUptoCardSaid : Prop := Claim7.holds Tryd.pinned (.plain (OpenSpec.upto fnExactGoodBinarySpec)) fnExactGoodBinaryUptoCard

/-- THE SECOND FORM's CARD OF 'laws.FnExactBinarySize'. -/
def fnExactBinarySizeUptoCard : Claim7 := { stood := { row := fnExactBinarySizeUptoRow, standIns := [], harness := (true, "541ab252535a64f61b383d981b2006ce37062e3785817d7f4eac89880f20ffa6"), looks := false }, kinds := [], alts := [], laidByText := true, laidKinds := [.data], laidTests := true, laidLooks := .later }
def FnExactBinarySizeUptoCardSaid : Prop := Claim7.holds Tryd.pinned (.plain (OpenSpec.upto fnExactBinarySizeSpec)) fnExactBinarySizeUptoCard

/-- THE SECOND FORM's CARD OF 'laws.FnExactHelperSays'. -/
def fnExactHelperSaysUptoCard : Claim7 := { stood := { row := fnExactHelperSaysUptoRow, standIns := [], harness := (true, "541ab252535a64f61b383d981b2006ce37062e3785817d7f4eac89880f20ffa6"), looks := false }, kinds := [], alts := [], laidByText := true, laidKinds := [.data], laidTests := true, laidLooks := .later }
def FnExactHelperSaysUptoCardSaid : Prop := Claim7.holds Tryd.pinned (.plain (OpenSpec.upto fnExactHelperSaysSpec)) fnExactHelperSaysUptoCard

/-- THE SECOND FORM's CARD OF 'laws.FnExactBinaryNull'. -/
def fnExactBinaryNullUptoCard : Claim7 := { stood := { row := fnExactBinaryNullUptoRow, standIns := [], harness := (true, "541ab252535a64f61b383d981b2006ce37062e3785817d7f4eac89880f20ffa6"), looks := false }, kinds := [], alts := [], laidByText := true, laidKinds := [.data], laidTests := true, laidLooks := .later }
def FnExactBinaryNullUptoCardSaid : Prop := Claim7.holds Tryd.pinned (.plain (OpenSpec.upto fnExactBinaryNullSpec)) fnExactBinaryNullUptoCard

/-- THE SECOND FORM's CARD OF 'laws.FnExactBinaryGrammar'. -/
def fnExactBinaryGrammarUptoCard : Claim7 := { stood := { row := fnExactBinaryGrammarUptoRow, standIns := [], harness := (true, "541ab252535a64f61b383d981b2006ce37062e3785817d7f4eac89880f20ffa6"), looks := false }, kinds := [], alts := [], laidByText := true, laidKinds := [.data], laidTests := true, laidLooks := .later }
def FnExactBinaryGrammarUptoCardSaid : Prop := Claim7.holds Tryd.pinned (.plain (OpenSpec.upto fnExactBinaryGrammarSpec)) fnExactBinaryGrammarUptoCard
end Rows
end Go.Proofs.YtjfhkcoiomokoaaDoor
