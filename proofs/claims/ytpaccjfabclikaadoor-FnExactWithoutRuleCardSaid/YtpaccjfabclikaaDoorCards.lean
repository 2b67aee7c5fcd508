/-
  DERIVED. GIVEN WITH THE SEED: THE CARDS: each row of YtpaccjfabclikaaDoorRows.lean that lists a variable, with what it lists TIED to the program's text (the seventh form; the later family's looks); each row that meets fmt, with fmt's text TOLD by the authors' own Lean function (tested against real Go, not proved from fmt's source: count such statements apart). THE CARD IS WHAT COUNTS. Prove the row's statement (the work); the ties are given (YtpaccjfabclikaaDoorTie.lean); close each card by the builder's one call (the guide's Derived/Test/ToyasCard.lean, 'card_holds'). Laid BY PROGRAM, IN A SANDBOX (cutbox-door.mjs). By AI agents, Wed Nov 11 2026. No macro, syntax, notation, axiom, sorry.
-/
import Derived.Test.YtpaccjfabclikaaDoorRows
import GoSem.ClaimSeven
namespace Go.Proofs.YtpaccjfabclikaaDoor
namespace Rows

/-- THE TIED CARD OF 'laws.FnExactGoodGrammar'. -/
def fnExactGoodGrammarCard : Claim7 := { stood := { row := fnExactGoodGrammarRow, standIns := [], harness := (true, "c46394c8351e4bb18159eac2b3e2cb7ff056dd7456f7f5f4518b4ac270394e03"), looks := false }, kinds := [], alts := [], laidByText := true, laidKinds := [.data], laidTests := true, laidLooks := .later }
def FnExactGoodGrammarCardSaid : Prop := Claim7.holds Tryd.pinned (.plain (OpenSpec.ofChange fnExactGoodGrammarSpec)) fnExactGoodGrammarCard

/-- THE TIED CARD OF 'laws.FnExactGoodWord'. -/
def fnExactGoodWordCard : Claim7 := { stood := { row := fnExactGoodWordRow, standIns := [], harness := (true, "c46394c8351e4bb18159eac2b3e2cb7ff056dd7456f7f5f4518b4ac270394e03"), looks := false }, kinds := [], alts := [], laidByText := true, laidKinds := [.data], laidTests := true, laidLooks := .later }
def FnExactGoodWordCardSaid : Prop := Claim7.holds Tryd.pinned (.plain (OpenSpec.ofChange fnExactGoodWordSpec)) fnExactGoodWordCard

/-- THE TIED CARD OF 'laws.FnExactRulesOf'. -/
def fnExactRulesOfCard : Claim7 := { stood := { row := fnExactRulesOfRow, standIns := [], harness := (true, "c46394c8351e4bb18159eac2b3e2cb7ff056dd7456f7f5f4518b4ac270394e03"), looks := false }, kinds := [], alts := [], laidByText := true, laidKinds := [.data], laidTests := true, laidLooks := .later }
def FnExactRulesOfCardSaid : Prop := Claim7.holds Tryd.pinned (.plain (OpenSpec.ofChange fnExactRulesOfSpec)) fnExactRulesOfCard

/-- THE TIED CARD OF 'laws.FnExactSizeOf'. -/
def fnExactSizeOfCard : Claim7 := { stood := { row := fnExactSizeOfRow, standIns := [], harness := (true, "c46394c8351e4bb18159eac2b3e2cb7ff056dd7456f7f5f4518b4ac270394e03"), looks := false }, kinds := [], alts := [], laidByText := true, laidKinds := [.data], laidTests := true, laidLooks := .later }
def FnExactSizeOfCardSaid : Prop := Claim7.holds Tryd.pinned (.plain (OpenSpec.ofChange fnExactSizeOfSpec)) fnExactSizeOfCard

/-- THE TIED CARD OF 'laws.FnExactReverseOf'. -/
def fnExactReverseOfCard : Claim7 := { stood := { row := fnExactReverseOfRow, standIns := [], harness := (true, "c46394c8351e4bb18159eac2b3e2cb7ff056dd7456f7f5f4518b4ac270394e03"), looks := false }, kinds := [], alts := [], laidByText := true, laidKinds := [.data], laidTests := true, laidLooks := .later }
def FnExactReverseOfCardSaid : Prop := Claim7.holds Tryd.pinned (.plain (OpenSpec.ofChange fnExactReverseOfSpec)) fnExactReverseOfCard

/-- THE TIED CARD OF 'laws.FnExactRenameNons'. -/
def fnExactRenameNonsCard : Claim7 := { stood := { row := fnExactRenameNonsRow, standIns := [], harness := (true, "c46394c8351e4bb18159eac2b3e2cb7ff056dd7456f7f5f4518b4ac270394e03"), looks := false }, kinds := [], alts := [], laidByText := true, laidKinds := [.data], laidTests := true, laidLooks := .later }
def FnExactRenameNonsCardSaid : Prop := Claim7.holds Tryd.pinned (.plain (OpenSpec.ofChange fnExactRenameNonsSpec)) fnExactRenameNonsCard

/-- THE TIED CARD OF 'laws.FnExactWithoutRule'. -/
def fnExactWithoutRuleCard : Claim7 := { stood := { row := fnExactWithoutRuleRow, standIns := [], harness := (true, "c46394c8351e4bb18159eac2b3e2cb7ff056dd7456f7f5f4518b4ac270394e03"), looks := false }, kinds := [], alts := [], laidByText := true, laidKinds := [.data], laidTests := true, laidLooks := .later }
def FnExactWithoutRuleCardSaid : Prop := Claim7.holds Tryd.pinned (.plain (OpenSpec.ofChange fnExactWithoutRuleSpec)) fnExactWithoutRuleCard

/-- THE SECOND FORM's CARD OF 'laws.FnExactGoodGrammar'. -/
def fnExactGoodGrammarUptoCard : Claim7 := { stood := { row := fnExactGoodGrammarUptoRow, standIns := [], harness := (true, "c46394c8351e4bb18159eac2b3e2cb7ff056dd7456f7f5f4518b4ac270394e03"), looks := false }, kinds := [], alts := [], laidByText := true, laidKinds := [.data], laidTests := true, laidLooks := .later }
def FnExactGoodGrammarUptoCardSaid : Prop := Claim7.holds Tryd.pinned (.plain (OpenSpec.upto fnExactGoodGrammarSpec)) fnExactGoodGrammarUptoCard

/-- THE SECOND FORM's CARD OF 'laws.FnExactGoodWord'. -/
def fnExactGoodWordUptoCard : Claim7 := { stood := { row := fnExactGoodWordUptoRow, standIns := [], harness := (true, "c46394c8351e4bb18159eac2b3e2cb7ff056dd7456f7f5f4518b4ac270394e03"), looks := false }, kinds := [], alts := [], laidByText := true, laidKinds := [.data], laidTests := true, laidLooks := .later }
def FnExactGoodWordUptoCardSaid : Prop := Claim7.holds Tryd.pinned (.plain (OpenSpec.upto fnExactGoodWordSpec)) fnExactGoodWordUptoCard

/-- THE SECOND FORM's CARD OF 'laws.FnExactRulesOf'. -/
def fnExactRulesOfUptoCard : Claim7 := { stood := { row := fnExactRulesOfUptoRow, standIns := [], harness := (true, "c46394c8351e4bb18159eac2b3e2cb7ff056dd7456f7f5f4518b4ac270394e03"), looks := false }, kinds := [], alts := [], laidByText := true, laidKinds := [.data], laidTests := true, laidLooks := .later }
def FnExactRulesOfUptoCardSaid : Prop := Claim7.holds Tryd.pinned (.plain (OpenSpec.upto fnExactRulesOfSpec)) fnExactRulesOfUptoCard

/-- THE SECOND FORM's CARD OF 'laws.FnExactSizeOf'. -/
def fnExactSizeOfUptoCard : Claim7 := { stood := { row := fnExactSizeOfUptoRow, standIns := [], harness := (true, "c46394c8351e4bb18159eac2b3e2cb7ff056dd7456f7f5f4518b4ac270394e03"), looks := false }, kinds := [], alts := [], laidByText := true, laidKinds := [.data], laidTests := true, laidLooks := .later }
def FnExactSizeOfUptoCardSaid : Prop := Claim7.holds Tryd.pinned (.plain (OpenSpec.upto fnExactSizeOfSpec)) fnExactSizeOfUptoCard

/-- THE SECOND FORM's CARD OF 'laws.FnExactReverseOf'. -/
def fnExactReverseOfUptoCard : Claim7 := { stood := { row := fnExactReverseOfUptoRow, standIns := [], harness := (true, "c46394c8351e4bb18159eac2b3e2cb7ff056dd7456f7f5f4518b4ac270394e03"), looks := false }, kinds := [], alts := [], laidByText := true, laidKinds := [.data], laidTests := true, laidLooks := .later }
def FnExactReverseOfUptoCardSaid : Prop := Claim7.holds Tryd.pinned (.plain (OpenSpec.upto fnExactReverseOfSpec)) fnExactReverseOfUptoCard

/-- THE SECOND FORM's CARD OF 'laws.FnExactRenameNons'. -/
def fnExactRenameNonsUptoCard : Claim7 := { stood := { row := fnExactRenameNonsUptoRow, standIns := [], harness := (true, "c46394c8351e4bb18159eac2b3e2cb7ff056dd7456f7f5f4518b4ac270394e03"), looks := false }, kinds := [], alts := [], laidByText := true, laidKinds := [.data], laidTests := true, laidLooks := .later }
def FnExactRenameNonsUptoCardSaid : Prop := Claim7.holds Tryd.pinned (.plain (OpenSpec.upto fnExactRenameNonsSpec)) fnExactRenameNonsUptoCard

/-- THE SECOND FORM's CARD OF 'laws.FnExactWithoutRule'. -/
def fnExactWithoutRuleUptoCard : Claim7 := { stood := { row := fnExactWithoutRuleUptoRow, standIns := [], harness := (true, "c46394c8351e4bb18159eac2b3e2cb7ff056dd7456f7f5f4518b4ac270394e03"), looks := false }, kinds := [], alts := [], laidByText := true, laidKinds := [.data], laidTests := true, laidLooks := .later }
def FnExactWithoutRuleUptoCardSaid : Prop := Claim7.holds Tryd.pinned (.plain (OpenSpec.upto fnExactWithoutRuleSpec)) fnExactWithoutRuleUptoCard
end Rows
end Go.Proofs.YtpaccjfabclikaaDoor
