/-
  DERIVED. GIVEN WITH THE SEED: THE CARDS: each row of YtacehfjhpnplbaaDoorRows.lean that lists a variable, with what it lists TIED to the program's text (the seventh form; the later family's looks); each row that meets fmt, with fmt's text TOLD by the authors' own Lean function (tested against real Go, not proved from fmt's source: count such statements apart). THE CARD IS WHAT COUNTS. Prove the row's statement (the work); the ties are given (YtacehfjhpnplbaaDoorTie.lean); close each card by the builder's one call (the guide's Derived/Test/ToyasCard.lean, 'card_holds'). Laid BY PROGRAM, IN A SANDBOX (cutbox-door.mjs). By AI agents, Wed Nov 11 2026. No macro, syntax, notation, axiom, sorry.
-/
import Derived.Test.YtacehfjhpnplbaaDoorRows
import GoSem.ClaimSeven
namespace Go.Proofs.YtacehfjhpnplbaaDoor
namespace Rows

/-- THE TIED CARD OF 'laws.FnGrammarText'. -/
def fnGrammarTextCard : Claim7 := { stood := { row := fnGrammarTextRow, standIns := [], harness := (true, "506f21e04cab55988fc8f40970c57329631d7ba9fd3efc9b0d59a8a1f8b1144a"), looks := true }, kinds := [], alts := [], laidByText := true, laidKinds := [.data, .data, .data], laidTests := true, laidLooks := .later }
def FnGrammarTextCardSaid : Prop := Claim7.holds Tryd.pinned (.plain (OpenSpec.ofChange fnGrammarTextSpec)) fnGrammarTextCard

/-- THE TIED CARD OF 'laws.FnExactNullableOf'. -/
def fnExactNullableOfCard : Claim7 := { stood := { row := fnExactNullableOfRow, standIns := [], harness := (true, "506f21e04cab55988fc8f40970c57329631d7ba9fd3efc9b0d59a8a1f8b1144a"), looks := true }, kinds := [], alts := [], laidByText := true, laidKinds := [.data], laidTests := true, laidLooks := .later }
def FnExactNullableOfCardSaid : Prop := Claim7.holds Tryd.pinned (.plain (OpenSpec.ofChange fnExactNullableOfSpec)) fnExactNullableOfCard

/-- THE TIED CARD OF 'laws.FnExactProductiveOf'. -/
def fnExactProductiveOfCard : Claim7 := { stood := { row := fnExactProductiveOfRow, standIns := [], harness := (true, "506f21e04cab55988fc8f40970c57329631d7ba9fd3efc9b0d59a8a1f8b1144a"), looks := true }, kinds := [], alts := [], laidByText := true, laidKinds := [.data], laidTests := true, laidLooks := .later }
def FnExactProductiveOfCardSaid : Prop := Claim7.holds Tryd.pinned (.plain (OpenSpec.ofChange fnExactProductiveOfSpec)) fnExactProductiveOfCard

/-- THE TIED CARD OF 'laws.FnExactReachedOf'. -/
def fnExactReachedOfCard : Claim7 := { stood := { row := fnExactReachedOfRow, standIns := [], harness := (true, "506f21e04cab55988fc8f40970c57329631d7ba9fd3efc9b0d59a8a1f8b1144a"), looks := true }, kinds := [], alts := [], laidByText := true, laidKinds := [.data], laidTests := true, laidLooks := .later }
def FnExactReachedOfCardSaid : Prop := Claim7.holds Tryd.pinned (.plain (OpenSpec.ofChange fnExactReachedOfSpec)) fnExactReachedOfCard

/-- THE TIED CARD OF 'laws.FnExactUsefulOf'. -/
def fnExactUsefulOfCard : Claim7 := { stood := { row := fnExactUsefulOfRow, standIns := [], harness := (true, "506f21e04cab55988fc8f40970c57329631d7ba9fd3efc9b0d59a8a1f8b1144a"), looks := true }, kinds := [], alts := [], laidByText := true, laidKinds := [.data], laidTests := true, laidLooks := .later }
def FnExactUsefulOfCardSaid : Prop := Claim7.holds Tryd.pinned (.plain (OpenSpec.ofChange fnExactUsefulOfSpec)) fnExactUsefulOfCard

/-- THE TIED CARD OF 'laws.FnExactGrowingOf'. -/
def fnExactGrowingOfCard : Claim7 := { stood := { row := fnExactGrowingOfRow, standIns := [], harness := (true, "506f21e04cab55988fc8f40970c57329631d7ba9fd3efc9b0d59a8a1f8b1144a"), looks := true }, kinds := [], alts := [], laidByText := true, laidKinds := [.data], laidTests := true, laidLooks := .later }
def FnExactGrowingOfCardSaid : Prop := Claim7.holds Tryd.pinned (.plain (OpenSpec.ofChange fnExactGrowingOfSpec)) fnExactGrowingOfCard

/-- THE TIED CARD OF 'laws.FnExactIsFinite'. -/
def fnExactIsFiniteCard : Claim7 := { stood := { row := fnExactIsFiniteRow, standIns := [], harness := (true, "506f21e04cab55988fc8f40970c57329631d7ba9fd3efc9b0d59a8a1f8b1144a"), looks := true }, kinds := [], alts := [], laidByText := true, laidKinds := [.data], laidTests := true, laidLooks := .later }
def FnExactIsFiniteCardSaid : Prop := Claim7.holds Tryd.pinned (.plain (OpenSpec.ofChange fnExactIsFiniteSpec)) fnExactIsFiniteCard

/-- THE TIED CARD OF 'laws.FnExactLeastLong'. -/
def fnExactLeastLongCard : Claim7 := { stood := { row := fnExactLeastLongRow, standIns := [], harness := (true, "506f21e04cab55988fc8f40970c57329631d7ba9fd3efc9b0d59a8a1f8b1144a"), looks := true }, kinds := [], alts := [], laidByText := true, laidKinds := [.data], laidTests := true, laidLooks := .later }
def FnExactLeastLongCardSaid : Prop := Claim7.holds Tryd.pinned (.plain (OpenSpec.ofChange fnExactLeastLongSpec)) fnExactLeastLongCard

/-- THE TIED CARD OF 'laws.FnExactIsUseful'. -/
def fnExactIsUsefulCard : Claim7 := { stood := { row := fnExactIsUsefulRow, standIns := [], harness := (true, "506f21e04cab55988fc8f40970c57329631d7ba9fd3efc9b0d59a8a1f8b1144a"), looks := true }, kinds := [], alts := [], laidByText := true, laidKinds := [.data], laidTests := true, laidLooks := .later }
def FnExactIsUsefulCardSaid : Prop := Claim7.holds Tryd.pinned (.plain (OpenSpec.ofChange fnExactIsUsefulSpec)) fnExactIsUsefulCard

/-- THE SECOND FORM's CARD OF 'laws.FnGrammarText'. -/
def fnGrammarTextUptoCard : Claim7 := { stood := { row := fnGrammarTextUptoRow, standIns := [], harness := (true, "506f21e04cab55988fc8f40970c57329631d7ba9fd3efc9b0d59a8a1f8b1144a"), looks := true }, kinds := [], alts := [], laidByText := true, laidKinds := [.data, .data, .data], laidTests := true, laidLooks := .later }
def FnGrammarTextUptoCardSaid : Prop := Claim7.holds Tryd.pinned (.plain (OpenSpec.upto fnGrammarTextSpec)) fnGrammarTextUptoCard

/-- THE SECOND FORM's CARD OF 'laws.FnExactNullableOf'. -/
def fnExactNullableOfUptoCard : Claim7 := { stood := { row := fnExactNullableOfUptoRow, standIns := [], harness := (true, "506f21e04cab55988fc8f40970c57329631d7ba9fd3efc9b0d59a8a1f8b1144a"), looks := true }, kinds := [], alts := [], laidByText := true, laidKinds := [.data], laidTests := true, laidLooks := .later }
def FnExactNullableOfUptoCardSaid : Prop := Claim7.holds Tryd.pinned (.plain (OpenSpec.upto fnExactNullableOfSpec)) fnExactNullableOfUptoCard

/-- THE SECOND FORM's CARD OF 'laws.FnExactProductiveOf'. -/
def fnExactProductiveOfUptoCard : Claim7 := { stood := { row := fnExactProductiveOfUptoRow, standIns := [], harness := (true, "506f21e04cab55988fc8f40970c57329631d7ba9fd3efc9b0d59a8a1f8b1144a"), looks := true }, kinds := [], alts := [], laidByText := true, laidKinds := [.data], laidTests := true, laidLooks := .later }
def FnExactProductiveOfUptoCardSaid : Prop := Claim7.holds Tryd.pinned (.plain (OpenSpec.upto fnExactProductiveOfSpec)) fnExactProductiveOfUptoCard

/-- THE SECOND FORM's CARD OF 'laws.FnExactReachedOf'. -/
def fnExactReachedOfUptoCard : Claim7 := { stood := { row := fnExactReachedOfUptoRow, standIns := [], harness := (true, "506f21e04cab55988fc8f40970c57329631d7ba9fd3efc9b0d59a8a1f8b1144a"), looks := true }, kinds := [], alts := [], laidByText := true, laidKinds := [.data], laidTests := true, laidLooks := .later }
def FnExactReachedOfUptoCardSaid : Prop := Claim7.holds Tryd.pinned (.plain (OpenSpec.upto fnExactReachedOfSpec)) fnExactReachedOfUptoCard

/-- THE SECOND FORM's CARD OF 'laws.FnExactUsefulOf'. -/
def fnExactUsefulOfUptoCard : Claim7 := { stood := { row := fnExactUsefulOfUptoRow, standIns := [], harness := (true, "506f21e04cab55988fc8f40970c57329631d7ba9fd3efc9b0d59a8a1f8b1144a"), looks := true }, kinds := [], alts := [], laidByText := true, laidKinds := [.data], laidTests := true, laidLooks := .later }
def FnExactUsefulOfUptoCardSaid : Prop := Claim7.holds Tryd.pinned (.plain (OpenSpec.upto fnExactUsefulOfSpec)) fnExactUsefulOfUptoCard

/-- THE SECOND FORM's CARD OF 'laws.FnExactGrowingOf'. -/
def fnExactGrowingOfUptoCard : Claim7 := { stood := { row := fnExactGrowingOfUptoRow, standIns := [], harness := (true, "506f21e04cab55988fc8f40970c57329631d7ba9fd3efc9b0d59a8a1f8b1144a"), looks := true }, kinds := [], alts := [], laidByText := true, laidKinds := [.data], laidTests := true, laidLooks := .later }
def FnExactGrowingOfUptoCardSaid : Prop := Claim7.holds Tryd.pinned (.plain (OpenSpec.upto fnExactGrowingOfSpec)) fnExactGrowingOfUptoCard

/-- THE SECOND FORM's CARD OF 'laws.FnExactIsFinite'. -/
def fnExactIsFiniteUptoCard : Claim7 := { stood := { row := fnExactIsFiniteUptoRow, standIns := [], harness := (true, "506f21e04cab55988fc8f40970c57329631d7ba9fd3efc9b0d59a8a1f8b1144a"), looks := true }, kinds := [], alts := [], laidByText := true, laidKinds := [.data], laidTests := true, laidLooks := .later }
def FnExactIsFiniteUptoCardSaid : Prop := Claim7.holds Tryd.pinned (.plain (OpenSpec.upto fnExactIsFiniteSpec)) fnExactIsFiniteUptoCard

/-- THE SECOND FORM's CARD OF 'laws.FnExactLeastLong'. -/
def fnExactLeastLongUptoCard : Claim7 := { stood := { row := fnExactLeastLongUptoRow, standIns := [], harness := (true, "506f21e04cab55988fc8f40970c57329631d7ba9fd3efc9b0d59a8a1f8b1144a"), looks := true }, kinds := [], alts := [], laidByText := true, laidKinds := [.data], laidTests := true, laidLooks := .later }
def FnExactLeastLongUptoCardSaid : Prop := Claim7.holds Tryd.pinned (.plain (OpenSpec.upto fnExactLeastLongSpec)) fnExactLeastLongUptoCard

/-- THE SECOND FORM's CARD OF 'laws.FnExactIsUseful'. -/
def fnExactIsUsefulUptoCard : Claim7 := { stood := { row := fnExactIsUsefulUptoRow, standIns := [], harness := (true, "506f21e04cab55988fc8f40970c57329631d7ba9fd3efc9b0d59a8a1f8b1144a"), looks := true }, kinds := [], alts := [], laidByText := true, laidKinds := [.data], laidTests := true, laidLooks := .later }
def FnExactIsUsefulUptoCardSaid : Prop := Claim7.holds Tryd.pinned (.plain (OpenSpec.upto fnExactIsUsefulSpec)) fnExactIsUsefulUptoCard
end Rows
end Go.Proofs.YtacehfjhpnplbaaDoor
