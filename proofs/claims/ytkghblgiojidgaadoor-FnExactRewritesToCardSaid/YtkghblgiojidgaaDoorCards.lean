/-
  DERIVED. GIVEN WITH THE SEED: THE CARDS: each row of YtkghblgiojidgaaDoorRows.lean that lists a variable, with what it lists TIED to the program's text (the seventh form; the later family's looks); each row that meets fmt, with fmt's text TOLD by the authors' own Lean function (tested against real Go, not proved from fmt's source: count such statements apart). THE CARD IS WHAT COUNTS. Prove the row's statement (the work); the ties are given (YtkghblgiojidgaaDoorTie.lean); close each card by the builder's one call (the guide's Derived/Test/ToyasCard.lean, 'card_holds'). Laid BY PROGRAM, IN A SANDBOX (cutbox-door.mjs). By AI agents, Wed Nov 11 2026. No macro, syntax, notation, axiom, sorry.
-/
import Derived.Test.YtkghblgiojidgaaDoorRows
import GoSem.ClaimSeven
namespace Go.Proofs.YtkghblgiojidgaaDoor
namespace Rows

/-- THE TIED CARD OF 'laws.FnExactIsFinite'. -/
def fnExactIsFiniteCard : Claim7 := { stood := { row := fnExactIsFiniteRow, standIns := [], harness := (true, "b6d24e04147e7dc644d1b0832934482d272696240ab30a0a6fe49860f60cdd0b"), looks := false }, kinds := [], alts := [], laidByText := true, laidKinds := [.data], laidTests := true, laidLooks := .later }
def FnExactIsFiniteCardSaid : Prop := Claim7.holds Tryd.pinned (.plain (OpenSpec.ofChange fnExactIsFiniteSpec)) fnExactIsFiniteCard

/-- THE TIED CARD OF 'laws.FnExactDerives'. -/
def fnExactDerivesCard : Claim7 := { stood := { row := fnExactDerivesRow, standIns := [], harness := (true, "b6d24e04147e7dc644d1b0832934482d272696240ab30a0a6fe49860f60cdd0b"), looks := false }, kinds := [], alts := [], laidByText := true, laidKinds := [.data], laidTests := true, laidLooks := .later }
def FnExactDerivesCardSaid : Prop := Claim7.holds Tryd.pinned (.plain (OpenSpec.ofChange fnExactDerivesSpec)) fnExactDerivesCard

/-- THE TIED CARD OF 'laws.FnExactInLanguage'. -/
def fnExactInLanguageCard : Claim7 := { stood := { row := fnExactInLanguageRow, standIns := [], harness := (true, "b6d24e04147e7dc644d1b0832934482d272696240ab30a0a6fe49860f60cdd0b"), looks := false }, kinds := [], alts := [], laidByText := true, laidKinds := [.data], laidTests := true, laidLooks := .later }
def FnExactInLanguageCardSaid : Prop := Claim7.holds Tryd.pinned (.plain (OpenSpec.ofChange fnExactInLanguageSpec)) fnExactInLanguageCard

/-- THE TIED CARD OF 'laws.FnExactSpansOf'. -/
def fnExactSpansOfCard : Claim7 := { stood := { row := fnExactSpansOfRow, standIns := [], harness := (true, "b6d24e04147e7dc644d1b0832934482d272696240ab30a0a6fe49860f60cdd0b"), looks := false }, kinds := [], alts := [], laidByText := true, laidKinds := [.data], laidTests := true, laidLooks := .later }
def FnExactSpansOfCardSaid : Prop := Claim7.holds Tryd.pinned (.plain (OpenSpec.ofChange fnExactSpansOfSpec)) fnExactSpansOfCard

/-- THE TIED CARD OF 'laws.FnExactShortWords'. -/
def fnExactShortWordsCard : Claim7 := { stood := { row := fnExactShortWordsRow, standIns := [], harness := (true, "b6d24e04147e7dc644d1b0832934482d272696240ab30a0a6fe49860f60cdd0b"), looks := false }, kinds := [], alts := [], laidByText := true, laidKinds := [.data], laidTests := true, laidLooks := .later }
def FnExactShortWordsCardSaid : Prop := Claim7.holds Tryd.pinned (.plain (OpenSpec.ofChange fnExactShortWordsSpec)) fnExactShortWordsCard

/-- THE TIED CARD OF 'laws.FnExactSequenceDerives'. -/
def fnExactSequenceDerivesCard : Claim7 := { stood := { row := fnExactSequenceDerivesRow, standIns := [], harness := (true, "b6d24e04147e7dc644d1b0832934482d272696240ab30a0a6fe49860f60cdd0b"), looks := false }, kinds := [], alts := [], laidByText := true, laidKinds := [.data], laidTests := true, laidLooks := .later }
def FnExactSequenceDerivesCardSaid : Prop := Claim7.holds Tryd.pinned (.plain (OpenSpec.ofChange fnExactSequenceDerivesSpec)) fnExactSequenceDerivesCard

/-- THE TIED CARD OF 'laws.FnExactDeriveStep'. -/
def fnExactDeriveStepCard : Claim7 := { stood := { row := fnExactDeriveStepRow, standIns := [], harness := (true, "b6d24e04147e7dc644d1b0832934482d272696240ab30a0a6fe49860f60cdd0b"), looks := false }, kinds := [], alts := [], laidByText := true, laidKinds := [.data], laidTests := true, laidLooks := .later }
def FnExactDeriveStepCardSaid : Prop := Claim7.holds Tryd.pinned (.plain (OpenSpec.ofChange fnExactDeriveStepSpec)) fnExactDeriveStepCard

/-- THE TIED CARD OF 'laws.FnExactRewritesTo'. -/
def fnExactRewritesToCard : Claim7 := { stood := { row := fnExactRewritesToRow, standIns := [], harness := (true, "b6d24e04147e7dc644d1b0832934482d272696240ab30a0a6fe49860f60cdd0b"), looks := false }, kinds := [], alts := [], laidByText := true, laidKinds := [.data], laidTests := true, laidLooks := .later }
def FnExactRewritesToCardSaid : Prop := Claim7.holds Tryd.pinned (.plain (OpenSpec.ofChange fnExactRewritesToSpec)) fnExactRewritesToCard

/-- THE TIED CARD OF 'laws.FnDerives'. -/
def fnDerivesCard : Claim7 := { stood := { row := fnDerivesRow, standIns := [], harness := (true, "b6d24e04147e7dc644d1b0832934482d272696240ab30a0a6fe49860f60cdd0b"), looks := false }, kinds := [], alts := [], laidByText := true, laidKinds := [.data], laidTests := true, laidLooks := .later }
def FnDerivesCardSaid : Prop := Claim7.holds Tryd.pinned (.plain (OpenSpec.ofChange fnDerivesSpec)) fnDerivesCard

/-- THE SECOND FORM's CARD OF 'laws.FnExactIsFinite'. -/
def fnExactIsFiniteUptoCard : Claim7 := { stood := { row := fnExactIsFiniteUptoRow, standIns := [], harness := (true, "b6d24e04147e7dc644d1b0832934482d272696240ab30a0a6fe49860f60cdd0b"), looks := false }, kinds := [], alts := [], laidByText := true, laidKinds := [.data], laidTests := true, laidLooks := .later }
def FnExactIsFiniteUptoCardSaid : Prop := Claim7.holds Tryd.pinned (.plain (OpenSpec.upto fnExactIsFiniteSpec)) fnExactIsFiniteUptoCard

/-- THE SECOND FORM's CARD OF 'laws.FnExactDerives'. -/
def fnExactDerivesUptoCard : Claim7 := { stood := { row := fnExactDerivesUptoRow, standIns := [], harness := (true, "b6d24e04147e7dc644d1b0832934482d272696240ab30a0a6fe49860f60cdd0b"), looks := false }, kinds := [], alts := [], laidByText := true, laidKinds := [.data], laidTests := true, laidLooks := .later }
def FnExactDerivesUptoCardSaid : Prop := Claim7.holds Tryd.pinned (.plain (OpenSpec.upto fnExactDerivesSpec)) fnExactDerivesUptoCard

/-- THE SECOND FORM's CARD OF 'laws.FnExactInLanguage'. -/
def fnExactInLanguageUptoCard : Claim7 := { stood := { row := fnExactInLanguageUptoRow, standIns := [], harness := (true, "b6d24e04147e7dc644d1b0832934482d272696240ab30a0a6fe49860f60cdd0b"), looks := false }, kinds := [], alts := [], laidByText := true, laidKinds := [.data], laidTests := true, laidLooks := .later }
def FnExactInLanguageUptoCardSaid : Prop := Claim7.holds Tryd.pinned (.plain (OpenSpec.upto fnExactInLanguageSpec)) fnExactInLanguageUptoCard

/-- THE SECOND FORM's CARD OF 'laws.FnExactSpansOf'. -/
def fnExactSpansOfUptoCard : Claim7 := { stood := { row := fnExactSpansOfUptoRow, standIns := [], harness := (true, "b6d24e04147e7dc644d1b0832934482d272696240ab30a0a6fe49860f60cdd0b"), looks := false }, kinds := [], alts := [], laidByText := true, laidKinds := [.data], laidTests := true, laidLooks := .later }
def FnExactSpansOfUptoCardSaid : Prop := Claim7.holds Tryd.pinned (.plain (OpenSpec.upto fnExactSpansOfSpec)) fnExactSpansOfUptoCard

/-- THE SECOND FORM's CARD OF 'laws.FnExactShortWords'. -/
def fnExactShortWordsUptoCard : Claim7 := { stood := { row := fnExactShortWordsUptoRow, standIns := [], harness := (true, "b6d24e04147e7dc644d1b0832934482d272696240ab30a0a6fe49860f60cdd0b"), looks := false }, kinds := [], alts := [], laidByText := true, laidKinds := [.data], laidTests := true, laidLooks := .later }
def FnExactShortWordsUptoCardSaid : Prop := Claim7.holds Tryd.pinned (.plain (OpenSpec.upto fnExactShortWordsSpec)) fnExactShortWordsUptoCard

/-- THE SECOND FORM's CARD OF 'laws.FnExactSequenceDerives'. -/
def fnExactSequenceDerivesUptoCard : Claim7 := { stood := { row := fnExactSequenceDerivesUptoRow, standIns := [], harness := (true, "b6d24e04147e7dc644d1b0832934482d272696240ab30a0a6fe49860f60cdd0b"), looks := false }, kinds := [], alts := [], laidByText := true, laidKinds := [.data], laidTests := true, laidLooks := .later }
def FnExactSequenceDerivesUptoCardSaid : Prop := Claim7.holds Tryd.pinned (.plain (OpenSpec.upto fnExactSequenceDerivesSpec)) fnExactSequenceDerivesUptoCard

/-- THE SECOND FORM's CARD OF 'laws.FnExactDeriveStep'. -/
def fnExactDeriveStepUptoCard : Claim7 := { stood := { row := fnExactDeriveStepUptoRow, standIns := [], harness := (true, "b6d24e04147e7dc644d1b0832934482d272696240ab30a0a6fe49860f60cdd0b"), looks := false }, kinds := [], alts := [], laidByText := true, laidKinds := [.data], laidTests := true, laidLooks := .later }
def FnExactDeriveStepUptoCardSaid : Prop := Claim7.holds Tryd.pinned (.plain (OpenSpec.upto fnExactDeriveStepSpec)) fnExactDeriveStepUptoCard

/-- THE SECOND FORM's CARD OF 'laws.FnExactRewritesTo'. -/
def fnExactRewritesToUptoCard : Claim7 := { stood := { row := fnExactRewritesToUptoRow, standIns := [], harness := (true, "b6d24e04147e7dc644d1b0832934482d272696240ab30a0a6fe49860f60cdd0b"), looks := false }, kinds := [], alts := [], laidByText := true, laidKinds := [.data], laidTests := true, laidLooks := .later }
def FnExactRewritesToUptoCardSaid : Prop := Claim7.holds Tryd.pinned (.plain (OpenSpec.upto fnExactRewritesToSpec)) fnExactRewritesToUptoCard

/-- THE SECOND FORM's CARD OF 'laws.FnDerives'. -/
def fnDerivesUptoCard : Claim7 := { stood := { row := fnDerivesUptoRow, standIns := [], harness := (true, "b6d24e04147e7dc644d1b0832934482d272696240ab30a0a6fe49860f60cdd0b"), looks := false }, kinds := [], alts := [], laidByText := true, laidKinds := [.data], laidTests := true, laidLooks := .later }
def FnDerivesUptoCardSaid : Prop := Claim7.holds Tryd.pinned (.plain (OpenSpec.upto fnDerivesSpec)) fnDerivesUptoCard
end Rows
end Go.Proofs.YtkghblgiojidgaaDoor
