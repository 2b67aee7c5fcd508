/-
  DERIVED. GIVEN WITH THE SEED: THE CARDS: each row of YtgnpgehekfhedaaDoorRows.lean that lists a variable, with what it lists TIED to the program's text (the seventh form; the later family's looks); each row that meets fmt, with fmt's text TOLD by the authors' own Lean function (tested against real Go, not proved from fmt's source: count such statements apart). THE CARD IS WHAT COUNTS. Prove the row's statement (the work); the ties are given (YtgnpgehekfhedaaDoorTie.lean); close each card by the builder's one call (the guide's Derived/Test/ToyasCard.lean, 'card_holds'). Laid BY PROGRAM, IN A SANDBOX (cutbox-door.mjs). By AI agents, Wed Nov 11 2026. No macro, syntax, notation, axiom, sorry.
-/
import Derived.Test.YtgnpgehekfhedaaDoorRows
import GoSem.ClaimSeven
namespace Go.Proofs.YtgnpgehekfhedaaDoor
namespace Rows

/-- THE TIED CARD OF 'laws.FnExactBinaryOf'. -/
def fnExactBinaryOfCard : Claim7 := { stood := { row := fnExactBinaryOfRow, standIns := [], harness := (true, "1fac3799f206336fa8af4b9097f4185abcb8c03864a1d5e98eee04a0eb5b7ada"), looks := false }, kinds := [], alts := [], laidByText := true, laidKinds := [.data], laidTests := true, laidLooks := .later }
def FnExactBinaryOfCardSaid : Prop := Claim7.holds Tryd.pinned (.plain (OpenSpec.ofChange fnExactBinaryOfSpec)) fnExactBinaryOfCard

/-- THE TIED CARD OF 'laws.FnExactHelperSays'. -/
def fnExactHelperSaysCard : Claim7 := { stood := { row := fnExactHelperSaysRow, standIns := [], harness := (true, "1fac3799f206336fa8af4b9097f4185abcb8c03864a1d5e98eee04a0eb5b7ada"), looks := false }, kinds := [], alts := [], laidByText := true, laidKinds := [.data], laidTests := true, laidLooks := .later }
def FnExactHelperSaysCardSaid : Prop := Claim7.holds Tryd.pinned (.plain (OpenSpec.ofChange fnExactHelperSaysSpec)) fnExactHelperSaysCard

/-- THE TIED CARD OF 'laws.FnExactUnitPairs'. -/
def fnExactUnitPairsCard : Claim7 := { stood := { row := fnExactUnitPairsRow, standIns := [], harness := (true, "1fac3799f206336fa8af4b9097f4185abcb8c03864a1d5e98eee04a0eb5b7ada"), looks := false }, kinds := [], alts := [], laidByText := true, laidKinds := [.data], laidTests := true, laidLooks := .later }
def FnExactUnitPairsCardSaid : Prop := Claim7.holds Tryd.pinned (.plain (OpenSpec.ofChange fnExactUnitPairsSpec)) fnExactUnitPairsCard

/-- THE TIED CARD OF 'laws.FnExactClosedSet'. -/
def fnExactClosedSetCard : Claim7 := { stood := { row := fnExactClosedSetRow, standIns := [], harness := (true, "1fac3799f206336fa8af4b9097f4185abcb8c03864a1d5e98eee04a0eb5b7ada"), looks := false }, kinds := [], alts := [], laidByText := true, laidKinds := [.data], laidTests := true, laidLooks := .later }
def FnExactClosedSetCardSaid : Prop := Claim7.holds Tryd.pinned (.plain (OpenSpec.ofChange fnExactClosedSetSpec)) fnExactClosedSetCard

/-- THE TIED CARD OF 'laws.FnExactUnitRow'. -/
def fnExactUnitRowCard : Claim7 := { stood := { row := fnExactUnitRowRow, standIns := [], harness := (true, "1fac3799f206336fa8af4b9097f4185abcb8c03864a1d5e98eee04a0eb5b7ada"), looks := false }, kinds := [], alts := [], laidByText := true, laidKinds := [.data], laidTests := true, laidLooks := .later }
def FnExactUnitRowCardSaid : Prop := Claim7.holds Tryd.pinned (.plain (OpenSpec.ofChange fnExactUnitRowSpec)) fnExactUnitRowCard

/-- THE TIED CARD OF 'laws.FnExactUnitRows'. -/
def fnExactUnitRowsCard : Claim7 := { stood := { row := fnExactUnitRowsRow, standIns := [], harness := (true, "1fac3799f206336fa8af4b9097f4185abcb8c03864a1d5e98eee04a0eb5b7ada"), looks := false }, kinds := [], alts := [], laidByText := true, laidKinds := [.data], laidTests := true, laidLooks := .later }
def FnExactUnitRowsCardSaid : Prop := Claim7.holds Tryd.pinned (.plain (OpenSpec.ofChange fnExactUnitRowsSpec)) fnExactUnitRowsCard

/-- THE TIED CARD OF 'laws.FnExactHasUnitRound'. -/
def fnExactHasUnitRoundCard : Claim7 := { stood := { row := fnExactHasUnitRoundRow, standIns := [], harness := (true, "1fac3799f206336fa8af4b9097f4185abcb8c03864a1d5e98eee04a0eb5b7ada"), looks := false }, kinds := [], alts := [], laidByText := true, laidKinds := [.data], laidTests := true, laidLooks := .later }
def FnExactHasUnitRoundCardSaid : Prop := Claim7.holds Tryd.pinned (.plain (OpenSpec.ofChange fnExactHasUnitRoundSpec)) fnExactHasUnitRoundCard

/-- THE TIED CARD OF 'laws.FnDerives'. -/
def fnDerivesCard : Claim7 := { stood := { row := fnDerivesRow, standIns := [], harness := (true, "1fac3799f206336fa8af4b9097f4185abcb8c03864a1d5e98eee04a0eb5b7ada"), looks := false }, kinds := [], alts := [], laidByText := true, laidKinds := [.data], laidTests := true, laidLooks := .later }
def FnDerivesCardSaid : Prop := Claim7.holds Tryd.pinned (.plain (OpenSpec.ofChange fnDerivesSpec)) fnDerivesCard

/-- THE SECOND FORM's CARD OF 'laws.FnExactBinaryOf'. -/
def fnExactBinaryOfUptoCard : Claim7 := { stood := { row := fnExactBinaryOfUptoRow, standIns := [], harness := (true, "1fac3799f206336fa8af4b9097f4185abcb8c03864a1d5e98eee04a0eb5b7ada"), looks := false }, kinds := [], alts := [], laidByText := true, laidKinds := [.data], laidTests := true, laidLooks := .later }
def FnExactBinaryOfUptoCardSaid : Prop := Claim7.holds Tryd.pinned (.plain (OpenSpec.upto fnExactBinaryOfSpec)) fnExactBinaryOfUptoCard

/-- THE SECOND FORM's CARD OF 'laws.FnExactHelperSays'. -/
def fnExactHelperSaysUptoCard : Claim7 := { stood := { row := fnExactHelperSaysUptoRow, standIns := [], harness := (true, "1fac3799f206336fa8af4b9097f4185abcb8c03864a1d5e98eee04a0eb5b7ada"), looks := false }, kinds := [], alts := [], laidByText := true, laidKinds := [.data], laidTests := true, laidLooks := .later }
def FnExactHelperSaysUptoCardSaid : Prop := Claim7.holds Tryd.pinned (.plain (OpenSpec.upto fnExactHelperSaysSpec)) fnExactHelperSaysUptoCard

/-- THE SECOND FORM's CARD OF 'laws.FnExactUnitPairs'. -/
def fnExactUnitPairsUptoCard : Claim7 := { stood := { row := fnExactUnitPairsUptoRow, standIns := [], harness := (true, "1fac3799f206336fa8af4b9097f4185abcb8c03864a1d5e98eee04a0eb5b7ada"), looks := false }, kinds := [], alts := [], laidByText := true, laidKinds := [.data], laidTests := true, laidLooks := .later }
def FnExactUnitPairsUptoCardSaid : Prop := Claim7.holds Tryd.pinned (.plain (OpenSpec.upto fnExactUnitPairsSpec)) fnExactUnitPairsUptoCard

/-- THE SECOND FORM's CARD OF 'laws.FnExactClosedSet'. -/
def fnExactClosedSetUptoCard : Claim7 := { stood := { row := fnExactClosedSetUptoRow, standIns := [], harness := (true, "1fac3799f206336fa8af4b9097f4185abcb8c03864a1d5e98eee04a0eb5b7ada"), looks := false }, kinds := [], alts := [], laidByText := true, laidKinds := [.data], laidTests := true, laidLooks := .later }
def FnExactClosedSetUptoCardSaid : Prop := Claim7.holds Tryd.pinned (.plain (OpenSpec.upto fnExactClosedSetSpec)) fnExactClosedSetUptoCard

/-- THE SECOND FORM's CARD OF 'laws.FnExactUnitRow'. -/
def fnExactUnitRowUptoCard : Claim7 := { stood := { row := fnExactUnitRowUptoRow, standIns := [], harness := (true, "1fac3799f206336fa8af4b9097f4185abcb8c03864a1d5e98eee04a0eb5b7ada"), looks := false }, kinds := [], alts := [], laidByText := true, laidKinds := [.data], laidTests := true, laidLooks := .later }
def FnExactUnitRowUptoCardSaid : Prop := Claim7.holds Tryd.pinned (.plain (OpenSpec.upto fnExactUnitRowSpec)) fnExactUnitRowUptoCard

/-- THE SECOND FORM's CARD OF 'laws.FnExactUnitRows'. -/
def fnExactUnitRowsUptoCard : Claim7 := { stood := { row := fnExactUnitRowsUptoRow, standIns := [], harness := (true, "1fac3799f206336fa8af4b9097f4185abcb8c03864a1d5e98eee04a0eb5b7ada"), looks := false }, kinds := [], alts := [], laidByText := true, laidKinds := [.data], laidTests := true, laidLooks := .later }
def FnExactUnitRowsUptoCardSaid : Prop := Claim7.holds Tryd.pinned (.plain (OpenSpec.upto fnExactUnitRowsSpec)) fnExactUnitRowsUptoCard

/-- THE SECOND FORM's CARD OF 'laws.FnExactHasUnitRound'. -/
def fnExactHasUnitRoundUptoCard : Claim7 := { stood := { row := fnExactHasUnitRoundUptoRow, standIns := [], harness := (true, "1fac3799f206336fa8af4b9097f4185abcb8c03864a1d5e98eee04a0eb5b7ada"), looks := false }, kinds := [], alts := [], laidByText := true, laidKinds := [.data], laidTests := true, laidLooks := .later }
def FnExactHasUnitRoundUptoCardSaid : Prop := Claim7.holds Tryd.pinned (.plain (OpenSpec.upto fnExactHasUnitRoundSpec)) fnExactHasUnitRoundUptoCard

/-- THE SECOND FORM's CARD OF 'laws.FnDerives'. -/
def fnDerivesUptoCard : Claim7 := { stood := { row := fnDerivesUptoRow, standIns := [], harness := (true, "1fac3799f206336fa8af4b9097f4185abcb8c03864a1d5e98eee04a0eb5b7ada"), looks := false }, kinds := [], alts := [], laidByText := true, laidKinds := [.data], laidTests := true, laidLooks := .later }
def FnDerivesUptoCardSaid : Prop := Claim7.holds Tryd.pinned (.plain (OpenSpec.upto fnDerivesSpec)) fnDerivesUptoCard
end Rows
end Go.Proofs.YtgnpgehekfhedaaDoor
