/-
  DERIVED. GIVEN WITH THE SEED: THE CARDS: each row of YtfbpcdmpkbjifaaDoorRows.lean that lists a variable, with what it lists TIED to the program's text (the seventh form; the later family's looks); each row that meets fmt, with fmt's text TOLD by the authors' own Lean function (tested against real Go, not proved from fmt's source: count such statements apart). THE CARD IS WHAT COUNTS. Prove the row's statement (the work); the ties are given (YtfbpcdmpkbjifaaDoorTie.lean); close each card by the builder's one call (the guide's Derived/Test/ToyasCard.lean, 'card_holds'). Laid BY PROGRAM, IN A SANDBOX (cutbox-door.mjs). By AI agents, Wed Nov 11 2026. No macro, syntax, notation, axiom, sorry.
-/
import Derived.Test.YtfbpcdmpkbjifaaDoorRows
import GoSem.ClaimSeven
namespace Go.Proofs.YtfbpcdmpkbjifaaDoor
namespace Rows

/-- THE TIED CARD OF 'laws.FnExactPartOf'. -/
def fnExactPartOfCard : Claim7 := { stood := { row := fnExactPartOfRow, standIns := [], harness := (true, "18902ad48fee14ba0ba1e5828de7a6a28e51b3a8703fe69bc2803f0493ca1330"), looks := false }, kinds := [], alts := [], laidByText := true, laidKinds := [.data], laidTests := true, laidLooks := .later }
def FnExactPartOfCardSaid : Prop := Claim7.holds Tryd.pinned (.plain (OpenSpec.ofChange fnExactPartOfSpec)) fnExactPartOfCard

/-- THE TIED CARD OF 'laws.FnExactStepsIn'. -/
def fnExactStepsInCard : Claim7 := { stood := { row := fnExactStepsInRow, standIns := [], harness := (true, "18902ad48fee14ba0ba1e5828de7a6a28e51b3a8703fe69bc2803f0493ca1330"), looks := false }, kinds := [], alts := [], laidByText := true, laidKinds := [.data], laidTests := true, laidLooks := .later }
def FnExactStepsInCardSaid : Prop := Claim7.holds Tryd.pinned (.plain (OpenSpec.ofChange fnExactStepsInSpec)) fnExactStepsInCard

/-- THE TIED CARD OF 'laws.FnExactAheadOf'. -/
def fnExactAheadOfCard : Claim7 := { stood := { row := fnExactAheadOfRow, standIns := [], harness := (true, "18902ad48fee14ba0ba1e5828de7a6a28e51b3a8703fe69bc2803f0493ca1330"), looks := false }, kinds := [], alts := [], laidByText := true, laidKinds := [.data], laidTests := true, laidLooks := .later }
def FnExactAheadOfCardSaid : Prop := Claim7.holds Tryd.pinned (.plain (OpenSpec.ofChange fnExactAheadOfSpec)) fnExactAheadOfCard

/-- THE TIED CARD OF 'laws.FnExactRacesIn'. -/
def fnExactRacesInCard : Claim7 := { stood := { row := fnExactRacesInRow, standIns := [], harness := (true, "18902ad48fee14ba0ba1e5828de7a6a28e51b3a8703fe69bc2803f0493ca1330"), looks := false }, kinds := [], alts := [], laidByText := true, laidKinds := [.data], laidTests := true, laidLooks := .later }
def FnExactRacesInCardSaid : Prop := Claim7.holds Tryd.pinned (.plain (OpenSpec.ofChange fnExactRacesInSpec)) fnExactRacesInCard

/-- THE TIED CARD OF 'laws.FnExactIsWave'. -/
def fnExactIsWaveCard : Claim7 := { stood := { row := fnExactIsWaveRow, standIns := [], harness := (true, "18902ad48fee14ba0ba1e5828de7a6a28e51b3a8703fe69bc2803f0493ca1330"), looks := false }, kinds := [], alts := [], laidByText := true, laidKinds := [.data], laidTests := true, laidLooks := .later }
def FnExactIsWaveCardSaid : Prop := Claim7.holds Tryd.pinned (.plain (OpenSpec.ofChange fnExactIsWaveSpec)) fnExactIsWaveCard

/-- THE TIED CARD OF 'laws.FnExactCellFor'. -/
def fnExactCellForCard : Claim7 := { stood := { row := fnExactCellForRow, standIns := [], harness := (true, "18902ad48fee14ba0ba1e5828de7a6a28e51b3a8703fe69bc2803f0493ca1330"), looks := false }, kinds := [], alts := [], laidByText := true, laidKinds := [.data], laidTests := true, laidLooks := .later }
def FnExactCellForCardSaid : Prop := Claim7.holds Tryd.pinned (.plain (OpenSpec.ofChange fnExactCellForSpec)) fnExactCellForCard

/-- THE TIED CARD OF 'laws.FnExactFillChart'. -/
def fnExactFillChartCard : Claim7 := { stood := { row := fnExactFillChartRow, standIns := [], harness := (true, "18902ad48fee14ba0ba1e5828de7a6a28e51b3a8703fe69bc2803f0493ca1330"), looks := false }, kinds := [], alts := [], laidByText := true, laidKinds := [.data], laidTests := true, laidLooks := .later }
def FnExactFillChartCardSaid : Prop := Claim7.holds Tryd.pinned (.plain (OpenSpec.ofChange fnExactFillChartSpec)) fnExactFillChartCard

/-- THE TIED CARD OF 'laws.FnExactAccepts'. -/
def fnExactAcceptsCard : Claim7 := { stood := { row := fnExactAcceptsRow, standIns := [], harness := (true, "18902ad48fee14ba0ba1e5828de7a6a28e51b3a8703fe69bc2803f0493ca1330"), looks := false }, kinds := [], alts := [], laidByText := true, laidKinds := [.data], laidTests := true, laidLooks := .later }
def FnExactAcceptsCardSaid : Prop := Claim7.holds Tryd.pinned (.plain (OpenSpec.ofChange fnExactAcceptsSpec)) fnExactAcceptsCard

/-- THE TIED CARD OF 'laws.FnCells'. -/
def fnCellsCard : Claim7 := { stood := { row := fnCellsRow, standIns := [], harness := (true, "18902ad48fee14ba0ba1e5828de7a6a28e51b3a8703fe69bc2803f0493ca1330"), looks := false }, kinds := [], alts := [], laidByText := true, laidKinds := [.data], laidTests := true, laidLooks := .later }
def FnCellsCardSaid : Prop := Claim7.holds Tryd.pinned (.plain (OpenSpec.ofChange fnCellsSpec)) fnCellsCard

/-- THE SECOND FORM's CARD OF 'laws.FnExactPartOf'. -/
def fnExactPartOfUptoCard : Claim7 := { stood := { row := fnExactPartOfUptoRow, standIns := [], harness := (true, "18902ad48fee14ba0ba1e5828de7a6a28e51b3a8703fe69bc2803f0493ca1330"), looks := false }, kinds := [], alts := [], laidByText := true, laidKinds := [.data], laidTests := true, laidLooks := .later }
def FnExactPartOfUptoCardSaid : Prop := Claim7.holds Tryd.pinned (.plain (OpenSpec.upto fnExactPartOfSpec)) fnExactPartOfUptoCard

/-- THE SECOND FORM's CARD OF 'laws.FnExactStepsIn'. -/
def fnExactStepsInUptoCard : Claim7 := { stood := { row := fnExactStepsInUptoRow, standIns := [], harness := (true, "18902ad48fee14ba0ba1e5828de7a6a28e51b3a8703fe69bc2803f0493ca1330"), looks := false }, kinds := [], alts := [], laidByText := true, laidKinds := [.data], laidTests := true, laidLooks := .later }
def FnExactStepsInUptoCardSaid : Prop := Claim7.holds Tryd.pinned (.plain (OpenSpec.upto fnExactStepsInSpec)) fnExactStepsInUptoCard

/-- THE SECOND FORM's CARD OF 'laws.FnExactAheadOf'. -/
def fnExactAheadOfUptoCard : Claim7 := { stood := { row := fnExactAheadOfUptoRow, standIns := [], harness := (true, "18902ad48fee14ba0ba1e5828de7a6a28e51b3a8703fe69bc2803f0493ca1330"), looks := false }, kinds := [], alts := [], laidByText := true, laidKinds := [.data], laidTests := true, laidLooks := .later }
def FnExactAheadOfUptoCardSaid : Prop := Claim7.holds Tryd.pinned (.plain (OpenSpec.upto fnExactAheadOfSpec)) fnExactAheadOfUptoCard

/-- THE SECOND FORM's CARD OF 'laws.FnExactRacesIn'. -/
def fnExactRacesInUptoCard : Claim7 := { stood := { row := fnExactRacesInUptoRow, standIns := [], harness := (true, "18902ad48fee14ba0ba1e5828de7a6a28e51b3a8703fe69bc2803f0493ca1330"), looks := false }, kinds := [], alts := [], laidByText := true, laidKinds := [.data], laidTests := true, laidLooks := .later }
def FnExactRacesInUptoCardSaid : Prop := Claim7.holds Tryd.pinned (.plain (OpenSpec.upto fnExactRacesInSpec)) fnExactRacesInUptoCard

/-- THE SECOND FORM's CARD OF 'laws.FnExactIsWave'. -/
def fnExactIsWaveUptoCard : Claim7 := { stood := { row := fnExactIsWaveUptoRow, standIns := [], harness := (true, "18902ad48fee14ba0ba1e5828de7a6a28e51b3a8703fe69bc2803f0493ca1330"), looks := false }, kinds := [], alts := [], laidByText := true, laidKinds := [.data], laidTests := true, laidLooks := .later }
def FnExactIsWaveUptoCardSaid : Prop := Claim7.holds Tryd.pinned (.plain (OpenSpec.upto fnExactIsWaveSpec)) fnExactIsWaveUptoCard

/-- THE SECOND FORM's CARD OF 'laws.FnExactCellFor'. -/
def fnExactCellForUptoCard : Claim7 := { stood := { row := fnExactCellForUptoRow, standIns := [], harness := (true, "18902ad48fee14ba0ba1e5828de7a6a28e51b3a8703fe69bc2803f0493ca1330"), looks := false }, kinds := [], alts := [], laidByText := true, laidKinds := [.data], laidTests := true, laidLooks := .later }
def FnExactCellForUptoCardSaid : Prop := Claim7.holds Tryd.pinned (.plain (OpenSpec.upto fnExactCellForSpec)) fnExactCellForUptoCard

/-- THE SECOND FORM's CARD OF 'laws.FnExactFillChart'. -/
def fnExactFillChartUptoCard : Claim7 := { stood := { row := fnExactFillChartUptoRow, standIns := [], harness := (true, "18902ad48fee14ba0ba1e5828de7a6a28e51b3a8703fe69bc2803f0493ca1330"), looks := false }, kinds := [], alts := [], laidByText := true, laidKinds := [.data], laidTests := true, laidLooks := .later }
def FnExactFillChartUptoCardSaid : Prop := Claim7.holds Tryd.pinned (.plain (OpenSpec.upto fnExactFillChartSpec)) fnExactFillChartUptoCard

/-- THE SECOND FORM's CARD OF 'laws.FnExactAccepts'. -/
def fnExactAcceptsUptoCard : Claim7 := { stood := { row := fnExactAcceptsUptoRow, standIns := [], harness := (true, "18902ad48fee14ba0ba1e5828de7a6a28e51b3a8703fe69bc2803f0493ca1330"), looks := false }, kinds := [], alts := [], laidByText := true, laidKinds := [.data], laidTests := true, laidLooks := .later }
def FnExactAcceptsUptoCardSaid : Prop := Claim7.holds Tryd.pinned (.plain (OpenSpec.upto fnExactAcceptsSpec)) fnExactAcceptsUptoCard

/-- THE SECOND FORM's CARD OF 'laws.FnCells'. -/
def fnCellsUptoCard : Claim7 := { stood := { row := fnCellsUptoRow, standIns := [], harness := (true, "18902ad48fee14ba0ba1e5828de7a6a28e51b3a8703fe69bc2803f0493ca1330"), looks := false }, kinds := [], alts := [], laidByText := true, laidKinds := [.data], laidTests := true, laidLooks := .later }
def FnCellsUptoCardSaid : Prop := Claim7.holds Tryd.pinned (.plain (OpenSpec.upto fnCellsSpec)) fnCellsUptoCard
end Rows
end Go.Proofs.YtfbpcdmpkbjifaaDoor
