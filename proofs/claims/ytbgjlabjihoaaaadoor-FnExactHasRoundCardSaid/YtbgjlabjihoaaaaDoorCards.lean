/-
  DERIVED. GIVEN WITH THE SEED: THE CARDS: each row of YtbgjlabjihoaaaaDoorRows.lean that lists a variable, with what it lists TIED to the program's text (the seventh form; the later family's looks); each row that meets fmt, with fmt's text TOLD by the authors' own Lean function (tested against real Go, not proved from fmt's source: count such statements apart). THE CARD IS WHAT COUNTS. Prove the row's statement (the work); the ties are given (YtbgjlabjihoaaaaDoorTie.lean); close each card by the builder's one call (the guide's Derived/Test/ToyasCard.lean, 'card_holds'). Laid BY PROGRAM, IN A SANDBOX (cutbox-door.mjs). By AI agents, Wed Nov 11 2026. No macro, syntax, notation, axiom, sorry.
-/
import Derived.Test.YtbgjlabjihoaaaaDoorRows
import GoSem.ClaimSeven
namespace Go.Proofs.YtbgjlabjihoaaaaDoor
namespace Rows

/-- THE TIED CARD OF 'laws.FnExactEdgesOf'. -/
def fnExactEdgesOfCard : Claim7 := { stood := { row := fnExactEdgesOfRow, standIns := [], harness := (true, "0708bc447225853a1ae87032d251b7168e6f47bb1f3e94d606ee5a28467e1d1b"), looks := false }, kinds := [], alts := [], laidByText := true, laidKinds := [.data], laidTests := true, laidLooks := .later }
def FnExactEdgesOfCardSaid : Prop := Claim7.holds Tryd.pinned (.plain (OpenSpec.ofChange fnExactEdgesOfSpec)) fnExactEdgesOfCard

/-- THE TIED CARD OF 'laws.FnExactChildrenOf'. -/
def fnExactChildrenOfCard : Claim7 := { stood := { row := fnExactChildrenOfRow, standIns := [], harness := (true, "0708bc447225853a1ae87032d251b7168e6f47bb1f3e94d606ee5a28467e1d1b"), looks := false }, kinds := [], alts := [], laidByText := true, laidKinds := [.data], laidTests := true, laidLooks := .later }
def FnExactChildrenOfCardSaid : Prop := Claim7.holds Tryd.pinned (.plain (OpenSpec.ofChange fnExactChildrenOfSpec)) fnExactChildrenOfCard

/-- THE TIED CARD OF 'laws.FnExactHasRound'. -/
def fnExactHasRoundCard : Claim7 := { stood := { row := fnExactHasRoundRow, standIns := [], harness := (true, "0708bc447225853a1ae87032d251b7168e6f47bb1f3e94d606ee5a28467e1d1b"), looks := false }, kinds := [], alts := [], laidByText := true, laidKinds := [.data], laidTests := true, laidLooks := .later }
def FnExactHasRoundCardSaid : Prop := Claim7.holds Tryd.pinned (.plain (OpenSpec.ofChange fnExactHasRoundSpec)) fnExactHasRoundCard

/-- THE TIED CARD OF 'laws.FnExactPackedSize'. -/
def fnExactPackedSizeCard : Claim7 := { stood := { row := fnExactPackedSizeRow, standIns := [], harness := (true, "0708bc447225853a1ae87032d251b7168e6f47bb1f3e94d606ee5a28467e1d1b"), looks := false }, kinds := [], alts := [], laidByText := true, laidKinds := [.data], laidTests := true, laidLooks := .later }
def FnExactPackedSizeCardSaid : Prop := Claim7.holds Tryd.pinned (.plain (OpenSpec.ofChange fnExactPackedSizeSpec)) fnExactPackedSizeCard

/-- THE SECOND FORM's CARD OF 'laws.FnExactEdgesOf'. -/
def fnExactEdgesOfUptoCard : Claim7 := { stood := { row := fnExactEdgesOfUptoRow, standIns := [], harness := (true, "0708bc447225853a1ae87032d251b7168e6f47bb1f3e94d606ee5a28467e1d1b"), looks := false }, kinds := [], alts := [], laidByText := true, laidKinds := [.data], laidTests := true, laidLooks := .later }
def FnExactEdgesOfUptoCardSaid : Prop := Claim7.holds Tryd.pinned (.plain (OpenSpec.upto fnExactEdgesOfSpec)) fnExactEdgesOfUptoCard

/-- THE SECOND FORM's CARD OF 'laws.FnExactChildrenOf'. -/
def fnExactChildrenOfUptoCard : Claim7 := { stood := { row := fnExactChildrenOfUptoRow, standIns := [], harness := (true, "0708bc447225853a1ae87032d251b7168e6f47bb1f3e94d606ee5a28467e1d1b"), looks := false }, kinds := [], alts := [], laidByText := true, laidKinds := [.data], laidTests := true, laidLooks := .later }
def FnExactChildrenOfUptoCardSaid : Prop := Claim7.holds Tryd.pinned (.plain (OpenSpec.upto fnExactChildrenOfSpec)) fnExactChildrenOfUptoCard

/-- THE SECOND FORM's CARD OF 'laws.FnExactHasRound'. -/
def fnExactHasRoundUptoCard : Claim7 := { stood := { row := fnExactHasRoundUptoRow, standIns := [], harness := (true, "0708bc447225853a1ae87032d251b7168e6f47bb1f3e94d606ee5a28467e1d1b"), looks := false }, kinds := [], alts := [], laidByText := true, laidKinds := [.data], laidTests := true, laidLooks := .later }
def FnExactHasRoundUptoCardSaid : Prop := Claim7.holds Tryd.pinned (.plain (OpenSpec.upto fnExactHasRoundSpec)) fnExactHasRoundUptoCard

/-- THE SECOND FORM's CARD OF 'laws.FnExactPackedSize'. -/
def fnExactPackedSizeUptoCard : Claim7 := { stood := { row := fnExactPackedSizeUptoRow, standIns := [], harness := (true, "0708bc447225853a1ae87032d251b7168e6f47bb1f3e94d606ee5a28467e1d1b"), looks := false }, kinds := [], alts := [], laidByText := true, laidKinds := [.data], laidTests := true, laidLooks := .later }
def FnExactPackedSizeUptoCardSaid : Prop := Claim7.holds Tryd.pinned (.plain (OpenSpec.upto fnExactPackedSizeSpec)) fnExactPackedSizeUptoCard
end Rows
end Go.Proofs.YtbgjlabjihoaaaaDoor
