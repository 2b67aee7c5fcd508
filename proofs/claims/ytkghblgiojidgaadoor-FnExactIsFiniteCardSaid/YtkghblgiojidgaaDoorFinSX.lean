/- What l3Leads ends in. -/
import Derived.Test.YtkghblgiojidgaaDoorFinM
import Derived.Test.YtkghblgiojidgaaDoorSpecGro
namespace Go.Proofs.YtkghblgiojidgaaDoor
open Go.RowKit

/-- What l3Leads ends in. -/
def GaveLeads (w : World) (N : Nat) (ss : List (Int × List Int)) (e : Ending) (w' : World) : Prop :=
  ∃ S T U G, e = .returned (.tuple #[.slice (some ⟨S, 0, none⟩) N N, .slice (some ⟨S + 1, 0, none⟩) N N]) ∧ IsGrow ss G ∧ Tabs2 w' S N N T U ∧ SoundT (Edge ss) (GEdge G ss) T U ∧ UptoT (Edge ss) (GEdge G ss) N T U ∧ Below w.heap.size w w'
/-- l3Leads keeps to it. -/
def LeadsOK : Prop := ∀ (N : Nat) (t : Int) (A : Option Addr) (c : Nat) (rs : List Ru) (w : World), Rls w w.heap.size A rs → goodG (N : Int) t (rs.map Ru.abs) = true →
    Calls Tryd.prog 86 #[.agg #[.int .i64 (N : Int), .int .i64 t, .slice A rs.length c]] w (GaveLeads w N (rs.map Ru.abs))

end Go.Proofs.YtkghblgiojidgaaDoor
