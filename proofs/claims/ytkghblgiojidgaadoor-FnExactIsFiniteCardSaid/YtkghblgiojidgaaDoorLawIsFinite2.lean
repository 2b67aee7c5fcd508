/- The law of IsFinite, with l3Leads paid. -/
import Derived.Test.YtkghblgiojidgaaDoorLawIsFinite
import Derived.Test.YtkghblgiojidgaaDoorFinS
namespace Go.Proofs.YtkghblgiojidgaaDoor
open Go.RowKit

theorem law_IsFinite (n t : Int) (A : Option Addr) (c : Nat) (rs : List Ru) (w : World) (hx : Rls w w.heap.size A rs) (hL : Lims w) (hn : rs.length ≤ maxLen) (hu : ∀ u ∈ rs, u.r.length ≤ maxLen) (hf : FitR rs) :
    Calls Tryd.prog 3 #[.agg #[.int .i64 n, .int .i64 t, .slice A rs.length c]] w (LawEnds w) := law_IsFinite' leads_ok n t A c rs w hx hL hn hu hf

end Go.Proofs.YtkghblgiojidgaaDoor
