/- A value and a bool as an answer. -/
import Derived.Test.YtkghblgiojidgaaDoorMem
namespace Go.Proofs.YtkghblgiojidgaaDoor
open Go.RowKit

def GaveXB (w : World) (Q : Bool → Bool → Prop) (e : Ending) (w' : World) : Prop := ∃ x ok, Q x ok ∧ e = .returned (.tuple #[.bool x, .bool ok]) ∧ Below w.heap.size w w'
def GaveXI (w : World) (Q : Int → Bool → Prop) (e : Ending) (w' : World) : Prop := ∃ x ok, Q x ok ∧ e = .returned (.tuple #[.int .i64 x, .bool ok]) ∧ Below w.heap.size w w'

end Go.Proofs.YtkghblgiojidgaaDoor
