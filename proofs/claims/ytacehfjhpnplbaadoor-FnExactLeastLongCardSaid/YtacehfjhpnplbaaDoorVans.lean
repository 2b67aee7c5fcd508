/- A value and a bool as an answer. -/
import Derived.Test.YtacehfjhpnplbaaDoorMem
namespace Go.Proofs.YtacehfjhpnplbaaDoor
open Go.RowKit

def GaveXB (w : World) (Q : Bool → Bool → Prop) (e : Ending) (w' : World) : Prop := ∃ x ok, Q x ok ∧ e = .returned (.tuple #[.bool x, .bool ok]) ∧ Below w.heap.size w w'
def GaveXI (w : World) (Q : Int → Bool → Prop) (e : Ending) (w' : World) : Prop := ∃ x ok, Q x ok ∧ e = .returned (.tuple #[.int .i64 x, .bool ok]) ∧ Below w.heap.size w w'

end Go.Proofs.YtacehfjhpnplbaaDoor
