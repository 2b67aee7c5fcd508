/- A grammar and a bool as an answer. -/
import Derived.Test.YtacehfjhpnplbaaDoorMem
import Derived.Test.YtacehfjhpnplbaaDoorTo
namespace Go.Proofs.YtacehfjhpnplbaaDoor
open Go.RowKit

/-- A grammar's answer: its numbers and its rules; zero where there is none. -/
def ansN (b : Bool) (n : Int) : Int := if b then n else 0
def ansR (b : Bool) (ss : List (Int × List Int)) : List (Int × List Int) := if b then ss else []

/-- A new grammar, and a bool. -/
def GaveGB (w : World) (n t : Int) (ss : List (Int × List Int)) (b : Bool) (e : Ending) (w' : World) : Prop :=
  ∃ A c, ∃ rs : List Ru, e = .returned (.tuple #[.agg #[.int .i64 (ansN b n), .int .i64 (ansN b t), .slice A rs.length c], .bool b]) ∧ OwnR w' w.heap.size A rs ∧ rs.map Ru.abs = ansR b ss ∧ Below w.heap.size w w'

theorem gave_none {w w' : World} {n t : Int} {ss : List (Int × List Int)} (hb : Below w.heap.size w w') : GaveGB w n t ss false (.returned (.tuple #[.agg #[.int .i64 0, .int .i64 0, .slice none 0 0], .bool false])) w' :=
  ⟨none, 0, [], rfl, .inl rfl, rfl, hb⟩

end Go.Proofs.YtacehfjhpnplbaaDoor
