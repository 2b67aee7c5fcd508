/- What two readings of the same rules share; what a law's call has to end in. -/
import Derived.Test.YtjfhkcoiomokoaaDoorSz
import Derived.Test.YtjfhkcoiomokoaaDoorTo
import Derived.Test.YtjfhkcoiomokoaaDoorSpecGood2
namespace Go.Proofs.YtjfhkcoiomokoaaDoor
open Go.RowKit
open Go.Sort (grow)

theorem abs_mem {rs ss : List Ru} (h : ss.map Ru.abs = rs.map Ru.abs) {u : Ru} (hu : u ∈ ss) : ∃ v ∈ rs, v.l = u.l ∧ v.r = u.r := by
  have : u.abs ∈ rs.map Ru.abs := h ▸ List.mem_map.2 ⟨u, hu, rfl⟩
  obtain ⟨v, hv, e⟩ := List.mem_map.1 this
  exact ⟨v, hv, congrArg Prod.fst e, congrArg Prod.snd e⟩
theorem abs_len {rs ss : List Ru} (h : ss.map Ru.abs = rs.map Ru.abs) : ss.length = rs.length := by simpa using congrArg List.length h
theorem abs_lens {rs ss : List Ru} (h : ss.map Ru.abs = rs.map Ru.abs) {m : Nat} (hu : ∀ u ∈ rs, u.r.length ≤ m) : ∀ u ∈ ss, u.r.length ≤ m := fun u hm => by
  obtain ⟨v, hv, _, e⟩ := abs_mem h hm
  rw [← e]; exact hu v hv
theorem abs_fit {rs ss : List Ru} (h : ss.map Ru.abs = rs.map Ru.abs) (hf : FitR rs) : FitR ss := fun u hm => by
  obtain ⟨v, hv, _, e⟩ := abs_mem h hm
  rw [← e]; exact hf v hv
theorem eqG_t {n t : Int} {rs ss : List (Int × List Int)} (h : rs = ss) : eqG n t rs n t ss = true := decide_eq_true ⟨rfl, rfl, h⟩

/-- What a law's call has to end in. -/
def LawEnds (w : World) (e : Ending) (w' : World) : Prop := e = .returned (.bool true) ∧ Below w.heap.size w w'

end Go.Proofs.YtjfhkcoiomokoaaDoor
