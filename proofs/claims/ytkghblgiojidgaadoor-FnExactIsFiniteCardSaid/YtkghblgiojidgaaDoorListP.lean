/- What the functions that tell the members of a set answer. -/
import Derived.Test.YtkghblgiojidgaaDoorRis
import Derived.Test.YtkghblgiojidgaaDoorImplGood3
namespace Go.Proofs.YtkghblgiojidgaaDoor
open Go.RowKit

/-- Where g, a new rising list of just the members of a set of which P holds; else none. -/
def GaveP (w : World) (g : Bool) (P : (Int → Bool) → Prop) (e : Ending) (w' : World) : Prop :=
  ∃ ys, (g = true → ∃ S, P S ∧ Rises ys ∧ ∀ x, x ∈ ys ↔ S x = true) ∧ (g = false → ys = []) ∧ ys.length ≤ 6 ∧ GaveIB w ys g e w'

theorem same_list {g : Bool} {P : (Int → Bool) → Prop} {ys zs : List Int} (uniq : ∀ S T, P S → P T → S = T) (h1 : g = true → ∃ S, P S ∧ Rises ys ∧ ∀ x, x ∈ ys ↔ S x = true) (h2 : g = false → ys = [])
    (k1 : g = true → ∃ S, P S ∧ Rises zs ∧ ∀ x, x ∈ zs ↔ S x = true) (k2 : g = false → zs = []) : ys = zs := by
  cases g
  · rw [h2 rfl, k2 rfl]
  · obtain ⟨S, a1, a2, a3⟩ := h1 rfl
    obtain ⟨T, b1, b2, b3⟩ := k1 rfl
    have e := uniq S T a1 b1
    subst e
    exact rises_unique a2 b2 fun x => (a3 x).trans (b3 x).symm

/-- S are the growing ones. -/
def IsGrow (ss : List (Int × List Int)) (S : Int → Bool) : Prop := ∃ P, IsLeast wayProd noS ss P ∧ IsLeast (wayGrow P) noS ss S
theorem isGrow_unique {ss : List (Int × List Int)} {S T : Int → Bool} (h : IsGrow ss S) (k : IsGrow ss T) : S = T := by
  obtain ⟨P, h1, h2⟩ := h
  obtain ⟨Q, k1, k2⟩ := k
  have e := h1.unique k1
  subst e
  exact h2.unique k2

end Go.Proofs.YtkghblgiojidgaaDoor
