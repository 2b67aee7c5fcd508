/- What a good grammar says of each of its rules. -/
import Derived.Test.YtkghblgiojidgaaDoorAbs
namespace Go.Proofs.YtkghblgiojidgaaDoor

theorem goodG_mem {n t : Int} {ss : List (Int × List Int)} (h : goodG n t ss = true) {u : Int × List Int} (hu : u ∈ ss) : (0 ≤ u.1 ∧ u.1 < n) ∧ u.2.length ≤ 4 ∧ ∀ x ∈ u.2, (0 ≤ x ∧ x < n) ∨ (x < 0 ∧ -t ≤ x) := by
  obtain ⟨_, _, _, hg⟩ := goodG_is h
  obtain ⟨k, hk⟩ := List.mem_iff_getElem?.1 hu
  have h1 := (hg k u (List.getElem?_eq_some_iff.1 hk).1 hk).1
  unfold goodU at h1
  simp only [Bool.and_eq_true, decide_eq_true_eq] at h1
  refine ⟨nonB_is h1.1, h1.2.1, fun x hx => ?_⟩
  have h2 := h1.2.2
  unfold symsB at h2
  rw [List.all_eq_true] at h2
  have h3 := h2 x hx
  unfold symB at h3
  have := of_decide_eq_true h3
  omega

end Go.Proofs.YtkghblgiojidgaaDoor
