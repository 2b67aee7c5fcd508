/- Plain mathematics: some of a good grammar's rules are a good grammar; the useful rules. -/
import Derived.Test.YtkghblgiojidgaaDoorClo
namespace Go.Proofs.YtkghblgiojidgaaDoor

theorem goodG_nodup {n t : Int} {ss : List (Int × List Int)} (h : goodG n t ss = true) : ss.Nodup := by
  obtain ⟨_, _, _, hg⟩ := goodG_is h
  refine List.pairwise_iff_getElem.2 fun i j hi hj hij e => ?_
  have h2 := (hg j ss[j] hj (List.getElem?_eq_getElem hj)).2
  have h3 := of_decide_eq_false h2
  refine h3 ?_
  rw [← e]
  exact List.mem_iff_getElem?.2 ⟨i, by rw [List.getElem?_take, if_pos hij, List.getElem?_eq_getElem hi]⟩
theorem goodG_mk {n t : Int} {ss : List (Int × List Int)} (h1 : 1 ≤ n ∧ n ≤ 6) (h2 : 1 ≤ t ∧ t ≤ 4) (h3 : ss.length ≤ 16) (h4 : ∀ u ∈ ss, goodU n t u = true) (h5 : ss.Nodup) : goodG n t ss = true := by
  unfold goodG
  simp only [Bool.and_eq_true, decide_eq_true_eq]
  refine ⟨h1, h2, h3, goodAll_iff.2 fun j u hj hu => ⟨h4 u (List.mem_of_getElem? hu), decide_eq_false fun hm => ?_⟩⟩
  obtain ⟨i, hi⟩ := List.mem_iff_getElem?.1 hm
  rw [List.getElem?_take] at hi
  split at hi
  · rename_i hij
    have a1 := List.getElem?_eq_some_iff.1 hi
    have a2 := List.getElem?_eq_some_iff.1 hu
    obtain ⟨b1, c1⟩ := a1
    obtain ⟨b2, c2⟩ := a2
    exact List.pairwise_iff_getElem.1 h5 i j b1 b2 hij (c1.trans c2.symm)
  · cases hi
theorem goodG_filter {n t : Int} {ss : List (Int × List Int)} (h : goodG n t ss = true) (p : Int × List Int → Bool) : goodG n t (ss.filter p) = true := by
  obtain ⟨h1, h2, h3, hg⟩ := goodG_is h
  refine goodG_mk h1 h2 (by have := List.length_filter_le p ss; omega) (fun u hu => ?_) ((goodG_nodup h).filter p)
  obtain ⟨k, hk⟩ := List.mem_iff_getElem?.1 (List.mem_filter.1 hu).1
  exact (hg k u (List.getElem?_eq_some_iff.1 hk).1 hk).1

theorem map_filter (p : Int × List Int → Bool) (rs : List Ru) : (rs.filter fun u => p u.abs).map Ru.abs = (rs.map Ru.abs).filter p := by
  rw [List.filter_map]
  rfl

/-- The rules that can end in words, by the productive ones. -/
def soundA (P : Int → Bool) (r : Int × List Int) : Bool := r.2.all (tokS P)
/-- us are the useful rules of ss. -/
def IsUse (ss us : List (Int × List Int)) : Prop := ∃ P R, IsLeast wayProd noS ss P ∧ IsLeast wayReach (oneS 0) (ss.filter (soundA P)) R ∧ us = (ss.filter (soundA P)).filter fun r => R r.1
theorem isUse_unique {ss us vs : List (Int × List Int)} (h : IsUse ss us) (k : IsUse ss vs) : us = vs := by
  obtain ⟨P, R, h1, h2, h3⟩ := h
  obtain ⟨Q, T, k1, k2, k3⟩ := k
  have e := h1.unique k1
  subst e
  have e := h2.unique k2
  subst e
  rw [h3, k3]
theorem isUse_good {n t : Int} {ss us : List (Int × List Int)} (hg : goodG n t ss = true) (h : IsUse ss us) : goodG n t us = true := by
  obtain ⟨P, R, _, _, rfl⟩ := h
  exact goodG_filter (goodG_filter hg _) _
/-- Of a rule all of whose right side is productive the left side is, too. -/
theorem sound_left {ss : List (Int × List Int)} {P : Int → Bool} (h : IsLeast wayProd noS ss P) {r : Int × List Int} (hr : r ∈ ss) (hs : soundA P r = true) : P r.1 = true := by
  refine (h r.1).2 ?_
  exact Least.step (S := P) (fun x hx => (h x).1 hx) hr hs (List.mem_singleton.2 rfl)

end Go.Proofs.YtkghblgiojidgaaDoor
