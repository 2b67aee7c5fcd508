/- When the language of useful rules is finite, by their graph. -/
import Derived.Test.YtkghblgiojidgaaDoorFin
import Derived.Test.YtkghblgiojidgaaDoorListP
namespace Go.Proofs.YtkghblgiojidgaaDoor

def Edge (us : List (Int × List Int)) (a b : Int) : Prop := ∃ r ∈ us, r.1 = a ∧ b ∈ r.2 ∧ 0 ≤ b
/-- Beside one place of a right side something grows. -/
def Beside (G : Int → Bool) (xs : List Int) (i : Nat) : Prop := ∃ j y, j ≠ i ∧ xs[j]? = some y ∧ tokS G y = true
def GEdge (G : Int → Bool) (us : List (Int × List Int)) (a b : Int) : Prop := ∃ r ∈ us, r.1 = a ∧ ∃ i : Nat, r.2[i]? = some b ∧ 0 ≤ b ∧ Beside G r.2 i
theorem gEdge_edge {G : Int → Bool} {us : List (Int × List Int)} (a b : Int) (h : GEdge G us a b) : Edge us a b := by
  obtain ⟨r, hr, e, i, hi, h0, _⟩ := h
  exact ⟨r, hr, e, List.mem_of_getElem? hi, h0⟩
theorem edge_fit {n t : Int} {us : List (Int × List Int)} (hg : goodG n t us = true) (a b : Int) (h : Edge us a b) : (0 ≤ a ∧ a < n) ∧ (0 ≤ b ∧ b < n) := by
  obtain ⟨r, hr, rfl, hb, h0⟩ := h
  have h1 := goodG_mem hg hr
  have h2 := h1.2.2 b hb
  exact ⟨h1.1, by omega⟩

theorem walk_snoc {E : Int → Int → Prop} : ∀ {l : List Int} {a c b : Int}, walkE E a l c → E c b → walkE E a (l ++ [c]) b
  | [], _, _, _, h1, h2 => ⟨h1, h2⟩
  | _ :: _, _, _, _, h1, h2 => ⟨h1.1, walk_snoc h1.2 h2⟩

open Classical in
/-- What is reached from x, by rules or by ways. -/
theorem reach_iff {us : List (Int × List Int)} {x a : Int} : Least wayReach (oneS x) us a ↔ (x = a ∨ ∃ l, walkE (Edge us) x l a) := by
  constructor
  · intro h
    have h1 := h (fun y => decide (x = y ∨ ∃ l, walkE (Edge us) x l y)) (fun y hy => decide_eq_true (.inl (by unfold oneS at hy; have := of_decide_eq_true hy; exact this.symm))) fun r hr hf y hy => by
      have hf' := of_decide_eq_true hf
      have hy' : y ∈ r.2 ∧ 0 ≤ y := by
        have : y ∈ r.2.filter fun x => decide (0 ≤ x) := hy
        simpa using this
      have he : Edge us r.1 y := ⟨r, hr, rfl, hy'.1, hy'.2⟩
      refine decide_eq_true (.inr ?_)
      rcases hf' with e | ⟨l, hl⟩
      · exact ⟨[], by rw [e]; exact he⟩
      · exact ⟨_, walk_snoc hl he⟩
    exact of_decide_eq_true h1
  · have hstep : ∀ {c b : Int}, Least wayReach (oneS x) us c → Edge us c b → Least wayReach (oneS x) us b := by
      rintro c b hc ⟨r, hr, rfl, hb, h0⟩ S h1 h2
      exact h2 r hr (hc S h1 h2) b (by show b ∈ r.2.filter _; simp [hb, h0])
    have hwalk : ∀ {l : List Int} {c b : Int}, Least wayReach (oneS x) us c → walkE (Edge us) c l b → Least wayReach (oneS x) us b := by
      intro l
      induction l with
      | nil => intro c b hc h; exact hstep hc h
      | cons d l ih => intro c b hc h; exact ih (hstep hc h.1) h.2
    have h0 : Least wayReach (oneS x) us x := Least.start (by simp [oneS])
    rintro (rfl | ⟨l, hl⟩)
    · exact h0
    · exact hwalk h0 hl

/-- A left side comes back by one place of its right side, with more. -/
def RoundAt (us : List (Int × List Int)) (G : Int → Bool) (r : Int × List Int) (i : Nat) : Prop := ∃ x, r.2[i]? = some x ∧ 0 ≤ x ∧ Least wayReach (oneS x) us r.1 ∧ Beside G r.2 i
/-- No step that grows can be gone round. -/
def Fin' (us : List (Int × List Int)) (G : Int → Bool) : Prop := ¬ ∃ a b, GEdge G us a b ∧ (b = a ∨ ∃ l, walkE (Edge us) b l a)
theorem fin_iff {us : List (Int × List Int)} {G : Int → Bool} : Fin' us G ↔ ∀ r ∈ us, ∀ i, ¬ RoundAt us G r i := by
  constructor
  · rintro h r hr i ⟨x, hx, h0, hl, hb⟩
    exact h ⟨r.1, x, ⟨r, hr, rfl, i, hx, h0, hb⟩, reach_iff.1 hl⟩
  · rintro h ⟨a, b, ⟨r, hr, rfl, i, hi, h0, hb⟩, hw⟩
    exact h r hr i ⟨b, hi, h0, reach_iff.2 hw, hb⟩

theorem beside_iff {G : Int → Bool} {xs : List Int} {i : Nat} : Beside G xs i ↔ ((xs.take i).any (tokS G) || (xs.drop (i + 1)).any (tokS G)) = true := by
  rw [Bool.or_eq_true, List.any_eq_true, List.any_eq_true]
  constructor
  · rintro ⟨j, y, hj, hy, ht⟩
    rcases Nat.lt_or_gt_of_ne hj with h | h
    · exact .inl ⟨y, List.mem_of_getElem? (i := j) (by rw [List.getElem?_take, if_pos h]; exact hy), ht⟩
    · refine .inr ⟨y, List.mem_of_getElem? (i := j - (i + 1)) ?_, ht⟩
      rw [List.getElem?_drop]
      have : i + 1 + (j - (i + 1)) = j := by omega
      rw [this]
      exact hy
  · rintro (⟨y, hy, ht⟩ | ⟨y, hy, ht⟩)
    · obtain ⟨j, hj⟩ := List.mem_iff_getElem?.1 hy
      rw [List.getElem?_take] at hj
      split at hj
      · exact ⟨j, y, by omega, hj, ht⟩
      · cases hj
    · obtain ⟨j, hj⟩ := List.mem_iff_getElem?.1 hy
      rw [List.getElem?_drop] at hj
      exact ⟨i + 1 + j, y, by omega, hj, ht⟩

/-- What IsFinite answers. -/
def QF (n t : Int) (ss : List (Int × List Int)) (x ok : Bool) : Prop := ok = goodG n t ss ∧ (goodG n t ss = true → ∃ us G, IsUse ss us ∧ IsGrow us G ∧ (x = true ↔ Fin' us G)) ∧ (goodG n t ss = false → x = false)
theorem QF.unique {n t : Int} {ss : List (Int × List Int)} {x y a b : Bool} (h : QF n t ss x a) (k : QF n t ss y b) : x = y ∧ a = b := by
  obtain ⟨h1, h2, h3⟩ := h
  obtain ⟨k1, k2, k3⟩ := k
  refine ⟨?_, h1.trans k1.symm⟩
  cases hg : goodG n t ss
  · rw [h3 hg, k3 hg]
  · obtain ⟨us, G, u1, u2, u3⟩ := h2 hg
    obtain ⟨vs, K, v1, v2, v3⟩ := k2 hg
    have e := isUse_unique u1 v1
    subst e
    have e := isGrow_unique u2 v2
    subst e
    rw [Bool.eq_iff_iff]
    exact u3.trans v3.symm

end Go.Proofs.YtkghblgiojidgaaDoor
