/- What the reference's RenameNons answers. -/
import Derived.Test.YtpaccjfabclikaaDoorImplRen2
import Derived.Test.YtpaccjfabclikaaDoorSpecRev
namespace Go.Proofs.YtpaccjfabclikaaDoor
open Go.RowKit

/-- What is said with the first k rules renamed. -/
def renToA (to : List Int) (ss : List (Int × List Int)) (k : Nat) : List (Int × List Int) := ss.mapIdx fun j u => if j < k then renU to u else u
theorem renToA_zero (to : List Int) (ss : List (Int × List Int)) : renToA to ss 0 = ss := by
  apply List.ext_getElem?
  intro j
  simp [renToA]
theorem renToA_at {to : List Int} {ss : List (Int × List Int)} {k : Nat} (h : k < ss.length) : (renToA to ss k)[k]? = some ss[k] := by simp [renToA, h]
theorem renToA_step {to : List Int} {ss : List (Int × List Int)} {k : Nat} (h : k < ss.length) : (renToA to ss k).set k (renU to ss[k]) = renToA to ss (k + 1) := by
  apply List.ext_getElem
  · simp [renToA]
  · intro j h1 h2
    simp only [renToA, List.getElem_set, List.getElem_mapIdx]
    by_cases e : k = j
    · subst e; rw [if_pos rfl, if_pos (by omega)]
    · rw [if_neg e]
      by_cases e3 : j < k
      · rw [if_pos e3, if_pos (by omega)]
      · rw [if_neg e3, if_neg (by omega)]
theorem renToA_done {to : List Int} {ss : List (Int × List Int)} {k : Nat} (h : ¬ k < ss.length) : renToA to ss k = renA to ss := by
  apply List.ext_getElem
  · simp [renToA, renA]
  · intro j h1 h2
    simp only [renToA, List.length_mapIdx] at h1
    simp only [renToA, renA, List.getElem_mapIdx, List.getElem_map]
    rw [if_pos (by omega)]

/-- Rule k of ds with its left side renamed, and the first j symbols of its right side. -/
def midU (to : List Int) (u : Ru) (j : Nat) : Ru := { u with l := renX to u.l, r := renMid to u.r j }

theorem mid_next {w : World} {lo g k j : Nat} {ds : List Ru} {to : List Int} (hk : k < ds.length) (hj : j < ds[k].r.length) (h : OwnR w lo (some ⟨g, 0, none⟩) (ds.set k (midU to ds[k] j))) (x : Int) (hx : x = renX to ds[k].r[j]) :
    ∃ gk, ds[k].a = some ⟨gk, 0, none⟩ ∧ lo ≤ gk ∧ gk < w.heap.size ∧ w.cell? ⟨g, k * 2 + 1, none⟩ = some (.slice ds[k].a ds[k].r.length ds[k].c) ∧ w.cell? ⟨gk, j, none⟩ = some (.int .i64 ds[k].r[j]) ∧ w.frozen? ⟨gk, j, none⟩ = false ∧ gk ≠ g ∧ (∀ (g' : Nat) (t : TypeId) (cs : Array Value), Row w g' t cs → t ≠ 3 → g' ≠ gk) ∧
      OwnR (w.setCell ⟨gk, j, none⟩ (.int .i64 x)) lo (some ⟨g, 0, none⟩) (ds.set k (midU to ds[k] (j + 1))) := by
  have hk' : k < (ds.set k (midU to ds[k] j)).length := by simpa using hk
  have hat : (ds.set k (midU to ds[k] j))[k] = midU to ds[k] j := by simp
  obtain ⟨g', e, _, _, c1, c2, _, _, c3⟩ := h.at_ hk'
  injection e with e
  injection e with e
  subst e
  rw [hat] at c2 c3
  simp only [midU, renMid_length (Nat.le_of_lt hj)] at c2 c3
  have hjm : j < (renMid to ds[k].r j).length := by rw [renMid_length (Nat.le_of_lt hj)]; exact hj
  obtain ⟨gk, ea, hl, hlt, k1, f1⟩ := c3.at_ hjm
  rw [renMid_at hj] at k1
  have hne2 : gk ≠ g ∧ (∀ (g' : Nat) (t : TypeId) (cs : Array Value), Row w g' t cs → t ≠ 3 → g' ≠ gk) := by
    rcases c3 with c3 | ⟨g1, cs1, e1, _, hr1, _⟩
    · rw [c3] at hjm; simp at hjm
    · rw [ea] at e1
      injection e1 with e1
      injection e1 with e1
      subst e1
      exact ⟨h.row_ne hk' hr1 (by decide), fun g' t cs hr ht => hr.ne hr1 ht⟩
  refine ⟨gk, ea, hl, hlt, c2, k1, f1, hne2.1, hne2.2, ?_⟩
  have hO : OwnI (w.setCell ⟨gk, j, none⟩ (.int .i64 x)) lo ds[k].a (renMid to ds[k].r (j + 1)) := by
    rw [ea] at c3 ⊢
    rw [← renMid_step hj, ← hx]
    exact c3.set hjm x
  have hS : Save (Its ds[k].a (renMid to ds[k].r j)) w (w.setCell ⟨gk, j, none⟩ (.int .i64 x)) := (Save.refl _ _).setCell ⟨ea, fun e => by rw [e] at hjm; simp at hjm⟩ _
  have h2 := h.setRight hk' (w' := w.setCell ⟨gk, j, none⟩ (.int .i64 x)) (ys := renMid to ds[k].r (j + 1)) (by rw [hat]; simp only [midU]; rw [renMid_length (by omega), renMid_length (by omega)]) (by rw [hat]; exact hO) (by rw [hat]; exact hS)
  rw [hat] at h2
  simpa [midU, List.set_set] using h2

theorem mid_same {ds : List Ru} {to : List Int} {k j : Nat} (hk : k < ds.length) (hj : j < ds[k].r.length) (hx : ¬ 0 ≤ ds[k].r[j]) : ds.set k (midU to ds[k] (j + 1)) = ds.set k (midU to ds[k] j) := by
  congr 1
  unfold midU
  rw [renMid_same hj hx]

theorem mid_abs {ds : List Ru} {to : List Int} {k j : Nat} (hk : k < ds.length) (hj : ¬ j < ds[k].r.length) : (ds.set k (midU to ds[k] j)).map Ru.abs = (ds.map Ru.abs).set k (renU to ds[k].abs) := by
  rw [List.map_set]
  congr 1
  unfold midU
  rw [renMid_all hj]
  rfl

theorem mid_read {w : World} {lo g k j : Nat} {ds : List Ru} {to : List Int} (hk : k < ds.length) (hj : j < ds[k].r.length) (h : OwnR w lo (some ⟨g, 0, none⟩) (ds.set k (midU to ds[k] j))) :
    ∃ gk, ds[k].a = some ⟨gk, 0, none⟩ ∧ w.cell? ⟨gk, j, none⟩ = some (.int .i64 ds[k].r[j]) := by
  obtain ⟨gk, e, _, _, _, k1, _⟩ := mid_next hk hj h _ rfl
  exact ⟨gk, e, k1⟩

theorem all_okTo {n : Int} {to : List Int} (h : allB 0 (n - 1) to = true) {k : Nat} {x : Int} (hx : to[k]? = some x) : nonB n x = true := by rw [← non_in]; exact allB_iff.1 h k x hx
theorem notall_ren {n : Int} {to : List Int} (h : allB 0 (n - 1) to = false) : renAll n to = false := by
  cases e : renAll n to
  · rfl
  · have h1 := renAll_iff.1 e
    have : allB 0 (n - 1) to = true := allB_iff.2 fun k x hx => by rw [non_in]; exact (h1 k x (List.getElem?_eq_some_iff.1 hx).1 hx).1
    rw [this] at h; cases h

end Go.Proofs.YtpaccjfabclikaaDoor
