/- The reference's copy of a grammar, rule by rule. -/
import Derived.Test.YtpaccjfabclikaaDoorCopyG
namespace Go.Proofs.YtpaccjfabclikaaDoor
open Go.RowKit

def cellsU (u : Ru) : List Value := [.int .i64 u.l, .slice u.a u.r.length u.c]

theorem flat_get : ∀ {ds : List Ru} {k : Nat} {u : Ru}, ds[k]? = some u → (ds.flatMap cellsU)[k * 2]? = some (.int .i64 u.l) ∧ (ds.flatMap cellsU)[k * 2 + 1]? = some (.slice u.a u.r.length u.c)
  | [], k, u, h => by simp at h
  | d :: ds, 0, u, h => by
    simp at h
    subst h
    simp [cellsU]
  | d :: ds, k + 1, u, h => by
    have ih := flat_get (ds := ds) (k := k) (u := u) (by simpa using h)
    have e1 : (k + 1) * 2 = k * 2 + 1 + 1 := by omega
    have e2 : (k + 1) * 2 + 1 = k * 2 + 1 + 1 + 1 := by omega
    rw [e1]
    simpa [cellsU] using ih

theorem flat_length (ds : List Ru) : (ds.flatMap cellsU).length = ds.length * 2 := by
  induction ds with
  | nil => rfl
  | cons d ds ih => rw [List.flatMap_cons, List.length_append, ih]; simp [cellsU]; omega

/-- The first k rules of rs have been appended to v. -/
def Grow (w : World) (lo : Nat) (v : Value) (rs : List Ru) (k : Nat) : Prop :=
  ∃ done : List Ru, done.length = k ∧ w.ownsRow lo 52 2 v k (done.flatMap cellsU) ∧ done.map Ru.abs = (rs.take k).map Ru.abs ∧
    (∀ (j : Nat) (u : Ru), done[j]? = some u → OwnI w lo u.a u.r) ∧
    ∀ (i j : Nat) (u v : Ru), done[i]? = some u → done[j]? = some v → i ≠ j → u.r ≠ [] → v.r ≠ [] → u.a ≠ v.a

theorem Grow.start (w : World) (lo : Nat) (rs : List Ru) : Grow w lo (.slice none 0 0) rs 0 :=
  ⟨[], rfl, ⟨rfl, .inl ⟨rfl, rfl⟩⟩, rfl, fun j u h => by simp at h, fun i j u v h => by simp at h⟩

theorem Grow.low {w : World} {lo k : Nat} {v : Value} {rs : List Ru} (h : Grow w lo v rs k) {p : Addr} (hp : p.block < lo) (u : Value) : Grow (w.setCell p u) lo v rs k := by
  obtain ⟨done, h1, h2, h3, h4, h5⟩ := h
  exact ⟨done, h1, ownsRow_setCell_below h2 hp u, h3, fun j x hx => (h4 j x hx).low hp u, h5⟩

theorem own_below {w w' : World} {base : Nat} {e : TypeId} {size n : Nat} {v : Value} {xs : List Value} (h : w.ownsRow base e size v n xs) (hb : Below w.heap.size w w') : w'.ownsRow base e size v n xs := by
  obtain ⟨h1, h2 | ⟨g, cap, cur, h3, h4, h5, h6⟩⟩ := h
  · exact ⟨h1, .inl h2⟩
  · exact ⟨h1, .inr ⟨g, cap, cur, h3, h4, (hb.block g (Row.lt (t := e) h5)).trans h5, h6⟩⟩

theorem Grow.keep {w w' : World} {lo k : Nat} {v : Value} {rs : List Ru} (h : Grow w lo v rs k) (hb : Below w.heap.size w w') : Grow w' lo v rs k := by
  obtain ⟨done, h1, h2, h3, h4, h5⟩ := h
  exact ⟨done, h1, own_below h2 hb, h3, fun j x hx => (h4 j x hx).below hb (Nat.le_refl _), h5⟩

theorem Grow.own {w : World} {lo k : Nat} {v : Value} {rs : List Ru} (h : Grow w lo v rs k) : w.ownsRow lo 52 2 v k (((h.choose)).flatMap cellsU) := h.choose_spec.2.1

/-- A right side lies apart from a row of rules that is appended to. -/
theorem OwnI.grown {w w' : World} {lo base n : Nat} {A : Option Addr} {xs : List Int} {v : Value} {cs : List Value} (h : OwnI w lo A xs) (hv : w.ownsRow base 52 2 v n cs) (hg : w.grownBy w' v.ownBlock) : OwnI w' lo A xs := by
  rcases h with h | ⟨g, rc, e, hl, hr, hc⟩
  · exact .inl h
  · refine .inr ⟨g, rc, e, hl, (hg.block g hr.lt fun hb => ?_).trans hr, hc⟩
    obtain ⟨_, ⟨rfl, _⟩ | ⟨g', cap, cur, rfl, _, h5, _⟩⟩ := hv
    · cases hb
    · injection hb with hb
      subst hb
      exact hr.ne (t' := 52) (cs' := cur) h5 (by decide) rfl

theorem Grow.step {w w1 w2 : World} {lo k : Nat} {v v' : Value} {rs : List Ru} {A : Option Addr} {c : Nat} (hk : k < rs.length) (hb : Below w.heap.size w w1) (hlo : lo ≤ w.heap.size) (hO : OwnI w1 w.heap.size A rs[k].r)
    (done : List Ru) (h1 : done.length = k) (h2 : w.ownsRow lo 52 2 v k (done.flatMap cellsU)) (h3 : done.map Ru.abs = (rs.take k).map Ru.abs) (h4 : ∀ (j : Nat) (u : Ru), done[j]? = some u → OwnI w lo u.a u.r)
    (h5 : ∀ (i j : Nat) (u v : Ru), done[i]? = some u → done[j]? = some v → i ≠ j → u.r ≠ [] → v.r ≠ [] → u.a ≠ v.a) (o : Obj)
    (ho : w2.ownsRow lo 52 2 v' (k + 1) (done.flatMap cellsU ++ [.int .i64 rs[k].l, .slice A rs[k].r.length c])) (hg : (w1.alloc o).grownBy w2 v.ownBlock) : Grow w2 lo v' rs (k + 1) := by
  have hv1 := (own_below h2 hb).alloc o
  have up : ∀ {A' : Option Addr} {xs : List Int}, OwnI w1 lo A' xs → OwnI w2 lo A' xs := fun h => (h.below (B := w1.heap.size) ((Below.refl _ _).alloc (Nat.le_refl _) o) (Nat.le_refl _)).grown hv1 hg
  have last : ∀ (i : Nat) (u : Ru), ¬ i < k → (done ++ [⟨rs[k].l, A, rs[k].r, c⟩])[i]? = some u → i = k ∧ u = ⟨rs[k].l, A, rs[k].r, c⟩ := by
    intro i u hi hu
    rw [List.getElem?_append_right (by omega)] at hu
    have hj : i - done.length = 0 := by
      rcases Nat.eq_zero_or_pos (i - done.length) with h0 | h0
      · exact h0
      · rw [List.getElem?_eq_none (by simp; omega)] at hu; cases hu
    rw [hj] at hu
    simp at hu
    exact ⟨by omega, hu.symm⟩
  have old : ∀ (i : Nat) (u : Ru), i < k → (done ++ [⟨rs[k].l, A, rs[k].r, c⟩])[i]? = some u → u.r ≠ [] → rs[k].r ≠ [] → u.a ≠ A := by
    intro i u hi hu hne hne' he
    rw [List.getElem?_append_left (by omega)] at hu
    rcases h4 i u hu with h6 | ⟨g1, _, e1, _, r1, _⟩
    · exact hne h6
    · rcases hO with h7 | ⟨g2, _, e2, l2, _, _⟩
      · exact hne' h7
      · rw [e1, e2] at he
        have := r1.lt
        injection he with he
        injection he with he
        omega
  refine ⟨done ++ [⟨rs[k].l, A, rs[k].r, c⟩], by simp [h1], ?_, ?_, ?_, ?_⟩
  · rw [List.flatMap_append]
    simpa [cellsU] using ho
  · rw [List.map_append, h3, List.take_succ_eq_append_getElem hk, List.map_append]; rfl
  · intro j u hu
    by_cases e : j < k
    · rw [List.getElem?_append_left (by omega)] at hu
      exact up ((h4 j u hu).below hb (Nat.le_refl _))
    · obtain ⟨_, rfl⟩ := last j u e hu
      exact up (hO.lower hlo)
  · intro i j u v hu hv hij hun hvn
    by_cases hi : i < k <;> by_cases hj : j < k
    · rw [List.getElem?_append_left (by omega)] at hu hv
      exact h5 i j u v hu hv hij hun hvn
    · obtain ⟨rfl, rfl⟩ := last j v hj hv
      exact old i u hi hu hun hvn
    · obtain ⟨rfl, rfl⟩ := last i u hi hu
      exact fun e => old j v hj hv hvn hun e.symm
    · have := (last i u hi hu).1; have := (last j v hj hv).1; omega

theorem ownR_of_row {w : World} {lo k : Nat} {v : Value} {ds : List Ru} (h1 : ds.length = k) (h2 : w.ownsRow lo 52 2 v k (ds.flatMap cellsU)) (h4 : ∀ (j : Nat) (u : Ru), ds[j]? = some u → OwnI w lo u.a u.r)
    (h5 : ∀ (i j : Nat) (u v : Ru), ds[i]? = some u → ds[j]? = some v → i ≠ j → u.r ≠ [] → v.r ≠ [] → u.a ≠ v.a) : ∃ A c, v = .slice A ds.length c ∧ ds.length ≤ c ∧ OwnR w lo A ds := by
  subst h1
  obtain ⟨_, ⟨rfl, h0⟩ | ⟨g, cap, cur, rfl, hlo, hg, hcap, _, _, hx⟩⟩ := h2
  · have : ds = [] := List.eq_nil_of_length_eq_zero h0
    subst this
    exact ⟨none, 0, rfl, Nat.le_refl _, .inl rfl⟩
  · refine ⟨_, cap, rfl, hcap, .inr ⟨g, cur, rfl, hlo, hg, fun k u hu => ?_, h5⟩⟩
    have hk := (List.getElem?_eq_some_iff.1 hu).1
    obtain ⟨f1, f2⟩ := flat_get hu
    rw [← hx] at f1 f2
    rw [List.getElem?_take, if_pos (by omega)] at f1 f2
    exact ⟨by simpa using f1, by simpa using f2, h4 k u hu⟩

theorem Grow.done {w : World} {lo : Nat} {v : Value} {rs : List Ru} (h : Grow w lo v rs rs.length) : ∃ A c, ∃ ds : List Ru, v = .slice A ds.length c ∧ ds.length ≤ c ∧ OwnR w lo A ds ∧ ds.map Ru.abs = rs.map Ru.abs := by
  obtain ⟨ds, h1, h2, h3, h4, h5⟩ := h
  obtain ⟨A, c, e, hc, hO⟩ := ownR_of_row h1 h2 h4 h5
  exact ⟨A, c, ds, e, hc, hO, by rw [h3, List.take_length]⟩

end Go.Proofs.YtpaccjfabclikaaDoor
