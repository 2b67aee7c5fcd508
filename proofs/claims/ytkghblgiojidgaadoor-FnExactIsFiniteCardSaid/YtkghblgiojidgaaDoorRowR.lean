/- Rows of rules that the call itself makes: owned, read as a list, appended to. -/
import Derived.Test.YtkghblgiojidgaaDoorTo
import Derived.Test.YtkghblgiojidgaaDoorMark
import Derived.Deep.OwnRows
import Derived.Maps.AppendAt
namespace Go.Proofs.YtkghblgiojidgaaDoor
open Go.RowKit

def cellsU (u : Ru) : List Value := [.int .i64 u.l, .slice u.a u.r.length u.c]

theorem flat_get : ∀ {ds : List Ru} {k : Nat} {u : Ru}, ds[k]? = some u → (ds.flatMap cellsU)[k * 2]? = some (.int .i64 u.l) ∧ (ds.flatMap cellsU)[k * 2 + 1]? = some (.slice u.a u.r.length u.c)
  | [], k, u, h => by simp at h
  | d :: ds, 0, u, h => by
    simp at h
    subst h
    simp [cellsU]
  | d :: ds, k + 1, u, h => by
    have ih := flat_get (ds := ds) (k := k) (u := u) (by simpa using h)
    have e1 : (k + 1) * 2 = k * 2 + 1 + 1 := by omega
    have e2 : (k + 1) * 2 + 1 = k * 2 + 1 + 1 + 1 := by omega
    rw [e1]
    simpa [cellsU] using ih

theorem flat_length (ds : List Ru) : (ds.flatMap cellsU).length = ds.length * 2 := by
  induction ds with
  | nil => rfl
  | cons d ds ih => rw [List.flatMap_cons, List.length_append, ih]; simp [cellsU]; omega

theorem own_below {w w' : World} {base : Nat} {e : TypeId} {size n : Nat} {v : Value} {xs : List Value} (h : w.ownsRow base e size v n xs) (hb : Below w.heap.size w w') : w'.ownsRow base e size v n xs := by
  obtain ⟨h1, h2 | ⟨g, cap, cur, h3, h4, h5, h6⟩⟩ := h
  · exact ⟨h1, .inl h2⟩
  · exact ⟨h1, .inr ⟨g, cap, cur, h3, h4, (hb.block g (Row.lt (t := e) h5)).trans h5, h6⟩⟩

/-- A right side lies apart from a row of rules that is appended to. -/
theorem OwnI.grown {w w' : World} {lo base n : Nat} {A : Option Addr} {xs : List Int} {v : Value} {cs : List Value} (h : OwnI w lo A xs) (hv : w.ownsRow base 61 2 v n cs) (hg : w.grownBy w' v.ownBlock) : OwnI w' lo A xs := by
  rcases h with h | ⟨g, rc, e, hl, hr, hc⟩
  · exact .inl h
  · refine .inr ⟨g, rc, e, hl, (hg.block g hr.lt fun hb => ?_).trans hr, hc⟩
    obtain ⟨_, ⟨rfl, _⟩ | ⟨g', cap, cur, rfl, _, h5, _⟩⟩ := hv
    · cases hb
    · injection hb with hb
      subst hb
      exact hr.ne (t' := 61) (cs' := cur) h5 (by decide) rfl

theorem ownR_of_row {w : World} {lo k : Nat} {v : Value} {ds : List Ru} (h1 : ds.length = k) (h2 : w.ownsRow lo 61 2 v k (ds.flatMap cellsU)) (h4 : ∀ (j : Nat) (u : Ru), ds[j]? = some u → OwnI w lo u.a u.r)
    (h5 : ∀ (i j : Nat) (u v : Ru), ds[i]? = some u → ds[j]? = some v → i ≠ j → u.r ≠ [] → v.r ≠ [] → u.a ≠ v.a) : ∃ A c, v = .slice A ds.length c ∧ ds.length ≤ c ∧ OwnR w lo A ds := by
  subst h1
  obtain ⟨_, ⟨rfl, h0⟩ | ⟨g, cap, cur, rfl, hlo, hg, hcap, _, _, hx⟩⟩ := h2
  · have : ds = [] := List.eq_nil_of_length_eq_zero h0
    subst this
    exact ⟨none, 0, rfl, Nat.le_refl _, .inl rfl⟩
  · refine ⟨_, cap, rfl, hcap, .inr ⟨g, cur, rfl, hlo, hg, fun k u hu => ?_, h5⟩⟩
    have hk := (List.getElem?_eq_some_iff.1 hu).1
    obtain ⟨f1, f2⟩ := flat_get hu
    rw [← hx] at f1 f2
    rw [List.getElem?_take, if_pos (by omega)] at f1 f2
    exact ⟨by simpa using f1, by simpa using f2, h4 k u hu⟩

theorem two_new (w : World) (x y : Value) (t : TypeId) : ∀ j u, [x, y][j]? = some u → (w.alloc (.cells #[x, y] t)).cell? ((⟨w.heap.size, 0, none⟩ : Addr).add j) = some u := by
  intro j u h
  rw [Go.WideShapes.add_plain, Nat.zero_add]
  rcases j with _ | _ | j
  · simpa [go_sem] using h
  · simpa [go_sem] using h
  · simp at h

/-- The slice v of rules is the call's own and reads as ds; each right side is the call's own, and no two lie in one block. -/
structure RulesW (w : World) (lo : Nat) (v : Value) (ds : List Ru) : Prop where
  row : w.ownsRow lo 61 2 v ds.length (ds.flatMap cellsU)
  rts : ∀ (j : Nat) (u : Ru), ds[j]? = some u → OwnI w lo u.a u.r
  far : ∀ (i j : Nat) (u v : Ru), ds[i]? = some u → ds[j]? = some v → i ≠ j → u.r ≠ [] → v.r ≠ [] → u.a ≠ v.a

theorem RulesW.start (w : World) (lo : Nat) : RulesW w lo (.slice none 0 0) [] := ⟨⟨rfl, .inl ⟨rfl, rfl⟩⟩, fun j u h => by simp at h, fun i j u v h => by simp at h⟩
theorem RulesW.keep {w w' : World} {lo : Nat} {v : Value} {ds : List Ru} (h : RulesW w lo v ds) (hb : Below w.heap.size w w') : RulesW w' lo v ds :=
  ⟨own_below h.row hb, fun j x hx => (h.rts j x hx).below hb (Nat.le_refl _), h.far⟩
theorem RulesW.low {w : World} {lo : Nat} {v : Value} {ds : List Ru} (h : RulesW w lo v ds) {p : Addr} (hp : p.block < lo) (u : Value) : RulesW (w.setCell p u) lo v ds :=
  ⟨ownsRow_setCell_below h.row hp u, fun j x hx => (h.rts j x hx).low hp u, h.far⟩
theorem RulesW.slice {w : World} {lo : Nat} {v : Value} {ds : List Ru} (h : RulesW w lo v ds) : ∃ A c, v = .slice A ds.length c ∧ ds.length ≤ c ∧ OwnR w lo A ds := ownR_of_row rfl h.row h.rts h.far
/-- Blocks below lo may turn. -/
theorem RulesW.save {S : Nat → Prop} {w w' : World} {lo : Nat} {v : Value} {ds : List Ru} (h : RulesW w lo v ds) (hs : Save S w w') (hS : ∀ b, lo ≤ b → ¬ S b) : RulesW w' lo v ds := by
  refine ⟨?_, fun j x hx => (h.rts j x hx).save hs fun g e hn => ?_, h.far⟩
  · obtain ⟨hl, h1 | ⟨g, cap, cur, e1, hlo, hg, e2, e3, e4, e5⟩⟩ := h.row
    · exact ⟨hl, .inl h1⟩
    · exact ⟨hl, .inr ⟨g, cap, cur, e1, hlo, (hs.block g (Row.lt hg) (hS g hlo)).trans hg, e2, e3, e4, e5⟩⟩
  · rcases h.rts j x hx with h6 | ⟨g1, _, e1, hl, _⟩
    · exact absurd h6 hn
    · have := e.symm.trans e1
      injection this with this
      injection this with this
      subst this
      exact hS g hl

theorem last_of {ds : List Ru} {x : Ru} {i : Nat} {u : Ru} (hi : ¬ i < ds.length) (hu : (ds ++ [x])[i]? = some u) : i = ds.length ∧ u = x := by
  rw [List.getElem?_append_right (by omega)] at hu
  have hj : i - ds.length = 0 := by
    rcases Nat.eq_zero_or_pos (i - ds.length) with h0 | h0
    · exact h0
    · rw [List.getElem?_eq_none (by simp; omega)] at hu; cases hu
  rw [hj] at hu
  simp at hu
  exact ⟨by omega, hu.symm⟩

/-- A rule is appended: its right side lies apart from all that are there. -/
theorem RulesW.step {w w2 : World} {lo : Nat} {v v' : Value} {ds : List Ru} {l : Int} {A : Option Addr} {xs : List Int} {c : Nat} (h : RulesW w lo v ds) (hO : OwnI w lo A xs)
    (hap : ∀ (j : Nat) (u : Ru), ds[j]? = some u → u.r ≠ [] → xs ≠ [] → u.a ≠ A)
    (ho : w2.ownsRow lo 61 2 v' (ds.length + 1) (ds.flatMap cellsU ++ [.int .i64 l, .slice A xs.length c])) (hg : w.grownBy w2 v.ownBlock) : RulesW w2 lo v' (ds ++ [⟨l, A, xs, c⟩]) := by
  refine ⟨?_, ?_, ?_⟩
  · rw [List.length_append, List.flatMap_append]
    simpa [cellsU] using ho
  · intro j u hu
    by_cases e : j < ds.length
    · rw [List.getElem?_append_left (by omega)] at hu
      exact (h.rts j u hu).grown h.row hg
    · obtain ⟨_, rfl⟩ := last_of e hu
      exact hO.grown h.row hg
  · intro i j u v hu hv hij hun hvn
    by_cases hi : i < ds.length <;> by_cases hj : j < ds.length
    · rw [List.getElem?_append_left (by omega)] at hu hv
      exact h.far i j u v hu hv hij hun hvn
    · obtain ⟨rfl, rfl⟩ := last_of hj hv
      rw [List.getElem?_append_left (by omega)] at hu
      exact hap i u hu hun hvn
    · obtain ⟨rfl, rfl⟩ := last_of hi hu
      rw [List.getElem?_append_left (by omega)] at hv
      exact fun e => hap j v hv hvn hun e.symm
    · have := (last_of hi hu).1; have := (last_of hj hv).1; omega

/-- A right side that was made later lies apart. -/
theorem RulesW.apart {w w1 : World} {lo : Nat} {v : Value} {ds : List Ru} {A : Option Addr} {xs : List Int} (h : RulesW w lo v ds) (hO : OwnI w1 w.heap.size A xs) : ∀ (j : Nat) (u : Ru), ds[j]? = some u → u.r ≠ [] → xs ≠ [] → u.a ≠ A := by
  intro j u hu hne hne' he
  rcases h.rts j u hu with h6 | ⟨g1, _, e1, _, r1, _⟩
  · exact hne h6
  · rcases hO with h7 | ⟨g2, _, e2, l2, _, _⟩
    · exact hne' h7
    · rw [e1, e2] at he
      have := r1.lt
      injection he with he
      injection he with he
      omega

end Go.Proofs.YtkghblgiojidgaaDoor
