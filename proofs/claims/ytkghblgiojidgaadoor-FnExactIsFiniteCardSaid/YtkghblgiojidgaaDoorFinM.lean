/- What the tables tell while l3Leads looks at the rules. -/
import Derived.Test.YtkghblgiojidgaaDoorFinG
import Derived.Test.YtkghblgiojidgaaDoorFinT
namespace Go.Proofs.YtkghblgiojidgaaDoor

/-- What one place of a right side asks of the tables. -/
def PlaceT (G : Int → Bool) (T U : Tab) (u : Ru) (i : Nat) : Prop := ∀ x, u.r[i]? = some x → 0 ≤ x → T u.l x = true ∧ (Beside G u.r i → U u.l x = true)
theorem PlaceT.mono {G : Int → Bool} {T U T' U' : Tab} {u : Ru} {i : Nat} (h : PlaceT G T U u i) (hT : LeT T T') (hU : LeT U U') : PlaceT G T' U' u i := fun x hx h0 => ⟨hT _ _ (h x hx h0).1, fun hb => hU _ _ ((h x hx h0).2 hb)⟩
/-- The tables tell steps alone. -/
def TrueT (rs : List Ru) (G : Int → Bool) (T U : Tab) : Prop := (∀ a b, T a b = true → Edge (rs.map Ru.abs) a b) ∧ ∀ a b, U a b = true → GEdge G (rs.map Ru.abs) a b
/-- .. and all of the first k rules. -/
def StepsT (rs : List Ru) (G : Int → Bool) (k : Nat) (T U : Tab) : Prop := TrueT rs G T U ∧ ∀ (j : Nat) (u : Ru), j < k → rs[j]? = some u → ∀ i, PlaceT G T U u i
theorem StepsT.start (rs : List Ru) (G : Int → Bool) : StepsT rs G 0 noT noT := ⟨⟨fun _ _ h => (by cases h), fun _ _ h => by cases h⟩, fun j u h => absurd h (by omega)⟩
/-- .. and all of the first m places of the rule behind them. -/
def StepsI (rs : List Ru) (G : Int → Bool) (k m : Nat) (T U : Tab) : Prop := StepsT rs G k T U ∧ ∀ u, rs[k]? = some u → ∀ i, i < m → PlaceT G T U u i
theorem StepsI.start {rs : List Ru} {G : Int → Bool} {k : Nat} {T U : Tab} (h : StepsT rs G k T U) : StepsI rs G k 0 T U := ⟨h, fun u _ i hi => absurd hi (by omega)⟩
theorem StepsI.done {rs : List Ru} {G : Int → Bool} {k : Nat} {T U : Tab} (hk : k < rs.length) (h : StepsI rs G k rs[k].r.length T U) : StepsT rs G (k + 1) T U := by
  refine ⟨h.1.1, fun j u hj hu i => ?_⟩
  by_cases e : j = k
  · subst e
    have hu' := hu
    rw [List.getElem?_eq_getElem hk] at hu'
    have e := Option.some.inj hu'
    subst e
    by_cases hi : i < rs[j].r.length
    · exact h.2 _ hu i hi
    · intro x hx
      rw [List.getElem?_eq_none (by omega)] at hx
      cases hx
  · exact h.1.2 j u (by omega) hu i
theorem StepsI.next {rs : List Ru} {G : Int → Bool} {k m : Nat} {T U T' U' : Tab} (h : StepsI rs G k m T U) (hT : LeT T T') (hU : LeT U U') (ht : TrueT rs G T' U') (hp : ∀ u, rs[k]? = some u → PlaceT G T' U' u m) : StepsI rs G k (m + 1) T' U' := by
  refine ⟨⟨ht, fun j u hj hu i => (h.1.2 j u hj hu i).mono hT hU⟩, fun u hu i hi => ?_⟩
  by_cases e : i = m
  · subst e; exact hp u hu
  · exact (h.2 u hu i (by omega)).mono hT hU
/-- Beside one place, among the first j. -/
def BesideTo (G : Int → Bool) (xs : List Int) (i j : Nat) : Prop := ∃ j' y, j' < j ∧ j' ≠ i ∧ xs[j']? = some y ∧ tokS G y = true
/-- At the place m of rule k: the first j are looked at. -/
def StepsJ (rs : List Ru) (G : Int → Bool) (k m j : Nat) (T U : Tab) : Prop := ∃ T0 U0, StepsI rs G k m T0 U0 ∧ LeT T0 T ∧ LeT U0 U ∧ TrueT rs G T U ∧ ∀ u x, rs[k]? = some u → u.r[m]? = some x → T u.l x = true ∧ (BesideTo G u.r m j → U u.l x = true)
theorem LeT.refl (T : Tab) : LeT T T := fun _ _ h => h
theorem LeT.trans {T U V : Tab} (h : LeT T U) (k : LeT U V) : LeT T V := fun a b e => k a b (h a b e)
theorem true_setT {rs : List Ru} {G : Int → Bool} {T U : Tab} (h : TrueT rs G T U) {a b : Int} {v : Bool} (hv : v = true → Edge (rs.map Ru.abs) a b) : TrueT rs G (setT T a b v) U := by
  refine ⟨fun x y hxy => ?_, h.2⟩
  unfold setT at hxy
  split at hxy
  · rename_i e
    obtain ⟨rfl, rfl⟩ := e
    exact hv hxy
  · exact h.1 _ _ hxy
theorem true_setU {rs : List Ru} {G : Int → Bool} {T U : Tab} (h : TrueT rs G T U) {a b : Int} {v : Bool} (hv : v = true → GEdge G (rs.map Ru.abs) a b) : TrueT rs G T (setT U a b v) := by
  refine ⟨h.1, fun x y hxy => ?_⟩
  unfold setT at hxy
  split at hxy
  · rename_i e
    obtain ⟨rfl, rfl⟩ := e
    exact hv hxy
  · exact h.2 _ _ hxy
theorem setT_at {T : Tab} {a b : Int} {v : Bool} : setT T a b v a b = v := by unfold setT; rw [if_pos ⟨rfl, rfl⟩]
theorem StepsJ.start {rs : List Ru} {G : Int → Bool} {k m : Nat} {T U : Tab} (h : StepsI rs G k m T U) (hk : k < rs.length) (hm : m < rs[k].r.length) (h0 : ¬ rs[k].r[m] < 0) : StepsJ rs G k m 0 (setT T rs[k].l rs[k].r[m] true) U := by
  refine ⟨T, U, h, leT_set fun _ => rfl, LeT.refl _, true_setT h.1.1 fun _ => ⟨rs[k].abs, List.mem_map.2 ⟨_, List.getElem_mem hk, rfl⟩, rfl, List.getElem_mem hm, by omega⟩, fun u x hu hx => ?_⟩
  rw [List.getElem?_eq_getElem hk] at hu
  have e := Option.some.inj hu
  subst e
  rw [List.getElem?_eq_getElem hm] at hx
  have e := Option.some.inj hx
  subst e
  exact ⟨setT_at, fun ⟨j', _, h, _⟩ => absurd h (by omega)⟩
theorem StepsJ.step {rs : List Ru} {G : Int → Bool} {k m j : Nat} {T U : Tab} (h : StepsJ rs G k m j T U) (hk : k < rs.length) (hm : m < rs[k].r.length) (h0 : ¬ rs[k].r[m] < 0) (hj : j < rs[k].r.length) {v : Bool} (hv : v = true ↔ (U rs[k].l rs[k].r[m] = true ∨ (m ≠ j ∧ tokS G rs[k].r[j] = true))) : StepsJ rs G k m (j + 1) T (setT U rs[k].l rs[k].r[m] v) := by
  obtain ⟨T0, U0, h1, h2, h3, h4, h5⟩ := h
  have hle : LeT U (setT U rs[k].l rs[k].r[m] v) := leT_set fun e => hv.2 (.inl e)
  refine ⟨T0, U0, h1, h2, h3.trans hle, true_setU h4 fun e => ?_, fun u x hu hx => ?_⟩
  · rcases hv.1 e with e | ⟨hne, ht⟩
    · exact h4.2 _ _ e
    · exact ⟨rs[k].abs, List.mem_map.2 ⟨_, List.getElem_mem hk, rfl⟩, rfl, m, List.getElem?_eq_getElem hm, by omega, j, _, fun e => hne e.symm, List.getElem?_eq_getElem hj, ht⟩
  · have h6 := h5 u x hu hx
    refine ⟨h6.1, ?_⟩
    rw [List.getElem?_eq_getElem hk] at hu
    have e := Option.some.inj hu
    subst e
    rw [List.getElem?_eq_getElem hm] at hx
    have e := Option.some.inj hx
    subst e
    rintro ⟨j', y, b1, b2, b3, b4⟩
    by_cases e : j' = j
    · subst e
      rw [setT_at]
      rw [List.getElem?_eq_getElem hj] at b3
      have e := Option.some.inj b3
      subst e
      exact hv.2 (.inr ⟨fun e => b2 e.symm, b4⟩)
    · exact hle _ _ (h6.2 ⟨j', y, by omega, b2, b3, b4⟩)
theorem StepsJ.done {rs : List Ru} {G : Int → Bool} {k m : Nat} {T U : Tab} (hk : k < rs.length) (h : StepsJ rs G k m rs[k].r.length T U) : StepsI rs G k (m + 1) T U := by
  obtain ⟨T0, U0, h1, h2, h3, h4, h5⟩ := h
  refine h1.next h2 h3 h4 fun u hu x hx h0 => ⟨(h5 u x hu hx).1, fun hb => (h5 u x hu hx).2 ?_⟩
  rw [List.getElem?_eq_getElem hk] at hu
  have e := Option.some.inj hu
  subst e
  obtain ⟨j, y, b1, b2, b3⟩ := hb
  exact ⟨j, y, (List.getElem?_eq_some_iff.1 b2).1, b1, b2, b3⟩
theorem StepsI.skip {rs : List Ru} {G : Int → Bool} {k m : Nat} {T U : Tab} (h : StepsI rs G k m T U) (hk : k < rs.length) (hm : m < rs[k].r.length) (h0 : rs[k].r[m] < 0) : StepsI rs G k (m + 1) T U := by
  refine h.next (LeT.refl _) (LeT.refl _) h.1.1 fun u hu x hx hx0 => ?_
  rw [List.getElem?_eq_getElem hk] at hu
  have e := Option.some.inj hu
  subst e
  rw [List.getElem?_eq_getElem hm] at hx
  have e := Option.some.inj hx
  subst e
  omega
/-- When all rules are looked at. -/
theorem StepsT.all {rs : List Ru} {G : Int → Bool} {T U : Tab} (h : StepsT rs G rs.length T U) : SoundT (Edge (rs.map Ru.abs)) (GEdge G (rs.map Ru.abs)) T U ∧ UptoT (Edge (rs.map Ru.abs)) (GEdge G (rs.map Ru.abs)) 0 T U := by
  refine ⟨⟨fun a b e => ⟨[], h.1.1 a b e⟩, fun a b e => ⟨[], h.1.2 a b e⟩⟩, upto_zero ?_ ?_⟩
  · rintro a b ⟨r, hr, rfl, hb, h0⟩
    obtain ⟨u, hu, rfl⟩ := List.mem_map.1 hr
    obtain ⟨j, hj⟩ := List.mem_iff_getElem?.1 hu
    obtain ⟨i, hi⟩ := List.mem_iff_getElem?.1 hb
    exact (h.2 j u (List.getElem?_eq_some_iff.1 hj).1 hj i b hi h0).1
  · rintro a b ⟨r, hr, rfl, i, hi, h0, hb⟩
    obtain ⟨u, hu, rfl⟩ := List.mem_map.1 hr
    obtain ⟨j, hj⟩ := List.mem_iff_getElem?.1 hu
    exact (h.2 j u (List.getElem?_eq_some_iff.1 hj).1 hj i b hi h0).2 hb

theorem byT_mono {T T' : Tab} {k a b : Int} (h : LeT T T') (e : byT T k a b = true) : byT T' k a b = true := by
  unfold byT at e ⊢
  simp only [Bool.or_eq_true, Bool.and_eq_true] at e ⊢
  exact e.imp (h _ _) fun e => ⟨h _ _ e.1, h _ _ e.2⟩
theorem byU_mono {T U T' U' : Tab} {k a b : Int} (h : LeT T T') (g : LeT U U') (e : byU T U k a b = true) : byU T' U' k a b = true := by
  unfold byU at e ⊢
  simp only [Bool.or_eq_true, Bool.and_eq_true] at e ⊢
  exact e.imp (Or.imp (g _ _) fun e => ⟨h _ _ e.1, g _ _ e.2⟩) fun e => ⟨g _ _ e.1, h _ _ e.2⟩
/-- While the step by way of d is made: done at all places ahead of (a, b). -/
def MidT (E M : Int → Int → Prop) (N d a b : Nat) (T U : Tab) : Prop := ∃ T0 U0, UptoT E M d T0 U0 ∧ SoundT E M T U ∧ LeT T0 T ∧ LeT U0 U ∧ ∀ a' b' : Nat, a' < N → b' < N → (a' < a ∨ (a' = a ∧ b' < b)) → DoneAt T0 U0 T U d a' b'
theorem MidT.start {E M : Int → Int → Prop} {N d : Nat} {T U : Tab} (h : SoundT E M T U) (k : UptoT E M d T U) : MidT E M N d 0 0 T U := ⟨T, U, k, h, LeT.refl _, LeT.refl _, fun a' b' _ _ h => absurd h (by omega)⟩
theorem MidT.line {E M : Int → Int → Prop} {N d a : Nat} {T U : Tab} (h : MidT E M N d a N T U) : MidT E M N d (a + 1) 0 T U := by
  obtain ⟨T0, U0, h1, h2, h3, h4, h5⟩ := h
  exact ⟨T0, U0, h1, h2, h3, h4, fun a' b' ha hb h => h5 a' b' ha hb (by omega)⟩
theorem MidT.step {E M : Int → Int → Prop} {N d a b : Nat} {T U : Tab} (h : MidT E M N d a b T U) : MidT E M N d a (b + 1) (setT T a b (byT T d a b)) (setT U a b (byU T U d a b)) := by
  obtain ⟨T0, U0, h1, h2, h3, h4, h5⟩ := h
  have hT : LeT T (setT T a b (byT T d a b)) := leT_set fun e => by unfold byT; rw [e]; rfl
  have hU : LeT U (setT U a b (byU T U d a b)) := leT_set fun e => by unfold byU; rw [e]; rfl
  refine ⟨T0, U0, h1, sound_setT (sound_setU h2 d a b) d a b, h3.trans hT, h4.trans hU, fun a' b' ha hb h => ?_⟩
  by_cases e : a' = a ∧ b' = b
  · obtain ⟨rfl, rfl⟩ := e
    exact ⟨fun e => by rw [setT_at]; exact byT_mono h3 e, fun e => by rw [setT_at]; exact byU_mono h3 h4 e⟩
  · exact (h5 a' b' ha hb (by omega)).mono hT hU
theorem MidT.done {E M : Int → Int → Prop} {N d : Nat} {T U : Tab} (h : MidT E M N d N 0 T U) (hE : ∀ a b, E a b → (0 ≤ a ∧ a < (N : Int)) ∧ (0 ≤ b ∧ b < (N : Int))) (hM : ∀ a b, M a b → E a b) : SoundT E M T U ∧ UptoT E M ((d + 1 : Nat) : Int) T U := by
  obtain ⟨T0, U0, h1, h2, h3, h4, h5⟩ := h
  refine ⟨h2, ?_⟩
  have := upto_step' h1 hE hM h3 h4 fun a b a0 a1 b0 b1 => by
    obtain ⟨a', rfl⟩ := Int.eq_ofNat_of_zero_le a0
    obtain ⟨b', rfl⟩ := Int.eq_ofNat_of_zero_le b0
    exact h5 a' b' (by omega) (by omega) (.inl (by omega))
  have e : ((d + 1 : Nat) : Int) = (d : Int) + 1 := by omega
  rw [e]
  exact this

end Go.Proofs.YtkghblgiojidgaaDoor
