/- The program's closeSet: what it makes of a set. -/
import Derived.Test.YtkghblgiojidgaaDoorClo
import Derived.Test.YtkghblgiojidgaaDoorRngOp
import Derived.Test.YtkghblgiojidgaaDoorTo
import Derived.Deep.LoopGhost
namespace Go.Proofs.YtkghblgiojidgaaDoor
open Go.RowKit

/-- Only block b and new blocks have turned. -/
def Tb (b B : Nat) (i : Nat) : Prop := i = b ∨ B ≤ i

theorem Ints.saveMap {w w' : World} {b n : Nat} {f : Int → Option Value} {A : Option Addr} {xs : List Int} (h : Ints w w.heap.size A xs) (hm : MapI w b n f) (hs : Save (Tb b w.heap.size) w w') : Ints w' w'.heap.size A xs := by
  intro hn
  obtain ⟨p, o, e, hp, hc⟩ := h hn
  have hb : p ≠ b := fun e2 => by
    obtain ⟨D, ⟨es, ck, hm1, _⟩, _⟩ := hm
    subst e2
    have h0 := hc 0 xs[0] (List.getElem?_eq_getElem hn)
    simp [World.cell?, hm1] at h0
  have hk : w'.heap[p]? = w.heap[p]? := hs.block p hp (by unfold Tb; omega)
  exact ⟨p, o, e, by have := hs.size; omega, fun k x hx => (World.cell?_of_block (a := ⟨p, o + k, none⟩) hk).trans (hc k x hx)⟩

theorem Rls.saveMap {w w' : World} {b n : Nat} {f : Int → Option Value} {A : Option Addr} {rs : List Ru} (h : Rls w w.heap.size A rs) (hm : MapI w b n f) (hs : Save (Tb b w.heap.size) w w') : Rls w' w'.heap.size A rs := by
  intro hn
  obtain ⟨p, o, e, hp, hc⟩ := h hn
  have hb : p ≠ b := fun e2 => by
    obtain ⟨D, ⟨es, ck, hm1, _⟩, _⟩ := hm
    subst e2
    have h0 := (hc 0 rs[0] (List.getElem?_eq_getElem hn)).1
    simp [World.cell?, hm1] at h0
  have hk : w'.heap[p]? = w.heap[p]? := hs.block p hp (by unfold Tb; omega)
  refine ⟨p, o, e, by have := hs.size; omega, fun k u hu => ?_⟩
  obtain ⟨h1, h2, h3⟩ := hc k u hu
  exact ⟨(World.cell?_of_block (a := ⟨p, o + k * 2, none⟩) hk).trans h1, (World.cell?_of_block (a := ⟨p, o + k * 2 + 1, none⟩) hk).trans h2, h3.saveMap hm hs⟩

/-- The value of a rule. -/
def ruV (u : Ru) : Value := .agg #[.int .i64 u.l, .slice u.a u.r.length u.c]
/-- The rules that are still marked, by their numbers. -/
def openF (rs : List Ru) (rem : Int → Bool) : Int → Option Value := fun x => if rem x then (rs[x.toNat]?).map ruV else none
/-- The first k. -/
def firstB (k : Nat) : Int → Bool := fun x => decide (0 ≤ x ∧ x < (k : Int))
theorem openF_zero (rs : List Ru) : ∀ x, (fun _ : Int => (none : Option Value)) x = openF rs (firstB 0) x := fun x => by
  unfold openF firstB
  rw [if_neg]
  simp
theorem openF_put {rs : List Ru} {k : Nat} (hk : k < rs.length) : ∀ x, putK (openF rs (firstB k)) (k : Int) (.agg #[.int .i64 rs[k].l, .slice rs[k].a rs[k].r.length rs[k].c]) x = openF rs (firstB (k + 1)) x := fun x => by
  unfold putK openF firstB
  by_cases e : x = (k : Int)
  · subst e
    have e1 : decide (0 ≤ (k : Int) ∧ (k : Int) < ((k + 1 : Nat) : Int)) = true := decide_eq_true (by omega)
    rw [if_pos rfl, e1, if_pos rfl, Int.toNat_natCast, List.getElem?_eq_getElem hk]
    rfl
  · rw [if_neg e]
    have e1 : decide (0 ≤ x ∧ x < ((k + 1 : Nat) : Int)) = decide (0 ≤ x ∧ x < (k : Int)) := by
      congr 1
      exact propext (by omega)
    rw [e1]
theorem openF_del {rs : List Ru} {rem : Int → Bool} {y : Int} : ∀ x, delK (openF rs rem) y x = openF rs (strike rem y) x := fun x => by
  unfold delK openF
  by_cases e : x = y
  · subst e
    rw [if_pos rfl, strike_same]
    rfl
  · rw [if_neg e, strike_other e]
theorem openF_some {rs : List Ru} {rem : Int → Bool} {x : Int} {v : Value} (h : openF rs rem x = some v) : rem x = true ∧ ∃ u, rs[x.toNat]? = some u ∧ v = .agg #[.int .i64 u.l, .slice u.a u.r.length u.c] := by
  unfold openF at h
  split at h
  · rename_i hr
    cases hu : rs[x.toNat]? with
    | none => rw [hu] at h; cases h
    | some u =>
      rw [hu] at h
      exact ⟨hr, u, rfl, (Option.some.inj h).symm⟩
  · cases h
theorem openF_isSome {rs : List Ru} {rem : Int → Bool} (hr : ∀ x, rem x = true → 0 ≤ x ∧ x < (rs.length : Int)) (x : Int) : (openF rs rem x).isSome = rem x := by
  unfold openF
  cases h : rem x
  · rfl
  · have := hr x h
    rw [if_pos rfl, List.getElem?_eq_getElem (by omega)]
    rfl

/-- What a call of 'use' does, in every world in which E holds. -/
def UseOK (W : Way) (ss : List (Int × List Int)) (E : World → Prop) (b : Nat) (fid : Nat) (caps : Array Value) : Prop :=
  ∀ (v : World) (S : Int → Bool) (u : Ru), E v → SetM v b S → Ints v v.heap.size u.a u.r → u.abs ∈ ss →
    Calls Tryd.prog fid (#[.map (some b), .agg #[.int .i64 u.l, .slice u.a u.r.length u.c]] ++ caps) v fun e v' => e = .returned (.bool (W.fires S u.abs)) ∧ SetM v' b (useW W S u.abs) ∧ Save (· = b) v v'

/-- What holds all the while. -/
structure Closing (W : Way) (S0 : Int → Bool) (rs : List Ru) (rem S : Int → Bool) : Prop where
  fit : ∀ x, rem x = true → 0 ≤ x ∧ x < (rs.length : Int)
  sound : ∀ x, S x = true → Least W S0 (rs.map Ru.abs) x
  start : ∀ x, S0 x = true → S x = true
  used : ∀ (k : Nat) (u : Ru), rs[k]? = some u → rem (k : Int) = false → ∀ y ∈ W.adds u.abs, S y = true

theorem Closing.begin (W : Way) (S0 : Int → Bool) (rs : List Ru) : Closing W S0 rs (firstB rs.length) S0 :=
  ⟨fun x h => of_decide_eq_true h, fun _ h => Least.start h, fun _ h => h, fun k u hu h => by
    have := (List.getElem?_eq_some_iff.1 hu).1
    have := of_decide_eq_false h
    omega⟩

theorem Closing.step {W : Way} {S0 : Int → Bool} {rs : List Ru} {rem S : Int → Bool} (h : Closing W S0 rs rem S) {x : Int} {u : Ru} (hu : rs[x.toNat]? = some u) (hf : W.fires S u.abs = true) :
    Closing W S0 rs (strike rem x) (useW W S u.abs) := by
  refine ⟨fun y hy => h.fit y (strike_le hy), fun y hy => ?_, fun y hy => useW_le (h.start y hy), fun k v hv hk y hy => ?_⟩
  · rcases useW_inv hy with hy | ⟨h1, h2⟩
    · exact h.sound y hy
    · exact Least.step h.sound (List.mem_map.2 ⟨u, List.mem_of_getElem? hu, rfl⟩) h1 h2
  · by_cases e : (k : Int) = x
    · have e2 : x.toNat = k := by omega
      rw [e2, hv] at hu
      cases hu
      exact useW_add hf hy
    · rw [strike_other e] at hk
      exact useW_le (h.used k v hv hk y hy)

theorem Closing.done {W : Way} {S0 : Int → Bool} {rs : List Ru} {rem S : Int → Bool} (h : Closing W S0 rs rem S) (hn : ∀ (k : Nat) (u : Ru), rs[k]? = some u → rem (k : Int) = true → W.fires S u.abs = false) : IsLeast W S0 (rs.map Ru.abs) S := by
  refine isLeast_of h.sound h.start fun r hr hf y hy => ?_
  obtain ⟨u, hu, rfl⟩ := List.mem_map.1 hr
  obtain ⟨k, hk⟩ := List.mem_iff_getElem?.1 hu
  cases hrem : rem (k : Int)
  · exact h.used k u hk hrem y hy
  · rw [hn k u hk hrem] at hf; cases hf

/-- What closeSet ends in. -/
def Closed (w : World) (W : Way) (S0 : Int → Bool) (ss : List (Int × List Int)) (b : Nat) (e : Ending) (w' : World) : Prop :=
  e = .returned (.map (some b)) ∧ ∃ S, SetM w' b S ∧ IsLeast W S0 ss S ∧ Save (· = b) w w'

end Go.Proofs.YtkghblgiojidgaaDoor
