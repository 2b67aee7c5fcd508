/- Maps keyed by numbers in memory: what each key holds; a set as such a map. -/
import Derived.Test.YtkghblgiojidgaaDoorMark
import Derived.Test.YtkghblgiojidgaaDoorImplGood2
import Derived.Maps.RangeWalk
import Derived.Maps.OwnSet
namespace Go.Proofs.YtkghblgiojidgaaDoor
open Go.RowKit

/-- How a value of a map is read here: as itself. -/
def valR (v : Value) : Option (DataW Value × List MemPlace) := some (.held v, [])
theorem valR_inj {v u : Value} {ps : List MemPlace} (h : valR v = some (.held u, ps)) : v = u := by
  unfold valR at h
  simp at h
  exact h.1
def ki (x : Int) : Lit := .int .i64 x
theorem ki_inj {x y : Int} (h : ki x = ki y) : x = y := by unfold ki at h; injection h
theorem ki_ne {x y : Int} (h : x ≠ y) : ki x ≠ ki y := fun e => h (ki_inj e)
theorem key_int : Maps.Keyed Tryd.prog 3 := Maps.int_keyed Tryd.underlying3
theorem wf_fit {x : Int} (h : F64 x) : (Lit.int .i64 x).wf = true := by
  unfold F64 at h
  exact WalkArith.wf_i64 (by omega)
theorem key_of {x : Int} (h : F64 x) : keyOf Tryd.prog 3 (.int .i64 x) = some (ki x) := Maps.keyOf_int_mk Tryd.underlying3 (wf_fit h)
theorem key_inv {v : Value} {l : Lit} (h : keyOf Tryd.prog 3 v = some l) : ∃ x, v = .int .i64 x ∧ l = ki x ∧ F64 x := by
  obtain ⟨x, h1, h2, h3⟩ := Maps.keyOf_int_inv Tryd.underlying3 h
  refine ⟨x, h1, h2, ?_⟩
  simp [Lit.wf, IntKind.min, IntKind.max, IntKind.signed, IntKind.bits] at h3
  unfold F64
  omega

/-- What a map as it is read holds at x. -/
def AtK (D : DataW Value) (x : Int) : Option Value → Prop
  | some v => ∀ z, D.atKey (ki x) z = .held v
  | none => Maps.has D (ki x) = false

theorem AtK.has {D : DataW Value} {x : Int} {o : Option Value} (h : AtK D x o) : Maps.has D (ki x) = o.isSome := by
  cases o with
  | none => exact h
  | some v => exact Maps.has_true_of_atKey h
theorem AtK.get {D : DataW Value} {x : Int} {o : Option Value} (h : AtK D x o) (z : Value) : D.atKey (ki x) (.held z) = .held (o.getD z) := by
  cases o with
  | none => exact Maps.atKey_of_not_has h _
  | some v => exact h _

/-- Block b is a map from numbers that holds f x at x, of n entries at most. -/
def MapI (w : World) (b n : Nat) (f : Int → Option Value) : Prop := ∃ D, w.ownsMap Tryd.prog 3 valR b n D ∧ ∀ x, AtK D x (f x)

def putK (f : Int → Option Value) (x : Int) (v : Value) : Int → Option Value := fun y => if y = x then some v else f y
def delK (f : Int → Option Value) (x : Int) : Int → Option Value := fun y => if y = x then none else f y

theorem atK_put {D : DataW Value} (hD : Maps.IsMap D) {f : Int → Option Value} (h : ∀ y, AtK D y (f y)) (x : Int) (v : Value) : ∀ y, AtK (D.put (ki x) (.held v)) y (putK f x v y) := by
  intro y
  by_cases e : y = x
  · subst e
    have : putK f y v y = some v := if_pos rfl
    rw [this]
    exact fun z => Maps.atKey_put_same hD (show WideAt.IsKeyLit (ki y) from trivial) _ _
  · have h1 : putK f x v y = f y := if_neg e
    rw [h1]
    have h2 := h y
    cases hf : f y with
    | none =>
      rw [hf] at h2
      exact (Maps.has_put_other (ki_ne e) _).trans h2
    | some u =>
      rw [hf] at h2
      exact fun z => (Maps.atKey_put_other (ki_ne e) _ _).trans (h2 z)

theorem atK_del {D : DataW Value} {f : Int → Option Value} (h : ∀ y, AtK D y (f y)) (x : Int) : ∀ y, AtK (D.del (ki x)) y (delK f x y) := by
  intro y
  by_cases e : y = x
  · subst e
    have : delK f y y = none := if_pos rfl
    rw [this]
    exact Maps.has_del_same
  · have h1 : delK f x y = f y := if_neg e
    rw [h1]
    have h2 := h y
    cases hf : f y with
    | none =>
      rw [hf] at h2
      exact (Maps.has_del_other (ki_ne e)).trans h2
    | some u =>
      rw [hf] at h2
      exact fun z => (Maps.atKey_del_other (ki_ne e) _).trans (h2 z)

theorem save_grown {w w' : World} {b : Nat} (h : w.grownBy w' (some b)) : Save (· = b) w w' := ⟨h.os, h.tape, h.output, h.size, fun i hi hs => h.block i hi fun e => hs (by injection e)⟩
theorem below_grown {w w' : World} (h : w.grownBy w' none) : Below w.heap.size w w' := ⟨h.os, h.tape, h.output, h.size, fun i hi => h.block i hi (by simp)⟩

theorem MapI.lt {w : World} {b n : Nat} {f : Int → Option Value} (h : MapI w b n f) : b < w.heap.size := by obtain ⟨D, h1, _⟩ := h; exact h1.lt
theorem MapI.save {S : Nat → Prop} {w w' : World} {b n : Nat} {f : Int → Option Value} (h : MapI w b n f) (hs : Save S w w') (hb : ¬ S b) : MapI w' b n f := by
  obtain ⟨D, ⟨es, ck, h1, h2⟩, h3⟩ := h
  exact ⟨D, ⟨es, ck, (hs.block b (Array.getElem?_eq_some_iff.1 h1).1 hb).trans h1, h2⟩, h3⟩
theorem MapI.keep {w w' : World} {b n : Nat} {f : Int → Option Value} (h : MapI w b n f) (hs : Below w.heap.size w w') : MapI w' b n f := h.save (S := fun _ => False) (Save.of_below hs) fun e => e
theorem MapI.mono {w : World} {b n n' : Nat} {f : Int → Option Value} (h : MapI w b n f) (hn : n ≤ n') : MapI w b n' f := by
  obtain ⟨D, h1, h2⟩ := h
  exact ⟨D, h1.mono hn, h2⟩
theorem MapI.made (w : World) : MapI (w.alloc (.map #[] 0)) w.heap.size 0 fun _ => none := ⟨_, World.ownsMap_made w _ _ _, fun _ => rfl⟩
theorem MapI.same {w : World} {b n : Nat} {f g : Int → Option Value} (h : MapI w b n f) (e : ∀ x, f x = g x) : MapI w b n g := by
  have : f = g := funext e
  exact this ▸ h

theorem MapI.look {w : World} {b n : Nat} {f : Int → Option Value} (h : MapI w b n f) {x : Int} (hx : F64 x) {t e : TypeId} (ht : Tryd.prog.underlying t = some (.map 3 e)) {z : Value} (hz : (zeroValue e).run Tryd.prog w = .ok z w) :
    (Instr.lookup t (.map (some b)) (.int .i64 x) false).run Tryd.prog w = .ok ((f x).getD z) w := by
  obtain ⟨D, h1, h2⟩ := h
  obtain ⟨v, ps, hr, hv⟩ := h1.lookup key_int ht hz (show valR z = some (.held z, []) from rfl) (key_of hx)
  rw [(h2 x).get z] at hv
  rw [hr, valR_inj hv]

theorem MapI.look_ok {w : World} {b n : Nat} {f : Int → Option Value} (h : MapI w b n f) {x : Int} (hx : F64 x) {t e : TypeId} (ht : Tryd.prog.underlying t = some (.map 3 e)) {z : Value} (hz : (zeroValue e).run Tryd.prog w = .ok z w) :
    (Instr.lookup t (.map (some b)) (.int .i64 x) true).run Tryd.prog w = .ok (.tuple #[(f x).getD z, .bool (f x).isSome]) w := by
  obtain ⟨D, h1, h2⟩ := h
  obtain ⟨v, ps, hr, hv⟩ := h1.look_ok key_int ht hz (show valR z = some (.held z, []) from rfl) (key_of hx)
  rw [(h2 x).get z] at hv
  rw [hr, valR_inj hv, (h2 x).has]

theorem MapI.store {w : World} {b n : Nat} {f : Int → Option Value} (h : MapI w b n f) (hn : n < maxLen) {x : Int} (hx : F64 x) {t e : TypeId} (ht : Tryd.prog.underlying t = some (.map 3 e)) (v : Value) :
    ∃ w', (Instr.mapUpdate t (.map (some b)) (.int .i64 x) v).run Tryd.prog w = .ok () w' ∧ MapI w' b (n + 1) (putK f x v) ∧ Save (· = b) w w' ∧ w'.heap.size = w.heap.size := by
  obtain ⟨D, h1, h2⟩ := h
  obtain ⟨w', hr, ho, hg⟩ := h1.store key_int ht hn (key_of hx) (show valR v = some (.held v, []) from rfl)
  refine ⟨w', hr, ⟨_, ho, atK_put h1.isMap h2 x v⟩, save_grown hg.grown, ?_⟩
  obtain ⟨_, _, _, _, _, rfl⟩ := hg
  simp [ChangeMaps.setBlock]

theorem MapI.drop {w : World} {b n : Nat} {f : Int → Option Value} (h : MapI w b n f) {x : Int} (hx : F64 x) {t e : TypeId} (ht : Tryd.prog.underlying t = some (.map 3 e)) (ty : TypeId) :
    ∃ w', (Builtin.delete_ #[t, 3] ty #[.map (some b), .int .i64 x]).run Tryd.prog w = .ok (.tuple #[]) w' ∧ MapI w' b n (delK f x) ∧ Save (· = b) w w' := by
  obtain ⟨D, h1, h2⟩ := h
  obtain ⟨w', hr, ho, hg⟩ := h1.drop key_int ht (key_of hx) ty
  exact ⟨w', hr, ⟨_, ho, atK_del h2 x⟩, save_grown hg.grown⟩

theorem nodup_le {α : Type} [DecidableEq α] : ∀ (l m : List α), l.Nodup → (∀ x ∈ l, x ∈ m) → l.length ≤ m.length
  | [], _, _, _ => Nat.zero_le _
  | x :: l, m, hn, hm => by
    obtain ⟨h1, h2⟩ := List.nodup_cons.1 hn
    have hx : x ∈ m := hm x List.mem_cons_self
    have ih := nodup_le l (m.erase x) h2 fun y hy => (List.mem_erase_of_ne (fun e : y = x => h1 (e ▸ hy))).2 (hm y (List.mem_cons_of_mem _ hy))
    have h3 := List.length_erase_of_mem hx
    have h4 := List.length_pos_of_mem hx
    simp only [List.length_cons]
    omega

def numOf : Lit → Int
  | .int _ x => x
  | _ => 0

/-- A map whose keys are all below 6 has 6 entries at most. -/
theorem MapI.tight {w : World} {b n : Nat} {f : Int → Option Value} (h : MapI w b n f) (hf : ∀ x, f x ≠ none → 0 ≤ x ∧ x < 6) : MapI w b 6 f := by
  obtain ⟨D, h1, h2⟩ := h
  obtain ⟨es, clock, hb, F, hs, hD⟩ := h1
  have h1' : w.ownsMap Tryd.prog 3 valR b n D := ⟨es, clock, hb, F, hs, hD⟩
  refine ⟨D, ⟨es, clock, hb, F, ?_, hD⟩, h2⟩
  have hsz : es.size = Maps.size D := by rw [hD]; simp [Maps.size, length_sorted]
  obtain ⟨l, hl, hp⟩ := h1'.tidy key_int
  obtain ⟨l2, hl2, hk⟩ : ∃ l2, D = .map l2 ∧ ∀ p ∈ l2, ∃ x, p.1 = ki x := by
    refine ⟨_, hD, fun p hp => ?_⟩
    obtain ⟨v, hv⟩ := Maps.fit_keys F p (mem_sorted.1 hp)
    obtain ⟨x, _, hx, _⟩ := key_inv hv
    exact ⟨x, hx⟩
  have hll : l2 = l := by rw [hl2] at hl; injection hl
  subst hll
  rw [hsz, hl]
  have h6 := nodup_le (l2.map fun p => numOf p.1) [0, 1, 2, 3, 4, 5] (List.pairwise_map.2 (hp.imp_of_mem fun {p q} hp' hq' hne e => by
      obtain ⟨x, hx⟩ := hk p hp'
      obtain ⟨y, hy⟩ := hk q hq'
      rw [hx, hy] at e hne
      exact hne (congrArg ki e))) fun y hy => by
    obtain ⟨p, hp, rfl⟩ := List.mem_map.1 hy
    obtain ⟨x, hx⟩ := hk p hp
    have hh : Maps.has D (ki x) = true := by
      rw [hl, Maps.has_eq, List.any_eq_true]
      exact ⟨p, hp, by rw [hx]; simp [ki, Lit.sameKey]⟩
    have hs := (h2 x).has
    rw [hh] at hs
    obtain ⟨a1, a2⟩ := hf x (fun e => by rw [e] at hs; cases hs)
    rw [hx]
    show x ∈ _
    obtain rfl | rfl | rfl | rfl | rfl | rfl : x = 0 ∨ x = 1 ∨ x = 2 ∨ x = 3 ∨ x = 4 ∨ x = 5 := by omega
    all_goals simp
  simpa [Maps.size] using h6

/-- Block b is a set of numbers below 6. -/
structure SetM (w : World) (b : Nat) (S : Int → Bool) : Prop where
  map : MapI w b 6 fun x => if S x then some (.bool true) else none
  fits : ∀ x, S x = true → 0 ≤ x ∧ x < 6

theorem SetM.save {T : Nat → Prop} {w w' : World} {b : Nat} {S : Int → Bool} (h : SetM w b S) (hs : Save T w w') (hb : ¬ T b) : SetM w' b S := ⟨h.map.save hs hb, h.fits⟩
theorem SetM.keep {w w' : World} {b : Nat} {S : Int → Bool} (h : SetM w b S) (hs : Below w.heap.size w w') : SetM w' b S := ⟨h.map.keep hs, h.fits⟩
theorem SetM.made (w : World) : SetM (w.alloc (.map #[] 0)) w.heap.size fun _ => false := ⟨(MapI.made w).mono (by omega), fun _ h => by cases h⟩
theorem SetM.look {w : World} {b : Nat} {S : Int → Bool} (h : SetM w b S) {x : Int} (hx : F64 x) :
    (Instr.lookup 74 (.map (some b)) (.int .i64 x) false).run Tryd.prog w = .ok (.bool (S x)) w := by
  rw [h.map.look hx Tryd.underlying74 (Tryd.zeroValue4 w)]
  cases S x <;> rfl
def addS (S : Int → Bool) (x : Int) : Int → Bool := fun y => decide (y = x) || S y
theorem SetM.store {w : World} {b : Nat} {S : Int → Bool} (h : SetM w b S) {x : Int} (hx : 0 ≤ x ∧ x < 6) :
    ∃ w', (Instr.mapUpdate 74 (.map (some b)) (.int .i64 x) (.bool true)).run Tryd.prog w = .ok () w' ∧ SetM w' b (addS S x) ∧ Save (· = b) w w' ∧ w'.heap.size = w.heap.size := by
  obtain ⟨w', h1, h2, h3, h4⟩ := h.map.store (by unfold maxLen; omega) (x := x) (by unfold F64; omega) Tryd.underlying74 (.bool true)
  have hf : ∀ y, addS S x y = true → 0 ≤ y ∧ y < 6 := fun y hy => by
    unfold addS at hy
    rcases Bool.or_eq_true _ _ ▸ hy with e | e
    · have := of_decide_eq_true e; omega
    · exact h.fits y e
  have h5 : MapI w' b (6 + 1) fun y => if addS S x y then some (.bool true) else none := h2.same fun y => by
    unfold putK addS
    by_cases e : y = x
    · simp [e]
    · simp [e]
  refine ⟨w', h1, ⟨h5.tight fun y hy => hf y ?_, hf⟩, h3, h4⟩
  cases e : addS S x y
  · rw [e] at hy; exact absurd rfl hy
  · rfl

end Go.Proofs.YtkghblgiojidgaaDoor
