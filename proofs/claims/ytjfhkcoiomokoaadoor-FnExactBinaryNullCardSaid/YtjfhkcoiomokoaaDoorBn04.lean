/- Maps keyed by numbers in memory: what each key holds; a set as such a map. -/
import Derived.Test.YtjfhkcoiomokoaaDoorBn02
import Derived.Test.YtjfhkcoiomokoaaDoorBn01
import Derived.Maps.RangeWalk
import Derived.Maps.OwnSet
import Derived.Deep.LoopGhost
import Derived.Sort.Grow
import Derived.Sort.OwnSorted
import Derived.OwnWalk
import Derived.Shelf.Small.Bits
import Derived.Shelf.Strconv.Itoa0
import Derived.Shelf.Sort.Plain
import Derived.Ground.Names2Prog
import Derived.Shelf.Slices.SearchI
import Derived.Test.YtjfhkcoiomokoaaDoorProg
import Derived.Test.YtjfhkcoiomokoaaDoorBn03

namespace Go.Proofs.YtjfhkcoiomokoaaDoor
open Go.RowKit

/-- How a value of a map is read here: as itself. -/
def valR (v : Value) : Option (DataW Value × List MemPlace) := some (.held v, [])
theorem valR_inj {v u : Value} {ps : List MemPlace} (h : valR v = some (.held u, ps)) : v = u := by
  unfold valR at h
  simp at h
  exact h.1
def ki (x : Int) : Lit := .int .i64 x
theorem ki_inj {x y : Int} (h : ki x = ki y) : x = y := by unfold ki at h; injection h
theorem ki_ne {x y : Int} (h : x ≠ y) : ki x ≠ ki y := fun e => h (ki_inj e)
theorem key_int : Maps.Keyed Tryd.prog 3 := Maps.int_keyed Tryd.underlying3
theorem wf_fit {x : Int} (h : F64 x) : (Lit.int .i64 x).wf = true := by
  unfold F64 at h
  exact WalkArith.wf_i64 (by omega)
theorem key_of {x : Int} (h : F64 x) : keyOf Tryd.prog 3 (.int .i64 x) = some (ki x) := Maps.keyOf_int_mk Tryd.underlying3 (wf_fit h)
theorem key_inv {v : Value} {l : Lit} (h : keyOf Tryd.prog 3 v = some l) : ∃ x, v = .int .i64 x ∧ l = ki x ∧ F64 x := by
  obtain ⟨x, h1, h2, h3⟩ := Maps.keyOf_int_inv Tryd.underlying3 h
  refine ⟨x, h1, h2, ?_⟩
  simp [Lit.wf, IntKind.min, IntKind.max, IntKind.signed, IntKind.bits] at h3
  unfold F64
  omega

/-- What a map as it is read holds at x. -/
def AtK (D : DataW Value) (x : Int) : Option Value → Prop
  | some v => ∀ z, D.atKey (ki x) z = .held v
  | none => Maps.has D (ki x) = false

theorem AtK.has {D : DataW Value} {x : Int} {o : Option Value} (h : AtK D x o) : Maps.has D (ki x) = o.isSome := by
  cases o with
  | none => exact h
  | some v => exact Maps.has_true_of_atKey h
theorem AtK.get {D : DataW Value} {x : Int} {o : Option Value} (h : AtK D x o) (z : Value) : D.atKey (ki x) (.held z) = .held (o.getD z) := by
  cases o with
  | none => exact Maps.atKey_of_not_has h _
  | some v => exact h _

/-- Block b is a map from numbers that holds f x at x, of n entries at most. -/
def MapI (w : World) (b n : Nat) (f : Int → Option Value) : Prop := ∃ D, w.ownsMap Tryd.prog 3 valR b n D ∧ ∀ x, AtK D x (f x)

def putK (f : Int → Option Value) (x : Int) (v : Value) : Int → Option Value := fun y => if y = x then some v else f y
def delK (f : Int → Option Value) (x : Int) : Int → Option Value := fun y => if y = x then none else f y

theorem atK_put {D : DataW Value} (hD : Maps.IsMap D) {f : Int → Option Value} (h : ∀ y, AtK D y (f y)) (x : Int) (v : Value) : ∀ y, AtK (D.put (ki x) (.held v)) y (putK f x v y) := by
  intro y
  by_cases e : y = x
  · subst e
    have : putK f y v y = some v := if_pos rfl
    rw [this]
    exact fun z => Maps.atKey_put_same hD (show WideAt.IsKeyLit (ki y) from trivial) _ _
  · have h1 : putK f x v y = f y := if_neg e
    rw [h1]
    have h2 := h y
    cases hf : f y with
    | none =>
      rw [hf] at h2
      exact (Maps.has_put_other (ki_ne e) _).trans h2
    | some u =>
      rw [hf] at h2
      exact fun z => (Maps.atKey_put_other (ki_ne e) _ _).trans (h2 z)

theorem atK_del {D : DataW Value} {f : Int → Option Value} (h : ∀ y, AtK D y (f y)) (x : Int) : ∀ y, AtK (D.del (ki x)) y (delK f x y) := by
  intro y
  by_cases e : y = x
  · subst e
    have : delK f y y = none := if_pos rfl
    rw [this]
    exact Maps.has_del_same
  · have h1 : delK f x y = f y := if_neg e
    rw [h1]
    have h2 := h y
    cases hf : f y with
    | none =>
      rw [hf] at h2
      exact (Maps.has_del_other (ki_ne e)).trans h2
    | some u =>
      rw [hf] at h2
      exact fun z => (Maps.atKey_del_other (ki_ne e) _).trans (h2 z)

theorem save_grown {w w' : World} {b : Nat} (h : w.grownBy w' (some b)) : Save (· = b) w w' := ⟨h.os, h.tape, h.output, h.size, fun i hi hs => h.block i hi fun e => hs (by injection e)⟩
theorem below_grown {w w' : World} (h : w.grownBy w' none) : Below w.heap.size w w' := ⟨h.os, h.tape, h.output, h.size, fun i hi => h.block i hi (by simp)⟩

theorem MapI.lt {w : World} {b n : Nat} {f : Int → Option Value} (h : MapI w b n f) : b < w.heap.size := by obtain ⟨D, h1, _⟩ := h; exact h1.lt
theorem MapI.save {S : Nat → Prop} {w w' : World} {b n : Nat} {f : Int → Option Value} (h : MapI w b n f) (hs : Save S w w') (hb : ¬ S b) : MapI w' b n f := by
  obtain ⟨D, ⟨es, ck, h1, h2⟩, h3⟩ := h
  exact ⟨D, ⟨es, ck, (hs.block b (Array.getElem?_eq_some_iff.1 h1).1 hb).trans h1, h2⟩, h3⟩
theorem MapI.keep {w w' : World} {b n : Nat} {f : Int → Option Value} (h : MapI w b n f) (hs : Below w.heap.size w w') : MapI w' b n f := h.save (S := fun _ => False) (Save.of_below hs) fun e => e
theorem MapI.mono {w : World} {b n n' : Nat} {f : Int → Option Value} (h : MapI w b n f) (hn : n ≤ n') : MapI w b n' f := by
  obtain ⟨D, h1, h2⟩ := h
  exact ⟨D, h1.mono hn, h2⟩
theorem MapI.made (w : World) : MapI (w.alloc (.map #[] 0)) w.heap.size 0 fun _ => none := ⟨_, World.ownsMap_made w _ _ _, fun _ => rfl⟩
theorem MapI.same {w : World} {b n : Nat} {f g : Int → Option Value} (h : MapI w b n f) (e : ∀ x, f x = g x) : MapI w b n g := by
  have : f = g := funext e
  exact this ▸ h

theorem MapI.look {w : World} {b n : Nat} {f : Int → Option Value} (h : MapI w b n f) {x : Int} (hx : F64 x) {t e : TypeId} (ht : Tryd.prog.underlying t = some (.map 3 e)) {z : Value} (hz : (zeroValue e).run Tryd.prog w = .ok z w) :
    (Instr.lookup t (.map (some b)) (.int .i64 x) false).run Tryd.prog w = .ok ((f x).getD z) w := by
  obtain ⟨D, h1, h2⟩ := h
  obtain ⟨v, ps, hr, hv⟩ := h1.lookup key_int ht hz (show valR z = some (.held z, []) from rfl) (key_of hx)
  rw [(h2 x).get z] at hv
  rw [hr, valR_inj hv]

theorem MapI.look_ok {w : World} {b n : Nat} {f : Int → Option Value} (h : MapI w b n f) {x : Int} (hx : F64 x) {t e : TypeId} (ht : Tryd.prog.underlying t = some (.map 3 e)) {z : Value} (hz : (zeroValue e).run Tryd.prog w = .ok z w) :
    (Instr.lookup t (.map (some b)) (.int .i64 x) true).run Tryd.prog w = .ok (.tuple #[(f x).getD z, .bool (f x).isSome]) w := by
  obtain ⟨D, h1, h2⟩ := h
  obtain ⟨v, ps, hr, hv⟩ := h1.look_ok key_int ht hz (show valR z = some (.held z, []) from rfl) (key_of hx)
  rw [(h2 x).get z] at hv
  rw [hr, valR_inj hv, (h2 x).has]

theorem MapI.store {w : World} {b n : Nat} {f : Int → Option Value} (h : MapI w b n f) (hn : n < maxLen) {x : Int} (hx : F64 x) {t e : TypeId} (ht : Tryd.prog.underlying t = some (.map 3 e)) (v : Value) :
    ∃ w', (Instr.mapUpdate t (.map (some b)) (.int .i64 x) v).run Tryd.prog w = .ok () w' ∧ MapI w' b (n + 1) (putK f x v) ∧ Save (· = b) w w' ∧ w'.heap.size = w.heap.size := by
  obtain ⟨D, h1, h2⟩ := h
  obtain ⟨w', hr, ho, hg⟩ := h1.store key_int ht hn (key_of hx) (show valR v = some (.held v, []) from rfl)
  refine ⟨w', hr, ⟨_, ho, atK_put h1.isMap h2 x v⟩, save_grown hg.grown, ?_⟩
  obtain ⟨_, _, _, _, _, rfl⟩ := hg
  simp [ChangeMaps.setBlock]

theorem MapI.drop {w : World} {b n : Nat} {f : Int → Option Value} (h : MapI w b n f) {x : Int} (hx : F64 x) {t e : TypeId} (ht : Tryd.prog.underlying t = some (.map 3 e)) (ty : TypeId) :
    ∃ w', (Builtin.delete_ #[t, 3] ty #[.map (some b), .int .i64 x]).run Tryd.prog w = .ok (.tuple #[]) w' ∧ MapI w' b n (delK f x) ∧ Save (· = b) w w' := by
  obtain ⟨D, h1, h2⟩ := h
  obtain ⟨w', hr, ho, hg⟩ := h1.drop key_int ht (key_of hx) ty
  exact ⟨w', hr, ⟨_, ho, atK_del h2 x⟩, save_grown hg.grown⟩

theorem nodup_le {α : Type} [DecidableEq α] : ∀ (l m : List α), l.Nodup → (∀ x ∈ l, x ∈ m) → l.length ≤ m.length
  | [], _, _, _ => Nat.zero_le _
  | x :: l, m, hn, hm => by
    obtain ⟨h1, h2⟩ := List.nodup_cons.1 hn
    have hx : x ∈ m := hm x List.mem_cons_self
    have ih := nodup_le l (m.erase x) h2 fun y hy => (List.mem_erase_of_ne (fun e : y = x => h1 (e ▸ hy))).2 (hm y (List.mem_cons_of_mem _ hy))
    have h3 := List.length_erase_of_mem hx
    have h4 := List.length_pos_of_mem hx
    simp only [List.length_cons]
    omega

def numOf : Lit → Int
  | .int _ x => x
  | _ => 0

/-- A map whose keys are all below 40 has 40 entries at most. -/
theorem MapI.tight {w : World} {b n : Nat} {f : Int → Option Value} (h : MapI w b n f) (hf : ∀ x, f x ≠ none → 0 ≤ x ∧ x < 40) : MapI w b 40 f := by
  obtain ⟨D, h1, h2⟩ := h
  obtain ⟨es, clock, hb, F, hs, hD⟩ := h1
  have h1' : w.ownsMap Tryd.prog 3 valR b n D := ⟨es, clock, hb, F, hs, hD⟩
  refine ⟨D, ⟨es, clock, hb, F, ?_, hD⟩, h2⟩
  have hsz : es.size = Maps.size D := by rw [hD]; simp [Maps.size, length_sorted]
  obtain ⟨l, hl, hp⟩ := h1'.tidy key_int
  obtain ⟨l2, hl2, hk⟩ : ∃ l2, D = .map l2 ∧ ∀ p ∈ l2, ∃ x, p.1 = ki x := by
    refine ⟨_, hD, fun p hp => ?_⟩
    obtain ⟨v, hv⟩ := Maps.fit_keys F p (mem_sorted.1 hp)
    obtain ⟨x, _, hx, _⟩ := key_inv hv
    exact ⟨x, hx⟩
  have hll : l2 = l := by rw [hl2] at hl; injection hl
  subst hll
  rw [hsz, hl]
  have h6 := nodup_le (l2.map fun p => numOf p.1) ((List.range 40).map fun (k : Nat) => (k : Int)) (List.pairwise_map.2 (hp.imp_of_mem fun {p q} hp' hq' hne e => by
      obtain ⟨x, hx⟩ := hk p hp'
      obtain ⟨y, hy⟩ := hk q hq'
      rw [hx, hy] at e hne
      exact hne (congrArg ki e))) fun y hy => by
    obtain ⟨p, hp, rfl⟩ := List.mem_map.1 hy
    obtain ⟨x, hx⟩ := hk p hp
    have hh : Maps.has D (ki x) = true := by
      rw [hl, Maps.has_eq, List.any_eq_true]
      exact ⟨p, hp, by rw [hx]; simp [ki, Lit.sameKey]⟩
    have hs := (h2 x).has
    rw [hh] at hs
    obtain ⟨a1, a2⟩ := hf x (fun e => by rw [e] at hs; cases hs)
    rw [hx]
    show x ∈ _
    exact List.mem_map.2 ⟨x.toNat, List.mem_range.2 (by omega), by omega⟩
  simpa [Maps.size] using h6

/-- Block b is a set of numbers below 40. -/
structure SetM (w : World) (b : Nat) (S : Int → Bool) : Prop where
  map : MapI w b 40 fun x => if S x then some (.bool true) else none
  fits : ∀ x, S x = true → 0 ≤ x ∧ x < 40

theorem SetM.save {T : Nat → Prop} {w w' : World} {b : Nat} {S : Int → Bool} (h : SetM w b S) (hs : Save T w w') (hb : ¬ T b) : SetM w' b S := ⟨h.map.save hs hb, h.fits⟩
theorem SetM.keep {w w' : World} {b : Nat} {S : Int → Bool} (h : SetM w b S) (hs : Below w.heap.size w w') : SetM w' b S := ⟨h.map.keep hs, h.fits⟩
theorem SetM.made (w : World) : SetM (w.alloc (.map #[] 0)) w.heap.size fun _ => false := ⟨(MapI.made w).mono (by omega), fun _ h => by cases h⟩
theorem SetM.look {w : World} {b : Nat} {S : Int → Bool} (h : SetM w b S) {x : Int} (hx : F64 x) :
    (Instr.lookup 100 (.map (some b)) (.int .i64 x) false).run Tryd.prog w = .ok (.bool (S x)) w := by
  rw [h.map.look hx Tryd.underlying100 (Tryd.zeroValue4 w)]
  cases S x <;> rfl
def addS (S : Int → Bool) (x : Int) : Int → Bool := fun y => decide (y = x) || S y
theorem SetM.store {w : World} {b : Nat} {S : Int → Bool} (h : SetM w b S) {x : Int} (hx : 0 ≤ x ∧ x < 40) :
    ∃ w', (Instr.mapUpdate 100 (.map (some b)) (.int .i64 x) (.bool true)).run Tryd.prog w = .ok () w' ∧ SetM w' b (addS S x) ∧ Save (· = b) w w' ∧ w'.heap.size = w.heap.size := by
  obtain ⟨w', h1, h2, h3, h4⟩ := h.map.store (by unfold maxLen; omega) (x := x) (by unfold F64; omega) Tryd.underlying100 (.bool true)
  have hf : ∀ y, addS S x y = true → 0 ≤ y ∧ y < 40 := fun y hy => by
    unfold addS at hy
    rcases Bool.or_eq_true _ _ ▸ hy with e | e
    · have := of_decide_eq_true e; omega
    · exact h.fits y e
  have h5 : MapI w' b (40 + 1) fun y => if addS S x y then some (.bool true) else none := h2.same fun y => by
    unfold putK addS
    by_cases e : y = x
    · simp [e]
    · simp [e]
  refine ⟨w', h1, ⟨h5.tight fun y hy => hf y ?_, hf⟩, h3, h4⟩
  cases e : addS S x y
  · rw [e] at hy; exact absurd rfl hy
  · rfl

end Go.Proofs.YtjfhkcoiomokoaaDoor

/- The program's questions to a set: allNullable, allProductive, someGrow. -/

namespace Go.Proofs.YtjfhkcoiomokoaaDoor
open Go.RowKit

theorem all_no {p : Int → Bool} {xs : List Int} {k : Nat} (hk : k < xs.length) (h : p xs[k] = false) : xs.all p = false := by
  cases e : xs.all p
  · rfl
  · rw [List.all_eq_true] at e
    rw [e _ (List.getElem_mem hk)] at h; cases h
theorem all_yes {p : Int → Bool} {xs : List Int} {k : Nat} (hk : ¬ k < xs.length) (h : ∀ (j : Nat) (x : Int), j < k → xs[j]? = some x → p x = true) : xs.all p = true := by
  rw [List.all_eq_true]
  intro x hx
  obtain ⟨j, hj⟩ := List.mem_iff_getElem?.1 hx
  exact h j x (by have := (List.getElem?_eq_some_iff.1 hj).1; omega) hj
theorem upto_step {Q : Int → Prop} {xs : List Int} {k : Nat} (hk : k < xs.length) (h : Q xs[k]) (H : ∀ (j : Nat) (x : Int), j < k → xs[j]? = some x → Q x) :
    ∀ (j : Nat) (x : Int), j < k + 1 → xs[j]? = some x → Q x := by
  intro j x hj hx
  by_cases e : j = k
  · subst e; rw [List.getElem?_eq_getElem hk] at hx; injection hx with hx; subst hx; exact h
  · exact H j x (by omega) hx
theorem any_yes {p : Int → Bool} {xs : List Int} {k : Nat} (hk : k < xs.length) (h : p xs[k] = true) : xs.any p = true := List.any_eq_true.2 ⟨_, List.getElem_mem hk, h⟩
theorem any_no {p : Int → Bool} {xs : List Int} {k : Nat} (hk : ¬ k < xs.length) (h : ∀ (j : Nat) (x : Int), j < k → xs[j]? = some x → p x = false) : xs.any p = false := by
  rw [List.any_eq_false]
  intro x hx
  obtain ⟨j, hj⟩ := List.mem_iff_getElem?.1 hx
  rw [h j x (by have := (List.getElem?_eq_some_iff.1 hj).1; omega) hj]
  simp

/-- A symbol is a token or in the set. -/
def tokS (S : Int → Bool) (x : Int) : Bool := decide (x < 0) || S x
theorem tokS_lt {S : Int → Bool} {x : Int} (h : x < 0) : tokS S x = true := by unfold tokS; rw [decide_eq_true h]; rfl
theorem tokS_ge {S : Int → Bool} {x : Int} (h : ¬ x < 0) : tokS S x = S x := by unfold tokS; rw [decide_eq_false h]; rfl

def FitI (xs : List Int) : Prop := ∀ x ∈ xs, F64 x

set_option maxRecDepth 20000 in
set_option maxHeartbeats 400000 in
theorem allNull_any (b : Nat) (S : Int → Bool) (A : Option Addr) (xs : List Int) (c : Nat) (w : World) (hS : SetM w b S) (hx : Ints w w.heap.size A xs) (hf : FitI xs) (h1 : xs.length ≤ 4) :
    Calls Tryd.prog 113 #[.map (some b), .slice A xs.length c] w fun e w' => e = .returned (.bool (xs.all S)) ∧ w' = w := by
  have HX := Lib.hid hx; clear hx
  have HS := Lib.hid hS; clear hS
  have HF := Lib.hid hf; clear hf
  go_enter Tryd.func113, Tryd.ntmps113
  go_wp2
  go_loopw [9] (fun i wr => ∃ (k : Nat), k ≤ xs.length ∧ i = .int .i64 k ∧ wr = w ∧ Hid (∀ (j : Nat) (x : Int), j < k → xs[j]? = some x → S x = true)) (fun i _ => xs.length - (intOf i).toNat)
  case atStart => exact ⟨0, by omega, rfl, rfl, fun j x h => absurd h (by omega)⟩
  case round =>
    obtain ⟨k, hk, rfl, rfl, H⟩ := hrel
    by_cases hlt : k < xs.length
    · obtain ⟨p, o, rfl, hb, c1⟩ := HX.out.at_ hlt
      have hl := HS.out.look (HF.out _ (List.getElem_mem hlt))
      cases hs : S xs[k]
      · rw [hs] at hl
        have HE := Lib.hid (all_no hlt hs); clear hs
        go_wp2
        go_ret
        exact ⟨ret_bool HE.out.symm, rfl⟩
      · rw [hs] at hl
        have HE := Lib.hid (upto_step (Q := fun x => S x = true) hlt hs H.out); clear hs
        go_wp2
        go_roundw
        case rel => exact ⟨k + 1, by omega, by go_num, by simp, HE.out⟩
        case measure => simp [intOf]; omega
    · have HE := Lib.hid (all_yes hlt H.out)
      go_wp2
      go_ret
      exact ⟨ret_bool HE.out.symm, rfl⟩

end Go.Proofs.YtjfhkcoiomokoaaDoor

/- A range over a map keyed by numbers: which keys are still to come. -/

namespace Go.Proofs.YtjfhkcoiomokoaaDoor
open Go.RowKit

/-- Block q is a map that holds f x at x; block r is a range over it; left x: x is still to come; cnt: how many are. -/
def Rng (w : World) (q r n : Nat) (f : Int → Option Value) (left : Int → Bool) (cnt : Nat) : Prop :=
  ∃ D lf, w.ranges Tryd.prog 3 valR q r n D lf cnt ∧ (∀ x, AtK D x (f x)) ∧ ∀ x, lf (ki x) = left x

theorem Rng.map {w : World} {q r n cnt : Nat} {f : Int → Option Value} {left : Int → Bool} (h : Rng w q r n f left cnt) : MapI w q n f := by
  obtain ⟨D, lf, h1, h2, _⟩ := h
  exact ⟨D, h1.owns, h2⟩
theorem Rng.lt {w : World} {q r n cnt : Nat} {f : Int → Option Value} {left : Int → Bool} (h : Rng w q r n f left cnt) : r < w.heap.size := by obtain ⟨D, lf, h1, _⟩ := h; exact h1.lt
theorem Rng.ne {w : World} {q r n cnt : Nat} {f : Int → Option Value} {left : Int → Bool} (h : Rng w q r n f left cnt) : r ≠ q := by obtain ⟨D, lf, h1, _⟩ := h; exact h1.ne
theorem Rng.save {S : Nat → Prop} {w w' : World} {q r n cnt : Nat} {f : Int → Option Value} {left : Int → Bool} (h : Rng w q r n f left cnt) (hs : Save S w w') (hq : ¬ S q) (hr : ¬ S r) : Rng w' q r n f left cnt := by
  have h1 := h.map.lt
  have h2 := h.lt
  obtain ⟨D, lf, ⟨es, ck, since, seen, c0, hb, F, hsz, hD, hr', rest⟩, h3, h4⟩ := h
  exact ⟨D, lf, ⟨es, ck, since, seen, c0, (hs.block q h1 hq).trans hb, F, hsz, hD, (hs.block r h2 hr).trans hr', rest⟩, h3, h4⟩
theorem Rng.keep {w w' : World} {q r n cnt : Nat} {f : Int → Option Value} {left : Int → Bool} (h : Rng w q r n f left cnt) (hs : Below w.heap.size w w') : Rng w' q r n f left cnt := h.save (S := fun _ => False) (Save.of_below hs) (fun e => e) fun e => e

/-- One key is struck. -/
def strike (left : Int → Bool) (x : Int) : Int → Bool := fun y => left y && decide (y ≠ x)
theorem strike_same (left : Int → Bool) (x : Int) : strike left x x = false := by simp [strike]
theorem strike_other {left : Int → Bool} {x y : Int} (h : y ≠ x) : strike left x y = left y := by simp [strike, h]
theorem strike_le {left : Int → Bool} {x y : Int} (h : strike left x y = true) : left y = true := by
  unfold strike at h
  simp at h
  exact h.1
theorem ki_same (x y : Int) : (ki y).sameKey (ki x) = decide (y = x) := by
  simp [ki, Lit.sameKey]

theorem MapI.range {w : World} {q n : Nat} {f : Int → Option Value} (h : MapI w q n f) {t e : TypeId} (ht : Tryd.prog.underlying t = some (.map 3 e)) :
    ∃ w' cnt, (Instr.range t (.map (some q))).run Tryd.prog w = .ok (.pointer (some ⟨w.heap.size, 0, none⟩)) w' ∧ Rng w' q w.heap.size n f (fun x => (f x).isSome) cnt ∧ cnt ≤ n ∧ Below w.heap.size w w' ∧ w'.heap.size = w.heap.size + 1 := by
  obtain ⟨D, h1, h2⟩ := h
  obtain ⟨w', hr, hrg, hg, hs⟩ := h1.range key_int ht
  exact ⟨w', _, hr, ⟨D, _, hrg, h2, fun x => (h2 x).has⟩, h1.size_le, below_grown hg, hs⟩

theorem Rng.next {w : World} {q r n cnt : Nat} {f : Int → Option Value} {left : Int → Bool} (h : Rng w q r n f left cnt) (ty : TypeId) :
    (cnt = 0 ∧ (∀ x, left x = false) ∧ (Instr.next (.pointer (some ⟨r, 0, none⟩)) false ty).run Tryd.prog w = .ok (.tuple #[.bool false]) w) ∨
    ∃ x v w' cnt', F64 x ∧ left x = true ∧ f x = some v ∧ (Instr.next (.pointer (some ⟨r, 0, none⟩)) false ty).run Tryd.prog w = .ok (.tuple #[.bool true, .int .i64 x, v]) w' ∧
      Rng w' q r n f (strike left x) cnt' ∧ cnt' < cnt ∧ Save (· = r) w w' ∧ w'.heap.size = w.heap.size ∧ (Instr.entry (.pointer (some ⟨r, 0, none⟩))).run Tryd.prog w' = .ok (.tuple #[.int .i64 x, v]) w' := by
  obtain ⟨D, lf, h1, h2, h3⟩ := h
  rcases h1.next key_int ty with ⟨h0, hl, hr⟩ | ⟨key, v, kl, y, w', cnt', hkey, hlk, hv, hat, hr, hrg, hlt, hg, hs, hen⟩
  · exact .inl ⟨h0, fun x => by rw [← h3]; exact hl _, hr⟩
  · obtain ⟨x, rfl, rfl, hx⟩ := key_inv hkey
    refine .inr ⟨x, v, w', cnt', hx, by rw [← h3]; exact hlk, ?_, hr, ⟨D, _, hrg, h2, fun z => ?_⟩, hlt, save_grown hg, hs, hen⟩
    · have ha := h2 x
      have hh := Maps.has_true_of_atKey hat
      cases hf : f x with
      | none =>
        rw [hf] at ha
        rw [show Maps.has D (ki x) = false from ha] at hh
        cases hh
      | some u =>
        rw [hf] at ha
        have e1 := hat .nil
        rw [show D.atKey (ki x) .nil = .held u from ha _] at e1
        have e2 : valR v = some (.held u, y.2) := by rw [hv, e1]
        rw [valR_inj e2]
    · show (lf (ki z) && !(ki z).sameKey (ki x)) = _
      rw [h3, ki_same]
      simp [strike]

theorem Rng.drop {w : World} {q r n cnt : Nat} {f : Int → Option Value} {left : Int → Bool} (h : Rng w q r n f left cnt) {x : Int} (hx : F64 x) {t e : TypeId} (ht : Tryd.prog.underlying t = some (.map 3 e)) (ty : TypeId) :
    ∃ w' cnt', (Builtin.delete_ #[t, 3] ty #[.map (some q), .int .i64 x]).run Tryd.prog w = .ok (.tuple #[]) w' ∧ Rng w' q r n (delK f x) (strike left x) cnt' ∧ cnt' ≤ cnt ∧ Save (· = q) w w' ∧ w'.heap.size = w.heap.size := by
  obtain ⟨D, lf, h1, h2, h3⟩ := h
  obtain ⟨w', cnt', hr, hrg, hle, hg⟩ := h1.drop key_int ht (key_of hx) ty
  refine ⟨w', cnt', hr, ⟨_, _, hrg, atK_del h2 x, fun z => ?_⟩, hle, save_grown hg.grown, ?_⟩
  · show (lf (ki z) && !(ki z).sameKey (ki x)) = _
    rw [h3, ki_same]
    simp [strike]
  · obtain ⟨_, _, _, _, _, rfl⟩ := hg
    simp [ChangeMaps.setBlock]

theorem strike_twice (left : Int → Bool) (x : Int) : strike (strike left x) x = strike left x := by
  funext y
  unfold strike
  cases left y <;> simp

end Go.Proofs.YtjfhkcoiomokoaaDoor

/- What a good grammar says of each of its rules. -/

namespace Go.Proofs.YtjfhkcoiomokoaaDoor

theorem goodG_mem {n t : Int} {ss : List (Int × List Int)} (h : goodG n t ss = true) {u : Int × List Int} (hu : u ∈ ss) : (0 ≤ u.1 ∧ u.1 < n) ∧ u.2.length ≤ 4 ∧ ∀ x ∈ u.2, (0 ≤ x ∧ x < n) ∨ (x < 0 ∧ -t ≤ x) := by
  obtain ⟨_, _, _, hg⟩ := goodG_is h
  obtain ⟨k, hk⟩ := List.mem_iff_getElem?.1 hu
  have h1 := (hg k u (List.getElem?_eq_some_iff.1 hk).1 hk).1
  unfold goodU at h1
  simp only [Bool.and_eq_true, decide_eq_true_eq] at h1
  refine ⟨nonB_is h1.1, h1.2.1, fun x hx => ?_⟩
  have h2 := h1.2.2
  unfold symsB at h2
  rw [List.all_eq_true] at h2
  have h3 := h2 x hx
  unfold symB at h3
  have := of_decide_eq_true h3
  omega

end Go.Proofs.YtjfhkcoiomokoaaDoor

/- Plain mathematics of chapter 3: the least set that is closed under rules. -/

namespace Go.Proofs.YtjfhkcoiomokoaaDoor

/-- A way to close a set: when a rule fires in a set, and what it then adds. -/
structure Way where
  fires : (Int → Bool) → Int × List Int → Bool
  adds : Int × List Int → List Int
  mono : ∀ (S T : Int → Bool) (r : Int × List Int), (∀ x, S x = true → T x = true) → fires S r = true → fires T r = true

/-- x is in every set that holds what S0 holds and is closed under the rules. -/
def Least (W : Way) (S0 : Int → Bool) (ss : List (Int × List Int)) (x : Int) : Prop :=
  ∀ S : Int → Bool, (∀ y, S0 y = true → S y = true) → (∀ r ∈ ss, W.fires S r = true → ∀ y ∈ W.adds r, S y = true) → S x = true

theorem Least.start {W : Way} {S0 : Int → Bool} {ss : List (Int × List Int)} {x : Int} (h : S0 x = true) : Least W S0 ss x := fun _ h0 _ => h0 x h
theorem Least.step {W : Way} {S0 S : Int → Bool} {ss : List (Int × List Int)} (hS : ∀ x, S x = true → Least W S0 ss x) {r : Int × List Int} (hr : r ∈ ss) (hf : W.fires S r = true) {y : Int} (hy : y ∈ W.adds r) : Least W S0 ss y := by
  intro T h0 hc
  exact hc r hr (W.mono S T r (fun x hx => hS x hx T h0 hc) hf) y hy

/-- S is the least set. -/
def IsLeast (W : Way) (S0 : Int → Bool) (ss : List (Int × List Int)) (S : Int → Bool) : Prop := ∀ x, S x = true ↔ Least W S0 ss x
theorem isLeast_of {W : Way} {S0 S : Int → Bool} {ss : List (Int × List Int)} (hs : ∀ x, S x = true → Least W S0 ss x) (h0 : ∀ x, S0 x = true → S x = true) (hc : ∀ r ∈ ss, W.fires S r = true → ∀ y ∈ W.adds r, S y = true) : IsLeast W S0 ss S :=
  fun x => ⟨hs x, fun h => h S h0 hc⟩
theorem IsLeast.unique {W : Way} {S0 S T : Int → Bool} {ss : List (Int × List Int)} (h : IsLeast W S0 ss S) (k : IsLeast W S0 ss T) : S = T := by
  funext x
  rw [Bool.eq_iff_iff]
  exact (h x).trans (k x).symm

/-- What a rule that is used makes of a set. -/
def useW (W : Way) (S : Int → Bool) (r : Int × List Int) : Int → Bool := fun x => S x || (W.fires S r && (W.adds r).contains x)
theorem useW_no {W : Way} {S : Int → Bool} {r : Int × List Int} (h : W.fires S r = false) : useW W S r = S := by
  funext x
  simp [useW, h]
theorem useW_le {W : Way} {S : Int → Bool} {r : Int × List Int} {x : Int} (h : S x = true) : useW W S r x = true := by simp [useW, h]
theorem useW_add {W : Way} {S : Int → Bool} {r : Int × List Int} {x : Int} (h : W.fires S r = true) (hx : x ∈ W.adds r) : useW W S r x = true := by simp [useW, h, hx]
theorem useW_inv {W : Way} {S : Int → Bool} {r : Int × List Int} {x : Int} (h : useW W S r x = true) : S x = true ∨ (W.fires S r = true ∧ x ∈ W.adds r) := by
  unfold useW at h
  simp at h
  exact h

theorem tokS_mono {S T : Int → Bool} (h : ∀ x, S x = true → T x = true) {x : Int} (hx : tokS S x = true) : tokS T x = true := by
  unfold tokS at hx ⊢
  simp at hx ⊢
  exact hx.imp id (h x)

def wayNull : Way := {
  fires := fun S r => r.2.all S
  adds := fun r => [r.1]
  mono := fun S T r h hf => by
    rw [List.all_eq_true] at hf ⊢
    exact fun x hx => h x (hf x hx) }
def wayProd : Way := {
  fires := fun S r => r.2.all (tokS S)
  adds := fun r => [r.1]
  mono := fun S T r h hf => by
    rw [List.all_eq_true] at hf ⊢
    exact fun x hx => tokS_mono h (hf x hx) }
def wayGrow (P : Int → Bool) : Way := {
  fires := fun S r => r.2.all (tokS P) && r.2.any (tokS S)
  adds := fun r => [r.1]
  mono := fun S T r h hf => by
    rw [Bool.and_eq_true] at hf ⊢
    refine ⟨hf.1, ?_⟩
    have h2 := hf.2
    rw [List.any_eq_true] at h2 ⊢
    obtain ⟨x, hx, hp⟩ := h2
    exact ⟨x, hx, tokS_mono h hp⟩ }
def wayReach : Way := {
  fires := fun S r => S r.1
  adds := fun r => r.2.filter fun x => decide (0 ≤ x)
  mono := fun _ _ _ h hf => h _ hf }

/-- No member. -/
def noS : Int → Bool := fun _ => false
/-- One member. -/
def oneS (s : Int) : Int → Bool := fun x => decide (x = s)

/-- What a way adds are numbers below 40. -/
def AddsFit (W : Way) (ss : List (Int × List Int)) : Prop := ∀ r ∈ ss, ∀ y ∈ W.adds r, 0 ≤ y ∧ y < 40
theorem fit_lefts {W : Way} {n t : Int} {ss : List (Int × List Int)} (hg : goodG n t ss = true) (hW : ∀ r, W.adds r = [r.1]) : AddsFit W ss := fun r hr y hy => by
  rw [hW] at hy
  simp at hy
  subst hy
  have h1 := goodG_is hg
  have h2 := (goodG_mem hg hr).1
  omega
theorem fit_reach {n t : Int} {ss : List (Int × List Int)} (hg : goodG n t ss = true) : AddsFit wayReach ss := fun r hr y hy => by
  have hy' : y ∈ r.2 ∧ 0 ≤ y := by simpa [wayReach] using hy
  have h1 := goodG_is hg
  have h2 := (goodG_mem hg hr).2.2 y hy'.1
  omega

/-- How many of the first m are marked. -/
def cntB (rem : Int → Bool) (m : Nat) : Nat := ((List.range m).filter fun (k : Nat) => rem (k : Int)).length
theorem cntB_le (rem : Int → Bool) (m : Nat) : cntB rem m ≤ m := by
  unfold cntB
  have := List.length_filter_le (fun (k : Nat) => rem (k : Int)) (List.range m)
  simpa using this
theorem filter_two {p q : Nat → Bool} : ∀ (l : List Nat), (∀ j ∈ l, q j = true → p j = true) → (l.filter q).length ≤ (l.filter p).length
  | [], _ => Nat.le_refl _
  | a :: l, h => by
    have ih := filter_two l fun j hj => h j (List.mem_cons_of_mem _ hj)
    have ha := h a List.mem_cons_self
    cases hq : q a
    · rw [List.filter_cons_of_neg (by simp [hq])]
      cases hp : p a
      · rw [List.filter_cons_of_neg (by simp [hp])]; exact ih
      · rw [List.filter_cons_of_pos hp]; simp only [List.length_cons]; omega
    · rw [List.filter_cons_of_pos hq, List.filter_cons_of_pos (ha hq)]
      simp only [List.length_cons]
      omega
theorem filter_less {p q : Nat → Bool} : ∀ (l : List Nat) (i : Nat), i ∈ l → p i = true → q i = false → (∀ j ∈ l, q j = true → p j = true) → (l.filter q).length < (l.filter p).length
  | [], _, h, _, _, _ => by cases h
  | a :: l, i, h, hp, hq, hle => by
    have hl := filter_two l fun j hj => hle j (List.mem_cons_of_mem _ hj)
    by_cases e : a = i
    · subst e
      rw [List.filter_cons_of_pos hp, List.filter_cons_of_neg (by simp [hq])]
      simp only [List.length_cons]
      omega
    · have hm : i ∈ l := by
        rcases List.mem_cons.1 h with h | h
        · exact absurd h.symm e
        · exact h
      have ih := filter_less l i hm hp hq fun j hj => hle j (List.mem_cons_of_mem _ hj)
      have ha := hle a List.mem_cons_self
      cases hqa : q a
      · rw [List.filter_cons_of_neg (by simp [hqa])]
        cases hpa : p a
        · rw [List.filter_cons_of_neg (by simp [hpa])]; exact ih
        · rw [List.filter_cons_of_pos hpa]; simp only [List.length_cons]; omega
      · rw [List.filter_cons_of_pos hqa, List.filter_cons_of_pos (ha hqa)]
        simp only [List.length_cons]
        omega
theorem cntB_strike {rem : Int → Bool} {m k : Nat} (hk : k < m) (h : rem (k : Int) = true) : cntB (strike rem (k : Int)) m < cntB rem m :=
  filter_less (List.range m) k (List.mem_range.2 hk) h (strike_same _ _) fun _ _ hj => strike_le hj

end Go.Proofs.YtjfhkcoiomokoaaDoor

/- The laws of maps keyed by numbers, at the operations of a walk. -/

namespace Go.Proofs.YtjfhkcoiomokoaaDoor
open Go.RowKit

section
variable (w : World) {ops : Array Oper} {rest : List Oper} {o : Oper} {a : Act} {Q : Exit → Act → World → Prop}

theorem wpList_next_rng (hg : o.guard = none) (it : Operand) (hop : o.op = Op.next it false) (q r n : Nat) (f : Int → Option Value) (left : Int → Bool) (cnt : Nat)
    (hit : a.eval it = .pointer (some ⟨r, 0, none⟩)) (h : Rng w q r n f left cnt)
    (hDone : cnt = 0 → (∀ x, left x = false) → wpList Tryd.prog ops Q rest (a.put o.dst (.tuple #[.bool false])) w)
    (hMore : ∀ (x : Int) (v : Value) (w' : World) (cnt' : Nat), F64 x → left x = true → f x = some v → Rng w' q r n f (strike left x) cnt' → cnt' < cnt → Save (· = r) w w' → w'.heap.size = w.heap.size →
      (Instr.entry (.pointer (some ⟨r, 0, none⟩))).run Tryd.prog w' = .ok (.tuple #[.int .i64 x, v]) w' → wpList Tryd.prog ops Q rest (a.put o.dst (.tuple #[.bool true, .int .i64 x, v])) w') :
    wpList Tryd.prog ops Q (o :: rest) a w := by
  refine wpList_plain hg fun K' hK' => ?_
  unfold Oper.wp
  rcases h.next o.type with ⟨h0, hl, hrun⟩ | ⟨x, v, w', cnt', hx, hlk, hv, hrun, hrg, hlt, hs, hsz, hen⟩
  · simp [execOp, hop, hit, hrun, Result.andThen]
    exact hK' _ _ (hDone h0 hl)
  · simp [execOp, hop, hit, hrun, Result.andThen]
    exact hK' _ _ (hMore x v w' cnt' hx hlk hv hrg hlt hs hsz hen)

theorem wpList_range_map (hg : o.guard = none) (m : Operand) (t : TypeId) (hop : o.op = Op.range t m) (e : TypeId) (ht : Tryd.prog.underlying t = some (.map 3 e)) (q n : Nat) (f : Int → Option Value)
    (hm : a.eval m = .map (some q)) (h : MapI w q n f)
    (hK : ∀ w' cnt, Rng w' q w.heap.size n f (fun x => (f x).isSome) cnt → cnt ≤ n → Below w.heap.size w w' → w'.heap.size = w.heap.size + 1 → wpList Tryd.prog ops Q rest (a.put o.dst (.pointer (some ⟨w.heap.size, 0, none⟩))) w') :
    wpList Tryd.prog ops Q (o :: rest) a w := by
  refine wpList_plain hg fun K' hK' => ?_
  obtain ⟨w', cnt, hrun, r1, r2, r3, r4⟩ := h.range ht
  unfold Oper.wp
  simp [execOp, hop, hm, hrun, Result.andThen]
  exact hK' _ _ (hK w' cnt r1 r2 r3 r4)

theorem wpList_delete_rng (hg : o.guard = none) (m x : Operand) (t : TypeId) (hop : o.op = Op.call { callee := Callee.builtin Builtin.delete, args := #[m, x], argTypes := #[t, 3] })
    (e : TypeId) (ht : Tryd.prog.underlying t = some (.map 3 e)) (q r n : Nat) (f : Int → Option Value) (left : Int → Bool) (cnt : Nat) (y : Int)
    (hm : a.eval m = .map (some q)) (hx : a.eval x = .int .i64 y) (hy : F64 y) (h : Rng w q r n f left cnt)
    (hK : ∀ w' cnt', Rng w' q r n (delK f y) (strike left y) cnt' → cnt' ≤ cnt → Save (· = q) w w' → w'.heap.size = w.heap.size → wpList Tryd.prog ops Q rest (a.put o.dst (.tuple #[])) w') :
    wpList Tryd.prog ops Q (o :: rest) a w := by
  refine wpList_plain hg fun K' hK' => ?_
  obtain ⟨w', cnt', hrun, r1, r2, r3, r4⟩ := h.drop hy ht o.type
  unfold Oper.wp
  simp [execOp, hop, resolve, invoke, builtin, hm, hx, hrun, Result.andThen]
  exact hK' _ _ (hK w' cnt' r1 r2 r3 r4)

theorem wpList_store_map (hg : o.guard = none) (m x v : Operand) (t : TypeId) (hop : o.op = Op.mapUpdate t m x v) (e : TypeId) (ht : Tryd.prog.underlying t = some (.map 3 e)) (q n : Nat) (f : Int → Option Value) (y : Int) (u : Value)
    (hm : a.eval m = .map (some q)) (hx : a.eval x = .int .i64 y) (hv : a.eval v = u) (hy : F64 y) (hn : n < maxLen) (h : MapI w q n f)
    (hK : ∀ w', MapI w' q (n + 1) (putK f y u) → Save (· = q) w w' → w'.heap.size = w.heap.size → wpList Tryd.prog ops Q rest (a.put o.dst undef) w') :
    wpList Tryd.prog ops Q (o :: rest) a w := by
  refine wpList_plain hg fun K' hK' => ?_
  obtain ⟨w', hrun, r1, r2, r3⟩ := h.store hn hy ht u
  unfold Oper.wp
  simp [execOp, hop, hm, hx, hv, hrun, Result.andThen]
  exact hK' _ _ (hK w' r1 r2 r3)

theorem wpList_store_set (hg : o.guard = none) (m x v : Operand) (hop : o.op = Op.mapUpdate 100 m x v) (q : Nat) (S : Int → Bool) (y : Int)
    (hm : a.eval m = .map (some q)) (hx : a.eval x = .int .i64 y) (hv : a.eval v = .bool true) (hy : 0 ≤ y ∧ y < 40) (h : SetM w q S)
    (hK : ∀ w', SetM w' q (addS S y) → Save (· = q) w w' → w'.heap.size = w.heap.size → wpList Tryd.prog ops Q rest (a.put o.dst undef) w') :
    wpList Tryd.prog ops Q (o :: rest) a w := by
  refine wpList_plain hg fun K' hK' => ?_
  obtain ⟨w', hrun, r1, r2, r3⟩ := h.store hy
  unfold Oper.wp
  simp [execOp, hop, hm, hx, hv, hrun, Result.andThen]
  exact hK' _ _ (hK w' r1 r2 r3)

end

end Go.Proofs.YtjfhkcoiomokoaaDoor

/- The program's closeSet: what it makes of a set. -/

namespace Go.Proofs.YtjfhkcoiomokoaaDoor
open Go.RowKit

/-- Only block b and new blocks have turned. -/
def Tb (b B : Nat) (i : Nat) : Prop := i = b ∨ B ≤ i

theorem Ints.saveMap {w w' : World} {b n : Nat} {f : Int → Option Value} {A : Option Addr} {xs : List Int} (h : Ints w w.heap.size A xs) (hm : MapI w b n f) (hs : Save (Tb b w.heap.size) w w') : Ints w' w'.heap.size A xs := by
  intro hn
  obtain ⟨p, o, e, hp, hc⟩ := h hn
  have hb : p ≠ b := fun e2 => by
    obtain ⟨D, ⟨es, ck, hm1, _⟩, _⟩ := hm
    subst e2
    have h0 := hc 0 xs[0] (List.getElem?_eq_getElem hn)
    simp [World.cell?, hm1] at h0
  have hk : w'.heap[p]? = w.heap[p]? := hs.block p hp (by unfold Tb; omega)
  exact ⟨p, o, e, by have := hs.size; omega, fun k x hx => (World.cell?_of_block (a := ⟨p, o + k, none⟩) hk).trans (hc k x hx)⟩

theorem Rls.saveMap {w w' : World} {b n : Nat} {f : Int → Option Value} {A : Option Addr} {rs : List Ru} (h : Rls w w.heap.size A rs) (hm : MapI w b n f) (hs : Save (Tb b w.heap.size) w w') : Rls w' w'.heap.size A rs := by
  intro hn
  obtain ⟨p, o, e, hp, hc⟩ := h hn
  have hb : p ≠ b := fun e2 => by
    obtain ⟨D, ⟨es, ck, hm1, _⟩, _⟩ := hm
    subst e2
    have h0 := (hc 0 rs[0] (List.getElem?_eq_getElem hn)).1
    simp [World.cell?, hm1] at h0
  have hk : w'.heap[p]? = w.heap[p]? := hs.block p hp (by unfold Tb; omega)
  refine ⟨p, o, e, by have := hs.size; omega, fun k u hu => ?_⟩
  obtain ⟨h1, h2, h3⟩ := hc k u hu
  exact ⟨(World.cell?_of_block (a := ⟨p, o + k * 2, none⟩) hk).trans h1, (World.cell?_of_block (a := ⟨p, o + k * 2 + 1, none⟩) hk).trans h2, h3.saveMap hm hs⟩

/-- The value of a rule. -/
def ruV (u : Ru) : Value := .agg #[.int .i64 u.l, .slice u.a u.r.length u.c]
/-- The rules that are still marked, by their numbers. -/
def openF (rs : List Ru) (rem : Int → Bool) : Int → Option Value := fun x => if rem x then (rs[x.toNat]?).map ruV else none
/-- The first k. -/
def firstB (k : Nat) : Int → Bool := fun x => decide (0 ≤ x ∧ x < (k : Int))
theorem openF_zero (rs : List Ru) : ∀ x, (fun _ : Int => (none : Option Value)) x = openF rs (firstB 0) x := fun x => by
  unfold openF firstB
  rw [if_neg]
  simp
theorem openF_put {rs : List Ru} {k : Nat} (hk : k < rs.length) : ∀ x, putK (openF rs (firstB k)) (k : Int) (.agg #[.int .i64 rs[k].l, .slice rs[k].a rs[k].r.length rs[k].c]) x = openF rs (firstB (k + 1)) x := fun x => by
  unfold putK openF firstB
  by_cases e : x = (k : Int)
  · subst e
    have e1 : decide (0 ≤ (k : Int) ∧ (k : Int) < ((k + 1 : Nat) : Int)) = true := decide_eq_true (by omega)
    rw [if_pos rfl, e1, if_pos rfl, Int.toNat_natCast, List.getElem?_eq_getElem hk]
    rfl
  · rw [if_neg e]
    have e1 : decide (0 ≤ x ∧ x < ((k + 1 : Nat) : Int)) = decide (0 ≤ x ∧ x < (k : Int)) := by
      congr 1
      exact propext (by omega)
    rw [e1]
theorem openF_del {rs : List Ru} {rem : Int → Bool} {y : Int} : ∀ x, delK (openF rs rem) y x = openF rs (strike rem y) x := fun x => by
  unfold delK openF
  by_cases e : x = y
  · subst e
    rw [if_pos rfl, strike_same]
    rfl
  · rw [if_neg e, strike_other e]
theorem openF_some {rs : List Ru} {rem : Int → Bool} {x : Int} {v : Value} (h : openF rs rem x = some v) : rem x = true ∧ ∃ u, rs[x.toNat]? = some u ∧ v = .agg #[.int .i64 u.l, .slice u.a u.r.length u.c] := by
  unfold openF at h
  split at h
  · rename_i hr
    cases hu : rs[x.toNat]? with
    | none => rw [hu] at h; cases h
    | some u =>
      rw [hu] at h
      exact ⟨hr, u, rfl, (Option.some.inj h).symm⟩
  · cases h
theorem openF_isSome {rs : List Ru} {rem : Int → Bool} (hr : ∀ x, rem x = true → 0 ≤ x ∧ x < (rs.length : Int)) (x : Int) : (openF rs rem x).isSome = rem x := by
  unfold openF
  cases h : rem x
  · rfl
  · have := hr x h
    rw [if_pos rfl, List.getElem?_eq_getElem (by omega)]
    rfl

/-- What a call of 'use' does, in every world in which E holds. -/
def UseOK (W : Way) (ss : List (Int × List Int)) (E : World → Prop) (b : Nat) (fid : Nat) (caps : Array Value) : Prop :=
  ∀ (v : World) (S : Int → Bool) (u : Ru), E v → SetM v b S → Ints v v.heap.size u.a u.r → u.abs ∈ ss →
    Calls Tryd.prog fid (#[.map (some b), .agg #[.int .i64 u.l, .slice u.a u.r.length u.c]] ++ caps) v fun e v' => e = .returned (.bool (W.fires S u.abs)) ∧ SetM v' b (useW W S u.abs) ∧ Save (· = b) v v'

/-- What holds all the while. -/
structure Closing (W : Way) (S0 : Int → Bool) (rs : List Ru) (rem S : Int → Bool) : Prop where
  fit : ∀ x, rem x = true → 0 ≤ x ∧ x < (rs.length : Int)
  sound : ∀ x, S x = true → Least W S0 (rs.map Ru.abs) x
  start : ∀ x, S0 x = true → S x = true
  used : ∀ (k : Nat) (u : Ru), rs[k]? = some u → rem (k : Int) = false → ∀ y ∈ W.adds u.abs, S y = true

theorem Closing.begin (W : Way) (S0 : Int → Bool) (rs : List Ru) : Closing W S0 rs (firstB rs.length) S0 :=
  ⟨fun x h => of_decide_eq_true h, fun _ h => Least.start h, fun _ h => h, fun k u hu h => by
    have := (List.getElem?_eq_some_iff.1 hu).1
    have := of_decide_eq_false h
    omega⟩

theorem Closing.step {W : Way} {S0 : Int → Bool} {rs : List Ru} {rem S : Int → Bool} (h : Closing W S0 rs rem S) {x : Int} {u : Ru} (hu : rs[x.toNat]? = some u) (hf : W.fires S u.abs = true) :
    Closing W S0 rs (strike rem x) (useW W S u.abs) := by
  refine ⟨fun y hy => h.fit y (strike_le hy), fun y hy => ?_, fun y hy => useW_le (h.start y hy), fun k v hv hk y hy => ?_⟩
  · rcases useW_inv hy with hy | ⟨h1, h2⟩
    · exact h.sound y hy
    · exact Least.step h.sound (List.mem_map.2 ⟨u, List.mem_of_getElem? hu, rfl⟩) h1 h2
  · by_cases e : (k : Int) = x
    · have e2 : x.toNat = k := by omega
      rw [e2, hv] at hu
      cases hu
      exact useW_add hf hy
    · rw [strike_other e] at hk
      exact useW_le (h.used k v hv hk y hy)

theorem Closing.done {W : Way} {S0 : Int → Bool} {rs : List Ru} {rem S : Int → Bool} (h : Closing W S0 rs rem S) (hn : ∀ (k : Nat) (u : Ru), rs[k]? = some u → rem (k : Int) = true → W.fires S u.abs = false) : IsLeast W S0 (rs.map Ru.abs) S := by
  refine isLeast_of h.sound h.start fun r hr hf y hy => ?_
  obtain ⟨u, hu, rfl⟩ := List.mem_map.1 hr
  obtain ⟨k, hk⟩ := List.mem_iff_getElem?.1 hu
  cases hrem : rem (k : Int)
  · exact h.used k u hk hrem y hy
  · rw [hn k u hk hrem] at hf; cases hf

/-- What closeSet ends in. -/
def Closed (w : World) (W : Way) (S0 : Int → Bool) (ss : List (Int × List Int)) (b : Nat) (e : Ending) (w' : World) : Prop :=
  e = .returned (.map (some b)) ∧ ∃ S, SetM w' b S ∧ IsLeast W S0 ss S ∧ Save (· = b) w w'

end Go.Proofs.YtjfhkcoiomokoaaDoor

/- The program's closeSet: its walk. -/

namespace Go.Proofs.YtjfhkcoiomokoaaDoor
open Go.RowKit

theorem save_T {b B : Nat} {w w' : World} (h : Save (· = b) w w') : Save (Tb b B) w w' := h.wider fun _ e => .inl e

set_option maxRecDepth 20000 in
set_option maxHeartbeats 2000000 in
theorem closeSet_any (W : Way) (A : Option Addr) (c : Nat) (rs : List Ru) (b fid : Nat) (caps : Array Value) (S0 : Int → Bool) (E : World → Prop) (w : World) (hx : Rls w w.heap.size A rs) (h16 : rs.length ≤ 1048576) (hS : SetM w b S0) (hE : E w)
    (hk : ∀ v v', E v → Save (Tb b w.heap.size) v v' → E v') (hU : UseOK W (rs.map Ru.abs) E b fid caps) (hcf : ∀ (xs : Array Value) (v : World), Sem.run Tryd.prog (callFunc fid xs) v = .ok (.enter fid xs) v) :
    Calls Tryd.prog 144 #[.map (some b), .slice A rs.length c, .func (.func fid) #[] caps] w (Closed w W S0 (rs.map Ru.abs) b) := by
  have hmm := @run_makeMap Tryd.prog
  have hbl := hS.map.lt
  have HX := Lib.hid hx; clear hx
  have HS := Lib.hid hS; clear hS
  have HE := Lib.hid hE; clear hE
  have HEK := Lib.hid hk; clear hk
  have HU := Lib.hid hU; clear hU
  have HM0 := Lib.hid (((MapI.made w).same (openF_zero rs)))
  have HB0 : Hid (Below w.heap.size w (w.alloc (.map #[] 0))) := (Below.refl _ _).alloc (Nat.le_refl _) _
  go_enter Tryd.func144, Tryd.ntmps144
  go_wp2
  go_loopw [16] (fun i wr => ∃ (k : Nat), k ≤ rs.length ∧ i = .int .i64 k ∧ Hid (MapI wr w.heap.size k (openF rs (firstB k))) ∧ Hid (Below w.heap.size w wr)) (fun i _ => rs.length - (intOf i).toNat)
  case atStart => exact ⟨0, by omega, rfl, HM0.out, HB0.out⟩
  case round =>
    obtain ⟨k, hk, rfl, HM, HB⟩ := hrel
    by_cases hlt : k < rs.length
    · obtain ⟨p, o, rfl, hp, c1, c2, _⟩ := (HX.out.keep HB.out).at_ hlt
      have HM1 := Lib.hid (HM.out.keep ((Below.refl wr.heap.size wr).alloc (Nat.le_refl _) (.cells #[.int .i64 rs[k].l, .slice rs[k].a rs[k].r.length rs[k].c] 83)))
      have HP := Lib.hid (openF_put hlt)
      have hws : w.heap.size ≤ wr.heap.size := HB.out.size
      go_wp2_with (at_mapUpdate
                   refine wpList_store_map _ rfl _ _ _ _ rfl _ Tryd.underlying168 w.heap.size k _ (k : Int) _ rfl rfl rfl (by unfold F64; omega) (by unfold maxLen; omega) HM1.out ?_
                   intro w1 h1 h2 h3
                   have HM2 := Lib.hid h1
                   have HS2 := Lib.hid h2
                   clear h1 h2 h3)
      go_roundw
      case rel =>
        exact ⟨k + 1, by omega, by go_num, HM2.out.same HP.out, (HB.out.alloc HB.out.size _).trans (HS2.out.below (B := w.heap.size) (by simp; omega) fun i hi e => by omega)⟩
      case measure => simp [intOf]; omega
    · obtain rfl : k = rs.length := by omega
      obtain ⟨wA, hwA⟩ : ∃ x, x = wr := ⟨_, rfl⟩
      subst hwA
      clear HM0 HB0 hmm
      have HMA := Lib.hid (HM.out.mono h16)
      have HSA := Lib.hid (HS.out.keep HB.out)
      have HVA : Hid (Save (Tb b w.heap.size) w wA) := Save.of_below HB.out
      have HCA := Lib.hid (Closing.begin W S0 rs)
      go_wp2
      go_loopg [10] (2 * cntB (firstB rs.length) rs.length + 1) (fun g u wv => ∃ (used : Bool) (rem S : Int → Bool), u = .bool used ∧ g = 2 * cntB rem rs.length + (if used then 1 else 0) ∧ Hid (MapI wv w.heap.size 1048576 (openF rs rem)) ∧ Hid (SetM wv b S) ∧ Hid (Save (Tb b w.heap.size) w wv) ∧ Hid (Closing W S0 rs rem S) ∧ Hid (used = false → ∀ (k : Nat) (u : Ru), rs[k]? = some u → rem (k : Int) = true → W.fires S u.abs = false))
      case atStart => exact ⟨true, _, _, rfl, rfl, HMA.out, HSA.out, HVA.out, HCA.out, fun h => by cases h⟩
      case round =>
        obtain ⟨used, rem, S, rfl, hg, HM1, HS1, HV1, HC1, HN1⟩ := hrel
        clear HMA HSA HVA HCA HM
        cases used
        · have HL := Lib.hid (HC1.out.done (HN1.out rfl))
          have HV : Hid (Save (· = b) w wr) := ⟨HV1.out.os, HV1.out.tape, HV1.out.output, HV1.out.size, fun i hi h => HV1.out.block i hi fun e => by rcases e with e | e; exact h e; omega⟩
          go_wp2
          go_ret
          exact ⟨rfl, S, HS1.out, HL.out, HV.out⟩
        · rw [if_pos rfl] at hg
          obtain ⟨wO, hwO⟩ : ∃ x, x = wr := ⟨_, rfl⟩
          subst hwO
          have hqO : w.heap.size < wO.heap.size := HM1.out.lt
          have hbO : b < wO.heap.size := by omega
          go_wp2_with (at_range
                       refine wpList_range_map _ rfl _ _ rfl _ Tryd.underlying168 w.heap.size 1048576 _ rfl HM1.out ?_
                       intro w1 cnt h1 h2 h3 h4
                       have HR := Lib.hid h1
                       have HB1 := Lib.hid h3
                       clear h1 h2 h3 h4)
          try go_frame
          have HSr := Lib.hid (HS1.out.keep HB1.out)
          have HVr : Hid (Save (Tb b w.heap.size) w w1) := HV1.out.trans (Save.of_below HB1.out)
          have HLf : Hid (∀ x, (openF rs rem x).isSome = rem x) := openF_isSome HC1.out.fit
          go_loopg [10] cnt (fun g u wv => ∃ (used : Bool) (rem2 S2 left : Int → Bool), u = .bool used ∧ Hid (Rng wv w.heap.size wO.heap.size 1048576 (openF rs rem2) left g) ∧ Hid (SetM wv b S2) ∧ Hid (Save (Tb b w.heap.size) w wv) ∧ Hid (Closing W S0 rs rem2 S2) ∧ Hid (used = false → rem2 = rem ∧ ∀ (k : Nat) (u : Ru), rs[k]? = some u → rem2 (k : Int) = true → left (k : Int) = false → W.fires S2 u.abs = false) ∧ Hid (used = true → cntB rem2 rs.length < cntB rem rs.length))
          case atStart => exact ⟨false, rem, S, _, rfl, HR.out, HSr.out, HVr.out, HC1.out, fun _ => ⟨rfl, fun k u _ h1 h2 => by rw [HLf.out, h1] at h2; cases h2⟩, fun h => by cases h⟩
          case round =>
            obtain ⟨used, rem2, S2, left, rfl, HR2, HS2, HV2, HC2, HN2, HD2⟩ := hrel
            clear HR HB1 HSr HVr HLf
            go_wp2_with (at_next
                         refine wpList_next_rng _ rfl _ rfl w.heap.size wO.heap.size 1048576 _ _ _ rfl HR2.out ?_ ?_)
            · intro _ hl0
              have HL0 := Lib.hid hl0; clear hl0
              go_wp2
              go_roundg (2 * cntB rem2 rs.length + (if used then 1 else 0))
              case measure =>
                cases used
                · have := (HN2.out rfl).1
                  rw [this]
                  simp
                  omega
                · have := HD2.out rfl
                  simp
                  omega
              case rel => exact ⟨used, rem2, S2, rfl, rfl, HR2.out.map, HS2.out, HV2.out, HC2.out, fun h k u hu hr => (HN2.out h).2 k u hu hr (HL0.out _)⟩
            · intro x v w2 cnt2 hx hl hv hR hlt hSv hsz hen
              obtain ⟨hrem, u, hu, rfl⟩ := openF_some hv
              have hxr := HC2.out.fit x hrem
              have HV3 : Hid (Save (Tb b w.heap.size) w w2) := HV2.out.trans (hSv.wider fun i e => .inr (by omega))
              have HS3 := Lib.hid (HS2.out.save hSv (fun e : b = wO.heap.size => by omega))
              have HI3 : Hid (Ints w2 w2.heap.size u.a u.r) := by
                have hr3 := HX.out.saveMap HS.out.map HV3.out
                have hul := (List.getElem?_eq_some_iff.1 hu).1
                obtain ⟨_, _, _, _, _, _, h3⟩ := hr3.at_ hul
                have e2 : rs[x.toNat] = u := Option.some.inj ((List.getElem?_eq_getElem hul).symm.trans hu)
                rw [e2] at h3
                exact h3
              have HR3 := Lib.hid hR; clear hR hSv
              have HB3 : Hid (Below w2.heap.size w2 (w2.alloc (.cells #[.int .i64 u.l, .slice u.a u.r.length u.c] 83))) := (Below.refl _ _).alloc (Nat.le_refl _) _
              have HLX := Lib.hid hl; clear hl hv
              have HXR := Lib.hid hxr; clear hxr
              have HU0 := Lib.hid hu; clear hu
              have HRM := Lib.hid hrem; clear hrem
              have HLT := Lib.hid hlt; clear hlt
              clear HS2 HV2 HR2 hsz
              have HE3 : Hid (E (w2.alloc (.cells #[.int .i64 u.l, .slice u.a u.r.length u.c] 83))) := HEK.out _ _ HE.out (HV3.out.trans (Save.of_below HB3.out))
              have HUS := Lib.hid (HU.out _ S2 u HE3.out (HS3.out.keep HB3.out) ((HI3.out.keep HB3.out).more HB3.out.size) (List.mem_map.2 ⟨u, List.mem_of_getElem? HU0.out, rfl⟩))
              cases hf : W.fires S2 u.abs
              · rw [hf, useW_no hf] at HUS
                have HF := Lib.hid hf; clear hf
                go_wp2_with fail
                refine HUS.out.mono ?_
                rintro e w4 ⟨rfl, hS4, hV4⟩
                have HS4 := Lib.hid hS4; clear hS4
                have HV4 : Hid (Save (Tb b w.heap.size) w w4) := (HV3.out.trans (Save.of_below HB3.out)).trans (save_T hV4)
                have HR4 : Hid (Rng w4 w.heap.size wO.heap.size 1048576 (openF rs rem2) (strike left x) cnt2) := (HR3.out.keep HB3.out).save hV4 (fun e : w.heap.size = b => by omega) (fun e : wO.heap.size = b => by omega)
                clear hV4
                go_wp2
                go_roundg cnt2
                case measure => exact HLT.out
                case rel =>
                  refine ⟨used, rem2, S2, _, rfl, HR4.out, HS4.out, HV4.out, HC2.out, fun h => ⟨(HN2.out h).1, fun k v hv hr hl => ?_⟩, HD2.out⟩
                  by_cases e : (k : Int) = x
                  · have e2 : x.toNat = k := by omega
                    have e3 := HU0.out
                    rw [e2, hv] at e3
                    cases e3
                    exact HF.out
                  · rw [strike_other e] at hl
                    exact (HN2.out h).2 k v hv hr hl
              · rw [hf] at HUS
                have HC3 := Lib.hid (HC2.out.step HU0.out hf); clear hf
                have hxx : x = ((x.toNat : Nat) : Int) := by have := HXR.out.1; omega
                have HCN : Hid (cntB (strike rem2 x) rs.length < cntB rem2 rs.length) := by
                  show _ < _
                  rw [hxx]
                  exact cntB_strike (by have := HXR.out; omega) (by rw [← hxx]; exact HRM.out)
                clear hxx
                go_wp2_with fail
                refine HUS.out.mono ?_
                rintro e w4 ⟨rfl, hS4, hV4⟩
                have HR4 : Hid (Rng w4 w.heap.size wO.heap.size 1048576 (openF rs rem2) (strike left x) cnt2) := (HR3.out.keep HB3.out).save hV4 (fun e : w.heap.size = b => by omega) (fun e : wO.heap.size = b => by omega)
                have HS4 := Lib.hid hS4; clear hS4
                have HV4 : Hid (Save (Tb b w.heap.size) w w4) := (HV3.out.trans (Save.of_below HB3.out)).trans (save_T hV4)
                clear hV4
                go_wp2_with (at_delete
                             refine wpList_delete_rng _ rfl _ _ _ rfl _ Tryd.underlying168 w.heap.size wO.heap.size 1048576 _ _ _ x rfl rfl hx HR4.out ?_
                             intro w5 cnt5 h1 h2 h3 h4
                             have HR5 := Lib.hid h1
                             have HL5 := Lib.hid h2
                             have HV5 := Lib.hid h3
                             clear h1 h2 h3 h4)
                go_roundg cnt5
                case measure => have := HL5.out; have := HLT.out; omega
                case rel =>
                  have HV6 : Save (Tb b w.heap.size) w w5 := HV4.out.trans (HV5.out.wider fun i e => .inr (by omega))
                  have HS6 : SetM w5 b (useW W S2 u.abs) := HS4.out.save HV5.out (fun e : b = w.heap.size => by omega)
                  have HR6 : Rng w5 w.heap.size wO.heap.size 1048576 (openF rs (strike rem2 x)) (strike left x) cnt5 := by
                    have h := HR5.out
                    rw [strike_twice, funext (openF_del (rs := rs) (rem := rem2) (y := x))] at h
                    exact h
                  refine ⟨true, strike rem2 x, _, _, rfl, HR6, HS6, HV6, HC3.out, fun h => (by cases h), fun _ => ?_⟩
                  have h1 := HCN.out
                  cases used
                  · rw [(HN2.out rfl).1] at h1 ⊢
                    exact h1
                  · have h2 := HD2.out rfl
                    omega

end Go.Proofs.YtjfhkcoiomokoaaDoor

/- The program's closeLefts, nullableBy, productiveBy, growingBy, reachedFrom, reachedBy. -/

namespace Go.Proofs.YtjfhkcoiomokoaaDoor
open Go.RowKit

/-- What a call of 'fits' tells, in every world in which E holds. -/
def FitsOK (W : Way) (ss : List (Int × List Int)) (E : World → Prop) (b : Nat) (fid : Nat) (caps : Array Value) : Prop :=
  ∀ (v : World) (S : Int → Bool) (u : Ru), E v → SetM v b S → Ints v v.heap.size u.a u.r → u.abs ∈ ss →
    Calls Tryd.prog fid (#[.map (some b), .slice u.a u.r.length u.c] ++ caps) v fun e v' => e = .returned (.bool (W.fires S u.abs)) ∧ Below v.heap.size v v'

/-- A set was made. -/
def GaveSet (w : World) (P : (Int → Bool) → Prop) (e : Ending) (w' : World) : Prop :=
  ∃ b S, e = .returned (.map (some b)) ∧ w.heap.size ≤ b ∧ SetM w' b S ∧ P S ∧ Below w.heap.size w w'

theorem useW_left {W : Way} (hW : ∀ r, W.adds r = [r.1]) {S : Int → Bool} {u : Ru} (h : W.fires S u.abs = true) : useW W S u.abs = addS S u.l := by
  funext x
  unfold useW addS
  rw [h, hW]
  show (S x || (true && [u.l].contains x)) = _
  by_cases e : x = u.l
  · simp [e]
  · simp [e]

set_option maxRecDepth 20000 in
set_option maxHeartbeats 1000000 in
theorem fitsUse_any (W : Way) (hW : ∀ r, W.adds r = [r.1]) (ss : List (Int × List Int)) (hA : AddsFit W ss) (E : World → Prop) (b B fid : Nat) (caps : Array Value) (hcf : ∀ (xs : Array Value) (v : World), Sem.run Tryd.prog (callFunc fid xs) v = .ok (.enter fid xs) v)
    (hF : FitsOK W ss E b fid caps) (hk : ∀ v v', E v → Below v.heap.size v v' → E v') :
    UseOK W ss (fun v => E v ∧ v.cell? ⟨B, 0, none⟩ = some (.func (.func fid) #[] caps)) b 145 #[.pointer (some ⟨B, 0, none⟩)] := by
  intro v S u hE hS hI hm
  obtain ⟨hE1, hc⟩ := hE
  have hBl : B < v.heap.size := by
    by_cases hg : B < v.heap.size
    · exact hg
    · simp only [World.cell?] at hc
      rw [Array.getElem?_eq_none (by omega)] at hc
      cases hc
  have hul : 0 ≤ u.l ∧ u.l < 40 := hA _ hm _ (by rw [hW]; exact List.mem_singleton.2 rfl)
  have HB0 : Hid (Below v.heap.size v (v.alloc (.cells #[.int .i64 u.l, .slice u.a u.r.length u.c] 83))) := (Below.refl _ _).alloc (Nat.le_refl _) _
  have BX0 : Hid (Box2 (v.alloc (.cells #[.int .i64 u.l, .slice u.a u.r.length u.c] 83)) v.heap.size (.int .i64 u.l) (.slice u.a u.r.length u.c)) := ⟨by simp, by simp [go_sem], by simp [go_sem]⟩
  have hc1 : (v.alloc (.cells #[.int .i64 u.l, .slice u.a u.r.length u.c] 83)).cell? ⟨B, 0, none⟩ = some (.func (.func fid) #[] caps) := (HB0.out.cell (p := ⟨B, 0, none⟩) hBl).trans hc
  have HC := Lib.hid (hF _ S u (hk _ _ hE1 HB0.out) (hS.keep HB0.out) ((hI.keep HB0.out).more HB0.out.size) hm)
  have HS := Lib.hid hS; clear hS hF hk hE1 hI hc
  cases hf : W.fires S u.abs
  · rw [hf] at HC
    rw [useW_no hf]
    clear hf
    go_enter Tryd.func145, Tryd.ntmps145
    go_wp2_with fail
    refine HC.out.mono ?_
    rintro e w1 ⟨rfl, hB1⟩
    have HB1 := Lib.hid (HB0.out.trans (hB1.mono HB0.out.size)); clear hB1 hc1
    go_wp2
    go_ret
    exact ⟨rfl, HS.out.keep HB1.out, Save.of_below HB1.out⟩
  · rw [hf] at HC
    rw [useW_left hW hf]
    clear hf
    go_enter Tryd.func145, Tryd.ntmps145
    go_wp2_with fail
    refine HC.out.mono ?_
    rintro e w1 ⟨rfl, hB1⟩
    obtain ⟨_, b0, b1⟩ := BX0.out.keep hB1 (by simp)
    have HB1 := Lib.hid (HB0.out.trans (hB1.mono HB0.out.size)); clear hB1 hc1
    have HS1 := Lib.hid (HS.out.keep HB1.out)
    go_wp2_with (at_mapUpdate
                 refine wpList_store_set _ rfl _ _ _ rfl b S u.l rfl rfl rfl hul HS1.out ?_
                 intro w2 h1 h2 h3
                 have HS2 := Lib.hid h1
                 have HV2 := Lib.hid h2
                 clear h1 h2 h3)
    go_ret
    exact ⟨rfl, HS2.out, (Save.of_below HB1.out).trans HV2.out⟩

set_option maxRecDepth 20000 in
set_option maxHeartbeats 1000000 in
theorem closeLefts_any (W : Way) (hW : ∀ r, W.adds r = [r.1]) (A : Option Addr) (c : Nat) (rs : List Ru) (hA : AddsFit W (rs.map Ru.abs)) (fid : Nat) (caps : Array Value) (E : World → Prop) (w : World) (hx : Rls w w.heap.size A rs) (h16 : rs.length ≤ 1048576)
    (hcf : ∀ (xs : Array Value) (v : World), Sem.run Tryd.prog (callFunc fid xs) v = .ok (.enter fid xs) v) (hE : E w) (hk : ∀ v v', E v → Below w.heap.size v v' → E v') (hF : ∀ b, w.heap.size ≤ b → FitsOK W (rs.map Ru.abs) (fun v => E v ∧ w.heap.size + 1 ≤ v.heap.size) b fid caps) :
    Calls Tryd.prog 112 #[.slice A rs.length c, .func (.func fid) #[] caps] w (GaveSet w (IsLeast W noS (rs.map Ru.abs))) := by
  have hmm := @run_makeMap Tryd.prog
  have hmf : ∀ (fn : Fn) (first cap : Array Value) (w : World), (Instr.makeFunc fn first cap).run Tryd.prog w = .ok (.func fn first cap) w := fun _ _ _ _ => rfl
  have hcu : ∀ (xs : Array Value) (v : World), Sem.run Tryd.prog (callFunc 145 xs) v = .ok (.enter 145 xs) v := fun xs v => rfl
  have HB1 : Hid (Below w.heap.size w (w.alloc (.cells #[.func (.func fid) #[] caps] 138))) := (Below.refl _ _).alloc (Nat.le_refl _) _
  have hsz : (w.alloc (.cells #[.func (.func fid) #[] caps] 138)).heap.size = w.heap.size + 1 := by simp
  have hcl : (w.alloc (.cells #[.func (.func fid) #[] caps] 138)).cell? ⟨w.heap.size, 0, none⟩ = some (.func (.func fid) #[] caps) := by simp [go_sem]
  have HS2 := Lib.hid (SetM.made (w.alloc (.cells #[.func (.func fid) #[] caps] 138)))
  have HB2 : Hid (Below w.heap.size w ((w.alloc (.cells #[.func (.func fid) #[] caps] 138)).alloc (.map #[] 0))) := HB1.out.alloc HB1.out.size _
  have HX := Lib.hid ((hx.keep HB2.out).more HB2.out.size); clear hx
  have hc2 : ((w.alloc (.cells #[.func (.func fid) #[] caps] 138)).alloc (.map #[] 0)).cell? ⟨w.heap.size, 0, none⟩ = some (.func (.func fid) #[] caps) := by simp [go_sem]
  have HU := Lib.hid (fitsUse_any W hW (rs.map Ru.abs) hA (fun v => E v ∧ w.heap.size + 1 ≤ v.heap.size) (w.heap.size + 1) w.heap.size fid caps hcf (hF _ (by omega)) (fun v v' h hb => ⟨hk v v' h.1 (hb.mono (by have := h.2; omega)), by have := hb.size; have := h.2; omega⟩))
  have HEK := Lib.hid hk
  have HE2 : Hid ((E ((w.alloc (.cells #[.func (.func fid) #[] caps] 138)).alloc (.map #[] 0)) ∧ w.heap.size + 1 ≤ ((w.alloc (.cells #[.func (.func fid) #[] caps] 138)).alloc (.map #[] 0)).heap.size) ∧ ((w.alloc (.cells #[.func (.func fid) #[] caps] 138)).alloc (.map #[] 0)).cell? ⟨w.heap.size, 0, none⟩ = some (.func (.func fid) #[] caps)) := ⟨⟨hk _ _ hE HB2.out, by simp⟩, hc2⟩
  clear hcl hc2 hE hk hF
  rw [hsz] at HS2
  go_enter Tryd.func112, Tryd.ntmps112
  go_wp2_with fail
  refine (closeSet_any W _ _ rs _ _ _ noS (fun v => (E v ∧ w.heap.size + 1 ≤ v.heap.size) ∧ v.cell? ⟨w.heap.size, 0, none⟩ = some (.func (.func fid) #[] caps)) _ HX.out h16 HS2.out HE2.out ?_ HU.out hcu).mono ?_
  · intro v v' h hs
    have hb : Below (w.heap.size + 1) v v' := ⟨hs.os, hs.tape, hs.output, hs.size, fun i hi => hs.block i (by have := h.1.2; omega) (by unfold Tb; simp; omega)⟩
    exact ⟨⟨HEK.out v v' h.1.1 (hb.mono (by omega)), by have := hs.size; have := h.1.2; omega⟩, (hb.cell (p := ⟨w.heap.size, 0, none⟩) (Nat.lt_succ_self _)).trans h.2⟩
  rintro e w3 ⟨rfl, S, hS, hL, hV⟩
  have HB3 : Hid (Below w.heap.size w w3) := HB2.out.trans (hV.below HB2.out.size fun i hi e => by omega)
  have HS3 := Lib.hid hS; clear hS
  clear hV
  go_wp2
  go_ret
  exact ⟨w.heap.size + 1, S, rfl, by omega, HS3.out, hL, HB3.out⟩

end Go.Proofs.YtjfhkcoiomokoaaDoor

/- The program's nullableBy, productiveBy, growingBy, reachedFrom, reachedBy. -/

namespace Go.Proofs.YtjfhkcoiomokoaaDoor
open Go.RowKit

theorem SetM.below {w w' : World} {b B : Nat} {S : Int → Bool} (h : SetM w b S) (hb : Below B w w') (hB : b < B) : SetM w' b S :=
  h.save (T := fun i => B ≤ i) ⟨hb.os, hb.tape, hb.output, hb.size, fun i _ hs => hb.block i (by omega)⟩ (by omega)

theorem good_fit {n t : Int} {ss : List (Int × List Int)} (hg : goodG n t ss = true) {u : Ru} (hu : u.abs ∈ ss) : FitI u.r := fun x hx => by
  have h1 := goodG_is hg
  have h2 := (goodG_mem hg hu).2.2 x hx
  unfold F64
  omega
theorem good_len {n t : Int} {ss : List (Int × List Int)} (hg : goodG n t ss = true) {u : Ru} (hu : u.abs ∈ ss) : u.r.length ≤ 4 := (goodG_mem hg hu).2.1
theorem good_16 {n t : Int} {rs : List Ru} (hg : goodG n t (rs.map Ru.abs) = true) : rs.length ≤ 1048576 := by have h := (goodG_is hg).2.2.1; simp at h; omega

set_option maxRecDepth 20000 in
theorem enter_null (xs : Array Value) (v : World) : Sem.run Tryd.prog (callFunc 113 xs) v = .ok (.enter 113 xs) v := rfl
set_option maxRecDepth 20000 in
set_option maxHeartbeats 1000000 in
theorem nullableBy_any (n t : Int) (A : Option Addr) (c : Nat) (rs : List Ru) (w : World) (hx : Rls w w.heap.size A rs) (hg : goodG n t (rs.map Ru.abs) = true) :
    Calls Tryd.prog 79 #[.slice A rs.length c] w (GaveSet w (IsLeast wayNull noS (rs.map Ru.abs))) := by
  have HC := Lib.hid (closeLefts_any wayNull (fun _ => rfl) A c rs (fit_lefts hg fun _ => rfl) 113 #[] (fun _ => True) w hx (good_16 hg) enter_null trivial (fun _ _ _ _ => trivial) fun b _ v S u _ hS hI hm => by
    have h := allNull_any b S u.a u.r u.c v hS hI (good_fit hg hm) (good_len hg hm)
    exact h.mono fun e v' ⟨h1, h2⟩ => ⟨h1, by subst h2; exact Below.refl _ _⟩)
  clear hx hg
  go_enter Tryd.func79, Tryd.ntmps79
  go_wp2_with fail
  refine HC.out.mono ?_
  rintro e w1 ⟨b, S, rfl, h1, h2, h3, h4⟩
  have H1 := Lib.hid h1; have H2 := Lib.hid h2; have H3 := Lib.hid h3; have H4 := Lib.hid h4
  clear h1 h2 h3 h4
  go_wp2
  go_ret
  exact ⟨b, S, rfl, H1.out, H2.out, H3.out, H4.out⟩

/-- The first k symbols of a right side are put into a set, the tokens left out. -/
def putR (S : Int → Bool) (xs : List Int) : Int → Bool := fun x => S x || (decide (0 ≤ x) && xs.contains x)
theorem putR_nil (S : Int → Bool) : putR S [] = S := by
  funext x
  simp [putR]
theorem contains_take {xs : List Int} {k : Nat} (hk : k < xs.length) (x : Int) : (xs.take (k + 1)).contains x = ((xs.take k).contains x || decide (x = xs[k])) := by
  rw [List.take_succ_eq_append_getElem hk]
  generalize xs.take k = l
  generalize xs[k] = y
  rw [Bool.eq_iff_iff]
  simp
theorem putR_tok {S : Int → Bool} {xs : List Int} {k : Nat} (hk : k < xs.length) (h : xs[k] < 0) : putR S (xs.take (k + 1)) = putR S (xs.take k) := by
  funext x
  unfold putR
  rw [contains_take hk]
  by_cases e : x = xs[k]
  · have : decide (0 ≤ x) = false := decide_eq_false (by omega)
    rw [this]
    rfl
  · rw [decide_eq_false e, Bool.or_false]
theorem putR_non {S : Int → Bool} {xs : List Int} {k : Nat} (hk : k < xs.length) (h : ¬ xs[k] < 0) : putR S (xs.take (k + 1)) = addS (putR S (xs.take k)) xs[k] := by
  funext x
  unfold putR addS
  rw [contains_take hk]
  by_cases e : x = xs[k]
  · have h0 : decide (0 ≤ x) = true := decide_eq_true (by omega)
    rw [h0, decide_eq_true e]
    simp
  · rw [decide_eq_false e, Bool.or_false, Bool.false_or]
theorem putR_all {S : Int → Bool} {u : Ru} (h : S u.l = true) : putR S u.r = useW wayReach S u.abs := by
  funext x
  unfold putR useW
  have h1 : wayReach.fires S u.abs = true := h
  have h2 : (wayReach.adds u.abs).contains x = (decide (0 ≤ x) && u.r.contains x) := by
    show (u.r.filter fun x => decide (0 ≤ x)).contains x = _
    rw [Bool.eq_iff_iff]
    simp [and_comm]
  rw [h1, h2]
  rfl

end Go.Proofs.YtjfhkcoiomokoaaDoor

/- Rising lists, and what sorting leaves of the memory. -/

namespace Go.Proofs.YtjfhkcoiomokoaaDoor
open Go.RowKit
open Go.Sort (Holds putRow putCells grow)

theorem holdsI {w : World} {g : Nat} {cur : Array Value} {e : TypeId} {ss : List Int} (hb : w.heap[g]? = some (.cells cur e (0, 0))) (ht : cur.toList.take ss.length = ss.map (Value.int .i64)) : Holds (Value.int .i64) w g 0 ss.toArray := by
  intro j hj
  have hj' : j < ss.length := by simpa using hj
  refine ⟨?_, by simp [World.frozen?, hb]⟩
  have h1 : (cur.toList.take ss.length)[j]? = (ss.map (Value.int .i64))[j]? := by rw [ht]
  rw [List.getElem?_take_of_lt hj'] at h1
  simp only [World.cell?, hb, Nat.zero_add]
  simp only [Option.isSome_none, Bool.false_eq_true, if_false]
  rw [← Array.getElem?_toList, h1]
  simp [hj']
theorem heap_sortedI {w : World} {g n : Nat} {os : Array Obj} {cur : Array Value} {e : TypeId} {fr : Nat × Nat} (d : Array Int) (hb : w.heap[g]? = some (.cells cur e fr)) :
    (grow (putRow (Value.int .i64) (Sort.ahead w n) g 0 d) os).heap[g]? = some (.cells (putCells (Value.int .i64) 0 d cur) e fr) := by
  have hg : g < w.heap.size := (Array.getElem?_eq_some_iff.1 hb).1
  rw [Sort.heap_grow_old _ _ (by simpa using hg)]
  simp [putRow, Sort.mapBlock, Sort.ahead, Array.getElem?_modify, hb, Sort.onCells]
theorem save_sortedI {w : World} {g n : Nat} {os : Array Obj} (d : Array Int) : Save (· = g) w (grow (putRow (Value.int .i64) (Sort.ahead w n) g 0 d) os) := by
  refine ⟨rfl, rfl, rfl, by simp, fun k hk hne => ?_⟩
  rw [Sort.heap_grow_old _ _ (by simpa using hk)]
  have : g ≠ k := fun e => hne e.symm
  simp [putRow, Sort.mapBlock, Sort.ahead, Array.getElem?_modify, this]
theorem take_putI (cur : Array Value) (ts : List Int) (h : ts.length ≤ cur.size) : (putCells (Value.int .i64) 0 ts.toArray cur).toList.take ts.length = ts.map (Value.int .i64) := by
  apply List.ext_getElem?
  intro j
  by_cases hj : j < ts.length
  · rw [List.getElem?_take_of_lt hj, Array.getElem?_toList]
    simp [putCells, hj, show j < cur.size by omega]
  · rw [List.getElem?_take_eq_none (by omega), List.getElem?_eq_none (by simp; omega)]

/-- A list is rising. -/
def Rises (xs : List Int) : Prop := xs.Pairwise (· < ·)
/-- Two rising lists with the same members are one. -/
theorem rises_unique : ∀ {xs ys : List Int}, Rises xs → Rises ys → (∀ x, x ∈ xs ↔ x ∈ ys) → xs = ys := fun {xs ys} hx hy h => by
  refine List.Perm.eq_of_pairwise (le := fun a b => a < b) (fun a b _ _ h1 h2 => absurd h1 (by omega)) hx hy ((List.perm_ext_iff_of_nodup (hx.imp fun h => by omega) (hy.imp fun h => by omega)).2 h)
theorem rises_sort {xs : List Int} (hn : xs.Nodup) : Rises (xs.mergeSort fun x y => decide (x ≤ y)) := by
  have hs := List.pairwise_mergeSort (le := fun x y : Int => decide (x ≤ y)) (fun a b c h1 h2 => by simp at *; omega) (fun a b => by simp; omega) xs
  have hd : (xs.mergeSort fun x y => decide (x ≤ y)).Nodup := ((List.mergeSort_perm xs _).nodup_iff).2 hn
  exact (hs.and hd).imp fun h => by
    have h1 := of_decide_eq_true h.1
    have h2 := h.2
    omega

/-- A new rising list of just the members of S. -/
def GaveS (w : World) (S : Int → Bool) (e : Ending) (w' : World) : Prop :=
  ∃ ys, Rises ys ∧ (∀ x, x ∈ ys ↔ S x = true) ∧ GaveI' w ys e w'

theorem len6 {ys : List Int} {S : Int → Bool} (hn : ys.Nodup) (hm : ∀ x ∈ ys, S x = true) (hf : ∀ x, S x = true → 0 ≤ x ∧ x < 40) : ys.length ≤ 40 := by
  have := nodup_le ys ((List.range 40).map fun (k : Nat) => (k : Int)) hn fun x hx => by
    have h := hf x (hm x hx)
    exact List.mem_map.2 ⟨x.toNat, List.mem_range.2 (by omega), by omega⟩
  simpa using this

theorem own_saveB {S : Nat → Prop} {w w' : World} {base : Nat} {e : TypeId} {size n : Nat} {v : Value} {xs : List Value} (h : w.ownsRow base e size v n xs) (hs : Save S w w') (hv : ∀ g, v.ownBlock = some g → ¬ S g) : w'.ownsRow base e size v n xs := by
  refine ⟨h.1, ?_⟩
  rcases h.2 with hn | ⟨g, cap, cur, rfl, hb, hgg, rest⟩
  · exact .inl hn
  · exact .inr ⟨g, cap, cur, rfl, hb, (hs.block g (Array.getElem?_eq_some_iff.1 hgg).1 (hv g rfl)).trans hgg, rest⟩
theorem own_ne_rng {w : World} {q r n cnt base : Nat} {f : Int → Option Value} {left : Int → Bool} {e : TypeId} {size m : Nat} {v : Value} {xs : List Value} (h : w.ownsRow base e size v m xs) (hr : Rng w q r n f left cnt) : some r ≠ v.ownBlock := by
  obtain ⟨_, _, h1, _⟩ := hr
  exact row_ne_iter h h1
theorem save_row {w w' : World} {row : Option Nat} (h : w.grownBy w' row) : Save (fun i => some i = row) w w' := ⟨h.os, h.tape, h.output, h.size, fun i hi hs => h.block i hi hs⟩

end Go.Proofs.YtjfhkcoiomokoaaDoor

/- The contract of slices.Sort at a list of numbers, laid at this program out of the library; no condition but the list's length. -/

namespace Go.Proofs
open Go.Shelf
def Tryd.lays128_ren : Go.Shelf.Ren := ⟨fun | 128 => 131 | n => n, fun | 51 => 149 | 3 => 3 | 4 => 4 | 46 => 127 | 5 => 5 | 9 => 9 | n => n, fun | n => n⟩
theorem Tryd.lays128 : Go.Proofs.Lays.n128 Tryd.prog Tryd.lays128_ren := {
  mixed := by kernel_rfl
  f128 := Tryd.func131.trans (congrArg some (by kernel_rfl))
  t3 := Tryd.underlying3
  a3 := Tryd.isAgg3
  z3 := Tryd.sizeOf3
  v3 := Tryd.zeroValue3
  t4 := Tryd.underlying4
  a4 := Tryd.isAgg4
  z4 := Tryd.sizeOf4
  v4 := Tryd.zeroValue4
  t5 := Tryd.underlying5
  a5 := Tryd.isAgg5
  z5 := Tryd.sizeOf5
  v5 := Tryd.zeroValue5
  t9 := Tryd.underlying9
  a9 := Tryd.isAgg9
  z9 := Tryd.sizeOf9
  v9 := Tryd.zeroValue9
  t46 := Tryd.underlying127
  a46 := Tryd.isAgg127
  z46 := Tryd.sizeOf127
  v46 := Tryd.zeroValue127
  t51 := Tryd.underlying149
  a51 := Tryd.isAgg149
  z51 := Tryd.sizeOf149
  v51 := Tryd.zeroValue149 }
/-- bits.Len32: "Len32 returns the minimum number of bits required to represent x; the result is 0 for x == 0.": IT RETURNS 'Lib.bitLen x'; the world is as it was. ('h0', 'h1': x is a uint32.) (LAID: no walk: one application.) -/
theorem Tryd.bits_Len32 (x : Int) (w : World) (h0 : 0 ≤ x) (h1 : x ≤ 4294967295) :
    Calls Tryd.prog 131 #[.int .u32 x] w fun e w' => e = .returned (.int .i64 (Lib.bitLen x.toNat)) ∧ w' = w := Any.bits_Len32 Tryd.lays128 x w h0 h1
def Tryd.lays125_ren : Go.Shelf.Ren := ⟨fun | 125 => 103 | 128 => 131 | 129 => 132 | n => n, fun | 46 => 127 | 3 => 3 | 51 => 149 | 53 => 151 | 4 => 4 | 5 => 5 | 9 => 9 | n => n, fun | n => n⟩
theorem Tryd.lays125 : Go.Proofs.Lays.n125 Tryd.prog Tryd.lays125_ren := {
  mixed := by kernel_rfl
  f125 := Tryd.func103.trans (congrArg some (by kernel_rfl))
  f128 := Tryd.func131.trans (congrArg some (by kernel_rfl))
  f129 := Tryd.func132.trans (congrArg some (by kernel_rfl))
  t3 := Tryd.underlying3
  a3 := Tryd.isAgg3
  z3 := Tryd.sizeOf3
  v3 := Tryd.zeroValue3
  t4 := Tryd.underlying4
  a4 := Tryd.isAgg4
  z4 := Tryd.sizeOf4
  v4 := Tryd.zeroValue4
  t5 := Tryd.underlying5
  a5 := Tryd.isAgg5
  z5 := Tryd.sizeOf5
  v5 := Tryd.zeroValue5
  t9 := Tryd.underlying9
  a9 := Tryd.isAgg9
  z9 := Tryd.sizeOf9
  v9 := Tryd.zeroValue9
  t46 := Tryd.underlying127
  a46 := Tryd.isAgg127
  z46 := Tryd.sizeOf127
  v46 := Tryd.zeroValue127
  t51 := Tryd.underlying149
  a51 := Tryd.isAgg149
  z51 := Tryd.sizeOf149
  v51 := Tryd.zeroValue149
  t53 := Tryd.underlying151
  a53 := Tryd.isAgg151
  z53 := Tryd.sizeOf151
  v53 := Tryd.zeroValue151 }
/-- bits.Len: "Len returns the minimum number of bits required to represent x; the result is 0 for x == 0.": IT RETURNS 'Lib.bitLen x'; the world is as it was. (A uint has 64 bits in the model.) ITS CALLEE bits.Len64 IS MET BY ITS OWN CONTRACT OFF THE SHELF (lay that first). (LAID: no walk: one application.) -/
theorem Tryd.bits_Len (x : Int) (w : World) (h0 : 0 ≤ x) (h1 : x ≤ 18446744073709551615) :
    Calls Tryd.prog 103 #[.int .u64 x] w fun e w' => e = .returned (.int .i64 (Lib.bitLen x.toNat)) ∧ w' = w := Any.bits_Len Tryd.lays125 x w h0 h1
def Tryd.lays129_ren : Go.Shelf.Ren := ⟨fun | 129 => 132 | n => n, fun | 53 => 151 | 3 => 3 | 4 => 4 | 46 => 127 | 5 => 5 | 9 => 9 | n => n, fun | n => n⟩
theorem Tryd.lays129 : Go.Proofs.Lays.n129 Tryd.prog Tryd.lays129_ren := {
  mixed := by kernel_rfl
  f129 := Tryd.func132.trans (congrArg some (by kernel_rfl))
  t3 := Tryd.underlying3
  a3 := Tryd.isAgg3
  z3 := Tryd.sizeOf3
  v3 := Tryd.zeroValue3
  t4 := Tryd.underlying4
  a4 := Tryd.isAgg4
  z4 := Tryd.sizeOf4
  v4 := Tryd.zeroValue4
  t5 := Tryd.underlying5
  a5 := Tryd.isAgg5
  z5 := Tryd.sizeOf5
  v5 := Tryd.zeroValue5
  t9 := Tryd.underlying9
  a9 := Tryd.isAgg9
  z9 := Tryd.sizeOf9
  v9 := Tryd.zeroValue9
  t46 := Tryd.underlying127
  a46 := Tryd.isAgg127
  z46 := Tryd.sizeOf127
  v46 := Tryd.zeroValue127
  t53 := Tryd.underlying151
  a53 := Tryd.isAgg151
  z53 := Tryd.sizeOf151
  v53 := Tryd.zeroValue151 }
/-- bits.Len64: "Len64 returns the minimum number of bits required to represent x; the result is 0 for x == 0.": IT RETURNS 'Lib.bitLen x'; the world is as it was. ('h0', 'h1': x is a uint64.) (LAID: no walk: one application.) -/
theorem Tryd.bits_Len64 (x : Int) (w : World) (h0 : 0 ≤ x) (h1 : x ≤ 18446744073709551615) :
    Calls Tryd.prog 132 #[.int .u64 x] w fun e w' => e = .returned (.int .i64 (Lib.bitLen x.toNat)) ∧ w' = w := Any.bits_Len64 Tryd.lays129 x w h0 h1
def Tryd.lays189_ren : Go.Shelf.Ren := ⟨fun | 189 => 64 | 125 => 103 | 257 => 105 | 128 => 131 | 129 => 132 | 294 => 134 | 295 => 135 | 296 => 136 | 297 => 137 | 298 => 138 | 299 => 139 | 216 => 140 | 300 => 141 | 301 => 142 | 328 => 153 | 329 => 149 | 330 => 150 | 331 => 154 | 332 => 155 | 215 => 133 | 343 => 157 | n => n, fun | 28 => 25 | 3 => 3 | 46 => 127 | 0 => 0 | 51 => 149 | 53 => 151 | 4 => 4 | 183 => 143 | 182 => 142 | 131 => 56 | 5 => 5 | 9 => 9 | 218 => 160 | 222 => 164 | 228 => 169 | 229 => 170 | n => n, fun | n => n⟩
theorem Tryd.lays189 : Go.Proofs.Lays.n189 Tryd.prog Tryd.lays189_ren := {
  mixed := by kernel_rfl
  f125 := Tryd.func103.trans (congrArg some (by kernel_rfl))
  f128 := Tryd.func131.trans (congrArg some (by kernel_rfl))
  f129 := Tryd.func132.trans (congrArg some (by kernel_rfl))
  f189 := Tryd.func64.trans (congrArg some (by kernel_rfl))
  f215 := Tryd.func133.trans (congrArg some (by kernel_rfl))
  f216 := Tryd.func140.trans (congrArg some (by kernel_rfl))
  f257 := Tryd.func105.trans (congrArg some (by kernel_rfl))
  f294 := Tryd.func134.trans (congrArg some (by kernel_rfl))
  f295 := Tryd.func135.trans (congrArg some (by kernel_rfl))
  f296 := Tryd.func136.trans (congrArg some (by kernel_rfl))
  f297 := Tryd.func137.trans (congrArg some (by kernel_rfl))
  f298 := Tryd.func138.trans (congrArg some (by kernel_rfl))
  f299 := Tryd.func139.trans (congrArg some (by kernel_rfl))
  f300 := Tryd.func141.trans (congrArg some (by kernel_rfl))
  f301 := Tryd.func142.trans (congrArg some (by kernel_rfl))
  f328 := Tryd.func153.trans (congrArg some (by kernel_rfl))
  f329 := Tryd.func149.trans (congrArg some (by kernel_rfl))
  f330 := Tryd.func150.trans (congrArg some (by kernel_rfl))
  f331 := Tryd.func154.trans (congrArg some (by kernel_rfl))
  f332 := Tryd.func155.trans (congrArg some (by kernel_rfl))
  f343 := Tryd.func157.trans (congrArg some (by kernel_rfl))
  t0 := Tryd.underlying0
  a0 := Tryd.isAgg0
  z0 := Tryd.sizeOf0
  v0 := Tryd.zeroValue0
  t3 := Tryd.underlying3
  a3 := Tryd.isAgg3
  z3 := Tryd.sizeOf3
  v3 := Tryd.zeroValue3
  t4 := Tryd.underlying4
  a4 := Tryd.isAgg4
  z4 := Tryd.sizeOf4
  v4 := Tryd.zeroValue4
  t5 := Tryd.underlying5
  a5 := Tryd.isAgg5
  z5 := Tryd.sizeOf5
  v5 := Tryd.zeroValue5
  t9 := Tryd.underlying9
  a9 := Tryd.isAgg9
  z9 := Tryd.sizeOf9
  v9 := Tryd.zeroValue9
  t28 := Tryd.underlying25
  a28 := Tryd.isAgg25
  z28 := Tryd.sizeOf25
  v28 := Tryd.zeroValue25
  t46 := Tryd.underlying127
  a46 := Tryd.isAgg127
  z46 := Tryd.sizeOf127
  v46 := Tryd.zeroValue127
  t51 := Tryd.underlying149
  a51 := Tryd.isAgg149
  z51 := Tryd.sizeOf149
  v51 := Tryd.zeroValue149
  t53 := Tryd.underlying151
  a53 := Tryd.isAgg151
  z53 := Tryd.sizeOf151
  v53 := Tryd.zeroValue151
  t131 := Tryd.underlying56
  a131 := Tryd.isAgg56
  z131 := Tryd.sizeOf56
  v131 := Tryd.zeroValue56
  t182 := Tryd.underlying142
  a182 := Tryd.isAgg142
  z182 := Tryd.sizeOf142
  v182 := Tryd.zeroValue142
  t183 := Tryd.underlying143
  a183 := Tryd.isAgg143
  z183 := Tryd.sizeOf143
  v183 := Tryd.zeroValue143
  t218 := Tryd.underlying160
  a218 := Tryd.isAgg160
  z218 := Tryd.sizeOf160
  v218 := Tryd.zeroValue160
  t222 := Tryd.underlying164
  a222 := Tryd.isAgg164
  z222 := Tryd.sizeOf164
  v222 := Tryd.zeroValue164
  t228 := Tryd.underlying169
  a228 := Tryd.isAgg169
  z228 := Tryd.sizeOf169
  v228 := Tryd.zeroValue169
  t229 := Tryd.underlying170
  a229 := Tryd.isAgg170
  z229 := Tryd.sizeOf170
  v229 := Tryd.zeroValue170 }
open Go.Sort Go.RowKit in
theorem Tryd.slices_Sort_int (blk off cap : Nat) (zs : List Int) (w : World) (hH : Holds (Value.int .i64) w blk off zs.toArray) (hblk : blk < w.heap.size) (hsz : zs.length < 4611686018427387904) :
    Calls Tryd.prog 64 #[.slice (some ⟨blk, off, none⟩) zs.length cap] w fun e w' =>
      e = .returned (.tuple #[]) ∧ ∃ n os, w' = grow (putRow (Value.int .i64) (Sort.ahead w n) blk off (zs.mergeSort fun x y => decide (x ≤ y)).toArray) os := Any.slices_Sort_int Tryd.lays189 blk off cap zs w hH hblk hsz
def Tryd.laysNm237_ren : Go.Shelf.Ren := ⟨fun | 37 => 133 | n => n, fun | 3 => 3 | 4 => 4 | n => n, fun | n => n⟩
theorem Tryd.laysNm237 : Go.Proofs.Lays2.n37 Tryd.prog Tryd.laysNm237_ren := {
  mixed := by kernel_rfl
  f37 := Tryd.func133.trans (congrArg some (by kernel_rfl))
  t3 := Tryd.underlying3
  a3 := Tryd.isAgg3
  z3 := Tryd.sizeOf3
  v3 := Tryd.zeroValue3
  t4 := Tryd.underlying4
  a4 := Tryd.isAgg4
  z4 := Tryd.sizeOf4
  v4 := Tryd.zeroValue4 }
open Go.RowKit Go.Lib in
/-- cmp.isNaN[int]: 'x != x': false. (LAID: no walk: one application.) -/
theorem Tryd.cmp_isNaN_int2 (x : Int) (w : World) :
    Calls Tryd.prog 133 #[.int .i64 x] w fun e w' => e = .returned (.bool false) ∧ w' = w := Any.cmp_isNaN_int2 Tryd.laysNm237 x w
def Tryd.laysNm231_ren : Go.Shelf.Ren := ⟨fun | 31 => 140 | 37 => 133 | n => n, fun | 3 => 3 | 4 => 4 | n => n, fun | n => n⟩
theorem Tryd.laysNm231 : Go.Proofs.Lays2.n31 Tryd.prog Tryd.laysNm231_ren := {
  mixed := by kernel_rfl
  f31 := Tryd.func140.trans (congrArg some (by kernel_rfl))
  f37 := Tryd.func133.trans (congrArg some (by kernel_rfl))
  t3 := Tryd.underlying3
  a3 := Tryd.isAgg3
  z3 := Tryd.sizeOf3
  v3 := Tryd.zeroValue3
  t4 := Tryd.underlying4
  a4 := Tryd.isAgg4
  z4 := Tryd.sizeOf4
  v4 := Tryd.zeroValue4 }
open Go.RowKit Go.Lib in
/-- cmp.Less[int]: "Less reports whether x is less than y.": 'x < y'; the world is as it was. (LAID: no walk: one application.) -/
theorem Tryd.cmp_Less_int2 (x y : Int) (w : World) :
    Calls Tryd.prog 140 #[.int .i64 x, .int .i64 y] w fun e w' => e = .returned (.bool (decide (x < y))) ∧ w' = w := Any.cmp_Less_int2 Tryd.laysNm231 x y w
end Go.Proofs

/- The program's inOrder: the members of a set, rising. -/

namespace Go.Proofs.YtjfhkcoiomokoaaDoor
open Go.RowKit
open Go.Sort (Holds putRow putCells grow)

set_option maxRecDepth 20000 in
set_option maxHeartbeats 1000000 in
theorem inOrder_any (b : Nat) (S : Int → Bool) (w : World) (hS : SetM w b S) : Calls Tryd.prog 78 #[.map (some b)] w (GaveS w S) := by
  obtain ⟨i0, hi0, hz0, hz1, hz2⟩ := info_of Tryd.infoInt
  have hbl := hS.map.lt
  obtain ⟨m, hm6, hlen⟩ : ∃ m : Nat, m ≤ 40 ∧ ∀ ty, (Builtin.len_ #[100] ty #[.map (some b)]).run Tryd.prog w = .ok (.int .i64 m) w := by
    obtain ⟨D, h1, _⟩ := hS.map
    exact ⟨_, h1.size_le, fun ty => h1.len Tryd.underlying100 ty⟩
  have HS := Lib.hid hS; clear hS
  have HF : Hid (∀ x, (fun x => (if S x then some (Value.bool true) else none).isSome) x = S x) := fun x => by cases h : S x <;> simp [h]
  go_enter Tryd.func78, Tryd.ntmps78
  go_wp2_with (first
    | (at_make
       refine wpList_make_own _ rfl _ _ 25 rfl w.heap.size 3 i0 (.int .i64 0) 1 Tryd.underlying25 hi0 hz0 hz1 _ _ _ m rfl rfl rfl (by rw [hz2]; omega) (by unfold maxLen; omega) (Nat.le_refl _) ?_
       intro w1 h1 h2
       have HR1 := Lib.hid h1
       have HB1 := Lib.hid (below_grown h2)
       have HS1 := Lib.hid (HS.out.keep HB1.out)
       clear h1 h2)
    | (at_range
       refine wpList_range_map _ rfl _ _ rfl _ Tryd.underlying100 b 40 _ rfl HS1.out.map ?_
       intro w2 cnt h1 h2 h3 h4
       have HR2 := Lib.hid h1
       have HB2 := Lib.hid h3
       clear h1 h2 h3 h4))
  try go_frame
  have HW2 : Hid (Below w.heap.size w w2) := HB1.out.trans (HB2.out.mono HB1.out.size)
  have HO2 := Lib.hid (own_below HR1.out HB2.out)
  have hw1 : w.heap.size ≤ w1.heap.size := HB1.out.size
  clear hlen
  go_loopg [3] cnt (fun g v wr => ∃ (left : Int → Bool) (xs : List Int), Hid (Rng wr b w1.heap.size 40 (fun x => if S x then some (.bool true) else none) left g) ∧ Hid (wr.ownsRow w.heap.size 3 1 v xs.length (xs.map fun y => Value.int .i64 y)) ∧ Hid (v ≠ .slice none 0 0) ∧ Hid (xs.Nodup ∧ ∀ x, x ∈ xs ↔ (S x = true ∧ left x = false)) ∧ Hid (Below w.heap.size w wr))
  case atStart =>
    refine ⟨_, [], HR2.out, HO2.out, (fun h => by cases h), ⟨List.nodup_nil, fun x => ?_⟩, HW2.out⟩
    rw [HF.out x]
    cases S x <;> simp
  case round =>
    obtain ⟨left, xs, HR, HO, HNN, HC, HB⟩ := hrel
    clear HR2 HO2 HW2 HS1 HR1
    have hx6 : xs.length ≤ 40 := len6 HC.out.1 (fun x hx => ((HC.out.2 x).1 hx).1) HS.out.fits
    have hws : w.heap.size ≤ wr.heap.size := HB.out.size
    go_wp2_with (at_next
                 refine wpList_next_rng _ rfl _ rfl b w1.heap.size 40 _ _ _ rfl HR.out ?_ ?_)
    · intro _ hl0
      rcases HO.out.2 with ⟨hnil, _⟩ | ⟨g, cap, cur, rfl, hbase, hb, h1, h2, h3, h4⟩
      · exact absurd hnil HNN.out
      have hgl : g < wr.heap.size := (Array.getElem?_eq_some_iff.1 hb).1
      have hH : Holds (Value.int .i64) wr g 0 xs.toArray := holdsI hb (by simpa using h4)
      have HCL := Lib.hid (Tryd.slices_Sort_int g 0 cap xs wr hH hgl (by omega))
      have HRW : Hid (wr.heap[g]? = some (.cells cur 3 (0, 0))) := hb
      have HSZ : Hid (xs.length ≤ cur.size) := by show _ ≤ _; omega
      have HBS := Lib.hid hbase
      have HL0 := Lib.hid hl0
      have hgb : g ≠ b := fun e => by omega
      clear hb h1 h2 h3 h4 hH hl0 hbase
      go_wp2_with fail
      refine HCL.out.mono ?_
      rintro e w3 ⟨rfl, nn, os, hw3⟩
      have HV3 : Hid (Save (· = g) wr w3) := by show Save _ _ _; rw [hw3]; exact save_sortedI _
      have HR3 : Hid (Row w3 g 3 (putCells (Value.int .i64) 0 (xs.mergeSort fun x y => decide (x ≤ y)).toArray cur)) := by
        show w3.heap[g]? = _
        rw [hw3]
        exact heap_sortedI _ HRW.out
      clear hw3 HCL HRW
      go_wp2
      go_ret
      refine ⟨xs.mergeSort fun x y => decide (x ≤ y), rises_sort HC.out.1, fun x => ?_, some ⟨g, 0, none⟩, cap, by rw [List.length_mergeSort]; rfl, .inr ⟨g, _, rfl, HBS.out, HR3.out, fun k x hk => ?_⟩, HB.out.trans (HV3.out.below HB.out.size fun i hi e => by have := HBS.out; omega)⟩
      · rw [List.mem_mergeSort, HC.out.2 x, HL0.out x]
        simp
      · have ht := take_putI cur (xs.mergeSort fun x y => decide (x ≤ y)) (by rw [List.length_mergeSort]; exact HSZ.out)
        have hk' := (List.getElem?_eq_some_iff.1 hk).1
        have e2 := congrArg (fun l => l[k]?) ht
        simp only [List.getElem?_map, hk, Option.map_some] at e2
        rw [List.getElem?_take_of_lt hk', Array.getElem?_toList] at e2
        exact e2
    · intro x v w2' cnt2 hx hl hsx hve hR hlt hSv hsz hen
      subst hve
      have HLT := Lib.hid hlt
      have HR3 := Lib.hid hR
      have HV3 := Lib.hid hSv
      have HNX : Hid ((xs ++ [x]).Nodup ∧ ∀ y, y ∈ xs ++ [x] ↔ (S y = true ∧ strike left x y = false)) := by
        have hnx : x ∉ xs := fun h => by
          have := ((HC.out.2 x).1 h).2
          rw [hl] at this
          cases this
        refine ⟨List.nodup_append.2 ⟨HC.out.1, by simp, fun a ha c hc => by simp at hc; subst hc; exact fun e => hnx (e ▸ ha)⟩, fun y => ?_⟩
        rw [List.mem_append, HC.out.2 y]
        by_cases e : y = x
        · subst e
          simp [strike_same, hsx]
        · rw [strike_other e]
          simp [e]
      have HO3 := Lib.hid (own_saveB HO.out hSv fun g hg (e : g = w1.heap.size) => own_ne_rng HO.out HR.out (by rw [hg, e]))
      have hsz2 : w.heap.size ≤ w2'.heap.size := by omega
      have HW := Lib.hid (HO3.out.alloc (.cells #[.int .i64 x] 3))
      have HNW := Lib.hid (cell_one_new w2' (.int .i64 x) 3)
      have HB3 : Hid (Below w.heap.size w w2') := HB.out.trans (HV3.out.below HB.out.size fun i hi e => by omega)
      clear hR hSv hlt hsz hl
      go_wp2_with (at_builtin
                   refine wpList_append_own _ rfl _ _ _ rfl w.heap.size 3 i0 _ 1 8 Tryd.underlying25 hi0 hz0 hz1 hz2 rfl (by omega) _ _ _ rfl HW.out ⟨w2'.heap.size, 0, none⟩ 1 1 [.int .i64 x] rfl rfl HNW.out (by intro u hu; simp at hu; subst hu; rfl) (by unfold maxLen; omega) (by omega) (by simp; omega) ?_
                   intro v' w' h1 h2 h3
                   have HO1 := Lib.hid h1
                   have HG1 := Lib.hid h2
                   have HN1 := Lib.hid h3
                   clear h1 h2 h3)
      go_roundg cnt2
      case measure => exact HLT.out
      case rel =>
        have hbA : Below w2'.heap.size w2' (w2'.alloc (.cells #[.int .i64 x] 3)) := (Below.refl _ _).alloc (Nat.le_refl _) _
        refine ⟨strike left x, xs ++ [x], (HR3.out.keep hbA).save (save_row HG1.out) ?_ ?_, (by show World.ownsRow _ _ _ _ _ _ _; simpa using HO1.out), fun hv' => ?_, HNX.out, ?_⟩
        · intro e
          have := (HO3.out.lt _ e.symm).1
          omega
        · exact own_ne_rng (HO3.out) HR3.out
        · have := (HN1.out.1 hv').2
          simp at this
        · exact (HB3.out.alloc (by omega) _).grown HG1.out (by simp; omega) fun j hj => (HO3.out.lt j hj).1

end Go.Proofs.YtjfhkcoiomokoaaDoor

/- What the functions that tell the members of a set answer. -/

namespace Go.Proofs.YtjfhkcoiomokoaaDoor
open Go.RowKit

/-- Where g, a new rising list of just the members of a set of which P holds; else none. -/
def GaveP (w : World) (g : Bool) (P : (Int → Bool) → Prop) (e : Ending) (w' : World) : Prop :=
  ∃ ys, (g = true → ∃ S, P S ∧ Rises ys ∧ ∀ x, x ∈ ys ↔ S x = true) ∧ (g = false → ys = []) ∧ ys.length ≤ 40 ∧ GaveIB w ys g e w'

theorem same_list {g : Bool} {P : (Int → Bool) → Prop} {ys zs : List Int} (uniq : ∀ S T, P S → P T → S = T) (h1 : g = true → ∃ S, P S ∧ Rises ys ∧ ∀ x, x ∈ ys ↔ S x = true) (h2 : g = false → ys = [])
    (k1 : g = true → ∃ S, P S ∧ Rises zs ∧ ∀ x, x ∈ zs ↔ S x = true) (k2 : g = false → zs = []) : ys = zs := by
  cases g
  · rw [h2 rfl, k2 rfl]
  · obtain ⟨S, a1, a2, a3⟩ := h1 rfl
    obtain ⟨T, b1, b2, b3⟩ := k1 rfl
    have e := uniq S T a1 b1
    subst e
    exact rises_unique a2 b2 fun x => (a3 x).trans (b3 x).symm

/-- S are the growing ones. -/
def IsGrow (ss : List (Int × List Int)) (S : Int → Bool) : Prop := ∃ P, IsLeast wayProd noS ss P ∧ IsLeast (wayGrow P) noS ss S
theorem isGrow_unique {ss : List (Int × List Int)} {S T : Int → Bool} (h : IsGrow ss S) (k : IsGrow ss T) : S = T := by
  obtain ⟨P, h1, h2⟩ := h
  obtain ⟨Q, k1, k2⟩ := k
  have e := h1.unique k1
  subst e
  exact h2.unique k2

end Go.Proofs.YtjfhkcoiomokoaaDoor

/- The program's BinaryNull. -/

namespace Go.Proofs.YtjfhkcoiomokoaaDoor
open Go.RowKit

/-- Rules whose least set of nonterminals that derive nothing can be told: not too many, of small numbers. -/
structure SmallR (ss : List (Int × List Int)) : Prop where
  len : ss.length ≤ 1048576
  left : ∀ r ∈ ss, 0 ≤ r.1 ∧ r.1 < 40
  fit : ∀ r ∈ ss, ∀ x ∈ r.2, F64 x
  short : ∀ r ∈ ss, r.2.length ≤ 4

set_option maxRecDepth 20000 in
set_option maxHeartbeats 1000000 in
theorem nullB_any (A : Option Addr) (c : Nat) (rs : List Ru) (w : World) (hx : Rls w w.heap.size A rs) (hs : SmallR (rs.map Ru.abs)) :
    Calls Tryd.prog 79 #[.slice A rs.length c] w (GaveSet w (IsLeast wayNull noS (rs.map Ru.abs))) := by
  have hA : AddsFit wayNull (rs.map Ru.abs) := fun r hr y hy => by
    have e : y = r.1 := by simpa [wayNull] using hy
    subst e
    exact hs.left r hr
  have HC := Lib.hid (closeLefts_any wayNull (fun _ => rfl) A c rs hA 113 #[] (fun _ => True) w hx (by have h := hs.len; rw [List.length_map] at h; exact h) enter_null trivial (fun _ _ _ _ => trivial) fun b _ v S u _ hS hI hm => by
    have h := allNull_any b S u.a u.r u.c v hS hI (hs.fit _ hm) (hs.short _ hm)
    exact h.mono fun e v' ⟨h1, h2⟩ => ⟨h1, by subst h2; exact Below.refl _ _⟩)
  clear hx hs hA
  go_enter Tryd.func79, Tryd.ntmps79
  go_wp2_with fail
  refine HC.out.mono ?_
  rintro e w1 ⟨b, S, rfl, h1, h2, h3, h4⟩
  have H1 := Lib.hid h1; have H2 := Lib.hid h2; have H3 := Lib.hid h3; have H4 := Lib.hid h4
  clear h1 h2 h3 h4
  go_wp2
  go_ret
  exact ⟨b, S, rfl, H1.out, H2.out, H3.out, H4.out⟩

theorem nonB_small {n x : Int} (h : nonB n x = true) (hn : n ≤ 40) : 0 ≤ x ∧ x < 40 := by have := nonB_is h; omega
theorem goodB_lefts {s : Bs} (h : GoodBs s) : ∀ r ∈ bRules s.P s.O s.E, 0 ≤ r.1 ∧ r.1 < 40 := by
  have hn := h.1.2
  have one : ∀ {n t long : Int} {xs : List (List Int)}, GoodLs n t long xs → n ≤ 40 → 2 ≤ long → ∀ x ∈ xs, 0 ≤ (ruleOf x).1 ∧ (ruleOf x).1 < 40 := by
    intro n t long xs hg hn hl x hx
    obtain ⟨k, hk, e⟩ := List.getElem_of_mem hx
    have h1 := hg.2.1 k x hk (by rw [← e]; exact List.getElem?_eq_getElem hk)
    have h2 := long_mem hg.1 hx
    rcases x with _ | ⟨y, x⟩
    · simp at h2; omega
    · exact nonB_small h1.1 hn
  intro r hr
  unfold bRules at hr
  rcases List.mem_append.1 hr with hr | hr
  · obtain ⟨x, hx, rfl⟩ := List.mem_map.1 hr
    rcases List.mem_append.1 hx with hx | hx
    · exact one h.2.2.1 hn (by omega) x hx
    · exact one h.2.2.2.1 hn (by omega) x hx
  · obtain ⟨x, hx, rfl⟩ := List.mem_map.1 hr
    obtain ⟨k, hk, e⟩ := List.getElem_of_mem hx
    exact nonB_small (h.2.2.2.2.1.1 k x hk (by rw [← e]; exact List.getElem?_eq_getElem hk)) hn
theorem smallB {b : Bi} (h : GoodBs b.say) (ht : b.P.length + b.O.length + b.E.length ≤ 1048576) (hf : FitB b.say) : SmallR (bRules (sayL b.P) (sayL b.O) b.E) := by
  refine ⟨by rw [bRules_len, sayL_len, sayL_len]; exact ht, goodB_lefts h, fun r hr x hx => ?_, fun r hr => ?_⟩
  · unfold bRules at hr
    rcases List.mem_append.1 hr with hr | hr
    · obtain ⟨y, hy, rfl⟩ := List.mem_map.1 hr
      have hx' : x ∈ y := List.mem_of_mem_tail hx
      rcases List.mem_append.1 hy with hy | hy
      · exact hf.1 y hy x hx'
      · exact hf.2.1 y hy x hx'
    · obtain ⟨y, _, rfl⟩ := List.mem_map.1 hr
      cases hx
  · unfold bRules at hr
    rcases List.mem_append.1 hr with hr | hr
    · obtain ⟨y, hy, rfl⟩ := List.mem_map.1 hr
      show y.tail.length ≤ 4
      rw [List.length_tail]
      rcases List.mem_append.1 hy with hy | hy
      · have := long_mem h.2.2.1.1 hy; omega
      · have := long_mem h.2.2.2.1.1 hy; omega
    · obtain ⟨y, _, rfl⟩ := List.mem_map.1 hr
      simp

set_option maxRecDepth 20000 in
set_option maxHeartbeats 1000000 in
theorem implNull_any (b : Bi) (w : World) (hx : ReadB w w.heap.size b) (hL : Lims w) (hm : LenB 1048576 b) (ht : b.P.length + b.O.length + b.E.length ≤ 1048576) (hf : FitB b.say) :
    Calls Tryd.prog 40 #[(.agg #[.int .i64 b.n, .int .i64 b.t, .slice b.Ap b.P.length b.cp, .slice b.Ao b.O.length b.co, .slice b.Ae b.E.length b.ce, .slice b.Af b.F.length b.cf])] w (GaveP w (bP (GoodBs b.say)) (IsLeast wayNull noS (bRules (sayL b.P) (sayL b.O) b.E))) := by
  have HX := Lib.hid hx; clear hx
  have HL := Lib.hid hL; clear hL
  have HF := Lib.hid hf; clear hf
  have HM := Lib.hid hm; clear hm
  have HB0 : Hid (Below w.heap.size w (w.alloc (.cells #[.int .i64 b.n, .int .i64 b.t, .slice b.Ap b.P.length b.cp, .slice b.Ao b.O.length b.co, .slice b.Ae b.E.length b.ce, .slice b.Af b.F.length b.cf] 45))) := by show Below _ _ _; go_grown
  have B0 := Lib.hid (Box6.new w b 45)
  have HC := Lib.hid (implGoodB_any b (w.alloc (.cells #[.int .i64 b.n, .int .i64 b.t, .slice b.Ap b.P.length b.cp, .slice b.Ao b.O.length b.co, .slice b.Ae b.E.length b.ce, .slice b.Af b.F.length b.cf] 45)) ((HX.out.keep HB0.out).more HB0.out.size) (HL.out.keep HB0.out (Nat.le_refl _)) HM.out HF.out)
  go_enter Tryd.func40, Tryd.ntmps40
  go_wp2_with fail
  refine HC.out.mono ?_
  rintro e w1 ⟨rfl, hB1⟩
  have B1 := Lib.hid (B0.out.keep hB1 B0.out.1)
  have HB1 := Lib.hid (HB0.out.trans (hB1.mono HB0.out.size)); clear hB1
  clear B0 HB0 HC
  cases hg : bP (GoodBs b.say)
  · have HG := Lib.hid hg
    clear hg
    go_wp2
    go_ret2
    rw [HG.out]
    exact ⟨[], fun h => (by cases h), fun _ => rfl, by simp, none, 0, rfl, .inl rfl, HB1.out⟩
  · have HGB : Hid (GoodBs b.say) := bP_is hg
    have HG := Lib.hid hg
    have HSM := Lib.hid (smallB HGB.out ht HF.out)
    clear hg
    obtain ⟨_, b0, b1, b2, b3, b4, b5⟩ := B1.out
    go_wp2_with fail
    refine (binaryRules_any b w.heap.size w1 HB1.out.size (HX.out.keep HB1.out) HM.out (goodB_long HGB.out)).mono ?_
    rintro e w2 ⟨v2, rs2, rfl, hO2, hD2, hB2⟩
    have hsz1 := HB1.out.size
    obtain ⟨A2, c2, rfl, hcap2, hRl⟩ := rls_of hD2 rfl hO2 (hB2.mono hsz1) (Nat.le_trans hsz1 hB2.size)
    have HRl := Lib.hid hRl
    have HSY := Lib.hid hD2.say
    have HB2 := Lib.hid (HB1.out.trans (hB2.mono hsz1))
    clear hO2 hD2 hB2 hRl b0 b1 b2 b3 b4 b5
    go_wp2_with fail
    refine (nullB_any A2 c2 rs2 w2 HRl.out (by rw [HSY.out]; exact HSM.out)).mono ?_
    rintro e w3 ⟨q, S, rfl, hq, hS, hI, hB3⟩
    have HS := Lib.hid hS
    have HI : Hid (IsLeast wayNull noS (bRules (sayL b.P) (sayL b.O) b.E) S) := by rw [HSY.out] at hI; exact hI
    have HB3 := Lib.hid (HB2.out.trans (hB3.mono HB2.out.size))
    clear hS hI hB3
    go_wp2_with fail
    refine (inOrder_any q S w3 HS.out).mono ?_
    rintro e w4 ⟨ys, hr, hm, A4, c4, rfl, hO4, hB4⟩
    have HR := Lib.hid hr
    have HMM := Lib.hid hm
    have HO4 := Lib.hid (hO4.lower HB3.out.size)
    have HB4 := Lib.hid (HB3.out.trans (hB4.mono HB3.out.size))
    have hl : ys.length ≤ 40 := len6 (S := S) (hr.imp fun h => by omega) (fun x hx => (hm x).1 hx) HS.out.fits
    clear hr hm hO4 hB4
    go_wp2
    go_ret2
    rw [HG.out]
    exact ⟨ys, fun _ => ⟨S, HI.out, HR.out, HMM.out⟩, fun h => (by cases h), hl, A4, c4, rfl, HO4.out, HB4.out⟩

end Go.Proofs.YtjfhkcoiomokoaaDoor

/- What the reference's checks of a binary grammar answer: l5Less, l5Symbol, l5Rising, l1Rising, GoodBinary. -/

namespace Go.Proofs.YtjfhkcoiomokoaaDoor
open Go.RowKit
open Go.Sort (grow)

set_option maxHeartbeats 400000 in
theorem l5Symbol_any (b : Bi) (x : Int) (w : World) (hn : 1 ≤ b.n) (hn' : b.n ≤ 40) (ht : 1 ≤ b.t) (ht' : b.t ≤ 4) :
    Calls Tryd.prog 107 #[(.agg #[.int .i64 b.n, .int .i64 b.t, .slice b.Ap b.P.length b.cp, .slice b.Ao b.O.length b.co, .slice b.Ae b.E.length b.ce, .slice b.Af b.F.length b.cf]), .int .i64 x] w fun e w' => e = .returned (.bool (symB b.n b.t x)) ∧ Below w.heap.size w w' := by
  have HS := Lib.hid (sym_in (x := x) hn ht)
  go_enter Tryd.func107, Tryd.ntmps107
  go_wp2_with fail
  refine (l1In_any _ _ _ _).mono ?_
  rintro e w1 ⟨rfl, rfl⟩
  go_wp2
  go_ret
  exact ⟨ret_b HS.out, by go_grown⟩

set_option maxHeartbeats 400000 in
theorem l5Less_any (A A' : Option Addr) (xs ys : List Int) (c c' : Nat) (w : World) (hx : Ints w w.heap.size A xs) (hy : Ints w w.heap.size A' ys) (h1 : xs.length ≤ 1048576) (hl1 : xs.length ≤ ys.length) (hl2 : ys.length ≤ xs.length) :
    Calls Tryd.prog 106 #[.slice A xs.length c, .slice A' ys.length c'] w fun e w' => e = .returned (.bool (bP (cmpL xs ys < 0))) ∧ Below w.heap.size w w' := by
  have HX := Lib.hid hx; clear hx
  have HY := Lib.hid hy; clear hy
  go_enter Tryd.func106, Tryd.ntmps106
  go_wp2
  go_loopw [8] (fun i wr => ∃ (k : Nat), k ≤ xs.length ∧ i = .int .i64 k ∧ Below w.heap.size w wr ∧ Hid (cmpL xs ys = cmpL (xs.drop k) (ys.drop k))) (fun i _ => xs.length - (intOf i).toNat)
  case atStart => exact ⟨0, by omega, rfl, Below.refl _ _, rfl⟩
  case round =>
    obtain ⟨k, hk, rfl, hB, H⟩ := hrel
    by_cases hlt : k < xs.length
    · have hlt' : k < ys.length := by omega
      obtain ⟨b, o, rfl, hb, c1⟩ := (HX.out.keep hB).at_ hlt
      obtain ⟨b', o', rfl, hb', c2⟩ := (HY.out.keep hB).at_ hlt'
      have HD := Lib.hid (cmpL_drop hlt hlt')
      rcases Int.lt_trichotomy xs[k] ys[k] with h | h | h
      · have HN : Hid (bP (cmpL xs ys < 0) = true) := bP_t (by rw [H.out, HD.out, if_pos h]; omega)
        have ht : (xs[k] != ys[k]) = true := bne_t (by omega)
        go_wp2
        go_quiet (fail)
        go_wp2
        go_quiet (fail)
        go_wp2
        go_ret
        exact ⟨ret_b HN.out.symm, below_drewN (below_drewN hB _) _⟩
      · have HN : Hid (cmpL xs ys = cmpL (xs.drop (k + 1)) (ys.drop (k + 1))) := by
          show _ = _
          rw [H.out, HD.out, if_neg (by omega), if_neg (by omega)]
        have ht : (xs[k] != ys[k]) = false := bne_f h
        clear h
        go_wp2
        go_quiet (fail)
        go_wp2
        go_roundw
        case rel => exact ⟨k + 1, by omega, by go_num, below_drewN hB _, HN.out⟩
        case measure => simp [intOf]; omega
      · have HN : Hid (bP (cmpL xs ys < 0) = false) := bP_f (by rw [H.out, HD.out, if_neg (by omega), if_pos h]; omega)
        have ht : (xs[k] != ys[k]) = true := bne_t (by omega)
        have hlt2 : ¬ xs[k] < ys[k] := by omega
        have HD2 : Hid (decide (xs[k] < ys[k]) = bP (cmpL xs ys < 0)) := (decide_eq_false hlt2).trans HN.out.symm
        clear h
        go_wp2
        go_quiet (fail)
        go_wp2
        go_quiet (fail)
        go_wp2
        go_ret
        exact ⟨ret_b HD2.out, below_drewN (below_drewN hB _) _⟩
    · have HN : Hid (bP (cmpL xs ys < 0) = false) := bP_f (by rw [H.out, cmpL_end hlt (by omega)]; omega)
      go_wp2
      go_ret
      exact ⟨ret_b HN.out.symm, hB⟩

set_option maxRecDepth 20000 in
set_option maxHeartbeats 400000 in
theorem l1Rising_any (A : Option Addr) (xs : List Int) (c : Nat) (n : Int) (w : World) (hx : Ints w w.heap.size A xs) (h1 : xs.length ≤ 1048576) :
    Calls Tryd.prog 68 #[.slice A xs.length c, .int .i64 0, .int .i64 (n - 1)] w fun e w' => e = .returned (.bool (bP (GoodE n xs))) ∧ Below w.heap.size w w' := by
  have HX := Lib.hid hx; clear hx
  go_enter Tryd.func68, Tryd.ntmps68
  go_wp2
  go_loopw [11] (fun i wr => ∃ (k : Nat), k ≤ xs.length ∧ i = .int .i64 k ∧ Below w.heap.size w wr ∧ Hid (NonTo n xs k ∧ RiseI xs k)) (fun i _ => xs.length - (intOf i).toNat)
  case atStart => exact ⟨0, by omega, rfl, Below.refl _ _, fun j x h => absurd h (by omega), RiseI.zero _⟩
  case round =>
    obtain ⟨k, hk, rfl, hB, H⟩ := hrel
    by_cases hlt : k < xs.length
    · obtain ⟨b, o, rfl, hb, c1⟩ := (HX.out.keep hB).at_ hlt
      cases hu : nonB n xs[k]
      · have HU := Lib.hid hu; clear hu
        have HE : Hid (bP (GoodE n xs) = false) := bP_f fun h => by
          have := h.1 k _ hlt (List.getElem?_eq_getElem hlt)
          rw [HU.out] at this; cases this
        go_wp2_with fail
        refine (l1In_any _ _ _ _).mono ?_
        rintro e w' ⟨rfl, rfl⟩
        rw [non_in, HU.out]
        go_wp2
        go_ret
        exact ⟨ret_b HE.out.symm, hB⟩
      · have HU := Lib.hid hu; clear hu
        have HNX : Hid (NonTo n xs (k + 1)) := upto_next (Q := fun x => nonB n x = true) (List.getElem?_eq_getElem hlt) HU.out H.out.1
        rcases k with _ | j
        · simp only [Nat.add_zero] at c1
          go_wp2_with fail
          refine (l1In_any _ _ _ _).mono ?_
          rintro e w' ⟨rfl, rfl⟩
          rw [non_in, HU.out]
          go_wp2
          go_roundw
          case rel => exact ⟨0 + 1, by omega, by go_num, hB, HNX.out, RiseI.none _⟩
          case measure => simp [intOf]; omega
        · have hltj : j < xs.length := by omega
          obtain ⟨b', o', e', hb', d1⟩ := (HX.out.keep hB).at_ hltj
          injection e' with e'
          injection e' with e1 e2
          subst e1 e2
          have hwk : IntKind.i64.wrap (j : Int) = (j : Int) := by rw [IntKind.wrap_i64]; omega
          have hI1 : (j : Int) < (xs.length : Int) := by omega
          have hpos : (0 : Int) < (j : Int) + 1 := by omega
          by_cases hq : xs[j] < xs[j + 1]
          · have HQ := Lib.hid hq
            have HNR : Hid (RiseI xs (j + 1 + 1)) := H.out.2.step (List.getElem?_eq_getElem hltj) (List.getElem?_eq_getElem hlt) hq
            go_wp2_with fail
            refine (l1In_any _ _ _ _).mono ?_
            rintro e w' ⟨rfl, rfl⟩
            rw [non_in, HU.out]
            go_wp2
            go_roundw
            case rel => exact ⟨j + 1 + 1, by omega, by go_num, hB, HNX.out, HNR.out⟩
            case measure => simp [intOf]; omega
          · have HE : Hid (bP (GoodE n xs) = false) := bP_f fun h => hq (h.2 j _ _ hlt (List.getElem?_eq_getElem hltj) (List.getElem?_eq_getElem hlt))
            have hq2 : xs[j + 1] ≤ xs[j] := by omega
            clear hq
            go_wp2_with fail
            refine (l1In_any _ _ _ _).mono ?_
            rintro e w' ⟨rfl, rfl⟩
            rw [non_in, HU.out]
            go_wp2
            go_ret
            exact ⟨ret_b HE.out.symm, hB⟩
    · have HE : Hid (bP (GoodE n xs) = true) := bP_t ⟨upto_end (Q := fun x => nonB n x = true) hlt H.out.1, H.out.2.mono (by omega)⟩
      go_wp2
      go_ret
      exact ⟨ret_b HE.out.symm, hB⟩

end Go.Proofs.YtjfhkcoiomokoaaDoor
