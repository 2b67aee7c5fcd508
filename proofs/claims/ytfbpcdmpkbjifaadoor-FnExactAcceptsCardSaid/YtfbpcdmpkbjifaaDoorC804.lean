/- The reference's table of what derives what, plainly. -/
import Derived.Test.YtfbpcdmpkbjifaaDoorC803
import Derived.Test.YtfbpcdmpkbjifaaDoorC801
import Derived.Maps.RangeWalk
import Derived.Maps.OwnSet

namespace Go.Proofs.YtfbpcdmpkbjifaaDoor

/-- What a table of rows tells: the cell of i and j is the one at i (n + 1) + j. -/
def DT (n : Nat) (T : Nat → Nat → Bool) : Int → Nat → Nat → Prop := fun x i j => 0 ≤ x ∧ i ≤ n ∧ j ≤ n ∧ T x.toNat (i * (n + 1) + j) = true
def setB (T : Nat → Nat → Bool) (a c : Nat) : Nat → Nat → Bool := fun x i => if x = a ∧ i = c then true else T x i
theorem cell_inj {n i j i' j' : Nat} (hj : j ≤ n) (hj' : j' ≤ n) (h : i * (n + 1) + j = i' * (n + 1) + j') : i = i' ∧ j = j' := by
  have h1 : (i * (n + 1) + j) % (n + 1) = j := by rw [Nat.mul_comm, Nat.mul_add_mod, Nat.mod_eq_of_lt (by omega)]
  have h2 : (i' * (n + 1) + j') % (n + 1) = j' := by rw [Nat.mul_comm, Nat.mul_add_mod, Nat.mod_eq_of_lt (by omega)]
  have hj2 : j = j' := by rw [← h1, h, h2]
  subst hj2
  exact ⟨Nat.eq_of_mul_eq_mul_right (by omega : 0 < n + 1) (by omega), rfl⟩
theorem cell_lt {n i j : Nat} (hi : i ≤ n) (hj : j ≤ n) : i * (n + 1) + j < (n + 1) * (n + 1) := by
  have : (i + 1) * (n + 1) ≤ (n + 1) * (n + 1) := Nat.mul_le_mul_right _ (by omega)
  rw [Nat.succ_mul] at this
  omega
theorem cell_121 {n c : Nat} (hn : n ≤ 10) (hc : c < (n + 1) * (n + 1)) : c < 121 := by
  have : (n + 1) * (n + 1) ≤ 11 * 11 := Nat.mul_le_mul (by omega) (by omega)
  omega
def cntT (T : Nat → Nat → Bool) : Nat := sumTo (fun x => sumTo (fun c => if T x c then 1 else 0) 121) 6
theorem cntT_most (T : Nat → Nat → Bool) : cntT T ≤ 726 := by
  have h1 : ∀ x, sumTo (fun c => if T x c then 1 else 0) 121 ≤ 121 * 1 := fun x => sumTo_const fun c => by split <;> omega
  have h2 := sumTo_const (f := fun x => sumTo (fun c => if T x c then 1 else 0) 121) (n := 6) (c := 121 * 1) h1
  unfold cntT; omega
theorem cntT_set {T : Nat → Nat → Bool} {a c : Nat} (ha : a < 6) (hc : c < 121) (h : T a c = false) : cntT T < cntT (setB T a c) := by
  have hle : ∀ x i, (if T x i = true then 1 else 0) ≤ (if setB T a c x i = true then 1 else 0 : Nat) := fun x i => by
    unfold setB
    by_cases e : x = a ∧ i = c
    · rw [if_pos e, if_pos rfl]; split <;> omega
    · rw [if_neg e]; exact Nat.le_refl _
  refine sumTo_lt (fun x _ => sumTo_le fun i _ => hle x i) ha (sumTo_lt (fun i _ => hle a i) hc ?_)
  show (if T a c = true then 1 else 0) < (if setB T a c a c = true then 1 else 0 : Nat)
  have e : setB T a c a c = true := if_pos ⟨rfl, rfl⟩
  rw [e, h]
  decide
/-- The table is good so far. -/
def OkT (rs : List (Int × List Int)) (ws : List Int) (T : Nat → Nat → Bool) : Prop := ∀ x i j, DT ws.length T x i j → Der rs ws x i j
theorem OkT.inD {rs : List (Int × List Int)} {ws : List Int} {T : Nat → Nat → Bool} (h : OkT rs ws T) : InD ws.length (DT ws.length T) := fun x i j k => der_in rs ws x i j (h x i j k)
theorem okT_no (rs : List (Int × List Int)) (ws : List Int) : OkT rs ws fun _ _ => false := fun _ _ _ h => absurd h.2.2.2 (by simp)
/-- While a pass fills it: the rules ahead of j are done, of rule j the places ahead of i, there the ends ahead of t. -/
def PassT (rs : List (Int × List Int)) (ws : List Int) (j i t : Nat) (T0 T : Nat → Nat → Bool) (more : Bool) : Prop :=
  OkT rs ws T ∧ (more = true → cntT T0 < cntT T) ∧
  (more = false → T = T0 ∧ ∀ (l : Nat) (r : Int × List Int) (f e : Nat), rs[l]? = some r → f ≤ e → e ≤ ws.length → (l < j ∨ (l = j ∧ (f < i ∨ (f = i ∧ e < t)))) → SeqD (DT ws.length T) ws r.2 f e → DT ws.length T r.1 f e)
theorem PassT.start {rs : List (Int × List Int)} {ws : List Int} {T : Nat → Nat → Bool} (h : OkT rs ws T) : PassT rs ws 0 0 0 T T false := ⟨h, fun h => (by cases h), fun _ => ⟨rfl, fun l r f e _ _ _ h => absurd h (by omega)⟩⟩
theorem PassT.rule {rs : List (Int × List Int)} {ws : List Int} {j : Nat} {T0 T : Nat → Nat → Bool} {b : Bool} (h : PassT rs ws j (ws.length + 1) 0 T0 T b) : PassT rs ws (j + 1) 0 0 T0 T b :=
  ⟨h.1, h.2.1, fun e => ⟨(h.2.2 e).1, fun l r f e' hl hf he hx => (h.2.2 e).2 l r f e' hl hf he (by omega)⟩⟩
theorem PassT.open_ {rs : List (Int × List Int)} {ws : List Int} {j i : Nat} {T0 T : Nat → Nat → Bool} {b : Bool} (h : PassT rs ws j i 0 T0 T b) : PassT rs ws j i i T0 T b :=
  ⟨h.1, h.2.1, fun e => ⟨(h.2.2 e).1, fun l r f e' hl hf he hx => (h.2.2 e).2 l r f e' hl hf he (by omega)⟩⟩
theorem PassT.line {rs : List (Int × List Int)} {ws : List Int} {j i : Nat} {T0 T : Nat → Nat → Bool} {b : Bool} (h : PassT rs ws j i (ws.length + 1) T0 T b) : PassT rs ws j (i + 1) 0 T0 T b :=
  ⟨h.1, h.2.1, fun e => ⟨(h.2.2 e).1, fun l r f e' hl hf he hx => (h.2.2 e).2 l r f e' hl hf he (by omega)⟩⟩
/-- Nothing is put in: it is there already, or nothing comes. -/
theorem PassT.skip {rs : List (Int × List Int)} {ws : List Int} {j i t : Nat} {T0 T : Nat → Nat → Bool} {b : Bool} (h : PassT rs ws j i t T0 T b) {a : Nat} {right : List Int} (hj : rs[j]? = some ((a : Int), right)) (hi : i ≤ ws.length) (ht : t ≤ ws.length) (hx : T a (i * (ws.length + 1) + t) = true ∨ ¬ SeqD (DT ws.length T) ws right i t) : PassT rs ws j i (t + 1) T0 T b := by
  refine ⟨h.1, h.2.1, fun e => ⟨(h.2.2 e).1, fun l r f e' hl hf he hx' k => ?_⟩⟩
  by_cases e2 : l = j ∧ f = i ∧ e' = t
  · obtain ⟨rfl, rfl, rfl⟩ := e2
    rw [hj] at hl
    have e3 := Option.some.inj hl
    subst e3
    rcases hx with hx | hx
    · exact ⟨Int.natCast_nonneg a, hi, ht, hx⟩
    · exact absurd k hx
  · exact (h.2.2 e).2 l r f e' hl hf he (by omega) k
/-- One is put in. -/
theorem PassT.put {rs : List (Int × List Int)} {ws : List Int} {j i t : Nat} {T0 T : Nat → Nat → Bool} {b : Bool} (h : PassT rs ws j i t T0 T b) {a : Nat} {right : List Int} (hj : rs[j]? = some ((a : Int), right)) (ha : a < 6) (hw : ws.length ≤ 10) (hi : i ≤ ws.length) (ht : t ≤ ws.length) (h0 : T a (i * (ws.length + 1) + t) = false) (hx : SeqD (DT ws.length T) ws right i t) : PassT rs ws j i (t + 1) T0 (setB T a (i * (ws.length + 1) + t)) true := by
  have hmem : ((a : Int), right) ∈ rs := List.mem_of_getElem? hj
  refine ⟨fun x f e k => ?_, fun _ => ?_, fun e => by cases e⟩
  · obtain ⟨k0, k1, k2, k3⟩ := k
    unfold setB at k3
    split at k3
    · rename_i e4
      obtain ⟨e5, e6⟩ := e4
      obtain ⟨rfl, rfl⟩ := cell_inj k2 ht e6
      have : x = (a : Int) := by omega
      subst this
      exact der_step h.1 hmem hi hx
    · exact h.1 x f e ⟨k0, k1, k2, k3⟩
  · have h3 := cntT_set ha (cell_121 hw (cell_lt hi ht)) h0
    cases b
    · rw [← (h.2.2 rfl).1]; exact h3
    · have := h.2.1 rfl; omega
/-- A pass in which nothing came. -/
theorem PassT.done {rs : List (Int × List Int)} {ws : List Int} {T0 T : Nat → Nat → Bool} (h : PassT rs ws rs.length 0 0 T0 T false) {x : Int} {i j : Nat} : DT ws.length T x i j ↔ Der rs ws x i j :=
  der_eq h.1 fun r hr f t hf k => by
    obtain ⟨l, hl⟩ := List.mem_iff_getElem?.1 hr
    have := h.1.inD.seq hf k
    exact (h.2.2 rfl).2 l r f t hl this.1 this.2 (.inl (List.getElem?_eq_some_iff.1 hl).1) k

/-- While the middles ahead of m are tried. -/
theorem seqD_cons_no {D : Int → Nat → Nat → Prop} {ws : List Int} {x : Int} {xs : List Int} {i j : Nat} (hd : InD ws.length D) (h : ∀ m, i ≤ m → m ≤ j → ¬ (SymD D ws x i m ∧ SeqD D ws xs m j)) : ¬ SeqD D ws (x :: xs) i j := by
  rintro ⟨m, k1, k2⟩
  have h1 := hd.sym k1
  have h2 := hd.seq h1.2 k2
  exact h m h1.1 h2.1 ⟨k1, k2⟩

end Go.Proofs.YtfbpcdmpkbjifaaDoor

/- Maps keyed by numbers in memory: what each key holds; a set as such a map. -/

namespace Go.Proofs.YtfbpcdmpkbjifaaDoor
open Go.RowKit

/-- How a value of a map is read here: as itself. -/
def valR (v : Value) : Option (DataW Value × List MemPlace) := some (.held v, [])
theorem valR_inj {v u : Value} {ps : List MemPlace} (h : valR v = some (.held u, ps)) : v = u := by
  unfold valR at h
  simp at h
  exact h.1
def ki (x : Int) : Lit := .int .i64 x
theorem ki_inj {x y : Int} (h : ki x = ki y) : x = y := by unfold ki at h; injection h
theorem ki_ne {x y : Int} (h : x ≠ y) : ki x ≠ ki y := fun e => h (ki_inj e)
theorem key_int : Maps.Keyed Tryd.prog 3 := Maps.int_keyed Tryd.underlying3
theorem wf_fit {x : Int} (h : F64 x) : (Lit.int .i64 x).wf = true := by
  unfold F64 at h
  exact WalkArith.wf_i64 (by omega)
theorem key_of {x : Int} (h : F64 x) : keyOf Tryd.prog 3 (.int .i64 x) = some (ki x) := Maps.keyOf_int_mk Tryd.underlying3 (wf_fit h)
theorem key_inv {v : Value} {l : Lit} (h : keyOf Tryd.prog 3 v = some l) : ∃ x, v = .int .i64 x ∧ l = ki x ∧ F64 x := by
  obtain ⟨x, h1, h2, h3⟩ := Maps.keyOf_int_inv Tryd.underlying3 h
  refine ⟨x, h1, h2, ?_⟩
  simp [Lit.wf, IntKind.min, IntKind.max, IntKind.signed, IntKind.bits] at h3
  unfold F64
  omega

/-- What a map as it is read holds at x. -/
def AtK (D : DataW Value) (x : Int) : Option Value → Prop
  | some v => ∀ z, D.atKey (ki x) z = .held v
  | none => Maps.has D (ki x) = false

theorem AtK.has {D : DataW Value} {x : Int} {o : Option Value} (h : AtK D x o) : Maps.has D (ki x) = o.isSome := by
  cases o with
  | none => exact h
  | some v => exact Maps.has_true_of_atKey h
theorem AtK.get {D : DataW Value} {x : Int} {o : Option Value} (h : AtK D x o) (z : Value) : D.atKey (ki x) (.held z) = .held (o.getD z) := by
  cases o with
  | none => exact Maps.atKey_of_not_has h _
  | some v => exact h _

/-- Block b is a map from numbers that holds f x at x, of n entries at most. -/
def MapI (w : World) (b n : Nat) (f : Int → Option Value) : Prop := ∃ D, w.ownsMap Tryd.prog 3 valR b n D ∧ ∀ x, AtK D x (f x)

def putK (f : Int → Option Value) (x : Int) (v : Value) : Int → Option Value := fun y => if y = x then some v else f y
def delK (f : Int → Option Value) (x : Int) : Int → Option Value := fun y => if y = x then none else f y

theorem atK_put {D : DataW Value} (hD : Maps.IsMap D) {f : Int → Option Value} (h : ∀ y, AtK D y (f y)) (x : Int) (v : Value) : ∀ y, AtK (D.put (ki x) (.held v)) y (putK f x v y) := by
  intro y
  by_cases e : y = x
  · subst e
    have : putK f y v y = some v := if_pos rfl
    rw [this]
    exact fun z => Maps.atKey_put_same hD (show WideAt.IsKeyLit (ki y) from trivial) _ _
  · have h1 : putK f x v y = f y := if_neg e
    rw [h1]
    have h2 := h y
    cases hf : f y with
    | none =>
      rw [hf] at h2
      exact (Maps.has_put_other (ki_ne e) _).trans h2
    | some u =>
      rw [hf] at h2
      exact fun z => (Maps.atKey_put_other (ki_ne e) _ _).trans (h2 z)

theorem atK_del {D : DataW Value} {f : Int → Option Value} (h : ∀ y, AtK D y (f y)) (x : Int) : ∀ y, AtK (D.del (ki x)) y (delK f x y) := by
  intro y
  by_cases e : y = x
  · subst e
    have : delK f y y = none := if_pos rfl
    rw [this]
    exact Maps.has_del_same
  · have h1 : delK f x y = f y := if_neg e
    rw [h1]
    have h2 := h y
    cases hf : f y with
    | none =>
      rw [hf] at h2
      exact (Maps.has_del_other (ki_ne e)).trans h2
    | some u =>
      rw [hf] at h2
      exact fun z => (Maps.atKey_del_other (ki_ne e) _).trans (h2 z)

theorem save_grown {w w' : World} {b : Nat} (h : w.grownBy w' (some b)) : Save (· = b) w w' := ⟨h.os, h.tape, h.output, h.size, fun i hi hs => h.block i hi fun e => hs (by injection e)⟩
theorem below_grown {w w' : World} (h : w.grownBy w' none) : Below w.heap.size w w' := ⟨h.os, h.tape, h.output, h.size, fun i hi => h.block i hi (by simp)⟩

theorem MapI.lt {w : World} {b n : Nat} {f : Int → Option Value} (h : MapI w b n f) : b < w.heap.size := by obtain ⟨D, h1, _⟩ := h; exact h1.lt
theorem MapI.save {S : Nat → Prop} {w w' : World} {b n : Nat} {f : Int → Option Value} (h : MapI w b n f) (hs : Save S w w') (hb : ¬ S b) : MapI w' b n f := by
  obtain ⟨D, ⟨es, ck, h1, h2⟩, h3⟩ := h
  exact ⟨D, ⟨es, ck, (hs.block b (Array.getElem?_eq_some_iff.1 h1).1 hb).trans h1, h2⟩, h3⟩
theorem MapI.keep {w w' : World} {b n : Nat} {f : Int → Option Value} (h : MapI w b n f) (hs : Below w.heap.size w w') : MapI w' b n f := h.save (S := fun _ => False) (Save.of_below hs) fun e => e
theorem MapI.mono {w : World} {b n n' : Nat} {f : Int → Option Value} (h : MapI w b n f) (hn : n ≤ n') : MapI w b n' f := by
  obtain ⟨D, h1, h2⟩ := h
  exact ⟨D, h1.mono hn, h2⟩
theorem MapI.made (w : World) : MapI (w.alloc (.map #[] 0)) w.heap.size 0 fun _ => none := ⟨_, World.ownsMap_made w _ _ _, fun _ => rfl⟩
theorem MapI.same {w : World} {b n : Nat} {f g : Int → Option Value} (h : MapI w b n f) (e : ∀ x, f x = g x) : MapI w b n g := by
  have : f = g := funext e
  exact this ▸ h

theorem MapI.look {w : World} {b n : Nat} {f : Int → Option Value} (h : MapI w b n f) {x : Int} (hx : F64 x) {t e : TypeId} (ht : Tryd.prog.underlying t = some (.map 3 e)) {z : Value} (hz : (zeroValue e).run Tryd.prog w = .ok z w) :
    (Instr.lookup t (.map (some b)) (.int .i64 x) false).run Tryd.prog w = .ok ((f x).getD z) w := by
  obtain ⟨D, h1, h2⟩ := h
  obtain ⟨v, ps, hr, hv⟩ := h1.lookup key_int ht hz (show valR z = some (.held z, []) from rfl) (key_of hx)
  rw [(h2 x).get z] at hv
  rw [hr, valR_inj hv]

theorem MapI.look_ok {w : World} {b n : Nat} {f : Int → Option Value} (h : MapI w b n f) {x : Int} (hx : F64 x) {t e : TypeId} (ht : Tryd.prog.underlying t = some (.map 3 e)) {z : Value} (hz : (zeroValue e).run Tryd.prog w = .ok z w) :
    (Instr.lookup t (.map (some b)) (.int .i64 x) true).run Tryd.prog w = .ok (.tuple #[(f x).getD z, .bool (f x).isSome]) w := by
  obtain ⟨D, h1, h2⟩ := h
  obtain ⟨v, ps, hr, hv⟩ := h1.look_ok key_int ht hz (show valR z = some (.held z, []) from rfl) (key_of hx)
  rw [(h2 x).get z] at hv
  rw [hr, valR_inj hv, (h2 x).has]

theorem MapI.store {w : World} {b n : Nat} {f : Int → Option Value} (h : MapI w b n f) (hn : n < maxLen) {x : Int} (hx : F64 x) {t e : TypeId} (ht : Tryd.prog.underlying t = some (.map 3 e)) (v : Value) :
    ∃ w', (Instr.mapUpdate t (.map (some b)) (.int .i64 x) v).run Tryd.prog w = .ok () w' ∧ MapI w' b (n + 1) (putK f x v) ∧ Save (· = b) w w' ∧ w'.heap.size = w.heap.size := by
  obtain ⟨D, h1, h2⟩ := h
  obtain ⟨w', hr, ho, hg⟩ := h1.store key_int ht hn (key_of hx) (show valR v = some (.held v, []) from rfl)
  refine ⟨w', hr, ⟨_, ho, atK_put h1.isMap h2 x v⟩, save_grown hg.grown, ?_⟩
  obtain ⟨_, _, _, _, _, rfl⟩ := hg
  simp [ChangeMaps.setBlock]

theorem MapI.drop {w : World} {b n : Nat} {f : Int → Option Value} (h : MapI w b n f) {x : Int} (hx : F64 x) {t e : TypeId} (ht : Tryd.prog.underlying t = some (.map 3 e)) (ty : TypeId) :
    ∃ w', (Builtin.delete_ #[t, 3] ty #[.map (some b), .int .i64 x]).run Tryd.prog w = .ok (.tuple #[]) w' ∧ MapI w' b n (delK f x) ∧ Save (· = b) w w' := by
  obtain ⟨D, h1, h2⟩ := h
  obtain ⟨w', hr, ho, hg⟩ := h1.drop key_int ht (key_of hx) ty
  exact ⟨w', hr, ⟨_, ho, atK_del h2 x⟩, save_grown hg.grown⟩

theorem nodup_le {α : Type} [DecidableEq α] : ∀ (l m : List α), l.Nodup → (∀ x ∈ l, x ∈ m) → l.length ≤ m.length
  | [], _, _, _ => Nat.zero_le _
  | x :: l, m, hn, hm => by
    obtain ⟨h1, h2⟩ := List.nodup_cons.1 hn
    have hx : x ∈ m := hm x List.mem_cons_self
    have ih := nodup_le l (m.erase x) h2 fun y hy => (List.mem_erase_of_ne (fun e : y = x => h1 (e ▸ hy))).2 (hm y (List.mem_cons_of_mem _ hy))
    have h3 := List.length_erase_of_mem hx
    have h4 := List.length_pos_of_mem hx
    simp only [List.length_cons]
    omega

def numOf : Lit → Int
  | .int _ x => x
  | _ => 0

/-- A map whose keys are all below 40 has 40 entries at most. -/
theorem MapI.tight {w : World} {b n : Nat} {f : Int → Option Value} (h : MapI w b n f) (hf : ∀ x, f x ≠ none → 0 ≤ x ∧ x < 40) : MapI w b 40 f := by
  obtain ⟨D, h1, h2⟩ := h
  obtain ⟨es, clock, hb, F, hs, hD⟩ := h1
  have h1' : w.ownsMap Tryd.prog 3 valR b n D := ⟨es, clock, hb, F, hs, hD⟩
  refine ⟨D, ⟨es, clock, hb, F, ?_, hD⟩, h2⟩
  have hsz : es.size = Maps.size D := by rw [hD]; simp [Maps.size, length_sorted]
  obtain ⟨l, hl, hp⟩ := h1'.tidy key_int
  obtain ⟨l2, hl2, hk⟩ : ∃ l2, D = .map l2 ∧ ∀ p ∈ l2, ∃ x, p.1 = ki x := by
    refine ⟨_, hD, fun p hp => ?_⟩
    obtain ⟨v, hv⟩ := Maps.fit_keys F p (mem_sorted.1 hp)
    obtain ⟨x, _, hx, _⟩ := key_inv hv
    exact ⟨x, hx⟩
  have hll : l2 = l := by rw [hl2] at hl; injection hl
  subst hll
  rw [hsz, hl]
  have h6 := nodup_le (l2.map fun p => numOf p.1) ((List.range 40).map fun (k : Nat) => (k : Int)) (List.pairwise_map.2 (hp.imp_of_mem fun {p q} hp' hq' hne e => by
      obtain ⟨x, hx⟩ := hk p hp'
      obtain ⟨y, hy⟩ := hk q hq'
      rw [hx, hy] at e hne
      exact hne (congrArg ki e))) fun y hy => by
    obtain ⟨p, hp, rfl⟩ := List.mem_map.1 hy
    obtain ⟨x, hx⟩ := hk p hp
    have hh : Maps.has D (ki x) = true := by
      rw [hl, Maps.has_eq, List.any_eq_true]
      exact ⟨p, hp, by rw [hx]; simp [ki, Lit.sameKey]⟩
    have hs := (h2 x).has
    rw [hh] at hs
    obtain ⟨a1, a2⟩ := hf x (fun e => by rw [e] at hs; cases hs)
    rw [hx]
    show x ∈ _
    exact List.mem_map.2 ⟨x.toNat, List.mem_range.2 (by omega), by omega⟩
  simpa [Maps.size] using h6

/-- Block b is a set of numbers below 40. -/
structure SetM (w : World) (b : Nat) (S : Int → Bool) : Prop where
  map : MapI w b 40 fun x => if S x then some (.bool true) else none
  fits : ∀ x, S x = true → 0 ≤ x ∧ x < 40

theorem SetM.save {T : Nat → Prop} {w w' : World} {b : Nat} {S : Int → Bool} (h : SetM w b S) (hs : Save T w w') (hb : ¬ T b) : SetM w' b S := ⟨h.map.save hs hb, h.fits⟩
theorem SetM.keep {w w' : World} {b : Nat} {S : Int → Bool} (h : SetM w b S) (hs : Below w.heap.size w w') : SetM w' b S := ⟨h.map.keep hs, h.fits⟩
theorem SetM.made (w : World) : SetM (w.alloc (.map #[] 0)) w.heap.size fun _ => false := ⟨(MapI.made w).mono (by omega), fun _ h => by cases h⟩
theorem SetM.look {w : World} {b : Nat} {S : Int → Bool} (h : SetM w b S) {x : Int} (hx : F64 x) :
    (Instr.lookup 118 (.map (some b)) (.int .i64 x) false).run Tryd.prog w = .ok (.bool (S x)) w := by
  rw [h.map.look hx Tryd.underlying118 (Tryd.zeroValue4 w)]
  cases S x <;> rfl
def addS (S : Int → Bool) (x : Int) : Int → Bool := fun y => decide (y = x) || S y
theorem SetM.store {w : World} {b : Nat} {S : Int → Bool} (h : SetM w b S) {x : Int} (hx : 0 ≤ x ∧ x < 40) :
    ∃ w', (Instr.mapUpdate 118 (.map (some b)) (.int .i64 x) (.bool true)).run Tryd.prog w = .ok () w' ∧ SetM w' b (addS S x) ∧ Save (· = b) w w' ∧ w'.heap.size = w.heap.size := by
  obtain ⟨w', h1, h2, h3, h4⟩ := h.map.store (by unfold maxLen; omega) (x := x) (by unfold F64; omega) Tryd.underlying118 (.bool true)
  have hf : ∀ y, addS S x y = true → 0 ≤ y ∧ y < 40 := fun y hy => by
    unfold addS at hy
    rcases Bool.or_eq_true _ _ ▸ hy with e | e
    · have := of_decide_eq_true e; omega
    · exact h.fits y e
  have h5 : MapI w' b (40 + 1) fun y => if addS S x y then some (.bool true) else none := h2.same fun y => by
    unfold putK addS
    by_cases e : y = x
    · simp [e]
    · simp [e]
  refine ⟨w', h1, ⟨h5.tight fun y hy => hf y ?_, hf⟩, h3, h4⟩
  cases e : addS S x y
  · rw [e] at hy; exact absurd rfl hy
  · rfl

end Go.Proofs.YtfbpcdmpkbjifaaDoor

/- The program's questions to a set: allNullable, allProductive, someGrow. -/

namespace Go.Proofs.YtfbpcdmpkbjifaaDoor
open Go.RowKit

theorem all_no {p : Int → Bool} {xs : List Int} {k : Nat} (hk : k < xs.length) (h : p xs[k] = false) : xs.all p = false := by
  cases e : xs.all p
  · rfl
  · rw [List.all_eq_true] at e
    rw [e _ (List.getElem_mem hk)] at h; cases h
theorem all_yes {p : Int → Bool} {xs : List Int} {k : Nat} (hk : ¬ k < xs.length) (h : ∀ (j : Nat) (x : Int), j < k → xs[j]? = some x → p x = true) : xs.all p = true := by
  rw [List.all_eq_true]
  intro x hx
  obtain ⟨j, hj⟩ := List.mem_iff_getElem?.1 hx
  exact h j x (by have := (List.getElem?_eq_some_iff.1 hj).1; omega) hj
theorem upto_step {Q : Int → Prop} {xs : List Int} {k : Nat} (hk : k < xs.length) (h : Q xs[k]) (H : ∀ (j : Nat) (x : Int), j < k → xs[j]? = some x → Q x) :
    ∀ (j : Nat) (x : Int), j < k + 1 → xs[j]? = some x → Q x := by
  intro j x hj hx
  by_cases e : j = k
  · subst e; rw [List.getElem?_eq_getElem hk] at hx; injection hx with hx; subst hx; exact h
  · exact H j x (by omega) hx
theorem any_yes {p : Int → Bool} {xs : List Int} {k : Nat} (hk : k < xs.length) (h : p xs[k] = true) : xs.any p = true := List.any_eq_true.2 ⟨_, List.getElem_mem hk, h⟩
theorem any_no {p : Int → Bool} {xs : List Int} {k : Nat} (hk : ¬ k < xs.length) (h : ∀ (j : Nat) (x : Int), j < k → xs[j]? = some x → p x = false) : xs.any p = false := by
  rw [List.any_eq_false]
  intro x hx
  obtain ⟨j, hj⟩ := List.mem_iff_getElem?.1 hx
  rw [h j x (by have := (List.getElem?_eq_some_iff.1 hj).1; omega) hj]
  simp

/-- A symbol is a token or in the set. -/
def tokS (S : Int → Bool) (x : Int) : Bool := decide (x < 0) || S x
theorem tokS_lt {S : Int → Bool} {x : Int} (h : x < 0) : tokS S x = true := by unfold tokS; rw [decide_eq_true h]; rfl
theorem tokS_ge {S : Int → Bool} {x : Int} (h : ¬ x < 0) : tokS S x = S x := by unfold tokS; rw [decide_eq_false h]; rfl

def FitI (xs : List Int) : Prop := ∀ x ∈ xs, F64 x

set_option maxRecDepth 20000 in
set_option maxHeartbeats 400000 in
theorem allNull_any (b : Nat) (S : Int → Bool) (A : Option Addr) (xs : List Int) (c : Nat) (w : World) (hS : SetM w b S) (hx : Ints w w.heap.size A xs) (hf : FitI xs) (h1 : xs.length ≤ 4) :
    Calls Tryd.prog 138 #[.map (some b), .slice A xs.length c] w fun e w' => e = .returned (.bool (xs.all S)) ∧ w' = w := by
  have HX := Lib.hid hx; clear hx
  have HS := Lib.hid hS; clear hS
  have HF := Lib.hid hf; clear hf
  go_enter Tryd.func138, Tryd.ntmps138
  go_wp2
  go_loopw [9] (fun i wr => ∃ (k : Nat), k ≤ xs.length ∧ i = .int .i64 k ∧ wr = w ∧ Hid (∀ (j : Nat) (x : Int), j < k → xs[j]? = some x → S x = true)) (fun i _ => xs.length - (intOf i).toNat)
  case atStart => exact ⟨0, by omega, rfl, rfl, fun j x h => absurd h (by omega)⟩
  case round =>
    obtain ⟨k, hk, rfl, rfl, H⟩ := hrel
    by_cases hlt : k < xs.length
    · obtain ⟨p, o, rfl, hb, c1⟩ := HX.out.at_ hlt
      have hl := HS.out.look (HF.out _ (List.getElem_mem hlt))
      cases hs : S xs[k]
      · rw [hs] at hl
        have HE := Lib.hid (all_no hlt hs); clear hs
        go_wp2
        go_ret
        exact ⟨ret_bool HE.out.symm, rfl⟩
      · rw [hs] at hl
        have HE := Lib.hid (upto_step (Q := fun x => S x = true) hlt hs H.out); clear hs
        go_wp2
        go_roundw
        case rel => exact ⟨k + 1, by omega, by go_num, by simp, HE.out⟩
        case measure => simp [intOf]; omega
    · have HE := Lib.hid (all_yes hlt H.out)
      go_wp2
      go_ret
      exact ⟨ret_bool HE.out.symm, rfl⟩

end Go.Proofs.YtfbpcdmpkbjifaaDoor

/- A range over a map keyed by numbers: which keys are still to come. -/

namespace Go.Proofs.YtfbpcdmpkbjifaaDoor
open Go.RowKit

/-- Block q is a map that holds f x at x; block r is a range over it; left x: x is still to come; cnt: how many are. -/
def Rng (w : World) (q r n : Nat) (f : Int → Option Value) (left : Int → Bool) (cnt : Nat) : Prop :=
  ∃ D lf, w.ranges Tryd.prog 3 valR q r n D lf cnt ∧ (∀ x, AtK D x (f x)) ∧ ∀ x, lf (ki x) = left x

theorem Rng.map {w : World} {q r n cnt : Nat} {f : Int → Option Value} {left : Int → Bool} (h : Rng w q r n f left cnt) : MapI w q n f := by
  obtain ⟨D, lf, h1, h2, _⟩ := h
  exact ⟨D, h1.owns, h2⟩
theorem Rng.lt {w : World} {q r n cnt : Nat} {f : Int → Option Value} {left : Int → Bool} (h : Rng w q r n f left cnt) : r < w.heap.size := by obtain ⟨D, lf, h1, _⟩ := h; exact h1.lt
theorem Rng.ne {w : World} {q r n cnt : Nat} {f : Int → Option Value} {left : Int → Bool} (h : Rng w q r n f left cnt) : r ≠ q := by obtain ⟨D, lf, h1, _⟩ := h; exact h1.ne
theorem Rng.save {S : Nat → Prop} {w w' : World} {q r n cnt : Nat} {f : Int → Option Value} {left : Int → Bool} (h : Rng w q r n f left cnt) (hs : Save S w w') (hq : ¬ S q) (hr : ¬ S r) : Rng w' q r n f left cnt := by
  have h1 := h.map.lt
  have h2 := h.lt
  obtain ⟨D, lf, ⟨es, ck, since, seen, c0, hb, F, hsz, hD, hr', rest⟩, h3, h4⟩ := h
  exact ⟨D, lf, ⟨es, ck, since, seen, c0, (hs.block q h1 hq).trans hb, F, hsz, hD, (hs.block r h2 hr).trans hr', rest⟩, h3, h4⟩
theorem Rng.keep {w w' : World} {q r n cnt : Nat} {f : Int → Option Value} {left : Int → Bool} (h : Rng w q r n f left cnt) (hs : Below w.heap.size w w') : Rng w' q r n f left cnt := h.save (S := fun _ => False) (Save.of_below hs) (fun e => e) fun e => e

/-- One key is struck. -/
def strike (left : Int → Bool) (x : Int) : Int → Bool := fun y => left y && decide (y ≠ x)
theorem strike_same (left : Int → Bool) (x : Int) : strike left x x = false := by simp [strike]
theorem strike_other {left : Int → Bool} {x y : Int} (h : y ≠ x) : strike left x y = left y := by simp [strike, h]
theorem strike_le {left : Int → Bool} {x y : Int} (h : strike left x y = true) : left y = true := by
  unfold strike at h
  simp at h
  exact h.1
theorem ki_same (x y : Int) : (ki y).sameKey (ki x) = decide (y = x) := by
  simp [ki, Lit.sameKey]

theorem MapI.range {w : World} {q n : Nat} {f : Int → Option Value} (h : MapI w q n f) {t e : TypeId} (ht : Tryd.prog.underlying t = some (.map 3 e)) :
    ∃ w' cnt, (Instr.range t (.map (some q))).run Tryd.prog w = .ok (.pointer (some ⟨w.heap.size, 0, none⟩)) w' ∧ Rng w' q w.heap.size n f (fun x => (f x).isSome) cnt ∧ cnt ≤ n ∧ Below w.heap.size w w' ∧ w'.heap.size = w.heap.size + 1 := by
  obtain ⟨D, h1, h2⟩ := h
  obtain ⟨w', hr, hrg, hg, hs⟩ := h1.range key_int ht
  exact ⟨w', _, hr, ⟨D, _, hrg, h2, fun x => (h2 x).has⟩, h1.size_le, below_grown hg, hs⟩

theorem Rng.next {w : World} {q r n cnt : Nat} {f : Int → Option Value} {left : Int → Bool} (h : Rng w q r n f left cnt) (ty : TypeId) :
    (cnt = 0 ∧ (∀ x, left x = false) ∧ (Instr.next (.pointer (some ⟨r, 0, none⟩)) false ty).run Tryd.prog w = .ok (.tuple #[.bool false]) w) ∨
    ∃ x v w' cnt', F64 x ∧ left x = true ∧ f x = some v ∧ (Instr.next (.pointer (some ⟨r, 0, none⟩)) false ty).run Tryd.prog w = .ok (.tuple #[.bool true, .int .i64 x, v]) w' ∧
      Rng w' q r n f (strike left x) cnt' ∧ cnt' < cnt ∧ Save (· = r) w w' ∧ w'.heap.size = w.heap.size ∧ (Instr.entry (.pointer (some ⟨r, 0, none⟩))).run Tryd.prog w' = .ok (.tuple #[.int .i64 x, v]) w' := by
  obtain ⟨D, lf, h1, h2, h3⟩ := h
  rcases h1.next key_int ty with ⟨h0, hl, hr⟩ | ⟨key, v, kl, y, w', cnt', hkey, hlk, hv, hat, hr, hrg, hlt, hg, hs, hen⟩
  · exact .inl ⟨h0, fun x => by rw [← h3]; exact hl _, hr⟩
  · obtain ⟨x, rfl, rfl, hx⟩ := key_inv hkey
    refine .inr ⟨x, v, w', cnt', hx, by rw [← h3]; exact hlk, ?_, hr, ⟨D, _, hrg, h2, fun z => ?_⟩, hlt, save_grown hg, hs, hen⟩
    · have ha := h2 x
      have hh := Maps.has_true_of_atKey hat
      cases hf : f x with
      | none =>
        rw [hf] at ha
        rw [show Maps.has D (ki x) = false from ha] at hh
        cases hh
      | some u =>
        rw [hf] at ha
        have e1 := hat .nil
        rw [show D.atKey (ki x) .nil = .held u from ha _] at e1
        have e2 : valR v = some (.held u, y.2) := by rw [hv, e1]
        rw [valR_inj e2]
    · show (lf (ki z) && !(ki z).sameKey (ki x)) = _
      rw [h3, ki_same]
      simp [strike]

theorem Rng.drop {w : World} {q r n cnt : Nat} {f : Int → Option Value} {left : Int → Bool} (h : Rng w q r n f left cnt) {x : Int} (hx : F64 x) {t e : TypeId} (ht : Tryd.prog.underlying t = some (.map 3 e)) (ty : TypeId) :
    ∃ w' cnt', (Builtin.delete_ #[t, 3] ty #[.map (some q), .int .i64 x]).run Tryd.prog w = .ok (.tuple #[]) w' ∧ Rng w' q r n (delK f x) (strike left x) cnt' ∧ cnt' ≤ cnt ∧ Save (· = q) w w' ∧ w'.heap.size = w.heap.size := by
  obtain ⟨D, lf, h1, h2, h3⟩ := h
  obtain ⟨w', cnt', hr, hrg, hle, hg⟩ := h1.drop key_int ht (key_of hx) ty
  refine ⟨w', cnt', hr, ⟨_, _, hrg, atK_del h2 x, fun z => ?_⟩, hle, save_grown hg.grown, ?_⟩
  · show (lf (ki z) && !(ki z).sameKey (ki x)) = _
    rw [h3, ki_same]
    simp [strike]
  · obtain ⟨_, _, _, _, _, rfl⟩ := hg
    simp [ChangeMaps.setBlock]

theorem strike_twice (left : Int → Bool) (x : Int) : strike (strike left x) x = strike left x := by
  funext y
  unfold strike
  cases left y <;> simp

end Go.Proofs.YtfbpcdmpkbjifaaDoor

/- What a good grammar says of each of its rules. -/

namespace Go.Proofs.YtfbpcdmpkbjifaaDoor

theorem goodG_mem {n t : Int} {ss : List (Int × List Int)} (h : goodG n t ss = true) {u : Int × List Int} (hu : u ∈ ss) : (0 ≤ u.1 ∧ u.1 < n) ∧ u.2.length ≤ 4 ∧ ∀ x ∈ u.2, (0 ≤ x ∧ x < n) ∨ (x < 0 ∧ -t ≤ x) := by
  obtain ⟨_, _, _, hg⟩ := goodG_is h
  obtain ⟨k, hk⟩ := List.mem_iff_getElem?.1 hu
  have h1 := (hg k u (List.getElem?_eq_some_iff.1 hk).1 hk).1
  unfold goodU at h1
  simp only [Bool.and_eq_true, decide_eq_true_eq] at h1
  refine ⟨nonB_is h1.1, h1.2.1, fun x hx => ?_⟩
  have h2 := h1.2.2
  unfold symsB at h2
  rw [List.all_eq_true] at h2
  have h3 := h2 x hx
  unfold symB at h3
  have := of_decide_eq_true h3
  omega

end Go.Proofs.YtfbpcdmpkbjifaaDoor

/- Plain mathematics of chapter 3: the least set that is closed under rules. -/

namespace Go.Proofs.YtfbpcdmpkbjifaaDoor

/-- A way to close a set: when a rule fires in a set, and what it then adds. -/
structure Way where
  fires : (Int → Bool) → Int × List Int → Bool
  adds : Int × List Int → List Int
  mono : ∀ (S T : Int → Bool) (r : Int × List Int), (∀ x, S x = true → T x = true) → fires S r = true → fires T r = true

/-- x is in every set that holds what S0 holds and is closed under the rules. -/
def Least (W : Way) (S0 : Int → Bool) (ss : List (Int × List Int)) (x : Int) : Prop :=
  ∀ S : Int → Bool, (∀ y, S0 y = true → S y = true) → (∀ r ∈ ss, W.fires S r = true → ∀ y ∈ W.adds r, S y = true) → S x = true

theorem Least.start {W : Way} {S0 : Int → Bool} {ss : List (Int × List Int)} {x : Int} (h : S0 x = true) : Least W S0 ss x := fun _ h0 _ => h0 x h
theorem Least.step {W : Way} {S0 S : Int → Bool} {ss : List (Int × List Int)} (hS : ∀ x, S x = true → Least W S0 ss x) {r : Int × List Int} (hr : r ∈ ss) (hf : W.fires S r = true) {y : Int} (hy : y ∈ W.adds r) : Least W S0 ss y := by
  intro T h0 hc
  exact hc r hr (W.mono S T r (fun x hx => hS x hx T h0 hc) hf) y hy

/-- S is the least set. -/
def IsLeast (W : Way) (S0 : Int → Bool) (ss : List (Int × List Int)) (S : Int → Bool) : Prop := ∀ x, S x = true ↔ Least W S0 ss x
theorem isLeast_of {W : Way} {S0 S : Int → Bool} {ss : List (Int × List Int)} (hs : ∀ x, S x = true → Least W S0 ss x) (h0 : ∀ x, S0 x = true → S x = true) (hc : ∀ r ∈ ss, W.fires S r = true → ∀ y ∈ W.adds r, S y = true) : IsLeast W S0 ss S :=
  fun x => ⟨hs x, fun h => h S h0 hc⟩
theorem IsLeast.unique {W : Way} {S0 S T : Int → Bool} {ss : List (Int × List Int)} (h : IsLeast W S0 ss S) (k : IsLeast W S0 ss T) : S = T := by
  funext x
  rw [Bool.eq_iff_iff]
  exact (h x).trans (k x).symm

/-- What a rule that is used makes of a set. -/
def useW (W : Way) (S : Int → Bool) (r : Int × List Int) : Int → Bool := fun x => S x || (W.fires S r && (W.adds r).contains x)
theorem useW_no {W : Way} {S : Int → Bool} {r : Int × List Int} (h : W.fires S r = false) : useW W S r = S := by
  funext x
  simp [useW, h]
theorem useW_le {W : Way} {S : Int → Bool} {r : Int × List Int} {x : Int} (h : S x = true) : useW W S r x = true := by simp [useW, h]
theorem useW_add {W : Way} {S : Int → Bool} {r : Int × List Int} {x : Int} (h : W.fires S r = true) (hx : x ∈ W.adds r) : useW W S r x = true := by simp [useW, h, hx]
theorem useW_inv {W : Way} {S : Int → Bool} {r : Int × List Int} {x : Int} (h : useW W S r x = true) : S x = true ∨ (W.fires S r = true ∧ x ∈ W.adds r) := by
  unfold useW at h
  simp at h
  exact h

theorem tokS_mono {S T : Int → Bool} (h : ∀ x, S x = true → T x = true) {x : Int} (hx : tokS S x = true) : tokS T x = true := by
  unfold tokS at hx ⊢
  simp at hx ⊢
  exact hx.imp id (h x)

def wayNull : Way := {
  fires := fun S r => r.2.all S
  adds := fun r => [r.1]
  mono := fun S T r h hf => by
    rw [List.all_eq_true] at hf ⊢
    exact fun x hx => h x (hf x hx) }
def wayProd : Way := {
  fires := fun S r => r.2.all (tokS S)
  adds := fun r => [r.1]
  mono := fun S T r h hf => by
    rw [List.all_eq_true] at hf ⊢
    exact fun x hx => tokS_mono h (hf x hx) }
def wayGrow (P : Int → Bool) : Way := {
  fires := fun S r => r.2.all (tokS P) && r.2.any (tokS S)
  adds := fun r => [r.1]
  mono := fun S T r h hf => by
    rw [Bool.and_eq_true] at hf ⊢
    refine ⟨hf.1, ?_⟩
    have h2 := hf.2
    rw [List.any_eq_true] at h2 ⊢
    obtain ⟨x, hx, hp⟩ := h2
    exact ⟨x, hx, tokS_mono h hp⟩ }
def wayReach : Way := {
  fires := fun S r => S r.1
  adds := fun r => r.2.filter fun x => decide (0 ≤ x)
  mono := fun _ _ _ h hf => h _ hf }

/-- No member. -/
def noS : Int → Bool := fun _ => false
/-- One member. -/
def oneS (s : Int) : Int → Bool := fun x => decide (x = s)

/-- What a way adds are numbers below 40. -/
def AddsFit (W : Way) (ss : List (Int × List Int)) : Prop := ∀ r ∈ ss, ∀ y ∈ W.adds r, 0 ≤ y ∧ y < 40
theorem fit_lefts {W : Way} {n t : Int} {ss : List (Int × List Int)} (hg : goodG n t ss = true) (hW : ∀ r, W.adds r = [r.1]) : AddsFit W ss := fun r hr y hy => by
  rw [hW] at hy
  simp at hy
  subst hy
  have h1 := goodG_is hg
  have h2 := (goodG_mem hg hr).1
  omega
theorem fit_reach {n t : Int} {ss : List (Int × List Int)} (hg : goodG n t ss = true) : AddsFit wayReach ss := fun r hr y hy => by
  have hy' : y ∈ r.2 ∧ 0 ≤ y := by simpa [wayReach] using hy
  have h1 := goodG_is hg
  have h2 := (goodG_mem hg hr).2.2 y hy'.1
  omega

/-- How many of the first m are marked. -/
def cntB (rem : Int → Bool) (m : Nat) : Nat := ((List.range m).filter fun (k : Nat) => rem (k : Int)).length
theorem cntB_le (rem : Int → Bool) (m : Nat) : cntB rem m ≤ m := by
  unfold cntB
  have := List.length_filter_le (fun (k : Nat) => rem (k : Int)) (List.range m)
  simpa using this
theorem filter_two {p q : Nat → Bool} : ∀ (l : List Nat), (∀ j ∈ l, q j = true → p j = true) → (l.filter q).length ≤ (l.filter p).length
  | [], _ => Nat.le_refl _
  | a :: l, h => by
    have ih := filter_two l fun j hj => h j (List.mem_cons_of_mem _ hj)
    have ha := h a List.mem_cons_self
    cases hq : q a
    · rw [List.filter_cons_of_neg (by simp [hq])]
      cases hp : p a
      · rw [List.filter_cons_of_neg (by simp [hp])]; exact ih
      · rw [List.filter_cons_of_pos hp]; simp only [List.length_cons]; omega
    · rw [List.filter_cons_of_pos hq, List.filter_cons_of_pos (ha hq)]
      simp only [List.length_cons]
      omega
theorem filter_less {p q : Nat → Bool} : ∀ (l : List Nat) (i : Nat), i ∈ l → p i = true → q i = false → (∀ j ∈ l, q j = true → p j = true) → (l.filter q).length < (l.filter p).length
  | [], _, h, _, _, _ => by cases h
  | a :: l, i, h, hp, hq, hle => by
    have hl := filter_two l fun j hj => hle j (List.mem_cons_of_mem _ hj)
    by_cases e : a = i
    · subst e
      rw [List.filter_cons_of_pos hp, List.filter_cons_of_neg (by simp [hq])]
      simp only [List.length_cons]
      omega
    · have hm : i ∈ l := by
        rcases List.mem_cons.1 h with h | h
        · exact absurd h.symm e
        · exact h
      have ih := filter_less l i hm hp hq fun j hj => hle j (List.mem_cons_of_mem _ hj)
      have ha := hle a List.mem_cons_self
      cases hqa : q a
      · rw [List.filter_cons_of_neg (by simp [hqa])]
        cases hpa : p a
        · rw [List.filter_cons_of_neg (by simp [hpa])]; exact ih
        · rw [List.filter_cons_of_pos hpa]; simp only [List.length_cons]; omega
      · rw [List.filter_cons_of_pos hqa, List.filter_cons_of_pos (ha hqa)]
        simp only [List.length_cons]
        omega
theorem cntB_strike {rem : Int → Bool} {m k : Nat} (hk : k < m) (h : rem (k : Int) = true) : cntB (strike rem (k : Int)) m < cntB rem m :=
  filter_less (List.range m) k (List.mem_range.2 hk) h (strike_same _ _) fun _ _ hj => strike_le hj

end Go.Proofs.YtfbpcdmpkbjifaaDoor

/- Plain mathematics: some of a good grammar's rules are a good grammar; the useful rules. -/

namespace Go.Proofs.YtfbpcdmpkbjifaaDoor

theorem goodG_nodup {n t : Int} {ss : List (Int × List Int)} (h : goodG n t ss = true) : ss.Nodup := by
  obtain ⟨_, _, _, hg⟩ := goodG_is h
  refine List.pairwise_iff_getElem.2 fun i j hi hj hij e => ?_
  have h2 := (hg j ss[j] hj (List.getElem?_eq_getElem hj)).2
  have h3 := of_decide_eq_false h2
  refine h3 ?_
  rw [← e]
  exact List.mem_iff_getElem?.2 ⟨i, by rw [List.getElem?_take, if_pos hij, List.getElem?_eq_getElem hi]⟩
theorem goodG_mk {n t : Int} {ss : List (Int × List Int)} (h1 : 1 ≤ n ∧ n ≤ 6) (h2 : 1 ≤ t ∧ t ≤ 4) (h3 : ss.length ≤ 16) (h4 : ∀ u ∈ ss, goodU n t u = true) (h5 : ss.Nodup) : goodG n t ss = true := by
  unfold goodG
  simp only [Bool.and_eq_true, decide_eq_true_eq]
  refine ⟨h1, h2, h3, goodAll_iff.2 fun j u hj hu => ⟨h4 u (List.mem_of_getElem? hu), decide_eq_false fun hm => ?_⟩⟩
  obtain ⟨i, hi⟩ := List.mem_iff_getElem?.1 hm
  rw [List.getElem?_take] at hi
  split at hi
  · rename_i hij
    have a1 := List.getElem?_eq_some_iff.1 hi
    have a2 := List.getElem?_eq_some_iff.1 hu
    obtain ⟨b1, c1⟩ := a1
    obtain ⟨b2, c2⟩ := a2
    exact List.pairwise_iff_getElem.1 h5 i j b1 b2 hij (c1.trans c2.symm)
  · cases hi
theorem goodG_filter {n t : Int} {ss : List (Int × List Int)} (h : goodG n t ss = true) (p : Int × List Int → Bool) : goodG n t (ss.filter p) = true := by
  obtain ⟨h1, h2, h3, hg⟩ := goodG_is h
  refine goodG_mk h1 h2 (by have := List.length_filter_le p ss; omega) (fun u hu => ?_) ((goodG_nodup h).filter p)
  obtain ⟨k, hk⟩ := List.mem_iff_getElem?.1 (List.mem_filter.1 hu).1
  exact (hg k u (List.getElem?_eq_some_iff.1 hk).1 hk).1

theorem map_filter (p : Int × List Int → Bool) (rs : List Ru) : (rs.filter fun u => p u.abs).map Ru.abs = (rs.map Ru.abs).filter p := by
  rw [List.filter_map]
  rfl

/-- The rules that can end in words, by the productive ones. -/
def soundA (P : Int → Bool) (r : Int × List Int) : Bool := r.2.all (tokS P)
/-- us are the useful rules of ss. -/
def IsUse (ss us : List (Int × List Int)) : Prop := ∃ P R, IsLeast wayProd noS ss P ∧ IsLeast wayReach (oneS 0) (ss.filter (soundA P)) R ∧ us = (ss.filter (soundA P)).filter fun r => R r.1
theorem isUse_unique {ss us vs : List (Int × List Int)} (h : IsUse ss us) (k : IsUse ss vs) : us = vs := by
  obtain ⟨P, R, h1, h2, h3⟩ := h
  obtain ⟨Q, T, k1, k2, k3⟩ := k
  have e := h1.unique k1
  subst e
  have e := h2.unique k2
  subst e
  rw [h3, k3]
theorem isUse_good {n t : Int} {ss us : List (Int × List Int)} (hg : goodG n t ss = true) (h : IsUse ss us) : goodG n t us = true := by
  obtain ⟨P, R, _, _, rfl⟩ := h
  exact goodG_filter (goodG_filter hg _) _
/-- Of a rule all of whose right side is productive the left side is, too. -/
theorem sound_left {ss : List (Int × List Int)} {P : Int → Bool} (h : IsLeast wayProd noS ss P) {r : Int × List Int} (hr : r ∈ ss) (hs : soundA P r = true) : P r.1 = true := by
  refine (h r.1).2 ?_
  exact Least.step (S := P) (fun x hx => (h x).1 hx) hr hs (List.mem_singleton.2 rfl)

end Go.Proofs.YtfbpcdmpkbjifaaDoor

/- Plain mathematics of chapter 3: rounds in a graph of which some steps grow; a table that is closed by way of each vertex. -/

namespace Go.Proofs.YtfbpcdmpkbjifaaDoor

section
variable (E M : Int → Int → Prop)

/-- A way from a to b, by the vertices of l. -/
def walkE : Int → List Int → Int → Prop
  | a, [], b => E a b
  | a, c :: l, b => E a c ∧ walkE c l b
/-- .. some step of which grows. -/
def walkM : Int → List Int → Int → Prop
  | a, [], b => M a b
  | a, c :: l, b => (M a c ∧ walkE E c l b) ∨ (E a c ∧ walkM c l b)
end

variable {E M : Int → Int → Prop}

theorem walkE_join : ∀ {l : List Int} {a k b : Int} {l2 : List Int}, walkE E a l k → walkE E k l2 b → walkE E a (l ++ k :: l2) b
  | [], _, _, _, _, h1, h2 => ⟨h1, h2⟩
  | _ :: _, _, _, _, _, h1, h2 => ⟨h1.1, walkE_join h1.2 h2⟩
theorem walkE_part : ∀ {l : List Int} {a k b : Int} {l2 : List Int}, walkE E a (l ++ k :: l2) b → walkE E a l k ∧ walkE E k l2 b
  | [], _, _, _, _, h => h
  | _ :: _, _, _, _, _, h => by
    obtain ⟨h1, h2⟩ := walkE_part h.2
    exact ⟨⟨h.1, h1⟩, h2⟩
theorem walkM_left : ∀ {l : List Int} {a k b : Int} {l2 : List Int}, walkM E M a l k → walkE E k l2 b → walkM E M a (l ++ k :: l2) b
  | [], _, _, _, _, h1, h2 => .inl ⟨h1, h2⟩
  | _ :: _, _, _, _, _, h1, h2 => h1.imp (fun h => ⟨h.1, walkE_join h.2 h2⟩) fun h => ⟨h.1, walkM_left h.2 h2⟩
theorem walkM_right : ∀ {l : List Int} {a k b : Int} {l2 : List Int}, walkE E a l k → walkM E M k l2 b → walkM E M a (l ++ k :: l2) b
  | [], _, _, _, _, h1, h2 => .inr ⟨h1, h2⟩
  | _ :: _, _, _, _, _, h1, h2 => .inr ⟨h1.1, walkM_right h1.2 h2⟩
theorem walkM_part : ∀ {l : List Int} {a k b : Int} {l2 : List Int}, walkM E M a (l ++ k :: l2) b → (walkM E M a l k ∧ walkE E k l2 b) ∨ (walkE E a l k ∧ walkM E M k l2 b)
  | [], _, _, _, _, h => h
  | _ :: _, _, _, _, _, h => by
    rcases h with ⟨h1, h2⟩ | ⟨h1, h2⟩
    · obtain ⟨p1, p2⟩ := walkE_part h2
      exact .inl ⟨.inl ⟨h1, p1⟩, p2⟩
    · rcases walkM_part h2 with ⟨p1, p2⟩ | ⟨p1, p2⟩
      · exact .inl ⟨.inr ⟨h1, p1⟩, p2⟩
      · exact .inr ⟨⟨h1, p1⟩, p2⟩
theorem walkM_E (hM : ∀ a b, M a b → E a b) : ∀ {l : List Int} {a b : Int}, walkM E M a l b → walkE E a l b
  | [], _, _, h => hM _ _ h
  | _ :: _, _, _, h => by
    rcases h with ⟨h1, h2⟩ | ⟨h1, h2⟩
    · exact ⟨hM _ _ h1, h2⟩
    · exact ⟨h1, walkM_E hM h2⟩
/-- In a way that grows there is a step that grows. -/
theorem walkM_step : ∀ {l : List Int} {a b : Int}, walkM E M a l b → ∃ c d, M c d ∧ (c = a ∨ ∃ l1, walkE E a l1 c) ∧ (d = b ∨ ∃ l2, walkE E d l2 b)
  | [], a, b, h => ⟨a, b, h, .inl rfl, .inl rfl⟩
  | x :: l, a, b, h => by
    rcases h with ⟨h1, h2⟩ | ⟨h1, h2⟩
    · exact ⟨a, x, h1, .inl rfl, .inr ⟨l, h2⟩⟩
    · obtain ⟨c, d, hm, hc, hd⟩ := walkM_step h2
      refine ⟨c, d, hm, .inr ?_, hd⟩
      rcases hc with rfl | ⟨l1, h3⟩
      · exact ⟨[], h1⟩
      · exact ⟨x :: l1, h1, h3⟩

theorem not_nodup : ∀ {l : List Int}, ¬ l.Nodup → ∃ v l1 l2 l3, l = l1 ++ v :: (l2 ++ v :: l3)
  | [], h => absurd List.nodup_nil h
  | x :: l, h => by
    by_cases hx : x ∈ l
    · obtain ⟨l2, l3, rfl⟩ := List.append_of_mem hx
      exact ⟨x, [], l2, l3, rfl⟩
    · have hn : ¬ l.Nodup := fun hl => h (List.nodup_cons.2 ⟨hx, hl⟩)
      obtain ⟨v, l1, l2, l3, e⟩ := not_nodup hn
      exact ⟨v, x :: l1, l2, l3, by rw [e]; rfl⟩
/-- Of a round that grows there is one by vertices that are all unlike. -/
theorem round_simple (m : Nat) : ∀ (l : List Int) (k : Int), l.length ≤ m → walkM E M k l k → ∃ l' k', l'.Nodup ∧ walkM E M k' l' k' := by
  induction m with
  | zero =>
    intro l k hl h
    have : l = [] := List.eq_nil_of_length_eq_zero (by omega)
    subst this
    exact ⟨[], k, List.nodup_nil, h⟩
  | succ m ih =>
    intro l k hl h
    by_cases hn : l.Nodup
    · exact ⟨l, k, hn, h⟩
    · obtain ⟨v, l1, l2, l3, rfl⟩ := not_nodup hn
      simp only [List.length_append, List.length_cons] at hl
      rcases walkM_part h with ⟨p1, p2⟩ | ⟨p1, p2⟩
      · obtain ⟨q1, q2⟩ := walkE_part p2
        exact ih (l1 ++ v :: l3) k (by simp only [List.length_append, List.length_cons]; omega) (walkM_left p1 q2)
      · rcases walkM_part p2 with ⟨q1, q2⟩ | ⟨q1, q2⟩
        · exact ih l2 v (by omega) q1
        · exact ih (l1 ++ v :: l3) k (by simp only [List.length_append, List.length_cons]; omega) (walkM_right p1 q2)

/-- A table of bools. -/
abbrev Tab := Int → Int → Bool
/-- Both tables tell ways alone. -/
def SoundT (E M : Int → Int → Prop) (T U : Tab) : Prop := (∀ a b, T a b = true → ∃ l, walkE E a l b) ∧ ∀ a b, U a b = true → ∃ l, walkM E M a l b
/-- All ways by unlike vertices below k are told. -/
def UptoT (E M : Int → Int → Prop) (k : Int) (T U : Tab) : Prop := ∀ (a b : Int) (l : List Int), l.Nodup → (∀ x ∈ l, 0 ≤ x ∧ x < k) → (walkE E a l b → T a b = true) ∧ (walkM E M a l b → U a b = true)
/-- What the step by way of k makes of one place. -/
def byU (T U : Tab) (k a b : Int) : Bool := U a b || (T a k && U k b) || (U a k && T k b)
def byT (T : Tab) (k a b : Int) : Bool := T a b || (T a k && T k b)
def setT (T : Tab) (a b : Int) (v : Bool) : Tab := fun x y => if x = a ∧ y = b then v else T x y
theorem sound_setU {T U : Tab} (h : SoundT E M T U) (k a b : Int) : SoundT E M T (setT U a b (byU T U k a b)) := by
  refine ⟨h.1, fun x y hxy => ?_⟩
  unfold setT at hxy
  split at hxy
  · rename_i e
    obtain ⟨rfl, rfl⟩ := e
    unfold byU at hxy
    simp only [Bool.or_eq_true, Bool.and_eq_true] at hxy
    rcases hxy with (h1 | ⟨h1, h2⟩) | ⟨h1, h2⟩
    · exact h.2 _ _ h1
    · obtain ⟨l1, p1⟩ := h.1 _ _ h1
      obtain ⟨l2, p2⟩ := h.2 _ _ h2
      exact ⟨_, walkM_right p1 p2⟩
    · obtain ⟨l1, p1⟩ := h.2 _ _ h1
      obtain ⟨l2, p2⟩ := h.1 _ _ h2
      exact ⟨_, walkM_left p1 p2⟩
  · exact h.2 _ _ hxy
theorem sound_setT {T U : Tab} (h : SoundT E M T U) (k a b : Int) : SoundT E M (setT T a b (byT T k a b)) U := by
  refine ⟨fun x y hxy => ?_, h.2⟩
  unfold setT at hxy
  split at hxy
  · rename_i e
    obtain ⟨rfl, rfl⟩ := e
    unfold byT at hxy
    simp only [Bool.or_eq_true, Bool.and_eq_true] at hxy
    rcases hxy with h1 | ⟨h1, h2⟩
    · exact h.1 _ _ h1
    · obtain ⟨l1, p1⟩ := h.1 _ _ h1
      obtain ⟨l2, p2⟩ := h.1 _ _ h2
      exact ⟨_, walkE_join p1 p2⟩
  · exact h.1 _ _ hxy
/-- T holds all that S holds. -/
def LeT (S T : Tab) : Prop := ∀ a b, S a b = true → T a b = true
theorem leT_set {T : Tab} {a b : Int} {v : Bool} (h : T a b = true → v = true) : LeT T (setT T a b v) := fun x y hxy => by
  unfold setT
  split
  · rename_i e
    obtain ⟨rfl, rfl⟩ := e
    exact h hxy
  · exact hxy
/-- The step by way of k is done at (a, b). -/
def DoneAt (T0 U0 T U : Tab) (k a b : Int) : Prop := (byT T0 k a b = true → T a b = true) ∧ (byU T0 U0 k a b = true → U a b = true)
theorem DoneAt.mono {T0 U0 T U T' U' : Tab} {k a b : Int} (h : DoneAt T0 U0 T U k a b) (hT : LeT T T') (hU : LeT U U') : DoneAt T0 U0 T' U' k a b := ⟨fun e => hT _ _ (h.1 e), fun e => hU _ _ (h.2 e)⟩
/-- One step more. -/
theorem upto_step' {T0 U0 T U : Tab} {n k : Int} (h : UptoT E M k T0 U0) (hE : ∀ a b, E a b → (0 ≤ a ∧ a < n) ∧ (0 ≤ b ∧ b < n)) (hM : ∀ a b, M a b → E a b) (hT : LeT T0 T) (hU : LeT U0 U) (hd : ∀ a b, 0 ≤ a → a < n → 0 ≤ b → b < n → DoneAt T0 U0 T U k a b) : UptoT E M (k + 1) T U := by
  have hends : ∀ {l : List Int} {a b : Int}, walkE E a l b → (0 ≤ a ∧ a < n) ∧ (0 ≤ b ∧ b < n) := by
    intro l
    induction l with
    | nil => intro a b h; exact hE _ _ h
    | cons c l ih => intro a b h; exact ⟨(hE _ _ h.1).1, (ih h.2).2⟩
  intro a b l hn hl
  by_cases hk : k ∈ l
  · obtain ⟨l1, l2, rfl⟩ := List.append_of_mem hk
    obtain ⟨n1, n2, n3⟩ := List.nodup_append.1 hn
    obtain ⟨n4, n5⟩ := List.nodup_cons.1 n2
    have hk1 : k ∉ l1 := fun hm => n3 k hm k List.mem_cons_self rfl
    have b1 : ∀ x ∈ l1, 0 ≤ x ∧ x < k := fun x hx => by
      have := hl x (List.mem_append_left _ hx)
      have : x ≠ k := fun e => hk1 (e ▸ hx)
      omega
    have b2 : ∀ x ∈ l2, 0 ≤ x ∧ x < k := fun x hx => by
      have := hl x (List.mem_append_right _ (List.mem_cons_of_mem _ hx))
      have : x ≠ k := fun e => n4 (e ▸ hx)
      omega
    have f1 := h a k l1 n1 b1
    have f2 := h k b l2 n5 b2
    refine ⟨fun hw => ?_, fun hw => ?_⟩
    · obtain ⟨⟨a1, a2⟩, ⟨a3, a4⟩⟩ := hends hw
      obtain ⟨p1, p2⟩ := walkE_part hw
      refine (hd a b a1 a2 a3 a4).1 ?_
      unfold byT
      rw [f1.1 p1, f2.1 p2]
      simp
    · obtain ⟨⟨a1, a2⟩, ⟨a3, a4⟩⟩ := hends (walkM_E hM hw)
      refine (hd a b a1 a2 a3 a4).2 ?_
      unfold byU
      rcases walkM_part hw with ⟨p1, p2⟩ | ⟨p1, p2⟩
      · rw [f1.2 p1, f2.1 p2]; simp
      · rw [f1.1 p1, f2.2 p2]; simp
  · have b1 : ∀ x ∈ l, 0 ≤ x ∧ x < k := fun x hx => by
      have := hl x hx
      have : x ≠ k := fun e => hk (e ▸ hx)
      omega
    have f := h a b l hn b1
    exact ⟨fun hw => hT _ _ (f.1 hw), fun hw => hU _ _ (f.2 hw)⟩
/-- At the start the tables tell just the steps. -/
theorem upto_zero {T U : Tab} (hT : ∀ a b, E a b → T a b = true) (hU : ∀ a b, M a b → U a b = true) : UptoT E M 0 T U := fun a b l hn hl => by
  cases l with
  | nil => exact ⟨hT a b, hU a b⟩
  | cons x l => have := hl x List.mem_cons_self; omega
/-- In the end some place (k, k) is told just where a step that grows can be gone round. -/
theorem tab_round {T U : Tab} {n : Int} (hE : ∀ a b, E a b → (0 ≤ a ∧ a < n) ∧ (0 ≤ b ∧ b < n)) (hM : ∀ a b, M a b → E a b) (hs : SoundT E M T U) (hu : UptoT E M n T U) :
    (∃ k, (0 ≤ k ∧ k < n) ∧ U k k = true) ↔ ∃ a b, M a b ∧ (b = a ∨ ∃ l, walkE E b l a) := by
  constructor
  · rintro ⟨k, _, hk⟩
    obtain ⟨l, hl⟩ := hs.2 k k hk
    obtain ⟨c, d, hm, hc, hd⟩ := walkM_step hl
    refine ⟨c, d, hm, ?_⟩
    rcases hc with rfl | ⟨l1, h1⟩
    · exact hd
    · rcases hd with rfl | ⟨l2, h2⟩
      · exact .inr ⟨l1, h1⟩
      · exact .inr ⟨_, walkE_join h2 h1⟩
  · rintro ⟨a, b, hm, hr⟩
    have hw : ∃ l, walkM E M a l a := by
      rcases hr with rfl | ⟨l, hl⟩
      · exact ⟨[], hm⟩
      · exact ⟨b :: l, .inl ⟨hm, hl⟩⟩
    obtain ⟨l, hl⟩ := hw
    obtain ⟨l', k', hn, hk⟩ := round_simple l.length l a (Nat.le_refl _) hl
    have hin : ∀ {l : List Int} {a b : Int}, walkE E a l b → ((0 ≤ a ∧ a < n) ∧ (0 ≤ b ∧ b < n)) ∧ ∀ x ∈ l, 0 ≤ x ∧ x < n := by
      intro l
      induction l with
      | nil => intro a b h; exact ⟨hE _ _ h, fun x hx => by cases hx⟩
      | cons c l ih =>
        intro a b h
        have h1 := hE _ _ h.1
        have h2 := ih h.2
        refine ⟨⟨h1.1, h2.1.2⟩, fun x hx => ?_⟩
        rcases List.mem_cons.1 hx with rfl | hx
        · exact h1.2
        · exact h2.2 x hx
    have hb := hin (walkM_E hM hk)
    exact ⟨k', hb.1.1, (hu k' k' l' hn hb.2).2 hk⟩

end Go.Proofs.YtfbpcdmpkbjifaaDoor

/- Two square tables of bools in memory, as l3Leads makes them. -/

namespace Go.Proofs.YtfbpcdmpkbjifaaDoor
open Go.RowKit

theorem Tryd.infoBool : (Tryd.prog.info? 4).map (fun i => (i.zero, i.size, i.bytes)) = some (some (.bool false), 1, 1) := by kernel_rfl
theorem Tryd.infoBools : (Tryd.prog.info? 205).map (fun i => (i.zero, i.size, i.bytes)) = some (some (.slice none 0 0), 1, 24) := by kernel_rfl

/-- N bools. -/
def bools (N : Nat) (f : Int → Bool) : Array Value := Array.ofFn (n := N) fun b => .bool (f (b.val : Int))
theorem bools_get {N : Nat} {f : Int → Bool} {b : Nat} (hb : b < N) : (bools N f)[b]? = some (.bool (f b)) := by
  unfold bools
  rw [Array.getElem?_ofFn, dif_pos hb]
theorem bools_size {N : Nat} {f : Int → Bool} : (bools N f).size = N := by unfold bools; simp
theorem bools_set {N : Nat} {f : Int → Bool} {b : Nat} {v : Bool} : (bools N f).setIfInBounds b (.bool v) = bools N fun y => if y = b then v else f y := by
  apply Array.ext
  · simp [bools_size]
  · intro i h1 h2
    have hi : i < N := by rw [bools_size] at h2; exact h2
    have e : (bools N fun y => if y = b then v else f y)[i]? = some (.bool (if (i : Int) = b then v else f i)) := bools_get hi
    have e2 : ((bools N f).setIfInBounds b (.bool v))[i]? = some (.bool (if (i : Int) = b then v else f i)) := by
      rw [Array.getElem?_setIfInBounds]
      by_cases h : b = i
      · subst h
        rw [if_pos rfl, if_pos (by rw [bools_size]; exact hi), if_pos rfl]
      · rw [if_neg h, bools_get hi, if_neg (by omega)]
    rw [Array.getElem?_eq_getElem h1] at e2
    rw [Array.getElem?_eq_getElem h2] at e
    exact (Option.some.inj e2).trans (Option.some.inj e).symm
theorem bools_no (N : Nat) : madeCells #[.bool false] N = bools N fun _ => false := by
  apply Array.ext
  · rw [size_madeCells, bools_size]
  · intro i h1 h2
    simp [madeCells, bools, Nat.mod_one]

theorem make_bools (n : Nat) (hn : n ≤ 6) (w : World) :
    (Instr.makeSlice 205 (.int .i64 (n : Int)) (.int .i64 (n : Int))).run Tryd.prog w = .ok (.slice (some ⟨w.heap.size, 0, none⟩) n n) (w.alloc (.cells (bools n fun _ => false) 4)) := by
  obtain ⟨i, hi, hz, hs, hb⟩ := info_of Tryd.infoBool
  have h := run_make (P := Tryd.prog) w 205 4 i _ Tryd.underlying205 hi hz .i64 .i64 n n (by omega) (by omega) (by rw [hb]; omega) (by omega)
  rw [hs] at h
  rw [← bools_no]
  simpa [Value.cells] using h
def zS (n : Nat) : Array Value := madeCells #[.slice none 0 0] n
theorem zS_size (n : Nat) : (zS n).size = n := size_madeCells _ _
theorem make_rows (n : Nat) (hn : n ≤ 6) (w : World) :
    (Instr.makeSlice 206 (.int .i64 (n : Int)) (.int .i64 (n : Int))).run Tryd.prog w = .ok (.slice (some ⟨w.heap.size, 0, none⟩) n n) (w.alloc (.cells (zS n) 205)) := by
  obtain ⟨i, hi, hz, hs, hb⟩ := info_of Tryd.infoBools
  have h := run_make (P := Tryd.prog) w 206 205 i _ Tryd.underlying206 hi hz .i64 .i64 n n (by omega) (by omega) (by rw [hb]; omega) (by omega)
  rw [hs] at h
  simpa [zS, Value.cells] using h

/-- The first k rows of the two tables T and U, behind block S. -/
def Tabs2 (w : World) (S N k : Nat) (T U : Tab) : Prop :=
  (∃ cs, Row w S 205 cs ∧ cs.size = N ∧ ∀ a : Nat, a < k → cs[a]? = some (.slice (some ⟨S + 2 + 2 * a, 0, none⟩) N N)) ∧
  (∃ cs, Row w (S + 1) 205 cs ∧ cs.size = N ∧ ∀ a : Nat, a < k → cs[a]? = some (.slice (some ⟨S + 3 + 2 * a, 0, none⟩) N N)) ∧
  (∀ a : Nat, a < k → Row w (S + 2 + 2 * a) 4 (bools N (T a))) ∧
  ∀ a : Nat, a < k → Row w (S + 3 + 2 * a) 4 (bools N (U a))

theorem Tabs2.lt {w : World} {S N k : Nat} {T U : Tab} (h : Tabs2 w S N k T U) : S + 2 + 2 * k ≤ w.heap.size := by
  obtain ⟨_, ⟨_, h2, _⟩, _, h4⟩ := h
  have := h2.lt
  cases k with
  | zero => omega
  | succ k => have := (h4 k (by omega)).lt; omega
theorem Tabs2.keep {w w' : World} {S N k B : Nat} {T U : Tab} (h : Tabs2 w S N k T U) (hb : Below B w w') (hB : S + 2 + 2 * k ≤ B) : Tabs2 w' S N k T U := by
  obtain ⟨⟨cs, h1, h1'⟩, ⟨ds, h2, h2'⟩, h3, h4⟩ := h
  exact ⟨⟨cs, h1.below hb (by omega), h1'⟩, ⟨ds, h2.below hb (by omega), h2'⟩, fun a ha => (h3 a ha).below hb (by omega), fun a ha => (h4 a ha).below hb (by omega)⟩
theorem Tabs2.one {w : World} {S N k : Nat} {T U : Tab} (h : Tabs2 w S N k T U) {a : Nat} (ha : a < k) : w.cell? ⟨S, a, none⟩ = some (.slice (some ⟨S + 2 + 2 * a, 0, none⟩) N N) := by
  obtain ⟨⟨cs, h1, _, h1'⟩, _⟩ := h
  exact (h1.cell a).trans (h1' a ha)
theorem Tabs2.two {w : World} {S N k : Nat} {T U : Tab} (h : Tabs2 w S N k T U) {a : Nat} (ha : a < k) : w.cell? ⟨S + 1, a, none⟩ = some (.slice (some ⟨S + 3 + 2 * a, 0, none⟩) N N) := by
  obtain ⟨_, ⟨cs, h1, _, h1'⟩, _⟩ := h
  exact (h1.cell a).trans (h1' a ha)
theorem Tabs2.atT {w : World} {S N k : Nat} {T U : Tab} (h : Tabs2 w S N k T U) {a b : Nat} (ha : a < k) (hb : b < N) : w.cell? ⟨S + 2 + 2 * a, b, none⟩ = some (.bool (T a b)) ∧ w.frozen? ⟨S + 2 + 2 * a, b, none⟩ = false := by
  obtain ⟨_, _, h3, _⟩ := h
  exact ⟨((h3 a ha).cell b).trans (bools_get hb), (h3 a ha).frozen b⟩
theorem Tabs2.atU {w : World} {S N k : Nat} {T U : Tab} (h : Tabs2 w S N k T U) {a b : Nat} (ha : a < k) (hb : b < N) : w.cell? ⟨S + 3 + 2 * a, b, none⟩ = some (.bool (U a b)) ∧ w.frozen? ⟨S + 3 + 2 * a, b, none⟩ = false := by
  obtain ⟨_, _, _, h4⟩ := h
  exact ⟨((h4 a ha).cell b).trans (bools_get hb), (h4 a ha).frozen b⟩
theorem setT_row {T : Tab} {a b : Int} {v : Bool} : (fun y => if y = b then v else T a y) = setT T a b v a := by
  funext y
  unfold setT
  by_cases h : y = b
  · rw [if_pos h, if_pos ⟨rfl, h⟩]
  · rw [if_neg h, if_neg fun e => h e.2]
theorem setT_far {T : Tab} {a b c : Int} {v : Bool} (h : c ≠ a) : setT T a b v c = T c := by
  funext y
  unfold setT
  rw [if_neg fun e => h e.1]
theorem Tabs2.putT {w : World} {S N k : Nat} {T U : Tab} (h : Tabs2 w S N k T U) {a : Nat} (ha : a < k) (b : Nat) (v : Bool) : Tabs2 (w.setCell ⟨S + 2 + 2 * a, b, none⟩ (.bool v)) S N k (setT T a b v) U := by
  obtain ⟨⟨cs, h1, h1'⟩, ⟨ds, h2, h2'⟩, h3, h4⟩ := h
  refine ⟨⟨cs, h1.far (by simp; omega) _, h1'⟩, ⟨ds, h2.far (by simp; omega) _, h2'⟩, fun c hc => ?_, fun c hc => (h4 c hc).far (by simp; omega) _⟩
  by_cases e : c = a
  · subst e
    have h5 := (h3 c ha).set b (.bool v)
    rw [bools_set, setT_row] at h5
    exact h5
  · rw [setT_far (by omega)]
    exact (h3 c hc).far (by simp; omega) _
theorem Tabs2.putU {w : World} {S N k : Nat} {T U : Tab} (h : Tabs2 w S N k T U) {a : Nat} (ha : a < k) (b : Nat) (v : Bool) : Tabs2 (w.setCell ⟨S + 3 + 2 * a, b, none⟩ (.bool v)) S N k T (setT U a b v) := by
  obtain ⟨⟨cs, h1, h1'⟩, ⟨ds, h2, h2'⟩, h3, h4⟩ := h
  refine ⟨⟨cs, h1.far (by simp; omega) _, h1'⟩, ⟨ds, h2.far (by simp; omega) _, h2'⟩, fun c hc => (h3 c hc).far (by simp; omega) _, fun c hc => ?_⟩
  by_cases e : c = a
  · subst e
    have h5 := (h4 c ha).set b (.bool v)
    rw [bools_set, setT_row] at h5
    exact h5
  · rw [setT_far (by omega)]
    exact (h4 c hc).far (by simp; omega) _

def noT : Tab := fun _ _ => false
theorem Tabs2.made (w : World) (N : Nat) : Tabs2 ((w.alloc (.cells (zS N) 205)).alloc (.cells (zS N) 205)) w.heap.size N 0 noT noT := by
  refine ⟨⟨zS N, (Row.new w _ _).alloc _, zS_size _, fun a h => absurd h (by omega)⟩, ⟨zS N, ?_, zS_size _, fun a h => absurd h (by omega)⟩, fun a h => absurd h (by omega), fun a h => absurd h (by omega)⟩
  have h := Row.new (w.alloc (.cells (zS N) 205)) 205 (zS N)
  rw [World.size_alloc] at h
  exact h
theorem Tabs2.grow {w : World} {S N k : Nat} (h : Tabs2 w S N k noT noT) (hs : w.heap.size = S + 2 + 2 * k) (hk : k < N) :
    Tabs2 ((((w.setCell ⟨S, k, none⟩ (.slice (some ⟨w.heap.size, 0, none⟩) N N)).setCell ⟨S + 1, k, none⟩ (.slice (some ⟨w.heap.size + 1, 0, none⟩) N N)).alloc (.cells (bools N fun _ => false) 4)).alloc (.cells (bools N fun _ => false) 4)) S N (k + 1) noT noT := by
  obtain ⟨⟨cs, h1, h1s, h1'⟩, ⟨ds, h2, h2s, h2'⟩, h3, h4⟩ := h
  generalize hW : ((w.setCell ⟨S, k, none⟩ (.slice (some ⟨w.heap.size, 0, none⟩) N N)).setCell ⟨S + 1, k, none⟩ (.slice (some ⟨w.heap.size + 1, 0, none⟩) N N)) = W
  have hz : W.heap.size = w.heap.size := by subst hW; simp
  have hT : Row (W.alloc (.cells (bools N fun _ => false) 4)) w.heap.size 4 (bools N fun _ => false) := by
    have h := Row.new W 4 (bools N fun _ => false)
    rw [hz] at h
    exact h
  have hU : Row ((W.alloc (.cells (bools N fun _ => false) 4)).alloc (.cells (bools N fun _ => false) 4)) (w.heap.size + 1) 4 (bools N fun _ => false) := by
    have h := Row.new (W.alloc (.cells (bools N fun _ => false) 4)) 4 (bools N fun _ => false)
    rw [World.size_alloc, hz] at h
    exact h
  have k1 : Row W S 205 (cs.setIfInBounds k (.slice (some ⟨w.heap.size, 0, none⟩) N N)) := by subst hW; exact (h1.set k _).far (by simp) _
  have k2 : Row W (S + 1) 205 (ds.setIfInBounds k (.slice (some ⟨w.heap.size + 1, 0, none⟩) N N)) := by subst hW; exact (h2.far (by simp) _).set k _
  have k3 : ∀ {g : Nat} {t : TypeId} {es : Array Value}, Row w g t es → g ≠ S → g ≠ S + 1 → Row W g t es := fun h a b => by subst hW; exact (h.far (by simpa using a) _).far (by simpa using b) _
  refine ⟨⟨_, (k1.alloc _).alloc _, by simp [h1s], fun a ha => ?_⟩, ⟨_, (k2.alloc _).alloc _, by simp [h2s], fun a ha => ?_⟩, fun a ha => ?_, fun a ha => ?_⟩
  · rw [Array.getElem?_setIfInBounds]
    by_cases e : k = a
    · subst e
      rw [if_pos rfl, if_pos (by omega), hs]
    · rw [if_neg e]
      exact h1' a (by omega)
  · rw [Array.getElem?_setIfInBounds]
    by_cases e : k = a
    · subst e
      rw [if_pos rfl, if_pos (by omega), hs]
      have : S + 2 + 2 * k + 1 = S + 3 + 2 * k := by omega
      rw [this]
    · rw [if_neg e]
      exact h2' a (by omega)
  · by_cases e : k = a
    · subst e
      rw [← hs]
      exact hT.alloc _
    · exact ((k3 (h3 a (by omega)) (by omega) (by omega)).alloc _).alloc _
  · by_cases e : k = a
    · subst e
      have : S + 3 + 2 * k = w.heap.size + 1 := by omega
      rw [this]
      exact hU
    · exact ((k3 (h4 a (by omega)) (by omega) (by omega)).alloc _).alloc _

end Go.Proofs.YtfbpcdmpkbjifaaDoor

/- What GoodWord answers, the program's and the reference's. -/

namespace Go.Proofs.YtfbpcdmpkbjifaaDoor
open Go.RowKit

/-- All numbers lie within bounds. -/
def allB (lo hi : Int) (xs : List Int) : Bool := xs.all fun x => inB lo hi x
theorem allB_iff {lo hi : Int} {xs : List Int} : allB lo hi xs = true ↔ ∀ (k : Nat) (x : Int), xs[k]? = some x → inB lo hi x = true := by
  unfold allB
  rw [List.all_eq_true]
  constructor
  · intro h k x hx
    exact h x (List.mem_of_getElem? hx)
  · intro h x hx
    obtain ⟨k, hk⟩ := List.mem_iff_getElem?.1 hx
    exact h k x hk
theorem allB_not {lo hi : Int} {xs : List Int} {k : Nat} (hk : k < xs.length) (h : inB lo hi xs[k] = false) : allB lo hi xs = false := by
  cases e : allB lo hi xs
  · rfl
  · rw [allB_iff.1 e k _ (List.getElem?_eq_getElem hk)] at h; cases h
theorem allB_of {lo hi : Int} {xs : List Int} {k : Nat} (hk : ¬ k < xs.length) (h : ∀ (j : Nat) (x : Int), j < k → xs[j]? = some x → inB lo hi x = true) : allB lo hi xs = true :=
  allB_iff.2 fun j x hx => h j x (by have := (List.getElem?_eq_some_iff.1 hx).1; omega) hx
theorem all_step {lo hi : Int} {xs : List Int} {k : Nat} (hk : k < xs.length) (h : inB lo hi xs[k] = true) (H : ∀ (j : Nat) (x : Int), j < k → xs[j]? = some x → inB lo hi x = true) :
    ∀ (j : Nat) (x : Int), j < k + 1 → xs[j]? = some x → inB lo hi x = true := by
  intro j x hj hx
  by_cases e : j = k
  · subst e; rw [List.getElem?_eq_getElem hk] at hx; injection hx with hx; subst hx; exact h
  · exact H j x (by omega) hx

def wordB (t : Int) (xs : List Int) : Bool := decide (xs.length ≤ 10) && allB 0 (t - 1) xs
def goodW (n t : Int) (ss : List (Int × List Int)) (xs : List Int) : Bool := goodG n t ss && wordB t xs
theorem goodW_no {n t : Int} {ss : List (Int × List Int)} {xs : List Int} (h : goodG n t ss = false) : goodW n t ss xs = false := by unfold goodW; rw [h]; rfl
theorem goodW_yes {n t : Int} {ss : List (Int × List Int)} {xs : List Int} (h : goodG n t ss = true) : goodW n t ss xs = wordB t xs := by unfold goodW; rw [h]; rfl
theorem wordB_long {t : Int} {xs : List Int} (h : ¬ xs.length ≤ 10) : wordB t xs = false := by unfold wordB; rw [decide_eq_false h]; rfl
theorem wordB_all {t : Int} {xs : List Int} (h : xs.length ≤ 10) : wordB t xs = allB 0 (t - 1) xs := by unfold wordB; rw [decide_eq_true h]; rfl

set_option maxHeartbeats 400000 in
theorem l1All_any (A : Option Addr) (xs : List Int) (c : Nat) (lo hi : Int) (w : World) (hx : Ints w w.heap.size A xs) (h1 : xs.length ≤ 1048576) :
    Calls Tryd.prog 119 #[.slice A xs.length c, .int .i64 lo, .int .i64 hi] w fun e w' => e = .returned (.bool (allB lo hi xs)) ∧ Below w.heap.size w w' := by
  have HX := Lib.hid hx; clear hx
  go_enter Tryd.func119, Tryd.ntmps119
  go_wp2
  go_loopw [11] (fun i wr => ∃ (k : Nat), k ≤ xs.length ∧ i = .int .i64 k ∧ Below w.heap.size w wr ∧ Hid (∀ (j : Nat) (x : Int), j < k → xs[j]? = some x → inB lo hi x = true)) (fun i _ => xs.length - (intOf i).toNat)
  case atStart => exact ⟨0, by omega, rfl, Below.refl _ _, fun j x h => absurd h (by omega)⟩
  case round =>
    obtain ⟨k, hk, rfl, hB, H⟩ := hrel
    by_cases hlt : k < xs.length
    · obtain ⟨b, o, rfl, hb, c1⟩ := (HX.out.keep hB).at_ hlt
      cases hs : inB lo hi xs[k]
      all_goals
        have HS := Lib.hid hs; clear hs
        go_wp2_with fail
        refine (l1In_any _ _ _ _).mono ?_
        rintro e w1 ⟨rfl, rfl⟩
        rw [HS.out]
        go_wp2
      · have HE : Hid (allB lo hi xs = false) := allB_not hlt HS.out
        go_ret
        exact ⟨ret_bool HE.out.symm, hB⟩
      · go_roundw
        case rel => exact ⟨k + 1, by omega, by go_num, hB, all_step hlt HS.out H.out⟩
        case measure => simp [intOf]; omega
    · have HE : Hid (allB lo hi xs = true) := allB_of hlt H.out
      go_wp2
      go_ret
      exact ⟨ret_bool HE.out.symm, hB⟩

end Go.Proofs.YtfbpcdmpkbjifaaDoor

/- The reference's table of what derives what in memory, and what it tells of symbols. -/

namespace Go.Proofs.YtfbpcdmpkbjifaaDoor
open Go.RowKit

noncomputable def bD (P : Prop) : Bool := @decide P (Classical.propDecidable P)
theorem bD_t {P : Prop} (h : P) : bD P = true := @decide_eq_true P (Classical.propDecidable P) h
theorem bD_f {P : Prop} (h : ¬ P) : bD P = false := @decide_eq_false P (Classical.propDecidable P) h
theorem bD_iff {P : Prop} : bD P = true ↔ P := ⟨fun h => @of_decide_eq_true P (Classical.propDecidable P) h, bD_t⟩
theorem bD_eq {P : Prop} {b : Bool} (h : b = true ↔ P) : bD P = b := by
  cases b
  · exact bD_f fun k => by have := h.2 k; cases this
  · exact bD_t (h.1 rfl)

/-- The first k rows of the table T, behind block S: N of them, of M cells. -/
def TabR (w : World) (S N M k : Nat) (T : Nat → Nat → Bool) : Prop :=
  (∃ cs, Row w S 205 cs ∧ cs.size = N ∧ ∀ a : Nat, a < k → cs[a]? = some (.slice (some ⟨S + 1 + a, 0, none⟩) M M)) ∧ ∀ a : Nat, a < k → Row w (S + 1 + a) 4 (bools M fun c => T a c.toNat)
theorem TabR.lt {w : World} {S N M k : Nat} {T : Nat → Nat → Bool} (h : TabR w S N M k T) : S + 1 + k ≤ w.heap.size := by
  obtain ⟨⟨_, h2, _⟩, h4⟩ := h
  have := h2.lt
  cases k with
  | zero => omega
  | succ k => have := (h4 k (by omega)).lt; omega
theorem TabR.keep {w w' : World} {S N M k B : Nat} {T : Nat → Nat → Bool} (h : TabR w S N M k T) (hb : Below B w w') (hB : S + 1 + k ≤ B) : TabR w' S N M k T := by
  obtain ⟨⟨cs, h1, h1'⟩, h3⟩ := h
  exact ⟨⟨cs, h1.below hb (by omega), h1'⟩, fun a ha => (h3 a ha).below hb (by omega)⟩
theorem TabR.row {w : World} {S N M k : Nat} {T : Nat → Nat → Bool} (h : TabR w S N M k T) {a : Nat} (ha : a < k) : w.cell? ⟨S, a, none⟩ = some (.slice (some ⟨S + 1 + a, 0, none⟩) M M) := by
  obtain ⟨⟨cs, h1, _, h1'⟩, _⟩ := h
  exact (h1.cell a).trans (h1' a ha)
theorem TabR.at_ {w : World} {S N M k : Nat} {T : Nat → Nat → Bool} (h : TabR w S N M k T) {a c : Nat} (ha : a < k) (hc : c < M) : w.cell? ⟨S + 1 + a, c, none⟩ = some (.bool (T a c)) ∧ w.frozen? ⟨S + 1 + a, c, none⟩ = false := by
  have h3 := h.2 a ha
  refine ⟨(h3.cell c).trans ((bools_get hc).trans ?_), h3.frozen c⟩
  rw [Int.toNat_natCast]
theorem TabR.put {w : World} {S N M k : Nat} {T : Nat → Nat → Bool} (h : TabR w S N M k T) {a c : Nat} (ha : a < k) : TabR (w.setCell ⟨S + 1 + a, c, none⟩ (.bool true)) S N M k (setB T a c) := by
  obtain ⟨⟨cs, h1, h1'⟩, h3⟩ := h
  refine ⟨⟨cs, h1.far (by simp; omega) _, h1'⟩, fun b hb => ?_⟩
  by_cases e : b = a
  · subst e
    have h4 := (h3 b hb).set c (.bool true)
    rw [bools_set] at h4
    have e3 : bools M (fun y : Int => setB T b c b y.toNat) = bools M (fun y : Int => if y = (c : Int) then true else T b y.toNat) := by
      unfold bools
      congr 1
      funext i
      unfold setB
      dsimp only
      by_cases e4 : i.val = c
      · rw [if_pos ⟨rfl, by simpa using e4⟩, if_pos (by omega)]
      · rw [if_neg (fun h => e4 (by simpa using h.2)), if_neg (by omega)]
    rw [e3]
    exact h4
  · have h4 := (h3 b hb).far (p := ⟨S + 1 + a, c, none⟩) (by simp; omega) (.bool true)
    have e3 : (fun y : Int => setB T a c b y.toNat) = fun y : Int => T b y.toNat := by
      funext y
      unfold setB
      rw [if_neg (fun h => e h.1)]
    rw [e3]
    exact h4

set_option maxRecDepth 20000 in
set_option maxHeartbeats 1000000 in
theorem l4Symbol_any (S N : Nat) (T : Nat → Nat → Bool) (Aw : Option Addr) (cw : Nat) (ws : List Int) (x : Int) (i j : Nat) (v : World) (hT : TabR v S N ((ws.length + 1) * (ws.length + 1)) N T) (hW : Ints v v.heap.size Aw ws) (hw : ws.length ≤ 10) (hi : i ≤ ws.length) (hj : j ≤ ws.length) (hx : -10 ≤ x ∧ x < N) :
    Calls Tryd.prog 183 #[.slice (some ⟨S, 0, none⟩) N N, .slice Aw ws.length cw, .int .i64 x, .int .i64 (i : Int), .int .i64 (j : Int)] v fun e v' => e = .returned (.bool (bD (SymD (DT ws.length T) ws x i j))) ∧ v' = v := by
  obtain ⟨x0, x1⟩ := hx
  by_cases h0 : 0 ≤ x
  · obtain ⟨y, rfl⟩ := Int.eq_ofNat_of_zero_le h0
    have hyN : y < N := by omega
    have c1 := hT.row hyN
    obtain ⟨c2, _⟩ := hT.at_ hyN (cell_lt hi hj)
    have HV : Hid (bD (SymD (DT ws.length T) ws y i j) = T y (i * (ws.length + 1) + j)) := bD_eq ⟨fun h => .inr ⟨h0, h0, hi, hj, h⟩, fun h => by rcases h with h | h; omega; exact h.2.2.2.2⟩
    have hq : (i : Int) * ((ws.length : Int) + 1) + (j : Int) = ((i * (ws.length + 1) + j : Nat) : Int) := by simp
    have hl := cell_lt hi hj
    have h121 := cell_121 hw hl
    have hp : (i : Int) * ((ws.length : Int) + 1) = ((i * (ws.length + 1) : Nat) : Int) := by simp
    have hb0 : (i : Int) * ((ws.length : Int) + 1) ≤ 121 := by omega
    have hb1 : 0 ≤ (i : Int) * ((ws.length : Int) + 1) := by omega
    generalize hqq : i * (ws.length + 1) + j = q at *
    generalize hM : (ws.length + 1) * (ws.length + 1) = M at *
    clear hqq hM hp h0 hT hW
    go_enter Tryd.func183, Tryd.ntmps183
    go_wp2
    go_ret
    exact ⟨ret_bool HV.out.symm, rfl⟩
  · have hxn : x < 0 := by omega
    by_cases he : j = i + 1
    · subst he
      obtain ⟨p, o, rfl, hp, c1⟩ := hW.at_ (show i < ws.length by omega)
      have HV : Hid (bD (SymD (DT ws.length T) ws x i (i + 1)) = (ws[i] == -1 - x)) := bD_eq (by
        rw [beq_iff_eq]
        exact ⟨fun h => .inl ⟨hxn, rfl, by rw [List.getElem?_eq_getElem (by omega), h]⟩, fun h => by
          rcases h with h | h
          · exact (List.getElem?_eq_some_iff.1 h.2.2).2
          · omega⟩)
      have hje : (((i + 1 : Nat) : Int) == (i : Int) + 1) = true := by rw [beq_iff_eq]; omega
      clear hT hW
      go_enter Tryd.func183, Tryd.ntmps183
      go_wp2
      go_ret
      exact ⟨ret_bool HV.out.symm, rfl⟩
    · have HV : Hid (bD (SymD (DT ws.length T) ws x i j) = false) := bD_f (by rintro (h | h); exact he h.2.1; omega)
      have hje : ((j : Int) == (i : Int) + 1) = false := by rw [beq_eq_false_iff_ne]; omega
      clear hT hW
      go_enter Tryd.func183, Tryd.ntmps183
      go_wp2
      go_ret
      exact ⟨ret_bool HV.out.symm, rfl⟩

theorem Ints.tail {w : World} {B : Nat} {b o : Nat} {x : Int} {xs : List Int} (h : Ints w B (some ⟨b, o, none⟩) (x :: xs)) : Ints w B (some ⟨b, o + 1, none⟩) xs := fun _ => by
  obtain ⟨b', o', e, hb, hc⟩ := h (by simp)
  injection e with e
  injection e with e1 e2
  subst e1 e2
  refine ⟨b, o + 1, rfl, hb, fun k y hk => ?_⟩
  have := hc (k + 1) y (by simpa using hk)
  rwa [show o + 1 + k = o + (k + 1) by omega]

set_option maxRecDepth 20000 in
set_option maxHeartbeats 1000000 in
theorem l4Fits_any (S N : Nat) (T : Nat → Nat → Bool) (Aw : Option Addr) (cw : Nat) (ws : List Int) (v : World) (hT : TabR v S N ((ws.length + 1) * (ws.length + 1)) N T) (hW : Ints v v.heap.size Aw ws) (hw : ws.length ≤ 10) (hD : InD ws.length (DT ws.length T)) (j : Nat) (hj : j ≤ ws.length) :
    ∀ (xs : List Int) (Ar : Option Addr) (cr i : Nat), Ints v v.heap.size Ar xs → xs.length ≤ cr → xs.length ≤ 4 → (∀ x ∈ xs, -10 ≤ x ∧ x < N) → i ≤ ws.length →
    Calls Tryd.prog 182 #[.slice (some ⟨S, 0, none⟩) N N, .slice Aw ws.length cw, .slice Ar xs.length cr, .int .i64 (i : Int), .int .i64 (j : Int)] v fun e v' => e = .returned (.bool (bD (SeqD (DT ws.length T) ws xs i j))) ∧ v' = v := by
  have HT := Lib.hid hT; clear hT
  have HW := Lib.hid hW; clear hW
  have HD := Lib.hid hD; clear hD
  intro xs
  induction xs with
  | nil =>
    intro Ar cr i _ _ _ _ hi
    have HV : Hid (bD (SeqD (DT ws.length T) ws [] i j) = ((i : Int) == (j : Int))) := bD_eq (by rw [beq_iff_eq]; exact ⟨fun h => by show i = j; omega, fun h => by have h' : i = j := h; omega⟩)
    go_enter Tryd.func182, Tryd.ntmps182
    go_wp2
    go_ret
    exact ⟨ret_bool HV.out.symm, rfl⟩
  | cons x xs ih =>
    intro Ar cr i hr hcr hl4 hx hi
    have IH := Lib.hid ih; clear ih
    obtain ⟨b, o, hA, hb, c1⟩ := hr.at_ (k := 0) (by simp)
    subst hA
    have HR := Lib.hid hr; clear hr
    have HX := Lib.hid hx; clear hx
    simp only [List.getElem_cons_zero, Nat.add_zero] at c1
    simp only [List.length_cons] at hcr hl4 ⊢
    have HC1 := Lib.hid (fun m hm => l4Symbol_any S N T Aw cw ws x i m v HT.out HW.out hw hi hm (HX.out x (by simp)))
    have HC2 : Hid (∀ m : Nat, m ≤ ws.length → Calls Tryd.prog 182 #[.slice (some ⟨S, 0, none⟩) N N, .slice Aw ws.length cw, .slice (some ⟨b, o + 1, none⟩) xs.length (cr - 1), .int .i64 (m : Int), .int .i64 (j : Int)] v fun e v' => e = .returned (.bool (bD (SeqD (DT ws.length T) ws xs m j))) ∧ v' = v) := fun m hm => IH.out _ _ _ HR.out.tail (by omega) (by omega) (fun y hy => HX.out y (by simp [hy])) hm
    have HC3 : Hid (xs.length = 0 → ∀ m : Nat, m ≤ ws.length → Calls Tryd.prog 182 #[.slice (some ⟨S, 0, none⟩) N N, .slice Aw ws.length cw, .slice (some ⟨b, o, none⟩) xs.length 0, .int .i64 (m : Int), .int .i64 (j : Int)] v fun e v' => e = .returned (.bool (bD (SeqD (DT ws.length T) ws xs m j))) ∧ v' = v) := fun h0 m hm => IH.out _ _ _ (fun h => by omega) (by omega) (by omega) (fun y hy => HX.out y (by simp [hy])) hm
    clear HT HW IH HR HX
    obtain ⟨L, hL⟩ : ∃ L, L = xs.length + 1 := ⟨_, rfl⟩
    have hL1 : xs.length = L - 1 := by omega
    rw [← hL] at hcr hl4 ⊢
    rw [hL1] at HC2 HC3
    have hL0 : 1 ≤ L := by omega
    have hLz : ((L : Int) == 0) = false := by rw [beq_eq_false_iff_ne]; omega
    clear hL hL1
    have hcc : cr = 1 ∨ (1 < cr ∧ ¬ cr ≤ 1 ∧ ¬ cr - 1 = 0) := by omega
    rcases hcc with rfl | ⟨hc1, hc2, hc3⟩
    case' inl =>
      have HC := Lib.hid (HC3.out (by omega))
      clear HC2 HC3 hcr
    case' inr =>
      have HC := Lib.hid HC2.out
      clear HC2 HC3 hcr
    all_goals
      go_enter Tryd.func182, Tryd.ntmps182
      go_wp2
      go_loopw [11] (fun n wr => ∃ m : Nat, i ≤ m ∧ n = .int .i64 m ∧ wr = v ∧ m ≤ ws.length + 1 ∧ Hid (∀ m', i ≤ m' → m' < m → m' ≤ j → ¬ (SymD (DT ws.length T) ws x i m' ∧ SeqD (DT ws.length T) ws xs m' j))) (fun n _ => ws.length + 1 - (intOf n).toNat)
      case atStart => exact ⟨i, Nat.le_refl _, rfl, rfl, by omega, fun m' h1 h2 => absurd h1 (by omega)⟩
      case round =>
        obtain ⟨m, hm, rfl, hwr, hm2, H⟩ := hrel
        subst hwr
        by_cases hmj : m ≤ j
        · cases hs : bD (SymD (DT ws.length T) ws x i m)
          · have HN : Hid (∀ m', i ≤ m' → m' < m + 1 → m' ≤ j → ¬ (SymD (DT ws.length T) ws x i m' ∧ SeqD (DT ws.length T) ws xs m' j)) := fun m' h1 h2 h3 => by
              by_cases e : m' = m
              · subst e; exact fun h => by rw [bD_t h.1] at hs; cases hs
              · exact H.out m' h1 (by omega) h3
            have HS := Lib.hid hs; clear hs
            go_wp2_with fail
            refine (HC1.out m (by omega)).mono ?_
            rintro e w1 ⟨rfl, rfl⟩
            rw [HS.out]
            go_wp2
            go_roundw
            case rel => exact ⟨m + 1, by omega, by go_num, trivial, by omega, HN.out⟩
            case measure => simp [intOf]; omega
          · have HS := Lib.hid hs
            have hS := bD_iff.1 hs
            clear hs
            cases hq : bD (SeqD (DT ws.length T) ws xs m j)
            · have HN : Hid (∀ m', i ≤ m' → m' < m + 1 → m' ≤ j → ¬ (SymD (DT ws.length T) ws x i m' ∧ SeqD (DT ws.length T) ws xs m' j)) := fun m' h1 h2 h3 => by
                by_cases e : m' = m
                · subst e; exact fun h => by rw [bD_t h.2] at hq; cases hq
                · exact H.out m' h1 (by omega) h3
              have HQ := Lib.hid hq; clear hq hS
              go_wp2_with fail
              refine (HC1.out m (by omega)).mono ?_
              rintro e w1 ⟨rfl, rfl⟩
              rw [HS.out]
              go_wp2_with fail
              refine (HC.out m (by omega)).mono ?_
              rintro e w2 ⟨rfl, rfl⟩
              rw [HQ.out]
              go_wp2
              go_roundw
              case rel => exact ⟨m + 1, by omega, by go_num, trivial, by omega, HN.out⟩
              case measure => simp [intOf]; omega
            · have HE : Hid (bD (SeqD (DT ws.length T) ws (x :: xs) i j) = true) := bD_t ⟨m, hS, bD_iff.1 hq⟩
              have HQ := Lib.hid hq; clear hq hS
              go_wp2_with fail
              refine (HC1.out m (by omega)).mono ?_
              rintro e w1 ⟨rfl, rfl⟩
              rw [HS.out]
              go_wp2_with fail
              refine (HC.out m (by omega)).mono ?_
              rintro e w2 ⟨rfl, rfl⟩
              rw [HQ.out]
              go_wp2
              go_ret
              exact ⟨ret_bool HE.out.symm, rfl⟩
        · have HE : Hid (bD (SeqD (DT ws.length T) ws (x :: xs) i j) = false) := bD_f (seqD_cons_no HD.out fun m' h1 h2 => H.out m' h1 (by omega) h2)
          go_wp2
          go_ret
          exact ⟨ret_bool HE.out.symm, rfl⟩

end Go.Proofs.YtfbpcdmpkbjifaaDoor

/- The laws of maps keyed by numbers, at the operations of a walk. -/

namespace Go.Proofs.YtfbpcdmpkbjifaaDoor
open Go.RowKit

section
variable (w : World) {ops : Array Oper} {rest : List Oper} {o : Oper} {a : Act} {Q : Exit → Act → World → Prop}

theorem wpList_next_rng (hg : o.guard = none) (it : Operand) (hop : o.op = Op.next it false) (q r n : Nat) (f : Int → Option Value) (left : Int → Bool) (cnt : Nat)
    (hit : a.eval it = .pointer (some ⟨r, 0, none⟩)) (h : Rng w q r n f left cnt)
    (hDone : cnt = 0 → (∀ x, left x = false) → wpList Tryd.prog ops Q rest (a.put o.dst (.tuple #[.bool false])) w)
    (hMore : ∀ (x : Int) (v : Value) (w' : World) (cnt' : Nat), F64 x → left x = true → f x = some v → Rng w' q r n f (strike left x) cnt' → cnt' < cnt → Save (· = r) w w' → w'.heap.size = w.heap.size →
      (Instr.entry (.pointer (some ⟨r, 0, none⟩))).run Tryd.prog w' = .ok (.tuple #[.int .i64 x, v]) w' → wpList Tryd.prog ops Q rest (a.put o.dst (.tuple #[.bool true, .int .i64 x, v])) w') :
    wpList Tryd.prog ops Q (o :: rest) a w := by
  refine wpList_plain hg fun K' hK' => ?_
  unfold Oper.wp
  rcases h.next o.type with ⟨h0, hl, hrun⟩ | ⟨x, v, w', cnt', hx, hlk, hv, hrun, hrg, hlt, hs, hsz, hen⟩
  · simp [execOp, hop, hit, hrun, Result.andThen]
    exact hK' _ _ (hDone h0 hl)
  · simp [execOp, hop, hit, hrun, Result.andThen]
    exact hK' _ _ (hMore x v w' cnt' hx hlk hv hrg hlt hs hsz hen)

theorem wpList_range_map (hg : o.guard = none) (m : Operand) (t : TypeId) (hop : o.op = Op.range t m) (e : TypeId) (ht : Tryd.prog.underlying t = some (.map 3 e)) (q n : Nat) (f : Int → Option Value)
    (hm : a.eval m = .map (some q)) (h : MapI w q n f)
    (hK : ∀ w' cnt, Rng w' q w.heap.size n f (fun x => (f x).isSome) cnt → cnt ≤ n → Below w.heap.size w w' → w'.heap.size = w.heap.size + 1 → wpList Tryd.prog ops Q rest (a.put o.dst (.pointer (some ⟨w.heap.size, 0, none⟩))) w') :
    wpList Tryd.prog ops Q (o :: rest) a w := by
  refine wpList_plain hg fun K' hK' => ?_
  obtain ⟨w', cnt, hrun, r1, r2, r3, r4⟩ := h.range ht
  unfold Oper.wp
  simp [execOp, hop, hm, hrun, Result.andThen]
  exact hK' _ _ (hK w' cnt r1 r2 r3 r4)

theorem wpList_delete_rng (hg : o.guard = none) (m x : Operand) (t : TypeId) (hop : o.op = Op.call { callee := Callee.builtin Builtin.delete, args := #[m, x], argTypes := #[t, 3] })
    (e : TypeId) (ht : Tryd.prog.underlying t = some (.map 3 e)) (q r n : Nat) (f : Int → Option Value) (left : Int → Bool) (cnt : Nat) (y : Int)
    (hm : a.eval m = .map (some q)) (hx : a.eval x = .int .i64 y) (hy : F64 y) (h : Rng w q r n f left cnt)
    (hK : ∀ w' cnt', Rng w' q r n (delK f y) (strike left y) cnt' → cnt' ≤ cnt → Save (· = q) w w' → w'.heap.size = w.heap.size → wpList Tryd.prog ops Q rest (a.put o.dst (.tuple #[])) w') :
    wpList Tryd.prog ops Q (o :: rest) a w := by
  refine wpList_plain hg fun K' hK' => ?_
  obtain ⟨w', cnt', hrun, r1, r2, r3, r4⟩ := h.drop hy ht o.type
  unfold Oper.wp
  simp [execOp, hop, resolve, invoke, builtin, hm, hx, hrun, Result.andThen]
  exact hK' _ _ (hK w' cnt' r1 r2 r3 r4)

theorem wpList_store_map (hg : o.guard = none) (m x v : Operand) (t : TypeId) (hop : o.op = Op.mapUpdate t m x v) (e : TypeId) (ht : Tryd.prog.underlying t = some (.map 3 e)) (q n : Nat) (f : Int → Option Value) (y : Int) (u : Value)
    (hm : a.eval m = .map (some q)) (hx : a.eval x = .int .i64 y) (hv : a.eval v = u) (hy : F64 y) (hn : n < maxLen) (h : MapI w q n f)
    (hK : ∀ w', MapI w' q (n + 1) (putK f y u) → Save (· = q) w w' → w'.heap.size = w.heap.size → wpList Tryd.prog ops Q rest (a.put o.dst undef) w') :
    wpList Tryd.prog ops Q (o :: rest) a w := by
  refine wpList_plain hg fun K' hK' => ?_
  obtain ⟨w', hrun, r1, r2, r3⟩ := h.store hn hy ht u
  unfold Oper.wp
  simp [execOp, hop, hm, hx, hv, hrun, Result.andThen]
  exact hK' _ _ (hK w' r1 r2 r3)

theorem wpList_store_set (hg : o.guard = none) (m x v : Operand) (hop : o.op = Op.mapUpdate 118 m x v) (q : Nat) (S : Int → Bool) (y : Int)
    (hm : a.eval m = .map (some q)) (hx : a.eval x = .int .i64 y) (hv : a.eval v = .bool true) (hy : 0 ≤ y ∧ y < 40) (h : SetM w q S)
    (hK : ∀ w', SetM w' q (addS S y) → Save (· = q) w w' → w'.heap.size = w.heap.size → wpList Tryd.prog ops Q rest (a.put o.dst undef) w') :
    wpList Tryd.prog ops Q (o :: rest) a w := by
  refine wpList_plain hg fun K' hK' => ?_
  obtain ⟨w', hrun, r1, r2, r3⟩ := h.store hy
  unfold Oper.wp
  simp [execOp, hop, hm, hx, hv, hrun, Result.andThen]
  exact hK' _ _ (hK w' r1 r2 r3)

end

end Go.Proofs.YtfbpcdmpkbjifaaDoor
