/- What it means that a slice in memory reads as a list of steps. No condition. -/
import Derived.Test.YtfbpcdmpkbjifaaDoorWB02
import Derived.Test.YtfbpcdmpkbjifaaDoorWB01
import Derived.Maps.RangeWalk
import Derived.Maps.OwnSet
import Derived.Deep.WholeRow
import Derived.Laws.StructEq
import Derived.Deep.LoopGhost

namespace Go.Proofs.YtfbpcdmpkbjifaaDoor
open Go.RowKit

/-- A step: its hand, its kind, from, to. -/
structure Dn where
  h : Int
  k : Int
  f : Int
  t : Int

/-- The steps' numbers, one behind the other. -/
def flatD : List Dn → List Int
  | [] => []
  | d :: r => d.h :: d.k :: d.f :: d.t :: flatD r
theorem flatD_len : ∀ ds : List Dn, (flatD ds).length = 4 * ds.length
  | [] => rfl
  | d :: r => by simp only [flatD, List.length_cons, flatD_len r]; omega
theorem flatD_at : ∀ {ds : List Dn} {i : Nat} (h : i < ds.length), (flatD ds)[i * 4]? = some ds[i].h ∧ (flatD ds)[i * 4 + 1]? = some ds[i].k ∧ (flatD ds)[i * 4 + 2]? = some ds[i].f ∧ (flatD ds)[i * 4 + 3]? = some ds[i].t
  | d :: r, 0, _ => ⟨rfl, rfl, rfl, rfl⟩
  | d :: r, i + 1, h => by
    have ih := flatD_at (ds := r) (i := i) (by simpa using h)
    rw [show (i + 1) * 4 = i * 4 + 1 + 1 + 1 + 1 by omega]
    simp only [flatD, List.getElem?_cons_succ, List.getElem_cons_succ]
    exact ih
theorem flatD_nil {ds : List Dn} : flatD ds = [] ↔ ds = [] := by cases ds <;> simp [flatD]
theorem flatD_app (ds es : List Dn) : flatD (ds ++ es) = flatD ds ++ flatD es := by
  induction ds with
  | nil => rfl
  | cons d r ih => simp [flatD, ih]

/-- The cells from A on read as the steps ds, below block B. -/
def Dos (w : World) (B : Nat) (A : Option Addr) (ds : List Dn) : Prop := Ints w B A (flatD ds)
theorem Dos.keep {w w' : World} {B : Nat} {A : Option Addr} {ds : List Dn} (h : Dos w B A ds) (hk : Below B w w') : Dos w' B A ds := Ints.keep h hk
theorem Dos.more {w : World} {B B' : Nat} {A : Option Addr} {ds : List Dn} (h : Dos w B A ds) (hB : B ≤ B') : Dos w B' A ds := Ints.more h hB
theorem Dos.at_ {w : World} {B : Nat} {A : Option Addr} {ds : List Dn} (h : Dos w B A ds) {i : Nat} (hi : i < ds.length) :
    ∃ b o, A = some ⟨b, o, none⟩ ∧ b < B ∧ w.cell? ⟨b, o + i * 4, none⟩ = some (.int .i64 ds[i].h) ∧ w.cell? ⟨b, o + i * 4 + 1, none⟩ = some (.int .i64 ds[i].k) ∧
      w.cell? ⟨b, o + i * 4 + 2, none⟩ = some (.int .i64 ds[i].f) ∧ w.cell? ⟨b, o + i * 4 + 3, none⟩ = some (.int .i64 ds[i].t) := by
  obtain ⟨b, o, e, hb, hc⟩ := h (by rw [flatD_len]; omega)
  obtain ⟨h0, h1, h2, h3⟩ := flatD_at hi
  exact ⟨b, o, e, hb, hc _ _ h0, hc _ _ h1, hc _ _ h2, hc _ _ h3⟩

/-- The slice that begins at A is the call's own and reads as the numbers xs, in a row of steps. -/
def OwnT (w : World) (lo : Nat) (A : Option Addr) (xs : List Int) : Prop :=
  xs = [] ∨ ∃ (g : Nat) (cs : Array Value), A = some ⟨g, 0, none⟩ ∧ lo ≤ g ∧ Row w g 88 cs ∧ ∀ (k : Nat) (x : Int), xs[k]? = some x → cs[k]? = some (.int .i64 x)
/-- The slice of steps that begins at A is the call's own and reads as ds. -/
def OwnD (w : World) (lo : Nat) (A : Option Addr) (ds : List Dn) : Prop := OwnT w lo A (flatD ds)

theorem OwnT.ints {w : World} {lo : Nat} {A : Option Addr} {xs : List Int} (h : OwnT w lo A xs) : Ints w w.heap.size A xs := by
  intro hn
  rcases h with rfl | ⟨g, cs, rfl, _, hr, hc⟩
  · simp at hn
  · exact ⟨g, 0, rfl, hr.lt, fun k x hx => by rw [hr.cell, Nat.zero_add]; exact hc k x hx⟩
theorem OwnD.dos {w : World} {lo : Nat} {A : Option Addr} {ds : List Dn} (h : OwnD w lo A ds) : Dos w w.heap.size A ds := OwnT.ints h
theorem OwnT.below {w w' : World} {lo B : Nat} {A : Option Addr} {xs : List Int} (h : OwnT w lo A xs) (hb : Below B w w') (hB : w.heap.size ≤ B) : OwnT w' lo A xs := by
  rcases h with h | ⟨g, cs, e, hl, hr, hc⟩
  · exact .inl h
  · exact .inr ⟨g, cs, e, hl, hr.below hb (by have := hr.lt; omega), hc⟩
theorem OwnD.below {w w' : World} {lo B : Nat} {A : Option Addr} {ds : List Dn} (h : OwnD w lo A ds) (hb : Below B w w') (hB : w.heap.size ≤ B) : OwnD w' lo A ds := OwnT.below h hb hB
theorem OwnT.lower {w : World} {lo lo' : Nat} {A : Option Addr} {xs : List Int} (h : OwnT w lo A xs) (hl : lo' ≤ lo) : OwnT w lo' A xs := by
  rcases h with h | ⟨g, cs, e, h1, hr, hc⟩
  · exact .inl h
  · exact .inr ⟨g, cs, e, by omega, hr, hc⟩
theorem OwnD.lower {w : World} {lo lo' : Nat} {A : Option Addr} {ds : List Dn} (h : OwnD w lo A ds) (hl : lo' ≤ lo) : OwnD w lo' A ds := OwnT.lower h hl
theorem OwnT.save {S : Nat → Prop} {w w' : World} {lo : Nat} {A : Option Addr} {xs : List Int} (h : OwnT w lo A xs) (hs : Save S w w') (hA : ∀ g, A = some ⟨g, 0, none⟩ → xs ≠ [] → ¬ S g) : OwnT w' lo A xs := by
  by_cases e : xs = []
  · exact .inl e
  · rcases h with h | ⟨g, cs, ea, hl, hr, hc⟩
    · exact .inl h
    · exact .inr ⟨g, cs, ea, hl, hr.save hs (hA g ea e), hc⟩
theorem OwnT.at_ {w : World} {lo : Nat} {A : Option Addr} {xs : List Int} (h : OwnT w lo A xs) {i : Nat} (hi : i < xs.length) :
    ∃ g, A = some ⟨g, 0, none⟩ ∧ lo ≤ g ∧ g < w.heap.size ∧ w.cell? ⟨g, i, none⟩ = some (.int .i64 xs[i]) ∧ w.frozen? ⟨g, i, none⟩ = false := by
  rcases h with h | ⟨g, cs, ea, hl, hr, hc⟩
  · subst h; simp at hi
  · exact ⟨g, ea, hl, hr.lt, by rw [hr.cell]; exact hc i _ (List.getElem?_eq_getElem hi), hr.frozen i⟩
theorem OwnT.set {w : World} {lo g : Nat} {xs : List Int} (h : OwnT w lo (some ⟨g, 0, none⟩) xs) {i : Nat} (hi : i < xs.length) (x : Int) :
    OwnT (w.setCell ⟨g, i, none⟩ (.int .i64 x)) lo (some ⟨g, 0, none⟩) (xs.set i x) := by
  rcases h with h | ⟨g', cs, ea, hl, hr, hc⟩
  · subst h; simp at hi
  · injection ea with ea
    injection ea with ea
    subst ea
    have hlt : i < cs.size := (Array.getElem?_eq_some_iff.1 (hc i _ (List.getElem?_eq_getElem hi))).1
    refine .inr ⟨g, cs.setIfInBounds i (.int .i64 x), rfl, hl, hr.set i _, fun k y hy => ?_⟩
    rw [List.getElem?_set] at hy
    rw [Array.getElem?_setIfInBounds]
    by_cases e : i = k
    · subst e
      rw [if_pos rfl, if_pos hi] at hy
      rw [if_pos rfl, if_pos hlt]
      simpa using hy
    · rw [if_neg e] at hy ⊢
      exact hc k y hy

end Go.Proofs.YtfbpcdmpkbjifaaDoor

/- Plain mathematics of chapter 8: a hand's part, how many steps, good lists of steps, what is ahead, what is in touch. -/

namespace Go.Proofs.YtfbpcdmpkbjifaaDoor
open Go.RowKit

/-- From f on, by steps of hs, the froms of the cells with l tokens, at most m of them. -/
def partF (n hs l : Int) : Nat → Int → List Int
  | 0, _ => []
  | m + 1, f => if f + l ≤ n then f :: partF n hs l m (f + hs) else []
def partL (n hs h l : Int) : List Int := partF n hs l 11 h
theorem partF_len (n hs l : Int) : ∀ (m : Nat) (f : Int), (partF n hs l m f).length ≤ m
  | 0, _ => by simp [partF]
  | m + 1, f => by
    unfold partF
    split
    · have := partF_len n hs l m (f + hs); simp; omega
    · simp
theorem partL_len (n hs h l : Int) : (partL n hs h l).length ≤ 11 := partF_len _ _ _ _ _
theorem partF_yes {n hs l f : Int} {k : Nat} (hk : k < 11) (h : f + l ≤ n) : partF n hs l (11 - k) f = f :: partF n hs l (11 - (k + 1)) (f + hs) := by
  rw [show 11 - k = (11 - (k + 1)) + 1 by omega, partF, if_pos h]
theorem partF_no {n hs l f : Int} {m : Nat} (h : ¬ f + l ≤ n) : partF n hs l m f = [] := by
  cases m with
  | zero => rfl
  | succ m => rw [partF, if_neg h]
/-- The arguments of PartOf are as said. -/
def partB (n hs h l : Int) : Bool := decide (((0 ≤ n ∧ n ≤ 10) ∧ (1 ≤ hs ∧ hs ≤ 4)) ∧ (0 ≤ h ∧ h < hs) ∧ (1 ≤ l ∧ l ≤ n))
def partV (n hs h l : Int) : List Int := if partB n hs h l then partL n hs h l else []
theorem partV_len (n hs h l : Int) : (partV n hs h l).length ≤ 11 := by unfold partV; split; exact partL_len _ _ _ _; simp

/-- The arguments of StepsIn are as said. -/
def stB (n hs : Int) : Bool := decide ((0 ≤ n ∧ n ≤ 10) ∧ (1 ≤ hs ∧ hs ≤ 4))
def stN (n hs : Int) : Int := cntC n + n * hs
def stV (n hs : Int) : Int := if stB n hs then stN n hs else 0

/-- A step is as said. -/
def OkD (hs : Int) (d : Dn) : Prop := (0 ≤ d.h ∧ d.h < hs) ∧ (d.k = 1 ∨ d.k = 2) ∧ (0 ≤ d.f ∧ d.f ≤ 10) ∧ (0 ≤ d.t ∧ d.t ≤ 10)
/-- The steps up to the k-th are as said. -/
def OkTo (hs : Int) (ds : List Dn) (k : Nat) : Prop := ∀ (j : Nat) (d : Dn), j < k → ds[j]? = some d → OkD hs d
theorem OkTo.step {hs : Int} {ds : List Dn} {k : Nat} (h : OkTo hs ds k) (hk : k < ds.length) (hd : OkD hs ds[k]) : OkTo hs ds (k + 1) := by
  intro j d hj hjd
  by_cases e : j = k
  · subst e; rw [List.getElem?_eq_getElem hk] at hjd; injection hjd with hjd; subst hjd; exact hd
  · exact h j d (by omega) hjd
/-- A list of steps is as said. -/
def GoodW (hs : Int) (ds : List Dn) : Prop := (1 ≤ hs ∧ hs ≤ 4) ∧ ds.length ≤ 200 ∧ OkTo hs ds ds.length
theorem GoodW.at_ {hs : Int} {ds : List Dn} (h : GoodW hs ds) {k : Nat} (hk : k < ds.length) : OkD hs ds[k] := h.2.2 k _ hk (List.getElem?_eq_getElem hk)
theorem GoodW.not {hs : Int} {ds : List Dn} {k : Nat} (hk : k < ds.length) (hd : ¬ OkD hs ds[k]) : ¬ GoodW hs ds := fun h => hd (h.at_ hk)

/-- How many of the first m steps are waits of hand h. -/
def waitN (ds : List Dn) (h : Int) (m : Nat) : Nat := ((ds.take m).filter fun d => decide (d.h = h ∧ d.k = 2)).length
theorem waitN_zero (ds : List Dn) (h : Int) : waitN ds h 0 = 0 := rfl
theorem waitN_le (ds : List Dn) (h : Int) (m : Nat) : waitN ds h m ≤ ds.length := by
  unfold waitN
  have h1 := List.length_filter_le (fun d : Dn => decide (d.h = h ∧ d.k = 2)) (ds.take m)
  rw [List.length_take] at h1
  omega
theorem waitN_yes {ds : List Dn} {h : Int} {m : Nat} (hm : m < ds.length) (h1 : ds[m].h = h) (h2 : ds[m].k = 2) : waitN ds h (m + 1) = waitN ds h m + 1 := by
  unfold waitN
  rw [List.take_succ_eq_append_getElem hm, List.filter_append, List.length_append]
  simp [h1, h2]
theorem waitN_no {ds : List Dn} {h : Int} {m : Nat} (hm : m < ds.length) (h1 : ¬ (ds[m].h = h ∧ ds[m].k = 2)) : waitN ds h (m + 1) = waitN ds h m := by
  unfold waitN
  rw [List.take_succ_eq_append_getElem hm, List.filter_append, List.length_append]
  simp [h1]

instance : Inhabited Dn := ⟨⟨0, 0, 0, 0⟩⟩
/-- The i-th step is ahead of the j-th. -/
def Ahead (ds : List Dn) (i j : Nat) : Prop := i < j ∧ ((ds.getD i default).h = (ds.getD j default).h ∨ waitN ds (ds.getD i default).h i < waitN ds (ds.getD j default).h j)
theorem getD_at {ds : List Dn} {i : Nat} (h : i < ds.length) : ds.getD i default = ds[i] := by rw [List.getD_eq_getElem?_getD, List.getElem?_eq_getElem h]; rfl
def AheadOK (ds : List Dn) (hs i j : Int) : Prop := GoodW hs ds ∧ (0 ≤ i ∧ i < ds.length) ∧ (0 ≤ j ∧ j < ds.length)
noncomputable def aheadOk (ds : List Dn) (hs i j : Int) : Bool := bP (AheadOK ds hs i j)
noncomputable def aheadV (ds : List Dn) (hs i j : Int) : Bool := bP (AheadOK ds hs i j ∧ Ahead ds i.toNat j.toNat)

end Go.Proofs.YtfbpcdmpkbjifaaDoor

/- Maps keyed by numbers in memory: what each key holds; a set as such a map. -/

namespace Go.Proofs.YtfbpcdmpkbjifaaDoor
open Go.RowKit

/-- How a value of a map is read here: as itself. -/
def valR (v : Value) : Option (DataW Value × List MemPlace) := some (.held v, [])
theorem valR_inj {v u : Value} {ps : List MemPlace} (h : valR v = some (.held u, ps)) : v = u := by
  unfold valR at h
  simp at h
  exact h.1
def ki (x : Int) : Lit := .int .i64 x
theorem ki_inj {x y : Int} (h : ki x = ki y) : x = y := by unfold ki at h; injection h
theorem ki_ne {x y : Int} (h : x ≠ y) : ki x ≠ ki y := fun e => h (ki_inj e)
theorem key_int : Maps.Keyed Tryd.prog 3 := Maps.int_keyed Tryd.underlying3
theorem wf_fit {x : Int} (h : F64 x) : (Lit.int .i64 x).wf = true := by
  unfold F64 at h
  exact WalkArith.wf_i64 (by omega)
theorem key_of {x : Int} (h : F64 x) : keyOf Tryd.prog 3 (.int .i64 x) = some (ki x) := Maps.keyOf_int_mk Tryd.underlying3 (wf_fit h)
theorem key_inv {v : Value} {l : Lit} (h : keyOf Tryd.prog 3 v = some l) : ∃ x, v = .int .i64 x ∧ l = ki x ∧ F64 x := by
  obtain ⟨x, h1, h2, h3⟩ := Maps.keyOf_int_inv Tryd.underlying3 h
  refine ⟨x, h1, h2, ?_⟩
  simp [Lit.wf, IntKind.min, IntKind.max, IntKind.signed, IntKind.bits] at h3
  unfold F64
  omega

/-- What a map as it is read holds at x. -/
def AtK (D : DataW Value) (x : Int) : Option Value → Prop
  | some v => ∀ z, D.atKey (ki x) z = .held v
  | none => Maps.has D (ki x) = false

theorem AtK.has {D : DataW Value} {x : Int} {o : Option Value} (h : AtK D x o) : Maps.has D (ki x) = o.isSome := by
  cases o with
  | none => exact h
  | some v => exact Maps.has_true_of_atKey h
theorem AtK.get {D : DataW Value} {x : Int} {o : Option Value} (h : AtK D x o) (z : Value) : D.atKey (ki x) (.held z) = .held (o.getD z) := by
  cases o with
  | none => exact Maps.atKey_of_not_has h _
  | some v => exact h _

/-- Block b is a map from numbers that holds f x at x, of n entries at most. -/
def MapI (w : World) (b n : Nat) (f : Int → Option Value) : Prop := ∃ D, w.ownsMap Tryd.prog 3 valR b n D ∧ ∀ x, AtK D x (f x)

def putK (f : Int → Option Value) (x : Int) (v : Value) : Int → Option Value := fun y => if y = x then some v else f y
def delK (f : Int → Option Value) (x : Int) : Int → Option Value := fun y => if y = x then none else f y

theorem atK_put {D : DataW Value} (hD : Maps.IsMap D) {f : Int → Option Value} (h : ∀ y, AtK D y (f y)) (x : Int) (v : Value) : ∀ y, AtK (D.put (ki x) (.held v)) y (putK f x v y) := by
  intro y
  by_cases e : y = x
  · subst e
    have : putK f y v y = some v := if_pos rfl
    rw [this]
    exact fun z => Maps.atKey_put_same hD (show WideAt.IsKeyLit (ki y) from trivial) _ _
  · have h1 : putK f x v y = f y := if_neg e
    rw [h1]
    have h2 := h y
    cases hf : f y with
    | none =>
      rw [hf] at h2
      exact (Maps.has_put_other (ki_ne e) _).trans h2
    | some u =>
      rw [hf] at h2
      exact fun z => (Maps.atKey_put_other (ki_ne e) _ _).trans (h2 z)

theorem atK_del {D : DataW Value} {f : Int → Option Value} (h : ∀ y, AtK D y (f y)) (x : Int) : ∀ y, AtK (D.del (ki x)) y (delK f x y) := by
  intro y
  by_cases e : y = x
  · subst e
    have : delK f y y = none := if_pos rfl
    rw [this]
    exact Maps.has_del_same
  · have h1 : delK f x y = f y := if_neg e
    rw [h1]
    have h2 := h y
    cases hf : f y with
    | none =>
      rw [hf] at h2
      exact (Maps.has_del_other (ki_ne e)).trans h2
    | some u =>
      rw [hf] at h2
      exact fun z => (Maps.atKey_del_other (ki_ne e) _).trans (h2 z)

theorem save_grown {w w' : World} {b : Nat} (h : w.grownBy w' (some b)) : Save (· = b) w w' := ⟨h.os, h.tape, h.output, h.size, fun i hi hs => h.block i hi fun e => hs (by injection e)⟩
theorem below_grown {w w' : World} (h : w.grownBy w' none) : Below w.heap.size w w' := ⟨h.os, h.tape, h.output, h.size, fun i hi => h.block i hi (by simp)⟩

theorem MapI.lt {w : World} {b n : Nat} {f : Int → Option Value} (h : MapI w b n f) : b < w.heap.size := by obtain ⟨D, h1, _⟩ := h; exact h1.lt
theorem MapI.save {S : Nat → Prop} {w w' : World} {b n : Nat} {f : Int → Option Value} (h : MapI w b n f) (hs : Save S w w') (hb : ¬ S b) : MapI w' b n f := by
  obtain ⟨D, ⟨es, ck, h1, h2⟩, h3⟩ := h
  exact ⟨D, ⟨es, ck, (hs.block b (Array.getElem?_eq_some_iff.1 h1).1 hb).trans h1, h2⟩, h3⟩
theorem MapI.keep {w w' : World} {b n : Nat} {f : Int → Option Value} (h : MapI w b n f) (hs : Below w.heap.size w w') : MapI w' b n f := h.save (S := fun _ => False) (Save.of_below hs) fun e => e
theorem MapI.mono {w : World} {b n n' : Nat} {f : Int → Option Value} (h : MapI w b n f) (hn : n ≤ n') : MapI w b n' f := by
  obtain ⟨D, h1, h2⟩ := h
  exact ⟨D, h1.mono hn, h2⟩
theorem MapI.made (w : World) : MapI (w.alloc (.map #[] 0)) w.heap.size 0 fun _ => none := ⟨_, World.ownsMap_made w _ _ _, fun _ => rfl⟩
theorem MapI.same {w : World} {b n : Nat} {f g : Int → Option Value} (h : MapI w b n f) (e : ∀ x, f x = g x) : MapI w b n g := by
  have : f = g := funext e
  exact this ▸ h

theorem MapI.look {w : World} {b n : Nat} {f : Int → Option Value} (h : MapI w b n f) {x : Int} (hx : F64 x) {t e : TypeId} (ht : Tryd.prog.underlying t = some (.map 3 e)) {z : Value} (hz : (zeroValue e).run Tryd.prog w = .ok z w) :
    (Instr.lookup t (.map (some b)) (.int .i64 x) false).run Tryd.prog w = .ok ((f x).getD z) w := by
  obtain ⟨D, h1, h2⟩ := h
  obtain ⟨v, ps, hr, hv⟩ := h1.lookup key_int ht hz (show valR z = some (.held z, []) from rfl) (key_of hx)
  rw [(h2 x).get z] at hv
  rw [hr, valR_inj hv]

theorem MapI.look_ok {w : World} {b n : Nat} {f : Int → Option Value} (h : MapI w b n f) {x : Int} (hx : F64 x) {t e : TypeId} (ht : Tryd.prog.underlying t = some (.map 3 e)) {z : Value} (hz : (zeroValue e).run Tryd.prog w = .ok z w) :
    (Instr.lookup t (.map (some b)) (.int .i64 x) true).run Tryd.prog w = .ok (.tuple #[(f x).getD z, .bool (f x).isSome]) w := by
  obtain ⟨D, h1, h2⟩ := h
  obtain ⟨v, ps, hr, hv⟩ := h1.look_ok key_int ht hz (show valR z = some (.held z, []) from rfl) (key_of hx)
  rw [(h2 x).get z] at hv
  rw [hr, valR_inj hv, (h2 x).has]

theorem MapI.store {w : World} {b n : Nat} {f : Int → Option Value} (h : MapI w b n f) (hn : n < maxLen) {x : Int} (hx : F64 x) {t e : TypeId} (ht : Tryd.prog.underlying t = some (.map 3 e)) (v : Value) :
    ∃ w', (Instr.mapUpdate t (.map (some b)) (.int .i64 x) v).run Tryd.prog w = .ok () w' ∧ MapI w' b (n + 1) (putK f x v) ∧ Save (· = b) w w' ∧ w'.heap.size = w.heap.size := by
  obtain ⟨D, h1, h2⟩ := h
  obtain ⟨w', hr, ho, hg⟩ := h1.store key_int ht hn (key_of hx) (show valR v = some (.held v, []) from rfl)
  refine ⟨w', hr, ⟨_, ho, atK_put h1.isMap h2 x v⟩, save_grown hg.grown, ?_⟩
  obtain ⟨_, _, _, _, _, rfl⟩ := hg
  simp [ChangeMaps.setBlock]

theorem MapI.drop {w : World} {b n : Nat} {f : Int → Option Value} (h : MapI w b n f) {x : Int} (hx : F64 x) {t e : TypeId} (ht : Tryd.prog.underlying t = some (.map 3 e)) (ty : TypeId) :
    ∃ w', (Builtin.delete_ #[t, 3] ty #[.map (some b), .int .i64 x]).run Tryd.prog w = .ok (.tuple #[]) w' ∧ MapI w' b n (delK f x) ∧ Save (· = b) w w' := by
  obtain ⟨D, h1, h2⟩ := h
  obtain ⟨w', hr, ho, hg⟩ := h1.drop key_int ht (key_of hx) ty
  exact ⟨w', hr, ⟨_, ho, atK_del h2 x⟩, save_grown hg.grown⟩

theorem nodup_le {α : Type} [DecidableEq α] : ∀ (l m : List α), l.Nodup → (∀ x ∈ l, x ∈ m) → l.length ≤ m.length
  | [], _, _, _ => Nat.zero_le _
  | x :: l, m, hn, hm => by
    obtain ⟨h1, h2⟩ := List.nodup_cons.1 hn
    have hx : x ∈ m := hm x List.mem_cons_self
    have ih := nodup_le l (m.erase x) h2 fun y hy => (List.mem_erase_of_ne (fun e : y = x => h1 (e ▸ hy))).2 (hm y (List.mem_cons_of_mem _ hy))
    have h3 := List.length_erase_of_mem hx
    have h4 := List.length_pos_of_mem hx
    simp only [List.length_cons]
    omega

def numOf : Lit → Int
  | .int _ x => x
  | _ => 0

/-- A map whose keys are all below 40 has 40 entries at most. -/
theorem MapI.tight {w : World} {b n : Nat} {f : Int → Option Value} (h : MapI w b n f) (hf : ∀ x, f x ≠ none → 0 ≤ x ∧ x < 40) : MapI w b 40 f := by
  obtain ⟨D, h1, h2⟩ := h
  obtain ⟨es, clock, hb, F, hs, hD⟩ := h1
  have h1' : w.ownsMap Tryd.prog 3 valR b n D := ⟨es, clock, hb, F, hs, hD⟩
  refine ⟨D, ⟨es, clock, hb, F, ?_, hD⟩, h2⟩
  have hsz : es.size = Maps.size D := by rw [hD]; simp [Maps.size, length_sorted]
  obtain ⟨l, hl, hp⟩ := h1'.tidy key_int
  obtain ⟨l2, hl2, hk⟩ : ∃ l2, D = .map l2 ∧ ∀ p ∈ l2, ∃ x, p.1 = ki x := by
    refine ⟨_, hD, fun p hp => ?_⟩
    obtain ⟨v, hv⟩ := Maps.fit_keys F p (mem_sorted.1 hp)
    obtain ⟨x, _, hx, _⟩ := key_inv hv
    exact ⟨x, hx⟩
  have hll : l2 = l := by rw [hl2] at hl; injection hl
  subst hll
  rw [hsz, hl]
  have h6 := nodup_le (l2.map fun p => numOf p.1) ((List.range 40).map fun (k : Nat) => (k : Int)) (List.pairwise_map.2 (hp.imp_of_mem fun {p q} hp' hq' hne e => by
      obtain ⟨x, hx⟩ := hk p hp'
      obtain ⟨y, hy⟩ := hk q hq'
      rw [hx, hy] at e hne
      exact hne (congrArg ki e))) fun y hy => by
    obtain ⟨p, hp, rfl⟩ := List.mem_map.1 hy
    obtain ⟨x, hx⟩ := hk p hp
    have hh : Maps.has D (ki x) = true := by
      rw [hl, Maps.has_eq, List.any_eq_true]
      exact ⟨p, hp, by rw [hx]; simp [ki, Lit.sameKey]⟩
    have hs := (h2 x).has
    rw [hh] at hs
    obtain ⟨a1, a2⟩ := hf x (fun e => by rw [e] at hs; cases hs)
    rw [hx]
    show x ∈ _
    exact List.mem_map.2 ⟨x.toNat, List.mem_range.2 (by omega), by omega⟩
  simpa [Maps.size] using h6

/-- Block b is a set of numbers below 40. -/
structure SetM (w : World) (b : Nat) (S : Int → Bool) : Prop where
  map : MapI w b 40 fun x => if S x then some (.bool true) else none
  fits : ∀ x, S x = true → 0 ≤ x ∧ x < 40

theorem SetM.save {T : Nat → Prop} {w w' : World} {b : Nat} {S : Int → Bool} (h : SetM w b S) (hs : Save T w w') (hb : ¬ T b) : SetM w' b S := ⟨h.map.save hs hb, h.fits⟩
theorem SetM.keep {w w' : World} {b : Nat} {S : Int → Bool} (h : SetM w b S) (hs : Below w.heap.size w w') : SetM w' b S := ⟨h.map.keep hs, h.fits⟩
theorem SetM.made (w : World) : SetM (w.alloc (.map #[] 0)) w.heap.size fun _ => false := ⟨(MapI.made w).mono (by omega), fun _ h => by cases h⟩
theorem SetM.look {w : World} {b : Nat} {S : Int → Bool} (h : SetM w b S) {x : Int} (hx : F64 x) :
    (Instr.lookup 118 (.map (some b)) (.int .i64 x) false).run Tryd.prog w = .ok (.bool (S x)) w := by
  rw [h.map.look hx Tryd.underlying118 (Tryd.zeroValue4 w)]
  cases S x <;> rfl
def addS (S : Int → Bool) (x : Int) : Int → Bool := fun y => decide (y = x) || S y
theorem SetM.store {w : World} {b : Nat} {S : Int → Bool} (h : SetM w b S) {x : Int} (hx : 0 ≤ x ∧ x < 40) :
    ∃ w', (Instr.mapUpdate 118 (.map (some b)) (.int .i64 x) (.bool true)).run Tryd.prog w = .ok () w' ∧ SetM w' b (addS S x) ∧ Save (· = b) w w' ∧ w'.heap.size = w.heap.size := by
  obtain ⟨w', h1, h2, h3, h4⟩ := h.map.store (by unfold maxLen; omega) (x := x) (by unfold F64; omega) Tryd.underlying118 (.bool true)
  have hf : ∀ y, addS S x y = true → 0 ≤ y ∧ y < 40 := fun y hy => by
    unfold addS at hy
    rcases Bool.or_eq_true _ _ ▸ hy with e | e
    · have := of_decide_eq_true e; omega
    · exact h.fits y e
  have h5 : MapI w' b (40 + 1) fun y => if addS S x y then some (.bool true) else none := h2.same fun y => by
    unfold putK addS
    by_cases e : y = x
    · simp [e]
    · simp [e]
  refine ⟨w', h1, ⟨h5.tight fun y hy => hf y ?_, hf⟩, h3, h4⟩
  cases e : addS S x y
  · rw [e] at hy; exact absurd rfl hy
  · rfl

end Go.Proofs.YtfbpcdmpkbjifaaDoor

/- The program's questions to a set: allNullable, allProductive, someGrow. -/

namespace Go.Proofs.YtfbpcdmpkbjifaaDoor
open Go.RowKit

theorem all_no {p : Int → Bool} {xs : List Int} {k : Nat} (hk : k < xs.length) (h : p xs[k] = false) : xs.all p = false := by
  cases e : xs.all p
  · rfl
  · rw [List.all_eq_true] at e
    rw [e _ (List.getElem_mem hk)] at h; cases h
theorem all_yes {p : Int → Bool} {xs : List Int} {k : Nat} (hk : ¬ k < xs.length) (h : ∀ (j : Nat) (x : Int), j < k → xs[j]? = some x → p x = true) : xs.all p = true := by
  rw [List.all_eq_true]
  intro x hx
  obtain ⟨j, hj⟩ := List.mem_iff_getElem?.1 hx
  exact h j x (by have := (List.getElem?_eq_some_iff.1 hj).1; omega) hj
theorem upto_step {Q : Int → Prop} {xs : List Int} {k : Nat} (hk : k < xs.length) (h : Q xs[k]) (H : ∀ (j : Nat) (x : Int), j < k → xs[j]? = some x → Q x) :
    ∀ (j : Nat) (x : Int), j < k + 1 → xs[j]? = some x → Q x := by
  intro j x hj hx
  by_cases e : j = k
  · subst e; rw [List.getElem?_eq_getElem hk] at hx; injection hx with hx; subst hx; exact h
  · exact H j x (by omega) hx
theorem any_yes {p : Int → Bool} {xs : List Int} {k : Nat} (hk : k < xs.length) (h : p xs[k] = true) : xs.any p = true := List.any_eq_true.2 ⟨_, List.getElem_mem hk, h⟩
theorem any_no {p : Int → Bool} {xs : List Int} {k : Nat} (hk : ¬ k < xs.length) (h : ∀ (j : Nat) (x : Int), j < k → xs[j]? = some x → p x = false) : xs.any p = false := by
  rw [List.any_eq_false]
  intro x hx
  obtain ⟨j, hj⟩ := List.mem_iff_getElem?.1 hx
  rw [h j x (by have := (List.getElem?_eq_some_iff.1 hj).1; omega) hj]
  simp

/-- A symbol is a token or in the set. -/
def tokS (S : Int → Bool) (x : Int) : Bool := decide (x < 0) || S x
theorem tokS_lt {S : Int → Bool} {x : Int} (h : x < 0) : tokS S x = true := by unfold tokS; rw [decide_eq_true h]; rfl
theorem tokS_ge {S : Int → Bool} {x : Int} (h : ¬ x < 0) : tokS S x = S x := by unfold tokS; rw [decide_eq_false h]; rfl

def FitI (xs : List Int) : Prop := ∀ x ∈ xs, F64 x

set_option maxRecDepth 20000 in
set_option maxHeartbeats 400000 in
theorem allNull_any (b : Nat) (S : Int → Bool) (A : Option Addr) (xs : List Int) (c : Nat) (w : World) (hS : SetM w b S) (hx : Ints w w.heap.size A xs) (hf : FitI xs) (h1 : xs.length ≤ 4) :
    Calls Tryd.prog 138 #[.map (some b), .slice A xs.length c] w fun e w' => e = .returned (.bool (xs.all S)) ∧ w' = w := by
  have HX := Lib.hid hx; clear hx
  have HS := Lib.hid hS; clear hS
  have HF := Lib.hid hf; clear hf
  go_enter Tryd.func138, Tryd.ntmps138
  go_wp2
  go_loopw [9] (fun i wr => ∃ (k : Nat), k ≤ xs.length ∧ i = .int .i64 k ∧ wr = w ∧ Hid (∀ (j : Nat) (x : Int), j < k → xs[j]? = some x → S x = true)) (fun i _ => xs.length - (intOf i).toNat)
  case atStart => exact ⟨0, by omega, rfl, rfl, fun j x h => absurd h (by omega)⟩
  case round =>
    obtain ⟨k, hk, rfl, rfl, H⟩ := hrel
    by_cases hlt : k < xs.length
    · obtain ⟨p, o, rfl, hb, c1⟩ := HX.out.at_ hlt
      have hl := HS.out.look (HF.out _ (List.getElem_mem hlt))
      cases hs : S xs[k]
      · rw [hs] at hl
        have HE := Lib.hid (all_no hlt hs); clear hs
        go_wp2
        go_ret
        exact ⟨ret_bool HE.out.symm, rfl⟩
      · rw [hs] at hl
        have HE := Lib.hid (upto_step (Q := fun x => S x = true) hlt hs H.out); clear hs
        go_wp2
        go_roundw
        case rel => exact ⟨k + 1, by omega, by go_num, by simp, HE.out⟩
        case measure => simp [intOf]; omega
    · have HE := Lib.hid (all_yes hlt H.out)
      go_wp2
      go_ret
      exact ⟨ret_bool HE.out.symm, rfl⟩

end Go.Proofs.YtfbpcdmpkbjifaaDoor

/- A range over a map keyed by numbers: which keys are still to come. -/

namespace Go.Proofs.YtfbpcdmpkbjifaaDoor
open Go.RowKit

/-- Block q is a map that holds f x at x; block r is a range over it; left x: x is still to come; cnt: how many are. -/
def Rng (w : World) (q r n : Nat) (f : Int → Option Value) (left : Int → Bool) (cnt : Nat) : Prop :=
  ∃ D lf, w.ranges Tryd.prog 3 valR q r n D lf cnt ∧ (∀ x, AtK D x (f x)) ∧ ∀ x, lf (ki x) = left x

theorem Rng.map {w : World} {q r n cnt : Nat} {f : Int → Option Value} {left : Int → Bool} (h : Rng w q r n f left cnt) : MapI w q n f := by
  obtain ⟨D, lf, h1, h2, _⟩ := h
  exact ⟨D, h1.owns, h2⟩
theorem Rng.lt {w : World} {q r n cnt : Nat} {f : Int → Option Value} {left : Int → Bool} (h : Rng w q r n f left cnt) : r < w.heap.size := by obtain ⟨D, lf, h1, _⟩ := h; exact h1.lt
theorem Rng.ne {w : World} {q r n cnt : Nat} {f : Int → Option Value} {left : Int → Bool} (h : Rng w q r n f left cnt) : r ≠ q := by obtain ⟨D, lf, h1, _⟩ := h; exact h1.ne
theorem Rng.save {S : Nat → Prop} {w w' : World} {q r n cnt : Nat} {f : Int → Option Value} {left : Int → Bool} (h : Rng w q r n f left cnt) (hs : Save S w w') (hq : ¬ S q) (hr : ¬ S r) : Rng w' q r n f left cnt := by
  have h1 := h.map.lt
  have h2 := h.lt
  obtain ⟨D, lf, ⟨es, ck, since, seen, c0, hb, F, hsz, hD, hr', rest⟩, h3, h4⟩ := h
  exact ⟨D, lf, ⟨es, ck, since, seen, c0, (hs.block q h1 hq).trans hb, F, hsz, hD, (hs.block r h2 hr).trans hr', rest⟩, h3, h4⟩
theorem Rng.keep {w w' : World} {q r n cnt : Nat} {f : Int → Option Value} {left : Int → Bool} (h : Rng w q r n f left cnt) (hs : Below w.heap.size w w') : Rng w' q r n f left cnt := h.save (S := fun _ => False) (Save.of_below hs) (fun e => e) fun e => e

/-- One key is struck. -/
def strike (left : Int → Bool) (x : Int) : Int → Bool := fun y => left y && decide (y ≠ x)
theorem strike_same (left : Int → Bool) (x : Int) : strike left x x = false := by simp [strike]
theorem strike_other {left : Int → Bool} {x y : Int} (h : y ≠ x) : strike left x y = left y := by simp [strike, h]
theorem strike_le {left : Int → Bool} {x y : Int} (h : strike left x y = true) : left y = true := by
  unfold strike at h
  simp at h
  exact h.1
theorem ki_same (x y : Int) : (ki y).sameKey (ki x) = decide (y = x) := by
  simp [ki, Lit.sameKey]

theorem MapI.range {w : World} {q n : Nat} {f : Int → Option Value} (h : MapI w q n f) {t e : TypeId} (ht : Tryd.prog.underlying t = some (.map 3 e)) :
    ∃ w' cnt, (Instr.range t (.map (some q))).run Tryd.prog w = .ok (.pointer (some ⟨w.heap.size, 0, none⟩)) w' ∧ Rng w' q w.heap.size n f (fun x => (f x).isSome) cnt ∧ cnt ≤ n ∧ Below w.heap.size w w' ∧ w'.heap.size = w.heap.size + 1 := by
  obtain ⟨D, h1, h2⟩ := h
  obtain ⟨w', hr, hrg, hg, hs⟩ := h1.range key_int ht
  exact ⟨w', _, hr, ⟨D, _, hrg, h2, fun x => (h2 x).has⟩, h1.size_le, below_grown hg, hs⟩

theorem Rng.next {w : World} {q r n cnt : Nat} {f : Int → Option Value} {left : Int → Bool} (h : Rng w q r n f left cnt) (ty : TypeId) :
    (cnt = 0 ∧ (∀ x, left x = false) ∧ (Instr.next (.pointer (some ⟨r, 0, none⟩)) false ty).run Tryd.prog w = .ok (.tuple #[.bool false]) w) ∨
    ∃ x v w' cnt', F64 x ∧ left x = true ∧ f x = some v ∧ (Instr.next (.pointer (some ⟨r, 0, none⟩)) false ty).run Tryd.prog w = .ok (.tuple #[.bool true, .int .i64 x, v]) w' ∧
      Rng w' q r n f (strike left x) cnt' ∧ cnt' < cnt ∧ Save (· = r) w w' ∧ w'.heap.size = w.heap.size ∧ (Instr.entry (.pointer (some ⟨r, 0, none⟩))).run Tryd.prog w' = .ok (.tuple #[.int .i64 x, v]) w' := by
  obtain ⟨D, lf, h1, h2, h3⟩ := h
  rcases h1.next key_int ty with ⟨h0, hl, hr⟩ | ⟨key, v, kl, y, w', cnt', hkey, hlk, hv, hat, hr, hrg, hlt, hg, hs, hen⟩
  · exact .inl ⟨h0, fun x => by rw [← h3]; exact hl _, hr⟩
  · obtain ⟨x, rfl, rfl, hx⟩ := key_inv hkey
    refine .inr ⟨x, v, w', cnt', hx, by rw [← h3]; exact hlk, ?_, hr, ⟨D, _, hrg, h2, fun z => ?_⟩, hlt, save_grown hg, hs, hen⟩
    · have ha := h2 x
      have hh := Maps.has_true_of_atKey hat
      cases hf : f x with
      | none =>
        rw [hf] at ha
        rw [show Maps.has D (ki x) = false from ha] at hh
        cases hh
      | some u =>
        rw [hf] at ha
        have e1 := hat .nil
        rw [show D.atKey (ki x) .nil = .held u from ha _] at e1
        have e2 : valR v = some (.held u, y.2) := by rw [hv, e1]
        rw [valR_inj e2]
    · show (lf (ki z) && !(ki z).sameKey (ki x)) = _
      rw [h3, ki_same]
      simp [strike]

theorem Rng.drop {w : World} {q r n cnt : Nat} {f : Int → Option Value} {left : Int → Bool} (h : Rng w q r n f left cnt) {x : Int} (hx : F64 x) {t e : TypeId} (ht : Tryd.prog.underlying t = some (.map 3 e)) (ty : TypeId) :
    ∃ w' cnt', (Builtin.delete_ #[t, 3] ty #[.map (some q), .int .i64 x]).run Tryd.prog w = .ok (.tuple #[]) w' ∧ Rng w' q r n (delK f x) (strike left x) cnt' ∧ cnt' ≤ cnt ∧ Save (· = q) w w' ∧ w'.heap.size = w.heap.size := by
  obtain ⟨D, lf, h1, h2, h3⟩ := h
  obtain ⟨w', cnt', hr, hrg, hle, hg⟩ := h1.drop key_int ht (key_of hx) ty
  refine ⟨w', cnt', hr, ⟨_, _, hrg, atK_del h2 x, fun z => ?_⟩, hle, save_grown hg.grown, ?_⟩
  · show (lf (ki z) && !(ki z).sameKey (ki x)) = _
    rw [h3, ki_same]
    simp [strike]
  · obtain ⟨_, _, _, _, _, rfl⟩ := hg
    simp [ChangeMaps.setBlock]

theorem strike_twice (left : Int → Bool) (x : Int) : strike (strike left x) x = strike left x := by
  funext y
  unfold strike
  cases left y <;> simp

end Go.Proofs.YtfbpcdmpkbjifaaDoor

/- What a good grammar says of each of its rules. -/

namespace Go.Proofs.YtfbpcdmpkbjifaaDoor

theorem goodG_mem {n t : Int} {ss : List (Int × List Int)} (h : goodG n t ss = true) {u : Int × List Int} (hu : u ∈ ss) : (0 ≤ u.1 ∧ u.1 < n) ∧ u.2.length ≤ 4 ∧ ∀ x ∈ u.2, (0 ≤ x ∧ x < n) ∨ (x < 0 ∧ -t ≤ x) := by
  obtain ⟨_, _, _, hg⟩ := goodG_is h
  obtain ⟨k, hk⟩ := List.mem_iff_getElem?.1 hu
  have h1 := (hg k u (List.getElem?_eq_some_iff.1 hk).1 hk).1
  unfold goodU at h1
  simp only [Bool.and_eq_true, decide_eq_true_eq] at h1
  refine ⟨nonB_is h1.1, h1.2.1, fun x hx => ?_⟩
  have h2 := h1.2.2
  unfold symsB at h2
  rw [List.all_eq_true] at h2
  have h3 := h2 x hx
  unfold symB at h3
  have := of_decide_eq_true h3
  omega

end Go.Proofs.YtfbpcdmpkbjifaaDoor

/- Plain mathematics of chapter 3: the least set that is closed under rules. -/

namespace Go.Proofs.YtfbpcdmpkbjifaaDoor

/-- A way to close a set: when a rule fires in a set, and what it then adds. -/
structure Way where
  fires : (Int → Bool) → Int × List Int → Bool
  adds : Int × List Int → List Int
  mono : ∀ (S T : Int → Bool) (r : Int × List Int), (∀ x, S x = true → T x = true) → fires S r = true → fires T r = true

/-- x is in every set that holds what S0 holds and is closed under the rules. -/
def Least (W : Way) (S0 : Int → Bool) (ss : List (Int × List Int)) (x : Int) : Prop :=
  ∀ S : Int → Bool, (∀ y, S0 y = true → S y = true) → (∀ r ∈ ss, W.fires S r = true → ∀ y ∈ W.adds r, S y = true) → S x = true

theorem Least.start {W : Way} {S0 : Int → Bool} {ss : List (Int × List Int)} {x : Int} (h : S0 x = true) : Least W S0 ss x := fun _ h0 _ => h0 x h
theorem Least.step {W : Way} {S0 S : Int → Bool} {ss : List (Int × List Int)} (hS : ∀ x, S x = true → Least W S0 ss x) {r : Int × List Int} (hr : r ∈ ss) (hf : W.fires S r = true) {y : Int} (hy : y ∈ W.adds r) : Least W S0 ss y := by
  intro T h0 hc
  exact hc r hr (W.mono S T r (fun x hx => hS x hx T h0 hc) hf) y hy

/-- S is the least set. -/
def IsLeast (W : Way) (S0 : Int → Bool) (ss : List (Int × List Int)) (S : Int → Bool) : Prop := ∀ x, S x = true ↔ Least W S0 ss x
theorem isLeast_of {W : Way} {S0 S : Int → Bool} {ss : List (Int × List Int)} (hs : ∀ x, S x = true → Least W S0 ss x) (h0 : ∀ x, S0 x = true → S x = true) (hc : ∀ r ∈ ss, W.fires S r = true → ∀ y ∈ W.adds r, S y = true) : IsLeast W S0 ss S :=
  fun x => ⟨hs x, fun h => h S h0 hc⟩
theorem IsLeast.unique {W : Way} {S0 S T : Int → Bool} {ss : List (Int × List Int)} (h : IsLeast W S0 ss S) (k : IsLeast W S0 ss T) : S = T := by
  funext x
  rw [Bool.eq_iff_iff]
  exact (h x).trans (k x).symm

/-- What a rule that is used makes of a set. -/
def useW (W : Way) (S : Int → Bool) (r : Int × List Int) : Int → Bool := fun x => S x || (W.fires S r && (W.adds r).contains x)
theorem useW_no {W : Way} {S : Int → Bool} {r : Int × List Int} (h : W.fires S r = false) : useW W S r = S := by
  funext x
  simp [useW, h]
theorem useW_le {W : Way} {S : Int → Bool} {r : Int × List Int} {x : Int} (h : S x = true) : useW W S r x = true := by simp [useW, h]
theorem useW_add {W : Way} {S : Int → Bool} {r : Int × List Int} {x : Int} (h : W.fires S r = true) (hx : x ∈ W.adds r) : useW W S r x = true := by simp [useW, h, hx]
theorem useW_inv {W : Way} {S : Int → Bool} {r : Int × List Int} {x : Int} (h : useW W S r x = true) : S x = true ∨ (W.fires S r = true ∧ x ∈ W.adds r) := by
  unfold useW at h
  simp at h
  exact h

theorem tokS_mono {S T : Int → Bool} (h : ∀ x, S x = true → T x = true) {x : Int} (hx : tokS S x = true) : tokS T x = true := by
  unfold tokS at hx ⊢
  simp at hx ⊢
  exact hx.imp id (h x)

def wayNull : Way := {
  fires := fun S r => r.2.all S
  adds := fun r => [r.1]
  mono := fun S T r h hf => by
    rw [List.all_eq_true] at hf ⊢
    exact fun x hx => h x (hf x hx) }
def wayProd : Way := {
  fires := fun S r => r.2.all (tokS S)
  adds := fun r => [r.1]
  mono := fun S T r h hf => by
    rw [List.all_eq_true] at hf ⊢
    exact fun x hx => tokS_mono h (hf x hx) }
def wayGrow (P : Int → Bool) : Way := {
  fires := fun S r => r.2.all (tokS P) && r.2.any (tokS S)
  adds := fun r => [r.1]
  mono := fun S T r h hf => by
    rw [Bool.and_eq_true] at hf ⊢
    refine ⟨hf.1, ?_⟩
    have h2 := hf.2
    rw [List.any_eq_true] at h2 ⊢
    obtain ⟨x, hx, hp⟩ := h2
    exact ⟨x, hx, tokS_mono h hp⟩ }
def wayReach : Way := {
  fires := fun S r => S r.1
  adds := fun r => r.2.filter fun x => decide (0 ≤ x)
  mono := fun _ _ _ h hf => h _ hf }

/-- No member. -/
def noS : Int → Bool := fun _ => false
/-- One member. -/
def oneS (s : Int) : Int → Bool := fun x => decide (x = s)

/-- What a way adds are numbers below 40. -/
def AddsFit (W : Way) (ss : List (Int × List Int)) : Prop := ∀ r ∈ ss, ∀ y ∈ W.adds r, 0 ≤ y ∧ y < 40
theorem fit_lefts {W : Way} {n t : Int} {ss : List (Int × List Int)} (hg : goodG n t ss = true) (hW : ∀ r, W.adds r = [r.1]) : AddsFit W ss := fun r hr y hy => by
  rw [hW] at hy
  simp at hy
  subst hy
  have h1 := goodG_is hg
  have h2 := (goodG_mem hg hr).1
  omega
theorem fit_reach {n t : Int} {ss : List (Int × List Int)} (hg : goodG n t ss = true) : AddsFit wayReach ss := fun r hr y hy => by
  have hy' : y ∈ r.2 ∧ 0 ≤ y := by simpa [wayReach] using hy
  have h1 := goodG_is hg
  have h2 := (goodG_mem hg hr).2.2 y hy'.1
  omega

/-- How many of the first m are marked. -/
def cntB (rem : Int → Bool) (m : Nat) : Nat := ((List.range m).filter fun (k : Nat) => rem (k : Int)).length
theorem cntB_le (rem : Int → Bool) (m : Nat) : cntB rem m ≤ m := by
  unfold cntB
  have := List.length_filter_le (fun (k : Nat) => rem (k : Int)) (List.range m)
  simpa using this
theorem filter_two {p q : Nat → Bool} : ∀ (l : List Nat), (∀ j ∈ l, q j = true → p j = true) → (l.filter q).length ≤ (l.filter p).length
  | [], _ => Nat.le_refl _
  | a :: l, h => by
    have ih := filter_two l fun j hj => h j (List.mem_cons_of_mem _ hj)
    have ha := h a List.mem_cons_self
    cases hq : q a
    · rw [List.filter_cons_of_neg (by simp [hq])]
      cases hp : p a
      · rw [List.filter_cons_of_neg (by simp [hp])]; exact ih
      · rw [List.filter_cons_of_pos hp]; simp only [List.length_cons]; omega
    · rw [List.filter_cons_of_pos hq, List.filter_cons_of_pos (ha hq)]
      simp only [List.length_cons]
      omega
theorem filter_less {p q : Nat → Bool} : ∀ (l : List Nat) (i : Nat), i ∈ l → p i = true → q i = false → (∀ j ∈ l, q j = true → p j = true) → (l.filter q).length < (l.filter p).length
  | [], _, h, _, _, _ => by cases h
  | a :: l, i, h, hp, hq, hle => by
    have hl := filter_two l fun j hj => hle j (List.mem_cons_of_mem _ hj)
    by_cases e : a = i
    · subst e
      rw [List.filter_cons_of_pos hp, List.filter_cons_of_neg (by simp [hq])]
      simp only [List.length_cons]
      omega
    · have hm : i ∈ l := by
        rcases List.mem_cons.1 h with h | h
        · exact absurd h.symm e
        · exact h
      have ih := filter_less l i hm hp hq fun j hj => hle j (List.mem_cons_of_mem _ hj)
      have ha := hle a List.mem_cons_self
      cases hqa : q a
      · rw [List.filter_cons_of_neg (by simp [hqa])]
        cases hpa : p a
        · rw [List.filter_cons_of_neg (by simp [hpa])]; exact ih
        · rw [List.filter_cons_of_pos hpa]; simp only [List.length_cons]; omega
      · rw [List.filter_cons_of_pos hqa, List.filter_cons_of_pos (ha hqa)]
        simp only [List.length_cons]
        omega
theorem cntB_strike {rem : Int → Bool} {m k : Nat} (hk : k < m) (h : rem (k : Int) = true) : cntB (strike rem (k : Int)) m < cntB rem m :=
  filter_less (List.range m) k (List.mem_range.2 hk) h (strike_same _ _) fun _ _ hj => strike_le hj

end Go.Proofs.YtfbpcdmpkbjifaaDoor

/- Rows of truths as arrays in memory: single steps of a walk over whole arrays. -/

namespace Go.Proofs.YtfbpcdmpkbjifaaDoor
open Go.RowKit

/-- A set of the numbers below 40, as the cells of an array. -/
def rowA (S : Int → Bool) : Array Value := ((List.range 40).map fun (k : Nat) => Value.bool (S k)).toArray
theorem rowA_size (S : Int → Bool) : (rowA S).size = 40 := by simp [rowA]
theorem rowA_at (S : Int → Bool) {k : Nat} (h : k < 40) : (rowA S)[k]? = some (.bool (S k)) := by simp [rowA, h]
theorem rowA_none (S : Int → Bool) {k : Nat} (h : ¬ k < 40) : (rowA S)[k]? = none := by simp [rowA]; omega
theorem rowA_all (S : Int → Bool) : (rowA S).all (·.oneCell') = true := by simp [rowA, Value.oneCell']
theorem rowA_one (S : Int → Bool) : ∀ u ∈ (rowA S).toList, u.oneCell' = true := fun u hu => by
  simp [rowA] at hu
  obtain ⟨_, _, rfl⟩ := hu
  rfl
theorem rowA_zero : rowA noS = Array.replicate 40 (.bool false) := by rfl
theorem rowA_ext {S T : Int → Bool} (h : ∀ k : Nat, k < 40 → S k = T k) : rowA S = rowA T := by
  apply Array.ext_getElem?
  intro k
  by_cases hk : k < 40
  · rw [rowA_at S hk, rowA_at T hk, h k hk]
  · rw [rowA_none S hk, rowA_none T hk]
theorem rowA_inj {S T : Int → Bool} (h : rowA S = rowA T) (k : Nat) (hk : k < 40) : S k = T k := by
  have e := congrArg (fun c => c[k]?) h
  simp only [rowA_at S hk, rowA_at T hk] at e
  injection e with e
  injection e
theorem rowA_set (S : Int → Bool) {k : Nat} (b : Bool) (h : k < 40) : (rowA S).setIfInBounds k (.bool b) = rowA fun x => if x = (k : Int) then b else S x := by
  generalize hT : (fun x => if x = (k : Int) then b else S x) = T
  apply Array.ext_getElem?
  intro j
  rw [Array.getElem?_setIfInBounds]
  by_cases hj : j < 40
  · rw [rowA_at T hj, ← hT]
    by_cases e : k = j
    · subst e; simp [rowA_size, h]
    · rw [if_neg e, rowA_at S hj]
      show _ = some (Value.bool (if (j : Int) = (k : Int) then b else S j))
      rw [if_neg (by omega)]
  · rw [rowA_none T hj]
    by_cases e : k = j
    · omega
    · rw [if_neg e, rowA_none S hj]

theorem fold_get : ∀ (l : List Value) (k : Nat) (z : Array Value) (i : Nat), k + l.length ≤ z.size → ((l.zipIdx k).foldl (fun cs (p : Value × Nat) => cs.setIfInBounds (0 + p.2) p.1) z)[i]? = if k ≤ i ∧ i < k + l.length then l[i - k]? else z[i]?
  | [], k, z, i, _ => by simp; omega
  | v :: l, k, z, i, h => by
    rw [List.zipIdx_cons, List.foldl_cons, fold_get l (k + 1) _ i (by simp at h ⊢; omega)]
    simp only [List.length_cons] at h ⊢
    by_cases h1 : k + 1 ≤ i ∧ i < k + 1 + l.length
    · rw [if_pos h1, if_pos (by omega), show i - k = (i - (k + 1)) + 1 by omega, List.getElem?_cons_succ]
    · rw [if_neg h1, Array.getElem?_setIfInBounds]
      by_cases h2 : k = i
      · subst h2
        rw [if_pos (by omega), if_pos (by omega), if_pos (by omega)]
        simp
      · rw [if_neg (by omega), if_neg (by omega)]
theorem fill_whole (v z : Array Value) (h : v.size = z.size) : v.zipIdx.foldl (fun cs (p : Value × Nat) => cs.setIfInBounds (0 + p.2) p.1) z = v := by
  apply Array.ext_getElem?
  intro i
  rw [← Array.foldl_toList, Array.toList_zipIdx]
  have := fold_get v.toList 0 z i (by simp; omega)
  rw [this]
  by_cases hi : i < v.size
  · rw [if_pos (by simp; omega)]; simp
  · rw [if_neg (by simp; omega), Array.getElem?_eq_none (by omega), Array.getElem?_eq_none (by omega)]

section
variable {P : Program} {ops : Array Oper} {Q : Exit → Act → World → Prop} {a : Act} {w : World} {rest : List Oper} {o : Oper}

theorem wpList_ran (hg : o.guard = none) {v : Value} {w' : World} (h0 : (execOp a.eval o).run P w = .ok (.value v) w') (h : wpList P ops Q rest (a.put o.dst v) w') : wpList P ops Q (o :: rest) a w :=
  wpList_plain hg fun K hK => by
    unfold Oper.wp
    rw [h0]
    exact hK _ _ h
theorem wpList_ranS (hg : o.guard = none) {w' : World} (h0 : (execOp a.eval o).run P w = .ok .skip w') (h : wpList P ops Q rest (a.put o.dst undef) w') : wpList P ops Q (o :: rest) a w :=
  wpList_plain hg fun K hK => by
    unfold Oper.wp
    rw [h0]
    exact hK _ _ h

/-- A new variable of a wide type. -/
theorem wpList_allocA (hg : o.guard = none) (ty : TypeId) (ho : o.op = .alloc ty) (cs : Array Value) (n : Nat) (hz : (P.info? ty).map (fun i => (i.zero, i.size)) = some (some (.agg cs), n))
    (h : wpList P ops Q rest (a.put o.dst (.pointer (some ⟨w.heap.size, 0, none⟩))) (w.alloc (.cells cs ty))) : wpList P ops Q (o :: rest) a w := by
  refine wpList_ran hg ?_ h
  have hz1 := (zero_of_info hz).1 w
  simp [execOp, ho, Instr.alloc, hz1, Result.andThen, newVar, newRow, Value.cells]
/-- A variable of a wide type that holds a value. -/
theorem wpList_boxA (hg : o.guard = none) (ty : TypeId) (x : Operand) (ho : o.op = .box ty x) (cs : Array Value) (hx : a.eval x = .agg cs)
    (h : wpList P ops Q rest (a.put o.dst (.pointer (some ⟨w.heap.size, 0, none⟩))) (w.alloc (.cells cs ty))) : wpList P ops Q (o :: rest) a w := by
  refine wpList_ran hg ?_ h
  simp [execOp, ho, Instr.box, hx, Result.andThen, newVar, newRow, Value.cells]

theorem run_loadVar_part (w : World) (g off : Nat) (ty : TypeId) (cs : Array Value) (n : Nat) (e : TypeId) (hu : P.underlying ty = some (.array n e)) (hi : (P.info? ty).map (·.size) = some cs.size)
    (hc : ∀ (j : Nat) (v : Value), cs[j]? = some v → w.cell? ⟨g, off + j, none⟩ = some v) : (loadVar ty ⟨g, off, none⟩).run P w = .ok (.agg cs) w := by
  have hl : (loadCells ⟨g, off, none⟩ cs.toList.length).run P w = .ok cs.toList.toArray w :=
    run_loadCells_list (P := P) w ⟨g, off, none⟩ cs.toList (fun j v hv => by
      rw [Go.WideShapes.add_plain]
      exact hc j v (by simpa using hv))
  cases hq : P.info? ty with
  | none => simp [hq] at hi
  | some i =>
    have hs : i.size = cs.size := by simpa [hq] using hi
    have hagg : (isAgg ty).run P w = .ok true w := by
      simp [isAgg, run_underlying hu]
    rw [Array.length_toList, ← hs] at hl
    simp [loadVar, hagg, sizeOf, typeInfo, hq, hl]
/-- A whole array out of a part of a block. -/
theorem wpList_loadA (hg : o.guard = none) (ty : TypeId) (x : Operand) (ho : o.op = .load ty x) (g off : Nat) (hx : a.eval x = .pointer (some ⟨g, off, none⟩)) (cs : Array Value) (n : Nat) (e : TypeId) (hu : P.underlying ty = some (.array n e))
    (hi : (P.info? ty).map (·.size) = some cs.size) (hc : ∀ (j : Nat) (v : Value), cs[j]? = some v → w.cell? ⟨g, off + j, none⟩ = some v)
    (h : wpList P ops Q rest (a.put o.dst (.agg cs)) w) : wpList P ops Q (o :: rest) a w := by
  refine wpList_ran hg ?_ h
  have hl := run_loadVar_part (P := P) w g off ty cs n e hu hi hc
  simp [execOp, ho, Instr.loadAt, Instr.sureAddr, hx, hl, Result.andThen]
/-- A whole array into a block. -/
theorem wpList_storeA (hg : o.guard = none) (ty : TypeId) (x y : Operand) (ho : o.op = .store ty x y) (g : Nat) (cs : Array Value) (hx : a.eval x = .pointer (some ⟨g, 0, none⟩)) (hy : a.eval y = .agg cs) (t : TypeId) (old : Array Value)
    (hw : Row w g t old) (hi : (P.info? ty).map (·.size) = some cs.size) (hold : old.size = cs.size) (h1 : cs.all (·.oneCell') = true)
    (h : wpList P ops Q rest (a.put o.dst undef) (w.setRow g cs)) : wpList P ops Q (o :: rest) a w :=
  wpList_store_row hg ty x y ho g cs hx hy t old hw hi hold h1 h
/-- An element of an array by value. -/
theorem wpList_indexA (hg : o.guard = none) (ty : TypeId) (x y : Operand) (ho : o.op = .index ty x y) (cs : Array Value) (hx : a.eval x = .agg cs) (k : Nat) (hy : a.eval y = .int .i64 k) (n : Nat) (e : TypeId) (hk : k < n) (v : Value) (hv : cs[k]? = some v)
    (hu : P.underlying ty = some (.array n e)) (d : TypeDesc) (hue : P.underlying e = some d) (hd : (match d with | .struct _ | .array _ _ => false | _ => true) = true) (hi : (P.info? e).map (·.size) = some 1)
    (h : wpList P ops Q rest (a.put o.dst v) w) : wpList P ops Q (o :: rest) a w := by
  refine wpList_ran hg ?_ h
  have hagg : (isAgg e).run P w = .ok false w := by
    cases d <;> simp_all [isAgg, run_underlying hue]
  cases hq : P.info? e with
  | none => simp [hq] at hi
  | some i =>
    have hs : i.size = 1 := by simpa [hq] using hi
    simp [execOp, ho, Instr.index, hx, hy, asIntOf, run_underlying hu, Result.andThen, sizeOf, typeInfo, hq, hs, part, hagg, hv, hk]
/-- A slice of one wide element. -/
theorem wpList_sliceA (hg : o.guard = none) (t ty : TypeId) (x : Operand) (ho : o.op = .buildSlice t 1 #[(0, x)]) (cs zs : Array Value) (hx : a.eval x = .agg cs) (n : Nat) (hut : P.underlying t = some (.slice ty))
    (hz : (P.info? ty).map (fun i => (i.zero, i.size)) = some (some (.agg zs), n)) (hcs : cs.size = n) (hn : 0 < n) (hzs : zs.size = n) (hlim : n ≤ 16777216)
    (h : wpList P ops Q rest (a.put o.dst (.slice (some ⟨w.heap.size, 0, none⟩) 1 1)) (w.alloc (.cells cs ty))) : wpList P ops Q (o :: rest) a w := by
  refine wpList_ran hg ?_ h
  have hz0 := (zero_of_info hz).1 w
  have hz1 := (zero_of_info hz).2
  cases hq : P.info? ty with
  | none => simp [hq] at hz1
  | some i =>
    have hs : i.size = n := by simpa [hq] using hz1
    have hf : Instr.fill (fun i => some (i * n, n)) ((Array.range n).map (zs[· % zs.size]!)) [(0, Value.agg cs)] = some cs := by
      have h5 : (Array.map (fun x => zs[x % zs.size]!) (Array.range n)).size = n := by simp
      simp only [Instr.fill, Value.cells, Nat.zero_mul, h5, hcs]
      rw [if_neg (by simp), fill_whole _ _ (by rw [h5, hcs])]
    have h3 : ¬ 16777216 < n := by omega
    have h4 : n ≠ 0 := by omega
    simp [execOp, ho, Instr.buildSlice, hx, run_underlying hut, sizeOf, typeInfo, hq, hs, h3, h4, hz0, Value.cells, hf, newRow, Result.andThen]

theorem run_equalIn_bools (d : Nat) (t e : TypeId) (n : Nat) (f g : Nat → Bool) (xs ys : Array Value) (hx : ∀ k, k < n → xs[k]? = some (.bool (f k))) (hy : ∀ k, k < n → ys[k]? = some (.bool (g k)))
    (hu : P.underlying t = some (.array n e)) (hue : P.underlying e = some .bool) (hi : (P.info? e).map (·.size) = some 1) :
    (Op.equalIn (d + 2) t (.agg xs) (.agg ys)).run P w = .ok ((List.range n).all fun k => f k == g k) w := by
  have hagg : ∀ w, (isAgg e).run P w = .ok false w := fun w => by simp [isAgg, run_underlying hue]
  cases hq : P.info? e with
  | none => simp [hq] at hi
  | some i =>
    have hs : i.size = 1 := by simpa [hq] using hi
    have hsz : ∀ w, (sizeOf e).run P w = .ok 1 w := fun w => by simp [sizeOf, typeInfo, hq, hs]
    have hb : ∀ (a b : Bool) (w : World), (Op.equalIn (d + 1) e (.bool a) (.bool b)).run P w = .ok (a == b) w := fun a b w => run_equalIn_bool' w d e a b hue
    have hpx : ∀ k, k < n → ∀ w, (part e xs (k * 1)).run P w = .ok (.bool (f k)) w := fun k hk w => by simp [part, hagg, hx k hk]
    have hpy : ∀ k, k < n → ∀ w, (part e ys (k * 1)).run P w = .ok (.bool (g k)) w := fun k hk w => by simp [part, hagg, hy k hk]
    obtain ⟨D, hD⟩ : ∃ D, D = d + 1 := ⟨_, rfl⟩
    rw [← hD] at hb
    rw [show d + 2 = D + 1 by omega]
    clear hD
    simp only [Op.equalIn, Sem.run_bind, run_underlying hu, Result.andThen_ok, hsz]
    rw [Std.Legacy.Range.forIn_eq_forIn_range']
    have loop : ∀ (l : List Nat) (w : World), (∀ k ∈ l, k < n) → (forIn l ((none : Option Bool), ()) fun i (_ : Option Bool × Unit) => do
            let a ← part e xs (i * 1)
            let b ← part e ys (i * 1)
            let c ← Op.equalIn D e a b
            if (!c) = true then pure (ForInStep.done (some false, ())) else do
                pure PUnit.unit
                pure (ForInStep.yield (none, ()))).run P w = .ok (if l.all (fun k => f k == g k) then (none, ()) else (some false, ())) w := by
      intro l
      induction l with
      | nil => intro w _; simp
      | cons k l ih =>
        intro w h
        have hk := h k (by simp)
        simp only [List.forIn_cons, Sem.run_bind, hpx k hk, hpy k hk, hb, Result.andThen_ok, Sem.run_ite]
        by_cases e : f k = g k
        · have e' : (f k == g k) = true := by simp [e]
          rw [e']
          simp only [Bool.not_true, Bool.false_eq_true, if_false, Sem.run_pure, Result.andThen_ok]
          rw [ih w fun j hj => h j (by simp [hj])]
          simp [e]
        · have e' : (f k == g k) = false := by simp [e]
          rw [e']
          simp [e']
    rw [loop _ w (fun k hk => by simp [Std.Legacy.Range.size] at hk; omega)]
    have er : List.range' [:n].start [:n].size [:n].step = List.range n := by simp [Std.Legacy.Range.size, List.range_eq_range']
    rw [er]
    cases (List.range n).all fun k => f k == g k <;> simp

/-- Two sets compared. -/
theorem wpList_neqA (hg : o.guard = none) (ty : TypeId) (x y : Operand) (r : TypeId) (ho : o.op = .binOp .neq ty x y r) (S T : Int → Bool) (hx : a.eval x = .agg (rowA S)) (hy : a.eval y = .agg (rowA T)) (e : TypeId)
    (hu : P.underlying ty = some (.array 40 e)) (hue : P.underlying e = some .bool) (hi : (P.info? e).map (·.size) = some 1) (hm : P.eqGuardType P.depth ty = false)
    (h : wpList P ops Q rest (a.put o.dst (.bool (!bP (rowA S = rowA T)))) w) : wpList P ops Q (o :: rest) a w := by
  refine wpList_ran hg ?_ h
  have h1 := run_eqGuard_agg (P := P) w .neq ty x y (rowA S) (rowA T) hm
  have h2 := run_neq_struct (P := P) w ty (rowA S) (rowA T)
  rw [run_equalIn_bools 9998 ty e 40 (fun k => S k) (fun k => T k) (rowA S) (rowA T) (fun k hk => rowA_at S hk) (fun k hk => rowA_at T hk) hu hue hi] at h2
  have h3 : ((List.range 40).all fun k => S (k : Int) == T (k : Int)) = bP (rowA S = rowA T) := by
    cases hb : bP (rowA S = rowA T)
    · have hn := bP_no hb
      rw [List.all_eq_false]
      apply Classical.byContradiction
      intro hc
      exact hn (rowA_ext fun k hk => by
        apply Classical.byContradiction
        intro hne
        exact hc ⟨k, List.mem_range.2 hk, by simpa using hne⟩)
    · have hp := bP_is hb
      rw [List.all_eq_true]
      intro k hk
      simp [rowA_inj hp k (List.mem_range.1 hk)]
  rw [h3] at h2
  simp [execOp, ho, hx, hy, h1, h2, Result.andThen]

theorem step_ran {K : Act → World → Prop} {E : Prop} (hg : o.guard = none) {v : Value} {w' : World} (h0 : (execOp a.eval o).run P w = .ok (.value v) w') (h : K (a.put o.dst v) w') :
    if Region.wanted o (yielded ops a.tmps) = true then Oper.wp P o a w K Q else E := by
  have hw : Region.wanted o (yielded ops a.tmps) = true := by simp [Region.wanted, hg]
  rw [if_pos hw]
  unfold Oper.wp
  rw [h0]
  exact h
theorem step_ranS {K : Act → World → Prop} {E : Prop} (hg : o.guard = none) {w' : World} (h0 : (execOp a.eval o).run P w = .ok .skip w') (h : K (a.put o.dst undef) w') :
    if Region.wanted o (yielded ops a.tmps) = true then Oper.wp P o a w K Q else E := by
  have hw : Region.wanted o (yielded ops a.tmps) = true := by simp [Region.wanted, hg]
  rw [if_pos hw]
  unfold Oper.wp
  rw [h0]
  exact h
/-- A whole array out of a block, at a step of a region that draws. -/
theorem step_loadA {K : Act → World → Prop} {E : Prop} (hg : o.guard = none) (ty : TypeId) (x : Operand) (ho : o.op = .load ty x) (g off : Nat) (hx : a.eval x = .pointer (some ⟨g, off, none⟩)) (cs : Array Value) (n : Nat) (e : TypeId) (hu : P.underlying ty = some (.array n e))
    (hi : (P.info? ty).map (·.size) = some cs.size) (hc : ∀ (j : Nat) (v : Value), cs[j]? = some v → w.cell? ⟨g, off + j, none⟩ = some v)
    (h : K (a.put o.dst (.agg cs)) w) : if Region.wanted o (yielded ops a.tmps) = true then Oper.wp P o a w K Q else E := by
  refine step_ran hg ?_ h
  have hl := run_loadVar_part (P := P) w g off ty cs n e hu hi hc
  simp [execOp, ho, Instr.loadAt, Instr.sureAddr, hx, hl, Result.andThen]
/-- A whole array into a block, at a step of a region that draws. -/
theorem step_storeA {K : Act → World → Prop} {E : Prop} (hg : o.guard = none) (ty : TypeId) (x y : Operand) (ho : o.op = .store ty x y) (g : Nat) (cs : Array Value) (hx : a.eval x = .pointer (some ⟨g, 0, none⟩)) (hy : a.eval y = .agg cs) (t : TypeId) (old : Array Value)
    (hw : Row w g t old) (hi : (P.info? ty).map (·.size) = some cs.size) (hold : old.size = cs.size) (h1 : cs.all (·.oneCell') = true)
    (h : K (a.put o.dst undef) (w.setRow g cs)) : if Region.wanted o (yielded ops a.tmps) = true then Oper.wp P o a w K Q else E := by
  refine step_ranS hg ?_ h
  have hs := run_storeVar_row (P := P) w g t ty old cs hw hi hold h1
  simp [execOp, ho, Instr.storeAt, Instr.sureAddr, hx, hy, hs, Result.andThen]

theorem run_loadFrom_row (w : World) (g : Nat) (t : TypeId) (S : Int → Bool) (h : Row w g t (rowA S)) : (loadCellsFrom ⟨g, 0, none⟩ 0 40 #[]).run P w = .ok (rowA S) w := by
  have h1 := run_loadCells_list (P := P) w ⟨g, 0, none⟩ (rowA S).toList (fun j v hv => by
    rw [Go.WideShapes.add_plain, Nat.zero_add, h.cell]
    simpa using hv)
  rw [Array.length_toList, rowA_size] at h1
  simpa [loadCells] using h1
theorem run_store_row (w : World) (g : Nat) (t : TypeId) (S : Int → Bool) (old : Array Value) (h : Row w g t old) (hs : old.size = 40) : (storeCells ⟨g, 0, none⟩ (rowA S).toList 0).run P w = .ok () (w.setRow g (rowA S)) := by
  have := run_storeCells_from (P := P) g t (rowA S).toList 0 old w h (by rw [Array.length_toList, rowA_size]; omega) (fun v hv => rowA_one S v hv)
  simpa using this
end

end Go.Proofs.YtfbpcdmpkbjifaaDoor

/- The laws of maps keyed by numbers, at the operations of a walk. -/

namespace Go.Proofs.YtfbpcdmpkbjifaaDoor
open Go.RowKit

section
variable (w : World) {ops : Array Oper} {rest : List Oper} {o : Oper} {a : Act} {Q : Exit → Act → World → Prop}

theorem wpList_next_rng (hg : o.guard = none) (it : Operand) (hop : o.op = Op.next it false) (q r n : Nat) (f : Int → Option Value) (left : Int → Bool) (cnt : Nat)
    (hit : a.eval it = .pointer (some ⟨r, 0, none⟩)) (h : Rng w q r n f left cnt)
    (hDone : cnt = 0 → (∀ x, left x = false) → wpList Tryd.prog ops Q rest (a.put o.dst (.tuple #[.bool false])) w)
    (hMore : ∀ (x : Int) (v : Value) (w' : World) (cnt' : Nat), F64 x → left x = true → f x = some v → Rng w' q r n f (strike left x) cnt' → cnt' < cnt → Save (· = r) w w' → w'.heap.size = w.heap.size →
      (Instr.entry (.pointer (some ⟨r, 0, none⟩))).run Tryd.prog w' = .ok (.tuple #[.int .i64 x, v]) w' → wpList Tryd.prog ops Q rest (a.put o.dst (.tuple #[.bool true, .int .i64 x, v])) w') :
    wpList Tryd.prog ops Q (o :: rest) a w := by
  refine wpList_plain hg fun K' hK' => ?_
  unfold Oper.wp
  rcases h.next o.type with ⟨h0, hl, hrun⟩ | ⟨x, v, w', cnt', hx, hlk, hv, hrun, hrg, hlt, hs, hsz, hen⟩
  · simp [execOp, hop, hit, hrun, Result.andThen]
    exact hK' _ _ (hDone h0 hl)
  · simp [execOp, hop, hit, hrun, Result.andThen]
    exact hK' _ _ (hMore x v w' cnt' hx hlk hv hrg hlt hs hsz hen)

theorem wpList_range_map (hg : o.guard = none) (m : Operand) (t : TypeId) (hop : o.op = Op.range t m) (e : TypeId) (ht : Tryd.prog.underlying t = some (.map 3 e)) (q n : Nat) (f : Int → Option Value)
    (hm : a.eval m = .map (some q)) (h : MapI w q n f)
    (hK : ∀ w' cnt, Rng w' q w.heap.size n f (fun x => (f x).isSome) cnt → cnt ≤ n → Below w.heap.size w w' → w'.heap.size = w.heap.size + 1 → wpList Tryd.prog ops Q rest (a.put o.dst (.pointer (some ⟨w.heap.size, 0, none⟩))) w') :
    wpList Tryd.prog ops Q (o :: rest) a w := by
  refine wpList_plain hg fun K' hK' => ?_
  obtain ⟨w', cnt, hrun, r1, r2, r3, r4⟩ := h.range ht
  unfold Oper.wp
  simp [execOp, hop, hm, hrun, Result.andThen]
  exact hK' _ _ (hK w' cnt r1 r2 r3 r4)

theorem wpList_delete_rng (hg : o.guard = none) (m x : Operand) (t : TypeId) (hop : o.op = Op.call { callee := Callee.builtin Builtin.delete, args := #[m, x], argTypes := #[t, 3] })
    (e : TypeId) (ht : Tryd.prog.underlying t = some (.map 3 e)) (q r n : Nat) (f : Int → Option Value) (left : Int → Bool) (cnt : Nat) (y : Int)
    (hm : a.eval m = .map (some q)) (hx : a.eval x = .int .i64 y) (hy : F64 y) (h : Rng w q r n f left cnt)
    (hK : ∀ w' cnt', Rng w' q r n (delK f y) (strike left y) cnt' → cnt' ≤ cnt → Save (· = q) w w' → w'.heap.size = w.heap.size → wpList Tryd.prog ops Q rest (a.put o.dst (.tuple #[])) w') :
    wpList Tryd.prog ops Q (o :: rest) a w := by
  refine wpList_plain hg fun K' hK' => ?_
  obtain ⟨w', cnt', hrun, r1, r2, r3, r4⟩ := h.drop hy ht o.type
  unfold Oper.wp
  simp [execOp, hop, resolve, invoke, builtin, hm, hx, hrun, Result.andThen]
  exact hK' _ _ (hK w' cnt' r1 r2 r3 r4)

theorem wpList_store_map (hg : o.guard = none) (m x v : Operand) (t : TypeId) (hop : o.op = Op.mapUpdate t m x v) (e : TypeId) (ht : Tryd.prog.underlying t = some (.map 3 e)) (q n : Nat) (f : Int → Option Value) (y : Int) (u : Value)
    (hm : a.eval m = .map (some q)) (hx : a.eval x = .int .i64 y) (hv : a.eval v = u) (hy : F64 y) (hn : n < maxLen) (h : MapI w q n f)
    (hK : ∀ w', MapI w' q (n + 1) (putK f y u) → Save (· = q) w w' → w'.heap.size = w.heap.size → wpList Tryd.prog ops Q rest (a.put o.dst undef) w') :
    wpList Tryd.prog ops Q (o :: rest) a w := by
  refine wpList_plain hg fun K' hK' => ?_
  obtain ⟨w', hrun, r1, r2, r3⟩ := h.store hn hy ht u
  unfold Oper.wp
  simp [execOp, hop, hm, hx, hv, hrun, Result.andThen]
  exact hK' _ _ (hK w' r1 r2 r3)

theorem wpList_store_set (hg : o.guard = none) (m x v : Operand) (hop : o.op = Op.mapUpdate 118 m x v) (q : Nat) (S : Int → Bool) (y : Int)
    (hm : a.eval m = .map (some q)) (hx : a.eval x = .int .i64 y) (hv : a.eval v = .bool true) (hy : 0 ≤ y ∧ y < 40) (h : SetM w q S)
    (hK : ∀ w', SetM w' q (addS S y) → Save (· = q) w w' → w'.heap.size = w.heap.size → wpList Tryd.prog ops Q rest (a.put o.dst undef) w') :
    wpList Tryd.prog ops Q (o :: rest) a w := by
  refine wpList_plain hg fun K' hK' => ?_
  obtain ⟨w', hrun, r1, r2, r3⟩ := h.store hy
  unfold Oper.wp
  simp [execOp, hop, hm, hx, hv, hrun, Result.andThen]
  exact hK' _ _ (hK w' r1 r2 r3)

end

end Go.Proofs.YtfbpcdmpkbjifaaDoor

/- The program's closeSet: what it makes of a set. -/

namespace Go.Proofs.YtfbpcdmpkbjifaaDoor
open Go.RowKit

/-- Only block b and new blocks have turned. -/
def Tb (b B : Nat) (i : Nat) : Prop := i = b ∨ B ≤ i

theorem Ints.saveMap {w w' : World} {b n : Nat} {f : Int → Option Value} {A : Option Addr} {xs : List Int} (h : Ints w w.heap.size A xs) (hm : MapI w b n f) (hs : Save (Tb b w.heap.size) w w') : Ints w' w'.heap.size A xs := by
  intro hn
  obtain ⟨p, o, e, hp, hc⟩ := h hn
  have hb : p ≠ b := fun e2 => by
    obtain ⟨D, ⟨es, ck, hm1, _⟩, _⟩ := hm
    subst e2
    have h0 := hc 0 xs[0] (List.getElem?_eq_getElem hn)
    simp [World.cell?, hm1] at h0
  have hk : w'.heap[p]? = w.heap[p]? := hs.block p hp (by unfold Tb; omega)
  exact ⟨p, o, e, by have := hs.size; omega, fun k x hx => (World.cell?_of_block (a := ⟨p, o + k, none⟩) hk).trans (hc k x hx)⟩

theorem Rls.saveMap {w w' : World} {b n : Nat} {f : Int → Option Value} {A : Option Addr} {rs : List Ru} (h : Rls w w.heap.size A rs) (hm : MapI w b n f) (hs : Save (Tb b w.heap.size) w w') : Rls w' w'.heap.size A rs := by
  intro hn
  obtain ⟨p, o, e, hp, hc⟩ := h hn
  have hb : p ≠ b := fun e2 => by
    obtain ⟨D, ⟨es, ck, hm1, _⟩, _⟩ := hm
    subst e2
    have h0 := (hc 0 rs[0] (List.getElem?_eq_getElem hn)).1
    simp [World.cell?, hm1] at h0
  have hk : w'.heap[p]? = w.heap[p]? := hs.block p hp (by unfold Tb; omega)
  refine ⟨p, o, e, by have := hs.size; omega, fun k u hu => ?_⟩
  obtain ⟨h1, h2, h3⟩ := hc k u hu
  exact ⟨(World.cell?_of_block (a := ⟨p, o + k * 2, none⟩) hk).trans h1, (World.cell?_of_block (a := ⟨p, o + k * 2 + 1, none⟩) hk).trans h2, h3.saveMap hm hs⟩

/-- The value of a rule. -/
def ruV (u : Ru) : Value := .agg #[.int .i64 u.l, .slice u.a u.r.length u.c]
/-- The rules that are still marked, by their numbers. -/
def openF (rs : List Ru) (rem : Int → Bool) : Int → Option Value := fun x => if rem x then (rs[x.toNat]?).map ruV else none
/-- The first k. -/
def firstB (k : Nat) : Int → Bool := fun x => decide (0 ≤ x ∧ x < (k : Int))
theorem openF_zero (rs : List Ru) : ∀ x, (fun _ : Int => (none : Option Value)) x = openF rs (firstB 0) x := fun x => by
  unfold openF firstB
  rw [if_neg]
  simp
theorem openF_put {rs : List Ru} {k : Nat} (hk : k < rs.length) : ∀ x, putK (openF rs (firstB k)) (k : Int) (.agg #[.int .i64 rs[k].l, .slice rs[k].a rs[k].r.length rs[k].c]) x = openF rs (firstB (k + 1)) x := fun x => by
  unfold putK openF firstB
  by_cases e : x = (k : Int)
  · subst e
    have e1 : decide (0 ≤ (k : Int) ∧ (k : Int) < ((k + 1 : Nat) : Int)) = true := decide_eq_true (by omega)
    rw [if_pos rfl, e1, if_pos rfl, Int.toNat_natCast, List.getElem?_eq_getElem hk]
    rfl
  · rw [if_neg e]
    have e1 : decide (0 ≤ x ∧ x < ((k + 1 : Nat) : Int)) = decide (0 ≤ x ∧ x < (k : Int)) := by
      congr 1
      exact propext (by omega)
    rw [e1]
theorem openF_del {rs : List Ru} {rem : Int → Bool} {y : Int} : ∀ x, delK (openF rs rem) y x = openF rs (strike rem y) x := fun x => by
  unfold delK openF
  by_cases e : x = y
  · subst e
    rw [if_pos rfl, strike_same]
    rfl
  · rw [if_neg e, strike_other e]
theorem openF_some {rs : List Ru} {rem : Int → Bool} {x : Int} {v : Value} (h : openF rs rem x = some v) : rem x = true ∧ ∃ u, rs[x.toNat]? = some u ∧ v = .agg #[.int .i64 u.l, .slice u.a u.r.length u.c] := by
  unfold openF at h
  split at h
  · rename_i hr
    cases hu : rs[x.toNat]? with
    | none => rw [hu] at h; cases h
    | some u =>
      rw [hu] at h
      exact ⟨hr, u, rfl, (Option.some.inj h).symm⟩
  · cases h
theorem openF_isSome {rs : List Ru} {rem : Int → Bool} (hr : ∀ x, rem x = true → 0 ≤ x ∧ x < (rs.length : Int)) (x : Int) : (openF rs rem x).isSome = rem x := by
  unfold openF
  cases h : rem x
  · rfl
  · have := hr x h
    rw [if_pos rfl, List.getElem?_eq_getElem (by omega)]
    rfl

/-- What a call of 'use' does, in every world in which E holds. -/
def UseOK (W : Way) (ss : List (Int × List Int)) (E : World → Prop) (b : Nat) (fid : Nat) (caps : Array Value) : Prop :=
  ∀ (v : World) (S : Int → Bool) (u : Ru), E v → SetM v b S → Ints v v.heap.size u.a u.r → u.abs ∈ ss →
    Calls Tryd.prog fid (#[.map (some b), .agg #[.int .i64 u.l, .slice u.a u.r.length u.c]] ++ caps) v fun e v' => e = .returned (.bool (W.fires S u.abs)) ∧ SetM v' b (useW W S u.abs) ∧ Save (· = b) v v'

/-- What holds all the while. -/
structure Closing (W : Way) (S0 : Int → Bool) (rs : List Ru) (rem S : Int → Bool) : Prop where
  fit : ∀ x, rem x = true → 0 ≤ x ∧ x < (rs.length : Int)
  sound : ∀ x, S x = true → Least W S0 (rs.map Ru.abs) x
  start : ∀ x, S0 x = true → S x = true
  used : ∀ (k : Nat) (u : Ru), rs[k]? = some u → rem (k : Int) = false → ∀ y ∈ W.adds u.abs, S y = true

theorem Closing.begin (W : Way) (S0 : Int → Bool) (rs : List Ru) : Closing W S0 rs (firstB rs.length) S0 :=
  ⟨fun x h => of_decide_eq_true h, fun _ h => Least.start h, fun _ h => h, fun k u hu h => by
    have := (List.getElem?_eq_some_iff.1 hu).1
    have := of_decide_eq_false h
    omega⟩

theorem Closing.step {W : Way} {S0 : Int → Bool} {rs : List Ru} {rem S : Int → Bool} (h : Closing W S0 rs rem S) {x : Int} {u : Ru} (hu : rs[x.toNat]? = some u) (hf : W.fires S u.abs = true) :
    Closing W S0 rs (strike rem x) (useW W S u.abs) := by
  refine ⟨fun y hy => h.fit y (strike_le hy), fun y hy => ?_, fun y hy => useW_le (h.start y hy), fun k v hv hk y hy => ?_⟩
  · rcases useW_inv hy with hy | ⟨h1, h2⟩
    · exact h.sound y hy
    · exact Least.step h.sound (List.mem_map.2 ⟨u, List.mem_of_getElem? hu, rfl⟩) h1 h2
  · by_cases e : (k : Int) = x
    · have e2 : x.toNat = k := by omega
      rw [e2, hv] at hu
      cases hu
      exact useW_add hf hy
    · rw [strike_other e] at hk
      exact useW_le (h.used k v hv hk y hy)

theorem Closing.done {W : Way} {S0 : Int → Bool} {rs : List Ru} {rem S : Int → Bool} (h : Closing W S0 rs rem S) (hn : ∀ (k : Nat) (u : Ru), rs[k]? = some u → rem (k : Int) = true → W.fires S u.abs = false) : IsLeast W S0 (rs.map Ru.abs) S := by
  refine isLeast_of h.sound h.start fun r hr hf y hy => ?_
  obtain ⟨u, hu, rfl⟩ := List.mem_map.1 hr
  obtain ⟨k, hk⟩ := List.mem_iff_getElem?.1 hu
  cases hrem : rem (k : Int)
  · exact h.used k u hk hrem y hy
  · rw [hn k u hk hrem] at hf; cases hf

/-- What closeSet ends in. -/
def Closed (w : World) (W : Way) (S0 : Int → Bool) (ss : List (Int × List Int)) (b : Nat) (e : Ending) (w' : World) : Prop :=
  e = .returned (.map (some b)) ∧ ∃ S, SetM w' b S ∧ IsLeast W S0 ss S ∧ Save (· = b) w w'

end Go.Proofs.YtfbpcdmpkbjifaaDoor

/- The program's closeSet: its walk. -/

namespace Go.Proofs.YtfbpcdmpkbjifaaDoor
open Go.RowKit

theorem save_T {b B : Nat} {w w' : World} (h : Save (· = b) w w') : Save (Tb b B) w w' := h.wider fun _ e => .inl e

set_option maxRecDepth 20000 in
set_option maxHeartbeats 2000000 in
theorem closeSet_any (W : Way) (A : Option Addr) (c : Nat) (rs : List Ru) (b fid : Nat) (caps : Array Value) (S0 : Int → Bool) (E : World → Prop) (w : World) (hx : Rls w w.heap.size A rs) (h16 : rs.length ≤ 1048576) (hS : SetM w b S0) (hE : E w)
    (hk : ∀ v v', E v → Save (Tb b w.heap.size) v v' → E v') (hU : UseOK W (rs.map Ru.abs) E b fid caps) (hcf : ∀ (xs : Array Value) (v : World), Sem.run Tryd.prog (callFunc fid xs) v = .ok (.enter fid xs) v) :
    Calls Tryd.prog 159 #[.map (some b), .slice A rs.length c, .func (.func fid) #[] caps] w (Closed w W S0 (rs.map Ru.abs) b) := by
  have hmm := @run_makeMap Tryd.prog
  have hbl := hS.map.lt
  have HX := Lib.hid hx; clear hx
  have HS := Lib.hid hS; clear hS
  have HE := Lib.hid hE; clear hE
  have HEK := Lib.hid hk; clear hk
  have HU := Lib.hid hU; clear hU
  have HM0 := Lib.hid (((MapI.made w).same (openF_zero rs)))
  have HB0 : Hid (Below w.heap.size w (w.alloc (.map #[] 0))) := (Below.refl _ _).alloc (Nat.le_refl _) _
  go_enter Tryd.func159, Tryd.ntmps159
  go_wp2
  go_loopw [16] (fun i wr => ∃ (k : Nat), k ≤ rs.length ∧ i = .int .i64 k ∧ Hid (MapI wr w.heap.size k (openF rs (firstB k))) ∧ Hid (Below w.heap.size w wr)) (fun i _ => rs.length - (intOf i).toNat)
  case atStart => exact ⟨0, by omega, rfl, HM0.out, HB0.out⟩
  case round =>
    obtain ⟨k, hk, rfl, HM, HB⟩ := hrel
    by_cases hlt : k < rs.length
    · obtain ⟨p, o, rfl, hp, c1, c2, _⟩ := (HX.out.keep HB.out).at_ hlt
      have HM1 := Lib.hid (HM.out.keep ((Below.refl wr.heap.size wr).alloc (Nat.le_refl _) (.cells #[.int .i64 rs[k].l, .slice rs[k].a rs[k].r.length rs[k].c] 166)))
      have HP := Lib.hid (openF_put hlt)
      have hws : w.heap.size ≤ wr.heap.size := HB.out.size
      go_wp2_with (at_mapUpdate
                   refine wpList_store_map _ rfl _ _ _ _ rfl _ Tryd.underlying202 w.heap.size k _ (k : Int) _ rfl rfl rfl (by unfold F64; omega) (by unfold maxLen; omega) HM1.out ?_
                   intro w1 h1 h2 h3
                   have HM2 := Lib.hid h1
                   have HS2 := Lib.hid h2
                   clear h1 h2 h3)
      go_roundw
      case rel =>
        exact ⟨k + 1, by omega, by go_num, HM2.out.same HP.out, (HB.out.alloc HB.out.size _).trans (HS2.out.below (B := w.heap.size) (by simp; omega) fun i hi e => by omega)⟩
      case measure => simp [intOf]; omega
    · obtain rfl : k = rs.length := by omega
      obtain ⟨wA, hwA⟩ : ∃ x, x = wr := ⟨_, rfl⟩
      subst hwA
      clear HM0 HB0 hmm
      have HMA := Lib.hid (HM.out.mono h16)
      have HSA := Lib.hid (HS.out.keep HB.out)
      have HVA : Hid (Save (Tb b w.heap.size) w wA) := Save.of_below HB.out
      have HCA := Lib.hid (Closing.begin W S0 rs)
      go_wp2
      go_loopg [10] (2 * cntB (firstB rs.length) rs.length + 1) (fun g u wv => ∃ (used : Bool) (rem S : Int → Bool), u = .bool used ∧ g = 2 * cntB rem rs.length + (if used then 1 else 0) ∧ Hid (MapI wv w.heap.size 1048576 (openF rs rem)) ∧ Hid (SetM wv b S) ∧ Hid (Save (Tb b w.heap.size) w wv) ∧ Hid (Closing W S0 rs rem S) ∧ Hid (used = false → ∀ (k : Nat) (u : Ru), rs[k]? = some u → rem (k : Int) = true → W.fires S u.abs = false))
      case atStart => exact ⟨true, _, _, rfl, rfl, HMA.out, HSA.out, HVA.out, HCA.out, fun h => by cases h⟩
      case round =>
        obtain ⟨used, rem, S, rfl, hg, HM1, HS1, HV1, HC1, HN1⟩ := hrel
        clear HMA HSA HVA HCA HM
        cases used
        · have HL := Lib.hid (HC1.out.done (HN1.out rfl))
          have HV : Hid (Save (· = b) w wr) := ⟨HV1.out.os, HV1.out.tape, HV1.out.output, HV1.out.size, fun i hi h => HV1.out.block i hi fun e => by rcases e with e | e; exact h e; omega⟩
          go_wp2
          go_ret
          exact ⟨rfl, S, HS1.out, HL.out, HV.out⟩
        · rw [if_pos rfl] at hg
          obtain ⟨wO, hwO⟩ : ∃ x, x = wr := ⟨_, rfl⟩
          subst hwO
          have hqO : w.heap.size < wO.heap.size := HM1.out.lt
          have hbO : b < wO.heap.size := by omega
          go_wp2_with (at_range
                       refine wpList_range_map _ rfl _ _ rfl _ Tryd.underlying202 w.heap.size 1048576 _ rfl HM1.out ?_
                       intro w1 cnt h1 h2 h3 h4
                       have HR := Lib.hid h1
                       have HB1 := Lib.hid h3
                       clear h1 h2 h3 h4)
          try go_frame
          have HSr := Lib.hid (HS1.out.keep HB1.out)
          have HVr : Hid (Save (Tb b w.heap.size) w w1) := HV1.out.trans (Save.of_below HB1.out)
          have HLf : Hid (∀ x, (openF rs rem x).isSome = rem x) := openF_isSome HC1.out.fit
          go_loopg [10] cnt (fun g u wv => ∃ (used : Bool) (rem2 S2 left : Int → Bool), u = .bool used ∧ Hid (Rng wv w.heap.size wO.heap.size 1048576 (openF rs rem2) left g) ∧ Hid (SetM wv b S2) ∧ Hid (Save (Tb b w.heap.size) w wv) ∧ Hid (Closing W S0 rs rem2 S2) ∧ Hid (used = false → rem2 = rem ∧ ∀ (k : Nat) (u : Ru), rs[k]? = some u → rem2 (k : Int) = true → left (k : Int) = false → W.fires S2 u.abs = false) ∧ Hid (used = true → cntB rem2 rs.length < cntB rem rs.length))
          case atStart => exact ⟨false, rem, S, _, rfl, HR.out, HSr.out, HVr.out, HC1.out, fun _ => ⟨rfl, fun k u _ h1 h2 => by rw [HLf.out, h1] at h2; cases h2⟩, fun h => by cases h⟩
          case round =>
            obtain ⟨used, rem2, S2, left, rfl, HR2, HS2, HV2, HC2, HN2, HD2⟩ := hrel
            clear HR HB1 HSr HVr HLf
            go_wp2_with (at_next
                         refine wpList_next_rng _ rfl _ rfl w.heap.size wO.heap.size 1048576 _ _ _ rfl HR2.out ?_ ?_)
            · intro _ hl0
              have HL0 := Lib.hid hl0; clear hl0
              go_wp2
              go_roundg (2 * cntB rem2 rs.length + (if used then 1 else 0))
              case measure =>
                cases used
                · have := (HN2.out rfl).1
                  rw [this]
                  simp
                  omega
                · have := HD2.out rfl
                  simp
                  omega
              case rel => exact ⟨used, rem2, S2, rfl, rfl, HR2.out.map, HS2.out, HV2.out, HC2.out, fun h k u hu hr => (HN2.out h).2 k u hu hr (HL0.out _)⟩
            · intro x v w2 cnt2 hx hl hv hR hlt hSv hsz hen
              obtain ⟨hrem, u, hu, rfl⟩ := openF_some hv
              have hxr := HC2.out.fit x hrem
              have HV3 : Hid (Save (Tb b w.heap.size) w w2) := HV2.out.trans (hSv.wider fun i e => .inr (by omega))
              have HS3 := Lib.hid (HS2.out.save hSv (fun e : b = wO.heap.size => by omega))
              have HI3 : Hid (Ints w2 w2.heap.size u.a u.r) := by
                have hr3 := HX.out.saveMap HS.out.map HV3.out
                have hul := (List.getElem?_eq_some_iff.1 hu).1
                obtain ⟨_, _, _, _, _, _, h3⟩ := hr3.at_ hul
                have e2 : rs[x.toNat] = u := Option.some.inj ((List.getElem?_eq_getElem hul).symm.trans hu)
                rw [e2] at h3
                exact h3
              have HR3 := Lib.hid hR; clear hR hSv
              have HB3 : Hid (Below w2.heap.size w2 (w2.alloc (.cells #[.int .i64 u.l, .slice u.a u.r.length u.c] 166))) := (Below.refl _ _).alloc (Nat.le_refl _) _
              have HLX := Lib.hid hl; clear hl hv
              have HXR := Lib.hid hxr; clear hxr
              have HU0 := Lib.hid hu; clear hu
              have HRM := Lib.hid hrem; clear hrem
              have HLT := Lib.hid hlt; clear hlt
              clear HS2 HV2 HR2 hsz
              have HE3 : Hid (E (w2.alloc (.cells #[.int .i64 u.l, .slice u.a u.r.length u.c] 166))) := HEK.out _ _ HE.out (HV3.out.trans (Save.of_below HB3.out))
              have HUS := Lib.hid (HU.out _ S2 u HE3.out (HS3.out.keep HB3.out) ((HI3.out.keep HB3.out).more HB3.out.size) (List.mem_map.2 ⟨u, List.mem_of_getElem? HU0.out, rfl⟩))
              cases hf : W.fires S2 u.abs
              · rw [hf, useW_no hf] at HUS
                have HF := Lib.hid hf; clear hf
                go_wp2_with fail
                refine HUS.out.mono ?_
                rintro e w4 ⟨rfl, hS4, hV4⟩
                have HS4 := Lib.hid hS4; clear hS4
                have HV4 : Hid (Save (Tb b w.heap.size) w w4) := (HV3.out.trans (Save.of_below HB3.out)).trans (save_T hV4)
                have HR4 : Hid (Rng w4 w.heap.size wO.heap.size 1048576 (openF rs rem2) (strike left x) cnt2) := (HR3.out.keep HB3.out).save hV4 (fun e : w.heap.size = b => by omega) (fun e : wO.heap.size = b => by omega)
                clear hV4
                go_wp2
                go_roundg cnt2
                case measure => exact HLT.out
                case rel =>
                  refine ⟨used, rem2, S2, _, rfl, HR4.out, HS4.out, HV4.out, HC2.out, fun h => ⟨(HN2.out h).1, fun k v hv hr hl => ?_⟩, HD2.out⟩
                  by_cases e : (k : Int) = x
                  · have e2 : x.toNat = k := by omega
                    have e3 := HU0.out
                    rw [e2, hv] at e3
                    cases e3
                    exact HF.out
                  · rw [strike_other e] at hl
                    exact (HN2.out h).2 k v hv hr hl
              · rw [hf] at HUS
                have HC3 := Lib.hid (HC2.out.step HU0.out hf); clear hf
                have hxx : x = ((x.toNat : Nat) : Int) := by have := HXR.out.1; omega
                have HCN : Hid (cntB (strike rem2 x) rs.length < cntB rem2 rs.length) := by
                  show _ < _
                  rw [hxx]
                  exact cntB_strike (by have := HXR.out; omega) (by rw [← hxx]; exact HRM.out)
                clear hxx
                go_wp2_with fail
                refine HUS.out.mono ?_
                rintro e w4 ⟨rfl, hS4, hV4⟩
                have HR4 : Hid (Rng w4 w.heap.size wO.heap.size 1048576 (openF rs rem2) (strike left x) cnt2) := (HR3.out.keep HB3.out).save hV4 (fun e : w.heap.size = b => by omega) (fun e : wO.heap.size = b => by omega)
                have HS4 := Lib.hid hS4; clear hS4
                have HV4 : Hid (Save (Tb b w.heap.size) w w4) := (HV3.out.trans (Save.of_below HB3.out)).trans (save_T hV4)
                clear hV4
                go_wp2_with (at_delete
                             refine wpList_delete_rng _ rfl _ _ _ rfl _ Tryd.underlying202 w.heap.size wO.heap.size 1048576 _ _ _ x rfl rfl hx HR4.out ?_
                             intro w5 cnt5 h1 h2 h3 h4
                             have HR5 := Lib.hid h1
                             have HL5 := Lib.hid h2
                             have HV5 := Lib.hid h3
                             clear h1 h2 h3 h4)
                go_roundg cnt5
                case measure => have := HL5.out; have := HLT.out; omega
                case rel =>
                  have HV6 : Save (Tb b w.heap.size) w w5 := HV4.out.trans (HV5.out.wider fun i e => .inr (by omega))
                  have HS6 : SetM w5 b (useW W S2 u.abs) := HS4.out.save HV5.out (fun e : b = w.heap.size => by omega)
                  have HR6 : Rng w5 w.heap.size wO.heap.size 1048576 (openF rs (strike rem2 x)) (strike left x) cnt5 := by
                    have h := HR5.out
                    rw [strike_twice, funext (openF_del (rs := rs) (rem := rem2) (y := x))] at h
                    exact h
                  refine ⟨true, strike rem2 x, _, _, rfl, HR6, HS6, HV6, HC3.out, fun h => (by cases h), fun _ => ?_⟩
                  have h1 := HCN.out
                  cases used
                  · rw [(HN2.out rfl).1] at h1 ⊢
                    exact h1
                  · have h2 := HD2.out rfl
                    omega

end Go.Proofs.YtfbpcdmpkbjifaaDoor

/- The program's closeLefts, nullableBy, productiveBy, growingBy, reachedFrom, reachedBy. -/

namespace Go.Proofs.YtfbpcdmpkbjifaaDoor
open Go.RowKit

/-- What a call of 'fits' tells, in every world in which E holds. -/
def FitsOK (W : Way) (ss : List (Int × List Int)) (E : World → Prop) (b : Nat) (fid : Nat) (caps : Array Value) : Prop :=
  ∀ (v : World) (S : Int → Bool) (u : Ru), E v → SetM v b S → Ints v v.heap.size u.a u.r → u.abs ∈ ss →
    Calls Tryd.prog fid (#[.map (some b), .slice u.a u.r.length u.c] ++ caps) v fun e v' => e = .returned (.bool (W.fires S u.abs)) ∧ Below v.heap.size v v'

/-- A set was made. -/
def GaveSet (w : World) (P : (Int → Bool) → Prop) (e : Ending) (w' : World) : Prop :=
  ∃ b S, e = .returned (.map (some b)) ∧ w.heap.size ≤ b ∧ SetM w' b S ∧ P S ∧ Below w.heap.size w w'

theorem useW_left {W : Way} (hW : ∀ r, W.adds r = [r.1]) {S : Int → Bool} {u : Ru} (h : W.fires S u.abs = true) : useW W S u.abs = addS S u.l := by
  funext x
  unfold useW addS
  rw [h, hW]
  show (S x || (true && [u.l].contains x)) = _
  by_cases e : x = u.l
  · simp [e]
  · simp [e]

set_option maxRecDepth 20000 in
set_option maxHeartbeats 1000000 in
theorem fitsUse_any (W : Way) (hW : ∀ r, W.adds r = [r.1]) (ss : List (Int × List Int)) (hA : AddsFit W ss) (E : World → Prop) (b B fid : Nat) (caps : Array Value) (hcf : ∀ (xs : Array Value) (v : World), Sem.run Tryd.prog (callFunc fid xs) v = .ok (.enter fid xs) v)
    (hF : FitsOK W ss E b fid caps) (hk : ∀ v v', E v → Below v.heap.size v v' → E v') :
    UseOK W ss (fun v => E v ∧ v.cell? ⟨B, 0, none⟩ = some (.func (.func fid) #[] caps)) b 160 #[.pointer (some ⟨B, 0, none⟩)] := by
  intro v S u hE hS hI hm
  obtain ⟨hE1, hc⟩ := hE
  have hBl : B < v.heap.size := by
    by_cases hg : B < v.heap.size
    · exact hg
    · simp only [World.cell?] at hc
      rw [Array.getElem?_eq_none (by omega)] at hc
      cases hc
  have hul : 0 ≤ u.l ∧ u.l < 40 := hA _ hm _ (by rw [hW]; exact List.mem_singleton.2 rfl)
  have HB0 : Hid (Below v.heap.size v (v.alloc (.cells #[.int .i64 u.l, .slice u.a u.r.length u.c] 166))) := (Below.refl _ _).alloc (Nat.le_refl _) _
  have BX0 : Hid (Box2 (v.alloc (.cells #[.int .i64 u.l, .slice u.a u.r.length u.c] 166)) v.heap.size (.int .i64 u.l) (.slice u.a u.r.length u.c)) := ⟨by simp, by simp [go_sem], by simp [go_sem]⟩
  have hc1 : (v.alloc (.cells #[.int .i64 u.l, .slice u.a u.r.length u.c] 166)).cell? ⟨B, 0, none⟩ = some (.func (.func fid) #[] caps) := (HB0.out.cell (p := ⟨B, 0, none⟩) hBl).trans hc
  have HC := Lib.hid (hF _ S u (hk _ _ hE1 HB0.out) (hS.keep HB0.out) ((hI.keep HB0.out).more HB0.out.size) hm)
  have HS := Lib.hid hS; clear hS hF hk hE1 hI hc
  cases hf : W.fires S u.abs
  · rw [hf] at HC
    rw [useW_no hf]
    clear hf
    go_enter Tryd.func160, Tryd.ntmps160
    go_wp2_with fail
    refine HC.out.mono ?_
    rintro e w1 ⟨rfl, hB1⟩
    have HB1 := Lib.hid (HB0.out.trans (hB1.mono HB0.out.size)); clear hB1 hc1
    go_wp2
    go_ret
    exact ⟨rfl, HS.out.keep HB1.out, Save.of_below HB1.out⟩
  · rw [hf] at HC
    rw [useW_left hW hf]
    clear hf
    go_enter Tryd.func160, Tryd.ntmps160
    go_wp2_with fail
    refine HC.out.mono ?_
    rintro e w1 ⟨rfl, hB1⟩
    obtain ⟨_, b0, b1⟩ := BX0.out.keep hB1 (by simp)
    have HB1 := Lib.hid (HB0.out.trans (hB1.mono HB0.out.size)); clear hB1 hc1
    have HS1 := Lib.hid (HS.out.keep HB1.out)
    go_wp2_with (at_mapUpdate
                 refine wpList_store_set _ rfl _ _ _ rfl b S u.l rfl rfl rfl hul HS1.out ?_
                 intro w2 h1 h2 h3
                 have HS2 := Lib.hid h1
                 have HV2 := Lib.hid h2
                 clear h1 h2 h3)
    go_ret
    exact ⟨rfl, HS2.out, (Save.of_below HB1.out).trans HV2.out⟩

set_option maxRecDepth 20000 in
set_option maxHeartbeats 1000000 in
theorem closeLefts_any (W : Way) (hW : ∀ r, W.adds r = [r.1]) (A : Option Addr) (c : Nat) (rs : List Ru) (hA : AddsFit W (rs.map Ru.abs)) (fid : Nat) (caps : Array Value) (E : World → Prop) (w : World) (hx : Rls w w.heap.size A rs) (h16 : rs.length ≤ 1048576)
    (hcf : ∀ (xs : Array Value) (v : World), Sem.run Tryd.prog (callFunc fid xs) v = .ok (.enter fid xs) v) (hE : E w) (hk : ∀ v v', E v → Below w.heap.size v v' → E v') (hF : ∀ b, w.heap.size ≤ b → FitsOK W (rs.map Ru.abs) (fun v => E v ∧ w.heap.size + 1 ≤ v.heap.size) b fid caps) :
    Calls Tryd.prog 137 #[.slice A rs.length c, .func (.func fid) #[] caps] w (GaveSet w (IsLeast W noS (rs.map Ru.abs))) := by
  have hmm := @run_makeMap Tryd.prog
  have hmf : ∀ (fn : Fn) (first cap : Array Value) (w : World), (Instr.makeFunc fn first cap).run Tryd.prog w = .ok (.func fn first cap) w := fun _ _ _ _ => rfl
  have hcu : ∀ (xs : Array Value) (v : World), Sem.run Tryd.prog (callFunc 160 xs) v = .ok (.enter 160 xs) v := fun xs v => rfl
  have HB1 : Hid (Below w.heap.size w (w.alloc (.cells #[.func (.func fid) #[] caps] 163))) := (Below.refl _ _).alloc (Nat.le_refl _) _
  have hsz : (w.alloc (.cells #[.func (.func fid) #[] caps] 163)).heap.size = w.heap.size + 1 := by simp
  have hcl : (w.alloc (.cells #[.func (.func fid) #[] caps] 163)).cell? ⟨w.heap.size, 0, none⟩ = some (.func (.func fid) #[] caps) := by simp [go_sem]
  have HS2 := Lib.hid (SetM.made (w.alloc (.cells #[.func (.func fid) #[] caps] 163)))
  have HB2 : Hid (Below w.heap.size w ((w.alloc (.cells #[.func (.func fid) #[] caps] 163)).alloc (.map #[] 0))) := HB1.out.alloc HB1.out.size _
  have HX := Lib.hid ((hx.keep HB2.out).more HB2.out.size); clear hx
  have hc2 : ((w.alloc (.cells #[.func (.func fid) #[] caps] 163)).alloc (.map #[] 0)).cell? ⟨w.heap.size, 0, none⟩ = some (.func (.func fid) #[] caps) := by simp [go_sem]
  have HU := Lib.hid (fitsUse_any W hW (rs.map Ru.abs) hA (fun v => E v ∧ w.heap.size + 1 ≤ v.heap.size) (w.heap.size + 1) w.heap.size fid caps hcf (hF _ (by omega)) (fun v v' h hb => ⟨hk v v' h.1 (hb.mono (by have := h.2; omega)), by have := hb.size; have := h.2; omega⟩))
  have HEK := Lib.hid hk
  have HE2 : Hid ((E ((w.alloc (.cells #[.func (.func fid) #[] caps] 163)).alloc (.map #[] 0)) ∧ w.heap.size + 1 ≤ ((w.alloc (.cells #[.func (.func fid) #[] caps] 163)).alloc (.map #[] 0)).heap.size) ∧ ((w.alloc (.cells #[.func (.func fid) #[] caps] 163)).alloc (.map #[] 0)).cell? ⟨w.heap.size, 0, none⟩ = some (.func (.func fid) #[] caps)) := ⟨⟨hk _ _ hE HB2.out, by simp⟩, hc2⟩
  clear hcl hc2 hE hk hF
  rw [hsz] at HS2
  go_enter Tryd.func137, Tryd.ntmps137
  go_wp2_with fail
  refine (closeSet_any W _ _ rs _ _ _ noS (fun v => (E v ∧ w.heap.size + 1 ≤ v.heap.size) ∧ v.cell? ⟨w.heap.size, 0, none⟩ = some (.func (.func fid) #[] caps)) _ HX.out h16 HS2.out HE2.out ?_ HU.out hcu).mono ?_
  · intro v v' h hs
    have hb : Below (w.heap.size + 1) v v' := ⟨hs.os, hs.tape, hs.output, hs.size, fun i hi => hs.block i (by have := h.1.2; omega) (by unfold Tb; simp; omega)⟩
    exact ⟨⟨HEK.out v v' h.1.1 (hb.mono (by omega)), by have := hs.size; have := h.1.2; omega⟩, (hb.cell (p := ⟨w.heap.size, 0, none⟩) (Nat.lt_succ_self _)).trans h.2⟩
  rintro e w3 ⟨rfl, S, hS, hL, hV⟩
  have HB3 : Hid (Below w.heap.size w w3) := HB2.out.trans (hV.below HB2.out.size fun i hi e => by omega)
  have HS3 := Lib.hid hS; clear hS
  clear hV
  go_wp2
  go_ret
  exact ⟨w.heap.size + 1, S, rfl, by omega, HS3.out, hL, HB3.out⟩

end Go.Proofs.YtfbpcdmpkbjifaaDoor
