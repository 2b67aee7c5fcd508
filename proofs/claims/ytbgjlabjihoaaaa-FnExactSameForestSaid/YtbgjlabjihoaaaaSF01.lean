/- What it means that a slice in memory reads as a list of numbers, or as a list of rules, and that this is kept while only newer memory is written. No condition. -/
import Derived.WalkKit
import Derived.WalkSpells
import Derived.WalkLawsBesides
import Derived.Handy
import Derived.Lib.Hide
import Derived.Test.YtbgjlabjihoaaaaRows
import Derived.BigQuiet
import Derived.Deep.QuietTactic
import Derived.Deep.RegionWith
import Derived.StillTailTactics
import Derived.Lib.QuietBelow
import Derived.ProofKit
import Derived.OpenShut
import Derived.Deep.Slices
import Derived.Lib.SmallJoins
import Derived.OpenVars
import Derived.LaidMore
import Derived.Stop.Joined
import Derived.SevenTiedAt

namespace Go.Proofs.Ytbgjlabjihoaaaa
open Go.RowKit

/-- A rule as it lies in memory: its left number, and its right slice: where it lies, what it reads as, its capacity. -/
structure Ru where
  l : Int
  a : Option Addr
  r : List Int
  c : Nat

/-- The cells from A on read as the numbers xs, below block B. -/
def Ints (w : World) (B : Nat) (A : Option Addr) (xs : List Int) : Prop :=
  0 < xs.length → ∃ b o, A = some ⟨b, o, none⟩ ∧ b < B ∧ ∀ k x, xs[k]? = some x → w.cell? ⟨b, o + k, none⟩ = some (.int .i64 x)

/-- The cells from A on read as the rules rs, below block B. -/
def Rls (w : World) (B : Nat) (A : Option Addr) (rs : List Ru) : Prop :=
  0 < rs.length → ∃ b o, A = some ⟨b, o, none⟩ ∧ b < B ∧ ∀ k u, rs[k]? = some u →
    w.cell? ⟨b, o + k * 2, none⟩ = some (.int .i64 u.l) ∧ w.cell? ⟨b, o + k * 2 + 1, none⟩ = some (.slice u.a u.r.length u.c) ∧ Ints w B u.a u.r

theorem Ints.keep {w w' : World} {B : Nat} {A : Option Addr} {xs : List Int} (h : Ints w B A xs) (hk : Below B w w') : Ints w' B A xs := by
  intro hn
  obtain ⟨b, o, e, hb, hc⟩ := h hn
  exact ⟨b, o, e, hb, fun k x hx => (hk.cell (p := ⟨b, o + k, none⟩) hb).trans (hc k x hx)⟩

theorem Ints.more {w : World} {B B' : Nat} {A : Option Addr} {xs : List Int} (h : Ints w B A xs) (hB : B ≤ B') : Ints w B' A xs := by
  intro hn
  obtain ⟨b, o, e, hb, hc⟩ := h hn
  exact ⟨b, o, e, by omega, hc⟩

theorem Rls.keep {w w' : World} {B : Nat} {A : Option Addr} {rs : List Ru} (h : Rls w B A rs) (hk : Below B w w') : Rls w' B A rs := by
  intro hn
  obtain ⟨b, o, e, hb, hc⟩ := h hn
  refine ⟨b, o, e, hb, fun k u hu => ?_⟩
  obtain ⟨h1, h2, h3⟩ := hc k u hu
  exact ⟨(hk.cell (p := ⟨b, o + k * 2, none⟩) hb).trans h1, (hk.cell (p := ⟨b, o + k * 2 + 1, none⟩) hb).trans h2, h3.keep hk⟩

theorem Rls.more {w : World} {B B' : Nat} {A : Option Addr} {rs : List Ru} (h : Rls w B A rs) (hB : B ≤ B') : Rls w B' A rs := by
  intro hn
  obtain ⟨b, o, e, hb, hc⟩ := h hn
  refine ⟨b, o, e, by omega, fun k u hu => ?_⟩
  obtain ⟨h1, h2, h3⟩ := hc k u hu
  exact ⟨h1, h2, h3.more hB⟩

theorem Ints.at_ {w : World} {B : Nat} {A : Option Addr} {xs : List Int} (h : Ints w B A xs) {k : Nat} (hk : k < xs.length) :
    ∃ b o, A = some ⟨b, o, none⟩ ∧ b < B ∧ w.cell? ⟨b, o + k, none⟩ = some (.int .i64 xs[k]) := by
  obtain ⟨b, o, e, hb, hc⟩ := h (by omega)
  exact ⟨b, o, e, hb, hc k _ (List.getElem?_eq_getElem hk)⟩

theorem Rls.at_ {w : World} {B : Nat} {A : Option Addr} {rs : List Ru} (h : Rls w B A rs) {k : Nat} (hk : k < rs.length) :
    ∃ b o, A = some ⟨b, o, none⟩ ∧ b < B ∧ w.cell? ⟨b, o + k * 2, none⟩ = some (.int .i64 rs[k].l) ∧ w.cell? ⟨b, o + k * 2 + 1, none⟩ = some (.slice rs[k].a rs[k].r.length rs[k].c) ∧ Ints w B rs[k].a rs[k].r := by
  obtain ⟨b, o, e, hb, hc⟩ := h (by omega)
  exact ⟨b, o, e, hb, hc k _ (List.getElem?_eq_getElem hk)⟩

theorem Rls.take {w : World} {B : Nat} {A : Option Addr} {rs : List Ru} (h : Rls w B A rs) (m : Nat) : Rls w B A (rs.take m) := by
  intro hn
  obtain ⟨b, o, e, hb, hc⟩ := h (by rw [List.length_take] at hn; omega)
  refine ⟨b, o, e, hb, fun k u hu => hc k u ?_⟩
  rw [List.getElem?_take] at hu
  split at hu
  · exact hu
  · cases hu

/-- Block g is a row of the cells cs of type t, none of them frozen. -/
def Row (w : World) (g : Nat) (t : TypeId) (cs : Array Value) : Prop := w.heap[g]? = some (.cells cs t (0, 0))

theorem Row.lt {w : World} {g : Nat} {t : TypeId} {cs : Array Value} (h : Row w g t cs) : g < w.heap.size := by
  by_cases hg : g < w.heap.size
  · exact hg
  · unfold Row at h; rw [Array.getElem?_eq_none (by omega)] at h; cases h

theorem Row.cell {w : World} {g : Nat} {t : TypeId} {cs : Array Value} (h : Row w g t cs) (i : Nat) : w.cell? ⟨g, i, none⟩ = cs[i]? := cell_of_row w g i cs t (0, 0) h

theorem Row.frozen {w : World} {g : Nat} {t : TypeId} {cs : Array Value} (h : Row w g t cs) (i : Nat) : w.frozen? ⟨g, i, none⟩ = false := by
  unfold Row at h
  simp [World.frozen?, h]

theorem Row.new (w : World) (t : TypeId) (cs : Array Value) : Row (w.alloc (.cells cs t)) w.heap.size t cs := heap_alloc_new w _

theorem Row.alloc {w : World} {g : Nat} {t : TypeId} {cs : Array Value} (h : Row w g t cs) (o : Obj) : Row (w.alloc o) g t cs := (Below.heap_alloc w o g h.lt).trans h

theorem Row.set {w : World} {g : Nat} {t : TypeId} {cs : Array Value} (h : Row w g t cs) (i : Nat) (u : Value) : Row (w.setCell ⟨g, i, none⟩ u) g t (cs.setIfInBounds i u) := by
  unfold Row at h ⊢
  simp [World.setCell, Array.getElem?_modify, h]

theorem Row.far {w : World} {g : Nat} {t : TypeId} {cs : Array Value} (h : Row w g t cs) {p : Addr} (hp : g ≠ p.block) (u : Value) : Row (w.setCell p u) g t cs := (Below.heap_setCell w p u g hp).trans h

theorem Row.below {w w' : World} {g B : Nat} {t : TypeId} {cs : Array Value} (h : Row w g t cs) (hb : Below B w w') (hg : g < B) : Row w' g t cs := (hb.block g hg).trans h

theorem Row.ne {w : World} {g g' : Nat} {t t' : TypeId} {cs cs' : Array Value} (h : Row w g t cs) (h' : Row w g' t' cs') (hne : t ≠ t') : g ≠ g' := by
  intro e
  subst e
  unfold Row at h h'
  rw [h] at h'
  injection h' with h'
  injection h' with _ ht
  exact hne ht

/-- The slice that begins at A is the call's own (its block is not below lo) and reads as xs. -/
def OwnI (w : World) (lo : Nat) (A : Option Addr) (xs : List Int) : Prop :=
  xs = [] ∨ ∃ (g : Nat) (cs : Array Value), A = some ⟨g, 0, none⟩ ∧ lo ≤ g ∧ Row w g 3 cs ∧ ∀ (k : Nat) (x : Int), xs[k]? = some x → cs[k]? = some (.int .i64 x)

theorem OwnI.ints {w : World} {lo : Nat} {A : Option Addr} {xs : List Int} (h : OwnI w lo A xs) : Ints w w.heap.size A xs := by
  intro hn
  rcases h with rfl | ⟨g, cs, rfl, _, hr, hc⟩
  · simp at hn
  · exact ⟨g, 0, rfl, hr.lt, fun k x hx => by rw [hr.cell, Nat.zero_add]; exact hc k x hx⟩

theorem OwnI.below {w w' : World} {lo B : Nat} {A : Option Addr} {xs : List Int} (h : OwnI w lo A xs) (hb : Below B w w') (hB : w.heap.size ≤ B) : OwnI w' lo A xs := by
  rcases h with h | ⟨g, cs, e, hl, hr, hc⟩
  · exact .inl h
  · exact .inr ⟨g, cs, e, hl, hr.below hb (by have := hr.lt; omega), hc⟩

/-- What a rule says, wherever it lies. -/
def Ru.abs (u : Ru) : Int × List Int := (u.l, u.r)

theorem OwnI.lower {w : World} {lo lo' : Nat} {A : Option Addr} {xs : List Int} (h : OwnI w lo A xs) (hl : lo' ≤ lo) : OwnI w lo' A xs := by
  rcases h with h | ⟨g, cs, e, h1, hr, hc⟩
  · exact .inl h
  · exact .inr ⟨g, cs, e, by omega, hr, hc⟩

theorem OwnI.low {w : World} {lo : Nat} {A : Option Addr} {xs : List Int} (h : OwnI w lo A xs) {p : Addr} (hp : p.block < lo) (u : Value) : OwnI (w.setCell p u) lo A xs := by
  rcases h with h | ⟨g, cs, e, hl, hr, hc⟩
  · exact .inl h
  · exact .inr ⟨g, cs, e, hl, hr.far (by omega) u, hc⟩

end Go.Proofs.Ytbgjlabjihoaaaa

/- Plain mathematics of chapter 1: what a good grammar is. No program, no memory. -/

namespace Go.Proofs.Ytbgjlabjihoaaaa

def nonB (n x : Int) : Bool := decide (0 ≤ x ∧ x < n)
theorem nonB_t {n x : Int} (h : 0 ≤ x) (h' : x < n) : nonB n x = true := decide_eq_true ⟨h, h'⟩
theorem nonB_f {n x : Int} (h : x < 0 ∨ n ≤ x) : nonB n x = false := decide_eq_false (by omega)
theorem nonB_is {n x : Int} (h : nonB n x = true) : 0 ≤ x ∧ x < n := of_decide_eq_true h
theorem nonB_no {n x : Int} (h : nonB n x = false) : x < 0 ∨ n ≤ x := by have := of_decide_eq_false h; omega

def symB (n t x : Int) : Bool := decide ((0 ≤ x ∧ x < n) ∨ (0 ≤ -1 - x ∧ -1 - x < t))
theorem symB_non {n t x : Int} (h : nonB n x = true) : symB n t x = true := decide_eq_true (.inl (nonB_is h))
theorem symB_tok {n t x : Int} (h : nonB n x = false) : symB n t x = nonB t (-1 - x) := by
  have := nonB_no h
  unfold symB nonB
  rw [Bool.eq_iff_iff]
  simp only [decide_eq_true_eq]
  omega

/-- All numbers of a right side are symbols. -/
def symsB (n t : Int) (xs : List Int) : Bool := xs.all fun x => symB n t x
theorem symsB_iff {n t : Int} {xs : List Int} : symsB n t xs = true ↔ ∀ (k : Nat) (x : Int), xs[k]? = some x → symB n t x = true := by
  unfold symsB
  rw [List.all_eq_true]
  constructor
  · intro h k x hx
    exact h x (List.mem_of_getElem? hx)
  · intro h x hx
    obtain ⟨k, hk⟩ := List.mem_iff_getElem?.1 hx
    exact h k x hk
theorem symsB_not {n t : Int} {xs : List Int} {k : Nat} (hk : k < xs.length) (h : symB n t xs[k] = false) : symsB n t xs = false := by
  cases e : symsB n t xs
  · rfl
  · rw [symsB_iff.1 e k _ (List.getElem?_eq_getElem hk)] at h; cases h
theorem symsB_of {n t : Int} {xs : List Int} {k : Nat} (hk : ¬ k < xs.length) (h : ∀ (j : Nat) (x : Int), j < k → xs[j]? = some x → symB n t x = true) : symsB n t xs = true :=
  symsB_iff.2 fun j x hx => h j x (by have := (List.getElem?_eq_some_iff.1 hx).1; omega) hx
theorem syms_step {n t : Int} {xs : List Int} {k : Nat} (hk : k < xs.length) (h : symB n t xs[k] = true) (H : ∀ (j : Nat) (x : Int), j < k → xs[j]? = some x → symB n t x = true) :
    ∀ (j : Nat) (x : Int), j < k + 1 → xs[j]? = some x → symB n t x = true := by
  intro j x hj hx
  by_cases e : j = k
  · subst e; rw [List.getElem?_eq_getElem hk] at hx; injection hx with hx; subst hx; exact h
  · exact H j x (by omega) hx

/-- A rule is good. -/
def goodU (n t : Int) (u : Int × List Int) : Bool := nonB n u.1 && (decide (u.2.length ≤ 4) && symsB n t u.2)
theorem goodU_left {n t l : Int} {xs : List Int} (h : nonB n l = false) : goodU n t (l, xs) = false := by unfold goodU; rw [h]; rfl
theorem goodU_long {n t l : Int} {xs : List Int} (h : ¬ xs.length ≤ 4) : goodU n t (l, xs) = false := by unfold goodU; rw [decide_eq_false h]; cases nonB n l <;> rfl
theorem goodU_syms {n t l : Int} {xs : List Int} (h : nonB n l = true) (h' : xs.length ≤ 4) : goodU n t (l, xs) = symsB n t xs := by unfold goodU; rw [h, decide_eq_true h']; rfl

def hasU (rs : List (Int × List Int)) (u : Int × List Int) : Bool := decide (u ∈ rs)

/-- The first k rules are good, and none of them stands ahead of itself. -/
def goodTo (n t : Int) (rs : List (Int × List Int)) (k : Nat) : Prop := ∀ (j : Nat) (u : Int × List Int), j < k → rs[j]? = some u → goodU n t u = true ∧ hasU (rs.take j) u = false

def goodAll (n t : Int) (rs : List (Int × List Int)) : Bool := (List.range rs.length).all fun j => goodU n t (rs.getD j (0, [])) && !hasU (rs.take j) (rs.getD j (0, []))
theorem goodAll_iff {n t : Int} {rs : List (Int × List Int)} : goodAll n t rs = true ↔ goodTo n t rs rs.length := by
  unfold goodAll goodTo
  rw [List.all_eq_true]
  constructor
  · intro h j u hj hu
    have := h j (List.mem_range.2 hj)
    rw [List.getD_eq_getElem?_getD, hu] at this
    simpa using this
  · intro h j hj
    have hj := List.mem_range.1 hj
    have := h j _ hj (List.getElem?_eq_getElem hj)
    rw [List.getD_eq_getElem?_getD, List.getElem?_eq_getElem hj]
    simpa using this

/-- A grammar is good. -/
def goodG (n t : Int) (rs : List (Int × List Int)) : Bool := decide (1 ≤ n ∧ n ≤ 6) && (decide (1 ≤ t ∧ t ≤ 4) && (decide (rs.length ≤ 16) && goodAll n t rs))
theorem goodG_n {n t : Int} {rs : List (Int × List Int)} (h : ¬ (1 ≤ n ∧ n ≤ 6)) : goodG n t rs = false := by unfold goodG; rw [decide_eq_false h]; rfl
theorem goodG_t {n t : Int} {rs : List (Int × List Int)} (h : ¬ (1 ≤ t ∧ t ≤ 4)) : goodG n t rs = false := by unfold goodG; rw [decide_eq_false h]; cases decide (1 ≤ n ∧ n ≤ 6) <;> rfl
theorem goodG_len {n t : Int} {rs : List (Int × List Int)} (h : ¬ rs.length ≤ 16) : goodG n t rs = false := by unfold goodG; rw [decide_eq_false h]; cases decide (1 ≤ n ∧ n ≤ 6) <;> cases decide (1 ≤ t ∧ t ≤ 4) <;> rfl
theorem goodG_all {n t : Int} {rs : List (Int × List Int)} (h : 1 ≤ n ∧ n ≤ 6) (h' : 1 ≤ t ∧ t ≤ 4) (hl : rs.length ≤ 16) : goodG n t rs = goodAll n t rs := by
  unfold goodG; rw [decide_eq_true h, decide_eq_true h', decide_eq_true hl]; rfl
theorem goodG_is {n t : Int} {rs : List (Int × List Int)} (h : goodG n t rs = true) : (1 ≤ n ∧ n ≤ 6) ∧ (1 ≤ t ∧ t ≤ 4) ∧ rs.length ≤ 16 ∧ goodTo n t rs rs.length := by
  unfold goodG at h
  simp only [Bool.and_eq_true, decide_eq_true_eq] at h
  exact ⟨h.1, h.2.1, h.2.2.1, goodAll_iff.1 h.2.2.2⟩
theorem goodAll_bad {n t : Int} {rs : List (Int × List Int)} {k : Nat} (hk : k < rs.length) (h : goodU n t rs[k] = false ∨ hasU (rs.take k) rs[k] = true) : goodAll n t rs = false := by
  cases e : goodAll n t rs
  · rfl
  · have := goodAll_iff.1 e k _ hk (List.getElem?_eq_getElem hk)
    rcases h with h | h
    · rw [this.1] at h; cases h
    · rw [this.2] at h; cases h
theorem goodTo_step {n t : Int} {rs : List (Int × List Int)} {k : Nat} (hk : k < rs.length) (h1 : goodU n t rs[k] = true) (h2 : hasU (rs.take k) rs[k] = false) (H : goodTo n t rs k) : goodTo n t rs (k + 1) := by
  intro j u hj hu
  by_cases e : j = k
  · subst e; rw [List.getElem?_eq_getElem hk] at hu; injection hu with hu; subst hu; exact ⟨h1, h2⟩
  · exact H j u (by omega) hu
theorem goodAll_of {n t : Int} {rs : List (Int × List Int)} {k : Nat} (hk : ¬ k < rs.length) (H : goodTo n t rs k) : goodAll n t rs = true :=
  goodAll_iff.2 fun j u hj hu => H j u (by omega) hu

end Go.Proofs.Ytbgjlabjihoaaaa

/- The table of limits, and what a count within a limit is. -/

namespace Go.Proofs.Ytbgjlabjihoaaaa
open Go.RowKit

/-- The numbers of the package's table of limits. -/
def limL : List Int := [1, 6, 1, 4, 0, 16, 0, 4, 0, 10, 1, 40, 1, 4, 0, 200]

def inB (lo hi n : Int) : Bool := decide (lo ≤ n ∧ n ≤ hi)
theorem inB_t {lo hi n : Int} (h1 : lo ≤ n) (h2 : n ≤ hi) : inB lo hi n = true := decide_eq_true ⟨h1, h2⟩
theorem inB_f {lo hi n : Int} (h : n < lo ∨ hi < n) : inB lo hi n = false := decide_eq_false (by omega)
theorem inB_lo {lo hi n : Int} (h : inB lo hi n = true) : lo ≤ n := (of_decide_eq_true h).1
theorem inB_hi {lo hi n : Int} (h : inB lo hi n = true) : n ≤ hi := (of_decide_eq_true h).2
theorem inB_no {lo hi n : Int} (h : inB lo hi n = false) : n < lo ∨ hi < n := by have := of_decide_eq_false h; omega
theorem ret_b {a b : Bool} (h : a = b) : Ending.returned (.bool a) = .returned (.bool b) := by rw [h]

end Go.Proofs.Ytbgjlabjihoaaaa

/- What the laws' comparisons answer. -/

namespace Go.Proofs.Ytbgjlabjihoaaaa
open Go.RowKit

theorem ret_bool {a b : Bool} (h : a = b) : Ending.returned (.bool a) = .returned (.bool b) := by rw [h]
theorem bne_t {a b : Int} (h : a ≠ b) : (a != b) = true := by simpa using h
theorem bne_f {a b : Int} (h : a = b) : (a != b) = false := by simpa using h
theorem beq_t {a b : Int} (h : a = b) : (a == b) = true := by simpa using h
theorem beq_f {a b : Int} (h : a ≠ b) : (a == b) = false := by simpa using h

def eqL (xs ys : List Int) : Bool := decide (xs = ys)
theorem eqL_t {xs ys : List Int} (h : xs = ys) : eqL xs ys = true := decide_eq_true h
theorem eqL_f {xs ys : List Int} (h : xs ≠ ys) : eqL xs ys = false := decide_eq_false h
theorem eqL_of {xs ys : List Int} {k : Nat} (hl : xs.length = ys.length) (hk : ¬ k < xs.length) (h : ∀ j : Nat, j < k → xs[j]? = ys[j]?) : eqL xs ys = true := by
  refine eqL_t (List.ext_getElem? fun j => ?_)
  by_cases hj : j < k
  · exact h j hj
  · rw [List.getElem?_eq_none (by omega), List.getElem?_eq_none (by omega)]
theorem eqL_not {xs ys : List Int} {k : Nat} (hx : k < xs.length) (hy : k < ys.length) (h : xs[k] ≠ ys[k]) : eqL xs ys = false := by
  refine eqL_f fun e => h ?_
  subst e; rfl

theorem step_eq {xs ys : List Int} {k : Nat} (hx : k < xs.length) (hy : k < ys.length) (he : xs[k] = ys[k]) (h : ∀ j : Nat, j < k → xs[j]? = ys[j]?) : ∀ j : Nat, j < k + 1 → xs[j]? = ys[j]? := by
  intro j hj
  by_cases e : j = k
  · subst e; rw [List.getElem?_eq_getElem hx, List.getElem?_eq_getElem hy, he]
  · exact h j (by omega)

set_option maxHeartbeats 400000 in
theorem eqIntS_any (A A' : Option Addr) (xs ys : List Int) (c c' : Nat) (w : World) (hx : Ints w w.heap.size A xs) (hy : Ints w w.heap.size A' ys) (h1 : xs.length ≤ 1048576) :
    Calls Try.prog 27 #[.slice A xs.length c, .slice A' ys.length c'] w fun e w' => e = .returned (.bool (eqL xs ys)) ∧ Below w.heap.size w w' := by
  have HX := Lib.hid hx; clear hx
  have HY := Lib.hid hy; clear hy
  by_cases hl : xs.length = ys.length
  · have hd : ((xs.length : Int) != (ys.length : Int)) = false := bne_f (by omega)
    have hlen : xs.length ≤ ys.length := by omega
    have hlen' : ys.length ≤ xs.length := by omega
    have HL := Lib.hid hl; clear hl
    go_enter Try.func27, Try.ntmps27
    go_wp2
    go_loopw [5] (fun i wr => ∃ (k : Nat), k ≤ xs.length ∧ i = .int .i64 k ∧ Below w.heap.size w wr ∧ Hid (∀ j : Nat, j < k → xs[j]? = ys[j]?)) (fun i _ => xs.length - (intOf i).toNat)
    case atStart => exact ⟨0, by omega, rfl, Below.refl _ _, fun j h => absurd h (by omega)⟩
    case round =>
      obtain ⟨k, hk, rfl, hB, H⟩ := hrel
      by_cases hlt : k < xs.length
      · have hlt' : k < ys.length := by omega
        obtain ⟨b, o, rfl, hb, c1⟩ := (HX.out.keep hB).at_ hlt
        obtain ⟨b', o', rfl, hb', c2⟩ := (HY.out.keep hB).at_ hlt'
        by_cases hne : xs[k] = ys[k]
        · have ht := bne_f hne
          have HE := Lib.hid hne; clear hne
          go_wp2
          go_quiet (fail)
          go_wp2
          go_roundw
          case rel => exact ⟨k + 1, by omega, by go_num, below_drewN hB _, step_eq hlt hlt' HE.out H.out⟩
          case measure => simp [intOf]; omega
        · have ht := bne_t hne
          have HE : Hid (eqL xs ys = false) := eqL_not hlt hlt' hne
          clear hne
          go_wp2
          go_quiet (fail)
          go_wp2
          go_ret
          exact ⟨ret_bool HE.out.symm, below_drewN hB _⟩
      · have HE : Hid (eqL xs ys = true) := eqL_of HL.out hlt H.out
        go_wp2
        go_ret
        exact ⟨ret_bool HE.out.symm, hB⟩
  · have hd : ((xs.length : Int) != (ys.length : Int)) = true := bne_t (by omega)
    have HE : Hid (eqL xs ys = false) := eqL_f fun e => hl (by rw [e])
    clear hl
    go_enter Try.func27, Try.ntmps27
    go_wp2
    go_ret
    exact ⟨ret_bool HE.out.symm, Below.refl _ _⟩

def eqU (u v : Int × List Int) : Bool := decide (u = v)
theorem eqU_t {u v : Int × List Int} (h : u = v) : eqU u v = true := decide_eq_true h
theorem eqU_f {u v : Int × List Int} (h : u ≠ v) : eqU u v = false := decide_eq_false h

def eqRs (rs ss : List (Int × List Int)) : Bool := decide (rs = ss)
theorem eqRs_t {u v : List (Int × List Int)} (h : u = v) : eqRs u v = true := decide_eq_true h
theorem eqRs_f {u v : List (Int × List Int)} (h : u ≠ v) : eqRs u v = false := decide_eq_false h

theorem step_eqR {rs ss : List Ru} {k : Nat} (hx : k < rs.length) (hy : k < ss.length) (he : eqU rs[k].abs ss[k].abs = true) (h : ∀ j : Nat, j < k → (rs.map Ru.abs)[j]? = (ss.map Ru.abs)[j]?) :
    ∀ j : Nat, j < k + 1 → (rs.map Ru.abs)[j]? = (ss.map Ru.abs)[j]? := by
  intro j hj
  by_cases e : j = k
  · subst e; rw [List.getElem?_map, List.getElem?_map, List.getElem?_eq_getElem hx, List.getElem?_eq_getElem hy]; simp [of_decide_eq_true he]
  · exact h j (by omega)
theorem eqRs_of {rs ss : List Ru} {k : Nat} (hl : rs.length = ss.length) (hk : ¬ k < rs.length) (h : ∀ j : Nat, j < k → (rs.map Ru.abs)[j]? = (ss.map Ru.abs)[j]?) : eqRs (rs.map Ru.abs) (ss.map Ru.abs) = true := by
  refine eqRs_t (List.ext_getElem? fun j => ?_)
  by_cases hj : j < k
  · exact h j hj
  · rw [List.getElem?_eq_none (by simp; omega), List.getElem?_eq_none (by simp; omega)]
theorem eqRs_not {rs ss : List Ru} {k : Nat} (hx : k < rs.length) (hy : k < ss.length) (h : eqU rs[k].abs ss[k].abs = false) : eqRs (rs.map Ru.abs) (ss.map Ru.abs) = false := by
  refine eqRs_f fun e => ?_
  have e' := congrArg (fun l => l[k]?) e
  simp [List.getElem?_eq_getElem hx, List.getElem?_eq_getElem hy] at e'
  rw [eqU_t e'] at h
  cases h

/-- What a grammar says. -/
def eqG (n t : Int) (rs : List (Int × List Int)) (n' t' : Int) (ss : List (Int × List Int)) : Bool := decide (n = n' ∧ t = t' ∧ rs = ss)

end Go.Proofs.Ytbgjlabjihoaaaa

/- What the program's checks of chapter 1 answer. -/

namespace Go.Proofs.Ytbgjlabjihoaaaa
open Go.RowKit

set_option maxHeartbeats 400000 in
theorem equal_any (A A' : Option Addr) (xs ys : List Int) (c c' : Nat) (w : World) (hx : Ints w w.heap.size A xs) (hy : Ints w w.heap.size A' ys) (h1 : xs.length ≤ 1048576) :
    Calls Try.prog 22 #[.slice A xs.length c, .slice A' ys.length c'] w fun e w' => e = .returned (.bool (eqL xs ys)) ∧ Below w.heap.size w w' := by
  have HX := Lib.hid hx; clear hx
  have HY := Lib.hid hy; clear hy
  by_cases hl : xs.length = ys.length
  · have hd : ((xs.length : Int) != (ys.length : Int)) = false := bne_f (by omega)
    have hlen : xs.length ≤ ys.length := by omega
    have hlen' : ys.length ≤ xs.length := by omega
    have HL := Lib.hid hl; clear hl
    go_enter Try.func22, Try.ntmps22
    go_wp2
    go_loopw [13] (fun i wr => ∃ (k : Nat), k ≤ xs.length ∧ i = .int .i64 k ∧ Below w.heap.size w wr ∧ Hid (∀ j : Nat, j < k → xs[j]? = ys[j]?)) (fun i _ => xs.length - (intOf i).toNat)
    case atStart => exact ⟨0, by omega, rfl, Below.refl _ _, fun j h => absurd h (by omega)⟩
    case round =>
      obtain ⟨k, hk, rfl, hB, H⟩ := hrel
      by_cases hlt : k < xs.length
      · have hlt' : k < ys.length := by omega
        obtain ⟨b, o, rfl, hb, c1⟩ := (HX.out.keep hB).at_ hlt
        obtain ⟨b', o', rfl, hb', c2⟩ := (HY.out.keep hB).at_ hlt'
        by_cases hne : xs[k] = ys[k]
        · have ht := bne_f hne
          have HE := Lib.hid hne; clear hne
          go_wp2
          go_quiet (fail)
          go_wp2
          go_roundw
          case rel => exact ⟨k + 1, by omega, by go_num, below_drewN hB _, step_eq hlt hlt' HE.out H.out⟩
          case measure => simp [intOf]; omega
        · have ht := bne_t hne
          have HE : Hid (eqL xs ys = false) := eqL_not hlt hlt' hne
          clear hne
          go_wp2
          go_quiet (fail)
          go_wp2
          go_ret
          exact ⟨ret_bool HE.out.symm, below_drewN hB _⟩
      · have HE : Hid (eqL xs ys = true) := eqL_of HL.out hlt H.out
        go_wp2
        go_ret
        exact ⟨ret_bool HE.out.symm, hB⟩
  · have hd : ((xs.length : Int) != (ys.length : Int)) = true := bne_t (by omega)
    have HE : Hid (eqL xs ys = false) := eqL_f fun e => hl (by rw [e])
    clear hl
    go_enter Try.func22, Try.ntmps22
    go_wp2
    go_ret
    exact ⟨ret_bool HE.out.symm, Below.refl _ _⟩

theorem hasU_step {rs : List Ru} {k : Nat} {u : Int × List Int} (hk : k < rs.length) (h : eqU rs[k].abs u = false) (H : ∀ j : Nat, j < k → (rs.map Ru.abs)[j]? ≠ some u) : ∀ j : Nat, j < k + 1 → (rs.map Ru.abs)[j]? ≠ some u := by
  intro j hj
  by_cases e : j = k
  · subst e
    rw [List.getElem?_map, List.getElem?_eq_getElem hk]
    intro h'
    rw [eqU_t (by simpa using h')] at h
    cases h
  · exact H j (by omega)
theorem hasU_t {rs : List Ru} {k : Nat} {u : Int × List Int} (hk : k < rs.length) (h : eqU rs[k].abs u = true) : hasU (rs.map Ru.abs) u = true :=
  decide_eq_true (by rw [← of_decide_eq_true h]; exact List.mem_map.2 ⟨_, List.getElem_mem hk, rfl⟩)
theorem hasU_f {rs : List Ru} {k : Nat} {u : Int × List Int} (hk : ¬ k < rs.length) (H : ∀ j : Nat, j < k → (rs.map Ru.abs)[j]? ≠ some u) : hasU (rs.map Ru.abs) u = false :=
  decide_eq_false fun h => by
    obtain ⟨j, hj⟩ := List.mem_iff_getElem?.1 h
    have := (List.getElem?_eq_some_iff.1 hj).1
    simp at this
    exact H j (by omega) hj

end Go.Proofs.Ytbgjlabjihoaaaa

/- What the program's checks of rules and grammars answer. -/

namespace Go.Proofs.Ytbgjlabjihoaaaa
open Go.RowKit

/-- The number is one that an int can hold. -/
def F64 (x : Int) : Prop := -9223372036854775808 ≤ x ∧ x ≤ 9223372036854775807

/-- The cells of a box that stay while only newer memory is written. -/
def Box3 (w : World) (g : Nat) (a b c : Value) : Prop := g < w.heap.size ∧ w.cell? ⟨g, 0, none⟩ = some a ∧ w.cell? ⟨g, 1, none⟩ = some b ∧ w.cell? ⟨g, 2, none⟩ = some c
def Box2 (w : World) (g : Nat) (a b : Value) : Prop := g < w.heap.size ∧ w.cell? ⟨g, 0, none⟩ = some a ∧ w.cell? ⟨g, 1, none⟩ = some b

theorem Box3.keep {w w' : World} {g B : Nat} {a b c : Value} (h : Box3 w g a b c) (hb : Below B w w') (hB : g < B) : Box3 w' g a b c :=
  ⟨by have := hb.size; have := h.1; omega, (hb.cell (p := ⟨g, 0, none⟩) hB).trans h.2.1, (hb.cell (p := ⟨g, 1, none⟩) hB).trans h.2.2.1, (hb.cell (p := ⟨g, 2, none⟩) hB).trans h.2.2.2⟩
theorem Box2.keep {w w' : World} {g B : Nat} {a b : Value} (h : Box2 w g a b) (hb : Below B w w') (hB : g < B) : Box2 w' g a b :=
  ⟨by have := hb.size; have := h.1; omega, (hb.cell (p := ⟨g, 0, none⟩) hB).trans h.2.1, (hb.cell (p := ⟨g, 1, none⟩) hB).trans h.2.2⟩

/-- A right side that is good. -/
def rightB (n t : Int) (xs : List Int) : Bool := decide (xs.length ≤ 4) && symsB n t xs
end Go.Proofs.Ytbgjlabjihoaaaa

/- What the program's GoodGrammar answers. -/

namespace Go.Proofs.Ytbgjlabjihoaaaa
open Go.RowKit
open Go.Sort (grow)

/-- All numbers of the right sides are ones that an int can hold. -/
def FitR (rs : List Ru) : Prop := ∀ u ∈ rs, ∀ x ∈ u.r, F64 x

theorem inB_not {lo hi n : Int} (h : inB lo hi n = false) : ¬ (lo ≤ n ∧ n ≤ hi) := by have := inB_no h; omega
theorem inB_and {lo hi n : Int} (h : inB lo hi n = true) : lo ≤ n ∧ n ≤ hi := ⟨inB_lo h, inB_hi h⟩

end Go.Proofs.Ytbgjlabjihoaaaa

/- From the reading of an argument to its cells: a slice of numbers, a grammar. -/

namespace Go.Proofs.Ytbgjlabjihoaaaa
open Go.ChangeShapes Go.WideShapes Go.ChangeAt Go.RowKit Go.Deep Go.Joins

theorem Try.cellsInt : Try.prog.cellsOf 3 = 1 := by kernel_rfl
theorem Try.cellsIntS : Try.prog.cellsOf 38 = 1 := by kernel_rfl
theorem lt_of_cell {w : World} {b o : Nat} {v : Value} (h : w.cell? ⟨b, o, none⟩ = some v) : b < w.heap.size := by
  by_cases hg : b < w.heap.size
  · exact hg
  · simp only [World.cell?] at h
    rw [Array.getElem?_eq_none (by omega)] at h
    cases h

section
variable {H : Type} {enc : TypeId × Value → H} {W : World} {spare : Nat → Bool} {held : Bool}

theorem open_intS {fuel : Nat} {v : Value} {y : DataW H × List MemPlace} (h : DataW.trod enc Try.prog W 0 spare held fuel 38 [v] = some y) :
    ∃ (A : Option Addr) (xs : List Int) (c : Nat), v = .slice A xs.length c ∧ xs.length ≤ c ∧ Ints W W.heap.size A xs ∧ xs.length ≤ maxLen ∧ ∀ x ∈ xs, F64 x := by
  rcases open_ints Try.underlying38 Try.underlying3 Try.cellsInt h with ⟨hcs, _⟩ | ⟨a, len, cap, zs, hcs, _, hl, hm, hz, _, hcell, hwf⟩
  · injection hcs with hcs
    subst hcs
    exact ⟨none, [], 0, rfl, Nat.le_refl _, fun h => by simp at h, by simp [maxLen], fun x hx => by simp at hx⟩
  · injection hcs with hcs
    subst hcs
    have hlz : len ≤ zs.length := by rw [hz]; split <;> omega
    have hlen : (zs.take len).length = len := by rw [List.length_take]; omega
    refine ⟨some a, zs.take len, cap, by rw [hlen], by omega, fun hp => ?_, by omega, fun x hx => ?_⟩
    · obtain ⟨b, off, rfl, hc⟩ := ints_at hcell (by omega)
      refine ⟨b, off, rfl, lt_of_cell (hc 0 (by omega)), fun k x hx => ?_⟩
      have hk := (List.getElem?_eq_some_iff.1 hx).1
      rw [List.getElem?_take] at hx
      split at hx
      · rw [hc k (by omega), List.getD_eq_getElem?_getD, hx]; rfl
      · cases hx
    · have := hwf x (List.mem_of_mem_take hx)
      exact bounds_i64 this

instance : Inhabited Ru := ⟨⟨0, none, [], 0⟩⟩

end

end Go.Proofs.Ytbgjlabjihoaaaa

/- What the laws' size counters answer. -/

namespace Go.Proofs.Ytbgjlabjihoaaaa
open Go.RowKit

theorem ret_int {k : IntKind} {a b : Int} (h : a = b) : Ending.returned (.int k a) = .returned (.int k b) := by rw [h]

def szI (n : Nat) (L : Int) : Int := if L - n < 0 then -1 else L - n

theorem szI_le {n : Nat} {L : Int} (h0 : 0 ≤ L) : szI n L ≤ L ∧ -1 ≤ szI n L := by unfold szI; split <;> omega

/-- The rules' right sides, one after the other. -/
def szR : List Ru → Int → Int
  | [], L => L
  | u :: r, L => if szI u.r.length L < 0 then -1 else szR r (szI u.r.length L)

def szRs (rs : List Ru) (L : Int) : Int := if L - rs.length < 0 then -1 else szR rs (L - rs.length)

theorem szR_ge : ∀ (rs : List Ru) {L : Int}, 0 ≤ L → -1 ≤ szR rs L ∧ (0 ≤ szR rs L → szR rs L ≤ L ∧ ∀ u ∈ rs, (u.r.length : Int) ≤ L)
  | [], L, _h => by simp [szR]; omega
  | u :: r, L, _h => by
    simp only [szR]
    split
    · simp
    · rename_i hn
      have h1 : szI u.r.length L = L - u.r.length := by unfold szI at hn ⊢; split <;> simp_all
      have ih := szR_ge r (L := szI u.r.length L) (by omega)
      refine ⟨ih.1, fun hp => ?_⟩
      obtain ⟨a, b⟩ := ih.2 hp
      refine ⟨by omega, fun v hv => ?_⟩
      rcases List.mem_cons.1 hv with rfl | hv
      · omega
      · have := b v hv; omega

theorem szRs_ge (rs : List Ru) {L : Int} (_h : 0 ≤ L) : -1 ≤ szRs rs L := by
  unfold szRs; split
  · omega
  · exact (szR_ge rs (by omega)).1

/-- Where the count is not negative, the rules and each right side are no more than it began with. -/
theorem szRs_bound {rs : List Ru} {L : Int} (_h : 0 ≤ L) (hp : 0 ≤ szRs rs L) : (rs.length : Int) ≤ L ∧ ∀ u ∈ rs, (u.r.length : Int) ≤ L := by
  unfold szRs at hp
  split at hp
  · omega
  · obtain ⟨_, b⟩ := (szR_ge rs (L := L - rs.length) (by omega)).2 hp
    exact ⟨by omega, fun u hu => by have := b u hu; omega⟩

set_option maxHeartbeats 400000 in
theorem szIntS_any (A : Option Addr) (n c : Nat) (L : Int) (w : World) (hn : n ≤ maxLen) (h0 : 0 ≤ L) (h1 : L ≤ 1048576) :
    Calls Try.prog 25 #[.slice A n c, .int .i64 L] w fun e w' => e = .returned (.int .i64 (szI n L)) ∧ w = w' := by
  unfold maxLen at hn
  by_cases h : L - n < 0
  · have hs : Hid (szI n L = -1) := by show szI n L = -1; unfold szI; rw [if_pos h]
    go_enter Try.func25, Try.ntmps25
    go_wp2
    go_ret
    exact ⟨by rw [hs.out]; rfl, rfl⟩
  · have hs : Hid (szI n L = L - n) := by show szI n L = L - n; unfold szI; rw [if_neg h]
    go_enter Try.func25, Try.ntmps25
    go_wp2
    go_ret
    exact ⟨by rw [hs.out]; rfl, rfl⟩

theorem szR_drop {rs : List Ru} {k : Nat} (hk : k < rs.length) (L : Int) : szR (rs.drop k) L = if szI rs[k].r.length L < 0 then -1 else szR (rs.drop (k + 1)) (szI rs[k].r.length L) := by
  rw [List.drop_eq_getElem_cons hk]; rfl

end Go.Proofs.Ytbgjlabjihoaaaa

/- What the laws' copies make: new memory that reads as what was copied. -/

namespace Go.Proofs.Ytbgjlabjihoaaaa
open Go.RowKit

theorem Try.infoInt : (Try.prog.info? 3).map (fun i => (i.zero, i.size, i.bytes)) = some (some (.int .i64 0), 1, 8) := by kernel_rfl
def zI (n : Nat) : Array Value := madeCells #[.int .i64 0] n
def zR (n : Nat) : Array Value := madeCells #[.int .i64 0, .slice none 0 0] (n * 2)
theorem zI_size (n : Nat) : (zI n).size = n := size_madeCells _ _
theorem zR_size (n : Nat) : (zR n).size = n * 2 := size_madeCells _ _

theorem info_of {P : Program} {e : TypeId} {z : Value} {s b : Nat} (h : (P.info? e).map (fun i => (i.zero, i.size, i.bytes)) = some (some z, s, b)) :
    ∃ i, P.info? e = some i ∧ i.zero = some z ∧ i.size = s ∧ i.bytes = b := by
  cases hi : P.info? e with
  | none => rw [hi] at h; simp at h
  | some i => rw [hi] at h; simp at h; exact ⟨i, rfl, h.1, h.2.1, h.2.2⟩

theorem make_ints (n : Nat) (hn : n ≤ 1048576) (w : World) :
    (Instr.makeSlice 38 (.int .i64 (n : Int)) (.int .i64 (n : Int))).run Try.prog w = .ok (.slice (some ⟨w.heap.size, 0, none⟩) n n) (w.alloc (.cells (zI n) 3)) := by
  obtain ⟨i, hi, hz, hs, hb⟩ := info_of Try.infoInt
  have h := run_make (P := Try.prog) w 38 3 i _ Try.underlying38 hi hz .i64 .i64 n n (by omega) (by omega) (by rw [hb]; omega) (by omega)
  rw [hs] at h
  simpa [zI, Value.cells] using h

theorem copied_step {xs : List Int} {cs : Array Value} {k : Nat} (hlt : k < xs.length) (hs : cs.size = xs.length) (h : ∀ (j : Nat) (x : Int), j < k → xs[j]? = some x → cs[j]? = some (.int .i64 x)) :
    ∀ (j : Nat) (x : Int), j < k + 1 → xs[j]? = some x → (cs.setIfInBounds k (.int .i64 xs[k]))[j]? = some (.int .i64 x) := by
  intro j x hj hx
  rw [Array.getElem?_setIfInBounds]
  by_cases e : k = j
  · subst e
    rw [if_pos rfl, if_pos (by omega)]
    rw [List.getElem?_eq_getElem hlt] at hx
    simpa using hx
  · rw [if_neg e]
    exact h j x (by omega) hx

/-- A new slice of numbers that reads as xs; nothing older has turned. -/
def GaveI (w : World) (xs : List Int) (e : Ending) (w' : World) : Prop :=
  ∃ A c, e = .returned (.slice A xs.length c) ∧ xs.length ≤ c ∧ OwnI w' w.heap.size A xs ∧ Below w.heap.size w w'

set_option maxHeartbeats 400000 in
theorem toIntS_any (A : Option Addr) (xs : List Int) (c : Nat) (w : World) (hr : Ints w w.heap.size A xs) (hn : xs.length ≤ 1048576) :
    Calls Try.prog 26 #[.slice A xs.length c] w (GaveI w xs) := by
  have hmk := make_ints xs.length hn
  have HR := Lib.hid hr; clear hr
  go_enter Try.func26, Try.ntmps26
  go_wp2
  go_loopw [4] (fun i wr => ∃ (k : Nat) (cs : Array Value), k ≤ xs.length ∧ i = .int .i64 k ∧ Below w.heap.size w wr ∧ Hid (Row wr w.heap.size 3 cs ∧ cs.size = xs.length ∧ ∀ (j : Nat) (x : Int), j < k → xs[j]? = some x → cs[j]? = some (.int .i64 x))) (fun i _ => xs.length - (intOf i).toNat)
  case atStart => exact ⟨0, zI xs.length, by omega, rfl, (Below.refl _ _).alloc (Nat.le_refl _) _, Row.new _ _ _, zI_size _, fun j x h => absurd h (by omega)⟩
  case round =>
    obtain ⟨k, cs, hk, rfl, hB, H⟩ := hrel
    clear hmk
    by_cases hlt : k < xs.length
    · obtain ⟨b, o, rfl, hb, c1⟩ := (HR.out.keep hB).at_ hlt
      have c2 : wr.cell? ⟨w.heap.size, k, none⟩ = some (cs[k]'(by have := H.out.2.1; omega)) := by
        rw [H.out.1.cell, Array.getElem?_eq_getElem]
      have c3 := H.out.1.frozen k
      go_wp2
      go_roundw
      case rel => exact ⟨k + 1, cs.setIfInBounds k (.int .i64 xs[k]), by omega, by go_num, hB.setCell (Nat.le_refl _) _, H.out.1.set k _, by rw [Array.size_setIfInBounds]; exact H.out.2.1, copied_step hlt H.out.2.1 H.out.2.2⟩
      case measure => simp [intOf]; omega
    · go_wp2
      go_ret
      exact ⟨some ⟨w.heap.size, 0, none⟩, xs.length, rfl, Nat.le_refl _, .inr ⟨w.heap.size, cs, rfl, Nat.le_refl _, H.out.1, fun j x hj => H.out.2.2 j x (by have := (List.getElem?_eq_some_iff.1 hj).1; omega) hj⟩, hB⟩

/-- A rule's copy. -/
def GaveU (w : World) (l : Int) (xs : List Int) (e : Ending) (w' : World) : Prop :=
  ∃ A c, e = .returned (.agg #[.int .i64 l, .slice A xs.length c]) ∧ xs.length ≤ c ∧ OwnI w' w.heap.size A xs ∧ Below w.heap.size w w'

end Go.Proofs.Ytbgjlabjihoaaaa

/- What the reference's checks of chapter 1 answer. -/

namespace Go.Proofs.Ytbgjlabjihoaaaa
open Go.RowKit
open Go.Sort (grow)

theorem sym_in {n t x : Int} (hn : 1 ≤ n) (ht : 1 ≤ t) : inB (-t) (n - 1) x = symB n t x := by
  unfold inB symB
  rw [Bool.eq_iff_iff]
  simp only [decide_eq_true_eq]
  omega
theorem non_in {n x : Int} : inB 0 (n - 1) x = nonB n x := by
  unfold inB nonB
  rw [Bool.eq_iff_iff]
  simp only [decide_eq_true_eq]
  omega

set_option maxHeartbeats 400000 in
theorem l1Same_any (A A' : Option Addr) (xs ys : List Int) (c c' : Nat) (w : World) (hx : Ints w w.heap.size A xs) (hy : Ints w w.heap.size A' ys) (h1 : xs.length ≤ 1048576) :
    Calls Try.prog 11 #[.slice A xs.length c, .slice A' ys.length c'] w fun e w' => e = .returned (.bool (eqL xs ys)) ∧ Below w.heap.size w w' := by
  have HX := Lib.hid hx; clear hx
  have HY := Lib.hid hy; clear hy
  by_cases hl : xs.length = ys.length
  · have hd : ((xs.length : Int) != (ys.length : Int)) = false := bne_f (by omega)
    have hlen : xs.length ≤ ys.length := by omega
    have hlen' : ys.length ≤ xs.length := by omega
    have HL := Lib.hid hl; clear hl
    go_enter Try.func11, Try.ntmps11
    go_wp2
    go_loopw [13] (fun i wr => ∃ (k : Nat), k ≤ xs.length ∧ i = .int .i64 k ∧ Below w.heap.size w wr ∧ Hid (∀ j : Nat, j < k → xs[j]? = ys[j]?)) (fun i _ => xs.length - (intOf i).toNat)
    case atStart => exact ⟨0, by omega, rfl, Below.refl _ _, fun j h => absurd h (by omega)⟩
    case round =>
      obtain ⟨k, hk, rfl, hB, H⟩ := hrel
      by_cases hlt : k < xs.length
      · have hlt' : k < ys.length := by omega
        obtain ⟨b, o, rfl, hb, c1⟩ := (HX.out.keep hB).at_ hlt
        obtain ⟨b', o', rfl, hb', c2⟩ := (HY.out.keep hB).at_ hlt'
        by_cases hne : xs[k] = ys[k]
        · have ht := bne_f hne
          have HE := Lib.hid hne; clear hne
          go_wp2
          go_quiet (fail)
          go_wp2
          go_roundw
          case rel => exact ⟨k + 1, by omega, by go_num, below_drewN hB _, step_eq hlt hlt' HE.out H.out⟩
          case measure => simp [intOf]; omega
        · have ht := bne_t hne
          have HE : Hid (eqL xs ys = false) := eqL_not hlt hlt' hne
          clear hne
          go_wp2
          go_quiet (fail)
          go_wp2
          go_ret
          exact ⟨ret_bool HE.out.symm, below_drewN hB _⟩
      · have HE : Hid (eqL xs ys = true) := eqL_of HL.out hlt H.out
        go_wp2
        go_ret
        exact ⟨ret_bool HE.out.symm, hB⟩
  · have hd : ((xs.length : Int) != (ys.length : Int)) = true := bne_t (by omega)
    have HE : Hid (eqL xs ys = false) := eqL_f fun e => hl (by rw [e])
    clear hl
    go_enter Try.func11, Try.ntmps11
    go_wp2
    go_ret
    exact ⟨ret_bool HE.out.symm, Below.refl _ _⟩

end Go.Proofs.Ytbgjlabjihoaaaa

/- What the reference's GoodGrammar answers. -/

namespace Go.Proofs.Ytbgjlabjihoaaaa
open Go.RowKit

theorem has_take {rs : List Ru} {k : Nat} (i : Nat) (h : i < k) : (rs.take k)[i]? = rs[i]? := by
  rw [List.getElem?_take, if_pos h]

theorem dup_step {rs : List Ru} {k i : Nat} (hk : k < rs.length) (hi : i < k) (h : eqU rs[k].abs (rs[i]'(by omega)).abs = false) (H : ∀ j : Nat, j < i → ((rs.take k).map Ru.abs)[j]? ≠ some rs[k].abs) :
    ∀ j : Nat, j < i + 1 → ((rs.take k).map Ru.abs)[j]? ≠ some rs[k].abs := by
  intro j hj
  by_cases e : j = i
  · subst e
    rw [List.getElem?_map, has_take j hi, List.getElem?_eq_getElem (by omega)]
    intro h'
    rw [eqU_t (by simpa using h'.symm)] at h
    cases h
  · exact H j (by omega)
theorem dup_t {rs : List Ru} {k i : Nat} (hk : k < rs.length) (hi : i < k) (h : eqU rs[k].abs (rs[i]'(by omega)).abs = true) : hasU ((rs.take k).map Ru.abs) rs[k].abs = true :=
  decide_eq_true (by
    rw [of_decide_eq_true h]
    exact List.mem_map.2 ⟨_, List.mem_iff_getElem?.2 ⟨i, by rw [has_take i hi, List.getElem?_eq_getElem]⟩, rfl⟩)
theorem dup_f {rs : List Ru} {k i : Nat} (hk : k < rs.length) (hi : ¬ i < k) (H : ∀ j : Nat, j < i → ((rs.take k).map Ru.abs)[j]? ≠ some rs[k].abs) : hasU ((rs.take k).map Ru.abs) rs[k].abs = false :=
  decide_eq_false fun h => by
    obtain ⟨j, hj⟩ := List.mem_iff_getElem?.1 h
    have := (List.getElem?_eq_some_iff.1 hj).1
    simp at this
    exact H j (by omega) hj

end Go.Proofs.Ytbgjlabjihoaaaa

/- What two readings of the same rules share; what a law's call has to end in. -/

namespace Go.Proofs.Ytbgjlabjihoaaaa
open Go.RowKit
open Go.Sort (grow)

theorem abs_mem {rs ss : List Ru} (h : ss.map Ru.abs = rs.map Ru.abs) {u : Ru} (hu : u ∈ ss) : ∃ v ∈ rs, v.l = u.l ∧ v.r = u.r := by
  have : u.abs ∈ rs.map Ru.abs := h ▸ List.mem_map.2 ⟨u, hu, rfl⟩
  obtain ⟨v, hv, e⟩ := List.mem_map.1 this
  exact ⟨v, hv, congrArg Prod.fst e, congrArg Prod.snd e⟩
theorem abs_len {rs ss : List Ru} (h : ss.map Ru.abs = rs.map Ru.abs) : ss.length = rs.length := by simpa using congrArg List.length h
theorem abs_lens {rs ss : List Ru} (h : ss.map Ru.abs = rs.map Ru.abs) {m : Nat} (hu : ∀ u ∈ rs, u.r.length ≤ m) : ∀ u ∈ ss, u.r.length ≤ m := fun u hm => by
  obtain ⟨v, hv, _, e⟩ := abs_mem h hm
  rw [← e]; exact hu v hv
theorem abs_fit {rs ss : List Ru} (h : ss.map Ru.abs = rs.map Ru.abs) (hf : FitR rs) : FitR ss := fun u hm => by
  obtain ⟨v, hv, _, e⟩ := abs_mem h hm
  rw [← e]; exact hf v hv
theorem eqG_t {n t : Int} {rs ss : List (Int × List Int)} (h : rs = ss) : eqG n t rs n t ss = true := decide_eq_true ⟨rfl, rfl, h⟩

/-- What a law's call has to end in. -/
def LawEnds (w : World) (e : Ending) (w' : World) : Prop := e = .returned (.bool true) ∧ Below w.heap.size w w'

end Go.Proofs.Ytbgjlabjihoaaaa

/- A law's end: it returned true, and nothing that was there has turned. -/

namespace Go.Proofs.Ytbgjlabjihoaaaa
open Go.ChangeShapes Go.WideShapes Go.ChangeAt Go.RowKit
set_option maxRecDepth 100000

theorem Try.own : ownKnob Try.prog.godebug = none := by kernel_rfl
theorem Try.laidOut : laidOutB Try.prog = true := by kernel_rfl

/-- A law's end, one argument: it returned true, and nothing that was there has turned. -/
theorem ends_one {H : Type} {enc : TypeId × Value → H} {f : Func} {s : ChangeSpec} {W W' : World} {v0 : Value} {d0 : DataW H} {gs : List (DataW H)} {before : List MemPlace} {t0 : TypeId}
    (hW : DataW.Whole enc Try.prog f.params.toList s.vars false W [v0] [d0] gs before) (hp : f.params = #[t0]) (hr : f.resultTypes = #[4])
    (hfn : s.fn H ([d0] ++ gs) = { results := [.lit (.bool true)], args := [d0], vars := gs })
    (ht : Try.prog.readableRec t0 = true) (hs : t0 < Try.prog.types.size) (hv : varsRowed Try.prog s.vars = true) (hb : Below W.heap.size W W') :
    s.post enc Try.prog f false true false false W #[v0] (.bool true) W' := by
  have hlt : ∀ x ∈ before, x.block < W.heap.size := fun x hx => hW.lt x hx
  have hW' := hW
  obtain ⟨p, q, hA, hV, rfl, _, _⟩ := hW
  rw [hp] at hA
  obtain ⟨v, d, e1, e2, h0⟩ := trodAll_one hA
  have ev : v0 = v := by simpa using e1
  have ed : d0 = d := by simpa using e2
  subst ev ed
  refine ⟨[d0], gs, p ++ q, [], p, q, hW', ?_, ?_, ?_, hb.frame _, fun h => by cases h⟩
  · rw [hfn, hr]
    exact trodAll_mk1 (shut_bool Try.underlying4 true)
  · rw [hfn, hp]
    exact trodAll_mk1 (hb.trod Try.laidOut ht hs h0 (fun x hx => hlt x (List.mem_append_left _ hx)))
  · rw [hfn]
    exact hb.trodVars Try.laidOut hv hV

theorem open_intS' {H : Type} {enc : TypeId × Value → H} {W : World} {spare : Nat → Bool} {held : Bool} {r : Reach} {b0 : Nat} {v : Value} {d : DataW H} {p : List MemPlace} (hv : Value.okWide Try.prog W r b0 38 v) (h : DataW.Trod enc Try.prog W 0 spare held 38 v d p) :
    ∃ (A : Option Addr) (xs : List Int) (c : Nat), v = .slice A xs.length c ∧ xs.length ≤ c ∧ Ints W W.heap.size A xs ∧ xs.length ≤ maxLen ∧ ∀ x ∈ xs, F64 x := by
  obtain ⟨a0, len, cap, rfl⟩ := okWide_slice Try.underlying38 hv
  obtain ⟨fuel, hf⟩ := h
  exact open_intS (by simpa [Value.cells] using hf)

/-- A law's end, two arguments: it returned true, and nothing that was there has turned. -/
theorem ends_two {H : Type} {enc : TypeId × Value → H} {f : Func} {s : ChangeSpec} {W W' : World} {v0 v1 : Value} {d0 d1 : DataW H} {gs : List (DataW H)} {before : List MemPlace} {t0 t1 : TypeId}
    (hW : DataW.Whole enc Try.prog f.params.toList s.vars false W [v0, v1] [d0, d1] gs before) (hp : f.params = #[t0, t1]) (hr : f.resultTypes = #[4])
    (hfn : s.fn H ([d0, d1] ++ gs) = { results := [.lit (.bool true)], args := [d0, d1], vars := gs })
    (ht : Try.prog.readableRec t0 = true) (hs : t0 < Try.prog.types.size) (ht1 : Try.prog.readableRec t1 = true) (hs1 : t1 < Try.prog.types.size) (hv : varsRowed Try.prog s.vars = true) (hb : Below W.heap.size W W') :
    s.post enc Try.prog f false true false false W #[v0, v1] (.bool true) W' := by
  have hlt : ∀ x ∈ before, x.block < W.heap.size := fun x hx => hW.lt x hx
  have hW' := hW
  obtain ⟨p, q, hA, hV, rfl, _, _⟩ := hW
  rw [hp] at hA
  obtain ⟨v, v', d, d', p0, p1, e1, e2, e3, h0, h1⟩ := trodAll_two hA
  have ev : v0 = v ∧ v1 = v' := by simpa using e1
  have ed : d0 = d ∧ d1 = d' := by simpa using e2
  obtain ⟨rfl, rfl⟩ := ev
  obtain ⟨rfl, rfl⟩ := ed
  subst e3
  refine ⟨[d0, d1], gs, p0 ++ p1 ++ q, [], p0 ++ p1, q, hW', ?_, ?_, ?_, hb.frame _, fun h => by cases h⟩
  · rw [hfn, hr]
    exact trodAll_mk1 (shut_bool Try.underlying4 true)
  · rw [hfn, hp]
    exact trodAll_mk2 (hb.trod Try.laidOut ht hs h0 (fun x hx => hlt x (by simp [hx]))) (hb.trod Try.laidOut ht1 hs1 h1 (fun x hx => hlt x (by simp [hx])))
  · rw [hfn]
    exact hb.trodVars Try.laidOut hv hV

end Go.Proofs.Ytbgjlabjihoaaaa

/- What the laws' marks write, and what they find again. -/

namespace Go.Proofs.Ytbgjlabjihoaaaa
open Go.RowKit

/-- Only blocks of S have turned; new blocks may have come. -/
structure Save (S : Nat → Prop) (w w' : World) : Prop where
  os : w'.os = w.os
  tape : w'.tape = w.tape
  output : w'.output = w.output
  size : w.heap.size ≤ w'.heap.size
  block : ∀ b, b < w.heap.size → ¬ S b → w'.heap[b]? = w.heap[b]?

theorem Save.refl (S : Nat → Prop) (w : World) : Save S w w := ⟨rfl, rfl, rfl, Nat.le_refl _, fun _ _ _ => rfl⟩
theorem Save.trans {S : Nat → Prop} {a b c : World} (h : Save S a b) (k : Save S b c) : Save S a c :=
  ⟨k.os.trans h.os, k.tape.trans h.tape, k.output.trans h.output, Nat.le_trans h.size k.size, fun i hi hs => (k.block i (by have := h.size; omega) hs).trans (h.block i hi hs)⟩
theorem Save.wider {S T : Nat → Prop} {a b : World} (h : Save S a b) (hT : ∀ i, S i → T i) : Save T a b :=
  ⟨h.os, h.tape, h.output, h.size, fun i hi hs => h.block i hi fun hS => hs (hT i hS)⟩
theorem Save.of_below {S : Nat → Prop} {a b : World} (h : Below a.heap.size a b) : Save S a b := ⟨h.os, h.tape, h.output, h.size, fun i hi _ => h.block i hi⟩
theorem Save.below {S : Nat → Prop} {a b : World} {B : Nat} (h : Save S a b) (hB : B ≤ a.heap.size) (hS : ∀ i, i < B → ¬ S i) : Below B a b :=
  ⟨h.os, h.tape, h.output, h.size, fun i hi => h.block i (by omega) (hS i hi)⟩
theorem Save.setCell {S : Nat → Prop} {a w : World} (h : Save S a w) {p : Addr} (hp : S p.block) (u : Value) : Save S a (w.setCell p u) :=
  h.trans ⟨rfl, rfl, rfl, by simp [World.setCell], fun k _ hs => Below.heap_setCell _ _ _ _ (fun e => hs (e ▸ hp))⟩

theorem Row.save {S : Nat → Prop} {w w' : World} {g : Nat} {t : TypeId} {cs : Array Value} (h : Row w g t cs) (hs : Save S w w') (hg : ¬ S g) : Row w' g t cs := (hs.block g h.lt hg).trans h

theorem OwnI.save {S : Nat → Prop} {w w' : World} {lo : Nat} {A : Option Addr} {xs : List Int} (h : OwnI w lo A xs) (hs : Save S w w') (hA : ∀ g, A = some ⟨g, 0, none⟩ → xs ≠ [] → ¬ S g) : OwnI w' lo A xs := by
  by_cases e : xs = []
  · exact .inl e
  · rcases h with h | ⟨g, cs, ea, hl, hr, hc⟩
    · exact .inl h
    · exact .inr ⟨g, cs, ea, hl, hr.save hs (hA g ea e), hc⟩

theorem OwnI.at_ {w : World} {lo : Nat} {A : Option Addr} {xs : List Int} (h : OwnI w lo A xs) {i : Nat} (hi : i < xs.length) :
    ∃ g, A = some ⟨g, 0, none⟩ ∧ lo ≤ g ∧ g < w.heap.size ∧ w.cell? ⟨g, i, none⟩ = some (.int .i64 xs[i]) ∧ w.frozen? ⟨g, i, none⟩ = false := by
  rcases h with h | ⟨g, cs, ea, hl, hr, hc⟩
  · subst h; simp at hi
  · exact ⟨g, ea, hl, hr.lt, by rw [hr.cell]; exact hc i _ (List.getElem?_eq_getElem hi), hr.frozen i⟩

theorem OwnI.set {w : World} {lo g : Nat} {xs : List Int} (h : OwnI w lo (some ⟨g, 0, none⟩) xs) {i : Nat} (hi : i < xs.length) (x : Int) :
    OwnI (w.setCell ⟨g, i, none⟩ (.int .i64 x)) lo (some ⟨g, 0, none⟩) (xs.set i x) := by
  rcases h with h | ⟨g', cs, ea, hl, hr, hc⟩
  · subst h; simp at hi
  · injection ea with ea
    injection ea with ea
    subst ea
    have hlt : i < cs.size := (Array.getElem?_eq_some_iff.1 (hc i _ (List.getElem?_eq_getElem hi))).1
    refine .inr ⟨g, cs.setIfInBounds i (.int .i64 x), rfl, hl, hr.set i _, fun k y hy => ?_⟩
    rw [List.getElem?_set] at hy
    rw [Array.getElem?_setIfInBounds]
    by_cases e : i = k
    · subst e
      rw [if_pos rfl, if_pos hi] at hy
      rw [if_pos rfl, if_pos hlt]
      simpa using hy
    · rw [if_neg e] at hy ⊢
      exact hc k y hy

/-- k, k + 1, .. : n numbers. -/
def seqL (k : Int) (n : Nat) : List Int := (List.range n).map fun (i : Nat) => k + (i : Int)
theorem seqL_length (k : Int) (n : Nat) : (seqL k n).length = n := by simp [seqL]
theorem seqL_get {k : Int} {n i : Nat} (h : i < n) : (seqL k n)[i]? = some (k + (i : Int)) := by simp [seqL, h]
theorem seqL_at {k : Int} {n i : Nat} (h : i < (seqL k n).length) : (seqL k n)[i] = k + (i : Int) := by simp [seqL]
theorem seqL_ne {k : Int} {n : Nat} (h : n ≠ 0) : seqL k n ≠ [] := fun e => h (by have := congrArg List.length e; rwa [seqL_length] at this)

def midL (k : Int) (xs : List Int) (j : Nat) : List Int := seqL k j ++ xs.drop j
theorem midL_length {k : Int} {xs : List Int} {j : Nat} (h : j ≤ xs.length) : (midL k xs j).length = xs.length := by simp [midL, seqL_length]; omega
theorem midL_zero (k : Int) (xs : List Int) : midL k xs 0 = xs := by simp [midL, seqL]
theorem midL_all (k : Int) (xs : List Int) : midL k xs xs.length = seqL k xs.length := by simp [midL]
theorem midL_step {k : Int} {xs : List Int} {j : Nat} (h : j < xs.length) : (midL k xs j).set j (k + (j : Int)) = midL k xs (j + 1) := by
  apply List.ext_getElem?
  intro i
  simp only [midL, List.getElem?_set, List.length_append, seqL_length, List.length_drop]
  by_cases e : j = i
  · subst e
    rw [if_pos rfl, if_pos (by omega), List.getElem?_append_left (by rw [seqL_length]; omega), seqL_get (by omega)]
  · rw [if_neg e]
    by_cases hi : i < j
    · rw [List.getElem?_append_left (by rw [seqL_length]; omega), List.getElem?_append_left (by rw [seqL_length]; omega), seqL_get hi, seqL_get (by omega)]
    · rw [List.getElem?_append_right (by rw [seqL_length]; omega), List.getElem?_append_right (by rw [seqL_length]; omega), seqL_length, seqL_length, List.getElem?_drop, List.getElem?_drop]
      congr 1
      omega

/-- The blocks of one slice that is not empty. -/
def Its (A : Option Addr) (xs : List Int) (b : Nat) : Prop := A = some ⟨b, 0, none⟩ ∧ xs ≠ []

def MarkedI (w : World) (lo : Nat) (A : Option Addr) (xs : List Int) (k : Int) (e : Ending) (w' : World) : Prop :=
  e = .returned (.int .i64 (k + xs.length)) ∧ OwnI w' lo A (seqL k xs.length) ∧ Save (Its A xs) w w'

end Go.Proofs.Ytbgjlabjihoaaaa

/- What the laws' marks write into a grammar, and what they find again. -/

namespace Go.Proofs.Ytbgjlabjihoaaaa
open Go.RowKit

/-- How many numbers the first i rules hold. -/
def cntTo (rs : List Ru) (i : Nat) : Nat := ((rs.take i).map fun u => 1 + u.r.length).sum
theorem cntTo_succ {rs : List Ru} {i : Nat} (hi : i < rs.length) : cntTo rs (i + 1) = cntTo rs i + (1 + rs[i].r.length) := by
  unfold cntTo
  rw [List.take_succ_eq_append_getElem hi, List.map_append, List.sum_append]
  simp
theorem cntTo_zero (rs : List Ru) : cntTo rs 0 = 0 := by simp [cntTo]

def markU (k : Int) (u : Ru) : Ru := { u with l := k, r := seqL (k + 1) u.r.length }
/-- The rules with the first i of them marked from k on. -/
def markL (k : Int) (rs : List Ru) (i : Nat) : List Ru := rs.mapIdx fun j u => if j < i then markU (k + (cntTo rs j : Int)) u else u
theorem markL_length (k : Int) (rs : List Ru) (i : Nat) : (markL k rs i).length = rs.length := by simp [markL]
theorem markL_at {k : Int} {rs : List Ru} {i j : Nat} (h : j < rs.length) (hj : j < (markL k rs i).length) : (markL k rs i)[j] = if j < i then markU (k + (cntTo rs j : Int)) rs[j] else rs[j] := by simp [markL]
theorem markL_zero (k : Int) (rs : List Ru) : markL k rs 0 = rs := by
  apply List.ext_getElem?
  intro j
  simp [markL]
theorem markL_step {k : Int} {rs : List Ru} {i : Nat} (h : i < rs.length) : (markL k rs i).set i (markU (k + (cntTo rs i : Int)) rs[i]) = markL k rs (i + 1) := by
  apply List.ext_getElem?
  intro j
  rw [List.getElem?_set, markL_length]
  by_cases e : i = j
  · subst e
    rw [if_pos rfl, if_pos h]
    simp [markL, h]
  · rw [if_neg e]
    simp only [markL, List.getElem?_mapIdx]
    by_cases hj : j < rs.length
    · rw [List.getElem?_eq_getElem hj]
      simp only [Option.map_some]
      congr 1
      by_cases hji : j < i
      · rw [if_pos hji, if_pos (by omega)]
      · rw [if_neg hji, if_neg (by omega)]
    · rw [List.getElem?_eq_none (by omega)]
      rfl

/-- The blocks of a slice of rules and of their right sides. -/
def ItsR (A : Option Addr) (rs : List Ru) (b : Nat) : Prop := (A = some ⟨b, 0, none⟩ ∧ rs ≠ []) ∨ ∃ (i : Nat) (u : Ru), rs[i]? = some u ∧ Its u.a u.r b

theorem set_left_right {rs : List Ru} {i : Nat} (h : i < rs.length) (x : Int) (ys : List Int) :
    ((rs.set i { rs[i] with l := x }).set i { (rs.set i { rs[i] with l := x })[i]'(by simpa using h) with r := ys }) = rs.set i { rs[i] with l := x, r := ys } := by
  rw [List.set_set]
  congr 1
  simp

theorem cntTo_le {rs : List Ru} (hu : ∀ u ∈ rs, u.r.length ≤ 1048576) (i : Nat) : cntTo rs i ≤ i * 1048577 := by
  induction i with
  | zero => simp [cntTo_zero]
  | succ i ih =>
    by_cases h : i < rs.length
    · have := hu rs[i] (List.getElem_mem h)
      rw [cntTo_succ h]; omega
    · have e : cntTo rs (i + 1) = cntTo rs i := by unfold cntTo; rw [List.take_of_length_le (by omega), List.take_of_length_le (by omega)]
      omega

end Go.Proofs.Ytbgjlabjihoaaaa

/- What it means that slices in memory read as a forest's nodes and edges. No condition. -/

namespace Go.Proofs.Ytbgjlabjihoaaaa
open Go.RowKit

/-- A node: its nonterminal, from, to. -/
structure Nd where
  n : Int
  f : Int
  t : Int
deriving DecidableEq

/-- The nodes' numbers, one behind the other. -/
def flatN : List Nd → List Int
  | [] => []
  | d :: r => d.n :: d.f :: d.t :: flatN r
theorem flatN_len : ∀ ds : List Nd, (flatN ds).length = 3 * ds.length
  | [] => rfl
  | d :: r => by simp only [flatN, List.length_cons, flatN_len r]; omega
theorem flatN_at : ∀ {ds : List Nd} {i : Nat} (h : i < ds.length), (flatN ds)[i * 3]? = some ds[i].n ∧ (flatN ds)[i * 3 + 1]? = some ds[i].f ∧ (flatN ds)[i * 3 + 2]? = some ds[i].t
  | d :: r, 0, _ => ⟨rfl, rfl, rfl⟩
  | d :: r, i + 1, h => by
    have ih := flatN_at (ds := r) (i := i) (by simpa using h)
    rw [show (i + 1) * 3 = i * 3 + 1 + 1 + 1 by omega]
    simp only [flatN, List.getElem?_cons_succ, List.getElem_cons_succ]
    exact ih
theorem flatN_nil {ds : List Nd} : flatN ds = [] ↔ ds = [] := by cases ds <;> simp [flatN]
theorem flatN_app (ds es : List Nd) : flatN (ds ++ es) = flatN ds ++ flatN es := by
  induction ds with
  | nil => rfl
  | cons d r ih => simp [flatN, ih]

/-- The cells from A on read as the nodes ds, below block B. -/
def Nds (w : World) (B : Nat) (A : Option Addr) (ds : List Nd) : Prop := Ints w B A (flatN ds)
theorem Nds.keep {w w' : World} {B : Nat} {A : Option Addr} {ds : List Nd} (h : Nds w B A ds) (hk : Below B w w') : Nds w' B A ds := Ints.keep h hk
theorem Nds.more {w : World} {B B' : Nat} {A : Option Addr} {ds : List Nd} (h : Nds w B A ds) (hB : B ≤ B') : Nds w B' A ds := Ints.more h hB
theorem Nds.at_ {w : World} {B : Nat} {A : Option Addr} {ds : List Nd} (h : Nds w B A ds) {i : Nat} (hi : i < ds.length) :
    ∃ b o, A = some ⟨b, o, none⟩ ∧ b < B ∧ w.cell? ⟨b, o + i * 3, none⟩ = some (.int .i64 ds[i].n) ∧ w.cell? ⟨b, o + i * 3 + 1, none⟩ = some (.int .i64 ds[i].f) ∧
      w.cell? ⟨b, o + i * 3 + 2, none⟩ = some (.int .i64 ds[i].t) := by
  obtain ⟨b, o, e, hb, hc⟩ := h (by rw [flatN_len]; omega)
  obtain ⟨h0, h1, h2⟩ := flatN_at hi
  exact ⟨b, o, e, hb, hc _ _ h0, hc _ _ h1, hc _ _ h2⟩

/-- The slice that begins at A is the call's own and reads as the numbers xs, in a row of things of type t. -/
def OwnTy (w : World) (lo : Nat) (t : TypeId) (A : Option Addr) (xs : List Int) : Prop :=
  xs = [] ∨ ∃ (g : Nat) (cs : Array Value), A = some ⟨g, 0, none⟩ ∧ lo ≤ g ∧ Row w g t cs ∧ ∀ (k : Nat) (x : Int), xs[k]? = some x → cs[k]? = some (.int .i64 x)
theorem OwnTy.ints {w : World} {lo : Nat} {t : TypeId} {A : Option Addr} {xs : List Int} (h : OwnTy w lo t A xs) : Ints w w.heap.size A xs := by
  intro hn
  rcases h with rfl | ⟨g, cs, rfl, _, hr, hc⟩
  · simp at hn
  · exact ⟨g, 0, rfl, hr.lt, fun k x hx => by rw [hr.cell, Nat.zero_add]; exact hc k x hx⟩
theorem OwnTy.below {w w' : World} {lo B : Nat} {t : TypeId} {A : Option Addr} {xs : List Int} (h : OwnTy w lo t A xs) (hb : Below B w w') (hB : w.heap.size ≤ B) : OwnTy w' lo t A xs := by
  rcases h with h | ⟨g, cs, e, hl, hr, hc⟩
  · exact .inl h
  · exact .inr ⟨g, cs, e, hl, hr.below hb (by have := hr.lt; omega), hc⟩
theorem OwnTy.lower {w : World} {lo lo' : Nat} {t : TypeId} {A : Option Addr} {xs : List Int} (h : OwnTy w lo t A xs) (hl : lo' ≤ lo) : OwnTy w lo' t A xs := by
  rcases h with h | ⟨g, cs, e, h1, hr, hc⟩
  · exact .inl h
  · exact .inr ⟨g, cs, e, by omega, hr, hc⟩
theorem OwnTy.low {w : World} {lo : Nat} {t : TypeId} {A : Option Addr} {xs : List Int} (h : OwnTy w lo t A xs) {p : Addr} (hp : p.block < lo) (u : Value) : OwnTy (w.setCell p u) lo t A xs := by
  rcases h with h | ⟨g, cs, e, hl, hr, hc⟩
  · exact .inl h
  · exact .inr ⟨g, cs, e, hl, hr.far (by omega) u, hc⟩
theorem OwnTy.far {w : World} {lo : Nat} {t : TypeId} {A : Option Addr} {xs : List Int} (h : OwnTy w lo t A xs) {p : Addr} (hp : ∀ g cs, Row w g t cs → g ≠ p.block) (u : Value) : OwnTy (w.setCell p u) lo t A xs := by
  rcases h with h | ⟨g, cs, e, hl, hr, hc⟩
  · exact .inl h
  · exact .inr ⟨g, cs, e, hl, hr.far (hp g cs hr) u, hc⟩
theorem OwnTy.save {S : Nat → Prop} {w w' : World} {lo : Nat} {t : TypeId} {A : Option Addr} {xs : List Int} (h : OwnTy w lo t A xs) (hs : Save S w w') (hA : ∀ g, A = some ⟨g, 0, none⟩ → xs ≠ [] → ¬ S g) : OwnTy w' lo t A xs := by
  by_cases e : xs = []
  · exact .inl e
  · rcases h with h | ⟨g, cs, ea, hl, hr, hc⟩
    · exact .inl h
    · exact .inr ⟨g, cs, ea, hl, hr.save hs (hA g ea e), hc⟩
theorem OwnTy.at_ {w : World} {lo : Nat} {t : TypeId} {A : Option Addr} {xs : List Int} (h : OwnTy w lo t A xs) {i : Nat} (hi : i < xs.length) :
    ∃ g, A = some ⟨g, 0, none⟩ ∧ lo ≤ g ∧ g < w.heap.size ∧ w.cell? ⟨g, i, none⟩ = some (.int .i64 xs[i]) ∧ w.frozen? ⟨g, i, none⟩ = false := by
  rcases h with h | ⟨g, cs, ea, hl, hr, hc⟩
  · subst h; simp at hi
  · exact ⟨g, ea, hl, hr.lt, by rw [hr.cell]; exact hc i _ (List.getElem?_eq_getElem hi), hr.frozen i⟩
theorem OwnTy.set {w : World} {lo g : Nat} {t : TypeId} {xs : List Int} (h : OwnTy w lo t (some ⟨g, 0, none⟩) xs) {i : Nat} (hi : i < xs.length) (x : Int) :
    OwnTy (w.setCell ⟨g, i, none⟩ (.int .i64 x)) lo t (some ⟨g, 0, none⟩) (xs.set i x) := by
  rcases h with h | ⟨g', cs, ea, hl, hr, hc⟩
  · subst h; simp at hi
  · injection ea with ea
    injection ea with ea
    subst ea
    have hlt : i < cs.size := (Array.getElem?_eq_some_iff.1 (hc i _ (List.getElem?_eq_getElem hi))).1
    refine .inr ⟨g, cs.setIfInBounds i (.int .i64 x), rfl, hl, hr.set i _, fun k y hy => ?_⟩
    rw [List.getElem?_set] at hy
    rw [Array.getElem?_setIfInBounds]
    by_cases e : i = k
    · subst e
      rw [if_pos rfl, if_pos hi] at hy
      rw [if_pos rfl, if_pos hlt]
      simpa using hy
    · rw [if_neg e] at hy ⊢
      exact hc k y hy

/-- The slice of nodes that begins at A is the call's own and reads as ds. -/
def OwnNd (w : World) (lo : Nat) (A : Option Addr) (ds : List Nd) : Prop := OwnTy w lo 37 A (flatN ds)
theorem OwnNd.nds {w : World} {lo : Nat} {A : Option Addr} {ds : List Nd} (h : OwnNd w lo A ds) : Nds w w.heap.size A ds := OwnTy.ints h
theorem OwnNd.below {w w' : World} {lo B : Nat} {A : Option Addr} {ds : List Nd} (h : OwnNd w lo A ds) (hb : Below B w w') (hB : w.heap.size ≤ B) : OwnNd w' lo A ds := OwnTy.below h hb hB
theorem OwnNd.lower {w : World} {lo lo' : Nat} {A : Option Addr} {ds : List Nd} (h : OwnNd w lo A ds) (hl : lo' ≤ lo) : OwnNd w lo' A ds := OwnTy.lower h hl
theorem OwnNd.low {w : World} {lo : Nat} {A : Option Addr} {ds : List Nd} (h : OwnNd w lo A ds) {p : Addr} (hp : p.block < lo) (u : Value) : OwnNd (w.setCell p u) lo A ds := OwnTy.low h hp u

/-- An edge as it lies in memory: its node, its rule, its cuts: where they lie, what they read as, their capacity. -/
structure Eg where
  n : Int
  e : Int
  a : Option Addr
  r : List Int
  c : Nat

/-- What an edge says, wherever it lies. -/
structure Es where
  n : Int
  e : Int
  r : List Int
deriving DecidableEq
def Eg.abs (u : Eg) : Es := ⟨u.n, u.e, u.r⟩

/-- The cells from A on read as the edges es, below block B. -/
def Egs (w : World) (B : Nat) (A : Option Addr) (es : List Eg) : Prop :=
  0 < es.length → ∃ b o, A = some ⟨b, o, none⟩ ∧ b < B ∧ ∀ k u, es[k]? = some u →
    w.cell? ⟨b, o + k * 3, none⟩ = some (.int .i64 u.n) ∧ w.cell? ⟨b, o + k * 3 + 1, none⟩ = some (.int .i64 u.e) ∧ w.cell? ⟨b, o + k * 3 + 2, none⟩ = some (.slice u.a u.r.length u.c) ∧ Ints w B u.a u.r
theorem Egs.keep {w w' : World} {B : Nat} {A : Option Addr} {es : List Eg} (h : Egs w B A es) (hk : Below B w w') : Egs w' B A es := by
  intro hn
  obtain ⟨b, o, e, hb, hc⟩ := h hn
  refine ⟨b, o, e, hb, fun k u hu => ?_⟩
  obtain ⟨h1, h2, h3, h4⟩ := hc k u hu
  exact ⟨(hk.cell (p := ⟨b, o + k * 3, none⟩) hb).trans h1, (hk.cell (p := ⟨b, o + k * 3 + 1, none⟩) hb).trans h2, (hk.cell (p := ⟨b, o + k * 3 + 2, none⟩) hb).trans h3, h4.keep hk⟩
theorem Egs.more {w : World} {B B' : Nat} {A : Option Addr} {es : List Eg} (h : Egs w B A es) (hB : B ≤ B') : Egs w B' A es := by
  intro hn
  obtain ⟨b, o, e, hb, hc⟩ := h hn
  refine ⟨b, o, e, by omega, fun k u hu => ?_⟩
  obtain ⟨h1, h2, h3, h4⟩ := hc k u hu
  exact ⟨h1, h2, h3, h4.more hB⟩
theorem Egs.at_ {w : World} {B : Nat} {A : Option Addr} {es : List Eg} (h : Egs w B A es) {k : Nat} (hk : k < es.length) :
    ∃ b o, A = some ⟨b, o, none⟩ ∧ b < B ∧ w.cell? ⟨b, o + k * 3, none⟩ = some (.int .i64 es[k].n) ∧ w.cell? ⟨b, o + k * 3 + 1, none⟩ = some (.int .i64 es[k].e) ∧ w.cell? ⟨b, o + k * 3 + 2, none⟩ = some (.slice es[k].a es[k].r.length es[k].c) ∧ Ints w B es[k].a es[k].r := by
  obtain ⟨b, o, e, hb, hc⟩ := h (by omega)
  exact ⟨b, o, e, hb, hc k _ (List.getElem?_eq_getElem hk)⟩

/-- The slice of edges that begins at A, and each of their cuts, are the call's own and read as es; no two cuts lie in one block. -/
def OwnEg (w : World) (lo : Nat) (A : Option Addr) (es : List Eg) : Prop :=
  es = [] ∨ ∃ (g : Nat) (cs : Array Value), A = some ⟨g, 0, none⟩ ∧ lo ≤ g ∧ Row w g 40 cs ∧
    (∀ (k : Nat) (u : Eg), es[k]? = some u → cs[k * 3]? = some (.int .i64 u.n) ∧ cs[k * 3 + 1]? = some (.int .i64 u.e) ∧ cs[k * 3 + 2]? = some (.slice u.a u.r.length u.c) ∧ OwnI w lo u.a u.r) ∧
    ∀ (i j : Nat) (u v : Eg), es[i]? = some u → es[j]? = some v → i ≠ j → u.r ≠ [] → v.r ≠ [] → u.a ≠ v.a
theorem OwnEg.egs {w : World} {lo : Nat} {A : Option Addr} {es : List Eg} (h : OwnEg w lo A es) : Egs w w.heap.size A es := by
  intro hn
  rcases h with rfl | ⟨g, cs, rfl, _, hr, hc, _⟩
  · simp at hn
  · refine ⟨g, 0, rfl, hr.lt, fun k u hu => ?_⟩
    obtain ⟨h1, h2, h3, h4⟩ := hc k u hu
    exact ⟨by rw [hr.cell, Nat.zero_add]; exact h1, by rw [hr.cell, Nat.zero_add]; exact h2, by rw [hr.cell, Nat.zero_add]; exact h3, h4.ints⟩
theorem OwnEg.below {w w' : World} {lo B : Nat} {A : Option Addr} {es : List Eg} (h : OwnEg w lo A es) (hb : Below B w w') (hB : w.heap.size ≤ B) : OwnEg w' lo A es := by
  rcases h with h | ⟨g, cs, e, hl, hr, hc, hd⟩
  · exact .inl h
  · refine .inr ⟨g, cs, e, hl, hr.below hb (by have := hr.lt; omega), fun k u hu => ?_, hd⟩
    obtain ⟨h1, h2, h3, h4⟩ := hc k u hu
    exact ⟨h1, h2, h3, h4.below hb hB⟩
theorem OwnEg.lower {w : World} {lo lo' : Nat} {A : Option Addr} {es : List Eg} (h : OwnEg w lo A es) (hl : lo' ≤ lo) : OwnEg w lo' A es := by
  rcases h with h | ⟨g, cs, e, h1, hr, hc, hd⟩
  · exact .inl h
  · refine .inr ⟨g, cs, e, by omega, hr, fun k u hu => ?_, hd⟩
    obtain ⟨a, b, c, d⟩ := hc k u hu
    exact ⟨a, b, c, d.lower hl⟩
theorem OwnEg.low {w : World} {lo : Nat} {A : Option Addr} {es : List Eg} (h : OwnEg w lo A es) {p : Addr} (hp : p.block < lo) (u : Value) : OwnEg (w.setCell p u) lo A es := by
  rcases h with h | ⟨g, cs, e, hl, hr, hc, hd⟩
  · exact .inl h
  · refine .inr ⟨g, cs, e, hl, hr.far (by omega) u, fun k v hv => ?_, hd⟩
    obtain ⟨h1, h2, h3, h4⟩ := hc k v hv
    exact ⟨h1, h2, h3, h4.low hp u⟩
theorem OwnEg.at_ {w : World} {lo : Nat} {A : Option Addr} {es : List Eg} (h : OwnEg w lo A es) {i : Nat} (hi : i < es.length) :
    ∃ g, A = some ⟨g, 0, none⟩ ∧ lo ≤ g ∧ g < w.heap.size ∧ w.cell? ⟨g, i * 3, none⟩ = some (.int .i64 es[i].n) ∧ w.cell? ⟨g, i * 3 + 1, none⟩ = some (.int .i64 es[i].e) ∧ w.cell? ⟨g, i * 3 + 2, none⟩ = some (.slice es[i].a es[i].r.length es[i].c) ∧
      w.frozen? ⟨g, i * 3, none⟩ = false ∧ w.frozen? ⟨g, i * 3 + 1, none⟩ = false ∧ w.frozen? ⟨g, i * 3 + 2, none⟩ = false ∧ OwnI w lo es[i].a es[i].r := by
  rcases h with h | ⟨g, cs, ea, hl, hr, hc, _⟩
  · subst h; simp at hi
  · obtain ⟨h1, h2, h3, h4⟩ := hc i _ (List.getElem?_eq_getElem hi)
    exact ⟨g, ea, hl, hr.lt, by rw [hr.cell]; exact h1, by rw [hr.cell]; exact h2, by rw [hr.cell]; exact h3, hr.frozen _, hr.frozen _, hr.frozen _, h4⟩

/-- A forest as it lies in memory: its nodes, its edges. -/
structure Fo where
  a : Option Addr
  ns : List Nd
  c : Nat
  b : Option Addr
  es : List Eg
  d : Nat
/-- What a forest says, wherever it lies. -/
structure Fs where
  ns : List Nd
  es : List Es
deriving DecidableEq
def Fo.say (f : Fo) : Fs := ⟨f.ns, f.es.map Eg.abs⟩
def ReadF (w : World) (B : Nat) (f : Fo) : Prop := Nds w B f.a f.ns ∧ Egs w B f.b f.es
theorem ReadF.keep {w w' : World} {B : Nat} {f : Fo} (h : ReadF w B f) (hk : Below B w w') : ReadF w' B f := ⟨h.1.keep hk, h.2.keep hk⟩
theorem ReadF.more {w : World} {B B' : Nat} {f : Fo} (h : ReadF w B f) (hB : B ≤ B') : ReadF w B' f := ⟨h.1.more hB, h.2.more hB⟩
/-- None of its lists is longer than m. -/
structure LenF (m : Nat) (f : Fo) : Prop where
  n : f.ns.length ≤ m
  e : f.es.length ≤ m
  r : ∀ u ∈ f.es, u.r.length ≤ m
/-- Its lists have room for what they hold. -/
structure CapF (f : Fo) : Prop where
  n : f.ns.length ≤ f.c
  e : f.es.length ≤ f.d
def OwnF (w : World) (lo : Nat) (f : Fo) : Prop := OwnNd w lo f.a f.ns ∧ OwnEg w lo f.b f.es
theorem OwnF.read {w : World} {lo : Nat} {f : Fo} (h : OwnF w lo f) : ReadF w w.heap.size f := ⟨h.1.nds, h.2.egs⟩
theorem OwnF.below {w w' : World} {lo B : Nat} {f : Fo} (h : OwnF w lo f) (hb : Below B w w') (hB : w.heap.size ≤ B) : OwnF w' lo f := ⟨h.1.below hb hB, h.2.below hb hB⟩
theorem OwnF.lower {w : World} {lo lo' : Nat} {f : Fo} (h : OwnF w lo f) (hl : lo' ≤ lo) : OwnF w lo' f := ⟨h.1.lower hl, h.2.lower hl⟩
theorem OwnF.low {w : World} {lo : Nat} {f : Fo} (h : OwnF w lo f) {p : Addr} (hp : p.block < lo) (u : Value) : OwnF (w.setCell p u) lo f := ⟨h.1.low hp u, h.2.low hp u⟩
theorem LenF.of_say {m : Nat} {f f' : Fo} (h : LenF m f) (e : f'.say = f.say) : LenF m f' := by
  have e1 : f'.ns = f.ns := congrArg Fs.ns e
  have e2 : f'.es.map Eg.abs = f.es.map Eg.abs := congrArg Fs.es e
  refine ⟨by rw [e1]; exact h.n, by have := congrArg List.length e2; simp only [List.length_map] at this; rw [this]; exact h.e, fun u hu => ?_⟩
  have : u.abs ∈ f.es.map Eg.abs := e2 ▸ List.mem_map_of_mem hu
  obtain ⟨v, hv, e'⟩ := List.mem_map.1 this
  rw [show u.r = v.r from (congrArg Es.r e').symm]
  exact h.r v hv

end Go.Proofs.Ytbgjlabjihoaaaa

/- From the reading of an argument to its cells: a forest. -/

namespace Go.Proofs.Ytbgjlabjihoaaaa
open Go.ChangeShapes Go.WideShapes Go.ChangeAt Go.RowKit Go.Deep Go.Joins

theorem Try.cellsNodeL : Try.prog.cellsOf 51 = 3 := by kernel_rfl
theorem Try.cellsEdgeL : Try.prog.cellsOf 49 = 3 := by kernel_rfl
theorem Try.cellsForestL : Try.prog.cellsOf 25 = 2 := by kernel_rfl
theorem Try.cellsNodeSL : Try.prog.cellsOf 22 = 1 := by kernel_rfl
instance inhNd : Inhabited Nd := ⟨⟨0, 0, 0⟩⟩
instance inhEg : Inhabited Eg := ⟨⟨0, 0, none, [], 0⟩⟩

theorem nds_of {w : World} {B b o : Nat} {ds : List Nd} (hb : b < B) (h : ∀ (i : Nat) (u : Nd), ds[i]? = some u → w.cell? ⟨b, o + i * 3, none⟩ = some (.int .i64 u.n) ∧ w.cell? ⟨b, o + i * 3 + 1, none⟩ = some (.int .i64 u.f) ∧ w.cell? ⟨b, o + i * 3 + 2, none⟩ = some (.int .i64 u.t)) : Nds w B (some ⟨b, o, none⟩) ds := by
  intro _
  refine ⟨b, o, rfl, hb, fun k x hx => ?_⟩
  have hk := (List.getElem?_eq_some_iff.1 hx).1
  rw [flatN_len] at hk
  have hi : k / 3 < ds.length := by omega
  obtain ⟨f0, f1, f2⟩ := flatN_at hi
  obtain ⟨c0, c1, c2⟩ := h (k / 3) _ (List.getElem?_eq_getElem hi)
  rcases (show k = k / 3 * 3 ∨ k = k / 3 * 3 + 1 ∨ k = k / 3 * 3 + 2 by omega) with e | e | e
  · rw [e] at hx ⊢; rw [f0] at hx; injection hx with hx; subst hx; exact c0
  · rw [e] at hx ⊢; rw [f1] at hx; injection hx with hx; subst hx; rw [← Nat.add_assoc]; exact c1
  · rw [e] at hx ⊢; rw [f2] at hx; injection hx with hx; subst hx; rw [← Nat.add_assoc]; exact c2

section
variable {H : Type} {enc : TypeId × Value → H} {W : World} {spare : Nat → Bool} {held : Bool}

set_option maxRecDepth 100000 in
theorem open_nodeS {fuel : Nat} {v : Value} {y : DataW H × List MemPlace} (h : DataW.trod enc Try.prog W 0 spare held fuel 22 [v] = some y) :
    ∃ (A : Option Addr) (ds : List Nd) (c : Nat), v = .slice A ds.length c ∧ ds.length ≤ c ∧ Nds W W.heap.size A ds ∧ ds.length ≤ maxLen := by
  rcases open_slice Try.underlying22 h with ⟨hcs, _⟩ | ⟨a, len, cap, m, n, D, Pl, hcs, _, hl, hm, hz, _, hel⟩
  · injection hcs with hcs
    subst hcs
    exact ⟨none, [], 0, rfl, Nat.le_refl _, fun h => by simp [flatN] at h, by simp [maxLen]⟩
  · injection hcs with hcs
    subst hcs
    have hlm : len ≤ m := by rw [hz]; split <;> omega
    have each : ∀ i, i < len → ∃ u : Nd, W.cell? (a.add (i * 3)) = some (.int .i64 u.n) ∧ W.cell? ((a.add (i * 3)).add 1) = some (.int .i64 u.f) ∧ W.cell? ((a.add (i * 3)).add 2) = some (.int .i64 u.t) := by
      intro i hi
      obtain ⟨cs', hc, ht⟩ := hel i (by omega)
      rw [Try.cellsNodeL] at hc
      obtain ⟨_, hcl, hat⟩ := World.cells?_some hc
      obtain ⟨xs, n', _, _, _, hlen, hfs⟩ := DataW.trod_struct Try.underlying51 ht
      match cs', hcl, xs, hlen with
      | [q0, q1, q2], _, [y0, y1, y2], _ =>
        have e0 : DataW.trod enc Try.prog W 0 spare held n' 3 [q0] = some y0 := by simpa [Value.cells, Try.cellsInt] using hfs 0 _ rfl
        have e1 : DataW.trod enc Try.prog W 0 spare held n' 3 [q1] = some y1 := by simpa [Value.cells, Try.cellsInt] using hfs 1 _ rfl
        have e2 : DataW.trod enc Try.prog W 0 spare held n' 3 [q2] = some y2 := by simpa [Value.cells, Try.cellsInt] using hfs 2 _ rfl
        obtain ⟨l0, el0, _, _⟩ := DataW.trod_int Try.underlying3 e0
        obtain ⟨l1, el1, _, _⟩ := DataW.trod_int Try.underlying3 e1
        obtain ⟨l2, el2, _, _⟩ := DataW.trod_int Try.underlying3 e2
        injection el0 with el0
        injection el1 with el1
        injection el2 with el2
        subst el0 el1 el2
        exact ⟨⟨l0, l1, l2⟩, by simpa [Addr.add] using hat 0 (by omega), by simpa using hat 1 (by omega), by simpa using hat 2 (by omega)⟩
    obtain ⟨f, hf⟩ := choose_lt each
    have hlen : ((List.range len).map f).length = len := by simp
    by_cases h0 : len = 0
    · exact ⟨some a, (List.range len).map f, cap, by rw [hlen], by omega, fun hp => by rw [flatN_len, hlen] at hp; omega, by omega⟩
    · obtain ⟨b, off, spot⟩ := a
      have hspot : spot = none := by simpa [Addr.add] using World.cell?_spot (hf 0 (by omega)).1
      subst hspot
      refine ⟨_, (List.range len).map f, cap, by rw [hlen], by omega, nds_of ?_ fun i u hu => ?_, by omega⟩
      · have := (hf 0 (by omega)).1
        exact lt_of_cell (b := b) (o := off) (by simpa [Addr.add] using this)
      · have hk := (List.getElem?_eq_some_iff.1 hu).1
        rw [hlen] at hk
        have hu' : f i = u := by simpa [hk] using hu
        subst hu'
        obtain ⟨h1, h2, h3⟩ := hf i hk
        rw [Go.WideShapes.add_plain] at h1 h2 h3
        rw [Go.WideShapes.add_plain] at h2 h3
        exact ⟨h1, h2, h3⟩

/-- All cuts are numbers of 64 bits. -/
def FitE (es : List Eg) : Prop := ∀ u ∈ es, F64 u.n ∧ F64 u.e ∧ ∀ x ∈ u.r, F64 x

set_option maxRecDepth 100000 in
theorem open_edgeS {fuel : Nat} {v : Value} {y : DataW H × List MemPlace} (h : DataW.trod enc Try.prog W 0 spare held fuel 23 [v] = some y) :
    ∃ (A : Option Addr) (es : List Eg) (c : Nat), v = .slice A es.length c ∧ es.length ≤ c ∧ Egs W W.heap.size A es ∧ es.length ≤ maxLen ∧ (∀ u ∈ es, u.r.length ≤ maxLen) ∧ FitE es := by
  rcases open_slice Try.underlying23 h with ⟨hcs, _⟩ | ⟨a, len, cap, m, n, D, Pl, hcs, _, hl, hm, hz, _, hel⟩
  · injection hcs with hcs
    subst hcs
    exact ⟨none, [], 0, rfl, Nat.le_refl _, fun h => by simp at h, by simp [maxLen], fun x hx => by simp at hx, fun x hx => by simp at hx⟩
  · injection hcs with hcs
    subst hcs
    have hlm : len ≤ m := by rw [hz]; split <;> omega
    have each : ∀ i, i < len → ∃ u : Eg, W.cell? (a.add (i * 3)) = some (.int .i64 u.n) ∧ W.cell? ((a.add (i * 3)).add 1) = some (.int .i64 u.e) ∧ W.cell? ((a.add (i * 3)).add 2) = some (.slice u.a u.r.length u.c) ∧ Ints W W.heap.size u.a u.r ∧ u.r.length ≤ maxLen ∧ F64 u.n ∧ F64 u.e ∧ ∀ x ∈ u.r, F64 x := by
      intro i hi
      obtain ⟨cs', hc, ht⟩ := hel i (by omega)
      rw [Try.cellsEdgeL] at hc
      obtain ⟨_, hcl, hat⟩ := World.cells?_some hc
      obtain ⟨xs, n', _, _, _, hlen, hfs⟩ := DataW.trod_struct Try.underlying49 ht
      match cs', hcl, xs, hlen with
      | [q0, q1, q2], _, [y0, y1, y2], _ =>
        have e0 : DataW.trod enc Try.prog W 0 spare held n' 3 [q0] = some y0 := by simpa [Value.cells, Try.cellsInt] using hfs 0 _ rfl
        have e1 : DataW.trod enc Try.prog W 0 spare held n' 3 [q1] = some y1 := by simpa [Value.cells, Try.cellsInt] using hfs 1 _ rfl
        have e2 : DataW.trod enc Try.prog W 0 spare held n' 38 [q2] = some y2 := by simpa [Value.cells, Try.cellsInt, Try.cellsIntS] using hfs 2 _ rfl
        obtain ⟨l0, el0, _, w0⟩ := DataW.trod_int Try.underlying3 e0
        obtain ⟨l1, el1, _, w1⟩ := DataW.trod_int Try.underlying3 e1
        injection el0 with el0
        injection el1 with el1
        subst el0 el1
        obtain ⟨A', xs', c', rfl, _, hI, hml, hF⟩ := open_intS e2
        exact ⟨⟨l0, l1, A', xs', c'⟩, by simpa [Addr.add] using hat 0 (by omega), by simpa using hat 1 (by omega), by simpa using hat 2 (by omega), hI, hml, bounds_i64 w0, bounds_i64 w1, hF⟩
    obtain ⟨f, hf⟩ := choose_lt each
    have hlen : ((List.range len).map f).length = len := by simp
    refine ⟨some a, (List.range len).map f, cap, by rw [hlen], by omega, fun hp => ?_, by omega, fun u hu => ?_, fun u hu => ?_⟩
    · obtain ⟨b, off, spot⟩ := a
      have hspot : spot = none := by simpa [Addr.add] using World.cell?_spot (hf 0 (by omega)).1
      subst hspot
      refine ⟨b, off, rfl, ?_, fun k u hu => ?_⟩
      · have := (hf 0 (by omega)).1
        exact lt_of_cell (b := b) (o := off) (by simpa [Addr.add] using this)
      · have hk := (List.getElem?_eq_some_iff.1 hu).1
        rw [hlen] at hk
        have hu' : f k = u := by simpa [hk] using hu
        subst hu'
        obtain ⟨h1, h2, h3, h4, _, _⟩ := hf k hk
        rw [Go.WideShapes.add_plain] at h1 h2 h3
        rw [Go.WideShapes.add_plain] at h2 h3
        exact ⟨h1, h2, h3, h4⟩
    · obtain ⟨i, hi, rfl⟩ := List.mem_map.1 hu
      exact (hf i (List.mem_range.1 hi)).2.2.2.2.1
    · obtain ⟨i, hi, rfl⟩ := List.mem_map.1 hu
      exact (hf i (List.mem_range.1 hi)).2.2.2.2.2

set_option maxRecDepth 100000 in
theorem open_forest {r : Reach} {b0 : Nat} {v : Value} {d : DataW H} {p : List MemPlace} (hv : Value.okWide Try.prog W r b0 25 v) (h : DataW.Trod enc Try.prog W 0 spare held 25 v d p) :
    ∃ f : Fo, v = (.agg #[.slice f.a f.ns.length f.c, .slice f.b f.es.length f.d]) ∧ CapF f ∧ ReadF W W.heap.size f ∧ LenF maxLen f ∧ FitE f.es := by
  obtain ⟨v0, v1, y0, y1, m, rfl, _, _, h0, h1⟩ := open_agg2 Try.underlying25 (by kernel_rfl) Try.cellsForestL hv h
  obtain ⟨A, ns, c, rfl, a1, a2, a3⟩ := open_nodeS h0
  obtain ⟨B, es, d, rfl, b1, b2, b3, b4, b5⟩ := open_edgeS h1
  exact ⟨⟨A, ns, c, B, es, d⟩, rfl, ⟨a1, b1⟩, ⟨a2, b2⟩, ⟨a3, b3, b4⟩, b5⟩
end

end Go.Proofs.Ytbgjlabjihoaaaa

/- Which blocks an owned list or an owned list of rules takes. -/

namespace Go.Proofs.Ytbgjlabjihoaaaa
open Go.RowKit

theorem OwnI.its {w : World} {lo : Nat} {A : Option Addr} {xs : List Int} (h : OwnI w lo A xs) {b : Nat} (hb : Its A xs b) : lo ≤ b ∧ b < w.heap.size := by
  rcases h with h | ⟨g, cs, e, hl, hr, _⟩
  · exact absurd h hb.2
  · have := hb.1.symm.trans e
    injection this with this
    injection this with this
    subst this
    exact ⟨hl, hr.lt⟩

theorem OwnI.kept {S : Nat → Prop} {w w' : World} {lo : Nat} {A : Option Addr} {xs : List Int} (h : OwnI w lo A xs) (hs : Save S w w') (hd : ∀ b, Its A xs b → ¬ S b) : OwnI w' lo A xs :=
  h.save hs fun g e hn => hd g ⟨e, hn⟩

theorem eqL_refl (xs : List Int) : eqL xs xs = true := eqL_t rfl

end Go.Proofs.Ytbgjlabjihoaaaa
