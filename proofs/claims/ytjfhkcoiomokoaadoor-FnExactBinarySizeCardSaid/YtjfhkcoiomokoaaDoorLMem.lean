/- What it means that a slice in memory reads as a list of lists of numbers, and that this is kept while only newer memory is written. No condition. -/
import Derived.Test.YtjfhkcoiomokoaaDoorMem
namespace Go.Proofs.YtjfhkcoiomokoaaDoor
open Go.RowKit

/-- A list as it lies in memory: where it lies, what it reads as, its capacity. -/
structure Li where
  a : Option Addr
  r : List Int
  c : Nat

/-- The cells from A on read as the lists ls, below block B. -/
def Lls (w : World) (B : Nat) (A : Option Addr) (ls : List Li) : Prop :=
  0 < ls.length → ∃ b o, A = some ⟨b, o, none⟩ ∧ b < B ∧ ∀ k u, ls[k]? = some u →
    w.cell? ⟨b, o + k, none⟩ = some (.slice u.a u.r.length u.c) ∧ u.r.length ≤ u.c ∧ Ints w B u.a u.r

theorem Lls.keep {w w' : World} {B : Nat} {A : Option Addr} {ls : List Li} (h : Lls w B A ls) (hk : Below B w w') : Lls w' B A ls := by
  intro hn
  obtain ⟨b, o, e, hb, hc⟩ := h hn
  refine ⟨b, o, e, hb, fun k u hu => ?_⟩
  obtain ⟨h1, h2, h3⟩ := hc k u hu
  exact ⟨(hk.cell (p := ⟨b, o + k, none⟩) hb).trans h1, h2, h3.keep hk⟩

theorem Lls.more {w : World} {B B' : Nat} {A : Option Addr} {ls : List Li} (h : Lls w B A ls) (hB : B ≤ B') : Lls w B' A ls := by
  intro hn
  obtain ⟨b, o, e, hb, hc⟩ := h hn
  refine ⟨b, o, e, by omega, fun k u hu => ?_⟩
  obtain ⟨h1, h2, h3⟩ := hc k u hu
  exact ⟨h1, h2, h3.more hB⟩

theorem Lls.at_ {w : World} {B : Nat} {A : Option Addr} {ls : List Li} (h : Lls w B A ls) {k : Nat} (hk : k < ls.length) :
    ∃ b o, A = some ⟨b, o, none⟩ ∧ b < B ∧ w.cell? ⟨b, o + k, none⟩ = some (.slice ls[k].a ls[k].r.length ls[k].c) ∧ ls[k].r.length ≤ ls[k].c ∧ Ints w B ls[k].a ls[k].r := by
  obtain ⟨b, o, e, hb, hc⟩ := h (by omega)
  exact ⟨b, o, e, hb, hc k _ (List.getElem?_eq_getElem hk)⟩

/-- What lists say, wherever they lie. -/
def sayL (ls : List Li) : List (List Int) := ls.map Li.r

theorem sayL_len {ls : List Li} : (sayL ls).length = ls.length := List.length_map _
theorem sayL_len' {ls : List Li} {xs : List (List Int)} (h : sayL ls = xs) : ls.length = xs.length := by rw [← h, sayL_len]
theorem sayL_at {ls : List Li} {k : Nat} (hk : k < ls.length) : (sayL ls)[k]? = some ls[k].r := by simp [sayL, List.getElem?_eq_getElem hk]
theorem sayL_mem {ls : List Li} {u : Li} (hu : u ∈ ls) : u.r ∈ sayL ls := List.mem_map.2 ⟨u, hu, rfl⟩

/-- No list is longer than m. -/
def ShortL (m : Nat) (xs : List (List Int)) : Prop := ∀ x ∈ xs, x.length ≤ m

/-- The slice of lists that begins at A, and each of the lists, are the call's own and read as ls; no two lists lie in one block. -/
def OwnL (w : World) (lo : Nat) (A : Option Addr) (ls : List Li) : Prop :=
  ls = [] ∨ ∃ (g : Nat) (cs : Array Value), A = some ⟨g, 0, none⟩ ∧ lo ≤ g ∧ Row w g 25 cs ∧
    (∀ (k : Nat) (u : Li), ls[k]? = some u → cs[k]? = some (.slice u.a u.r.length u.c) ∧ u.r.length ≤ u.c ∧ OwnI w lo u.a u.r) ∧
    ∀ (i j : Nat) (u v : Li), ls[i]? = some u → ls[j]? = some v → i ≠ j → u.r ≠ [] → v.r ≠ [] → u.a ≠ v.a

theorem OwnL.lls {w : World} {lo : Nat} {A : Option Addr} {ls : List Li} (h : OwnL w lo A ls) : Lls w w.heap.size A ls := by
  intro hn
  rcases h with rfl | ⟨g, cs, rfl, _, hr, hc, _⟩
  · simp at hn
  · refine ⟨g, 0, rfl, hr.lt, fun k u hu => ?_⟩
    obtain ⟨h1, h2, h3⟩ := hc k u hu
    exact ⟨by rw [hr.cell, Nat.zero_add]; exact h1, h2, h3.ints⟩

theorem OwnL.below {w w' : World} {lo B : Nat} {A : Option Addr} {ls : List Li} (h : OwnL w lo A ls) (hb : Below B w w') (hB : w.heap.size ≤ B) : OwnL w' lo A ls := by
  rcases h with h | ⟨g, cs, e, hl, hr, hc, hd⟩
  · exact .inl h
  · refine .inr ⟨g, cs, e, hl, hr.below hb (by have := hr.lt; omega), fun k u hu => ?_, hd⟩
    obtain ⟨h1, h2, h3⟩ := hc k u hu
    exact ⟨h1, h2, h3.below hb hB⟩

theorem OwnL.lower {w : World} {lo lo' : Nat} {A : Option Addr} {ls : List Li} (h : OwnL w lo A ls) (hl : lo' ≤ lo) : OwnL w lo' A ls := by
  rcases h with h | ⟨g, cs, e, h1, hr, hc, hd⟩
  · exact .inl h
  · refine .inr ⟨g, cs, e, by omega, hr, fun k u hu => ?_, hd⟩
    obtain ⟨a, b, c⟩ := hc k u hu
    exact ⟨a, b, c.lower hl⟩

theorem OwnL.low {w : World} {lo : Nat} {A : Option Addr} {ls : List Li} (h : OwnL w lo A ls) {p : Addr} (hp : p.block < lo) (u : Value) : OwnL (w.setCell p u) lo A ls := by
  rcases h with h | ⟨g, cs, e, hl, hr, hc, hd⟩
  · exact .inl h
  · refine .inr ⟨g, cs, e, hl, hr.far (by omega) u, fun k v hv => ?_, hd⟩
    obtain ⟨h1, h2, h3⟩ := hc k v hv
    exact ⟨h1, h2, h3.low hp u⟩

end Go.Proofs.YtjfhkcoiomokoaaDoor
