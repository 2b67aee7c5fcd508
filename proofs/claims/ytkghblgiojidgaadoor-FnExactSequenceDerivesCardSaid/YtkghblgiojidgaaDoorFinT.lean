/- Two square tables of bools in memory, as l3Leads makes them. -/
import Derived.Test.YtkghblgiojidgaaDoorFin
import Derived.Test.YtkghblgiojidgaaDoorTo
namespace Go.Proofs.YtkghblgiojidgaaDoor
open Go.RowKit

theorem Tryd.infoBool : (Tryd.prog.info? 4).map (fun i => (i.zero, i.size, i.bytes)) = some (some (.bool false), 1, 1) := by kernel_rfl
theorem Tryd.infoBools : (Tryd.prog.info? 85).map (fun i => (i.zero, i.size, i.bytes)) = some (some (.slice none 0 0), 1, 24) := by kernel_rfl

/-- N bools. -/
def bools (N : Nat) (f : Int → Bool) : Array Value := Array.ofFn (n := N) fun b => .bool (f (b.val : Int))
theorem bools_get {N : Nat} {f : Int → Bool} {b : Nat} (hb : b < N) : (bools N f)[b]? = some (.bool (f b)) := by
  unfold bools
  rw [Array.getElem?_ofFn, dif_pos hb]
theorem bools_size {N : Nat} {f : Int → Bool} : (bools N f).size = N := by unfold bools; simp
theorem bools_set {N : Nat} {f : Int → Bool} {b : Nat} {v : Bool} : (bools N f).setIfInBounds b (.bool v) = bools N fun y => if y = b then v else f y := by
  apply Array.ext
  · simp [bools_size]
  · intro i h1 h2
    have hi : i < N := by rw [bools_size] at h2; exact h2
    have e : (bools N fun y => if y = b then v else f y)[i]? = some (.bool (if (i : Int) = b then v else f i)) := bools_get hi
    have e2 : ((bools N f).setIfInBounds b (.bool v))[i]? = some (.bool (if (i : Int) = b then v else f i)) := by
      rw [Array.getElem?_setIfInBounds]
      by_cases h : b = i
      · subst h
        rw [if_pos rfl, if_pos (by rw [bools_size]; exact hi), if_pos rfl]
      · rw [if_neg h, bools_get hi, if_neg (by omega)]
    rw [Array.getElem?_eq_getElem h1] at e2
    rw [Array.getElem?_eq_getElem h2] at e
    exact (Option.some.inj e2).trans (Option.some.inj e).symm
theorem bools_no (N : Nat) : madeCells #[.bool false] N = bools N fun _ => false := by
  apply Array.ext
  · rw [size_madeCells, bools_size]
  · intro i h1 h2
    simp [madeCells, bools, Nat.mod_one]

theorem make_bools (n : Nat) (hn : n ≤ 6) (w : World) :
    (Instr.makeSlice 85 (.int .i64 (n : Int)) (.int .i64 (n : Int))).run Tryd.prog w = .ok (.slice (some ⟨w.heap.size, 0, none⟩) n n) (w.alloc (.cells (bools n fun _ => false) 4)) := by
  obtain ⟨i, hi, hz, hs, hb⟩ := info_of Tryd.infoBool
  have h := run_make (P := Tryd.prog) w 85 4 i _ Tryd.underlying85 hi hz .i64 .i64 n n (by omega) (by omega) (by rw [hb]; omega) (by omega)
  rw [hs] at h
  rw [← bools_no]
  simpa [Value.cells] using h
def zS (n : Nat) : Array Value := madeCells #[.slice none 0 0] n
theorem zS_size (n : Nat) : (zS n).size = n := size_madeCells _ _
theorem make_rows (n : Nat) (hn : n ≤ 6) (w : World) :
    (Instr.makeSlice 83 (.int .i64 (n : Int)) (.int .i64 (n : Int))).run Tryd.prog w = .ok (.slice (some ⟨w.heap.size, 0, none⟩) n n) (w.alloc (.cells (zS n) 85)) := by
  obtain ⟨i, hi, hz, hs, hb⟩ := info_of Tryd.infoBools
  have h := run_make (P := Tryd.prog) w 83 85 i _ Tryd.underlying83 hi hz .i64 .i64 n n (by omega) (by omega) (by rw [hb]; omega) (by omega)
  rw [hs] at h
  simpa [zS, Value.cells] using h

/-- The first k rows of the two tables T and U, behind block S. -/
def Tabs2 (w : World) (S N k : Nat) (T U : Tab) : Prop :=
  (∃ cs, Row w S 85 cs ∧ cs.size = N ∧ ∀ a : Nat, a < k → cs[a]? = some (.slice (some ⟨S + 2 + 2 * a, 0, none⟩) N N)) ∧
  (∃ cs, Row w (S + 1) 85 cs ∧ cs.size = N ∧ ∀ a : Nat, a < k → cs[a]? = some (.slice (some ⟨S + 3 + 2 * a, 0, none⟩) N N)) ∧
  (∀ a : Nat, a < k → Row w (S + 2 + 2 * a) 4 (bools N (T a))) ∧
  ∀ a : Nat, a < k → Row w (S + 3 + 2 * a) 4 (bools N (U a))

theorem Tabs2.lt {w : World} {S N k : Nat} {T U : Tab} (h : Tabs2 w S N k T U) : S + 2 + 2 * k ≤ w.heap.size := by
  obtain ⟨_, ⟨_, h2, _⟩, _, h4⟩ := h
  have := h2.lt
  cases k with
  | zero => omega
  | succ k => have := (h4 k (by omega)).lt; omega
theorem Tabs2.keep {w w' : World} {S N k B : Nat} {T U : Tab} (h : Tabs2 w S N k T U) (hb : Below B w w') (hB : S + 2 + 2 * k ≤ B) : Tabs2 w' S N k T U := by
  obtain ⟨⟨cs, h1, h1'⟩, ⟨ds, h2, h2'⟩, h3, h4⟩ := h
  exact ⟨⟨cs, h1.below hb (by omega), h1'⟩, ⟨ds, h2.below hb (by omega), h2'⟩, fun a ha => (h3 a ha).below hb (by omega), fun a ha => (h4 a ha).below hb (by omega)⟩
theorem Tabs2.one {w : World} {S N k : Nat} {T U : Tab} (h : Tabs2 w S N k T U) {a : Nat} (ha : a < k) : w.cell? ⟨S, a, none⟩ = some (.slice (some ⟨S + 2 + 2 * a, 0, none⟩) N N) := by
  obtain ⟨⟨cs, h1, _, h1'⟩, _⟩ := h
  exact (h1.cell a).trans (h1' a ha)
theorem Tabs2.two {w : World} {S N k : Nat} {T U : Tab} (h : Tabs2 w S N k T U) {a : Nat} (ha : a < k) : w.cell? ⟨S + 1, a, none⟩ = some (.slice (some ⟨S + 3 + 2 * a, 0, none⟩) N N) := by
  obtain ⟨_, ⟨cs, h1, _, h1'⟩, _⟩ := h
  exact (h1.cell a).trans (h1' a ha)
theorem Tabs2.atT {w : World} {S N k : Nat} {T U : Tab} (h : Tabs2 w S N k T U) {a b : Nat} (ha : a < k) (hb : b < N) : w.cell? ⟨S + 2 + 2 * a, b, none⟩ = some (.bool (T a b)) ∧ w.frozen? ⟨S + 2 + 2 * a, b, none⟩ = false := by
  obtain ⟨_, _, h3, _⟩ := h
  exact ⟨((h3 a ha).cell b).trans (bools_get hb), (h3 a ha).frozen b⟩
theorem Tabs2.atU {w : World} {S N k : Nat} {T U : Tab} (h : Tabs2 w S N k T U) {a b : Nat} (ha : a < k) (hb : b < N) : w.cell? ⟨S + 3 + 2 * a, b, none⟩ = some (.bool (U a b)) ∧ w.frozen? ⟨S + 3 + 2 * a, b, none⟩ = false := by
  obtain ⟨_, _, _, h4⟩ := h
  exact ⟨((h4 a ha).cell b).trans (bools_get hb), (h4 a ha).frozen b⟩
theorem setT_row {T : Tab} {a b : Int} {v : Bool} : (fun y => if y = b then v else T a y) = setT T a b v a := by
  funext y
  unfold setT
  by_cases h : y = b
  · rw [if_pos h, if_pos ⟨rfl, h⟩]
  · rw [if_neg h, if_neg fun e => h e.2]
theorem setT_far {T : Tab} {a b c : Int} {v : Bool} (h : c ≠ a) : setT T a b v c = T c := by
  funext y
  unfold setT
  rw [if_neg fun e => h e.1]
theorem Tabs2.putT {w : World} {S N k : Nat} {T U : Tab} (h : Tabs2 w S N k T U) {a : Nat} (ha : a < k) (b : Nat) (v : Bool) : Tabs2 (w.setCell ⟨S + 2 + 2 * a, b, none⟩ (.bool v)) S N k (setT T a b v) U := by
  obtain ⟨⟨cs, h1, h1'⟩, ⟨ds, h2, h2'⟩, h3, h4⟩ := h
  refine ⟨⟨cs, h1.far (by simp; omega) _, h1'⟩, ⟨ds, h2.far (by simp; omega) _, h2'⟩, fun c hc => ?_, fun c hc => (h4 c hc).far (by simp; omega) _⟩
  by_cases e : c = a
  · subst e
    have h5 := (h3 c ha).set b (.bool v)
    rw [bools_set, setT_row] at h5
    exact h5
  · rw [setT_far (by omega)]
    exact (h3 c hc).far (by simp; omega) _
theorem Tabs2.putU {w : World} {S N k : Nat} {T U : Tab} (h : Tabs2 w S N k T U) {a : Nat} (ha : a < k) (b : Nat) (v : Bool) : Tabs2 (w.setCell ⟨S + 3 + 2 * a, b, none⟩ (.bool v)) S N k T (setT U a b v) := by
  obtain ⟨⟨cs, h1, h1'⟩, ⟨ds, h2, h2'⟩, h3, h4⟩ := h
  refine ⟨⟨cs, h1.far (by simp; omega) _, h1'⟩, ⟨ds, h2.far (by simp; omega) _, h2'⟩, fun c hc => (h3 c hc).far (by simp; omega) _, fun c hc => ?_⟩
  by_cases e : c = a
  · subst e
    have h5 := (h4 c ha).set b (.bool v)
    rw [bools_set, setT_row] at h5
    exact h5
  · rw [setT_far (by omega)]
    exact (h4 c hc).far (by simp; omega) _

def noT : Tab := fun _ _ => false
theorem Tabs2.made (w : World) (N : Nat) : Tabs2 ((w.alloc (.cells (zS N) 85)).alloc (.cells (zS N) 85)) w.heap.size N 0 noT noT := by
  refine ⟨⟨zS N, (Row.new w _ _).alloc _, zS_size _, fun a h => absurd h (by omega)⟩, ⟨zS N, ?_, zS_size _, fun a h => absurd h (by omega)⟩, fun a h => absurd h (by omega), fun a h => absurd h (by omega)⟩
  have h := Row.new (w.alloc (.cells (zS N) 85)) 85 (zS N)
  rw [World.size_alloc] at h
  exact h
theorem Tabs2.grow {w : World} {S N k : Nat} (h : Tabs2 w S N k noT noT) (hs : w.heap.size = S + 2 + 2 * k) (hk : k < N) :
    Tabs2 ((((w.setCell ⟨S, k, none⟩ (.slice (some ⟨w.heap.size, 0, none⟩) N N)).setCell ⟨S + 1, k, none⟩ (.slice (some ⟨w.heap.size + 1, 0, none⟩) N N)).alloc (.cells (bools N fun _ => false) 4)).alloc (.cells (bools N fun _ => false) 4)) S N (k + 1) noT noT := by
  obtain ⟨⟨cs, h1, h1s, h1'⟩, ⟨ds, h2, h2s, h2'⟩, h3, h4⟩ := h
  generalize hW : ((w.setCell ⟨S, k, none⟩ (.slice (some ⟨w.heap.size, 0, none⟩) N N)).setCell ⟨S + 1, k, none⟩ (.slice (some ⟨w.heap.size + 1, 0, none⟩) N N)) = W
  have hz : W.heap.size = w.heap.size := by subst hW; simp
  have hT : Row (W.alloc (.cells (bools N fun _ => false) 4)) w.heap.size 4 (bools N fun _ => false) := by
    have h := Row.new W 4 (bools N fun _ => false)
    rw [hz] at h
    exact h
  have hU : Row ((W.alloc (.cells (bools N fun _ => false) 4)).alloc (.cells (bools N fun _ => false) 4)) (w.heap.size + 1) 4 (bools N fun _ => false) := by
    have h := Row.new (W.alloc (.cells (bools N fun _ => false) 4)) 4 (bools N fun _ => false)
    rw [World.size_alloc, hz] at h
    exact h
  have k1 : Row W S 85 (cs.setIfInBounds k (.slice (some ⟨w.heap.size, 0, none⟩) N N)) := by subst hW; exact (h1.set k _).far (by simp) _
  have k2 : Row W (S + 1) 85 (ds.setIfInBounds k (.slice (some ⟨w.heap.size + 1, 0, none⟩) N N)) := by subst hW; exact (h2.far (by simp) _).set k _
  have k3 : ∀ {g : Nat} {t : TypeId} {es : Array Value}, Row w g t es → g ≠ S → g ≠ S + 1 → Row W g t es := fun h a b => by subst hW; exact (h.far (by simpa using a) _).far (by simpa using b) _
  refine ⟨⟨_, (k1.alloc _).alloc _, by simp [h1s], fun a ha => ?_⟩, ⟨_, (k2.alloc _).alloc _, by simp [h2s], fun a ha => ?_⟩, fun a ha => ?_, fun a ha => ?_⟩
  · rw [Array.getElem?_setIfInBounds]
    by_cases e : k = a
    · subst e
      rw [if_pos rfl, if_pos (by omega), hs]
    · rw [if_neg e]
      exact h1' a (by omega)
  · rw [Array.getElem?_setIfInBounds]
    by_cases e : k = a
    · subst e
      rw [if_pos rfl, if_pos (by omega), hs]
      have : S + 2 + 2 * k + 1 = S + 3 + 2 * k := by omega
      rw [this]
    · rw [if_neg e]
      exact h2' a (by omega)
  · by_cases e : k = a
    · subst e
      rw [← hs]
      exact hT.alloc _
    · exact ((k3 (h3 a (by omega)) (by omega) (by omega)).alloc _).alloc _
  · by_cases e : k = a
    · subst e
      have : S + 3 + 2 * k = w.heap.size + 1 := by omega
      rw [this]
      exact hU
    · exact ((k3 (h4 a (by omega)) (by omega) (by omega)).alloc _).alloc _

end Go.Proofs.YtkghblgiojidgaaDoor
