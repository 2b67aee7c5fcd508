/- Rising lists, and what sorting leaves of the memory. -/
import Derived.Test.YtkghblgiojidgaaDoorSets
import Derived.Test.YtkghblgiojidgaaDoorRowI
import Derived.Test.YtkghblgiojidgaaDoorRowR
import Derived.Deep.LoopGhost
import Derived.Sort.Grow
import Derived.Sort.OwnSorted
import Derived.OwnWalk
namespace Go.Proofs.YtkghblgiojidgaaDoor
open Go.RowKit
open Go.Sort (Holds putRow putCells grow)

theorem holdsI {w : World} {g : Nat} {cur : Array Value} {e : TypeId} {ss : List Int} (hb : w.heap[g]? = some (.cells cur e (0, 0))) (ht : cur.toList.take ss.length = ss.map (Value.int .i64)) : Holds (Value.int .i64) w g 0 ss.toArray := by
  intro j hj
  have hj' : j < ss.length := by simpa using hj
  refine ⟨?_, by simp [World.frozen?, hb]⟩
  have h1 : (cur.toList.take ss.length)[j]? = (ss.map (Value.int .i64))[j]? := by rw [ht]
  rw [List.getElem?_take_of_lt hj'] at h1
  simp only [World.cell?, hb, Nat.zero_add]
  simp only [Option.isSome_none, Bool.false_eq_true, if_false]
  rw [← Array.getElem?_toList, h1]
  simp [hj']
theorem heap_sortedI {w : World} {g n : Nat} {os : Array Obj} {cur : Array Value} {e : TypeId} {fr : Nat × Nat} (d : Array Int) (hb : w.heap[g]? = some (.cells cur e fr)) :
    (grow (putRow (Value.int .i64) (Sort.ahead w n) g 0 d) os).heap[g]? = some (.cells (putCells (Value.int .i64) 0 d cur) e fr) := by
  have hg : g < w.heap.size := (Array.getElem?_eq_some_iff.1 hb).1
  rw [Sort.heap_grow_old _ _ (by simpa using hg)]
  simp [putRow, Sort.mapBlock, Sort.ahead, Array.getElem?_modify, hb, Sort.onCells]
theorem save_sortedI {w : World} {g n : Nat} {os : Array Obj} (d : Array Int) : Save (· = g) w (grow (putRow (Value.int .i64) (Sort.ahead w n) g 0 d) os) := by
  refine ⟨rfl, rfl, rfl, by simp, fun k hk hne => ?_⟩
  rw [Sort.heap_grow_old _ _ (by simpa using hk)]
  have : g ≠ k := fun e => hne e.symm
  simp [putRow, Sort.mapBlock, Sort.ahead, Array.getElem?_modify, this]
theorem take_putI (cur : Array Value) (ts : List Int) (h : ts.length ≤ cur.size) : (putCells (Value.int .i64) 0 ts.toArray cur).toList.take ts.length = ts.map (Value.int .i64) := by
  apply List.ext_getElem?
  intro j
  by_cases hj : j < ts.length
  · rw [List.getElem?_take_of_lt hj, Array.getElem?_toList]
    simp [putCells, hj, show j < cur.size by omega]
  · rw [List.getElem?_take_eq_none (by omega), List.getElem?_eq_none (by simp; omega)]

/-- A list is rising. -/
def Rises (xs : List Int) : Prop := xs.Pairwise (· < ·)
/-- Two rising lists with the same members are one. -/
theorem rises_unique : ∀ {xs ys : List Int}, Rises xs → Rises ys → (∀ x, x ∈ xs ↔ x ∈ ys) → xs = ys := fun {xs ys} hx hy h => by
  refine List.Perm.eq_of_pairwise (le := fun a b => a < b) (fun a b _ _ h1 h2 => absurd h1 (by omega)) hx hy ((List.perm_ext_iff_of_nodup (hx.imp fun h => by omega) (hy.imp fun h => by omega)).2 h)
theorem rises_sort {xs : List Int} (hn : xs.Nodup) : Rises (xs.mergeSort fun x y => decide (x ≤ y)) := by
  have hs := List.pairwise_mergeSort (le := fun x y : Int => decide (x ≤ y)) (fun a b c h1 h2 => by simp at *; omega) (fun a b => by simp; omega) xs
  have hd : (xs.mergeSort fun x y => decide (x ≤ y)).Nodup := ((List.mergeSort_perm xs _).nodup_iff).2 hn
  exact (hs.and hd).imp fun h => by
    have h1 := of_decide_eq_true h.1
    have h2 := h.2
    omega

/-- A new rising list of just the members of S. -/
def GaveS (w : World) (S : Int → Bool) (e : Ending) (w' : World) : Prop :=
  ∃ ys, Rises ys ∧ (∀ x, x ∈ ys ↔ S x = true) ∧ GaveI' w ys e w'

theorem len6 {ys : List Int} {S : Int → Bool} (hn : ys.Nodup) (hm : ∀ x ∈ ys, S x = true) (hf : ∀ x, S x = true → 0 ≤ x ∧ x < 6) : ys.length ≤ 6 := by
  have := nodup_le ys [0, 1, 2, 3, 4, 5] hn fun x hx => by
    have h := hf x (hm x hx)
    obtain rfl | rfl | rfl | rfl | rfl | rfl : x = 0 ∨ x = 1 ∨ x = 2 ∨ x = 3 ∨ x = 4 ∨ x = 5 := by omega
    all_goals simp
  simpa using this

theorem own_saveB {S : Nat → Prop} {w w' : World} {base : Nat} {e : TypeId} {size n : Nat} {v : Value} {xs : List Value} (h : w.ownsRow base e size v n xs) (hs : Save S w w') (hv : ∀ g, v.ownBlock = some g → ¬ S g) : w'.ownsRow base e size v n xs := by
  refine ⟨h.1, ?_⟩
  rcases h.2 with hn | ⟨g, cap, cur, rfl, hb, hgg, rest⟩
  · exact .inl hn
  · exact .inr ⟨g, cap, cur, rfl, hb, (hs.block g (Array.getElem?_eq_some_iff.1 hgg).1 (hv g rfl)).trans hgg, rest⟩
theorem own_ne_rng {w : World} {q r n cnt base : Nat} {f : Int → Option Value} {left : Int → Bool} {e : TypeId} {size m : Nat} {v : Value} {xs : List Value} (h : w.ownsRow base e size v m xs) (hr : Rng w q r n f left cnt) : some r ≠ v.ownBlock := by
  obtain ⟨_, _, h1, _⟩ := hr
  exact row_ne_iter h h1
theorem save_row {w w' : World} {row : Option Nat} (h : w.grownBy w' row) : Save (fun i => some i = row) w w' := ⟨h.os, h.tape, h.output, h.size, fun i hi hs => h.block i hi hs⟩

end Go.Proofs.YtkghblgiojidgaaDoor
