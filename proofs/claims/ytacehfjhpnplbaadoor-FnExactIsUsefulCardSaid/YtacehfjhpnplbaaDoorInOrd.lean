/- The program's inOrder: the members of a set, rising. -/
import Derived.Test.YtacehfjhpnplbaaDoorSets
import Derived.Test.YtacehfjhpnplbaaDoorRowI
import Derived.Test.YtacehfjhpnplbaaDoorRowR
import Derived.Deep.LoopGhost
import Derived.Test.YtacehfjhpnplbaaDoorShelf
import Derived.Sort.Grow
import Derived.Sort.OwnSorted
import Derived.OwnWalk
namespace Go.Proofs.YtacehfjhpnplbaaDoor
open Go.RowKit
open Go.Sort (Holds putRow putCells grow)

theorem holdsI {w : World} {g : Nat} {cur : Array Value} {e : TypeId} {ss : List Int} (hb : w.heap[g]? = some (.cells cur e (0, 0))) (ht : cur.toList.take ss.length = ss.map (Value.int .i64)) : Holds (Value.int .i64) w g 0 ss.toArray := by
  intro j hj
  have hj' : j < ss.length := by simpa using hj
  refine ⟨?_, by simp [World.frozen?, hb]⟩
  have h1 : (cur.toList.take ss.length)[j]? = (ss.map (Value.int .i64))[j]? := by rw [ht]
  rw [List.getElem?_take_of_lt hj'] at h1
  simp only [World.cell?, hb, Nat.zero_add]
  simp only [Option.isSome_none, Bool.false_eq_true, if_false]
  rw [← Array.getElem?_toList, h1]
  simp [hj']
theorem heap_sortedI {w : World} {g n : Nat} {os : Array Obj} {cur : Array Value} {e : TypeId} {fr : Nat × Nat} (d : Array Int) (hb : w.heap[g]? = some (.cells cur e fr)) :
    (grow (putRow (Value.int .i64) (Sort.ahead w n) g 0 d) os).heap[g]? = some (.cells (putCells (Value.int .i64) 0 d cur) e fr) := by
  have hg : g < w.heap.size := (Array.getElem?_eq_some_iff.1 hb).1
  rw [Sort.heap_grow_old _ _ (by simpa using hg)]
  simp [putRow, Sort.mapBlock, Sort.ahead, Array.getElem?_modify, hb, Sort.onCells]
theorem save_sortedI {w : World} {g n : Nat} {os : Array Obj} (d : Array Int) : Save (· = g) w (grow (putRow (Value.int .i64) (Sort.ahead w n) g 0 d) os) := by
  refine ⟨rfl, rfl, rfl, by simp, fun k hk hne => ?_⟩
  rw [Sort.heap_grow_old _ _ (by simpa using hk)]
  have : g ≠ k := fun e => hne e.symm
  simp [putRow, Sort.mapBlock, Sort.ahead, Array.getElem?_modify, this]
theorem take_putI (cur : Array Value) (ts : List Int) (h : ts.length ≤ cur.size) : (putCells (Value.int .i64) 0 ts.toArray cur).toList.take ts.length = ts.map (Value.int .i64) := by
  apply List.ext_getElem?
  intro j
  by_cases hj : j < ts.length
  · rw [List.getElem?_take_of_lt hj, Array.getElem?_toList]
    simp [putCells, hj, show j < cur.size by omega]
  · rw [List.getElem?_take_eq_none (by omega), List.getElem?_eq_none (by simp; omega)]

/-- A list is rising. -/
def Rises (xs : List Int) : Prop := xs.Pairwise (· < ·)
/-- Two rising lists with the same members are one. -/
theorem rises_unique : ∀ {xs ys : List Int}, Rises xs → Rises ys → (∀ x, x ∈ xs ↔ x ∈ ys) → xs = ys := fun {xs ys} hx hy h => by
  refine List.Perm.eq_of_pairwise (le := fun a b => a < b) (fun a b _ _ h1 h2 => absurd h1 (by omega)) hx hy ((List.perm_ext_iff_of_nodup (hx.imp fun h => by omega) (hy.imp fun h => by omega)).2 h)
theorem rises_sort {xs : List Int} (hn : xs.Nodup) : Rises (xs.mergeSort fun x y => decide (x ≤ y)) := by
  have hs := List.pairwise_mergeSort (le := fun x y : Int => decide (x ≤ y)) (fun a b c h1 h2 => by simp at *; omega) (fun a b => by simp; omega) xs
  have hd : (xs.mergeSort fun x y => decide (x ≤ y)).Nodup := ((List.mergeSort_perm xs _).nodup_iff).2 hn
  exact (hs.and hd).imp fun h => by
    have h1 := of_decide_eq_true h.1
    have h2 := h.2
    omega

/-- A new rising list of just the members of S. -/
def GaveS (w : World) (S : Int → Bool) (e : Ending) (w' : World) : Prop :=
  ∃ ys, Rises ys ∧ (∀ x, x ∈ ys ↔ S x = true) ∧ GaveI' w ys e w'

theorem len6 {ys : List Int} {S : Int → Bool} (hn : ys.Nodup) (hm : ∀ x ∈ ys, S x = true) (hf : ∀ x, S x = true → 0 ≤ x ∧ x < 6) : ys.length ≤ 6 := by
  have := nodup_le ys [0, 1, 2, 3, 4, 5] hn fun x hx => by
    have h := hf x (hm x hx)
    obtain rfl | rfl | rfl | rfl | rfl | rfl : x = 0 ∨ x = 1 ∨ x = 2 ∨ x = 3 ∨ x = 4 ∨ x = 5 := by omega
    all_goals simp
  simpa using this

theorem own_saveB {S : Nat → Prop} {w w' : World} {base : Nat} {e : TypeId} {size n : Nat} {v : Value} {xs : List Value} (h : w.ownsRow base e size v n xs) (hs : Save S w w') (hv : ∀ g, v.ownBlock = some g → ¬ S g) : w'.ownsRow base e size v n xs := by
  refine ⟨h.1, ?_⟩
  rcases h.2 with hn | ⟨g, cap, cur, rfl, hb, hgg, rest⟩
  · exact .inl hn
  · exact .inr ⟨g, cap, cur, rfl, hb, (hs.block g (Array.getElem?_eq_some_iff.1 hgg).1 (hv g rfl)).trans hgg, rest⟩
theorem own_ne_rng {w : World} {q r n cnt base : Nat} {f : Int → Option Value} {left : Int → Bool} {e : TypeId} {size m : Nat} {v : Value} {xs : List Value} (h : w.ownsRow base e size v m xs) (hr : Rng w q r n f left cnt) : some r ≠ v.ownBlock := by
  obtain ⟨_, _, h1, _⟩ := hr
  exact row_ne_iter h h1
theorem save_row {w w' : World} {row : Option Nat} (h : w.grownBy w' row) : Save (fun i => some i = row) w w' := ⟨h.os, h.tape, h.output, h.size, fun i hi hs => h.block i hi hs⟩

set_option maxRecDepth 20000 in
set_option maxHeartbeats 1000000 in
theorem inOrder_any (b : Nat) (S : Int → Bool) (w : World) (hS : SetM w b S) : Calls Tryd.prog 126 #[.map (some b)] w (GaveS w S) := by
  obtain ⟨i0, hi0, hz0, hz1, hz2⟩ := info_of Tryd.infoInt
  have hbl := hS.map.lt
  obtain ⟨m, hm6, hlen⟩ : ∃ m : Nat, m ≤ 6 ∧ ∀ ty, (Builtin.len_ #[106] ty #[.map (some b)]).run Tryd.prog w = .ok (.int .i64 m) w := by
    obtain ⟨D, h1, _⟩ := hS.map
    exact ⟨_, h1.size_le, fun ty => h1.len Tryd.underlying106 ty⟩
  have HS := Lib.hid hS; clear hS
  have HF : Hid (∀ x, (fun x => (if S x then some (Value.bool true) else none).isSome) x = S x) := fun x => by cases h : S x <;> simp [h]
  go_enter Tryd.func126, Tryd.ntmps126
  go_wp2_with (first
    | (at_make
       refine wpList_make_own _ rfl _ _ 34 rfl w.heap.size 3 i0 (.int .i64 0) 1 Tryd.underlying34 hi0 hz0 hz1 _ _ _ m rfl rfl rfl (by rw [hz2]; omega) (by unfold maxLen; omega) (Nat.le_refl _) ?_
       intro w1 h1 h2
       have HR1 := Lib.hid h1
       have HB1 := Lib.hid (below_grown h2)
       have HS1 := Lib.hid (HS.out.keep HB1.out)
       clear h1 h2)
    | (at_range
       refine wpList_range_map _ rfl _ _ rfl _ Tryd.underlying106 b 6 _ rfl HS1.out.map ?_
       intro w2 cnt h1 h2 h3 h4
       have HR2 := Lib.hid h1
       have HB2 := Lib.hid h3
       clear h1 h2 h3 h4))
  try go_frame
  have HW2 : Hid (Below w.heap.size w w2) := HB1.out.trans (HB2.out.mono HB1.out.size)
  have HO2 := Lib.hid (own_below HR1.out HB2.out)
  have hw1 : w.heap.size ≤ w1.heap.size := HB1.out.size
  clear hlen
  go_loopg [3] cnt (fun g v wr => ∃ (left : Int → Bool) (xs : List Int), Hid (Rng wr b w1.heap.size 6 (fun x => if S x then some (.bool true) else none) left g) ∧ Hid (wr.ownsRow w.heap.size 3 1 v xs.length (xs.map fun y => Value.int .i64 y)) ∧ Hid (v ≠ .slice none 0 0) ∧ Hid (xs.Nodup ∧ ∀ x, x ∈ xs ↔ (S x = true ∧ left x = false)) ∧ Hid (Below w.heap.size w wr))
  case atStart =>
    refine ⟨_, [], HR2.out, HO2.out, (fun h => by cases h), ⟨List.nodup_nil, fun x => ?_⟩, HW2.out⟩
    rw [HF.out x]
    cases S x <;> simp
  case round =>
    obtain ⟨left, xs, HR, HO, HNN, HC, HB⟩ := hrel
    clear HR2 HO2 HW2 HS1 HR1
    have hx6 : xs.length ≤ 6 := len6 HC.out.1 (fun x hx => ((HC.out.2 x).1 hx).1) HS.out.fits
    have hws : w.heap.size ≤ wr.heap.size := HB.out.size
    go_wp2_with (at_next
                 refine wpList_next_rng _ rfl _ rfl b w1.heap.size 6 _ _ _ rfl HR.out ?_ ?_)
    · intro _ hl0
      rcases HO.out.2 with ⟨hnil, _⟩ | ⟨g, cap, cur, rfl, hbase, hb, h1, h2, h3, h4⟩
      · exact absurd hnil HNN.out
      have hgl : g < wr.heap.size := (Array.getElem?_eq_some_iff.1 hb).1
      have hH : Holds (Value.int .i64) wr g 0 xs.toArray := holdsI hb (by simpa using h4)
      have HCL := Lib.hid (Tryd.slices_Sort_int g 0 cap xs wr hH hgl (by omega))
      have HRW : Hid (wr.heap[g]? = some (.cells cur 3 (0, 0))) := hb
      have HSZ : Hid (xs.length ≤ cur.size) := by show _ ≤ _; omega
      have HBS := Lib.hid hbase
      have HL0 := Lib.hid hl0
      have hgb : g ≠ b := fun e => by omega
      clear hb h1 h2 h3 h4 hH hl0 hbase
      go_wp2_with fail
      refine HCL.out.mono ?_
      rintro e w3 ⟨rfl, nn, os, hw3⟩
      have HV3 : Hid (Save (· = g) wr w3) := by show Save _ _ _; rw [hw3]; exact save_sortedI _
      have HR3 : Hid (Row w3 g 3 (putCells (Value.int .i64) 0 (xs.mergeSort fun x y => decide (x ≤ y)).toArray cur)) := by
        show w3.heap[g]? = _
        rw [hw3]
        exact heap_sortedI _ HRW.out
      clear hw3 HCL HRW
      go_wp2
      go_ret
      refine ⟨xs.mergeSort fun x y => decide (x ≤ y), rises_sort HC.out.1, fun x => ?_, some ⟨g, 0, none⟩, cap, by rw [List.length_mergeSort]; rfl, .inr ⟨g, _, rfl, HBS.out, HR3.out, fun k x hk => ?_⟩, HB.out.trans (HV3.out.below HB.out.size fun i hi e => by have := HBS.out; omega)⟩
      · rw [List.mem_mergeSort, HC.out.2 x, HL0.out x]
        simp
      · have ht := take_putI cur (xs.mergeSort fun x y => decide (x ≤ y)) (by rw [List.length_mergeSort]; exact HSZ.out)
        have hk' := (List.getElem?_eq_some_iff.1 hk).1
        have e2 := congrArg (fun l => l[k]?) ht
        simp only [List.getElem?_map, hk, Option.map_some] at e2
        rw [List.getElem?_take_of_lt hk', Array.getElem?_toList] at e2
        exact e2
    · intro x v w2' cnt2 hx hl hsx hve hR hlt hSv hsz hen
      subst hve
      have HLT := Lib.hid hlt
      have HR3 := Lib.hid hR
      have HV3 := Lib.hid hSv
      have HNX : Hid ((xs ++ [x]).Nodup ∧ ∀ y, y ∈ xs ++ [x] ↔ (S y = true ∧ strike left x y = false)) := by
        have hnx : x ∉ xs := fun h => by
          have := ((HC.out.2 x).1 h).2
          rw [hl] at this
          cases this
        refine ⟨List.nodup_append.2 ⟨HC.out.1, by simp, fun a ha c hc => by simp at hc; subst hc; exact fun e => hnx (e ▸ ha)⟩, fun y => ?_⟩
        rw [List.mem_append, HC.out.2 y]
        by_cases e : y = x
        · subst e
          simp [strike_same, hsx]
        · rw [strike_other e]
          simp [e]
      have HO3 := Lib.hid (own_saveB HO.out hSv fun g hg (e : g = w1.heap.size) => own_ne_rng HO.out HR.out (by rw [hg, e]))
      have hsz2 : w.heap.size ≤ w2'.heap.size := by omega
      have HW := Lib.hid (HO3.out.alloc (.cells #[.int .i64 x] 3))
      have HNW := Lib.hid (cell_one_new w2' (.int .i64 x) 3)
      have HB3 : Hid (Below w.heap.size w w2') := HB.out.trans (HV3.out.below HB.out.size fun i hi e => by omega)
      clear hR hSv hlt hsz hl
      go_wp2_with (at_builtin
                   refine wpList_append_own _ rfl _ _ _ rfl w.heap.size 3 i0 _ 1 8 Tryd.underlying34 hi0 hz0 hz1 hz2 rfl (by omega) _ _ _ rfl HW.out ⟨w2'.heap.size, 0, none⟩ 1 1 [.int .i64 x] rfl rfl HNW.out (by intro u hu; simp at hu; subst hu; rfl) (by unfold maxLen; omega) (by omega) (by simp; omega) ?_
                   intro v' w' h1 h2 h3
                   have HO1 := Lib.hid h1
                   have HG1 := Lib.hid h2
                   have HN1 := Lib.hid h3
                   clear h1 h2 h3)
      go_roundg cnt2
      case measure => exact HLT.out
      case rel =>
        have hbA : Below w2'.heap.size w2' (w2'.alloc (.cells #[.int .i64 x] 3)) := (Below.refl _ _).alloc (Nat.le_refl _) _
        refine ⟨strike left x, xs ++ [x], (HR3.out.keep hbA).save (save_row HG1.out) ?_ ?_, (by show World.ownsRow _ _ _ _ _ _ _; simpa using HO1.out), fun hv' => ?_, HNX.out, ?_⟩
        · intro e
          have := (HO3.out.lt _ e.symm).1
          omega
        · exact own_ne_rng (HO3.out) HR3.out
        · have := (HN1.out.1 hv').2
          simp at this
        · exact (HB3.out.alloc (by omega) _).grown HG1.out (by simp; omega) fun j hj => (HO3.out.lt j hj).1

end Go.Proofs.YtacehfjhpnplbaaDoor
