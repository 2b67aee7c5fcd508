/- The program's nullableBy, productiveBy, growingBy, reachedFrom, reachedBy. -/
import Derived.Test.YtfbpcdmpkbjifaaDoorWB03
import Derived.Test.YtfbpcdmpkbjifaaDoorWB01
import Derived.Maps.AppendAt
import Derived.Test.YtfbpcdmpkbjifaaDoorWB02
import Derived.Deep.OwnRows
import Derived.Deep.LoopGhost
import Derived.Sort.Grow
import Derived.Sort.OwnSorted
import Derived.OwnWalk
import Derived.Laws.CopyOwn
import Derived.LoopN

namespace Go.Proofs.YtfbpcdmpkbjifaaDoor
open Go.RowKit

theorem SetM.below {w w' : World} {b B : Nat} {S : Int → Bool} (h : SetM w b S) (hb : Below B w w') (hB : b < B) : SetM w' b S :=
  h.save (T := fun i => B ≤ i) ⟨hb.os, hb.tape, hb.output, hb.size, fun i _ hs => hb.block i (by omega)⟩ (by omega)

theorem good_fit {n t : Int} {ss : List (Int × List Int)} (hg : goodG n t ss = true) {u : Ru} (hu : u.abs ∈ ss) : FitI u.r := fun x hx => by
  have h1 := goodG_is hg
  have h2 := (goodG_mem hg hu).2.2 x hx
  unfold F64
  omega
theorem good_len {n t : Int} {ss : List (Int × List Int)} (hg : goodG n t ss = true) {u : Ru} (hu : u.abs ∈ ss) : u.r.length ≤ 4 := (goodG_mem hg hu).2.1
theorem good_16 {n t : Int} {rs : List Ru} (hg : goodG n t (rs.map Ru.abs) = true) : rs.length ≤ 1048576 := by have h := (goodG_is hg).2.2.1; simp at h; omega

set_option maxRecDepth 20000 in
theorem enter_null (xs : Array Value) (v : World) : Sem.run Tryd.prog (callFunc 138 xs) v = .ok (.enter 138 xs) v := rfl
set_option maxRecDepth 20000 in
set_option maxHeartbeats 1000000 in
theorem nullableBy_any (n t : Int) (A : Option Addr) (c : Nat) (rs : List Ru) (w : World) (hx : Rls w w.heap.size A rs) (hg : goodG n t (rs.map Ru.abs) = true) :
    Calls Tryd.prog 102 #[.slice A rs.length c] w (GaveSet w (IsLeast wayNull noS (rs.map Ru.abs))) := by
  have HC := Lib.hid (closeLefts_any wayNull (fun _ => rfl) A c rs (fit_lefts hg fun _ => rfl) 138 #[] (fun _ => True) w hx (good_16 hg) enter_null trivial (fun _ _ _ _ => trivial) fun b _ v S u _ hS hI hm => by
    have h := allNull_any b S u.a u.r u.c v hS hI (good_fit hg hm) (good_len hg hm)
    exact h.mono fun e v' ⟨h1, h2⟩ => ⟨h1, by subst h2; exact Below.refl _ _⟩)
  clear hx hg
  go_enter Tryd.func102, Tryd.ntmps102
  go_wp2_with fail
  refine HC.out.mono ?_
  rintro e w1 ⟨b, S, rfl, h1, h2, h3, h4⟩
  have H1 := Lib.hid h1; have H2 := Lib.hid h2; have H3 := Lib.hid h3; have H4 := Lib.hid h4
  clear h1 h2 h3 h4
  go_wp2
  go_ret
  exact ⟨b, S, rfl, H1.out, H2.out, H3.out, H4.out⟩

/-- The first k symbols of a right side are put into a set, the tokens left out. -/
def putR (S : Int → Bool) (xs : List Int) : Int → Bool := fun x => S x || (decide (0 ≤ x) && xs.contains x)
theorem putR_nil (S : Int → Bool) : putR S [] = S := by
  funext x
  simp [putR]
theorem contains_take {xs : List Int} {k : Nat} (hk : k < xs.length) (x : Int) : (xs.take (k + 1)).contains x = ((xs.take k).contains x || decide (x = xs[k])) := by
  rw [List.take_succ_eq_append_getElem hk]
  generalize xs.take k = l
  generalize xs[k] = y
  rw [Bool.eq_iff_iff]
  simp
theorem putR_tok {S : Int → Bool} {xs : List Int} {k : Nat} (hk : k < xs.length) (h : xs[k] < 0) : putR S (xs.take (k + 1)) = putR S (xs.take k) := by
  funext x
  unfold putR
  rw [contains_take hk]
  by_cases e : x = xs[k]
  · have : decide (0 ≤ x) = false := decide_eq_false (by omega)
    rw [this]
    rfl
  · rw [decide_eq_false e, Bool.or_false]
theorem putR_non {S : Int → Bool} {xs : List Int} {k : Nat} (hk : k < xs.length) (h : ¬ xs[k] < 0) : putR S (xs.take (k + 1)) = addS (putR S (xs.take k)) xs[k] := by
  funext x
  unfold putR addS
  rw [contains_take hk]
  by_cases e : x = xs[k]
  · have h0 : decide (0 ≤ x) = true := decide_eq_true (by omega)
    rw [h0, decide_eq_true e]
    simp
  · rw [decide_eq_false e, Bool.or_false, Bool.false_or]
theorem putR_all {S : Int → Bool} {u : Ru} (h : S u.l = true) : putR S u.r = useW wayReach S u.abs := by
  funext x
  unfold putR useW
  have h1 : wayReach.fires S u.abs = true := h
  have h2 : (wayReach.adds u.abs).contains x = (decide (0 ≤ x) && u.r.contains x) := by
    show (u.r.filter fun x => decide (0 ≤ x)).contains x = _
    rw [Bool.eq_iff_iff]
    simp [and_comm]
  rw [h1, h2]
  rfl

end Go.Proofs.YtfbpcdmpkbjifaaDoor

/- A new slice of numbers as an answer. -/

namespace Go.Proofs.YtfbpcdmpkbjifaaDoor
open Go.RowKit

/-- A new slice of numbers, and a bool. -/
def GaveIB (w : World) (ys : List Int) (b : Bool) (e : Ending) (w' : World) : Prop :=
  ∃ A c, e = .returned (.tuple #[.slice A ys.length c, .bool b]) ∧ OwnI w' w.heap.size A ys ∧ Below w.heap.size w w'

theorem ownI_of_row {w : World} {lo : Nat} {v : Value} {n : Nat} {ys : List Int} (h : w.ownsRow lo 3 1 v n (ys.map fun y => Value.int .i64 y)) : ∃ A c, v = .slice A ys.length c ∧ OwnI w lo A ys := by
  obtain ⟨hl, h⟩ := h
  have hn : n = ys.length := by simpa using hl.symm
  subst hn
  rcases h with ⟨rfl, h0⟩ | ⟨g, cap, cur, rfl, hlo, hg, _, _, _, hx⟩
  · have : ys = [] := List.eq_nil_of_length_eq_zero h0
    subst this
    exact ⟨none, 0, rfl, .inl rfl⟩
  · refine ⟨_, cap, rfl, .inr ⟨g, cur, rfl, hlo, hg, fun k x hk => ?_⟩⟩
    have hk' := (List.getElem?_eq_some_iff.1 hk).1
    have e := congrArg (fun l => l[k]?) hx
    simp only [List.getElem?_map, hk, Option.map_some] at e
    rw [List.getElem?_take, if_pos (by omega)] at e
    simpa using e

def GaveI' (w : World) (ys : List Int) (e : Ending) (w' : World) : Prop := ∃ A c, e = .returned (.slice A ys.length c) ∧ OwnI w' w.heap.size A ys ∧ Below w.heap.size w w'

end Go.Proofs.YtfbpcdmpkbjifaaDoor

/- Rows of rules that the call itself makes: owned, read as a list, appended to. -/

namespace Go.Proofs.YtfbpcdmpkbjifaaDoor
open Go.RowKit

def cellsU (u : Ru) : List Value := [.int .i64 u.l, .slice u.a u.r.length u.c]

theorem flat_get : ∀ {ds : List Ru} {k : Nat} {u : Ru}, ds[k]? = some u → (ds.flatMap cellsU)[k * 2]? = some (.int .i64 u.l) ∧ (ds.flatMap cellsU)[k * 2 + 1]? = some (.slice u.a u.r.length u.c)
  | [], k, u, h => by simp at h
  | d :: ds, 0, u, h => by
    simp at h
    subst h
    simp [cellsU]
  | d :: ds, k + 1, u, h => by
    have ih := flat_get (ds := ds) (k := k) (u := u) (by simpa using h)
    have e1 : (k + 1) * 2 = k * 2 + 1 + 1 := by omega
    have e2 : (k + 1) * 2 + 1 = k * 2 + 1 + 1 + 1 := by omega
    rw [e1]
    simpa [cellsU] using ih

theorem flat_length (ds : List Ru) : (ds.flatMap cellsU).length = ds.length * 2 := by
  induction ds with
  | nil => rfl
  | cons d ds ih => rw [List.flatMap_cons, List.length_append, ih]; simp [cellsU]; omega

theorem own_below {w w' : World} {base : Nat} {e : TypeId} {size n : Nat} {v : Value} {xs : List Value} (h : w.ownsRow base e size v n xs) (hb : Below w.heap.size w w') : w'.ownsRow base e size v n xs := by
  obtain ⟨h1, h2 | ⟨g, cap, cur, h3, h4, h5, h6⟩⟩ := h
  · exact ⟨h1, .inl h2⟩
  · exact ⟨h1, .inr ⟨g, cap, cur, h3, h4, (hb.block g (Row.lt (t := e) h5)).trans h5, h6⟩⟩

/-- A right side lies apart from a row of rules that is appended to. -/
theorem OwnI.grown {w w' : World} {lo base n : Nat} {A : Option Addr} {xs : List Int} {v : Value} {cs : List Value} (h : OwnI w lo A xs) (hv : w.ownsRow base 166 2 v n cs) (hg : w.grownBy w' v.ownBlock) : OwnI w' lo A xs := by
  rcases h with h | ⟨g, rc, e, hl, hr, hc⟩
  · exact .inl h
  · refine .inr ⟨g, rc, e, hl, (hg.block g hr.lt fun hb => ?_).trans hr, hc⟩
    obtain ⟨_, ⟨rfl, _⟩ | ⟨g', cap, cur, rfl, _, h5, _⟩⟩ := hv
    · cases hb
    · injection hb with hb
      subst hb
      exact hr.ne (t' := 166) (cs' := cur) h5 (by decide) rfl

theorem ownR_of_row {w : World} {lo k : Nat} {v : Value} {ds : List Ru} (h1 : ds.length = k) (h2 : w.ownsRow lo 166 2 v k (ds.flatMap cellsU)) (h4 : ∀ (j : Nat) (u : Ru), ds[j]? = some u → OwnI w lo u.a u.r)
    (h5 : ∀ (i j : Nat) (u v : Ru), ds[i]? = some u → ds[j]? = some v → i ≠ j → u.r ≠ [] → v.r ≠ [] → u.a ≠ v.a) : ∃ A c, v = .slice A ds.length c ∧ ds.length ≤ c ∧ OwnR w lo A ds := by
  subst h1
  obtain ⟨_, ⟨rfl, h0⟩ | ⟨g, cap, cur, rfl, hlo, hg, hcap, _, _, hx⟩⟩ := h2
  · have : ds = [] := List.eq_nil_of_length_eq_zero h0
    subst this
    exact ⟨none, 0, rfl, Nat.le_refl _, .inl rfl⟩
  · refine ⟨_, cap, rfl, hcap, .inr ⟨g, cur, rfl, hlo, hg, fun k u hu => ?_, h5⟩⟩
    have hk := (List.getElem?_eq_some_iff.1 hu).1
    obtain ⟨f1, f2⟩ := flat_get hu
    rw [← hx] at f1 f2
    rw [List.getElem?_take, if_pos (by omega)] at f1 f2
    exact ⟨by simpa using f1, by simpa using f2, h4 k u hu⟩

theorem two_new (w : World) (x y : Value) (t : TypeId) : ∀ j u, [x, y][j]? = some u → (w.alloc (.cells #[x, y] t)).cell? ((⟨w.heap.size, 0, none⟩ : Addr).add j) = some u := by
  intro j u h
  rw [Go.WideShapes.add_plain, Nat.zero_add]
  rcases j with _ | _ | j
  · simpa [go_sem] using h
  · simpa [go_sem] using h
  · simp at h

/-- The slice v of rules is the call's own and reads as ds; each right side is the call's own, and no two lie in one block. -/
structure RulesW (w : World) (lo : Nat) (v : Value) (ds : List Ru) : Prop where
  row : w.ownsRow lo 166 2 v ds.length (ds.flatMap cellsU)
  rts : ∀ (j : Nat) (u : Ru), ds[j]? = some u → OwnI w lo u.a u.r
  far : ∀ (i j : Nat) (u v : Ru), ds[i]? = some u → ds[j]? = some v → i ≠ j → u.r ≠ [] → v.r ≠ [] → u.a ≠ v.a

theorem RulesW.start (w : World) (lo : Nat) : RulesW w lo (.slice none 0 0) [] := ⟨⟨rfl, .inl ⟨rfl, rfl⟩⟩, fun j u h => by simp at h, fun i j u v h => by simp at h⟩
theorem RulesW.keep {w w' : World} {lo : Nat} {v : Value} {ds : List Ru} (h : RulesW w lo v ds) (hb : Below w.heap.size w w') : RulesW w' lo v ds :=
  ⟨own_below h.row hb, fun j x hx => (h.rts j x hx).below hb (Nat.le_refl _), h.far⟩
theorem RulesW.low {w : World} {lo : Nat} {v : Value} {ds : List Ru} (h : RulesW w lo v ds) {p : Addr} (hp : p.block < lo) (u : Value) : RulesW (w.setCell p u) lo v ds :=
  ⟨ownsRow_setCell_below h.row hp u, fun j x hx => (h.rts j x hx).low hp u, h.far⟩
theorem RulesW.slice {w : World} {lo : Nat} {v : Value} {ds : List Ru} (h : RulesW w lo v ds) : ∃ A c, v = .slice A ds.length c ∧ ds.length ≤ c ∧ OwnR w lo A ds := ownR_of_row rfl h.row h.rts h.far
/-- Blocks below lo may turn. -/
theorem RulesW.save {S : Nat → Prop} {w w' : World} {lo : Nat} {v : Value} {ds : List Ru} (h : RulesW w lo v ds) (hs : Save S w w') (hS : ∀ b, lo ≤ b → ¬ S b) : RulesW w' lo v ds := by
  refine ⟨?_, fun j x hx => (h.rts j x hx).save hs fun g e hn => ?_, h.far⟩
  · obtain ⟨hl, h1 | ⟨g, cap, cur, e1, hlo, hg, e2, e3, e4, e5⟩⟩ := h.row
    · exact ⟨hl, .inl h1⟩
    · exact ⟨hl, .inr ⟨g, cap, cur, e1, hlo, (hs.block g (Row.lt hg) (hS g hlo)).trans hg, e2, e3, e4, e5⟩⟩
  · rcases h.rts j x hx with h6 | ⟨g1, _, e1, hl, _⟩
    · exact absurd h6 hn
    · have := e.symm.trans e1
      injection this with this
      injection this with this
      subst this
      exact hS g hl

theorem last_of {ds : List Ru} {x : Ru} {i : Nat} {u : Ru} (hi : ¬ i < ds.length) (hu : (ds ++ [x])[i]? = some u) : i = ds.length ∧ u = x := by
  rw [List.getElem?_append_right (by omega)] at hu
  have hj : i - ds.length = 0 := by
    rcases Nat.eq_zero_or_pos (i - ds.length) with h0 | h0
    · exact h0
    · rw [List.getElem?_eq_none (by simp; omega)] at hu; cases hu
  rw [hj] at hu
  simp at hu
  exact ⟨by omega, hu.symm⟩

/-- A rule is appended: its right side lies apart from all that are there. -/
theorem RulesW.step {w w2 : World} {lo : Nat} {v v' : Value} {ds : List Ru} {l : Int} {A : Option Addr} {xs : List Int} {c : Nat} (h : RulesW w lo v ds) (hO : OwnI w lo A xs)
    (hap : ∀ (j : Nat) (u : Ru), ds[j]? = some u → u.r ≠ [] → xs ≠ [] → u.a ≠ A)
    (ho : w2.ownsRow lo 166 2 v' (ds.length + 1) (ds.flatMap cellsU ++ [.int .i64 l, .slice A xs.length c])) (hg : w.grownBy w2 v.ownBlock) : RulesW w2 lo v' (ds ++ [⟨l, A, xs, c⟩]) := by
  refine ⟨?_, ?_, ?_⟩
  · rw [List.length_append, List.flatMap_append]
    simpa [cellsU] using ho
  · intro j u hu
    by_cases e : j < ds.length
    · rw [List.getElem?_append_left (by omega)] at hu
      exact (h.rts j u hu).grown h.row hg
    · obtain ⟨_, rfl⟩ := last_of e hu
      exact hO.grown h.row hg
  · intro i j u v hu hv hij hun hvn
    by_cases hi : i < ds.length <;> by_cases hj : j < ds.length
    · rw [List.getElem?_append_left (by omega)] at hu hv
      exact h.far i j u v hu hv hij hun hvn
    · obtain ⟨rfl, rfl⟩ := last_of hj hv
      rw [List.getElem?_append_left (by omega)] at hu
      exact hap i u hu hun hvn
    · obtain ⟨rfl, rfl⟩ := last_of hi hu
      rw [List.getElem?_append_left (by omega)] at hv
      exact fun e => hap j v hv hvn hun e.symm
    · have := (last_of hi hu).1; have := (last_of hj hv).1; omega

/-- A right side that was made later lies apart. -/
theorem RulesW.apart {w w1 : World} {lo : Nat} {v : Value} {ds : List Ru} {A : Option Addr} {xs : List Int} (h : RulesW w lo v ds) (hO : OwnI w1 w.heap.size A xs) : ∀ (j : Nat) (u : Ru), ds[j]? = some u → u.r ≠ [] → xs ≠ [] → u.a ≠ A := by
  intro j u hu hne hne' he
  rcases h.rts j u hu with h6 | ⟨g1, _, e1, _, r1, _⟩
  · exact hne h6
  · rcases hO with h7 | ⟨g2, _, e2, l2, _, _⟩
    · exact hne' h7
    · rw [e1, e2] at he
      have := r1.lt
      injection he with he
      injection he with he
      omega

end Go.Proofs.YtfbpcdmpkbjifaaDoor

/- Rising lists, and what sorting leaves of the memory. -/

namespace Go.Proofs.YtfbpcdmpkbjifaaDoor
open Go.RowKit
open Go.Sort (Holds putRow putCells grow)

theorem holdsI {w : World} {g : Nat} {cur : Array Value} {e : TypeId} {ss : List Int} (hb : w.heap[g]? = some (.cells cur e (0, 0))) (ht : cur.toList.take ss.length = ss.map (Value.int .i64)) : Holds (Value.int .i64) w g 0 ss.toArray := by
  intro j hj
  have hj' : j < ss.length := by simpa using hj
  refine ⟨?_, by simp [World.frozen?, hb]⟩
  have h1 : (cur.toList.take ss.length)[j]? = (ss.map (Value.int .i64))[j]? := by rw [ht]
  rw [List.getElem?_take_of_lt hj'] at h1
  simp only [World.cell?, hb, Nat.zero_add]
  simp only [Option.isSome_none, Bool.false_eq_true, if_false]
  rw [← Array.getElem?_toList, h1]
  simp [hj']
theorem heap_sortedI {w : World} {g n : Nat} {os : Array Obj} {cur : Array Value} {e : TypeId} {fr : Nat × Nat} (d : Array Int) (hb : w.heap[g]? = some (.cells cur e fr)) :
    (grow (putRow (Value.int .i64) (Sort.ahead w n) g 0 d) os).heap[g]? = some (.cells (putCells (Value.int .i64) 0 d cur) e fr) := by
  have hg : g < w.heap.size := (Array.getElem?_eq_some_iff.1 hb).1
  rw [Sort.heap_grow_old _ _ (by simpa using hg)]
  simp [putRow, Sort.mapBlock, Sort.ahead, Array.getElem?_modify, hb, Sort.onCells]
theorem save_sortedI {w : World} {g n : Nat} {os : Array Obj} (d : Array Int) : Save (· = g) w (grow (putRow (Value.int .i64) (Sort.ahead w n) g 0 d) os) := by
  refine ⟨rfl, rfl, rfl, by simp, fun k hk hne => ?_⟩
  rw [Sort.heap_grow_old _ _ (by simpa using hk)]
  have : g ≠ k := fun e => hne e.symm
  simp [putRow, Sort.mapBlock, Sort.ahead, Array.getElem?_modify, this]
theorem take_putI (cur : Array Value) (ts : List Int) (h : ts.length ≤ cur.size) : (putCells (Value.int .i64) 0 ts.toArray cur).toList.take ts.length = ts.map (Value.int .i64) := by
  apply List.ext_getElem?
  intro j
  by_cases hj : j < ts.length
  · rw [List.getElem?_take_of_lt hj, Array.getElem?_toList]
    simp [putCells, hj, show j < cur.size by omega]
  · rw [List.getElem?_take_eq_none (by omega), List.getElem?_eq_none (by simp; omega)]

/-- A list is rising. -/
def Rises (xs : List Int) : Prop := xs.Pairwise (· < ·)
/-- Two rising lists with the same members are one. -/
theorem rises_unique : ∀ {xs ys : List Int}, Rises xs → Rises ys → (∀ x, x ∈ xs ↔ x ∈ ys) → xs = ys := fun {xs ys} hx hy h => by
  refine List.Perm.eq_of_pairwise (le := fun a b => a < b) (fun a b _ _ h1 h2 => absurd h1 (by omega)) hx hy ((List.perm_ext_iff_of_nodup (hx.imp fun h => by omega) (hy.imp fun h => by omega)).2 h)
theorem rises_sort {xs : List Int} (hn : xs.Nodup) : Rises (xs.mergeSort fun x y => decide (x ≤ y)) := by
  have hs := List.pairwise_mergeSort (le := fun x y : Int => decide (x ≤ y)) (fun a b c h1 h2 => by simp at *; omega) (fun a b => by simp; omega) xs
  have hd : (xs.mergeSort fun x y => decide (x ≤ y)).Nodup := ((List.mergeSort_perm xs _).nodup_iff).2 hn
  exact (hs.and hd).imp fun h => by
    have h1 := of_decide_eq_true h.1
    have h2 := h.2
    omega

/-- A new rising list of just the members of S. -/
def GaveS (w : World) (S : Int → Bool) (e : Ending) (w' : World) : Prop :=
  ∃ ys, Rises ys ∧ (∀ x, x ∈ ys ↔ S x = true) ∧ GaveI' w ys e w'

theorem len6 {ys : List Int} {S : Int → Bool} (hn : ys.Nodup) (hm : ∀ x ∈ ys, S x = true) (hf : ∀ x, S x = true → 0 ≤ x ∧ x < 40) : ys.length ≤ 40 := by
  have := nodup_le ys ((List.range 40).map fun (k : Nat) => (k : Int)) hn fun x hx => by
    have h := hf x (hm x hx)
    exact List.mem_map.2 ⟨x.toNat, List.mem_range.2 (by omega), by omega⟩
  simpa using this

theorem own_saveB {S : Nat → Prop} {w w' : World} {base : Nat} {e : TypeId} {size n : Nat} {v : Value} {xs : List Value} (h : w.ownsRow base e size v n xs) (hs : Save S w w') (hv : ∀ g, v.ownBlock = some g → ¬ S g) : w'.ownsRow base e size v n xs := by
  refine ⟨h.1, ?_⟩
  rcases h.2 with hn | ⟨g, cap, cur, rfl, hb, hgg, rest⟩
  · exact .inl hn
  · exact .inr ⟨g, cap, cur, rfl, hb, (hs.block g (Array.getElem?_eq_some_iff.1 hgg).1 (hv g rfl)).trans hgg, rest⟩
theorem own_ne_rng {w : World} {q r n cnt base : Nat} {f : Int → Option Value} {left : Int → Bool} {e : TypeId} {size m : Nat} {v : Value} {xs : List Value} (h : w.ownsRow base e size v m xs) (hr : Rng w q r n f left cnt) : some r ≠ v.ownBlock := by
  obtain ⟨_, _, h1, _⟩ := hr
  exact row_ne_iter h h1
theorem save_row {w w' : World} {row : Option Nat} (h : w.grownBy w' row) : Save (fun i => some i = row) w w' := ⟨h.os, h.tape, h.output, h.size, fun i hi hs => h.block i hi hs⟩

end Go.Proofs.YtfbpcdmpkbjifaaDoor

/- The program's rows as arrays: rowWith, list, of. -/

namespace Go.Proofs.YtfbpcdmpkbjifaaDoor
open Go.RowKit

theorem info_row : (Tryd.prog.info? 150).map (fun i => (i.zero, i.size)) = some (some (.agg (rowA noS)), 40) := by kernel_rfl
theorem size_row (S : Int → Bool) : (Tryd.prog.info? 150).map (·.size) = some (rowA S).size := by rw [rowA_size]; kernel_rfl

theorem Row.rowCells {w : World} {g : Nat} {t : TypeId} {S : Int → Bool} (h : Row w g t (rowA S)) : ∀ (j : Nat) (v : Value), (rowA S)[j]? = some v → w.cell? ⟨g, 0 + j, none⟩ = some v := fun j v hv => by
  rw [Nat.zero_add, h.cell]; exact hv
theorem Row.setRow {w : World} {g : Nat} {t : TypeId} {cs : Array Value} (h : Row w g t cs) (ds : Array Value) : Row (w.setRow g ds) g t ds := setRow_heap w g cs ds t (0, 0) h
theorem Row.setRow_far {w : World} {g k : Nat} {t : TypeId} {cs : Array Value} (h : Row w g t cs) (hk : g ≠ k) (ds : Array Value) : Row (w.setRow k ds) g t cs := (setRow_other w k g ds hk).trans h
theorem below_setRow {B : Nat} {a w : World} (h : Below B a w) {g : Nat} (hg : B ≤ g) (cs : Array Value) : Below B a (w.setRow g cs) :=
  ⟨h.os, h.tape, h.output, by rw [setRow_size]; exact h.size, fun k hk => (setRow_other w g k cs (by omega)).trans (h.block k hk)⟩

/-- What is in a list so far. -/
def inK (xs : List Int) (k : Nat) : Int → Bool := fun x => (xs.take k).contains x
theorem inK_zero (xs : List Int) : inK xs 0 = noS := by funext x; simp [inK, noS]
theorem inK_step {xs : List Int} {k m : Nat} (hk : k < xs.length) (hm : xs[k] = (m : Int)) : (fun x => if x = (m : Int) then true else inK xs k x) = inK xs (k + 1) := by
  funext x
  simp only [inK]
  rw [List.take_succ_eq_append_getElem hk]
  by_cases e : x = (m : Int)
  · rw [if_pos e]; simp [e, hm]
  · rw [if_neg e, hm]; simp [e]

set_option maxRecDepth 20000 in
set_option maxHeartbeats 1000000 in
theorem rowWith_any (A : Option Addr) (c : Nat) (xs : List Int) (w : World) (hx : Ints w w.heap.size A xs) (h40 : ∀ x ∈ xs, 0 ≤ x ∧ x < 40) (hl : xs.length ≤ 1048576) :
    Calls Tryd.prog 155 #[.slice A xs.length c] w fun e w' => e = .returned (.agg (rowA fun x => xs.contains x)) ∧ Below w.heap.size w w' := by
  have HX := Lib.hid hx; clear hx
  have HF := Lib.hid h40; clear h40
  have HZ := Lib.hid info_row
  have HS := Lib.hid size_row
  go_enter Tryd.func155, Tryd.ntmps155
  have HB0 : Hid (Below w.heap.size w ((w.alloc (.cells (rowA noS) 150)).alloc (.cells (rowA noS) 150))) := by show Below _ _ _; go_grown
  have HR0 : Hid (Row ((w.alloc (.cells (rowA noS) 150)).alloc (.cells (rowA noS) 150)) w.heap.size 150 (rowA noS)) := (Row.new _ _ _).alloc _
  have HR1 : Hid (Row ((w.alloc (.cells (rowA noS) 150)).alloc (.cells (rowA noS) 150)) (w.heap.size + 1) 150 (rowA (inK xs 0))) := by have h := Row.new (w.alloc (.cells (rowA noS) 150)) 150 (rowA noS); rw [World.size_alloc] at h; rw [inK_zero]; exact h
  go_wp2_with (with_reducible refine wpList_allocA rfl 150 rfl (rowA noS) 40 HZ.out ?_)
  generalize (w.alloc (.cells (rowA noS) 150)).alloc (.cells (rowA noS) 150) = W at HB0 HR0 HR1 ⊢
  go_loopw [8] (fun i wr => ∃ (k : Nat), k ≤ xs.length ∧ i = .int .i64 k ∧ Hid (Below w.heap.size w wr) ∧ Hid (Row wr w.heap.size 150 (rowA noS)) ∧ Hid (Row wr (w.heap.size + 1) 150 (rowA (inK xs k)))) (fun i _ => xs.length - (intOf i).toNat)
  case atStart => exact ⟨0, by omega, rfl, HB0.out, HR0.out, HR1.out⟩
  case round =>
    clear HB0 HR0 HR1
    obtain ⟨k, hk, rfl, HB, HR0, HR1⟩ := hrel
    by_cases hlt : k < xs.length
    · obtain ⟨p, o, rfl, hb, c1⟩ := (HX.out.keep HB.out).at_ hlt
      obtain ⟨m, hm, hme⟩ : ∃ m : Nat, m < 40 ∧ xs[k] = (m : Int) := by
        have h := HF.out xs[k] (List.getElem_mem hlt)
        exact ⟨xs[k].toNat, by omega, by omega⟩
      have HST := Lib.hid (inK_step hlt hme)
      rw [hme] at c1
      clear hme
      have c2 := HR1.out.cell m
      rw [rowA_at _ hm] at c2
      have f2 := HR1.out.frozen m
      have HR0' := Lib.hid (HR0.out.far (p := ⟨w.heap.size + 1, m, none⟩) (by simp) (.bool true))
      have HR1' : Hid (Row (wr.setCell ⟨w.heap.size + 1, m, none⟩ (.bool true)) (w.heap.size + 1) 150 (rowA (inK xs (k + 1)))) := by
        have h := HR1.out.set m (.bool true)
        rw [rowA_set _ _ hm, HST.out] at h
        exact h
      have HB' : Hid (Below w.heap.size w (wr.setCell ⟨w.heap.size + 1, m, none⟩ (.bool true))) := HB.out.setCell (by simp) _
      clear HR0 HR1 HST
      go_wp2
      go_roundw
      case rel => exact ⟨k + 1, by omega, by go_num, HB'.out, HR0'.out, HR1'.out⟩
      case measure => simp [intOf]; omega
    · obtain rfl : k = xs.length := by omega
      have HE : Hid (inK xs xs.length = fun x => xs.contains x) := by show _ = _; funext x; simp [inK]
      rw [HE.out] at HR1
      have HR2 := Lib.hid (HR0.out.setRow (rowA fun x => xs.contains x))
      have HB' := Lib.hid (below_setRow HB.out (Nat.le_refl w.heap.size) (rowA fun x => xs.contains x))
      generalize hS : (fun x => xs.contains x) = S at HR1 HR2 HB' ⊢
      go_wp2_with (first
        | with_reducible refine wpList_loadA rfl 150 (.tmp 3) rfl (w.heap.size + 1) 0 rfl (rowA S) 40 4 Tryd.underlying150 (HS.out _) HR1.out.rowCells ?_
        | with_reducible refine wpList_storeA rfl 150 (.tmp 2) (.tmp 15) rfl w.heap.size (rowA S) rfl rfl 150 (rowA noS) HR0.out (HS.out _) (by rw [rowA_size, rowA_size]) (rowA_all _) ?_)
      refine bodyPost_ret (v := .agg (rowA S)) ?_ rfl ⟨by rw [← hS], HB'.out⟩
      exact results_cell_row Tryd.results155 _ _ w.heap.size 150 (rowA S) (0, 0) _ rfl HR2.out Tryd.underlying150 rfl (HS.out _)

end Go.Proofs.YtfbpcdmpkbjifaaDoor

/- Copies of a list of numbers, the program's and the reference's. -/

namespace Go.Proofs.YtfbpcdmpkbjifaaDoor
open Go.RowKit

def vals (xs : List Int) : List Value := xs.map fun x => Value.int .i64 x
theorem vals_length (xs : List Int) : (vals xs).length = xs.length := by simp [vals]
theorem vals_one (xs : List Int) : ∀ v ∈ vals xs, v.oneCell' = true := by
  intro v hv
  obtain ⟨x, _, rfl⟩ := List.mem_map.1 hv
  rfl
theorem vals_get {xs : List Int} {j : Nat} {v : Value} (h : (vals xs)[j]? = some v) : ∃ x, xs[j]? = some x ∧ v = .int .i64 x := by
  simp only [vals, List.getElem?_map, Option.map_eq_some_iff] at h
  obtain ⟨x, hx, rfl⟩ := h
  exact ⟨x, hx, rfl⟩
theorem Ints.src {w : World} {B : Nat} {A : Option Addr} {xs : List Int} (h : Ints w B A xs) (hp : 0 < xs.length) : ∃ ad, A = some ad ∧ ∀ (j : Nat) (v : Value), (vals xs)[j]? = some v → w.cell? (ad.add j) = some v := by
  obtain ⟨b, o, rfl, _, hc⟩ := h hp
  refine ⟨_, rfl, fun j v hv => ?_⟩
  obtain ⟨x, hx, rfl⟩ := vals_get hv
  rw [Go.WideShapes.add_plain]
  exact hc j x hx

set_option maxRecDepth 20000 in
set_option maxHeartbeats 400000 in
theorem copyList_any (A : Option Addr) (xs : List Int) (c : Nat) (w : World) (hr : Ints w w.heap.size A xs) (hn : xs.length ≤ 1048576) :
    Calls Tryd.prog 112 #[.slice A xs.length c] w (GaveI w xs) := by
  have hmk := make_ints xs.length hn
  have hB0 : Below w.heap.size w (w.alloc (.cells (zI xs.length) 3)) := by go_grown
  have HB0 := Lib.hid hB0; clear hB0
  have HR := Lib.hid (hr.keep HB0.out); clear hr
  have HG : Hid ((w.alloc (.cells (zI xs.length) 3)).heap[w.heap.size]? = some (.cells (zI xs.length).toList.toArray 3 (0, 0))) := by
    show _ = _
    simpa using heap_alloc_new w (.cells (zI xs.length) 3)
  have HF : Hid (0 + (vals xs).length ≤ (zI xs.length).toList.length) := by
    show _ ≤ _
    have h := zI_size xs.length
    rw [← Array.length_toList] at h
    rw [vals_length]
    omega
  go_enter Tryd.func112, Tryd.ntmps112
  go_wp2_with (with_reducible refine wpList_copy_splice rfl (.tmp 7) (.tmp 8) 22 22 rfl 3 Tryd.underlying22 (by kernel_rfl) (some ⟨w.heap.size, 0, none⟩) A xs.length xs.length xs.length c rfl rfl w.heap.size 0 (zI xs.length).toList 3 HG.out (vals xs) (by rw [vals_length]; exact (Nat.min_self _).symm) (fun hp => ⟨rfl, HR.out.src (by rw [vals_length] at hp; exact hp)⟩) HF.out (vals_one xs) w.heap.size w HB0.out (Nat.le_refl _) ?_)
  intro w1 HG1 hB1
  go_wp2
  go_ret
  refine ⟨some ⟨w.heap.size, 0, none⟩, xs.length, rfl, Nat.le_refl _, .inr ⟨w.heap.size, _, rfl, Nat.le_refl _, HG1.out, fun k x hx => ?_⟩, hB1⟩
  have hk := (List.getElem?_eq_some_iff.1 hx).1
  simp only [splice, List.take_zero, List.nil_append, List.getElem?_toArray]
  rw [List.getElem?_append_left (by rw [vals_length]; exact hk)]
  simp [vals, hx]

theorem own_empty (w : World) : (w.alloc (.cells #[] 3)).ownsRow w.heap.size 3 1 (.slice (some ⟨w.heap.size, 0, none⟩) 0 0) 0 [] :=
  ⟨rfl, .inr ⟨w.heap.size, 0, #[], rfl, Nat.le_refl _, heap_alloc_new w _, Nat.le_refl _, by simp [maxLen], rfl, rfl⟩⟩

/-- Nothing appended: a nil source, whatever its capacity says. -/
theorem append_nil_at {P : Program} {w : World} {ops : Array Oper} {rest : List Oper} {o : Oper} {a : Act} {Q : Exit → Act → World → Prop} (hgd : o.guard = none) (s x : Operand) (t : TypeId)
    (ho : o.op = .call { callee := .builtin .append, args := #[s, x], argTypes := #[t, t] }) (base : Nat) (e : TypeId) (i : TypeInfo) (size : Nat) (ht : P.underlying t = some (.slice e)) (hi : P.info? e = some i)
    (v : Value) (n : Nat) (xs : List Value) (hs : a.eval s = v) (hown : w.ownsRow base e size v n xs) (c : Nat) (hx : a.eval x = .slice none 0 c)
    (h : wpList P ops Q rest (a.put o.dst v) w) : wpList P ops Q (o :: rest) a w := by
  refine wpList_plain hgd fun K hK => ?_
  have hrun : (Builtin.append_ #[t, t] o.type #[v, .slice none 0 c]).run P w = .ok v w := by
    obtain ⟨_, ⟨rfl, rfl⟩ | ⟨g, cap, cur, rfl, _, _, hnc, _⟩⟩ := hown
    · simp [Builtin.append_, run_underlying ht, typeInfo, sizeOf, hi, Builtin.firstCells, Builtin.lenOf]
    · simp [Builtin.append_, run_underlying ht, typeInfo, sizeOf, hi, Builtin.firstCells, Builtin.lenOf, storeCells, hnc]
  unfold Oper.wp
  simp [execOp, ho, resolve, invoke, builtin, hs, hx, hrun, Result.andThen]
  exact hK _ _ h

set_option maxRecDepth 20000 in
set_option maxHeartbeats 400000 in
theorem l1Own_any (A : Option Addr) (xs : List Int) (c : Nat) (w : World) (hr : Ints w w.heap.size A xs) (hn : xs.length ≤ 1048576) :
    Calls Tryd.prog 113 #[.slice A xs.length c] w (GaveI' w xs) := by
  obtain ⟨i0, hi0, hz0, hz1, hz2⟩ := info_of Tryd.infoInt
  have hB0 : Below w.heap.size w (w.alloc (.cells #[] 3)) := by go_grown
  have HB0 := Lib.hid hB0; clear hB0
  have HR := Lib.hid (hr.keep HB0.out); clear hr
  have HE := Lib.hid (own_empty w)
  rcases A with _ | ad
  · have hx : xs = [] := by
      rcases xs with _ | ⟨x, xs⟩
      · rfl
      · obtain ⟨_, _, e, _⟩ := HR.out (by simp)
        cases e
    subst hx
    go_enter Tryd.func113, Tryd.ntmps113
    go_wp2_with (at_builtin
                 refine append_nil_at rfl (.tmp 3) (.tmp 4) _ rfl w.heap.size 3 i0 1 Tryd.underlying22 hi0 _ _ _ rfl HE.out c rfl ?_)
    go_ret
    exact ⟨_, _, rfl, .inl rfl, HB0.out⟩
  · have HN : Hid (∀ (j : Nat) (v : Value), (vals xs)[j]? = some v → (w.alloc (.cells #[] 3)).cell? (ad.add j) = some v) := fun j v hv => by
      have hp : 0 < xs.length := by have := (List.getElem?_eq_some_iff.1 hv).1; rw [vals_length] at this; omega
      obtain ⟨ad', e, h⟩ := HR.out.src hp
      injection e with e
      subst e
      exact h j v hv
    go_enter Tryd.func113, Tryd.ntmps113
    go_wp2_with (at_builtin
                 refine wpList_append_own _ rfl (.tmp 3) (.tmp 4) _ rfl w.heap.size 3 i0 _ 1 8 Tryd.underlying22 hi0 hz0 hz1 hz2 rfl (by omega) _ _ _ rfl HE.out ad xs.length c (vals xs) rfl (by rw [vals_length]; omega) HN.out (vals_one xs) (by unfold maxLen; omega) (by omega) (by simp) ?_
                 intro v' w' h1 h2 h3
                 have HO1 := Lib.hid h1
                 have HG1 := Lib.hid h2
                 clear h1 h2 h3)
    have h1 := HO1.out
    rw [List.nil_append] at h1
    obtain ⟨A', c', rfl, hO⟩ := ownI_of_row (ys := xs) h1
    go_ret
    exact ⟨A', c', rfl, hO, HB0.out.grown HG1.out HB0.out.size fun k hk => (HE.out.lt k hk).1⟩

theorem Save.drew {S : Nat → Prop} {a w : World} (h : Save S a w) : Save S a w.drew := ⟨h.os, h.tape, h.output, h.size, h.block⟩

theorem val_int {a b : Int} (h : a = b) : Value.int .i64 a = .int .i64 b := by rw [h]

end Go.Proofs.YtfbpcdmpkbjifaaDoor

/- The reference's l1Has and l1Put: members of a rising list. -/

namespace Go.Proofs.YtfbpcdmpkbjifaaDoor
open Go.RowKit

/-- A slice that owns numbers, new since block lo. -/
def OwnV (w : World) (lo : Nat) (v : Value) (xs : List Int) : Prop := w.ownsRow lo 3 1 v xs.length (vals xs)
theorem OwnV.shape {w : World} {lo : Nat} {v : Value} {xs : List Int} (h : OwnV w lo v xs) : ∃ A c, v = .slice A xs.length c ∧ xs.length ≤ c ∧ Ints w w.heap.size A xs := by
  rcases h.2 with ⟨rfl, h0⟩ | ⟨g, cap, cur, rfl, hlo, hb, h1, h2, h3, h4⟩
  · refine ⟨none, 0, by rw [h0], by omega, fun h => by omega⟩
  · refine ⟨_, cap, rfl, h1, fun hn => ⟨g, 0, rfl, (Array.getElem?_eq_some_iff.1 hb).1, fun k x hx => ?_⟩⟩
    rw [cell_of_row w g (0 + k) cur _ _ hb, Nat.zero_add]
    have hk := (List.getElem?_eq_some_iff.1 hx).1
    have e := congrArg (fun l => l[k]?) h4
    simp only [vals, List.getElem?_map, hx, Option.map_some] at e
    rw [List.getElem?_take, if_pos (by omega)] at e
    simpa using e
theorem OwnV.nil (w : World) (lo : Nat) : OwnV w lo (.slice none 0 0) [] := ⟨rfl, .inl ⟨rfl, rfl⟩⟩
theorem OwnV.keep {w w' : World} {lo : Nat} {v : Value} {xs : List Int} (h : OwnV w lo v xs) (hb : Below w.heap.size w w') : OwnV w' lo v xs := own_below h hb
theorem OwnV.lower {w : World} {lo lo' : Nat} {v : Value} {xs : List Int} (h : OwnV w lo v xs) (hl : lo' ≤ lo) : OwnV w lo' v xs := by
  refine ⟨h.1, ?_⟩
  rcases h.2 with h | ⟨g, cap, cur, e, hlo, r⟩
  · exact .inl h
  · exact .inr ⟨g, cap, cur, e, by omega, r⟩
theorem OwnV.own {w : World} {lo : Nat} {v : Value} {xs : List Int} (h : OwnV w lo v xs) : ∃ A c, v = .slice A xs.length c ∧ OwnI w lo A xs := ownI_of_row h

set_option maxRecDepth 20000 in
set_option maxHeartbeats 400000 in
theorem l1Has6_any (A : Option Addr) (xs : List Int) (c : Nat) (n : Int) (w : World) (hx : Ints w w.heap.size A xs) (h1 : xs.length ≤ 40) :
    Calls Tryd.prog 80 #[.slice A xs.length c, .int .i64 n] w fun e w' => e = .returned (.bool (xs.contains n)) ∧ w' = w := by
  have HX := Lib.hid hx; clear hx
  go_enter Tryd.func80, Tryd.ntmps80
  go_wp2
  go_loopw [9] (fun i wr => ∃ (k : Nat), k ≤ xs.length ∧ i = .int .i64 k ∧ wr = w ∧ Hid (∀ (j : Nat) (x : Int), j < k → xs[j]? = some x → x ≠ n)) (fun i _ => xs.length - (intOf i).toNat)
  case atStart => exact ⟨0, by omega, rfl, rfl, fun j x h => absurd h (by omega)⟩
  case round =>
    obtain ⟨k, hk, rfl, rfl, H⟩ := hrel
    by_cases hlt : k < xs.length
    · obtain ⟨p, o, rfl, hb, c1⟩ := HX.out.at_ hlt
      by_cases he : xs[k] = n
      · have HE : Hid (xs.contains n = true) := by
          show _ = _
          rw [List.contains_iff_mem]
          exact he ▸ List.getElem_mem hlt
        have ht := beq_t he
        clear he
        go_wp2
        go_ret
        exact ⟨ret_bool HE.out.symm, rfl⟩
      · have HE := Lib.hid (upto_step (Q := fun x => x ≠ n) hlt he H.out)
        have ht := beq_f he
        clear he
        go_wp2
        go_roundw
        case rel => exact ⟨k + 1, by omega, by go_num, by simp, HE.out⟩
        case measure => simp [intOf]; omega
    · have HE : Hid (xs.contains n = false) := by
        show _ = _
        cases h : xs.contains n
        · rfl
        · rw [List.contains_iff_mem] at h
          obtain ⟨j, hj⟩ := List.mem_iff_getElem?.1 h
          exact absurd rfl (H.out j n (by have := (List.getElem?_eq_some_iff.1 hj).1; omega) hj)
      go_wp2
      go_ret
      exact ⟨ret_bool HE.out.symm, rfl⟩

theorem rises_put {xs : List Int} {n : Int} {k : Nat} (hx : Rises xs) (h1 : ∀ (j : Nat) (x : Int), j < k → xs[j]? = some x → x < n) (h2 : ∀ x, xs[k]? = some x → n < x) :
    Rises (xs.take k ++ [n] ++ xs.drop k) ∧ (∀ x, x ∈ xs.take k ++ [n] ++ xs.drop k ↔ x = n ∨ x ∈ xs) := by
  have ha : ∀ x ∈ xs.take k, x < n := fun x hm => by
    obtain ⟨j, hj⟩ := List.mem_iff_getElem?.1 hm
    rw [List.getElem?_take] at hj
    split at hj
    · exact h1 j x (by assumption) hj
    · cases hj
  have hsp : (xs.take k ++ xs.drop k).Pairwise (· < ·) := by rw [List.take_append_drop]; exact hx
  obtain ⟨p1, p2, p3⟩ := List.pairwise_append.1 hsp
  have hb : ∀ x ∈ xs.drop k, n < x := fun x hm => by
    cases hd : xs.drop k with
    | nil => rw [hd] at hm; cases hm
    | cons y l =>
      have h0 : xs[k]? = some y := by
        have := congrArg (fun l => l[0]?) hd
        simpa using this
      have hy := h2 y h0
      rw [hd] at hm p2
      rcases List.mem_cons.1 hm with rfl | hm
      · exact hy
      · have := (List.pairwise_cons.1 p2).1 x hm
        omega
  refine ⟨?_, fun x => ?_⟩
  · show List.Pairwise _ _
    rw [List.append_assoc]
    refine List.pairwise_append.2 ⟨p1, List.pairwise_append.2 ⟨by simp, p2, fun a h b hb' => by simp at h; subst h; exact hb b hb'⟩, fun a h b hb' => ?_⟩
    rcases List.mem_append.1 hb' with h' | h'
    · simp at h'; subst h'; exact ha a h
    · exact p3 a h b h'
  · have e : x ∈ xs ↔ x ∈ xs.take k ∨ x ∈ xs.drop k := by rw [← List.mem_append, List.take_append_drop]
    simp only [List.mem_append, List.mem_singleton, e]
    constructor
    · rintro ((h | h) | h)
      · exact .inr (.inl h)
      · exact .inl h
      · exact .inr (.inr h)
    · rintro (h | h | h)
      · exact .inl (.inr h)
      · exact .inl (.inl h)
      · exact .inr h

/-- What l1Put ends in: a new rising list with one member more. -/
def PutOne (w : World) (xs : List Int) (n : Int) (e : Ending) (w' : World) : Prop :=
  ∃ v ys, e = .returned v ∧ Rises ys ∧ (∀ x, x ∈ ys ↔ x = n ∨ x ∈ xs) ∧ ys.length = xs.length + 1 ∧ OwnV w' w.heap.size v ys ∧ Below w.heap.size w w'

theorem Ints.src2 {w : World} {B : Nat} {ad : Addr} {xs : List Int} (h : Ints w B (some ad) xs) : ∀ (j : Nat) (v : Value), (vals xs)[j]? = some v → w.cell? (ad.add j) = some v := fun j v hv => by
  have hp : 0 < xs.length := by have := (List.getElem?_eq_some_iff.1 hv).1; rw [vals_length] at this; omega
  obtain ⟨ad', e, h⟩ := h.src hp
  injection e with e
  subst e
  exact h j v hv
theorem Ints.take {w : World} {B : Nat} {A : Option Addr} {xs : List Int} (h : Ints w B A xs) (k : Nat) : Ints w B A (xs.take k) := by
  intro hn
  obtain ⟨b, o, e, hb, hc⟩ := h (by rw [List.length_take] at hn; omega)
  refine ⟨b, o, e, hb, fun j x hx => hc j x ?_⟩
  rw [List.getElem?_take] at hx
  split at hx
  · exact hx
  · cases hx
theorem Ints.drop {w : World} {B p o : Nat} {xs : List Int} (h : Ints w B (some ⟨p, o, none⟩) xs) (k : Nat) : Ints w B (some ⟨p, o + k, none⟩) (xs.drop k) := by
  intro hn
  obtain ⟨b, o', e, hb, hc⟩ := h (by rw [List.length_drop] at hn; omega)
  injection e with e
  injection e with e1 e2
  subst e1 e2
  refine ⟨p, o + k, rfl, hb, fun j x hx => ?_⟩
  rw [List.getElem?_drop] at hx
  rw [Nat.add_assoc]
  exact hc (k + j) x hx

set_option maxRecDepth 20000 in
set_option maxHeartbeats 1000000 in
theorem l1Put_any (lo : Nat) (v : Value) (xs : List Int) (n : Int) (w : World) (hv : OwnV w lo v xs) (hr : Rises xs) (hn : n ∉ xs) (h1 : xs.length ≤ 40) :
    Calls Tryd.prog 123 #[v, .int .i64 n] w (PutOne w xs n) := by
  obtain ⟨i0, hi0, hz0, hz1, hz2⟩ := info_of Tryd.infoInt
  rcases hv.2 with ⟨rfl, h0⟩ | ⟨g, c, cur, rfl, hlo, hb, hc, hm, h3, h4⟩
  · have e : xs = [] := List.eq_nil_of_length_eq_zero h0
    subst e
    clear hv hr hn h0 h1
    have HE0 := Lib.hid (own_empty w)
    have HB0 : Hid (Below w.heap.size w (w.alloc (.cells #[] 3))) := (Below.refl w.heap.size w).alloc (Nat.le_refl _) _
    go_enter Tryd.func123, Tryd.ntmps123
    go_wp2
    refine wp_loop_rounds 1 ?_
    rw [rounds_succ]
    have HA1 := Lib.hid (HE0.out.alloc (.cells #[.int .i64 n] 3))
    have hnew := cell_one_new (w.alloc (.cells #[] 3)) (.int .i64 n) 3
    rw [World.size_alloc] at hnew
    have HN2 := Lib.hid hnew; clear hnew
    go_wp2_with (first
      | (at_builtin
         refine append_nil_at rfl (.tmp 34) (.tmp 37) _ rfl w.heap.size 3 i0 1 Tryd.underlying22 hi0 _ _ _ rfl HE0.out 0 rfl ?_)
      | (at_builtin
         refine wpList_append_own _ rfl (.tmp 39) (.tmp 41) _ rfl w.heap.size 3 i0 _ 1 8 Tryd.underlying22 hi0 hz0 hz1 hz2 rfl (by omega) _ _ _ rfl HA1.out ⟨w.heap.size + 1, 0, none⟩ 1 1 [.int .i64 n] rfl rfl HN2.out (by intro u hu; simp at hu; subst hu; rfl) (by unfold maxLen; omega) (by omega) (by simp; omega) ?_
         intro v2 w2 h1 h2 h3
         have HB2 : Hid (Below w.heap.size w w2) := (HB0.out.alloc HB0.out.size _).grown h2 (by simp; omega) fun j hj => (HE0.out.lt j hj).1
         have HO2 := Lib.hid h1
         clear h1 h2 h3)
      | (at_builtin
         refine append_nil_at rfl (.tmp 43) (.tmp 46) _ rfl w.heap.size 3 i0 1 Tryd.underlying22 hi0 _ _ _ rfl HO2.out 0 rfl ?_))
    go_ret
    refine ⟨v2, [n], rfl, by simp [Rises], fun x => by simp, rfl, HO2.out, HB2.out⟩
  obtain ⟨A, c', e', hc', hx⟩ := hv.shape
  injection e' with e1 _ e3
  subst e1 e3
  obtain ⟨p, o, hpo⟩ : ∃ p o, (⟨g, 0, none⟩ : Addr) = ⟨p, o, none⟩ := ⟨_, _, rfl⟩
  rw [hpo] at hx ⊢
  clear hv hlo hb h3 h4 hc' hpo
  unfold maxLen at hm
  have HX := Lib.hid hx; clear hx
  have HR := Lib.hid hr; clear hr
  have HN := Lib.hid hn; clear hn
  go_enter Tryd.func123, Tryd.ntmps123
  go_wp2
  go_loopw [5] (fun i wr => ∃ (k : Nat), k ≤ xs.length ∧ i = .int .i64 k ∧ wr = w ∧ Hid (∀ (j : Nat) (x : Int), j < k → xs[j]? = some x → x < n)) (fun i _ => xs.length - (intOf i).toNat)
  case atStart => exact ⟨0, by omega, rfl, rfl, fun j x h => absurd h (by omega)⟩
  case round =>
    obtain ⟨k, hk, rfl, rfl, H⟩ := hrel
    by_cases hlt : k < xs.length
    · have c1 : wr.cell? ⟨p, o + k, none⟩ = some (.int .i64 xs[k]) := by
        obtain ⟨p', o', e, _, h⟩ := HX.out.at_ hlt
        injection e with e
        injection e with e1 e2
        subst e1 e2
        exact h
      by_cases hl : xs[k] < n
      · have HE := Lib.hid (upto_step (Q := fun x => x < n) hlt hl H.out)
        go_wp2
        go_roundw
        case rel => exact ⟨k + 1, by omega, by go_num, by simp, HE.out⟩
        case measure => simp [intOf]; omega
      · have hne : xs[k] ≠ n := fun e => HN.out (e ▸ List.getElem_mem hlt)
        have hq := beq_f hne
        have HP := Lib.hid (rises_put (k := k) HR.out H.out fun x hx => by
          rw [List.getElem?_eq_getElem hlt] at hx
          injection hx with hx
          omega)
        clear hne
        have HN1 : Hid (∀ (j : Nat) (u : Value), (vals (xs.take k))[j]? = some u → (wr.alloc (.cells #[] 3)).cell? ((⟨p, o, none⟩ : Addr).add j) = some u) := (((HX.out.take k).keep ((Below.refl wr.heap.size wr).alloc (Nat.le_refl _) _))).src2
        have HE0 := Lib.hid (own_empty wr)
        have HD := Lib.hid (HX.out.drop k)
        have hkl : (xs.take k).length = k := by rw [List.length_take]; omega
        have hdl : (xs.drop k).length = xs.length - k := List.length_drop
        have HKL := Lib.hid hkl; clear hkl
        have HDL := Lib.hid hdl; clear hdl
        go_wp2_with (first
          | (at_builtin
             refine wpList_append_own _ rfl (.tmp 34) (.tmp 37) _ rfl wr.heap.size 3 i0 _ 1 8 Tryd.underlying22 hi0 hz0 hz1 hz2 rfl (by omega) _ _ _ rfl HE0.out ⟨p, o, none⟩ k c (vals (xs.take k)) rfl (by rw [vals_length, HKL.out]; omega) HN1.out (vals_one _) (by unfold maxLen; omega) (by omega) (by simp) ?_
             intro v1 w1 h1 h2 h3
             have HO1 := Lib.hid h1
             have HB1 : Hid (Below wr.heap.size wr w1) := (((Below.refl wr.heap.size wr).alloc (Nat.le_refl _) _)).grown h2 (by simp) fun j hj => (HE0.out.lt j hj).1
             have hs1 : wr.heap.size ≤ w1.heap.size := HB1.out.size
             have HA1 := Lib.hid (h1.alloc (.cells #[.int .i64 n] 3))
             have HN2 := Lib.hid (cell_one_new w1 (.int .i64 n) 3)
             clear h1 h2 h3)
          | (at_builtin
             refine wpList_append_own _ rfl (.tmp 39) (.tmp 41) _ rfl wr.heap.size 3 i0 _ 1 8 Tryd.underlying22 hi0 hz0 hz1 hz2 rfl (by omega) _ _ _ rfl HA1.out ⟨w1.heap.size, 0, none⟩ 1 1 [.int .i64 n] rfl rfl HN2.out (by intro u hu; simp at hu; subst hu; rfl) (by unfold maxLen; omega) (by omega) (by simp; omega) ?_
             intro v2 w2 h1 h2 h3
             have HB2 : Hid (Below wr.heap.size wr w2) := (HB1.out.alloc HB1.out.size _).grown h2 (by simp; omega) fun j hj => (HO1.out.lt j hj).1
             have HO2 := Lib.hid h1
             have hs2 : wr.heap.size ≤ w2.heap.size := HB2.out.size
             have HN3 : Hid (∀ (j : Nat) (u : Value), (vals (xs.drop k))[j]? = some u → w2.cell? ((⟨p, o + k, none⟩ : Addr).add j) = some u) := (HD.out.keep HB2.out).src2
             clear h1 h2 h3)
          | (at_builtin
             refine wpList_append_own _ rfl (.tmp 43) (.tmp 46) _ rfl wr.heap.size 3 i0 _ 1 8 Tryd.underlying22 hi0 hz0 hz1 hz2 rfl (by omega) _ _ _ rfl HO2.out ⟨p, o + k, none⟩ (xs.length - k) (c - k) (vals (xs.drop k)) rfl (by rw [vals_length, HDL.out]; omega) HN3.out (vals_one _) (by unfold maxLen; omega) (by omega) hs2 ?_
             intro v3 w3 h1 h2 h3
             have HB3 : Hid (Below wr.heap.size wr w3) := HB2.out.grown h2 (by omega) fun j hj => (HO2.out.lt j hj).1
             have HO3 := Lib.hid h1
             clear h1 h2 h3))
        go_ret
        refine ⟨v3, xs.take k ++ [n] ++ xs.drop k, rfl, HP.out.1, HP.out.2, by simp; omega, ?_, HB3.out⟩
        show World.ownsRow _ _ _ _ _ _ _
        have e1 : (xs.take k ++ [n] ++ xs.drop k).length = 0 + k + 1 + (xs.length - k) := by simp; omega
        have e2 : vals (xs.take k ++ [n] ++ xs.drop k) = [] ++ vals (xs.take k) ++ [.int .i64 n] ++ vals (xs.drop k) := by simp [vals]
        rw [e1, e2]
        exact HO3.out
    · obtain rfl : k = xs.length := by omega
      have HP := Lib.hid (rises_put (k := xs.length) HR.out H.out fun x hx => by simp at hx)
      have HN1 : Hid (∀ (j : Nat) (u : Value), (vals xs)[j]? = some u → (wr.alloc (.cells #[] 3)).cell? ((⟨p, o, none⟩ : Addr).add j) = some u) := ((HX.out.keep ((Below.refl wr.heap.size wr).alloc (Nat.le_refl _) _))).src2
      have HE0 := Lib.hid (own_empty wr)
      by_cases hcx : c = xs.length
      · subst hcx
        go_wp2_with (first
          | (at_builtin
             refine wpList_append_own _ rfl (.tmp 34) (.tmp 37) _ rfl wr.heap.size 3 i0 _ 1 8 Tryd.underlying22 hi0 hz0 hz1 hz2 rfl (by omega) _ _ _ rfl HE0.out ⟨p, o, none⟩ xs.length xs.length (vals xs) rfl (by rw [vals_length]; omega) HN1.out (vals_one _) (by unfold maxLen; omega) (by omega) (by simp) ?_
             intro v1 w1 h1 h2 h3
             have HO1 := Lib.hid h1
             have HB1 : Hid (Below wr.heap.size wr w1) := (((Below.refl wr.heap.size wr).alloc (Nat.le_refl _) _)).grown h2 (by simp) fun j hj => (HE0.out.lt j hj).1
             have hs1 : wr.heap.size ≤ w1.heap.size := HB1.out.size
             have HA1 := Lib.hid (h1.alloc (.cells #[.int .i64 n] 3))
             have HN2 := Lib.hid (cell_one_new w1 (.int .i64 n) 3)
             clear h1 h2 h3)
          | (at_builtin
             refine wpList_append_own _ rfl (.tmp 39) (.tmp 41) _ rfl wr.heap.size 3 i0 _ 1 8 Tryd.underlying22 hi0 hz0 hz1 hz2 rfl (by omega) _ _ _ rfl HA1.out ⟨w1.heap.size, 0, none⟩ 1 1 [.int .i64 n] rfl rfl HN2.out (by intro u hu; simp at hu; subst hu; rfl) (by unfold maxLen; omega) (by omega) (by simp; omega) ?_
             intro v2 w2 h1 h2 h3
             have HB2 : Hid (Below wr.heap.size wr w2) := (HB1.out.alloc HB1.out.size _).grown h2 (by simp; omega) fun j hj => (HO1.out.lt j hj).1
             have HO2 := Lib.hid h1
             have hs2 : wr.heap.size ≤ w2.heap.size := HB2.out.size
             clear h1 h2 h3)
          | (at_builtin
             refine wpList_append_own _ rfl (.tmp 43) (.tmp 46) _ rfl wr.heap.size 3 i0 _ 1 8 Tryd.underlying22 hi0 hz0 hz1 hz2 rfl (by omega) _ _ _ rfl HO2.out ⟨p, o, none⟩ 0 0 [] rfl rfl (fun j u h => by simp at h) (by simp) (by unfold maxLen; omega) (by omega) hs2 ?_
             intro v3 w3 h1 h2 h3
             have HB3 : Hid (Below wr.heap.size wr w3) := HB2.out.grown h2 (by omega) fun j hj => (HO2.out.lt j hj).1
             have HO3 := Lib.hid h1
             clear h1 h2 h3))
        go_ret
        refine ⟨v3, xs.take xs.length ++ [n] ++ xs.drop xs.length, rfl, HP.out.1, HP.out.2, by simp, ?_, HB3.out⟩
        show World.ownsRow _ _ _ _ _ _ _
        have e1 : (xs.take xs.length ++ [n] ++ xs.drop xs.length).length = 0 + xs.length + 1 + 0 := by simp
        have e2 : vals (xs.take xs.length ++ [n] ++ xs.drop xs.length) = [] ++ vals xs ++ [.int .i64 n] ++ [] := by simp [vals]
        rw [e1, e2]
        exact HO3.out

      · have hcp : ¬ c - xs.length = 0 := by omega
        go_wp2_with (first
          | (at_builtin
             refine wpList_append_own _ rfl (.tmp 34) (.tmp 37) _ rfl wr.heap.size 3 i0 _ 1 8 Tryd.underlying22 hi0 hz0 hz1 hz2 rfl (by omega) _ _ _ rfl HE0.out ⟨p, o, none⟩ xs.length c (vals xs) rfl (by rw [vals_length]; omega) HN1.out (vals_one _) (by unfold maxLen; omega) (by omega) (by simp) ?_
             intro v1 w1 h1 h2 h3
             have HO1 := Lib.hid h1
             have HB1 : Hid (Below wr.heap.size wr w1) := (((Below.refl wr.heap.size wr).alloc (Nat.le_refl _) _)).grown h2 (by simp) fun j hj => (HE0.out.lt j hj).1
             have hs1 : wr.heap.size ≤ w1.heap.size := HB1.out.size
             have HA1 := Lib.hid (h1.alloc (.cells #[.int .i64 n] 3))
             have HN2 := Lib.hid (cell_one_new w1 (.int .i64 n) 3)
             clear h1 h2 h3)
          | (at_builtin
             refine wpList_append_own _ rfl (.tmp 39) (.tmp 41) _ rfl wr.heap.size 3 i0 _ 1 8 Tryd.underlying22 hi0 hz0 hz1 hz2 rfl (by omega) _ _ _ rfl HA1.out ⟨w1.heap.size, 0, none⟩ 1 1 [.int .i64 n] rfl rfl HN2.out (by intro u hu; simp at hu; subst hu; rfl) (by unfold maxLen; omega) (by omega) (by simp; omega) ?_
             intro v2 w2 h1 h2 h3
             have HB2 : Hid (Below wr.heap.size wr w2) := (HB1.out.alloc HB1.out.size _).grown h2 (by simp; omega) fun j hj => (HO1.out.lt j hj).1
             have HO2 := Lib.hid h1
             have hs2 : wr.heap.size ≤ w2.heap.size := HB2.out.size
             clear h1 h2 h3)
          | (at_builtin
             refine wpList_append_own _ rfl (.tmp 43) (.tmp 46) _ rfl wr.heap.size 3 i0 _ 1 8 Tryd.underlying22 hi0 hz0 hz1 hz2 rfl (by omega) _ _ _ rfl HO2.out ⟨p, o + xs.length, none⟩ 0 (c - xs.length) [] rfl rfl (fun j u h => by simp at h) (by simp) (by unfold maxLen; omega) (by omega) hs2 ?_
             intro v3 w3 h1 h2 h3
             have HB3 : Hid (Below wr.heap.size wr w3) := HB2.out.grown h2 (by omega) fun j hj => (HO2.out.lt j hj).1
             have HO3 := Lib.hid h1
             clear h1 h2 h3))
        go_ret
        refine ⟨v3, xs.take xs.length ++ [n] ++ xs.drop xs.length, rfl, HP.out.1, HP.out.2, by simp, ?_, HB3.out⟩
        show World.ownsRow _ _ _ _ _ _ _
        have e1 : (xs.take xs.length ++ [n] ++ xs.drop xs.length).length = 0 + xs.length + 1 + 0 := by simp
        have e2 : vals (xs.take xs.length ++ [n] ++ xs.drop xs.length) = [] ++ vals xs ++ [.int .i64 n] ++ [] := by simp [vals]
        rw [e1, e2]
        exact HO3.out

end Go.Proofs.YtfbpcdmpkbjifaaDoor

/- The program's rows as arrays: list, joined. -/

namespace Go.Proofs.YtfbpcdmpkbjifaaDoor
open Go.RowKit

/-- The numbers below k that are in S. -/
def upK (S : Int → Bool) : Nat → List Int
  | 0 => []
  | k + 1 => if S k then upK S k ++ [(k : Int)] else upK S k
theorem upK_mem (S : Int → Bool) : ∀ (k : Nat) (x : Int), x ∈ upK S k ↔ (S x = true ∧ 0 ≤ x ∧ x < k)
  | 0, x => by simp [upK]
  | k + 1, x => by
    have ih := upK_mem S k x
    unfold upK
    by_cases h : S k = true
    · rw [if_pos h, List.mem_append, ih, List.mem_singleton]
      constructor
      · rintro (⟨h1, h2, h3⟩ | rfl)
        · exact ⟨h1, h2, by omega⟩
        · exact ⟨h, by omega, by omega⟩
      · rintro ⟨h1, h2, h3⟩
        by_cases e : x = k
        · exact .inr e
        · exact .inl ⟨h1, h2, by omega⟩
    · rw [if_neg h, ih]
      constructor
      · rintro ⟨h1, h2, h3⟩
        exact ⟨h1, h2, by omega⟩
      · rintro ⟨h1, h2, h3⟩
        refine ⟨h1, h2, ?_⟩
        have : x ≠ k := fun e => by subst e; exact h h1
        omega
theorem upK_rises (S : Int → Bool) : ∀ k, Rises (upK S k)
  | 0 => List.Pairwise.nil
  | k + 1 => by
    have ih := upK_rises S k
    unfold upK
    by_cases h : S k = true
    · rw [if_pos h]
      refine List.pairwise_append.2 ⟨ih, by simp, fun a ha b hb => ?_⟩
      rw [List.mem_singleton] at hb
      subst hb
      exact ((upK_mem S k a).1 ha).2.2
    · rw [if_neg h]; exact ih
theorem upK_len (S : Int → Bool) : ∀ k, (upK S k).length ≤ k
  | 0 => Nat.le_refl _
  | k + 1 => by
    have ih := upK_len S k
    unfold upK
    split
    · rw [List.length_append]; simp; omega
    · omega
theorem upK_yes {S : Int → Bool} {k : Nat} (h : S k = true) : upK S (k + 1) = upK S k ++ [(k : Int)] := by rw [upK, if_pos h]
theorem upK_no {S : Int → Bool} {k : Nat} (h : S k = false) : upK S (k + 1) = upK S k := by rw [upK, if_neg (by simp [h])]

theorem own_snocI {w : World} {lo n : Nat} {v : Value} {xs : List Int} {x : Int} (h : w.ownsRow lo 3 1 v (n + 1) (vals xs ++ [.int .i64 x])) (hn : n = xs.length) : OwnV w lo v (xs ++ [x]) := by
  subst hn
  show World.ownsRow _ _ _ _ _ _ _
  rw [List.length_append]
  have e : vals (xs ++ [x]) = vals xs ++ [.int .i64 x] := by simp [vals]
  rw [e]
  exact h

set_option maxRecDepth 20000 in
set_option maxHeartbeats 1000000 in
theorem rowList_any (S : Int → Bool) (w : World) :
    Calls Tryd.prog 131 #[.agg (rowA S)] w (GaveI w (upK S 40)) := by
  obtain ⟨i0, hi0, hz0, hz1, hz2⟩ := info_of Tryd.infoInt
  have HS := Lib.hid size_row
  go_enter Tryd.func131, Tryd.ntmps131
  have HB0 : Hid (Below w.heap.size w (w.alloc (.cells (rowA S) 150))) := by show Below _ _ _; go_grown
  have HR0 : Hid (Row (w.alloc (.cells (rowA S) 150)) w.heap.size 150 (rowA S)) := Row.new _ _ _
  go_wp2_with (first
    | with_reducible refine wpList_boxA rfl 150 (.tmp 0) rfl (rowA S) rfl ?_
    | with_reducible refine wpList_loadA rfl 150 (.tmp 1) rfl w.heap.size 0 rfl (rowA S) 40 4 Tryd.underlying150 (HS.out _) HR0.out.rowCells ?_)
  generalize w.alloc (.cells (rowA S) 150) = W at HB0 HR0 ⊢
  go_loopw [3, 7] (fun v i wr => ∃ (k : Nat), k ≤ 40 ∧ i = .int .i64 k ∧ Hid (Below w.heap.size w wr) ∧ Hid (OwnV wr w.heap.size v (upK S k))) (fun _ i _ => 40 - (intOf i).toNat)
  case atStart => exact ⟨0, by omega, rfl, HB0.out, OwnV.nil _ _⟩
  case round =>
    clear HB0 HR0
    obtain ⟨k, hk, rfl, HB, HO⟩ := hrel
    by_cases hlt : k < 40
    · have hk2 : (k : Int) < 40 := by omega
      have hws : w.heap.size ≤ wr.heap.size := HB.out.size
      have hul := upK_len S k
      cases hs : S k
      · have HN := Lib.hid (upK_no hs)
        have HV := Lib.hid (rowA_at S hlt)
        rw [hs] at HV
        clear hs
        go_wp2_with (first
          | with_reducible refine wpList_indexA rfl 150 (.tmp 6) (.tmp 7) rfl (rowA S) rfl k rfl 40 4 hlt _ HV.out Tryd.underlying150 _ Tryd.underlying4 rfl (by kernel_rfl) ?_)
        go_roundw
        case rel => exact ⟨k + 1, by omega, by go_num, HB.out, by show OwnV _ _ _ _; rw [HN.out]; exact HO.out⟩
        case measure => simp [intOf]; omega
      · have HN := Lib.hid (upK_yes hs)
        have HV := Lib.hid (rowA_at S hlt)
        rw [hs] at HV
        clear hs
        have HOA : Hid ((wr.alloc (.cells #[.int .i64 k] 3)).ownsRow w.heap.size 3 1 u3 (upK S k).length (vals (upK S k))) := World.ownsRow.alloc HO.out _
        have HNW := Lib.hid (cell_one_new wr (.int .i64 k) 3)
        go_wp2_with (first
          | with_reducible refine wpList_indexA rfl 150 (.tmp 6) (.tmp 7) rfl (rowA S) rfl k rfl 40 4 hlt _ HV.out Tryd.underlying150 _ Tryd.underlying4 rfl (by kernel_rfl) ?_
          | (at_builtin
             refine wpList_append_own _ rfl (.tmp 12) (.tmp 14) _ rfl w.heap.size 3 i0 _ 1 8 Tryd.underlying22 hi0 hz0 hz1 hz2 rfl (by omega) _ _ _ rfl HOA.out ⟨wr.heap.size, 0, none⟩ 1 1 [.int .i64 k] rfl rfl HNW.out (by simp [Value.oneCell']) (by unfold maxLen; omega) (by omega) (by simp; omega) ?_
             intro v' w' h1 h2 h3
             have HO' : Hid (OwnV w' w.heap.size v' (upK S (k + 1))) := by rw [HN.out]; exact own_snocI h1 rfl
             have HB' : Hid (Below w.heap.size w w') := (HB.out.alloc hws _).grown h2 (by simp; omega) fun j hj => (HO.out.lt j hj).1
             clear h1 h2 h3))
        go_roundw
        case rel => exact ⟨k + 1, by omega, by go_num, HB'.out, HO'.out⟩
        case measure => simp [intOf]; omega
    · obtain rfl : k = 40 := by omega
      go_wp2
      go_ret
      obtain ⟨A, c, e, h⟩ := HO.out.own
      obtain ⟨A', c', e', hc, _⟩ := HO.out.shape
      have e2 := e.symm.trans e'
      injection e2 with _ _ e3
      exact ⟨A, c, congrArg Ending.returned e, by omega, h, HB.out⟩

end Go.Proofs.YtfbpcdmpkbjifaaDoor

/- PartOf and StepsIn of both sides. -/

namespace Go.Proofs.YtfbpcdmpkbjifaaDoor
open Go.RowKit

theorem isHand_any (hs h : Int) (w : World) (hL : Lims w) :
    Calls Tryd.prog 67 #[.int .i64 hs, .int .i64 h] w fun e w' => e = .returned (.bool (decide ((1 ≤ hs ∧ hs ≤ 4) ∧ 0 ≤ h ∧ h < hs))) ∧ Below w.heap.size w w' := by
  have HL := Lib.hid hL; clear hL
  cases h1 : inB 1 4 hs
  · have HE : Hid (decide ((1 ≤ hs ∧ hs ≤ 4) ∧ 0 ≤ h ∧ h < hs) = false) := decide_eq_false fun k => by have h2 := inB_t k.1.1 k.1.2; rw [h1] at h2; cases h2
    go_enter Tryd.func67, Tryd.ntmps67
    go_wp2_with (go_at_call 66; refine (within6 hs w HL.out).mono ?_; rintro e w1 ⟨rfl, hB⟩; rw [h1]; have HB := Lib.hid hB; clear hB)
    go_ret
    exact ⟨ret_b HE.out.symm, HB.out⟩
  · have hlo := inB_lo h1
    have hhi := inB_hi h1
    go_enter Tryd.func67, Tryd.ntmps67
    go_wp2_with (go_at_call 66; refine (within6 hs w HL.out).mono ?_; rintro e w1 ⟨rfl, hB⟩; rw [h1]; have HB := Lib.hid hB; clear hB)
    all_goals
      go_ret
      refine ⟨ret_b ?_, HB.out⟩
      first | rfl | (rw [Bool.eq_iff_iff]; simp; omega) | (rw [Bool.eq_iff_iff]; simp)

end Go.Proofs.YtfbpcdmpkbjifaaDoor

/- StepsIn of both sides. -/

namespace Go.Proofs.YtfbpcdmpkbjifaaDoor
open Go.RowKit

theorem hs4 {hs : Int} (h0 : 1 ≤ hs) (h1 : hs ≤ 4) : hs = 1 ∨ hs = 2 ∨ hs = 3 ∨ hs = 4 := by omega
theorem stB_t {n hs : Int} (h1 : inB 0 10 n = true) (h2 : inB 1 4 hs = true) : stB n hs = true := decide_eq_true ⟨⟨inB_lo h1, inB_hi h1⟩, inB_lo h2, inB_hi h2⟩
theorem stB_f1 {n hs : Int} (h1 : inB 0 10 n = false) : stB n hs = false := decide_eq_false fun h => by have h2 := inB_t h.1.1 h.1.2; rw [h1] at h2; cases h2
theorem stB_f2 {n hs : Int} (h1 : inB 1 4 hs = false) : stB n hs = false := decide_eq_false fun h => by have h2 := inB_t h.2.1 h.2.2; rw [h1] at h2; cases h2

theorem stepsIn_any (n hs : Int) (w : World) (h0 : 0 ≤ n) (h1 : n ≤ 10) (h2 : 1 ≤ hs) (h3 : hs ≤ 4) :
    Calls Tryd.prog 69 #[.int .i64 n, .int .i64 hs] w fun e w' => e = .returned (.int .i64 (stN n hs)) ∧ w' = w := by
  have HC := Lib.hid (cellCount_any n w h0 h1)
  have hc := cntC_bound h0 h1
  generalize hcc : cntC n = cc at HC hc
  have HE : Hid (stN n hs = cc + n * hs) := by show _ = _; unfold stN; rw [hcc]
  clear hcc
  rcases hs4 h2 h3 with rfl | rfl | rfl | rfl
  all_goals
    go_enter Tryd.func69, Tryd.ntmps69
    go_wp2_with (go_at_call 117; refine HC.out.mono ?_; rintro e w1 ⟨rfl, rfl⟩)
    go_ret
    exact ⟨ret_int (by have := HE.out; omega), rfl⟩

theorem implStepsIn_any (n hs : Int) (w : World) (hL : Lims w) :
    Calls Tryd.prog 18 #[.int .i64 n, .int .i64 hs] w fun e w' => e = .returned (.tuple #[.int .i64 (stV n hs), .bool (stB n hs)]) ∧ Below w.heap.size w w' := by
  have HL := Lib.hid hL; clear hL
  cases h1 : inB 0 10 n
  · have HB1 := Lib.hid (stB_f1 (hs := hs) h1)
    have HV : Hid (stV n hs = 0) := by show _ = _; unfold stV; rw [HB1.out]; rfl
    go_enter Tryd.func18, Tryd.ntmps18
    go_wp2_with (go_at_call 66; with_reducible refine (within4 n _ HL.out).mono ?_; rintro e w1 ⟨rfl, hB⟩; rw [h1]; have HB := Lib.hid hB; clear hB)
    go_ret2
    exact ⟨by rw [HV.out, HB1.out]; rfl, HB.out⟩
  · cases h2 : inB 1 4 hs
    · have HB1 := Lib.hid (stB_f2 (n := n) h2)
      have HV : Hid (stV n hs = 0) := by show _ = _; unfold stV; rw [HB1.out]; rfl
      go_enter Tryd.func18, Tryd.ntmps18
      go_wp2_with (first
        | (go_at_call 66; with_reducible refine (within4 n w HL.out).mono ?_; rintro e w1 ⟨rfl, hB⟩; rw [h1]; have HB := Lib.hid hB; clear hB)
        | (go_at_call 66; with_reducible refine (within6 hs _ (HL.out.keep HB.out (Nat.le_refl _))).mono ?_; rintro e w2 ⟨rfl, hB⟩; rw [h2]; have HB2 := Lib.hid (HB.out.trans (hB.mono HB.out.size)); clear hB))
      go_ret2
      exact ⟨by rw [HV.out, HB1.out]; rfl, HB2.out⟩
    · have HB1 := Lib.hid (stB_t h1 h2)
      have HV : Hid (stV n hs = stN n hs) := by show _ = _; unfold stV; rw [HB1.out]; rfl
      have HN := Lib.hid (fun v => stepsIn_any n hs v (inB_lo h1) (inB_hi h1) (inB_lo h2) (inB_hi h2))
      go_enter Tryd.func18, Tryd.ntmps18
      go_wp2_with (first
        | (go_at_call 66; with_reducible refine (within4 n w HL.out).mono ?_; rintro e w1 ⟨rfl, hB⟩; rw [h1]; have HB := Lib.hid hB; clear hB)
        | (go_at_call 66; with_reducible refine (within6 hs _ (HL.out.keep HB.out (Nat.le_refl _))).mono ?_; rintro e w2 ⟨rfl, hB⟩; rw [h2]; have HB2 := Lib.hid (HB.out.trans (hB.mono HB.out.size)); clear hB)
        | (go_at_call 69; refine (HN.out _).mono ?_; rintro e w3 ⟨rfl, rfl⟩))
      go_ret2
      exact ⟨by rw [HV.out, HB1.out]; rfl, HB2.out⟩

theorem l8Hands_any (n hs : Int) (w : World) :
    Calls Tryd.prog 63 #[.int .i64 n, .int .i64 hs] w fun e w' => e = .returned (.bool (stB n hs)) ∧ w' = w := by
  cases h1 : inB 0 10 n
  · have HB1 := Lib.hid (stB_f1 (hs := hs) h1)
    go_enter Tryd.func63, Tryd.ntmps63
    go_wp2_with (go_at_call 64; refine (l1In_any _ _ _ _).mono ?_; rintro e w1 ⟨rfl, rfl⟩; rw [h1])
    go_ret
    exact ⟨ret_b HB1.out.symm, rfl⟩
  · have HB1 : Hid (stB n hs = inB 1 4 hs) := by
      show _ = _
      cases h2 : inB 1 4 hs
      · exact stB_f2 h2
      · exact stB_t h1 h2
    go_enter Tryd.func63, Tryd.ntmps63
    go_wp2_with (go_at_call 64; refine (l1In_any _ _ _ _).mono ?_; rintro e w1 ⟨rfl, rfl⟩; first | rw [h1] | skip)
    go_ret
    exact ⟨ret_b HB1.out.symm, rfl⟩

theorem specStepsIn_any (n hs : Int) (w : World) :
    Calls Tryd.prog 17 #[.int .i64 n, .int .i64 hs] w fun e w' => e = .returned (.tuple #[.int .i64 (stV n hs), .bool (stB n hs)]) ∧ w' = w := by
  cases hb : stB n hs
  · have HV : Hid (stV n hs = 0) := by show _ = _; unfold stV; rw [hb]; rfl
    go_enter Tryd.func17, Tryd.ntmps17
    go_wp2_with (go_at_call 63; refine (l8Hands_any _ _ _).mono ?_; rintro e w1 ⟨rfl, rfl⟩; rw [hb])
    go_ret2
    exact ⟨by rw [HV.out]; rfl, rfl⟩
  · have hb' := of_decide_eq_true hb
    have HV : Hid (stV n hs = stN n hs) := by show _ = _; unfold stV; rw [hb]; rfl
    obtain ⟨⟨h0, h1⟩, h2, h3⟩ := hb'
    rcases n11 h0 h1 with rfl | rfl | rfl | rfl | rfl | rfl | rfl | rfl | rfl | rfl | rfl
    all_goals
      go_enter Tryd.func17, Tryd.ntmps17
      go_wp2_with (go_at_call 63; refine (l8Hands_any _ _ _).mono ?_; rintro e w1 ⟨rfl, rfl⟩; rw [hb])
      go_ret2
      refine ⟨?_, rfl⟩
      rw [HV.out]
      first
        | rfl
        | (unfold stN cntC; simp)

end Go.Proofs.YtfbpcdmpkbjifaaDoor

/- PartOf of both sides. Made by mk_parti.py. -/

namespace Go.Proofs.YtfbpcdmpkbjifaaDoor
open Go.RowKit

set_option maxRecDepth 20000 in
set_option maxHeartbeats 1000000 in
theorem partOf_any (n hs h l : Int) (w : World) (hn0 : 0 ≤ n) (hn1 : n ≤ 10) (hs0 : 1 ≤ hs) (hs1 : hs ≤ 4) (hh0 : 0 ≤ h) (hh1 : h ≤ 4) (hl0 : 1 ≤ l) (hl1 : l ≤ 10) :
    Calls Tryd.prog 68 #[.int .i64 n, .int .i64 hs, .int .i64 h, .int .i64 l] w (GaveI w (partL n hs h l)) := by
  obtain ⟨i0, hi0, hz0, hz1, hz2⟩ := info_of Tryd.infoInt
  go_enter Tryd.func68, Tryd.ntmps68
  go_wp2
  go_loopw [9, 10] (fun v f wr => ∃ (k : Nat) (y : Int) (xs : List Int), f = .int .i64 y ∧ k ≤ 11 ∧ (k : Int) ≤ y ∧ y ≤ 14 ∧ xs.length = k ∧ Hid (xs ++ partF n hs l (11 - k) y = partL n hs h l) ∧ Hid (Below w.heap.size w wr) ∧ Hid (OwnV wr w.heap.size v xs)) (fun _ f _ => (20 - intOf f).toNat)
  case atStart => exact ⟨0, h, [], rfl, by omega, by omega, by omega, rfl, rfl, Below.refl _ _, OwnV.nil _ _⟩
  case round =>
    obtain ⟨k, y, xs, rfl, hk, hky, hy, hxl, HP, HB, HO⟩ := hrel
    by_cases hlt : y + l ≤ n
    · have hws : w.heap.size ≤ wr.heap.size := HB.out.size
      have HP2 : Hid ((xs ++ [y]) ++ partF n hs l (11 - (k + 1)) (y + hs) = partL n hs h l) := by
        show _ = _
        rw [List.append_assoc, List.singleton_append, ← partF_yes (by omega) hlt]
        exact HP.out
      have HXL := Lib.hid hxl
      clear hxl HP
      have hxl2 : xs.length ≤ 11 := by rw [HXL.out]; exact hk
      have HOA : Hid ((wr.alloc (.cells #[.int .i64 y] 3)).ownsRow w.heap.size 3 1 u9 xs.length (vals xs)) := World.ownsRow.alloc HO.out _
      have HNW := Lib.hid (cell_one_new wr (.int .i64 y) 3)
      go_wp2_with (first
        | (at_builtin
           refine wpList_append_own _ rfl (.tmp 20) (.tmp 22) _ rfl w.heap.size 3 i0 _ 1 8 Tryd.underlying22 hi0 hz0 hz1 hz2 rfl (by omega) _ _ _ rfl HOA.out ⟨wr.heap.size, 0, none⟩ 1 1 [.int .i64 y] rfl rfl HNW.out (by simp [Value.oneCell']) (by unfold maxLen; omega) (by omega) (by simp; omega) ?_
           intro v' w' h1 h2 h3
           have HO' : Hid (OwnV w' w.heap.size v' (xs ++ [y])) := own_snocI h1 rfl
           have HB' : Hid (Below w.heap.size w w') := (HB.out.alloc hws _).grown h2 (by simp; omega) fun j hj => (HO.out.lt j hj).1
           clear h1 h2 h3))
      go_roundw
      case rel => exact ⟨k + 1, y + hs, xs ++ [y], rfl, by omega, by push_cast; omega, by omega, by rw [List.length_append, HXL.out]; rfl, HP2, HB', HO'⟩
      case measure => simp [intOf]; omega
    · have HE : Hid (xs = partL n hs h l) := by
        have := HP.out
        rw [partF_no hlt, List.append_nil] at this
        exact this
      go_wp2
      go_ret
      obtain ⟨A, c, e, h⟩ := HO.out.own
      obtain ⟨A', c', e', hc, _⟩ := HO.out.shape
      have e2 := e.symm.trans e'
      injection e2 with _ _ e3
      subst e3
      rw [← HE.out]
      exact ⟨A, c, by rw [e]; rfl, hc, h, HB.out⟩

set_option maxRecDepth 20000 in
set_option maxHeartbeats 1000000 in
theorem l8Part_any (n hs h l : Int) (w : World) (hn0 : 0 ≤ n) (hn1 : n ≤ 10) (hs0 : 1 ≤ hs) (hs1 : hs ≤ 4) (hh0 : 0 ≤ h) (hh1 : h ≤ 4) (hl0 : 1 ≤ l) (hl1 : l ≤ 10) :
    Calls Tryd.prog 65 #[.int .i64 n, .int .i64 hs, .int .i64 h, .int .i64 l] w (GaveI w (partL n hs h l)) := by
  obtain ⟨i0, hi0, hz0, hz1, hz2⟩ := info_of Tryd.infoInt
  go_enter Tryd.func65, Tryd.ntmps65
  go_wp2
  go_loopw [9, 10] (fun v f wr => ∃ (k : Nat) (y : Int) (xs : List Int), f = .int .i64 y ∧ k ≤ 11 ∧ (k : Int) ≤ y ∧ y ≤ 14 ∧ xs.length = k ∧ Hid (xs ++ partF n hs l (11 - k) y = partL n hs h l) ∧ Hid (Below w.heap.size w wr) ∧ Hid (OwnV wr w.heap.size v xs)) (fun _ f _ => (20 - intOf f).toNat)
  case atStart => exact ⟨0, h, [], rfl, by omega, by omega, by omega, rfl, rfl, Below.refl _ _, OwnV.nil _ _⟩
  case round =>
    obtain ⟨k, y, xs, rfl, hk, hky, hy, hxl, HP, HB, HO⟩ := hrel
    by_cases hlt : y + l ≤ n
    · have hws : w.heap.size ≤ wr.heap.size := HB.out.size
      have HP2 : Hid ((xs ++ [y]) ++ partF n hs l (11 - (k + 1)) (y + hs) = partL n hs h l) := by
        show _ = _
        rw [List.append_assoc, List.singleton_append, ← partF_yes (by omega) hlt]
        exact HP.out
      have HXL := Lib.hid hxl
      clear hxl HP
      have hxl2 : xs.length ≤ 11 := by rw [HXL.out]; exact hk
      have HOA : Hid ((wr.alloc (.cells #[.int .i64 y] 3)).ownsRow w.heap.size 3 1 u9 xs.length (vals xs)) := World.ownsRow.alloc HO.out _
      have HNW := Lib.hid (cell_one_new wr (.int .i64 y) 3)
      go_wp2_with (first
        | (at_builtin
           refine wpList_append_own _ rfl (.tmp 20) (.tmp 22) _ rfl w.heap.size 3 i0 _ 1 8 Tryd.underlying22 hi0 hz0 hz1 hz2 rfl (by omega) _ _ _ rfl HOA.out ⟨wr.heap.size, 0, none⟩ 1 1 [.int .i64 y] rfl rfl HNW.out (by simp [Value.oneCell']) (by unfold maxLen; omega) (by omega) (by simp; omega) ?_
           intro v' w' h1 h2 h3
           have HO' : Hid (OwnV w' w.heap.size v' (xs ++ [y])) := own_snocI h1 rfl
           have HB' : Hid (Below w.heap.size w w') := (HB.out.alloc hws _).grown h2 (by simp; omega) fun j hj => (HO.out.lt j hj).1
           clear h1 h2 h3))
      go_roundw
      case rel => exact ⟨k + 1, y + hs, xs ++ [y], rfl, by omega, by push_cast; omega, by omega, by rw [List.length_append, HXL.out]; rfl, HP2, HB', HO'⟩
      case measure => simp [intOf]; omega
    · have HE : Hid (xs = partL n hs h l) := by
        have := HP.out
        rw [partF_no hlt, List.append_nil] at this
        exact this
      go_wp2
      go_ret
      obtain ⟨A, c, e, h⟩ := HO.out.own
      obtain ⟨A', c', e', hc, _⟩ := HO.out.shape
      have e2 := e.symm.trans e'
      injection e2 with _ _ e3
      subst e3
      rw [← HE.out]
      exact ⟨A, c, by rw [e]; rfl, hc, h, HB.out⟩

theorem partB_is {n hs h l : Int} (hb : partB n hs h l = true) : ((0 ≤ n ∧ n ≤ 10) ∧ (1 ≤ hs ∧ hs ≤ 4)) ∧ (0 ≤ h ∧ h < hs) ∧ (1 ≤ l ∧ l ≤ n) := of_decide_eq_true hb
theorem partV_f {n hs h l : Int} (hb : partB n hs h l = false) : partV n hs h l = [] := by unfold partV; rw [hb]; rfl
theorem partV_t {n hs h l : Int} (hb : partB n hs h l = true) : partV n hs h l = partL n hs h l := by unfold partV; rw [hb]; rfl

set_option maxHeartbeats 1000000 in
theorem implPartOf_any (n hs h l : Int) (w : World) (hL : Lims w) :
    Calls Tryd.prog 13 #[.int .i64 n, .int .i64 hs, .int .i64 h, .int .i64 l] w (GaveIB w (partV n hs h l) (partB n hs h l)) := by
  have HL := Lib.hid hL; clear hL
  cases h1 : inB 0 10 n
  · have HE : Hid (partB n hs h l = false) := decide_eq_false fun k => by have h2 := inB_t k.1.1.1 k.1.1.2; rw [h1] at h2; cases h2
    go_enter Tryd.func13, Tryd.ntmps13
    go_wp2_with (go_at_call 66; with_reducible refine (within4 n w HL.out).mono ?_; rintro e w1 ⟨rfl, hB⟩; rw [h1]; have HB := Lib.hid hB; clear hB)
    go_ret2
    exact ⟨none, 0, by rw [partV_f HE.out, HE.out]; rfl, by rw [partV_f HE.out]; exact .inl rfl, HB.out⟩
  have hn0 := inB_lo h1
  have hn1 := inB_hi h1
  cases h2 : decide ((1 ≤ hs ∧ hs ≤ 4) ∧ 0 ≤ h ∧ h < hs)
  · have HE : Hid (partB n hs h l = false) := decide_eq_false fun k => of_decide_eq_false h2 ⟨k.1.2, k.2.1⟩
    go_enter Tryd.func13, Tryd.ntmps13
    go_wp2_with (first
      | (go_at_call 66; with_reducible refine (within4 n w HL.out).mono ?_; rintro e w1 ⟨rfl, hB⟩; rw [h1]; have HB := Lib.hid hB; clear hB)
      | (go_at_call 67; with_reducible refine (isHand_any hs h _ (HL.out.keep HB.out (Nat.le_refl _))).mono ?_; rintro e w2 ⟨rfl, hB⟩; rw [h2]; have HB2 := Lib.hid (HB.out.trans (hB.mono HB.out.size)); clear hB))
    go_ret2
    exact ⟨none, 0, by rw [partV_f HE.out, HE.out]; rfl, by rw [partV_f HE.out]; exact .inl rfl, HB2.out⟩
  have h2' := of_decide_eq_true h2
  obtain ⟨⟨hs0, hs1⟩, hh0, hh1⟩ := h2'
  by_cases h3 : l < 1
  · have HE : Hid (partB n hs h l = false) := decide_eq_false fun k => by omega
    go_enter Tryd.func13, Tryd.ntmps13
    go_wp2_with (first
      | (go_at_call 66; with_reducible refine (within4 n w HL.out).mono ?_; rintro e w1 ⟨rfl, hB⟩; rw [h1]; have HB := Lib.hid hB; clear hB)
      | (go_at_call 67; with_reducible refine (isHand_any hs h _ (HL.out.keep HB.out (Nat.le_refl _))).mono ?_; rintro e w2 ⟨rfl, hB⟩; rw [h2]; have HB2 := Lib.hid (HB.out.trans (hB.mono HB.out.size)); clear hB))
    go_ret2
    exact ⟨none, 0, by rw [partV_f HE.out, HE.out]; rfl, by rw [partV_f HE.out]; exact .inl rfl, HB2.out⟩
  by_cases h4 : n < l
  · have HE : Hid (partB n hs h l = false) := decide_eq_false fun k => by omega
    go_enter Tryd.func13, Tryd.ntmps13
    go_wp2_with (first
      | (go_at_call 66; with_reducible refine (within4 n w HL.out).mono ?_; rintro e w1 ⟨rfl, hB⟩; rw [h1]; have HB := Lib.hid hB; clear hB)
      | (go_at_call 67; with_reducible refine (isHand_any hs h _ (HL.out.keep HB.out (Nat.le_refl _))).mono ?_; rintro e w2 ⟨rfl, hB⟩; rw [h2]; have HB2 := Lib.hid (HB.out.trans (hB.mono HB.out.size)); clear hB))
    go_ret2
    exact ⟨none, 0, by rw [partV_f HE.out, HE.out]; rfl, by rw [partV_f HE.out]; exact .inl rfl, HB2.out⟩
  have HE : Hid (partB n hs h l = true) := decide_eq_true ⟨⟨⟨hn0, hn1⟩, hs0, hs1⟩, ⟨hh0, hh1⟩, by omega, by omega⟩
  have HN := Lib.hid (fun v => partOf_any n hs h l v hn0 hn1 hs0 hs1 hh0 (by omega) (by omega) (by omega))
  go_enter Tryd.func13, Tryd.ntmps13
  go_wp2_with (first
    | (go_at_call 66; with_reducible refine (within4 n w HL.out).mono ?_; rintro e w1 ⟨rfl, hB⟩; rw [h1]; have HB := Lib.hid hB; clear hB)
    | (go_at_call 67; with_reducible refine (isHand_any hs h _ (HL.out.keep HB.out (Nat.le_refl _))).mono ?_; rintro e w2 ⟨rfl, hB⟩; rw [h2]; have HB2 := Lib.hid (HB.out.trans (hB.mono HB.out.size)); clear hB)
    | (go_at_call 68; refine (HN.out _).mono ?_; rintro e w3 ⟨A, c, rfl, hc, hO, hB⟩; have HO := Lib.hid hO; have HB3 := Lib.hid (HB2.out.trans (hB.mono HB2.out.size)); have HS := Lib.hid HB2.out.size; clear hB hO))
  go_ret2
  exact ⟨A, c, by rw [partV_t HE.out, HE.out]; rfl, by rw [partV_t HE.out]; exact HO.out.lower HS.out, HB3.out⟩

set_option maxHeartbeats 1000000 in
theorem specPartOf_any (n hs h l : Int) (w : World) :
    Calls Tryd.prog 12 #[.int .i64 n, .int .i64 hs, .int .i64 h, .int .i64 l] w (GaveIB w (partV n hs h l) (partB n hs h l)) := by
  cases h1 : stB n hs
  · have HE : Hid (partB n hs h l = false) := decide_eq_false fun k => of_decide_eq_false h1 ⟨k.1.1, k.1.2⟩
    go_enter Tryd.func12, Tryd.ntmps12
    go_wp2_with (go_at_call 63; refine (l8Hands_any _ _ _).mono ?_; rintro e w1 ⟨rfl, rfl⟩; rw [h1])
    go_ret2
    exact ⟨none, 0, by rw [partV_f HE.out, HE.out]; rfl, by rw [partV_f HE.out]; exact .inl rfl, Below.refl _ _⟩
  obtain ⟨⟨hn0, hn1⟩, hs0, hs1⟩ := of_decide_eq_true h1
  cases h2 : inB 0 (hs - 1) h
  · have HE : Hid (partB n hs h l = false) := decide_eq_false fun k => by have h3 := inB_t (lo := 0) (hi := hs - 1) (n := h) k.2.1.1 (by omega); rw [h2] at h3; cases h3
    go_enter Tryd.func12, Tryd.ntmps12
    go_wp2_with (first
      | (go_at_call 63; refine (l8Hands_any _ _ _).mono ?_; rintro e w1 ⟨rfl, rfl⟩; rw [h1])
      | (go_at_call 64; refine (l1In_any _ _ _ _).mono ?_; rintro e w' ⟨rfl, rfl⟩; rw [h2]))
    go_ret2
    exact ⟨none, 0, by rw [partV_f HE.out, HE.out]; rfl, by rw [partV_f HE.out]; exact .inl rfl, Below.refl _ _⟩
  have hh0 := inB_lo h2
  have hh1 := inB_hi h2
  cases h3 : inB 1 n l
  · have HE : Hid (partB n hs h l = false) := decide_eq_false fun k => by have h4 := inB_t k.2.2.1 k.2.2.2; rw [h3] at h4; cases h4
    go_enter Tryd.func12, Tryd.ntmps12
    go_wp2_with (first
      | (go_at_call 63; refine (l8Hands_any _ _ _).mono ?_; rintro e w1 ⟨rfl, rfl⟩; rw [h1])
      | (go_at_call 64; refine (l1In_any _ _ _ _).mono ?_; rintro e w' ⟨rfl, rfl⟩; first | rw [h2] | rw [h3]))
    go_ret2
    exact ⟨none, 0, by rw [partV_f HE.out, HE.out]; rfl, by rw [partV_f HE.out]; exact .inl rfl, Below.refl _ _⟩
  have hl0 := inB_lo h3
  have hl1 := inB_hi h3
  have HE : Hid (partB n hs h l = true) := decide_eq_true ⟨⟨⟨hn0, hn1⟩, hs0, hs1⟩, ⟨hh0, by omega⟩, hl0, hl1⟩
  have HN := Lib.hid (fun v => l8Part_any n hs h l v hn0 hn1 hs0 hs1 hh0 (by omega) hl0 (by omega))
  go_enter Tryd.func12, Tryd.ntmps12
  go_wp2_with (first
    | (go_at_call 63; refine (l8Hands_any _ _ _).mono ?_; rintro e w1 ⟨rfl, rfl⟩; rw [h1])
    | (go_at_call 64; refine (l1In_any _ _ _ _).mono ?_; rintro e w' ⟨rfl, rfl⟩; first | rw [h2] | rw [h3])
    | (go_at_call 65; refine (HN.out _).mono ?_; rintro e w3 ⟨A, c, rfl, hc, hO, hB⟩; have HO := Lib.hid hO; have HB3 := Lib.hid hB; clear hB hO))
  go_ret2
  exact ⟨A, c, by rw [partV_t HE.out, HE.out]; rfl, by rw [partV_t HE.out]; exact HO.out, HB3.out⟩

end Go.Proofs.YtfbpcdmpkbjifaaDoor
