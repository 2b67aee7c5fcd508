/- The short words: the plain list of all words up to a length, in the order in which they are told. -/
import Derived.Test.YtgnpgehekfhedaaDoorUR09
import Derived.Test.YtgnpgehekfhedaaDoorUR05
import Derived.Test.YtgnpgehekfhedaaDoorUR08
import Derived.Test.YtgnpgehekfhedaaDoorUR06
import Derived.Test.YtgnpgehekfhedaaDoorUR04
import Derived.Lib.AppendZerosOnto
import Derived.Lib.AppendZeros

namespace Go.Proofs.YtgnpgehekfhedaaDoor
open Go.RowKit

/-- The words that are made of one by putting one of the first m tokens behind it. -/
def kidsTo (m : Nat) (x : List Int) : List (List Int) := (List.range m).map fun (t : Nat) => x ++ [(t : Int)]
/-- The words that are made of each of some words. -/
def kids (m : Nat) (l : List (List Int)) : List (List Int) := l.flatMap (kidsTo m)
/-- The words of n tokens. -/
def lev (m : Nat) : Nat → List (List Int)
  | 0 => [[]]
  | n + 1 => kids m (lev m n)
/-- The words of fewer than n tokens. -/
def upTo (m : Nat) : Nat → List (List Int)
  | 0 => []
  | n + 1 => upTo m n ++ lev m n

theorem kidsTo_zero (x : List Int) : kidsTo 0 x = [] := by simp [kidsTo]
theorem kidsTo_succ (m : Nat) (x : List Int) : kidsTo (m + 1) x = kidsTo m x ++ [x ++ [(m : Int)]] := by simp [kidsTo, List.range_succ]
theorem kidsTo_len (m : Nat) (x : List Int) : (kidsTo m x).length = m := by simp [kidsTo]
theorem kids_nil (m : Nat) : kids m [] = [] := rfl
theorem kids_append (m : Nat) (a b : List (List Int)) : kids m (a ++ b) = kids m a ++ kids m b := List.flatMap_append
theorem kids_snoc (m : Nat) (a : List (List Int)) (x : List Int) : kids m (a ++ [x]) = kids m a ++ kidsTo m x := by rw [kids_append]; simp [kids]
theorem kids_len (m : Nat) : ∀ l : List (List Int), (kids m l).length = l.length * m
  | [] => by simp [kids]
  | x :: l => by
    have h := kids_len m l
    unfold kids at h ⊢
    rw [List.flatMap_cons, List.length_append, h, kidsTo_len, List.length_cons, Nat.add_mul]
    omega

theorem root_kids (m : Nat) : ∀ n, [] :: kids m (upTo m n) = upTo m (n + 1)
  | 0 => by simp [upTo, kids, lev]
  | n + 1 => by
    have h := root_kids m n
    show [] :: kids m (upTo m n ++ lev m n) = upTo m (n + 1) ++ kids m (lev m n)
    rw [kids_append, ← List.cons_append, h]

theorem lev_len_mem (m : Nat) : ∀ (n : Nat) (x : List Int), x ∈ lev m n → x.length = n
  | 0, x, h => by simp [lev] at h; simp [h]
  | n + 1, x, h => by
    obtain ⟨y, hy, hx⟩ := List.mem_flatMap.1 h
    obtain ⟨t, _, rfl⟩ := List.mem_map.1 hx
    have := lev_len_mem m n y hy
    simp [this]
theorem upTo_len_mem (m : Nat) : ∀ (n : Nat) (x : List Int), x ∈ upTo m n → x.length < n
  | 0, x, h => by simp [upTo] at h
  | n + 1, x, h => by
    rcases List.mem_append.1 h with h | h
    · have := upTo_len_mem m n x h; omega
    · have := lev_len_mem m n x h; omega
theorem lev_len (m : Nat) : ∀ n, (lev m n).length = m ^ n
  | 0 => rfl
  | n + 1 => by
    show (kids m (lev m n)).length = _
    rw [kids_len, lev_len m n, Nat.pow_succ]
theorem lev_le {m n : Nat} (hm : m ≤ 4) (hn : n ≤ 4) : (lev m n).length ≤ 256 := by
  rw [lev_len]
  calc m ^ n ≤ 4 ^ n := Nat.pow_le_pow_left hm n
    _ ≤ 4 ^ 4 := Nat.pow_le_pow_right (by omega) hn
    _ = 256 := by decide
theorem upTo_le {m : Nat} (hm : m ≤ 4) : ∀ n, n ≤ 5 → (upTo m n).length ≤ n * 256
  | 0, _ => by simp [upTo]
  | n + 1, h => by
    have h1 := upTo_le hm n (by omega)
    have h2 := lev_le hm (show n ≤ 4 by omega)
    show (upTo m n ++ lev m n).length ≤ _
    rw [List.length_append]
    omega

theorem kids_take_pre (m : Nat) (l : List (List Int)) (a : Nat) : ∃ r, kids m l = kids m (l.take a) ++ r := ⟨kids m (l.drop a), by rw [← kids_append, List.take_append_drop]⟩

/-- What the queue holds when the first a of the words have been gone through. -/
def que (m n a : Nat) : List (List Int) := [] :: kids m ((upTo m n).take a)
theorem que_start (m n : Nat) : que m n 0 = [[]] := by simp [que, kids]
theorem que_end (m n : Nat) : que m n (upTo m n).length = upTo m (n + 1) := by rw [que, List.take_length, root_kids]
theorem que_pre (m n a : Nat) : ∃ r, upTo m (n + 1) = que m n a ++ r := by
  obtain ⟨r, h⟩ := kids_take_pre m (upTo m n) a
  exact ⟨r, by rw [← root_kids, h]; rfl⟩
theorem que_len {m n a : Nat} (hm : 1 ≤ m) (ha : a ≤ (upTo m n).length) : a < (que m n a).length := by
  show a < (kids m _).length + 1
  rw [kids_len, List.length_take, Nat.min_eq_left ha]
  have : a * 1 ≤ a * m := Nat.mul_le_mul_left a hm
  omega
theorem que_le {m n a : Nat} (hm : m ≤ 4) (hn : n ≤ 4) : (que m n a).length ≤ 1280 := by
  obtain ⟨r, h⟩ := que_pre m n a
  have h1 := upTo_le hm (n + 1) (by omega)
  rw [h, List.length_append] at h1
  omega
/-- The word at a place of the queue. -/
theorem que_at {m n a : Nat} {q : List (List Int)} (hm : 1 ≤ m) (ha : a < (upTo m n).length) (hq : que m n a ++ q <+: upTo m (n + 1)) : (que m n a ++ q)[a]? = (upTo m n)[a]? := by
  obtain ⟨r, hr⟩ := hq
  have h1 := que_len hm (Nat.le_of_lt ha)
  have h2 : (upTo m (n + 1))[a]? = (que m n a ++ q)[a]? := by
    rw [← hr, List.getElem?_append_left (by rw [List.length_append]; omega)]
  rw [← h2]
  show (upTo m n ++ lev m n)[a]? = _
  rw [List.getElem?_append_left ha]
theorem que_step {m n a : Nat} {x : List Int} (h : (upTo m n)[a]? = some x) : que m n (a + 1) = que m n a ++ kidsTo m x := by
  unfold que
  rw [List.take_add_one, h]
  show [] :: kids m (_ ++ [x]) = _
  rw [kids_snoc]
  rfl
theorem kidsTo_pre {j m : Nat} (h : j ≤ m) (x : List Int) : kidsTo j x <+: kidsTo m x := by
  obtain ⟨d, rfl⟩ : ∃ d, m = j + d := ⟨m - j, by omega⟩
  clear h
  induction d with
  | zero => exact List.prefix_refl _
  | succ d ih => exact ih.trans ⟨_, (kidsTo_succ (j + d) x).symm⟩
theorem que_mid {m n a j : Nat} {x : List Int} (h : (upTo m n)[a]? = some x) (hj : j ≤ m) : que m n a ++ kidsTo j x <+: upTo m (n + 1) := by
  obtain ⟨r, hr⟩ := que_pre m n (a + 1)
  obtain ⟨s, hs⟩ := kidsTo_pre hj x
  refine ⟨s ++ r, ?_⟩
  rw [hr, que_step h, ← hs]
  simp only [List.append_assoc]
theorem que_word {m n a : Nat} {q : List (List Int)} {x : List Int} (hm : 1 ≤ m) (h : (upTo m n)[a]? = some x) (hq : que m n a ++ q <+: upTo m (n + 1)) : (que m n a ++ q)[a]? = some x := by
  rw [que_at hm (List.getElem?_eq_some_iff.1 h).1 hq, h]
theorem que_last {m n : Nat} (hm : 1 ≤ m) : ∃ x, (que m n (upTo m n).length)[(upTo m n).length]? = some x ∧ x.length = n := by
  rw [que_end]
  show ∃ x, (upTo m n ++ lev m n)[(upTo m n).length]? = some x ∧ _
  rw [List.getElem?_append_right (Nat.le_refl _), Nat.sub_self]
  have h : 0 < (lev m n).length := by rw [lev_len]; exact Nat.pow_pos (by omega)
  refine ⟨(lev m n)[0], List.getElem?_eq_getElem h, lev_len_mem m n _ (List.getElem_mem h)⟩
theorem upTo_word {m n a : Nat} {x : List Int} (h : (upTo m n)[a]? = some x) : x.length < n := upTo_len_mem m n x (List.mem_of_getElem? h)

/-- A word is of the language. -/
noncomputable def langB (ss : List (Int × List Int)) (ws : List Int) : Bool := bP (Der ss ws 0 0 ws.length)
/-- What the short words are. -/
noncomputable def shortV (n t : Int) (ss : List (Int × List Int)) (x : Int) : List (List Int) := if goodG n t ss = true ∧ 0 ≤ x ∧ x ≤ 4 then (upTo t.toNat (x.toNat + 1)).filter (langB ss) else []
def okS (n t : Int) (ss : List (Int × List Int)) (x : Int) : Bool := goodG n t ss && decide (0 ≤ x ∧ x ≤ 4)
theorem shortV_len {n t : Int} {ss : List (Int × List Int)} {x : Int} (ht : goodG n t ss = true → t ≤ 4) : (shortV n t ss x).length ≤ 1280 := by
  unfold shortV
  split
  · rename_i h
    refine Nat.le_trans (List.length_filter_le _ _) ?_
    have := upTo_le (m := t.toNat) (by have := ht h.1; omega) (x.toNat + 1) (by omega)
    omega
  · simp
theorem shortV_lens {n t : Int} {ss : List (Int × List Int)} {x : Int} {y : List Int} (h : y ∈ shortV n t ss x) : y.length ≤ 4 := by
  unfold shortV at h
  split at h
  · have := upTo_len_mem _ _ y (List.mem_filter.1 h).1
    omega
  · simp at h
theorem filter_yes {P : List Int → Bool} {l : List (List Int)} {k : Nat} (hk : k < l.length) (h : P l[k] = true) : (l.take (k + 1)).filter P = (l.take k).filter P ++ [l[k]] := by
  rw [List.take_succ_eq_append_getElem hk, List.filter_append]
  simp [h]
theorem filter_no {P : List Int → Bool} {l : List (List Int)} {k : Nat} (hk : k < l.length) (h : P l[k] = false) : (l.take (k + 1)).filter P = (l.take k).filter P := by
  rw [List.take_succ_eq_append_getElem hk, List.filter_append]
  simp [h]

end Go.Proofs.YtgnpgehekfhedaaDoor

/- Slices of lists that are appended to: a list made just before; a list that lies in another slice of lists. -/

namespace Go.Proofs.YtgnpgehekfhedaaDoor
open Go.RowKit

theorem sayL_snoc (ds : List Li) (u : Li) : sayL (ds ++ [u]) = sayL ds ++ [u.r] := by simp [sayL]
theorem sayL_get {ds : List Li} {xs : List (List Int)} {k : Nat} {x : List Int} (h : sayL ds = xs) (hx : xs[k]? = some x) : ∃ u, ds[k]? = some u ∧ u.r = x := by
  rw [← h] at hx
  unfold sayL at hx
  rw [List.getElem?_map] at hx
  cases e : ds[k]? with
  | none => rw [e] at hx; cases hx
  | some u => rw [e] at hx; exact ⟨u, rfl, Option.some.inj hx⟩

/-- A list that was made just now is appended. -/
theorem ListsW.pushI {w w1 w2 : World} {lo : Nat} {v v' : Value} {ds : List Li} {A : Option Addr} {xs : List Int} {c : Nat} {o : Obj} (h : ListsW w lo v ds) (hb : Below w.heap.size w w1) (hlo : lo ≤ w.heap.size) (hO : OwnI w1 w.heap.size A xs) (hcap : xs.length ≤ c)
    (ho : w2.ownsRow lo 27 1 v' (ds.length + 1) (ds.map cellsL ++ [.slice A xs.length c])) (hg : (w1.alloc o).grownBy w2 v.ownBlock) : ListsW w2 lo v' (ds ++ [⟨A, xs, c⟩]) := by
  have hB2 : Below w1.heap.size w1 (w1.alloc o) := (Below.refl _ _).alloc (Nat.le_refl _) _
  have hO2 := hO.below hB2 (Nat.le_refl _)
  exact ((h.keep hb).keep hB2).step (hO2.lower hlo) hcap (h.apart hO) ho hg

theorem one_new (w : World) (x : Value) (t : TypeId) : ∀ j u, [x][j]? = some u → (w.alloc (.cells #[x] t)).cell? ((⟨w.heap.size, 0, none⟩ : Addr).add j) = some u := by
  intro j u h
  rw [Go.WideShapes.add_plain, Nat.zero_add]
  rcases j with _ | j
  · simpa [go_sem] using h
  · simp at h

/-- The slice v of lists is new from lo2 on and reads as ds; each list is the call's own from lo on, and no two lie in one block. -/
structure ListsV (w : World) (lo lo2 : Nat) (v : Value) (ds : List Li) : Prop where
  row : w.ownsRow lo2 27 1 v ds.length (ds.map cellsL)
  caps : ∀ (j : Nat) (u : Li), ds[j]? = some u → u.r.length ≤ u.c
  rts : ∀ (j : Nat) (u : Li), ds[j]? = some u → OwnI w lo u.a u.r
  far : ∀ (i j : Nat) (u v : Li), ds[i]? = some u → ds[j]? = some v → i ≠ j → u.r ≠ [] → v.r ≠ [] → u.a ≠ v.a

theorem ListsV.start (w : World) (lo lo2 : Nat) : ListsV w lo lo2 (.slice none 0 0) [] := ⟨⟨rfl, .inl ⟨rfl, rfl⟩⟩, fun j u h => by simp at h, fun j u h => by simp at h, fun i j u v h => by simp at h⟩
theorem ListsV.keep {w w' : World} {lo lo2 : Nat} {v : Value} {ds : List Li} (h : ListsV w lo lo2 v ds) (hb : Below w.heap.size w w') : ListsV w' lo lo2 v ds :=
  ⟨own_below h.row hb, h.caps, fun j x hx => (h.rts j x hx).below hb (Nat.le_refl _), h.far⟩
theorem ListsV.lt {w : World} {lo lo2 : Nat} {v : Value} {ds : List Li} (h : ListsV w lo lo2 v ds) (b : Nat) (e : v.ownBlock = some b) : lo2 ≤ b ∧ b < w.heap.size := h.row.lt b e
theorem ListsV.slice {w : World} {lo lo2 : Nat} {v : Value} {ds : List Li} (h : ListsV w lo lo2 v ds) (hl : lo ≤ lo2) : ∃ A c, v = .slice A ds.length c ∧ ds.length ≤ c ∧ OwnL w lo A ds := by
  obtain ⟨_, ⟨rfl, h0⟩ | ⟨g, cap, cur, rfl, hlo, hg, hcap, _, _, hx⟩⟩ := h.row
  · have : ds = [] := List.eq_nil_of_length_eq_zero h0
    subst this
    exact ⟨none, 0, rfl, Nat.le_refl _, .inl rfl⟩
  · refine ⟨_, cap, rfl, hcap, .inr ⟨g, cur, rfl, by omega, hg, fun k u hu => ?_, h.far⟩⟩
    have hk := (List.getElem?_eq_some_iff.1 hu).1
    have f1 : (ds.map cellsL)[k]? = some (cellsL u) := by rw [List.getElem?_map, hu]; rfl
    rw [← hx, List.getElem?_take, if_pos (by omega)] at f1
    exact ⟨by simpa [cellsL] using f1, h.caps k u hu, h.rts k u hu⟩
theorem ListsV.step {w w2 : World} {lo lo2 : Nat} {v v' : Value} {ds : List Li} {u : Li} (h : ListsV w lo lo2 v ds) (hO : OwnI w lo u.a u.r) (hcap : u.r.length ≤ u.c)
    (hap : ∀ (j : Nat) (x : Li), ds[j]? = some x → x.r ≠ [] → u.r ≠ [] → x.a ≠ u.a)
    (ho : w2.ownsRow lo2 27 1 v' (ds.length + 1) (ds.map cellsL ++ [.slice u.a u.r.length u.c])) (hg : w.grownBy w2 v.ownBlock) : ListsV w2 lo lo2 v' (ds ++ [u]) := by
  refine ⟨?_, ?_, ?_, ?_⟩
  · rw [List.length_append, List.map_append]
    simpa [cellsL] using ho
  · intro j x hx
    rcases getElem?_snoc hx with ⟨_, hx⟩ | ⟨_, rfl⟩
    · exact h.caps j x hx
    · exact hcap
  · intro j x hx
    rcases getElem?_snoc hx with ⟨_, hx⟩ | ⟨_, rfl⟩
    · exact (h.rts j x hx).grownL h.row hg
    · exact hO.grownL h.row hg
  · intro i j x y hx hy hij hxn hyn
    rcases getElem?_snoc hx with ⟨_, hx'⟩ | ⟨hi, ei⟩ <;> rcases getElem?_snoc hy with ⟨_, hy'⟩ | ⟨hj, ej⟩
    · exact h.far i j x y hx' hy' hij hxn hyn
    · rw [ej] at hyn ⊢; exact hap i x hx' hxn hyn
    · rw [ei] at hxn ⊢; exact fun e => hap j y hy' hyn hxn e.symm
    · omega

/-- The lists es are some of the first k of ds. -/
def SomeOf (es ds : List Li) (k : Nat) : Prop := ∀ (j : Nat) (x : Li), es[j]? = some x → ∃ i, i < k ∧ ds[i]? = some x
theorem SomeOf.start (ds : List Li) : SomeOf [] ds 0 := fun j x h => by simp at h
theorem SomeOf.more {es ds : List Li} {k : Nat} (h : SomeOf es ds k) : SomeOf es ds (k + 1) := fun j x hx => by
  obtain ⟨i, hi, e⟩ := h j x hx
  exact ⟨i, by omega, e⟩
theorem SomeOf.snoc {es ds : List Li} {k : Nat} (h : SomeOf es ds k) {u : Li} (hu : ds[k]? = some u) : SomeOf (es ++ [u]) ds (k + 1) := fun j x hx => by
  rcases getElem?_snoc hx with ⟨_, hx⟩ | ⟨_, rfl⟩
  · exact h.more j x hx
  · exact ⟨k, by omega, hu⟩

/-- A list out of ds, whose lists lie apart, is appended to a slice of those ahead of it. -/
theorem ListsV.pushU {w w1 w2 : World} {lo lo2 : Nat} {v v' : Value} {es ds : List Li} {k : Nat} {u : Li} {o : Obj} (h : ListsV w lo lo2 v es) (hb : Below w.heap.size w w1) (hS : SomeOf es ds k) (hu : ds[k]? = some u) (hO : OwnI w1 lo u.a u.r) (hcap : u.r.length ≤ u.c)
    (hfar : ∀ (i j : Nat) (u v : Li), ds[i]? = some u → ds[j]? = some v → i ≠ j → u.r ≠ [] → v.r ≠ [] → u.a ≠ v.a)
    (ho : w2.ownsRow lo2 27 1 v' (es.length + 1) (es.map cellsL ++ [.slice u.a u.r.length u.c])) (hg : (w1.alloc o).grownBy w2 v.ownBlock) : ListsV w2 lo lo2 v' (es ++ [u]) := by
  have hB2 : Below w1.heap.size w1 (w1.alloc o) := (Below.refl _ _).alloc (Nat.le_refl _) _
  refine ((h.keep hb).keep hB2).step (hO.below hB2 (Nat.le_refl _)) hcap (fun j x hx hxn hun => ?_) ho hg
  obtain ⟨i, hi, e⟩ := hS j x hx
  exact hfar i k x u e hu (by omega) hxn hun

/-- A slice of one list, as it is written. -/
theorem ListsW.one {w : World} {lo g : Nat} {A : Option Addr} {xs : List Int} {c : Nat} (hr : Row w g 27 #[.slice A xs.length c]) (hlo : lo ≤ g) (hO : OwnI w lo A xs) (hcap : xs.length ≤ c) : ListsW w lo (.slice (some ⟨g, 0, none⟩) 1 1) [⟨A, xs, c⟩] := by
  refine ⟨⟨rfl, .inr ⟨g, 1, _, rfl, hlo, hr, Nat.le_refl _, by unfold maxLen; omega, rfl, rfl⟩⟩, fun j u hu => ?_, fun j u hu => ?_, fun i j u v hu hv hij => ?_⟩
  · rcases j with _ | j
    · simp at hu; subst hu; exact hcap
    · simp at hu
  · rcases j with _ | j
    · simp at hu; subst hu; exact hO
    · simp at hu
  · have h1 := (List.getElem?_eq_some_iff.1 hu).1
    have h2 := (List.getElem?_eq_some_iff.1 hv).1
    simp at h1 h2
    omega

end Go.Proofs.YtgnpgehekfhedaaDoor

/- The reference's l5Insert: a list put into its place among rising lists. -/

namespace Go.Proofs.YtgnpgehekfhedaaDoor
open Go.RowKit

/-- A slice of lists that is the call's own; the lists can be read. -/
structure LsR (w : World) (lo : Nat) (v : Value) (ds : List Li) : Prop where
  row : w.ownsRow lo 27 1 v ds.length (ds.map cellsL)
  caps : ∀ u ∈ ds, u.r.length ≤ u.c
  own : ∀ u ∈ ds, OwnI w lo u.a u.r
  far : ds.Pairwise fun u v => u.r ≠ [] → v.r ≠ [] → u.a ≠ v.a
theorem LsR.start (w : World) (lo : Nat) : LsR w lo (.slice none 0 0) [] := ⟨⟨rfl, .inl ⟨rfl, rfl⟩⟩, fun u h => by simp at h, fun u h => by simp at h, List.Pairwise.nil⟩
/-- A list that was made later lies apart. -/
theorem LsR.apart {w w1 : World} {lo : Nat} {v : Value} {ds : List Li} {A : Option Addr} {xs : List Int} (h : LsR w lo v ds) (hO : OwnI w1 w.heap.size A xs) : ∀ u ∈ ds, u.r ≠ [] → xs ≠ [] → u.a ≠ A := by
  intro u hu hne hne' he
  rcases h.own u hu with h6 | ⟨g1, _, e1, _, r1, _⟩
  · exact hne h6
  · rcases hO with h7 | ⟨g2, _, e2, l2, _, _⟩
    · exact hne' h7
    · rw [e1, e2] at he
      have := r1.lt
      injection he with he
      injection he with he
      omega
theorem LsR.keep {w w' : World} {lo : Nat} {v : Value} {ds : List Li} (h : LsR w lo v ds) (hb : Below w.heap.size w w') : LsR w' lo v ds :=
  ⟨own_below h.row hb, h.caps, fun u hu => (h.own u hu).below hb (Nat.le_refl _), h.far⟩
theorem LsR.shape {w : World} {lo : Nat} {v : Value} {ds : List Li} (h : LsR w lo v ds) : ∃ A c, v = .slice A ds.length c ∧ ds.length ≤ c ∧ Lls w w.heap.size A ds ∧ (A = none ∨ ∃ b q, A = some ⟨b, q, none⟩) := by
  rcases h.row.2 with ⟨rfl, h0⟩ | ⟨g, cap, cur, rfl, hlo, hg, hcap, _, _, hx⟩
  · exact ⟨none, 0, by rw [h0], by omega, fun h => by omega, .inl rfl⟩
  · refine ⟨_, cap, rfl, hcap, fun _ => ⟨g, 0, rfl, Row.lt (t := 27) hg, fun k u hu => ?_⟩, .inr ⟨g, 0, rfl⟩⟩
    have hk := (List.getElem?_eq_some_iff.1 hu).1
    have f1 : (ds.map cellsL)[k]? = some (cellsL u) := by rw [List.getElem?_map, hu]; rfl
    rw [← hx, List.getElem?_take, if_pos (by omega)] at f1
    refine ⟨?_, h.caps u (List.mem_of_getElem? hu), (h.own u (List.mem_of_getElem? hu)).ints⟩
    rw [Nat.zero_add, Row.cell (t := 27) hg]
    simpa [cellsL] using f1

theorem far_put {ds : List Li} {k : Nat} {A : Option Addr} {xs : List Int} {c : Nat} (h : ds.Pairwise fun u v => u.r ≠ [] → v.r ≠ [] → u.a ≠ v.a) (hap : ∀ u ∈ ds, u.r ≠ [] → xs ≠ [] → u.a ≠ A) : (ds.take k ++ [(⟨A, xs, c⟩ : Li)] ++ ds.drop k).Pairwise fun u v => u.r ≠ [] → v.r ≠ [] → u.a ≠ v.a := by
  have hsp : (ds.take k ++ ds.drop k).Pairwise (fun u v => u.r ≠ [] → v.r ≠ [] → u.a ≠ v.a) := by rw [List.take_append_drop]; exact h
  obtain ⟨p1, p2, p3⟩ := List.pairwise_append.1 hsp
  rw [List.append_assoc]
  refine List.pairwise_append.2 ⟨p1, List.pairwise_append.2 ⟨by simp, p2, fun a h b hb => ?_⟩, fun a h b hb => ?_⟩
  · rw [List.mem_singleton] at h
    subst h
    exact fun h1 h2 e => hap b (List.mem_of_mem_drop hb) h2 h1 e.symm
  · rcases List.mem_append.1 hb with h' | h'
    · rw [List.mem_singleton] at h'
      subst h'
      exact fun h1 h2 => hap a (List.mem_of_mem_take h) h1 h2
    · exact p3 a h b h'
theorem LsR.ownL {w : World} {lo : Nat} {v : Value} {ds : List Li} (h : LsR w lo v ds) : ∃ A c, v = .slice A ds.length c ∧ ds.length ≤ c ∧ OwnL w lo A ds := by
  obtain ⟨_, ⟨rfl, h0⟩ | ⟨g, cap, cur, rfl, hlo, hg, hcap, _, _, hx⟩⟩ := h.row
  · have : ds = [] := List.eq_nil_of_length_eq_zero h0
    subst this
    exact ⟨none, 0, rfl, Nat.le_refl _, .inl rfl⟩
  · refine ⟨_, cap, rfl, hcap, .inr ⟨g, cur, rfl, hlo, hg, fun k u hu => ?_, fun i j u v hu hv hij => ?_⟩⟩
    · have hk := (List.getElem?_eq_some_iff.1 hu).1
      have f1 : (ds.map cellsL)[k]? = some (cellsL u) := by rw [List.getElem?_map, hu]; rfl
      rw [← hx, List.getElem?_take, if_pos (by omega)] at f1
      exact ⟨by simpa [cellsL] using f1, h.caps u (List.mem_of_getElem? hu), h.own u (List.mem_of_getElem? hu)⟩
    · obtain ⟨hi, eu⟩ := List.getElem?_eq_some_iff.1 hu
      obtain ⟨hj, ev⟩ := List.getElem?_eq_some_iff.1 hv
      subst eu ev
      rcases Nat.lt_or_gt_of_ne hij with h1 | h1
      · exact List.pairwise_iff_getElem.1 h.far i j hi hj h1
      · exact fun a b e => List.pairwise_iff_getElem.1 h.far j i hj hi h1 b a e.symm

theorem own_emptyL (w : World) : (w.alloc (.cells #[] 27)).ownsRow w.heap.size 27 1 (.slice (some ⟨w.heap.size, 0, none⟩) 0 0) 0 [] :=
  ⟨rfl, .inr ⟨w.heap.size, 0, #[], rfl, Nat.le_refl _, heap_alloc_new w _, Nat.le_refl _, by unfold maxLen; omega, rfl, rfl⟩⟩
theorem cellsL_one (ds : List Li) : ∀ u ∈ ds.map cellsL, u.oneCell' = true := fun u hu => by
  obtain ⟨x, _, rfl⟩ := List.mem_map.1 hu
  rfl
/-- What an owned row of lists looks like, and its cells. -/
theorem own_cellsL {w : World} {lo n : Nat} {v : Value} {xs : List Value} (h : w.ownsRow lo 27 1 v n xs) : ∃ ao c, v = .slice ao n c ∧ (0 < n → ∃ ad : Addr, ao = some ad ∧ ad.block < w.heap.size ∧ ∀ (j : Nat) (u : Value), xs[j]? = some u → w.cell? (ad.add j) = some u) := by
  obtain ⟨hl, ⟨rfl, h0⟩ | ⟨g, cap, cur, rfl, hlo, hg, hcap, _, _, hx⟩⟩ := h
  · exact ⟨none, 0, by rw [h0], fun h => by omega⟩
  · refine ⟨_, cap, rfl, fun _ => ⟨⟨g, 0, none⟩, rfl, Row.lt (t := 27) hg, fun j u hu => ?_⟩⟩
    have hj := (List.getElem?_eq_some_iff.1 hu).1
    rw [Go.WideShapes.add_plain, Nat.zero_add, Row.cell (t := 27) hg]
    rw [← hx, List.getElem?_take] at hu
    split at hu
    · simpa using hu
    · cases hu

/-- What l5Insert ends in. -/
def InsOK (w : World) (lo : Nat) (ds : List Li) (xs : List Int) (e : Ending) (w' : World) : Prop :=
  ∃ v' ds', e = .returned v' ∧ LsR w' lo v' ds' ∧ RisesL (sayL ds') ∧ (∀ z, z ∈ sayL ds' ↔ z = xs ∨ z ∈ sayL ds) ∧ ds'.length ≤ ds.length + 1 ∧ Below w.heap.size w w'

theorem sayL_take (ds : List Li) (k : Nat) : sayL (ds.take k) = (sayL ds).take k := by simp [sayL, List.map_take]
theorem sayL_drop (ds : List Li) (k : Nat) : sayL (ds.drop k) = (sayL ds).drop k := by simp [sayL, List.map_drop]

set_option maxRecDepth 20000 in
set_option maxHeartbeats 2000000 in
theorem l5Insert_any (lo : Nat) (v : Value) (ds : List Li) (Ax : Option Addr) (xs : List Int) (cx : Nat) (w : World) (hv : LsR w lo v ds) (hr : RisesL (sayL ds)) (hxo : OwnI w lo Ax xs) (hap : ∀ u ∈ ds, u.r ≠ [] → xs ≠ [] → u.a ≠ Ax) (hcx : xs.length ≤ cx) (hlen : ∀ u ∈ ds, u.r.length = xs.length) (hxl : xs.length ≤ 1000) (hdl : ds.length ≤ 4000) (hlo : lo ≤ w.heap.size) :
    Calls Tryd.prog 113 #[v, .slice Ax xs.length cx] w (InsOK w lo ds xs) := by
  obtain ⟨i0, hi0, hz0, hz1, hz2⟩ := info_of Tryd.infoIntS
  have HI1 : Hid ((Tryd.prog.info? 27).map (·.size) = some 1) := by show _ = _; kernel_rfl
  obtain ⟨A, c, rfl, hc, hLl, hAf⟩ := hv.shape
  have HV := Lib.hid hv; clear hv
  have HLL := Lib.hid hLl; clear hLl
  have HX := Lib.hid hxo.ints
  have HXO := Lib.hid hxo; clear hxo
  have HAP := Lib.hid hap; clear hap
  have HR := Lib.hid hr; clear hr
  have HLN := Lib.hid hlen; clear hlen
  have HAF := Lib.hid hAf; clear hAf
  go_enter Tryd.func113, Tryd.ntmps113
  go_wp2
  go_loopw [5] (fun i wr => ∃ (k : Nat), k ≤ ds.length ∧ i = .int .i64 k ∧ Hid (Below w.heap.size w wr) ∧ Hid (∀ (j : Nat) (y : List Int), k ≤ j → (sayL ds)[j]? = some y → cmpL xs y < 0)) (fun i _ => (intOf i).toNat)
  case atStart => exact ⟨ds.length, Nat.le_refl _, rfl, Below.refl _ _, fun j y h hy => by have := (List.getElem?_eq_some_iff.1 hy).1; rw [sayL_len] at this; omega⟩
  case round =>
    obtain ⟨k, hk, rfl, HB, H⟩ := hrel
    by_cases hlt : 0 < k
    · have hk1 : k - 1 < ds.length := by omega
      obtain ⟨b, q, eA, hb, d1, _, hI⟩ := (HLL.out.keep HB.out).at_ hk1
      subst eA
      have HSAY := Lib.hid (sayL_at hk1)
      have HLK := Lib.hid (HLN.out _ (List.getElem_mem hk1))
      have hws0 := HB.out.size
      have HIK := Lib.hid (hI.more hws0)
      clear hI
      generalize ds[k - 1] = u at d1 HSAY HLK HIK
      obtain ⟨ua, ur, uc⟩ := u
      dsimp only at d1 HSAY HLK HIK
      have HXK := Lib.hid ((HX.out.keep HB.out).more hws0)
      have hkm : ((k : Int) - 1) = ((k - 1 : Nat) : Int) := by omega
      have HC := Lib.hid (l5Less_any Ax ua xs ur cx uc wr HXK.out HIK.out (by omega) (by have := HLK.out; omega) (by have := HLK.out; omega))
      go_wp2_with fail
      refine HC.out.mono ?_
      rintro e w1 ⟨rfl, hB1⟩
      have hb1 : b < wr.heap.size := by omega
      have d2 := (hB1.cell (p := ⟨b, q + (k - 1), none⟩) hb1).trans d1
      have HB1 := Lib.hid (HB.out.trans (hB1.mono hws0))
      have hws1 := HB1.out.size
      have HI1' := Lib.hid ((HIK.out.keep hB1).more hB1.size)
      have HX1 := Lib.hid ((HXK.out.keep hB1).more hB1.size)
      clear hB1 HC HIK HXK d1
      cases hq : bP (cmpL xs ur < 0)
      · have HNL : Hid (¬ cmpL xs ur < 0) := bP_no hq
        clear hq
        have HC := Lib.hid (l1Same_any ua Ax ur xs uc cx w1 HI1'.out HX1.out (by have := HLK.out; omega))
        go_wp2_with fail
        refine HC.out.mono ?_
        rintro e w2 ⟨rfl, hB2⟩
        have HB2x := Lib.hid (HB1.out.trans (hB2.mono hws1))
        clear hB2 HC HI1' HX1 d2
        cases he : eqL ur xs
        · have H2 : Hid (∀ (j : Nat) (y : List Int), j + 1 = k → (sayL ds)[j]? = some y → cmpL y xs < 0) := fun j y h hy => by
            have hs := HSAY.out
            rw [show k - 1 = j by omega, hy] at hs
            injection hs with hs
            subst hs
            have hn : y ≠ xs := fun e => by subst e; rw [eqL_t rfl] at he; cases he
            have h1 := HNL.out
            have h3 := cmpL_anti xs y
            have h4 : cmpL xs y ≠ 0 := fun e => hn (cmpL_eq e).symm
            omega
          clear he HNL HSAY HLK hkm
          have HPUT := Lib.hid (risesL_put (k := k) (by rw [sayL_len]; exact hk) HR.out H.out H2.out)
          have hws := HB2x.out.size
          have HXW := Lib.hid ((HX.out.keep HB2x.out).more HB2x.out.size)
          have HLW := Lib.hid (HLL.out.keep HB2x.out)
          have HE0 := Lib.hid (own_emptyL w2)
          have hdr : (ds.drop k).length = ds.length - k := List.length_drop
          have hta : (ds.take k).length = k := by rw [List.length_take]; omega
          have HDR := Lib.hid hdr; clear hdr
          have HTA := Lib.hid hta; clear hta
          have HN1 : Hid (∀ A' : Option Addr, (∀ bb qq, (some ⟨b, q, none⟩ : Option Addr) = some ⟨bb, qq, none⟩ → k < c → A' = some ⟨bb, qq + k, none⟩) → 0 < ds.length - k → ∃ ad : Addr, A' = some ad ∧ ∀ (j : Nat) (u : Value), ((ds.drop k).map cellsL)[j]? = some u → (w2.alloc (.cells #[] 27)).cell? (ad.add j) = some u) := fun A' h1 h2 => by
            obtain ⟨bb, qq, e, hb, hcc⟩ := HLW.out (by omega)
            refine ⟨⟨bb, qq + k, none⟩, h1 bb qq e (by omega), fun j u hu => ?_⟩
            rw [List.getElem?_map, List.getElem?_drop] at hu
            cases hd : ds[k + j]? with
            | none => rw [hd] at hu; cases hu
            | some z =>
              rw [hd] at hu
              injection hu with hu
              subst hu
              have hb' : bb < w2.heap.size := Nat.lt_of_lt_of_le hb hws
              rw [Go.WideShapes.add_plain, Nat.add_assoc]
              exact (((Below.refl w2.heap.size w2).alloc (Nat.le_refl _) _).cell (p := ⟨bb, qq + (k + j), none⟩) hb').trans (hcc (k + j) z hd).1
          go_wp2_with (first
            | (with_reducible refine wpList_from rfl 26 (.tmp 36) (.tmp 37) rfl 27 Tryd.underlying26 HI1.out (some ⟨b, q, none⟩) ds.length c k rfl rfl hk ?_
               intro A' hA1 hA2
               have HN1' := Lib.hid (HN1.out A' hA1)
               clear hA1 hA2)
            | (at_builtin
               refine wpList_app rfl (.tmp 35) (.tmp 38) _ rfl w2.heap.size 27 i0 _ 1 24 Tryd.underlying26 hi0 hz0 hz1 hz2 rfl (by omega) _ _ _ rfl HE0.out _ (ds.length - k) (c - k) ((ds.drop k).map cellsL) rfl (by rw [List.length_map, HDR.out]; omega) HN1'.out (cellsL_one _) (by unfold maxLen; omega) (by omega) (by simp) ?_
               intro v1 w1 p1 p2
               have HO1 := Lib.hid p1
               have HB1 : Hid (Below w2.heap.size w2 w1) := (((Below.refl w2.heap.size w2).alloc (Nat.le_refl _) _)).grown p2 (by simp) fun j hj => (HE0.out.lt j hj).1
               have hs1 : w2.heap.size ≤ w1.heap.size := HB1.out.size
               have HE1 := Lib.hid (own_emptyL w1)
               have HN2 : Hid (0 < k → ∃ ad : Addr, (some ⟨b, q, none⟩) = some ad ∧ ∀ (j : Nat) (u : Value), ((ds.take k).map cellsL)[j]? = some u → (w1.alloc (.cells #[] 27)).cell? (ad.add j) = some u) := fun h2 => by
                 obtain ⟨bb, qq, e, hb, hcc⟩ := HLW.out (by omega)
                 refine ⟨⟨bb, qq, none⟩, e, fun j u hu => ?_⟩
                 rw [List.getElem?_map, List.getElem?_take] at hu
                 split at hu
                 · cases hd : ds[j]? with
                   | none => rw [hd] at hu; cases hu
                   | some z =>
                     rw [hd] at hu
                     injection hu with hu
                     subst hu
                     have hb' : bb < w2.heap.size := Nat.lt_of_lt_of_le hb hws
                     rw [Go.WideShapes.add_plain]
                     exact ((HB1.out.alloc hs1 _).cell (p := ⟨bb, qq + j, none⟩) hb').trans (hcc j z hd).1
                 · cases hu
               clear p1 p2)
            | with_reducible refine wpList_upto rfl 26 (.tmp 41) (.tmp 42) rfl 27 Tryd.underlying26 HI1.out (some ⟨b, q, none⟩) HAF.out ds.length c k rfl rfl (by omega) ?_
            | (at_builtin
               refine wpList_app rfl (.tmp 40) (.tmp 43) _ rfl w1.heap.size 27 i0 _ 1 24 Tryd.underlying26 hi0 hz0 hz1 hz2 rfl (by omega) _ _ _ rfl HE1.out (some ⟨b, q, none⟩) k c ((ds.take k).map cellsL) rfl (by rw [List.length_map, HTA.out]; omega) HN2.out (cellsL_one _) (by unfold maxLen; omega) (by omega) (by simp) ?_
               intro v2 w2 p1 p2
               have HB2 : Hid (Below w1.heap.size w1 w2) := (((Below.refl w1.heap.size w1).alloc (Nat.le_refl _) _)).grown p2 (by simp) fun j hj => (HE1.out.lt j hj).1
               have hs2 : w1.heap.size ≤ w2.heap.size := HB2.out.size
               have HA2 := Lib.hid (p1.alloc (.cells #[.slice Ax xs.length cx] 27))
               have HN3 := Lib.hid (one_new w2 (.slice Ax xs.length cx) 27)
               have HO2 := Lib.hid p1
               clear p1 p2)
            | (at_builtin
               refine wpList_append_own _ rfl (.tmp 44) (.tmp 46) _ rfl w1.heap.size 27 i0 _ 1 24 Tryd.underlying26 hi0 hz0 hz1 hz2 rfl (by omega) _ _ _ rfl HA2.out ⟨w2.heap.size, 0, none⟩ 1 1 [.slice Ax xs.length cx] rfl rfl HN3.out (by intro u hu; simp at hu; subst hu; rfl) (by unfold maxLen; omega) (by omega) (by simp; omega) ?_
               intro v3 w3 p1 p2 _
               have HB3 : Hid (Below w1.heap.size w1 w3) := (HB2.out.alloc hs2 _).grown p2 (by simp; omega) fun j hj => (HO2.out.lt j hj).1
               have hs3 : w1.heap.size ≤ w3.heap.size := HB3.out.size
               have HO3 := Lib.hid p1
               obtain ⟨ao, c4, hv1, hc4⟩ := own_cellsL (own_below HO1.out HB3.out)
               rw [show 0 + (ds.length - k) = ds.length - k by omega] at hv1 hc4
               subst hv1
               have HN4 := Lib.hid hc4
               clear p1 p2 hc4)
            | (at_builtin
               refine wpList_app rfl (.tmp 48) (.tmp 49) _ rfl w1.heap.size 27 i0 _ 1 24 Tryd.underlying26 hi0 hz0 hz1 hz2 rfl (by omega) _ _ _ rfl HO3.out ao (ds.length - k) c4 ([] ++ (ds.drop k).map cellsL) rfl (by rw [List.nil_append, List.length_map, HDR.out]; omega) (fun h => by obtain ⟨ad, e1, _, e2⟩ := HN4.out h; exact ⟨ad, e1, e2⟩) (by rw [List.nil_append]; exact cellsL_one _) (by unfold maxLen; omega) (by omega) (by omega) ?_
               intro v4 w4 p1 p2
               have HB4 : Hid (Below w1.heap.size w1 w4) := HB3.out.grown p2 hs3 fun j hj => (HO3.out.lt j hj).1
               have HO4 := Lib.hid p1
               clear p1 p2))
          go_ret
          have HBF := Lib.hid (HB1.out.trans (HB4.out.mono hs1))
          have HFIN := Lib.hid (HB2x.out.trans (HBF.out.mono hws))
          refine ⟨v4, ds.take k ++ [⟨Ax, xs, cx⟩] ++ ds.drop k, rfl, ⟨?_, ?_, ?_, ?_⟩, ?_, ?_, ?_, HFIN.out⟩
          · have e1 : (ds.take k ++ [(⟨Ax, xs, cx⟩ : Li)] ++ ds.drop k).length = 0 + k + 1 + (ds.length - k) := by simp; omega
            have e2 : (ds.take k ++ [(⟨Ax, xs, cx⟩ : Li)] ++ ds.drop k).map cellsL = [] ++ (ds.take k).map cellsL ++ [.slice Ax xs.length cx] ++ ([] ++ (ds.drop k).map cellsL) := by simp [cellsL]
            rw [e1, e2]
            exact own_lower HO4.out (by omega)
          · intro u hu
            rcases List.mem_append.1 hu with hu | hu
            · rcases List.mem_append.1 hu with hu | hu
              · exact HV.out.caps u (List.mem_of_mem_take hu)
              · rw [List.mem_singleton.1 hu]; exact hcx
            · exact HV.out.caps u (List.mem_of_mem_drop hu)
          · intro u hu
            rcases List.mem_append.1 hu with hu | hu
            · rcases List.mem_append.1 hu with hu | hu
              · exact (HV.out.own u (List.mem_of_mem_take hu)).below HFIN.out (Nat.le_refl _)
              · rw [List.mem_singleton.1 hu]; exact HXO.out.below HFIN.out (Nat.le_refl _)
            · exact (HV.out.own u (List.mem_of_mem_drop hu)).below HFIN.out (Nat.le_refl _)
          · exact far_put HV.out.far HAP.out
          · have e : sayL (ds.take k ++ [(⟨Ax, xs, cx⟩ : Li)] ++ ds.drop k) = (sayL ds).take k ++ [xs] ++ (sayL ds).drop k := by simp [sayL, List.map_take, List.map_drop]
            rw [e]; exact HPUT.out.1
          · have e : sayL (ds.take k ++ [(⟨Ax, xs, cx⟩ : Li)] ++ ds.drop k) = (sayL ds).take k ++ [xs] ++ (sayL ds).drop k := by simp [sayL, List.map_take, List.map_drop]
            rw [e]; exact HPUT.out.2
          · simp; omega
        · have HEQ : Hid (ur = xs) := by show _ = _; simpa [eqL] using he
          clear he
          go_wp2
          go_ret
          have HM : xs ∈ sayL ds := by have h := List.mem_of_getElem? HSAY.out; rw [HEQ.out] at h; exact h
          exact ⟨_, ds, rfl, HV.out.keep (HB2x.out.mono (Nat.le_refl _)), HR.out, fun z => ⟨fun h => .inr h, fun h => h.elim (fun e => e ▸ HM) id⟩, by omega, HB2x.out⟩
      · have HL1 : Hid (cmpL xs ur < 0) := bP_is hq
        clear hq
        have HH : Hid (∀ (j : Nat) (y : List Int), k - 1 ≤ j → (sayL ds)[j]? = some y → cmpL xs y < 0) := fun j y h hy => by
          by_cases e : j = k - 1
          · have hs := HSAY.out
            rw [← e, hy] at hs
            injection hs with hs
            rw [hs]; exact HL1.out
          · exact H.out j y (by omega) hy
        go_wp2
        go_roundw
        case rel => exact ⟨k - 1, by omega, by go_num, HB1.out, HH.out⟩
        case measure => simp [intOf]; omega
    · have H2 : Hid (∀ (j : Nat) (y : List Int), j + 1 = k → (sayL ds)[j]? = some y → cmpL y xs < 0) := fun j y h => by omega
      have HPUT := Lib.hid (risesL_put (k := k) (by rw [sayL_len]; exact hk) HR.out H.out H2.out)
      have hws := HB.out.size
      have HXW := Lib.hid ((HX.out.keep HB.out).more HB.out.size)
      have HLW := Lib.hid (HLL.out.keep HB.out)
      have HE0 := Lib.hid (own_emptyL wr)
      have hdr : (ds.drop k).length = ds.length - k := List.length_drop
      have hta : (ds.take k).length = k := by rw [List.length_take]; omega
      have HDR := Lib.hid hdr; clear hdr
      have HTA := Lib.hid hta; clear hta
      have HN1 : Hid (∀ A' : Option Addr, (∀ b q, A = some ⟨b, q, none⟩ → k < c → A' = some ⟨b, q + k, none⟩) → 0 < ds.length - k → ∃ ad : Addr, A' = some ad ∧ ∀ (j : Nat) (u : Value), ((ds.drop k).map cellsL)[j]? = some u → (wr.alloc (.cells #[] 27)).cell? (ad.add j) = some u) := fun A' h1 h2 => by
        obtain ⟨bb, qq, e, hb, hcc⟩ := HLW.out (by omega)
        refine ⟨⟨bb, qq + k, none⟩, h1 bb qq e (by omega), fun j u hu => ?_⟩
        rw [List.getElem?_map, List.getElem?_drop] at hu
        cases hd : ds[k + j]? with
        | none => rw [hd] at hu; cases hu
        | some z =>
          rw [hd] at hu
          injection hu with hu
          subst hu
          have hb' : bb < wr.heap.size := Nat.lt_of_lt_of_le hb hws
          rw [Go.WideShapes.add_plain, Nat.add_assoc]
          exact (((Below.refl wr.heap.size wr).alloc (Nat.le_refl _) _).cell (p := ⟨bb, qq + (k + j), none⟩) hb').trans (hcc (k + j) z hd).1
      go_wp2_with (first
        | (with_reducible refine wpList_from rfl 26 (.tmp 36) (.tmp 37) rfl 27 Tryd.underlying26 HI1.out A ds.length c k rfl rfl hk ?_
           intro A' hA1 hA2
           have HN1' := Lib.hid (HN1.out A' hA1)
           clear hA1 hA2)
        | (at_builtin
           refine wpList_app rfl (.tmp 35) (.tmp 38) _ rfl wr.heap.size 27 i0 _ 1 24 Tryd.underlying26 hi0 hz0 hz1 hz2 rfl (by omega) _ _ _ rfl HE0.out _ (ds.length - k) (c - k) ((ds.drop k).map cellsL) rfl (by rw [List.length_map, HDR.out]; omega) HN1'.out (cellsL_one _) (by unfold maxLen; omega) (by omega) (by simp) ?_
           intro v1 w1 p1 p2
           have HO1 := Lib.hid p1
           have HB1 : Hid (Below wr.heap.size wr w1) := (((Below.refl wr.heap.size wr).alloc (Nat.le_refl _) _)).grown p2 (by simp) fun j hj => (HE0.out.lt j hj).1
           have hs1 : wr.heap.size ≤ w1.heap.size := HB1.out.size
           have HE1 := Lib.hid (own_emptyL w1)
           have HN2 : Hid (0 < k → ∃ ad : Addr, A = some ad ∧ ∀ (j : Nat) (u : Value), ((ds.take k).map cellsL)[j]? = some u → (w1.alloc (.cells #[] 27)).cell? (ad.add j) = some u) := fun h2 => by
             obtain ⟨bb, qq, e, hb, hcc⟩ := HLW.out (by omega)
             refine ⟨⟨bb, qq, none⟩, e, fun j u hu => ?_⟩
             rw [List.getElem?_map, List.getElem?_take] at hu
             split at hu
             · cases hd : ds[j]? with
               | none => rw [hd] at hu; cases hu
               | some z =>
                 rw [hd] at hu
                 injection hu with hu
                 subst hu
                 have hb' : bb < wr.heap.size := Nat.lt_of_lt_of_le hb hws
                 rw [Go.WideShapes.add_plain]
                 exact ((HB1.out.alloc hs1 _).cell (p := ⟨bb, qq + j, none⟩) hb').trans (hcc j z hd).1
             · cases hu
           clear p1 p2)
        | with_reducible refine wpList_upto rfl 26 (.tmp 41) (.tmp 42) rfl 27 Tryd.underlying26 HI1.out A HAF.out ds.length c k rfl rfl (by omega) ?_
        | (at_builtin
           refine wpList_app rfl (.tmp 40) (.tmp 43) _ rfl w1.heap.size 27 i0 _ 1 24 Tryd.underlying26 hi0 hz0 hz1 hz2 rfl (by omega) _ _ _ rfl HE1.out A k c ((ds.take k).map cellsL) rfl (by rw [List.length_map, HTA.out]; omega) HN2.out (cellsL_one _) (by unfold maxLen; omega) (by omega) (by simp) ?_
           intro v2 w2 p1 p2
           have HB2 : Hid (Below w1.heap.size w1 w2) := (((Below.refl w1.heap.size w1).alloc (Nat.le_refl _) _)).grown p2 (by simp) fun j hj => (HE1.out.lt j hj).1
           have hs2 : w1.heap.size ≤ w2.heap.size := HB2.out.size
           have HA2 := Lib.hid (p1.alloc (.cells #[.slice Ax xs.length cx] 27))
           have HN3 := Lib.hid (one_new w2 (.slice Ax xs.length cx) 27)
           have HO2 := Lib.hid p1
           clear p1 p2)
        | (at_builtin
           refine wpList_append_own _ rfl (.tmp 44) (.tmp 46) _ rfl w1.heap.size 27 i0 _ 1 24 Tryd.underlying26 hi0 hz0 hz1 hz2 rfl (by omega) _ _ _ rfl HA2.out ⟨w2.heap.size, 0, none⟩ 1 1 [.slice Ax xs.length cx] rfl rfl HN3.out (by intro u hu; simp at hu; subst hu; rfl) (by unfold maxLen; omega) (by omega) (by simp; omega) ?_
           intro v3 w3 p1 p2 _
           have HB3 : Hid (Below w1.heap.size w1 w3) := (HB2.out.alloc hs2 _).grown p2 (by simp; omega) fun j hj => (HO2.out.lt j hj).1
           have hs3 : w1.heap.size ≤ w3.heap.size := HB3.out.size
           have HO3 := Lib.hid p1
           obtain ⟨ao, c4, hv1, hc4⟩ := own_cellsL (own_below HO1.out HB3.out)
           rw [show 0 + (ds.length - k) = ds.length - k by omega] at hv1 hc4
           subst hv1
           have HN4 := Lib.hid hc4
           clear p1 p2 hc4)
        | (at_builtin
           refine wpList_app rfl (.tmp 48) (.tmp 49) _ rfl w1.heap.size 27 i0 _ 1 24 Tryd.underlying26 hi0 hz0 hz1 hz2 rfl (by omega) _ _ _ rfl HO3.out ao (ds.length - k) c4 ([] ++ (ds.drop k).map cellsL) rfl (by rw [List.nil_append, List.length_map, HDR.out]; omega) (fun h => by obtain ⟨ad, e1, _, e2⟩ := HN4.out h; exact ⟨ad, e1, e2⟩) (by rw [List.nil_append]; exact cellsL_one _) (by unfold maxLen; omega) (by omega) (by omega) ?_
           intro v4 w4 p1 p2
           have HB4 : Hid (Below w1.heap.size w1 w4) := HB3.out.grown p2 hs3 fun j hj => (HO3.out.lt j hj).1
           have HO4 := Lib.hid p1
           clear p1 p2))
      go_ret
      have HBF := Lib.hid (HB1.out.trans (HB4.out.mono hs1))
      have HFIN := Lib.hid (HB.out.trans (HBF.out.mono hws))
      refine ⟨v4, ds.take k ++ [⟨Ax, xs, cx⟩] ++ ds.drop k, rfl, ⟨?_, ?_, ?_, ?_⟩, ?_, ?_, ?_, HFIN.out⟩
      · have e1 : (ds.take k ++ [(⟨Ax, xs, cx⟩ : Li)] ++ ds.drop k).length = 0 + k + 1 + (ds.length - k) := by simp; omega
        have e2 : (ds.take k ++ [(⟨Ax, xs, cx⟩ : Li)] ++ ds.drop k).map cellsL = [] ++ (ds.take k).map cellsL ++ [.slice Ax xs.length cx] ++ ([] ++ (ds.drop k).map cellsL) := by simp [cellsL]
        rw [e1, e2]
        exact own_lower HO4.out (by omega)
      · intro u hu
        rcases List.mem_append.1 hu with hu | hu
        · rcases List.mem_append.1 hu with hu | hu
          · exact HV.out.caps u (List.mem_of_mem_take hu)
          · rw [List.mem_singleton.1 hu]; exact hcx
        · exact HV.out.caps u (List.mem_of_mem_drop hu)
      · intro u hu
        rcases List.mem_append.1 hu with hu | hu
        · rcases List.mem_append.1 hu with hu | hu
          · exact (HV.out.own u (List.mem_of_mem_take hu)).below HFIN.out (Nat.le_refl _)
          · rw [List.mem_singleton.1 hu]; exact HXO.out.below HFIN.out (Nat.le_refl _)
        · exact (HV.out.own u (List.mem_of_mem_drop hu)).below HFIN.out (Nat.le_refl _)
      · exact far_put HV.out.far HAP.out
      · have e : sayL (ds.take k ++ [(⟨Ax, xs, cx⟩ : Li)] ++ ds.drop k) = (sayL ds).take k ++ [xs] ++ (sayL ds).drop k := by simp [sayL, List.map_take, List.map_drop]
        rw [e]; exact HPUT.out.1
      · have e : sayL (ds.take k ++ [(⟨Ax, xs, cx⟩ : Li)] ++ ds.drop k) = (sayL ds).take k ++ [xs] ++ (sayL ds).drop k := by simp [sayL, List.map_take, List.map_drop]
        rw [e]; exact HPUT.out.2
      · simp; omega

end Go.Proofs.YtgnpgehekfhedaaDoor

/- The program's HasUnitRound. -/

namespace Go.Proofs.YtgnpgehekfhedaaDoor
open Go.RowKit

/-- Whether some nonterminal of a binary grammar stands for itself by a step or more. -/
def QRound (s : Bs) (x ok : Bool) : Prop := (GoodBs s → ok = true ∧ ∃ N, IsLeast wayNull noS (bRules s.P s.O s.E) N ∧ (x = true ↔ RoundD (DirB N s.P s.O))) ∧ (¬ GoodBs s → x = false ∧ ok = false)
theorem QRound.unique {s : Bs} {x y a b : Bool} (h : QRound s x a) (k : QRound s y b) : x = y ∧ a = b := by
  by_cases hg : GoodBs s
  · obtain ⟨rfl, N, h1, h2⟩ := h.1 hg
    obtain ⟨rfl, M, k1, k2⟩ := k.1 hg
    have e := h1.unique k1
    subst e
    refine ⟨?_, rfl⟩
    cases x <;> cases y <;> simp_all
  · exact ⟨(h.2 hg).1.trans (k.2 hg).1.symm, (h.2 hg).2.trans (k.2 hg).2.symm⟩

theorem dirB_sym {s : Bs} (h : GoodBs s) {N : Int → Bool} {l x : Int} (hd : DirB N s.P s.O l x) : nonB s.n l = true ∧ symB s.n s.t x = true := by
  rcases hd with h1 | ⟨y, h1, _⟩ | ⟨y, h1, _⟩
  · obtain ⟨k, e⟩ := List.mem_iff_getElem?.1 h1
    obtain ⟨l', x', e', h2, h3⟩ := good_one h e
    simp at e'
    rw [e'.1, e'.2]
    exact ⟨h2, h3⟩
  all_goals
    obtain ⟨k, e⟩ := List.mem_iff_getElem?.1 h1
    obtain ⟨l', y', z', e', h2, h3, h4⟩ := good_pair h e
    simp at e'
    obtain ⟨rfl, rfl, rfl⟩ := e'
    first | exact ⟨h2, h3⟩ | exact ⟨h2, h4⟩

set_option maxRecDepth 20000 in
set_option maxHeartbeats 1000000 in
theorem implHasUnitRound_any (b : Bi) (w : World) (hx : ReadB w w.heap.size b) (hL : Lims w) (hm : LenB 1048576 b) (ht : b.P.length + b.O.length + b.E.length ≤ 1048576) (hf : FitB b.say) :
    Calls Tryd.prog 40 #[(.agg #[.int .i64 b.n, .int .i64 b.t, .slice b.Ap b.P.length b.cp, .slice b.Ao b.O.length b.co, .slice b.Ae b.E.length b.ce, .slice b.Af b.F.length b.cf])] w (GaveXB w (QRound b.say)) := by
  have HX := Lib.hid hx; clear hx
  have HL := Lib.hid hL; clear hL
  have HF := Lib.hid hf; clear hf
  have HM := Lib.hid hm; clear hm
  have HZ := Lib.hid info_tab
  have HS := Lib.hid size_tab
  have HSR := Lib.hid size_row
  have HB0 : Hid (Below w.heap.size w (w.alloc (.cells #[.int .i64 b.n, .int .i64 b.t, .slice b.Ap b.P.length b.cp, .slice b.Ao b.O.length b.co, .slice b.Ae b.E.length b.ce, .slice b.Af b.F.length b.cf] 29))) := by show Below _ _ _; go_grown
  have B0 := Lib.hid (Box6.new w b 29)
  have HC := Lib.hid (implGoodB_any b (w.alloc (.cells #[.int .i64 b.n, .int .i64 b.t, .slice b.Ap b.P.length b.cp, .slice b.Ao b.O.length b.co, .slice b.Ae b.E.length b.ce, .slice b.Af b.F.length b.cf] 29)) ((HX.out.keep HB0.out).more HB0.out.size) (HL.out.keep HB0.out (Nat.le_refl _)) HM.out HF.out)
  go_enter Tryd.func40, Tryd.ntmps40
  go_wp2_with fail
  refine HC.out.mono ?_
  rintro e w1 ⟨rfl, hB1⟩
  have B1 := Lib.hid (B0.out.keep hB1 B0.out.1)
  have HB1 := Lib.hid (HB0.out.trans (hB1.mono HB0.out.size)); clear hB1
  clear B0 HB0 HC
  obtain ⟨_, b0, b1, b2, b3, b4, b5⟩ := B1.out
  cases hg : bP (GoodBs b.say)
  · have HG : Hid (QRound b.say false false) := ⟨fun h => absurd h (bP_no hg), fun _ => ⟨rfl, rfl⟩⟩
    clear hg
    go_wp2
    go_ret2
    exact ⟨false, false, HG.out, rfl, HB1.out⟩
  have HGB : Hid (GoodBs b.say) := bP_is hg
  clear hg
  go_wp2_with fail
  refine (directRows_any b w1 ((HX.out.keep HB1.out).more HB1.out.size) HM.out ht HF.out HGB.out).mono ?_
  rintro e w4 ⟨N, rfl, hN, hB4⟩
  have hs3 := HB1.out.size
  have B4 := Lib.hid (B1.out.keep hB4 B1.out.1)
  have HB4 := Lib.hid (HB1.out.trans (hB4.mono hs3)); clear hB4
  have HN := Lib.hid hN; clear hN
  have HFT := Lib.hid (dirB_fit HGB.out N)
  generalize hD : DirB N b.say.P b.say.O = D at HFT
  have HDD := Lib.hid hD; clear hD
  have hs4 := HB4.out.size
  clear B1 HB1 b0 b1 b2 b3 b4 b5
  have HRN : Hid (Row (w4.alloc (.cells (tabA fun _ _ => false) 99)) w4.heap.size 99 (tabA fun _ _ => false)) := Row.new _ _ _
  have HB5 : Hid (Below w.heap.size w ((w4.alloc (.cells (tabA fun _ _ => false) 99)).setRow w4.heap.size (tabA (tabF D)))) := below_setRow (HB4.out.alloc hs4 _) hs4 _
  have HT5 : Hid (TabC ((w4.alloc (.cells (tabA fun _ _ => false) 99)).setRow w4.heap.size (tabA (tabF D))) w4.heap.size (tabF D)) := (HRN.out.setRow _).tab
  have B5 : Hid (Box6 ((w4.alloc (.cells (tabA fun _ _ => false) 99)).setRow w4.heap.size (tabA (tabF D))) w.heap.size b) := B4.out.keep (below_setRow ((Below.refl w4.heap.size w4).alloc (Nat.le_refl _) _) (Nat.le_refl _) _) B4.out.1
  obtain ⟨_, b0, b1, b2, b3, b4, b5⟩ := B5.out
  go_wp2_with (first
    | with_reducible refine wpList_allocA rfl 99 rfl (tabA fun _ _ => false) 1760 HZ.out ?_
    | with_reducible refine wpList_storeA rfl 99 (.tmp 4) (.tmp 10) rfl w4.heap.size (tabA (tabF D)) rfl rfl 99 (tabA fun _ _ => false) HRN.out (HS.out _) (by rw [tabA_size, tabA_size]) (tabA_all _) ?_)
  generalize (w4.alloc (.cells (tabA fun _ _ => false) 99)).setRow w4.heap.size (tabA (tabF D)) = W5 at *
  generalize w4.heap.size = K at HT5 ⊢
  clear HRN HB4 B4
  have hn1 : 1 ≤ b.n := HGB.out.1.1
  have hn2 : b.n ≤ 40 := HGB.out.1.2
  go_loopw [13] (fun i wr => ∃ (k : Nat), (k : Int) ≤ b.n ∧ i = .int .i64 k ∧ Hid (Below w.heap.size w wr) ∧ Hid (TabC wr K (tabF D)) ∧ Hid (∀ (j : Nat) (l : Int), j < k → D l j → ¬ Ups D l j)) (fun i _ => 40 - (intOf i).toNat)
  case atStart => exact ⟨0, by omega, rfl, HB5.out, HT5.out, fun j l h => absurd h (by omega)⟩
  case round =>
    clear HB5 HT5 B5 b0 b1 b2 b3 b4 b5
    obtain ⟨k, hk, rfl, HB, HT, HNO⟩ := hrel
    by_cases hlt : (k : Int) < b.n
    · have hk40 : k < 40 := by omega
      go_wp2_with fail
      refine (of_any K (k + 4) k wr (by omega) (by omega)).mono ?_
      rintro e w5 ⟨rfl, rfl⟩
      have HTC : Hid (∀ (j : Nat) (v : Value), (rowA (tabF D k))[j]? = some v → w5.cell? ⟨K, (k + 4) * 40 + j, none⟩ = some v) := HT.out.2 (k + 4) k (by omega) (by omega)
      go_wp2_with (first
        | with_reducible refine wpList_loadA rfl 97 (.tmp 18) rfl K ((k + 4) * 40) rfl (rowA (tabF D k)) 40 4 Tryd.underlying97 (HSR.out _) HTC.out ?_)
      refine (closed_any K (tabF D) (tabF D k) w5 HT.out HFT.out (HFT.out k)).mono ?_
      rintro e w6 ⟨S, rfl, hfS, hU, hB6⟩
      rw [DT6_tab] at hU
      have HRU := Lib.hid (round_up (x := k) hU)
      have hsz := HB.out.size
      have HB6 := Lib.hid (HB.out.trans (hB6.mono hsz))
      have HT6 := Lib.hid (HT.out.keep hB6 HT.out.1)
      have HV := Lib.hid (rowA_at S hk40)
      clear hU hB6 hfS HTC
      cases hsk : S k
      · rw [hsk] at HV HRU
        have HNO' : Hid (∀ (j : Nat) (l : Int), j < k + 1 → D l j → ¬ Ups D l j) := fun j l hj hd hu => by
          by_cases e : j = k
          · subst e
            exact absurd (HRU.out.2 ⟨l, hd, hu⟩) (by simp)
          · exact HNO.out j l (by omega) hd hu
        clear hsk
        go_wp2_with (first
          | with_reducible refine wpList_indexA rfl 97 (.tmp 20) (.tmp 21) rfl (rowA S) rfl k rfl 40 4 hk40 _ HV.out Tryd.underlying97 _ Tryd.underlying4 rfl (by kernel_rfl) ?_)
        go_roundw
        case rel => exact ⟨k + 1, by omega, by go_num, HB6.out, HT6.out, HNO'.out⟩
        case measure => simp [intOf]; omega
      · rw [hsk] at HV HRU
        obtain ⟨l, hd, hu⟩ := HRU.out.1 rfl
        have HQ : Hid (QRound b.say true true) := ⟨fun _ => ⟨rfl, N, HN.out, fun _ => by rw [HDD.out]; exact ⟨l, k, hd, by omega, hu⟩, fun _ => rfl⟩, fun h => absurd HGB.out h⟩
        clear hsk hd hu
        go_wp2_with (first
          | with_reducible refine wpList_indexA rfl 97 (.tmp 20) (.tmp 21) rfl (rowA S) rfl k rfl 40 4 hk40 _ HV.out Tryd.underlying97 _ Tryd.underlying4 rfl (by kernel_rfl) ?_)
        go_ret2
        exact ⟨true, true, HQ.out, rfl, HB6.out⟩
    · have HQ : Hid (QRound b.say false true) := ⟨fun _ => ⟨rfl, N, HN.out, fun h => (by cases h), fun h => by
          rw [HDD.out] at h
          obtain ⟨l, x, hd, hx, hu⟩ := h
          have hs := of_decide_eq_true (dirB_sym HGB.out (HDD.out ▸ hd : DirB N b.say.P b.say.O l x)).2
          have hxn : x < b.n := by have : b.say.n = b.n := rfl; omega
          obtain ⟨j, rfl⟩ : ∃ j : Nat, x = (j : Int) := ⟨x.toNat, by omega⟩
          exact absurd hu (HNO.out j l (by omega) hd)⟩, fun h => absurd HGB.out h⟩
      go_wp2
      go_ret2
      exact ⟨false, true, HQ.out, rfl, HB.out⟩

end Go.Proofs.YtgnpgehekfhedaaDoor

/- The program's UnitRows. -/

namespace Go.Proofs.YtgnpgehekfhedaaDoor
open Go.RowKit

/-- The rows of the first k symbols, from -t on. -/
def RowsTo (D : Int → Int → Prop) (t : Int) (xs : List (List Int)) (k : Nat) : Prop := xs.length = k ∧ ∀ (j : Nat) (r : List Int), xs[j]? = some r → ∃ S, Fit40 S ∧ IsUp D (rowOf D ((j : Int) - t)) S ∧ r = upK S 40
theorem RowsTo.zero (D : Int → Int → Prop) (t : Int) : RowsTo D t [] 0 := ⟨rfl, fun j r h => by simp at h⟩
theorem RowsTo.step {D : Int → Int → Prop} {t : Int} {xs : List (List Int)} {k : Nat} (h : RowsTo D t xs k) {S : Int → Bool} {x : Int} (hx : x = (k : Int) - t) (hf : Fit40 S) (hS : IsUp D (rowOf D x) S) : RowsTo D t (xs ++ [upK S 40]) (k + 1) := by
  refine ⟨by simp [h.1], fun j r hr => ?_⟩
  by_cases e : j < xs.length
  · rw [List.getElem?_append_left e] at hr
    exact h.2 j r hr
  · have hj : j = k := by have := (List.getElem?_eq_some_iff.1 hr).1; simp at this; have := h.1; omega
    subst hj
    rw [List.getElem?_append_right (by omega), show j - xs.length = 0 by have := h.1; omega] at hr
    simp at hr
    exact ⟨S, hf, hx ▸ hS, hr.symm⟩
theorem RowsTo.unique {D : Int → Int → Prop} {t : Int} {xs ys : List (List Int)} {k : Nat} (h : RowsTo D t xs k) (h' : RowsTo D t ys k) : xs = ys := by
  apply List.ext_getElem?
  intro j
  by_cases hj : j < k
  · have h1 := List.getElem?_eq_getElem (l := xs) (i := j) (by have := h.1; omega)
    have h2 := List.getElem?_eq_getElem (l := ys) (i := j) (by have := h'.1; omega)
    obtain ⟨S, _, hS, e⟩ := h.2 j _ h1
    obtain ⟨T, _, hT, e'⟩ := h'.2 j _ h2
    rw [h1, h2, e, e', hS.unique hT]
  · rw [List.getElem?_eq_none (by have := h.1; omega), List.getElem?_eq_none (by have := h'.1; omega)]
theorem RowsTo.short {D : Int → Int → Prop} {t : Int} {xs : List (List Int)} {k : Nat} (h : RowsTo D t xs k) : ∀ r ∈ xs, r.length ≤ 40 := fun r hr => by
  obtain ⟨j, hj⟩ := List.mem_iff_getElem?.1 hr
  obtain ⟨S, _, _, rfl⟩ := h.2 j r hj
  exact upK_len S 40

/-- A new list of lists of which P holds, where g; else none. -/
def GaveLP (w : World) (g : Bool) (P : List (List Int) → Prop) (e : Ending) (w' : World) : Prop :=
  ∃ xs, (g = true → P xs) ∧ (g = false → xs = []) ∧ GaveLB w xs g e w'
theorem gaveLP_none {w : World} {g : Bool} {P : List (List Int) → Prop} {w' : World} (hg : g = false) (hB : Below w.heap.size w w') : GaveLP w g P (.returned (.tuple #[.slice none 0 0, .bool false])) w' := by
  subst hg
  exact ⟨[], fun h => (by cases h), fun _ => rfl, none, 0, [], rfl, Nat.le_refl _, .inl rfl, rfl, hB⟩
theorem gaveLP_some {w : World} {g : Bool} {P : List (List Int) → Prop} {w' : World} {v : Value} {ds : List Li} {lo : Nat} (hg : g = true) (hP : P (sayL ds)) (hL : ListsW w' lo v ds) (hlo : w.heap.size ≤ lo) (hB : Below w.heap.size w w') : GaveLP w g P (.returned (.tuple #[v, .bool true])) w' := by
  subst hg
  obtain ⟨A, c, rfl, hc, hO⟩ := hL.slice
  exact ⟨sayL ds, fun _ => hP, fun h => (by cases h), A, c, ds, rfl, hc, hO.lower hlo, rfl, hB⟩

/-- All unit rows of a binary grammar. -/
def PRows (s : Bs) (xs : List (List Int)) : Prop := ∃ N, IsLeast wayNull noS (bRules s.P s.O s.E) N ∧ RowsTo (DirB N s.P s.O) s.t xs (s.n + s.t).toNat
theorem PRows.unique {s : Bs} {xs ys : List (List Int)} (h : PRows s xs) (k : PRows s ys) : xs = ys := by
  obtain ⟨N, h1, h2⟩ := h
  obtain ⟨M, k1, k2⟩ := k
  have e := h1.unique k1
  subst e
  exact h2.unique k2

set_option maxRecDepth 20000 in
set_option maxHeartbeats 1000000 in
theorem implUnitRows_any (b : Bi) (w : World) (hx : ReadB w w.heap.size b) (hL : Lims w) (hm : LenB 1048576 b) (ht : b.P.length + b.O.length + b.E.length ≤ 1048576) (hf : FitB b.say) :
    Calls Tryd.prog 38 #[(.agg #[.int .i64 b.n, .int .i64 b.t, .slice b.Ap b.P.length b.cp, .slice b.Ao b.O.length b.co, .slice b.Ae b.E.length b.ce, .slice b.Af b.F.length b.cf])] w (GaveLP w (bP (GoodBs b.say)) (PRows b.say)) := by
  have HX := Lib.hid hx; clear hx
  have HL := Lib.hid hL; clear hL
  have HF := Lib.hid hf; clear hf
  have HM := Lib.hid hm; clear hm
  have HZ := Lib.hid info_tab
  have HS := Lib.hid size_tab
  have HSR := Lib.hid size_row
  obtain ⟨i0, hi0, hz0, hz1, hz2⟩ := info_of Tryd.infoIntS
  have HB0 : Hid (Below w.heap.size w (w.alloc (.cells #[.int .i64 b.n, .int .i64 b.t, .slice b.Ap b.P.length b.cp, .slice b.Ao b.O.length b.co, .slice b.Ae b.E.length b.ce, .slice b.Af b.F.length b.cf] 29))) := by show Below _ _ _; go_grown
  have B0 := Lib.hid (Box6.new w b 29)
  have HC := Lib.hid (implGoodB_any b (w.alloc (.cells #[.int .i64 b.n, .int .i64 b.t, .slice b.Ap b.P.length b.cp, .slice b.Ao b.O.length b.co, .slice b.Ae b.E.length b.ce, .slice b.Af b.F.length b.cf] 29)) ((HX.out.keep HB0.out).more HB0.out.size) (HL.out.keep HB0.out (Nat.le_refl _)) HM.out HF.out)
  go_enter Tryd.func38, Tryd.ntmps38
  go_wp2_with fail
  refine HC.out.mono ?_
  rintro e w1 ⟨rfl, hB1⟩
  have B1 := Lib.hid (B0.out.keep hB1 B0.out.1)
  have HB1 := Lib.hid (HB0.out.trans (hB1.mono HB0.out.size)); clear hB1
  clear B0 HB0 HC
  obtain ⟨_, b0, b1, b2, b3, b4, b5⟩ := B1.out
  cases hg : bP (GoodBs b.say)
  · have HG := Lib.hid hg
    clear hg
    go_wp2
    go_ret2
    exact gaveLP_none HG.out HB1.out
  have HG := Lib.hid hg
  have HGB : Hid (GoodBs b.say) := bP_is hg
  clear hg
  go_wp2_with fail
  refine (directRows_any b w1 ((HX.out.keep HB1.out).more HB1.out.size) HM.out ht HF.out HGB.out).mono ?_
  rintro e w4 ⟨N, rfl, hN, hB4⟩
  have hs3 := HB1.out.size
  have B4 := Lib.hid (B1.out.keep hB4 B1.out.1)
  have HB4 := Lib.hid (HB1.out.trans (hB4.mono hs3)); clear hB4
  have HN := Lib.hid hN; clear hN
  have HFT := Lib.hid (dirB_fit HGB.out N)
  generalize hD : DirB N b.say.P b.say.O = D at HFT
  have HDD := Lib.hid hD; clear hD
  have hs4 := HB4.out.size
  clear B1 HB1 b0 b1 b2 b3 b4 b5
  have HRN : Hid (Row (w4.alloc (.cells (tabA fun _ _ => false) 99)) w4.heap.size 99 (tabA fun _ _ => false)) := Row.new _ _ _
  have HB5 : Hid (Below w.heap.size w ((w4.alloc (.cells (tabA fun _ _ => false) 99)).setRow w4.heap.size (tabA (tabF D)))) := below_setRow (HB4.out.alloc hs4 _) hs4 _
  have HT5 : Hid (TabC ((w4.alloc (.cells (tabA fun _ _ => false) 99)).setRow w4.heap.size (tabA (tabF D))) w4.heap.size (tabF D)) := (HRN.out.setRow _).tab
  have B5 : Hid (Box6 ((w4.alloc (.cells (tabA fun _ _ => false) 99)).setRow w4.heap.size (tabA (tabF D))) w.heap.size b) := B4.out.keep (below_setRow ((Below.refl w4.heap.size w4).alloc (Nat.le_refl _) _) (Nat.le_refl _) _) B4.out.1
  obtain ⟨_, b0, b1, b2, b3, b4, b5⟩ := B5.out
  go_wp2_with (first
    | with_reducible refine wpList_allocA rfl 99 rfl (tabA fun _ _ => false) 1760 HZ.out ?_
    | with_reducible refine wpList_storeA rfl 99 (.tmp 4) (.tmp 11) rfl w4.heap.size (tabA (tabF D)) rfl rfl 99 (tabA fun _ _ => false) HRN.out (HS.out _) (by rw [tabA_size, tabA_size]) (tabA_all _) ?_)
  generalize (w4.alloc (.cells (tabA fun _ _ => false) 99)).setRow w4.heap.size (tabA (tabF D)) = W5 at *
  generalize w4.heap.size = K at HT5 hs4 ⊢
  clear HRN HB4 B4
  have hn1 : 1 ≤ b.n := HGB.out.1.1
  have hn2 : b.n ≤ 40 := HGB.out.1.2
  have ht1 : 1 ≤ b.t := HGB.out.2.1.1
  have ht2 : b.t ≤ 4 := HGB.out.2.1.2
  go_loopw [5, 6] (fun v i wr => ∃ (k : Nat) (ds : List Li) (x : Int), (k : Int) ≤ b.n + b.t ∧ i = .int .i64 x ∧ (x ≤ (k : Int) - b.t ∧ (k : Int) - b.t ≤ x) ∧ Hid (Below w.heap.size w wr) ∧ Hid (Box6 wr w.heap.size b) ∧ Hid (TabC wr K (tabF D)) ∧ Hid (ListsW wr (K + 1) v ds) ∧ Hid (RowsTo D b.t (sayL ds) k)) (fun _ i _ => (40 - intOf i).toNat)
  case atStart => exact ⟨0, [], -b.t, by omega, by rw [show wrap64 (-b.t) = -b.t from by go_arith], ⟨by omega, by omega⟩, HB5.out, B5.out, HT5.out, ListsW.start _ _, RowsTo.zero _ _⟩
  case round =>
    clear HB5 HT5 B5 b0 b1 b2 b3 b4 b5
    obtain ⟨k, ds, x, hk, rfl, ⟨hxk1, hxk2⟩, HB, HBX, HT, HL, HRT⟩ := hrel
    obtain ⟨_, b0, _, _, _, _, _⟩ := HBX.out
    by_cases hlt : x < b.n
    · have hdl : ds.length ≤ 44 := by have := HRT.out.1; rw [sayL_len] at this; omega
      obtain ⟨m, hm, hmx⟩ : ∃ m : Nat, m < 44 ∧ 4 + x = (m : Int) := ⟨(4 + x).toNat, by omega, by omega⟩
      go_wp2_with fail
      refine (unitRow_any K D m x wr HT.out HFT.out hm hmx).mono ?_
      rintro e w5 ⟨S, rfl, hfS, hU, hB5⟩
      have HST := Lib.hid (HRT.out.step (x := x) (by omega) hfS hU)
      have hsz := HB.out.size
      have HB5 := Lib.hid hB5
      clear hB5 hfS hU
      go_wp2_with fail
      refine (rowList_any S w5).mono ?_
      rintro e w6 ⟨A6, c6, rfl, hcap6, hO6, hB6⟩
      have hs5 := HB5.out.size
      have HB6 : Hid (Below wr.heap.size wr w6) := HB5.out.trans (hB6.mono hs5)
      have HO6 := Lib.hid (hO6.lower hs5)
      clear hO6 hB6 HB5
      have hul := upK_len S 40
      generalize upK S 40 = rw_ at *
      have HWn : Hid ((w6.alloc (.cells #[.slice A6 rw_.length c6] 27)).ownsRow (K + 1) 27 1 _ ds.length (ds.map cellsL)) := (own_below HL.out.row HB6.out).alloc _
      have HNW := Lib.hid (one_new w6 (.slice A6 rw_.length c6) 27)
      have hs6 := HB6.out.size
      have hKr := HT.out.1
      go_wp2_with (at_builtin
                   refine wpList_append_lies _ rfl (.tmp 21) (.tmp 25) _ rfl (K + 1) 27 i0 _ 1 24 Tryd.underlying26 hi0 hz0 hz1 hz2 rfl (by omega) _ _ _ rfl HWn.out ⟨w6.heap.size, 0, none⟩ 1 1 [.slice A6 rw_.length c6] rfl rfl HNW.out (by intro u hu; simp at hu; subst hu; rfl) (by omega) (by unfold maxLen; omega) (by omega) (by simp; omega) _ rfl ?_
                   intro g7 cap7 w7 p1 p2 p3 p4
                   have HLN := Lib.hid (HL.out.pushI HB6.out hKr HO6.out hcap6 p1 p2)
                   have hB7 : Below (K + 1) wr w7 := ((HB6.out.mono hKr).alloc (by omega) _).grown p2 (by simp; omega) fun j hj => (HL.out.lt j hj).1
                   have HBN := Lib.hid (HB.out.trans (hB7.mono (by omega)))
                   have HXN := Lib.hid (HBX.out.keep hB7 (by omega))
                   have HTN := Lib.hid (HT.out.keep hB7 (Nat.lt_succ_self _))
                   have HSN : Hid (RowsTo D b.t (sayL (ds ++ [⟨A6, rw_, c6⟩])) (k + 1)) := by rw [sayL_snoc]; exact HST.out
                   clear p1 p2 p3 p4 hB7)
      go_roundw
      case rel => exact ⟨k + 1, _, x + 1, by omega, by go_num, ⟨by omega, by omega⟩, HBN.out, HXN.out, HTN.out, HLN.out, HSN.out⟩
      case measure => simp [intOf]; omega
    · have hk2 : k = (b.n + b.t).toNat := by omega
      have HP : Hid (PRows b.say (sayL ds)) := ⟨N, HN.out, by rw [HDD.out]; show RowsTo D b.t _ (b.n + b.t).toNat; rw [← hk2]; exact HRT.out⟩
      clear hk2
      go_wp2
      go_ret2
      exact gaveLP_some HG.out HP.out HL.out (by omega) HB.out

end Go.Proofs.YtgnpgehekfhedaaDoor

/- The program's UnitPairs. -/

namespace Go.Proofs.YtgnpgehekfhedaaDoor
open Go.RowKit

theorem own_newP2 (w : World) (a b : Int) : OwnI (w.alloc (.cells #[.int .i64 a, .int .i64 b] 3)) w.heap.size (some ⟨w.heap.size, 0, none⟩) [a, b] := by
  refine .inr ⟨w.heap.size, _, rfl, Nat.le_refl _, Row.new _ _ _, fun k x hx => ?_⟩
  rcases k with _ | _ | k
  · simpa using hx
  · simpa using hx
  · simp at hx

/-- The pairs that come ahead of a place, rising. -/
def PairsTo (D : Int → Int → Prop) (xs : List (List Int)) (a c : Int) : Prop := RisesL xs ∧ ∀ z, z ∈ xs ↔ ∃ l y, z = [l, y] ∧ D l y ∧ (l < a ∨ (l = a ∧ y < c))
theorem PairsTo.start {D : Int → Int → Prop} {t : Int} (hD : ∀ l y, D l y → 0 ≤ l ∧ -t ≤ y) : PairsTo D [] 0 (-t) := ⟨RisesL.nil, fun z => ⟨fun h => by simp at h, fun ⟨l, y, _, hd, h⟩ => by have := hD l y hd; omega⟩⟩
theorem PairsTo.no {D : Int → Int → Prop} {xs : List (List Int)} {a c : Int} (h : PairsTo D xs a c) (hn : ¬ D a c) : PairsTo D xs a (c + 1) := ⟨h.1, fun z => by
  rw [h.2]
  constructor
  · rintro ⟨l, y, e, hd, hl⟩
    exact ⟨l, y, e, hd, by omega⟩
  · rintro ⟨l, y, e, hd, hl⟩
    refine ⟨l, y, e, hd, ?_⟩
    rcases hl with hl | ⟨rfl, hl⟩
    · exact .inl hl
    · by_cases ey : y = c
      · subst ey; exact absurd hd hn
      · exact .inr ⟨rfl, by omega⟩⟩
theorem PairsTo.yes {D : Int → Int → Prop} {xs : List (List Int)} {a c : Int} (h : PairsTo D xs a c) (hd : D a c) : PairsTo D (xs ++ [[a, c]]) a (c + 1) := by
  refine ⟨List.pairwise_append.2 ⟨h.1, by simp, fun z hz u hu => ?_⟩, fun z => ?_⟩
  · rw [List.mem_singleton] at hu
    subst hu
    obtain ⟨l, y, rfl, _, hl⟩ := (h.2 z).1 hz
    simp only [cmpL]
    rcases hl with hl | ⟨rfl, hl⟩
    · rw [if_pos hl]; omega
    · rw [if_neg (by omega), if_neg (by omega), if_pos hl]; omega
  · rw [List.mem_append, List.mem_singleton, h.2]
    constructor
    · rintro (⟨l, y, e, h1, hl⟩ | rfl)
      · exact ⟨l, y, e, h1, by omega⟩
      · exact ⟨a, c, rfl, hd, .inr ⟨rfl, by omega⟩⟩
    · rintro ⟨l, y, rfl, h1, hl⟩
      by_cases e : l = a ∧ y = c
      · obtain ⟨rfl, rfl⟩ := e
        exact .inr rfl
      · exact .inl ⟨l, y, rfl, h1, by omega⟩
theorem PairsTo.next {D : Int → Int → Prop} {xs : List (List Int)} {a n t : Int} (hD : ∀ l y, D l y → -t ≤ y ∧ y < n) (h : PairsTo D xs a n) : PairsTo D xs (a + 1) (-t) := ⟨h.1, fun z => by
  rw [h.2]
  constructor
  · rintro ⟨l, y, e, hd, hl⟩
    exact ⟨l, y, e, hd, by omega⟩
  · rintro ⟨l, y, e, hd, hl⟩
    have := hD l y hd
    exact ⟨l, y, e, hd, by omega⟩⟩
theorem PairsTo.end_ {D : Int → Int → Prop} {xs : List (List Int)} {n c : Int} (hD : ∀ l y, D l y → l < n) (h : PairsTo D xs n c) : RisesL xs ∧ ∀ z, z ∈ xs ↔ ∃ l x, z = [l, x] ∧ D l x := ⟨h.1, fun z => by
  rw [h.2]
  constructor
  · rintro ⟨l, y, e, hd, hl⟩
    exact ⟨l, y, e, hd⟩
  · rintro ⟨l, y, e, hd⟩
    exact ⟨l, y, e, hd, .inl (hD l y hd)⟩⟩

/-- The pairs of a binary grammar, rising. -/
def PPairs (s : Bs) (xs : List (List Int)) : Prop := ∃ N, IsLeast wayNull noS (bRules s.P s.O s.E) N ∧ RisesL xs ∧ ∀ z, z ∈ xs ↔ ∃ l x, z = [l, x] ∧ DirB N s.P s.O l x
theorem PPairs.unique {s : Bs} {xs ys : List (List Int)} (h : PPairs s xs) (k : PPairs s ys) : xs = ys := by
  obtain ⟨N, h1, h2, h3⟩ := h
  obtain ⟨M, k1, k2, k3⟩ := k
  have e := h1.unique k1
  subst e
  exact risesL_unique h2 k2 fun z => (h3 z).trans (k3 z).symm

set_option maxRecDepth 20000 in
set_option maxHeartbeats 1000000 in
theorem implUnitPairs_any (b : Bi) (w : World) (hx : ReadB w w.heap.size b) (hL : Lims w) (hm : LenB 1048576 b) (ht : b.P.length + b.O.length + b.E.length ≤ 1048576) (hf : FitB b.say) :
    Calls Tryd.prog 28 #[(.agg #[.int .i64 b.n, .int .i64 b.t, .slice b.Ap b.P.length b.cp, .slice b.Ao b.O.length b.co, .slice b.Ae b.E.length b.ce, .slice b.Af b.F.length b.cf])] w (GaveLP w (bP (GoodBs b.say)) (PPairs b.say)) := by
  have HX := Lib.hid hx; clear hx
  have HL := Lib.hid hL; clear hL
  have HF := Lib.hid hf; clear hf
  have HM := Lib.hid hm; clear hm
  have HZ := Lib.hid info_tab
  have HS := Lib.hid size_tab
  have HSR := Lib.hid size_row
  obtain ⟨i0, hi0, hz0, hz1, hz2⟩ := info_of Tryd.infoIntS
  have HB0 : Hid (Below w.heap.size w (w.alloc (.cells #[.int .i64 b.n, .int .i64 b.t, .slice b.Ap b.P.length b.cp, .slice b.Ao b.O.length b.co, .slice b.Ae b.E.length b.ce, .slice b.Af b.F.length b.cf] 29))) := by show Below _ _ _; go_grown
  have B0 := Lib.hid (Box6.new w b 29)
  have HC := Lib.hid (implGoodB_any b (w.alloc (.cells #[.int .i64 b.n, .int .i64 b.t, .slice b.Ap b.P.length b.cp, .slice b.Ao b.O.length b.co, .slice b.Ae b.E.length b.ce, .slice b.Af b.F.length b.cf] 29)) ((HX.out.keep HB0.out).more HB0.out.size) (HL.out.keep HB0.out (Nat.le_refl _)) HM.out HF.out)
  go_enter Tryd.func28, Tryd.ntmps28
  go_wp2_with fail
  refine HC.out.mono ?_
  rintro e w1 ⟨rfl, hB1⟩
  have B1 := Lib.hid (B0.out.keep hB1 B0.out.1)
  have HB1 := Lib.hid (HB0.out.trans (hB1.mono HB0.out.size)); clear hB1
  clear B0 HB0 HC
  obtain ⟨_, b0, b1, b2, b3, b4, b5⟩ := B1.out
  cases hg : bP (GoodBs b.say)
  · have HG := Lib.hid hg
    clear hg
    go_wp2
    go_ret2
    exact gaveLP_none HG.out HB1.out
  have HG := Lib.hid hg
  have HGB : Hid (GoodBs b.say) := bP_is hg
  clear hg
  go_wp2_with fail
  refine (directRows_any b w1 ((HX.out.keep HB1.out).more HB1.out.size) HM.out ht HF.out HGB.out).mono ?_
  rintro e w4 ⟨N, rfl, hN, hB4⟩
  have hs3 := HB1.out.size
  have B4 := Lib.hid (B1.out.keep hB4 B1.out.1)
  have HB4 := Lib.hid (HB1.out.trans (hB4.mono hs3)); clear hB4
  have HN := Lib.hid hN; clear hN
  have HFT := Lib.hid (dirB_fit HGB.out N)
  generalize hD : DirB N b.say.P b.say.O = D at HFT
  have HDD := Lib.hid hD; clear hD
  have hs4 := HB4.out.size
  clear B1 HB1 b0 b1 b2 b3 b4 b5
  have HRN : Hid (Row (w4.alloc (.cells (tabA fun _ _ => false) 99)) w4.heap.size 99 (tabA fun _ _ => false)) := Row.new _ _ _
  have HB5 : Hid (Below w.heap.size w ((w4.alloc (.cells (tabA fun _ _ => false) 99)).setRow w4.heap.size (tabA (tabF D)))) := below_setRow (HB4.out.alloc hs4 _) hs4 _
  have HT5 : Hid (TabC ((w4.alloc (.cells (tabA fun _ _ => false) 99)).setRow w4.heap.size (tabA (tabF D))) w4.heap.size (tabF D)) := (HRN.out.setRow _).tab
  have B5 : Hid (Box6 ((w4.alloc (.cells (tabA fun _ _ => false) 99)).setRow w4.heap.size (tabA (tabF D))) w.heap.size b) := B4.out.keep (below_setRow ((Below.refl w4.heap.size w4).alloc (Nat.le_refl _) _) (Nat.le_refl _) _) B4.out.1
  obtain ⟨_, b0, b1, b2, b3, b4, b5⟩ := B5.out
  go_wp2_with (first
    | with_reducible refine wpList_allocA rfl 99 rfl (tabA fun _ _ => false) 1760 HZ.out ?_
    | with_reducible refine wpList_storeA rfl 99 (.tmp 4) (.tmp 12) rfl w4.heap.size (tabA (tabF D)) rfl rfl 99 (tabA fun _ _ => false) HRN.out (HS.out _) (by rw [tabA_size, tabA_size]) (tabA_all _) ?_)
  generalize (w4.alloc (.cells (tabA fun _ _ => false) 99)).setRow w4.heap.size (tabA (tabF D)) = W5 at *
  generalize w4.heap.size = K at HT5 hs4 ⊢
  clear HRN HB4 B4
  have hn1 : 1 ≤ b.n := HGB.out.1.1
  have hn2 : b.n ≤ 40 := HGB.out.1.2
  have hn1 : 1 ≤ b.n := HGB.out.1.1
  have hn2 : b.n ≤ 40 := HGB.out.1.2
  have ht1 : 1 ≤ b.t := HGB.out.2.1.1
  have ht2 : b.t ≤ 4 := HGB.out.2.1.2
  have HDB : Hid (∀ l y, D l y → (0 ≤ l ∧ l < b.n) ∧ (-b.t ≤ y ∧ y < b.n)) := fun l y hd => by
    have h := dirB_sym HGB.out (HDD.out ▸ hd : DirB N b.say.P b.say.O l y)
    have h1 := nonB_is h.1
    have h2 := of_decide_eq_true h.2
    have e1 : b.say.n = b.n := rfl
    have e2 : b.say.t = b.t := rfl
    omega
  go_loopw [5, 15] (fun v i wr => ∃ (k : Nat) (ds : List Li), (k : Int) ≤ b.n ∧ i = .int .i64 k ∧ ds.length ≤ k * 44 ∧ Hid (Below w.heap.size w wr) ∧ Hid (Box6 wr w.heap.size b) ∧ Hid (TabC wr K (tabF D)) ∧ Hid (ListsW wr (K + 1) v ds) ∧ Hid (PairsTo D (sayL ds) k (-b.t))) (fun _ i _ => (40 - intOf i).toNat)
  case atStart => exact ⟨0, [], by omega, rfl, by simp, HB5.out, B5.out, HT5.out, ListsW.start _ _, PairsTo.start fun l y hd => ⟨(HDB.out l y hd).1.1, (HDB.out l y hd).2.1⟩⟩
  case round =>
    clear HB5 HT5 B5 b0 b1 b2 b3 b4 b5
    obtain ⟨k, ds, hk, rfl, hdl, HB, HBX, HT, HL, HPT⟩ := hrel
    obtain ⟨_, b0, b1, _, _, _, _⟩ := HBX.out
    by_cases hlt : (k : Int) < b.n
    · have hk40 : k < 40 := by omega
      obtain ⟨wA, hwA⟩ : ∃ x, x = wr := ⟨_, rfl⟩
      subst hwA
      obtain ⟨fs, hfs⟩ : ∃ x, x = ds := ⟨_, rfl⟩
      subst hfs
      go_wp2_with fail
      clear b0 b1
      go_loopw [5, 7] (fun v i wr => ∃ (j : Nat) (ds : List Li) (x : Int), (j : Int) ≤ b.n + b.t ∧ i = .int .i64 x ∧ (x ≤ (j : Int) - b.t ∧ (j : Int) - b.t ≤ x) ∧ ds.length ≤ k * 44 + j ∧ Hid (Below w.heap.size w wr) ∧ Hid (Box6 wr w.heap.size b) ∧ Hid (TabC wr K (tabF D)) ∧ Hid (ListsW wr (K + 1) v ds) ∧ Hid (PairsTo D (sayL ds) k x)) (fun _ i _ => (40 - intOf i).toNat)
      case atStart => exact ⟨0, fs, -b.t, by omega, by first | rfl | rw [show wrap64 (-b.t) = -b.t from by go_arith], ⟨by omega, by omega⟩, by omega, HB.out, HBX.out, HT.out, HL.out, HPT.out⟩
      case round =>
        clear HB HBX HT HL HPT hdl
        obtain ⟨j, ds, x, hj, rfl, ⟨hx1, hx2⟩, hdl, HB, HBX, HT, HL, HPT⟩ := hrel
        obtain ⟨_, b0, _, _, _, _, _⟩ := HBX.out
        by_cases hxl : x < b.n
        · obtain ⟨m, hm, hmx⟩ : ∃ m : Nat, m < 44 ∧ 4 + x = (m : Int) := ⟨(4 + x).toNat, by omega, by omega⟩
          have c1 := HT.out.2 m x hm hmx k _ (rowA_at _ hk40)
          have hKr := HT.out.1
          go_wp2_with fail
          refine (of_any K m x wr hm hmx).mono ?_
          rintro e w5 ⟨rfl, rfl⟩
          cases hq : tabF D x k
          · rw [hq] at c1
            have HST := Lib.hid (HPT.out.no (bP_no hq))
            clear hq
            go_wp2
            go_roundw
            case rel => exact ⟨j + 1, ds, x + 1, by omega, by go_num, ⟨by omega, by omega⟩, by omega, HB.out, HBX.out, HT.out, HL.out, HST.out⟩
            case measure => simp [intOf]; omega
          · rw [hq] at c1
            have HST := Lib.hid (HPT.out.yes (bP_is hq))
            clear hq
            have hs5 := HB.out.size
            have HB6 : Hid (Below w5.heap.size w5 (w5.alloc (.cells #[.int .i64 k, .int .i64 x] 3))) := (Below.refl _ _).alloc (Nat.le_refl _) _
            have HO6 := Lib.hid (own_newP2 w5 k x)
            have HWn : Hid (((w5.alloc (.cells #[.int .i64 k, .int .i64 x] 3)).alloc (.cells #[.slice (some ⟨w5.heap.size, 0, none⟩) 2 2] 27)).ownsRow (K + 1) 27 1 _ ds.length (ds.map cellsL)) := (own_below HL.out.row HB6.out).alloc _
            have HNW : Hid (∀ j u, ([.slice (some ⟨w5.heap.size, 0, none⟩) 2 2] : List Value)[j]? = some u → ((w5.alloc (.cells #[.int .i64 k, .int .i64 x] 3)).alloc (.cells #[.slice (some ⟨w5.heap.size, 0, none⟩) 2 2] 27)).cell? ((⟨w5.heap.size + 1, 0, none⟩ : Addr).add j) = some u) := by
              have h := one_new (w5.alloc (.cells #[.int .i64 k, .int .i64 x] 3)) (.slice (some ⟨w5.heap.size, 0, none⟩) 2 2) 27
              rw [World.size_alloc] at h
              exact h
            go_wp2_with (at_builtin
                         refine wpList_append_lies _ rfl (.tmp 33) (.tmp 37) _ rfl (K + 1) 27 i0 _ 1 24 Tryd.underlying26 hi0 hz0 hz1 hz2 rfl (by omega) _ _ _ rfl HWn.out ⟨w5.heap.size + 1, 0, none⟩ 1 1 [.slice (some ⟨w5.heap.size, 0, none⟩) 2 2] rfl rfl HNW.out (by intro u hu; simp at hu; subst hu; rfl) (by omega) (by unfold maxLen; omega) (by omega) (by simp; omega) _ rfl ?_
                         intro g7 cap7 w7 p1 p2 p3 p4
                         have HLN := Lib.hid (HL.out.pushI (xs := [(k : Int), x]) (c := 2) HB6.out hKr HO6.out (by simp) p1 p2)
                         have hB7 : Below (K + 1) w5 w7 := ((HB6.out.mono hKr).alloc (by simp; omega) _).grown p2 (by simp; omega) fun j hj => (HL.out.lt j hj).1
                         have HBN := Lib.hid (HB.out.trans (hB7.mono (by omega)))
                         have HXN := Lib.hid (HBX.out.keep hB7 (by omega))
                         have HTN := Lib.hid (HT.out.keep hB7 (Nat.lt_succ_self _))
                         have HSN : Hid (PairsTo D (sayL (ds ++ [⟨some ⟨w5.heap.size, 0, none⟩, [(k : Int), x], 2⟩])) k (x + 1)) := by rw [sayL_snoc]; exact HST.out
                         clear p1 p2 p3 p4 hB7)
            go_roundw
            case rel => exact ⟨j + 1, _, x + 1, by omega, by go_num, ⟨by omega, by omega⟩, by simp; omega, HBN.out, HXN.out, HTN.out, HLN.out, HSN.out⟩
            case measure => simp [intOf]; omega
        · obtain rfl : x = b.n := by omega
          have HST := Lib.hid (HPT.out.next fun l y hd => (HDB.out l y hd).2)
          go_wp2
          go_roundw
          case rel => exact ⟨k + 1, ds, by omega, by go_num, by omega, HB.out, HBX.out, HT.out, HL.out, HST.out⟩
          case measure => simp [intOf]; omega
    · have hk2 : (k : Int) = b.n := by omega
      have HP : Hid (PPairs b.say (sayL ds)) := ⟨N, HN.out, by rw [HDD.out]; exact (hk2 ▸ HPT.out : PairsTo D (sayL ds) b.n (-b.t)).end_ fun l y hd => (HDB.out l y hd).1.2⟩
      clear hk2
      go_wp2
      go_ret2
      exact gaveLP_some HG.out HP.out HL.out (by omega) HB.out

end Go.Proofs.YtgnpgehekfhedaaDoor

/- slices.Grow of nothing, and slices.Concat, at lists of numbers. -/

namespace Go.Proofs.YtgnpgehekfhedaaDoor
open Go.RowKit

set_option maxRecDepth 20000 in
set_option maxHeartbeats 1000000 in
theorem growNil_any (n : Nat) (hn : n ≤ 1048576) (w : World) :
    Calls Tryd.prog 180 #[.slice none 0 0, .int .i64 (n : Int)] w fun e w' => ∃ v, e = .returned v ∧ w'.ownsRow w.heap.size 3 1 v 0 [] ∧ Below w.heap.size w w' := by
  obtain ⟨i0, hi0, hz0, hz1, hz2⟩ := info_of Tryd.infoInt
  by_cases h0 : n = 0
  · subst h0
    go_enter Tryd.func180, Tryd.ntmps180
    go_wp2
    go_ret
    exact ⟨_, rfl, ⟨rfl, .inl ⟨rfl, rfl⟩⟩, Below.refl _ _⟩
  · have hrz : ∀ ty, (Builtin.append_ #[27, 3] ty #[.slice none 0 0, .int .i64 (n : Int)]).run Tryd.prog w =
        .ok (.slice (some ⟨w.heap.size, 0, none⟩) n (grownCap w n 0 3)) (w.drew.alloc (.cells (([] : List Value).toArray ++ Builtin.zeroCells (Value.int .i64 0).cells n ++ Builtin.zeroCells (Value.int .i64 0).cells (grownCap w n 0 3 - n)) 3)) := fun ty => by
      have h := Lib.run_append_grow_zeros (P := Tryd.prog) w 27 3 ty 3 i0 (.int .i64 0) .i64 .i64 Tryd.underlying27 Tryd.underlying3 hi0 hz0 none 0 0 [] (run_firstCells_none w.drew i0.size 0 0 0) n (by omega) (by rw [hz1]; omega) (by omega) (by omega) (by rw [hz2]; omega) (growslice_fits (by omega) (by rw [hz2]; omega))
      rw [Nat.zero_add] at h
      exact h
    have hge : n ≤ grownCap w n 0 3 := grownCap_ge w _ _ _
    have hle := grownCap_le_maxLen w n 0 3 (by unfold maxLen; omega)
    unfold maxLen at hle
    have HO : Hid (∀ G, n ≤ G → G ≤ maxLen → (w.drew.alloc (.cells (([] : List Value).toArray ++ Builtin.zeroCells (Value.int .i64 0).cells n ++ Builtin.zeroCells (Value.int .i64 0).cells (G - n)) 3)).ownsRow w.heap.size 3 1 (.slice (some ⟨w.heap.size, 0, none⟩) 0 G) 0 []) := fun G h1 h2 =>
      ⟨rfl, .inr ⟨w.heap.size, G, _, rfl, Nat.le_refl _, heap_alloc_new w.drew _, by omega, h2, by simp [Builtin.zeroCells, Value.cells]; omega, by simp⟩⟩
    have HB : Hid (∀ G, Below w.heap.size w (w.drew.alloc (.cells (([] : List Value).toArray ++ Builtin.zeroCells (Value.int .i64 0).cells n ++ Builtin.zeroCells (Value.int .i64 0).cells (G - n)) 3))) := fun G => by go_grown
    generalize grownCap w n 0 3 = G at *
    have HOG := Lib.hid (HO.out G hge (by unfold maxLen; exact hle))
    have HBG := Lib.hid (HB.out G)
    clear HO HB
    generalize w.drew.alloc (.cells (([] : List Value).toArray ++ Builtin.zeroCells (Value.int .i64 0).cells n ++ Builtin.zeroCells (Value.int .i64 0).cells (G - n)) 3) = w2 at *
    go_enter Tryd.func180, Tryd.ntmps180
    go_wp2_with (at_builtin; refine Lib.wpList_append_run _ rfl _ _ _ _ rfl _ _ rfl rfl _ _ (hrz _) ?_)
    all_goals
      go_ret
      exact ⟨_, rfl, HOG.out, HBG.out⟩

/-- A list as a slice in memory: where it lies, what it reads as, its capacity. -/
structure Pt where
  a : Option Addr
  r : List Int
  c : Nat
/-- The cells of block B are the slices ps. -/
def PtsAt (w : World) (B : Nat) (ps : List Pt) : Prop := B < w.heap.size ∧ ∀ (k : Nat) (p : Pt), ps[k]? = some p → w.cell? ⟨B, k, none⟩ = some (.slice p.a p.r.length p.c) ∧ Ints w w.heap.size p.a p.r
theorem PtsAt.keep {w w' : World} {B : Nat} {ps : List Pt} (h : PtsAt w B ps) (hb : Below w.heap.size w w') : PtsAt w' B ps :=
  ⟨Nat.lt_of_lt_of_le h.1 hb.size, fun k p hk => ⟨(hb.cell (p := ⟨B, k, none⟩) h.1).trans (h.2 k p hk).1, ((h.2 k p hk).2.keep hb).more hb.size⟩⟩
def catL (ps : List Pt) : List Int := ps.flatMap Pt.r
theorem catL_take {ps : List Pt} {k : Nat} (h : k < ps.length) : catL (ps.take (k + 1)) = catL (ps.take k) ++ ps[k].r := by
  unfold catL
  rw [List.take_add_one, List.getElem?_eq_getElem h, List.flatMap_append]
  simp
theorem catL_le {ps : List Pt} (k : Nat) : (catL (ps.take k)).length ≤ (catL ps).length := by
  have h : catL ps = catL (ps.take k) ++ catL (ps.drop k) := by unfold catL; rw [← List.flatMap_append, List.take_append_drop]
  rw [h, List.length_append]
  omega

set_option maxRecDepth 20000 in
set_option maxHeartbeats 1000000 in
theorem concat_any (B : Nat) (ps : List Pt) (c : Nat) (w : World) (hP : PtsAt w B ps) (hn : (catL ps).length ≤ 1048576) (hl : ps.length ≤ 1048576) :
    Calls Tryd.prog 145 #[.slice (some ⟨B, 0, none⟩) ps.length c] w fun e w' => ∃ v, e = .returned v ∧ w'.ownsRow w.heap.size 3 1 v (catL ps).length (vals (catL ps)) ∧ Below w.heap.size w w' := by
  obtain ⟨i0, hi0, hz0, hz1, hz2⟩ := info_of Tryd.infoInt
  have HP := Lib.hid hP; clear hP
  go_enter Tryd.func145, Tryd.ntmps145
  go_wp2
  go_loopw [3, 11] (fun z i wr => ∃ (k m : Nat), k ≤ ps.length ∧ i = .int .i64 k ∧ z = .int .i64 m ∧ Hid (m = (catL (ps.take k)).length) ∧ wr = w) (fun _ i _ => ps.length - (intOf i).toNat)
  case atStart => exact ⟨0, 0, by omega, rfl, rfl, rfl, rfl⟩
  case round =>
    obtain ⟨k, m, hk, rfl, rfl, HM, hwr⟩ := hrel
    subst hwr
    by_cases hlt : k < ps.length
    · obtain ⟨c1, _⟩ := HP.out.2 k ps[k] (List.getElem?_eq_getElem hlt)
      have HN : Hid (m + ps[k].r.length = (catL (ps.take (k + 1))).length) := by show _ = _; rw [catL_take hlt, List.length_append, HM.out]
      have hm : m + ps[k].r.length ≤ 1048576 := by have := HN.out; have := catL_le (ps := ps) (k + 1); omega
      go_wp2
      go_roundw
      case rel => exact ⟨k + 1, m + ps[k].r.length, by omega, by go_num, by go_num, HN.out, trivial⟩
      case measure => simp [intOf]; omega
    · obtain rfl : k = ps.length := by omega
      have hm : m = (catL ps).length := by have := HM.out; rw [List.take_length] at this; exact this
      have hml : m ≤ 1048576 := by omega
      have HMM := Lib.hid hm; clear hm HM
      obtain ⟨wO, hwO⟩ : ∃ x, x = wr := ⟨_, rfl⟩
      subst hwO
      go_wp2_with fail
      refine (growNil_any m hml _).mono ?_
      rintro e w1 ⟨v1, rfl, hO1, hB1⟩
      have HO1 : Hid (w1.ownsRow wO.heap.size 3 1 v1 (catL (ps.take 0)).length (vals (catL (ps.take 0)))) := hO1
      have HB1 := Lib.hid hB1
      clear hO1 hB1
      go_wp2
      go_loopw [6, 27] (fun v i wr => ∃ (k : Nat), k ≤ ps.length ∧ i = .int .i64 k ∧ Hid (wr.ownsRow wO.heap.size 3 1 v (catL (ps.take k)).length (vals (catL (ps.take k)))) ∧ Hid (Below wO.heap.size wO wr)) (fun _ i _ => ps.length - (intOf i).toNat)
      case atStart => exact ⟨0, by omega, rfl, HO1.out, HB1.out⟩
      case round =>
        obtain ⟨k, hk, rfl, HO, HB⟩ := hrel
        clear HO1 HB1
        by_cases hlt : k < ps.length
        · have hPk := HP.out.keep HB.out
          obtain ⟨c1, c2⟩ := hPk.2 k ps[k] (List.getElem?_eq_getElem hlt)
          have HC := Lib.hid (catL_take hlt)
          have hlk : (catL (ps.take k)).length + ps[k].r.length ≤ 1048576 := by have h1 := catL_le (ps := ps) (k + 1); rw [HC.out, List.length_append] at h1; omega
          clear hPk
          generalize ps[k] = p at c1 c2 HC hlk
          obtain ⟨pa, pr, pc⟩ := p
          dsimp only at c1 c2 HC hlk
          have HC2 := Lib.hid c2; clear c2
          rcases pa with _ | ad
          · have hx : pr = [] := by
              rcases pr with _ | ⟨x, xs⟩
              · rfl
              · obtain ⟨_, _, e, _⟩ := HC2.out (by simp)
                cases e
            subst hx
            have HON : Hid (wr.ownsRow wO.heap.size 3 1 u6 (catL (ps.take (k + 1))).length (vals (catL (ps.take (k + 1))))) := by have h := HO.out; show World.ownsRow _ _ _ _ _ _ _; rw [HC.out, List.append_nil]; exact h
            go_wp2_with (at_builtin
                         refine append_nil_at rfl (.tmp 31) (.tmp 32) _ rfl wO.heap.size 3 i0 1 Tryd.underlying27 hi0 _ _ _ rfl HO.out pc rfl ?_)
            go_roundw
            case rel => exact ⟨k + 1, by omega, by go_num, HON.out, HB.out⟩
            case measure => simp [intOf]; omega
          · have HN : Hid (∀ (j : Nat) (v : Value), (vals pr)[j]? = some v → wr.cell? (ad.add j) = some v) := fun j v hv => by
              have hp : 0 < pr.length := by have := (List.getElem?_eq_some_iff.1 hv).1; rw [vals_length] at this; omega
              obtain ⟨ad', e, h⟩ := HC2.out.src hp
              injection e with e
              subst e
              exact h j v hv
            have hws : wO.heap.size ≤ wr.heap.size := HB.out.size
            have hvl : (vals (catL (ps.take k))).length = (catL (ps.take k)).length := vals_length _
            go_wp2_with (at_builtin
                         refine wpList_append_own _ rfl (.tmp 31) (.tmp 32) _ rfl wO.heap.size 3 i0 _ 1 8 Tryd.underlying27 hi0 hz0 hz1 hz2 rfl (by omega) _ _ _ rfl HO.out ad pr.length pc (vals pr) rfl (by rw [vals_length]; omega) HN.out (vals_one pr) (by unfold maxLen; omega) (by omega) (by omega) ?_
                         intro v' w' h1 h2 h3
                         have HO1 := Lib.hid h1
                         have HB2 : Hid (Below wO.heap.size wO w') := HB.out.grown h2 HB.out.size fun j hj => (HO.out.lt j hj).1
                         clear h1 h2 h3)
            go_roundw
            case rel =>
              refine ⟨k + 1, by omega, by go_num, ?_, HB2.out⟩
              show World.ownsRow _ _ _ _ _ _ _
              rw [HC.out, List.length_append]
              have h := HO1.out
              unfold vals at h ⊢
              rw [List.map_append]
              exact h
            case measure => simp [intOf]; omega
        · obtain rfl : k = ps.length := by omega
          have HOE : Hid (wr.ownsRow wO.heap.size 3 1 u6 (catL ps).length (vals (catL ps))) := by have h := HO.out; rw [List.take_length] at h; exact h
          go_wp2
          go_ret
          exact ⟨_, rfl, HOE.out, HB.out⟩

theorem own_slice {w : World} {lo : Nat} {v : Value} {ys : List Int} (h : w.ownsRow lo 3 1 v ys.length (vals ys)) : ∃ A c, v = .slice A ys.length c ∧ OwnI w lo A ys ∧ ys.length ≤ c := by
  obtain ⟨A, c, e, hO⟩ := ownI_of_row (ys := ys) h
  refine ⟨A, c, e, hO, ?_⟩
  obtain ⟨_, ⟨e2, h0⟩ | ⟨g, cap, cur, e2, _, _, hc, _⟩⟩ := h
  · omega
  · rw [e] at e2
    injection e2 with _ _ e3
    omega

end Go.Proofs.YtgnpgehekfhedaaDoor
