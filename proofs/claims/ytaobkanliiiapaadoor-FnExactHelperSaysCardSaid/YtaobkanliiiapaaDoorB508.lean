/- Plain mathematics of BinaryOf: what comes of all rules that are cut; none of it comes twice. No program, no memory. -/
import Derived.Test.YtaobkanliiiapaaDoorB507
import Derived.Test.YtaobkanliiiapaaDoorB502
import Derived.Test.YtaobkanliiiapaaDoorB506
import Derived.Shelf.Small.Bits
import Derived.Shelf.Strconv.Itoa0
import Derived.Shelf.Sort.Plain
import Derived.Ground.SlsfProg
import Derived.Shelf.SlSortCmp.Insertion
import Derived.Shelf.SlSortCmp.SiftDown1
import Derived.Shelf.SlSortCmp.HeapSort1
import Derived.Shelf.SlSortCmp.Insertion1
import Derived.Shelf.SlSortCmp.Median1
import Derived.Shelf.SlSortCmp.Pivot1
import Derived.Shelf.SlSortCmp.ReverseRange1
import Derived.Shelf.SlSortCmp.PartialInsertion1
import Derived.Shelf.SlSortCmp.PartitionEqual1
import Derived.Shelf.SlSortCmp.Partition1
import Derived.Shelf.SlSortCmp.Pdq1
import Derived.Shelf.SlSortCmp.Whole1
import Derived.Test.YtaobkanliiiapaaDoorProg
import Derived.Test.YtaobkanliiiapaaDoorB505

namespace Go.Proofs.YtaobkanliiiapaaDoor

/-- What comes of the rules that are cut, from rule k and nonterminal n on. -/
def cutA : List (Int × List Int) → Int → Int → Cut
  | [], _, n => ⟨[], [], [], [], n⟩
  | r :: rs, k, n =>
    let c := cutR k r.1 r.2 1 n
    let d := cutA rs (k + 1) c.n
    ⟨c.P ++ d.P, c.O ++ d.O, c.F ++ d.F, c.E ++ d.E, d.n⟩
theorem cutA_cons (r : Int × List Int) (rs : List (Int × List Int)) (k n : Int) : cutA (r :: rs) k n = ⟨(cutR k r.1 r.2 1 n).P ++ (cutA rs (k + 1) (cutR k r.1 r.2 1 n).n).P, (cutR k r.1 r.2 1 n).O ++ (cutA rs (k + 1) (cutR k r.1 r.2 1 n).n).O, (cutR k r.1 r.2 1 n).F ++ (cutA rs (k + 1) (cutR k r.1 r.2 1 n).n).F, (cutR k r.1 r.2 1 n).E ++ (cutA rs (k + 1) (cutR k r.1 r.2 1 n).n).E, (cutA rs (k + 1) (cutR k r.1 r.2 1 n).n).n⟩ := rfl
theorem cutA_le : ∀ (rs : List (Int × List Int)) (k n : Int), n ≤ (cutA rs k n).n
  | [], k, n => Int.le_refl _
  | r :: rs, k, n => by
    rw [cutA_cons]
    have h1 := cutR_le k r.2 r.1 1 n
    have h2 := cutA_le rs (k + 1) (cutR k r.1 r.2 1 n).n
    show n ≤ (cutA rs (k + 1) (cutR k r.1 r.2 1 n).n).n
    omega

/-- A pair out of a rule: its last symbol is a helper made of it; or it is the rule's last pair. -/
def PairOf (n0 l : Int) (r : List Int) (n n' : Int) (z : List Int) : Prop :=
  ∃ x y h, z = [x, y, h] ∧ ((n ≤ h ∧ h < n') ∨ (h < n0 ∧ ((x = l ∧ r = [y, h]) ∨ (n ≤ x ∧ x < n'))))
theorem cutR_pairs (n0 k : Int) : ∀ (r : List Int) (l p n : Int), (∀ x ∈ r, x < n0) → ∀ z ∈ (cutR k l r p n).P, PairOf n0 l r n (cutR k l r p n).n z
  | [], l, p, n, _, z, hz => by simp [cutR] at hz
  | [a], l, p, n, _, z, hz => by simp [cutR] at hz
  | [a, b], l, p, n, h, z, hz => by
    simp [cutR] at hz
    exact ⟨l, a, b, hz, .inr ⟨h b (by simp), .inl ⟨rfl, rfl⟩⟩⟩
  | a :: b :: c :: r, l, p, n, h, z, hz => by
    rw [cutR_more] at hz ⊢
    have hle := cutR_le k (b :: c :: r) n (p + 1) (n + 1)
    rcases List.mem_cons.1 hz with rfl | hz
    · exact ⟨l, a, n, rfl, .inl ⟨Int.le_refl _, by show n < (cutR k n (b :: c :: r) (p + 1) (n + 1)).n; omega⟩⟩
    · obtain ⟨x, y, hh, rfl, h1 | ⟨h1, ⟨rfl, _⟩ | h2⟩⟩ := cutR_pairs n0 k (b :: c :: r) n (p + 1) (n + 1) (fun x hx => h x (by simp at hx ⊢; exact .inr hx)) z hz
      · exact ⟨x, y, hh, rfl, .inl ⟨by omega, h1.2⟩⟩
      · exact ⟨x, y, hh, rfl, .inr ⟨h1, .inr ⟨Int.le_refl _, by show x < (cutR k x (b :: c :: r) (p + 1) (x + 1)).n; omega⟩⟩⟩
      · exact ⟨x, y, hh, rfl, .inr ⟨h1, .inr ⟨by omega, h2.2⟩⟩⟩
theorem cutR_nodupP (n0 k : Int) : ∀ (r : List Int) (l p n : Int), (∀ x ∈ r, x < n0) → n0 ≤ n → (cutR k l r p n).P.Nodup
  | [], l, p, n, _, _ => List.nodup_nil
  | [a], l, p, n, _, _ => List.nodup_nil
  | [a, b], l, p, n, _, _ => by simp [cutR]
  | a :: b :: c :: r, l, p, n, h, hn => by
    rw [cutR_more]
    have h' : ∀ x ∈ b :: c :: r, x < n0 := fun x hx => h x (by simp at hx ⊢; exact .inr hx)
    refine List.nodup_cons.2 ⟨fun hm => ?_, cutR_nodupP n0 k (b :: c :: r) n (p + 1) (n + 1) h' (by omega)⟩
    obtain ⟨x, y, hh, e, h1 | ⟨h1, _⟩⟩ := cutR_pairs n0 k (b :: c :: r) n (p + 1) (n + 1) h' _ hm
    · simp at e; omega
    · simp at e; omega

/-- A pair out of some of the rules. -/
theorem cutA_pairs (n0 : Int) : ∀ (rs : List (Int × List Int)) (k n : Int), (∀ r ∈ rs, ∀ x ∈ r.2, x < n0) → ∀ z ∈ (cutA rs k n).P, ∃ r ∈ rs, ∃ m m', n ≤ m ∧ m ≤ m' ∧ PairOf n0 r.1 r.2 m m' z
  | [], k, n, _, z, hz => by simp [cutA] at hz
  | r :: rs, k, n, h, z, hz => by
    rw [cutA_cons] at hz
    have hle := cutR_le k r.2 r.1 1 n
    rcases List.mem_append.1 hz with hz | hz
    · exact ⟨r, by simp, n, _, Int.le_refl _, hle, cutR_pairs n0 k r.2 r.1 1 n (h r (by simp)) z hz⟩
    · obtain ⟨r', hr', m, m', h1, h2, h3⟩ := cutA_pairs n0 rs (k + 1) _ (fun r hr => h r (by simp [hr])) z hz
      exact ⟨r', by simp [hr'], m, m', by omega, h2, h3⟩
theorem cutA_nodupP (n0 : Int) : ∀ (rs : List (Int × List Int)) (k n : Int), (∀ r ∈ rs, r.1 < n0 ∧ ∀ x ∈ r.2, x < n0) → n0 ≤ n → rs.Nodup → (cutA rs k n).P.Nodup
  | [], k, n, _, _, _ => List.nodup_nil
  | r :: rs, k, n, h, hn, hd => by
    rw [cutA_cons]
    obtain ⟨hd1, hd2⟩ := List.nodup_cons.1 hd
    have hle := cutR_le k r.2 r.1 1 n
    have hr := h r (by simp)
    have hrs : ∀ q ∈ rs, q.1 < n0 ∧ ∀ x ∈ q.2, x < n0 := fun q hq => h q (by simp [hq])
    refine List.nodup_append.2 ⟨cutR_nodupP n0 k r.2 r.1 1 n hr.2 hn, cutA_nodupP n0 rs (k + 1) _ hrs (by omega) hd2, fun z hz z' hz' e => ?_⟩
    subst e
    obtain ⟨x, y, hh, rfl, h1⟩ := cutR_pairs n0 k r.2 r.1 1 n hr.2 z hz
    obtain ⟨q, hq, m, m', h2, h3, x', y', h', e, h4⟩ := cutA_pairs n0 rs (k + 1) _ (fun q hq => (hrs q hq).2) _ hz'
    simp at e
    obtain ⟨rfl, rfl, rfl⟩ := e
    rcases h1 with h1 | ⟨h1, ⟨e1, e2⟩ | h5⟩ <;> rcases h4 with h4 | ⟨h4, ⟨e3, e4⟩ | h6⟩
    · omega
    · omega
    · omega
    · omega
    · exact hd1 (by have : q = r := Prod.ext (e3.symm.trans e1) (e4.trans e2.symm); rw [← this]; exact hq)
    · rw [e1] at h6; omega
    · omega
    · rw [e3] at h5; have := (hrs q hq).1; omega
    · omega

theorem cutR_ones (k : Int) : ∀ (r : List Int) (l p n : Int), ∀ z, z ∈ (cutR k l r p n).O ↔ ∃ a, r = [a] ∧ z = [l, a]
  | [], l, p, n, z => by simp [cutR]
  | [a], l, p, n, z => by simp [cutR]
  | [a, b], l, p, n, z => by simp [cutR]
  | a :: b :: c :: r, l, p, n, z => by
    rw [cutR_more]
    show z ∈ (cutR k n (b :: c :: r) (p + 1) (n + 1)).O ↔ _
    rw [cutR_ones k (b :: c :: r) n (p + 1) (n + 1) z]
    simp
theorem cutR_emps (k : Int) : ∀ (r : List Int) (l p n : Int), ∀ z, z ∈ (cutR k l r p n).E ↔ r = [] ∧ z = l
  | [], l, p, n, z => by simp [cutR]
  | [a], l, p, n, z => by simp [cutR]
  | [a, b], l, p, n, z => by simp [cutR]
  | a :: b :: c :: r, l, p, n, z => by
    rw [cutR_more]
    show z ∈ (cutR k n (b :: c :: r) (p + 1) (n + 1)).E ↔ _
    rw [cutR_emps k (b :: c :: r) n (p + 1) (n + 1) z]
    simp
theorem cutR_nodupO (k : Int) : ∀ (r : List Int) (l p n : Int), (cutR k l r p n).O.Nodup
  | [], l, p, n => List.nodup_nil
  | [a], l, p, n => by simp [cutR]
  | [a, b], l, p, n => List.nodup_nil
  | a :: b :: c :: r, l, p, n => cutR_nodupO k (b :: c :: r) n (p + 1) (n + 1)
theorem cutR_nodupE (k : Int) : ∀ (r : List Int) (l p n : Int), (cutR k l r p n).E.Nodup
  | [], l, p, n => by simp [cutR]
  | [a], l, p, n => List.nodup_nil
  | [a, b], l, p, n => List.nodup_nil
  | a :: b :: c :: r, l, p, n => cutR_nodupE k (b :: c :: r) n (p + 1) (n + 1)
theorem cutA_ones : ∀ (rs : List (Int × List Int)) (k n : Int) (z : List Int), z ∈ (cutA rs k n).O ↔ ∃ l a, (l, [a]) ∈ rs ∧ z = [l, a]
  | [], k, n, z => by simp [cutA]
  | r :: rs, k, n, z => by
    rw [cutA_cons, List.mem_append, cutR_ones, cutA_ones rs (k + 1)]
    obtain ⟨l, r⟩ := r
    constructor
    · rintro (⟨a, e, rfl⟩ | ⟨l', a, h, rfl⟩)
      · exact ⟨l, a, by simp at e; simp [e], rfl⟩
      · exact ⟨l', a, by simp [h], rfl⟩
    · rintro ⟨l', a, h, rfl⟩
      rcases List.mem_cons.1 h with e | h
      · simp at e
        exact .inl ⟨a, e.2.symm, by rw [e.1]⟩
      · exact .inr ⟨l', a, h, rfl⟩
theorem cutA_emps : ∀ (rs : List (Int × List Int)) (k n z : Int), z ∈ (cutA rs k n).E ↔ (z, []) ∈ rs
  | [], k, n, z => by simp [cutA]
  | r :: rs, k, n, z => by
    rw [cutA_cons, List.mem_append, cutR_emps, cutA_emps rs (k + 1)]
    obtain ⟨l, r⟩ := r
    constructor
    · rintro (⟨e, rfl⟩ | h)
      · simp at e; simp [e]
      · simp [h]
    · intro h
      rcases List.mem_cons.1 h with e | h
      · simp at e
        exact .inl ⟨e.2, e.1⟩
      · exact .inr h
theorem cutA_nodupO : ∀ (rs : List (Int × List Int)) (k n : Int), rs.Nodup → (cutA rs k n).O.Nodup
  | [], k, n, _ => List.nodup_nil
  | r :: rs, k, n, hd => by
    rw [cutA_cons]
    obtain ⟨hd1, hd2⟩ := List.nodup_cons.1 hd
    refine List.nodup_append.2 ⟨cutR_nodupO k r.2 r.1 1 n, cutA_nodupO rs (k + 1) _ hd2, fun z hz z' hz' e => ?_⟩
    subst e
    obtain ⟨a, e1, rfl⟩ := (cutR_ones k r.2 r.1 1 n z).1 hz
    obtain ⟨l, a', h, e2⟩ := (cutA_ones rs (k + 1) _ _).1 hz'
    simp at e2
    refine hd1 ?_
    have : r = (l, [a']) := Prod.ext e2.1 (by rw [e1, e2.2])
    rw [this]; exact h
theorem cutA_nodupE : ∀ (rs : List (Int × List Int)) (k n : Int), rs.Nodup → (cutA rs k n).E.Nodup
  | [], k, n, _ => List.nodup_nil
  | r :: rs, k, n, hd => by
    rw [cutA_cons]
    obtain ⟨hd1, hd2⟩ := List.nodup_cons.1 hd
    refine List.nodup_append.2 ⟨cutR_nodupE k r.2 r.1 1 n, cutA_nodupE rs (k + 1) _ hd2, fun z hz z' hz' e => ?_⟩
    subst e
    obtain ⟨e1, rfl⟩ := (cutR_emps k r.2 r.1 1 n z).1 hz
    have h := (cutA_emps rs (k + 1) _ _).1 hz'
    refine hd1 ?_
    have : r = (r.1, []) := Prod.ext rfl e1
    rw [this]; exact h

end Go.Proofs.YtaobkanliiiapaaDoor

/- The reference's l1Has and l1Put at lists of up to a thousand numbers. -/

namespace Go.Proofs.YtaobkanliiiapaaDoor
open Go.RowKit

set_option maxRecDepth 20000 in
set_option maxHeartbeats 400000 in
theorem l1HasW_any (A : Option Addr) (xs : List Int) (c : Nat) (n : Int) (w : World) (hx : Ints w w.heap.size A xs) (h1 : xs.length ≤ 1000) :
    Calls Tryd.prog 143 #[.slice A xs.length c, .int .i64 n] w fun e w' => e = .returned (.bool (xs.contains n)) ∧ w' = w := by
  have HX := Lib.hid hx; clear hx
  go_enter Tryd.func143, Tryd.ntmps143
  go_wp2
  go_loopw [9] (fun i wr => ∃ (k : Nat), k ≤ xs.length ∧ i = .int .i64 k ∧ wr = w ∧ Hid (∀ (j : Nat) (x : Int), j < k → xs[j]? = some x → x ≠ n)) (fun i _ => xs.length - (intOf i).toNat)
  case atStart => exact ⟨0, by omega, rfl, rfl, fun j x h => absurd h (by omega)⟩
  case round =>
    obtain ⟨k, hk, rfl, rfl, H⟩ := hrel
    by_cases hlt : k < xs.length
    · obtain ⟨p, o, rfl, hb, c1⟩ := HX.out.at_ hlt
      by_cases he : xs[k] = n
      · have HE : Hid (xs.contains n = true) := by
          show _ = _
          rw [List.contains_iff_mem]
          exact he ▸ List.getElem_mem hlt
        have ht := beq_t he
        clear he
        go_wp2
        go_ret
        exact ⟨ret_bool HE.out.symm, rfl⟩
      · have HE := Lib.hid (upto_step (Q := fun x => x ≠ n) hlt he H.out)
        have ht := beq_f he
        clear he
        go_wp2
        go_roundw
        case rel => exact ⟨k + 1, by omega, by go_num, by simp, HE.out⟩
        case measure => simp [intOf]; omega
    · have HE : Hid (xs.contains n = false) := by
        show _ = _
        cases h : xs.contains n
        · rfl
        · rw [List.contains_iff_mem] at h
          obtain ⟨j, hj⟩ := List.mem_iff_getElem?.1 h
          exact absurd rfl (H.out j n (by have := (List.getElem?_eq_some_iff.1 hj).1; omega) hj)
      go_wp2
      go_ret
      exact ⟨ret_bool HE.out.symm, rfl⟩

set_option maxRecDepth 20000 in
set_option maxHeartbeats 1000000 in
theorem l1PutW_any (lo : Nat) (v : Value) (xs : List Int) (n : Int) (w : World) (hv : OwnV w lo v xs) (hr : Rises xs) (hn : n ∉ xs) (h1 : xs.length ≤ 1000) :
    Calls Tryd.prog 120 #[v, .int .i64 n] w (PutOne w xs n) := by
  obtain ⟨i0, hi0, hz0, hz1, hz2⟩ := info_of Tryd.infoInt
  rcases hv.2 with ⟨rfl, h0⟩ | ⟨g, c, cur, rfl, hlo, hb, hc, hm, h3, h4⟩
  · have e : xs = [] := List.eq_nil_of_length_eq_zero h0
    subst e
    clear hv hr hn h0 h1
    have HE0 := Lib.hid (own_empty w)
    have HB0 : Hid (Below w.heap.size w (w.alloc (.cells #[] 3))) := (Below.refl w.heap.size w).alloc (Nat.le_refl _) _
    go_enter Tryd.func120, Tryd.ntmps120
    go_wp2
    refine wp_loop_rounds 1 ?_
    rw [rounds_succ]
    have HA1 := Lib.hid (HE0.out.alloc (.cells #[.int .i64 n] 3))
    have hnew := cell_one_new (w.alloc (.cells #[] 3)) (.int .i64 n) 3
    rw [World.size_alloc] at hnew
    have HN2 := Lib.hid hnew; clear hnew
    go_wp2_with (first
      | (at_builtin
         refine append_nil_at rfl (.tmp 34) (.tmp 37) _ rfl w.heap.size 3 i0 1 Tryd.underlying37 hi0 _ _ _ rfl HE0.out 0 rfl ?_)
      | (at_builtin
         refine wpList_append_own _ rfl (.tmp 39) (.tmp 41) _ rfl w.heap.size 3 i0 _ 1 8 Tryd.underlying37 hi0 hz0 hz1 hz2 rfl (by omega) _ _ _ rfl HA1.out ⟨w.heap.size + 1, 0, none⟩ 1 1 [.int .i64 n] rfl rfl HN2.out (by intro u hu; simp at hu; subst hu; rfl) (by unfold maxLen; omega) (by omega) (by simp; omega) ?_
         intro v2 w2 h1 h2 h3
         have HB2 : Hid (Below w.heap.size w w2) := (HB0.out.alloc HB0.out.size _).grown h2 (by simp; omega) fun j hj => (HE0.out.lt j hj).1
         have HO2 := Lib.hid h1
         clear h1 h2 h3)
      | (at_builtin
         refine append_nil_at rfl (.tmp 43) (.tmp 46) _ rfl w.heap.size 3 i0 1 Tryd.underlying37 hi0 _ _ _ rfl HO2.out 0 rfl ?_))
    go_ret
    refine ⟨v2, [n], rfl, by simp [Rises], fun x => by simp, rfl, HO2.out, HB2.out⟩
  obtain ⟨A, c', e', hc', hx⟩ := hv.shape
  injection e' with e1 _ e3
  subst e1 e3
  obtain ⟨p, o, hpo⟩ : ∃ p o, (⟨g, 0, none⟩ : Addr) = ⟨p, o, none⟩ := ⟨_, _, rfl⟩
  rw [hpo] at hx ⊢
  clear hv hlo hb h3 h4 hc' hpo
  unfold maxLen at hm
  have HX := Lib.hid hx; clear hx
  have HR := Lib.hid hr; clear hr
  have HN := Lib.hid hn; clear hn
  go_enter Tryd.func120, Tryd.ntmps120
  go_wp2
  go_loopw [5] (fun i wr => ∃ (k : Nat), k ≤ xs.length ∧ i = .int .i64 k ∧ wr = w ∧ Hid (∀ (j : Nat) (x : Int), j < k → xs[j]? = some x → x < n)) (fun i _ => xs.length - (intOf i).toNat)
  case atStart => exact ⟨0, by omega, rfl, rfl, fun j x h => absurd h (by omega)⟩
  case round =>
    obtain ⟨k, hk, rfl, rfl, H⟩ := hrel
    by_cases hlt : k < xs.length
    · have c1 : wr.cell? ⟨p, o + k, none⟩ = some (.int .i64 xs[k]) := by
        obtain ⟨p', o', e, _, h⟩ := HX.out.at_ hlt
        injection e with e
        injection e with e1 e2
        subst e1 e2
        exact h
      by_cases hl : xs[k] < n
      · have HE := Lib.hid (upto_step (Q := fun x => x < n) hlt hl H.out)
        go_wp2
        go_roundw
        case rel => exact ⟨k + 1, by omega, by go_num, by simp, HE.out⟩
        case measure => simp [intOf]; omega
      · have hne : xs[k] ≠ n := fun e => HN.out (e ▸ List.getElem_mem hlt)
        have hq := beq_f hne
        have HP := Lib.hid (rises_put (k := k) HR.out H.out fun x hx => by
          rw [List.getElem?_eq_getElem hlt] at hx
          injection hx with hx
          omega)
        clear hne
        have HN1 : Hid (∀ (j : Nat) (u : Value), (vals (xs.take k))[j]? = some u → (wr.alloc (.cells #[] 3)).cell? ((⟨p, o, none⟩ : Addr).add j) = some u) := (((HX.out.take k).keep ((Below.refl wr.heap.size wr).alloc (Nat.le_refl _) _))).src2
        have HE0 := Lib.hid (own_empty wr)
        have HD := Lib.hid (HX.out.drop k)
        have hkl : (xs.take k).length = k := by rw [List.length_take]; omega
        have hdl : (xs.drop k).length = xs.length - k := List.length_drop
        have HKL := Lib.hid hkl; clear hkl
        have HDL := Lib.hid hdl; clear hdl
        go_wp2_with (first
          | (at_builtin
             refine wpList_append_own _ rfl (.tmp 34) (.tmp 37) _ rfl wr.heap.size 3 i0 _ 1 8 Tryd.underlying37 hi0 hz0 hz1 hz2 rfl (by omega) _ _ _ rfl HE0.out ⟨p, o, none⟩ k c (vals (xs.take k)) rfl (by rw [vals_length, HKL.out]; omega) HN1.out (vals_one _) (by unfold maxLen; omega) (by omega) (by simp) ?_
             intro v1 w1 h1 h2 h3
             have HO1 := Lib.hid h1
             have HB1 : Hid (Below wr.heap.size wr w1) := (((Below.refl wr.heap.size wr).alloc (Nat.le_refl _) _)).grown h2 (by simp) fun j hj => (HE0.out.lt j hj).1
             have hs1 : wr.heap.size ≤ w1.heap.size := HB1.out.size
             have HA1 := Lib.hid (h1.alloc (.cells #[.int .i64 n] 3))
             have HN2 := Lib.hid (cell_one_new w1 (.int .i64 n) 3)
             clear h1 h2 h3)
          | (at_builtin
             refine wpList_append_own _ rfl (.tmp 39) (.tmp 41) _ rfl wr.heap.size 3 i0 _ 1 8 Tryd.underlying37 hi0 hz0 hz1 hz2 rfl (by omega) _ _ _ rfl HA1.out ⟨w1.heap.size, 0, none⟩ 1 1 [.int .i64 n] rfl rfl HN2.out (by intro u hu; simp at hu; subst hu; rfl) (by unfold maxLen; omega) (by omega) (by simp; omega) ?_
             intro v2 w2 h1 h2 h3
             have HB2 : Hid (Below wr.heap.size wr w2) := (HB1.out.alloc HB1.out.size _).grown h2 (by simp; omega) fun j hj => (HO1.out.lt j hj).1
             have HO2 := Lib.hid h1
             have hs2 : wr.heap.size ≤ w2.heap.size := HB2.out.size
             have HN3 : Hid (∀ (j : Nat) (u : Value), (vals (xs.drop k))[j]? = some u → w2.cell? ((⟨p, o + k, none⟩ : Addr).add j) = some u) := (HD.out.keep HB2.out).src2
             clear h1 h2 h3)
          | (at_builtin
             refine wpList_append_own _ rfl (.tmp 43) (.tmp 46) _ rfl wr.heap.size 3 i0 _ 1 8 Tryd.underlying37 hi0 hz0 hz1 hz2 rfl (by omega) _ _ _ rfl HO2.out ⟨p, o + k, none⟩ (xs.length - k) (c - k) (vals (xs.drop k)) rfl (by rw [vals_length, HDL.out]; omega) HN3.out (vals_one _) (by unfold maxLen; omega) (by omega) hs2 ?_
             intro v3 w3 h1 h2 h3
             have HB3 : Hid (Below wr.heap.size wr w3) := HB2.out.grown h2 (by omega) fun j hj => (HO2.out.lt j hj).1
             have HO3 := Lib.hid h1
             clear h1 h2 h3))
        go_ret
        refine ⟨v3, xs.take k ++ [n] ++ xs.drop k, rfl, HP.out.1, HP.out.2, by simp; omega, ?_, HB3.out⟩
        show World.ownsRow _ _ _ _ _ _ _
        have e1 : (xs.take k ++ [n] ++ xs.drop k).length = 0 + k + 1 + (xs.length - k) := by simp; omega
        have e2 : vals (xs.take k ++ [n] ++ xs.drop k) = [] ++ vals (xs.take k) ++ [.int .i64 n] ++ vals (xs.drop k) := by simp [vals]
        rw [e1, e2]
        exact HO3.out
    · obtain rfl : k = xs.length := by omega
      have HP := Lib.hid (rises_put (k := xs.length) HR.out H.out fun x hx => by simp at hx)
      have HN1 : Hid (∀ (j : Nat) (u : Value), (vals xs)[j]? = some u → (wr.alloc (.cells #[] 3)).cell? ((⟨p, o, none⟩ : Addr).add j) = some u) := ((HX.out.keep ((Below.refl wr.heap.size wr).alloc (Nat.le_refl _) _))).src2
      have HE0 := Lib.hid (own_empty wr)
      by_cases hcx : c = xs.length
      · subst hcx
        go_wp2_with (first
          | (at_builtin
             refine wpList_append_own _ rfl (.tmp 34) (.tmp 37) _ rfl wr.heap.size 3 i0 _ 1 8 Tryd.underlying37 hi0 hz0 hz1 hz2 rfl (by omega) _ _ _ rfl HE0.out ⟨p, o, none⟩ xs.length xs.length (vals xs) rfl (by rw [vals_length]; omega) HN1.out (vals_one _) (by unfold maxLen; omega) (by omega) (by simp) ?_
             intro v1 w1 h1 h2 h3
             have HO1 := Lib.hid h1
             have HB1 : Hid (Below wr.heap.size wr w1) := (((Below.refl wr.heap.size wr).alloc (Nat.le_refl _) _)).grown h2 (by simp) fun j hj => (HE0.out.lt j hj).1
             have hs1 : wr.heap.size ≤ w1.heap.size := HB1.out.size
             have HA1 := Lib.hid (h1.alloc (.cells #[.int .i64 n] 3))
             have HN2 := Lib.hid (cell_one_new w1 (.int .i64 n) 3)
             clear h1 h2 h3)
          | (at_builtin
             refine wpList_append_own _ rfl (.tmp 39) (.tmp 41) _ rfl wr.heap.size 3 i0 _ 1 8 Tryd.underlying37 hi0 hz0 hz1 hz2 rfl (by omega) _ _ _ rfl HA1.out ⟨w1.heap.size, 0, none⟩ 1 1 [.int .i64 n] rfl rfl HN2.out (by intro u hu; simp at hu; subst hu; rfl) (by unfold maxLen; omega) (by omega) (by simp; omega) ?_
             intro v2 w2 h1 h2 h3
             have HB2 : Hid (Below wr.heap.size wr w2) := (HB1.out.alloc HB1.out.size _).grown h2 (by simp; omega) fun j hj => (HO1.out.lt j hj).1
             have HO2 := Lib.hid h1
             have hs2 : wr.heap.size ≤ w2.heap.size := HB2.out.size
             clear h1 h2 h3)
          | (at_builtin
             refine wpList_append_own _ rfl (.tmp 43) (.tmp 46) _ rfl wr.heap.size 3 i0 _ 1 8 Tryd.underlying37 hi0 hz0 hz1 hz2 rfl (by omega) _ _ _ rfl HO2.out ⟨p, o, none⟩ 0 0 [] rfl rfl (fun j u h => by simp at h) (by simp) (by unfold maxLen; omega) (by omega) hs2 ?_
             intro v3 w3 h1 h2 h3
             have HB3 : Hid (Below wr.heap.size wr w3) := HB2.out.grown h2 (by omega) fun j hj => (HO2.out.lt j hj).1
             have HO3 := Lib.hid h1
             clear h1 h2 h3))
        go_ret
        refine ⟨v3, xs.take xs.length ++ [n] ++ xs.drop xs.length, rfl, HP.out.1, HP.out.2, by simp, ?_, HB3.out⟩
        show World.ownsRow _ _ _ _ _ _ _
        have e1 : (xs.take xs.length ++ [n] ++ xs.drop xs.length).length = 0 + xs.length + 1 + 0 := by simp
        have e2 : vals (xs.take xs.length ++ [n] ++ xs.drop xs.length) = [] ++ vals xs ++ [.int .i64 n] ++ [] := by simp [vals]
        rw [e1, e2]
        exact HO3.out

      · have hcp : ¬ c - xs.length = 0 := by omega
        go_wp2_with (first
          | (at_builtin
             refine wpList_append_own _ rfl (.tmp 34) (.tmp 37) _ rfl wr.heap.size 3 i0 _ 1 8 Tryd.underlying37 hi0 hz0 hz1 hz2 rfl (by omega) _ _ _ rfl HE0.out ⟨p, o, none⟩ xs.length c (vals xs) rfl (by rw [vals_length]; omega) HN1.out (vals_one _) (by unfold maxLen; omega) (by omega) (by simp) ?_
             intro v1 w1 h1 h2 h3
             have HO1 := Lib.hid h1
             have HB1 : Hid (Below wr.heap.size wr w1) := (((Below.refl wr.heap.size wr).alloc (Nat.le_refl _) _)).grown h2 (by simp) fun j hj => (HE0.out.lt j hj).1
             have hs1 : wr.heap.size ≤ w1.heap.size := HB1.out.size
             have HA1 := Lib.hid (h1.alloc (.cells #[.int .i64 n] 3))
             have HN2 := Lib.hid (cell_one_new w1 (.int .i64 n) 3)
             clear h1 h2 h3)
          | (at_builtin
             refine wpList_append_own _ rfl (.tmp 39) (.tmp 41) _ rfl wr.heap.size 3 i0 _ 1 8 Tryd.underlying37 hi0 hz0 hz1 hz2 rfl (by omega) _ _ _ rfl HA1.out ⟨w1.heap.size, 0, none⟩ 1 1 [.int .i64 n] rfl rfl HN2.out (by intro u hu; simp at hu; subst hu; rfl) (by unfold maxLen; omega) (by omega) (by simp; omega) ?_
             intro v2 w2 h1 h2 h3
             have HB2 : Hid (Below wr.heap.size wr w2) := (HB1.out.alloc HB1.out.size _).grown h2 (by simp; omega) fun j hj => (HO1.out.lt j hj).1
             have HO2 := Lib.hid h1
             have hs2 : wr.heap.size ≤ w2.heap.size := HB2.out.size
             clear h1 h2 h3)
          | (at_builtin
             refine wpList_append_own _ rfl (.tmp 43) (.tmp 46) _ rfl wr.heap.size 3 i0 _ 1 8 Tryd.underlying37 hi0 hz0 hz1 hz2 rfl (by omega) _ _ _ rfl HO2.out ⟨p, o + xs.length, none⟩ 0 (c - xs.length) [] rfl rfl (fun j u h => by simp at h) (by simp) (by unfold maxLen; omega) (by omega) hs2 ?_
             intro v3 w3 h1 h2 h3
             have HB3 : Hid (Below wr.heap.size wr w3) := HB2.out.grown h2 (by omega) fun j hj => (HO2.out.lt j hj).1
             have HO3 := Lib.hid h1
             clear h1 h2 h3))
        go_ret
        refine ⟨v3, xs.take xs.length ++ [n] ++ xs.drop xs.length, rfl, HP.out.1, HP.out.2, by simp, ?_, HB3.out⟩
        show World.ownsRow _ _ _ _ _ _ _
        have e1 : (xs.take xs.length ++ [n] ++ xs.drop xs.length).length = 0 + xs.length + 1 + 0 := by simp
        have e2 : vals (xs.take xs.length ++ [n] ++ xs.drop xs.length) = [] ++ vals xs ++ [.int .i64 n] ++ [] := by simp [vals]
        rw [e1, e2]
        exact HO3.out

end Go.Proofs.YtaobkanliiiapaaDoor

/- The reference's binary grammar in the making: its slices apart, what they hold. -/

namespace Go.Proofs.YtaobkanliiiapaaDoor
open Go.RowKit

theorem LsR.lists {w : World} {lo : Nat} {v : Value} {ds : List Li} (h : LsR w lo v ds) : ListsW w lo v ds := by
  refine ⟨h.row, fun j u hu => h.caps u (List.mem_of_getElem? hu), fun j u hu => h.own u (List.mem_of_getElem? hu), fun i j u v hu hv hij => ?_⟩
  obtain ⟨hi, eu⟩ := List.getElem?_eq_some_iff.1 hu
  obtain ⟨hj, ev⟩ := List.getElem?_eq_some_iff.1 hv
  subst eu ev
  rcases Nat.lt_or_gt_of_ne hij with h1 | h1
  · exact List.pairwise_iff_getElem.1 h.far i j hi hj h1
  · exact fun a b e => List.pairwise_iff_getElem.1 h.far j i hj hi h1 b a e.symm
theorem ListsW.lsR {w : World} {lo : Nat} {v : Value} {ds : List Li} (h : ListsW w lo v ds) : LsR w lo v ds := by
  refine ⟨h.row, fun u hu => ?_, fun u hu => ?_, List.pairwise_iff_getElem.2 fun i j hi hj hij => ?_⟩
  · obtain ⟨j, hj⟩ := List.mem_iff_getElem?.1 hu
    exact h.caps j u hj
  · obtain ⟨j, hj⟩ := List.mem_iff_getElem?.1 hu
    exact h.rts j u hj
  · exact h.far i j _ _ (List.getElem?_eq_getElem hi) (List.getElem?_eq_getElem hj) (by omega)

/-- Three slices of lists and one of numbers, all of them the call's own; the rows of the lists apart. -/
structure BinR (w : World) (lo : Nat) (vp : Value) (ps : List Li) (vo : Value) (os : List Li) (ve : Value) (es : List Int) (vf : Value) (fs : List Li) : Prop where
  tri : Tri w lo vp ps vo os vf fs
  e : OwnV w lo ve es
theorem BinR.start (w : World) (lo : Nat) : BinR w lo (.slice none 0 0) [] (.slice none 0 0) [] (.slice none 0 0) [] (.slice none 0 0) [] :=
  ⟨⟨ListsW.start _ _, ListsW.start _ _, ListsW.start _ _, Sep.nil _, Sep.nil _, Sep.nil _⟩, OwnV.nil _ _⟩
theorem BinR.keep {w w' : World} {lo : Nat} {vp vo ve vf : Value} {ps os fs : List Li} {es : List Int} (h : BinR w lo vp ps vo os ve es vf fs) (hb : Below w.heap.size w w') : BinR w' lo vp ps vo os ve es vf fs := ⟨h.tri.keep hb, h.e.keep hb⟩
theorem BinR.lowCell {w : World} {lo : Nat} {vp vo ve vf : Value} {ps os fs : List Li} {es : List Int} (h : BinR w lo vp ps vo os ve es vf fs) {p : Addr} (hp : p.block < lo) (u : Value) : BinR (w.setCell p u) lo vp ps vo os ve es vf fs :=
  ⟨⟨h.tri.la.low hp u, h.tri.lb.low hp u, h.tri.lc.low hp u, h.tri.ab, h.tri.ac, h.tri.bc⟩, ownsRow_setCell_below h.e hp u⟩
theorem BinR.swapPO {w : World} {lo : Nat} {vp vo ve vf : Value} {ps os fs : List Li} {es : List Int} (h : BinR w lo vp ps vo os ve es vf fs) : BinR w lo vo os vp ps ve es vf fs := ⟨h.tri.rot, h.e⟩
/-- The first slice is another one. -/
theorem BinR.ins {w w' : World} {lo : Nat} {vp vo ve vf v : Value} {ps os fs ds : List Li} {es : List Int} (h : BinR w lo vp ps vo os ve es vf fs) (hb : Below w.heap.size w w') (hl : LsR w' lo v ds) (hv : v = vp ∨ ∀ b, v.ownBlock = some b → w.heap.size ≤ b) : BinR w' lo v ds vo os ve es vf fs := by
  have h2 := h.keep hb
  have sep : ∀ {u : Value} {xs : List Li}, ListsW w lo u xs → Sep vp u → Sep v u := by
    intro u xs hu hs b e e'
    rcases hv with rfl | hv
    · exact hs b e e'
    · have := hv b e; have := (hu.lt b e').2; omega
  exact ⟨⟨hl.lists, h2.tri.lb, h2.tri.lc, sep h.tri.lb h.tri.ab, sep h.tri.lc h.tri.ac, h.tri.bc⟩, h2.e⟩
/-- A list made just now is appended to the last slice. -/
theorem BinR.push {w w1 w2 : World} {lo g k cap : Nat} {vp vo ve vf : Value} {ps os fs : List Li} {es : List Int} {A : Option Addr} {xs : List Int} {cx : Nat} {o : Obj} (h : BinR w lo vp ps vo os ve es vf fs) (hb : Below w.heap.size w w1) (hlo : lo ≤ w.heap.size) (hO : OwnI w1 w.heap.size A xs) (hcap : xs.length ≤ cx)
    (ho : w2.ownsRow lo 37 1 (.slice (some ⟨g, 0, none⟩) k cap) (fs.length + 1) (fs.map cellsL ++ [.slice A xs.length cx])) (hg : (w1.alloc o).grownBy w2 vf.ownBlock) (hl : vf.ownBlock = some g ∨ g = (w1.alloc o).heap.size) :
    BinR w2 lo vp ps vo os ve es (.slice (some ⟨g, 0, none⟩) k cap) (fs ++ [⟨A, xs, cx⟩]) :=
  ⟨(h.tri.swap.push hb hlo hO hcap ho hg hl).swap, own_other ((own_below h.e hb).alloc o) ((own_below h.tri.lc.row hb).alloc o) (by decide) hg⟩

/-- What is there and what is still to be cut off one rule make C. -/
structure MemTo (k : Int) (C : Cut) (l : Int) (r : List Int) (p n : Int) (ps os : List (List Int)) (es : List Int) (fs : List (List Int)) : Prop where
  P : ∀ z, z ∈ ps ∨ z ∈ (cutR k l r p n).P ↔ z ∈ C.P
  O : ∀ z, z ∈ os ∨ z ∈ (cutR k l r p n).O ↔ z ∈ C.O
  E : ∀ z, z ∈ es ∨ z ∈ (cutR k l r p n).E ↔ z ∈ C.E
  F : fs ++ (cutR k l r p n).F = C.F
  n : (cutR k l r p n).n = C.n
  new : r = [] → l ∉ es
  rp : RisesL ps
  ro : RisesL os
  re : Rises es
theorem MemTo.step {k : Int} {C : Cut} {l a b c p n : Int} {r : List Int} {ps os ps' fs fs' : List (List Int)} {es : List Int} (h : MemTo k C l (a :: b :: c :: r) p n ps os es fs) (hr : RisesL ps') (hp : ∀ z, z ∈ ps' ↔ z = [l, a, n] ∨ z ∈ ps) (hf : fs' = fs ++ [[k, p]]) : MemTo k C n (b :: c :: r) (p + 1) (n + 1) ps' os es fs' := by
  refine ⟨fun z => ?_, h.O, h.E, ?_, h.n, fun e => (by cases e), hr, h.ro, h.re⟩
  · rw [← h.P, cutR_more, hp]
    simp only [List.mem_cons]
    constructor
    · rintro ((h | h) | h)
      · exact .inr (.inl h)
      · exact .inl h
      · exact .inr (.inr h)
    · rintro (h | h | h)
      · exact .inl (.inr h)
      · exact .inl (.inl h)
      · exact .inr h
  · rw [hf, ← h.F, cutR_more]; simp

end Go.Proofs.YtaobkanliiiapaaDoor

/- The contract of slices.Sort at a list of numbers, laid at this program out of the library; no condition but the list's length. -/

namespace Go.Proofs
open Go.Shelf
def Tryd.lays128_ren : Go.Shelf.Ren := ⟨fun | 128 => 169 | n => n, fun | 51 => 190 | 3 => 3 | 4 => 4 | 46 => 152 | 5 => 5 | 9 => 9 | n => n, fun | n => n⟩
theorem Tryd.lays128 : Go.Proofs.Lays.n128 Tryd.prog Tryd.lays128_ren := {
  mixed := by kernel_rfl
  f128 := Tryd.func169.trans (congrArg some (by kernel_rfl))
  t3 := Tryd.underlying3
  a3 := Tryd.isAgg3
  z3 := Tryd.sizeOf3
  v3 := Tryd.zeroValue3
  t4 := Tryd.underlying4
  a4 := Tryd.isAgg4
  z4 := Tryd.sizeOf4
  v4 := Tryd.zeroValue4
  t5 := Tryd.underlying5
  a5 := Tryd.isAgg5
  z5 := Tryd.sizeOf5
  v5 := Tryd.zeroValue5
  t9 := Tryd.underlying9
  a9 := Tryd.isAgg9
  z9 := Tryd.sizeOf9
  v9 := Tryd.zeroValue9
  t46 := Tryd.underlying152
  a46 := Tryd.isAgg152
  z46 := Tryd.sizeOf152
  v46 := Tryd.zeroValue152
  t51 := Tryd.underlying190
  a51 := Tryd.isAgg190
  z51 := Tryd.sizeOf190
  v51 := Tryd.zeroValue190 }
/-- bits.Len32: "Len32 returns the minimum number of bits required to represent x; the result is 0 for x == 0.": IT RETURNS 'Lib.bitLen x'; the world is as it was. ('h0', 'h1': x is a uint32.) (LAID: no walk: one application.) -/
theorem Tryd.bits_Len32 (x : Int) (w : World) (h0 : 0 ≤ x) (h1 : x ≤ 4294967295) :
    Calls Tryd.prog 169 #[.int .u32 x] w fun e w' => e = .returned (.int .i64 (Lib.bitLen x.toNat)) ∧ w' = w := Any.bits_Len32 Tryd.lays128 x w h0 h1
def Tryd.lays125_ren : Go.Shelf.Ren := ⟨fun | 125 => 127 | 128 => 169 | 129 => 170 | n => n, fun | 46 => 152 | 3 => 3 | 51 => 190 | 53 => 83 | 4 => 4 | 5 => 5 | 9 => 9 | n => n, fun | n => n⟩
theorem Tryd.lays125 : Go.Proofs.Lays.n125 Tryd.prog Tryd.lays125_ren := {
  mixed := by kernel_rfl
  f125 := Tryd.func127.trans (congrArg some (by kernel_rfl))
  f128 := Tryd.func169.trans (congrArg some (by kernel_rfl))
  f129 := Tryd.func170.trans (congrArg some (by kernel_rfl))
  t3 := Tryd.underlying3
  a3 := Tryd.isAgg3
  z3 := Tryd.sizeOf3
  v3 := Tryd.zeroValue3
  t4 := Tryd.underlying4
  a4 := Tryd.isAgg4
  z4 := Tryd.sizeOf4
  v4 := Tryd.zeroValue4
  t5 := Tryd.underlying5
  a5 := Tryd.isAgg5
  z5 := Tryd.sizeOf5
  v5 := Tryd.zeroValue5
  t9 := Tryd.underlying9
  a9 := Tryd.isAgg9
  z9 := Tryd.sizeOf9
  v9 := Tryd.zeroValue9
  t46 := Tryd.underlying152
  a46 := Tryd.isAgg152
  z46 := Tryd.sizeOf152
  v46 := Tryd.zeroValue152
  t51 := Tryd.underlying190
  a51 := Tryd.isAgg190
  z51 := Tryd.sizeOf190
  v51 := Tryd.zeroValue190
  t53 := Tryd.underlying83
  a53 := Tryd.isAgg83
  z53 := Tryd.sizeOf83
  v53 := Tryd.zeroValue83 }
/-- bits.Len: "Len returns the minimum number of bits required to represent x; the result is 0 for x == 0.": IT RETURNS 'Lib.bitLen x'; the world is as it was. (A uint has 64 bits in the model.) ITS CALLEE bits.Len64 IS MET BY ITS OWN CONTRACT OFF THE SHELF (lay that first). (LAID: no walk: one application.) -/
theorem Tryd.bits_Len (x : Int) (w : World) (h0 : 0 ≤ x) (h1 : x ≤ 18446744073709551615) :
    Calls Tryd.prog 127 #[.int .u64 x] w fun e w' => e = .returned (.int .i64 (Lib.bitLen x.toNat)) ∧ w' = w := Any.bits_Len Tryd.lays125 x w h0 h1
def Tryd.lays129_ren : Go.Shelf.Ren := ⟨fun | 129 => 170 | n => n, fun | 53 => 83 | 3 => 3 | 4 => 4 | 46 => 152 | 5 => 5 | 9 => 9 | n => n, fun | n => n⟩
theorem Tryd.lays129 : Go.Proofs.Lays.n129 Tryd.prog Tryd.lays129_ren := {
  mixed := by kernel_rfl
  f129 := Tryd.func170.trans (congrArg some (by kernel_rfl))
  t3 := Tryd.underlying3
  a3 := Tryd.isAgg3
  z3 := Tryd.sizeOf3
  v3 := Tryd.zeroValue3
  t4 := Tryd.underlying4
  a4 := Tryd.isAgg4
  z4 := Tryd.sizeOf4
  v4 := Tryd.zeroValue4
  t5 := Tryd.underlying5
  a5 := Tryd.isAgg5
  z5 := Tryd.sizeOf5
  v5 := Tryd.zeroValue5
  t9 := Tryd.underlying9
  a9 := Tryd.isAgg9
  z9 := Tryd.sizeOf9
  v9 := Tryd.zeroValue9
  t46 := Tryd.underlying152
  a46 := Tryd.isAgg152
  z46 := Tryd.sizeOf152
  v46 := Tryd.zeroValue152
  t53 := Tryd.underlying83
  a53 := Tryd.isAgg83
  z53 := Tryd.sizeOf83
  v53 := Tryd.zeroValue83 }
/-- bits.Len64: "Len64 returns the minimum number of bits required to represent x; the result is 0 for x == 0.": IT RETURNS 'Lib.bitLen x'; the world is as it was. ('h0', 'h1': x is a uint64.) (LAID: no walk: one application.) -/
theorem Tryd.bits_Len64 (x : Int) (w : World) (h0 : 0 ≤ x) (h1 : x ≤ 18446744073709551615) :
    Calls Tryd.prog 170 #[.int .u64 x] w fun e w' => e = .returned (.int .i64 (Lib.bitLen x.toNat)) ∧ w' = w := Any.bits_Len64 Tryd.lays129 x w h0 h1
def Tryd.lays189_ren : Go.Shelf.Ren := ⟨fun | 189 => 85 | 125 => 127 | 257 => 129 | 128 => 169 | 129 => 170 | 294 => 172 | 295 => 173 | 296 => 174 | 297 => 175 | 298 => 176 | 299 => 177 | 216 => 178 | 300 => 179 | 301 => 180 | 328 => 199 | 329 => 195 | 330 => 196 | 331 => 200 | 332 => 201 | 215 => 171 | 343 => 205 | n => n, fun | 28 => 37 | 3 => 3 | 46 => 152 | 0 => 0 | 51 => 190 | 53 => 83 | 4 => 4 | 183 => 184 | 182 => 183 | 131 => 31 | 5 => 5 | 9 => 9 | 218 => 209 | 222 => 213 | 228 => 223 | 229 => 224 | n => n, fun | n => n⟩
theorem Tryd.lays189 : Go.Proofs.Lays.n189 Tryd.prog Tryd.lays189_ren := {
  mixed := by kernel_rfl
  f125 := Tryd.func127.trans (congrArg some (by kernel_rfl))
  f128 := Tryd.func169.trans (congrArg some (by kernel_rfl))
  f129 := Tryd.func170.trans (congrArg some (by kernel_rfl))
  f189 := Tryd.func85.trans (congrArg some (by kernel_rfl))
  f215 := Tryd.func171.trans (congrArg some (by kernel_rfl))
  f216 := Tryd.func178.trans (congrArg some (by kernel_rfl))
  f257 := Tryd.func129.trans (congrArg some (by kernel_rfl))
  f294 := Tryd.func172.trans (congrArg some (by kernel_rfl))
  f295 := Tryd.func173.trans (congrArg some (by kernel_rfl))
  f296 := Tryd.func174.trans (congrArg some (by kernel_rfl))
  f297 := Tryd.func175.trans (congrArg some (by kernel_rfl))
  f298 := Tryd.func176.trans (congrArg some (by kernel_rfl))
  f299 := Tryd.func177.trans (congrArg some (by kernel_rfl))
  f300 := Tryd.func179.trans (congrArg some (by kernel_rfl))
  f301 := Tryd.func180.trans (congrArg some (by kernel_rfl))
  f328 := Tryd.func199.trans (congrArg some (by kernel_rfl))
  f329 := Tryd.func195.trans (congrArg some (by kernel_rfl))
  f330 := Tryd.func196.trans (congrArg some (by kernel_rfl))
  f331 := Tryd.func200.trans (congrArg some (by kernel_rfl))
  f332 := Tryd.func201.trans (congrArg some (by kernel_rfl))
  f343 := Tryd.func205.trans (congrArg some (by kernel_rfl))
  t0 := Tryd.underlying0
  a0 := Tryd.isAgg0
  z0 := Tryd.sizeOf0
  v0 := Tryd.zeroValue0
  t3 := Tryd.underlying3
  a3 := Tryd.isAgg3
  z3 := Tryd.sizeOf3
  v3 := Tryd.zeroValue3
  t4 := Tryd.underlying4
  a4 := Tryd.isAgg4
  z4 := Tryd.sizeOf4
  v4 := Tryd.zeroValue4
  t5 := Tryd.underlying5
  a5 := Tryd.isAgg5
  z5 := Tryd.sizeOf5
  v5 := Tryd.zeroValue5
  t9 := Tryd.underlying9
  a9 := Tryd.isAgg9
  z9 := Tryd.sizeOf9
  v9 := Tryd.zeroValue9
  t28 := Tryd.underlying37
  a28 := Tryd.isAgg37
  z28 := Tryd.sizeOf37
  v28 := Tryd.zeroValue37
  t46 := Tryd.underlying152
  a46 := Tryd.isAgg152
  z46 := Tryd.sizeOf152
  v46 := Tryd.zeroValue152
  t51 := Tryd.underlying190
  a51 := Tryd.isAgg190
  z51 := Tryd.sizeOf190
  v51 := Tryd.zeroValue190
  t53 := Tryd.underlying83
  a53 := Tryd.isAgg83
  z53 := Tryd.sizeOf83
  v53 := Tryd.zeroValue83
  t131 := Tryd.underlying31
  a131 := Tryd.isAgg31
  z131 := Tryd.sizeOf31
  v131 := Tryd.zeroValue31
  t182 := Tryd.underlying183
  a182 := Tryd.isAgg183
  z182 := Tryd.sizeOf183
  v182 := Tryd.zeroValue183
  t183 := Tryd.underlying184
  a183 := Tryd.isAgg184
  z183 := Tryd.sizeOf184
  v183 := Tryd.zeroValue184
  t218 := Tryd.underlying209
  a218 := Tryd.isAgg209
  z218 := Tryd.sizeOf209
  v218 := Tryd.zeroValue209
  t222 := Tryd.underlying213
  a222 := Tryd.isAgg213
  z222 := Tryd.sizeOf213
  v222 := Tryd.zeroValue213
  t228 := Tryd.underlying223
  a228 := Tryd.isAgg223
  z228 := Tryd.sizeOf223
  v228 := Tryd.zeroValue223
  t229 := Tryd.underlying224
  a229 := Tryd.isAgg224
  z229 := Tryd.sizeOf224
  v229 := Tryd.zeroValue224 }
open Go.Sort Go.RowKit in
theorem Tryd.slices_Sort_int (blk off cap : Nat) (zs : List Int) (w : World) (hH : Holds (Value.int .i64) w blk off zs.toArray) (hblk : blk < w.heap.size) (hsz : zs.length < 4611686018427387904) :
    Calls Tryd.prog 85 #[.slice (some ⟨blk, off, none⟩) zs.length cap] w fun e w' =>
      e = .returned (.tuple #[]) ∧ ∃ n os, w' = grow (putRow (Value.int .i64) (Sort.ahead w n) blk off (zs.mergeSort fun x y => decide (x ≤ y)).toArray) os := Any.slices_Sort_int Tryd.lays189 blk off cap zs w hH hblk hsz
def Tryd.laysSlF20_f161_ren : Go.Shelf.Ren := ⟨fun | 20 => 161 | n => n, fun | 24 => 37 | 22 => 25 | 3 => 3 | 25 => 110 | 4 => 4 | 0 => 0 | n => n, fun | n => n⟩
theorem Tryd.laysSlF20_f161 : Go.Proofs.SlLaysF.n20 Tryd.prog Tryd.laysSlF20_f161_ren := {
  mixed := by kernel_rfl
  f20 := ⟨Tryd.f161.name, by decide, Tryd.func161.trans (congrArg some (by kernel_rfl))⟩
  t0 := Tryd.underlying0
  a0 := Tryd.isAgg0
  z0 := Tryd.sizeOf0
  v0 := Tryd.zeroValue0
  t3 := Tryd.underlying3
  a3 := Tryd.isAgg3
  z3 := Tryd.sizeOf3
  v3 := Tryd.zeroValue3
  t4 := Tryd.underlying4
  a4 := Tryd.isAgg4
  z4 := Tryd.sizeOf4
  v4 := Tryd.zeroValue4
  t22 := Tryd.underlying25
  a22 := Tryd.isAgg25
  z22 := Tryd.sizeOf25
  v22 := Tryd.zeroValue25
  a24 := Tryd.isAgg37
  z24 := Tryd.sizeOf37
  t25 := Tryd.underlying110
  a25 := Tryd.isAgg110
  z25 := Tryd.sizeOf110
  v25 := Tryd.zeroValue110 }
open Go.RowKit Go.Lib Go.Sort in
theorem Tryd.insertionSortCmpFunc_one {α : Type} [Inhabited α] (enc : α → Value) (hO : OneCell enc) (cf : α → α → Int) (g : Nat) (cb : Array Value) (blk off cap a b : Nat) (d : Array α) (w : World) (eg : ∀ args w, (callFunc g args).run Tryd.prog w = .ok (.enter g args) w) (hcmp : CmpReads Tryd.prog g cb enc cf blk off d.size w) (hH : Holds enc w blk off d) (hab : a ≤ b) (hb : b ≤ d.size) (hsz : d.size < 4611686018427387904) :
    Calls Tryd.prog 161 #[.slice (some ⟨blk, off, none⟩) d.size cap, .int .i64 a, .int .i64 b, .func (.func g) #[] cb] w fun e w' =>
      e = .returned (.tuple #[]) ∧ ∃ n, w' = (putRow enc w blk off (Sort.insertionSort (ltOf cf) d a b)).drewN n := Any.insertionSortCmpFunc_one Tryd.laysSlF20_f161 enc hO cf g cb blk off cap a b d w eg hcmp hH hab hb hsz
def Tryd.laysSlF46_f194_ren : Go.Shelf.Ren := ⟨fun | 46 => 194 | n => n, fun | 24 => 37 | 22 => 25 | 3 => 3 | 25 => 110 | 4 => 4 | 0 => 0 | n => n, fun | n => n⟩
theorem Tryd.laysSlF46_f194 : Go.Proofs.SlLaysF.n46 Tryd.prog Tryd.laysSlF46_f194_ren := {
  mixed := by kernel_rfl
  f46 := ⟨Tryd.f194.name, by decide, Tryd.func194.trans (congrArg some (by kernel_rfl))⟩
  t0 := Tryd.underlying0
  a0 := Tryd.isAgg0
  z0 := Tryd.sizeOf0
  v0 := Tryd.zeroValue0
  t3 := Tryd.underlying3
  a3 := Tryd.isAgg3
  z3 := Tryd.sizeOf3
  v3 := Tryd.zeroValue3
  t4 := Tryd.underlying4
  a4 := Tryd.isAgg4
  z4 := Tryd.sizeOf4
  v4 := Tryd.zeroValue4
  t22 := Tryd.underlying25
  a22 := Tryd.isAgg25
  z22 := Tryd.sizeOf25
  v22 := Tryd.zeroValue25
  a24 := Tryd.isAgg37
  z24 := Tryd.sizeOf37
  t25 := Tryd.underlying110
  a25 := Tryd.isAgg110
  z25 := Tryd.sizeOf110
  v25 := Tryd.zeroValue110 }
open Go.RowKit Go.Lib Go.Sort in
/-- slices.siftDownCmpFunc at elements of one cell: from a world of the sort's to a world of the sort's. (LAID AT THE INSTANCE 'slices.siftDownCmpFunc[[]int]': no walk: one application.) -/
theorem Tryd.siftDownCmpFunc {α : Type} [Inhabited α] (enc : α → Value) (cf : α → α → Int) (g : Nat) (cb : Array Value) (blk off cap lo hi first : Nat) (d0 d : Array α) (w0 w : World) (eg : ∀ args w, (callFunc g args).run Tryd.prog w = .ok (.enter g args) w) (hcmp : CmpLays1 Tryd.prog g cb enc cf blk off d0.size w0) (R : Row1 enc w0 blk off d0) (hs : d0.size = d.size) (S : SW enc w0 blk off d w) (hlo : lo ≤ hi) (hb : first + hi ≤ d.size) (hsz : d.size < 4611686018427387904) :
    Calls Tryd.prog 194 #[.slice (some ⟨blk, off, none⟩) d.size cap, .int .i64 lo, .int .i64 hi, .int .i64 first, .func (.func g) #[] cb] w fun e w' =>
      e = .returned (.tuple #[]) ∧ SW enc w0 blk off (siftDown (ltOf cf) hi first lo d) w' := Any.siftDownCmpFunc Tryd.laysSlF46_f194 enc cf g cb blk off cap lo hi first d0 d w0 w eg hcmp R hs S hlo hb hsz
def Tryd.laysSlF21_f162_ren : Go.Shelf.Ren := ⟨fun | 21 => 162 | 46 => 194 | n => n, fun | 24 => 37 | 22 => 25 | 3 => 3 | 25 => 110 | 4 => 4 | 0 => 0 | n => n, fun | n => n⟩
theorem Tryd.laysSlF21_f162 : Go.Proofs.SlLaysF.n21 Tryd.prog Tryd.laysSlF21_f162_ren := {
  mixed := by kernel_rfl
  f21 := ⟨Tryd.f162.name, by decide, Tryd.func162.trans (congrArg some (by kernel_rfl))⟩
  f46 := ⟨Tryd.f194.name, by decide, Tryd.func194.trans (congrArg some (by kernel_rfl))⟩
  t0 := Tryd.underlying0
  a0 := Tryd.isAgg0
  z0 := Tryd.sizeOf0
  v0 := Tryd.zeroValue0
  t3 := Tryd.underlying3
  a3 := Tryd.isAgg3
  z3 := Tryd.sizeOf3
  v3 := Tryd.zeroValue3
  t4 := Tryd.underlying4
  a4 := Tryd.isAgg4
  z4 := Tryd.sizeOf4
  v4 := Tryd.zeroValue4
  t22 := Tryd.underlying25
  a22 := Tryd.isAgg25
  z22 := Tryd.sizeOf25
  v22 := Tryd.zeroValue25
  a24 := Tryd.isAgg37
  z24 := Tryd.sizeOf37
  t25 := Tryd.underlying110
  a25 := Tryd.isAgg110
  z25 := Tryd.sizeOf110
  v25 := Tryd.zeroValue110 }
open Go.RowKit Go.Lib Go.Sort in
/-- slices.heapSortCmpFunc at elements of one cell. (LAID AT THE INSTANCE 'slices.heapSortCmpFunc[[]int]': no walk: one application.) -/
theorem Tryd.heapSortCmpFunc {α : Type} [Inhabited α] (enc : α → Value) (cf : α → α → Int) (g : Nat) (cb : Array Value) (blk off cap a b : Nat) (d0 d : Array α) (w0 w : World) (eg : ∀ args w, (callFunc g args).run Tryd.prog w = .ok (.enter g args) w) (hcmp : CmpLays1 Tryd.prog g cb enc cf blk off d0.size w0) (R : Row1 enc w0 blk off d0) (hs : d0.size = d.size) (S : SW enc w0 blk off d w) (hab : a ≤ b) (hb : b ≤ d.size) (hsz : d.size < 4611686018427387904) :
    Calls Tryd.prog 162 #[.slice (some ⟨blk, off, none⟩) d.size cap, .int .i64 a, .int .i64 b, .func (.func g) #[] cb] w fun e w' =>
      e = .returned (.tuple #[]) ∧ SW enc w0 blk off (heapSort (ltOf cf) d a b) w' := Any.heapSortCmpFunc Tryd.laysSlF21_f162 enc cf g cb blk off cap a b d0 d w0 w eg hcmp R hs S hab hb hsz
open Go.RowKit Go.Lib Go.Sort in
/-- slices.insertionSortCmpFunc at elements of one cell: from a world of the sort's to a world of the sort's. (LAID AT THE INSTANCE 'slices.insertionSortCmpFunc[[]int]': no walk: one application.) -/
theorem Tryd.insertionSortCmpFunc_s {α : Type} [Inhabited α] (enc : α → Value) (cf : α → α → Int) (g : Nat) (cb : Array Value) (blk off cap a b : Nat) (d0 d : Array α) (w0 w : World) (eg : ∀ args w, (callFunc g args).run Tryd.prog w = .ok (.enter g args) w) (hcmp : CmpLays1 Tryd.prog g cb enc cf blk off d0.size w0) (R : Row1 enc w0 blk off d0) (hs : d0.size = d.size) (S : SW enc w0 blk off d w) (hab : a ≤ b) (hb : b ≤ d.size) (hsz : d.size < 4611686018427387904) :
    Calls Tryd.prog 161 #[.slice (some ⟨blk, off, none⟩) d.size cap, .int .i64 a, .int .i64 b, .func (.func g) #[] cb] w fun e w' => e = .returned (.tuple #[]) ∧ SW enc w0 blk off (Sort.insertionSort (ltOf cf) d a b) w' := Any.insertionSortCmpFunc_s Tryd.laysSlF20_f161 enc cf g cb blk off cap a b d0 d w0 w eg hcmp R hs S hab hb hsz
def Tryd.laysSlF57_f204_ren : Go.Shelf.Ren := ⟨fun | 57 => 204 | n => n, fun | 24 => 37 | 22 => 25 | 3 => 3 | 70 => 213 | 25 => 110 | 0 => 0 | 4 => 4 | n => n, fun | n => n⟩
theorem Tryd.laysSlF57_f204 : Go.Proofs.SlLaysF.n57 Tryd.prog Tryd.laysSlF57_f204_ren := {
  mixed := by kernel_rfl
  f57 := ⟨Tryd.f204.name, by decide, Tryd.func204.trans (congrArg some (by kernel_rfl))⟩
  t0 := Tryd.underlying0
  a0 := Tryd.isAgg0
  z0 := Tryd.sizeOf0
  v0 := Tryd.zeroValue0
  t3 := Tryd.underlying3
  a3 := Tryd.isAgg3
  z3 := Tryd.sizeOf3
  v3 := Tryd.zeroValue3
  t4 := Tryd.underlying4
  a4 := Tryd.isAgg4
  z4 := Tryd.sizeOf4
  v4 := Tryd.zeroValue4
  t22 := Tryd.underlying25
  a22 := Tryd.isAgg25
  z22 := Tryd.sizeOf25
  v22 := Tryd.zeroValue25
  a24 := Tryd.isAgg37
  z24 := Tryd.sizeOf37
  t25 := Tryd.underlying110
  a25 := Tryd.isAgg110
  z25 := Tryd.sizeOf110
  v25 := Tryd.zeroValue110
  t70 := Tryd.underlying213
  a70 := Tryd.isAgg213
  z70 := Tryd.sizeOf213
  v70 := Tryd.zeroValue213 }
open Go.RowKit Go.Lib Go.Sort in
/-- slices.order2CmpFunc at elements of one cell. (LAID AT THE INSTANCE 'slices.order2CmpFunc[[]int]': no walk: one application.) -/
theorem Tryd.order2CmpFunc {α : Type} [Inhabited α] (enc : α → Value) (cf : α → α → Int) (g : Nat) (cb : Array Value) (blk off cap a b c s : Nat) (d0 d : Array α) (w0 W : World) (eg : ∀ args w, (callFunc g args).run Tryd.prog w = .ok (.enter g args) w) (hcmp : CmpLays1 Tryd.prog g cb enc cf blk off d0.size w0) (R : Row1 enc w0 blk off d0) (hs : d0.size = d.size) (C : Cnt1 enc w0 blk off d c s W) (ha : a < d.size) (hb : b < d.size) (hsz : d.size < 4611686018427387904) (hss : s < 4611686018427387904) :
    Calls Tryd.prog 204 #[.slice (some ⟨blk, off, none⟩) d.size cap, .int .i64 a, .int .i64 b, .pointer (some ⟨c, 0, none⟩), .func (.func g) #[] cb] W fun e w' =>
      e = .returned (.tuple #[.int .i64 (order2 (ltOf cf) d a b s).1, .int .i64 (order2 (ltOf cf) d a b s).2.1]) ∧ Cnt1 enc w0 blk off d c (order2 (ltOf cf) d a b s).2.2 w' := Any.order2CmpFunc Tryd.laysSlF57_f204 enc cf g cb blk off cap a b c s d0 d w0 W eg hcmp R hs C ha hb hsz hss
def Tryd.laysSlF50_f198_ren : Go.Shelf.Ren := ⟨fun | 50 => 198 | 57 => 204 | n => n, fun | 24 => 37 | 22 => 25 | 3 => 3 | 70 => 213 | 25 => 110 | 77 => 224 | 0 => 0 | 4 => 4 | n => n, fun | n => n⟩
theorem Tryd.laysSlF50_f198 : Go.Proofs.SlLaysF.n50 Tryd.prog Tryd.laysSlF50_f198_ren := {
  mixed := by kernel_rfl
  f50 := ⟨Tryd.f198.name, by decide, Tryd.func198.trans (congrArg some (by kernel_rfl))⟩
  f57 := ⟨Tryd.f204.name, by decide, Tryd.func204.trans (congrArg some (by kernel_rfl))⟩
  t0 := Tryd.underlying0
  a0 := Tryd.isAgg0
  z0 := Tryd.sizeOf0
  v0 := Tryd.zeroValue0
  t3 := Tryd.underlying3
  a3 := Tryd.isAgg3
  z3 := Tryd.sizeOf3
  v3 := Tryd.zeroValue3
  t4 := Tryd.underlying4
  a4 := Tryd.isAgg4
  z4 := Tryd.sizeOf4
  v4 := Tryd.zeroValue4
  t22 := Tryd.underlying25
  a22 := Tryd.isAgg25
  z22 := Tryd.sizeOf25
  v22 := Tryd.zeroValue25
  a24 := Tryd.isAgg37
  z24 := Tryd.sizeOf37
  t25 := Tryd.underlying110
  a25 := Tryd.isAgg110
  z25 := Tryd.sizeOf110
  v25 := Tryd.zeroValue110
  t70 := Tryd.underlying213
  a70 := Tryd.isAgg213
  z70 := Tryd.sizeOf213
  v70 := Tryd.zeroValue213
  t77 := Tryd.underlying224
  a77 := Tryd.isAgg224
  z77 := Tryd.sizeOf224
  v77 := Tryd.zeroValue224 }
open Go.RowKit Go.Lib Go.Sort in
/-- slices.medianCmpFunc at elements of one cell. (LAID AT THE INSTANCE 'slices.medianCmpFunc[[]int]': no walk: one application.) -/
theorem Tryd.medianCmpFunc {α : Type} [Inhabited α] (enc : α → Value) (cf : α → α → Int) (g : Nat) (cb : Array Value) (blk off cap a b c' c s : Nat) (d0 d : Array α) (w0 W : World) (eg : ∀ args w, (callFunc g args).run Tryd.prog w = .ok (.enter g args) w) (hcmp : CmpLays1 Tryd.prog g cb enc cf blk off d0.size w0) (R : Row1 enc w0 blk off d0) (hs : d0.size = d.size) (C : Cnt1 enc w0 blk off d c s W) (ha : a < d.size) (hb : b < d.size) (hc : c' < d.size) (hsz : d.size < 4611686018427387904) (hss : s + 3 < 4611686018427387904) :
    Calls Tryd.prog 198 #[.slice (some ⟨blk, off, none⟩) d.size cap, .int .i64 a, .int .i64 b, .int .i64 c', .pointer (some ⟨c, 0, none⟩), .func (.func g) #[] cb] W fun e w' =>
      e = .returned (.int .i64 (median (ltOf cf) d a b c' s).1) ∧ Cnt1 enc w0 blk off d c (median (ltOf cf) d a b c' s).2 w' := Any.medianCmpFunc Tryd.laysSlF50_f198 enc cf g cb blk off cap a b c' c s d0 d w0 W eg hcmp R hs C ha hb hc hsz hss
def Tryd.laysSlF49_f197_ren : Go.Shelf.Ren := ⟨fun | 49 => 197 | 50 => 198 | 57 => 204 | n => n, fun | 24 => 37 | 22 => 25 | 3 => 3 | 70 => 213 | 25 => 110 | 77 => 224 | 0 => 0 | 4 => 4 | n => n, fun | n => n⟩
theorem Tryd.laysSlF49_f197 : Go.Proofs.SlLaysF.n49 Tryd.prog Tryd.laysSlF49_f197_ren := {
  mixed := by kernel_rfl
  f49 := ⟨Tryd.f197.name, by decide, Tryd.func197.trans (congrArg some (by kernel_rfl))⟩
  f50 := ⟨Tryd.f198.name, by decide, Tryd.func198.trans (congrArg some (by kernel_rfl))⟩
  f57 := ⟨Tryd.f204.name, by decide, Tryd.func204.trans (congrArg some (by kernel_rfl))⟩
  t0 := Tryd.underlying0
  a0 := Tryd.isAgg0
  z0 := Tryd.sizeOf0
  v0 := Tryd.zeroValue0
  t3 := Tryd.underlying3
  a3 := Tryd.isAgg3
  z3 := Tryd.sizeOf3
  v3 := Tryd.zeroValue3
  t4 := Tryd.underlying4
  a4 := Tryd.isAgg4
  z4 := Tryd.sizeOf4
  v4 := Tryd.zeroValue4
  t22 := Tryd.underlying25
  a22 := Tryd.isAgg25
  z22 := Tryd.sizeOf25
  v22 := Tryd.zeroValue25
  a24 := Tryd.isAgg37
  z24 := Tryd.sizeOf37
  t25 := Tryd.underlying110
  a25 := Tryd.isAgg110
  z25 := Tryd.sizeOf110
  v25 := Tryd.zeroValue110
  t70 := Tryd.underlying213
  a70 := Tryd.isAgg213
  z70 := Tryd.sizeOf213
  v70 := Tryd.zeroValue213
  t77 := Tryd.underlying224
  a77 := Tryd.isAgg224
  z77 := Tryd.sizeOf224
  v77 := Tryd.zeroValue224 }
open Go.RowKit Go.Lib Go.Sort in
/-- slices.medianAdjacentCmpFunc at elements of one cell. (LAID AT THE INSTANCE 'slices.medianAdjacentCmpFunc[[]int]': no walk: one application.) -/
theorem Tryd.medianAdjacentCmpFunc {α : Type} [Inhabited α] (enc : α → Value) (cf : α → α → Int) (g : Nat) (cb : Array Value) (blk off cap a c s : Nat) (d0 d : Array α) (w0 W : World) (eg : ∀ args w, (callFunc g args).run Tryd.prog w = .ok (.enter g args) w) (hcmp : CmpLays1 Tryd.prog g cb enc cf blk off d0.size w0) (R : Row1 enc w0 blk off d0) (hs : d0.size = d.size) (C : Cnt1 enc w0 blk off d c s W) (ha1 : 1 ≤ a) (ha2 : a + 1 < d.size) (hsz : d.size < 4611686018427387904) (hss : s + 3 < 4611686018427387904) :
    Calls Tryd.prog 197 #[.slice (some ⟨blk, off, none⟩) d.size cap, .int .i64 a, .pointer (some ⟨c, 0, none⟩), .func (.func g) #[] cb] W fun e w' =>
      e = .returned (.int .i64 (medianAdjacent (ltOf cf) d a s).1) ∧ Cnt1 enc w0 blk off d c (medianAdjacent (ltOf cf) d a s).2 w' := Any.medianAdjacentCmpFunc Tryd.laysSlF49_f197 enc cf g cb blk off cap a c s d0 d w0 W eg hcmp R hs C ha1 ha2 hsz hss
def Tryd.laysSlF23_f164_ren : Go.Shelf.Ren := ⟨fun | 23 => 164 | 49 => 197 | 50 => 198 | 57 => 204 | n => n, fun | 24 => 37 | 22 => 25 | 3 => 3 | 25 => 110 | 45 => 183 | 0 => 0 | 4 => 4 | 70 => 213 | 77 => 224 | n => n, fun | n => n⟩
theorem Tryd.laysSlF23_f164 : Go.Proofs.SlLaysF.n23 Tryd.prog Tryd.laysSlF23_f164_ren := {
  mixed := by kernel_rfl
  f23 := ⟨Tryd.f164.name, by decide, Tryd.func164.trans (congrArg some (by kernel_rfl))⟩
  f49 := ⟨Tryd.f197.name, by decide, Tryd.func197.trans (congrArg some (by kernel_rfl))⟩
  f50 := ⟨Tryd.f198.name, by decide, Tryd.func198.trans (congrArg some (by kernel_rfl))⟩
  f57 := ⟨Tryd.f204.name, by decide, Tryd.func204.trans (congrArg some (by kernel_rfl))⟩
  t0 := Tryd.underlying0
  a0 := Tryd.isAgg0
  z0 := Tryd.sizeOf0
  v0 := Tryd.zeroValue0
  t3 := Tryd.underlying3
  a3 := Tryd.isAgg3
  z3 := Tryd.sizeOf3
  v3 := Tryd.zeroValue3
  t4 := Tryd.underlying4
  a4 := Tryd.isAgg4
  z4 := Tryd.sizeOf4
  v4 := Tryd.zeroValue4
  t22 := Tryd.underlying25
  a22 := Tryd.isAgg25
  z22 := Tryd.sizeOf25
  v22 := Tryd.zeroValue25
  a24 := Tryd.isAgg37
  z24 := Tryd.sizeOf37
  t25 := Tryd.underlying110
  a25 := Tryd.isAgg110
  z25 := Tryd.sizeOf110
  v25 := Tryd.zeroValue110
  t45 := Tryd.underlying183
  a45 := Tryd.isAgg183
  z45 := Tryd.sizeOf183
  v45 := Tryd.zeroValue183
  t70 := Tryd.underlying213
  a70 := Tryd.isAgg213
  z70 := Tryd.sizeOf213
  v70 := Tryd.zeroValue213
  t77 := Tryd.underlying224
  a77 := Tryd.isAgg224
  z77 := Tryd.sizeOf224
  v77 := Tryd.zeroValue224 }
open Go.RowKit Go.Lib Go.Sort in
/-- slices.choosePivotCmpFunc at elements of one cell: THE LIBRARY's OWN TEXT COMPUTES 'Sort.choosePivot (ltOf cf) d a b'; the row is not turned. (After Derived/Shelf/SlSortFuncK/PivotK.lean, row for row; the counter's world by 'CntK'.) (LAID AT THE INSTANCE 'slices.choosePivotCmpFunc[[]int]': no walk: one application.) -/
theorem Tryd.choosePivotCmpFunc {α : Type} [Inhabited α] (enc : α → Value) (cf : α → α → Int) (g : Nat) (cb : Array Value) (blk off cap a b : Nat) (d0 d : Array α) (w0 W : World) (eg : ∀ args w, (callFunc g args).run Tryd.prog w = .ok (.enter g args) w) (hcmp : CmpLays1 Tryd.prog g cb enc cf blk off d0.size w0) (R : Row1 enc w0 blk off d0) (hs : d0.size = d.size) (S : SW enc w0 blk off d W) (hab : a < b) (hb : b ≤ d.size) (hsz : d.size < 4611686018427387904) :
    Calls Tryd.prog 164 #[.slice (some ⟨blk, off, none⟩) d.size cap, .int .i64 a, .int .i64 b, .func (.func g) #[] cb] W fun e w' =>
      e = .returned (.tuple #[.int .i64 (choosePivot (ltOf cf) d a b).1, .int .i64 (hintCode (choosePivot (ltOf cf) d a b).2)]) ∧ SW enc w0 blk off d w' := Any.choosePivotCmpFunc Tryd.laysSlF23_f164 enc cf g cb blk off cap a b d0 d w0 W eg hcmp R hs S hab hb hsz
def Tryd.laysSlF24_f165_ren : Go.Shelf.Ren := ⟨fun | 24 => 165 | n => n, fun | 24 => 37 | 22 => 25 | 3 => 3 | 25 => 110 | 4 => 4 | 0 => 0 | n => n, fun | n => n⟩
theorem Tryd.laysSlF24_f165 : Go.Proofs.SlLaysF.n24 Tryd.prog Tryd.laysSlF24_f165_ren := {
  mixed := by kernel_rfl
  f24 := ⟨Tryd.f165.name, by decide, Tryd.func165.trans (congrArg some (by kernel_rfl))⟩
  t0 := Tryd.underlying0
  a0 := Tryd.isAgg0
  z0 := Tryd.sizeOf0
  v0 := Tryd.zeroValue0
  t3 := Tryd.underlying3
  a3 := Tryd.isAgg3
  z3 := Tryd.sizeOf3
  v3 := Tryd.zeroValue3
  t4 := Tryd.underlying4
  a4 := Tryd.isAgg4
  z4 := Tryd.sizeOf4
  v4 := Tryd.zeroValue4
  t22 := Tryd.underlying25
  a22 := Tryd.isAgg25
  z22 := Tryd.sizeOf25
  v22 := Tryd.zeroValue25
  a24 := Tryd.isAgg37
  z24 := Tryd.sizeOf37
  t25 := Tryd.underlying110
  a25 := Tryd.isAgg110
  z25 := Tryd.sizeOf110
  v25 := Tryd.zeroValue110 }
open Go.RowKit Go.Lib Go.Sort in
/-- slices.reverseRangeCmpFunc at elements of one cell: it exchanges and does not compare. (LAID AT THE INSTANCE 'slices.reverseRangeCmpFunc[[]int]': no walk: one application.) -/
theorem Tryd.reverseRangeCmpFunc {α : Type} [Inhabited α] (enc : α → Value) (g : Nat) (cb : Array Value) (blk off cap a b : Nat) (d0 d : Array α) (w0 w : World) (R : Row1 enc w0 blk off d0) (hs : d0.size = d.size) (S : SW enc w0 blk off d w) (hab : a ≤ b) (hb : b ≤ d.size) (hsz : d.size < 4611686018427387904) :
    Calls Tryd.prog 165 #[.slice (some ⟨blk, off, none⟩) d.size cap, .int .i64 a, .int .i64 b, .func (.func g) #[] cb] w fun e w' => e = .returned (.tuple #[]) ∧ SW enc w0 blk off (reverseRange d a b) w' := Any.reverseRangeCmpFunc Tryd.laysSlF24_f165 enc g cb blk off cap a b d0 d w0 w R hs S hab hb hsz
def Tryd.laysSlF25_f166_ren : Go.Shelf.Ren := ⟨fun | 25 => 166 | n => n, fun | 24 => 37 | 22 => 25 | 3 => 3 | 25 => 110 | 4 => 4 | 0 => 0 | n => n, fun | n => n⟩
theorem Tryd.laysSlF25_f166 : Go.Proofs.SlLaysF.n25 Tryd.prog Tryd.laysSlF25_f166_ren := {
  mixed := by kernel_rfl
  f25 := ⟨Tryd.f166.name, by decide, Tryd.func166.trans (congrArg some (by kernel_rfl))⟩
  t0 := Tryd.underlying0
  a0 := Tryd.isAgg0
  z0 := Tryd.sizeOf0
  v0 := Tryd.zeroValue0
  t3 := Tryd.underlying3
  a3 := Tryd.isAgg3
  z3 := Tryd.sizeOf3
  v3 := Tryd.zeroValue3
  t4 := Tryd.underlying4
  a4 := Tryd.isAgg4
  z4 := Tryd.sizeOf4
  v4 := Tryd.zeroValue4
  t22 := Tryd.underlying25
  a22 := Tryd.isAgg25
  z22 := Tryd.sizeOf25
  v22 := Tryd.zeroValue25
  a24 := Tryd.isAgg37
  z24 := Tryd.sizeOf37
  t25 := Tryd.underlying110
  a25 := Tryd.isAgg110
  z25 := Tryd.sizeOf110
  v25 := Tryd.zeroValue110 }
open Go.RowKit Go.Lib Go.Sort in
/-- slices.partialInsertionSortCmpFunc at elements of one cell. (LAID AT THE INSTANCE 'slices.partialInsertionSortCmpFunc[[]int]': no walk: one application.) -/
theorem Tryd.partialInsertionSortCmpFunc {α : Type} [Inhabited α] (enc : α → Value) (cf : α → α → Int) (g : Nat) (cb : Array Value) (blk off cap a b : Nat) (d0 d : Array α) (w0 w : World) (eg : ∀ args w, (callFunc g args).run Tryd.prog w = .ok (.enter g args) w) (hcmp : CmpLays1 Tryd.prog g cb enc cf blk off d0.size w0) (R : Row1 enc w0 blk off d0) (hs : d0.size = d.size) (S : SW enc w0 blk off d w) (hab : a < b) (hb : b ≤ d.size) (hsz : d.size < 4611686018427387904) :
    Calls Tryd.prog 166 #[.slice (some ⟨blk, off, none⟩) d.size cap, .int .i64 a, .int .i64 b, .func (.func g) #[] cb] w fun e w' =>
      e = .returned (.bool (Sort.partialInsertionSort (ltOf cf) d a b).2) ∧ SW enc w0 blk off (Sort.partialInsertionSort (ltOf cf) d a b).1 w' := Any.partialInsertionSortCmpFunc Tryd.laysSlF25_f166 enc cf g cb blk off cap a b d0 d w0 w eg hcmp R hs S hab hb hsz
def Tryd.laysSlF26_f167_ren : Go.Shelf.Ren := ⟨fun | 26 => 167 | n => n, fun | 24 => 37 | 22 => 25 | 3 => 3 | 25 => 110 | 0 => 0 | 4 => 4 | n => n, fun | n => n⟩
theorem Tryd.laysSlF26_f167 : Go.Proofs.SlLaysF.n26 Tryd.prog Tryd.laysSlF26_f167_ren := {
  mixed := by kernel_rfl
  f26 := ⟨Tryd.f167.name, by decide, Tryd.func167.trans (congrArg some (by kernel_rfl))⟩
  t0 := Tryd.underlying0
  a0 := Tryd.isAgg0
  z0 := Tryd.sizeOf0
  v0 := Tryd.zeroValue0
  t3 := Tryd.underlying3
  a3 := Tryd.isAgg3
  z3 := Tryd.sizeOf3
  v3 := Tryd.zeroValue3
  t4 := Tryd.underlying4
  a4 := Tryd.isAgg4
  z4 := Tryd.sizeOf4
  v4 := Tryd.zeroValue4
  t22 := Tryd.underlying25
  a22 := Tryd.isAgg25
  z22 := Tryd.sizeOf25
  v22 := Tryd.zeroValue25
  a24 := Tryd.isAgg37
  z24 := Tryd.sizeOf37
  t25 := Tryd.underlying110
  a25 := Tryd.isAgg110
  z25 := Tryd.sizeOf110
  v25 := Tryd.zeroValue110 }
open Go.RowKit Go.Lib Go.Sort in
/-- slices.partitionEqualCmpFunc at elements of one cell. (After Derived/Shelf/SlSortFuncK/PartitionK.lean, row for row.) (LAID AT THE INSTANCE 'slices.partitionEqualCmpFunc[[]int]': no walk: one application.) -/
theorem Tryd.partitionEqualCmpFunc {α : Type} [Inhabited α] (enc : α → Value) (cf : α → α → Int) (g : Nat) (cb : Array Value) (blk off cap a b pivot : Nat) (d0 d : Array α) (w0 w : World) (eg : ∀ args w, (callFunc g args).run Tryd.prog w = .ok (.enter g args) w) (hcmp : CmpLays1 Tryd.prog g cb enc cf blk off d0.size w0) (R : Row1 enc w0 blk off d0) (hs : d0.size = d.size) (S : SW enc w0 blk off d w) (hap : a ≤ pivot) (hpb : pivot < b) (hb : b ≤ d.size) (hsz : d.size < 4611686018427387904) :
    Calls Tryd.prog 167 #[.slice (some ⟨blk, off, none⟩) d.size cap, .int .i64 a, .int .i64 b, .int .i64 pivot, .func (.func g) #[] cb] w fun e w' =>
      e = .returned (.int .i64 (Sort.partitionEqual (ltOf cf) d a b pivot).1) ∧ SW enc w0 blk off (Sort.partitionEqual (ltOf cf) d a b pivot).2 w' := Any.partitionEqualCmpFunc Tryd.laysSlF26_f167 enc cf g cb blk off cap a b pivot d0 d w0 w eg hcmp R hs S hap hpb hb hsz
def Tryd.laysSlF27_f168_ren : Go.Shelf.Ren := ⟨fun | 27 => 168 | n => n, fun | 24 => 37 | 22 => 25 | 3 => 3 | 25 => 110 | 4 => 4 | 0 => 0 | n => n, fun | n => n⟩
theorem Tryd.laysSlF27_f168 : Go.Proofs.SlLaysF.n27 Tryd.prog Tryd.laysSlF27_f168_ren := {
  mixed := by kernel_rfl
  f27 := ⟨Tryd.f168.name, by decide, Tryd.func168.trans (congrArg some (by kernel_rfl))⟩
  t0 := Tryd.underlying0
  a0 := Tryd.isAgg0
  z0 := Tryd.sizeOf0
  v0 := Tryd.zeroValue0
  t3 := Tryd.underlying3
  a3 := Tryd.isAgg3
  z3 := Tryd.sizeOf3
  v3 := Tryd.zeroValue3
  t4 := Tryd.underlying4
  a4 := Tryd.isAgg4
  z4 := Tryd.sizeOf4
  v4 := Tryd.zeroValue4
  t22 := Tryd.underlying25
  a22 := Tryd.isAgg25
  z22 := Tryd.sizeOf25
  v22 := Tryd.zeroValue25
  a24 := Tryd.isAgg37
  z24 := Tryd.sizeOf37
  t25 := Tryd.underlying110
  a25 := Tryd.isAgg110
  z25 := Tryd.sizeOf110
  v25 := Tryd.zeroValue110 }
open Go.RowKit Go.Lib Go.Sort in
/-- slices.partitionCmpFunc at elements of one cell. (After Derived/Shelf/SlSortFuncK/PartitionK.lean, row for row.) (LAID AT THE INSTANCE 'slices.partitionCmpFunc[[]int]': no walk: one application.) -/
theorem Tryd.partitionCmpFunc {α : Type} [Inhabited α] (enc : α → Value) (cf : α → α → Int) (g : Nat) (cb : Array Value) (blk off cap a b pivot : Nat) (d0 d : Array α) (w0 w : World) (eg : ∀ args w, (callFunc g args).run Tryd.prog w = .ok (.enter g args) w) (hcmp : CmpLays1 Tryd.prog g cb enc cf blk off d0.size w0) (R : Row1 enc w0 blk off d0) (hs : d0.size = d.size) (S : SW enc w0 blk off d w) (hap : a ≤ pivot) (hpb : pivot < b) (hb : b ≤ d.size) (hsz : d.size < 4611686018427387904) :
    Calls Tryd.prog 168 #[.slice (some ⟨blk, off, none⟩) d.size cap, .int .i64 a, .int .i64 b, .int .i64 pivot, .func (.func g) #[] cb] w fun e w' =>
      e = .returned (.tuple #[.int .i64 (Sort.partition (ltOf cf) d a b pivot).1, .bool (Sort.partition (ltOf cf) d a b pivot).2.1]) ∧ SW enc w0 blk off (Sort.partition (ltOf cf) d a b pivot).2.2 w' := Any.partitionCmpFunc Tryd.laysSlF27_f168 enc cf g cb blk off cap a b pivot d0 d w0 w eg hcmp R hs S hap hpb hb hsz
def Tryd.laysSlF14_f126_ren : Go.Shelf.Ren := ⟨fun | 14 => 126 | 20 => 161 | 21 => 162 | 22 => 163 | 23 => 164 | 24 => 165 | 25 => 166 | 26 => 167 | 27 => 168 | 46 => 194 | 47 => 195 | 48 => 196 | 49 => 197 | 50 => 198 | 15 => 127 | 57 => 204 | 28 => 169 | 29 => 170 | n => n, fun | 24 => 37 | 22 => 25 | 3 => 3 | 25 => 110 | 4 => 4 | 0 => 0 | 46 => 184 | 45 => 183 | 50 => 31 | 66 => 209 | 39 => 152 | 55 => 83 | 70 => 213 | 76 => 223 | 77 => 224 | 53 => 190 | 5 => 5 | 9 => 9 | n => n, fun | n => n⟩
theorem Tryd.laysSlF14_f126 : Go.Proofs.SlLaysF.n14 Tryd.prog Tryd.laysSlF14_f126_ren := {
  mixed := by kernel_rfl
  f14 := ⟨Tryd.f126.name, by decide, Tryd.func126.trans (congrArg some (by kernel_rfl))⟩
  f15 := Tryd.func127.trans (congrArg some (by kernel_rfl))
  f20 := ⟨Tryd.f161.name, by decide, Tryd.func161.trans (congrArg some (by kernel_rfl))⟩
  f21 := ⟨Tryd.f162.name, by decide, Tryd.func162.trans (congrArg some (by kernel_rfl))⟩
  f22 := ⟨Tryd.f163.name, by decide, Tryd.func163.trans (congrArg some (by kernel_rfl))⟩
  f23 := ⟨Tryd.f164.name, by decide, Tryd.func164.trans (congrArg some (by kernel_rfl))⟩
  f24 := ⟨Tryd.f165.name, by decide, Tryd.func165.trans (congrArg some (by kernel_rfl))⟩
  f25 := ⟨Tryd.f166.name, by decide, Tryd.func166.trans (congrArg some (by kernel_rfl))⟩
  f26 := ⟨Tryd.f167.name, by decide, Tryd.func167.trans (congrArg some (by kernel_rfl))⟩
  f27 := ⟨Tryd.f168.name, by decide, Tryd.func168.trans (congrArg some (by kernel_rfl))⟩
  f28 := Tryd.func169.trans (congrArg some (by kernel_rfl))
  f29 := Tryd.func170.trans (congrArg some (by kernel_rfl))
  f46 := ⟨Tryd.f194.name, by decide, Tryd.func194.trans (congrArg some (by kernel_rfl))⟩
  f47 := Tryd.func195.trans (congrArg some (by kernel_rfl))
  f48 := Tryd.func196.trans (congrArg some (by kernel_rfl))
  f49 := ⟨Tryd.f197.name, by decide, Tryd.func197.trans (congrArg some (by kernel_rfl))⟩
  f50 := ⟨Tryd.f198.name, by decide, Tryd.func198.trans (congrArg some (by kernel_rfl))⟩
  f57 := ⟨Tryd.f204.name, by decide, Tryd.func204.trans (congrArg some (by kernel_rfl))⟩
  t0 := Tryd.underlying0
  a0 := Tryd.isAgg0
  z0 := Tryd.sizeOf0
  v0 := Tryd.zeroValue0
  t3 := Tryd.underlying3
  a3 := Tryd.isAgg3
  z3 := Tryd.sizeOf3
  v3 := Tryd.zeroValue3
  t4 := Tryd.underlying4
  a4 := Tryd.isAgg4
  z4 := Tryd.sizeOf4
  v4 := Tryd.zeroValue4
  t5 := Tryd.underlying5
  a5 := Tryd.isAgg5
  z5 := Tryd.sizeOf5
  v5 := Tryd.zeroValue5
  t9 := Tryd.underlying9
  a9 := Tryd.isAgg9
  z9 := Tryd.sizeOf9
  v9 := Tryd.zeroValue9
  t22 := Tryd.underlying25
  a22 := Tryd.isAgg25
  z22 := Tryd.sizeOf25
  v22 := Tryd.zeroValue25
  a24 := Tryd.isAgg37
  z24 := Tryd.sizeOf37
  t25 := Tryd.underlying110
  a25 := Tryd.isAgg110
  z25 := Tryd.sizeOf110
  v25 := Tryd.zeroValue110
  t39 := Tryd.underlying152
  a39 := Tryd.isAgg152
  z39 := Tryd.sizeOf152
  v39 := Tryd.zeroValue152
  t45 := Tryd.underlying183
  a45 := Tryd.isAgg183
  z45 := Tryd.sizeOf183
  v45 := Tryd.zeroValue183
  t46 := Tryd.underlying184
  a46 := Tryd.isAgg184
  z46 := Tryd.sizeOf184
  v46 := Tryd.zeroValue184
  t50 := Tryd.underlying31
  a50 := Tryd.isAgg31
  z50 := Tryd.sizeOf31
  v50 := Tryd.zeroValue31
  t53 := Tryd.underlying190
  a53 := Tryd.isAgg190
  z53 := Tryd.sizeOf190
  v53 := Tryd.zeroValue190
  t55 := Tryd.underlying83
  a55 := Tryd.isAgg83
  z55 := Tryd.sizeOf83
  v55 := Tryd.zeroValue83
  t66 := Tryd.underlying209
  a66 := Tryd.isAgg209
  z66 := Tryd.sizeOf209
  v66 := Tryd.zeroValue209
  t70 := Tryd.underlying213
  a70 := Tryd.isAgg213
  z70 := Tryd.sizeOf213
  v70 := Tryd.zeroValue213
  t76 := Tryd.underlying223
  a76 := Tryd.isAgg223
  z76 := Tryd.sizeOf223
  v76 := Tryd.zeroValue223
  t77 := Tryd.underlying224
  a77 := Tryd.isAgg224
  z77 := Tryd.sizeOf224
  v77 := Tryd.zeroValue224 }
open Go.RowKit Go.Lib Go.Sort in
/-- slices.pdqsortCmpFunc at elements of one cell, WHOLE. (After Derived/Shelf/SlSortFuncK/PdqK.lean, row for row: the slots and the regions' numbers are this body's.) (LAID AT THE INSTANCE 'slices.pdqsortCmpFunc[[]int]': no walk: one application.) -/
theorem Tryd.pdqsortCmpFunc_all {α : Type} [Inhabited α] (enc : α → Value) (cf : α → α → Int) (g : Nat) (cb : Array Value) (hO : SWO (ltOf cf)) (blk off cap : Nat) (d0 : Array α) (w0 : World) (eg : ∀ args w, (callFunc g args).run Tryd.prog w = .ok (.enter g args) w) (hcmp : CmpLays1 Tryd.prog g cb enc cf blk off d0.size w0) (R : Row1 enc w0 blk off d0) :
    ∀ (N a b limit : Nat) (d : Array α) (w : World), b - a < N → d0.size = d.size → SW enc w0 blk off d w → a ≤ b → b ≤ d.size → d.size < 4611686018427387904 → limit < 4611686018427387904 → Below (ltOf cf) a b d →
    Calls Tryd.prog 126 #[.slice (some ⟨blk, off, none⟩) d.size cap, .int .i64 a, .int .i64 b, .int .i64 limit, .func (.func g) #[] cb] w fun e w' => e = .returned (.tuple #[]) ∧ SW enc w0 blk off (pdq (ltOf cf) d a b limit true true) w' := Any.pdqsortCmpFunc_all Tryd.laysSlF14_f126 enc cf g cb hO blk off cap d0 w0 eg hcmp R
def Tryd.laysSlF6_f83_ren : Go.Shelf.Ren := ⟨fun | 6 => 83 | 15 => 127 | 14 => 126 | 28 => 169 | 29 => 170 | 20 => 161 | 21 => 162 | 22 => 163 | 23 => 164 | 24 => 165 | 25 => 166 | 26 => 167 | 27 => 168 | 46 => 194 | 47 => 195 | 48 => 196 | 49 => 197 | 50 => 198 | 57 => 204 | n => n, fun | 22 => 25 | 24 => 37 | 25 => 110 | 3 => 3 | 39 => 152 | 0 => 0 | 53 => 190 | 55 => 83 | 4 => 4 | 46 => 184 | 45 => 183 | 50 => 31 | 5 => 5 | 9 => 9 | 66 => 209 | 70 => 213 | 76 => 223 | 77 => 224 | n => n, fun | n => n⟩
theorem Tryd.laysSlF6_f83 : Go.Proofs.SlLaysF.n6 Tryd.prog Tryd.laysSlF6_f83_ren := {
  mixed := by kernel_rfl
  f6 := ⟨Tryd.f83.name, by decide, Tryd.func83.trans (congrArg some (by kernel_rfl))⟩
  f14 := ⟨Tryd.f126.name, by decide, Tryd.func126.trans (congrArg some (by kernel_rfl))⟩
  f15 := Tryd.func127.trans (congrArg some (by kernel_rfl))
  f20 := ⟨Tryd.f161.name, by decide, Tryd.func161.trans (congrArg some (by kernel_rfl))⟩
  f21 := ⟨Tryd.f162.name, by decide, Tryd.func162.trans (congrArg some (by kernel_rfl))⟩
  f22 := ⟨Tryd.f163.name, by decide, Tryd.func163.trans (congrArg some (by kernel_rfl))⟩
  f23 := ⟨Tryd.f164.name, by decide, Tryd.func164.trans (congrArg some (by kernel_rfl))⟩
  f24 := ⟨Tryd.f165.name, by decide, Tryd.func165.trans (congrArg some (by kernel_rfl))⟩
  f25 := ⟨Tryd.f166.name, by decide, Tryd.func166.trans (congrArg some (by kernel_rfl))⟩
  f26 := ⟨Tryd.f167.name, by decide, Tryd.func167.trans (congrArg some (by kernel_rfl))⟩
  f27 := ⟨Tryd.f168.name, by decide, Tryd.func168.trans (congrArg some (by kernel_rfl))⟩
  f28 := Tryd.func169.trans (congrArg some (by kernel_rfl))
  f29 := Tryd.func170.trans (congrArg some (by kernel_rfl))
  f46 := ⟨Tryd.f194.name, by decide, Tryd.func194.trans (congrArg some (by kernel_rfl))⟩
  f47 := Tryd.func195.trans (congrArg some (by kernel_rfl))
  f48 := Tryd.func196.trans (congrArg some (by kernel_rfl))
  f49 := ⟨Tryd.f197.name, by decide, Tryd.func197.trans (congrArg some (by kernel_rfl))⟩
  f50 := ⟨Tryd.f198.name, by decide, Tryd.func198.trans (congrArg some (by kernel_rfl))⟩
  f57 := ⟨Tryd.f204.name, by decide, Tryd.func204.trans (congrArg some (by kernel_rfl))⟩
  t0 := Tryd.underlying0
  a0 := Tryd.isAgg0
  z0 := Tryd.sizeOf0
  v0 := Tryd.zeroValue0
  t3 := Tryd.underlying3
  a3 := Tryd.isAgg3
  z3 := Tryd.sizeOf3
  v3 := Tryd.zeroValue3
  t4 := Tryd.underlying4
  a4 := Tryd.isAgg4
  z4 := Tryd.sizeOf4
  v4 := Tryd.zeroValue4
  t5 := Tryd.underlying5
  a5 := Tryd.isAgg5
  z5 := Tryd.sizeOf5
  v5 := Tryd.zeroValue5
  t9 := Tryd.underlying9
  a9 := Tryd.isAgg9
  z9 := Tryd.sizeOf9
  v9 := Tryd.zeroValue9
  t22 := Tryd.underlying25
  a22 := Tryd.isAgg25
  z22 := Tryd.sizeOf25
  v22 := Tryd.zeroValue25
  a24 := Tryd.isAgg37
  z24 := Tryd.sizeOf37
  t25 := Tryd.underlying110
  a25 := Tryd.isAgg110
  z25 := Tryd.sizeOf110
  v25 := Tryd.zeroValue110
  t39 := Tryd.underlying152
  a39 := Tryd.isAgg152
  z39 := Tryd.sizeOf152
  v39 := Tryd.zeroValue152
  t45 := Tryd.underlying183
  a45 := Tryd.isAgg183
  z45 := Tryd.sizeOf183
  v45 := Tryd.zeroValue183
  t46 := Tryd.underlying184
  a46 := Tryd.isAgg184
  z46 := Tryd.sizeOf184
  v46 := Tryd.zeroValue184
  t50 := Tryd.underlying31
  a50 := Tryd.isAgg31
  z50 := Tryd.sizeOf31
  v50 := Tryd.zeroValue31
  t53 := Tryd.underlying190
  a53 := Tryd.isAgg190
  z53 := Tryd.sizeOf190
  v53 := Tryd.zeroValue190
  t55 := Tryd.underlying83
  a55 := Tryd.isAgg83
  z55 := Tryd.sizeOf83
  v55 := Tryd.zeroValue83
  t66 := Tryd.underlying209
  a66 := Tryd.isAgg209
  z66 := Tryd.sizeOf209
  v66 := Tryd.zeroValue209
  t70 := Tryd.underlying213
  a70 := Tryd.isAgg213
  z70 := Tryd.sizeOf213
  v70 := Tryd.zeroValue213
  t76 := Tryd.underlying223
  a76 := Tryd.isAgg223
  z76 := Tryd.sizeOf223
  v76 := Tryd.zeroValue223
  t77 := Tryd.underlying224
  a77 := Tryd.isAgg224
  z77 := Tryd.sizeOf224
  v77 := Tryd.zeroValue224 }
open Go.RowKit Go.Lib Go.Sort in
/-- **slices.SortFunc: WHAT THE ROW HOLDS, TO THE ELEMENT.** (LAID AT THE INSTANCE 'slices.SortFunc[[][]int,[]int]': no walk: one application.) -/
theorem Tryd.slices_SortFunc_eq {α : Type} [Inhabited α] (enc : α → Value) (h1 : OneCell enc) (cf : α → α → Int) (hO : SWO (ltOf cf)) (g : Nat) (cb : Array Value) (blk off cap : Nat) (d : Array α) (w : World) (eg : ∀ args w, (callFunc g args).run Tryd.prog w = .ok (.enter g args) w) (hcmp : CmpLays1 Tryd.prog g cb enc cf blk off d.size w) (hH : Holds enc w blk off d) (hblk : blk < w.heap.size) (hsz : d.size < 4611686018427387904) :
    Calls Tryd.prog 83 #[.slice (some ⟨blk, off, none⟩) d.size cap, .func (.func g) #[] cb] w fun e w' =>
      e = .returned (.tuple #[]) ∧ ∃ n os, w' = sortWorld enc w blk off n (pdq (ltOf cf) d 0 d.size (Lib.bitLen d.size) true true) os := Any.slices_SortFunc_eq Tryd.laysSlF6_f83 enc h1 cf hO g cb blk off cap d w eg hcmp hH hblk hsz
open Go.RowKit Go.Lib Go.Sort in
/-- **slices.SortFunc, IN THE DOCUMENTATION's OWN TERMS: A PERMUTATION OF WHAT THE ROW HELD, SORTED BY 'cmp(a, b) < 0'.** Which of two equals comes first is left open ("The sort is not guaranteed to be stable"). (LAID AT THE INSTANCE 'slices.SortFunc[[][]int,[]int]': no walk: one application.) -/
theorem Tryd.slices_SortFunc {α : Type} [Inhabited α] (enc : α → Value) (h1 : OneCell enc) (cf : α → α → Int) (hO : SWO (ltOf cf)) (g : Nat) (cb : Array Value) (blk off cap : Nat) (d : Array α) (w : World) (eg : ∀ args w, (callFunc g args).run Tryd.prog w = .ok (.enter g args) w) (hcmp : CmpLays1 Tryd.prog g cb enc cf blk off d.size w) (hH : Holds enc w blk off d) (hblk : blk < w.heap.size) (hsz : d.size < 4611686018427387904) :
    Calls Tryd.prog 83 #[.slice (some ⟨blk, off, none⟩) d.size cap, .func (.func g) #[] cb] w fun e w' =>
      e = .returned (.tuple #[]) ∧ ∃ d' n os, PermIn 0 d.size d d' ∧ SortedIn (ltOf cf) 0 d.size d' ∧ w' = sortWorld enc w blk off n d' os := Any.slices_SortFunc Tryd.laysSlF6_f83 enc h1 cf hO g cb blk off cap d w eg hcmp hH hblk hsz
end Go.Proofs

/- The program's slices.SortFunc at lists of numbers, by slices.Compare. -/

namespace Go.Proofs.YtaobkanliiiapaaDoor
open Go.RowKit
open Go.Sort (Holds putRow putCells grow)

theorem holdsG {α : Type} [Inhabited α] {enc : α → Value} {w : World} {g : Nat} {cur : Array Value} {e : TypeId} {d : Array α} (hb : w.heap[g]? = some (.cells cur e (0, 0))) (ht : cur.toList.take d.size = d.toList.map enc) : Holds enc w g 0 d := by
  intro j hj
  refine ⟨?_, by simp [World.frozen?, hb]⟩
  have h1 : (cur.toList.take d.size)[j]? = (d.toList.map enc)[j]? := by rw [ht]
  rw [List.getElem?_take_of_lt hj] at h1
  simp only [World.cell?, hb, Nat.zero_add]
  simp only [Option.isSome_none, Bool.false_eq_true, if_false]
  rw [← Array.getElem?_toList, h1]
  simp [hj]
theorem heap_sortedG {α : Type} [Inhabited α] {enc : α → Value} {w : World} {g n : Nat} {os : Array Obj} {cur : Array Value} {e : TypeId} {fr : Nat × Nat} (d : Array α) (hb : w.heap[g]? = some (.cells cur e fr)) :
    (grow (putRow enc (Sort.ahead w n) g 0 d) os).heap[g]? = some (.cells (putCells enc 0 d cur) e fr) := by
  have hg : g < w.heap.size := (Array.getElem?_eq_some_iff.1 hb).1
  rw [Sort.heap_grow_old _ _ (by simpa using hg)]
  simp [putRow, Sort.mapBlock, Sort.ahead, Array.getElem?_modify, hb, Sort.onCells]
theorem save_sortedG {α : Type} [Inhabited α] {enc : α → Value} {w : World} {g n : Nat} {os : Array Obj} (d : Array α) : Save (· = g) w (grow (putRow enc (Sort.ahead w n) g 0 d) os) := by
  refine ⟨rfl, rfl, rfl, by simp, fun k hk hne => ?_⟩
  rw [Sort.heap_grow_old _ _ (by simpa using hk)]
  have : g ≠ k := fun e => hne e.symm
  simp [putRow, Sort.mapBlock, Sort.ahead, Array.getElem?_modify, this]
theorem take_putG {α : Type} [Inhabited α] {enc : α → Value} (cur : Array Value) (d : Array α) (h : d.size ≤ cur.size) : (putCells enc 0 d cur).toList.take d.size = d.toList.map enc := by
  apply List.ext_getElem?
  intro j
  by_cases hj : j < d.size
  · rw [List.getElem?_take_of_lt hj, Array.getElem?_toList]
    simp [putCells, hj, show j < cur.size by omega]
  · rw [List.getElem?_take_eq_none (by omega), List.getElem?_eq_none (by simp; omega)]

theorem swo_cmpL {α : Type} (f : α → List Int) : Go.Sort.SWO (ltOf fun x y => cmpL (f x) (f y)) := by
  refine ⟨fun x => ?_, fun x y z h1 h2 => ?_, fun x y z h1 h2 => ?_⟩
  · simp [ltOf, cmpL_self]
  · have a := of_decide_eq_true h1
    have b := of_decide_eq_true h2
    exact decide_eq_true (cmpL_trans a b)
  · have a := of_decide_eq_false h1
    have b := of_decide_eq_false h2
    refine decide_eq_false fun c0 => ?_
    have c : cmpL (f x) (f z) < 0 := c0
    have a : ¬ cmpL (f x) (f y) < 0 := of_decide_eq_false h1
    have b : ¬ cmpL (f y) (f z) < 0 := of_decide_eq_false h2
    have h3 := cmpL_anti (f x) (f y)
    by_cases e : cmpL (f x) (f y) = 0
    · rw [cmpL_eq e] at c; exact b c
    · exact b (cmpL_trans (b := f x) (by omega : cmpL (f y) (f x) < 0) c)

/-- Sorting of nothing. -/
theorem insNil_any (f : Value) (w : World) : Calls Tryd.prog 161 #[.slice none 0 0, .int .i64 0, .int .i64 0, f] w fun e w' => e = .returned (.tuple #[]) ∧ w' = w := by
  go_enter Tryd.func161, Tryd.ntmps161
  go_wp2_with fail
  go_loopw [8] (fun i wr => i = .int .i64 1 ∧ wr = w) (fun _ _ => 0)
  case atStart => exact ⟨rfl, rfl⟩
  case round =>
    obtain ⟨rfl, rfl⟩ := hrel
    go_wp2_with fail
    go_end0
    exact ⟨rfl, rfl⟩
theorem pdqNil_any (f : Value) (w : World) : Calls Tryd.prog 126 #[.slice none 0 0, .int .i64 0, .int .i64 0, .int .i64 0, f] w fun e w' => e = .returned (.tuple #[]) ∧ w' = w := by
  have hc := insNil_any f w
  go_enter Tryd.func126, Tryd.ntmps126
  go_wp2_with fail
  go_loopw [1, 2, 3, 10, 11] (fun a b c _ _ wr => a = .int .i64 0 ∧ b = .int .i64 0 ∧ c = .int .i64 0 ∧ wr = w) (fun _ _ _ _ _ _ => 0)
  case atStart => exact ⟨rfl, rfl, rfl, rfl⟩
  case round =>
    obtain ⟨rfl, rfl, rfl, rfl⟩ := hrel
    go_wp2_with fail
    refine hc.mono ?_
    rintro _ _ ⟨rfl, rfl⟩
    go_wp2_with fail
    refine bodyPost_ret (results_none rfl _ _ _) rfl ⟨rfl, rfl⟩
theorem sortNil_any (f : Value) (w : World) : Calls Tryd.prog 83 #[.slice none 0 0, f] w fun e w' => e = .returned (.tuple #[]) ∧ w' = w := by
  have hc := pdqNil_any f w
  have hb := Tryd.bits_Len 0 w (by decide) (by decide)
  go_enter Tryd.func83, Tryd.ntmps83
  go_wp2_with fail
  refine hb.mono ?_
  rintro _ _ ⟨rfl, rfl⟩
  go_wp2_with fail
  refine hc.mono ?_
  rintro _ _ ⟨rfl, rfl⟩
  go_wp2_with fail
  go_end0
  exact ⟨rfl, rfl⟩

/-- A list out of some, or none. -/
abbrev LiIn (ds : List Li) : Type := { u : Li // u ∈ ds ∨ u = ⟨none, [], 0⟩ }
instance liInInhabited (ds : List Li) : Inhabited (LiIn ds) := ⟨⟨⟨none, [], 0⟩, .inr rfl⟩⟩

/-- What sorting leaves of a slice of lists. -/
def Srt (w : World) (lo : Nat) (v : Value) (ds : List Li) (w' : World) : Prop :=
  ∃ ds' : List Li, ds'.Perm ds ∧ ds'.Pairwise (fun a b => ¬ cmpL b.r a.r < 0) ∧ ListsW w' lo v ds' ∧ Save (fun g => v.ownBlock = some g) w w'

theorem far_perm {ds es : List Li} (hp : es.Perm ds) (h : ∀ (i j : Nat) (u v : Li), ds[i]? = some u → ds[j]? = some v → i ≠ j → u.r ≠ [] → v.r ≠ [] → u.a ≠ v.a) : ∀ (i j : Nat) (u v : Li), es[i]? = some u → es[j]? = some v → i ≠ j → u.r ≠ [] → v.r ≠ [] → u.a ≠ v.a := by
  have p1 : ds.Pairwise fun u v => u.r ≠ [] → v.r ≠ [] → u.a ≠ v.a := List.pairwise_iff_getElem.2 fun i j hi hj hij => h i j _ _ (List.getElem?_eq_getElem hi) (List.getElem?_eq_getElem hj) (by omega)
  have p2 : es.Pairwise fun u v => u.r ≠ [] → v.r ≠ [] → u.a ≠ v.a := (hp.pairwise_iff (fun h a b e => h b a e.symm)).2 p1
  intro i j u v hu hv hij
  obtain ⟨hi, eu⟩ := List.getElem?_eq_some_iff.1 hu
  obtain ⟨hj, ev⟩ := List.getElem?_eq_some_iff.1 hv
  subst eu ev
  rcases Nat.lt_or_gt_of_ne hij with h1 | h1
  · exact List.pairwise_iff_getElem.1 p2 i j hi hj h1
  · exact fun a b e => List.pairwise_iff_getElem.1 p2 j i hj hi h1 b a e.symm

set_option maxRecDepth 20000 in
set_option maxHeartbeats 600000 in
theorem sortLs_any (lo : Nat) (v : Value) (ds : List Li) (w : World) (hv : ListsW w lo v ds) (hl : ds.length ≤ 1000) (hs : ∀ u ∈ ds, u.r.length ≤ 1000) :
    Calls Tryd.prog 83 #[v, .func (.func 84) #[] #[]] w fun e w' => e = .returned (.tuple #[]) ∧ Srt w lo v ds w' := by
  rcases hv.row.2 with ⟨rfl, h0⟩ | ⟨g, cap, cur, rfl, hlo, hg, hcap, hmax, hsz, hx⟩
  · have e : ds = [] := List.eq_nil_of_length_eq_zero h0
    subst e
    refine (sortNil_any _ w).mono fun e w' ⟨h1, h2⟩ => ⟨h1, [], List.Perm.refl _, List.Pairwise.nil, ?_, ?_⟩
    · rw [h2]; exact ListsW.start w lo
    · rw [h2]; exact Save.refl _ _
  · let enc : LiIn ds → Value := fun u => cellsL u.1
    let d : Array (LiIn ds) := (ds.attach.map fun u => (⟨u.1, .inl u.2⟩ : LiIn ds)).toArray
    have hd : d.size = ds.length := by
      show (ds.attach.map _).toArray.size = _
      rw [List.size_toArray, List.length_map, List.length_attach]
    have hde : d.toList.map enc = ds.map cellsL := by
      show (ds.attach.map _).toArray.toList.map _ = _
      rw [List.toList_toArray, List.map_map]
      exact List.attach_map_val (f := cellsL)
    have hdv : d.toList.map Subtype.val = ds := by
      show (ds.attach.map _).toArray.toList.map _ = _
      rw [List.toList_toArray, List.map_map]
      exact List.attach_map_subtype_val ds
    have hH : Holds enc w g 0 d := holdsG hg (by rw [hd, hde]; simpa using hx)
    have hcmp : CmpLays1 Tryd.prog 84 #[] enc (fun x y => cmpL x.1.r y.1.r) g 0 d.size w := by
      intro m os dk hdk x y
      have hS : Save (· = g) w (sortWorld enc w g 0 m dk os) := save_sortedG dk
      have rd : ∀ u : LiIn ds, Ints (sortWorld enc w g 0 m dk os) (sortWorld enc w g 0 m dk os).heap.size u.1.a u.1.r := by
        rintro ⟨u, hu | rfl⟩
        · obtain ⟨k, hk, e⟩ := List.getElem_of_mem hu
          have hO := hv.rts k u (by rw [← e]; exact List.getElem?_eq_getElem hk)
          refine (hO.save hS fun g' hA hne => ?_).ints
          intro hgg
          subst hgg
          rcases hO with h | ⟨g2, rc, e2, _, hr2, _⟩
          · exact hne h
          · rw [hA] at e2
            injection e2 with e2
            injection e2 with e2
            exact hr2.ne (t' := 37) hg (by decide) e2.symm
        · exact fun h => by simp at h
      have hc := compareL_any x.1.a y.1.a x.1.r y.1.r x.1.c y.1.c _ (rd x) (rd y) (by
        rcases x with ⟨u, hu | rfl⟩
        · have := hs u hu; show u.r.length ≤ _; omega
        · simp)
      refine hc.mono fun e w' ⟨h1, h2⟩ => ⟨h1, 0, #[], ?_⟩
      rw [h2]
      exact (Go.Sort.grow_empty _).symm
    have hC := Tryd.slices_SortFunc enc (fun _ => rfl) (fun x y => cmpL x.1.r y.1.r) (swo_cmpL fun x : LiIn ds => x.1.r) 84 #[] g 0 cap d w (fun xs v => cmpF_enter xs v) hcmp hH (Row.lt (t := 37) hg) (by omega)
    rw [hd] at hC
    refine hC.mono fun e w' ⟨he, d', n, os, hp, hst, hw⟩ => ?_
    have hd' : d'.size = ds.length := by rw [hp.1, hd]
    have hpp : (d'.toList.map Subtype.val).Perm ds := by
      have h1 := hp.2.2
      rw [show d'.extract 0 ds.length = d' by rw [← hd', Array.extract_size], show d.extract 0 ds.length = d by rw [← hd, Array.extract_size]] at h1
      have h2 := h1.map Subtype.val
      rwa [hdv] at h2
    have hlen : (d'.toList.map Subtype.val).length = ds.length := hpp.length_eq
    have hS : Save (· = g) w w' := by rw [hw]; exact save_sortedG d'
    refine ⟨he, d'.toList.map Subtype.val, hpp, ?sorted, ⟨⟨?_, .inr ⟨g, cap, putCells enc 0 d' cur, ?_, hlo, ?_, ?_, hmax, ?_, ?_⟩⟩, ?_, ?_, far_perm hpp hv.far⟩, ⟨hS.os, hS.tape, hS.output, hS.size, fun k hk hne => hS.block k hk fun e => hne (by rw [e]; rfl)⟩⟩
    case sorted =>
      rw [List.pairwise_map]
      refine List.pairwise_iff_getElem.2 fun i j hi hj hij => ?_
      have hi' : i < d'.size := by simpa using hi
      have hj' : j < d'.size := by simpa using hj
      have h1 := of_decide_eq_false (hst i j (Nat.zero_le _) hij (by omega))
      rw [getElem!_pos d' i hi', getElem!_pos d' j hj'] at h1
      exact h1
    · simp
    · rw [hlen]
    · rw [hw]; exact heap_sortedG d' hg
    · rw [hlen]; exact hcap
    · simp [putCells]; simpa using hsz
    · rw [hlen, Nat.mul_one, ← hd', take_putG cur d' (by rw [hd']; omega), List.map_map]
      rfl
    · intro j u hu
      obtain ⟨k, hk⟩ := List.getElem?_of_mem (hpp.mem_iff.1 (List.mem_of_getElem? hu))
      exact hv.caps k u hk
    · intro j u hu
      obtain ⟨k, hk⟩ := List.getElem?_of_mem (hpp.mem_iff.1 (List.mem_of_getElem? hu))
      have hO := hv.rts k u hk
      refine hO.save hS fun g' hA hne hgg => ?_
      subst hgg
      rcases hO with h | ⟨g2, rc, e2, _, hr2, _⟩
      · exact hne h
      · rw [hA] at e2
        injection e2 with e2
        injection e2 with e2
        exact hr2.ne (t' := 37) hg (by decide) e2.symm

end Go.Proofs.YtaobkanliiiapaaDoor

/- The program's slices.Sort at a slice of numbers that is the call's own, nil too. -/

namespace Go.Proofs.YtaobkanliiiapaaDoor
open Go.RowKit
open Go.Sort (Holds putRow putCells grow)

theorem insNilI_any (w : World) : Calls Tryd.prog 172 #[.slice none 0 0, .int .i64 0, .int .i64 0] w fun e w' => e = .returned (.tuple #[]) ∧ w' = w := by
  go_enter Tryd.func172, Tryd.ntmps172
  go_wp2_with fail
  go_loopw [6] (fun i wr => i = .int .i64 1 ∧ wr = w) (fun _ _ => 0)
  case atStart => exact ⟨rfl, rfl⟩
  case round =>
    obtain ⟨rfl, rfl⟩ := hrel
    go_wp2_with fail
    go_end0
    exact ⟨rfl, rfl⟩
theorem pdqNilI_any (w : World) : Calls Tryd.prog 129 #[.slice none 0 0, .int .i64 0, .int .i64 0, .int .i64 0] w fun e w' => e = .returned (.tuple #[]) ∧ w' = w := by
  have hc := insNilI_any w
  go_enter Tryd.func129, Tryd.ntmps129
  go_wp2_with fail
  go_loopw [1, 2, 3, 8, 9] (fun a b c _ _ wr => a = .int .i64 0 ∧ b = .int .i64 0 ∧ c = .int .i64 0 ∧ wr = w) (fun _ _ _ _ _ _ => 0)
  case atStart => exact ⟨rfl, rfl, rfl, rfl⟩
  case round =>
    obtain ⟨rfl, rfl, rfl, rfl⟩ := hrel
    go_wp2_with fail
    refine hc.mono ?_
    rintro _ _ ⟨rfl, rfl⟩
    go_wp2_with fail
    refine bodyPost_ret (results_none rfl _ _ _) rfl ⟨rfl, rfl⟩
theorem sortNilI_any (w : World) : Calls Tryd.prog 85 #[.slice none 0 0] w fun e w' => e = .returned (.tuple #[]) ∧ w' = w := by
  have hc := pdqNilI_any w
  have hb := Tryd.bits_Len 0 w (by decide) (by decide)
  go_enter Tryd.func85, Tryd.ntmps85
  go_wp2_with fail
  refine hb.mono ?_
  rintro _ _ ⟨rfl, rfl⟩
  go_wp2_with fail
  refine hc.mono ?_
  rintro _ _ ⟨rfl, rfl⟩
  go_wp2_with fail
  go_end0
  exact ⟨rfl, rfl⟩

/-- The numbers as they rise. -/
def sortI (es : List Int) : List Int := es.mergeSort fun x y => decide (x ≤ y)
theorem sortI_perm (es : List Int) : (sortI es).Perm es := List.mergeSort_perm _ _
theorem sortI_len (es : List Int) : (sortI es).length = es.length := (sortI_perm es).length_eq
theorem sortI_le (es : List Int) : (sortI es).Pairwise (· ≤ ·) := by
  have h := List.pairwise_mergeSort (le := fun x y : Int => decide (x ≤ y)) (fun a b c h1 h2 => decide_eq_true (Int.le_trans (of_decide_eq_true h1) (of_decide_eq_true h2))) (fun a b => by simp; exact Int.le_total a b) es
  exact h.imp fun h => of_decide_eq_true h

/-- What sorting leaves of a slice of numbers. -/
def SrtI (w : World) (lo : Nat) (v : Value) (es : List Int) (w' : World) : Prop :=
  OwnV w' lo v (sortI es) ∧ Save (fun g => v.ownBlock = some g) w w'

theorem sortI_any (lo : Nat) (v : Value) (es : List Int) (w : World) (hv : OwnV w lo v es) (hl : es.length ≤ 1048576) :
    Calls Tryd.prog 85 #[v] w fun e w' => e = .returned (.tuple #[]) ∧ SrtI w lo v es w' := by
  rcases hv.2 with ⟨rfl, h0⟩ | ⟨g, cap, cur, rfl, hlo, hg, hcap, hmax, hsz, hx⟩
  · have e : es = [] := List.eq_nil_of_length_eq_zero h0
    subst e
    refine (sortNilI_any w).mono fun e w' ⟨h1, h2⟩ => ⟨h1, ?_, ?_⟩
    · rw [h2]; simpa [sortI] using OwnV.nil w lo
    · rw [h2]; exact Save.refl _ _
  · have hH : Holds (Value.int .i64) w g 0 es.toArray := holdsI hg (by rw [← Nat.mul_one es.length]; exact hx)
    have hC := Tryd.slices_Sort_int g 0 cap es w hH ((Array.getElem?_eq_some_iff.1 hg).1) (by omega)
    have hlen := sortI_len es
    refine hC.mono fun e w' ⟨he, n, os, hw⟩ => ?_
    have hw : w' = grow (putRow (Value.int .i64) (Sort.ahead w n) g 0 (sortI es).toArray) os := hw
    have hS : Save (· = g) w w' := by rw [hw]; exact save_sortedI _
    refine ⟨he, ⟨by simp [vals], .inr ⟨g, cap, putCells (Value.int .i64) 0 (sortI es).toArray cur, ?_, hlo, ?_, ?_, hmax, ?_, ?_⟩⟩, ⟨hS.os, hS.tape, hS.output, hS.size, fun k hk hne => hS.block k hk fun e => hne (by rw [e]; rfl)⟩⟩
    · rw [hlen]
    · rw [hw]; exact heap_sortedI _ hg
    · rw [hlen]; exact hcap
    · simp [putCells]; simpa using hsz
    · rw [Nat.mul_one]
      exact take_putI cur (sortI es) (by rw [hlen]; omega)

end Go.Proofs.YtaobkanliiiapaaDoor
