/- The reference's l1Has and l1Put at lists of up to a thousand numbers. -/
import Derived.Test.YtfbpcdmpkbjifaaDoorC807
import Derived.Test.YtfbpcdmpkbjifaaDoorC809
import Derived.Test.YtfbpcdmpkbjifaaDoorC801
import Derived.Test.YtfbpcdmpkbjifaaDoorC803
import Derived.Test.YtfbpcdmpkbjifaaDoorC802
import Derived.Test.YtfbpcdmpkbjifaaDoorC806
import Derived.Lib.QuietBelow
import Derived.Laws.OwnMore
import Derived.Ground.Names2Prog
import Derived.Shelf.Slices.SearchI
import Derived.Test.YtfbpcdmpkbjifaaDoorProg

namespace Go.Proofs.YtfbpcdmpkbjifaaDoor
open Go.RowKit

set_option maxRecDepth 20000 in
set_option maxHeartbeats 400000 in
theorem l1HasW_any (A : Option Addr) (xs : List Int) (c : Nat) (n : Int) (w : World) (hx : Ints w w.heap.size A xs) (h1 : xs.length ≤ 1000) :
    Calls Tryd.prog 80 #[.slice A xs.length c, .int .i64 n] w fun e w' => e = .returned (.bool (xs.contains n)) ∧ w' = w := by
  have HX := Lib.hid hx; clear hx
  go_enter Tryd.func80, Tryd.ntmps80
  go_wp2
  go_loopw [9] (fun i wr => ∃ (k : Nat), k ≤ xs.length ∧ i = .int .i64 k ∧ wr = w ∧ Hid (∀ (j : Nat) (x : Int), j < k → xs[j]? = some x → x ≠ n)) (fun i _ => xs.length - (intOf i).toNat)
  case atStart => exact ⟨0, by omega, rfl, rfl, fun j x h => absurd h (by omega)⟩
  case round =>
    obtain ⟨k, hk, rfl, rfl, H⟩ := hrel
    by_cases hlt : k < xs.length
    · obtain ⟨p, o, rfl, hb, c1⟩ := HX.out.at_ hlt
      by_cases he : xs[k] = n
      · have HE : Hid (xs.contains n = true) := by
          show _ = _
          rw [List.contains_iff_mem]
          exact he ▸ List.getElem_mem hlt
        have ht := beq_t he
        clear he
        go_wp2
        go_ret
        exact ⟨ret_bool HE.out.symm, rfl⟩
      · have HE := Lib.hid (upto_step (Q := fun x => x ≠ n) hlt he H.out)
        have ht := beq_f he
        clear he
        go_wp2
        go_roundw
        case rel => exact ⟨k + 1, by omega, by go_num, by simp, HE.out⟩
        case measure => simp [intOf]; omega
    · have HE : Hid (xs.contains n = false) := by
        show _ = _
        cases h : xs.contains n
        · rfl
        · rw [List.contains_iff_mem] at h
          obtain ⟨j, hj⟩ := List.mem_iff_getElem?.1 h
          exact absurd rfl (H.out j n (by have := (List.getElem?_eq_some_iff.1 hj).1; omega) hj)
      go_wp2
      go_ret
      exact ⟨ret_bool HE.out.symm, rfl⟩

set_option maxRecDepth 20000 in
set_option maxHeartbeats 1000000 in
theorem l1PutW_any (lo : Nat) (v : Value) (xs : List Int) (n : Int) (w : World) (hv : OwnV w lo v xs) (hr : Rises xs) (hn : n ∉ xs) (h1 : xs.length ≤ 1000) :
    Calls Tryd.prog 123 #[v, .int .i64 n] w (PutOne w xs n) := by
  obtain ⟨i0, hi0, hz0, hz1, hz2⟩ := info_of Tryd.infoInt
  rcases hv.2 with ⟨rfl, h0⟩ | ⟨g, c, cur, rfl, hlo, hb, hc, hm, h3, h4⟩
  · have e : xs = [] := List.eq_nil_of_length_eq_zero h0
    subst e
    clear hv hr hn h0 h1
    have HE0 := Lib.hid (own_empty w)
    have HB0 : Hid (Below w.heap.size w (w.alloc (.cells #[] 3))) := (Below.refl w.heap.size w).alloc (Nat.le_refl _) _
    go_enter Tryd.func123, Tryd.ntmps123
    go_wp2
    refine wp_loop_rounds 1 ?_
    rw [rounds_succ]
    have HA1 := Lib.hid (HE0.out.alloc (.cells #[.int .i64 n] 3))
    have hnew := cell_one_new (w.alloc (.cells #[] 3)) (.int .i64 n) 3
    rw [World.size_alloc] at hnew
    have HN2 := Lib.hid hnew; clear hnew
    go_wp2_with (first
      | (at_builtin
         refine append_nil_at rfl (.tmp 34) (.tmp 37) _ rfl w.heap.size 3 i0 1 Tryd.underlying22 hi0 _ _ _ rfl HE0.out 0 rfl ?_)
      | (at_builtin
         refine wpList_append_own _ rfl (.tmp 39) (.tmp 41) _ rfl w.heap.size 3 i0 _ 1 8 Tryd.underlying22 hi0 hz0 hz1 hz2 rfl (by omega) _ _ _ rfl HA1.out ⟨w.heap.size + 1, 0, none⟩ 1 1 [.int .i64 n] rfl rfl HN2.out (by intro u hu; simp at hu; subst hu; rfl) (by unfold maxLen; omega) (by omega) (by simp; omega) ?_
         intro v2 w2 h1 h2 h3
         have HB2 : Hid (Below w.heap.size w w2) := (HB0.out.alloc HB0.out.size _).grown h2 (by simp; omega) fun j hj => (HE0.out.lt j hj).1
         have HO2 := Lib.hid h1
         clear h1 h2 h3)
      | (at_builtin
         refine append_nil_at rfl (.tmp 43) (.tmp 46) _ rfl w.heap.size 3 i0 1 Tryd.underlying22 hi0 _ _ _ rfl HO2.out 0 rfl ?_))
    go_ret
    refine ⟨v2, [n], rfl, by simp [Rises], fun x => by simp, rfl, HO2.out, HB2.out⟩
  obtain ⟨A, c', e', hc', hx⟩ := hv.shape
  injection e' with e1 _ e3
  subst e1 e3
  obtain ⟨p, o, hpo⟩ : ∃ p o, (⟨g, 0, none⟩ : Addr) = ⟨p, o, none⟩ := ⟨_, _, rfl⟩
  rw [hpo] at hx ⊢
  clear hv hlo hb h3 h4 hc' hpo
  unfold maxLen at hm
  have HX := Lib.hid hx; clear hx
  have HR := Lib.hid hr; clear hr
  have HN := Lib.hid hn; clear hn
  go_enter Tryd.func123, Tryd.ntmps123
  go_wp2
  go_loopw [5] (fun i wr => ∃ (k : Nat), k ≤ xs.length ∧ i = .int .i64 k ∧ wr = w ∧ Hid (∀ (j : Nat) (x : Int), j < k → xs[j]? = some x → x < n)) (fun i _ => xs.length - (intOf i).toNat)
  case atStart => exact ⟨0, by omega, rfl, rfl, fun j x h => absurd h (by omega)⟩
  case round =>
    obtain ⟨k, hk, rfl, rfl, H⟩ := hrel
    by_cases hlt : k < xs.length
    · have c1 : wr.cell? ⟨p, o + k, none⟩ = some (.int .i64 xs[k]) := by
        obtain ⟨p', o', e, _, h⟩ := HX.out.at_ hlt
        injection e with e
        injection e with e1 e2
        subst e1 e2
        exact h
      by_cases hl : xs[k] < n
      · have HE := Lib.hid (upto_step (Q := fun x => x < n) hlt hl H.out)
        go_wp2
        go_roundw
        case rel => exact ⟨k + 1, by omega, by go_num, by simp, HE.out⟩
        case measure => simp [intOf]; omega
      · have hne : xs[k] ≠ n := fun e => HN.out (e ▸ List.getElem_mem hlt)
        have hq := beq_f hne
        have HP := Lib.hid (rises_put (k := k) HR.out H.out fun x hx => by
          rw [List.getElem?_eq_getElem hlt] at hx
          injection hx with hx
          omega)
        clear hne
        have HN1 : Hid (∀ (j : Nat) (u : Value), (vals (xs.take k))[j]? = some u → (wr.alloc (.cells #[] 3)).cell? ((⟨p, o, none⟩ : Addr).add j) = some u) := (((HX.out.take k).keep ((Below.refl wr.heap.size wr).alloc (Nat.le_refl _) _))).src2
        have HE0 := Lib.hid (own_empty wr)
        have HD := Lib.hid (HX.out.drop k)
        have hkl : (xs.take k).length = k := by rw [List.length_take]; omega
        have hdl : (xs.drop k).length = xs.length - k := List.length_drop
        have HKL := Lib.hid hkl; clear hkl
        have HDL := Lib.hid hdl; clear hdl
        go_wp2_with (first
          | (at_builtin
             refine wpList_append_own _ rfl (.tmp 34) (.tmp 37) _ rfl wr.heap.size 3 i0 _ 1 8 Tryd.underlying22 hi0 hz0 hz1 hz2 rfl (by omega) _ _ _ rfl HE0.out ⟨p, o, none⟩ k c (vals (xs.take k)) rfl (by rw [vals_length, HKL.out]; omega) HN1.out (vals_one _) (by unfold maxLen; omega) (by omega) (by simp) ?_
             intro v1 w1 h1 h2 h3
             have HO1 := Lib.hid h1
             have HB1 : Hid (Below wr.heap.size wr w1) := (((Below.refl wr.heap.size wr).alloc (Nat.le_refl _) _)).grown h2 (by simp) fun j hj => (HE0.out.lt j hj).1
             have hs1 : wr.heap.size ≤ w1.heap.size := HB1.out.size
             have HA1 := Lib.hid (h1.alloc (.cells #[.int .i64 n] 3))
             have HN2 := Lib.hid (cell_one_new w1 (.int .i64 n) 3)
             clear h1 h2 h3)
          | (at_builtin
             refine wpList_append_own _ rfl (.tmp 39) (.tmp 41) _ rfl wr.heap.size 3 i0 _ 1 8 Tryd.underlying22 hi0 hz0 hz1 hz2 rfl (by omega) _ _ _ rfl HA1.out ⟨w1.heap.size, 0, none⟩ 1 1 [.int .i64 n] rfl rfl HN2.out (by intro u hu; simp at hu; subst hu; rfl) (by unfold maxLen; omega) (by omega) (by simp; omega) ?_
             intro v2 w2 h1 h2 h3
             have HB2 : Hid (Below wr.heap.size wr w2) := (HB1.out.alloc HB1.out.size _).grown h2 (by simp; omega) fun j hj => (HO1.out.lt j hj).1
             have HO2 := Lib.hid h1
             have hs2 : wr.heap.size ≤ w2.heap.size := HB2.out.size
             have HN3 : Hid (∀ (j : Nat) (u : Value), (vals (xs.drop k))[j]? = some u → w2.cell? ((⟨p, o + k, none⟩ : Addr).add j) = some u) := (HD.out.keep HB2.out).src2
             clear h1 h2 h3)
          | (at_builtin
             refine wpList_append_own _ rfl (.tmp 43) (.tmp 46) _ rfl wr.heap.size 3 i0 _ 1 8 Tryd.underlying22 hi0 hz0 hz1 hz2 rfl (by omega) _ _ _ rfl HO2.out ⟨p, o + k, none⟩ (xs.length - k) (c - k) (vals (xs.drop k)) rfl (by rw [vals_length, HDL.out]; omega) HN3.out (vals_one _) (by unfold maxLen; omega) (by omega) hs2 ?_
             intro v3 w3 h1 h2 h3
             have HB3 : Hid (Below wr.heap.size wr w3) := HB2.out.grown h2 (by omega) fun j hj => (HO2.out.lt j hj).1
             have HO3 := Lib.hid h1
             clear h1 h2 h3))
        go_ret
        refine ⟨v3, xs.take k ++ [n] ++ xs.drop k, rfl, HP.out.1, HP.out.2, by simp; omega, ?_, HB3.out⟩
        show World.ownsRow _ _ _ _ _ _ _
        have e1 : (xs.take k ++ [n] ++ xs.drop k).length = 0 + k + 1 + (xs.length - k) := by simp; omega
        have e2 : vals (xs.take k ++ [n] ++ xs.drop k) = [] ++ vals (xs.take k) ++ [.int .i64 n] ++ vals (xs.drop k) := by simp [vals]
        rw [e1, e2]
        exact HO3.out
    · obtain rfl : k = xs.length := by omega
      have HP := Lib.hid (rises_put (k := xs.length) HR.out H.out fun x hx => by simp at hx)
      have HN1 : Hid (∀ (j : Nat) (u : Value), (vals xs)[j]? = some u → (wr.alloc (.cells #[] 3)).cell? ((⟨p, o, none⟩ : Addr).add j) = some u) := ((HX.out.keep ((Below.refl wr.heap.size wr).alloc (Nat.le_refl _) _))).src2
      have HE0 := Lib.hid (own_empty wr)
      by_cases hcx : c = xs.length
      · subst hcx
        go_wp2_with (first
          | (at_builtin
             refine wpList_append_own _ rfl (.tmp 34) (.tmp 37) _ rfl wr.heap.size 3 i0 _ 1 8 Tryd.underlying22 hi0 hz0 hz1 hz2 rfl (by omega) _ _ _ rfl HE0.out ⟨p, o, none⟩ xs.length xs.length (vals xs) rfl (by rw [vals_length]; omega) HN1.out (vals_one _) (by unfold maxLen; omega) (by omega) (by simp) ?_
             intro v1 w1 h1 h2 h3
             have HO1 := Lib.hid h1
             have HB1 : Hid (Below wr.heap.size wr w1) := (((Below.refl wr.heap.size wr).alloc (Nat.le_refl _) _)).grown h2 (by simp) fun j hj => (HE0.out.lt j hj).1
             have hs1 : wr.heap.size ≤ w1.heap.size := HB1.out.size
             have HA1 := Lib.hid (h1.alloc (.cells #[.int .i64 n] 3))
             have HN2 := Lib.hid (cell_one_new w1 (.int .i64 n) 3)
             clear h1 h2 h3)
          | (at_builtin
             refine wpList_append_own _ rfl (.tmp 39) (.tmp 41) _ rfl wr.heap.size 3 i0 _ 1 8 Tryd.underlying22 hi0 hz0 hz1 hz2 rfl (by omega) _ _ _ rfl HA1.out ⟨w1.heap.size, 0, none⟩ 1 1 [.int .i64 n] rfl rfl HN2.out (by intro u hu; simp at hu; subst hu; rfl) (by unfold maxLen; omega) (by omega) (by simp; omega) ?_
             intro v2 w2 h1 h2 h3
             have HB2 : Hid (Below wr.heap.size wr w2) := (HB1.out.alloc HB1.out.size _).grown h2 (by simp; omega) fun j hj => (HO1.out.lt j hj).1
             have HO2 := Lib.hid h1
             have hs2 : wr.heap.size ≤ w2.heap.size := HB2.out.size
             clear h1 h2 h3)
          | (at_builtin
             refine wpList_append_own _ rfl (.tmp 43) (.tmp 46) _ rfl wr.heap.size 3 i0 _ 1 8 Tryd.underlying22 hi0 hz0 hz1 hz2 rfl (by omega) _ _ _ rfl HO2.out ⟨p, o, none⟩ 0 0 [] rfl rfl (fun j u h => by simp at h) (by simp) (by unfold maxLen; omega) (by omega) hs2 ?_
             intro v3 w3 h1 h2 h3
             have HB3 : Hid (Below wr.heap.size wr w3) := HB2.out.grown h2 (by omega) fun j hj => (HO2.out.lt j hj).1
             have HO3 := Lib.hid h1
             clear h1 h2 h3))
        go_ret
        refine ⟨v3, xs.take xs.length ++ [n] ++ xs.drop xs.length, rfl, HP.out.1, HP.out.2, by simp, ?_, HB3.out⟩
        show World.ownsRow _ _ _ _ _ _ _
        have e1 : (xs.take xs.length ++ [n] ++ xs.drop xs.length).length = 0 + xs.length + 1 + 0 := by simp
        have e2 : vals (xs.take xs.length ++ [n] ++ xs.drop xs.length) = [] ++ vals xs ++ [.int .i64 n] ++ [] := by simp [vals]
        rw [e1, e2]
        exact HO3.out

      · have hcp : ¬ c - xs.length = 0 := by omega
        go_wp2_with (first
          | (at_builtin
             refine wpList_append_own _ rfl (.tmp 34) (.tmp 37) _ rfl wr.heap.size 3 i0 _ 1 8 Tryd.underlying22 hi0 hz0 hz1 hz2 rfl (by omega) _ _ _ rfl HE0.out ⟨p, o, none⟩ xs.length c (vals xs) rfl (by rw [vals_length]; omega) HN1.out (vals_one _) (by unfold maxLen; omega) (by omega) (by simp) ?_
             intro v1 w1 h1 h2 h3
             have HO1 := Lib.hid h1
             have HB1 : Hid (Below wr.heap.size wr w1) := (((Below.refl wr.heap.size wr).alloc (Nat.le_refl _) _)).grown h2 (by simp) fun j hj => (HE0.out.lt j hj).1
             have hs1 : wr.heap.size ≤ w1.heap.size := HB1.out.size
             have HA1 := Lib.hid (h1.alloc (.cells #[.int .i64 n] 3))
             have HN2 := Lib.hid (cell_one_new w1 (.int .i64 n) 3)
             clear h1 h2 h3)
          | (at_builtin
             refine wpList_append_own _ rfl (.tmp 39) (.tmp 41) _ rfl wr.heap.size 3 i0 _ 1 8 Tryd.underlying22 hi0 hz0 hz1 hz2 rfl (by omega) _ _ _ rfl HA1.out ⟨w1.heap.size, 0, none⟩ 1 1 [.int .i64 n] rfl rfl HN2.out (by intro u hu; simp at hu; subst hu; rfl) (by unfold maxLen; omega) (by omega) (by simp; omega) ?_
             intro v2 w2 h1 h2 h3
             have HB2 : Hid (Below wr.heap.size wr w2) := (HB1.out.alloc HB1.out.size _).grown h2 (by simp; omega) fun j hj => (HO1.out.lt j hj).1
             have HO2 := Lib.hid h1
             have hs2 : wr.heap.size ≤ w2.heap.size := HB2.out.size
             clear h1 h2 h3)
          | (at_builtin
             refine wpList_append_own _ rfl (.tmp 43) (.tmp 46) _ rfl wr.heap.size 3 i0 _ 1 8 Tryd.underlying22 hi0 hz0 hz1 hz2 rfl (by omega) _ _ _ rfl HO2.out ⟨p, o + xs.length, none⟩ 0 (c - xs.length) [] rfl rfl (fun j u h => by simp at h) (by simp) (by unfold maxLen; omega) (by omega) hs2 ?_
             intro v3 w3 h1 h2 h3
             have HB3 : Hid (Below wr.heap.size wr w3) := HB2.out.grown h2 (by omega) fun j hj => (HO2.out.lt j hj).1
             have HO3 := Lib.hid h1
             clear h1 h2 h3))
        go_ret
        refine ⟨v3, xs.take xs.length ++ [n] ++ xs.drop xs.length, rfl, HP.out.1, HP.out.2, by simp, ?_, HB3.out⟩
        show World.ownsRow _ _ _ _ _ _ _
        have e1 : (xs.take xs.length ++ [n] ++ xs.drop xs.length).length = 0 + xs.length + 1 + 0 := by simp
        have e2 : vals (xs.take xs.length ++ [n] ++ xs.drop xs.length) = [] ++ vals xs ++ [.int .i64 n] ++ [] := by simp [vals]
        rw [e1, e2]
        exact HO3.out

end Go.Proofs.YtfbpcdmpkbjifaaDoor

/- The reference's l6Up: a list, and all that stands for one of it. -/

namespace Go.Proofs.YtfbpcdmpkbjifaaDoor
open Go.RowKit

/-- What pairs say. -/
def DP (ps : List (List Int)) : Int → Int → Prop := fun l x => [l, x] ∈ ps
/-- The list so far: on the way to the least set. -/
structure InU (ps : List (List Int)) (S0 : List Int) (ys : List Int) : Prop where
  rises : Rises ys
  fit : ∀ y ∈ ys, -4 ≤ y ∧ y < 40
  base : ∀ x ∈ S0, x ∈ ys
  sound : ∀ y ∈ ys, ∃ x ∈ S0, Ups (DP ps) x y
theorem InU.start {ps : List (List Int)} {S0 : List Int} (hr : Rises S0) (hf : ∀ y ∈ S0, -4 ≤ y ∧ y < 40) : InU ps S0 S0 := ⟨hr, hf, fun _ h => h, fun y h => ⟨y, h, Ups.refl _ _⟩⟩
theorem InU.put {ps : List (List Int)} {S0 xs ys : List Int} (h : InU ps S0 xs) {l x : Int} (hr : Rises ys) (hm : ∀ y, y ∈ ys ↔ y = l ∨ y ∈ xs) (hd : [l, x] ∈ ps) (hx : x ∈ xs) (hl : -4 ≤ l ∧ l < 40) : InU ps S0 ys :=
  ⟨hr, fun y hy => ((hm y).1 hy).elim (fun e => e ▸ hl) (h.fit y), fun y hy => (hm y).2 (.inr (h.base y hy)), fun y hy => by
    rcases (hm y).1 hy with rfl | hy
    · obtain ⟨z, hz, hu⟩ := h.sound x hx
      exact ⟨z, hz, hu.step hd⟩
    · exact h.sound y hy⟩
theorem InU.len {ps : List (List Int)} {S0 ys : List Int} (h : InU ps S0 ys) : ys.length ≤ 44 := by
  have := nodup_le ys ((List.range 44).map fun (k : Nat) => (k : Int) - 4) (h.rises.imp fun h => by omega) fun x hx => by
    have h := h.fit x hx
    exact List.mem_map.2 ⟨(x + 4).toNat, List.mem_range.2 (by omega), by omega⟩
  simpa using this
/-- What the first k pairs add is there. -/
def UpTo (ys : List Int) (ls : List Li) (k : Nat) : Prop := ∀ (j : Nat) (u : Li), j < k → ls[j]? = some u → ∀ l x, u.r = [l, x] → x ∈ ys → l ∈ ys
theorem UpTo.zero (ys : List Int) (ls : List Li) : UpTo ys ls 0 := fun j u h => absurd h (by omega)
theorem UpTo.step {ys : List Int} {ls : List Li} {k : Nat} (h : UpTo ys ls k) {u : Li} (hu : ls[k]? = some u) (h2 : ∀ l x, u.r = [l, x] → x ∈ ys → l ∈ ys) : UpTo ys ls (k + 1) := fun j v hj hv => by
  by_cases e : j = k
  · subst e; rw [hu] at hv; injection hv with hv; subst hv; exact h2
  · exact h j v (by omega) hv
theorem InU.done {ls : List Li} {S0 ys : List Int} (h : InU (sayL ls) S0 ys) (hc : UpTo ys ls ls.length) : IsUp (DP (sayL ls)) (setL S0) (setL ys) := by
  refine ⟨fun x hx => setL_iff.2 (h.base x (setL_iff.1 hx)), fun l x hd hx => ?_, fun S' h0 hs x hx => ?_⟩
  · obtain ⟨u, hu, e⟩ := List.mem_map.1 hd
    obtain ⟨k, hk, ek⟩ := List.getElem_of_mem hu
    exact setL_iff.2 (hc k u hk (by rw [← ek]; exact List.getElem?_eq_getElem hk) l x e (setL_iff.1 hx))
  · obtain ⟨z, hz, hu⟩ := h.sound x (setL_iff.1 hx)
    exact hu (fun y => S' y = true) (h0 z (setL_iff.2 hz)) hs

set_option maxRecDepth 20000 in
set_option maxHeartbeats 1000000 in
theorem l6Up_any (A Al : Option Addr) (ds : List Li) (xs : List Int) (c cl : Nat) (w : World) (hP : Lls w w.heap.size A ds) (h2 : ∀ u ∈ ds, ∃ l x, u.r = [l, x] ∧ (0 ≤ l ∧ l < 40) ∧ (-4 ≤ x ∧ x < 40)) (hx : Ints w w.heap.size Al xs) (hr : Rises xs) (hf : ∀ x ∈ xs, -4 ≤ x ∧ x < 40) (hdl : ds.length ≤ 4000) :
    Calls Tryd.prog 124 #[.slice A ds.length c, .slice Al xs.length cl] w (GaveV w fun ys => Rises ys ∧ (∀ y ∈ ys, -4 ≤ y ∧ y < 40) ∧ IsUp (DP (sayL ds)) (setL xs) (setL ys)) := by
  have HP := Lib.hid hP; clear hP
  have H2 := Lib.hid h2; clear h2
  have HI0 : Hid (InU (sayL ds) xs xs) := InU.start hr hf
  have hxl := HI0.out.len
  have HC := Lib.hid (l1OwnW_any Al xs cl w hx (by omega))
  clear hx hr hf
  go_enter Tryd.func124, Tryd.ntmps124
  go_wp2_with fail
  refine HC.out.mono ?_
  rintro e w1 ⟨v1, rfl, hO1, hB1⟩
  have HV1 : Hid (OwnV w1 w.heap.size v1 xs) := hO1
  have HB1 := Lib.hid hB1
  clear hO1 hB1 HC
  go_wp2
  go_loopg [5, 6] (2 * (44 - xs.length) + 1) (fun g v m wr => ∃ (more : Bool) (ys : List Int), m = .bool more ∧ g + 2 * ys.length = 88 + (if more then 1 else 0) ∧ Hid (OwnV wr w.heap.size v ys) ∧ Hid (InU (sayL ds) xs ys) ∧ Hid (Below w.heap.size w wr) ∧ Hid (more = false → UpTo ys ds ds.length))
  case atStart => exact ⟨true, xs, rfl, by simp; omega, HV1.out, HI0.out, HB1.out, fun h => by cases h⟩
  case round =>
    clear HV1 HB1 HI0
    obtain ⟨more, ys, rfl, hgk, HV, HI, HB, HC⟩ := hrel
    have hl44 := HI.out.len
    cases more
    · have HD := Lib.hid (HI.out.done (HC.out rfl))
      go_wp2
      go_ret
      exact ⟨_, ys, rfl, ⟨HI.out.rises, HI.out.fit, HD.out⟩, HV.out, HB.out⟩
    · rw [if_pos rfl] at hgk
      clear HC
      obtain ⟨wO, hwO⟩ : ∃ x, x = wr := ⟨_, rfl⟩
      subst hwO
      go_wp2
      go_loopw [5, 6, 14] (fun v m i wr => ∃ (k : Nat) (more : Bool) (zs : List Int), k ≤ ds.length ∧ i = .int .i64 k ∧ m = .bool more ∧ Hid (OwnV wr w.heap.size v zs) ∧ Hid (InU (sayL ds) xs zs) ∧ Hid (Below w.heap.size w wr) ∧ Hid (more = true → ys.length < zs.length) ∧ Hid (more = false → zs = ys ∧ UpTo zs ds k)) (fun _ _ i _ => ds.length - (intOf i).toNat)
      case atStart => exact ⟨0, false, ys, by omega, rfl, rfl, HV.out, HI.out, HB.out, fun h => (by cases h), fun _ => ⟨rfl, UpTo.zero _ _⟩⟩
      case round =>
        clear HV HB
        obtain ⟨k, more, zs, hk, rfl, rfl, HV, HIZ, HB, HM, HC⟩ := hrel
        by_cases hlt : k < ds.length
        · have hws := HB.out.size
          have hz44 := HIZ.out.len
          obtain ⟨Av, cv, rfl, hOi, hcv⟩ := own_slice (ys := zs) HV.out
          have HZI := Lib.hid hOi.ints
          obtain ⟨bb, oo, eA, hbb, d1, hcap, hI⟩ := (HP.out.keep HB.out).at_ hlt
          obtain ⟨l, x, er, hl, hxr⟩ := H2.out _ (List.getElem_mem hlt)
          have HUK := Lib.hid (List.getElem?_eq_getElem hlt)
          have HMEM : Hid ([l, x] ∈ sayL ds) := by show _ ∈ _; rw [← er]; exact sayL_mem (List.getElem_mem hlt)
          have HER := Lib.hid er
          rw [er] at hI d1 hcap
          obtain ⟨pp, po, ea, c0, c1⟩ := ints_two hI
          rw [eA]
          clear hI eA er hOi
          generalize ds[k] = u at d1 hcap ea HUK HER
          obtain ⟨ua, ur, uc⟩ := u
          dsimp only at d1 hcap ea
          subst ea
          have HC1 : Hid (Calls Tryd.prog 80 #[.slice Av zs.length cv, .int .i64 x] wr fun e w' => e = .returned (.bool (setL zs x)) ∧ w' = wr) := l1HasW_any Av zs cv x wr HZI.out (by omega)
          have HC2 : Hid (Calls Tryd.prog 80 #[.slice Av zs.length cv, .int .i64 l] wr fun e w' => e = .returned (.bool (setL zs l)) ∧ w' = wr) := l1HasW_any Av zs cv l wr HZI.out (by omega)
          go_wp2_with fail
          refine HC1.out.mono ?_
          rintro e w5 ⟨rfl, hw5⟩
          have hw5' := hw5.symm
          subst hw5'
          clear hw5 HC1
          cases hsx : setL zs x
          · have HNX : Hid (x ∉ zs) := fun h => by rw [setL_iff.2 h] at hsx; cases hsx
            have HCN : Hid (more = false → zs = ys ∧ UpTo zs ds (k + 1)) := fun h => ⟨(HC.out h).1, (HC.out h).2.step HUK.out fun l' x' e hx' => by
              rw [HER.out] at e
              simp at e
              exact absurd (e.2 ▸ hx') HNX.out⟩
            clear hsx
            go_wp2
            go_roundw
            case rel => exact ⟨k + 1, more, zs, by omega, by go_num, rfl, HV.out, HIZ.out, HB.out, HM.out, HCN.out⟩
            case measure => simp [intOf]; omega
          · have HYX : Hid (x ∈ zs) := setL_iff.1 hsx
            clear hsx
            go_wp2_with fail
            refine HC2.out.mono ?_
            rintro e w6 ⟨rfl, hw6⟩
            have hw6' := hw6.symm
            subst hw6'
            clear hw6 HC2
            cases hsl : setL zs l
            · have hnl : l ∉ zs := fun h => by rw [setL_iff.2 h] at hsl; cases hsl
              have HCP := Lib.hid (l1PutW_any w.heap.size _ zs l wr HV.out HIZ.out.rises hnl (by omega))
              clear hsl hnl
              go_wp2_with fail
              refine HCP.out.mono ?_
              rintro e w7 ⟨v7, gs, rfl, hr7, hm7, hl7, hO7, hB7⟩
              have HI7 := Lib.hid (HIZ.out.put hr7 hm7 HMEM.out HYX.out (by omega))
              have HV7 : Hid (OwnV w7 w.heap.size v7 gs) := OwnV.lower hO7 hws
              have HB7 := Lib.hid (HB.out.trans (hB7.mono hws))
              have HM7 : Hid (ys.length < gs.length) := by
                show _ < _
                cases more
                · rw [(HC.out rfl).1] at hl7; omega
                · have := HM.out rfl; omega
              clear hr7 hm7 hO7 hB7 HCP
              go_wp2
              go_roundw
              case rel => exact ⟨k + 1, true, gs, by omega, by go_num, rfl, HV7.out, HI7.out, HB7.out, fun _ => HM7.out, fun h => by cases h⟩
              case measure => simp [intOf]; omega
            · have HYL : Hid (l ∈ zs) := setL_iff.1 hsl
              have HCN : Hid (more = false → zs = ys ∧ UpTo zs ds (k + 1)) := fun h => ⟨(HC.out h).1, (HC.out h).2.step HUK.out fun l' x' e _ => by
                rw [HER.out] at e
                simp at e
                exact e.1 ▸ HYL.out⟩
              clear hsl
              go_wp2
              go_roundw
              case rel => exact ⟨k + 1, more, zs, by omega, by go_num, rfl, HV.out, HIZ.out, HB.out, HM.out, HCN.out⟩
              case measure => simp [intOf]; omega
        · obtain rfl : k = ds.length := by omega
          have hz44 := HIZ.out.len
          cases more
          · obtain ⟨e, hc⟩ := HC.out rfl
            subst e
            have HCC := Lib.hid hc
            clear hc
            go_wp2
            go_roundg (2 * (44 - zs.length))
            case measure => omega
            case rel => exact ⟨false, zs, rfl, by simp; omega, HV.out, HIZ.out, HB.out, fun _ => HCC.out⟩
          · have hlz := HM.out rfl
            go_wp2
            go_roundg (2 * (44 - zs.length) + 1)
            case measure => omega
            case rel => exact ⟨true, zs, rfl, by simp; omega, HV.out, HIZ.out, HB.out, fun h => by cases h⟩

end Go.Proofs.YtfbpcdmpkbjifaaDoor

/- The reference's l6Row. -/

namespace Go.Proofs.YtfbpcdmpkbjifaaDoor
open Go.RowKit

theorem DP_eq {ps : List (List Int)} {D : Int → Int → Prop} (h : ∀ z, z ∈ ps ↔ ∃ l x, z = [l, x] ∧ D l x) : DP ps = D := by
  funext l x
  refine propext ((h [l, x]).trans ⟨fun ⟨l', x', e, hd⟩ => ?_, fun hd => ⟨l, x, rfl, hd⟩⟩)
  simp at e
  rw [e.1, e.2]
  exact hd
theorem pairs_fit {s : Bs} (hg : GoodBs s) {ds : List Li} {N : Int → Bool} (h : ∀ z, z ∈ sayL ds ↔ ∃ l x, z = [l, x] ∧ DirB N s.P s.O l x) : ∀ u ∈ ds, ∃ l x, u.r = [l, x] ∧ (0 ≤ l ∧ l < 40) ∧ (-4 ≤ x ∧ x < 40) := fun u hu => by
  obtain ⟨l, x, e, hd⟩ := (h u.r).1 (sayL_mem hu)
  refine ⟨l, x, e, ?_⟩
  have h1 := dirB_sym hg hd
  have h2 := nonB_is h1.1
  have h3 := of_decide_eq_true h1.2
  have := hg.1
  have := hg.2.1
  omega
theorem PPairs.len {s : Bs} (hg : GoodBs s) {xs : List (List Int)} (h : PPairs s xs) : xs.length ≤ 1760 := by
  obtain ⟨N, _, h2, h3⟩ := h
  refine PM.len (D := DirB N s.P s.O) ⟨h2, h3⟩ fun l x hd => ?_
  have h1 := dirB_sym hg hd
  have h2 := nonB_is h1.1
  have h3 := of_decide_eq_true h1.2
  have := hg.1
  have := hg.2.1
  omega

/-- Those of a list that are no tokens. -/
def nnK (ys : List Int) (k : Nat) : List Int := (ys.take k).filter fun y => decide (0 ≤ y)
theorem nnK_yes {ys : List Int} {k : Nat} (hk : k < ys.length) (h : 0 ≤ ys[k]) : nnK ys (k + 1) = nnK ys k ++ [ys[k]] := by
  unfold nnK
  rw [List.take_succ_eq_append_getElem hk, List.filter_append]
  simp [h]
theorem nnK_no {ys : List Int} {k : Nat} (hk : k < ys.length) (h : ¬ 0 ≤ ys[k]) : nnK ys (k + 1) = nnK ys k := by
  unfold nnK
  rw [List.take_succ_eq_append_getElem hk, List.filter_append]
  simp [h]
theorem nnK_len (ys : List Int) (k : Nat) : (nnK ys k).length ≤ k := Nat.le_trans (List.length_filter_le _ _) (by rw [List.length_take]; omega)
theorem nnK_end {ys : List Int} (hr : Rises ys) : Rises (nnK ys ys.length) ∧ ∀ y, y ∈ nnK ys ys.length ↔ y ∈ ys ∧ 0 ≤ y := by
  unfold nnK
  rw [List.take_length]
  exact ⟨List.Pairwise.sublist List.filter_sublist hr, fun y => by rw [List.mem_filter, decide_eq_true_iff]⟩

set_option maxRecDepth 20000 in
set_option maxHeartbeats 600000 in
theorem l6Row_any (b : Bi) (x : Int) (w : World) (hx : ReadB w w.heap.size b) (hm : LenB 1048576 b) (hg : GoodBs b.say) (hsx : symB b.n b.t x = true) :
    Calls Tryd.prog 121 #[(.agg #[.int .i64 b.n, .int .i64 b.t, .slice b.Ap b.P.length b.cp, .slice b.Ao b.O.length b.co, .slice b.Ae b.E.length b.ce, .slice b.Af b.F.length b.cf]), .int .i64 x] w (GaveV w fun ys => Rises ys ∧ (∀ y ∈ ys, 0 ≤ y ∧ y < 40) ∧ PUp b.say (fun D => rowOf D x) (setL ys)) := by
  obtain ⟨i0, hi0, hz0, hz1, hz2⟩ := info_of Tryd.infoInt
  have HX := Lib.hid hx; clear hx
  have HM := Lib.hid hm; clear hm
  have HG := Lib.hid hg; clear hg
  have hxb : -4 ≤ x ∧ x < 40 := by
    have h := of_decide_eq_true hsx
    have := HG.out.1
    have := HG.out.2.1
    have e1 : b.say.n = b.n := rfl
    have e2 : b.say.t = b.t := rfl
    omega
  clear hsx
  have HB0 : Hid (Below w.heap.size w (w.alloc (.cells #[.int .i64 b.n, .int .i64 b.t, .slice b.Ap b.P.length b.cp, .slice b.Ao b.O.length b.co, .slice b.Ae b.E.length b.ce, .slice b.Af b.F.length b.cf] 55))) := by show Below _ _ _; go_grown
  go_enter Tryd.func121, Tryd.ntmps121
  go_wp2_with fail
  generalize w.alloc (.cells #[.int .i64 b.n, .int .i64 b.t, .slice b.Ap b.P.length b.cp, .slice b.Ao b.O.length b.co, .slice b.Ae b.E.length b.ce, .slice b.Af b.F.length b.cf] 55) = W at HB0 ⊢
  refine (l6Pairs_any b W ((HX.out.keep HB0.out).more HB0.out.size) HM.out HG.out).mono ?_
  rintro e w1 ⟨v1, ds, rfl, hL1, hP1, hB1⟩
  have hdl := hP1.len HG.out
  rw [sayL_len] at hdl
  obtain ⟨N, hN, _, hmem⟩ := hP1
  have HN := Lib.hid hN
  have HFIT := Lib.hid (pairs_fit HG.out hmem)
  have HDP := Lib.hid (DP_eq hmem)
  obtain ⟨A1, c1, rfl, _, hLl, _⟩ := hL1.shape
  have hs0 := HB0.out.size
  have HB1 := Lib.hid (HB0.out.trans (hB1.mono hs0))
  have HBA : Hid (Below w1.heap.size w1 (w1.alloc (.cells #[.int .i64 x] 3))) := (Below.refl _ _).alloc (Nat.le_refl _) _
  have HLA := Lib.hid ((hLl.keep HBA.out).more HBA.out.size)
  have HIA := Lib.hid (ints_oneU w1 x (w1.alloc (.cells #[.int .i64 x] 3)).heap.size (by simp))
  have HC := Lib.hid (l6Up_any A1 (some ⟨w1.heap.size, 0, none⟩) ds [x] c1 1 _ HLA.out HFIT.out HIA.out (by simp [Rises]) (by simp; omega) (by omega))
  clear hL1 hN hmem hLl hB1
  go_wp2_with fail
  refine HC.out.mono ?_
  rintro e w2 ⟨v2, ys, rfl, ⟨hr2, hf2, hU2⟩, hO2, hB2⟩
  obtain ⟨A2, c2, rfl, hO2i, hc2⟩ := own_slice (ys := ys) hO2
  rw [HDP.out] at hU2
  have HU := Lib.hid hU2
  have HF2 := Lib.hid hf2
  have HE := Lib.hid (nnK_end hr2)
  have HI2 := Lib.hid hO2i.ints
  have hs1 := HB1.out.size
  have HB2 := Lib.hid (HB1.out.trans ((HBA.out.trans (hB2.mono HBA.out.size)).mono hs1))
  have hs2 := HB2.out.size
  have HB2' := HB2
  have hl2 : ys.length ≤ 44 := by
    have := nodup_le ys ((List.range 44).map fun (k : Nat) => (k : Int) - 4) (hr2.imp fun h => by omega) fun x hx => by
      have h := hf2 x hx
      exact List.mem_map.2 ⟨(x + 4).toNat, List.mem_range.2 (by omega), by omega⟩
    simpa using this
  clear hO2 hO2i hU2 hf2 hr2 hB2 HC HLA HIA HBA HDP HFIT
  go_wp2
  go_loopw [5, 14] (fun v i wr => ∃ (k : Nat), k ≤ ys.length ∧ i = .int .i64 k ∧ Hid (Below w.heap.size w wr) ∧ Hid (Below w2.heap.size w2 wr) ∧ Hid (OwnV wr w2.heap.size v (nnK ys k))) (fun _ i _ => ys.length - (intOf i).toNat)
  case atStart => exact ⟨0, by omega, rfl, HB2.out, Below.refl _ _, OwnV.nil _ _⟩
  case round =>
    clear HB2
    obtain ⟨k, hk, rfl, HB, HBX, HO⟩ := hrel
    by_cases hlt : k < ys.length
    · obtain ⟨p, o, rfl, hb, c0⟩ := (HI2.out.keep HBX.out).at_ hlt
      have hnl := nnK_len ys k
      have hws := HBX.out.size
      by_cases hneg : 0 ≤ ys[k]
      · have HST := Lib.hid (nnK_yes hlt hneg)
        generalize ys[k] = y at c0 hneg HST
        have HOA : Hid ((wr.alloc (.cells #[.int .i64 y] 3)).ownsRow w2.heap.size 3 1 u5 (nnK ys k).length (vals (nnK ys k))) := World.ownsRow.alloc HO.out _
        have HNW := Lib.hid (cell_one_new wr (.int .i64 y) 3)
        go_wp2_with (at_builtin
                     refine wpList_append_own _ rfl (.tmp 20) (.tmp 22) _ rfl w2.heap.size 3 i0 _ 1 8 Tryd.underlying22 hi0 hz0 hz1 hz2 rfl (by omega) _ _ _ rfl HOA.out ⟨wr.heap.size, 0, none⟩ 1 1 [.int .i64 y] rfl rfl HNW.out (by simp [Value.oneCell']) (by unfold maxLen; omega) (by omega) (by simp; omega) ?_
                     intro v' w' h1 h2 h3
                     have HO' : Hid (OwnV w' w2.heap.size v' (nnK ys (k + 1))) := by rw [HST.out]; exact own_snocI h1 rfl
                     have HBX' : Hid (Below w2.heap.size w2 w') := (HBX.out.alloc hws _).grown h2 (by simp; omega) fun j hj => (HO.out.lt j hj).1
                     clear h1 h2 h3)
        have HB' : Hid (Below w.heap.size w w') := HB2'.out.trans (HBX'.out.mono hs2)
        go_roundw
        case rel => exact ⟨k + 1, by omega, by go_num, HB'.out, HBX'.out, HO'.out⟩
        case measure => simp [intOf]; omega
      · have HST := Lib.hid (nnK_no hlt hneg)
        generalize ys[k] = y at c0 hneg HST
        go_wp2
        go_roundw
        case rel => exact ⟨k + 1, by omega, by go_num, HB.out, HBX.out, by show OwnV _ _ _ _; rw [HST.out]; exact HO.out⟩
        case measure => simp [intOf]; omega
    · obtain rfl : k = ys.length := by omega
      have HP : Hid (PUp b.say (fun D => rowOf D x) (setL (nnK ys ys.length))) := ⟨N, HN.out, isUp_row (fun l x hd => (nonB_is (dirB_sym HG.out hd).1).1) (S := setL ys) (by
        have e : setL [x] = fun y => decide (y = x) := by funext y; simp [setL]
        rw [← e]; exact HU.out) fun y => by rw [setL_iff, setL_iff]; exact HE.out.2 y⟩
      go_wp2
      go_ret
      exact ⟨_, _, rfl, ⟨HE.out.1, fun y hy => by have h := (HE.out.2 y).1 hy; have := HF2.out y h.1; omega, HP.out⟩, OwnV.lower HO.out (by omega), HB.out⟩

end Go.Proofs.YtfbpcdmpkbjifaaDoor

/- The reference's UnitPairs, UnitRow, ClosedSet. -/

namespace Go.Proofs.YtfbpcdmpkbjifaaDoor
open Go.RowKit

theorem gaveP_list {w : World} {g : Bool} {P : (Int → Bool) → Prop} {w' : World} {ys : List Int} {v : Value} {lo : Nat} (hg : g = true) (hS : P (setL ys)) (hr : Rises ys) (hl : ys.length ≤ 40) (hO : OwnV w' lo v ys) (hlo : w.heap.size ≤ lo) (hB : Below w.heap.size w w') :
    GaveP w g P (.returned (.tuple #[v, .bool true])) w' := by
  subst hg
  obtain ⟨A, c, rfl, hOi, _⟩ := own_slice (ys := ys) hO
  exact ⟨ys, fun _ => ⟨setL ys, hS, hr, fun x => setL_iff.symm⟩, fun h => (by cases h), hl, A, c, rfl, hOi.lower hlo, hB⟩
theorem len40 {ys : List Int} (hr : Rises ys) (hf : ∀ y ∈ ys, 0 ≤ y ∧ y < 40) : ys.length ≤ 40 := len6 (S := setL ys) (hr.imp fun h => by omega) (fun _ h => setL_iff.2 h) fun x h => hf x (setL_iff.1 h)

end Go.Proofs.YtfbpcdmpkbjifaaDoor

/- Plain mathematics: the numbers of a chart's cells. -/

namespace Go.Proofs.YtfbpcdmpkbjifaaDoor
open Go.RowKit

/-- How many cells there are with at most k tokens, of n. -/
def shortN (n : Int) : Nat → Int
  | 0 => 0
  | k + 1 => shortN n k + (n - k)
/-- The number of the cell from f to t. -/
def noC (n f t : Int) : Int := f + shortN n (t - f - 1).toNat
/-- n, f and t are as said. -/
def spanB (n f t : Int) : Bool := decide ((0 ≤ n ∧ n ≤ 10) ∧ (0 ≤ f ∧ f < t ∧ t ≤ n))
theorem spanB_t {n f t : Int} (h0 : 0 ≤ n) (h1 : n ≤ 10) (h2 : 0 ≤ f) (h3 : f < t) (h4 : t ≤ n) : spanB n f t = true := decide_eq_true ⟨⟨h0, h1⟩, h2, h3, h4⟩
theorem spanB_is {n f t : Int} (h : spanB n f t = true) : (0 ≤ n ∧ n ≤ 10) ∧ (0 ≤ f ∧ f < t ∧ t ≤ n) := of_decide_eq_true h
theorem spanB_f {n f t : Int} (h : ¬ ((0 ≤ n ∧ n ≤ 10) ∧ (0 ≤ f ∧ f < t ∧ t ≤ n))) : spanB n f t = false := decide_eq_false h

theorem shortN_two (n : Int) : ∀ k : Nat, 2 * shortN n k = k * (2 * n - k + 1)
  | 0 => by simp [shortN]
  | k + 1 => by
    have h := shortN_two n k
    rw [shortN, Int.mul_add, h]
    push_cast
    have e1 : (k : Int) * (2 * n - k + 1) + 2 * (n - k) = ((k : Int) + 1) * (2 * n - ((k : Int) + 1) + 1) := by
      have : (k : Int) * (2 * n - k + 1) = 2 * (k * n) - k * k + k := by
        rw [Int.mul_add, Int.mul_sub]; simp [Int.mul_left_comm]
      have h2 : ((k : Int) + 1) * (2 * n - ((k : Int) + 1) + 1) = 2 * (k * n) - k * k + 2 * n - k := by
        rw [Int.add_mul, show 2 * n - ((k : Int) + 1) + 1 = 2 * n - k by omega, Int.mul_sub, Int.one_mul]
        rw [show (k : Int) * (2 * n) = 2 * (k * n) by simp [Int.mul_left_comm]]
        omega
      omega
    exact e1
theorem shortN_bound {n : Int} {k : Nat} (h0 : 0 ≤ n) (h1 : n ≤ 10) (h2 : (k : Int) ≤ n) : 0 ≤ shortN n k ∧ shortN n k ≤ 100 := by
  have h : ∀ j : Nat, (j : Int) ≤ n → 0 ≤ shortN n j ∧ shortN n j ≤ 10 * j := by
    intro j
    induction j with
    | zero => intro _; simp [shortN]
    | succ j ih => intro hj; have := ih (by omega); rw [shortN]; push_cast; omega
  have := h k h2
  omega
end Go.Proofs.YtfbpcdmpkbjifaaDoor

/- Plain mathematics: good charts, their cells. -/

namespace Go.Proofs.YtfbpcdmpkbjifaaDoor
open Go.RowKit

theorem shortN_le {n : Int} {i : Nat} : ∀ {j : Nat}, i ≤ j → (j : Int) ≤ n → shortN n i ≤ shortN n j
  | 0, h, _ => by rw [show i = 0 by omega]; exact Int.le_refl _
  | j + 1, h, hn => by
    by_cases e : i = j + 1
    · rw [e]; exact Int.le_refl _
    · have := shortN_le (n := n) (show i ≤ j by omega) (by omega)
      rw [shortN]; push_cast at hn; omega
theorem shortN_all {n : Nat} : 2 * shortN n n = (n : Int) * (n + 1) := by
  rw [shortN_two]; congr 1; omega
/-- A cell's number is one of the chart's. -/
theorem noC_lt {n f t : Int} {m : Nat} (h : spanB n f t = true) (hm : 2 * (m : Int) = n * (n + 1)) : 0 ≤ noC n f t ∧ noC n f t < m := by
  obtain ⟨⟨h0, h1⟩, h2, h3, h4⟩ := spanB_is h
  obtain ⟨k, rfl⟩ := Int.eq_ofNat_of_zero_le h0
  have e1 : shortN (k : Int) ((t - f - 1).toNat + 1) ≤ shortN (k : Int) k := shortN_le (by omega) (Int.le_refl _)
  have e2 : shortN (k : Int) ((t - f - 1).toNat + 1) = shortN (k : Int) (t - f - 1).toNat + (k - (t - f - 1).toNat) := rfl
  have e3 := shortN_all (n := k)
  have e4 := shortN_bound (n := (k : Int)) (k := (t - f - 1).toNat) h0 h1 (by omega)
  unfold noC
  omega

/-- A chart is good. -/
def GoodC (n : Int) (xs : List (List Int)) : Prop := (0 ≤ n ∧ n ≤ 10) ∧ 2 * (xs.length : Int) = n * (n + 1) ∧ ∀ l ∈ xs, GoodE 40 l
/-- The cell from f to t. -/
def atC (xs : List (List Int)) (n f t : Int) : List Int := xs.getD (noC n f t).toNat []
theorem atC_at {ls : List Li} {n f t : Int} {k : Nat} (hk : k < ls.length) (e : noC n f t = k) : atC (sayL ls) n f t = ls[k].r := by
  unfold atC
  rw [e, Int.toNat_natCast, List.getD_eq_getElem?_getD, sayL_at hk]
  rfl

/-- The lists up to the k-th are rising numbers of nonterminals. -/
def CellsTo (xs : List (List Int)) (k : Nat) : Prop := ∀ (j : Nat) (l : List Int), j < k → xs[j]? = some l → GoodE 40 l
theorem CellsTo.all {xs : List (List Int)} (h : CellsTo xs xs.length) : ∀ l ∈ xs, GoodE 40 l := fun l hl => by
  obtain ⟨j, hj⟩ := List.mem_iff_getElem?.1 hl
  exact h j l (List.getElem?_eq_some_iff.1 hj).1 hj
theorem n11 {n : Int} (h0 : 0 ≤ n) (h1 : n ≤ 10) : n = 0 ∨ n = 1 ∨ n = 2 ∨ n = 3 ∨ n = 4 ∨ n = 5 ∨ n = 6 ∨ n = 7 ∨ n = 8 ∨ n = 9 ∨ n = 10 := by omega
/-- How many cells there are. -/
def cntC (n : Int) : Int := n * (n + 1) / 2
theorem cntC_two {n : Int} (h0 : 0 ≤ n) (h1 : n ≤ 10) : 2 * cntC n = n * (n + 1) := by
  rcases n11 h0 h1 with rfl | rfl | rfl | rfl | rfl | rfl | rfl | rfl | rfl | rfl | rfl <;> decide
theorem cntC_bound {n : Int} (h0 : 0 ≤ n) (h1 : n ≤ 10) : 0 ≤ cntC n ∧ cntC n ≤ 55 := by
  rcases n11 h0 h1 with rfl | rfl | rfl | rfl | rfl | rfl | rfl | rfl | rfl | rfl | rfl <;> decide
end Go.Proofs.YtfbpcdmpkbjifaaDoor

/- How many cells a chart has: the program. -/

namespace Go.Proofs.YtfbpcdmpkbjifaaDoor
open Go.RowKit

theorem cellCount_any (n : Int) (w : World) (h0 : 0 ≤ n) (h1 : n ≤ 10) :
    Calls Tryd.prog 117 #[.int .i64 n] w fun e w' => e = .returned (.int .i64 (cntC n)) ∧ w' = w := by
  rcases n11 h0 h1 with rfl | rfl | rfl | rfl | rfl | rfl | rfl | rfl | rfl | rfl | rfl
  all_goals
    go_enter Tryd.func117, Tryd.ntmps117
    go_wp2
    go_ret
    exact ⟨rfl, rfl⟩

end Go.Proofs.YtfbpcdmpkbjifaaDoor

/- The number of a cell: program and reference. -/

namespace Go.Proofs.YtfbpcdmpkbjifaaDoor
open Go.RowKit

theorem isCell_any (n f t : Int) (w : World) (hL : Lims w) :
    Calls Tryd.prog 95 #[.int .i64 n, .int .i64 f, .int .i64 t] w fun e w' => e = .returned (.bool (spanB n f t)) ∧ Below w.heap.size w w' := by
  have HL := Lib.hid hL; clear hL
  go_enter Tryd.func95, Tryd.ntmps95
  go_wp2_with (first
    | (go_at_call 66
       refine (within4 n w HL.out).mono ?_
       rintro e w1 ⟨rfl, hB⟩
       have HB := Lib.hid hB
       clear hB))
  all_goals
    go_ret
    refine ⟨ret_b ?_, HB.out⟩
    first
      | exact (spanB_f (fun h => by have h1 := h.1; have h2 := h.2; first | omega | exact absurd (inB_t h1.1 h1.2) ‹_›)).symm
      | exact decide_eq_decide.2 ⟨fun h => ⟨⟨inB_lo ‹_›, inB_hi ‹_›⟩, ‹_›, ‹_›, h⟩, fun h => h.2.2.2⟩

theorem cellNo_any (n f t : Int) (w : World) (h : spanB n f t = true) :
    Calls Tryd.prog 100 #[.int .i64 n, .int .i64 f, .int .i64 t] w fun e w' => e = .returned (.int .i64 (noC n f t)) ∧ w' = w := by
  obtain ⟨⟨h0, h1⟩, h2, h3, h4⟩ := spanB_is h
  clear h
  go_enter Tryd.func100, Tryd.ntmps100
  go_wp2
  go_loopw [7, 8] (fun a b wr => ∃ k : Nat, (k : Int) + 1 ≤ t - f ∧ a = .int .i64 (f + shortN n k) ∧ b = .int .i64 ((k : Int) + 1) ∧ wr = w) (fun _ b _ => (t - f - intOf b).toNat)
  case atStart => exact ⟨0, by omega, by simp [shortN], by simp, rfl⟩
  case round =>
    obtain ⟨k, hk, rfl, rfl, rfl⟩ := hrel
    have hb := shortN_bound (n := n) (k := k) h0 h1 (by omega)
    by_cases hlt : (k : Int) + 1 < t - f
    · go_wp2
      go_roundw
      case rel => exact ⟨k + 1, by omega, by rw [shortN]; congr 1; omega, by push_cast; rfl, trivial⟩
      case measure => simp [intOf]; omega
    · have he : (t - f - 1).toNat = k := by omega
      have HE : Hid (f + shortN n k = noC n f t) := by show _ = _; unfold noC; rw [he]
      go_wp2
      go_ret
      exact ⟨ret_int HE.out, rfl⟩

theorem l7Span_any (n f t : Int) (w : World) :
    Calls Tryd.prog 90 #[.int .i64 n, .int .i64 f, .int .i64 t] w fun e w' => e = .returned (.bool (spanB n f t)) ∧ w' = w := by
  cases h1 : inB 0 10 n
  · have HE : Hid (spanB n f t = false) := spanB_f fun h => by have h2 := inB_t h.1.1 h.1.2; rw [h1] at h2; cases h2
    go_enter Tryd.func90, Tryd.ntmps90
    go_wp2_with (go_at_call 64; refine (l1In_any _ _ _ _).mono ?_; rintro e w' ⟨rfl, rfl⟩; rw [h1])
    go_ret
    exact ⟨ret_b HE.out.symm, rfl⟩
  · have hn0 := inB_lo h1
    have hn1 := inB_hi h1
    cases h2 : inB 0 (n - 1) f
    · have HE : Hid (spanB n f t = false) := spanB_f fun h => by have h3 := inB_t (lo := 0) (hi := n - 1) (n := f) h.2.1 (by omega); rw [h2] at h3; cases h3
      go_enter Tryd.func90, Tryd.ntmps90
      go_wp2_with (go_at_call 64; refine (l1In_any _ _ _ _).mono ?_; rintro e w' ⟨rfl, rfl⟩; first | rw [h1] | rw [h2])
      go_ret
      exact ⟨ret_b HE.out.symm, rfl⟩
    · have hf0 := inB_lo h2
      have hf1 := inB_hi h2
      have HE : Hid (spanB n f t = inB (f + 1) n t) := decide_eq_decide.2 ⟨fun h => ⟨by omega, h.2.2.2⟩, fun h => ⟨⟨hn0, hn1⟩, by omega, by omega, h.2⟩⟩
      go_enter Tryd.func90, Tryd.ntmps90
      go_wp2_with (go_at_call 64; refine (l1In_any _ _ _ _).mono ?_; rintro e w' ⟨rfl, rfl⟩; first | rw [h1] | rw [h2] | skip)
      go_ret
      exact ⟨ret_b HE.out.symm, rfl⟩

theorem l7No_any (n f t : Int) (w : World) (h : spanB n f t = true) :
    Calls Tryd.prog 109 #[.int .i64 n, .int .i64 f, .int .i64 t] w fun e w' => e = .returned (.int .i64 (noC n f t)) ∧ w' = w := by
  obtain ⟨⟨h0, h1⟩, h2, h3, h4⟩ := spanB_is h
  clear h
  go_enter Tryd.func109, Tryd.ntmps109
  go_wp2
  go_loopw [8, 9] (fun a b wr => ∃ k : Nat, (k : Int) + 1 ≤ t - f ∧ a = .int .i64 (f + shortN n k) ∧ b = .int .i64 ((k : Int) + 1) ∧ wr = w) (fun _ b _ => (t - f - intOf b).toNat)
  case atStart => exact ⟨0, by omega, by simp [shortN], by simp, rfl⟩
  case round =>
    obtain ⟨k, hk, rfl, rfl, rfl⟩ := hrel
    have hb := shortN_bound (n := n) (k := k) h0 h1 (by omega)
    by_cases hlt : (k : Int) + 1 < t - f
    · go_wp2
      go_roundw
      case rel => exact ⟨k + 1, by omega, by rw [shortN]; congr 1; omega, by push_cast; rfl, trivial⟩
      case measure => simp [intOf]; omega
    · have he : (t - f - 1).toNat = k := by omega
      have HE : Hid (f + shortN n k = noC n f t) := by show _ = _; unfold noC; rw [he]
      go_wp2
      go_ret
      exact ⟨ret_int HE.out, rfl⟩

/-- What CellNo answers. -/
def noV (n f t : Int) : Int := if spanB n f t then noC n f t else 0

theorem implCellNo_any (n f t : Int) (w : World) (hL : Lims w) :
    Calls Tryd.prog 53 #[.int .i64 n, .int .i64 f, .int .i64 t] w fun e w' => e = .returned (.tuple #[.int .i64 (noV n f t), .bool (spanB n f t)]) ∧ Below w.heap.size w w' := by
  have HL := Lib.hid hL; clear hL
  have HC := Lib.hid (isCell_any n f t w HL.out)
  cases h : spanB n f t
  · have HV : Hid (noV n f t = 0) := by show _ = _; unfold noV; rw [h]; rfl
    go_enter Tryd.func53, Tryd.ntmps53
    go_wp2_with (go_at_call 95; refine HC.out.mono ?_; rintro e w1 ⟨rfl, hB⟩; rw [h]; have HB := Lib.hid hB; clear hB)
    go_ret2
    exact ⟨by rw [HV.out]; rfl, HB.out⟩
  · have HV : Hid (noV n f t = noC n f t) := by show _ = _; unfold noV; rw [h]; rfl
    go_enter Tryd.func53, Tryd.ntmps53
    go_wp2_with (first
      | (go_at_call 95; refine HC.out.mono ?_; rintro e w1 ⟨rfl, hB⟩; rw [h]; have HB := Lib.hid hB; clear hB)
      | (go_at_call 100; refine (cellNo_any n f t _ h).mono ?_; rintro e w2 ⟨rfl, rfl⟩))
    go_ret2
    exact ⟨by rw [HV.out]; rfl, HB.out⟩

theorem specCellNo_any (n f t : Int) (w : World) :
    Calls Tryd.prog 55 #[.int .i64 n, .int .i64 f, .int .i64 t] w fun e w' => e = .returned (.tuple #[.int .i64 (noV n f t), .bool (spanB n f t)]) ∧ w' = w := by
  cases h : spanB n f t
  · have HV : Hid (noV n f t = 0) := by show _ = _; unfold noV; rw [h]; rfl
    go_enter Tryd.func55, Tryd.ntmps55
    go_wp2_with (go_at_call 90; refine (l7Span_any _ _ _ _).mono ?_; rintro e w1 ⟨rfl, rfl⟩; rw [h])
    go_ret2
    exact ⟨by rw [HV.out]; rfl, rfl⟩
  · have HV : Hid (noV n f t = noC n f t) := by show _ = _; unfold noV; rw [h]; rfl
    go_enter Tryd.func55, Tryd.ntmps55
    go_wp2_with (first
      | (go_at_call 90; refine (l7Span_any _ _ _ _).mono ?_; rintro e w1 ⟨rfl, rfl⟩; rw [h])
      | (go_at_call 109; refine (l7No_any n f t _ h).mono ?_; rintro e w2 ⟨rfl, rfl⟩))
    go_ret2
    exact ⟨by rw [HV.out]; rfl, rfl⟩

end Go.Proofs.YtfbpcdmpkbjifaaDoor

/- The program's charts: goodChart, emptyChart, EmptyChart, CellAt. -/

namespace Go.Proofs.YtfbpcdmpkbjifaaDoor
open Go.RowKit
open Go.Sort (grow)

set_option maxRecDepth 20000 in
set_option maxHeartbeats 1000000 in
theorem goodChart_any (n : Int) (A : Option Addr) (ls : List Li) (c : Nat) (w : World) (hx : Lls w w.heap.size A ls) (h1 : ls.length ≤ 1048576) (h2 : ∀ u ∈ ls, u.r.length ≤ 1048576) (hL : Lims w) :
    Calls Tryd.prog 94 #[.agg #[.int .i64 n, .slice A ls.length c]] w fun e w' => e = .returned (.bool (bP (GoodC n (sayL ls)))) ∧ Below w.heap.size w w' := by
  have HX := Lib.hid hx; clear hx
  have HU := Lib.hid h2; clear h2
  have HL := Lib.hid hL; clear hL
  have HBW : Hid (Below w.heap.size w (w.alloc (.cells #[.int .i64 n, .slice A ls.length c] 57))) := by show Below _ _ _; go_grown
  have R0 : Row (w.alloc (.cells #[.int .i64 n, .slice A ls.length c] 57)) w.heap.size 57 #[.int .i64 n, .slice A ls.length c] := Row.new _ _ _
  have HR0 := Lib.hid R0
  have b0 := R0.cell 0
  have b1 := R0.cell 1
  simp only [List.getElem?_toArray, List.getElem?_cons_succ, List.getElem?_cons_zero] at b0 b1
  clear R0
  go_enter Tryd.func94, Tryd.ntmps94
  go_wp2_with fail
  generalize (w.alloc (.cells #[.int .i64 n, .slice A ls.length c] 57)) = W at HBW HR0 b0 b1 ⊢
  have p0 := cell_regrown b0
  have p1 := cell_regrown b1
  have HRG : Hid (∀ d os, Below w.heap.size w (grow (redrawn W d) os)) := fun d os => HBW.out.trans ((below_regrown W d os).mono HBW.out.size)
  have HRB : Hid (∀ d os, Row (grow (redrawn W d) os) w.heap.size 57 #[.int .i64 n, .slice A ls.length c]) := fun d os => HR0.out.below (below_regrown W d os) HR0.out.lt
  have HC1 : Hid (∀ d os, Calls Tryd.prog 66 #[.int .i64 4, .int .i64 n] (grow (redrawn W d) os) fun e w' => e = .returned (.bool (inB 0 10 n)) ∧ Below (grow (redrawn W d) os).heap.size (grow (redrawn W d) os) w') := fun d os => within4 n _ (HL.out.keep (HRG.out d os) (Nat.le_refl _))
  clear b0 b1
  cases hn : inB 0 10 n
  · have HE : Hid (bP (GoodC n (sayL ls)) = false) := bP_f fun h => by have h2 := inB_t h.1.1 h.1.2; rw [hn] at h2; cases h2
    rw [hn] at HC1
    have HC2 := HC1
    refine wp_region_quiet_below (by kernel_rfl) (by kernel_rfl) ?_
    repeat (first | go_big_quiet_step (first | exact Calls.regrown_of (HC1.out _ _) | exact Calls.regrown_of (HC2.out _ _)) | quiet_step (first | exact Calls.regrown_of (HC1.out _ _) | exact Calls.regrown_of (HC2.out _ _)))
    refine wpQuiet_nil ?_
    intro _ hw'
    obtain ⟨⟨dq, osq⟩, hw''⟩ := hw'
    subst hw''
    go_wp2
    go_ret
    exact ⟨ret_b HE.out.symm, HRG.out dq osq⟩
  rw [hn] at HC1
  have hn0 := inB_lo hn
  have hn1 := inB_hi hn
  have hcb := cntC_bound hn0 hn1
  have HC2 : Hid (∀ d os, Calls Tryd.prog 117 #[.int .i64 n] (grow (redrawn W d) os) fun e w' => e = .returned (.int .i64 (cntC n)) ∧ Below (grow (redrawn W d) os).heap.size (grow (redrawn W d) os) w') := fun d os => (cellCount_any n _ hn0 hn1).mono fun e w' h => ⟨h.1, h.2 ▸ Below.refl _ _⟩
  have hc2 := Lib.hid (cntC_two hn0 hn1)
  by_cases hlc : (ls.length : Int) = cntC n
  · have hne : ((ls.length : Int) != cntC n) = false := bne_f hlc
    have HLC := Lib.hid hlc
    clear hlc
    refine wp_region_quiet_below (by kernel_rfl) (by kernel_rfl) ?_
    repeat (first | go_big_quiet_step (first | exact Calls.regrown_of (HC1.out _ _) | exact Calls.regrown_of (HC2.out _ _)) | quiet_step (first | exact Calls.regrown_of (HC1.out _ _) | exact Calls.regrown_of (HC2.out _ _)))
    refine wpQuiet_nil ?_
    intro _ hw'
    obtain ⟨⟨dq, osq⟩, hw''⟩ := hw'
    subst hw''
    have HBV := Lib.hid (HRG.out dq osq)
    have HRV := Lib.hid (HRB.out dq osq)
    generalize grow (redrawn W dq) osq = V at *
    clear p0 p1 HC1 HC2 HRG HRB HR0 HBW
    have b1 := HRV.out.cell 1
    simp only [List.getElem?_toArray, List.getElem?_cons_succ, List.getElem?_cons_zero] at b1
    go_wp2
    go_loopw [21] (fun i wr => ∃ (k : Nat), k ≤ ls.length ∧ i = .int .i64 k ∧ Hid (Below w.heap.size w wr) ∧ Hid (CellsTo (sayL ls) k)) (fun i _ => ls.length - (intOf i).toNat)
    case atStart => exact ⟨0, by omega, rfl, HBV.out, fun j x h => absurd h (by omega)⟩
    case round =>
      clear b1
      obtain ⟨k, hk, rfl, HB, H⟩ := hrel
      have hws := HB.out.size
      by_cases hlt : k < ls.length
      · obtain ⟨b, o, eA, hb, c1, c2, c3⟩ := (HX.out.keep HB.out).at_ hlt
        have HS := Lib.hid (sayL_at hlt)
        have HI := Lib.hid (c3.more hws)
        have hul := HU.out ls[k] (List.getElem_mem hlt)
        subst eA
        clear c2 c3
        generalize ls[k] = u at c1 HS HI hul
        obtain ⟨ua, ur, uc⟩ := u
        dsimp only at c1 HS HI hul
        have HC := Lib.hid (goodEmpty_any 40 0 ua ur uc wr HI.out hul)
        go_wp2_with fail
        refine HC.out.mono ?_
        rintro e w3 ⟨rfl, hB3⟩
        have HB3 := Lib.hid (HB.out.trans (hB3.mono hws))
        clear hB3 HC c1
        cases hg : bP (GoodE 40 ur)
        · have HE : Hid (bP (GoodC n (sayL ls)) = false) := bP_f fun h => bP_no hg (h.2.2 _ (List.mem_of_getElem? HS.out))
          go_wp2
          go_ret
          exact ⟨ret_b HE.out.symm, HB3.out⟩
        · have HN : Hid (CellsTo (sayL ls) (k + 1)) := upto_next (Q := fun x : List Int => GoodE 40 x) HS.out (bP_is hg) H.out
          go_wp2
          go_roundw
          case rel => exact ⟨k + 1, by omega, by go_num, HB3.out, HN.out⟩
          case measure => simp [intOf]; omega
      · have HE : Hid (bP (GoodC n (sayL ls)) = true) := bP_t ⟨⟨hn0, hn1⟩, by rw [sayL_len, HLC.out]; exact hc2.out, CellsTo.all fun j l h1 h2 => H.out j l (by rw [sayL_len] at h1; omega) h2⟩
        go_wp2
        go_ret
        exact ⟨ret_b HE.out.symm, HB.out⟩
  · have hne : ((ls.length : Int) != cntC n) = true := bne_t hlc
    have HE : Hid (bP (GoodC n (sayL ls)) = false) := bP_f fun h => hlc (by have h1 := h.2.1; rw [sayL_len] at h1; have := hc2.out; omega)
    clear hlc
    refine wp_region_quiet_below (by kernel_rfl) (by kernel_rfl) ?_
    repeat (first | go_big_quiet_step (first | exact Calls.regrown_of (HC1.out _ _) | exact Calls.regrown_of (HC2.out _ _)) | quiet_step (first | exact Calls.regrown_of (HC1.out _ _) | exact Calls.regrown_of (HC2.out _ _)))
    refine wpQuiet_nil ?_
    intro _ hw'
    obtain ⟨⟨dq, osq⟩, hw''⟩ := hw'
    subst hw''
    go_wp2
    go_ret
    exact ⟨ret_b HE.out.symm, HRG.out dq osq⟩

theorem emptyChart_any (n : Int) (w : World) (h0 : 0 ≤ n) (h1 : n ≤ 10) :
    Calls Tryd.prog 98 #[.int .i64 n] w fun e w' => ∃ m : Nat, (m : Int) = cntC n ∧ e = .returned (.agg #[.int .i64 n, .slice (some ⟨w.heap.size + 1, 0, none⟩) m m]) ∧ Row w' (w.heap.size + 1) 22 (zL m) ∧ Below w.heap.size w w' := by
  have hcb := cntC_bound h0 h1
  obtain ⟨m, hm⟩ := Int.eq_ofNat_of_zero_le hcb.1
  have hmk := make_lists m (by omega)
  go_enter Tryd.func98, Tryd.ntmps98
  go_wp2_with (go_at_call 117; refine (cellCount_any n _ h0 h1).mono ?_; rintro e w1 ⟨rfl, rfl⟩; rw [hm])
  have HR : Hid (Row ((w.alloc (.cells #[.int .i64 n, .slice (some ⟨w.heap.size + 1, 0, none⟩) m m] 57)).alloc (.cells (zL m) 22)) (w.heap.size + 1) 22 (zL m)) := by
    have h := Row.new (w.alloc (.cells #[.int .i64 n, .slice (some ⟨w.heap.size + 1, 0, none⟩) m m] 57)) 22 (zL m)
    rw [World.size_alloc] at h; exact h
  refine bodyPost_ret (v := .agg #[.int .i64 n, .slice (some ⟨w.heap.size + 1, 0, none⟩) m m]) (by simp [results, Tryd.results98, go_sem]) rfl ⟨m, hm.symm, rfl, HR.out, ?_⟩
  go_grown

/-- The lists of a chart whose cells are empty. -/
def emptyL (m : Nat) : List Li := List.replicate m ⟨none, [], 0⟩
theorem emptyL_len (m : Nat) : (emptyL m).length = m := List.length_replicate
theorem emptyL_at {m k : Nat} {u : Li} (h : (emptyL m)[k]? = some u) : k < m ∧ u = ⟨none, [], 0⟩ := by
  unfold emptyL at h
  rw [List.getElem?_replicate] at h
  split at h
  · injection h with h
    exact ⟨by assumption, h.symm⟩
  · cases h
theorem zL_at {m k : Nat} (h : k < m) : (zL m)[k]? = some (.slice none 0 0) := by
  have e := toList_madeCells_one (.slice none 0 0) m
  have h1 : (zL m)[k]? = (zL m).toList[k]? := (Array.getElem?_toList ..).symm
  rw [h1]
  unfold zL
  rw [e]
  simp [h]
theorem emptyL_own {w : World} {lo g m : Nat} (h : Row w g 22 (zL m)) (hg : lo ≤ g) : OwnL w lo (some ⟨g, 0, none⟩) (emptyL m) := by
  refine .inr ⟨g, zL m, rfl, hg, h, fun k u hu => ?_, fun i j u v hu hv _ hn => ?_⟩
  · obtain ⟨hk, rfl⟩ := emptyL_at hu
    exact ⟨zL_at hk, Nat.le_refl _, .inl rfl⟩
  · obtain ⟨_, rfl⟩ := emptyL_at hu
    exact absurd rfl hn
/-- What an empty chart's cells say. -/
def emptyC (n : Int) : List (List Int) := List.replicate (cntC n).toNat []
theorem emptyL_say {n : Int} {m : Nat} (h : (m : Int) = cntC n) : sayL (emptyL m) = emptyC n := by
  unfold emptyC emptyL sayL
  rw [List.map_replicate, ← h]; rfl

/-- A chart and a bool. -/
def GaveCB (w : World) (n : Int) (xs : List (List Int)) (ok : Bool) (e : Ending) (w' : World) : Prop :=
  ∃ A ls c, e = .returned (.tuple #[.agg #[.int .i64 n, .slice A ls.length c], .bool ok]) ∧ sayL ls = xs ∧ OwnL w' w.heap.size A ls ∧ ls.length ≤ c ∧ Below w.heap.size w w'

/-- What EmptyChart answers. -/
def emN (n : Int) : Int := if inB 0 10 n then n else 0
def emC (n : Int) : List (List Int) := if inB 0 10 n then emptyC n else []

set_option maxHeartbeats 1000000 in
theorem implEmptyChart_any (n : Int) (w : World) (hL : Lims w) :
    Calls Tryd.prog 50 #[.int .i64 n] w (GaveCB w (emN n) (emC n) (inB 0 10 n)) := by
  have HL := Lib.hid hL; clear hL
  have HB0 : Hid (Below w.heap.size w (w.alloc (.cells #[.int .i64 0, .slice none 0 0] 57))) := by show Below _ _ _; go_grown
  have HR0 : Hid (Row (w.alloc (.cells #[.int .i64 0, .slice none 0 0] 57)) w.heap.size 57 #[.int .i64 0, .slice none 0 0]) := Row.new _ _ _
  go_enter Tryd.func50, Tryd.ntmps50
  go_wp2_with fail
  generalize (w.alloc (.cells #[.int .i64 0, .slice none 0 0] 57)) = W at HB0 HR0 ⊢
  refine (within4 n W (HL.out.keep HB0.out (Nat.le_refl _))).mono ?_
  rintro e w1 ⟨rfl, hB1⟩
  have HR1 := Lib.hid (HR0.out.below hB1 HR0.out.lt)
  have HB1 := Lib.hid (HB0.out.trans (hB1.mono HB0.out.size)); clear hB1 HB0 HR0
  cases hn : inB 0 10 n
  · have HV : Hid (emN n = 0 ∧ emC n = []) := by show _ ∧ _; unfold emN emC; rw [hn]; exact ⟨rfl, rfl⟩
    have d0 := HR1.out.cell 0
    have d1 := HR1.out.cell 1
    have g0 := HR1.out.frozen 0
    have g1 := HR1.out.frozen 1
    simp only [List.getElem?_toArray, List.getElem?_cons_succ, List.getElem?_cons_zero] at d0 d1
    go_wp2
    refine bodyPost_ret (v := .tuple #[.agg #[.int .i64 0, .slice none 0 0], .bool false]) (by simp [results, Tryd.results50, go_sem, d0, d1]) rfl ⟨none, [], 0, by rw [HV.out.1, hn]; rfl, by rw [HV.out.2]; rfl, .inl rfl, Nat.le_refl _, ?_⟩
    exact (HB1.out.setCell (by simp) _).setCell (by simp) _
  · have hn0 := inB_lo hn
    have hn1 := inB_hi hn
    have HV : Hid (emN n = n ∧ emC n = emptyC n) := by show _ ∧ _; unfold emN emC; rw [hn]; exact ⟨rfl, rfl⟩
    go_wp2_with fail
    refine (emptyChart_any n w1 hn0 hn1).mono ?_
    rintro e w2 ⟨m, hm, rfl, hR2, hB2⟩
    have HR3 := Lib.hid (HR1.out.below hB2 HR1.out.lt)
    have HB2 := Lib.hid (HB1.out.trans (hB2.mono HB1.out.size)); clear hB2
    have HO2 := Lib.hid hR2; clear hR2
    have hs1 := HB1.out.size
    have hlt := HR1.out.lt
    have d0 := HR3.out.cell 0
    have d1 := HR3.out.cell 1
    have g0 := HR3.out.frozen 0
    have g1 := HR3.out.frozen 1
    simp only [List.getElem?_toArray, List.getElem?_cons_succ, List.getElem?_cons_zero] at d0 d1
    go_wp2
    refine bodyPost_ret (v := .tuple #[.agg #[.int .i64 n, .slice (some ⟨w1.heap.size + 1, 0, none⟩) m m], .bool true]) (by simp [results, Tryd.results50, go_sem, d0, d1]) rfl ⟨_, emptyL m, m, by rw [HV.out.1, emptyL_len, hn], by rw [HV.out.2, emptyL_say hm], emptyL_own ((HO2.out.far (by simp; omega) _).far (by simp; omega) _) (by omega), Nat.le_of_eq (emptyL_len m), ?_⟩
    exact (HB2.out.setCell (by simp) _).setCell (by simp) _

end Go.Proofs.YtfbpcdmpkbjifaaDoor

/- The program's CellAt. -/

namespace Go.Proofs.YtfbpcdmpkbjifaaDoor
open Go.RowKit

/-- What CellAt answers. -/
noncomputable def okA (n : Int) (xs : List (List Int)) (f t : Int) : Bool := bP (GoodC n xs) && spanB n f t
noncomputable def atV (n : Int) (xs : List (List Int)) (f t : Int) : List Int := if okA n xs f t then atC xs n f t else []

/-- A good chart's cell in memory. -/
theorem cell_at {w : World} {B : Nat} {n f t : Int} {A : Option Addr} {ls : List Li} (hx : Lls w B A ls) (hg : GoodC n (sayL ls)) (hs : spanB n f t = true) :
    ∃ (k : Nat) (b o : Nat) (a : Option Addr) (c : Nat), noC n f t = k ∧ k < ls.length ∧ A = some ⟨b, o, none⟩ ∧ b < B ∧ w.cell? ⟨b, o + k, none⟩ = some (.slice a (atC (sayL ls) n f t).length c) ∧ (atC (sayL ls) n f t).length ≤ c ∧ Ints w B a (atC (sayL ls) n f t) := by
  have h := noC_lt hs hg.2.1
  rw [sayL_len] at h
  obtain ⟨k, hk⟩ := Int.eq_ofNat_of_zero_le h.1
  have hk2 : k < ls.length := by omega
  obtain ⟨b, o, e, hb, c1, c2, c3⟩ := hx.at_ hk2
  have hat := atC_at hk2 hk
  rw [hat]
  exact ⟨k, b, o, _, _, hk, hk2, e, hb, c1, c2, c3⟩

set_option maxRecDepth 20000 in
set_option maxHeartbeats 1000000 in
theorem implCellAt_any (n f t : Int) (A : Option Addr) (ls : List Li) (c : Nat) (w : World) (hx : Lls w w.heap.size A ls) (h1 : ls.length ≤ 1048576) (h2 : ∀ u ∈ ls, u.r.length ≤ 1048576) (hL : Lims w) :
    Calls Tryd.prog 57 #[.agg #[.int .i64 n, .slice A ls.length c], .int .i64 f, .int .i64 t] w (GaveIB w (atV n (sayL ls) f t) (okA n (sayL ls) f t)) := by
  have HX := Lib.hid hx; clear hx
  have HU := Lib.hid h2; clear h2
  have HL := Lib.hid hL; clear hL
  have HB0 : Hid (Below w.heap.size w (w.alloc (.cells #[.int .i64 n, .slice A ls.length c] 57))) := by show Below _ _ _; go_grown
  have HR0 : Hid (Row (w.alloc (.cells #[.int .i64 n, .slice A ls.length c] 57)) w.heap.size 57 #[.int .i64 n, .slice A ls.length c]) := Row.new _ _ _
  go_enter Tryd.func57, Tryd.ntmps57
  go_wp2_with fail
  generalize (w.alloc (.cells #[.int .i64 n, .slice A ls.length c] 57)) = W at HB0 HR0 ⊢
  refine (goodChart_any n A ls c W ((HX.out.keep HB0.out).more HB0.out.size) h1 HU.out (HL.out.keep HB0.out (Nat.le_refl _))).mono ?_
  rintro e w1 ⟨rfl, hB1⟩
  have HR1 := Lib.hid (HR0.out.below hB1 HR0.out.lt)
  have HB1 := Lib.hid (HB0.out.trans (hB1.mono HB0.out.size)); clear hB1 HB0 HR0
  have d0 := HR1.out.cell 0
  simp only [List.getElem?_toArray, List.getElem?_cons_zero] at d0
  cases hg : bP (GoodC n (sayL ls))
  · have HV : Hid (okA n (sayL ls) f t = false) := by show _ = _; unfold okA; rw [hg]; rfl
    have HV2 : Hid (atV n (sayL ls) f t = []) := by show _ = _; unfold atV; rw [HV.out]; rfl
    clear hg
    go_wp2
    go_ret2
    exact ⟨none, 0, by rw [HV.out, HV2.out]; rfl, by rw [HV2.out]; exact .inl rfl, HB1.out⟩
  have HG : Hid (GoodC n (sayL ls)) := bP_is hg
  go_wp2_with fail
  refine (isCell_any n f t w1 (HL.out.keep HB1.out (Nat.le_refl _))).mono ?_
  rintro e w2 ⟨rfl, hB2⟩
  have HR2 := Lib.hid (HR1.out.below hB2 HR1.out.lt)
  have HB2 := Lib.hid (HB1.out.trans (hB2.mono HB1.out.size)); clear hB2 HB1 HR1 d0
  cases hs : spanB n f t
  · have HV : Hid (okA n (sayL ls) f t = false) := by show _ = _; unfold okA; rw [hg, hs]; rfl
    have HV2 : Hid (atV n (sayL ls) f t = []) := by show _ = _; unfold atV; rw [HV.out]; rfl
    clear hg hs
    go_wp2
    go_ret2
    exact ⟨none, 0, by rw [HV.out, HV2.out]; rfl, by rw [HV2.out]; exact .inl rfl, HB2.out⟩
  have HV : Hid (okA n (sayL ls) f t = true) := by show _ = _; unfold okA; rw [hg, hs]; rfl
  have HV2 : Hid (atV n (sayL ls) f t = atC (sayL ls) n f t) := by show _ = _; unfold atV; rw [HV.out]; rfl
  have hs2 := HB2.out.size
  obtain ⟨k, b, o, a, cc, hk, hkl, eA, hb, c1, c2, c3⟩ := cell_at ((HX.out.keep HB2.out).more hs2) HG.out hs
  have hul : (atC (sayL ls) n f t).length ≤ 1048576 := by rw [atC_at hkl hk]; exact HU.out _ (List.getElem_mem hkl)
  have HI := Lib.hid c3
  generalize atC (sayL ls) n f t = xs at HV2 c1 c2 HI hul
  subst eA
  have HNO := Lib.hid (fun w => cellNo_any n f t w hs)
  rw [hk] at HNO
  have d0 := HR2.out.cell 0
  have d1 := HR2.out.cell 1
  simp only [List.getElem?_toArray, List.getElem?_cons_succ, List.getElem?_cons_zero] at d0 d1
  clear hg hs c3 c2
  go_wp2_with fail
  go_region_law (first
    | (go_simp
       go_at_call 100
       refine (HNO.out _).mono ?_
       rintro e w3 ⟨rfl, rfl⟩)
    | (go_simp
       go_at_call 112
       refine (copyList_any a xs cc _ ?_ hul).mono ?_
       · exact (HI.out.keep (by go_grown)).more (by simp)
       rintro e w4 ⟨A4, c4, rfl, _, hO4, hB4⟩
       have HO4 := Lib.hid hO4
       have HB4 : Hid (Below w2.heap.size w2 w4) := Below.trans (by go_grown) hB4
       clear hO4 hB4))
  all_goals
    go_wp2
    go_ret2
    exact ⟨A4, c4, by rw [HV.out, HV2.out]; rfl, by rw [HV2.out]; exact HO4.out.lower hs2, HB2.out.trans (HB4.out.mono hs2)⟩

end Go.Proofs.YtfbpcdmpkbjifaaDoor

/- Plain mathematics: what a cell is filled with. -/

namespace Go.Proofs.YtfbpcdmpkbjifaaDoor
open Go.RowKit

/-- Whether a symbol derives a part, as a chart tells. -/
def hasB (ws : List Int) (xs : List (List Int)) (x f t : Int) : Bool := if x < 0 then decide (t = f + 1) && decide (ws.getD f.toNat 0 = -1 - x) else (atC xs ws.length f t).contains x
theorem hasB_neg {ws : List Int} {xs : List (List Int)} {x f t : Int} (h : x < 0) : hasB ws xs x f t = (decide (t = f + 1) && decide (ws.getD f.toNat 0 = -1 - x)) := by unfold hasB; rw [if_pos h]
theorem hasB_pos {ws : List Int} {xs : List (List Int)} {x f t : Int} (h : ¬ x < 0) : hasB ws xs x f t = (atC xs ws.length f t).contains x := by unfold hasB; rw [if_neg h]
/-- Both parts of a pair are there, cut at m. -/
def JoinAt (ws : List Int) (xs : List (List Int)) (f t y z m : Int) : Prop := (f < m ∧ m < t) ∧ hasB ws xs y f m = true ∧ hasB ws xs z m t = true
/-- The lefts of the first k pairs that join at some place. -/
def JoinK (P : List (List Int)) (ws : List Int) (xs : List (List Int)) (f t : Int) (k : Nat) (l : Int) : Prop := ∃ (j : Nat) (y z m : Int), j < k ∧ P[j]? = some [l, y, z] ∧ JoinAt ws xs f t y z m
def JoinC (P : List (List Int)) (ws : List Int) (xs : List (List Int)) (f t l : Int) : Prop := ∃ y z m : Int, [l, y, z] ∈ P ∧ JoinAt ws xs f t y z m
theorem JoinK.all {P : List (List Int)} {ws : List Int} {xs : List (List Int)} {f t l : Int} : JoinK P ws xs f t P.length l ↔ JoinC P ws xs f t l := by
  constructor
  · rintro ⟨j, y, z, m, _, h, h2⟩
    exact ⟨y, z, m, List.mem_of_getElem? h, h2⟩
  · rintro ⟨y, z, m, h, h2⟩
    obtain ⟨j, hj⟩ := List.mem_iff_getElem?.1 h
    exact ⟨j, y, z, m, (List.getElem?_eq_some_iff.1 hj).1, hj, h2⟩

/-- A pair is being looked at, its places up to m. -/
def JoinM (P : List (List Int)) (ws : List Int) (xs : List (List Int)) (f t : Int) (k : Nat) (l0 y z m : Int) (l : Int) : Prop := JoinK P ws xs f t k l ∨ (l = l0 ∧ ∃ m', m' < m ∧ JoinAt ws xs f t y z m')
theorem JoinM.zero {P : List (List Int)} {ws : List Int} {xs : List (List Int)} {f t : Int} {k : Nat} {l0 y z l : Int} : JoinM P ws xs f t k l0 y z (f + 1) l ↔ JoinK P ws xs f t k l := by
  constructor
  · rintro (h | ⟨_, m', h1, ⟨h2, _⟩, _⟩)
    · exact h
    · omega
  · exact .inl
theorem JoinM.yes {P : List (List Int)} {ws : List Int} {xs : List (List Int)} {f t : Int} {k : Nat} {l0 y z m l : Int} (h : JoinAt ws xs f t y z m) : JoinM P ws xs f t k l0 y z (m + 1) l ↔ l = l0 ∨ JoinM P ws xs f t k l0 y z m l := by
  constructor
  · rintro (h' | ⟨h1, _⟩)
    · exact .inr (.inl h')
    · exact .inl h1
  · rintro (h' | h' | ⟨h1, m', h2, h3⟩)
    · exact .inr ⟨h', m, by omega, h⟩
    · exact .inl h'
    · exact .inr ⟨h1, m', by omega, h3⟩
theorem JoinM.no {P : List (List Int)} {ws : List Int} {xs : List (List Int)} {f t : Int} {k : Nat} {l0 y z m l : Int} (h : ¬ JoinAt ws xs f t y z m) : JoinM P ws xs f t k l0 y z (m + 1) l ↔ JoinM P ws xs f t k l0 y z m l := by
  constructor
  · rintro (h' | ⟨h1, m', h2, h3⟩)
    · exact .inl h'
    · by_cases e : m' = m
      · subst e; exact absurd h3 h
      · exact .inr ⟨h1, m', by omega, h3⟩
  · rintro (h' | ⟨h1, m', h2, h3⟩)
    · exact .inl h'
    · exact .inr ⟨h1, m', by omega, h3⟩
theorem JoinM.done {P : List (List Int)} {ws : List Int} {xs : List (List Int)} {f t : Int} {k : Nat} {l0 y z m l : Int} (h : P[k]? = some [l0, y, z]) (hm : t ≤ m) : JoinK P ws xs f t (k + 1) l ↔ JoinM P ws xs f t k l0 y z m l := by
  constructor
  · rintro ⟨j, y', z', m', hj, h1, h2⟩
    by_cases e : j = k
    · subst e
      rw [h] at h1
      simp at h1
      obtain ⟨e1, e2, e3⟩ := h1
      subst e1 e2 e3
      have := h2.1.2
      exact .inr ⟨rfl, m', by omega, h2⟩
    · exact .inl ⟨j, y', z', m', by omega, h1, h2⟩
  · rintro (⟨j, y', z', m', hj, h1, h2⟩ | ⟨rfl, m', _, h3⟩)
    · exact ⟨j, y', z', m', by omega, h1, h2⟩
    · exact ⟨k, y, z, m', by omega, h, h3⟩
theorem JoinK.fit {s : Bs} (hg : GoodBs s) {ws : List Int} {xs : List (List Int)} {f t l : Int} {k : Nat} (h : JoinK s.P ws xs f t k l) : 0 ≤ l ∧ l < 40 := by
  obtain ⟨j, y, z, m, _, h1, _⟩ := h
  obtain ⟨l', y', z', e, h2, _⟩ := good_pair hg h1
  simp at e
  obtain ⟨rfl, rfl, rfl⟩ := e
  have := nonB_is h2
  have := hg.1.2
  omega
theorem JoinM.fit {s : Bs} (hg : GoodBs s) {ws : List Int} {xs : List (List Int)} {f t l l0 y z m : Int} {k : Nat} (hp : s.P[k]? = some [l0, y, z]) (h : JoinM s.P ws xs f t k l0 y z m l) : 0 ≤ l ∧ l < 40 := by
  rcases h with h | ⟨rfl, _⟩
  · exact h.fit hg
  · obtain ⟨l', y', z', e, h2, _⟩ := good_pair hg hp
    simp at e
    obtain ⟨rfl, rfl, rfl⟩ := e
    have := nonB_is h2
    have := hg.1.2
    omega

/-- What a cell is filled with: its least set. -/
noncomputable def cellBase (s : Bs) (ws : List Int) (xs : List (List Int)) (f t : Int) : (Int → Int → Prop) → Int → Bool := fun D => if t = f + 1 then rowOf D (-1 - ws.getD f.toNat 0) else fun l => bP (JoinC s.P ws xs f t l)
def PCell (s : Bs) (ws : List Int) (xs : List (List Int)) (f t : Int) (ys : List Int) : Prop := Rises ys ∧ (∀ y ∈ ys, 0 ≤ y ∧ y < 40) ∧ PUp s (cellBase s ws xs f t) (setL ys)
theorem PCell.unique {s : Bs} {ws : List Int} {xs : List (List Int)} {f t : Int} {ys zs : List Int} (h : PCell s ws xs f t ys) (k : PCell s ws xs f t zs) : ys = zs := by
  have e := PUp.unique h.2.2 k.2.2
  exact rises_unique h.1 k.1 fun x => by rw [← setL_iff, ← setL_iff, e]

/-- A good chart's list is short. -/
theorem goodE40_len {l : List Int} (h : GoodE 40 l) : l.length ≤ 40 := len40 (riseI_rises h.2) fun y hy => by
  obtain ⟨k, hk⟩ := List.mem_iff_getElem?.1 hy
  exact nonB_is (h.1 k y (List.getElem?_eq_some_iff.1 hk).1 hk)
theorem atC_good {n f t : Int} {xs : List (List Int)} (hg : GoodC n xs) (hs : spanB n f t = true) : GoodE 40 (atC xs n f t) := by
  have h := noC_lt hs hg.2.1
  obtain ⟨k, hk⟩ := Int.eq_ofNat_of_zero_le h.1
  have hk2 : k < xs.length := by omega
  refine hg.2.2 _ ?_
  unfold atC
  rw [hk, Int.toNat_natCast, List.getD_eq_getElem?_getD, List.getElem?_eq_getElem hk2]
  exact List.getElem_mem hk2
end Go.Proofs.YtfbpcdmpkbjifaaDoor

/- The reference's charts: l7Good, l7Empty, EmptyChart, CellAt. -/

namespace Go.Proofs.YtfbpcdmpkbjifaaDoor
open Go.RowKit
open Go.Sort (grow)

set_option maxRecDepth 20000 in
set_option maxHeartbeats 2000000 in
theorem l7Good_any (n : Int) (A : Option Addr) (ls : List Li) (c : Nat) (w : World) (hx : Lls w w.heap.size A ls) (h1 : ls.length ≤ 1048576) (h2 : ∀ u ∈ ls, u.r.length ≤ 1048576) :
    Calls Tryd.prog 89 #[.agg #[.int .i64 n, .slice A ls.length c]] w fun e w' => e = .returned (.bool (bP (GoodC n (sayL ls)))) ∧ Below w.heap.size w w' := by
  have HX := Lib.hid hx; clear hx
  have HU := Lib.hid h2; clear h2
  have HBW : Hid (Below w.heap.size w (w.alloc (.cells #[.int .i64 n, .slice A ls.length c] 57))) := by show Below _ _ _; go_grown
  have HR0 : Hid (Row (w.alloc (.cells #[.int .i64 n, .slice A ls.length c] 57)) w.heap.size 57 #[.int .i64 n, .slice A ls.length c]) := Row.new _ _ _
  cases hn : inB 0 10 n
  · have HE : Hid (bP (GoodC n (sayL ls)) = false) := bP_f fun h => by have h2 := inB_t h.1.1 h.1.2; rw [hn] at h2; cases h2
    go_enter Tryd.func89, Tryd.ntmps89
    go_wp2_with (go_at_call 64; refine (l1In_any n 0 10 _).mono ?_; rintro e w1 ⟨rfl, rfl⟩; rw [hn])
    go_ret
    exact ⟨ret_b HE.out.symm, HBW.out⟩
  have hn0 := inB_lo hn
  have hn1 := inB_hi hn
  have hq : IntKind.i64.wrap (n * (n + 1)) = n * (n + 1) ∧ IntKind.i64.wrap (n + 1) = n + 1 := by
    rcases n11 hn0 hn1 with rfl | rfl | rfl | rfl | rfl | rfl | rfl | rfl | rfl | rfl | rfl <;> decide
  have hq2 : Int.tdiv (n * (n + 1)) 2 = cntC n := by
    rcases n11 hn0 hn1 with rfl | rfl | rfl | rfl | rfl | rfl | rfl | rfl | rfl | rfl | rfl <;> decide
  have hcb := cntC_bound hn0 hn1
  have hc2 := Lib.hid (cntC_two hn0 hn1)
  obtain ⟨hq0, hq1⟩ := hq
  go_enter Tryd.func89, Tryd.ntmps89
  by_cases hlc : (ls.length : Int) = cntC n
  · have hne : ((ls.length : Int) != cntC n) = false := bne_f hlc
    have HLC := Lib.hid hlc
    clear hlc
    go_wp2_with (go_at_call 64; refine (l1In_any n 0 10 _).mono ?_; rintro e w1 ⟨rfl, rfl⟩; rw [hn])
    generalize (w.alloc (.cells #[.int .i64 n, .slice A ls.length c] 57)) = W at HBW ⊢
    clear HR0 hne
    go_loopw [25] (fun i wr => ∃ (k : Nat), k ≤ ls.length ∧ i = .int .i64 k ∧ Hid (Below w.heap.size w wr) ∧ Hid (CellsTo (sayL ls) k)) (fun i _ => ls.length - (intOf i).toNat)
    case atStart => exact ⟨0, by omega, rfl, HBW.out, fun j x h => absurd h (by omega)⟩
    case round =>
      obtain ⟨k, hk, rfl, HB, H⟩ := hrel
      have hws := HB.out.size
      by_cases hlt : k < ls.length
      · obtain ⟨b, o, eA, hb, c1, c2, c3⟩ := (HX.out.keep HB.out).at_ hlt
        have HS := Lib.hid (sayL_at hlt)
        have HI := Lib.hid (c3.more hws)
        have hul := HU.out ls[k] (List.getElem_mem hlt)
        subst eA
        clear c2 c3
        generalize ls[k] = u at c1 HS HI hul
        obtain ⟨ua, ur, uc⟩ := u
        dsimp only at c1 HS HI hul
        have HC := Lib.hid (l1Rising_any ua ur uc 40 wr HI.out hul)
        go_wp2_with fail
        refine HC.out.mono ?_
        rintro e w3 ⟨rfl, hB3⟩
        have HB3 := Lib.hid (HB.out.trans (hB3.mono hws))
        clear hB3 HC c1
        cases hg : bP (GoodE 40 ur)
        · have HE : Hid (bP (GoodC n (sayL ls)) = false) := bP_f fun h => bP_no hg (h.2.2 _ (List.mem_of_getElem? HS.out))
          go_wp2
          go_ret
          exact ⟨ret_b HE.out.symm, HB3.out⟩
        · have HN : Hid (CellsTo (sayL ls) (k + 1)) := upto_next (Q := fun x : List Int => GoodE 40 x) HS.out (bP_is hg) H.out
          go_wp2
          go_roundw
          case rel => exact ⟨k + 1, by omega, by go_num, HB3.out, HN.out⟩
          case measure => simp [intOf]; omega
      · have HE : Hid (bP (GoodC n (sayL ls)) = true) := bP_t ⟨⟨hn0, hn1⟩, by rw [sayL_len, HLC.out]; exact hc2.out, CellsTo.all fun j l h1 h2 => H.out j l (by rw [sayL_len] at h1; omega) h2⟩
        go_wp2
        go_ret
        exact ⟨ret_b HE.out.symm, HB.out⟩
  · have hne : ((ls.length : Int) != cntC n) = true := bne_t hlc
    have HE : Hid (bP (GoodC n (sayL ls)) = false) := bP_f fun h => hlc (by have h1 := h.2.1; rw [sayL_len] at h1; have := hc2.out; omega)
    clear hlc
    go_wp2_with (go_at_call 64; refine (l1In_any n 0 10 _).mono ?_; rintro e w1 ⟨rfl, rfl⟩; rw [hn])
    go_ret
    exact ⟨ret_b HE.out.symm, HBW.out⟩

set_option maxRecDepth 20000 in
theorem l7Empty_any (n : Int) (w : World) (hn0 : 0 ≤ n) (hn1 : n ≤ 10) :
    Calls Tryd.prog 106 #[.int .i64 n] w fun e w' => ∃ m : Nat, (m : Int) = cntC n ∧ e = .returned (.agg #[.int .i64 n, .slice (some ⟨w.heap.size + 1, 0, none⟩) m m]) ∧ Row w' (w.heap.size + 1) 22 (zL m) ∧ Below w.heap.size w w' := by
  have hcb := cntC_bound hn0 hn1
  have hq : IntKind.i64.wrap (n * (n + 1)) = n * (n + 1) ∧ IntKind.i64.wrap (n + 1) = n + 1 := by
    rcases n11 hn0 hn1 with rfl | rfl | rfl | rfl | rfl | rfl | rfl | rfl | rfl | rfl | rfl <;> decide
  have hq2 : Int.tdiv (n * (n + 1)) 2 = cntC n := by
    rcases n11 hn0 hn1 with rfl | rfl | rfl | rfl | rfl | rfl | rfl | rfl | rfl | rfl | rfl <;> decide
  obtain ⟨hq0, hq1⟩ := hq
  obtain ⟨m, hm⟩ := Int.eq_ofNat_of_zero_le hcb.1
  have hmk := make_lists m (by omega)
  have HM := Lib.hid hm
  rw [hm] at hq2
  have hm55 : m ≤ 55 := by omega
  clear hm hcb
  go_enter Tryd.func106, Tryd.ntmps106
  go_wp2
  have HR : Hid (Row ((w.alloc (.cells #[.int .i64 n, .slice (some ⟨w.heap.size + 1, 0, none⟩) m m] 57)).alloc (.cells (zL m) 22)) (w.heap.size + 1) 22 (zL m)) := by
    have h := Row.new (w.alloc (.cells #[.int .i64 n, .slice (some ⟨w.heap.size + 1, 0, none⟩) m m] 57)) 22 (zL m)
    rw [World.size_alloc] at h; exact h
  refine bodyPost_ret (v := .agg #[.int .i64 n, .slice (some ⟨w.heap.size + 1, 0, none⟩) m m]) (by simp [results, Tryd.results106, go_sem]) rfl ⟨m, HM.out.symm, rfl, HR.out, ?_⟩
  go_grown

set_option maxHeartbeats 1000000 in
theorem specEmptyChart_any (n : Int) (w : World) :
    Calls Tryd.prog 51 #[.int .i64 n] w (GaveCB w (emN n) (emC n) (inB 0 10 n)) := by
  have HB0 : Hid (Below w.heap.size w (w.alloc (.cells #[.int .i64 0, .slice none 0 0] 57))) := by show Below _ _ _; go_grown
  have HR0 : Hid (Row (w.alloc (.cells #[.int .i64 0, .slice none 0 0] 57)) w.heap.size 57 #[.int .i64 0, .slice none 0 0]) := Row.new _ _ _
  go_enter Tryd.func51, Tryd.ntmps51
  go_wp2_with fail
  generalize (w.alloc (.cells #[.int .i64 0, .slice none 0 0] 57)) = W at HB0 HR0 ⊢
  refine (l1In_any n 0 10 W).mono ?_
  rintro e w1 ⟨rfl, rfl⟩
  have HR1 := HR0
  have HB1 := HB0
  clear HR0 HB0
  cases hn : inB 0 10 n
  · have HV : Hid (emN n = 0 ∧ emC n = []) := by show _ ∧ _; unfold emN emC; rw [hn]; exact ⟨rfl, rfl⟩
    have d0 := HR1.out.cell 0
    have d1 := HR1.out.cell 1
    have g0 := HR1.out.frozen 0
    have g1 := HR1.out.frozen 1
    simp only [List.getElem?_toArray, List.getElem?_cons_succ, List.getElem?_cons_zero] at d0 d1
    go_wp2
    refine bodyPost_ret (v := .tuple #[.agg #[.int .i64 0, .slice none 0 0], .bool false]) (by simp [results, Tryd.results51, go_sem, d0, d1]) rfl ⟨none, [], 0, by rw [HV.out.1, hn]; rfl, by rw [HV.out.2]; rfl, .inl rfl, Nat.le_refl _, ?_⟩
    exact (HB1.out.setCell (by simp) _).setCell (by simp) _
  · have hn0 := inB_lo hn
    have hn1 := inB_hi hn
    have HV : Hid (emN n = n ∧ emC n = emptyC n) := by show _ ∧ _; unfold emN emC; rw [hn]; exact ⟨rfl, rfl⟩
    go_wp2_with fail
    refine (l7Empty_any n W hn0 hn1).mono ?_
    rintro e w2 ⟨m, hm, rfl, hR2, hB2⟩
    have HR3 := Lib.hid (HR1.out.below hB2 HR1.out.lt)
    have HB2 := Lib.hid (HB1.out.trans (hB2.mono HB1.out.size)); clear hB2
    have HO2 := Lib.hid hR2; clear hR2
    have hs1 := HB1.out.size
    have hlt := HR1.out.lt
    have d0 := HR3.out.cell 0
    have d1 := HR3.out.cell 1
    have g0 := HR3.out.frozen 0
    have g1 := HR3.out.frozen 1
    simp only [List.getElem?_toArray, List.getElem?_cons_succ, List.getElem?_cons_zero] at d0 d1
    go_wp2
    refine bodyPost_ret (v := .tuple #[.agg #[.int .i64 n, .slice (some ⟨W.heap.size + 1, 0, none⟩) m m], .bool true]) (by simp [results, Tryd.results51, go_sem, d0, d1]) rfl ⟨_, emptyL m, m, by rw [HV.out.1, emptyL_len, hn], by rw [HV.out.2, emptyL_say hm], emptyL_own ((HO2.out.far (by simp; omega) _).far (by simp; omega) _) (by omega), Nat.le_of_eq (emptyL_len m), ?_⟩
    exact (HB2.out.setCell (by simp) _).setCell (by simp) _

set_option maxRecDepth 20000 in
set_option maxHeartbeats 1000000 in
theorem specCellAt_any (n f t : Int) (A : Option Addr) (ls : List Li) (c : Nat) (w : World) (hx : Lls w w.heap.size A ls) (h1 : ls.length ≤ 1048576) (h2 : ∀ u ∈ ls, u.r.length ≤ 1048576) :
    Calls Tryd.prog 58 #[.agg #[.int .i64 n, .slice A ls.length c], .int .i64 f, .int .i64 t] w (GaveIB w (atV n (sayL ls) f t) (okA n (sayL ls) f t)) := by
  have HX := Lib.hid hx; clear hx
  have HU := Lib.hid h2; clear h2
  have HB0 : Hid (Below w.heap.size w (w.alloc (.cells #[.int .i64 n, .slice A ls.length c] 57))) := by show Below _ _ _; go_grown
  have HR0 : Hid (Row (w.alloc (.cells #[.int .i64 n, .slice A ls.length c] 57)) w.heap.size 57 #[.int .i64 n, .slice A ls.length c]) := Row.new _ _ _
  go_enter Tryd.func58, Tryd.ntmps58
  go_wp2_with fail
  generalize (w.alloc (.cells #[.int .i64 n, .slice A ls.length c] 57)) = W at HB0 HR0 ⊢
  refine (l7Good_any n A ls c W ((HX.out.keep HB0.out).more HB0.out.size) h1 HU.out).mono ?_
  rintro e w1 ⟨rfl, hB1⟩
  have HR1 := Lib.hid (HR0.out.below hB1 HR0.out.lt)
  have HB1 := Lib.hid (HB0.out.trans (hB1.mono HB0.out.size)); clear hB1 HB0 HR0
  have d0 := HR1.out.cell 0
  simp only [List.getElem?_toArray, List.getElem?_cons_zero] at d0
  cases hg : bP (GoodC n (sayL ls))
  · have HV : Hid (okA n (sayL ls) f t = false) := by show _ = _; unfold okA; rw [hg]; rfl
    have HV2 : Hid (atV n (sayL ls) f t = []) := by show _ = _; unfold atV; rw [HV.out]; rfl
    clear hg
    go_wp2
    go_ret2
    exact ⟨none, 0, by rw [HV.out, HV2.out]; rfl, by rw [HV2.out]; exact .inl rfl, HB1.out⟩
  have HG : Hid (GoodC n (sayL ls)) := bP_is hg
  go_wp2_with fail
  refine (l7Span_any n f t w1).mono ?_
  rintro e w2 ⟨rfl, rfl⟩
  have HR2 := HR1
  have HB2 := HB1
  clear HR1 HB1 d0
  cases hs : spanB n f t
  · have HV : Hid (okA n (sayL ls) f t = false) := by show _ = _; unfold okA; rw [hg, hs]; rfl
    have HV2 : Hid (atV n (sayL ls) f t = []) := by show _ = _; unfold atV; rw [HV.out]; rfl
    clear hg hs
    go_wp2
    go_ret2
    exact ⟨none, 0, by rw [HV.out, HV2.out]; rfl, by rw [HV2.out]; exact .inl rfl, HB2.out⟩
  have HV : Hid (okA n (sayL ls) f t = true) := by show _ = _; unfold okA; rw [hg, hs]; rfl
  have HV2 : Hid (atV n (sayL ls) f t = atC (sayL ls) n f t) := by show _ = _; unfold atV; rw [HV.out]; rfl
  have hs2 := HB2.out.size
  obtain ⟨k, b, o, a, cc, hk, hkl, eA, hb, c1, c2, c3⟩ := cell_at ((HX.out.keep HB2.out).more hs2) HG.out hs
  have hul : (atC (sayL ls) n f t).length ≤ 1048576 := by rw [atC_at hkl hk]; exact HU.out _ (List.getElem_mem hkl)
  have HI := Lib.hid c3
  generalize atC (sayL ls) n f t = xs at HV2 c1 c2 HI hul
  subst eA
  have HNO := Lib.hid (fun w => l7No_any n f t w hs)
  rw [hk] at HNO
  have d0 := HR2.out.cell 0
  have d1 := HR2.out.cell 1
  simp only [List.getElem?_toArray, List.getElem?_cons_succ, List.getElem?_cons_zero] at d0 d1
  clear hg hs c3 c2
  go_wp2_with fail
  go_region_law (first
    | (go_simp
       go_at_call 109
       refine (HNO.out _).mono ?_
       rintro e w3 ⟨rfl, rfl⟩)
    | (go_simp
       go_at_call 113
       refine (l1Own_any a xs cc _ ?_ hul).mono ?_
       · exact (HI.out.keep (by go_grown)).more (by simp)
       rintro e w4 ⟨A4, c4, rfl, hO4, hB4⟩
       have HO4 := Lib.hid hO4
       have HB4 : Hid (Below w2.heap.size w2 w4) := Below.trans (by go_grown) hB4
       clear hO4 hB4))
  all_goals
    go_wp2
    go_ret2
    exact ⟨A4, c4, by rw [HV.out, HV2.out]; rfl, by rw [HV2.out]; exact HO4.out.lower hs2, HB2.out.trans (HB4.out.mono hs2)⟩

end Go.Proofs.YtfbpcdmpkbjifaaDoor

/- The reference's l7Has. -/

namespace Go.Proofs.YtfbpcdmpkbjifaaDoor
open Go.RowKit

set_option maxRecDepth 20000 in
set_option maxHeartbeats 1000000 in
theorem l7Has_any (b : Bi) (n x f t : Int) (A Aw : Option Addr) (ls : List Li) (ws : List Int) (c cw : Nat) (w : World) (hn : n = ws.length) (hx : Lls w w.heap.size A ls) (hg : GoodC n (sayL ls)) (hw : Ints w w.heap.size Aw ws) (hxb : -4 ≤ x ∧ x < 40) (hs : spanB n f t = true) :
    Calls Tryd.prog 122 #[(.agg #[.int .i64 b.n, .int .i64 b.t, .slice b.Ap b.P.length b.cp, .slice b.Ao b.O.length b.co, .slice b.Ae b.E.length b.ce, .slice b.Af b.F.length b.cf]), .agg #[.int .i64 n, .slice A ls.length c], .slice Aw ws.length cw, .int .i64 x, .int .i64 f, .int .i64 t] w fun e w' => e = .returned (.bool (hasB ws (sayL ls) x f t)) ∧ Below w.heap.size w w' := by
  have HX := Lib.hid hx; clear hx
  have HW := Lib.hid hw; clear hw
  have hsp := spanB_is hs
  have hwl : f.toNat < ws.length := by omega
  obtain ⟨fk, rfl⟩ := Int.eq_ofNat_of_zero_le hsp.2.1
  rw [Int.toNat_natCast] at hwl
  have hB0 : Below w.heap.size w ((w.alloc (.cells #[.int .i64 b.n, .int .i64 b.t, .slice b.Ap b.P.length b.cp, .slice b.Ao b.O.length b.co, .slice b.Ae b.E.length b.ce, .slice b.Af b.F.length b.cf] 55)).alloc (.cells #[.int .i64 n, .slice A ls.length c] 57)) := by go_grown
  have hR0 : Row ((w.alloc (.cells #[.int .i64 b.n, .int .i64 b.t, .slice b.Ap b.P.length b.cp, .slice b.Ao b.O.length b.co, .slice b.Ae b.E.length b.ce, .slice b.Af b.F.length b.cf] 55)).alloc (.cells #[.int .i64 n, .slice A ls.length c] 57)) (w.heap.size + 1) 57 #[.int .i64 n, .slice A ls.length c] := by
    have h := Row.new (w.alloc (.cells #[.int .i64 b.n, .int .i64 b.t, .slice b.Ap b.P.length b.cp, .slice b.Ao b.O.length b.co, .slice b.Ae b.E.length b.ce, .slice b.Af b.F.length b.cf] 55)) 57 #[.int .i64 n, .slice A ls.length c]
    simpa using h
  have HB0 := Lib.hid hB0; clear hB0
  have HR0 := Lib.hid hR0; clear hR0
  have hs1 := HB0.out.size
  by_cases hneg : x < 0
  · have HE := Lib.hid (hasB_neg (ws := ws) (xs := sayL ls) (f := (fk : Int)) (t := t) hneg)
    obtain ⟨p, o, rfl, hb, c0⟩ := ((HW.out.keep HB0.out).more hs1).at_ hwl
    have hgd : ws.getD ((fk : Int)).toNat 0 = ws[fk] := by rw [Int.toNat_natCast, List.getD_eq_getElem?_getD, List.getElem?_eq_getElem hwl]; rfl
    rw [hgd] at HE
    clear hgd hs hg hn
    generalize ws[fk] = y at HE c0
    by_cases ht : t = (fk : Int) + 1
    · by_cases hv : y = -1 - x
      · have HF : Hid (hasB ws (sayL ls) x fk t = true) := by show _ = _; rw [HE.out]; simp [ht, hv]
        have e1 := beq_t ht
        have e2 := beq_t hv
        clear ht hv
        go_enter Tryd.func122, Tryd.ntmps122
        go_wp2
        go_ret
        exact ⟨ret_bool HF.out.symm, HB0.out⟩
      · have HF : Hid (hasB ws (sayL ls) x fk t = false) := by show _ = _; rw [HE.out]; simp [hv]
        have e1 := beq_t ht
        have e2 := beq_f hv
        clear ht hv
        go_enter Tryd.func122, Tryd.ntmps122
        go_wp2
        go_ret
        exact ⟨ret_bool HF.out.symm, HB0.out⟩
    · have HF : Hid (hasB ws (sayL ls) x fk t = false) := by show _ = _; rw [HE.out]; simp [ht]
      have e1 := beq_f ht
      clear ht
      go_enter Tryd.func122, Tryd.ntmps122
      go_wp2
      go_ret
      exact ⟨ret_bool HF.out.symm, HB0.out⟩
  · have HE := Lib.hid (hasB_pos (ws := ws) (xs := sayL ls) (f := (fk : Int)) (t := t) hneg)
    rw [← hn] at HE
    obtain ⟨k, bb, o, a, cc, hk, hkl, eA, hb, c1, c2, c3⟩ := cell_at ((HX.out.keep HB0.out).more hs1) hg hs
    have hul := goodE40_len (atC_good hg hs)
    have HI := Lib.hid c3
    generalize atC (sayL ls) n fk t = xs at HE c1 c2 HI hul
    subst eA
    have HNO := Lib.hid (fun w => l7No_any n fk t w hs)
    rw [hk] at HNO
    have d0 := HR0.out.cell 0
    have d1 := HR0.out.cell 1
    simp only [List.getElem?_toArray, List.getElem?_cons_succ, List.getElem?_cons_zero] at d0 d1
    clear hg hs c3 c2 hn
    go_enter Tryd.func122, Tryd.ntmps122
    go_wp2_with fail
    generalize ((w.alloc (.cells #[.int .i64 b.n, .int .i64 b.t, .slice b.Ap b.P.length b.cp, .slice b.Ao b.O.length b.co, .slice b.Ae b.E.length b.ce, .slice b.Af b.F.length b.cf] 55)).alloc (.cells #[.int .i64 n, .slice (some ⟨bb, o, none⟩) ls.length c] 57)) = W at HB0 HR0 hs1 c1 d0 d1 HI hb ⊢
    go_region_law (first
      | (go_simp
         go_at_call 109
         refine (HNO.out _).mono ?_
         rintro e w3 ⟨rfl, rfl⟩)
      | (go_simp
         go_at_call 80
         refine (l1HasW_any a xs cc x _ ?_ (by omega)).mono ?_
         · exact (HI.out.keep (by go_grown)).more (by simp)
         rintro e w4 ⟨he, hw4⟩
         rw [← HE.out] at he
         subst he
         have HB4 : Hid (Below W.heap.size W w4) := by show Below _ _ _; subst hw4; go_grown
         clear hw4))
    all_goals
      go_wp2
      go_ret
      exact ⟨rfl, HB0.out.trans (HB4.out.mono hs1)⟩

end Go.Proofs.YtfbpcdmpkbjifaaDoor

/- The contract of slices.Sort at a list of numbers, laid at this program out of the library; no condition but the list's length. -/

namespace Go.Proofs
open Go.Shelf
def Tryd.laysNm237_ren : Go.Shelf.Ren := ⟨fun | 37 => 174 | n => n, fun | 3 => 3 | 4 => 4 | n => n, fun | n => n⟩
theorem Tryd.laysNm237 : Go.Proofs.Lays2.n37 Tryd.prog Tryd.laysNm237_ren := {
  mixed := by kernel_rfl
  f37 := Tryd.func174.trans (congrArg some (by kernel_rfl))
  t3 := Tryd.underlying3
  a3 := Tryd.isAgg3
  z3 := Tryd.sizeOf3
  v3 := Tryd.zeroValue3
  t4 := Tryd.underlying4
  a4 := Tryd.isAgg4
  z4 := Tryd.sizeOf4
  v4 := Tryd.zeroValue4 }
open Go.RowKit Go.Lib in
/-- cmp.isNaN[int]: 'x != x': false. (LAID: no walk: one application.) -/
theorem Tryd.cmp_isNaN_int2 (x : Int) (w : World) :
    Calls Tryd.prog 174 #[.int .i64 x] w fun e w' => e = .returned (.bool false) ∧ w' = w := Any.cmp_isNaN_int2 Tryd.laysNm237 x w
end Go.Proofs

/- The program's slices.Sort at a slice of numbers that is the call's own, nil too. -/

namespace Go.Proofs.YtfbpcdmpkbjifaaDoor
open Go.RowKit
open Go.Sort (Holds putRow putCells grow)

/-- The numbers as they rise. -/
def sortI (es : List Int) : List Int := es.mergeSort fun x y => decide (x ≤ y)
theorem sortI_perm (es : List Int) : (sortI es).Perm es := List.mergeSort_perm _ _
theorem sortI_len (es : List Int) : (sortI es).length = es.length := (sortI_perm es).length_eq
theorem sortI_le (es : List Int) : (sortI es).Pairwise (· ≤ ·) := by
  have h := List.pairwise_mergeSort (le := fun x y : Int => decide (x ≤ y)) (fun a b c h1 h2 => decide_eq_true (Int.le_trans (of_decide_eq_true h1) (of_decide_eq_true h2))) (fun a b => by simp; exact Int.le_total a b) es
  exact h.imp fun h => of_decide_eq_true h

/-- What sorting leaves of a slice of numbers. -/
def SrtI (w : World) (lo : Nat) (v : Value) (es : List Int) (w' : World) : Prop :=
  OwnV w' lo v (sortI es) ∧ Save (fun g => v.ownBlock = some g) w w'

end Go.Proofs.YtfbpcdmpkbjifaaDoor
