/- What the program's checks of lists answer: slices.Compare, isRising, allLong, goodLists, goodEmpty. -/
import Derived.Test.YtfbpcdmpkbjifaaDoorC803
import Derived.Test.YtfbpcdmpkbjifaaDoorC801
import Derived.Lib.QuietBelow
import Derived.Test.YtfbpcdmpkbjifaaDoorC802
import Derived.Lib.AppendZerosOnto
import Derived.Lib.AppendZeros
import Derived.Deep.AppendLies
import Derived.Deep.RegionLaw

namespace Go.Proofs.YtfbpcdmpkbjifaaDoor
open Go.RowKit

/-- Two numbers compared. -/
def cmpI (x y : Int) : Int := if x < y then -1 else if y < x then 1 else 0

theorem cmpI_lt {x y : Int} : cmpI x y < 0 ↔ x < y := by
  unfold cmpI
  split
  · simp_all
  · split <;> simp_all

set_option maxHeartbeats 400000 in
theorem isNaN_any (x : Int) (w : World) : Calls Tryd.prog 174 #[.int .i64 x] w fun e w' => e = .returned (.bool false) ∧ w' = w := by
  have hd : (x != x) = false := by simp
  go_enter Tryd.func174, Tryd.ntmps174
  go_wp2
  go_ret
  exact ⟨rfl, rfl⟩

set_option maxHeartbeats 400000 in
theorem compareI_any (x y : Int) (w : World) : Calls Tryd.prog 154 #[.int .i64 x, .int .i64 y] w fun e w' => e = .returned (.int .i64 (cmpI x y)) ∧ w' = w := by
  rcases Int.lt_trichotomy x y with h | h | h
  · have HE : Hid (cmpI x y = -1) := by show _ = _; unfold cmpI; rw [if_pos h]
    go_enter Tryd.func154, Tryd.ntmps154
    go_wp2_with (go_at_call 174; refine (isNaN_any _ _).mono ?_; rintro e w' ⟨rfl, rfl⟩)
    go_ret
    exact ⟨by rw [HE.out]; rfl, rfl⟩
  · have HE : Hid (cmpI x y = 0) := by show _ = _; unfold cmpI; rw [if_neg (by omega), if_neg (by omega)]
    have h1 : ¬ x < y := by omega
    have h2 : ¬ y < x := by omega
    clear h
    go_enter Tryd.func154, Tryd.ntmps154
    go_wp2_with (go_at_call 174; refine (isNaN_any _ _).mono ?_; rintro e w' ⟨rfl, rfl⟩)
    go_ret
    exact ⟨by rw [HE.out]; rfl, rfl⟩
  · have HE : Hid (cmpI x y = 1) := by show _ = _; unfold cmpI; rw [if_neg (by omega), if_pos h]
    have h1 : ¬ x < y := by omega
    go_enter Tryd.func154, Tryd.ntmps154
    go_wp2_with (go_at_call 174; refine (isNaN_any _ _).mono ?_; rintro e w' ⟨rfl, rfl⟩)
    go_ret
    exact ⟨by rw [HE.out]; rfl, rfl⟩

set_option maxHeartbeats 400000 in
theorem compareL_any (A A' : Option Addr) (xs ys : List Int) (c c' : Nat) (w : World) (hx : Ints w w.heap.size A xs) (hy : Ints w w.heap.size A' ys) (h1 : xs.length ≤ 1048576) :
    Calls Tryd.prog 170 #[.slice A xs.length c, .slice A' ys.length c'] w fun e w' => e = .returned (.int .i64 (cmpL xs ys)) ∧ w' = w := by
  have HX := Lib.hid hx; clear hx
  have HY := Lib.hid hy; clear hy
  go_enter Tryd.func170, Tryd.ntmps170
  go_wp2
  go_loopw [11] (fun i wr => ∃ (k : Nat), k ≤ xs.length ∧ i = .int .i64 k ∧ wr = w ∧ Hid (cmpL xs ys = cmpL (xs.drop k) (ys.drop k))) (fun i _ => xs.length - (intOf i).toNat)
  case atStart => exact ⟨0, by omega, rfl, rfl, rfl⟩
  case round =>
    obtain ⟨k, hk, rfl, rfl, H⟩ := hrel
    by_cases hlt : k < xs.length
    · obtain ⟨b, o, rfl, hb, c1⟩ := HX.out.at_ hlt
      by_cases hlt' : k < ys.length
      · obtain ⟨b', o', rfl, hb', c2⟩ := HY.out.at_ hlt'
        by_cases hne : cmpI xs[k] ys[k] = 0
        · have hd : (cmpI xs[k] ys[k] != 0) = false := bne_f hne
          have HN : Hid (cmpL xs ys = cmpL (xs.drop (k + 1)) (ys.drop (k + 1))) := by
            show _ = _
            rw [H.out, cmpL_drop hlt hlt']
            unfold cmpI at hne
            split at hne
            · cases hne
            · split at hne
              · cases hne
              · rename_i g1 g2; rw [if_neg g1, if_neg g2]
          clear hne
          go_wp2_with (go_at_call 154; refine (compareI_any _ _ _).mono ?_; rintro e w' ⟨rfl, rfl⟩)
          go_roundw
          case rel => exact ⟨k + 1, by omega, by go_num, trivial, HN.out⟩
          case measure => simp [intOf]; omega
        · have hd : (cmpI xs[k] ys[k] != 0) = true := bne_t hne
          have HN : Hid (cmpL xs ys = cmpI xs[k] ys[k]) := by
            show _ = _
            rw [H.out, cmpL_drop hlt hlt']
            unfold cmpI at hne ⊢
            split
            · rfl
            · split
              · rfl
              · rename_i g1 g2; rw [if_neg g1, if_neg g2] at hne; exact absurd rfl hne
          clear hne
          go_wp2_with (go_at_call 154; refine (compareI_any _ _ _).mono ?_; rintro e w' ⟨rfl, rfl⟩)
          go_ret
          exact ⟨by rw [HN.out]; rfl, rfl⟩
      · have HN : Hid (cmpL xs ys = 1) := H.out.trans (cmpL_left hlt hlt')
        go_wp2
        go_ret
        exact ⟨by rw [HN.out]; rfl, rfl⟩
    · by_cases hl : xs.length < ys.length
      · have HN : Hid (cmpL xs ys = -1) := H.out.trans (cmpL_right hlt (by omega))
        go_wp2
        go_ret
        exact ⟨by rw [HN.out]; rfl, rfl⟩
      · by_cases hl2 : k < ys.length
        · omega
        have HN : Hid (cmpL xs ys = 0) := H.out.trans (cmpL_end hlt hl2)
        go_wp2
        go_ret
        exact ⟨by rw [HN.out]; rfl, rfl⟩

set_option maxRecDepth 100000 in
theorem cmpF_enter (xs : Array Value) (v : World) : Sem.run Tryd.prog (callFunc 170 xs) v = .ok (.enter 170 xs) v := rfl
set_option maxRecDepth 100000 in
theorem cmpI_enter (xs : Array Value) (v : World) : Sem.run Tryd.prog (callFunc 154 xs) v = .ok (.enter 154 xs) v := rfl

set_option maxRecDepth 20000 in
set_option maxHeartbeats 400000 in
theorem isRisingL_any (A : Option Addr) (ls : List Li) (c : Nat) (w : World) (hx : Lls w w.heap.size A ls) (h1 : ls.length ≤ 1048576) (h2 : ∀ u ∈ ls, u.r.length ≤ 1048576) :
    Calls Tryd.prog 169 #[.slice A ls.length c, .func (.func 170) #[] #[]] w fun e w' => e = .returned (.bool (bP (RiseTo (sayL ls) ls.length))) ∧ Below w.heap.size w w' := by
  have HX := Lib.hid hx; clear hx
  have H2 := Lib.hid h2; clear h2
  have HCF := cmpF_enter
  go_enter Tryd.func169, Tryd.ntmps169
  go_wp2
  go_loopw [5] (fun i wr => ∃ (j : Nat), i = .int .i64 ((j + 1 : Nat) : Int) ∧ j ≤ ls.length ∧ Below w.heap.size w wr ∧ Hid (RiseTo (sayL ls) (j + 1))) (fun i _ => ls.length + 1 - (intOf i).toNat)
  case atStart => exact ⟨0, rfl, by omega, Below.refl _ _, RiseTo.none _⟩
  case round =>
    obtain ⟨k, rfl, hk, hB, H⟩ := hrel
    by_cases hlt' : k + 1 < ls.length
    · have hlt : k < ls.length := by omega
      obtain ⟨b, o, rfl, hb, c1, _, c3⟩ := (HX.out.keep hB).at_ hlt
      obtain ⟨b', o', e', hb', d1, _, d3⟩ := (HX.out.keep hB).at_ hlt'
      injection e' with e'
      injection e' with e1 e2
      subst e1 e2
      have C3 := Lib.hid (c3.more hB.size); clear c3
      have D3 := Lib.hid (d3.more hB.size); clear d3
      have hlen2 := H2.out ls[k] (List.getElem_mem hlt)
      by_cases hq : cmpL ls[k].r ls[k + 1].r < 0
      all_goals
        have HQ := Lib.hid hq
        have hwk : IntKind.i64.wrap (k : Int) = (k : Int) := by rw [IntKind.wrap_i64]; omega
        have hI1 : (k : Int) + 1 < (ls.length : Int) := by omega
        have hI0 : (0 : Int) ≤ (k : Int) + 1 := by omega
        have hT : ((k : Int) + 1).toNat = k + 1 := by omega
        go_wp2
        go_still_tail 10, (by kernel_rfl)
        change wpList _ _ _ _ _ wr.drew
        go_wp2_with fail
        refine (compareL_any _ _ _ _ _ _ _ ?_ ?_ hlen2).mono ?_
        · exact C3.out.keep (by go_grown)
        · exact D3.out.keep (by go_grown)
        rintro e w1 ⟨rfl, rfl⟩
        have hB2 : Below w.heap.size w wr.drew := hB.trans (Below.trans (by go_grown) (Below.refl _ _))
      · have HN : Hid (RiseTo (sayL ls) (k + 1 + 1)) := H.out.step (sayL_at hlt) (sayL_at hlt') HQ.out
        go_wp2
        go_roundw
        case rel => exact ⟨k + 1, by go_num, by omega, hB2, HN.out⟩
        case measure => simp [intOf]; omega
      · have HE : Hid (bP (RiseTo (sayL ls) ls.length) = false) := bP_f fun h => by have h1 := h k _ _ hlt' (sayL_at hlt) (sayL_at hlt'); have h2 := HQ.out; omega
        go_wp2
        go_ret
        exact ⟨ret_b HE.out.symm, hB2⟩
    · have HE : Hid (bP (RiseTo (sayL ls) ls.length) = true) := bP_t (H.out.mono (by omega))
      go_wp2
      go_ret
      exact ⟨ret_b HE.out.symm, hB⟩

set_option maxRecDepth 20000 in
set_option maxHeartbeats 400000 in
theorem isRisingI_any (A : Option Addr) (xs : List Int) (c : Nat) (w : World) (hx : Ints w w.heap.size A xs) (h1 : xs.length ≤ 1048576) :
    Calls Tryd.prog 153 #[.slice A xs.length c, .func (.func 154) #[] #[]] w fun e w' => e = .returned (.bool (bP (RiseI xs xs.length))) ∧ Below w.heap.size w w' := by
  have HX := Lib.hid hx; clear hx
  have HCF := cmpI_enter
  go_enter Tryd.func153, Tryd.ntmps153
  go_wp2
  go_loopw [5] (fun i wr => ∃ (j : Nat), i = .int .i64 ((j + 1 : Nat) : Int) ∧ j ≤ xs.length ∧ Below w.heap.size w wr ∧ Hid (RiseI xs (j + 1))) (fun i _ => xs.length + 1 - (intOf i).toNat)
  case atStart => exact ⟨0, rfl, by omega, Below.refl _ _, RiseI.none _⟩
  case round =>
    obtain ⟨k, rfl, hk, hB, H⟩ := hrel
    by_cases hlt' : k + 1 < xs.length
    · have hlt : k < xs.length := by omega
      obtain ⟨b, o, rfl, hb, c1⟩ := (HX.out.keep hB).at_ hlt
      obtain ⟨b', o', e', hb', d1⟩ := (HX.out.keep hB).at_ hlt'
      injection e' with e'
      injection e' with e1 e2
      subst e1 e2
      by_cases hq : cmpI xs[k] xs[k + 1] < 0
      all_goals
        have HQ := Lib.hid hq
        have hwk : IntKind.i64.wrap (k : Int) = (k : Int) := by rw [IntKind.wrap_i64]; omega
        have hI1 : (k : Int) + 1 < (xs.length : Int) := by omega
        have hI0 : (0 : Int) ≤ (k : Int) + 1 := by omega
        have hT : ((k : Int) + 1).toNat = k + 1 := by omega
        go_wp2
        go_still_tail 10, (by kernel_rfl)
        change wpList _ _ _ _ _ wr.drew
        go_wp2_with fail
        refine (compareI_any _ _ _).mono ?_
        rintro e w1 ⟨rfl, rfl⟩
        have hB2 : Below w.heap.size w wr.drew := hB.trans (Below.trans (by go_grown) (Below.refl _ _))
      · have HN : Hid (RiseI xs (k + 1 + 1)) := H.out.step (List.getElem?_eq_getElem hlt) (List.getElem?_eq_getElem hlt') (cmpI_lt.1 HQ.out)
        go_wp2
        go_roundw
        case rel => exact ⟨k + 1, by go_num, by omega, hB2, HN.out⟩
        case measure => simp [intOf]; omega
      · have HE : Hid (bP (RiseI xs xs.length) = false) := bP_f fun h => by have h1 := cmpI_lt.2 (h k _ _ hlt' (List.getElem?_eq_getElem hlt) (List.getElem?_eq_getElem hlt')); have h2 := HQ.out; omega
        go_wp2
        go_ret
        exact ⟨ret_b HE.out.symm, hB2⟩
    · have HE : Hid (bP (RiseI xs xs.length) = true) := bP_t (H.out.mono (by omega))
      go_wp2
      go_ret
      exact ⟨ret_b HE.out.symm, hB⟩

set_option maxHeartbeats 400000 in
theorem allLong_any (A : Option Addr) (ls : List Li) (c : Nat) (long : Int) (w : World) (hx : Lls w w.heap.size A ls) (h1 : ls.length ≤ 1048576) :
    Calls Tryd.prog 147 #[.slice A ls.length c, .int .i64 long] w fun e w' => e = .returned (.bool (bP (LongTo long (sayL ls) ls.length))) ∧ w' = w := by
  have HX := Lib.hid hx; clear hx
  go_enter Tryd.func147, Tryd.ntmps147
  go_wp2
  go_loopw [9] (fun i wr => ∃ (k : Nat), k ≤ ls.length ∧ i = .int .i64 k ∧ wr = w ∧ Hid (LongTo long (sayL ls) k)) (fun i _ => ls.length - (intOf i).toNat)
  case atStart => exact ⟨0, by omega, rfl, rfl, fun j x h => absurd h (by omega)⟩
  case round =>
    obtain ⟨k, hk, rfl, rfl, H⟩ := hrel
    by_cases hlt : k < ls.length
    · obtain ⟨b, o, rfl, hb, c1, c2, c3⟩ := HX.out.at_ hlt
      clear c2 c3
      by_cases hne : (ls[k].r.length : Int) = long
      · have hd : ((ls[k].r.length : Int) != long) = false := bne_f hne
        have HN : Hid (LongTo long (sayL ls) (k + 1)) := upto_next (Q := fun x : List Int => (x.length : Int) = long) (sayL_at hlt) hne H.out
        clear hne
        go_wp2
        go_roundw
        case rel => exact ⟨k + 1, by omega, by go_num, trivial, HN.out⟩
        case measure => simp [intOf]; omega
      · have hd : ((ls[k].r.length : Int) != long) = true := bne_t hne
        have HN : Hid (bP (LongTo long (sayL ls) ls.length) = false) := bP_f fun h => hne (h k _ hlt (sayL_at hlt))
        clear hne
        go_wp2
        go_ret
        exact ⟨ret_b HN.out.symm, rfl⟩
    · have HN : Hid (bP (LongTo long (sayL ls) ls.length) = true) := bP_t (fun j x _ hx => H.out j x (by have := (List.getElem?_eq_some_iff.1 hx).1; rw [sayL_len] at this; omega) hx)
      go_wp2
      go_ret
      exact ⟨ret_b HN.out.symm, rfl⟩

end Go.Proofs.YtfbpcdmpkbjifaaDoor

/- What the program's checks of a binary grammar answer: goodEmpty, goodLists, GoodBinary. -/

namespace Go.Proofs.YtfbpcdmpkbjifaaDoor
open Go.RowKit
open Go.Sort (grow)

set_option maxRecDepth 20000 in
set_option maxHeartbeats 400000 in
theorem goodEmpty_any (n t : Int) (A : Option Addr) (xs : List Int) (c : Nat) (w : World) (hx : Ints w w.heap.size A xs) (h1 : xs.length ≤ 1048576) :
    Calls Tryd.prog 129 #[.agg #[.int .i64 n, .int .i64 t, .slice none 0 0], .slice A xs.length c] w fun e w' => e = .returned (.bool (bP (GoodE n xs))) ∧ Below w.heap.size w w' := by
  have HX := Lib.hid hx; clear hx
  have HBW : Hid (Below w.heap.size w (w.alloc (.cells #[.int .i64 n, .int .i64 t, .slice none 0 0] 147))) := by show Below _ _ _; go_grown
  have HB3 : Hid (Box3 (w.alloc (.cells #[.int .i64 n, .int .i64 t, .slice none 0 0] 147)) w.heap.size (.int .i64 n) (.int .i64 t) (.slice none 0 0)) := ⟨by simp, by simp [go_sem], by simp [go_sem], by simp [go_sem]⟩
  go_enter Tryd.func129, Tryd.ntmps129
  go_wp2
  go_loopw [9] (fun i wr => ∃ (k : Nat), k ≤ xs.length ∧ i = .int .i64 k ∧ Below w.heap.size w wr ∧ Box3 wr w.heap.size (.int .i64 n) (.int .i64 t) (.slice none 0 0) ∧ Hid (NonTo n xs k)) (fun i _ => xs.length - (intOf i).toNat)
  case atStart => exact ⟨0, by omega, rfl, HBW.out, HB3.out, fun j x h => absurd h (by omega)⟩
  case round =>
    obtain ⟨k, hk, rfl, hB, hbox, H⟩ := hrel
    by_cases hlt : k < xs.length
    · obtain ⟨b, o, rfl, hb, c1⟩ := (HX.out.keep hB).at_ hlt
      obtain ⟨g0, g1, g2, g3⟩ := id hbox
      have HBX := Lib.hid hbox; clear hbox
      cases hs : nonB n xs[k]
      all_goals
        have HSY := Lib.hid hs; clear hs
        go_wp2_with fail
        refine (isNon_any _ _ _ _ _).mono ?_
        rintro e w3 ⟨rfl, hB3⟩
        rw [HSY.out]
        have hB4 : Below w.heap.size w w3 := hB.trans (hB3.mono hB.size)
      · have HE : Hid (bP (GoodE n xs) = false) := bP_f fun h => by
          have := h.1 k _ hlt (List.getElem?_eq_getElem hlt)
          rw [HSY.out] at this; cases this
        go_wp2
        go_ret
        exact ⟨ret_b HE.out.symm, hB4⟩
      · have HN : Hid (NonTo n xs (k + 1)) := upto_next (Q := fun x => nonB n x = true) (List.getElem?_eq_getElem hlt) HSY.out H.out
        go_wp2
        go_roundw
        case rel => exact ⟨k + 1, by omega, by go_num, hB4, HBX.out.keep hB3 g0, HN.out⟩
        case measure => simp [intOf]; omega
    · have HN : Hid (NonTo n xs xs.length) := upto_end (Q := fun x => nonB n x = true) hlt H.out
      clear hbox H
      go_wp2_with fail
      refine (isRisingI_any _ _ _ _ ((HX.out.keep hB).more hB.size) h1).mono ?_
      rintro e w3 ⟨rfl, hB3⟩
      have HE : Hid (bP (GoodE n xs) = bP (RiseI xs xs.length)) := bP_congr ⟨fun h => h.2, fun h => ⟨HN.out, h⟩⟩
      have hB4 : Below w.heap.size w w3 := hB.trans (hB3.mono hB.size)
      clear hB3
      go_wp2
      go_ret
      exact ⟨ret_b HE.out.symm, hB4⟩

theorem Ints.drop1 {w : World} {B b o : Nat} {xs : List Int} (h : Ints w B (some ⟨b, o, none⟩) xs) : Ints w B (some ⟨b, o + 1, none⟩) (xs.drop 1) := by
  intro hn
  obtain ⟨b', o', e, hb, hc⟩ := h (by simp at hn; omega)
  injection e with e
  injection e with e1 e2
  subst e1 e2
  refine ⟨b, o + 1, rfl, hb, fun k x hx => ?_⟩
  rw [List.getElem?_drop] at hx
  have := hc _ _ hx
  rw [show o + (1 + k) = o + 1 + k by omega] at this
  exact this

theorem getD_zero {xs : List Int} (h : 0 < xs.length) : xs.getD 0 0 = xs[0] := by
  rw [List.getD_eq_getElem?_getD, List.getElem?_eq_getElem h]; rfl

set_option maxRecDepth 20000 in
set_option maxHeartbeats 1000000 in
theorem goodLists_any (n t : Int) (long : Nat) (hl2 : 2 ≤ long) (hl3 : long ≤ 3) (A : Option Addr) (ls : List Li) (c : Nat) (w : World) (hx : Lls w w.heap.size A ls) (h1 : ls.length ≤ 1048576) (h2 : ∀ u ∈ ls, u.r.length ≤ 1048576) (hf : FitL (sayL ls)) :
    Calls Tryd.prog 146 #[.agg #[.int .i64 n, .int .i64 t, .slice none 0 0], .slice A ls.length c, .int .i64 long] w fun e w' => e = .returned (.bool (bP (GoodLs n t long (sayL ls)))) ∧ Below w.heap.size w w' := by
  have HX := Lib.hid hx; clear hx
  have H2 := Lib.hid h2; clear h2
  have HF := Lib.hid hf; clear hf
  have HBW : Hid (Below w.heap.size w (w.alloc (.cells #[.int .i64 n, .int .i64 t, .slice none 0 0] 147))) := by show Below _ _ _; go_grown
  have HB3 : Hid (Box3 (w.alloc (.cells #[.int .i64 n, .int .i64 t, .slice none 0 0] 147)) w.heap.size (.int .i64 n) (.int .i64 t) (.slice none 0 0)) := ⟨by simp, by simp [go_sem], by simp [go_sem], by simp [go_sem]⟩
  have HLN : Hid ((sayL ls).length = ls.length) := sayL_len
  cases hq : bP (LongTo long (sayL ls) ls.length)
  · have HQ := Lib.hid hq; clear hq
    have HE : Hid (bP (GoodLs n t long (sayL ls)) = false) := bP_f fun h => bP_no HQ.out (by have := h.1; rw [HLN.out] at this; exact this)
    go_enter Tryd.func146, Tryd.ntmps146
    go_wp2_with fail
    refine (allLong_any _ _ _ _ _ ((HX.out.keep HBW.out).more HBW.out.size) h1).mono ?_
    rintro e w1 ⟨rfl, rfl⟩
    rw [HQ.out]
    go_wp2
    go_ret
    exact ⟨ret_b HE.out.symm, HBW.out⟩
  · have HQ := Lib.hid hq; clear hq
    have HLO : Hid (LongTo long (sayL ls) ls.length) := bP_is HQ.out
    go_enter Tryd.func146, Tryd.ntmps146
    go_wp2_with fail
    refine (allLong_any _ _ _ _ _ ((HX.out.keep HBW.out).more HBW.out.size) h1).mono ?_
    rintro e w1 ⟨rfl, rfl⟩
    rw [HQ.out]
    generalize (w.alloc (.cells #[.int .i64 n, .int .i64 t, .slice none 0 0] 147)) = W at HBW HB3 ⊢
    go_wp2
    go_loopw [15] (fun i wr => ∃ (k : Nat), k ≤ ls.length ∧ i = .int .i64 k ∧ Below w.heap.size w wr ∧ Box3 wr w.heap.size (.int .i64 n) (.int .i64 t) (.slice none 0 0) ∧ Hid (SymTo n t (sayL ls) k)) (fun i _ => ls.length - (intOf i).toNat)
    case atStart => exact ⟨0, by omega, rfl, HBW.out, HB3.out, fun j x h => absurd h (by omega)⟩
    case round =>
      obtain ⟨k, hk, rfl, hB, hbox, H⟩ := hrel
      by_cases hlt : k < ls.length
      · obtain ⟨b, o, rfl, hb, c1, c2, c3⟩ := (HX.out.keep hB).at_ hlt
        obtain ⟨g0, g1, g2, g3⟩ := id hbox
        have HBX := Lib.hid hbox; clear hbox
        have hlen2 := H2.out ls[k] (List.getElem_mem hlt)
        have HLK : Hid ((ls[k].r.length : Int) = long) := HLO.out k _ hlt (sayL_at hlt)
        have hr0 : 1 < ls[k].r.length := by have := HLK.out; omega
        have hc0 : 1 < ls[k].c := by omega
        have hci : (1 : Int) < (ls[k].c : Int) := by omega
        have hri : (1 : Int) < (ls[k].r.length : Int) := by omega
        obtain ⟨b', o', ea, hb', d1⟩ := c3.at_ (k := 0) (by omega)
        have C3 := Lib.hid (c3.more hB.size); clear c3
        rw [ea] at c1 C3
        rw [Nat.add_zero] at d1
        generalize hx0 : ls[k].r[0]'(by omega) = x0 at d1
        have HX0 : Hid (ls[k].r.getD 0 0 = x0) := (getD_zero (by omega)).trans hx0
        clear hx0
        have q0 := cell_regrown d1
        have p0 := cell_regrown g1
        have p1 := cell_regrown g2
        have p2 := cell_regrown g3
        have HRG : Hid (∀ d os, Below w.heap.size w (grow (redrawn wr d) os)) := fun d os => hB.trans ((below_regrown wr d os).mono hB.size)
        have HWR : Hid (∀ d os, Below wr.heap.size wr (grow (redrawn wr d) os)) := fun d os => below_regrown wr d os
        clear g1 g2 g3 d1 ea
        have HCG : Hid (∀ d os, Calls Tryd.prog 152 #[.agg #[.int .i64 n, .int .i64 t, .slice none 0 0], .int .i64 x0] (grow (redrawn wr d) os) fun e w' => e = .returned (.bool (nonB n x0)) ∧ Below (grow (redrawn wr d) os).heap.size (grow (redrawn wr d) os) w') := fun d os =>
          isNon_any _ _ _ _ _
        go_wp2
        cases hu : nonB n x0
        · have HU := Lib.hid hu; clear hu
          have HE : Hid (bP (GoodLs n t long (sayL ls)) = false) := bP_f fun h => by
            have h1 := (h.2.1 k _ (by rw [HLN.out]; exact hlt) (sayL_at hlt)).1
            rw [HX0.out, HU.out] at h1; cases h1
          rw [HU.out] at HCG
          refine wp_region_quiet_below (by kernel_rfl) (by kernel_rfl) ?_
          repeat (first | go_big_quiet_step (exact Calls.regrown_of (HCG.out _ _)) | quiet_step (exact Calls.regrown_of (HCG.out _ _)))
          refine wpQuiet_nil ?_
          intro _ hw'
          obtain ⟨⟨dq, osq⟩, hw''⟩ := hw'
          subst hw''
          go_wp2
          go_ret
          exact ⟨ret_b HE.out.symm, HRG.out dq osq⟩
        · have HU := Lib.hid hu; clear hu
          rw [HU.out] at HCG
          have HFK : Hid (∀ x ∈ ls[k].r.drop 1, F64 x) := fun x hx => HF.out ls[k].r (sayL_mem (List.getElem_mem hlt)) x (List.mem_of_mem_drop hx)
          have HCH : Hid (∀ d os, Calls Tryd.prog 168 #[.agg #[.int .i64 n, .int .i64 t, .slice none 0 0], .slice (some ⟨b', o' + 1, none⟩) (ls[k].r.length - 1) (ls[k].c - 1)] (grow (redrawn wr d) os) fun e w' => e = .returned (.bool (symsB n t (ls[k].r.drop 1))) ∧ Below (grow (redrawn wr d) os).heap.size (grow (redrawn wr d) os) w') := fun d os => by
            have h := allSymbols_any n t none (some ⟨b', o' + 1, none⟩) 0 0 (ls[k].c - 1) (ls[k].r.drop 1) (grow (redrawn wr d) os) ((C3.out.keep (HWR.out d os)).more (HWR.out d os).size).drop1 (by simp; omega) HFK.out
            rw [List.length_drop] at h
            exact h
          cases hh : symsB n t (ls[k].r.drop 1)
          all_goals
            have HH := Lib.hid hh; clear hh
            rw [HH.out] at HCH
            refine wp_region_quiet_below (by kernel_rfl) (by kernel_rfl) ?_
            repeat (first | go_big_quiet_step (first | with_reducible exact Calls.regrown_of (HCG.out _ _) | exact Calls.regrown_of (HCH.out _ _)) | quiet_step (first | with_reducible exact Calls.regrown_of (HCG.out _ _) | exact Calls.regrown_of (HCH.out _ _)))
            refine wpQuiet_nil ?_
            intro _ hw'
            obtain ⟨⟨dq, osq⟩, hw''⟩ := hw'
            subst hw''
            go_wp2
          · have HE : Hid (bP (GoodLs n t long (sayL ls)) = false) := bP_f fun h => by
              have h1 := (h.2.1 k _ (by rw [HLN.out]; exact hlt) (sayL_at hlt)).2
              rw [HH.out] at h1; cases h1
            go_ret
            exact ⟨ret_b HE.out.symm, HRG.out dq osq⟩
          · have HN : Hid (SymTo n t (sayL ls) (k + 1)) := upto_next (Q := symL n t) (sayL_at hlt) ⟨by rw [HX0.out]; exact HU.out, HH.out⟩ H.out
            go_roundw
            case rel => exact ⟨k + 1, by omega, by go_num, HRG.out dq osq, HBX.out.keep (HWR.out dq osq) g0, HN.out⟩
            case measure => simp [intOf]; omega
      · have HN : Hid (SymTo n t (sayL ls) (sayL ls).length) := upto_end (Q := symL n t) (k := k) (by rw [HLN.out]; exact hlt) H.out
        clear hbox H
        go_wp2_with fail
        refine (isRisingL_any _ _ _ _ ((HX.out.keep hB).more hB.size) h1 H2.out).mono ?_
        rintro e w3 ⟨rfl, hB3⟩
        have HE : Hid (bP (GoodLs n t long (sayL ls)) = bP (RiseTo (sayL ls) ls.length)) := bP_congr ⟨fun h => by have := h.2.2; rw [HLN.out] at this; exact this, fun h => ⟨by rw [HLN.out]; exact HLO.out, HN.out, by rw [HLN.out]; exact h⟩⟩
        have hB4 : Below w.heap.size w w3 := hB.trans (hB3.mono hB.size)
        clear hB3
        go_wp2
        go_ret
        exact ⟨ret_b HE.out.symm, hB4⟩

end Go.Proofs.YtfbpcdmpkbjifaaDoor

/- What the program's GoodBinary answers. -/

namespace Go.Proofs.YtfbpcdmpkbjifaaDoor
open Go.RowKit
open Go.Sort (grow)

/-- A binary grammar's box: its cells stay while only newer memory is written. -/
def Box6 (w : World) (g : Nat) (b : Bi) : Prop := g < w.heap.size ∧ w.cell? ⟨g, 0, none⟩ = some (.int .i64 b.n) ∧ w.cell? ⟨g, 1, none⟩ = some (.int .i64 b.t) ∧ w.cell? ⟨g, 2, none⟩ = some (.slice b.Ap b.P.length b.cp) ∧
  w.cell? ⟨g, 3, none⟩ = some (.slice b.Ao b.O.length b.co) ∧ w.cell? ⟨g, 4, none⟩ = some (.slice b.Ae b.E.length b.ce) ∧ w.cell? ⟨g, 5, none⟩ = some (.slice b.Af b.F.length b.cf)
theorem Box6.keep {w w' : World} {g B : Nat} {b : Bi} (h : Box6 w g b) (hb : Below B w w') (hB : g < B) : Box6 w' g b := by
  obtain ⟨h0, h1, h2, h3, h4, h5, h6⟩ := h
  exact ⟨by have := hb.size; omega, (hb.cell (p := ⟨g, 0, none⟩) hB).trans h1, (hb.cell (p := ⟨g, 1, none⟩) hB).trans h2, (hb.cell (p := ⟨g, 2, none⟩) hB).trans h3, (hb.cell (p := ⟨g, 3, none⟩) hB).trans h4, (hb.cell (p := ⟨g, 4, none⟩) hB).trans h5, (hb.cell (p := ⟨g, 5, none⟩) hB).trans h6⟩
theorem Box6.new (w : World) (b : Bi) (t : TypeId) : Box6 (w.alloc (.cells #[.int .i64 b.n, .int .i64 b.t, .slice b.Ap b.P.length b.cp, .slice b.Ao b.O.length b.co, .slice b.Ae b.E.length b.ce, .slice b.Af b.F.length b.cf] t)) w.heap.size b := ⟨by simp, by simp [go_sem], by simp [go_sem], by simp [go_sem], by simp [go_sem], by simp [go_sem], by simp [go_sem]⟩

set_option maxHeartbeats 400000 in
theorem symbolsOf_any (b : Bi) (w : World) :
    Calls Tryd.prog 127 #[(.agg #[.int .i64 b.n, .int .i64 b.t, .slice b.Ap b.P.length b.cp, .slice b.Ao b.O.length b.co, .slice b.Ae b.E.length b.ce, .slice b.Af b.F.length b.cf])] w fun e w' => e = .returned (.agg #[.int .i64 b.n, .int .i64 b.t, .slice none 0 0]) ∧ Below w.heap.size w w' := by
  go_enter Tryd.func127, Tryd.ntmps127
  go_wp2
  exact bodyPost_ret (v := .agg #[.int .i64 b.n, .int .i64 b.t, .slice none 0 0]) (by simp [results, Tryd.results127, go_sem]) rfl ⟨rfl, by go_grown⟩

set_option maxRecDepth 20000 in
set_option maxHeartbeats 1000000 in
theorem implGoodB_any (b : Bi) (w : World) (hx : ReadB w w.heap.size b) (hL : Lims w) (hm : LenB 1048576 b) (hf : FitB b.say) :
    Calls Tryd.prog 115 #[(.agg #[.int .i64 b.n, .int .i64 b.t, .slice b.Ap b.P.length b.cp, .slice b.Ao b.O.length b.co, .slice b.Ae b.E.length b.ce, .slice b.Af b.F.length b.cf])] w fun e w' => e = .returned (.bool (bP (GoodBs b.say))) ∧ Below w.heap.size w w' := by
  have HX := Lib.hid hx; clear hx
  have HL := Lib.hid hL; clear hL
  have HM := Lib.hid hm; clear hm
  have HF := Lib.hid hf; clear hf
  have hB0 : Below w.heap.size w (w.alloc (.cells #[.int .i64 b.n, .int .i64 b.t, .slice b.Ap b.P.length b.cp, .slice b.Ao b.O.length b.co, .slice b.Ae b.E.length b.ce, .slice b.Af b.F.length b.cf] 55)) := by go_grown
  have BX0 := Box6.new w b 55
  go_enter Tryd.func115, Tryd.ntmps115
  go_wp2_with fail
  generalize (w.alloc (.cells #[.int .i64 b.n, .int .i64 b.t, .slice b.Ap b.P.length b.cp, .slice b.Ao b.O.length b.co, .slice b.Ae b.E.length b.ce, .slice b.Af b.F.length b.cf] 55)) = W at hB0 BX0 ⊢
  have HB0 := Lib.hid hB0; clear hB0
  have HBX0 := Lib.hid BX0; clear BX0
  refine (within5 _ _ (HL.out.keep HB0.out (Nat.le_refl _))).mono ?_
  rintro e w1 ⟨rfl, hB1⟩
  have HBX1 := Lib.hid (HBX0.out.keep hB1 HBX0.out.1)
  have HB1 := Lib.hid (HB0.out.trans (hB1.mono HB0.out.size)); clear hB1 HBX0 HB0
  obtain ⟨_, b0, b1, b2, b3, b4, b5⟩ := HBX1.out
  cases hn : inB 1 40 b.n
  · have HE : Hid (bP (GoodBs b.say) = false) := bP_f fun h => inB_not hn h.1
    go_wp2
    go_ret
    exact ⟨ret_b HE.out.symm, HB1.out⟩
  have HN := Lib.hid (inB_and hn); clear hn
  go_wp2_with fail
  refine (within1 _ _ (HL.out.keep HB1.out (Nat.le_refl _))).mono ?_
  rintro e w2 ⟨rfl, hB2⟩
  have HBX2 := Lib.hid (HBX1.out.keep hB2 HBX1.out.1)
  have HB2 := Lib.hid (HB1.out.trans (hB2.mono HB1.out.size)); clear hB2 HBX1 HB1 b0 b1 b2 b3 b4 b5
  obtain ⟨_, b0, b1, b2, b3, b4, b5⟩ := HBX2.out
  cases ht : inB 1 4 b.t
  · have HE : Hid (bP (GoodBs b.say) = false) := bP_f fun h => inB_not ht h.2.1
    go_wp2
    go_ret
    exact ⟨ret_b HE.out.symm, HB2.out⟩
  have HT := Lib.hid (inB_and ht); clear ht
  go_wp2_with fail
  refine (symbolsOf_any _ _).mono ?_
  rintro e w3 ⟨rfl, hB3⟩
  have HBX3 := Lib.hid (HBX2.out.keep hB3 HBX2.out.1)
  have HB3 := Lib.hid (HB2.out.trans (hB3.mono HB2.out.size)); clear hB3 HBX2 HB2 b0 b1 b2 b3 b4 b5
  obtain ⟨_, b0, b1, b2, b3, b4, b5⟩ := HBX3.out
  go_wp2_with fail
  have hB4 : Below w3.heap.size w3 (w3.alloc (.cells #[.int .i64 b.n, .int .i64 b.t, .slice none 0 0] 147)) := by go_grown
  have BG4 : Box3 (w3.alloc (.cells #[.int .i64 b.n, .int .i64 b.t, .slice none 0 0] 147)) w3.heap.size (.int .i64 b.n) (.int .i64 b.t) (.slice none 0 0) := ⟨by simp, by simp [go_sem], by simp [go_sem], by simp [go_sem]⟩
  generalize (w3.alloc (.cells #[.int .i64 b.n, .int .i64 b.t, .slice none 0 0] 147)) = w4 at hB4 BG4 ⊢
  have HBG4 := Lib.hid BG4; clear BG4
  have HBX4 := Lib.hid (HBX3.out.keep hB4 HBX3.out.1)
  have HB4 := Lib.hid (HB3.out.trans (hB4.mono HB3.out.size)); clear hB4 HBX3 HB3 b0 b1 b2 b3 b4 b5
  refine (goodLists_any _ _ 3 (by omega) (by omega) _ _ _ _ ((HX.out.1.keep HB4.out).more HB4.out.size) HM.out.p HM.out.ps HF.out.1).mono ?_
  rintro e w5 ⟨rfl, hB5⟩
  have HBG5 := Lib.hid (HBG4.out.keep hB5 HBG4.out.1)
  have HBX5 := Lib.hid (HBX4.out.keep hB5 HBX4.out.1)
  have HB5 := Lib.hid (HB4.out.trans (hB5.mono HB4.out.size)); clear hB5 HBX4 HB4 HBG4
  obtain ⟨_, b0, b1, b2, b3, b4, b5⟩ := HBX5.out
  obtain ⟨_, y0, y1, y2⟩ := HBG5.out
  cases hP : bP (GoodLs b.n b.t (3 : Nat) (sayL b.P))
  · have HE : Hid (bP (GoodBs b.say) = false) := bP_f fun h => bP_no hP h.2.2.1
    go_wp2
    go_ret
    exact ⟨ret_b HE.out.symm, HB5.out⟩
  have HP := Lib.hid (bP_is hP); clear hP
  go_wp2_with fail
  clear b0 b1 b2 b3 b4 b5 y0 y1 y2
  refine (goodLists_any _ _ 2 (by omega) (by omega) _ _ _ _ ((HX.out.2.1.keep HB5.out).more HB5.out.size) HM.out.o HM.out.os HF.out.2.1).mono ?_
  rintro e w6 ⟨rfl, hB6⟩
  have HBG6 := Lib.hid (HBG5.out.keep hB6 HBG5.out.1)
  have HBX6 := Lib.hid (HBX5.out.keep hB6 HBX5.out.1)
  have HB6 := Lib.hid (HB5.out.trans (hB6.mono HB5.out.size)); clear hB6 HBX5 HB5 HBG5
  obtain ⟨_, b0, b1, b2, b3, b4, b5⟩ := HBX6.out
  obtain ⟨_, y0, y1, y2⟩ := HBG6.out
  cases hO : bP (GoodLs b.n b.t (2 : Nat) (sayL b.O))
  · have HE : Hid (bP (GoodBs b.say) = false) := bP_f fun h => bP_no hO h.2.2.2.1
    go_wp2
    go_ret
    exact ⟨ret_b HE.out.symm, HB6.out⟩
  have HO := Lib.hid (bP_is hO); clear hO
  go_wp2_with fail
  clear b0 b1 b2 b3 b4 b5 y0 y1 y2
  refine (goodEmpty_any _ _ _ _ _ _ ((HX.out.2.2.1.keep HB6.out).more HB6.out.size) HM.out.e).mono ?_
  rintro e w7 ⟨rfl, hB7⟩
  have HBG7 := Lib.hid (HBG6.out.keep hB7 HBG6.out.1)
  have HBX7 := Lib.hid (HBX6.out.keep hB7 HBX6.out.1)
  have HB7 := Lib.hid (HB6.out.trans (hB7.mono HB6.out.size)); clear hB7 HBX6 HB6 HBG6
  obtain ⟨_, b0, b1, b2, b3, b4, b5⟩ := HBX7.out
  obtain ⟨_, y0, y1, y2⟩ := HBG7.out
  cases hE : bP (GoodE b.n b.E)
  · have HE : Hid (bP (GoodBs b.say) = false) := bP_f fun h => bP_no hE h.2.2.2.2.1
    go_wp2
    go_ret
    exact ⟨ret_b HE.out.symm, HB7.out⟩
  have HE := Lib.hid (bP_is hE); clear hE
  have HFN : Hid ((sayL b.F).length = b.F.length) := sayL_len
  by_cases hfl : (b.F.length : Int) ≤ b.n
  · go_wp2_with fail
    refine (allLong_any _ _ _ _ _ ((HX.out.2.2.2.keep HB7.out).more HB7.out.size) HM.out.f).mono ?_
    rintro e w8 ⟨rfl, rfl⟩
    have HE : Hid (bP (GoodBs b.say) = bP (LongTo 2 (sayL b.F) b.F.length)) := bP_congr ⟨fun h => by have := h.2.2.2.2.2.2; exact HFN.out ▸ this, fun h => ⟨HN.out, HT.out, HP.out, HO.out, HE.out, (by show ((sayL b.F).length : Int) ≤ b.n; rw [HFN.out]; exact hfl), (by show LongTo 2 (sayL b.F) (sayL b.F).length; rw [HFN.out]; exact h)⟩⟩
    go_wp2
    go_ret
    exact ⟨ret_b HE.out.symm, HB7.out⟩
  · have HE : Hid (bP (GoodBs b.say) = false) := bP_f fun h => hfl (by have : ((sayL b.F).length : Int) ≤ b.n := h.2.2.2.2.2.1; rw [HFN.out] at this; exact this)
    go_wp2
    go_ret
    exact ⟨ret_b HE.out.symm, HB7.out⟩

end Go.Proofs.YtfbpcdmpkbjifaaDoor

/- What the reference's checks of a binary grammar answer: l5Less, l5Symbol, l5Rising, l1Rising, GoodBinary. -/

namespace Go.Proofs.YtfbpcdmpkbjifaaDoor
open Go.RowKit
open Go.Sort (grow)

set_option maxHeartbeats 400000 in
theorem l5Symbol_any (b : Bi) (x : Int) (w : World) (hn : 1 ≤ b.n) (hn' : b.n ≤ 40) (ht : 1 ≤ b.t) (ht' : b.t ≤ 4) :
    Calls Tryd.prog 172 #[(.agg #[.int .i64 b.n, .int .i64 b.t, .slice b.Ap b.P.length b.cp, .slice b.Ao b.O.length b.co, .slice b.Ae b.E.length b.ce, .slice b.Af b.F.length b.cf]), .int .i64 x] w fun e w' => e = .returned (.bool (symB b.n b.t x)) ∧ Below w.heap.size w w' := by
  have HS := Lib.hid (sym_in (x := x) hn ht)
  go_enter Tryd.func172, Tryd.ntmps172
  go_wp2_with fail
  refine (l1In_any _ _ _ _).mono ?_
  rintro e w1 ⟨rfl, rfl⟩
  go_wp2
  go_ret
  exact ⟨ret_b HS.out, by go_grown⟩

set_option maxHeartbeats 400000 in
theorem l5Less_any (A A' : Option Addr) (xs ys : List Int) (c c' : Nat) (w : World) (hx : Ints w w.heap.size A xs) (hy : Ints w w.heap.size A' ys) (h1 : xs.length ≤ 1048576) (hl1 : xs.length ≤ ys.length) (hl2 : ys.length ≤ xs.length) :
    Calls Tryd.prog 171 #[.slice A xs.length c, .slice A' ys.length c'] w fun e w' => e = .returned (.bool (bP (cmpL xs ys < 0))) ∧ Below w.heap.size w w' := by
  have HX := Lib.hid hx; clear hx
  have HY := Lib.hid hy; clear hy
  go_enter Tryd.func171, Tryd.ntmps171
  go_wp2
  go_loopw [8] (fun i wr => ∃ (k : Nat), k ≤ xs.length ∧ i = .int .i64 k ∧ Below w.heap.size w wr ∧ Hid (cmpL xs ys = cmpL (xs.drop k) (ys.drop k))) (fun i _ => xs.length - (intOf i).toNat)
  case atStart => exact ⟨0, by omega, rfl, Below.refl _ _, rfl⟩
  case round =>
    obtain ⟨k, hk, rfl, hB, H⟩ := hrel
    by_cases hlt : k < xs.length
    · have hlt' : k < ys.length := by omega
      obtain ⟨b, o, rfl, hb, c1⟩ := (HX.out.keep hB).at_ hlt
      obtain ⟨b', o', rfl, hb', c2⟩ := (HY.out.keep hB).at_ hlt'
      have HD := Lib.hid (cmpL_drop hlt hlt')
      rcases Int.lt_trichotomy xs[k] ys[k] with h | h | h
      · have HN : Hid (bP (cmpL xs ys < 0) = true) := bP_t (by rw [H.out, HD.out, if_pos h]; omega)
        have ht : (xs[k] != ys[k]) = true := bne_t (by omega)
        go_wp2
        go_quiet (fail)
        go_wp2
        go_quiet (fail)
        go_wp2
        go_ret
        exact ⟨ret_b HN.out.symm, below_drewN (below_drewN hB _) _⟩
      · have HN : Hid (cmpL xs ys = cmpL (xs.drop (k + 1)) (ys.drop (k + 1))) := by
          show _ = _
          rw [H.out, HD.out, if_neg (by omega), if_neg (by omega)]
        have ht : (xs[k] != ys[k]) = false := bne_f h
        clear h
        go_wp2
        go_quiet (fail)
        go_wp2
        go_roundw
        case rel => exact ⟨k + 1, by omega, by go_num, below_drewN hB _, HN.out⟩
        case measure => simp [intOf]; omega
      · have HN : Hid (bP (cmpL xs ys < 0) = false) := bP_f (by rw [H.out, HD.out, if_neg (by omega), if_pos h]; omega)
        have ht : (xs[k] != ys[k]) = true := bne_t (by omega)
        have hlt2 : ¬ xs[k] < ys[k] := by omega
        have HD2 : Hid (decide (xs[k] < ys[k]) = bP (cmpL xs ys < 0)) := (decide_eq_false hlt2).trans HN.out.symm
        clear h
        go_wp2
        go_quiet (fail)
        go_wp2
        go_quiet (fail)
        go_wp2
        go_ret
        exact ⟨ret_b HD2.out, below_drewN (below_drewN hB _) _⟩
    · have HN : Hid (bP (cmpL xs ys < 0) = false) := bP_f (by rw [H.out, cmpL_end hlt (by omega)]; omega)
      go_wp2
      go_ret
      exact ⟨ret_b HN.out.symm, hB⟩

set_option maxRecDepth 20000 in
set_option maxHeartbeats 400000 in
theorem l1Rising_any (A : Option Addr) (xs : List Int) (c : Nat) (n : Int) (w : World) (hx : Ints w w.heap.size A xs) (h1 : xs.length ≤ 1048576) :
    Calls Tryd.prog 120 #[.slice A xs.length c, .int .i64 0, .int .i64 (n - 1)] w fun e w' => e = .returned (.bool (bP (GoodE n xs))) ∧ Below w.heap.size w w' := by
  have HX := Lib.hid hx; clear hx
  go_enter Tryd.func120, Tryd.ntmps120
  go_wp2
  go_loopw [11] (fun i wr => ∃ (k : Nat), k ≤ xs.length ∧ i = .int .i64 k ∧ Below w.heap.size w wr ∧ Hid (NonTo n xs k ∧ RiseI xs k)) (fun i _ => xs.length - (intOf i).toNat)
  case atStart => exact ⟨0, by omega, rfl, Below.refl _ _, fun j x h => absurd h (by omega), RiseI.zero _⟩
  case round =>
    obtain ⟨k, hk, rfl, hB, H⟩ := hrel
    by_cases hlt : k < xs.length
    · obtain ⟨b, o, rfl, hb, c1⟩ := (HX.out.keep hB).at_ hlt
      cases hu : nonB n xs[k]
      · have HU := Lib.hid hu; clear hu
        have HE : Hid (bP (GoodE n xs) = false) := bP_f fun h => by
          have := h.1 k _ hlt (List.getElem?_eq_getElem hlt)
          rw [HU.out] at this; cases this
        go_wp2_with fail
        refine (l1In_any _ _ _ _).mono ?_
        rintro e w' ⟨rfl, rfl⟩
        rw [non_in, HU.out]
        go_wp2
        go_ret
        exact ⟨ret_b HE.out.symm, hB⟩
      · have HU := Lib.hid hu; clear hu
        have HNX : Hid (NonTo n xs (k + 1)) := upto_next (Q := fun x => nonB n x = true) (List.getElem?_eq_getElem hlt) HU.out H.out.1
        rcases k with _ | j
        · simp only [Nat.add_zero] at c1
          go_wp2_with fail
          refine (l1In_any _ _ _ _).mono ?_
          rintro e w' ⟨rfl, rfl⟩
          rw [non_in, HU.out]
          go_wp2
          go_roundw
          case rel => exact ⟨0 + 1, by omega, by go_num, hB, HNX.out, RiseI.none _⟩
          case measure => simp [intOf]; omega
        · have hltj : j < xs.length := by omega
          obtain ⟨b', o', e', hb', d1⟩ := (HX.out.keep hB).at_ hltj
          injection e' with e'
          injection e' with e1 e2
          subst e1 e2
          have hwk : IntKind.i64.wrap (j : Int) = (j : Int) := by rw [IntKind.wrap_i64]; omega
          have hI1 : (j : Int) < (xs.length : Int) := by omega
          have hpos : (0 : Int) < (j : Int) + 1 := by omega
          by_cases hq : xs[j] < xs[j + 1]
          · have HQ := Lib.hid hq
            have HNR : Hid (RiseI xs (j + 1 + 1)) := H.out.2.step (List.getElem?_eq_getElem hltj) (List.getElem?_eq_getElem hlt) hq
            go_wp2_with fail
            refine (l1In_any _ _ _ _).mono ?_
            rintro e w' ⟨rfl, rfl⟩
            rw [non_in, HU.out]
            go_wp2
            go_roundw
            case rel => exact ⟨j + 1 + 1, by omega, by go_num, hB, HNX.out, HNR.out⟩
            case measure => simp [intOf]; omega
          · have HE : Hid (bP (GoodE n xs) = false) := bP_f fun h => hq (h.2 j _ _ hlt (List.getElem?_eq_getElem hltj) (List.getElem?_eq_getElem hlt))
            have hq2 : xs[j + 1] ≤ xs[j] := by omega
            clear hq
            go_wp2_with fail
            refine (l1In_any _ _ _ _).mono ?_
            rintro e w' ⟨rfl, rfl⟩
            rw [non_in, HU.out]
            go_wp2
            go_ret
            exact ⟨ret_b HE.out.symm, hB⟩
    · have HE : Hid (bP (GoodE n xs) = true) := bP_t ⟨upto_end (Q := fun x => nonB n x = true) hlt H.out.1, H.out.2.mono (by omega)⟩
      go_wp2
      go_ret
      exact ⟨ret_b HE.out.symm, hB⟩

end Go.Proofs.YtfbpcdmpkbjifaaDoor

/- slices.Grow of nothing, and slices.Concat, at lists of lists. -/

namespace Go.Proofs.YtfbpcdmpkbjifaaDoor
open Go.RowKit

set_option maxRecDepth 20000 in
set_option maxHeartbeats 1000000 in
theorem growNilL_any (n : Nat) (hn : n ≤ 4194304) (w : World) :
    Calls Tryd.prog 161 #[.slice none 0 0, .int .i64 (n : Int)] w fun e w' => ∃ v, e = .returned v ∧ w'.ownsRow w.heap.size 22 1 v 0 [] ∧ Below w.heap.size w w' := by
  obtain ⟨i0, hi0, hz0, hz1, hz2⟩ := info_of Tryd.infoIntS
  by_cases h0 : n = 0
  · subst h0
    go_enter Tryd.func161, Tryd.ntmps161
    go_wp2
    go_ret
    exact ⟨_, rfl, ⟨rfl, .inl ⟨rfl, rfl⟩⟩, Below.refl _ _⟩
  · have hrz : ∀ ty, (Builtin.append_ #[39, 3] ty #[.slice none 0 0, .int .i64 (n : Int)]).run Tryd.prog w =
        .ok (.slice (some ⟨w.heap.size, 0, none⟩) n (grownCap w n 0 22)) (w.drew.alloc (.cells (([] : List Value).toArray ++ Builtin.zeroCells (Value.slice none 0 0).cells n ++ Builtin.zeroCells (Value.slice none 0 0).cells (grownCap w n 0 22 - n)) 22)) := fun ty => by
      have h := Lib.run_append_grow_zeros (P := Tryd.prog) w 39 3 ty 22 i0 (.slice none 0 0) .i64 .i64 Tryd.underlying39 Tryd.underlying3 hi0 hz0 none 0 0 [] (run_firstCells_none w.drew i0.size 0 0 0) n (by omega) (by rw [hz1]; omega) (by omega) (by omega) (by rw [hz2]; omega) (growslice_fits (by omega) (by rw [hz2]; omega))
      rw [Nat.zero_add] at h
      exact h
    have hge : n ≤ grownCap w n 0 22 := grownCap_ge w _ _ _
    have hle := grownCap_le_maxLen w n 0 22 (by unfold maxLen; omega)
    unfold maxLen at hle
    have HO : Hid (∀ G, n ≤ G → G ≤ maxLen → (w.drew.alloc (.cells (([] : List Value).toArray ++ Builtin.zeroCells (Value.slice none 0 0).cells n ++ Builtin.zeroCells (Value.slice none 0 0).cells (G - n)) 22)).ownsRow w.heap.size 22 1 (.slice (some ⟨w.heap.size, 0, none⟩) 0 G) 0 []) := fun G h1 h2 =>
      ⟨rfl, .inr ⟨w.heap.size, G, _, rfl, Nat.le_refl _, heap_alloc_new w.drew _, by omega, h2, by simp [Builtin.zeroCells, Value.cells]; omega, by simp⟩⟩
    have HB : Hid (∀ G, Below w.heap.size w (w.drew.alloc (.cells (([] : List Value).toArray ++ Builtin.zeroCells (Value.slice none 0 0).cells n ++ Builtin.zeroCells (Value.slice none 0 0).cells (G - n)) 22))) := fun G => by go_grown
    generalize grownCap w n 0 22 = G at *
    have HOG := Lib.hid (HO.out G hge (by unfold maxLen; exact hle))
    have HBG := Lib.hid (HB.out G)
    clear HO HB
    generalize w.drew.alloc (.cells (([] : List Value).toArray ++ Builtin.zeroCells (Value.slice none 0 0).cells n ++ Builtin.zeroCells (Value.slice none 0 0).cells (G - n)) 22) = w2 at *
    go_enter Tryd.func161, Tryd.ntmps161
    go_wp2_with (at_builtin; refine Lib.wpList_append_run _ rfl _ _ _ _ rfl _ _ rfl rfl _ _ (hrz _) ?_)
    all_goals
      go_ret
      exact ⟨_, rfl, HOG.out, HBG.out⟩

/-- The cells from A on read as the values xs, below block B; each takes one cell. -/
def VRead (w : World) (B : Nat) (A : Option Addr) (xs : List Value) : Prop :=
  (0 < xs.length → ∃ b o, A = some ⟨b, o, none⟩ ∧ b < B ∧ ∀ (k : Nat) (x : Value), xs[k]? = some x → w.cell? ⟨b, o + k, none⟩ = some x) ∧ ∀ u ∈ xs, u.oneCell' = true
theorem VRead.keep {w w' : World} {B : Nat} {A : Option Addr} {xs : List Value} (h : VRead w B A xs) (hk : Below B w w') : VRead w' B A xs := by
  refine ⟨fun hn => ?_, h.2⟩
  obtain ⟨b, o, e, hb, hc⟩ := h.1 hn
  exact ⟨b, o, e, hb, fun k x hx => (hk.cell (p := ⟨b, o + k, none⟩) hb).trans (hc k x hx)⟩
theorem VRead.more {w : World} {B B' : Nat} {A : Option Addr} {xs : List Value} (h : VRead w B A xs) (hB : B ≤ B') : VRead w B' A xs := by
  refine ⟨fun hn => ?_, h.2⟩
  obtain ⟨b, o, e, hb, hc⟩ := h.1 hn
  exact ⟨b, o, e, by omega, hc⟩
theorem VRead.src {w : World} {B : Nat} {A : Option Addr} {xs : List Value} (h : VRead w B A xs) (hn : 0 < xs.length) : ∃ ad, A = some ad ∧ ∀ (j : Nat) (v : Value), xs[j]? = some v → w.cell? (ad.add j) = some v := by
  obtain ⟨b, o, e, _, hc⟩ := h.1 hn
  exact ⟨_, e, fun j v hv => by rw [Go.WideShapes.add_plain]; exact hc j v hv⟩
theorem Lls.vread {w : World} {B : Nat} {A : Option Addr} {ls : List Li} (h : Lls w B A ls) : VRead w B A (ls.map fun u => .slice u.a u.r.length u.c) := by
  refine ⟨fun hn => ?_, fun u hu => ?_⟩
  · obtain ⟨b, o, e, hb, hc⟩ := h (by simpa using hn)
    refine ⟨b, o, e, hb, fun k x hx => ?_⟩
    rw [List.getElem?_map] at hx
    cases e' : ls[k]? with
    | none => rw [e'] at hx; cases hx
    | some u => rw [e'] at hx; injection hx with hx; subst hx; exact (hc k u e').1
  · obtain ⟨v, _, rfl⟩ := List.mem_map.1 hu
    rfl

/-- A list as a slice in memory: where it lies, what it reads as, its capacity. -/
structure PtV where
  a : Option Addr
  r : List Value
  c : Nat
/-- The cells of block B are the slices ps. -/
def PtsV (w : World) (B : Nat) (ps : List PtV) : Prop := B < w.heap.size ∧ ∀ (k : Nat) (p : PtV), ps[k]? = some p → w.cell? ⟨B, k, none⟩ = some (.slice p.a p.r.length p.c) ∧ VRead w w.heap.size p.a p.r
theorem PtsV.keep {w w' : World} {B : Nat} {ps : List PtV} (h : PtsV w B ps) (hb : Below w.heap.size w w') : PtsV w' B ps :=
  ⟨Nat.lt_of_lt_of_le h.1 hb.size, fun k p hk => ⟨(hb.cell (p := ⟨B, k, none⟩) h.1).trans (h.2 k p hk).1, ((h.2 k p hk).2.keep hb).more hb.size⟩⟩
def catV (ps : List PtV) : List Value := ps.flatMap PtV.r
theorem catV_take {ps : List PtV} {k : Nat} (h : k < ps.length) : catV (ps.take (k + 1)) = catV (ps.take k) ++ ps[k].r := by
  unfold catV
  rw [List.take_add_one, List.getElem?_eq_getElem h, List.flatMap_append]
  simp
theorem catV_le {ps : List PtV} (k : Nat) : (catV (ps.take k)).length ≤ (catV ps).length := by
  have h : catV ps = catV (ps.take k) ++ catV (ps.drop k) := by unfold catV; rw [← List.flatMap_append, List.take_append_drop]
  rw [h, List.length_append]
  omega

set_option maxRecDepth 20000 in
set_option maxHeartbeats 1000000 in
theorem concatV_any (B : Nat) (ps : List PtV) (c : Nat) (w : World) (hP : PtsV w B ps) (hn : (catV ps).length ≤ 4194304) (hl : ps.length ≤ 4194304) :
    Calls Tryd.prog 139 #[.slice (some ⟨B, 0, none⟩) ps.length c] w fun e w' => ∃ v, e = .returned v ∧ w'.ownsRow w.heap.size 22 1 v (catV ps).length ((catV ps)) ∧ Below w.heap.size w w' := by
  obtain ⟨i0, hi0, hz0, hz1, hz2⟩ := info_of Tryd.infoIntS
  have HP := Lib.hid hP; clear hP
  go_enter Tryd.func139, Tryd.ntmps139
  go_wp2
  go_loopw [3, 11] (fun z i wr => ∃ (k m : Nat), k ≤ ps.length ∧ i = .int .i64 k ∧ z = .int .i64 m ∧ Hid (m = (catV (ps.take k)).length) ∧ wr = w) (fun _ i _ => ps.length - (intOf i).toNat)
  case atStart => exact ⟨0, 0, by omega, rfl, rfl, rfl, rfl⟩
  case round =>
    obtain ⟨k, m, hk, rfl, rfl, HM, hwr⟩ := hrel
    subst hwr
    by_cases hlt : k < ps.length
    · obtain ⟨c1, _⟩ := HP.out.2 k ps[k] (List.getElem?_eq_getElem hlt)
      have HN : Hid (m + ps[k].r.length = (catV (ps.take (k + 1))).length) := by show _ = _; rw [catV_take hlt, List.length_append, HM.out]
      have hm : m + ps[k].r.length ≤ 4194304 := by have := HN.out; have := catV_le (ps := ps) (k + 1); omega
      go_wp2
      go_roundw
      case rel => exact ⟨k + 1, m + ps[k].r.length, by omega, by go_num, by go_num, HN.out, trivial⟩
      case measure => simp [intOf]; omega
    · obtain rfl : k = ps.length := by omega
      have hm : m = (catV ps).length := by have := HM.out; rw [List.take_length] at this; exact this
      have hml : m ≤ 4194304 := by omega
      have HMM := Lib.hid hm; clear hm HM
      obtain ⟨wO, hwO⟩ : ∃ x, x = wr := ⟨_, rfl⟩
      subst hwO
      go_wp2_with fail
      refine (growNilL_any m hml _).mono ?_
      rintro e w1 ⟨v1, rfl, hO1, hB1⟩
      have HO1 : Hid (w1.ownsRow wO.heap.size 22 1 v1 (catV (ps.take 0)).length ((catV (ps.take 0)))) := hO1
      have HB1 := Lib.hid hB1
      clear hO1 hB1
      go_wp2
      go_loopw [6, 27] (fun v i wr => ∃ (k : Nat), k ≤ ps.length ∧ i = .int .i64 k ∧ Hid (wr.ownsRow wO.heap.size 22 1 v (catV (ps.take k)).length ((catV (ps.take k)))) ∧ Hid (Below wO.heap.size wO wr)) (fun _ i _ => ps.length - (intOf i).toNat)
      case atStart => exact ⟨0, by omega, rfl, HO1.out, HB1.out⟩
      case round =>
        obtain ⟨k, hk, rfl, HO, HB⟩ := hrel
        clear HO1 HB1
        by_cases hlt : k < ps.length
        · have hPk := HP.out.keep HB.out
          obtain ⟨c1, c2⟩ := hPk.2 k ps[k] (List.getElem?_eq_getElem hlt)
          have HC := Lib.hid (catV_take hlt)
          have hlk : (catV (ps.take k)).length + ps[k].r.length ≤ 4194304 := by have h1 := catV_le (ps := ps) (k + 1); rw [HC.out, List.length_append] at h1; omega
          clear hPk
          generalize ps[k] = p at c1 c2 HC hlk
          obtain ⟨pa, pr, pc⟩ := p
          dsimp only at c1 c2 HC hlk
          have HC2 := Lib.hid c2; clear c2
          rcases pa with _ | ad
          · have hx : pr = [] := by
              rcases pr with _ | ⟨x, xs⟩
              · rfl
              · obtain ⟨_, _, e, _⟩ := HC2.out.1 (by simp)
                cases e
            subst hx
            have HON : Hid (wr.ownsRow wO.heap.size 22 1 u6 (catV (ps.take (k + 1))).length ((catV (ps.take (k + 1))))) := by have h := HO.out; show World.ownsRow _ _ _ _ _ _ _; rw [HC.out, List.append_nil]; exact h
            go_wp2_with (at_builtin
                         refine append_nil_at rfl (.tmp 31) (.tmp 32) _ rfl wO.heap.size 22 i0 1 Tryd.underlying39 hi0 _ _ _ rfl HO.out pc rfl ?_)
            go_roundw
            case rel => exact ⟨k + 1, by omega, by go_num, HON.out, HB.out⟩
            case measure => simp [intOf]; omega
          · have HV1 := Lib.hid HC2.out.2
            have HN : Hid (∀ (j : Nat) (v : Value), (pr)[j]? = some v → wr.cell? (ad.add j) = some v) := fun j v hv => by
              have hp : 0 < pr.length := by have := (List.getElem?_eq_some_iff.1 hv).1; omega
              obtain ⟨ad', e, h⟩ := HC2.out.src hp
              injection e with e
              subst e
              exact h j v hv
            have hws : wO.heap.size ≤ wr.heap.size := HB.out.size
            go_wp2_with (at_builtin
                         refine wpList_append_own _ rfl (.tmp 31) (.tmp 32) _ rfl wO.heap.size 22 i0 _ 1 24 Tryd.underlying39 hi0 hz0 hz1 hz2 rfl (by omega) _ _ _ rfl HO.out ad pr.length pc (pr) rfl (by omega) HN.out HV1.out (by unfold maxLen; omega) (by omega) (by omega) ?_
                         intro v' w' h1 h2 h3
                         have HO1 := Lib.hid h1
                         have HB2 : Hid (Below wO.heap.size wO w') := HB.out.grown h2 HB.out.size fun j hj => (HO.out.lt j hj).1
                         clear h1 h2 h3)
            go_roundw
            case rel =>
              refine ⟨k + 1, by omega, by go_num, ?_, HB2.out⟩
              show World.ownsRow _ _ _ _ _ _ _
              rw [HC.out, List.length_append]
              have h := HO1.out
              exact h
            case measure => simp [intOf]; omega
        · obtain rfl : k = ps.length := by omega
          have HOE : Hid (wr.ownsRow wO.heap.size 22 1 u6 (catV ps).length ((catV ps))) := by have h := HO.out; rw [List.take_length] at h; exact h
          go_wp2
          go_ret
          exact ⟨_, rfl, HOE.out, HB.out⟩

end Go.Proofs.YtfbpcdmpkbjifaaDoor

/- The program's binaryRules: the rules of a binary grammar. -/

namespace Go.Proofs.YtfbpcdmpkbjifaaDoor
open Go.RowKit

def ruleOf (x : List Int) : Int × List Int := (x.headD 0, x.tail)
/-- The rules of a binary grammar. -/
def bRules (P O : List (List Int)) (E : List Int) : List (Int × List Int) := (P ++ O).map ruleOf ++ E.map fun e => (e, [])

theorem own_cells {w : World} {lo : Nat} {e : TypeId} {v : Value} {xs : List Value} (h : w.ownsRow lo e 1 v xs.length xs) :
    ∃ A c, v = .slice A xs.length c ∧ xs.length ≤ c ∧ ∀ (k : Nat) (x : Value), xs[k]? = some x → ∃ g, A = some ⟨g, 0, none⟩ ∧ lo ≤ g ∧ g < w.heap.size ∧ w.cell? ⟨g, k, none⟩ = some x := by
  obtain ⟨_, ⟨rfl, h0⟩ | ⟨g, cap, cur, rfl, hlo, hg, hcap, _, _, hx⟩⟩ := h
  · have : xs = [] := List.eq_nil_of_length_eq_zero h0
    subst this
    exact ⟨none, 0, rfl, Nat.le_refl _, fun k x hk => by simp at hk⟩
  · refine ⟨_, cap, rfl, hcap, fun k x hk => ⟨g, rfl, hlo, Row.lt (t := e) hg, ?_⟩⟩
    rw [Row.cell (t := e) hg]
    have hl := (List.getElem?_eq_some_iff.1 hk).1
    rw [← hx, List.getElem?_take, if_pos (by omega)] at hk
    simpa using hk

/-- The rules ds say ss, and their right sides can be read in w, below block B. -/
structure RulD (w : World) (B : Nat) (ds : List Ru) (ss : List (Int × List Int)) : Prop where
  say : ds.map Ru.abs = ss
  read : ∀ u ∈ ds, Ints w B u.a u.r
  caps : ∀ u ∈ ds, u.r.length ≤ u.c
theorem RulD.start (w : World) (B : Nat) : RulD w B [] [] := ⟨rfl, fun u h => by simp at h, fun u h => by simp at h⟩
theorem RulD.snoc {w : World} {B : Nat} {ds : List Ru} {ss : List (Int × List Int)} (h : RulD w B ds ss) {u : Ru} (hu : Ints w B u.a u.r) (hc : u.r.length ≤ u.c) : RulD w B (ds ++ [u]) (ss ++ [u.abs]) :=
  ⟨by rw [List.map_append, h.say]; rfl, fun v hv => (List.mem_append.1 hv).elim (h.read v) fun e => by rw [List.mem_singleton.1 e]; exact hu, fun v hv => (List.mem_append.1 hv).elim (h.caps v) fun e => by rw [List.mem_singleton.1 e]; exact hc⟩
theorem RulD.len {w : World} {B : Nat} {ds : List Ru} {ss : List (Int × List Int)} (h : RulD w B ds ss) : ds.length = ss.length := by rw [← h.say, List.length_map]

/-- A new slice of rules that say ss, with right sides that were there before; nothing older has turned. -/
def GaveRul (w : World) (B : Nat) (ss : List (Int × List Int)) (e : Ending) (w' : World) : Prop :=
  ∃ v rs, e = .returned v ∧ w'.ownsRow w.heap.size 166 2 v rs.length (rs.flatMap cellsU) ∧ RulD w B rs ss ∧ Below w.heap.size w w'

theorem rls_of {w w' : World} {B lo k : Nat} {v : Value} {ds : List Ru} {ss : List (Int × List Int)} (h : RulD w B ds ss) (h1 : ds.length = k) (h2 : w'.ownsRow lo 166 2 v k (ds.flatMap cellsU)) (hB : Below B w w') (hB2 : B ≤ w'.heap.size) : ∃ A c, v = .slice A ds.length c ∧ ds.length ≤ c ∧ Rls w' w'.heap.size A ds := by
  subst h1
  obtain ⟨_, ⟨rfl, h0⟩ | ⟨g, cap, cur, rfl, hlo, hg, hcap, _, _, hx⟩⟩ := h2
  · have : ds = [] := List.eq_nil_of_length_eq_zero h0
    subst this
    exact ⟨none, 0, rfl, Nat.le_refl _, fun hn => by simp at hn⟩
  · refine ⟨_, cap, rfl, hcap, fun _ => ⟨g, 0, rfl, Row.lt (t := 166) hg, fun k u hu => ?_⟩⟩
    have hk := (List.getElem?_eq_some_iff.1 hu).1
    obtain ⟨f1, f2⟩ := flat_get hu
    rw [← hx] at f1 f2
    rw [List.getElem?_take, if_pos (by omega)] at f1 f2
    rw [Nat.zero_add, Row.cell (t := 166) hg, Row.cell (t := 166) hg]
    exact ⟨by simpa using f1, by simpa using f2, ((h.read u (List.mem_of_getElem? hu)).keep hB).more hB2⟩

theorem own_lower {w : World} {lo lo' : Nat} {e : TypeId} {size n : Nat} {v : Value} {xs : List Value} (h : w.ownsRow lo e size v n xs) (hl : lo' ≤ lo) : w.ownsRow lo' e size v n xs := by
  obtain ⟨h1, h2 | ⟨g, cap, cur, e1, h3, h4⟩⟩ := h
  · exact ⟨h1, .inl h2⟩
  · exact ⟨h1, .inr ⟨g, cap, cur, e1, by omega, h4⟩⟩
theorem own_snocR {w : World} {lo k : Nat} {v : Value} {ds : List Ru} (u : Ru) (h : w.ownsRow lo 166 2 v k (ds.flatMap cellsU ++ [.int .i64 u.l, .slice u.a u.r.length u.c])) : w.ownsRow lo 166 2 v k ((ds ++ [u]).flatMap cellsU) := by
  rw [List.flatMap_append]
  simpa [cellsU] using h

set_option maxRecDepth 20000 in
set_option maxHeartbeats 1000000 in
theorem binaryRules_any (b : Bi) (B : Nat) (w : World) (hBB : B ≤ w.heap.size) (hr : ReadB w B b) (hm : LenB 1048576 b) (hp : ∀ u ∈ b.P ++ b.O, 2 ≤ u.r.length ∧ u.r.length ≤ 3) :
    Calls Tryd.prog 103 #[(.agg #[.int .i64 b.n, .int .i64 b.t, .slice b.Ap b.P.length b.cp, .slice b.Ao b.O.length b.co, .slice b.Ae b.E.length b.ce, .slice b.Af b.F.length b.cf])] w (GaveRul w B (bRules (sayL b.P) (sayL b.O) b.E)) := by
  have HR := Lib.hid hr; clear hr
  have HP := Lib.hid hp; clear hp
  have h1 := hm.p
  have h2 := hm.o
  have h3 := hm.e
  clear hm
  obtain ⟨i0, hi0, hz0, hz1, hz2⟩ := info_of Tryd.infoRule
  have HB0 : Hid (Below w.heap.size w ((w.alloc (.cells #[.int .i64 b.n, .int .i64 b.t, .slice b.Ap b.P.length b.cp, .slice b.Ao b.O.length b.co, .slice b.Ae b.E.length b.ce, .slice b.Af b.F.length b.cf] 55)).alloc (.cells #[.slice b.Ap b.P.length b.cp, .slice b.Ao b.O.length b.co] 39))) := by show Below _ _ _; go_grown
  have HR0 : Hid (Row ((w.alloc (.cells #[.int .i64 b.n, .int .i64 b.t, .slice b.Ap b.P.length b.cp, .slice b.Ao b.O.length b.co, .slice b.Ae b.E.length b.ce, .slice b.Af b.F.length b.cf] 55)).alloc (.cells #[.slice b.Ap b.P.length b.cp, .slice b.Ao b.O.length b.co] 39)) w.heap.size 55 #[.int .i64 b.n, .int .i64 b.t, .slice b.Ap b.P.length b.cp, .slice b.Ao b.O.length b.co, .slice b.Ae b.E.length b.ce, .slice b.Af b.F.length b.cf]) := (Row.new _ _ _).alloc _
  have HPT : Hid (PtsV ((w.alloc (.cells #[.int .i64 b.n, .int .i64 b.t, .slice b.Ap b.P.length b.cp, .slice b.Ao b.O.length b.co, .slice b.Ae b.E.length b.ce, .slice b.Af b.F.length b.cf] 55)).alloc (.cells #[.slice b.Ap b.P.length b.cp, .slice b.Ao b.O.length b.co] 39)) (w.heap.size + 1) [⟨b.Ap, b.P.map fun u => .slice u.a u.r.length u.c, b.cp⟩, ⟨b.Ao, b.O.map fun u => .slice u.a u.r.length u.c, b.co⟩]) := by
    refine ⟨by simp, fun k p hk => ?_⟩
    rcases k with _ | _ | k
    · simp at hk
      subst hk
      exact ⟨by simp [go_sem], ((HR.out.1.vread).keep (HB0.out.mono hBB)).more (Nat.le_trans hBB HB0.out.size)⟩
    · simp at hk
      subst hk
      exact ⟨by simp [go_sem], ((HR.out.2.1.vread).keep (HB0.out.mono hBB)).more (Nat.le_trans hBB HB0.out.size)⟩
    · simp at hk
  have HC := Lib.hid (concatV_any (w.heap.size + 1) _ 2 _ HPT.out (by simp [catV]; omega) (by simp))
  have hcat : catV [⟨b.Ap, b.P.map fun u => .slice u.a u.r.length u.c, b.cp⟩, ⟨b.Ao, b.O.map fun u => .slice u.a u.r.length u.c, b.co⟩] = (b.P ++ b.O).map fun u => (.slice u.a u.r.length u.c : Value) := by simp [catV]
  rw [hcat] at HC
  clear hcat HPT
  go_enter Tryd.func103, Tryd.ntmps103
  go_wp2_with fail
  refine HC.out.mono ?_
  rintro e w1 ⟨v, rfl, hO1, hB1⟩
  rw [show ((b.P ++ b.O).map fun u => (.slice u.a u.r.length u.c : Value)).length = ((b.P ++ b.O).map fun u => (.slice u.a u.r.length u.c : Value)).length from rfl] at hO1
  obtain ⟨A1, c1, rfl, hc1, hv1⟩ := own_cells hO1
  have HR1 := Lib.hid (HR0.out.below hB1 HR0.out.lt)
  have HB1 : Hid (Below w.heap.size w w1) := HB0.out.trans (hB1.mono HB0.out.size)
  have HZ1 : Hid (w.heap.size + 2 ≤ w1.heap.size) := by have h := hB1.size; rw [World.size_alloc, World.size_alloc] at h; exact h
  have HRD : Hid (∀ u ∈ b.P ++ b.O, u.r.length ≤ u.c ∧ Ints w B u.a u.r) := fun u hu => by
    rcases List.mem_append.1 hu with hu | hu
    · obtain ⟨k, hk, e⟩ := List.getElem_of_mem hu
      obtain ⟨_, _, _, _, _, h, h'⟩ := HR.out.1.at_ hk
      rw [e] at h h'; exact ⟨h, h'⟩
    · obtain ⟨k, hk, e⟩ := List.getElem_of_mem hu
      obtain ⟨_, _, _, _, _, h, h'⟩ := HR.out.2.1.at_ hk
      rw [e] at h h'; exact ⟨h, h'⟩
  have hLl : (b.P ++ b.O).length ≤ 2097152 := by rw [List.length_append]; omega
  have HSL : Hid ((b.P ++ b.O).map Li.r = sayL b.P ++ sayL b.O) := by show _ = _; rw [List.map_append]; rfl
  rw [List.length_map] at hc1 ⊢
  have HV1 : Hid (∀ (k : Nat) (u : Li), (b.P ++ b.O)[k]? = some u → ∃ g, A1 = some ⟨g, 0, none⟩ ∧ g < w1.heap.size ∧ w1.cell? ⟨g, k, none⟩ = some (.slice u.a u.r.length u.c)) := fun k u hu => by
    obtain ⟨g, e, _, hg, h⟩ := hv1 k (.slice u.a u.r.length u.c) (by rw [List.getElem?_map, hu]; rfl)
    exact ⟨g, e, hg, h⟩
  clear hO1 hB1 hv1 HC HB0 HR0
  generalize b.P ++ b.O = L at *
  go_wp2
  go_loopw [3, 15] (fun v y wr => ∃ (k : Nat) (ds : List Ru), k ≤ L.length ∧ y = .int .i64 k ∧ Hid (ds.length = k) ∧ Hid (Below w1.heap.size w1 wr) ∧ Hid (wr.ownsRow w1.heap.size 166 2 v k (ds.flatMap cellsU)) ∧ Hid (RulD w B ds (((L.take k).map Li.r).map ruleOf))) (fun _ y _ => L.length - (intOf y).toNat)
  case atStart => exact ⟨0, [], by omega, rfl, rfl, Below.refl _ _, ⟨rfl, .inl ⟨rfl, rfl⟩⟩, RulD.start _ _⟩
  case round =>
    obtain ⟨k, ds, hk, rfl, HDL, HB, HOW, HD⟩ := hrel
    by_cases hlt : k < L.length
    · obtain ⟨g, rfl, hg, d1⟩ := HV1.out k L[k] (List.getElem?_eq_getElem hlt)
      have d1' := (HB.out.cell (p := ⟨g, k, none⟩) hg).trans d1
      have hl2 := HP.out L[k] (List.getElem_mem hlt)
      have HI := Lib.hid (HRD.out L[k] (List.getElem_mem hlt)).2
      have huc := (HRD.out L[k] (List.getElem_mem hlt)).1
      have HTK : Hid (((L.take (k + 1)).map Li.r).map ruleOf = ((L.take k).map Li.r).map ruleOf ++ [ruleOf L[k].r]) := by show _ = _; rw [List.take_succ_eq_append_getElem hlt, List.map_append, List.map_append]; rfl
      clear d1
      generalize L[k] = u at d1' hl2 HI HTK huc
      obtain ⟨ua, ur, uc⟩ := u
      dsimp only at d1' hl2 HI HTK huc
      obtain ⟨bb, oo, rfl, hbb, hcc⟩ := HI.out (by omega)
      rcases ur with _ | ⟨y, ur⟩
      · simp at hl2
      have HBW := Lib.hid (HB1.out.trans (HB.out.mono HB1.out.size))
      have e0 := (HBW.out.cell (p := ⟨bb, oo, none⟩) (Nat.lt_of_lt_of_le hbb hBB)).trans (hcc 0 y rfl)
      have HIT : Hid (Ints w B (some ⟨bb, oo + 1, none⟩) ur) := fun _ => ⟨bb, oo + 1, rfl, hbb, fun k x hx => by rw [Nat.add_assoc, Nat.add_comm 1 k]; exact hcc (k + 1) x (by simpa using hx)⟩
      clear hcc HI
      have hul : 1 ≤ ur.length := by simp at hl2; omega
      have hul2 : ur.length ≤ 2 := by simp at hl2; omega
      have hlc : (y :: ur).length = ur.length + 1 := rfl
      rw [hlc] at d1' huc
      clear hlc hl2
      have hs := HB.out.size
      go_wp2_with fail
      have hI1 : (0 : Int) ≤ (ur.length : Int) + 1 := by omega
      have hI2 : (ur.length : Int) + 1 ≤ (uc : Int) := by omega
      have hI3 : (1 : Int) ≤ (ur.length : Int) + 1 := by omega
      have hne : ur ≠ [] := fun e => by subst e; simp at hul
      have HVB : Hid (∀ b, u3.ownBlock = some b → w1.heap.size ≤ b ∧ b < wr.heap.size) := fun b e => HOW.out.lt b e
      go_region_law (first
        | (refine step_append_lies _ rfl _ _ _ rfl w1.heap.size 166 i0 _ 2 32 Tryd.underlying120 hi0 hz0 hz1 hz2 rfl (by omega) u3 k (ds.flatMap cellsU) (by simp [Act.eval]) ((own_below HOW.out (by go_grown)).alloc _)
             ⟨wr.heap.size, 0, none⟩ 1 1 [.int .i64 y, .slice (some ⟨bb, oo + 1, none⟩) ur.length ur.length] (by simp [Act.eval]) rfl (two_new _ _ _ _) (by simp [Value.oneCell'])
             (by omega) (by unfold maxLen; omega) (by omega) (by simp; omega) (wr.heap.size + 1) (by simp) ?_
           intro gg cap w' p1 p2 p3 p4
           have HON : Hid (w'.ownsRow w1.heap.size 166 2 (.slice (some ⟨gg, 0, none⟩) (k + 1) cap) (k + 1) ((ds ++ [(⟨y, some ⟨bb, oo + 1, none⟩, ur, ur.length⟩ : Ru)]).flatMap cellsU)) := own_snocR ⟨y, some ⟨bb, oo + 1, none⟩, ur, ur.length⟩ p1
           have hBn : Below w1.heap.size wr w' := Below.grown (by go_grown) p2 (by simp; omega) fun j hj => (HOW.out.lt j hj).1
           have HBn := Lib.hid (HB.out.trans hBn)
           clear p1 p2 p3 p4 hBn)
        | fail)
      all_goals
        clear hI1 hI2 hI3
        go_wp2
        go_roundw
        case rel => exact ⟨k + 1, _, by omega, by go_num, by show _ = _; rw [List.length_append, HDL.out]; rfl, HBn.out, HON.out, by show RulD _ _ _ _; rw [HTK.out]; exact HD.out.snoc HIT.out (Nat.le_refl _)⟩
        case measure => simp [intOf]; omega
    · obtain rfl : k = L.length := by omega
      have HDA : Hid (RulD w B ds ((sayL b.P ++ sayL b.O).map ruleOf)) := by have h := HD.out; rw [List.take_length, HSL.out] at h; exact h
      have HBW := Lib.hid (HB1.out.trans (HB.out.mono HB1.out.size))
      have HR2 := Lib.hid (HR1.out.below HB.out HR1.out.lt)
      have hs := HB.out.size
      have hdl : ds.length ≤ 2097152 := by have := HDL.out; omega
      have HOW2 : Hid (wr.ownsRow w1.heap.size 166 2 u3 ds.length (ds.flatMap cellsU)) := by have h := HOW.out; rw [← HDL.out] at h; exact h
      clear HD HR1 HOW HDL HV1 HRD HSL HP
      have x4 := HR2.out.cell 4
      simp only [List.getElem?_toArray, List.getElem?_cons_succ, List.getElem?_cons_zero] at x4
      obtain ⟨wA, hwA⟩ : ∃ x, x = wr := ⟨wr, rfl⟩
      subst hwA
      obtain ⟨fs, hfs⟩ : ∃ x, x = ds := ⟨_, rfl⟩
      subst hfs
      go_wp2
      clear x4
      go_loopw [3, 36] (fun v y wr => ∃ (k : Nat) (ds : List Ru), k ≤ b.E.length ∧ y = .int .i64 k ∧ Hid (ds.length = fs.length + k) ∧ Hid (Below w1.heap.size w1 wr) ∧ Hid (wr.ownsRow w1.heap.size 166 2 v ds.length (ds.flatMap cellsU)) ∧ Hid (RulD w B ds ((sayL b.P ++ sayL b.O).map ruleOf ++ (b.E.take k).map fun e => (e, [])))) (fun _ y _ => b.E.length - (intOf y).toNat)
      case atStart => exact ⟨0, fs, by omega, rfl, rfl, HB.out, HOW2.out, by show RulD _ _ _ _; rw [List.take_zero, List.map_nil, List.append_nil]; exact HDA.out⟩
      case round =>
        clear HB HDA HOW2
        obtain ⟨k, ds, hk, rfl, HDL, HB, HOW, HD⟩ := hrel
        by_cases hlt2 : k < b.E.length
        · have hsz := HB.out.size
          have HBX := Lib.hid (HB1.out.trans (HB.out.mono HB1.out.size))
          obtain ⟨bb, oo, ea, hbb, e0⟩ := (HR.out.2.2.1.keep (HBX.out.mono hBB)).at_ hlt2
          have hdd : ds.length ≤ 4194304 := by have := HDL.out; omega
          have HTK : Hid ((b.E.take (k + 1)).map (fun e => ((e, []) : Int × List Int)) = (b.E.take k).map (fun e => (e, [])) ++ [(b.E[k], [])]) := by show _ = _; rw [List.take_succ_eq_append_getElem hlt2, List.map_append]; rfl
          rw [ea]
          have HOD : Hid ((wr.alloc (.cells #[.int .i64 b.E[k], .slice none 0 0] 166)).ownsRow w1.heap.size 166 2 u3 ds.length (ds.flatMap cellsU)) := HOW.out.alloc _
          have HND := Lib.hid (two_new wr (.int .i64 b.E[k]) (.slice none 0 0) 166)
          go_wp2_with (at_builtin
                       refine wpList_append_own _ rfl (.tmp 40) (.tmp 43) _ rfl w1.heap.size 166 i0 _ 2 32 Tryd.underlying120 hi0 hz0 hz1 hz2 rfl (by omega) _ _ _ rfl HOD.out ⟨wr.heap.size, 0, none⟩ 1 1 [.int .i64 b.E[k], .slice none 0 0] rfl rfl HND.out (by simp [Value.oneCell']) (by unfold maxLen; omega) (by omega) (by simp; omega) ?_
                       intro v' w' p1 p2 p3
                       have HON : Hid (w'.ownsRow w1.heap.size 166 2 v' (ds ++ [(⟨b.E[k], none, [], 0⟩ : Ru)]).length ((ds ++ [(⟨b.E[k], none, [], 0⟩ : Ru)]).flatMap cellsU)) := by show World.ownsRow _ _ _ _ _ _ _; rw [List.length_append]; exact own_snocR ⟨b.E[k], none, [], 0⟩ p1
                       have hBn : Below w1.heap.size wr w' := ((Below.refl _ _).alloc (by omega) _).grown p2 (by simp; omega) fun j hj => (HOW.out.lt j hj).1
                       have HBn := Lib.hid (HB.out.trans hBn)
                       clear p1 p2 p3 hBn)
          go_roundw
          case rel => exact ⟨k + 1, _, by omega, by go_num, by have := HDL.out; show _ = _; rw [List.length_append]; simp; omega, HBn.out, HON.out, by show RulD _ _ _ _; rw [HTK.out, ← List.append_assoc]; exact HD.out.snoc (u := ⟨b.E[k], none, [], 0⟩) (fun h => by simp at h) (Nat.le_refl _)⟩
          case measure => simp [intOf]; omega
        · obtain rfl : k = b.E.length := by omega
          have HBX := Lib.hid (HB1.out.trans (HB.out.mono HB1.out.size))
          have HSY : Hid (RulD w B ds (bRules (sayL b.P) (sayL b.O) b.E)) := by have h := HD.out; rw [List.take_length] at h; exact h
          have HOW2 : Hid (wr.ownsRow w.heap.size 166 2 u3 ds.length (ds.flatMap cellsU)) := own_lower HOW.out HB1.out.size
          go_wp2
          go_ret
          exact ⟨_, ds, rfl, HOW2.out, HSY.out, HBX.out⟩

end Go.Proofs.YtfbpcdmpkbjifaaDoor
