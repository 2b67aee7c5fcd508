/- What the program's checks of lists answer: slices.Compare, isRising, allLong, goodLists, goodEmpty. -/
import Derived.Test.YtaobkanliiiapaaDoorC703
import Derived.Test.YtaobkanliiiapaaDoorC701
import Derived.Lib.QuietBelow
import Derived.Maps.AppendAt
import Derived.Test.YtaobkanliiiapaaDoorC702
import Derived.Laws.CopyOwn
import Derived.Laws.OwnMore

namespace Go.Proofs.YtaobkanliiiapaaDoor
open Go.RowKit

/-- Two numbers compared. -/
def cmpI (x y : Int) : Int := if x < y then -1 else if y < x then 1 else 0

theorem cmpI_lt {x y : Int} : cmpI x y < 0 ↔ x < y := by
  unfold cmpI
  split
  · simp_all
  · split <;> simp_all

set_option maxHeartbeats 400000 in
theorem isNaN_any (x : Int) (w : World) : Calls Tryd.prog 171 #[.int .i64 x] w fun e w' => e = .returned (.bool false) ∧ w' = w := by
  have hd : (x != x) = false := by simp
  go_enter Tryd.func171, Tryd.ntmps171
  go_wp2
  go_ret
  exact ⟨rfl, rfl⟩

set_option maxHeartbeats 400000 in
theorem compareI_any (x y : Int) (w : World) : Calls Tryd.prog 128 #[.int .i64 x, .int .i64 y] w fun e w' => e = .returned (.int .i64 (cmpI x y)) ∧ w' = w := by
  rcases Int.lt_trichotomy x y with h | h | h
  · have HE : Hid (cmpI x y = -1) := by show _ = _; unfold cmpI; rw [if_pos h]
    go_enter Tryd.func128, Tryd.ntmps128
    go_wp2_with (go_at_call 171; refine (isNaN_any _ _).mono ?_; rintro e w' ⟨rfl, rfl⟩)
    go_ret
    exact ⟨by rw [HE.out]; rfl, rfl⟩
  · have HE : Hid (cmpI x y = 0) := by show _ = _; unfold cmpI; rw [if_neg (by omega), if_neg (by omega)]
    have h1 : ¬ x < y := by omega
    have h2 : ¬ y < x := by omega
    clear h
    go_enter Tryd.func128, Tryd.ntmps128
    go_wp2_with (go_at_call 171; refine (isNaN_any _ _).mono ?_; rintro e w' ⟨rfl, rfl⟩)
    go_ret
    exact ⟨by rw [HE.out]; rfl, rfl⟩
  · have HE : Hid (cmpI x y = 1) := by show _ = _; unfold cmpI; rw [if_neg (by omega), if_pos h]
    have h1 : ¬ x < y := by omega
    go_enter Tryd.func128, Tryd.ntmps128
    go_wp2_with (go_at_call 171; refine (isNaN_any _ _).mono ?_; rintro e w' ⟨rfl, rfl⟩)
    go_ret
    exact ⟨by rw [HE.out]; rfl, rfl⟩

set_option maxHeartbeats 400000 in
theorem compareL_any (A A' : Option Addr) (xs ys : List Int) (c c' : Nat) (w : World) (hx : Ints w w.heap.size A xs) (hy : Ints w w.heap.size A' ys) (h1 : xs.length ≤ 1048576) :
    Calls Tryd.prog 84 #[.slice A xs.length c, .slice A' ys.length c'] w fun e w' => e = .returned (.int .i64 (cmpL xs ys)) ∧ w' = w := by
  have HX := Lib.hid hx; clear hx
  have HY := Lib.hid hy; clear hy
  go_enter Tryd.func84, Tryd.ntmps84
  go_wp2
  go_loopw [11] (fun i wr => ∃ (k : Nat), k ≤ xs.length ∧ i = .int .i64 k ∧ wr = w ∧ Hid (cmpL xs ys = cmpL (xs.drop k) (ys.drop k))) (fun i _ => xs.length - (intOf i).toNat)
  case atStart => exact ⟨0, by omega, rfl, rfl, rfl⟩
  case round =>
    obtain ⟨k, hk, rfl, rfl, H⟩ := hrel
    by_cases hlt : k < xs.length
    · obtain ⟨b, o, rfl, hb, c1⟩ := HX.out.at_ hlt
      by_cases hlt' : k < ys.length
      · obtain ⟨b', o', rfl, hb', c2⟩ := HY.out.at_ hlt'
        by_cases hne : cmpI xs[k] ys[k] = 0
        · have hd : (cmpI xs[k] ys[k] != 0) = false := bne_f hne
          have HN : Hid (cmpL xs ys = cmpL (xs.drop (k + 1)) (ys.drop (k + 1))) := by
            show _ = _
            rw [H.out, cmpL_drop hlt hlt']
            unfold cmpI at hne
            split at hne
            · cases hne
            · split at hne
              · cases hne
              · rename_i g1 g2; rw [if_neg g1, if_neg g2]
          clear hne
          go_wp2_with (go_at_call 128; refine (compareI_any _ _ _).mono ?_; rintro e w' ⟨rfl, rfl⟩)
          go_roundw
          case rel => exact ⟨k + 1, by omega, by go_num, trivial, HN.out⟩
          case measure => simp [intOf]; omega
        · have hd : (cmpI xs[k] ys[k] != 0) = true := bne_t hne
          have HN : Hid (cmpL xs ys = cmpI xs[k] ys[k]) := by
            show _ = _
            rw [H.out, cmpL_drop hlt hlt']
            unfold cmpI at hne ⊢
            split
            · rfl
            · split
              · rfl
              · rename_i g1 g2; rw [if_neg g1, if_neg g2] at hne; exact absurd rfl hne
          clear hne
          go_wp2_with (go_at_call 128; refine (compareI_any _ _ _).mono ?_; rintro e w' ⟨rfl, rfl⟩)
          go_ret
          exact ⟨by rw [HN.out]; rfl, rfl⟩
      · have HN : Hid (cmpL xs ys = 1) := H.out.trans (cmpL_left hlt hlt')
        go_wp2
        go_ret
        exact ⟨by rw [HN.out]; rfl, rfl⟩
    · by_cases hl : xs.length < ys.length
      · have HN : Hid (cmpL xs ys = -1) := H.out.trans (cmpL_right hlt (by omega))
        go_wp2
        go_ret
        exact ⟨by rw [HN.out]; rfl, rfl⟩
      · by_cases hl2 : k < ys.length
        · omega
        have HN : Hid (cmpL xs ys = 0) := H.out.trans (cmpL_end hlt hl2)
        go_wp2
        go_ret
        exact ⟨by rw [HN.out]; rfl, rfl⟩

set_option maxRecDepth 100000 in
theorem cmpF_enter (xs : Array Value) (v : World) : Sem.run Tryd.prog (callFunc 84 xs) v = .ok (.enter 84 xs) v := rfl
set_option maxRecDepth 100000 in
theorem cmpI_enter (xs : Array Value) (v : World) : Sem.run Tryd.prog (callFunc 128 xs) v = .ok (.enter 128 xs) v := rfl

set_option maxRecDepth 20000 in
set_option maxHeartbeats 400000 in
theorem isRisingL_any (A : Option Addr) (ls : List Li) (c : Nat) (w : World) (hx : Lls w w.heap.size A ls) (h1 : ls.length ≤ 1048576) (h2 : ∀ u ∈ ls, u.r.length ≤ 1048576) :
    Calls Tryd.prog 155 #[.slice A ls.length c, .func (.func 84) #[] #[]] w fun e w' => e = .returned (.bool (bP (RiseTo (sayL ls) ls.length))) ∧ Below w.heap.size w w' := by
  have HX := Lib.hid hx; clear hx
  have H2 := Lib.hid h2; clear h2
  have HCF := cmpF_enter
  go_enter Tryd.func155, Tryd.ntmps155
  go_wp2
  go_loopw [5] (fun i wr => ∃ (j : Nat), i = .int .i64 ((j + 1 : Nat) : Int) ∧ j ≤ ls.length ∧ Below w.heap.size w wr ∧ Hid (RiseTo (sayL ls) (j + 1))) (fun i _ => ls.length + 1 - (intOf i).toNat)
  case atStart => exact ⟨0, rfl, by omega, Below.refl _ _, RiseTo.none _⟩
  case round =>
    obtain ⟨k, rfl, hk, hB, H⟩ := hrel
    by_cases hlt' : k + 1 < ls.length
    · have hlt : k < ls.length := by omega
      obtain ⟨b, o, rfl, hb, c1, _, c3⟩ := (HX.out.keep hB).at_ hlt
      obtain ⟨b', o', e', hb', d1, _, d3⟩ := (HX.out.keep hB).at_ hlt'
      injection e' with e'
      injection e' with e1 e2
      subst e1 e2
      have C3 := Lib.hid (c3.more hB.size); clear c3
      have D3 := Lib.hid (d3.more hB.size); clear d3
      have hlen2 := H2.out ls[k] (List.getElem_mem hlt)
      by_cases hq : cmpL ls[k].r ls[k + 1].r < 0
      all_goals
        have HQ := Lib.hid hq
        have hwk : IntKind.i64.wrap (k : Int) = (k : Int) := by rw [IntKind.wrap_i64]; omega
        have hI1 : (k : Int) + 1 < (ls.length : Int) := by omega
        have hI0 : (0 : Int) ≤ (k : Int) + 1 := by omega
        have hT : ((k : Int) + 1).toNat = k + 1 := by omega
        go_wp2
        go_still_tail 10, (by kernel_rfl)
        change wpList _ _ _ _ _ wr.drew
        go_wp2_with fail
        refine (compareL_any _ _ _ _ _ _ _ ?_ ?_ hlen2).mono ?_
        · exact C3.out.keep (by go_grown)
        · exact D3.out.keep (by go_grown)
        rintro e w1 ⟨rfl, rfl⟩
        have hB2 : Below w.heap.size w wr.drew := hB.trans (Below.trans (by go_grown) (Below.refl _ _))
      · have HN : Hid (RiseTo (sayL ls) (k + 1 + 1)) := H.out.step (sayL_at hlt) (sayL_at hlt') HQ.out
        go_wp2
        go_roundw
        case rel => exact ⟨k + 1, by go_num, by omega, hB2, HN.out⟩
        case measure => simp [intOf]; omega
      · have HE : Hid (bP (RiseTo (sayL ls) ls.length) = false) := bP_f fun h => by have h1 := h k _ _ hlt' (sayL_at hlt) (sayL_at hlt'); have h2 := HQ.out; omega
        go_wp2
        go_ret
        exact ⟨ret_b HE.out.symm, hB2⟩
    · have HE : Hid (bP (RiseTo (sayL ls) ls.length) = true) := bP_t (H.out.mono (by omega))
      go_wp2
      go_ret
      exact ⟨ret_b HE.out.symm, hB⟩

set_option maxRecDepth 20000 in
set_option maxHeartbeats 400000 in
theorem isRisingI_any (A : Option Addr) (xs : List Int) (c : Nat) (w : World) (hx : Ints w w.heap.size A xs) (h1 : xs.length ≤ 1048576) :
    Calls Tryd.prog 153 #[.slice A xs.length c, .func (.func 128) #[] #[]] w fun e w' => e = .returned (.bool (bP (RiseI xs xs.length))) ∧ Below w.heap.size w w' := by
  have HX := Lib.hid hx; clear hx
  have HCF := cmpI_enter
  go_enter Tryd.func153, Tryd.ntmps153
  go_wp2
  go_loopw [5] (fun i wr => ∃ (j : Nat), i = .int .i64 ((j + 1 : Nat) : Int) ∧ j ≤ xs.length ∧ Below w.heap.size w wr ∧ Hid (RiseI xs (j + 1))) (fun i _ => xs.length + 1 - (intOf i).toNat)
  case atStart => exact ⟨0, rfl, by omega, Below.refl _ _, RiseI.none _⟩
  case round =>
    obtain ⟨k, rfl, hk, hB, H⟩ := hrel
    by_cases hlt' : k + 1 < xs.length
    · have hlt : k < xs.length := by omega
      obtain ⟨b, o, rfl, hb, c1⟩ := (HX.out.keep hB).at_ hlt
      obtain ⟨b', o', e', hb', d1⟩ := (HX.out.keep hB).at_ hlt'
      injection e' with e'
      injection e' with e1 e2
      subst e1 e2
      by_cases hq : cmpI xs[k] xs[k + 1] < 0
      all_goals
        have HQ := Lib.hid hq
        have hwk : IntKind.i64.wrap (k : Int) = (k : Int) := by rw [IntKind.wrap_i64]; omega
        have hI1 : (k : Int) + 1 < (xs.length : Int) := by omega
        have hI0 : (0 : Int) ≤ (k : Int) + 1 := by omega
        have hT : ((k : Int) + 1).toNat = k + 1 := by omega
        go_wp2
        go_still_tail 10, (by kernel_rfl)
        change wpList _ _ _ _ _ wr.drew
        go_wp2_with fail
        refine (compareI_any _ _ _).mono ?_
        rintro e w1 ⟨rfl, rfl⟩
        have hB2 : Below w.heap.size w wr.drew := hB.trans (Below.trans (by go_grown) (Below.refl _ _))
      · have HN : Hid (RiseI xs (k + 1 + 1)) := H.out.step (List.getElem?_eq_getElem hlt) (List.getElem?_eq_getElem hlt') (cmpI_lt.1 HQ.out)
        go_wp2
        go_roundw
        case rel => exact ⟨k + 1, by go_num, by omega, hB2, HN.out⟩
        case measure => simp [intOf]; omega
      · have HE : Hid (bP (RiseI xs xs.length) = false) := bP_f fun h => by have h1 := cmpI_lt.2 (h k _ _ hlt' (List.getElem?_eq_getElem hlt) (List.getElem?_eq_getElem hlt')); have h2 := HQ.out; omega
        go_wp2
        go_ret
        exact ⟨ret_b HE.out.symm, hB2⟩
    · have HE : Hid (bP (RiseI xs xs.length) = true) := bP_t (H.out.mono (by omega))
      go_wp2
      go_ret
      exact ⟨ret_b HE.out.symm, hB⟩

set_option maxHeartbeats 400000 in
theorem allLong_any (A : Option Addr) (ls : List Li) (c : Nat) (long : Int) (w : World) (hx : Lls w w.heap.size A ls) (h1 : ls.length ≤ 1048576) :
    Calls Tryd.prog 113 #[.slice A ls.length c, .int .i64 long] w fun e w' => e = .returned (.bool (bP (LongTo long (sayL ls) ls.length))) ∧ w' = w := by
  have HX := Lib.hid hx; clear hx
  go_enter Tryd.func113, Tryd.ntmps113
  go_wp2
  go_loopw [9] (fun i wr => ∃ (k : Nat), k ≤ ls.length ∧ i = .int .i64 k ∧ wr = w ∧ Hid (LongTo long (sayL ls) k)) (fun i _ => ls.length - (intOf i).toNat)
  case atStart => exact ⟨0, by omega, rfl, rfl, fun j x h => absurd h (by omega)⟩
  case round =>
    obtain ⟨k, hk, rfl, rfl, H⟩ := hrel
    by_cases hlt : k < ls.length
    · obtain ⟨b, o, rfl, hb, c1, c2, c3⟩ := HX.out.at_ hlt
      clear c2 c3
      by_cases hne : (ls[k].r.length : Int) = long
      · have hd : ((ls[k].r.length : Int) != long) = false := bne_f hne
        have HN : Hid (LongTo long (sayL ls) (k + 1)) := upto_next (Q := fun x : List Int => (x.length : Int) = long) (sayL_at hlt) hne H.out
        clear hne
        go_wp2
        go_roundw
        case rel => exact ⟨k + 1, by omega, by go_num, trivial, HN.out⟩
        case measure => simp [intOf]; omega
      · have hd : ((ls[k].r.length : Int) != long) = true := bne_t hne
        have HN : Hid (bP (LongTo long (sayL ls) ls.length) = false) := bP_f fun h => hne (h k _ hlt (sayL_at hlt))
        clear hne
        go_wp2
        go_ret
        exact ⟨ret_b HN.out.symm, rfl⟩
    · have HN : Hid (bP (LongTo long (sayL ls) ls.length) = true) := bP_t (fun j x _ hx => H.out j x (by have := (List.getElem?_eq_some_iff.1 hx).1; rw [sayL_len] at this; omega) hx)
      go_wp2
      go_ret
      exact ⟨ret_b HN.out.symm, rfl⟩

end Go.Proofs.YtaobkanliiiapaaDoor

/- What the program's checks of a binary grammar answer: goodEmpty, goodLists, GoodBinary. -/

namespace Go.Proofs.YtaobkanliiiapaaDoor
open Go.RowKit
open Go.Sort (grow)

set_option maxRecDepth 20000 in
set_option maxHeartbeats 400000 in
theorem goodEmpty_any (n t : Int) (A : Option Addr) (xs : List Int) (c : Nat) (w : World) (hx : Ints w w.heap.size A xs) (h1 : xs.length ≤ 1048576) :
    Calls Tryd.prog 110 #[.agg #[.int .i64 n, .int .i64 t, .slice none 0 0], .slice A xs.length c] w fun e w' => e = .returned (.bool (bP (GoodE n xs))) ∧ Below w.heap.size w w' := by
  have HX := Lib.hid hx; clear hx
  have HBW : Hid (Below w.heap.size w (w.alloc (.cells #[.int .i64 n, .int .i64 t, .slice none 0 0] 54))) := by show Below _ _ _; go_grown
  have HB3 : Hid (Box3 (w.alloc (.cells #[.int .i64 n, .int .i64 t, .slice none 0 0] 54)) w.heap.size (.int .i64 n) (.int .i64 t) (.slice none 0 0)) := ⟨by simp, by simp [go_sem], by simp [go_sem], by simp [go_sem]⟩
  go_enter Tryd.func110, Tryd.ntmps110
  go_wp2
  go_loopw [9] (fun i wr => ∃ (k : Nat), k ≤ xs.length ∧ i = .int .i64 k ∧ Below w.heap.size w wr ∧ Box3 wr w.heap.size (.int .i64 n) (.int .i64 t) (.slice none 0 0) ∧ Hid (NonTo n xs k)) (fun i _ => xs.length - (intOf i).toNat)
  case atStart => exact ⟨0, by omega, rfl, HBW.out, HB3.out, fun j x h => absurd h (by omega)⟩
  case round =>
    obtain ⟨k, hk, rfl, hB, hbox, H⟩ := hrel
    by_cases hlt : k < xs.length
    · obtain ⟨b, o, rfl, hb, c1⟩ := (HX.out.keep hB).at_ hlt
      obtain ⟨g0, g1, g2, g3⟩ := id hbox
      have HBX := Lib.hid hbox; clear hbox
      cases hs : nonB n xs[k]
      all_goals
        have HSY := Lib.hid hs; clear hs
        go_wp2_with fail
        refine (isNon_any _ _ _ _ _).mono ?_
        rintro e w3 ⟨rfl, hB3⟩
        rw [HSY.out]
        have hB4 : Below w.heap.size w w3 := hB.trans (hB3.mono hB.size)
      · have HE : Hid (bP (GoodE n xs) = false) := bP_f fun h => by
          have := h.1 k _ hlt (List.getElem?_eq_getElem hlt)
          rw [HSY.out] at this; cases this
        go_wp2
        go_ret
        exact ⟨ret_b HE.out.symm, hB4⟩
      · have HN : Hid (NonTo n xs (k + 1)) := upto_next (Q := fun x => nonB n x = true) (List.getElem?_eq_getElem hlt) HSY.out H.out
        go_wp2
        go_roundw
        case rel => exact ⟨k + 1, by omega, by go_num, hB4, HBX.out.keep hB3 g0, HN.out⟩
        case measure => simp [intOf]; omega
    · have HN : Hid (NonTo n xs xs.length) := upto_end (Q := fun x => nonB n x = true) hlt H.out
      clear hbox H
      go_wp2_with fail
      refine (isRisingI_any _ _ _ _ ((HX.out.keep hB).more hB.size) h1).mono ?_
      rintro e w3 ⟨rfl, hB3⟩
      have HE : Hid (bP (GoodE n xs) = bP (RiseI xs xs.length)) := bP_congr ⟨fun h => h.2, fun h => ⟨HN.out, h⟩⟩
      have hB4 : Below w.heap.size w w3 := hB.trans (hB3.mono hB.size)
      clear hB3
      go_wp2
      go_ret
      exact ⟨ret_b HE.out.symm, hB4⟩

theorem Ints.drop1 {w : World} {B b o : Nat} {xs : List Int} (h : Ints w B (some ⟨b, o, none⟩) xs) : Ints w B (some ⟨b, o + 1, none⟩) (xs.drop 1) := by
  intro hn
  obtain ⟨b', o', e, hb, hc⟩ := h (by simp at hn; omega)
  injection e with e
  injection e with e1 e2
  subst e1 e2
  refine ⟨b, o + 1, rfl, hb, fun k x hx => ?_⟩
  rw [List.getElem?_drop] at hx
  have := hc _ _ hx
  rw [show o + (1 + k) = o + 1 + k by omega] at this
  exact this

theorem getD_zero {xs : List Int} (h : 0 < xs.length) : xs.getD 0 0 = xs[0] := by
  rw [List.getD_eq_getElem?_getD, List.getElem?_eq_getElem h]; rfl

set_option maxRecDepth 20000 in
set_option maxHeartbeats 1000000 in
theorem goodLists_any (n t : Int) (long : Nat) (hl2 : 2 ≤ long) (hl3 : long ≤ 3) (A : Option Addr) (ls : List Li) (c : Nat) (w : World) (hx : Lls w w.heap.size A ls) (h1 : ls.length ≤ 1048576) (h2 : ∀ u ∈ ls, u.r.length ≤ 1048576) (hf : FitL (sayL ls)) :
    Calls Tryd.prog 112 #[.agg #[.int .i64 n, .int .i64 t, .slice none 0 0], .slice A ls.length c, .int .i64 long] w fun e w' => e = .returned (.bool (bP (GoodLs n t long (sayL ls)))) ∧ Below w.heap.size w w' := by
  have HX := Lib.hid hx; clear hx
  have H2 := Lib.hid h2; clear h2
  have HF := Lib.hid hf; clear hf
  have HBW : Hid (Below w.heap.size w (w.alloc (.cells #[.int .i64 n, .int .i64 t, .slice none 0 0] 54))) := by show Below _ _ _; go_grown
  have HB3 : Hid (Box3 (w.alloc (.cells #[.int .i64 n, .int .i64 t, .slice none 0 0] 54)) w.heap.size (.int .i64 n) (.int .i64 t) (.slice none 0 0)) := ⟨by simp, by simp [go_sem], by simp [go_sem], by simp [go_sem]⟩
  have HLN : Hid ((sayL ls).length = ls.length) := sayL_len
  cases hq : bP (LongTo long (sayL ls) ls.length)
  · have HQ := Lib.hid hq; clear hq
    have HE : Hid (bP (GoodLs n t long (sayL ls)) = false) := bP_f fun h => bP_no HQ.out (by have := h.1; rw [HLN.out] at this; exact this)
    go_enter Tryd.func112, Tryd.ntmps112
    go_wp2_with fail
    refine (allLong_any _ _ _ _ _ ((HX.out.keep HBW.out).more HBW.out.size) h1).mono ?_
    rintro e w1 ⟨rfl, rfl⟩
    rw [HQ.out]
    go_wp2
    go_ret
    exact ⟨ret_b HE.out.symm, HBW.out⟩
  · have HQ := Lib.hid hq; clear hq
    have HLO : Hid (LongTo long (sayL ls) ls.length) := bP_is HQ.out
    go_enter Tryd.func112, Tryd.ntmps112
    go_wp2_with fail
    refine (allLong_any _ _ _ _ _ ((HX.out.keep HBW.out).more HBW.out.size) h1).mono ?_
    rintro e w1 ⟨rfl, rfl⟩
    rw [HQ.out]
    generalize (w.alloc (.cells #[.int .i64 n, .int .i64 t, .slice none 0 0] 54)) = W at HBW HB3 ⊢
    go_wp2
    go_loopw [15] (fun i wr => ∃ (k : Nat), k ≤ ls.length ∧ i = .int .i64 k ∧ Below w.heap.size w wr ∧ Box3 wr w.heap.size (.int .i64 n) (.int .i64 t) (.slice none 0 0) ∧ Hid (SymTo n t (sayL ls) k)) (fun i _ => ls.length - (intOf i).toNat)
    case atStart => exact ⟨0, by omega, rfl, HBW.out, HB3.out, fun j x h => absurd h (by omega)⟩
    case round =>
      obtain ⟨k, hk, rfl, hB, hbox, H⟩ := hrel
      by_cases hlt : k < ls.length
      · obtain ⟨b, o, rfl, hb, c1, c2, c3⟩ := (HX.out.keep hB).at_ hlt
        obtain ⟨g0, g1, g2, g3⟩ := id hbox
        have HBX := Lib.hid hbox; clear hbox
        have hlen2 := H2.out ls[k] (List.getElem_mem hlt)
        have HLK : Hid ((ls[k].r.length : Int) = long) := HLO.out k _ hlt (sayL_at hlt)
        have hr0 : 1 < ls[k].r.length := by have := HLK.out; omega
        have hc0 : 1 < ls[k].c := by omega
        have hci : (1 : Int) < (ls[k].c : Int) := by omega
        have hri : (1 : Int) < (ls[k].r.length : Int) := by omega
        obtain ⟨b', o', ea, hb', d1⟩ := c3.at_ (k := 0) (by omega)
        have C3 := Lib.hid (c3.more hB.size); clear c3
        rw [ea] at c1 C3
        rw [Nat.add_zero] at d1
        generalize hx0 : ls[k].r[0]'(by omega) = x0 at d1
        have HX0 : Hid (ls[k].r.getD 0 0 = x0) := (getD_zero (by omega)).trans hx0
        clear hx0
        have q0 := cell_regrown d1
        have p0 := cell_regrown g1
        have p1 := cell_regrown g2
        have p2 := cell_regrown g3
        have HRG : Hid (∀ d os, Below w.heap.size w (grow (redrawn wr d) os)) := fun d os => hB.trans ((below_regrown wr d os).mono hB.size)
        have HWR : Hid (∀ d os, Below wr.heap.size wr (grow (redrawn wr d) os)) := fun d os => below_regrown wr d os
        clear g1 g2 g3 d1 ea
        have HCG : Hid (∀ d os, Calls Tryd.prog 91 #[.agg #[.int .i64 n, .int .i64 t, .slice none 0 0], .int .i64 x0] (grow (redrawn wr d) os) fun e w' => e = .returned (.bool (nonB n x0)) ∧ Below (grow (redrawn wr d) os).heap.size (grow (redrawn wr d) os) w') := fun d os =>
          isNon_any _ _ _ _ _
        go_wp2
        cases hu : nonB n x0
        · have HU := Lib.hid hu; clear hu
          have HE : Hid (bP (GoodLs n t long (sayL ls)) = false) := bP_f fun h => by
            have h1 := (h.2.1 k _ (by rw [HLN.out]; exact hlt) (sayL_at hlt)).1
            rw [HX0.out, HU.out] at h1; cases h1
          rw [HU.out] at HCG
          refine wp_region_quiet_below (by kernel_rfl) (by kernel_rfl) ?_
          repeat (first | go_big_quiet_step (exact Calls.regrown_of (HCG.out _ _)) | quiet_step (exact Calls.regrown_of (HCG.out _ _)))
          refine wpQuiet_nil ?_
          intro _ hw'
          obtain ⟨⟨dq, osq⟩, hw''⟩ := hw'
          subst hw''
          go_wp2
          go_ret
          exact ⟨ret_b HE.out.symm, HRG.out dq osq⟩
        · have HU := Lib.hid hu; clear hu
          rw [HU.out] at HCG
          have HFK : Hid (∀ x ∈ ls[k].r.drop 1, F64 x) := fun x hx => HF.out ls[k].r (sayL_mem (List.getElem_mem hlt)) x (List.mem_of_mem_drop hx)
          have HCH : Hid (∀ d os, Calls Tryd.prog 154 #[.agg #[.int .i64 n, .int .i64 t, .slice none 0 0], .slice (some ⟨b', o' + 1, none⟩) (ls[k].r.length - 1) (ls[k].c - 1)] (grow (redrawn wr d) os) fun e w' => e = .returned (.bool (symsB n t (ls[k].r.drop 1))) ∧ Below (grow (redrawn wr d) os).heap.size (grow (redrawn wr d) os) w') := fun d os => by
            have h := allSymbols_any n t none (some ⟨b', o' + 1, none⟩) 0 0 (ls[k].c - 1) (ls[k].r.drop 1) (grow (redrawn wr d) os) ((C3.out.keep (HWR.out d os)).more (HWR.out d os).size).drop1 (by simp; omega) HFK.out
            rw [List.length_drop] at h
            exact h
          cases hh : symsB n t (ls[k].r.drop 1)
          all_goals
            have HH := Lib.hid hh; clear hh
            rw [HH.out] at HCH
            refine wp_region_quiet_below (by kernel_rfl) (by kernel_rfl) ?_
            repeat (first | go_big_quiet_step (first | with_reducible exact Calls.regrown_of (HCG.out _ _) | exact Calls.regrown_of (HCH.out _ _)) | quiet_step (first | with_reducible exact Calls.regrown_of (HCG.out _ _) | exact Calls.regrown_of (HCH.out _ _)))
            refine wpQuiet_nil ?_
            intro _ hw'
            obtain ⟨⟨dq, osq⟩, hw''⟩ := hw'
            subst hw''
            go_wp2
          · have HE : Hid (bP (GoodLs n t long (sayL ls)) = false) := bP_f fun h => by
              have h1 := (h.2.1 k _ (by rw [HLN.out]; exact hlt) (sayL_at hlt)).2
              rw [HH.out] at h1; cases h1
            go_ret
            exact ⟨ret_b HE.out.symm, HRG.out dq osq⟩
          · have HN : Hid (SymTo n t (sayL ls) (k + 1)) := upto_next (Q := symL n t) (sayL_at hlt) ⟨by rw [HX0.out]; exact HU.out, HH.out⟩ H.out
            go_roundw
            case rel => exact ⟨k + 1, by omega, by go_num, HRG.out dq osq, HBX.out.keep (HWR.out dq osq) g0, HN.out⟩
            case measure => simp [intOf]; omega
      · have HN : Hid (SymTo n t (sayL ls) (sayL ls).length) := upto_end (Q := symL n t) (k := k) (by rw [HLN.out]; exact hlt) H.out
        clear hbox H
        go_wp2_with fail
        refine (isRisingL_any _ _ _ _ ((HX.out.keep hB).more hB.size) h1 H2.out).mono ?_
        rintro e w3 ⟨rfl, hB3⟩
        have HE : Hid (bP (GoodLs n t long (sayL ls)) = bP (RiseTo (sayL ls) ls.length)) := bP_congr ⟨fun h => by have := h.2.2; rw [HLN.out] at this; exact this, fun h => ⟨by rw [HLN.out]; exact HLO.out, HN.out, by rw [HLN.out]; exact h⟩⟩
        have hB4 : Below w.heap.size w w3 := hB.trans (hB3.mono hB.size)
        clear hB3
        go_wp2
        go_ret
        exact ⟨ret_b HE.out.symm, hB4⟩

end Go.Proofs.YtaobkanliiiapaaDoor

/- A new slice of numbers as an answer. -/

namespace Go.Proofs.YtaobkanliiiapaaDoor
open Go.RowKit

/-- A new slice of numbers, and a bool. -/
def GaveIB (w : World) (ys : List Int) (b : Bool) (e : Ending) (w' : World) : Prop :=
  ∃ A c, e = .returned (.tuple #[.slice A ys.length c, .bool b]) ∧ OwnI w' w.heap.size A ys ∧ Below w.heap.size w w'

theorem ownI_of_row {w : World} {lo : Nat} {v : Value} {n : Nat} {ys : List Int} (h : w.ownsRow lo 3 1 v n (ys.map fun y => Value.int .i64 y)) : ∃ A c, v = .slice A ys.length c ∧ OwnI w lo A ys := by
  obtain ⟨hl, h⟩ := h
  have hn : n = ys.length := by simpa using hl.symm
  subst hn
  rcases h with ⟨rfl, h0⟩ | ⟨g, cap, cur, rfl, hlo, hg, _, _, _, hx⟩
  · have : ys = [] := List.eq_nil_of_length_eq_zero h0
    subst this
    exact ⟨none, 0, rfl, .inl rfl⟩
  · refine ⟨_, cap, rfl, .inr ⟨g, cur, rfl, hlo, hg, fun k x hk => ?_⟩⟩
    have hk' := (List.getElem?_eq_some_iff.1 hk).1
    have e := congrArg (fun l => l[k]?) hx
    simp only [List.getElem?_map, hk, Option.map_some] at e
    rw [List.getElem?_take, if_pos (by omega)] at e
    simpa using e

def GaveI' (w : World) (ys : List Int) (e : Ending) (w' : World) : Prop := ∃ A c, e = .returned (.slice A ys.length c) ∧ OwnI w' w.heap.size A ys ∧ Below w.heap.size w w'

end Go.Proofs.YtaobkanliiiapaaDoor

/- Copies of a list of numbers, the program's and the reference's. -/

namespace Go.Proofs.YtaobkanliiiapaaDoor
open Go.RowKit

def vals (xs : List Int) : List Value := xs.map fun x => Value.int .i64 x
theorem vals_length (xs : List Int) : (vals xs).length = xs.length := by simp [vals]
theorem vals_one (xs : List Int) : ∀ v ∈ vals xs, v.oneCell' = true := by
  intro v hv
  obtain ⟨x, _, rfl⟩ := List.mem_map.1 hv
  rfl
theorem vals_get {xs : List Int} {j : Nat} {v : Value} (h : (vals xs)[j]? = some v) : ∃ x, xs[j]? = some x ∧ v = .int .i64 x := by
  simp only [vals, List.getElem?_map, Option.map_eq_some_iff] at h
  obtain ⟨x, hx, rfl⟩ := h
  exact ⟨x, hx, rfl⟩
theorem Ints.src {w : World} {B : Nat} {A : Option Addr} {xs : List Int} (h : Ints w B A xs) (hp : 0 < xs.length) : ∃ ad, A = some ad ∧ ∀ (j : Nat) (v : Value), (vals xs)[j]? = some v → w.cell? (ad.add j) = some v := by
  obtain ⟨b, o, rfl, _, hc⟩ := h hp
  refine ⟨_, rfl, fun j v hv => ?_⟩
  obtain ⟨x, hx, rfl⟩ := vals_get hv
  rw [Go.WideShapes.add_plain]
  exact hc j x hx

set_option maxRecDepth 20000 in
set_option maxHeartbeats 400000 in
theorem copyList_any (A : Option Addr) (xs : List Int) (c : Nat) (w : World) (hr : Ints w w.heap.size A xs) (hn : xs.length ≤ 1048576) :
    Calls Tryd.prog 70 #[.slice A xs.length c] w (GaveI w xs) := by
  have hmk := make_ints xs.length hn
  have hB0 : Below w.heap.size w (w.alloc (.cells (zI xs.length) 3)) := by go_grown
  have HB0 := Lib.hid hB0; clear hB0
  have HR := Lib.hid (hr.keep HB0.out); clear hr
  have HG : Hid ((w.alloc (.cells (zI xs.length) 3)).heap[w.heap.size]? = some (.cells (zI xs.length).toList.toArray 3 (0, 0))) := by
    show _ = _
    simpa using heap_alloc_new w (.cells (zI xs.length) 3)
  have HF : Hid (0 + (vals xs).length ≤ (zI xs.length).toList.length) := by
    show _ ≤ _
    have h := zI_size xs.length
    rw [← Array.length_toList] at h
    rw [vals_length]
    omega
  go_enter Tryd.func70, Tryd.ntmps70
  go_wp2_with (with_reducible refine wpList_copy_splice rfl (.tmp 7) (.tmp 8) 37 37 rfl 3 Tryd.underlying37 (by kernel_rfl) (some ⟨w.heap.size, 0, none⟩) A xs.length xs.length xs.length c rfl rfl w.heap.size 0 (zI xs.length).toList 3 HG.out (vals xs) (by rw [vals_length]; exact (Nat.min_self _).symm) (fun hp => ⟨rfl, HR.out.src (by rw [vals_length] at hp; exact hp)⟩) HF.out (vals_one xs) w.heap.size w HB0.out (Nat.le_refl _) ?_)
  intro w1 HG1 hB1
  go_wp2
  go_ret
  refine ⟨some ⟨w.heap.size, 0, none⟩, xs.length, rfl, Nat.le_refl _, .inr ⟨w.heap.size, _, rfl, Nat.le_refl _, HG1.out, fun k x hx => ?_⟩, hB1⟩
  have hk := (List.getElem?_eq_some_iff.1 hx).1
  simp only [splice, List.take_zero, List.nil_append, List.getElem?_toArray]
  rw [List.getElem?_append_left (by rw [vals_length]; exact hk)]
  simp [vals, hx]

theorem own_empty (w : World) : (w.alloc (.cells #[] 3)).ownsRow w.heap.size 3 1 (.slice (some ⟨w.heap.size, 0, none⟩) 0 0) 0 [] :=
  ⟨rfl, .inr ⟨w.heap.size, 0, #[], rfl, Nat.le_refl _, heap_alloc_new w _, Nat.le_refl _, by simp [maxLen], rfl, rfl⟩⟩

/-- Nothing appended: a nil source, whatever its capacity says. -/
theorem append_nil_at {P : Program} {w : World} {ops : Array Oper} {rest : List Oper} {o : Oper} {a : Act} {Q : Exit → Act → World → Prop} (hgd : o.guard = none) (s x : Operand) (t : TypeId)
    (ho : o.op = .call { callee := .builtin .append, args := #[s, x], argTypes := #[t, t] }) (base : Nat) (e : TypeId) (i : TypeInfo) (size : Nat) (ht : P.underlying t = some (.slice e)) (hi : P.info? e = some i)
    (v : Value) (n : Nat) (xs : List Value) (hs : a.eval s = v) (hown : w.ownsRow base e size v n xs) (c : Nat) (hx : a.eval x = .slice none 0 c)
    (h : wpList P ops Q rest (a.put o.dst v) w) : wpList P ops Q (o :: rest) a w := by
  refine wpList_plain hgd fun K hK => ?_
  have hrun : (Builtin.append_ #[t, t] o.type #[v, .slice none 0 c]).run P w = .ok v w := by
    obtain ⟨_, ⟨rfl, rfl⟩ | ⟨g, cap, cur, rfl, _, _, hnc, _⟩⟩ := hown
    · simp [Builtin.append_, run_underlying ht, typeInfo, sizeOf, hi, Builtin.firstCells, Builtin.lenOf]
    · simp [Builtin.append_, run_underlying ht, typeInfo, sizeOf, hi, Builtin.firstCells, Builtin.lenOf, storeCells, hnc]
  unfold Oper.wp
  simp [execOp, ho, resolve, invoke, builtin, hs, hx, hrun, Result.andThen]
  exact hK _ _ h

set_option maxRecDepth 20000 in
set_option maxHeartbeats 400000 in
theorem l1Own_any (A : Option Addr) (xs : List Int) (c : Nat) (w : World) (hr : Ints w w.heap.size A xs) (hn : xs.length ≤ 1048576) :
    Calls Tryd.prog 72 #[.slice A xs.length c] w (GaveI' w xs) := by
  obtain ⟨i0, hi0, hz0, hz1, hz2⟩ := info_of Tryd.infoInt
  have hB0 : Below w.heap.size w (w.alloc (.cells #[] 3)) := by go_grown
  have HB0 := Lib.hid hB0; clear hB0
  have HR := Lib.hid (hr.keep HB0.out); clear hr
  have HE := Lib.hid (own_empty w)
  rcases A with _ | ad
  · have hx : xs = [] := by
      rcases xs with _ | ⟨x, xs⟩
      · rfl
      · obtain ⟨_, _, e, _⟩ := HR.out (by simp)
        cases e
    subst hx
    go_enter Tryd.func72, Tryd.ntmps72
    go_wp2_with (at_builtin
                 refine append_nil_at rfl (.tmp 3) (.tmp 4) _ rfl w.heap.size 3 i0 1 Tryd.underlying37 hi0 _ _ _ rfl HE.out c rfl ?_)
    go_ret
    exact ⟨_, _, rfl, .inl rfl, HB0.out⟩
  · have HN : Hid (∀ (j : Nat) (v : Value), (vals xs)[j]? = some v → (w.alloc (.cells #[] 3)).cell? (ad.add j) = some v) := fun j v hv => by
      have hp : 0 < xs.length := by have := (List.getElem?_eq_some_iff.1 hv).1; rw [vals_length] at this; omega
      obtain ⟨ad', e, h⟩ := HR.out.src hp
      injection e with e
      subst e
      exact h j v hv
    go_enter Tryd.func72, Tryd.ntmps72
    go_wp2_with (at_builtin
                 refine wpList_append_own _ rfl (.tmp 3) (.tmp 4) _ rfl w.heap.size 3 i0 _ 1 8 Tryd.underlying37 hi0 hz0 hz1 hz2 rfl (by omega) _ _ _ rfl HE.out ad xs.length c (vals xs) rfl (by rw [vals_length]; omega) HN.out (vals_one xs) (by unfold maxLen; omega) (by omega) (by simp) ?_
                 intro v' w' h1 h2 h3
                 have HO1 := Lib.hid h1
                 have HG1 := Lib.hid h2
                 clear h1 h2 h3)
    have h1 := HO1.out
    rw [List.nil_append] at h1
    obtain ⟨A', c', rfl, hO⟩ := ownI_of_row (ys := xs) h1
    go_ret
    exact ⟨A', c', rfl, hO, HB0.out.grown HG1.out HB0.out.size fun k hk => (HE.out.lt k hk).1⟩

theorem Save.drew {S : Nat → Prop} {a w : World} (h : Save S a w) : Save S a w.drew := ⟨h.os, h.tape, h.output, h.size, h.block⟩

theorem val_int {a b : Int} (h : a = b) : Value.int .i64 a = .int .i64 b := by rw [h]

end Go.Proofs.YtaobkanliiiapaaDoor

/- The program's charts: goodChart, emptyChart, EmptyChart, CellAt. -/

namespace Go.Proofs.YtaobkanliiiapaaDoor
open Go.RowKit
open Go.Sort (grow)

theorem cellCount_any (n : Int) (w : World) (h0 : 0 ≤ n) (h1 : n ≤ 10) :
    Calls Tryd.prog 105 #[.int .i64 n] w fun e w' => e = .returned (.int .i64 (cntC n)) ∧ w' = w := by
  rcases n11 h0 h1 with rfl | rfl | rfl | rfl | rfl | rfl | rfl | rfl | rfl | rfl | rfl
  all_goals
    go_enter Tryd.func105, Tryd.ntmps105
    go_wp2
    go_ret
    exact ⟨rfl, rfl⟩

set_option maxRecDepth 20000 in
set_option maxHeartbeats 1000000 in
theorem goodChart_any (n : Int) (A : Option Addr) (ls : List Li) (c : Nat) (w : World) (hx : Lls w w.heap.size A ls) (h1 : ls.length ≤ 1048576) (h2 : ∀ u ∈ ls, u.r.length ≤ 1048576) (hL : Lims w) :
    Calls Tryd.prog 69 #[.agg #[.int .i64 n, .slice A ls.length c]] w fun e w' => e = .returned (.bool (bP (GoodC n (sayL ls)))) ∧ Below w.heap.size w w' := by
  have HX := Lib.hid hx; clear hx
  have HU := Lib.hid h2; clear h2
  have HL := Lib.hid hL; clear hL
  have HBW : Hid (Below w.heap.size w (w.alloc (.cells #[.int .i64 n, .slice A ls.length c] 27))) := by show Below _ _ _; go_grown
  have R0 : Row (w.alloc (.cells #[.int .i64 n, .slice A ls.length c] 27)) w.heap.size 27 #[.int .i64 n, .slice A ls.length c] := Row.new _ _ _
  have HR0 := Lib.hid R0
  have b0 := R0.cell 0
  have b1 := R0.cell 1
  simp only [List.getElem?_toArray, List.getElem?_cons_succ, List.getElem?_cons_zero] at b0 b1
  clear R0
  go_enter Tryd.func69, Tryd.ntmps69
  go_wp2_with fail
  generalize (w.alloc (.cells #[.int .i64 n, .slice A ls.length c] 27)) = W at HBW HR0 b0 b1 ⊢
  have p0 := cell_regrown b0
  have p1 := cell_regrown b1
  have HRG : Hid (∀ d os, Below w.heap.size w (grow (redrawn W d) os)) := fun d os => HBW.out.trans ((below_regrown W d os).mono HBW.out.size)
  have HRB : Hid (∀ d os, Row (grow (redrawn W d) os) w.heap.size 27 #[.int .i64 n, .slice A ls.length c]) := fun d os => HR0.out.below (below_regrown W d os) HR0.out.lt
  have HC1 : Hid (∀ d os, Calls Tryd.prog 57 #[.int .i64 4, .int .i64 n] (grow (redrawn W d) os) fun e w' => e = .returned (.bool (inB 0 10 n)) ∧ Below (grow (redrawn W d) os).heap.size (grow (redrawn W d) os) w') := fun d os => within4 n _ (HL.out.keep (HRG.out d os) (Nat.le_refl _))
  clear b0 b1
  cases hn : inB 0 10 n
  · have HE : Hid (bP (GoodC n (sayL ls)) = false) := bP_f fun h => by have h2 := inB_t h.1.1 h.1.2; rw [hn] at h2; cases h2
    rw [hn] at HC1
    have HC2 := HC1
    refine wp_region_quiet_below (by kernel_rfl) (by kernel_rfl) ?_
    repeat (first | go_big_quiet_step (first | exact Calls.regrown_of (HC1.out _ _) | exact Calls.regrown_of (HC2.out _ _)) | quiet_step (first | exact Calls.regrown_of (HC1.out _ _) | exact Calls.regrown_of (HC2.out _ _)))
    refine wpQuiet_nil ?_
    intro _ hw'
    obtain ⟨⟨dq, osq⟩, hw''⟩ := hw'
    subst hw''
    go_wp2
    go_ret
    exact ⟨ret_b HE.out.symm, HRG.out dq osq⟩
  rw [hn] at HC1
  have hn0 := inB_lo hn
  have hn1 := inB_hi hn
  have hcb := cntC_bound hn0 hn1
  have HC2 : Hid (∀ d os, Calls Tryd.prog 105 #[.int .i64 n] (grow (redrawn W d) os) fun e w' => e = .returned (.int .i64 (cntC n)) ∧ Below (grow (redrawn W d) os).heap.size (grow (redrawn W d) os) w') := fun d os => (cellCount_any n _ hn0 hn1).mono fun e w' h => ⟨h.1, h.2 ▸ Below.refl _ _⟩
  have hc2 := Lib.hid (cntC_two hn0 hn1)
  by_cases hlc : (ls.length : Int) = cntC n
  · have hne : ((ls.length : Int) != cntC n) = false := bne_f hlc
    have HLC := Lib.hid hlc
    clear hlc
    refine wp_region_quiet_below (by kernel_rfl) (by kernel_rfl) ?_
    repeat (first | go_big_quiet_step (first | exact Calls.regrown_of (HC1.out _ _) | exact Calls.regrown_of (HC2.out _ _)) | quiet_step (first | exact Calls.regrown_of (HC1.out _ _) | exact Calls.regrown_of (HC2.out _ _)))
    refine wpQuiet_nil ?_
    intro _ hw'
    obtain ⟨⟨dq, osq⟩, hw''⟩ := hw'
    subst hw''
    have HBV := Lib.hid (HRG.out dq osq)
    have HRV := Lib.hid (HRB.out dq osq)
    generalize grow (redrawn W dq) osq = V at *
    clear p0 p1 HC1 HC2 HRG HRB HR0 HBW
    have b1 := HRV.out.cell 1
    simp only [List.getElem?_toArray, List.getElem?_cons_succ, List.getElem?_cons_zero] at b1
    go_wp2
    go_loopw [21] (fun i wr => ∃ (k : Nat), k ≤ ls.length ∧ i = .int .i64 k ∧ Hid (Below w.heap.size w wr) ∧ Hid (CellsTo (sayL ls) k)) (fun i _ => ls.length - (intOf i).toNat)
    case atStart => exact ⟨0, by omega, rfl, HBV.out, fun j x h => absurd h (by omega)⟩
    case round =>
      clear b1
      obtain ⟨k, hk, rfl, HB, H⟩ := hrel
      have hws := HB.out.size
      by_cases hlt : k < ls.length
      · obtain ⟨b, o, eA, hb, c1, c2, c3⟩ := (HX.out.keep HB.out).at_ hlt
        have HS := Lib.hid (sayL_at hlt)
        have HI := Lib.hid (c3.more hws)
        have hul := HU.out ls[k] (List.getElem_mem hlt)
        subst eA
        clear c2 c3
        generalize ls[k] = u at c1 HS HI hul
        obtain ⟨ua, ur, uc⟩ := u
        dsimp only at c1 HS HI hul
        have HC := Lib.hid (goodEmpty_any 40 0 ua ur uc wr HI.out hul)
        go_wp2_with fail
        refine HC.out.mono ?_
        rintro e w3 ⟨rfl, hB3⟩
        have HB3 := Lib.hid (HB.out.trans (hB3.mono hws))
        clear hB3 HC c1
        cases hg : bP (GoodE 40 ur)
        · have HE : Hid (bP (GoodC n (sayL ls)) = false) := bP_f fun h => bP_no hg (h.2.2 _ (List.mem_of_getElem? HS.out))
          go_wp2
          go_ret
          exact ⟨ret_b HE.out.symm, HB3.out⟩
        · have HN : Hid (CellsTo (sayL ls) (k + 1)) := upto_next (Q := fun x : List Int => GoodE 40 x) HS.out (bP_is hg) H.out
          go_wp2
          go_roundw
          case rel => exact ⟨k + 1, by omega, by go_num, HB3.out, HN.out⟩
          case measure => simp [intOf]; omega
      · have HE : Hid (bP (GoodC n (sayL ls)) = true) := bP_t ⟨⟨hn0, hn1⟩, by rw [sayL_len, HLC.out]; exact hc2.out, CellsTo.all fun j l h1 h2 => H.out j l (by rw [sayL_len] at h1; omega) h2⟩
        go_wp2
        go_ret
        exact ⟨ret_b HE.out.symm, HB.out⟩
  · have hne : ((ls.length : Int) != cntC n) = true := bne_t hlc
    have HE : Hid (bP (GoodC n (sayL ls)) = false) := bP_f fun h => hlc (by have h1 := h.2.1; rw [sayL_len] at h1; have := hc2.out; omega)
    clear hlc
    refine wp_region_quiet_below (by kernel_rfl) (by kernel_rfl) ?_
    repeat (first | go_big_quiet_step (first | exact Calls.regrown_of (HC1.out _ _) | exact Calls.regrown_of (HC2.out _ _)) | quiet_step (first | exact Calls.regrown_of (HC1.out _ _) | exact Calls.regrown_of (HC2.out _ _)))
    refine wpQuiet_nil ?_
    intro _ hw'
    obtain ⟨⟨dq, osq⟩, hw''⟩ := hw'
    subst hw''
    go_wp2
    go_ret
    exact ⟨ret_b HE.out.symm, HRG.out dq osq⟩

theorem emptyChart_any (n : Int) (w : World) (h0 : 0 ≤ n) (h1 : n ≤ 10) :
    Calls Tryd.prog 58 #[.int .i64 n] w fun e w' => ∃ m : Nat, (m : Int) = cntC n ∧ e = .returned (.agg #[.int .i64 n, .slice (some ⟨w.heap.size + 1, 0, none⟩) m m]) ∧ Row w' (w.heap.size + 1) 37 (zL m) ∧ Below w.heap.size w w' := by
  have hcb := cntC_bound h0 h1
  obtain ⟨m, hm⟩ := Int.eq_ofNat_of_zero_le hcb.1
  have hmk := make_lists m (by omega)
  go_enter Tryd.func58, Tryd.ntmps58
  go_wp2_with (go_at_call 105; refine (cellCount_any n _ h0 h1).mono ?_; rintro e w1 ⟨rfl, rfl⟩; rw [hm])
  have HR : Hid (Row ((w.alloc (.cells #[.int .i64 n, .slice (some ⟨w.heap.size + 1, 0, none⟩) m m] 27)).alloc (.cells (zL m) 37)) (w.heap.size + 1) 37 (zL m)) := by
    have h := Row.new (w.alloc (.cells #[.int .i64 n, .slice (some ⟨w.heap.size + 1, 0, none⟩) m m] 27)) 37 (zL m)
    rw [World.size_alloc] at h; exact h
  refine bodyPost_ret (v := .agg #[.int .i64 n, .slice (some ⟨w.heap.size + 1, 0, none⟩) m m]) (by simp [results, Tryd.results58, go_sem]) rfl ⟨m, hm.symm, rfl, HR.out, ?_⟩
  go_grown

/-- The lists of a chart whose cells are empty. -/
def emptyL (m : Nat) : List Li := List.replicate m ⟨none, [], 0⟩
theorem emptyL_len (m : Nat) : (emptyL m).length = m := List.length_replicate
theorem emptyL_at {m k : Nat} {u : Li} (h : (emptyL m)[k]? = some u) : k < m ∧ u = ⟨none, [], 0⟩ := by
  unfold emptyL at h
  rw [List.getElem?_replicate] at h
  split at h
  · injection h with h
    exact ⟨by assumption, h.symm⟩
  · cases h
theorem zL_at {m k : Nat} (h : k < m) : (zL m)[k]? = some (.slice none 0 0) := by
  have e := toList_madeCells_one (.slice none 0 0) m
  have h1 : (zL m)[k]? = (zL m).toList[k]? := (Array.getElem?_toList ..).symm
  rw [h1]
  unfold zL
  rw [e]
  simp [h]
theorem emptyL_own {w : World} {lo g m : Nat} (h : Row w g 37 (zL m)) (hg : lo ≤ g) : OwnL w lo (some ⟨g, 0, none⟩) (emptyL m) := by
  refine .inr ⟨g, zL m, rfl, hg, h, fun k u hu => ?_, fun i j u v hu hv _ hn => ?_⟩
  · obtain ⟨hk, rfl⟩ := emptyL_at hu
    exact ⟨zL_at hk, Nat.le_refl _, .inl rfl⟩
  · obtain ⟨_, rfl⟩ := emptyL_at hu
    exact absurd rfl hn
/-- What an empty chart's cells say. -/
def emptyC (n : Int) : List (List Int) := List.replicate (cntC n).toNat []
theorem emptyL_say {n : Int} {m : Nat} (h : (m : Int) = cntC n) : sayL (emptyL m) = emptyC n := by
  unfold emptyC emptyL sayL
  rw [List.map_replicate, ← h]; rfl

/-- A chart and a bool. -/
def GaveCB (w : World) (n : Int) (xs : List (List Int)) (ok : Bool) (e : Ending) (w' : World) : Prop :=
  ∃ A ls c, e = .returned (.tuple #[.agg #[.int .i64 n, .slice A ls.length c], .bool ok]) ∧ sayL ls = xs ∧ OwnL w' w.heap.size A ls ∧ ls.length ≤ c ∧ Below w.heap.size w w'

/-- What EmptyChart answers. -/
def emN (n : Int) : Int := if inB 0 10 n then n else 0
def emC (n : Int) : List (List Int) := if inB 0 10 n then emptyC n else []

set_option maxHeartbeats 1000000 in
theorem implEmptyChart_any (n : Int) (w : World) (hL : Lims w) :
    Calls Tryd.prog 15 #[.int .i64 n] w (GaveCB w (emN n) (emC n) (inB 0 10 n)) := by
  have HL := Lib.hid hL; clear hL
  have HB0 : Hid (Below w.heap.size w (w.alloc (.cells #[.int .i64 0, .slice none 0 0] 27))) := by show Below _ _ _; go_grown
  have HR0 : Hid (Row (w.alloc (.cells #[.int .i64 0, .slice none 0 0] 27)) w.heap.size 27 #[.int .i64 0, .slice none 0 0]) := Row.new _ _ _
  go_enter Tryd.func15, Tryd.ntmps15
  go_wp2_with fail
  generalize (w.alloc (.cells #[.int .i64 0, .slice none 0 0] 27)) = W at HB0 HR0 ⊢
  refine (within4 n W (HL.out.keep HB0.out (Nat.le_refl _))).mono ?_
  rintro e w1 ⟨rfl, hB1⟩
  have HR1 := Lib.hid (HR0.out.below hB1 HR0.out.lt)
  have HB1 := Lib.hid (HB0.out.trans (hB1.mono HB0.out.size)); clear hB1 HB0 HR0
  cases hn : inB 0 10 n
  · have HV : Hid (emN n = 0 ∧ emC n = []) := by show _ ∧ _; unfold emN emC; rw [hn]; exact ⟨rfl, rfl⟩
    have d0 := HR1.out.cell 0
    have d1 := HR1.out.cell 1
    have g0 := HR1.out.frozen 0
    have g1 := HR1.out.frozen 1
    simp only [List.getElem?_toArray, List.getElem?_cons_succ, List.getElem?_cons_zero] at d0 d1
    go_wp2
    refine bodyPost_ret (v := .tuple #[.agg #[.int .i64 0, .slice none 0 0], .bool false]) (by simp [results, Tryd.results15, go_sem, d0, d1]) rfl ⟨none, [], 0, by rw [HV.out.1, hn]; rfl, by rw [HV.out.2]; rfl, .inl rfl, Nat.le_refl _, ?_⟩
    exact (HB1.out.setCell (by simp) _).setCell (by simp) _
  · have hn0 := inB_lo hn
    have hn1 := inB_hi hn
    have HV : Hid (emN n = n ∧ emC n = emptyC n) := by show _ ∧ _; unfold emN emC; rw [hn]; exact ⟨rfl, rfl⟩
    go_wp2_with fail
    refine (emptyChart_any n w1 hn0 hn1).mono ?_
    rintro e w2 ⟨m, hm, rfl, hR2, hB2⟩
    have HR3 := Lib.hid (HR1.out.below hB2 HR1.out.lt)
    have HB2 := Lib.hid (HB1.out.trans (hB2.mono HB1.out.size)); clear hB2
    have HO2 := Lib.hid hR2; clear hR2
    have hs1 := HB1.out.size
    have hlt := HR1.out.lt
    have d0 := HR3.out.cell 0
    have d1 := HR3.out.cell 1
    have g0 := HR3.out.frozen 0
    have g1 := HR3.out.frozen 1
    simp only [List.getElem?_toArray, List.getElem?_cons_succ, List.getElem?_cons_zero] at d0 d1
    go_wp2
    refine bodyPost_ret (v := .tuple #[.agg #[.int .i64 n, .slice (some ⟨w1.heap.size + 1, 0, none⟩) m m], .bool true]) (by simp [results, Tryd.results15, go_sem, d0, d1]) rfl ⟨_, emptyL m, m, by rw [HV.out.1, emptyL_len, hn], by rw [HV.out.2, emptyL_say hm], emptyL_own ((HO2.out.far (by simp; omega) _).far (by simp; omega) _) (by omega), Nat.le_of_eq (emptyL_len m), ?_⟩
    exact (HB2.out.setCell (by simp) _).setCell (by simp) _

end Go.Proofs.YtaobkanliiiapaaDoor

/- The program's CellAt. -/

namespace Go.Proofs.YtaobkanliiiapaaDoor
open Go.RowKit

/-- What CellAt answers. -/
noncomputable def okA (n : Int) (xs : List (List Int)) (f t : Int) : Bool := bP (GoodC n xs) && spanB n f t
noncomputable def atV (n : Int) (xs : List (List Int)) (f t : Int) : List Int := if okA n xs f t then atC xs n f t else []

/-- A good chart's cell in memory. -/
theorem cell_at {w : World} {B : Nat} {n f t : Int} {A : Option Addr} {ls : List Li} (hx : Lls w B A ls) (hg : GoodC n (sayL ls)) (hs : spanB n f t = true) :
    ∃ (k : Nat) (b o : Nat) (a : Option Addr) (c : Nat), noC n f t = k ∧ k < ls.length ∧ A = some ⟨b, o, none⟩ ∧ b < B ∧ w.cell? ⟨b, o + k, none⟩ = some (.slice a (atC (sayL ls) n f t).length c) ∧ (atC (sayL ls) n f t).length ≤ c ∧ Ints w B a (atC (sayL ls) n f t) := by
  have h := noC_lt hs hg.2.1
  rw [sayL_len] at h
  obtain ⟨k, hk⟩ := Int.eq_ofNat_of_zero_le h.1
  have hk2 : k < ls.length := by omega
  obtain ⟨b, o, e, hb, c1, c2, c3⟩ := hx.at_ hk2
  have hat := atC_at hk2 hk
  rw [hat]
  exact ⟨k, b, o, _, _, hk, hk2, e, hb, c1, c2, c3⟩

set_option maxRecDepth 20000 in
set_option maxHeartbeats 1000000 in
theorem implCellAt_any (n f t : Int) (A : Option Addr) (ls : List Li) (c : Nat) (w : World) (hx : Lls w w.heap.size A ls) (h1 : ls.length ≤ 1048576) (h2 : ∀ u ∈ ls, u.r.length ≤ 1048576) (hL : Lims w) :
    Calls Tryd.prog 22 #[.agg #[.int .i64 n, .slice A ls.length c], .int .i64 f, .int .i64 t] w (GaveIB w (atV n (sayL ls) f t) (okA n (sayL ls) f t)) := by
  have HX := Lib.hid hx; clear hx
  have HU := Lib.hid h2; clear h2
  have HL := Lib.hid hL; clear hL
  have HB0 : Hid (Below w.heap.size w (w.alloc (.cells #[.int .i64 n, .slice A ls.length c] 27))) := by show Below _ _ _; go_grown
  have HR0 : Hid (Row (w.alloc (.cells #[.int .i64 n, .slice A ls.length c] 27)) w.heap.size 27 #[.int .i64 n, .slice A ls.length c]) := Row.new _ _ _
  go_enter Tryd.func22, Tryd.ntmps22
  go_wp2_with fail
  generalize (w.alloc (.cells #[.int .i64 n, .slice A ls.length c] 27)) = W at HB0 HR0 ⊢
  refine (goodChart_any n A ls c W ((HX.out.keep HB0.out).more HB0.out.size) h1 HU.out (HL.out.keep HB0.out (Nat.le_refl _))).mono ?_
  rintro e w1 ⟨rfl, hB1⟩
  have HR1 := Lib.hid (HR0.out.below hB1 HR0.out.lt)
  have HB1 := Lib.hid (HB0.out.trans (hB1.mono HB0.out.size)); clear hB1 HB0 HR0
  have d0 := HR1.out.cell 0
  simp only [List.getElem?_toArray, List.getElem?_cons_zero] at d0
  cases hg : bP (GoodC n (sayL ls))
  · have HV : Hid (okA n (sayL ls) f t = false) := by show _ = _; unfold okA; rw [hg]; rfl
    have HV2 : Hid (atV n (sayL ls) f t = []) := by show _ = _; unfold atV; rw [HV.out]; rfl
    clear hg
    go_wp2
    go_ret2
    exact ⟨none, 0, by rw [HV.out, HV2.out]; rfl, by rw [HV2.out]; exact .inl rfl, HB1.out⟩
  have HG : Hid (GoodC n (sayL ls)) := bP_is hg
  go_wp2_with fail
  refine (isCell_any n f t w1 (HL.out.keep HB1.out (Nat.le_refl _))).mono ?_
  rintro e w2 ⟨rfl, hB2⟩
  have HR2 := Lib.hid (HR1.out.below hB2 HR1.out.lt)
  have HB2 := Lib.hid (HB1.out.trans (hB2.mono HB1.out.size)); clear hB2 HB1 HR1 d0
  cases hs : spanB n f t
  · have HV : Hid (okA n (sayL ls) f t = false) := by show _ = _; unfold okA; rw [hg, hs]; rfl
    have HV2 : Hid (atV n (sayL ls) f t = []) := by show _ = _; unfold atV; rw [HV.out]; rfl
    clear hg hs
    go_wp2
    go_ret2
    exact ⟨none, 0, by rw [HV.out, HV2.out]; rfl, by rw [HV2.out]; exact .inl rfl, HB2.out⟩
  have HV : Hid (okA n (sayL ls) f t = true) := by show _ = _; unfold okA; rw [hg, hs]; rfl
  have HV2 : Hid (atV n (sayL ls) f t = atC (sayL ls) n f t) := by show _ = _; unfold atV; rw [HV.out]; rfl
  have hs2 := HB2.out.size
  obtain ⟨k, b, o, a, cc, hk, hkl, eA, hb, c1, c2, c3⟩ := cell_at ((HX.out.keep HB2.out).more hs2) HG.out hs
  have hul : (atC (sayL ls) n f t).length ≤ 1048576 := by rw [atC_at hkl hk]; exact HU.out _ (List.getElem_mem hkl)
  have HI := Lib.hid c3
  generalize atC (sayL ls) n f t = xs at HV2 c1 c2 HI hul
  subst eA
  have HNO := Lib.hid (fun w => cellNo_any n f t w hs)
  rw [hk] at HNO
  have d0 := HR2.out.cell 0
  have d1 := HR2.out.cell 1
  simp only [List.getElem?_toArray, List.getElem?_cons_succ, List.getElem?_cons_zero] at d0 d1
  clear hg hs c3 c2
  go_wp2_with fail
  go_region_law (first
    | (go_simp
       go_at_call 63
       refine (HNO.out _).mono ?_
       rintro e w3 ⟨rfl, rfl⟩)
    | (go_simp
       go_at_call 70
       refine (copyList_any a xs cc _ ?_ hul).mono ?_
       · exact (HI.out.keep (by go_grown)).more (by simp)
       rintro e w4 ⟨A4, c4, rfl, _, hO4, hB4⟩
       have HO4 := Lib.hid hO4
       have HB4 : Hid (Below w2.heap.size w2 w4) := Below.trans (by go_grown) hB4
       clear hO4 hB4))
  all_goals
    go_wp2
    go_ret2
    exact ⟨A4, c4, by rw [HV.out, HV2.out]; rfl, by rw [HV2.out]; exact HO4.out.lower hs2, HB2.out.trans (HB4.out.mono hs2)⟩

end Go.Proofs.YtaobkanliiiapaaDoor

/- What the program's GoodBinary answers. -/

namespace Go.Proofs.YtaobkanliiiapaaDoor
open Go.RowKit
open Go.Sort (grow)

/-- A binary grammar's box: its cells stay while only newer memory is written. -/
def Box6 (w : World) (g : Nat) (b : Bi) : Prop := g < w.heap.size ∧ w.cell? ⟨g, 0, none⟩ = some (.int .i64 b.n) ∧ w.cell? ⟨g, 1, none⟩ = some (.int .i64 b.t) ∧ w.cell? ⟨g, 2, none⟩ = some (.slice b.Ap b.P.length b.cp) ∧
  w.cell? ⟨g, 3, none⟩ = some (.slice b.Ao b.O.length b.co) ∧ w.cell? ⟨g, 4, none⟩ = some (.slice b.Ae b.E.length b.ce) ∧ w.cell? ⟨g, 5, none⟩ = some (.slice b.Af b.F.length b.cf)
theorem Box6.keep {w w' : World} {g B : Nat} {b : Bi} (h : Box6 w g b) (hb : Below B w w') (hB : g < B) : Box6 w' g b := by
  obtain ⟨h0, h1, h2, h3, h4, h5, h6⟩ := h
  exact ⟨by have := hb.size; omega, (hb.cell (p := ⟨g, 0, none⟩) hB).trans h1, (hb.cell (p := ⟨g, 1, none⟩) hB).trans h2, (hb.cell (p := ⟨g, 2, none⟩) hB).trans h3, (hb.cell (p := ⟨g, 3, none⟩) hB).trans h4, (hb.cell (p := ⟨g, 4, none⟩) hB).trans h5, (hb.cell (p := ⟨g, 5, none⟩) hB).trans h6⟩
theorem Box6.new (w : World) (b : Bi) (t : TypeId) : Box6 (w.alloc (.cells #[.int .i64 b.n, .int .i64 b.t, .slice b.Ap b.P.length b.cp, .slice b.Ao b.O.length b.co, .slice b.Ae b.E.length b.ce, .slice b.Af b.F.length b.cf] t)) w.heap.size b := ⟨by simp, by simp [go_sem], by simp [go_sem], by simp [go_sem], by simp [go_sem], by simp [go_sem], by simp [go_sem]⟩

set_option maxHeartbeats 400000 in
theorem symbolsOf_any (b : Bi) (w : World) :
    Calls Tryd.prog 92 #[(.agg #[.int .i64 b.n, .int .i64 b.t, .slice b.Ap b.P.length b.cp, .slice b.Ao b.O.length b.co, .slice b.Ae b.E.length b.ce, .slice b.Af b.F.length b.cf])] w fun e w' => e = .returned (.agg #[.int .i64 b.n, .int .i64 b.t, .slice none 0 0]) ∧ Below w.heap.size w w' := by
  go_enter Tryd.func92, Tryd.ntmps92
  go_wp2
  exact bodyPost_ret (v := .agg #[.int .i64 b.n, .int .i64 b.t, .slice none 0 0]) (by simp [results, Tryd.results92, go_sem]) rfl ⟨rfl, by go_grown⟩

set_option maxRecDepth 20000 in
set_option maxHeartbeats 1000000 in
theorem implGoodB_any (b : Bi) (w : World) (hx : ReadB w w.heap.size b) (hL : Lims w) (hm : LenB 1048576 b) (hf : FitB b.say) :
    Calls Tryd.prog 74 #[(.agg #[.int .i64 b.n, .int .i64 b.t, .slice b.Ap b.P.length b.cp, .slice b.Ao b.O.length b.co, .slice b.Ae b.E.length b.ce, .slice b.Af b.F.length b.cf])] w fun e w' => e = .returned (.bool (bP (GoodBs b.say))) ∧ Below w.heap.size w w' := by
  have HX := Lib.hid hx; clear hx
  have HL := Lib.hid hL; clear hL
  have HM := Lib.hid hm; clear hm
  have HF := Lib.hid hf; clear hf
  have hB0 : Below w.heap.size w (w.alloc (.cells #[.int .i64 b.n, .int .i64 b.t, .slice b.Ap b.P.length b.cp, .slice b.Ao b.O.length b.co, .slice b.Ae b.E.length b.ce, .slice b.Af b.F.length b.cf] 41)) := by go_grown
  have BX0 := Box6.new w b 41
  go_enter Tryd.func74, Tryd.ntmps74
  go_wp2_with fail
  generalize (w.alloc (.cells #[.int .i64 b.n, .int .i64 b.t, .slice b.Ap b.P.length b.cp, .slice b.Ao b.O.length b.co, .slice b.Ae b.E.length b.ce, .slice b.Af b.F.length b.cf] 41)) = W at hB0 BX0 ⊢
  have HB0 := Lib.hid hB0; clear hB0
  have HBX0 := Lib.hid BX0; clear BX0
  refine (within5 _ _ (HL.out.keep HB0.out (Nat.le_refl _))).mono ?_
  rintro e w1 ⟨rfl, hB1⟩
  have HBX1 := Lib.hid (HBX0.out.keep hB1 HBX0.out.1)
  have HB1 := Lib.hid (HB0.out.trans (hB1.mono HB0.out.size)); clear hB1 HBX0 HB0
  obtain ⟨_, b0, b1, b2, b3, b4, b5⟩ := HBX1.out
  cases hn : inB 1 40 b.n
  · have HE : Hid (bP (GoodBs b.say) = false) := bP_f fun h => inB_not hn h.1
    go_wp2
    go_ret
    exact ⟨ret_b HE.out.symm, HB1.out⟩
  have HN := Lib.hid (inB_and hn); clear hn
  go_wp2_with fail
  refine (within1 _ _ (HL.out.keep HB1.out (Nat.le_refl _))).mono ?_
  rintro e w2 ⟨rfl, hB2⟩
  have HBX2 := Lib.hid (HBX1.out.keep hB2 HBX1.out.1)
  have HB2 := Lib.hid (HB1.out.trans (hB2.mono HB1.out.size)); clear hB2 HBX1 HB1 b0 b1 b2 b3 b4 b5
  obtain ⟨_, b0, b1, b2, b3, b4, b5⟩ := HBX2.out
  cases ht : inB 1 4 b.t
  · have HE : Hid (bP (GoodBs b.say) = false) := bP_f fun h => inB_not ht h.2.1
    go_wp2
    go_ret
    exact ⟨ret_b HE.out.symm, HB2.out⟩
  have HT := Lib.hid (inB_and ht); clear ht
  go_wp2_with fail
  refine (symbolsOf_any _ _).mono ?_
  rintro e w3 ⟨rfl, hB3⟩
  have HBX3 := Lib.hid (HBX2.out.keep hB3 HBX2.out.1)
  have HB3 := Lib.hid (HB2.out.trans (hB3.mono HB2.out.size)); clear hB3 HBX2 HB2 b0 b1 b2 b3 b4 b5
  obtain ⟨_, b0, b1, b2, b3, b4, b5⟩ := HBX3.out
  go_wp2_with fail
  have hB4 : Below w3.heap.size w3 (w3.alloc (.cells #[.int .i64 b.n, .int .i64 b.t, .slice none 0 0] 54)) := by go_grown
  have BG4 : Box3 (w3.alloc (.cells #[.int .i64 b.n, .int .i64 b.t, .slice none 0 0] 54)) w3.heap.size (.int .i64 b.n) (.int .i64 b.t) (.slice none 0 0) := ⟨by simp, by simp [go_sem], by simp [go_sem], by simp [go_sem]⟩
  generalize (w3.alloc (.cells #[.int .i64 b.n, .int .i64 b.t, .slice none 0 0] 54)) = w4 at hB4 BG4 ⊢
  have HBG4 := Lib.hid BG4; clear BG4
  have HBX4 := Lib.hid (HBX3.out.keep hB4 HBX3.out.1)
  have HB4 := Lib.hid (HB3.out.trans (hB4.mono HB3.out.size)); clear hB4 HBX3 HB3 b0 b1 b2 b3 b4 b5
  refine (goodLists_any _ _ 3 (by omega) (by omega) _ _ _ _ ((HX.out.1.keep HB4.out).more HB4.out.size) HM.out.p HM.out.ps HF.out.1).mono ?_
  rintro e w5 ⟨rfl, hB5⟩
  have HBG5 := Lib.hid (HBG4.out.keep hB5 HBG4.out.1)
  have HBX5 := Lib.hid (HBX4.out.keep hB5 HBX4.out.1)
  have HB5 := Lib.hid (HB4.out.trans (hB5.mono HB4.out.size)); clear hB5 HBX4 HB4 HBG4
  obtain ⟨_, b0, b1, b2, b3, b4, b5⟩ := HBX5.out
  obtain ⟨_, y0, y1, y2⟩ := HBG5.out
  cases hP : bP (GoodLs b.n b.t (3 : Nat) (sayL b.P))
  · have HE : Hid (bP (GoodBs b.say) = false) := bP_f fun h => bP_no hP h.2.2.1
    go_wp2
    go_ret
    exact ⟨ret_b HE.out.symm, HB5.out⟩
  have HP := Lib.hid (bP_is hP); clear hP
  go_wp2_with fail
  clear b0 b1 b2 b3 b4 b5 y0 y1 y2
  refine (goodLists_any _ _ 2 (by omega) (by omega) _ _ _ _ ((HX.out.2.1.keep HB5.out).more HB5.out.size) HM.out.o HM.out.os HF.out.2.1).mono ?_
  rintro e w6 ⟨rfl, hB6⟩
  have HBG6 := Lib.hid (HBG5.out.keep hB6 HBG5.out.1)
  have HBX6 := Lib.hid (HBX5.out.keep hB6 HBX5.out.1)
  have HB6 := Lib.hid (HB5.out.trans (hB6.mono HB5.out.size)); clear hB6 HBX5 HB5 HBG5
  obtain ⟨_, b0, b1, b2, b3, b4, b5⟩ := HBX6.out
  obtain ⟨_, y0, y1, y2⟩ := HBG6.out
  cases hO : bP (GoodLs b.n b.t (2 : Nat) (sayL b.O))
  · have HE : Hid (bP (GoodBs b.say) = false) := bP_f fun h => bP_no hO h.2.2.2.1
    go_wp2
    go_ret
    exact ⟨ret_b HE.out.symm, HB6.out⟩
  have HO := Lib.hid (bP_is hO); clear hO
  go_wp2_with fail
  clear b0 b1 b2 b3 b4 b5 y0 y1 y2
  refine (goodEmpty_any _ _ _ _ _ _ ((HX.out.2.2.1.keep HB6.out).more HB6.out.size) HM.out.e).mono ?_
  rintro e w7 ⟨rfl, hB7⟩
  have HBG7 := Lib.hid (HBG6.out.keep hB7 HBG6.out.1)
  have HBX7 := Lib.hid (HBX6.out.keep hB7 HBX6.out.1)
  have HB7 := Lib.hid (HB6.out.trans (hB7.mono HB6.out.size)); clear hB7 HBX6 HB6 HBG6
  obtain ⟨_, b0, b1, b2, b3, b4, b5⟩ := HBX7.out
  obtain ⟨_, y0, y1, y2⟩ := HBG7.out
  cases hE : bP (GoodE b.n b.E)
  · have HE : Hid (bP (GoodBs b.say) = false) := bP_f fun h => bP_no hE h.2.2.2.2.1
    go_wp2
    go_ret
    exact ⟨ret_b HE.out.symm, HB7.out⟩
  have HE := Lib.hid (bP_is hE); clear hE
  have HFN : Hid ((sayL b.F).length = b.F.length) := sayL_len
  by_cases hfl : (b.F.length : Int) ≤ b.n
  · go_wp2_with fail
    refine (allLong_any _ _ _ _ _ ((HX.out.2.2.2.keep HB7.out).more HB7.out.size) HM.out.f).mono ?_
    rintro e w8 ⟨rfl, rfl⟩
    have HE : Hid (bP (GoodBs b.say) = bP (LongTo 2 (sayL b.F) b.F.length)) := bP_congr ⟨fun h => by have := h.2.2.2.2.2.2; exact HFN.out ▸ this, fun h => ⟨HN.out, HT.out, HP.out, HO.out, HE.out, (by show ((sayL b.F).length : Int) ≤ b.n; rw [HFN.out]; exact hfl), (by show LongTo 2 (sayL b.F) (sayL b.F).length; rw [HFN.out]; exact h)⟩⟩
    go_wp2
    go_ret
    exact ⟨ret_b HE.out.symm, HB7.out⟩
  · have HE : Hid (bP (GoodBs b.say) = false) := bP_f fun h => hfl (by have : ((sayL b.F).length : Int) ≤ b.n := h.2.2.2.2.2.1; rw [HFN.out] at this; exact this)
    go_wp2
    go_ret
    exact ⟨ret_b HE.out.symm, HB7.out⟩

end Go.Proofs.YtaobkanliiiapaaDoor

/- What the reference's checks of a binary grammar answer: l5Less, l5Symbol, l5Rising, l1Rising, GoodBinary. -/

namespace Go.Proofs.YtaobkanliiiapaaDoor
open Go.RowKit
open Go.Sort (grow)

set_option maxHeartbeats 400000 in
theorem l5Symbol_any (b : Bi) (x : Int) (w : World) (hn : 1 ≤ b.n) (hn' : b.n ≤ 40) (ht : 1 ≤ b.t) (ht' : b.t ≤ 4) :
    Calls Tryd.prog 157 #[(.agg #[.int .i64 b.n, .int .i64 b.t, .slice b.Ap b.P.length b.cp, .slice b.Ao b.O.length b.co, .slice b.Ae b.E.length b.ce, .slice b.Af b.F.length b.cf]), .int .i64 x] w fun e w' => e = .returned (.bool (symB b.n b.t x)) ∧ Below w.heap.size w w' := by
  have HS := Lib.hid (sym_in (x := x) hn ht)
  go_enter Tryd.func157, Tryd.ntmps157
  go_wp2_with fail
  refine (l1In_any _ _ _ _).mono ?_
  rintro e w1 ⟨rfl, rfl⟩
  go_wp2
  go_ret
  exact ⟨ret_b HS.out, by go_grown⟩

set_option maxHeartbeats 400000 in
theorem l5Less_any (A A' : Option Addr) (xs ys : List Int) (c c' : Nat) (w : World) (hx : Ints w w.heap.size A xs) (hy : Ints w w.heap.size A' ys) (h1 : xs.length ≤ 1048576) (hl1 : xs.length ≤ ys.length) (hl2 : ys.length ≤ xs.length) :
    Calls Tryd.prog 156 #[.slice A xs.length c, .slice A' ys.length c'] w fun e w' => e = .returned (.bool (bP (cmpL xs ys < 0))) ∧ Below w.heap.size w w' := by
  have HX := Lib.hid hx; clear hx
  have HY := Lib.hid hy; clear hy
  go_enter Tryd.func156, Tryd.ntmps156
  go_wp2
  go_loopw [8] (fun i wr => ∃ (k : Nat), k ≤ xs.length ∧ i = .int .i64 k ∧ Below w.heap.size w wr ∧ Hid (cmpL xs ys = cmpL (xs.drop k) (ys.drop k))) (fun i _ => xs.length - (intOf i).toNat)
  case atStart => exact ⟨0, by omega, rfl, Below.refl _ _, rfl⟩
  case round =>
    obtain ⟨k, hk, rfl, hB, H⟩ := hrel
    by_cases hlt : k < xs.length
    · have hlt' : k < ys.length := by omega
      obtain ⟨b, o, rfl, hb, c1⟩ := (HX.out.keep hB).at_ hlt
      obtain ⟨b', o', rfl, hb', c2⟩ := (HY.out.keep hB).at_ hlt'
      have HD := Lib.hid (cmpL_drop hlt hlt')
      rcases Int.lt_trichotomy xs[k] ys[k] with h | h | h
      · have HN : Hid (bP (cmpL xs ys < 0) = true) := bP_t (by rw [H.out, HD.out, if_pos h]; omega)
        have ht : (xs[k] != ys[k]) = true := bne_t (by omega)
        go_wp2
        go_quiet (fail)
        go_wp2
        go_quiet (fail)
        go_wp2
        go_ret
        exact ⟨ret_b HN.out.symm, below_drewN (below_drewN hB _) _⟩
      · have HN : Hid (cmpL xs ys = cmpL (xs.drop (k + 1)) (ys.drop (k + 1))) := by
          show _ = _
          rw [H.out, HD.out, if_neg (by omega), if_neg (by omega)]
        have ht : (xs[k] != ys[k]) = false := bne_f h
        clear h
        go_wp2
        go_quiet (fail)
        go_wp2
        go_roundw
        case rel => exact ⟨k + 1, by omega, by go_num, below_drewN hB _, HN.out⟩
        case measure => simp [intOf]; omega
      · have HN : Hid (bP (cmpL xs ys < 0) = false) := bP_f (by rw [H.out, HD.out, if_neg (by omega), if_pos h]; omega)
        have ht : (xs[k] != ys[k]) = true := bne_t (by omega)
        have hlt2 : ¬ xs[k] < ys[k] := by omega
        have HD2 : Hid (decide (xs[k] < ys[k]) = bP (cmpL xs ys < 0)) := (decide_eq_false hlt2).trans HN.out.symm
        clear h
        go_wp2
        go_quiet (fail)
        go_wp2
        go_quiet (fail)
        go_wp2
        go_ret
        exact ⟨ret_b HD2.out, below_drewN (below_drewN hB _) _⟩
    · have HN : Hid (bP (cmpL xs ys < 0) = false) := bP_f (by rw [H.out, cmpL_end hlt (by omega)]; omega)
      go_wp2
      go_ret
      exact ⟨ret_b HN.out.symm, hB⟩

set_option maxRecDepth 20000 in
set_option maxHeartbeats 400000 in
theorem l1Rising_any (A : Option Addr) (xs : List Int) (c : Nat) (n : Int) (w : World) (hx : Ints w w.heap.size A xs) (h1 : xs.length ≤ 1048576) :
    Calls Tryd.prog 111 #[.slice A xs.length c, .int .i64 0, .int .i64 (n - 1)] w fun e w' => e = .returned (.bool (bP (GoodE n xs))) ∧ Below w.heap.size w w' := by
  have HX := Lib.hid hx; clear hx
  go_enter Tryd.func111, Tryd.ntmps111
  go_wp2
  go_loopw [11] (fun i wr => ∃ (k : Nat), k ≤ xs.length ∧ i = .int .i64 k ∧ Below w.heap.size w wr ∧ Hid (NonTo n xs k ∧ RiseI xs k)) (fun i _ => xs.length - (intOf i).toNat)
  case atStart => exact ⟨0, by omega, rfl, Below.refl _ _, fun j x h => absurd h (by omega), RiseI.zero _⟩
  case round =>
    obtain ⟨k, hk, rfl, hB, H⟩ := hrel
    by_cases hlt : k < xs.length
    · obtain ⟨b, o, rfl, hb, c1⟩ := (HX.out.keep hB).at_ hlt
      cases hu : nonB n xs[k]
      · have HU := Lib.hid hu; clear hu
        have HE : Hid (bP (GoodE n xs) = false) := bP_f fun h => by
          have := h.1 k _ hlt (List.getElem?_eq_getElem hlt)
          rw [HU.out] at this; cases this
        go_wp2_with fail
        refine (l1In_any _ _ _ _).mono ?_
        rintro e w' ⟨rfl, rfl⟩
        rw [non_in, HU.out]
        go_wp2
        go_ret
        exact ⟨ret_b HE.out.symm, hB⟩
      · have HU := Lib.hid hu; clear hu
        have HNX : Hid (NonTo n xs (k + 1)) := upto_next (Q := fun x => nonB n x = true) (List.getElem?_eq_getElem hlt) HU.out H.out.1
        rcases k with _ | j
        · simp only [Nat.add_zero] at c1
          go_wp2_with fail
          refine (l1In_any _ _ _ _).mono ?_
          rintro e w' ⟨rfl, rfl⟩
          rw [non_in, HU.out]
          go_wp2
          go_roundw
          case rel => exact ⟨0 + 1, by omega, by go_num, hB, HNX.out, RiseI.none _⟩
          case measure => simp [intOf]; omega
        · have hltj : j < xs.length := by omega
          obtain ⟨b', o', e', hb', d1⟩ := (HX.out.keep hB).at_ hltj
          injection e' with e'
          injection e' with e1 e2
          subst e1 e2
          have hwk : IntKind.i64.wrap (j : Int) = (j : Int) := by rw [IntKind.wrap_i64]; omega
          have hI1 : (j : Int) < (xs.length : Int) := by omega
          have hpos : (0 : Int) < (j : Int) + 1 := by omega
          by_cases hq : xs[j] < xs[j + 1]
          · have HQ := Lib.hid hq
            have HNR : Hid (RiseI xs (j + 1 + 1)) := H.out.2.step (List.getElem?_eq_getElem hltj) (List.getElem?_eq_getElem hlt) hq
            go_wp2_with fail
            refine (l1In_any _ _ _ _).mono ?_
            rintro e w' ⟨rfl, rfl⟩
            rw [non_in, HU.out]
            go_wp2
            go_roundw
            case rel => exact ⟨j + 1 + 1, by omega, by go_num, hB, HNX.out, HNR.out⟩
            case measure => simp [intOf]; omega
          · have HE : Hid (bP (GoodE n xs) = false) := bP_f fun h => hq (h.2 j _ _ hlt (List.getElem?_eq_getElem hltj) (List.getElem?_eq_getElem hlt))
            have hq2 : xs[j + 1] ≤ xs[j] := by omega
            clear hq
            go_wp2_with fail
            refine (l1In_any _ _ _ _).mono ?_
            rintro e w' ⟨rfl, rfl⟩
            rw [non_in, HU.out]
            go_wp2
            go_ret
            exact ⟨ret_b HE.out.symm, hB⟩
    · have HE : Hid (bP (GoodE n xs) = true) := bP_t ⟨upto_end (Q := fun x => nonB n x = true) hlt H.out.1, H.out.2.mono (by omega)⟩
      go_wp2
      go_ret
      exact ⟨ret_b HE.out.symm, hB⟩

end Go.Proofs.YtaobkanliiiapaaDoor

/- The reference's charts: l7Good, l7Empty, EmptyChart, CellAt. -/

namespace Go.Proofs.YtaobkanliiiapaaDoor
open Go.RowKit
open Go.Sort (grow)

set_option maxRecDepth 20000 in
set_option maxHeartbeats 2000000 in
theorem l7Good_any (n : Int) (A : Option Addr) (ls : List Li) (c : Nat) (w : World) (hx : Lls w w.heap.size A ls) (h1 : ls.length ≤ 1048576) (h2 : ∀ u ∈ ls, u.r.length ≤ 1048576) :
    Calls Tryd.prog 71 #[.agg #[.int .i64 n, .slice A ls.length c]] w fun e w' => e = .returned (.bool (bP (GoodC n (sayL ls)))) ∧ Below w.heap.size w w' := by
  have HX := Lib.hid hx; clear hx
  have HU := Lib.hid h2; clear h2
  have HBW : Hid (Below w.heap.size w (w.alloc (.cells #[.int .i64 n, .slice A ls.length c] 27))) := by show Below _ _ _; go_grown
  have HR0 : Hid (Row (w.alloc (.cells #[.int .i64 n, .slice A ls.length c] 27)) w.heap.size 27 #[.int .i64 n, .slice A ls.length c]) := Row.new _ _ _
  cases hn : inB 0 10 n
  · have HE : Hid (bP (GoodC n (sayL ls)) = false) := bP_f fun h => by have h2 := inB_t h.1.1 h.1.2; rw [hn] at h2; cases h2
    go_enter Tryd.func71, Tryd.ntmps71
    go_wp2_with (go_at_call 59; refine (l1In_any n 0 10 _).mono ?_; rintro e w1 ⟨rfl, rfl⟩; rw [hn])
    go_ret
    exact ⟨ret_b HE.out.symm, HBW.out⟩
  have hn0 := inB_lo hn
  have hn1 := inB_hi hn
  have hq : IntKind.i64.wrap (n * (n + 1)) = n * (n + 1) ∧ IntKind.i64.wrap (n + 1) = n + 1 := by
    rcases n11 hn0 hn1 with rfl | rfl | rfl | rfl | rfl | rfl | rfl | rfl | rfl | rfl | rfl <;> decide
  have hq2 : Int.tdiv (n * (n + 1)) 2 = cntC n := by
    rcases n11 hn0 hn1 with rfl | rfl | rfl | rfl | rfl | rfl | rfl | rfl | rfl | rfl | rfl <;> decide
  have hcb := cntC_bound hn0 hn1
  have hc2 := Lib.hid (cntC_two hn0 hn1)
  obtain ⟨hq0, hq1⟩ := hq
  go_enter Tryd.func71, Tryd.ntmps71
  by_cases hlc : (ls.length : Int) = cntC n
  · have hne : ((ls.length : Int) != cntC n) = false := bne_f hlc
    have HLC := Lib.hid hlc
    clear hlc
    go_wp2_with (go_at_call 59; refine (l1In_any n 0 10 _).mono ?_; rintro e w1 ⟨rfl, rfl⟩; rw [hn])
    generalize (w.alloc (.cells #[.int .i64 n, .slice A ls.length c] 27)) = W at HBW ⊢
    clear HR0 hne
    go_loopw [25] (fun i wr => ∃ (k : Nat), k ≤ ls.length ∧ i = .int .i64 k ∧ Hid (Below w.heap.size w wr) ∧ Hid (CellsTo (sayL ls) k)) (fun i _ => ls.length - (intOf i).toNat)
    case atStart => exact ⟨0, by omega, rfl, HBW.out, fun j x h => absurd h (by omega)⟩
    case round =>
      obtain ⟨k, hk, rfl, HB, H⟩ := hrel
      have hws := HB.out.size
      by_cases hlt : k < ls.length
      · obtain ⟨b, o, eA, hb, c1, c2, c3⟩ := (HX.out.keep HB.out).at_ hlt
        have HS := Lib.hid (sayL_at hlt)
        have HI := Lib.hid (c3.more hws)
        have hul := HU.out ls[k] (List.getElem_mem hlt)
        subst eA
        clear c2 c3
        generalize ls[k] = u at c1 HS HI hul
        obtain ⟨ua, ur, uc⟩ := u
        dsimp only at c1 HS HI hul
        have HC := Lib.hid (l1Rising_any ua ur uc 40 wr HI.out hul)
        go_wp2_with fail
        refine HC.out.mono ?_
        rintro e w3 ⟨rfl, hB3⟩
        have HB3 := Lib.hid (HB.out.trans (hB3.mono hws))
        clear hB3 HC c1
        cases hg : bP (GoodE 40 ur)
        · have HE : Hid (bP (GoodC n (sayL ls)) = false) := bP_f fun h => bP_no hg (h.2.2 _ (List.mem_of_getElem? HS.out))
          go_wp2
          go_ret
          exact ⟨ret_b HE.out.symm, HB3.out⟩
        · have HN : Hid (CellsTo (sayL ls) (k + 1)) := upto_next (Q := fun x : List Int => GoodE 40 x) HS.out (bP_is hg) H.out
          go_wp2
          go_roundw
          case rel => exact ⟨k + 1, by omega, by go_num, HB3.out, HN.out⟩
          case measure => simp [intOf]; omega
      · have HE : Hid (bP (GoodC n (sayL ls)) = true) := bP_t ⟨⟨hn0, hn1⟩, by rw [sayL_len, HLC.out]; exact hc2.out, CellsTo.all fun j l h1 h2 => H.out j l (by rw [sayL_len] at h1; omega) h2⟩
        go_wp2
        go_ret
        exact ⟨ret_b HE.out.symm, HB.out⟩
  · have hne : ((ls.length : Int) != cntC n) = true := bne_t hlc
    have HE : Hid (bP (GoodC n (sayL ls)) = false) := bP_f fun h => hlc (by have h1 := h.2.1; rw [sayL_len] at h1; have := hc2.out; omega)
    clear hlc
    go_wp2_with (go_at_call 59; refine (l1In_any n 0 10 _).mono ?_; rintro e w1 ⟨rfl, rfl⟩; rw [hn])
    go_ret
    exact ⟨ret_b HE.out.symm, HBW.out⟩

set_option maxRecDepth 20000 in
theorem l7Empty_any (n : Int) (w : World) (hn0 : 0 ≤ n) (hn1 : n ≤ 10) :
    Calls Tryd.prog 60 #[.int .i64 n] w fun e w' => ∃ m : Nat, (m : Int) = cntC n ∧ e = .returned (.agg #[.int .i64 n, .slice (some ⟨w.heap.size + 1, 0, none⟩) m m]) ∧ Row w' (w.heap.size + 1) 37 (zL m) ∧ Below w.heap.size w w' := by
  have hcb := cntC_bound hn0 hn1
  have hq : IntKind.i64.wrap (n * (n + 1)) = n * (n + 1) ∧ IntKind.i64.wrap (n + 1) = n + 1 := by
    rcases n11 hn0 hn1 with rfl | rfl | rfl | rfl | rfl | rfl | rfl | rfl | rfl | rfl | rfl <;> decide
  have hq2 : Int.tdiv (n * (n + 1)) 2 = cntC n := by
    rcases n11 hn0 hn1 with rfl | rfl | rfl | rfl | rfl | rfl | rfl | rfl | rfl | rfl | rfl <;> decide
  obtain ⟨hq0, hq1⟩ := hq
  obtain ⟨m, hm⟩ := Int.eq_ofNat_of_zero_le hcb.1
  have hmk := make_lists m (by omega)
  have HM := Lib.hid hm
  rw [hm] at hq2
  have hm55 : m ≤ 55 := by omega
  clear hm hcb
  go_enter Tryd.func60, Tryd.ntmps60
  go_wp2
  have HR : Hid (Row ((w.alloc (.cells #[.int .i64 n, .slice (some ⟨w.heap.size + 1, 0, none⟩) m m] 27)).alloc (.cells (zL m) 37)) (w.heap.size + 1) 37 (zL m)) := by
    have h := Row.new (w.alloc (.cells #[.int .i64 n, .slice (some ⟨w.heap.size + 1, 0, none⟩) m m] 27)) 37 (zL m)
    rw [World.size_alloc] at h; exact h
  refine bodyPost_ret (v := .agg #[.int .i64 n, .slice (some ⟨w.heap.size + 1, 0, none⟩) m m]) (by simp [results, Tryd.results60, go_sem]) rfl ⟨m, HM.out.symm, rfl, HR.out, ?_⟩
  go_grown

set_option maxHeartbeats 1000000 in
theorem specEmptyChart_any (n : Int) (w : World) :
    Calls Tryd.prog 16 #[.int .i64 n] w (GaveCB w (emN n) (emC n) (inB 0 10 n)) := by
  have HB0 : Hid (Below w.heap.size w (w.alloc (.cells #[.int .i64 0, .slice none 0 0] 27))) := by show Below _ _ _; go_grown
  have HR0 : Hid (Row (w.alloc (.cells #[.int .i64 0, .slice none 0 0] 27)) w.heap.size 27 #[.int .i64 0, .slice none 0 0]) := Row.new _ _ _
  go_enter Tryd.func16, Tryd.ntmps16
  go_wp2_with fail
  generalize (w.alloc (.cells #[.int .i64 0, .slice none 0 0] 27)) = W at HB0 HR0 ⊢
  refine (l1In_any n 0 10 W).mono ?_
  rintro e w1 ⟨rfl, rfl⟩
  have HR1 := HR0
  have HB1 := HB0
  clear HR0 HB0
  cases hn : inB 0 10 n
  · have HV : Hid (emN n = 0 ∧ emC n = []) := by show _ ∧ _; unfold emN emC; rw [hn]; exact ⟨rfl, rfl⟩
    have d0 := HR1.out.cell 0
    have d1 := HR1.out.cell 1
    have g0 := HR1.out.frozen 0
    have g1 := HR1.out.frozen 1
    simp only [List.getElem?_toArray, List.getElem?_cons_succ, List.getElem?_cons_zero] at d0 d1
    go_wp2
    refine bodyPost_ret (v := .tuple #[.agg #[.int .i64 0, .slice none 0 0], .bool false]) (by simp [results, Tryd.results16, go_sem, d0, d1]) rfl ⟨none, [], 0, by rw [HV.out.1, hn]; rfl, by rw [HV.out.2]; rfl, .inl rfl, Nat.le_refl _, ?_⟩
    exact (HB1.out.setCell (by simp) _).setCell (by simp) _
  · have hn0 := inB_lo hn
    have hn1 := inB_hi hn
    have HV : Hid (emN n = n ∧ emC n = emptyC n) := by show _ ∧ _; unfold emN emC; rw [hn]; exact ⟨rfl, rfl⟩
    go_wp2_with fail
    refine (l7Empty_any n W hn0 hn1).mono ?_
    rintro e w2 ⟨m, hm, rfl, hR2, hB2⟩
    have HR3 := Lib.hid (HR1.out.below hB2 HR1.out.lt)
    have HB2 := Lib.hid (HB1.out.trans (hB2.mono HB1.out.size)); clear hB2
    have HO2 := Lib.hid hR2; clear hR2
    have hs1 := HB1.out.size
    have hlt := HR1.out.lt
    have d0 := HR3.out.cell 0
    have d1 := HR3.out.cell 1
    have g0 := HR3.out.frozen 0
    have g1 := HR3.out.frozen 1
    simp only [List.getElem?_toArray, List.getElem?_cons_succ, List.getElem?_cons_zero] at d0 d1
    go_wp2
    refine bodyPost_ret (v := .tuple #[.agg #[.int .i64 n, .slice (some ⟨W.heap.size + 1, 0, none⟩) m m], .bool true]) (by simp [results, Tryd.results16, go_sem, d0, d1]) rfl ⟨_, emptyL m, m, by rw [HV.out.1, emptyL_len, hn], by rw [HV.out.2, emptyL_say hm], emptyL_own ((HO2.out.far (by simp; omega) _).far (by simp; omega) _) (by omega), Nat.le_of_eq (emptyL_len m), ?_⟩
    exact (HB2.out.setCell (by simp) _).setCell (by simp) _

set_option maxRecDepth 20000 in
set_option maxHeartbeats 1000000 in
theorem specCellAt_any (n f t : Int) (A : Option Addr) (ls : List Li) (c : Nat) (w : World) (hx : Lls w w.heap.size A ls) (h1 : ls.length ≤ 1048576) (h2 : ∀ u ∈ ls, u.r.length ≤ 1048576) :
    Calls Tryd.prog 23 #[.agg #[.int .i64 n, .slice A ls.length c], .int .i64 f, .int .i64 t] w (GaveIB w (atV n (sayL ls) f t) (okA n (sayL ls) f t)) := by
  have HX := Lib.hid hx; clear hx
  have HU := Lib.hid h2; clear h2
  have HB0 : Hid (Below w.heap.size w (w.alloc (.cells #[.int .i64 n, .slice A ls.length c] 27))) := by show Below _ _ _; go_grown
  have HR0 : Hid (Row (w.alloc (.cells #[.int .i64 n, .slice A ls.length c] 27)) w.heap.size 27 #[.int .i64 n, .slice A ls.length c]) := Row.new _ _ _
  go_enter Tryd.func23, Tryd.ntmps23
  go_wp2_with fail
  generalize (w.alloc (.cells #[.int .i64 n, .slice A ls.length c] 27)) = W at HB0 HR0 ⊢
  refine (l7Good_any n A ls c W ((HX.out.keep HB0.out).more HB0.out.size) h1 HU.out).mono ?_
  rintro e w1 ⟨rfl, hB1⟩
  have HR1 := Lib.hid (HR0.out.below hB1 HR0.out.lt)
  have HB1 := Lib.hid (HB0.out.trans (hB1.mono HB0.out.size)); clear hB1 HB0 HR0
  have d0 := HR1.out.cell 0
  simp only [List.getElem?_toArray, List.getElem?_cons_zero] at d0
  cases hg : bP (GoodC n (sayL ls))
  · have HV : Hid (okA n (sayL ls) f t = false) := by show _ = _; unfold okA; rw [hg]; rfl
    have HV2 : Hid (atV n (sayL ls) f t = []) := by show _ = _; unfold atV; rw [HV.out]; rfl
    clear hg
    go_wp2
    go_ret2
    exact ⟨none, 0, by rw [HV.out, HV2.out]; rfl, by rw [HV2.out]; exact .inl rfl, HB1.out⟩
  have HG : Hid (GoodC n (sayL ls)) := bP_is hg
  go_wp2_with fail
  refine (l7Span_any n f t w1).mono ?_
  rintro e w2 ⟨rfl, rfl⟩
  have HR2 := HR1
  have HB2 := HB1
  clear HR1 HB1 d0
  cases hs : spanB n f t
  · have HV : Hid (okA n (sayL ls) f t = false) := by show _ = _; unfold okA; rw [hg, hs]; rfl
    have HV2 : Hid (atV n (sayL ls) f t = []) := by show _ = _; unfold atV; rw [HV.out]; rfl
    clear hg hs
    go_wp2
    go_ret2
    exact ⟨none, 0, by rw [HV.out, HV2.out]; rfl, by rw [HV2.out]; exact .inl rfl, HB2.out⟩
  have HV : Hid (okA n (sayL ls) f t = true) := by show _ = _; unfold okA; rw [hg, hs]; rfl
  have HV2 : Hid (atV n (sayL ls) f t = atC (sayL ls) n f t) := by show _ = _; unfold atV; rw [HV.out]; rfl
  have hs2 := HB2.out.size
  obtain ⟨k, b, o, a, cc, hk, hkl, eA, hb, c1, c2, c3⟩ := cell_at ((HX.out.keep HB2.out).more hs2) HG.out hs
  have hul : (atC (sayL ls) n f t).length ≤ 1048576 := by rw [atC_at hkl hk]; exact HU.out _ (List.getElem_mem hkl)
  have HI := Lib.hid c3
  generalize atC (sayL ls) n f t = xs at HV2 c1 c2 HI hul
  subst eA
  have HNO := Lib.hid (fun w => l7No_any n f t w hs)
  rw [hk] at HNO
  have d0 := HR2.out.cell 0
  have d1 := HR2.out.cell 1
  simp only [List.getElem?_toArray, List.getElem?_cons_succ, List.getElem?_cons_zero] at d0 d1
  clear hg hs c3 c2
  go_wp2_with fail
  go_region_law (first
    | (go_simp
       go_at_call 66
       refine (HNO.out _).mono ?_
       rintro e w3 ⟨rfl, rfl⟩)
    | (go_simp
       go_at_call 72
       refine (l1Own_any a xs cc _ ?_ hul).mono ?_
       · exact (HI.out.keep (by go_grown)).more (by simp)
       rintro e w4 ⟨A4, c4, rfl, hO4, hB4⟩
       have HO4 := Lib.hid hO4
       have HB4 : Hid (Below w2.heap.size w2 w4) := Below.trans (by go_grown) hB4
       clear hO4 hB4))
  all_goals
    go_wp2
    go_ret2
    exact ⟨A4, c4, by rw [HV.out, HV2.out]; rfl, by rw [HV2.out]; exact HO4.out.lower hs2, HB2.out.trans (HB4.out.mono hs2)⟩

end Go.Proofs.YtaobkanliiiapaaDoor
