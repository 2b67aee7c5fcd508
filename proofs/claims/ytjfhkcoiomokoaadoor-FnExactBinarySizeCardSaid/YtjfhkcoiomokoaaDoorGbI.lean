/- What the program's checks of lists answer: slices.Compare, isRising, allLong, goodLists, goodEmpty. -/
import Derived.Test.YtjfhkcoiomokoaaDoorLGood
import Derived.Test.YtjfhkcoiomokoaaDoorImplGood3
namespace Go.Proofs.YtjfhkcoiomokoaaDoor
open Go.RowKit

/-- Two numbers compared. -/
def cmpI (x y : Int) : Int := if x < y then -1 else if y < x then 1 else 0

theorem cmpI_lt {x y : Int} : cmpI x y < 0 ↔ x < y := by
  unfold cmpI
  split
  · simp_all
  · split <;> simp_all

set_option maxHeartbeats 400000 in
theorem isNaN_any (x : Int) (w : World) : Calls Tryd.prog 133 #[.int .i64 x] w fun e w' => e = .returned (.bool false) ∧ w' = w := by
  have hd : (x != x) = false := by simp
  go_enter Tryd.func133, Tryd.ntmps133
  go_wp2
  go_ret
  exact ⟨rfl, rfl⟩

set_option maxHeartbeats 400000 in
theorem compareI_any (x y : Int) (w : World) : Calls Tryd.prog 104 #[.int .i64 x, .int .i64 y] w fun e w' => e = .returned (.int .i64 (cmpI x y)) ∧ w' = w := by
  rcases Int.lt_trichotomy x y with h | h | h
  · have HE : Hid (cmpI x y = -1) := by show _ = _; unfold cmpI; rw [if_pos h]
    go_enter Tryd.func104, Tryd.ntmps104
    go_wp2_with (go_at_call 133; refine (isNaN_any _ _).mono ?_; rintro e w' ⟨rfl, rfl⟩)
    go_ret
    exact ⟨by rw [HE.out]; rfl, rfl⟩
  · have HE : Hid (cmpI x y = 0) := by show _ = _; unfold cmpI; rw [if_neg (by omega), if_neg (by omega)]
    have h1 : ¬ x < y := by omega
    have h2 : ¬ y < x := by omega
    clear h
    go_enter Tryd.func104, Tryd.ntmps104
    go_wp2_with (go_at_call 133; refine (isNaN_any _ _).mono ?_; rintro e w' ⟨rfl, rfl⟩)
    go_ret
    exact ⟨by rw [HE.out]; rfl, rfl⟩
  · have HE : Hid (cmpI x y = 1) := by show _ = _; unfold cmpI; rw [if_neg (by omega), if_pos h]
    have h1 : ¬ x < y := by omega
    go_enter Tryd.func104, Tryd.ntmps104
    go_wp2_with (go_at_call 133; refine (isNaN_any _ _).mono ?_; rintro e w' ⟨rfl, rfl⟩)
    go_ret
    exact ⟨by rw [HE.out]; rfl, rfl⟩

set_option maxHeartbeats 400000 in
theorem compareL_any (A A' : Option Addr) (xs ys : List Int) (c c' : Nat) (w : World) (hx : Ints w w.heap.size A xs) (hy : Ints w w.heap.size A' ys) (h1 : xs.length ≤ 1048576) :
    Calls Tryd.prog 63 #[.slice A xs.length c, .slice A' ys.length c'] w fun e w' => e = .returned (.int .i64 (cmpL xs ys)) ∧ w' = w := by
  have HX := Lib.hid hx; clear hx
  have HY := Lib.hid hy; clear hy
  go_enter Tryd.func63, Tryd.ntmps63
  go_wp2
  go_loopw [11] (fun i wr => ∃ (k : Nat), k ≤ xs.length ∧ i = .int .i64 k ∧ wr = w ∧ Hid (cmpL xs ys = cmpL (xs.drop k) (ys.drop k))) (fun i _ => xs.length - (intOf i).toNat)
  case atStart => exact ⟨0, by omega, rfl, rfl, rfl⟩
  case round =>
    obtain ⟨k, hk, rfl, rfl, H⟩ := hrel
    by_cases hlt : k < xs.length
    · obtain ⟨b, o, rfl, hb, c1⟩ := HX.out.at_ hlt
      by_cases hlt' : k < ys.length
      · obtain ⟨b', o', rfl, hb', c2⟩ := HY.out.at_ hlt'
        by_cases hne : cmpI xs[k] ys[k] = 0
        · have hd : (cmpI xs[k] ys[k] != 0) = false := bne_f hne
          have HN : Hid (cmpL xs ys = cmpL (xs.drop (k + 1)) (ys.drop (k + 1))) := by
            show _ = _
            rw [H.out, cmpL_drop hlt hlt']
            unfold cmpI at hne
            split at hne
            · cases hne
            · split at hne
              · cases hne
              · rename_i g1 g2; rw [if_neg g1, if_neg g2]
          clear hne
          go_wp2_with (go_at_call 104; refine (compareI_any _ _ _).mono ?_; rintro e w' ⟨rfl, rfl⟩)
          go_roundw
          case rel => exact ⟨k + 1, by omega, by go_num, trivial, HN.out⟩
          case measure => simp [intOf]; omega
        · have hd : (cmpI xs[k] ys[k] != 0) = true := bne_t hne
          have HN : Hid (cmpL xs ys = cmpI xs[k] ys[k]) := by
            show _ = _
            rw [H.out, cmpL_drop hlt hlt']
            unfold cmpI at hne ⊢
            split
            · rfl
            · split
              · rfl
              · rename_i g1 g2; rw [if_neg g1, if_neg g2] at hne; exact absurd rfl hne
          clear hne
          go_wp2_with (go_at_call 104; refine (compareI_any _ _ _).mono ?_; rintro e w' ⟨rfl, rfl⟩)
          go_ret
          exact ⟨by rw [HN.out]; rfl, rfl⟩
      · have HN : Hid (cmpL xs ys = 1) := H.out.trans (cmpL_left hlt hlt')
        go_wp2
        go_ret
        exact ⟨by rw [HN.out]; rfl, rfl⟩
    · by_cases hl : xs.length < ys.length
      · have HN : Hid (cmpL xs ys = -1) := H.out.trans (cmpL_right hlt (by omega))
        go_wp2
        go_ret
        exact ⟨by rw [HN.out]; rfl, rfl⟩
      · by_cases hl2 : k < ys.length
        · omega
        have HN : Hid (cmpL xs ys = 0) := H.out.trans (cmpL_end hlt hl2)
        go_wp2
        go_ret
        exact ⟨by rw [HN.out]; rfl, rfl⟩

set_option maxRecDepth 100000 in
theorem cmpF_enter (xs : Array Value) (v : World) : Sem.run Tryd.prog (callFunc 63 xs) v = .ok (.enter 63 xs) v := rfl
set_option maxRecDepth 100000 in
theorem cmpI_enter (xs : Array Value) (v : World) : Sem.run Tryd.prog (callFunc 104 xs) v = .ok (.enter 104 xs) v := rfl

set_option maxRecDepth 20000 in
set_option maxHeartbeats 400000 in
theorem isRisingL_any (A : Option Addr) (ls : List Li) (c : Nat) (w : World) (hx : Lls w w.heap.size A ls) (h1 : ls.length ≤ 1048576) (h2 : ∀ u ∈ ls, u.r.length ≤ 1048576) :
    Calls Tryd.prog 109 #[.slice A ls.length c, .func (.func 63) #[] #[]] w fun e w' => e = .returned (.bool (bP (RiseTo (sayL ls) ls.length))) ∧ Below w.heap.size w w' := by
  have HX := Lib.hid hx; clear hx
  have H2 := Lib.hid h2; clear h2
  have HCF := cmpF_enter
  go_enter Tryd.func109, Tryd.ntmps109
  go_wp2
  go_loopw [5] (fun i wr => ∃ (j : Nat), i = .int .i64 ((j + 1 : Nat) : Int) ∧ j ≤ ls.length ∧ Below w.heap.size w wr ∧ Hid (RiseTo (sayL ls) (j + 1))) (fun i _ => ls.length + 1 - (intOf i).toNat)
  case atStart => exact ⟨0, rfl, by omega, Below.refl _ _, RiseTo.none _⟩
  case round =>
    obtain ⟨k, rfl, hk, hB, H⟩ := hrel
    by_cases hlt' : k + 1 < ls.length
    · have hlt : k < ls.length := by omega
      obtain ⟨b, o, rfl, hb, c1, _, c3⟩ := (HX.out.keep hB).at_ hlt
      obtain ⟨b', o', e', hb', d1, _, d3⟩ := (HX.out.keep hB).at_ hlt'
      injection e' with e'
      injection e' with e1 e2
      subst e1 e2
      have C3 := Lib.hid (c3.more hB.size); clear c3
      have D3 := Lib.hid (d3.more hB.size); clear d3
      have hlen2 := H2.out ls[k] (List.getElem_mem hlt)
      by_cases hq : cmpL ls[k].r ls[k + 1].r < 0
      all_goals
        have HQ := Lib.hid hq
        have hwk : IntKind.i64.wrap (k : Int) = (k : Int) := by rw [IntKind.wrap_i64]; omega
        have hI1 : (k : Int) + 1 < (ls.length : Int) := by omega
        have hI0 : (0 : Int) ≤ (k : Int) + 1 := by omega
        have hT : ((k : Int) + 1).toNat = k + 1 := by omega
        go_wp2
        go_still_tail 10, (by kernel_rfl)
        change wpList _ _ _ _ _ wr.drew
        go_wp2_with fail
        refine (compareL_any _ _ _ _ _ _ _ ?_ ?_ hlen2).mono ?_
        · exact C3.out.keep (by go_grown)
        · exact D3.out.keep (by go_grown)
        rintro e w1 ⟨rfl, rfl⟩
        have hB2 : Below w.heap.size w wr.drew := hB.trans (Below.trans (by go_grown) (Below.refl _ _))
      · have HN : Hid (RiseTo (sayL ls) (k + 1 + 1)) := H.out.step (sayL_at hlt) (sayL_at hlt') HQ.out
        go_wp2
        go_roundw
        case rel => exact ⟨k + 1, by go_num, by omega, hB2, HN.out⟩
        case measure => simp [intOf]; omega
      · have HE : Hid (bP (RiseTo (sayL ls) ls.length) = false) := bP_f fun h => by have h1 := h k _ _ hlt' (sayL_at hlt) (sayL_at hlt'); have h2 := HQ.out; omega
        go_wp2
        go_ret
        exact ⟨ret_b HE.out.symm, hB2⟩
    · have HE : Hid (bP (RiseTo (sayL ls) ls.length) = true) := bP_t (H.out.mono (by omega))
      go_wp2
      go_ret
      exact ⟨ret_b HE.out.symm, hB⟩

set_option maxRecDepth 20000 in
set_option maxHeartbeats 400000 in
theorem isRisingI_any (A : Option Addr) (xs : List Int) (c : Nat) (w : World) (hx : Ints w w.heap.size A xs) (h1 : xs.length ≤ 1048576) :
    Calls Tryd.prog 110 #[.slice A xs.length c, .func (.func 104) #[] #[]] w fun e w' => e = .returned (.bool (bP (RiseI xs xs.length))) ∧ Below w.heap.size w w' := by
  have HX := Lib.hid hx; clear hx
  have HCF := cmpI_enter
  go_enter Tryd.func110, Tryd.ntmps110
  go_wp2
  go_loopw [5] (fun i wr => ∃ (j : Nat), i = .int .i64 ((j + 1 : Nat) : Int) ∧ j ≤ xs.length ∧ Below w.heap.size w wr ∧ Hid (RiseI xs (j + 1))) (fun i _ => xs.length + 1 - (intOf i).toNat)
  case atStart => exact ⟨0, rfl, by omega, Below.refl _ _, RiseI.none _⟩
  case round =>
    obtain ⟨k, rfl, hk, hB, H⟩ := hrel
    by_cases hlt' : k + 1 < xs.length
    · have hlt : k < xs.length := by omega
      obtain ⟨b, o, rfl, hb, c1⟩ := (HX.out.keep hB).at_ hlt
      obtain ⟨b', o', e', hb', d1⟩ := (HX.out.keep hB).at_ hlt'
      injection e' with e'
      injection e' with e1 e2
      subst e1 e2
      by_cases hq : cmpI xs[k] xs[k + 1] < 0
      all_goals
        have HQ := Lib.hid hq
        have hwk : IntKind.i64.wrap (k : Int) = (k : Int) := by rw [IntKind.wrap_i64]; omega
        have hI1 : (k : Int) + 1 < (xs.length : Int) := by omega
        have hI0 : (0 : Int) ≤ (k : Int) + 1 := by omega
        have hT : ((k : Int) + 1).toNat = k + 1 := by omega
        go_wp2
        go_still_tail 10, (by kernel_rfl)
        change wpList _ _ _ _ _ wr.drew
        go_wp2_with fail
        refine (compareI_any _ _ _).mono ?_
        rintro e w1 ⟨rfl, rfl⟩
        have hB2 : Below w.heap.size w wr.drew := hB.trans (Below.trans (by go_grown) (Below.refl _ _))
      · have HN : Hid (RiseI xs (k + 1 + 1)) := H.out.step (List.getElem?_eq_getElem hlt) (List.getElem?_eq_getElem hlt') (cmpI_lt.1 HQ.out)
        go_wp2
        go_roundw
        case rel => exact ⟨k + 1, by go_num, by omega, hB2, HN.out⟩
        case measure => simp [intOf]; omega
      · have HE : Hid (bP (RiseI xs xs.length) = false) := bP_f fun h => by have h1 := cmpI_lt.2 (h k _ _ hlt' (List.getElem?_eq_getElem hlt) (List.getElem?_eq_getElem hlt')); have h2 := HQ.out; omega
        go_wp2
        go_ret
        exact ⟨ret_b HE.out.symm, hB2⟩
    · have HE : Hid (bP (RiseI xs xs.length) = true) := bP_t (H.out.mono (by omega))
      go_wp2
      go_ret
      exact ⟨ret_b HE.out.symm, hB⟩

set_option maxHeartbeats 400000 in
theorem allLong_any (A : Option Addr) (ls : List Li) (c : Nat) (long : Int) (w : World) (hx : Lls w w.heap.size A ls) (h1 : ls.length ≤ 1048576) :
    Calls Tryd.prog 74 #[.slice A ls.length c, .int .i64 long] w fun e w' => e = .returned (.bool (bP (LongTo long (sayL ls) ls.length))) ∧ w' = w := by
  have HX := Lib.hid hx; clear hx
  go_enter Tryd.func74, Tryd.ntmps74
  go_wp2
  go_loopw [9] (fun i wr => ∃ (k : Nat), k ≤ ls.length ∧ i = .int .i64 k ∧ wr = w ∧ Hid (LongTo long (sayL ls) k)) (fun i _ => ls.length - (intOf i).toNat)
  case atStart => exact ⟨0, by omega, rfl, rfl, fun j x h => absurd h (by omega)⟩
  case round =>
    obtain ⟨k, hk, rfl, rfl, H⟩ := hrel
    by_cases hlt : k < ls.length
    · obtain ⟨b, o, rfl, hb, c1, c2, c3⟩ := HX.out.at_ hlt
      clear c2 c3
      by_cases hne : (ls[k].r.length : Int) = long
      · have hd : ((ls[k].r.length : Int) != long) = false := bne_f hne
        have HN : Hid (LongTo long (sayL ls) (k + 1)) := upto_next (Q := fun x : List Int => (x.length : Int) = long) (sayL_at hlt) hne H.out
        clear hne
        go_wp2
        go_roundw
        case rel => exact ⟨k + 1, by omega, by go_num, trivial, HN.out⟩
        case measure => simp [intOf]; omega
      · have hd : ((ls[k].r.length : Int) != long) = true := bne_t hne
        have HN : Hid (bP (LongTo long (sayL ls) ls.length) = false) := bP_f fun h => hne (h k _ hlt (sayL_at hlt))
        clear hne
        go_wp2
        go_ret
        exact ⟨ret_b HN.out.symm, rfl⟩
    · have HN : Hid (bP (LongTo long (sayL ls) ls.length) = true) := bP_t (fun j x _ hx => H.out j x (by have := (List.getElem?_eq_some_iff.1 hx).1; rw [sayL_len] at this; omega) hx)
      go_wp2
      go_ret
      exact ⟨ret_b HN.out.symm, rfl⟩

end Go.Proofs.YtjfhkcoiomokoaaDoor
