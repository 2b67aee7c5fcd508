/- What the reference's checks of a binary grammar answer: l5Less, l5Symbol, l5Rising, l1Rising, GoodBinary. -/
import Derived.Test.YtjfhkcoiomokoaaDoorGbI3
import Derived.Test.YtjfhkcoiomokoaaDoorSpecGood
namespace Go.Proofs.YtjfhkcoiomokoaaDoor
open Go.RowKit
open Go.Sort (grow)

set_option maxHeartbeats 400000 in
theorem l5Symbol_any (b : Bi) (x : Int) (w : World) (hn : 1 ≤ b.n) (hn' : b.n ≤ 40) (ht : 1 ≤ b.t) (ht' : b.t ≤ 4) :
    Calls Tryd.prog 107 #[(.agg #[.int .i64 b.n, .int .i64 b.t, .slice b.Ap b.P.length b.cp, .slice b.Ao b.O.length b.co, .slice b.Ae b.E.length b.ce, .slice b.Af b.F.length b.cf]), .int .i64 x] w fun e w' => e = .returned (.bool (symB b.n b.t x)) ∧ Below w.heap.size w w' := by
  have HS := Lib.hid (sym_in (x := x) hn ht)
  go_enter Tryd.func107, Tryd.ntmps107
  go_wp2_with fail
  refine (l1In_any _ _ _ _).mono ?_
  rintro e w1 ⟨rfl, rfl⟩
  go_wp2
  go_ret
  exact ⟨ret_b HS.out, by go_grown⟩

set_option maxHeartbeats 400000 in
theorem l5Less_any (A A' : Option Addr) (xs ys : List Int) (c c' : Nat) (w : World) (hx : Ints w w.heap.size A xs) (hy : Ints w w.heap.size A' ys) (h1 : xs.length ≤ 1048576) (hl1 : xs.length ≤ ys.length) (hl2 : ys.length ≤ xs.length) :
    Calls Tryd.prog 106 #[.slice A xs.length c, .slice A' ys.length c'] w fun e w' => e = .returned (.bool (bP (cmpL xs ys < 0))) ∧ Below w.heap.size w w' := by
  have HX := Lib.hid hx; clear hx
  have HY := Lib.hid hy; clear hy
  go_enter Tryd.func106, Tryd.ntmps106
  go_wp2
  go_loopw [8] (fun i wr => ∃ (k : Nat), k ≤ xs.length ∧ i = .int .i64 k ∧ Below w.heap.size w wr ∧ Hid (cmpL xs ys = cmpL (xs.drop k) (ys.drop k))) (fun i _ => xs.length - (intOf i).toNat)
  case atStart => exact ⟨0, by omega, rfl, Below.refl _ _, rfl⟩
  case round =>
    obtain ⟨k, hk, rfl, hB, H⟩ := hrel
    by_cases hlt : k < xs.length
    · have hlt' : k < ys.length := by omega
      obtain ⟨b, o, rfl, hb, c1⟩ := (HX.out.keep hB).at_ hlt
      obtain ⟨b', o', rfl, hb', c2⟩ := (HY.out.keep hB).at_ hlt'
      have HD := Lib.hid (cmpL_drop hlt hlt')
      rcases Int.lt_trichotomy xs[k] ys[k] with h | h | h
      · have HN : Hid (bP (cmpL xs ys < 0) = true) := bP_t (by rw [H.out, HD.out, if_pos h]; omega)
        have ht : (xs[k] != ys[k]) = true := bne_t (by omega)
        go_wp2
        go_quiet (fail)
        go_wp2
        go_quiet (fail)
        go_wp2
        go_ret
        exact ⟨ret_b HN.out.symm, below_drewN (below_drewN hB _) _⟩
      · have HN : Hid (cmpL xs ys = cmpL (xs.drop (k + 1)) (ys.drop (k + 1))) := by
          show _ = _
          rw [H.out, HD.out, if_neg (by omega), if_neg (by omega)]
        have ht : (xs[k] != ys[k]) = false := bne_f h
        clear h
        go_wp2
        go_quiet (fail)
        go_wp2
        go_roundw
        case rel => exact ⟨k + 1, by omega, by go_num, below_drewN hB _, HN.out⟩
        case measure => simp [intOf]; omega
      · have HN : Hid (bP (cmpL xs ys < 0) = false) := bP_f (by rw [H.out, HD.out, if_neg (by omega), if_pos h]; omega)
        have ht : (xs[k] != ys[k]) = true := bne_t (by omega)
        have hlt2 : ¬ xs[k] < ys[k] := by omega
        have HD2 : Hid (decide (xs[k] < ys[k]) = bP (cmpL xs ys < 0)) := (decide_eq_false hlt2).trans HN.out.symm
        clear h
        go_wp2
        go_quiet (fail)
        go_wp2
        go_quiet (fail)
        go_wp2
        go_ret
        exact ⟨ret_b HD2.out, below_drewN (below_drewN hB _) _⟩
    · have HN : Hid (bP (cmpL xs ys < 0) = false) := bP_f (by rw [H.out, cmpL_end hlt (by omega)]; omega)
      go_wp2
      go_ret
      exact ⟨ret_b HN.out.symm, hB⟩

set_option maxRecDepth 20000 in
set_option maxHeartbeats 400000 in
theorem l1Rising_any (A : Option Addr) (xs : List Int) (c : Nat) (n : Int) (w : World) (hx : Ints w w.heap.size A xs) (h1 : xs.length ≤ 1048576) :
    Calls Tryd.prog 68 #[.slice A xs.length c, .int .i64 0, .int .i64 (n - 1)] w fun e w' => e = .returned (.bool (bP (GoodE n xs))) ∧ Below w.heap.size w w' := by
  have HX := Lib.hid hx; clear hx
  go_enter Tryd.func68, Tryd.ntmps68
  go_wp2
  go_loopw [11] (fun i wr => ∃ (k : Nat), k ≤ xs.length ∧ i = .int .i64 k ∧ Below w.heap.size w wr ∧ Hid (NonTo n xs k ∧ RiseI xs k)) (fun i _ => xs.length - (intOf i).toNat)
  case atStart => exact ⟨0, by omega, rfl, Below.refl _ _, fun j x h => absurd h (by omega), RiseI.zero _⟩
  case round =>
    obtain ⟨k, hk, rfl, hB, H⟩ := hrel
    by_cases hlt : k < xs.length
    · obtain ⟨b, o, rfl, hb, c1⟩ := (HX.out.keep hB).at_ hlt
      cases hu : nonB n xs[k]
      · have HU := Lib.hid hu; clear hu
        have HE : Hid (bP (GoodE n xs) = false) := bP_f fun h => by
          have := h.1 k _ hlt (List.getElem?_eq_getElem hlt)
          rw [HU.out] at this; cases this
        go_wp2_with fail
        refine (l1In_any _ _ _ _).mono ?_
        rintro e w' ⟨rfl, rfl⟩
        rw [non_in, HU.out]
        go_wp2
        go_ret
        exact ⟨ret_b HE.out.symm, hB⟩
      · have HU := Lib.hid hu; clear hu
        have HNX : Hid (NonTo n xs (k + 1)) := upto_next (Q := fun x => nonB n x = true) (List.getElem?_eq_getElem hlt) HU.out H.out.1
        rcases k with _ | j
        · simp only [Nat.add_zero] at c1
          go_wp2_with fail
          refine (l1In_any _ _ _ _).mono ?_
          rintro e w' ⟨rfl, rfl⟩
          rw [non_in, HU.out]
          go_wp2
          go_roundw
          case rel => exact ⟨0 + 1, by omega, by go_num, hB, HNX.out, RiseI.none _⟩
          case measure => simp [intOf]; omega
        · have hltj : j < xs.length := by omega
          obtain ⟨b', o', e', hb', d1⟩ := (HX.out.keep hB).at_ hltj
          injection e' with e'
          injection e' with e1 e2
          subst e1 e2
          have hwk : IntKind.i64.wrap (j : Int) = (j : Int) := by rw [IntKind.wrap_i64]; omega
          have hI1 : (j : Int) < (xs.length : Int) := by omega
          have hpos : (0 : Int) < (j : Int) + 1 := by omega
          by_cases hq : xs[j] < xs[j + 1]
          · have HQ := Lib.hid hq
            have HNR : Hid (RiseI xs (j + 1 + 1)) := H.out.2.step (List.getElem?_eq_getElem hltj) (List.getElem?_eq_getElem hlt) hq
            go_wp2_with fail
            refine (l1In_any _ _ _ _).mono ?_
            rintro e w' ⟨rfl, rfl⟩
            rw [non_in, HU.out]
            go_wp2
            go_roundw
            case rel => exact ⟨j + 1 + 1, by omega, by go_num, hB, HNX.out, HNR.out⟩
            case measure => simp [intOf]; omega
          · have HE : Hid (bP (GoodE n xs) = false) := bP_f fun h => hq (h.2 j _ _ hlt (List.getElem?_eq_getElem hltj) (List.getElem?_eq_getElem hlt))
            have hq2 : xs[j + 1] ≤ xs[j] := by omega
            clear hq
            go_wp2_with fail
            refine (l1In_any _ _ _ _).mono ?_
            rintro e w' ⟨rfl, rfl⟩
            rw [non_in, HU.out]
            go_wp2
            go_ret
            exact ⟨ret_b HE.out.symm, hB⟩
    · have HE : Hid (bP (GoodE n xs) = true) := bP_t ⟨upto_end (Q := fun x => nonB n x = true) hlt H.out.1, H.out.2.mono (by omega)⟩
      go_wp2
      go_ret
      exact ⟨ret_b HE.out.symm, hB⟩

end Go.Proofs.YtjfhkcoiomokoaaDoor
