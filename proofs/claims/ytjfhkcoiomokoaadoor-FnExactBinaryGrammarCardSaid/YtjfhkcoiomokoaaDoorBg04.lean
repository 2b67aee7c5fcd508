/- The law of BinaryGrammar holds of every binary grammar that can be read: the call returns true, and the binary grammar reads afterwards as it read before. Conditions: the package's table of limits is as the program's text lays it (tied by the given tie). -/
import Derived.Test.YtjfhkcoiomokoaaDoorBg03
import Derived.Test.YtjfhkcoiomokoaaDoorBg01
import Derived.Test.YtjfhkcoiomokoaaDoorBg02
import Derived.Lib.AppendZerosOnto
import Derived.Lib.AppendZeros
import Derived.Deep.RegionHeld3
import Derived.Test.YtjfhkcoiomokoaaDoorCards

namespace Go.Proofs.YtjfhkcoiomokoaaDoor
open Go.RowKit
open Go.Sort (grow)

set_option maxHeartbeats 400000 in
theorem l5Symbol_any (b : Bi) (x : Int) (w : World) (hn : 1 ≤ b.n) (hn' : b.n ≤ 40) (ht : 1 ≤ b.t) (ht' : b.t ≤ 4) :
    Calls Tryd.prog 107 #[(.agg #[.int .i64 b.n, .int .i64 b.t, .slice b.Ap b.P.length b.cp, .slice b.Ao b.O.length b.co, .slice b.Ae b.E.length b.ce, .slice b.Af b.F.length b.cf]), .int .i64 x] w fun e w' => e = .returned (.bool (symB b.n b.t x)) ∧ Below w.heap.size w w' := by
  have HS := Lib.hid (sym_in (x := x) hn ht)
  go_enter Tryd.func107, Tryd.ntmps107
  go_wp2_with fail
  refine (l1In_any _ _ _ _).mono ?_
  rintro e w1 ⟨rfl, rfl⟩
  go_wp2
  go_ret
  exact ⟨ret_b HS.out, by go_grown⟩

set_option maxHeartbeats 400000 in
theorem l5Less_any (A A' : Option Addr) (xs ys : List Int) (c c' : Nat) (w : World) (hx : Ints w w.heap.size A xs) (hy : Ints w w.heap.size A' ys) (h1 : xs.length ≤ 1048576) (hl1 : xs.length ≤ ys.length) (hl2 : ys.length ≤ xs.length) :
    Calls Tryd.prog 106 #[.slice A xs.length c, .slice A' ys.length c'] w fun e w' => e = .returned (.bool (bP (cmpL xs ys < 0))) ∧ Below w.heap.size w w' := by
  have HX := Lib.hid hx; clear hx
  have HY := Lib.hid hy; clear hy
  go_enter Tryd.func106, Tryd.ntmps106
  go_wp2
  go_loopw [8] (fun i wr => ∃ (k : Nat), k ≤ xs.length ∧ i = .int .i64 k ∧ Below w.heap.size w wr ∧ Hid (cmpL xs ys = cmpL (xs.drop k) (ys.drop k))) (fun i _ => xs.length - (intOf i).toNat)
  case atStart => exact ⟨0, by omega, rfl, Below.refl _ _, rfl⟩
  case round =>
    obtain ⟨k, hk, rfl, hB, H⟩ := hrel
    by_cases hlt : k < xs.length
    · have hlt' : k < ys.length := by omega
      obtain ⟨b, o, rfl, hb, c1⟩ := (HX.out.keep hB).at_ hlt
      obtain ⟨b', o', rfl, hb', c2⟩ := (HY.out.keep hB).at_ hlt'
      have HD := Lib.hid (cmpL_drop hlt hlt')
      rcases Int.lt_trichotomy xs[k] ys[k] with h | h | h
      · have HN : Hid (bP (cmpL xs ys < 0) = true) := bP_t (by rw [H.out, HD.out, if_pos h]; omega)
        have ht : (xs[k] != ys[k]) = true := bne_t (by omega)
        go_wp2
        go_quiet (fail)
        go_wp2
        go_quiet (fail)
        go_wp2
        go_ret
        exact ⟨ret_b HN.out.symm, below_drewN (below_drewN hB _) _⟩
      · have HN : Hid (cmpL xs ys = cmpL (xs.drop (k + 1)) (ys.drop (k + 1))) := by
          show _ = _
          rw [H.out, HD.out, if_neg (by omega), if_neg (by omega)]
        have ht : (xs[k] != ys[k]) = false := bne_f h
        clear h
        go_wp2
        go_quiet (fail)
        go_wp2
        go_roundw
        case rel => exact ⟨k + 1, by omega, by go_num, below_drewN hB _, HN.out⟩
        case measure => simp [intOf]; omega
      · have HN : Hid (bP (cmpL xs ys < 0) = false) := bP_f (by rw [H.out, HD.out, if_neg (by omega), if_pos h]; omega)
        have ht : (xs[k] != ys[k]) = true := bne_t (by omega)
        have hlt2 : ¬ xs[k] < ys[k] := by omega
        have HD2 : Hid (decide (xs[k] < ys[k]) = bP (cmpL xs ys < 0)) := (decide_eq_false hlt2).trans HN.out.symm
        clear h
        go_wp2
        go_quiet (fail)
        go_wp2
        go_quiet (fail)
        go_wp2
        go_ret
        exact ⟨ret_b HD2.out, below_drewN (below_drewN hB _) _⟩
    · have HN : Hid (bP (cmpL xs ys < 0) = false) := bP_f (by rw [H.out, cmpL_end hlt (by omega)]; omega)
      go_wp2
      go_ret
      exact ⟨ret_b HN.out.symm, hB⟩

set_option maxRecDepth 20000 in
set_option maxHeartbeats 400000 in
theorem l1Rising_any (A : Option Addr) (xs : List Int) (c : Nat) (n : Int) (w : World) (hx : Ints w w.heap.size A xs) (h1 : xs.length ≤ 1048576) :
    Calls Tryd.prog 68 #[.slice A xs.length c, .int .i64 0, .int .i64 (n - 1)] w fun e w' => e = .returned (.bool (bP (GoodE n xs))) ∧ Below w.heap.size w w' := by
  have HX := Lib.hid hx; clear hx
  go_enter Tryd.func68, Tryd.ntmps68
  go_wp2
  go_loopw [11] (fun i wr => ∃ (k : Nat), k ≤ xs.length ∧ i = .int .i64 k ∧ Below w.heap.size w wr ∧ Hid (NonTo n xs k ∧ RiseI xs k)) (fun i _ => xs.length - (intOf i).toNat)
  case atStart => exact ⟨0, by omega, rfl, Below.refl _ _, fun j x h => absurd h (by omega), RiseI.zero _⟩
  case round =>
    obtain ⟨k, hk, rfl, hB, H⟩ := hrel
    by_cases hlt : k < xs.length
    · obtain ⟨b, o, rfl, hb, c1⟩ := (HX.out.keep hB).at_ hlt
      cases hu : nonB n xs[k]
      · have HU := Lib.hid hu; clear hu
        have HE : Hid (bP (GoodE n xs) = false) := bP_f fun h => by
          have := h.1 k _ hlt (List.getElem?_eq_getElem hlt)
          rw [HU.out] at this; cases this
        go_wp2_with fail
        refine (l1In_any _ _ _ _).mono ?_
        rintro e w' ⟨rfl, rfl⟩
        rw [non_in, HU.out]
        go_wp2
        go_ret
        exact ⟨ret_b HE.out.symm, hB⟩
      · have HU := Lib.hid hu; clear hu
        have HNX : Hid (NonTo n xs (k + 1)) := upto_next (Q := fun x => nonB n x = true) (List.getElem?_eq_getElem hlt) HU.out H.out.1
        rcases k with _ | j
        · simp only [Nat.add_zero] at c1
          go_wp2_with fail
          refine (l1In_any _ _ _ _).mono ?_
          rintro e w' ⟨rfl, rfl⟩
          rw [non_in, HU.out]
          go_wp2
          go_roundw
          case rel => exact ⟨0 + 1, by omega, by go_num, hB, HNX.out, RiseI.none _⟩
          case measure => simp [intOf]; omega
        · have hltj : j < xs.length := by omega
          obtain ⟨b', o', e', hb', d1⟩ := (HX.out.keep hB).at_ hltj
          injection e' with e'
          injection e' with e1 e2
          subst e1 e2
          have hwk : IntKind.i64.wrap (j : Int) = (j : Int) := by rw [IntKind.wrap_i64]; omega
          have hI1 : (j : Int) < (xs.length : Int) := by omega
          have hpos : (0 : Int) < (j : Int) + 1 := by omega
          by_cases hq : xs[j] < xs[j + 1]
          · have HQ := Lib.hid hq
            have HNR : Hid (RiseI xs (j + 1 + 1)) := H.out.2.step (List.getElem?_eq_getElem hltj) (List.getElem?_eq_getElem hlt) hq
            go_wp2_with fail
            refine (l1In_any _ _ _ _).mono ?_
            rintro e w' ⟨rfl, rfl⟩
            rw [non_in, HU.out]
            go_wp2
            go_roundw
            case rel => exact ⟨j + 1 + 1, by omega, by go_num, hB, HNX.out, HNR.out⟩
            case measure => simp [intOf]; omega
          · have HE : Hid (bP (GoodE n xs) = false) := bP_f fun h => hq (h.2 j _ _ hlt (List.getElem?_eq_getElem hltj) (List.getElem?_eq_getElem hlt))
            have hq2 : xs[j + 1] ≤ xs[j] := by omega
            clear hq
            go_wp2_with fail
            refine (l1In_any _ _ _ _).mono ?_
            rintro e w' ⟨rfl, rfl⟩
            rw [non_in, HU.out]
            go_wp2
            go_ret
            exact ⟨ret_b HE.out.symm, hB⟩
    · have HE : Hid (bP (GoodE n xs) = true) := bP_t ⟨upto_end (Q := fun x => nonB n x = true) hlt H.out.1, H.out.2.mono (by omega)⟩
      go_wp2
      go_ret
      exact ⟨ret_b HE.out.symm, hB⟩

end Go.Proofs.YtjfhkcoiomokoaaDoor

/- What the reference's l5Rising and GoodBinary answer. -/

namespace Go.Proofs.YtjfhkcoiomokoaaDoor
open Go.RowKit
open Go.Sort (grow)

theorem cell0 {w : World} {B : Nat} {A : Option Addr} {xs : List Int} (h : Ints w B A xs) (h0 : 0 < xs.length) : ∃ b o, A = some ⟨b, o, none⟩ ∧ b < B ∧ w.cell? ⟨b, o, none⟩ = some (.int .i64 (xs.getD 0 0)) := by
  obtain ⟨b, o, e, hb, hc⟩ := h.at_ h0
  exact ⟨b, o, e, hb, by rw [getD_zero h0]; exact hc⟩

/-- The first k lists are as they should be. -/
def RisTo (n t long : Int) (xs : List (List Int)) (k : Nat) : Prop := LongTo long xs k ∧ SymTo n t xs k ∧ RiseTo xs k

set_option maxRecDepth 20000 in
set_option maxHeartbeats 1000000 in
theorem l5Rising_any (b : Bi) (long : Nat) (hl2 : 2 ≤ long) (hl3 : long ≤ 3) (A : Option Addr) (ls : List Li) (c : Nat) (w : World) (hn : 1 ≤ b.n) (hn' : b.n ≤ 40) (ht : 1 ≤ b.t) (ht' : b.t ≤ 4) (hx : Lls w w.heap.size A ls) (h1 : ls.length ≤ 1048576) (h2 : ∀ u ∈ ls, u.r.length ≤ 1048576) :
    Calls Tryd.prog 67 #[(.agg #[.int .i64 b.n, .int .i64 b.t, .slice b.Ap b.P.length b.cp, .slice b.Ao b.O.length b.co, .slice b.Ae b.E.length b.ce, .slice b.Af b.F.length b.cf]), .slice A ls.length c, .int .i64 long] w fun e w' => e = .returned (.bool (bP (GoodLs b.n b.t long (sayL ls)))) ∧ Below w.heap.size w w' := by
  have HX := Lib.hid hx; clear hx
  have H2 := Lib.hid h2; clear h2
  have HLN : Hid ((sayL ls).length = ls.length) := sayL_len
  have hB0 : Below w.heap.size w (w.alloc (.cells #[.int .i64 b.n, .int .i64 b.t, .slice b.Ap b.P.length b.cp, .slice b.Ao b.O.length b.co, .slice b.Ae b.E.length b.ce, .slice b.Af b.F.length b.cf] 45)) := by go_grown
  have BX0 := Box6.new w b 45
  go_enter Tryd.func67, Tryd.ntmps67
  go_wp2
  generalize (w.alloc (.cells #[.int .i64 b.n, .int .i64 b.t, .slice b.Ap b.P.length b.cp, .slice b.Ao b.O.length b.co, .slice b.Ae b.E.length b.ce, .slice b.Af b.F.length b.cf] 45)) = W at hB0 BX0 ⊢
  go_loopw [13] (fun i wr => ∃ (k : Nat), k ≤ ls.length ∧ i = .int .i64 k ∧ Below w.heap.size w wr ∧ Box6 wr w.heap.size b ∧ Hid (RisTo b.n b.t long (sayL ls) k)) (fun i _ => ls.length - (intOf i).toNat)
  case atStart => exact ⟨0, by omega, rfl, hB0, BX0, fun j x h => absurd h (by omega), fun j x h => absurd h (by omega), RiseTo.zero _⟩
  case round =>
    clear hB0 BX0
    obtain ⟨k, hk, rfl, hB, hbox, H⟩ := hrel
    by_cases hlt : k < ls.length
    · obtain ⟨p, o, rfl, hb, c1, c2, c3⟩ := (HX.out.keep hB).at_ hlt
      obtain ⟨g0, g1, g2, g3, g4, g5, g6⟩ := id hbox
      have HBX := Lib.hid hbox; clear hbox
      have hlen2 := H2.out ls[k] (List.getElem_mem hlt)
      have HRG : Hid (∀ d os, Below w.heap.size w (grow (redrawn wr d) os)) := fun d os => hB.trans ((below_regrown wr d os).mono hB.size)
      have HWR : Hid (∀ d os, Below wr.heap.size wr (grow (redrawn wr d) os)) := fun d os => below_regrown wr d os
      by_cases hne : (ls[k].r.length : Int) = long
      case neg =>
        have hd : ((ls[k].r.length : Int) != (long : Int)) = true := bne_t hne
        have HE : Hid (bP (GoodLs b.n b.t long (sayL ls)) = false) := bP_f fun h => hne (h.1 k _ (by rw [HLN.out]; exact hlt) (sayL_at hlt))
        clear hne c2 c3 g1 g2 g3 g4 g5 g6
        go_wp2
        refine wp_region_quiet_below (by kernel_rfl) (by kernel_rfl) ?_
        repeat (first | go_big_quiet_step (fail) | quiet_step (fail))
        refine wpQuiet_nil ?_
        intro _ hw'
        obtain ⟨⟨dq, osq⟩, hw''⟩ := hw'
        subst hw''
        go_wp2
        go_ret
        exact ⟨ret_b HE.out.symm, HRG.out dq osq⟩
      have hd : ((ls[k].r.length : Int) != (long : Int)) = false := bne_f hne
      have HLK : Hid ((ls[k].r.length : Int) = long) := hne
      have hr0 : 1 < ls[k].r.length := by omega
      have hc0 : 1 < ls[k].c := by omega
      have hci : (1 : Int) < (ls[k].c : Int) := by omega
      have hri : (1 : Int) < (ls[k].r.length : Int) := by omega
      have hr00 : (0 : Int) < (ls[k].r.length : Int) := by omega
      clear hne c2
      obtain ⟨p', o', ea, hb', d1⟩ := cell0 c3 (by omega)
      have C3 := Lib.hid (c3.more hB.size); clear c3
      have c1' := c1
      rw [ea] at c1' C3
      have q0 := cell_regrown d1
      have q1 := cell_regrown g1
      clear c1 g1 g2 g3 g4 g5 g6 d1
      generalize hx0 : ls[k].r.getD 0 0 = x0 at q0
      have HX0 := Lib.hid hx0; clear hx0
      have hwn : IntKind.i64.wrap (b.n - 1) = b.n - 1 := by rw [IntKind.wrap_i64]; omega
      have HCG : Hid (∀ d os, Calls Tryd.prog 54 #[.int .i64 x0, .int .i64 0, .int .i64 (b.n - 1)] (grow (redrawn wr d) os) fun e w' => e = .returned (.bool (nonB b.n x0)) ∧ Below (grow (redrawn wr d) os).heap.size (grow (redrawn wr d) os) w') := fun d os => by
        have h := l1In_any x0 0 (b.n - 1) (grow (redrawn wr d) os)
        rw [non_in] at h
        exact h.mono fun e w' ⟨h1, h2⟩ => ⟨h1, h2 ▸ Below.refl _ _⟩
      cases hu : nonB b.n x0
      case false =>
        have HU := Lib.hid hu; clear hu
        have HE : Hid (bP (GoodLs b.n b.t long (sayL ls)) = false) := bP_f fun h => by
          have h1 := (h.2.1 k _ (by rw [HLN.out]; exact hlt) (sayL_at hlt)).1
          rw [HX0.out, HU.out] at h1; cases h1
        rw [HU.out] at HCG
        go_wp2
        refine wp_region_quiet_below (by kernel_rfl) (by kernel_rfl) ?_
        repeat (first | go_big_quiet_step (exact Calls.regrown_of (HCG.out _ _)) | quiet_step (exact Calls.regrown_of (HCG.out _ _)))
        refine wpQuiet_nil ?_
        intro _ hw'
        obtain ⟨⟨dq, osq⟩, hw''⟩ := hw'
        subst hw''
        go_wp2
        go_ret
        exact ⟨ret_b HE.out.symm, HRG.out dq osq⟩
      have HU := Lib.hid hu; clear hu
      rw [HU.out] at HCG
      have HNL : Hid (LongTo long (sayL ls) (k + 1)) := upto_next (Q := fun x : List Int => (x.length : Int) = long) (sayL_at hlt) HLK.out H.out.1
      by_cases hk0 : k = 0
      · have hpos : decide (0 < k) = false := decide_eq_false (by omega)
        have hpos' : ¬ 0 < k := by omega
        have HNR : Hid (RiseTo (sayL ls) (k + 1)) := by rw [hk0]; exact RiseTo.none _
        clear hk0
        go_wp2
        refine wp_region_quiet_below (by kernel_rfl) (by kernel_rfl) ?_
        repeat (first | go_big_quiet_step (exact Calls.regrown_of (HCG.out _ _)) | quiet_step (exact Calls.regrown_of (HCG.out _ _)))
        refine wpQuiet_nil ?_
        intro _ hw'
        obtain ⟨⟨dq, osq⟩, hw''⟩ := hw'
        subst hw''
        have hBQ := HRG.out dq osq
        have hbq := HBX.out.keep (HWR.out dq osq) g0
        have CQ := Lib.hid ((C3.out.keep (HWR.out dq osq)).more (HWR.out dq osq).size)
        generalize (grow (redrawn wr dq) osq) = wq at hBQ hbq CQ ⊢
        have HCD : Hid (Ints wq wq.heap.size (some ⟨p', o' + 1, none⟩) (ls[k].r.drop 1)) := CQ.out.drop1
        have hdl : (ls[k].r.drop 1).length = ls[k].r.length - 1 := List.length_drop
        have HDL := Lib.hid hdl; clear hdl
        clear q0 q1 HCG CQ c1'
        obtain ⟨wA, hwA⟩ : ∃ x, x = wr := ⟨wr, rfl⟩
        subst hwA
        go_wp2
        go_loopw [49] (fun i wr => ∃ (m : Nat), m ≤ ls[k].r.length - 1 ∧ i = .int .i64 m ∧ Below wq.heap.size wq wr ∧ Box6 wr w.heap.size b ∧ Hid (∀ (j : Nat) (x : Int), j < m → (ls[k].r.drop 1)[j]? = some x → symB b.n b.t x = true)) (fun i _ => ls[k].r.length - 1 - (intOf i).toNat)
        case atStart => exact ⟨0, by omega, rfl, Below.refl _ _, hbq, fun j x h => absurd h (by omega)⟩
        case round =>
          obtain ⟨m, hm, rfl, hBm, hbm, HM⟩ := hrel
          by_cases hmt : m < ls[k].r.length - 1
          · obtain ⟨p2, o2, e2, _, cm⟩ := (HCD.out.keep hBm).at_ (k := m) (by rw [HDL.out]; exact hmt)
            injection e2 with e2
            injection e2 with e3 e4
            subst e3 e4
            obtain ⟨m0, m1, m2, m3, m4, m5, m6⟩ := id hbm
            have HBM := Lib.hid hbm; clear hbm
            generalize hxm : (ls[k].r.drop 1)[m]'(by rw [HDL.out]; exact hmt) = xm at cm
            have HXM : Hid ((ls[k].r.drop 1)[m]? = some xm) := by show _ = _; rw [List.getElem?_eq_getElem (by rw [HDL.out]; exact hmt), hxm]
            clear hxm
            cases hs : symB b.n b.t xm
            all_goals
              have HSY := Lib.hid hs; clear hs
              go_wp2_with fail
              refine (l5Symbol_any b _ _ hn hn' ht ht').mono ?_
              rintro e w3 ⟨rfl, hB3⟩
              rw [HSY.out]
              have hB4 : Below wq.heap.size wq w3 := hBm.trans (hB3.mono hBm.size)
            · have HE : Hid (bP (GoodLs b.n b.t long (sayL ls)) = false) := bP_f fun h => by
                have h1 := (h.2.1 k _ (by rw [HLN.out]; exact hlt) (sayL_at hlt)).2
                have h2 := symsB_iff.1 h1 m xm HXM.out
                rw [HSY.out] at h2; cases h2
              go_wp2
              go_ret
              exact ⟨ret_b HE.out.symm, hBQ.trans (hB4.mono hBQ.size)⟩
            · have HN : Hid (∀ (j : Nat) (x : Int), j < m + 1 → (ls[k].r.drop 1)[j]? = some x → symB b.n b.t x = true) := upto_next (Q := fun x => symB b.n b.t x = true) HXM.out HSY.out HM.out
              go_wp2
              go_roundw
              case rel => exact ⟨m + 1, by omega, by go_num, hB4, HBM.out.keep hB3 m0, HN.out⟩
              case measure => simp [intOf]; omega
          · have HS : Hid (SymTo b.n b.t (sayL ls) (k + 1)) := upto_next (Q := symL b.n b.t) (sayL_at hlt) ⟨by rw [HX0.out]; exact HU.out, symsB_of (k := m) (by rw [HDL.out]; exact hmt) HM.out⟩ H.out.2.1
            have HBM := Lib.hid hbm; clear hbm
            go_wp2
            go_roundw
            case rel => exact ⟨k + 1, by omega, by go_num, hBQ.trans (hBm.mono hBQ.size), HBM.out, HNL.out, HS.out, HNR.out⟩
            case measure => simp [intOf]; omega
      · have hpos : decide (0 < k) = true := decide_eq_true (by omega)
        have hpos' : 0 < k := by omega
        obtain ⟨j, hj⟩ : ∃ j, k = j + 1 := ⟨k - 1, by omega⟩
        have hltj : j < ls.length := by omega
        have hwk : IntKind.i64.wrap ((k : Int) - 1) = (j : Int) := by rw [IntKind.wrap_i64]; omega
        have hjl : (j : Int) < (ls.length : Int) := by omega
        obtain ⟨pp, oo, e', _, d1, d2, d3⟩ := (HX.out.keep hB).at_ hltj
        injection e' with e'
        injection e' with e1 e2
        subst e1 e2
        have qj := cell_regrown d1
        have D3 := Lib.hid (d3.more hB.size); clear d1 d2 d3
        have HLJ : Hid ((ls[j].r.length : Int) = long) := H.out.1 j _ (by omega) (sayL_at hltj)
        have hl21 : ls[j].r.length ≤ ls[k].r.length := by have := HLJ.out; have := HLK.out; omega
        have hl22 : ls[k].r.length ≤ ls[j].r.length := by have := HLJ.out; have := HLK.out; omega
        have hlenj := H2.out ls[j] (List.getElem_mem hltj)
        have HCH : Hid (∀ d os, Calls Tryd.prog 106 #[.slice ls[j].a ls[j].r.length ls[j].c, .slice (some ⟨p', o', none⟩) ls[k].r.length ls[k].c] (grow (redrawn wr d) os) fun e w' => e = .returned (.bool (bP (cmpL ls[j].r ls[k].r < 0))) ∧ Below (grow (redrawn wr d) os).heap.size (grow (redrawn wr d) os) w') := fun d os =>
          l5Less_any _ _ _ _ _ _ _ ((D3.out.keep (HWR.out d os)).more (HWR.out d os).size) ((C3.out.keep (HWR.out d os)).more (HWR.out d os).size) hlenj hl21 hl22
        have HJ := Lib.hid hj; clear hj
        cases hq : bP (cmpL ls[j].r ls[k].r < 0)
        · have HQ := Lib.hid hq; clear hq
          have HE : Hid (bP (GoodLs b.n b.t long (sayL ls)) = false) := bP_f fun h => bP_no HQ.out (h.2.2 j _ _ (by rw [HLN.out, ← HJ.out]; exact hlt) (sayL_at hltj) (by rw [← HJ.out]; exact sayL_at hlt))
          rw [HQ.out] at HCH
          clear hl21 hl22
          go_wp2
          refine wp_region_quiet_below (by kernel_rfl) (by kernel_rfl) ?_
          repeat (first | go_big_quiet_step (first | with_reducible exact Calls.regrown_of (HCG.out _ _) | exact Calls.regrown_of (HCH.out _ _)) | quiet_step (first | with_reducible exact Calls.regrown_of (HCG.out _ _) | exact Calls.regrown_of (HCH.out _ _)))
          refine wpQuiet_nil ?_
          intro _ hw'
          obtain ⟨⟨dq, osq⟩, hw''⟩ := hw'
          subst hw''
          go_wp2
          go_ret
          exact ⟨ret_b HE.out.symm, HRG.out dq osq⟩
        have HQ := Lib.hid hq; clear hq
        have HNR : Hid (RiseTo (sayL ls) (k + 1)) := by
          have h := H.out.2.2
          rw [HJ.out] at h
          have h' := h.step (b := ls[k].r) (sayL_at hltj) (by rw [← HJ.out]; exact sayL_at hlt) (bP_is HQ.out)
          rw [HJ.out]; exact h'
        rw [HQ.out] at HCH
        clear hl21 hl22
        go_wp2
        refine wp_region_quiet_below (by kernel_rfl) (by kernel_rfl) ?_
        repeat (first | go_big_quiet_step (first | with_reducible exact Calls.regrown_of (HCG.out _ _) | exact Calls.regrown_of (HCH.out _ _)) | quiet_step (first | with_reducible exact Calls.regrown_of (HCG.out _ _) | exact Calls.regrown_of (HCH.out _ _)))
        refine wpQuiet_nil ?_
        intro _ hw'
        obtain ⟨⟨dq, osq⟩, hw''⟩ := hw'
        subst hw''
        clear qj HCH hwk hjl
        have hBQ := HRG.out dq osq
        have hbq := HBX.out.keep (HWR.out dq osq) g0
        have CQ := Lib.hid ((C3.out.keep (HWR.out dq osq)).more (HWR.out dq osq).size)
        generalize (grow (redrawn wr dq) osq) = wq at hBQ hbq CQ ⊢
        have HCD : Hid (Ints wq wq.heap.size (some ⟨p', o' + 1, none⟩) (ls[k].r.drop 1)) := CQ.out.drop1
        have hdl : (ls[k].r.drop 1).length = ls[k].r.length - 1 := List.length_drop
        have HDL := Lib.hid hdl; clear hdl
        clear q0 q1 HCG CQ c1'
        obtain ⟨wA, hwA⟩ : ∃ x, x = wr := ⟨wr, rfl⟩
        subst hwA
        go_wp2
        go_loopw [49] (fun i wr => ∃ (m : Nat), m ≤ ls[k].r.length - 1 ∧ i = .int .i64 m ∧ Below wq.heap.size wq wr ∧ Box6 wr w.heap.size b ∧ Hid (∀ (j : Nat) (x : Int), j < m → (ls[k].r.drop 1)[j]? = some x → symB b.n b.t x = true)) (fun i _ => ls[k].r.length - 1 - (intOf i).toNat)
        case atStart => exact ⟨0, by omega, rfl, Below.refl _ _, hbq, fun j x h => absurd h (by omega)⟩
        case round =>
          obtain ⟨m, hm, rfl, hBm, hbm, HM⟩ := hrel
          by_cases hmt : m < ls[k].r.length - 1
          · obtain ⟨p2, o2, e2, _, cm⟩ := (HCD.out.keep hBm).at_ (k := m) (by rw [HDL.out]; exact hmt)
            injection e2 with e2
            injection e2 with e3 e4
            subst e3 e4
            obtain ⟨m0, m1, m2, m3, m4, m5, m6⟩ := id hbm
            have HBM := Lib.hid hbm; clear hbm
            generalize hxm : (ls[k].r.drop 1)[m]'(by rw [HDL.out]; exact hmt) = xm at cm
            have HXM : Hid ((ls[k].r.drop 1)[m]? = some xm) := by show _ = _; rw [List.getElem?_eq_getElem (by rw [HDL.out]; exact hmt), hxm]
            clear hxm
            cases hs : symB b.n b.t xm
            all_goals
              have HSY := Lib.hid hs; clear hs
              go_wp2_with fail
              refine (l5Symbol_any b _ _ hn hn' ht ht').mono ?_
              rintro e w3 ⟨rfl, hB3⟩
              rw [HSY.out]
              have hB4 : Below wq.heap.size wq w3 := hBm.trans (hB3.mono hBm.size)
            · have HE : Hid (bP (GoodLs b.n b.t long (sayL ls)) = false) := bP_f fun h => by
                have h1 := (h.2.1 k _ (by rw [HLN.out]; exact hlt) (sayL_at hlt)).2
                have h2 := symsB_iff.1 h1 m xm HXM.out
                rw [HSY.out] at h2; cases h2
              go_wp2
              go_ret
              exact ⟨ret_b HE.out.symm, hBQ.trans (hB4.mono hBQ.size)⟩
            · have HN : Hid (∀ (j : Nat) (x : Int), j < m + 1 → (ls[k].r.drop 1)[j]? = some x → symB b.n b.t x = true) := upto_next (Q := fun x => symB b.n b.t x = true) HXM.out HSY.out HM.out
              go_wp2
              go_roundw
              case rel => exact ⟨m + 1, by omega, by go_num, hB4, HBM.out.keep hB3 m0, HN.out⟩
              case measure => simp [intOf]; omega
          · have HS : Hid (SymTo b.n b.t (sayL ls) (k + 1)) := upto_next (Q := symL b.n b.t) (sayL_at hlt) ⟨by rw [HX0.out]; exact HU.out, symsB_of (k := m) (by rw [HDL.out]; exact hmt) HM.out⟩ H.out.2.1
            have HBM := Lib.hid hbm; clear hbm
            go_wp2
            go_roundw
            case rel => exact ⟨k + 1, by omega, by go_num, hBQ.trans (hBm.mono hBQ.size), HBM.out, HNL.out, HS.out, HNR.out⟩
            case measure => simp [intOf]; omega
    · have HN : Hid (bP (GoodLs b.n b.t long (sayL ls)) = true) := bP_t ⟨upto_end (Q := fun x : List Int => (x.length : Int) = long) (k := k) (by rw [HLN.out]; exact hlt) H.out.1, upto_end (Q := symL b.n b.t) (k := k) (by rw [HLN.out]; exact hlt) H.out.2.1, H.out.2.2.mono (.inr (by rw [HLN.out]; omega))⟩
      clear hbox
      go_wp2
      go_ret
      exact ⟨ret_b HN.out.symm, hB⟩

end Go.Proofs.YtjfhkcoiomokoaaDoor

/- What the reference's GoodBinary answers. -/

namespace Go.Proofs.YtjfhkcoiomokoaaDoor
open Go.RowKit
open Go.Sort (grow)

set_option maxRecDepth 20000 in
set_option maxHeartbeats 1000000 in
theorem specGoodB_any (b : Bi) (w : World) (hx : ReadB w w.heap.size b) (hm : LenB 1048576 b) :
    Calls Tryd.prog 31 #[(.agg #[.int .i64 b.n, .int .i64 b.t, .slice b.Ap b.P.length b.cp, .slice b.Ao b.O.length b.co, .slice b.Ae b.E.length b.ce, .slice b.Af b.F.length b.cf])] w fun e w' => e = .returned (.bool (bP (GoodBs b.say))) ∧ Below w.heap.size w w' := by
  have HX := Lib.hid hx; clear hx
  have HM := Lib.hid hm; clear hm
  have hB0 : Below w.heap.size w (w.alloc (.cells #[.int .i64 b.n, .int .i64 b.t, .slice b.Ap b.P.length b.cp, .slice b.Ao b.O.length b.co, .slice b.Ae b.E.length b.ce, .slice b.Af b.F.length b.cf] 45)) := by go_grown
  have BX0 := Box6.new w b 45
  go_enter Tryd.func31, Tryd.ntmps31
  go_wp2_with fail
  generalize (w.alloc (.cells #[.int .i64 b.n, .int .i64 b.t, .slice b.Ap b.P.length b.cp, .slice b.Ao b.O.length b.co, .slice b.Ae b.E.length b.ce, .slice b.Af b.F.length b.cf] 45)) = W at hB0 BX0 ⊢
  have HB0 := Lib.hid hB0; clear hB0
  have HBX0 := Lib.hid BX0; clear BX0
  obtain ⟨_, b0, b1, b2, b3, b4, b5⟩ := HBX0.out
  refine (l1In_any _ _ _ _).mono ?_
  rintro e w1 ⟨rfl, rfl⟩
  cases hn : inB 1 40 b.n
  · have HE : Hid (bP (GoodBs b.say) = false) := bP_f fun h => inB_not hn h.1
    clear hn
    go_wp2
    go_ret
    exact ⟨ret_b HE.out.symm, HB0.out⟩
  have HN := Lib.hid (inB_and hn); clear hn
  go_wp2_with fail
  refine (l1In_any _ _ _ _).mono ?_
  rintro e w1 ⟨rfl, rfl⟩
  cases ht : inB 1 4 b.t
  · have HE : Hid (bP (GoodBs b.say) = false) := bP_f fun h => inB_not ht h.2.1
    clear ht
    go_wp2
    go_ret
    exact ⟨ret_b HE.out.symm, HB0.out⟩
  have HT := Lib.hid (inB_and ht); clear ht
  have HFN : Hid ((sayL b.F).length = b.F.length) := sayL_len
  by_cases hfl : (b.F.length : Int) ≤ b.n
  case neg =>
    have HE : Hid (bP (GoodBs b.say) = false) := bP_f fun h => hfl (by have : ((sayL b.F).length : Int) ≤ b.n := h.2.2.2.2.2.1; rw [HFN.out] at this; exact this)
    go_wp2
    go_ret
    exact ⟨ret_b HE.out.symm, HB0.out⟩
  go_wp2
  have HFL : Hid ((b.F.length : Int) ≤ b.n) := hfl
  have hmF : b.F.length ≤ 1048576 := HM.out.f
  go_loopw [26] (fun i wr => ∃ (k : Nat), k ≤ b.F.length ∧ i = .int .i64 k ∧ Below w.heap.size w wr ∧ Box6 wr w.heap.size b ∧ Hid (LongTo 2 (sayL b.F) k)) (fun i _ => b.F.length - (intOf i).toNat)
  case atStart => exact ⟨0, by omega, rfl, HB0.out, HBX0.out, fun j x h => absurd h (by omega)⟩
  case round =>
    clear b0 b1 b2 b3 b4 b5 HBX0 HB0
    obtain ⟨k, hk, rfl, hB, hbox, H⟩ := hrel
    by_cases hlt : k < b.F.length
    · have HBX := Lib.hid hbox; clear hbox
      obtain ⟨p, o, ep, hb, c1, c2, c3⟩ := (HX.out.2.2.2.keep hB).at_ hlt
      have hmf := HM.out.fs _ (List.getElem_mem hlt)
      clear c2 c3
      rw [ep]
      by_cases hne : ((b.F[k].r.length : Nat) : Int) = 2
      · have HNX : Hid (LongTo 2 (sayL b.F) (k + 1)) := upto_next (Q := fun x : List Int => (x.length : Int) = 2) (sayL_at hlt) hne H.out
        go_wp2
        go_roundw
        case rel => exact ⟨k + 1, by omega, by go_num, hB, HBX.out, HNX.out⟩
        case measure => simp [intOf]; omega
      · have HE : Hid (bP (GoodBs b.say) = false) := bP_f fun h => hne (h.2.2.2.2.2.2 k _ (by rw [show b.say.F = sayL b.F from rfl, HFN.out]; exact hlt) (sayL_at hlt))
        go_wp2
        go_ret
        exact ⟨ret_b HE.out.symm, hB⟩
    · have HNX : Hid (LongTo 2 (sayL b.F) (sayL b.F).length) := upto_end (Q := fun x : List Int => (x.length : Int) = 2) (k := k) (by rw [HFN.out]; exact hlt) H.out
      have HBX := Lib.hid hbox
      have HB := Lib.hid hB
      obtain ⟨_, b0, b1, b2, b3, b4, b5⟩ := hbox
      clear hB
      go_wp2_with fail
      refine (l5Rising_any b 3 (by omega) (by omega) _ _ _ _ HN.out.1 HN.out.2 HT.out.1 HT.out.2 ((HX.out.1.keep HB.out).more HB.out.size) HM.out.p HM.out.ps).mono ?_
      rintro e w1 ⟨rfl, hB1⟩
      have HBX1 := Lib.hid (HBX.out.keep hB1 HBX.out.1)
      have HB1 := Lib.hid (HB.out.trans (hB1.mono HB.out.size)); clear hB1 HBX HB b0 b1 b2 b3 b4 b5
      obtain ⟨_, b0, b1, b2, b3, b4, b5⟩ := HBX1.out
      cases hP : bP (GoodLs b.n b.t (3 : Nat) (sayL b.P))
      · have HE : Hid (bP (GoodBs b.say) = false) := bP_f fun h => bP_no hP h.2.2.1
        clear hP
        go_wp2
        go_ret
        exact ⟨ret_b HE.out.symm, HB1.out⟩
      have HP := Lib.hid (bP_is hP); clear hP
      go_wp2_with fail
      refine (l5Rising_any b 2 (by omega) (by omega) _ _ _ _ HN.out.1 HN.out.2 HT.out.1 HT.out.2 ((HX.out.2.1.keep HB1.out).more HB1.out.size) HM.out.o HM.out.os).mono ?_
      rintro e w2 ⟨rfl, hB2⟩
      have HBX2 := Lib.hid (HBX1.out.keep hB2 HBX1.out.1)
      have HB2 := Lib.hid (HB1.out.trans (hB2.mono HB1.out.size)); clear hB2 HBX1 HB1 b0 b1 b2 b3 b4 b5
      obtain ⟨_, b0, b1, b2, b3, b4, b5⟩ := HBX2.out
      cases hO : bP (GoodLs b.n b.t (2 : Nat) (sayL b.O))
      · have HE : Hid (bP (GoodBs b.say) = false) := bP_f fun h => bP_no hO h.2.2.2.1
        clear hO
        go_wp2
        go_ret
        exact ⟨ret_b HE.out.symm, HB2.out⟩
      have HO := Lib.hid (bP_is hO); clear hO
      have hwn : IntKind.i64.wrap (b.n - 1) = b.n - 1 := by have := HN.out; rw [IntKind.wrap_i64]; omega
      have HE : Hid (bP (GoodBs b.say) = bP (GoodE b.n b.E)) := bP_congr ⟨fun h => h.2.2.2.2.1, fun h => ⟨HN.out, HT.out, HP.out, HO.out, h, (by show ((sayL b.F).length : Int) ≤ b.n; rw [HFN.out]; exact HFL.out), HNX.out⟩⟩
      go_wp2_with fail
      refine (l1Rising_any _ _ _ _ _ ((HX.out.2.2.1.keep HB2.out).more HB2.out.size) HM.out.e).mono ?_
      rintro e w3 ⟨rfl, hB3⟩
      go_wp2
      go_ret
      exact ⟨ret_b HE.out.symm, HB2.out.trans (hB3.mono HB2.out.size)⟩

end Go.Proofs.YtjfhkcoiomokoaaDoor

/- An append whose run is known, at a step of a region that draws its order. -/

namespace Go.Proofs.YtjfhkcoiomokoaaDoor
open Go.RowKit

theorem step_append_run {P : Program} {w : World} {ops : Array Oper} {o : Oper} {a : Act} {K : Act → World → Prop} {Q : Exit → Act → World → Prop} {E : Prop} (hgd : o.guard = none) (s x : Operand) (t tn : TypeId)
    (ho : o.op = .call { callee := .builtin .append, args := #[s, x], argTypes := #[t, tn] }) (vs vx : Value) (hs : a.eval s = vs) (hx : a.eval x = vx) (v' : Value) (w' : World) (hr : (Builtin.append_ #[t, tn] o.type #[vs, vx]).run P w = .ok v' w') (h : K (a.put o.dst v') w') :
    if Region.wanted o (yielded ops a.tmps) = true then Oper.wp P o a w K Q else E := by
  have hw : Region.wanted o (yielded ops a.tmps) = true := by simp [Region.wanted, hgd]
  rw [if_pos hw]
  exact Lib.wp_append_run w s x t tn ho vs vx hs hx v' w' hr h

end Go.Proofs.YtjfhkcoiomokoaaDoor

/- The reference's BinaryGrammar. -/

namespace Go.Proofs.YtjfhkcoiomokoaaDoor
open Go.RowKit

set_option maxRecDepth 100000 in
/-- Lists appended onto a row of one's own. -/
theorem run_append_vals {w : World} {base n B : Nat} {v : Value} {ys rs : List Value} {A : Option Addr} {c : Nat} (ty : TypeId) (hown : w.ownsRow base 25 1 v n ys) (hr : VRead w B A rs) (hm : n + rs.length ≤ 4194304) (hb : base ≤ w.heap.size) :
    ∃ v' w', (Builtin.append_ #[27, 27] ty #[v, .slice A rs.length c]).run Tryd.prog w = .ok v' w' ∧ w'.ownsRow base 25 1 v' (n + rs.length) (ys ++ rs) ∧ w.grownBy w' v.ownBlock := by
  obtain ⟨i0, hi0, hz0, hz1, hz2⟩ := info_of Tryd.infoIntS
  rcases A with _ | ad
  · have hx : rs = [] := by
      rcases rs with _ | ⟨x, xs⟩
      · rfl
      · obtain ⟨_, _, e, _⟩ := hr.1 (by simp)
        cases e
    subst hx
    refine ⟨v, w, ?_, by simpa using hown, ?_⟩
    · obtain ⟨_, ⟨rfl, rfl⟩ | ⟨g, cap, cur, rfl, _, _, hnc, _⟩⟩ := hown
      · simp [Builtin.append_, run_underlying Tryd.underlying27, typeInfo, sizeOf, hi0, Builtin.firstCells, Builtin.lenOf]
      · simp [Builtin.append_, run_underlying Tryd.underlying27, typeInfo, sizeOf, hi0, Builtin.firstCells, Builtin.lenOf, storeCells, hnc]
    · exact ⟨rfl, rfl, rfl, Nat.le_refl _, fun _ _ _ => rfl⟩
  · have hn : ∀ (j : Nat) (u : Value), rs[j]? = some u → w.cell? (ad.add j) = some u := fun j u hv => by
      have hp : 0 < rs.length := by have := (List.getElem?_eq_some_iff.1 hv).1; omega
      obtain ⟨ad', e, h⟩ := hr.src hp
      injection e with e
      subst e
      exact h j u hv
    obtain ⟨v', w', h1, h2, h3, _⟩ := run_append_own (P := Tryd.prog) w base 27 ty 25 i0 _ 1 24 Tryd.underlying27 hi0 hz0 hz1 hz2 rfl (by omega) v n ys hown ad rs.length c rs (by omega) hn hr.2 (by unfold maxLen; omega) (by omega) hb
    exact ⟨v', w', h1, h2, h3⟩

/-- A row of another type is as it was where a row was appended to. -/
theorem own_other {w w2 : World} {lo lo' n n' s s' : Nat} {t t' : TypeId} {v v' : Value} {xs xs' : List Value} (h : w.ownsRow lo t s v n xs) (h' : w.ownsRow lo' t' s' v' n' xs') (hne : t ≠ t') (hg : w.grownBy w2 v'.ownBlock) : w2.ownsRow lo t s v n xs := by
  obtain ⟨h1, h2 | ⟨g, cap, cur, e, h4, h5, h6⟩⟩ := h
  · exact ⟨h1, .inl h2⟩
  · refine ⟨h1, .inr ⟨g, cap, cur, e, h4, (hg.block g (Row.lt (t := t) h5) fun e' => ?_).trans h5, h6⟩⟩
    obtain ⟨_, ⟨rfl, _⟩ | ⟨g', cap', cur', rfl, _, k5, _⟩⟩ := h'
    · cases e'
    · injection e' with e'
      exact Row.ne (t := t) (t' := t') (cs := cur) (cs' := cur') h5 k5 hne e'

theorem ints_tail {w : World} {B b o : Nat} {y : Int} {ur : List Int} (h : Ints w B (some ⟨b, o, none⟩) (y :: ur)) : w.cell? ⟨b, o, none⟩ = some (.int .i64 y) ∧ b < B ∧ Ints w B (some ⟨b, o + 1, none⟩) ur := by
  obtain ⟨b', o', e, hb, hc⟩ := h (by simp)
  injection e with e
  injection e with e1 e2
  subst e1 e2
  exact ⟨hc 0 y rfl, hb, fun _ => ⟨b, o + 1, rfl, hb, fun k x hx => by rw [Nat.add_assoc, Nat.add_comm 1 k]; exact hc (k + 1) x (by simpa using hx)⟩⟩

def cellV (u : Li) : Value := .slice u.a u.r.length u.c
theorem own_at {w : World} {lo n c k : Nat} {t : TypeId} {A : Option Addr} {xs : List Value} {x : Value} (h : w.ownsRow lo t 1 (.slice A n c) n xs) (hx : xs[k]? = some x) (hn : xs.length = n) : ∃ g, A = some ⟨g, 0, none⟩ ∧ lo ≤ g ∧ g < w.heap.size ∧ w.cell? ⟨g, k, none⟩ = some x := by
  subst hn
  obtain ⟨A', c', e, _, hv⟩ := own_cells h
  injection e with e1
  subst e1
  exact hv k x hx
theorem own_cat {w : World} {lo : Nat} {v : Value} {P O : List Li} (h : w.ownsRow lo 25 1 v (0 + P.length + O.length) ([] ++ (P.map fun u => (.slice u.a u.r.length u.c : Value)) ++ (O.map fun u => (.slice u.a u.r.length u.c : Value)))) :
    ∃ A c, v = .slice A (P ++ O).length c ∧ (P ++ O).length ≤ c ∧ w.ownsRow lo 25 1 (.slice A (P ++ O).length c) (P ++ O).length ((P ++ O).map cellV) := by
  have h2 : w.ownsRow lo 25 1 v ((P ++ O).map cellV).length ((P ++ O).map cellV) := by
    have e : ([] ++ (P.map fun u => (.slice u.a u.r.length u.c : Value)) ++ (O.map fun u => (.slice u.a u.r.length u.c : Value))) = (P ++ O).map cellV := by rw [List.nil_append, List.map_append]; rfl
    have e2 : 0 + P.length + O.length = ((P ++ O).map cellV).length := by rw [List.length_map, List.length_append]; omega
    rw [e, e2] at h
    exact h
  obtain ⟨A, c, rfl, hc, _⟩ := own_cells h2
  rw [List.length_map] at h2 hc ⊢
  exact ⟨A, c, rfl, hc, h2⟩

set_option maxRecDepth 20000 in
set_option maxHeartbeats 1000000 in
theorem specBG_any (b : Bi) (w : World) (hx : ReadB w w.heap.size b) (hm : LenB 1048576 b) (ht : b.P.length + b.O.length + b.E.length ≤ 1048576) :
    Calls Tryd.prog 41 #[(.agg #[.int .i64 b.n, .int .i64 b.t, .slice b.Ap b.P.length b.cp, .slice b.Ao b.O.length b.co, .slice b.Ae b.E.length b.ce, .slice b.Af b.F.length b.cf])] w (GaveGB w b.n b.t (bRules (sayL b.P) (sayL b.O) b.E) (okBG b.say)) := by
  have HX := Lib.hid hx; clear hx
  have HM := Lib.hid hm; clear hm
  obtain ⟨i0, hi0, hz0, hz1, hz2⟩ := info_of Tryd.infoRule
  generalize hW : ((w.alloc (.cells #[.int .i64 b.n, .int .i64 b.t, .slice b.Ap b.P.length b.cp, .slice b.Ao b.O.length b.co, .slice b.Ae b.E.length b.ce, .slice b.Af b.F.length b.cf] 45)).alloc (.cells #[.int .i64 0, .int .i64 0, .slice none 0 0] 32)) = W
  have HB0 : Hid (Below w.heap.size w W) := by subst hW; show Below _ _ _; go_grown
  have B0 : Hid (Row W w.heap.size 45 #[.int .i64 b.n, .int .i64 b.t, .slice b.Ap b.P.length b.cp, .slice b.Ao b.O.length b.co, .slice b.Ae b.E.length b.ce, .slice b.Af b.F.length b.cf]) := by subst hW; exact (Row.new _ _ _).alloc _
  have R0 : Hid (Row W (w.heap.size + 1) 32 #[.int .i64 0, .int .i64 0, .slice none 0 0]) := by
    subst hW
    have h := Row.new (w.alloc (.cells #[.int .i64 b.n, .int .i64 b.t, .slice b.Ap b.P.length b.cp, .slice b.Ao b.O.length b.co, .slice b.Ae b.E.length b.ce, .slice b.Af b.F.length b.cf] 45)) 32 #[.int .i64 0, .int .i64 0, .slice none 0 0]
    rwa [World.size_alloc] at h
  have HWE := Lib.hid hW; clear hW
  go_enter Tryd.func41, Tryd.ntmps41
  go_wp2_with fail
  rw [HWE.out]
  refine (specGoodB_any b W ((HX.out.keep HB0.out).more HB0.out.size) HM.out).mono ?_
  rintro e w1 ⟨rfl, hB1⟩
  have B1 := Lib.hid (B0.out.below hB1 B0.out.lt)
  have R1 := Lib.hid (R0.out.below hB1 R0.out.lt)
  have HB1 := Lib.hid (HB0.out.trans (hB1.mono HB0.out.size)); clear hB1
  clear HWE B0 R0 HB0
  have HLT := Lib.hid R1.out.lt
  cases hg : bP (GoodBs b.say)
  · have HG : Hid (okBG b.say = false) := by show _ = _; unfold okBG; rw [hg]; rfl
    clear hg
    have d0 := R1.out.cell 0
    have d1 := R1.out.cell 1
    have d2 := R1.out.cell 2
    have g0 := R1.out.frozen 0
    have g1 := R1.out.frozen 1
    have g2 := R1.out.frozen 2
    simp at d0 d1 d2
    go_wp2
    refine bodyPost_ret (v := .tuple #[.agg #[.int .i64 0, .int .i64 0, .slice none 0 0], .bool false]) (by simp [results, Tryd.results41, go_sem, d0, d1, d2]) rfl ?_
    rw [HG.out]
    refine gave_none ?_
    exact ((HB1.out.setCell (by simp) _).setCell (by simp) _).setCell (by simp) _
  have HK : Hid (okBG b.say = goodG b.n b.t (bRules (sayL b.P) (sayL b.O) b.E)) := by show _ = _; unfold okBG; rw [hg]; rfl
  have HGB : Hid (GoodBs b.say) := bP_is hg
  clear hg
  have b0 := B1.out.cell 0
  have b1 := B1.out.cell 1
  have b2 := B1.out.cell 2
  have b3 := B1.out.cell 3
  simp only [List.getElem?_toArray, List.getElem?_cons_succ, List.getElem?_cons_zero] at b0 b1 b2 b3
  have hlt1 := HLT.out
  have hpl : b.P.length ≤ 1048576 := by omega
  have hol : b.O.length ≤ 1048576 := by omega
  have HV : Hid (Below w1.heap.size w1 (w1.alloc (.cells #[.int .i64 b.n, .int .i64 b.t, .slice none 0 0] 32))) := (Below.refl _ _).alloc (Nat.le_refl _) _
  have RV : Hid (Row (w1.alloc (.cells #[.int .i64 b.n, .int .i64 b.t, .slice none 0 0] 32)) w1.heap.size 32 #[.int .i64 b.n, .int .i64 b.t, .slice none 0 0]) := Row.new _ _ _
  have HZV : Hid ((w1.alloc (.cells #[.int .i64 b.n, .int .i64 b.t, .slice none 0 0] 32)).heap.size = w1.heap.size + 1) := by show _ = _; simp
  go_wp2_with fail
  generalize (w1.alloc (.cells #[.int .i64 b.n, .int .i64 b.t, .slice none 0 0] 32)) = V at HV RV HZV ⊢
  have v2 := (HV.out.cell (p := ⟨w.heap.size, 2, none⟩) (by show w.heap.size < _; omega)).trans b2
  have v3 := (HV.out.cell (p := ⟨w.heap.size, 3, none⟩) (by show w.heap.size < _; omega)).trans b3
  clear b0 b1 b2 b3
  have HBV := Lib.hid (HB1.out.trans (HV.out.mono HB1.out.size))
  have HWL : Hid (w.heap.size < V.heap.size) := by have := HZV.out; show _ < _; omega
  have HOE : Hid ((V.alloc (.cells #[] 25)).drew.ownsRow V.heap.size 25 1 (.slice (some ⟨V.heap.size, 0, none⟩) 0 0) 0 []) := ⟨rfl, .inr ⟨V.heap.size, 0, #[], rfl, Nat.le_refl _, heap_alloc_new V _, Nat.le_refl _, by unfold maxLen; omega, rfl, rfl⟩⟩
  have HE0 : Hid (Below V.heap.size V (V.alloc (.cells #[] 25)).drew) := by show Below _ _ _; go_grown
  have HWE2 := Lib.hid (HBV.out.trans (HE0.out.mono HBV.out.size))
  go_region_held3 (fun w' => w'.cell? ⟨w.heap.size, 2, none⟩ = some (.slice b.Ap b.P.length b.cp) ∧ w'.cell? ⟨w.heap.size, 3, none⟩ = some (.slice b.Ao b.O.length b.co))
    (first | exact ⟨u2, u3⟩ | exact ⟨y2, y3⟩ | exact ⟨v2, v3⟩ | exact ⟨(HE0.out.cell (p := ⟨w.heap.size, 2, none⟩) HWL.out).trans v2, (HE0.out.cell (p := ⟨w.heap.size, 3, none⟩) HWL.out).trans v3⟩)
    (first
    | (obtain ⟨va, wa, hra, hOa, hGa⟩ := run_append_vals (c := b.cp) 27 HOE.out ((HX.out.1.vread.keep HWE2.out).more HWE2.out.size) (by rw [List.length_map]; omega) HE0.out.size
       rw [List.length_map] at hra hOa
       refine step_append_run rfl (.tmp 18) (.tmp 20) 27 27 rfl (.slice (some ⟨V.heap.size, 0, none⟩) 0 0) (.slice b.Ap b.P.length b.cp) (by simp [Act.eval]) (by simp [Act.eval]) va wa hra ?_
       have HBa : Hid (Below V.heap.size V wa) := HE0.out.grown hGa HE0.out.size fun j hj => (HOE.out.lt j hj).1
       have y2 := (HBa.out.cell (p := ⟨w.heap.size, 2, none⟩) HWL.out).trans v2
       have y3 := (HBa.out.cell (p := ⟨w.heap.size, 3, none⟩) HWL.out).trans v3
       have HOa := Lib.hid hOa
       have HWa := Lib.hid (HBV.out.trans (HBa.out.mono HBV.out.size))
       clear hra hOa hGa)
    | (obtain ⟨vb, wb, hrb, hOb, hGb⟩ := run_append_vals (c := b.co) 27 HOa.out ((HX.out.2.1.vread.keep HWa.out).more HWa.out.size) (by rw [List.length_map]; omega) HBa.out.size
       rw [List.length_map] at hrb hOb
       refine step_append_run rfl (.tmp 21) (.tmp 23) 27 27 rfl va (.slice b.Ao b.O.length b.co) (by simp [Act.eval]) (by simp [Act.eval]) vb wb hrb ?_
       have HBb : Hid (Below V.heap.size V wb) := HBa.out.grown hGb HBa.out.size fun j hj => (HOa.out.lt j hj).1
       have u2 := (HBb.out.cell (p := ⟨w.heap.size, 2, none⟩) HWL.out).trans v2
       have u3 := (HBb.out.cell (p := ⟨w.heap.size, 3, none⟩) HWL.out).trans v3
       obtain ⟨A5, c5, rfl, hc5, hO5⟩ := own_cat hOb
       have HO5 := Lib.hid hO5
       clear hrb hOb hGb hO5)
    | fail)
  rename_i hHeld
  clear hHeld y2 y3 u2 u3 v2 v3 HOa HWa HBa HOE HE0 HWE2
  have HRD : Hid (∀ u ∈ b.P ++ b.O, u.r.length ≤ u.c ∧ Ints w w.heap.size u.a u.r) := fun u hu => by
    rcases List.mem_append.1 hu with hu | hu
    · obtain ⟨k, hk, e⟩ := List.getElem_of_mem hu
      obtain ⟨_, _, _, _, _, h, h'⟩ := HX.out.1.at_ hk
      rw [e] at h h'; exact ⟨h, h'⟩
    · obtain ⟨k, hk, e⟩ := List.getElem_of_mem hu
      obtain ⟨_, _, _, _, _, h, h'⟩ := HX.out.2.1.at_ hk
      rw [e] at h h'; exact ⟨h, h'⟩
  have HP := Lib.hid (goodB_long HGB.out)
  have HSL : Hid ((b.P ++ b.O).map Li.r = sayL b.P ++ sayL b.O) := by show _ = _; rw [List.map_append]; rfl
  have hLl : (b.P ++ b.O).length ≤ 2097152 := by rw [List.length_append]; omega
  have hcast : (b.P.length : Int) + (b.O.length : Int) = ((b.P ++ b.O).length : Int) := by rw [List.length_append]; omega
  rw [hcast]
  clear hcast
  have hz5 : w1.heap.size + 1 ≤ wb.heap.size := by have := HBb.out.size; have := HZV.out; omega
  have HO6 : Hid (wb.ownsRow (w1.heap.size + 1) 25 1 (.slice A5 (b.P ++ b.O).length c5) (b.P ++ b.O).length ((b.P ++ b.O).map cellV)) := by have h := HO5.out; rw [HZV.out] at h; exact h
  have HRB := Lib.hid (RV.out.below HBb.out RV.out.lt)
  have HBB := Lib.hid (HV.out.trans (HBb.out.mono HV.out.size))
  clear HO5 HBb RV HV HZV HBV HWL
  have HLM := HM; clear HM
  generalize b.P ++ b.O = L at *
  go_wp2
  go_loopw [26] (fun y wr => ∃ (k : Nat) (v : Value) (ds : List Ru), k ≤ L.length ∧ y = .int .i64 k ∧ Hid (Below w1.heap.size w1 wr) ∧ Hid (Row wr w1.heap.size 32 #[.int .i64 b.n, .int .i64 b.t, v]) ∧ Hid (RulesW wr (w1.heap.size + 1) v ds) ∧ Hid (wr.ownsRow (w1.heap.size + 1) 25 1 (.slice A5 L.length c5) L.length (L.map cellV)) ∧ Hid (ds.map Ru.abs = ((L.take k).map Li.r).map ruleOf)) (fun y _ => L.length - (intOf y).toNat)
  case atStart => exact ⟨0, _, [], by omega, rfl, HBB.out, HRB.out, RulesW.start _ _, HO6.out, rfl⟩
  case round =>
    clear HBB HRB HO6 hz5
    obtain ⟨k, v, ds, hk, rfl, HB, HRW4, HRW, HOC, HSY⟩ := hrel
    by_cases hlt : k < L.length
    · obtain ⟨g, rfl, _, hg, d1⟩ := own_at HOC.out (x := cellV L[k]) (k := k) (by rw [List.getElem?_map, List.getElem?_eq_getElem hlt]; rfl) (List.length_map _)
      have hl2 := HP.out L[k] (List.getElem_mem hlt)
      have hrd := HRD.out L[k] (List.getElem_mem hlt)
      have hdl : ds.length ≤ 2097152 := by have h := congrArg List.length HSY.out; simp at h; omega
      have HTK : Hid (((L.take (k + 1)).map Li.r).map ruleOf = ((L.take k).map Li.r).map ruleOf ++ [ruleOf L[k].r]) := by show _ = _; rw [List.take_succ_eq_append_getElem hlt, List.map_append, List.map_append]; rfl
      generalize L[k] = u at d1 hl2 hrd HTK
      obtain ⟨ua, ur, uc⟩ := u
      unfold cellV at d1
      dsimp only at d1 hl2 hrd HTK
      obtain ⟨huc, hur⟩ := hrd
      rcases ur with _ | ⟨y, ur⟩
      · simp at hl2
      have HBW := Lib.hid (HB1.out.trans (HB.out.mono HB1.out.size))
      obtain ⟨bb, oo, e, _, _⟩ := hur (by simp)
      subst e
      obtain ⟨e0, hbb, hut⟩ := ints_tail (hur.keep HBW.out)
      have hul : 1 ≤ ur.length := by simp at hl2; omega
      have hul2 : ur.length ≤ 2 := by simp at hl2; omega
      have hlc : (y :: ur).length = ur.length + 1 := rfl
      rw [hlc] at d1 huc
      have HUT := Lib.hid (hut.more HBW.out.size)
      clear hlc hl2 hur hut
      have hs := HB.out.size
      have hlt4 := HRW4.out.lt
      have o2 := HRW4.out.cell 2
      simp at o2
      have HVB : Hid (∀ b, v.ownBlock = some b → w1.heap.size + 1 ≤ b ∧ b < wr.heap.size) := fun b e => HRW.out.row.lt b e
      have hI1 : (0 : Int) ≤ (ur.length : Int) + 1 := by omega
      have hI2 : (ur.length : Int) + 1 ≤ (uc : Int) := by omega
      have hI3 : (1 : Int) ≤ (ur.length : Int) + 1 := by omega
      have hI4 : ¬ uc = 1 := by omega
      go_wp2_with fail
      go_region_law (first
        | (refine step_append_lies _ rfl _ _ _ rfl (w1.heap.size + 1) 83 i0 _ 2 32 Tryd.underlying30 hi0 hz0 hz1 hz2 rfl (by omega) v ds.length (ds.flatMap cellsU) (by simp [Act.eval]) ((own_below HRW.out.row HBc.out).alloc _)
             ⟨wc.heap.size, 0, none⟩ 1 1 [.int .i64 y, .slice Ac ur.length kc] (by simp [Act.eval]) rfl (two_new _ _ _ _) (by simp [Value.oneCell'])
             (by omega) (by unfold maxLen; omega) (by omega) (by simp; omega) (wc.heap.size + 1) (by simp) ?_
           intro gg cap w3 hown hgrow hat hgl
           have HOW := Lib.hid hown
           have HGR := Lib.hid hgrow
           have HR3 : Hid (Row w3 w1.heap.size 32 #[.int .i64 b.n, .int .i64 b.t, v]) := (hgrow.block w1.heap.size (by simp; omega) (fun e => by have := HVB.out _ e.symm; omega)).trans ((HRW4.out.below HBc.out HRW4.out.lt).alloc _)
           have t2 := HR3.out.cell 2
           simp at t2
           have g2 := HR3.out.frozen 2
           clear hown hgrow hat)
        | (go_simp
           go_at_call 56
           refine (l1Own_any _ _ _ _ ?_ (by omega)).mono ?_
           · exact HUT.out.keep (by go_grown)
           rintro e wc ⟨Ac, kc, rfl, hOc, hBc'⟩
           have hBc : Below wr.heap.size wr wc := Below.trans (by go_grown) hBc'
           have p2 := (HRW4.out.below hBc HRW4.out.lt).cell 2
           simp at p2
           have f0 := (hBc.cell (p := ⟨bb, oo, none⟩) (by show bb < _; have := HBW.out.size; omega)).trans e0
           have hs2 := hBc.size
           have hs3 : w1.heap.size < wc.heap.size := by omega
           have hs4 : bb < wc.heap.size := by have := HBW.out.size; omega
           have HOc := Lib.hid hOc
           have HBc := Lib.hid hBc
           clear hOc hBc hBc'))
      all_goals
        have hs5 := HGR.out.size
        rw [World.size_alloc] at hs5
        have HST : Hid (RulesW w3 (w1.heap.size + 1) (.slice (some ⟨gg, 0, none⟩) (ds.length + 1) cap) (ds ++ [⟨y, Ac, ur, kc⟩])) :=
          RulesW.step (c := kc) ((HRW.out.keep HBc.out).keep ((Below.refl _ _).alloc (Nat.le_refl _) _)) ((HOc.out.lower (by show _ ≤ wr.heap.size; omega)).below ((Below.refl _ _).alloc (Nat.le_refl _) _) (Nat.le_refl _)) (HRW.out.apart (w1 := wc) HOc.out) HOW.out HGR.out
        have HB3 : Hid (Below w1.heap.size w1 w3) := ((HB.out.trans (HBc.out.mono HB.out.size)).alloc (by omega) _).grown HGR.out (by simp; omega) fun b hb => by have := (HVB.out b hb).1; omega
        have HOC3 : Hid (w3.ownsRow (w1.heap.size + 1) 25 1 (.slice (some ⟨g, 0, none⟩) L.length c5) L.length (L.map cellV)) := own_other ((own_below HOC.out HBc.out).alloc _) ((own_below HRW.out.row HBc.out).alloc _) (by decide) HGR.out
        have hs6 : w1.heap.size < w3.heap.size := HR3.out.lt
        clear HGR HOW HOc HBc p2 t2 g2 f0 e0 o2 d1 HVB hI1 hI2 hI3 hI4
        go_wp2
        go_roundw
        case rel => exact ⟨k + 1, _, _, by omega, by go_num, HB3.out.setCell (by simp) _, HR3.out.set 2 _, HST.out.low (by simp) _, ownsRow_setCell_below HOC3.out (by simp) _, by show _ = _; rw [HTK.out, List.map_append, HSY.out]; rfl⟩
        case measure => simp [intOf]; omega
    · obtain rfl : k = L.length := by omega
      have HDA : Hid (ds.map Ru.abs = (sayL b.P ++ sayL b.O).map ruleOf) := by have h := HSY.out; rw [List.take_length, HSL.out] at h; exact h
      have hdl : ds.length ≤ 2097152 := by have h := congrArg List.length HSY.out; simp at h; omega
      have HB4 := Lib.hid (B1.out.below HB.out B1.out.lt)
      clear HSY HOC HP HRD HSL B1
      have x4 := HB4.out.cell 4
      simp only [List.getElem?_toArray, List.getElem?_cons_succ, List.getElem?_cons_zero] at x4
      obtain ⟨wA, hwA⟩ : ∃ x, x = wr := ⟨wr, rfl⟩
      subst hwA
      obtain ⟨fs, hfs⟩ : ∃ x, x = ds := ⟨_, rfl⟩
      subst hfs
      obtain ⟨vA, hvA⟩ : ∃ x, x = v := ⟨_, rfl⟩
      subst hvA
      go_wp2
      clear x4 HB4
      go_loopw [46] (fun y wr => ∃ (k : Nat) (v : Value) (ds : List Ru), k ≤ b.E.length ∧ y = .int .i64 k ∧ ds.length ≤ 2097152 + k ∧ Hid (Below w1.heap.size w1 wr) ∧ Hid (Row wr w1.heap.size 32 #[.int .i64 b.n, .int .i64 b.t, v]) ∧ Hid (RulesW wr (w1.heap.size + 1) v ds) ∧ Hid (ds.map Ru.abs = (sayL b.P ++ sayL b.O).map ruleOf ++ (b.E.take k).map fun e => (e, []))) (fun y _ => b.E.length - (intOf y).toNat)
      case atStart => exact ⟨0, vA, fs, by omega, rfl, by omega, HB.out, HRW4.out, HRW.out, by show _ = _; rw [List.take_zero, List.map_nil, List.append_nil]; exact HDA.out⟩
      case round =>
        clear HB HRW4 HRW HDA hdl
        obtain ⟨k, v, ds, hk, rfl, hdl, HB, HRW4, HRW, HSY⟩ := hrel
        have HBW := Lib.hid (HB1.out.trans (HB.out.mono HB1.out.size))
        by_cases hlt2 : k < b.E.length
        · obtain ⟨bb, oo, ea, hbb, e0⟩ := (HX.out.2.2.1.keep HBW.out).at_ hlt2
          rw [ea]
          have hs := HB.out.size
          have hlt4 := HRW4.out.lt
          have o2 := HRW4.out.cell 2
          simp at o2
          have hel : b.E.length ≤ 1048576 := by omega
          have HTK : Hid ((b.E.take (k + 1)).map (fun e => ((e, []) : Int × List Int)) = (b.E.take k).map (fun e => (e, [])) ++ [(b.E[k], [])]) := by show _ = _; rw [List.take_succ_eq_append_getElem hlt2, List.map_append]; rfl
          have HVB : Hid (∀ b, v.ownBlock = some b → w1.heap.size + 1 ≤ b ∧ b < wr.heap.size) := fun b e => HRW.out.row.lt b e
          have HOD : Hid ((wr.alloc (.cells #[.int .i64 b.E[k], .slice none 0 0] 83)).ownsRow (w1.heap.size + 1) 83 2 v ds.length (ds.flatMap cellsU)) := HRW.out.row.alloc _
          have HND := Lib.hid (two_new wr (.int .i64 b.E[k]) (.slice none 0 0) 83)
          go_wp2_with (at_builtin
                       refine wpList_append_lies _ rfl (.tmp 51) (.tmp 54) _ rfl (w1.heap.size + 1) 83 i0 _ 2 32 Tryd.underlying30 hi0 hz0 hz1 hz2 rfl (by omega) _ _ _ rfl HOD.out ⟨wr.heap.size, 0, none⟩ 1 1 [.int .i64 b.E[k], .slice none 0 0] rfl rfl HND.out (by simp [Value.oneCell']) (by omega) (by unfold maxLen; omega) (by omega) (by simp; omega) _ rfl ?_
                       intro gg cap w' p1 p2 p3 p4
                       have HST : Hid (RulesW w' (w1.heap.size + 1) (.slice (some ⟨gg, 0, none⟩) (ds.length + 1) cap) (ds ++ [(⟨b.E[k], none, [], 0⟩ : Ru)])) := RulesW.step (c := 0) (HRW.out.keep ((Below.refl _ _).alloc (Nat.le_refl _) _)) (.inl rfl) (fun _ _ _ _ h _ => absurd rfl h) p1 p2
                       have HB3 : Hid (Below w1.heap.size w1 w') := (HB.out.alloc (by omega) _).grown p2 (by simp; omega) fun b hb => by have := (HVB.out b hb).1; omega
                       have HR3 : Hid (Row w' w1.heap.size 32 #[.int .i64 b.n, .int .i64 b.t, v]) := (p2.block w1.heap.size (by simp; omega) (fun e => by have := HVB.out _ e.symm; omega)).trans (HRW4.out.alloc _)
                       have t2 := HR3.out.cell 2
                       simp at t2
                       have g2 := HR3.out.frozen 2
                       clear p1 p2 p3 p4)
          go_roundw
          case rel => exact ⟨k + 1, _, _, by omega, by go_num, by rw [List.length_append]; simp; omega, HB3.out.setCell (by simp) _, HR3.out.set 2 _, HST.out.low (by simp) _, by show _ = _; rw [HTK.out, List.map_append, HSY.out, ← List.append_assoc]; rfl⟩
          case measure => simp [intOf]; omega
        · obtain rfl : k = b.E.length := by omega
          obtain ⟨A4, c4, hv4, hc4, hO4⟩ := HRW.out.slice
          subst hv4
          have HO4 := Lib.hid hO4; clear hO4
          have HKB : Hid (ds.map Ru.abs = bRules (sayL b.P) (sayL b.O) b.E) := by have h := HSY.out; rw [List.take_length] at h; exact h
          have hl4 : ds.length ≤ 1048576 := by have h := congrArg List.length HKB.out; rw [List.length_map, bRules_len, sayL_len, sayL_len] at h; omega
          have HR1 := Lib.hid (R1.out.below HB.out R1.out.lt)
          have o0 := HRW4.out.cell 0
          have o1 := HRW4.out.cell 1
          have o2 := HRW4.out.cell 2
          simp at o0 o1 o2
          clear HSY HRW
          go_wp2_with fail
          refine (specGood_any _ _ _ _ _ _ HO4.out.rls hc4 hl4 (says_lens HKB.out (bRules_lens HLM.out))).mono ?_
          rintro e w5 ⟨rfl, hB5⟩
          rw [HKB.out]
          have HR5 := Lib.hid (HR1.out.below hB5 HR1.out.lt)
          have HRG := Lib.hid (HRW4.out.below hB5 HRW4.out.lt)
          have HB5 := Lib.hid (HBW.out.trans (hB5.mono HBW.out.size))
          have HO5 := Lib.hid (HO4.out.below hB5 (Nat.le_refl _))
          have hlt5 : w.heap.size + 1 < w1.heap.size := HLT.out
          clear hB5 o0 o1 o2 HO4 HR1 HRW4
          have d0 := HR5.out.cell 0
          have d1 := HR5.out.cell 1
          have d2 := HR5.out.cell 2
          have g0 := HR5.out.frozen 0
          have g1 := HR5.out.frozen 1
          have g2 := HR5.out.frozen 2
          simp at d0 d1 d2
          cases hg : goodG b.n b.t (bRules (sayL b.P) (sayL b.O) b.E)
          · have HG : Hid (okBG b.say = false) := HK.out.trans hg
            clear hg
            go_wp2
            refine bodyPost_ret (v := .tuple #[.agg #[.int .i64 0, .int .i64 0, .slice none 0 0], .bool false]) (by simp [results, Tryd.results41, go_sem, d0, d1, d2]) rfl ?_
            rw [HG.out]
            refine gave_none ?_
            exact ((HB5.out.setCell (by simp) _).setCell (by simp) _).setCell (by simp) _
          · have HG : Hid (okBG b.say = true) := HK.out.trans hg
            clear hg
            have o0 := HRG.out.cell 0
            have o1 := HRG.out.cell 1
            have o2 := HRG.out.cell 2
            simp at o0 o1 o2
            go_wp2
            refine bodyPost_ret (v := .tuple #[.agg #[.int .i64 b.n, .int .i64 b.t, .slice A4 ds.length c4], .bool true]) (by simp [results, Tryd.results41, go_sem, d0, d1, d2]) rfl ⟨A4, c4, ds, by rw [HG.out]; rfl, ?_, ?_, ?_⟩
            · exact (((HO5.out.low (by simp; omega) _).low (by simp; omega) _).low (by simp; omega) _).lower (by have := HB1.out.size; omega)
            · rw [HKB.out, HG.out]; rfl
            · exact ((HB5.out.setCell (by simp) _).setCell (by simp) _).setCell (by simp) _

end Go.Proofs.YtjfhkcoiomokoaaDoor

/- How many rules the lists of a binary grammar make that the laws take. -/

namespace Go.Proofs.YtjfhkcoiomokoaaDoor
open Go.RowKit

def TotB (s : Bs) : Prop := s.P.length + s.O.length + s.E.length ≤ 1048576
theorem szLs_less {xs : List (List Int)} {L : Int} (_hL : 0 ≤ L) (h : 0 ≤ szLs xs L) : szLs xs L ≤ L - xs.length := by
  unfold szLs at h ⊢
  split at h
  · omega
  · rename_i hn
    rw [if_neg hn]
    exact (szL_ge xs (L := L - xs.length) (by omega)).2 h |>.1
theorem szB_total {b : Bi} (hp : 0 ≤ szB (sayL b.P) (sayL b.O) b.E (sayL b.F) 1048576) : TotB b.say := by
  unfold szB at hp
  split at hp
  · omega
  rename_i h1
  split at hp
  · omega
  rename_i h2
  split at hp
  · omega
  rename_i h3
  have a1 := szLs_less (xs := sayL b.P) (L := 1048576) (by omega) (by omega)
  have a2 := szLs_less (xs := sayL b.O) (L := szLs (sayL b.P) 1048576) (by omega) (by omega)
  have e3 : szI b.E.length (szLs (sayL b.O) (szLs (sayL b.P) 1048576)) = szLs (sayL b.O) (szLs (sayL b.P) 1048576) - b.E.length := by
    unfold szI at h3 ⊢; split <;> simp_all
  show (sayL b.P).length + (sayL b.O).length + b.E.length ≤ 1048576
  omega
theorem TotB.of {b b' : Bi} (h : TotB b.say) (e : b'.say = b.say) : b'.P.length + b'.O.length + b'.E.length ≤ 1048576 := by
  have h2 : TotB b'.say := e ▸ h
  have h3 : (sayL b'.P).length + (sayL b'.O).length + b'.E.length ≤ 1048576 := h2
  rw [sayL_len, sayL_len] at h3
  exact h3
theorem FitB.of {b b' : Bi} (h : FitB b.say) (e : b'.say = b.say) : FitB b'.say := e ▸ h

end Go.Proofs.YtjfhkcoiomokoaaDoor

/- The law of BinaryGrammar: its walk. -/

namespace Go.Proofs.YtjfhkcoiomokoaaDoor
open Go.RowKit

set_option maxRecDepth 20000 in
set_option maxHeartbeats 2000000 in
theorem law_BinaryGrammar (b : Bi) (w : World) (hx : ReadB w w.heap.size b) (hL : Lims w) (hm : LenB maxLen b) (hf : FitB b.say) :
    Calls Tryd.prog 10 #[(.agg #[.int .i64 b.n, .int .i64 b.t, .slice b.Ap b.P.length b.cp, .slice b.Ao b.O.length b.co, .slice b.Ae b.E.length b.ce, .slice b.Af b.F.length b.cf])] w (LawEnds w) := by
  have HX := Lib.hid hx; clear hx
  have HL := Lib.hid hL; clear hL
  have HM := Lib.hid hm; clear hm
  have HF := Lib.hid hf; clear hf
  go_enter Tryd.func10, Tryd.ntmps10
  go_wp2_with fail
  have hBA := below_new w (.cells #[.int .i64 b.n, .int .i64 b.t, .slice b.Ap b.P.length b.cp, .slice b.Ao b.O.length b.co, .slice b.Ae b.E.length b.ce, .slice b.Af b.F.length b.cf] 51)
  have B0 := Box6.new w b 51
  generalize (w.alloc (.cells #[.int .i64 b.n, .int .i64 b.t, .slice b.Ap b.P.length b.cp, .slice b.Ao b.O.length b.co, .slice b.Ae b.E.length b.ce, .slice b.Af b.F.length b.cf] 51)) = W at hBA B0 ⊢
  have HBA := Lib.hid hBA; clear hBA
  have HB0 := Lib.hid B0; clear B0
  refine (szBinary_any _ _ ((HX.out.keep HBA.out).more HBA.out.size) HM.out).mono ?_
  rintro e w1 ⟨rfl, hB1⟩
  have HB1 := Lib.hid hB1; clear hB1
  by_cases hneg : szB (sayL b.P) (sayL b.O) b.E (sayL b.F) 1048576 < 0
  · go_wp2
    go_ret
    exact ⟨rfl, HBA.out.trans (HB1.out.mono HBA.out.size)⟩
  have HLN : Hid (LenB 1048576 b) := szB_bound (by omega)
  have HTT : Hid (TotB b.say) := szB_total (by omega)
  have HW1 := Lib.hid (HBA.out.trans (HB1.out.mono HBA.out.size))
  have KA1 := Lib.hid (HB0.out.keep HB1.out HB0.out.1)
  have HR1 := Lib.hid ((HX.out.keep HW1.out).more HW1.out.size)
  obtain ⟨_, a0, a1, a2, a3, a4, a5⟩ := KA1.out
  clear HB1 HB0 HBA
  -- the reference's answer
  go_wp2_with fail
  refine (toBinaryA_any _ _ HR1.out HLN.out).mono ?_
  rintro e w2 ⟨b2, rfl, ha2, hO2, _, hB2, hP2⟩
  have HP2 := Lib.hid hP2; clear hP2
  have HLN2 := Lib.hid (HLN.out.of_say ha2)
  have HO2 := Lib.hid hO2; clear hO2
  have HA2 := Lib.hid ha2; clear ha2
  have HB2 := Lib.hid hB2; clear hB2
  go_wp2_with fail
  refine (specBG_any _ _ HO2.out.read HLN2.out (HTT.out.of HA2.out)).mono ?_
  have HBG : Hid (∀ (b' : Bi) (v : World) (e : Ending) (v' : World), b'.say = b.say → GaveGB v b'.n b'.t (bRules (sayL b'.P) (sayL b'.O) b'.E) (okBG b'.say) e v' → GaveGB v b.n b.t (bRules (sayL b.P) (sayL b.O) b.E) (okBG b.say) e v') := fun b' v e v' h1 h2 => by
    have e1 : b'.n = b.n := congrArg Bs.n h1
    have e2 : b'.t = b.t := congrArg Bs.t h1
    have e3 : sayL b'.P = sayL b.P := congrArg Bs.P h1
    have e4 : sayL b'.O = sayL b.O := congrArg Bs.O h1
    have e5 : b'.E = b.E := congrArg Bs.E h1
    rw [e1, e2, e3, e4, e5, h1] at h2
    exact h2
  have hbd : (bRules (sayL b.P) (sayL b.O) b.E).length ≤ 1048576 ∧ ∀ u ∈ bRules (sayL b.P) (sayL b.O) b.E, u.2.length ≤ 1048576 := ⟨by rw [bRules_len]; exact HTT.out, bRules_lens HLN.out⟩
  have HIMP : Hid (∀ (b' : Bi) (v : World), ReadB v v.heap.size b' → Lims v → b'.say = b.say →
      Calls Tryd.prog 42 #[(.agg #[.int .i64 b'.n, .int .i64 b'.t, .slice b'.Ap b'.P.length b'.cp, .slice b'.Ao b'.O.length b'.co, .slice b'.Ae b'.E.length b'.ce, .slice b'.Af b'.F.length b'.cf])] v (GaveGB v b.n b.t (bRules (sayL b.P) (sayL b.O) b.E) (okBG b.say))) := fun b' v h1 h2 h3 =>
    (implBG_any b' v h1 h2 (HLN.out.of_say h3) (HTT.out.of h3) (FitB.of HF.out h3)).mono fun e v' h => HBG.out b' v e v' h3 h
  intro e w3 hG
  have hG3 := HBG.out _ _ _ _ HA2.out hG
  clear hG
  revert hG3
  generalize bRules (sayL b.P) (sayL b.O) b.E = ss0 at hbd HIMP ⊢
  generalize okBG b.say = ok at HIMP ⊢
  clear HBG
  unfold GaveGB at HIMP ⊢
  have hbd2 : (ansR ok ss0).length ≤ 1048576 ∧ ∀ u ∈ ansR ok ss0, u.2.length ≤ 1048576 := by
    unfold ansR
    split
    · exact hbd
    · exact ⟨by simp, fun u hu => by simp at hu⟩
  clear hbd
  generalize ansR ok ss0 = ss at hbd2 HIMP ⊢
  generalize ansN ok b.n = n' at HIMP ⊢
  generalize ansN ok b.t = t' at HIMP ⊢
  have HBD := Lib.hid hbd2; clear hbd2
  rintro ⟨A3, c3, rs3, rfl, hO3, ha3, hB3⟩
  have HB3 := Lib.hid (HB2.out.trans (hB3.mono HB2.out.size)); clear hB3
  have HA3 := Lib.hid ha3; clear ha3
  have HI3 : Hid (∀ b, ItsR A3 rs3 b → w.heap.size + 1 ≤ b ∧ b < w3.heap.size) := fun b hb => ⟨by have := (hO3.its hb).1; have := HB2.out.size; have := KA1.out.1; omega, (hO3.its hb).2⟩
  have HO3 := Lib.hid hO3; clear hO3
  have hlen3 : rs3.length ≤ 1048576 := says_len HA3.out HBD.out.1
  have HLN3 := Lib.hid (says_lens HA3.out HBD.out.2)
  clear a0 a1 a2 a3 a4 a5 HO2 HA2 HLN2
  have KA3 := Lib.hid (KA1.out.keep HB3.out KA1.out.1)
  have HW3 := Lib.hid (HW1.out.trans (HB3.out.mono HW1.out.size))
  clear KA1 HR1 HW1 HB3 HB2
  obtain ⟨_, a0, a1, a2, a3, a4, a5⟩ := KA3.out
  go_wp2_with fail
  have hBN := below_new w3 (.cells #[.int .i64 n', .int .i64 t', .slice A3 rs3.length c3] 32)
  have hKN := box_new w3 (.int .i64 n') (.int .i64 t') (.slice A3 rs3.length c3) 32
  generalize (w3.alloc (.cells #[.int .i64 n', .int .i64 t', .slice A3 rs3.length c3] 32)) = V3 at hBN hKN ⊢
  clear a0 a1 a2 a3 a4 a5
  have HV3 := Lib.hid hBN; clear hBN
  have KW := Lib.hid hKN; clear hKN
  have KAV := Lib.hid (KA3.out.keep HV3.out KA3.out.1)
  have HWV := Lib.hid (HW3.out.trans (HV3.out.mono HW3.out.size))
  have HO3V := Lib.hid (HO3.out.below HV3.out (Nat.le_refl _))
  have HRV := Lib.hid ((HX.out.keep HWV.out).more HWV.out.size)
  have HS3 : Hid (w.heap.size + 1 ≤ w3.heap.size) := KA3.out.1
  have HSV : Hid (w3.heap.size + 1 ≤ V3.heap.size) := KW.out.1
  clear KA3 HW3 HO3 HV3
  -- the program's argument, a copy
  refine (toBinaryA_any _ _ HRV.out HLN.out).mono ?_
  rintro e w4 ⟨b4, rfl, ha4, hO4, _, hB4, hP4⟩
  have HP4 := Lib.hid hP4; clear hP4
  have HLN4 := Lib.hid (HLN.out.of_say ha4)
  have HA4 := Lib.hid ha4; clear ha4
  have HI4 : Hid (∀ b, ItsB b4 b → V3.heap.size ≤ b ∧ b < w4.heap.size) := fun b hb => hO4.its hb
  have HS4 : Hid (V3.heap.size ≤ w4.heap.size) := hB4.size
  go_wp2_with fail
  have hBN := below_new w4 (.cells #[.int .i64 b4.n, .int .i64 b4.t, .slice b4.Ap b4.P.length b4.cp, .slice b4.Ao b4.O.length b4.co, .slice b4.Ae b4.E.length b4.ce, .slice b4.Af b4.F.length b4.cf] 45)
  have hKN := Box6.new w4 b4 45
  generalize (w4.alloc (.cells #[.int .i64 b4.n, .int .i64 b4.t, .slice b4.Ap b4.P.length b4.cp, .slice b4.Ao b4.O.length b4.co, .slice b4.Ae b4.E.length b4.ce, .slice b4.Af b4.F.length b4.cf] 45)) = V4 at hBN hKN ⊢
  have HB4 := Lib.hid (hB4.trans (hBN.mono hB4.size))
  have HO4 := Lib.hid (hO4.below hBN (Nat.le_refl _)); clear hO4 hB4 hBN
  have KX4 := Lib.hid hKN; clear hKN
  have KA4 := Lib.hid (KAV.out.keep HB4.out KAV.out.1)
  have KW4 := Lib.hid (KW.out.keep HB4.out KW.out.1)
  have HO34 := Lib.hid (HO3V.out.below HB4.out (Nat.le_refl _))
  have HW4 := Lib.hid (HWV.out.trans (HB4.out.mono HWV.out.size))
  have HS4' : Hid (w4.heap.size + 1 ≤ V4.heap.size) := KX4.out.1
  clear KAV KW HO3V HWV HRV HB4
  -- the program's answer
  refine (HIMP.out _ _ HO4.out.read (HL.out.keep HW4.out (Nat.le_refl _)) HA4.out).mono ?_
  rintro e w5 ⟨A5, c5, rs5, rfl, hO5, ha5, hB5⟩
  have HA5 := Lib.hid ha5; clear ha5
  have HI5 : Hid (∀ b, ItsR A5 rs5 b → V4.heap.size ≤ b ∧ b < w5.heap.size) := fun b hb => hO5.its hb
  have hlen5 : rs5.length ≤ 1048576 := says_len HA5.out HBD.out.1
  have HLN5 := Lib.hid (says_lens HA5.out HBD.out.2)
  have HS5 : Hid (V4.heap.size ≤ w5.heap.size) := hB5.size
  obtain ⟨_, r0, r1, r2⟩ := KW4.out.keep hB5 KW4.out.1
  go_wp2_with fail
  have hBN := below_new w5 (.cells #[.int .i64 n', .int .i64 t', .slice A5 rs5.length c5] 32)
  have hKN := box_new w5 (.int .i64 n') (.int .i64 t') (.slice A5 rs5.length c5) 32
  generalize (w5.alloc (.cells #[.int .i64 n', .int .i64 t', .slice A5 rs5.length c5] 32)) = V5 at hBN hKN ⊢
  have HB5 := Lib.hid (hB5.trans (hBN.mono hB5.size))
  have HO55 := Lib.hid (hO5.below hBN (Nat.le_refl _)); clear hO5 hB5 hBN r0 r1 r2
  have KG5 := Lib.hid hKN; clear hKN
  have KA5 := Lib.hid (KA4.out.keep HB5.out KA4.out.1)
  have KW5 := Lib.hid (KW4.out.keep HB5.out KW4.out.1)
  have KX5 := Lib.hid (KX4.out.keep HB5.out KX4.out.1)
  have HO35 := Lib.hid (HO34.out.below HB5.out (Nat.le_refl _))
  have HO45 := Lib.hid (HO4.out.below HB5.out (Nat.le_refl _))
  have HW5 := Lib.hid (HW4.out.trans (HB5.out.mono HW4.out.size))
  clear KA4 KW4 KX4 HO34 HO4 HW4 HB5
  -- they say the same
  refine (eqGrammar_any _ _ _ _ _ _ _ _ _ _ _ HO55.out.rls HO35.out.rls hlen5 HLN5.out).mono ?_
  rintro e w6 ⟨rfl, hB6⟩
  rw [eqG_t (HA5.out.trans HA3.out.symm)]
  have hok : (ok != ok) = false := by simp
  have KA := Lib.hid (KA5.out.keep hB6 KA5.out.1)
  have KW := Lib.hid (KW5.out.keep hB6 KW5.out.1)
  have KX := Lib.hid (KX5.out.keep hB6 KX5.out.1)
  have KG := Lib.hid (KG5.out.keep hB6 KG5.out.1)
  have HO36 := Lib.hid (HO35.out.below hB6 (Nat.le_refl _))
  have HO46 := Lib.hid (HO45.out.below hB6 (Nat.le_refl _))
  have HO56 := Lib.hid (HO55.out.below hB6 (Nat.le_refl _))
  have HW6 := Lib.hid (HW5.out.trans (hB6.mono HW5.out.size))
  have HR6 := Lib.hid ((HX.out.keep HW6.out).more HW6.out.size)
  clear hB6 KA5 KW5 KX5 KG5 HO35 HO45 HO55 HW5
  obtain ⟨_, x0, x1, x2, x3, x4, x5⟩ := KX.out
  obtain ⟨_, a0, a1, a2, a3, a4, a5⟩ := KA.out
  go_wp2_with fail
  go_region_held3 (fun w' => w'.cell? ⟨w4.heap.size, 0, none⟩ = some (.int .i64 b4.n) ∧ w'.cell? ⟨w4.heap.size, 1, none⟩ = some (.int .i64 b4.t) ∧ w'.cell? ⟨w4.heap.size, 2, none⟩ = some (.slice b4.Ap b4.P.length b4.cp) ∧ w'.cell? ⟨w4.heap.size, 3, none⟩ = some (.slice b4.Ao b4.O.length b4.co) ∧ w'.cell? ⟨w4.heap.size, 4, none⟩ = some (.slice b4.Ae b4.E.length b4.ce) ∧ w'.cell? ⟨w4.heap.size, 5, none⟩ = some (.slice b4.Af b4.F.length b4.cf) ∧ w'.cell? ⟨w.heap.size, 0, none⟩ = some (.int .i64 b.n) ∧ w'.cell? ⟨w.heap.size, 1, none⟩ = some (.int .i64 b.t) ∧ w'.cell? ⟨w.heap.size, 2, none⟩ = some (.slice b.Ap b.P.length b.cp) ∧ w'.cell? ⟨w.heap.size, 3, none⟩ = some (.slice b.Ao b.O.length b.co) ∧ w'.cell? ⟨w.heap.size, 4, none⟩ = some (.slice b.Ae b.E.length b.ce) ∧ w'.cell? ⟨w.heap.size, 5, none⟩ = some (.slice b.Af b.F.length b.cf))
    (first | exact ⟨v0, v1, v2, v3, v4, v5, u0, u1, u2, u3, u4, u5⟩ | exact ⟨y0, y1, y2, y3, y4, y5, z0, z1, z2, z3, z4, z5⟩ | exact ⟨x0, x1, x2, x3, x4, x5, a0, a1, a2, a3, a4, a5⟩)
    (first
    | (go_at_call 32
       refine (toBinaryA_any _ _ ?_ HLN.out).mono ?_
       · exact HR6.out.keep (by go_grown)
       rintro e w7 ⟨b7, rfl, ha7, hO7, _, hB7', hP7⟩
       have HP7 := Lib.hid hP7; clear hP7
       have hB7 : Below w6.heap.size w6 w7 := Below.trans (by go_grown) hB7'
       obtain ⟨_, y0, y1, y2, y3, y4, y5⟩ := KX.out.keep hB7 KX.out.1
       obtain ⟨_, z0, z1, z2, z3, z4, z5⟩ := KA.out.keep hB7 KA.out.1
       have HO7 := Lib.hid hO7
       have HA7 := Lib.hid ha7
       have HB7 := Lib.hid hB7
       clear hO7 ha7 hB7 hB7')
    | (go_at_call 27
       refine (eqBinary_any _ _ _ ?_ ?_ HLN4.out (HA4.out.trans HA7.out.symm)).mono ?_
       · exact (HO46.out.read.keep HB7.out).more HB7.out.size
       · exact HO7.out.read
       rintro e w8 ⟨rfl, hB8'⟩
       have hB8 : Below w6.heap.size w6 w8 := HB7.out.trans (hB8'.mono HB7.out.size)
       obtain ⟨_, v0, v1, v2, v3, v4, v5⟩ := KX.out.keep hB8 KX.out.1
       obtain ⟨_, u0, u1, u2, u3, u4, u5⟩ := KA.out.keep hB8 KA.out.1
       have HB8 := Lib.hid hB8
       clear hB8 hB8'))
  rename_i hHeld
  clear hHeld x0 x1 x2 x3 x4 x5 a0 a1 a2 a3 a4 a5 y0 y1 y2 y3 y4 y5 z0 z1 z2 z3 z4 z5 u0 u1 u2 u3 u4 u5
  have HW8 := Lib.hid (HW6.out.trans (HB8.out.mono HW6.out.size))
  have HO38 := Lib.hid (HO36.out.below HB8.out (Nat.le_refl _))
  have HO48 := Lib.hid (HO46.out.below HB8.out (Nat.le_refl _))
  have HO58 := Lib.hid (HO56.out.below HB8.out (Nat.le_refl _))
  have KA8 := Lib.hid (KA.out.keep HB8.out KA.out.1)
  have KW8 := Lib.hid (KW.out.keep HB8.out KW.out.1)
  have KG8 := Lib.hid (KG.out.keep HB8.out KG.out.1)
  clear HO36 HO46 HO56 KA KW KX KG HW6 HR6 HB8 HO7 HA7 HB7
  -- the argument is marked
  go_wp2_with fail
  refine (markBinary_any _ _ _ _ HO48.out HP4.out HLN4.out (by omega) (by omega)).mono ?_
  rintro e w9 ⟨rfl, _, hS9⟩
  have HB9 : Hid (Below (w.heap.size + 1) w8 w9) := hS9.below (by have := KA8.out.1; omega) fun i hi hI => by have := (HI4.out i hI).1; have := HS3.out; have := HSV.out; omega
  have HW9 := Lib.hid (HW8.out.trans (HB9.out.mono (by omega)))
  have KA9 := Lib.hid (KA8.out.keep HB9.out (by omega))
  have KW9 := Lib.hid (KW8.out.save hS9 fun hI => by have := (HI4.out _ hI).1; have := HSV.out; omega)
  have KG9 := Lib.hid (KG8.out.save hS9 fun hI => by have := (HI4.out _ hI).2; have := HS5.out; have := HS4'.out; omega)
  have HO39 := Lib.hid (HO38.out.kept hS9 fun b hb hI => by have := (HI3.out b hb).2; have := (HI4.out b hI).1; have := HSV.out; omega)
  have HO59 := Lib.hid (HO58.out.kept hS9 fun b hb hI => by have := (HI5.out b hb).1; have := (HI4.out b hI).2; have := HS4'.out; omega)
  clear v0 v1 v2 v3 v4 v5 hS9 HO48 HO38 HO58 KA8 KW8 KG8 HW8
  obtain ⟨_, p0, p1, p2⟩ := KG9.out
  obtain ⟨_, q0, q1, q2⟩ := KW9.out
  go_wp2_with fail
  refine (eqGrammar_any _ _ _ _ _ _ _ _ _ _ _ HO59.out.rls HO39.out.rls hlen5 HLN5.out).mono ?_
  rintro e w10 ⟨rfl, hB10⟩
  rw [eqG_t (HA5.out.trans HA3.out.symm)]
  have HW10 := Lib.hid (HW9.out.trans (hB10.mono HW9.out.size))
  have KA10 := Lib.hid (KA9.out.keep hB10 KA9.out.1)
  have KW10 := Lib.hid (KW9.out.keep hB10 KW9.out.1)
  have KG10 := Lib.hid (KG9.out.keep hB10 KG9.out.1)
  have HO310 := Lib.hid (HO39.out.below hB10 (Nat.le_refl _))
  have HO510 := Lib.hid (HO59.out.below hB10 (Nat.le_refl _))
  clear hB10 HW9 KA9 KW9 KG9 HO39 HO59 HB9 p0 p1 p2 q0 q1 q2
  obtain ⟨_, p0, p1, p2⟩ := KG10.out
  -- the answer is marked, and found again
  go_wp2_with fail
  refine (markGrammar_any _ _ _ _ _ _ _ _ HO510.out hlen5 HLN5.out (by omega) (by omega)).mono ?_
  rintro e w11 ⟨rfl, hO11, hS11⟩
  have HB11 : Hid (Below (w.heap.size + 1) w10 w11) := hS11.below (by have := KA10.out.1; omega) fun i hi hI => by have := (HI5.out i hI).1; have := HS3.out; have := HSV.out; have := HS4.out; have := HS4'.out; omega
  have HW11 := Lib.hid (HW10.out.trans (HB11.out.mono (by omega)))
  have KA11 := Lib.hid (KA10.out.keep HB11.out (by omega))
  have KW11 := Lib.hid (KW10.out.save hS11 fun hI => by have := (HI5.out _ hI).1; have := HSV.out; have := HS4.out; have := HS4'.out; omega)
  have KG11 := Lib.hid (KG10.out.save hS11 fun hI => by have := (HI5.out _ hI).2; omega)
  have HO311 := Lib.hid (HO310.out.kept hS11 fun b hb hI => by have := (HI3.out b hb).2; have := (HI5.out b hI).1; have := HSV.out; have := HS4.out; have := HS4'.out; omega)
  have HO511 := Lib.hid hO11
  have hcn5 : cntTo rs5 rs5.length ≤ rs5.length * 1048577 := cntTo_le HLN5.out _
  clear hO11 hS11 HW10 KA10 KW10 KG10 HO310 HO510 HB11 p0 p1 p2
  obtain ⟨_, p0, p1, p2⟩ := KG11.out
  go_wp2_with fail
  refine (heldGrammar_any _ _ _ _ _ _ _ HO511.out.rls hlen5 HLN5.out (by omega) (by omega)).mono ?_
  rintro e w12 ⟨rfl, hB12⟩
  have hne : ((1 + (cntTo rs5 rs5.length : Int)) != (1 + (cntTo rs5 rs5.length : Int))) = false := by simp
  have HW12 := Lib.hid (HW11.out.trans (hB12.mono HW11.out.size))
  have KA12 := Lib.hid (KA11.out.keep hB12 KA11.out.1)
  have KW12 := Lib.hid (KW11.out.keep hB12 KW11.out.1)
  have KG12 := Lib.hid (KG11.out.keep hB12 KG11.out.1)
  have HO312 := Lib.hid (HO311.out.below hB12 (Nat.le_refl _))
  have HO512 := Lib.hid (HO511.out.below hB12 (Nat.le_refl _))
  have HR12 := Lib.hid ((HX.out.keep HW12.out).more HW12.out.size)
  clear hB12 HW11 KA11 KW11 KG11 HO311 HO511 p0 p1 p2
  obtain ⟨_, a0, a1, a2, a3, a4, a5⟩ := KA12.out
  -- the program once more
  go_wp2_with fail
  refine (toBinaryA_any _ _ HR12.out HLN.out).mono ?_
  rintro e w13 ⟨b13, rfl, ha13, hO13, _, hB13, hP13⟩
  have HP13 := Lib.hid hP13; clear hP13
  have HA13 := Lib.hid ha13; clear ha13
  have HO13 := Lib.hid hO13; clear hO13
  have HB13 := Lib.hid hB13; clear hB13
  have HW13 := Lib.hid (HW12.out.trans (HB13.out.mono HW12.out.size))
  clear a0 a1 a2 a3 a4 a5
  go_wp2_with fail
  refine (HIMP.out _ _ HO13.out.read (HL.out.keep HW13.out (Nat.le_refl _)) HA13.out).mono ?_
  rintro e w14 ⟨A14, c14, rs14, rfl, hO14, ha14, hB14⟩
  have HB14 := Lib.hid (HB13.out.trans (hB14.mono HB13.out.size)); clear hB14
  have HA14 := Lib.hid ha14; clear ha14
  have hlen14 : rs14.length ≤ 1048576 := says_len HA14.out HBD.out.1
  have HLN14 := Lib.hid (says_lens HA14.out HBD.out.2)
  obtain ⟨_, q0, q1, q2⟩ := KW12.out.keep HB14.out KW12.out.1
  go_wp2_with fail
  have hBN := below_new w14 (.cells #[.int .i64 n', .int .i64 t', .slice A14 rs14.length c14] 32)
  have hKN := box_new w14 (.int .i64 n') (.int .i64 t') (.slice A14 rs14.length c14) 32
  generalize (w14.alloc (.cells #[.int .i64 n', .int .i64 t', .slice A14 rs14.length c14] 32)) = V14 at hBN hKN ⊢
  clear q0 q1 q2 hKN
  have HB15 := Lib.hid (HB14.out.trans (hBN.mono HB14.out.size))
  have HO15 := Lib.hid (hO14.below hBN (Nat.le_refl _)); clear hO14 hBN
  have KG15 := Lib.hid (KG12.out.keep HB15.out KG12.out.1)
  have HO315 := Lib.hid (HO312.out.below HB15.out (Nat.le_refl _))
  have HO515 := Lib.hid (HO512.out.below HB15.out (Nat.le_refl _))
  have HW15 := Lib.hid (HW12.out.trans (HB15.out.mono HW12.out.size))
  clear KA12 KW12 KG12 HO312 HO512 HW12 HW13 HB13 HB14 HB15 HO13
  refine (eqGrammar_any _ _ _ _ _ _ _ _ _ _ _ HO15.out.rls HO315.out.rls hlen14 HLN14.out).mono ?_
  rintro e w16 ⟨rfl, hB16⟩
  rw [eqG_t (HA14.out.trans HA3.out.symm)]
  have KG16 := Lib.hid (KG15.out.keep hB16 KG15.out.1)
  have HO516 := Lib.hid (HO515.out.below hB16 (Nat.le_refl _))
  have HW16 := Lib.hid (HW15.out.trans (hB16.mono HW15.out.size))
  clear hB16 KG15 HO515 HW15 HO315 HO15
  obtain ⟨_, p0, p1, p2⟩ := KG16.out
  go_wp2_with fail
  refine (heldGrammar_any _ _ _ _ _ _ _ HO516.out.rls hlen5 HLN5.out (by omega) (by omega)).mono ?_
  rintro e w17 ⟨rfl, hB17⟩
  have HW17 := Lib.hid (HW16.out.trans (hB17.mono HW16.out.size))
  clear hB17 p0 p1 p2
  go_wp2
  go_ret
  exact ⟨rfl, HW17.out⟩

end Go.Proofs.YtjfhkcoiomokoaaDoor

/- From the reading of an argument to its cells: a slice of lists of numbers, a binary grammar. -/

namespace Go.Proofs.YtjfhkcoiomokoaaDoor
open Go.ChangeShapes Go.WideShapes Go.ChangeAt Go.RowKit Go.Deep Go.Joins

theorem Tryd.cellsIntSS : Tryd.prog.cellsOf 27 = 1 := by kernel_rfl
theorem Tryd.cellsBinL : Tryd.prog.cellsOf 51 = 6 := by kernel_rfl

theorem array6 {α : Type} {cs : Array α} (h : cs.size = 6) : ∃ c0 c1 c2 c3 c4 c5, cs = #[c0, c1, c2, c3, c4, c5] := by
  obtain ⟨l⟩ := cs
  match l, h with
  | [c0, c1, c2, c3, c4, c5], _ => exact ⟨c0, c1, c2, c3, c4, c5, rfl⟩

instance : Inhabited Li := ⟨⟨none, [], 0⟩⟩

section
variable {H : Type} {enc : TypeId × Value → H} {W : World} {spare : Nat → Bool} {held : Bool}

set_option maxRecDepth 100000 in
theorem open_intSS {fuel : Nat} {v : Value} {y : DataW H × List MemPlace} (h : DataW.trod enc Tryd.prog W 0 spare held fuel 27 [v] = some y) :
    ∃ (A : Option Addr) (ls : List Li) (c : Nat), v = .slice A ls.length c ∧ ls.length ≤ c ∧ Lls W W.heap.size A ls ∧ ls.length ≤ maxLen ∧ (∀ u ∈ ls, u.r.length ≤ maxLen) ∧ FitL (sayL ls) := by
  rcases open_slice Tryd.underlying27 h with ⟨hcs, _⟩ | ⟨a, len, cap, m, n, D, Pl, hcs, _, hl, hm, hz, _, hel⟩
  · injection hcs with hcs
    subst hcs
    exact ⟨none, [], 0, rfl, Nat.le_refl _, fun h => by simp at h, by simp [maxLen], fun x hx => by simp at hx, fun x hx => by simp [sayL] at hx⟩
  · injection hcs with hcs
    subst hcs
    have hlm : len ≤ m := by rw [hz]; split <;> omega
    have each : ∀ i, i < len → ∃ u : Li, W.cell? (a.add i) = some (.slice u.a u.r.length u.c) ∧ u.r.length ≤ u.c ∧ Ints W W.heap.size u.a u.r ∧ u.r.length ≤ maxLen ∧ ∀ x ∈ u.r, F64 x := by
      intro i hi
      obtain ⟨cs', hc, ht⟩ := hel i (by omega)
      rw [Tryd.cellsIntS] at hc
      obtain ⟨_, hcl, hat⟩ := World.cells?_some hc
      match cs', hcl with
      | [q0], _ =>
        obtain ⟨A', xs, c', rfl, hxc, hI, hml, hF⟩ := open_intS ht
        exact ⟨⟨A', xs, c'⟩, by simpa [Addr.add] using hat 0 (by omega), hxc, hI, hml, hF⟩
    obtain ⟨f, hf⟩ := choose_lt each
    have hlen : ((List.range len).map f).length = len := by simp
    refine ⟨some a, (List.range len).map f, cap, by rw [hlen], by omega, fun hp => ?_, by omega, fun u hu => ?_, fun x hx => ?_⟩
    · obtain ⟨b, off, spot⟩ := a
      have hspot : spot = none := by simpa [Addr.add] using World.cell?_spot (hf 0 (by omega)).1
      subst hspot
      refine ⟨b, off, rfl, ?_, fun k u hu => ?_⟩
      · have := (hf 0 (by omega)).1
        exact lt_of_cell (b := b) (o := off) (by simpa [Addr.add] using this)
      · have hk := (List.getElem?_eq_some_iff.1 hu).1
        rw [hlen] at hk
        have hu' : f k = u := by simpa [hk] using hu
        subst hu'
        obtain ⟨h1, h2, h3, _, _⟩ := hf k hk
        rw [Go.WideShapes.add_plain] at h1
        exact ⟨h1, h2, h3⟩
    · obtain ⟨i, hi, rfl⟩ := List.mem_map.1 hu
      exact (hf i (List.mem_range.1 hi)).2.2.2.1
    · obtain ⟨u, hu, rfl⟩ := List.mem_map.1 hx
      obtain ⟨i, hi, rfl⟩ := List.mem_map.1 hu
      exact (hf i (List.mem_range.1 hi)).2.2.2.2

set_option maxRecDepth 100000 in
theorem open_binary {r : Reach} {b0 : Nat} {v : Value} {d : DataW H} {p : List MemPlace} (hv : Value.okWide Tryd.prog W r b0 51 v) (h : DataW.Trod enc Tryd.prog W 0 spare held 51 v d p) :
    ∃ b : Bi, v = (.agg #[.int .i64 b.n, .int .i64 b.t, .slice b.Ap b.P.length b.cp, .slice b.Ao b.O.length b.co, .slice b.Ae b.E.length b.ce, .slice b.Af b.F.length b.cf]) ∧ CapB b ∧ ReadB W W.heap.size b ∧ LenB maxLen b ∧ FitB b.say ∧ F64 b.n ∧ F64 b.t := by
  obtain ⟨cs, rfl, hsz⟩ := okWide_struct Tryd.underlying51 hv
  obtain ⟨c0, c1, c2, c3, c4, c5, rfl⟩ := array6 (hsz.trans Tryd.cellsBinL)
  obtain ⟨fuel, hf⟩ := h
  obtain ⟨xs, n, _, _, _, hlen, hfs⟩ := DataW.trod_struct Tryd.underlying51 hf
  match xs, hlen with
  | [y0, y1, y2, y3, y4, y5], _ =>
    have h0 : DataW.trod enc Tryd.prog W 0 spare held n 3 [c0] = some y0 := by simpa [Value.cells, Tryd.cellsInt, Tryd.cellsIntS, Tryd.cellsIntSS] using hfs 0 _ rfl
    have h1 : DataW.trod enc Tryd.prog W 0 spare held n 3 [c1] = some y1 := by simpa [Value.cells, Tryd.cellsInt, Tryd.cellsIntS, Tryd.cellsIntSS] using hfs 1 _ rfl
    have h2 : DataW.trod enc Tryd.prog W 0 spare held n 27 [c2] = some y2 := by simpa [Value.cells, Tryd.cellsInt, Tryd.cellsIntS, Tryd.cellsIntSS] using hfs 2 _ rfl
    have h3 : DataW.trod enc Tryd.prog W 0 spare held n 27 [c3] = some y3 := by simpa [Value.cells, Tryd.cellsInt, Tryd.cellsIntS, Tryd.cellsIntSS] using hfs 3 _ rfl
    have h4 : DataW.trod enc Tryd.prog W 0 spare held n 25 [c4] = some y4 := by simpa [Value.cells, Tryd.cellsInt, Tryd.cellsIntS, Tryd.cellsIntSS] using hfs 4 _ rfl
    have h5 : DataW.trod enc Tryd.prog W 0 spare held n 27 [c5] = some y5 := by simpa [Value.cells, Tryd.cellsInt, Tryd.cellsIntS, Tryd.cellsIntSS] using hfs 5 _ rfl
    obtain ⟨n, e0, _, w0⟩ := DataW.trod_int Tryd.underlying3 h0
    obtain ⟨t, e1, _, w1⟩ := DataW.trod_int Tryd.underlying3 h1
    injection e0 with e0
    injection e1 with e1
    subst e0 e1
    obtain ⟨Ap, P, cp, rfl, p1, p2, p3, p4, p5⟩ := open_intSS h2
    obtain ⟨Ao, O, co, rfl, o1, o2, o3, o4, o5⟩ := open_intSS h3
    obtain ⟨Ae, E, ce, rfl, i1, i2, i3, i4⟩ := open_intS h4
    obtain ⟨Af, F, cf, rfl, f1, f2, f3, f4, f5⟩ := open_intSS h5
    exact ⟨⟨n, t, Ap, P, cp, Ao, O, co, Ae, E, ce, Af, F, cf⟩, rfl, ⟨p1, o1, i1, f1⟩, ⟨p2, o2, i2, f2⟩, ⟨p3, p4, o3, o4, i3, f3, f4⟩, ⟨p5, o5, i4, f5⟩, bounds_i64 w0, bounds_i64 w1⟩
end

end Go.Proofs.YtjfhkcoiomokoaaDoor

/- The law of BinaryGrammar holds of every binary grammar that can be read: the call returns true, and the binary grammar reads afterwards as it read before. Conditions: the package's table of limits is as the program's text lays it (tied by the given tie). -/

namespace Go.Proofs.YtjfhkcoiomokoaaDoor
open Go.ChangeShapes Go.WideShapes Go.ChangeAt Go.RowKit

set_option maxRecDepth 100000 in
theorem binaryGrammar_lifted (os : Os) (started : os.Started) (H : Type) (enc : TypeId × Value → H) :
    ReturnsInHanded {} Tryd.checked os 10 .any (fun w args => (Rows.fnExactBinaryGrammarSpec.pre enc Tryd.prog Tryd.f10 [] false w args ∧ laidMetH Tryd.prog laid1 w) ∧ sizedMet enc Tryd.prog Tryd.f10 (OpenSpec.ofChange Rows.fnExactBinaryGrammarSpec) false w args)
      (Rows.fnExactBinaryGrammarSpec.post enc Tryd.prog Tryd.f10 false true false false) := by
  refine returnsInHanded_of_change_and (C := Tryd.checked) (X := fun w _ => laidMetH Tryd.prog laid1 w) (fun _ _ _ hh h => h.of_heap hh) Tryd.own started (by kernel_rfl) Tryd.func10
    (ChangeSpec.witness_shaped (enc := enc) (C := Tryd.checked) (os := os) (X := fun w _ => laidMetH Tryd.prog laid1 w) false (World.doorLaid Tryd.prog 400 os) #[.agg #[.int .i64 0, .int .i64 0, .slice none 0 0, .slice none 0 0, .slice none 0 0, .slice none 0 0]] 8 rfl (World.shaped_of_RefB (by kernel_rfl) (by kernel_rfl)) (by kernel_rfl) (by kernel_rfl) (by kernel_rfl) (door_met os _)) ?_
  intro W base args ds gs before hval0 hW _ _ hL _
  have hval : ∀ (j : Nat) t v, Tryd.f10.params[j]? = some t → args[j]? = some v → Value.okWide Tryd.prog W .any base t v := hval0
  have hW' := hW
  obtain ⟨p, q, hA0, hV0, rfl, hfz, hnd⟩ := hW
  have hA : DataW.TrodAll enc Tryd.prog W 0 (fun _ => true) true Tryd.f10.params.toList args.toList ds p := hA0
  have hV : DataW.TrodVars enc Tryd.prog W (fun _ => true) ["loop.example/g00758/impl.limits"] gs q := hV0
  rw [Tryd.params10] at hA hval
  obtain ⟨v0, d0, rfl, rfl, h0⟩ := trodAll_one hA
  obtain ⟨g, tg, cs, fuel, dg, pg, rfl, _⟩ := trodVars_one hV
  obtain ⟨b, rfl, _, hR, hM, hF, _, _⟩ := open_binary (hval 0 51 v0 rfl rfl) h0
  refine (law_BinaryGrammar b W hR (lims_of_laid hL) hM hF).mono fun e W' ⟨he, hb⟩ => ?_
  subst he
  exact ⟨_, rfl, ends_one hW' Tryd.params10 rfl rfl (by kernel_rfl) (of_decide_eq_true (by kernel_rfl)) (by kernel_rfl) hb⟩

theorem binaryGrammar_holds : Rows.FnExactBinaryGrammarSaid :=
  OpenClaim.holds_of_wide 10 Tryd.f10 rfl rfl rfl rfl rfl rfl rfl ⟨rfl, rfl, rfl, rfl, rfl⟩ rfl rfl rfl rfl rfl (by kernel_rfl) Tryd.func10 (by kernel_rfl)
    (of_decide_eq_true (by kernel_rfl)) (by unfold Func.isWrapper; first | (rw [if_pos (by decide +kernel)]; kernel_rfl) | (rw [if_neg (by decide +kernel)]; exact ⟨rfl, rfl⟩))
    (fun os started H enc _ => binaryGrammar_lifted os started H enc)

theorem binaryGrammar_card : Rows.FnExactBinaryGrammarCardSaid :=
  Claim7.holds_tied_plain_at .later [] [.data] true (true, "541ab252535a64f61b383d981b2006ce37062e3785817d7f4eac89880f20ffa6") false
    binaryGrammar_holds (fun _ h => by cases h) (by kernel_rfl) (fun _ h => by cases h) fnExactBinaryGrammar_row_tie rfl ⟨rfl, rfl⟩ (by kernel_rfl) rfl
    (fun f fn hf hfn => by
      obtain rfl : f = 10 := Option.some.inj ((show Tryd.prog.funcNamed "loop.example/g00758/laws.FnExactBinaryGrammar" = some 10 by kernel_rfl).symm.trans hf) |>.symm
      obtain rfl : fn = Tryd.f10 := (Option.some.inj (Tryd.func10.symm.trans hfn)).symm
      exact ⟨by kernel_rfl, fun j t ht => by
        rw [Tryd.params10] at ht
        have hm : t ∈ [51] := by simpa using Array.mem_of_getElem? ht
        have hall : ([51].all fun u => !Tryd.prog.wantsStandIn u) = true := by kernel_rfl
        exact (show Tryd.prog.wantsStandIn t = false by simpa using List.all_eq_true.1 hall t hm)⟩)
    (by kernel_rfl)

#print axioms binaryGrammar_card
end Go.Proofs.YtjfhkcoiomokoaaDoor
