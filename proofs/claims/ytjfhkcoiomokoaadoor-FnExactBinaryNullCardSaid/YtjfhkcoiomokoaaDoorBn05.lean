/- The law of BinaryNull holds of every binary grammar that can be read: the call returns true, and the binary grammar reads afterwards as it read before. Conditions: the package's table of limits is as the program's text lays it (tied by the given tie). -/
import Derived.Test.YtjfhkcoiomokoaaDoorBn04
import Derived.Test.YtjfhkcoiomokoaaDoorBn03
import Derived.Test.YtjfhkcoiomokoaaDoorBn02
import Derived.LoopN
import Derived.Deep.LoopGhost
import Derived.Test.YtjfhkcoiomokoaaDoorBn01
import Derived.Deep.RegionHeld3
import Derived.Test.YtjfhkcoiomokoaaDoorCards

namespace Go.Proofs.YtjfhkcoiomokoaaDoor
open Go.RowKit
open Go.Sort (grow)

theorem cell0 {w : World} {B : Nat} {A : Option Addr} {xs : List Int} (h : Ints w B A xs) (h0 : 0 < xs.length) : ∃ b o, A = some ⟨b, o, none⟩ ∧ b < B ∧ w.cell? ⟨b, o, none⟩ = some (.int .i64 (xs.getD 0 0)) := by
  obtain ⟨b, o, e, hb, hc⟩ := h.at_ h0
  exact ⟨b, o, e, hb, by rw [getD_zero h0]; exact hc⟩

/-- The first k lists are as they should be. -/
def RisTo (n t long : Int) (xs : List (List Int)) (k : Nat) : Prop := LongTo long xs k ∧ SymTo n t xs k ∧ RiseTo xs k

set_option maxRecDepth 20000 in
set_option maxHeartbeats 1000000 in
theorem l5Rising_any (b : Bi) (long : Nat) (hl2 : 2 ≤ long) (hl3 : long ≤ 3) (A : Option Addr) (ls : List Li) (c : Nat) (w : World) (hn : 1 ≤ b.n) (hn' : b.n ≤ 40) (ht : 1 ≤ b.t) (ht' : b.t ≤ 4) (hx : Lls w w.heap.size A ls) (h1 : ls.length ≤ 1048576) (h2 : ∀ u ∈ ls, u.r.length ≤ 1048576) :
    Calls Tryd.prog 67 #[(.agg #[.int .i64 b.n, .int .i64 b.t, .slice b.Ap b.P.length b.cp, .slice b.Ao b.O.length b.co, .slice b.Ae b.E.length b.ce, .slice b.Af b.F.length b.cf]), .slice A ls.length c, .int .i64 long] w fun e w' => e = .returned (.bool (bP (GoodLs b.n b.t long (sayL ls)))) ∧ Below w.heap.size w w' := by
  have HX := Lib.hid hx; clear hx
  have H2 := Lib.hid h2; clear h2
  have HLN : Hid ((sayL ls).length = ls.length) := sayL_len
  have hB0 : Below w.heap.size w (w.alloc (.cells #[.int .i64 b.n, .int .i64 b.t, .slice b.Ap b.P.length b.cp, .slice b.Ao b.O.length b.co, .slice b.Ae b.E.length b.ce, .slice b.Af b.F.length b.cf] 45)) := by go_grown
  have BX0 := Box6.new w b 45
  go_enter Tryd.func67, Tryd.ntmps67
  go_wp2
  generalize (w.alloc (.cells #[.int .i64 b.n, .int .i64 b.t, .slice b.Ap b.P.length b.cp, .slice b.Ao b.O.length b.co, .slice b.Ae b.E.length b.ce, .slice b.Af b.F.length b.cf] 45)) = W at hB0 BX0 ⊢
  go_loopw [13] (fun i wr => ∃ (k : Nat), k ≤ ls.length ∧ i = .int .i64 k ∧ Below w.heap.size w wr ∧ Box6 wr w.heap.size b ∧ Hid (RisTo b.n b.t long (sayL ls) k)) (fun i _ => ls.length - (intOf i).toNat)
  case atStart => exact ⟨0, by omega, rfl, hB0, BX0, fun j x h => absurd h (by omega), fun j x h => absurd h (by omega), RiseTo.zero _⟩
  case round =>
    clear hB0 BX0
    obtain ⟨k, hk, rfl, hB, hbox, H⟩ := hrel
    by_cases hlt : k < ls.length
    · obtain ⟨p, o, rfl, hb, c1, c2, c3⟩ := (HX.out.keep hB).at_ hlt
      obtain ⟨g0, g1, g2, g3, g4, g5, g6⟩ := id hbox
      have HBX := Lib.hid hbox; clear hbox
      have hlen2 := H2.out ls[k] (List.getElem_mem hlt)
      have HRG : Hid (∀ d os, Below w.heap.size w (grow (redrawn wr d) os)) := fun d os => hB.trans ((below_regrown wr d os).mono hB.size)
      have HWR : Hid (∀ d os, Below wr.heap.size wr (grow (redrawn wr d) os)) := fun d os => below_regrown wr d os
      by_cases hne : (ls[k].r.length : Int) = long
      case neg =>
        have hd : ((ls[k].r.length : Int) != (long : Int)) = true := bne_t hne
        have HE : Hid (bP (GoodLs b.n b.t long (sayL ls)) = false) := bP_f fun h => hne (h.1 k _ (by rw [HLN.out]; exact hlt) (sayL_at hlt))
        clear hne c2 c3 g1 g2 g3 g4 g5 g6
        go_wp2
        refine wp_region_quiet_below (by kernel_rfl) (by kernel_rfl) ?_
        repeat (first | go_big_quiet_step (fail) | quiet_step (fail))
        refine wpQuiet_nil ?_
        intro _ hw'
        obtain ⟨⟨dq, osq⟩, hw''⟩ := hw'
        subst hw''
        go_wp2
        go_ret
        exact ⟨ret_b HE.out.symm, HRG.out dq osq⟩
      have hd : ((ls[k].r.length : Int) != (long : Int)) = false := bne_f hne
      have HLK : Hid ((ls[k].r.length : Int) = long) := hne
      have hr0 : 1 < ls[k].r.length := by omega
      have hc0 : 1 < ls[k].c := by omega
      have hci : (1 : Int) < (ls[k].c : Int) := by omega
      have hri : (1 : Int) < (ls[k].r.length : Int) := by omega
      have hr00 : (0 : Int) < (ls[k].r.length : Int) := by omega
      clear hne c2
      obtain ⟨p', o', ea, hb', d1⟩ := cell0 c3 (by omega)
      have C3 := Lib.hid (c3.more hB.size); clear c3
      have c1' := c1
      rw [ea] at c1' C3
      have q0 := cell_regrown d1
      have q1 := cell_regrown g1
      clear c1 g1 g2 g3 g4 g5 g6 d1
      generalize hx0 : ls[k].r.getD 0 0 = x0 at q0
      have HX0 := Lib.hid hx0; clear hx0
      have hwn : IntKind.i64.wrap (b.n - 1) = b.n - 1 := by rw [IntKind.wrap_i64]; omega
      have HCG : Hid (∀ d os, Calls Tryd.prog 54 #[.int .i64 x0, .int .i64 0, .int .i64 (b.n - 1)] (grow (redrawn wr d) os) fun e w' => e = .returned (.bool (nonB b.n x0)) ∧ Below (grow (redrawn wr d) os).heap.size (grow (redrawn wr d) os) w') := fun d os => by
        have h := l1In_any x0 0 (b.n - 1) (grow (redrawn wr d) os)
        rw [non_in] at h
        exact h.mono fun e w' ⟨h1, h2⟩ => ⟨h1, h2 ▸ Below.refl _ _⟩
      cases hu : nonB b.n x0
      case false =>
        have HU := Lib.hid hu; clear hu
        have HE : Hid (bP (GoodLs b.n b.t long (sayL ls)) = false) := bP_f fun h => by
          have h1 := (h.2.1 k _ (by rw [HLN.out]; exact hlt) (sayL_at hlt)).1
          rw [HX0.out, HU.out] at h1; cases h1
        rw [HU.out] at HCG
        go_wp2
        refine wp_region_quiet_below (by kernel_rfl) (by kernel_rfl) ?_
        repeat (first | go_big_quiet_step (exact Calls.regrown_of (HCG.out _ _)) | quiet_step (exact Calls.regrown_of (HCG.out _ _)))
        refine wpQuiet_nil ?_
        intro _ hw'
        obtain ⟨⟨dq, osq⟩, hw''⟩ := hw'
        subst hw''
        go_wp2
        go_ret
        exact ⟨ret_b HE.out.symm, HRG.out dq osq⟩
      have HU := Lib.hid hu; clear hu
      rw [HU.out] at HCG
      have HNL : Hid (LongTo long (sayL ls) (k + 1)) := upto_next (Q := fun x : List Int => (x.length : Int) = long) (sayL_at hlt) HLK.out H.out.1
      by_cases hk0 : k = 0
      · have hpos : decide (0 < k) = false := decide_eq_false (by omega)
        have hpos' : ¬ 0 < k := by omega
        have HNR : Hid (RiseTo (sayL ls) (k + 1)) := by rw [hk0]; exact RiseTo.none _
        clear hk0
        go_wp2
        refine wp_region_quiet_below (by kernel_rfl) (by kernel_rfl) ?_
        repeat (first | go_big_quiet_step (exact Calls.regrown_of (HCG.out _ _)) | quiet_step (exact Calls.regrown_of (HCG.out _ _)))
        refine wpQuiet_nil ?_
        intro _ hw'
        obtain ⟨⟨dq, osq⟩, hw''⟩ := hw'
        subst hw''
        have hBQ := HRG.out dq osq
        have hbq := HBX.out.keep (HWR.out dq osq) g0
        have CQ := Lib.hid ((C3.out.keep (HWR.out dq osq)).more (HWR.out dq osq).size)
        generalize (grow (redrawn wr dq) osq) = wq at hBQ hbq CQ ⊢
        have HCD : Hid (Ints wq wq.heap.size (some ⟨p', o' + 1, none⟩) (ls[k].r.drop 1)) := CQ.out.drop1
        have hdl : (ls[k].r.drop 1).length = ls[k].r.length - 1 := List.length_drop
        have HDL := Lib.hid hdl; clear hdl
        clear q0 q1 HCG CQ c1'
        obtain ⟨wA, hwA⟩ : ∃ x, x = wr := ⟨wr, rfl⟩
        subst hwA
        go_wp2
        go_loopw [49] (fun i wr => ∃ (m : Nat), m ≤ ls[k].r.length - 1 ∧ i = .int .i64 m ∧ Below wq.heap.size wq wr ∧ Box6 wr w.heap.size b ∧ Hid (∀ (j : Nat) (x : Int), j < m → (ls[k].r.drop 1)[j]? = some x → symB b.n b.t x = true)) (fun i _ => ls[k].r.length - 1 - (intOf i).toNat)
        case atStart => exact ⟨0, by omega, rfl, Below.refl _ _, hbq, fun j x h => absurd h (by omega)⟩
        case round =>
          obtain ⟨m, hm, rfl, hBm, hbm, HM⟩ := hrel
          by_cases hmt : m < ls[k].r.length - 1
          · obtain ⟨p2, o2, e2, _, cm⟩ := (HCD.out.keep hBm).at_ (k := m) (by rw [HDL.out]; exact hmt)
            injection e2 with e2
            injection e2 with e3 e4
            subst e3 e4
            obtain ⟨m0, m1, m2, m3, m4, m5, m6⟩ := id hbm
            have HBM := Lib.hid hbm; clear hbm
            generalize hxm : (ls[k].r.drop 1)[m]'(by rw [HDL.out]; exact hmt) = xm at cm
            have HXM : Hid ((ls[k].r.drop 1)[m]? = some xm) := by show _ = _; rw [List.getElem?_eq_getElem (by rw [HDL.out]; exact hmt), hxm]
            clear hxm
            cases hs : symB b.n b.t xm
            all_goals
              have HSY := Lib.hid hs; clear hs
              go_wp2_with fail
              refine (l5Symbol_any b _ _ hn hn' ht ht').mono ?_
              rintro e w3 ⟨rfl, hB3⟩
              rw [HSY.out]
              have hB4 : Below wq.heap.size wq w3 := hBm.trans (hB3.mono hBm.size)
            · have HE : Hid (bP (GoodLs b.n b.t long (sayL ls)) = false) := bP_f fun h => by
                have h1 := (h.2.1 k _ (by rw [HLN.out]; exact hlt) (sayL_at hlt)).2
                have h2 := symsB_iff.1 h1 m xm HXM.out
                rw [HSY.out] at h2; cases h2
              go_wp2
              go_ret
              exact ⟨ret_b HE.out.symm, hBQ.trans (hB4.mono hBQ.size)⟩
            · have HN : Hid (∀ (j : Nat) (x : Int), j < m + 1 → (ls[k].r.drop 1)[j]? = some x → symB b.n b.t x = true) := upto_next (Q := fun x => symB b.n b.t x = true) HXM.out HSY.out HM.out
              go_wp2
              go_roundw
              case rel => exact ⟨m + 1, by omega, by go_num, hB4, HBM.out.keep hB3 m0, HN.out⟩
              case measure => simp [intOf]; omega
          · have HS : Hid (SymTo b.n b.t (sayL ls) (k + 1)) := upto_next (Q := symL b.n b.t) (sayL_at hlt) ⟨by rw [HX0.out]; exact HU.out, symsB_of (k := m) (by rw [HDL.out]; exact hmt) HM.out⟩ H.out.2.1
            have HBM := Lib.hid hbm; clear hbm
            go_wp2
            go_roundw
            case rel => exact ⟨k + 1, by omega, by go_num, hBQ.trans (hBm.mono hBQ.size), HBM.out, HNL.out, HS.out, HNR.out⟩
            case measure => simp [intOf]; omega
      · have hpos : decide (0 < k) = true := decide_eq_true (by omega)
        have hpos' : 0 < k := by omega
        obtain ⟨j, hj⟩ : ∃ j, k = j + 1 := ⟨k - 1, by omega⟩
        have hltj : j < ls.length := by omega
        have hwk : IntKind.i64.wrap ((k : Int) - 1) = (j : Int) := by rw [IntKind.wrap_i64]; omega
        have hjl : (j : Int) < (ls.length : Int) := by omega
        obtain ⟨pp, oo, e', _, d1, d2, d3⟩ := (HX.out.keep hB).at_ hltj
        injection e' with e'
        injection e' with e1 e2
        subst e1 e2
        have qj := cell_regrown d1
        have D3 := Lib.hid (d3.more hB.size); clear d1 d2 d3
        have HLJ : Hid ((ls[j].r.length : Int) = long) := H.out.1 j _ (by omega) (sayL_at hltj)
        have hl21 : ls[j].r.length ≤ ls[k].r.length := by have := HLJ.out; have := HLK.out; omega
        have hl22 : ls[k].r.length ≤ ls[j].r.length := by have := HLJ.out; have := HLK.out; omega
        have hlenj := H2.out ls[j] (List.getElem_mem hltj)
        have HCH : Hid (∀ d os, Calls Tryd.prog 106 #[.slice ls[j].a ls[j].r.length ls[j].c, .slice (some ⟨p', o', none⟩) ls[k].r.length ls[k].c] (grow (redrawn wr d) os) fun e w' => e = .returned (.bool (bP (cmpL ls[j].r ls[k].r < 0))) ∧ Below (grow (redrawn wr d) os).heap.size (grow (redrawn wr d) os) w') := fun d os =>
          l5Less_any _ _ _ _ _ _ _ ((D3.out.keep (HWR.out d os)).more (HWR.out d os).size) ((C3.out.keep (HWR.out d os)).more (HWR.out d os).size) hlenj hl21 hl22
        have HJ := Lib.hid hj; clear hj
        cases hq : bP (cmpL ls[j].r ls[k].r < 0)
        · have HQ := Lib.hid hq; clear hq
          have HE : Hid (bP (GoodLs b.n b.t long (sayL ls)) = false) := bP_f fun h => bP_no HQ.out (h.2.2 j _ _ (by rw [HLN.out, ← HJ.out]; exact hlt) (sayL_at hltj) (by rw [← HJ.out]; exact sayL_at hlt))
          rw [HQ.out] at HCH
          clear hl21 hl22
          go_wp2
          refine wp_region_quiet_below (by kernel_rfl) (by kernel_rfl) ?_
          repeat (first | go_big_quiet_step (first | with_reducible exact Calls.regrown_of (HCG.out _ _) | exact Calls.regrown_of (HCH.out _ _)) | quiet_step (first | with_reducible exact Calls.regrown_of (HCG.out _ _) | exact Calls.regrown_of (HCH.out _ _)))
          refine wpQuiet_nil ?_
          intro _ hw'
          obtain ⟨⟨dq, osq⟩, hw''⟩ := hw'
          subst hw''
          go_wp2
          go_ret
          exact ⟨ret_b HE.out.symm, HRG.out dq osq⟩
        have HQ := Lib.hid hq; clear hq
        have HNR : Hid (RiseTo (sayL ls) (k + 1)) := by
          have h := H.out.2.2
          rw [HJ.out] at h
          have h' := h.step (b := ls[k].r) (sayL_at hltj) (by rw [← HJ.out]; exact sayL_at hlt) (bP_is HQ.out)
          rw [HJ.out]; exact h'
        rw [HQ.out] at HCH
        clear hl21 hl22
        go_wp2
        refine wp_region_quiet_below (by kernel_rfl) (by kernel_rfl) ?_
        repeat (first | go_big_quiet_step (first | with_reducible exact Calls.regrown_of (HCG.out _ _) | exact Calls.regrown_of (HCH.out _ _)) | quiet_step (first | with_reducible exact Calls.regrown_of (HCG.out _ _) | exact Calls.regrown_of (HCH.out _ _)))
        refine wpQuiet_nil ?_
        intro _ hw'
        obtain ⟨⟨dq, osq⟩, hw''⟩ := hw'
        subst hw''
        clear qj HCH hwk hjl
        have hBQ := HRG.out dq osq
        have hbq := HBX.out.keep (HWR.out dq osq) g0
        have CQ := Lib.hid ((C3.out.keep (HWR.out dq osq)).more (HWR.out dq osq).size)
        generalize (grow (redrawn wr dq) osq) = wq at hBQ hbq CQ ⊢
        have HCD : Hid (Ints wq wq.heap.size (some ⟨p', o' + 1, none⟩) (ls[k].r.drop 1)) := CQ.out.drop1
        have hdl : (ls[k].r.drop 1).length = ls[k].r.length - 1 := List.length_drop
        have HDL := Lib.hid hdl; clear hdl
        clear q0 q1 HCG CQ c1'
        obtain ⟨wA, hwA⟩ : ∃ x, x = wr := ⟨wr, rfl⟩
        subst hwA
        go_wp2
        go_loopw [49] (fun i wr => ∃ (m : Nat), m ≤ ls[k].r.length - 1 ∧ i = .int .i64 m ∧ Below wq.heap.size wq wr ∧ Box6 wr w.heap.size b ∧ Hid (∀ (j : Nat) (x : Int), j < m → (ls[k].r.drop 1)[j]? = some x → symB b.n b.t x = true)) (fun i _ => ls[k].r.length - 1 - (intOf i).toNat)
        case atStart => exact ⟨0, by omega, rfl, Below.refl _ _, hbq, fun j x h => absurd h (by omega)⟩
        case round =>
          obtain ⟨m, hm, rfl, hBm, hbm, HM⟩ := hrel
          by_cases hmt : m < ls[k].r.length - 1
          · obtain ⟨p2, o2, e2, _, cm⟩ := (HCD.out.keep hBm).at_ (k := m) (by rw [HDL.out]; exact hmt)
            injection e2 with e2
            injection e2 with e3 e4
            subst e3 e4
            obtain ⟨m0, m1, m2, m3, m4, m5, m6⟩ := id hbm
            have HBM := Lib.hid hbm; clear hbm
            generalize hxm : (ls[k].r.drop 1)[m]'(by rw [HDL.out]; exact hmt) = xm at cm
            have HXM : Hid ((ls[k].r.drop 1)[m]? = some xm) := by show _ = _; rw [List.getElem?_eq_getElem (by rw [HDL.out]; exact hmt), hxm]
            clear hxm
            cases hs : symB b.n b.t xm
            all_goals
              have HSY := Lib.hid hs; clear hs
              go_wp2_with fail
              refine (l5Symbol_any b _ _ hn hn' ht ht').mono ?_
              rintro e w3 ⟨rfl, hB3⟩
              rw [HSY.out]
              have hB4 : Below wq.heap.size wq w3 := hBm.trans (hB3.mono hBm.size)
            · have HE : Hid (bP (GoodLs b.n b.t long (sayL ls)) = false) := bP_f fun h => by
                have h1 := (h.2.1 k _ (by rw [HLN.out]; exact hlt) (sayL_at hlt)).2
                have h2 := symsB_iff.1 h1 m xm HXM.out
                rw [HSY.out] at h2; cases h2
              go_wp2
              go_ret
              exact ⟨ret_b HE.out.symm, hBQ.trans (hB4.mono hBQ.size)⟩
            · have HN : Hid (∀ (j : Nat) (x : Int), j < m + 1 → (ls[k].r.drop 1)[j]? = some x → symB b.n b.t x = true) := upto_next (Q := fun x => symB b.n b.t x = true) HXM.out HSY.out HM.out
              go_wp2
              go_roundw
              case rel => exact ⟨m + 1, by omega, by go_num, hB4, HBM.out.keep hB3 m0, HN.out⟩
              case measure => simp [intOf]; omega
          · have HS : Hid (SymTo b.n b.t (sayL ls) (k + 1)) := upto_next (Q := symL b.n b.t) (sayL_at hlt) ⟨by rw [HX0.out]; exact HU.out, symsB_of (k := m) (by rw [HDL.out]; exact hmt) HM.out⟩ H.out.2.1
            have HBM := Lib.hid hbm; clear hbm
            go_wp2
            go_roundw
            case rel => exact ⟨k + 1, by omega, by go_num, hBQ.trans (hBm.mono hBQ.size), HBM.out, HNL.out, HS.out, HNR.out⟩
            case measure => simp [intOf]; omega
    · have HN : Hid (bP (GoodLs b.n b.t long (sayL ls)) = true) := bP_t ⟨upto_end (Q := fun x : List Int => (x.length : Int) = long) (k := k) (by rw [HLN.out]; exact hlt) H.out.1, upto_end (Q := symL b.n b.t) (k := k) (by rw [HLN.out]; exact hlt) H.out.2.1, H.out.2.2.mono (.inr (by rw [HLN.out]; omega))⟩
      clear hbox
      go_wp2
      go_ret
      exact ⟨ret_b HN.out.symm, hB⟩

end Go.Proofs.YtjfhkcoiomokoaaDoor

/- What the reference's GoodBinary answers. -/

namespace Go.Proofs.YtjfhkcoiomokoaaDoor
open Go.RowKit
open Go.Sort (grow)

set_option maxRecDepth 20000 in
set_option maxHeartbeats 1000000 in
theorem specGoodB_any (b : Bi) (w : World) (hx : ReadB w w.heap.size b) (hm : LenB 1048576 b) :
    Calls Tryd.prog 31 #[(.agg #[.int .i64 b.n, .int .i64 b.t, .slice b.Ap b.P.length b.cp, .slice b.Ao b.O.length b.co, .slice b.Ae b.E.length b.ce, .slice b.Af b.F.length b.cf])] w fun e w' => e = .returned (.bool (bP (GoodBs b.say))) ∧ Below w.heap.size w w' := by
  have HX := Lib.hid hx; clear hx
  have HM := Lib.hid hm; clear hm
  have hB0 : Below w.heap.size w (w.alloc (.cells #[.int .i64 b.n, .int .i64 b.t, .slice b.Ap b.P.length b.cp, .slice b.Ao b.O.length b.co, .slice b.Ae b.E.length b.ce, .slice b.Af b.F.length b.cf] 45)) := by go_grown
  have BX0 := Box6.new w b 45
  go_enter Tryd.func31, Tryd.ntmps31
  go_wp2_with fail
  generalize (w.alloc (.cells #[.int .i64 b.n, .int .i64 b.t, .slice b.Ap b.P.length b.cp, .slice b.Ao b.O.length b.co, .slice b.Ae b.E.length b.ce, .slice b.Af b.F.length b.cf] 45)) = W at hB0 BX0 ⊢
  have HB0 := Lib.hid hB0; clear hB0
  have HBX0 := Lib.hid BX0; clear BX0
  obtain ⟨_, b0, b1, b2, b3, b4, b5⟩ := HBX0.out
  refine (l1In_any _ _ _ _).mono ?_
  rintro e w1 ⟨rfl, rfl⟩
  cases hn : inB 1 40 b.n
  · have HE : Hid (bP (GoodBs b.say) = false) := bP_f fun h => inB_not hn h.1
    clear hn
    go_wp2
    go_ret
    exact ⟨ret_b HE.out.symm, HB0.out⟩
  have HN := Lib.hid (inB_and hn); clear hn
  go_wp2_with fail
  refine (l1In_any _ _ _ _).mono ?_
  rintro e w1 ⟨rfl, rfl⟩
  cases ht : inB 1 4 b.t
  · have HE : Hid (bP (GoodBs b.say) = false) := bP_f fun h => inB_not ht h.2.1
    clear ht
    go_wp2
    go_ret
    exact ⟨ret_b HE.out.symm, HB0.out⟩
  have HT := Lib.hid (inB_and ht); clear ht
  have HFN : Hid ((sayL b.F).length = b.F.length) := sayL_len
  by_cases hfl : (b.F.length : Int) ≤ b.n
  case neg =>
    have HE : Hid (bP (GoodBs b.say) = false) := bP_f fun h => hfl (by have : ((sayL b.F).length : Int) ≤ b.n := h.2.2.2.2.2.1; rw [HFN.out] at this; exact this)
    go_wp2
    go_ret
    exact ⟨ret_b HE.out.symm, HB0.out⟩
  go_wp2
  have HFL : Hid ((b.F.length : Int) ≤ b.n) := hfl
  have hmF : b.F.length ≤ 1048576 := HM.out.f
  go_loopw [26] (fun i wr => ∃ (k : Nat), k ≤ b.F.length ∧ i = .int .i64 k ∧ Below w.heap.size w wr ∧ Box6 wr w.heap.size b ∧ Hid (LongTo 2 (sayL b.F) k)) (fun i _ => b.F.length - (intOf i).toNat)
  case atStart => exact ⟨0, by omega, rfl, HB0.out, HBX0.out, fun j x h => absurd h (by omega)⟩
  case round =>
    clear b0 b1 b2 b3 b4 b5 HBX0 HB0
    obtain ⟨k, hk, rfl, hB, hbox, H⟩ := hrel
    by_cases hlt : k < b.F.length
    · have HBX := Lib.hid hbox; clear hbox
      obtain ⟨p, o, ep, hb, c1, c2, c3⟩ := (HX.out.2.2.2.keep hB).at_ hlt
      have hmf := HM.out.fs _ (List.getElem_mem hlt)
      clear c2 c3
      rw [ep]
      by_cases hne : ((b.F[k].r.length : Nat) : Int) = 2
      · have HNX : Hid (LongTo 2 (sayL b.F) (k + 1)) := upto_next (Q := fun x : List Int => (x.length : Int) = 2) (sayL_at hlt) hne H.out
        go_wp2
        go_roundw
        case rel => exact ⟨k + 1, by omega, by go_num, hB, HBX.out, HNX.out⟩
        case measure => simp [intOf]; omega
      · have HE : Hid (bP (GoodBs b.say) = false) := bP_f fun h => hne (h.2.2.2.2.2.2 k _ (by rw [show b.say.F = sayL b.F from rfl, HFN.out]; exact hlt) (sayL_at hlt))
        go_wp2
        go_ret
        exact ⟨ret_b HE.out.symm, hB⟩
    · have HNX : Hid (LongTo 2 (sayL b.F) (sayL b.F).length) := upto_end (Q := fun x : List Int => (x.length : Int) = 2) (k := k) (by rw [HFN.out]; exact hlt) H.out
      have HBX := Lib.hid hbox
      have HB := Lib.hid hB
      obtain ⟨_, b0, b1, b2, b3, b4, b5⟩ := hbox
      clear hB
      go_wp2_with fail
      refine (l5Rising_any b 3 (by omega) (by omega) _ _ _ _ HN.out.1 HN.out.2 HT.out.1 HT.out.2 ((HX.out.1.keep HB.out).more HB.out.size) HM.out.p HM.out.ps).mono ?_
      rintro e w1 ⟨rfl, hB1⟩
      have HBX1 := Lib.hid (HBX.out.keep hB1 HBX.out.1)
      have HB1 := Lib.hid (HB.out.trans (hB1.mono HB.out.size)); clear hB1 HBX HB b0 b1 b2 b3 b4 b5
      obtain ⟨_, b0, b1, b2, b3, b4, b5⟩ := HBX1.out
      cases hP : bP (GoodLs b.n b.t (3 : Nat) (sayL b.P))
      · have HE : Hid (bP (GoodBs b.say) = false) := bP_f fun h => bP_no hP h.2.2.1
        clear hP
        go_wp2
        go_ret
        exact ⟨ret_b HE.out.symm, HB1.out⟩
      have HP := Lib.hid (bP_is hP); clear hP
      go_wp2_with fail
      refine (l5Rising_any b 2 (by omega) (by omega) _ _ _ _ HN.out.1 HN.out.2 HT.out.1 HT.out.2 ((HX.out.2.1.keep HB1.out).more HB1.out.size) HM.out.o HM.out.os).mono ?_
      rintro e w2 ⟨rfl, hB2⟩
      have HBX2 := Lib.hid (HBX1.out.keep hB2 HBX1.out.1)
      have HB2 := Lib.hid (HB1.out.trans (hB2.mono HB1.out.size)); clear hB2 HBX1 HB1 b0 b1 b2 b3 b4 b5
      obtain ⟨_, b0, b1, b2, b3, b4, b5⟩ := HBX2.out
      cases hO : bP (GoodLs b.n b.t (2 : Nat) (sayL b.O))
      · have HE : Hid (bP (GoodBs b.say) = false) := bP_f fun h => bP_no hO h.2.2.2.1
        clear hO
        go_wp2
        go_ret
        exact ⟨ret_b HE.out.symm, HB2.out⟩
      have HO := Lib.hid (bP_is hO); clear hO
      have hwn : IntKind.i64.wrap (b.n - 1) = b.n - 1 := by have := HN.out; rw [IntKind.wrap_i64]; omega
      have HE : Hid (bP (GoodBs b.say) = bP (GoodE b.n b.E)) := bP_congr ⟨fun h => h.2.2.2.2.1, fun h => ⟨HN.out, HT.out, HP.out, HO.out, h, (by show ((sayL b.F).length : Int) ≤ b.n; rw [HFN.out]; exact HFL.out), HNX.out⟩⟩
      go_wp2_with fail
      refine (l1Rising_any _ _ _ _ _ ((HX.out.2.2.1.keep HB2.out).more HB2.out.size) HM.out.e).mono ?_
      rintro e w3 ⟨rfl, hB3⟩
      go_wp2
      go_ret
      exact ⟨ret_b HE.out.symm, HB2.out.trans (hB3.mono HB2.out.size)⟩

end Go.Proofs.YtjfhkcoiomokoaaDoor

/- The reference's l1Has and l1Put: members of a rising list. -/

namespace Go.Proofs.YtjfhkcoiomokoaaDoor
open Go.RowKit

/-- A slice that owns numbers, new since block lo. -/
def OwnV (w : World) (lo : Nat) (v : Value) (xs : List Int) : Prop := w.ownsRow lo 3 1 v xs.length (vals xs)
theorem OwnV.shape {w : World} {lo : Nat} {v : Value} {xs : List Int} (h : OwnV w lo v xs) : ∃ A c, v = .slice A xs.length c ∧ xs.length ≤ c ∧ Ints w w.heap.size A xs := by
  rcases h.2 with ⟨rfl, h0⟩ | ⟨g, cap, cur, rfl, hlo, hb, h1, h2, h3, h4⟩
  · refine ⟨none, 0, by rw [h0], by omega, fun h => by omega⟩
  · refine ⟨_, cap, rfl, h1, fun hn => ⟨g, 0, rfl, (Array.getElem?_eq_some_iff.1 hb).1, fun k x hx => ?_⟩⟩
    rw [cell_of_row w g (0 + k) cur _ _ hb, Nat.zero_add]
    have hk := (List.getElem?_eq_some_iff.1 hx).1
    have e := congrArg (fun l => l[k]?) h4
    simp only [vals, List.getElem?_map, hx, Option.map_some] at e
    rw [List.getElem?_take, if_pos (by omega)] at e
    simpa using e
theorem OwnV.nil (w : World) (lo : Nat) : OwnV w lo (.slice none 0 0) [] := ⟨rfl, .inl ⟨rfl, rfl⟩⟩
theorem OwnV.keep {w w' : World} {lo : Nat} {v : Value} {xs : List Int} (h : OwnV w lo v xs) (hb : Below w.heap.size w w') : OwnV w' lo v xs := own_below h hb
theorem OwnV.lower {w : World} {lo lo' : Nat} {v : Value} {xs : List Int} (h : OwnV w lo v xs) (hl : lo' ≤ lo) : OwnV w lo' v xs := by
  refine ⟨h.1, ?_⟩
  rcases h.2 with h | ⟨g, cap, cur, e, hlo, r⟩
  · exact .inl h
  · exact .inr ⟨g, cap, cur, e, by omega, r⟩
theorem OwnV.own {w : World} {lo : Nat} {v : Value} {xs : List Int} (h : OwnV w lo v xs) : ∃ A c, v = .slice A xs.length c ∧ OwnI w lo A xs := ownI_of_row h

set_option maxRecDepth 20000 in
set_option maxHeartbeats 400000 in
theorem l1Has6_any (A : Option Addr) (xs : List Int) (c : Nat) (n : Int) (w : World) (hx : Ints w w.heap.size A xs) (h1 : xs.length ≤ 40) :
    Calls Tryd.prog 111 #[.slice A xs.length c, .int .i64 n] w fun e w' => e = .returned (.bool (xs.contains n)) ∧ w' = w := by
  have HX := Lib.hid hx; clear hx
  go_enter Tryd.func111, Tryd.ntmps111
  go_wp2
  go_loopw [9] (fun i wr => ∃ (k : Nat), k ≤ xs.length ∧ i = .int .i64 k ∧ wr = w ∧ Hid (∀ (j : Nat) (x : Int), j < k → xs[j]? = some x → x ≠ n)) (fun i _ => xs.length - (intOf i).toNat)
  case atStart => exact ⟨0, by omega, rfl, rfl, fun j x h => absurd h (by omega)⟩
  case round =>
    obtain ⟨k, hk, rfl, rfl, H⟩ := hrel
    by_cases hlt : k < xs.length
    · obtain ⟨p, o, rfl, hb, c1⟩ := HX.out.at_ hlt
      by_cases he : xs[k] = n
      · have HE : Hid (xs.contains n = true) := by
          show _ = _
          rw [List.contains_iff_mem]
          exact he ▸ List.getElem_mem hlt
        have ht := beq_t he
        clear he
        go_wp2
        go_ret
        exact ⟨ret_bool HE.out.symm, rfl⟩
      · have HE := Lib.hid (upto_step (Q := fun x => x ≠ n) hlt he H.out)
        have ht := beq_f he
        clear he
        go_wp2
        go_roundw
        case rel => exact ⟨k + 1, by omega, by go_num, by simp, HE.out⟩
        case measure => simp [intOf]; omega
    · have HE : Hid (xs.contains n = false) := by
        show _ = _
        cases h : xs.contains n
        · rfl
        · rw [List.contains_iff_mem] at h
          obtain ⟨j, hj⟩ := List.mem_iff_getElem?.1 h
          exact absurd rfl (H.out j n (by have := (List.getElem?_eq_some_iff.1 hj).1; omega) hj)
      go_wp2
      go_ret
      exact ⟨ret_bool HE.out.symm, rfl⟩

theorem rises_put {xs : List Int} {n : Int} {k : Nat} (hx : Rises xs) (h1 : ∀ (j : Nat) (x : Int), j < k → xs[j]? = some x → x < n) (h2 : ∀ x, xs[k]? = some x → n < x) :
    Rises (xs.take k ++ [n] ++ xs.drop k) ∧ (∀ x, x ∈ xs.take k ++ [n] ++ xs.drop k ↔ x = n ∨ x ∈ xs) := by
  have ha : ∀ x ∈ xs.take k, x < n := fun x hm => by
    obtain ⟨j, hj⟩ := List.mem_iff_getElem?.1 hm
    rw [List.getElem?_take] at hj
    split at hj
    · exact h1 j x (by assumption) hj
    · cases hj
  have hsp : (xs.take k ++ xs.drop k).Pairwise (· < ·) := by rw [List.take_append_drop]; exact hx
  obtain ⟨p1, p2, p3⟩ := List.pairwise_append.1 hsp
  have hb : ∀ x ∈ xs.drop k, n < x := fun x hm => by
    cases hd : xs.drop k with
    | nil => rw [hd] at hm; cases hm
    | cons y l =>
      have h0 : xs[k]? = some y := by
        have := congrArg (fun l => l[0]?) hd
        simpa using this
      have hy := h2 y h0
      rw [hd] at hm p2
      rcases List.mem_cons.1 hm with rfl | hm
      · exact hy
      · have := (List.pairwise_cons.1 p2).1 x hm
        omega
  refine ⟨?_, fun x => ?_⟩
  · show List.Pairwise _ _
    rw [List.append_assoc]
    refine List.pairwise_append.2 ⟨p1, List.pairwise_append.2 ⟨by simp, p2, fun a h b hb' => by simp at h; subst h; exact hb b hb'⟩, fun a h b hb' => ?_⟩
    rcases List.mem_append.1 hb' with h' | h'
    · simp at h'; subst h'; exact ha a h
    · exact p3 a h b h'
  · have e : x ∈ xs ↔ x ∈ xs.take k ∨ x ∈ xs.drop k := by rw [← List.mem_append, List.take_append_drop]
    simp only [List.mem_append, List.mem_singleton, e]
    constructor
    · rintro ((h | h) | h)
      · exact .inr (.inl h)
      · exact .inl h
      · exact .inr (.inr h)
    · rintro (h | h | h)
      · exact .inl (.inr h)
      · exact .inl (.inl h)
      · exact .inr h

/-- What l1Put ends in: a new rising list with one member more. -/
def PutOne (w : World) (xs : List Int) (n : Int) (e : Ending) (w' : World) : Prop :=
  ∃ v ys, e = .returned v ∧ Rises ys ∧ (∀ x, x ∈ ys ↔ x = n ∨ x ∈ xs) ∧ ys.length = xs.length + 1 ∧ OwnV w' w.heap.size v ys ∧ Below w.heap.size w w'

theorem Ints.src2 {w : World} {B : Nat} {ad : Addr} {xs : List Int} (h : Ints w B (some ad) xs) : ∀ (j : Nat) (v : Value), (vals xs)[j]? = some v → w.cell? (ad.add j) = some v := fun j v hv => by
  have hp : 0 < xs.length := by have := (List.getElem?_eq_some_iff.1 hv).1; rw [vals_length] at this; omega
  obtain ⟨ad', e, h⟩ := h.src hp
  injection e with e
  subst e
  exact h j v hv
theorem Ints.take {w : World} {B : Nat} {A : Option Addr} {xs : List Int} (h : Ints w B A xs) (k : Nat) : Ints w B A (xs.take k) := by
  intro hn
  obtain ⟨b, o, e, hb, hc⟩ := h (by rw [List.length_take] at hn; omega)
  refine ⟨b, o, e, hb, fun j x hx => hc j x ?_⟩
  rw [List.getElem?_take] at hx
  split at hx
  · exact hx
  · cases hx
theorem Ints.drop {w : World} {B p o : Nat} {xs : List Int} (h : Ints w B (some ⟨p, o, none⟩) xs) (k : Nat) : Ints w B (some ⟨p, o + k, none⟩) (xs.drop k) := by
  intro hn
  obtain ⟨b, o', e, hb, hc⟩ := h (by rw [List.length_drop] at hn; omega)
  injection e with e
  injection e with e1 e2
  subst e1 e2
  refine ⟨p, o + k, rfl, hb, fun j x hx => ?_⟩
  rw [List.getElem?_drop] at hx
  rw [Nat.add_assoc]
  exact hc (k + j) x hx

set_option maxRecDepth 20000 in
set_option maxHeartbeats 1000000 in
theorem l1Put_any (lo : Nat) (v : Value) (xs : List Int) (n : Int) (w : World) (hv : OwnV w lo v xs) (hr : Rises xs) (hn : n ∉ xs) (h1 : xs.length ≤ 40) :
    Calls Tryd.prog 99 #[v, .int .i64 n] w (PutOne w xs n) := by
  obtain ⟨i0, hi0, hz0, hz1, hz2⟩ := info_of Tryd.infoInt
  rcases hv.2 with ⟨rfl, h0⟩ | ⟨g, c, cur, rfl, hlo, hb, hc, hm, h3, h4⟩
  · have e : xs = [] := List.eq_nil_of_length_eq_zero h0
    subst e
    clear hv hr hn h0 h1
    have HE0 := Lib.hid (own_empty w)
    have HB0 : Hid (Below w.heap.size w (w.alloc (.cells #[] 3))) := (Below.refl w.heap.size w).alloc (Nat.le_refl _) _
    go_enter Tryd.func99, Tryd.ntmps99
    go_wp2
    refine wp_loop_rounds 1 ?_
    rw [rounds_succ]
    have HA1 := Lib.hid (HE0.out.alloc (.cells #[.int .i64 n] 3))
    have hnew := cell_one_new (w.alloc (.cells #[] 3)) (.int .i64 n) 3
    rw [World.size_alloc] at hnew
    have HN2 := Lib.hid hnew; clear hnew
    go_wp2_with (first
      | (at_builtin
         refine append_nil_at rfl (.tmp 34) (.tmp 37) _ rfl w.heap.size 3 i0 1 Tryd.underlying25 hi0 _ _ _ rfl HE0.out 0 rfl ?_)
      | (at_builtin
         refine wpList_append_own _ rfl (.tmp 39) (.tmp 41) _ rfl w.heap.size 3 i0 _ 1 8 Tryd.underlying25 hi0 hz0 hz1 hz2 rfl (by omega) _ _ _ rfl HA1.out ⟨w.heap.size + 1, 0, none⟩ 1 1 [.int .i64 n] rfl rfl HN2.out (by intro u hu; simp at hu; subst hu; rfl) (by unfold maxLen; omega) (by omega) (by simp; omega) ?_
         intro v2 w2 h1 h2 h3
         have HB2 : Hid (Below w.heap.size w w2) := (HB0.out.alloc HB0.out.size _).grown h2 (by simp; omega) fun j hj => (HE0.out.lt j hj).1
         have HO2 := Lib.hid h1
         clear h1 h2 h3)
      | (at_builtin
         refine append_nil_at rfl (.tmp 43) (.tmp 46) _ rfl w.heap.size 3 i0 1 Tryd.underlying25 hi0 _ _ _ rfl HO2.out 0 rfl ?_))
    go_ret
    refine ⟨v2, [n], rfl, by simp [Rises], fun x => by simp, rfl, HO2.out, HB2.out⟩
  obtain ⟨A, c', e', hc', hx⟩ := hv.shape
  injection e' with e1 _ e3
  subst e1 e3
  obtain ⟨p, o, hpo⟩ : ∃ p o, (⟨g, 0, none⟩ : Addr) = ⟨p, o, none⟩ := ⟨_, _, rfl⟩
  rw [hpo] at hx ⊢
  clear hv hlo hb h3 h4 hc' hpo
  unfold maxLen at hm
  have HX := Lib.hid hx; clear hx
  have HR := Lib.hid hr; clear hr
  have HN := Lib.hid hn; clear hn
  go_enter Tryd.func99, Tryd.ntmps99
  go_wp2
  go_loopw [5] (fun i wr => ∃ (k : Nat), k ≤ xs.length ∧ i = .int .i64 k ∧ wr = w ∧ Hid (∀ (j : Nat) (x : Int), j < k → xs[j]? = some x → x < n)) (fun i _ => xs.length - (intOf i).toNat)
  case atStart => exact ⟨0, by omega, rfl, rfl, fun j x h => absurd h (by omega)⟩
  case round =>
    obtain ⟨k, hk, rfl, rfl, H⟩ := hrel
    by_cases hlt : k < xs.length
    · have c1 : wr.cell? ⟨p, o + k, none⟩ = some (.int .i64 xs[k]) := by
        obtain ⟨p', o', e, _, h⟩ := HX.out.at_ hlt
        injection e with e
        injection e with e1 e2
        subst e1 e2
        exact h
      by_cases hl : xs[k] < n
      · have HE := Lib.hid (upto_step (Q := fun x => x < n) hlt hl H.out)
        go_wp2
        go_roundw
        case rel => exact ⟨k + 1, by omega, by go_num, by simp, HE.out⟩
        case measure => simp [intOf]; omega
      · have hne : xs[k] ≠ n := fun e => HN.out (e ▸ List.getElem_mem hlt)
        have hq := beq_f hne
        have HP := Lib.hid (rises_put (k := k) HR.out H.out fun x hx => by
          rw [List.getElem?_eq_getElem hlt] at hx
          injection hx with hx
          omega)
        clear hne
        have HN1 : Hid (∀ (j : Nat) (u : Value), (vals (xs.take k))[j]? = some u → (wr.alloc (.cells #[] 3)).cell? ((⟨p, o, none⟩ : Addr).add j) = some u) := (((HX.out.take k).keep ((Below.refl wr.heap.size wr).alloc (Nat.le_refl _) _))).src2
        have HE0 := Lib.hid (own_empty wr)
        have HD := Lib.hid (HX.out.drop k)
        have hkl : (xs.take k).length = k := by rw [List.length_take]; omega
        have hdl : (xs.drop k).length = xs.length - k := List.length_drop
        have HKL := Lib.hid hkl; clear hkl
        have HDL := Lib.hid hdl; clear hdl
        go_wp2_with (first
          | (at_builtin
             refine wpList_append_own _ rfl (.tmp 34) (.tmp 37) _ rfl wr.heap.size 3 i0 _ 1 8 Tryd.underlying25 hi0 hz0 hz1 hz2 rfl (by omega) _ _ _ rfl HE0.out ⟨p, o, none⟩ k c (vals (xs.take k)) rfl (by rw [vals_length, HKL.out]; omega) HN1.out (vals_one _) (by unfold maxLen; omega) (by omega) (by simp) ?_
             intro v1 w1 h1 h2 h3
             have HO1 := Lib.hid h1
             have HB1 : Hid (Below wr.heap.size wr w1) := (((Below.refl wr.heap.size wr).alloc (Nat.le_refl _) _)).grown h2 (by simp) fun j hj => (HE0.out.lt j hj).1
             have hs1 : wr.heap.size ≤ w1.heap.size := HB1.out.size
             have HA1 := Lib.hid (h1.alloc (.cells #[.int .i64 n] 3))
             have HN2 := Lib.hid (cell_one_new w1 (.int .i64 n) 3)
             clear h1 h2 h3)
          | (at_builtin
             refine wpList_append_own _ rfl (.tmp 39) (.tmp 41) _ rfl wr.heap.size 3 i0 _ 1 8 Tryd.underlying25 hi0 hz0 hz1 hz2 rfl (by omega) _ _ _ rfl HA1.out ⟨w1.heap.size, 0, none⟩ 1 1 [.int .i64 n] rfl rfl HN2.out (by intro u hu; simp at hu; subst hu; rfl) (by unfold maxLen; omega) (by omega) (by simp; omega) ?_
             intro v2 w2 h1 h2 h3
             have HB2 : Hid (Below wr.heap.size wr w2) := (HB1.out.alloc HB1.out.size _).grown h2 (by simp; omega) fun j hj => (HO1.out.lt j hj).1
             have HO2 := Lib.hid h1
             have hs2 : wr.heap.size ≤ w2.heap.size := HB2.out.size
             have HN3 : Hid (∀ (j : Nat) (u : Value), (vals (xs.drop k))[j]? = some u → w2.cell? ((⟨p, o + k, none⟩ : Addr).add j) = some u) := (HD.out.keep HB2.out).src2
             clear h1 h2 h3)
          | (at_builtin
             refine wpList_append_own _ rfl (.tmp 43) (.tmp 46) _ rfl wr.heap.size 3 i0 _ 1 8 Tryd.underlying25 hi0 hz0 hz1 hz2 rfl (by omega) _ _ _ rfl HO2.out ⟨p, o + k, none⟩ (xs.length - k) (c - k) (vals (xs.drop k)) rfl (by rw [vals_length, HDL.out]; omega) HN3.out (vals_one _) (by unfold maxLen; omega) (by omega) hs2 ?_
             intro v3 w3 h1 h2 h3
             have HB3 : Hid (Below wr.heap.size wr w3) := HB2.out.grown h2 (by omega) fun j hj => (HO2.out.lt j hj).1
             have HO3 := Lib.hid h1
             clear h1 h2 h3))
        go_ret
        refine ⟨v3, xs.take k ++ [n] ++ xs.drop k, rfl, HP.out.1, HP.out.2, by simp; omega, ?_, HB3.out⟩
        show World.ownsRow _ _ _ _ _ _ _
        have e1 : (xs.take k ++ [n] ++ xs.drop k).length = 0 + k + 1 + (xs.length - k) := by simp; omega
        have e2 : vals (xs.take k ++ [n] ++ xs.drop k) = [] ++ vals (xs.take k) ++ [.int .i64 n] ++ vals (xs.drop k) := by simp [vals]
        rw [e1, e2]
        exact HO3.out
    · obtain rfl : k = xs.length := by omega
      have HP := Lib.hid (rises_put (k := xs.length) HR.out H.out fun x hx => by simp at hx)
      have HN1 : Hid (∀ (j : Nat) (u : Value), (vals xs)[j]? = some u → (wr.alloc (.cells #[] 3)).cell? ((⟨p, o, none⟩ : Addr).add j) = some u) := ((HX.out.keep ((Below.refl wr.heap.size wr).alloc (Nat.le_refl _) _))).src2
      have HE0 := Lib.hid (own_empty wr)
      by_cases hcx : c = xs.length
      · subst hcx
        go_wp2_with (first
          | (at_builtin
             refine wpList_append_own _ rfl (.tmp 34) (.tmp 37) _ rfl wr.heap.size 3 i0 _ 1 8 Tryd.underlying25 hi0 hz0 hz1 hz2 rfl (by omega) _ _ _ rfl HE0.out ⟨p, o, none⟩ xs.length xs.length (vals xs) rfl (by rw [vals_length]; omega) HN1.out (vals_one _) (by unfold maxLen; omega) (by omega) (by simp) ?_
             intro v1 w1 h1 h2 h3
             have HO1 := Lib.hid h1
             have HB1 : Hid (Below wr.heap.size wr w1) := (((Below.refl wr.heap.size wr).alloc (Nat.le_refl _) _)).grown h2 (by simp) fun j hj => (HE0.out.lt j hj).1
             have hs1 : wr.heap.size ≤ w1.heap.size := HB1.out.size
             have HA1 := Lib.hid (h1.alloc (.cells #[.int .i64 n] 3))
             have HN2 := Lib.hid (cell_one_new w1 (.int .i64 n) 3)
             clear h1 h2 h3)
          | (at_builtin
             refine wpList_append_own _ rfl (.tmp 39) (.tmp 41) _ rfl wr.heap.size 3 i0 _ 1 8 Tryd.underlying25 hi0 hz0 hz1 hz2 rfl (by omega) _ _ _ rfl HA1.out ⟨w1.heap.size, 0, none⟩ 1 1 [.int .i64 n] rfl rfl HN2.out (by intro u hu; simp at hu; subst hu; rfl) (by unfold maxLen; omega) (by omega) (by simp; omega) ?_
             intro v2 w2 h1 h2 h3
             have HB2 : Hid (Below wr.heap.size wr w2) := (HB1.out.alloc HB1.out.size _).grown h2 (by simp; omega) fun j hj => (HO1.out.lt j hj).1
             have HO2 := Lib.hid h1
             have hs2 : wr.heap.size ≤ w2.heap.size := HB2.out.size
             clear h1 h2 h3)
          | (at_builtin
             refine wpList_append_own _ rfl (.tmp 43) (.tmp 46) _ rfl wr.heap.size 3 i0 _ 1 8 Tryd.underlying25 hi0 hz0 hz1 hz2 rfl (by omega) _ _ _ rfl HO2.out ⟨p, o, none⟩ 0 0 [] rfl rfl (fun j u h => by simp at h) (by simp) (by unfold maxLen; omega) (by omega) hs2 ?_
             intro v3 w3 h1 h2 h3
             have HB3 : Hid (Below wr.heap.size wr w3) := HB2.out.grown h2 (by omega) fun j hj => (HO2.out.lt j hj).1
             have HO3 := Lib.hid h1
             clear h1 h2 h3))
        go_ret
        refine ⟨v3, xs.take xs.length ++ [n] ++ xs.drop xs.length, rfl, HP.out.1, HP.out.2, by simp, ?_, HB3.out⟩
        show World.ownsRow _ _ _ _ _ _ _
        have e1 : (xs.take xs.length ++ [n] ++ xs.drop xs.length).length = 0 + xs.length + 1 + 0 := by simp
        have e2 : vals (xs.take xs.length ++ [n] ++ xs.drop xs.length) = [] ++ vals xs ++ [.int .i64 n] ++ [] := by simp [vals]
        rw [e1, e2]
        exact HO3.out

      · have hcp : ¬ c - xs.length = 0 := by omega
        go_wp2_with (first
          | (at_builtin
             refine wpList_append_own _ rfl (.tmp 34) (.tmp 37) _ rfl wr.heap.size 3 i0 _ 1 8 Tryd.underlying25 hi0 hz0 hz1 hz2 rfl (by omega) _ _ _ rfl HE0.out ⟨p, o, none⟩ xs.length c (vals xs) rfl (by rw [vals_length]; omega) HN1.out (vals_one _) (by unfold maxLen; omega) (by omega) (by simp) ?_
             intro v1 w1 h1 h2 h3
             have HO1 := Lib.hid h1
             have HB1 : Hid (Below wr.heap.size wr w1) := (((Below.refl wr.heap.size wr).alloc (Nat.le_refl _) _)).grown h2 (by simp) fun j hj => (HE0.out.lt j hj).1
             have hs1 : wr.heap.size ≤ w1.heap.size := HB1.out.size
             have HA1 := Lib.hid (h1.alloc (.cells #[.int .i64 n] 3))
             have HN2 := Lib.hid (cell_one_new w1 (.int .i64 n) 3)
             clear h1 h2 h3)
          | (at_builtin
             refine wpList_append_own _ rfl (.tmp 39) (.tmp 41) _ rfl wr.heap.size 3 i0 _ 1 8 Tryd.underlying25 hi0 hz0 hz1 hz2 rfl (by omega) _ _ _ rfl HA1.out ⟨w1.heap.size, 0, none⟩ 1 1 [.int .i64 n] rfl rfl HN2.out (by intro u hu; simp at hu; subst hu; rfl) (by unfold maxLen; omega) (by omega) (by simp; omega) ?_
             intro v2 w2 h1 h2 h3
             have HB2 : Hid (Below wr.heap.size wr w2) := (HB1.out.alloc HB1.out.size _).grown h2 (by simp; omega) fun j hj => (HO1.out.lt j hj).1
             have HO2 := Lib.hid h1
             have hs2 : wr.heap.size ≤ w2.heap.size := HB2.out.size
             clear h1 h2 h3)
          | (at_builtin
             refine wpList_append_own _ rfl (.tmp 43) (.tmp 46) _ rfl wr.heap.size 3 i0 _ 1 8 Tryd.underlying25 hi0 hz0 hz1 hz2 rfl (by omega) _ _ _ rfl HO2.out ⟨p, o + xs.length, none⟩ 0 (c - xs.length) [] rfl rfl (fun j u h => by simp at h) (by simp) (by unfold maxLen; omega) (by omega) hs2 ?_
             intro v3 w3 h1 h2 h3
             have HB3 : Hid (Below wr.heap.size wr w3) := HB2.out.grown h2 (by omega) fun j hj => (HO2.out.lt j hj).1
             have HO3 := Lib.hid h1
             clear h1 h2 h3))
        go_ret
        refine ⟨v3, xs.take xs.length ++ [n] ++ xs.drop xs.length, rfl, HP.out.1, HP.out.2, by simp, ?_, HB3.out⟩
        show World.ownsRow _ _ _ _ _ _ _
        have e1 : (xs.take xs.length ++ [n] ++ xs.drop xs.length).length = 0 + xs.length + 1 + 0 := by simp
        have e2 : vals (xs.take xs.length ++ [n] ++ xs.drop xs.length) = [] ++ vals xs ++ [.int .i64 n] ++ [] := by simp [vals]
        rw [e1, e2]
        exact HO3.out

end Go.Proofs.YtjfhkcoiomokoaaDoor

/- The reference's l3Close. -/

namespace Go.Proofs.YtjfhkcoiomokoaaDoor
open Go.RowKit

def setL (xs : List Int) : Int → Bool := fun x => xs.contains x
theorem setL_iff {xs : List Int} {x : Int} : setL xs x = true ↔ x ∈ xs := by unfold setL; rw [List.contains_iff_mem]

/-- A rising list of numbers below 40, all of them in the least set. -/
structure Inside (W : Way) (S0 : Int → Bool) (ss : List (Int × List Int)) (xs : List Int) : Prop where
  rises : Rises xs
  fit : ∀ x ∈ xs, 0 ≤ x ∧ x < 40
  sound : ∀ x ∈ xs, Least W S0 ss x
  start : ∀ x, S0 x = true → x ∈ xs
theorem Inside.len {W : Way} {S0 : Int → Bool} {ss : List (Int × List Int)} {xs : List Int} (h : Inside W S0 ss xs) : xs.length ≤ 40 :=
  len6 (S := setL xs) (h.rises.imp fun h => by omega) (fun _ hx => setL_iff.2 hx) fun x hx => h.fit x (setL_iff.1 hx)
theorem Inside.put {W : Way} {S0 : Int → Bool} {ss : List (Int × List Int)} {xs ys : List Int} (h : Inside W S0 ss xs) {n : Int} (hr : Rises ys) (hm : ∀ x, x ∈ ys ↔ x = n ∨ x ∈ xs) {r : Int × List Int} (hrs : r ∈ ss) (hf : W.fires (setL xs) r = true) (hn : n ∈ W.adds r) (h6 : 0 ≤ n ∧ n < 40) : Inside W S0 ss ys :=
  ⟨hr, fun x hx => by rcases (hm x).1 hx with rfl | h'; exact h6; exact h.fit x h', fun x hx => by
    rcases (hm x).1 hx with rfl | h'
    · exact Least.step (S := setL xs) (fun y hy => h.sound y (setL_iff.1 hy)) hrs hf hn
    · exact h.sound x h', fun x hx => (hm x).2 (.inr (h.start x hx))⟩
theorem Inside.done {W : Way} {S0 : Int → Bool} {ss : List (Int × List Int)} {xs : List Int} (h : Inside W S0 ss xs) (hc : ∀ r ∈ ss, W.fires (setL xs) r = true → ∀ y ∈ W.adds r, y ∈ xs) : IsLeast W S0 ss (setL xs) :=
  isLeast_of (fun x hx => h.sound x (setL_iff.1 hx)) (fun x hx => setL_iff.2 (h.start x hx)) fun r hr hf y hy => setL_iff.2 (hc r hr hf y hy)

def wayT (tok : Bool) : Way := match tok with
  | true => wayProd
  | false => wayNull
theorem wayT_adds (tok : Bool) (r : Int × List Int) : (wayT tok).adds r = [r.1] := by cases tok <;> rfl
/-- The reference's question to one symbol. -/
def closeP (tok : Bool) (xs : List Int) (x : Int) : Bool := (decide (x < 0) && tok) || (decide (0 ≤ x) && xs.contains x)
theorem closeP_neg {tok : Bool} {xs : List Int} {x : Int} (h : x < 0) : closeP tok xs x = tok := by
  unfold closeP
  rw [decide_eq_true h, decide_eq_false (by omega)]
  cases tok <;> rfl
theorem closeP_non {tok : Bool} {xs : List Int} {x : Int} (h : ¬ x < 0) : closeP tok xs x = xs.contains x := by
  unfold closeP
  rw [decide_eq_false h, decide_eq_true (by omega)]
  rfl
theorem fires_close {tok : Bool} {xs : List Int} (hf : ∀ x ∈ xs, 0 ≤ x ∧ x < 40) (r : Int × List Int) : (wayT tok).fires (setL xs) r = r.2.all (closeP tok xs) := by
  cases tok
  · show r.2.all (setL xs) = _
    congr 1
    funext x
    by_cases h : x < 0
    · rw [closeP_neg h]
      cases hc : setL xs x
      · rfl
      · have := hf x (setL_iff.1 hc); omega
    · rw [closeP_non h]; rfl
  · show r.2.all (tokS (setL xs)) = _
    congr 1
    funext x
    by_cases h : x < 0
    · rw [closeP_neg h, tokS_lt h]
    · rw [closeP_non h, tokS_ge h]; rfl

theorem all_take {p : Int → Bool} {xs : List Int} {k : Nat} (hk : k < xs.length) : (xs.take (k + 1)).all p = ((xs.take k).all p && p xs[k]) := by
  rw [List.take_succ_eq_append_getElem hk, List.all_append]
  simp

/-- The reference's list, new since lo. -/
def GaveV (w : World) (P : List Int → Prop) (e : Ending) (w' : World) : Prop := ∃ v ys, e = .returned v ∧ P ys ∧ OwnV w' w.heap.size v ys ∧ Below w.heap.size w w'

end Go.Proofs.YtjfhkcoiomokoaaDoor

/- The reference's copy of a list, as a row that can be appended to. -/

namespace Go.Proofs.YtjfhkcoiomokoaaDoor
open Go.RowKit

set_option maxRecDepth 20000 in
set_option maxHeartbeats 400000 in
theorem l1OwnW_any (A : Option Addr) (xs : List Int) (c : Nat) (w : World) (hr : Ints w w.heap.size A xs) (hn : xs.length ≤ 1048576) :
    Calls Tryd.prog 56 #[.slice A xs.length c] w fun e w' => ∃ v, e = .returned v ∧ w'.ownsRow w.heap.size 3 1 v xs.length (vals xs) ∧ Below w.heap.size w w' := by
  obtain ⟨i0, hi0, hz0, hz1, hz2⟩ := info_of Tryd.infoInt
  have hB0 : Below w.heap.size w (w.alloc (.cells #[] 3)) := by go_grown
  have HB0 := Lib.hid hB0; clear hB0
  have HR := Lib.hid (hr.keep HB0.out); clear hr
  have HE := Lib.hid (own_empty w)
  rcases A with _ | ad
  · have hx : xs = [] := by
      rcases xs with _ | ⟨x, xs⟩
      · rfl
      · obtain ⟨_, _, e, _⟩ := HR.out (by simp)
        cases e
    subst hx
    go_enter Tryd.func56, Tryd.ntmps56
    go_wp2_with (at_builtin
                 refine append_nil_at rfl (.tmp 3) (.tmp 4) _ rfl w.heap.size 3 i0 1 Tryd.underlying25 hi0 _ _ _ rfl HE.out c rfl ?_)
    go_ret
    exact ⟨_, rfl, HE.out, HB0.out⟩
  · have HN : Hid (∀ (j : Nat) (v : Value), (vals xs)[j]? = some v → (w.alloc (.cells #[] 3)).cell? (ad.add j) = some v) := fun j v hv => by
      have hp : 0 < xs.length := by have := (List.getElem?_eq_some_iff.1 hv).1; rw [vals_length] at this; omega
      obtain ⟨ad', e, h⟩ := HR.out.src hp
      injection e with e
      subst e
      exact h j v hv
    go_enter Tryd.func56, Tryd.ntmps56
    go_wp2_with (at_builtin
                 refine wpList_append_own _ rfl (.tmp 3) (.tmp 4) _ rfl w.heap.size 3 i0 _ 1 8 Tryd.underlying25 hi0 hz0 hz1 hz2 rfl (by omega) _ _ _ rfl HE.out ad xs.length c (vals xs) rfl (by rw [vals_length]; omega) HN.out (vals_one xs) (by unfold maxLen; omega) (by omega) (by simp) ?_
                 intro v' w' h1 h2 h3
                 have HO1 := Lib.hid h1
                 have HG1 := Lib.hid h2
                 clear h1 h2 h3)
    have HO2 : Hid (w'.ownsRow w.heap.size 3 1 v' xs.length (vals xs)) := by have h1 := HO1.out; rw [List.nil_append, Nat.zero_add] at h1; exact h1
    go_ret
    exact ⟨_, rfl, HO2.out, HB0.out.grown HG1.out HB0.out.size fun k hk => (HE.out.lt k hk).1⟩

end Go.Proofs.YtjfhkcoiomokoaaDoor

/- The reference's BinaryNull. -/

namespace Go.Proofs.YtjfhkcoiomokoaaDoor
open Go.RowKit

theorem riseI_rises {xs : List Int} (h : RiseI xs xs.length) : Rises xs := by
  have key : ∀ (j i : Nat) (x y : Int), i < j → j < xs.length → xs[i]? = some x → xs[j]? = some y → x < y := by
    intro j
    induction j with
    | zero => intro i x y h1; omega
    | succ j ih =>
      intro i x y h1 h2 hx hy
      have hz : xs[j]? = some xs[j] := List.getElem?_eq_getElem (by omega)
      have h3 : xs[j] < y := h j _ _ h2 hz hy
      by_cases e : i = j
      · subst e; rw [hz] at hx; injection hx with hx; omega
      · have := ih i x xs[j] (by omega) (by omega) hx hz
        omega
  rw [Rises, List.pairwise_iff_getElem]
  intro i j hi hj hij
  exact key j i _ _ hij hj (List.getElem?_eq_getElem hi) (List.getElem?_eq_getElem hj)

/-- What the first k lists add is there. -/
def ClosedTo (ys : List Int) (ls : List Li) (k : Nat) : Prop := ∀ (j : Nat) (u : Li), j < k → ls[j]? = some u → wayNull.fires (setL ys) (ruleOf u.r) = true → (ruleOf u.r).1 ∈ ys
theorem ClosedTo.zero (ys : List Int) (ls : List Li) : ClosedTo ys ls 0 := fun j u h => absurd h (by omega)
theorem ClosedTo.step {ys : List Int} {ls : List Li} {k : Nat} (h : ClosedTo ys ls k) {u : Li} (hu : ls[k]? = some u) (h2 : wayNull.fires (setL ys) (ruleOf u.r) = true → (ruleOf u.r).1 ∈ ys) : ClosedTo ys ls (k + 1) := fun j v hj hv hf => by
  by_cases e : j = k
  · subst e; rw [hu] at hv; injection hv with hv; subst hv; exact h2 hf
  · exact h j v (by omega) hv hf

theorem fires3 (ys : List Int) (a b c : Int) : wayNull.fires (setL ys) (ruleOf [a, b, c]) = (ys.contains b && ys.contains c) := by
  show [b, c].all (setL ys) = _
  simp [setL]
theorem fires2 (ys : List Int) (a b : Int) : wayNull.fires (setL ys) (ruleOf [a, b]) = ys.contains b := by
  show [b].all (setL ys) = _
  simp [setL]
theorem rule_memP {P O : List (List Int)} {E : List Int} {x : List Int} (h : x ∈ P) : ruleOf x ∈ bRules P O E := List.mem_append.2 (.inl (List.mem_map.2 ⟨x, List.mem_append.2 (.inl h), rfl⟩))
theorem rule_memO {P O : List (List Int)} {E : List Int} {x : List Int} (h : x ∈ O) : ruleOf x ∈ bRules P O E := List.mem_append.2 (.inl (List.mem_map.2 ⟨x, List.mem_append.2 (.inr h), rfl⟩))
theorem rule_memE {P O : List (List Int)} {E : List Int} {x : Int} (h : x ∈ E) : (x, []) ∈ bRules P O E := List.mem_append.2 (.inr (List.mem_map.2 ⟨x, h, rfl⟩))
theorem len_three {x : List Int} (h : (x.length : Int) = 3) : ∃ a b c, x = [a, b, c] := by
  rcases x with _ | ⟨a, _ | ⟨b, _ | ⟨c, _ | ⟨d, x⟩⟩⟩⟩
  · simp at h
  · simp at h
  · simp at h
  · exact ⟨a, b, c, rfl⟩
  · simp at h; omega
theorem len_two {x : List Int} (h : (x.length : Int) = 2) : ∃ a b, x = [a, b] := by
  rcases x with _ | ⟨a, _ | ⟨b, _ | ⟨c, x⟩⟩⟩
  · simp at h
  · simp at h
  · exact ⟨a, b, rfl⟩
  · simp at h; omega
theorem ints_three {w : World} {B : Nat} {A : Option Addr} {a b c : Int} (h : Ints w B A [a, b, c]) : ∃ p o, A = some ⟨p, o, none⟩ ∧ w.cell? ⟨p, o, none⟩ = some (.int .i64 a) ∧ w.cell? ⟨p, o + 1, none⟩ = some (.int .i64 b) ∧ w.cell? ⟨p, o + 2, none⟩ = some (.int .i64 c) := by
  obtain ⟨p, o, e, _, hc⟩ := h (by simp)
  exact ⟨p, o, e, hc 0 a rfl, hc 1 b rfl, hc 2 c rfl⟩
theorem ints_two {w : World} {B : Nat} {A : Option Addr} {a b : Int} (h : Ints w B A [a, b]) : ∃ p o, A = some ⟨p, o, none⟩ ∧ w.cell? ⟨p, o, none⟩ = some (.int .i64 a) ∧ w.cell? ⟨p, o + 1, none⟩ = some (.int .i64 b) := by
  obtain ⟨p, o, e, _, hc⟩ := h (by simp)
  exact ⟨p, o, e, hc 0 a rfl, hc 1 b rfl⟩

/-- The list so far: in the least set, with all that derives nothing by itself. -/
structure InN (s : Bs) (ys : List Int) : Prop where
  ins : Inside wayNull noS (bRules s.P s.O s.E) ys
  es : ∀ x ∈ s.E, x ∈ ys
theorem InN.done {b : Bi} {ys : List Int} (h : InN b.say ys) (hP : ClosedTo ys b.P b.P.length) (hO : ClosedTo ys b.O b.O.length) : IsLeast wayNull noS (bRules (sayL b.P) (sayL b.O) b.E) (setL ys) := by
  refine h.ins.done fun r hr hf y hy => ?_
  have e : y = r.1 := by simpa [wayNull] using hy
  subst e
  rcases List.mem_append.1 hr with hr | hr
  · obtain ⟨x, hx, rfl⟩ := List.mem_map.1 hr
    rcases List.mem_append.1 hx with hx | hx
    · obtain ⟨u, hu, rfl⟩ := List.mem_map.1 hx
      obtain ⟨k, hk, e⟩ := List.getElem_of_mem hu
      exact hP k u hk (by rw [← e]; exact List.getElem?_eq_getElem hk) hf
    · obtain ⟨u, hu, rfl⟩ := List.mem_map.1 hx
      obtain ⟨k, hk, e⟩ := List.getElem_of_mem hu
      exact hO k u hk (by rw [← e]; exact List.getElem?_eq_getElem hk) hf
  · obtain ⟨x, hx, rfl⟩ := List.mem_map.1 hr
    exact h.es x hx
theorem InN.put {s : Bs} (hg : GoodBs s) {xs ys : List Int} (h : InN s xs) {n : Int} (hr : Rises ys) (hm : ∀ x, x ∈ ys ↔ x = n ∨ x ∈ xs) {r : Int × List Int} (hrs : r ∈ bRules s.P s.O s.E) (hf : wayNull.fires (setL xs) r = true) (hn : r.1 = n) : InN s ys := by
  refine ⟨h.ins.put hr hm hrs hf (by show n ∈ [r.1]; rw [hn]; exact List.mem_singleton.2 rfl) (by rw [← hn]; exact goodB_lefts hg r hrs), fun x hx => (hm x).2 (.inr (h.es x hx))⟩
theorem InN.start {s : Bs} (hg : GoodBs s) : InN s s.E := by
  refine ⟨⟨riseI_rises hg.2.2.2.2.1.2, fun x hx => goodB_lefts hg (x, []) (rule_memE hx), fun x hx => Least.step (S := noS) (fun y hy => by cases hy) (rule_memE hx) rfl (by show x ∈ [x]; exact List.mem_singleton.2 rfl), fun x hx => by cases hx⟩, fun x hx => hx⟩

set_option maxRecDepth 20000 in
set_option maxHeartbeats 2000000 in
theorem l5Null_any (b : Bi) (w : World) (hx : ReadB w w.heap.size b) (hm : LenB 1048576 b) (hg : GoodBs b.say) :
    Calls Tryd.prog 77 #[(.agg #[.int .i64 b.n, .int .i64 b.t, .slice b.Ap b.P.length b.cp, .slice b.Ao b.O.length b.co, .slice b.Ae b.E.length b.ce, .slice b.Af b.F.length b.cf])] w (GaveV w fun ys => Rises ys ∧ (∀ x ∈ ys, 0 ≤ x ∧ x < 40) ∧ IsLeast wayNull noS (bRules (sayL b.P) (sayL b.O) b.E) (setL ys)) := by
  have HX := Lib.hid hx; clear hx
  have hpl := hm.p
  have hol := hm.o
  have hel := hm.e
  clear hm
  have HG := Lib.hid hg; clear hg
  have HB0 : Hid (Below w.heap.size w (w.alloc (.cells #[.int .i64 b.n, .int .i64 b.t, .slice b.Ap b.P.length b.cp, .slice b.Ao b.O.length b.co, .slice b.Ae b.E.length b.ce, .slice b.Af b.F.length b.cf] 45))) := by show Below _ _ _; go_grown
  have B0 := Lib.hid (Box6.new w b 45)
  have HI0 : Hid (InN b.say b.E) := InN.start HG.out
  go_enter Tryd.func77, Tryd.ntmps77
  go_wp2_with fail
  generalize (w.alloc (.cells #[.int .i64 b.n, .int .i64 b.t, .slice b.Ap b.P.length b.cp, .slice b.Ao b.O.length b.co, .slice b.Ae b.E.length b.ce, .slice b.Af b.F.length b.cf] 45)) = X at *
  have hXs := B0.out.1
  refine (l1OwnW_any _ _ _ _ ((HX.out.2.2.1.keep HB0.out).more HB0.out.size) hel).mono ?_
  rintro e w1 ⟨v1, rfl, hO1, hB1⟩
  have HV1 : Hid (OwnV w1 w.heap.size v1 b.E) := OwnV.lower (lo := X.heap.size) hO1 HB0.out.size
  have HB1 := Lib.hid hB1
  have hE40 := HI0.out.ins.len
  clear hO1 hB1
  go_wp2
  go_loopg [3, 4] (2 * (40 - b.E.length) + 1) (fun g v m wr => ∃ (more : Bool) (xs : List Int), m = .bool more ∧ g + 2 * xs.length = 80 + (if more then 1 else 0) ∧ Hid (OwnV wr w.heap.size v xs) ∧ Hid (InN b.say xs) ∧ Hid (Below X.heap.size X wr) ∧ Hid (more = false → ClosedTo xs b.P b.P.length ∧ ClosedTo xs b.O b.O.length))
  case atStart => exact ⟨true, b.E, rfl, by simp; omega, HV1.out, HI0.out, HB1.out, fun h => by cases h⟩
  case round =>
    clear HV1 HB1 HI0
    obtain ⟨more, xs, rfl, hgk, HV, HI, HB, HC⟩ := hrel
    have hl40 := HI.out.ins.len
    cases more
    · have HD := Lib.hid (HI.out.done (HC.out rfl).1 (HC.out rfl).2)
      have HW : Hid (Below w.heap.size w wr) := HB0.out.trans (HB.out.mono HB0.out.size)
      go_wp2
      go_ret
      exact ⟨_, xs, rfl, ⟨HI.out.ins.rises, HI.out.ins.fit, HD.out⟩, HV.out, HW.out⟩
    · rw [if_pos rfl] at hgk
      clear HC
      obtain ⟨wO, hwO⟩ : ∃ x, x = wr := ⟨_, rfl⟩
      subst hwO
      obtain ⟨_, b0, b1, b2, b3, b4, b5⟩ := B0.out.keep HB.out hXs
      go_wp2
      clear b0 b1 b2 b3 b4 b5
      go_loopw [3, 4, 16] (fun v m i wr => ∃ (k : Nat) (more : Bool) (ys : List Int), k ≤ b.P.length ∧ i = .int .i64 k ∧ m = .bool more ∧ Hid (OwnV wr w.heap.size v ys) ∧ Hid (InN b.say ys) ∧ Hid (Below X.heap.size X wr) ∧ Hid (more = true → xs.length < ys.length) ∧ Hid (more = false → ys = xs ∧ ClosedTo ys b.P k)) (fun _ _ i _ => b.P.length - (intOf i).toNat)
      case atStart => exact ⟨0, false, xs, by omega, rfl, rfl, HV.out, HI.out, HB.out, fun h => (by cases h), fun _ => ⟨rfl, ClosedTo.zero _ _⟩⟩
      case round =>
        clear HV HB
        obtain ⟨k, more, ys, hk, rfl, rfl, HV2, HI2, HB2, HM2, HC2⟩ := hrel
        have HW2 : Hid (Below w.heap.size w wr) := HB0.out.trans (HB2.out.mono HB0.out.size)
        have hy40 := HI2.out.ins.len
        by_cases hlt : k < b.P.length
        · obtain ⟨p, o, hA, hp, c1, c2, c3⟩ := ((HX.out.1.keep HW2.out).more HW2.out.size).at_ hlt
          have hmem := sayL_mem (List.getElem_mem hlt)
          have HRM := Lib.hid (rule_memP (O := sayL b.O) (E := b.E) hmem)
          obtain ⟨y0, y1, y2, hy⟩ := len_three (long_mem HG.out.2.2.1.1 hmem)
          have HUK := Lib.hid (List.getElem?_eq_getElem hlt)
          generalize b.P[k] = u at c1 c2 c3 hy HUK HRM
          clear hmem
          obtain ⟨ua, ur, uc⟩ := u
          dsimp only at c1 c2 c3 hy HRM
          subst hy
          obtain ⟨q, oo, rfl, e0, e1, e2⟩ := ints_three c3
          have c1' : wr.cell? ⟨p, o + k, none⟩ = some (.slice (some ⟨q, oo, none⟩) 3 uc) := c1
          clear c1 c3 c2
          obtain ⟨Av, cv, hvv, hcv, hIv⟩ := HV2.out.shape
          subst hvv
          have HIV := Lib.hid hIv; clear hIv
          have HF3 := Lib.hid (fires3 ys y0 y1 y2)
          have HN0 : Hid (ys.contains y0 = true → y0 ∈ ys) := fun h => List.contains_iff_mem.1 h
          have HN1 : Hid (y0 ∈ ys → ys.contains y0 = true) := fun h => List.contains_iff_mem.2 h
          have HH0 := Lib.hid (l1Has6_any Av ys cv y0 wr HIV.out hy40)
          have HH1 := Lib.hid (l1Has6_any Av ys cv y1 wr HIV.out hy40)
          have HH2 := Lib.hid (l1Has6_any Av ys cv y2 wr HIV.out hy40)
          generalize ys.contains y0 = h0 at HH0 HN0 HN1
          generalize ys.contains y1 = h1 at HH1 HF3
          generalize ys.contains y2 = h2 at HH2 HF3
          rw [hA]
          cases h0
          case' true =>
            have HNX : Hid (more = false → ys = xs ∧ ClosedTo ys b.P (k + 1)) := fun h => ⟨(HC2.out h).1, (HC2.out h).2.step HUK.out fun _ => HN0.out rfl⟩
            go_wp2_with fail
            refine HH0.out.mono ?_
            rintro e w2 ⟨rfl, rfl⟩
            go_wp2
            go_roundw
            case rel => exact ⟨k + 1, more, ys, by omega, by go_num, rfl, HV2.out, HI2.out, HB2.out, HM2.out, HNX.out⟩
            case measure => simp [intOf]; omega
          case' false =>
            cases h1
            case' false =>
              have HNX : Hid (more = false → ys = xs ∧ ClosedTo ys b.P (k + 1)) := fun h => ⟨(HC2.out h).1, (HC2.out h).2.step HUK.out fun hf => by rw [HF3.out] at hf; cases hf⟩
              go_wp2_with fail
              refine HH0.out.mono ?_
              rintro e w2 ⟨rfl, rfl⟩
              go_wp2_with fail
              refine HH1.out.mono ?_
              rintro e w2 ⟨rfl, rfl⟩
              go_wp2
              go_roundw
              case rel => exact ⟨k + 1, more, ys, by omega, by go_num, rfl, HV2.out, HI2.out, HB2.out, HM2.out, HNX.out⟩
              case measure => simp [intOf]; omega
            case' true =>
              cases h2
              case' false =>
                have HNX : Hid (more = false → ys = xs ∧ ClosedTo ys b.P (k + 1)) := fun h => ⟨(HC2.out h).1, (HC2.out h).2.step HUK.out fun hf => by rw [HF3.out] at hf; cases hf⟩
                go_wp2_with fail
                refine HH0.out.mono ?_
                rintro e w2 ⟨rfl, rfl⟩
                go_wp2_with fail
                refine HH1.out.mono ?_
                rintro e w2 ⟨rfl, rfl⟩
                go_wp2_with fail
                refine HH2.out.mono ?_
                rintro e w2 ⟨rfl, rfl⟩
                go_wp2
                go_roundw
                case rel => exact ⟨k + 1, more, ys, by omega, by go_num, rfl, HV2.out, HI2.out, HB2.out, HM2.out, HNX.out⟩
                case measure => simp [intOf]; omega
              case' true =>
                have hn : y0 ∉ ys := fun hm => by have := HN1.out hm; cases this
                have HPC := Lib.hid (l1Put_any w.heap.size _ ys y0 wr HV2.out HI2.out.ins.rises hn hy40)
                clear hn
                go_wp2_with fail
                refine HH0.out.mono ?_
                rintro e w2 ⟨rfl, rfl⟩
                go_wp2_with fail
                refine HH1.out.mono ?_
                rintro e w2 ⟨rfl, rfl⟩
                go_wp2_with fail
                refine HH2.out.mono ?_
                rintro e w2 ⟨rfl, rfl⟩
                go_wp2_with fail
                refine HPC.out.mono ?_
                rintro e w2 ⟨v2, zs, rfl, hz1, hz2, hz3, hz4, hz5⟩
                have HIZ : Hid (InN b.say zs) := InN.put HG.out HI2.out hz1 hz2 HRM.out HF3.out rfl
                have HVZ := Lib.hid (hz4.lower (lo' := w.heap.size) HW2.out.size)
                have HBZ : Hid (Below X.heap.size X w2) := HB2.out.trans (hz5.mono HB2.out.size)
                have HLZ : Hid (xs.length < zs.length) := by
                  show _ < _
                  cases more
                  · rw [← (HC2.out rfl).1]; omega
                  · have := HM2.out rfl; omega
                clear hz1 hz2 hz3 hz4 hz5
                go_wp2
                go_roundw
                case rel => exact ⟨k + 1, true, zs, by omega, by go_num, rfl, HVZ.out, HIZ.out, HBZ.out, fun _ => HLZ.out, fun h => by cases h⟩
                case measure => simp [intOf]; omega
        · obtain rfl : k = b.P.length := by omega
          obtain ⟨wQ, hwQ⟩ : ∃ x, x = wr := ⟨_, rfl⟩
          subst hwQ
          obtain ⟨_, b0, b1, b2, b3, b4, b5⟩ := B0.out.keep HB2.out hXs
          go_wp2
          clear b0 b1 b2 b3 b4 b5
          go_loopw [3, 4, 49] (fun v m i wr => ∃ (k : Nat) (more : Bool) (ys : List Int), k ≤ b.O.length ∧ i = .int .i64 k ∧ m = .bool more ∧ Hid (OwnV wr w.heap.size v ys) ∧ Hid (InN b.say ys) ∧ Hid (Below X.heap.size X wr) ∧ Hid (more = true → xs.length < ys.length) ∧ Hid (more = false → ys = xs ∧ ClosedTo ys b.P b.P.length ∧ ClosedTo ys b.O k)) (fun _ _ i _ => b.O.length - (intOf i).toNat)
          case atStart => exact ⟨0, more, ys, by omega, rfl, rfl, HV2.out, HI2.out, HB2.out, HM2.out, fun h => ⟨(HC2.out h).1, (HC2.out h).2, ClosedTo.zero _ _⟩⟩
          case round =>
            clear HV2 HB2 HM2 HC2 HI2 hy40 HW2
            obtain ⟨k, more, ys, hk, rfl, rfl, HV2, HI2, HB2, HM2, HC2⟩ := hrel
            have HW2 : Hid (Below w.heap.size w wr) := HB0.out.trans (HB2.out.mono HB0.out.size)
            have hy40 := HI2.out.ins.len
            by_cases hlt : k < b.O.length
            · obtain ⟨p, o, hA, hp, c1, c2, c3⟩ := ((HX.out.2.1.keep HW2.out).more HW2.out.size).at_ hlt
              have hmem := sayL_mem (List.getElem_mem hlt)
              have HRM := Lib.hid (rule_memO (P := sayL b.P) (E := b.E) hmem)
              obtain ⟨y0, y1, hy⟩ := len_two (long_mem HG.out.2.2.2.1.1 hmem)
              have HUK := Lib.hid (List.getElem?_eq_getElem hlt)
              generalize b.O[k] = u at c1 c2 c3 hy HUK HRM
              clear hmem
              obtain ⟨ua, ur, uc⟩ := u
              dsimp only at c1 c2 c3 hy HRM
              subst hy
              obtain ⟨q, oo, rfl, e0, e1⟩ := ints_two c3
              have c1' : wr.cell? ⟨p, o + k, none⟩ = some (.slice (some ⟨q, oo, none⟩) 2 uc) := c1
              clear c1 c3 c2
              obtain ⟨Av, cv, hvv, hcv, hIv⟩ := HV2.out.shape
              subst hvv
              have HIV := Lib.hid hIv; clear hIv
              have HF2 := Lib.hid (fires2 ys y0 y1)
              have HN0 : Hid (ys.contains y0 = true → y0 ∈ ys) := fun h => List.contains_iff_mem.1 h
              have HN1 : Hid (y0 ∈ ys → ys.contains y0 = true) := fun h => List.contains_iff_mem.2 h
              have HH0 := Lib.hid (l1Has6_any Av ys cv y0 wr HIV.out hy40)
              have HH1 := Lib.hid (l1Has6_any Av ys cv y1 wr HIV.out hy40)
              generalize ys.contains y0 = h0 at HH0 HN0 HN1
              generalize ys.contains y1 = h1 at HH1 HF2
              rw [hA]
              cases h0
              case' true =>
                have HNX : Hid (more = false → ys = xs ∧ ClosedTo ys b.P b.P.length ∧ ClosedTo ys b.O (k + 1)) := fun h => ⟨(HC2.out h).1, (HC2.out h).2.1, (HC2.out h).2.2.step HUK.out fun _ => HN0.out rfl⟩
                go_wp2_with fail
                refine HH0.out.mono ?_
                rintro e w2 ⟨rfl, rfl⟩
                go_wp2
                go_roundw
                case rel => exact ⟨k + 1, more, ys, by omega, by go_num, rfl, HV2.out, HI2.out, HB2.out, HM2.out, HNX.out⟩
                case measure => simp [intOf]; omega
              case' false =>
                cases h1
                case' false =>
                  have HNX : Hid (more = false → ys = xs ∧ ClosedTo ys b.P b.P.length ∧ ClosedTo ys b.O (k + 1)) := fun h => ⟨(HC2.out h).1, (HC2.out h).2.1, (HC2.out h).2.2.step HUK.out fun hf => by rw [HF2.out] at hf; cases hf⟩
                  go_wp2_with fail
                  refine HH0.out.mono ?_
                  rintro e w2 ⟨rfl, rfl⟩
                  go_wp2_with fail
                  refine HH1.out.mono ?_
                  rintro e w2 ⟨rfl, rfl⟩
                  go_wp2
                  go_roundw
                  case rel => exact ⟨k + 1, more, ys, by omega, by go_num, rfl, HV2.out, HI2.out, HB2.out, HM2.out, HNX.out⟩
                  case measure => simp [intOf]; omega
                case' true =>
                  have hn : y0 ∉ ys := fun hm => by have := HN1.out hm; cases this
                  have HPC := Lib.hid (l1Put_any w.heap.size _ ys y0 wr HV2.out HI2.out.ins.rises hn hy40)
                  clear hn
                  go_wp2_with fail
                  refine HH0.out.mono ?_
                  rintro e w2 ⟨rfl, rfl⟩
                  go_wp2_with fail
                  refine HH1.out.mono ?_
                  rintro e w2 ⟨rfl, rfl⟩
                  go_wp2_with fail
                  refine HPC.out.mono ?_
                  rintro e w2 ⟨v2, zs, rfl, hz1, hz2, hz3, hz4, hz5⟩
                  have HIZ : Hid (InN b.say zs) := InN.put HG.out HI2.out hz1 hz2 HRM.out HF2.out rfl
                  have HVZ := Lib.hid (hz4.lower (lo' := w.heap.size) HW2.out.size)
                  have HBZ : Hid (Below X.heap.size X w2) := HB2.out.trans (hz5.mono HB2.out.size)
                  have HLZ : Hid (xs.length < zs.length) := by
                    show _ < _
                    cases more
                    · rw [← (HC2.out rfl).1]; omega
                    · have := HM2.out rfl; omega
                  clear hz1 hz2 hz3 hz4 hz5
                  go_wp2
                  go_roundw
                  case rel => exact ⟨k + 1, true, zs, by omega, by go_num, rfl, HVZ.out, HIZ.out, HBZ.out, fun _ => HLZ.out, fun h => by cases h⟩
                  case measure => simp [intOf]; omega
            · obtain rfl : k = b.O.length := by omega
              go_wp2
              go_roundg (80 + (if more then 1 else 0) - 2 * ys.length)
              case measure =>
                cases more
                · rw [(HC2.out rfl).1]
                  simp
                  omega
                · have := HM2.out rfl
                  simp
                  omega
              case rel =>
                refine ⟨more, ys, rfl, by omega, HV2.out, HI2.out, HB2.out, fun h => ⟨(HC2.out h).2.1, (HC2.out h).2.2⟩⟩

set_option maxRecDepth 20000 in
set_option maxHeartbeats 1000000 in
theorem specNull_any (b : Bi) (w : World) (hx : ReadB w w.heap.size b) (hm : LenB 1048576 b) :
    Calls Tryd.prog 39 #[(.agg #[.int .i64 b.n, .int .i64 b.t, .slice b.Ap b.P.length b.cp, .slice b.Ao b.O.length b.co, .slice b.Ae b.E.length b.ce, .slice b.Af b.F.length b.cf])] w (GaveP w (bP (GoodBs b.say)) (IsLeast wayNull noS (bRules (sayL b.P) (sayL b.O) b.E))) := by
  have HX := Lib.hid hx; clear hx
  have HM := Lib.hid hm; clear hm
  have HB0 : Hid (Below w.heap.size w (w.alloc (.cells #[.int .i64 b.n, .int .i64 b.t, .slice b.Ap b.P.length b.cp, .slice b.Ao b.O.length b.co, .slice b.Ae b.E.length b.ce, .slice b.Af b.F.length b.cf] 45))) := by show Below _ _ _; go_grown
  have B0 := Lib.hid (Box6.new w b 45)
  have HC := Lib.hid (specGoodB_any b (w.alloc (.cells #[.int .i64 b.n, .int .i64 b.t, .slice b.Ap b.P.length b.cp, .slice b.Ao b.O.length b.co, .slice b.Ae b.E.length b.ce, .slice b.Af b.F.length b.cf] 45)) ((HX.out.keep HB0.out).more HB0.out.size) HM.out)
  go_enter Tryd.func39, Tryd.ntmps39
  go_wp2_with fail
  refine HC.out.mono ?_
  rintro e w1 ⟨rfl, hB1⟩
  have B1 := Lib.hid (B0.out.keep hB1 B0.out.1)
  have HB1 := Lib.hid (HB0.out.trans (hB1.mono HB0.out.size)); clear hB1
  clear B0 HB0 HC
  cases hg : bP (GoodBs b.say)
  · have HG := Lib.hid hg
    clear hg
    go_wp2
    go_ret2
    rw [HG.out]
    exact ⟨[], fun h => (by cases h), fun _ => rfl, by simp, none, 0, rfl, .inl rfl, HB1.out⟩
  · have HGB : Hid (GoodBs b.say) := bP_is hg
    have HG := Lib.hid hg
    clear hg
    obtain ⟨_, b0, b1, b2, b3, b4, b5⟩ := B1.out
    go_wp2_with fail
    refine (l5Null_any b w1 ((HX.out.keep HB1.out).more HB1.out.size) HM.out HGB.out).mono ?_
    rintro e w2 ⟨v2, ys, rfl, ⟨hr, hf, hI⟩, hV, hB2⟩
    obtain ⟨A2, c2, rfl, hO2⟩ := hV.own
    have HR := Lib.hid hr
    have HI := Lib.hid hI
    have HO2 := Lib.hid (hO2.lower HB1.out.size)
    have HB2 := Lib.hid (HB1.out.trans (hB2.mono HB1.out.size))
    have hl : ys.length ≤ 40 := len6 (S := setL ys) (hr.imp fun h => by omega) (fun x hx => setL_iff.2 hx) fun x hx => hf x (setL_iff.1 hx)
    clear hr hf hI hV hO2 hB2 b0 b1 b2 b3 b4 b5
    go_wp2
    go_ret2
    rw [HG.out]
    exact ⟨ys, fun _ => ⟨setL ys, HI.out, HR.out, fun x => setL_iff.symm⟩, fun h => (by cases h), hl, A2, c2, rfl, HO2.out, HB2.out⟩

end Go.Proofs.YtjfhkcoiomokoaaDoor

/- How many rules the lists of a binary grammar make that the laws take. -/

namespace Go.Proofs.YtjfhkcoiomokoaaDoor
open Go.RowKit

def TotB (s : Bs) : Prop := s.P.length + s.O.length + s.E.length ≤ 1048576
theorem szLs_less {xs : List (List Int)} {L : Int} (_hL : 0 ≤ L) (h : 0 ≤ szLs xs L) : szLs xs L ≤ L - xs.length := by
  unfold szLs at h ⊢
  split at h
  · omega
  · rename_i hn
    rw [if_neg hn]
    exact (szL_ge xs (L := L - xs.length) (by omega)).2 h |>.1
theorem szB_total {b : Bi} (hp : 0 ≤ szB (sayL b.P) (sayL b.O) b.E (sayL b.F) 1048576) : TotB b.say := by
  unfold szB at hp
  split at hp
  · omega
  rename_i h1
  split at hp
  · omega
  rename_i h2
  split at hp
  · omega
  rename_i h3
  have a1 := szLs_less (xs := sayL b.P) (L := 1048576) (by omega) (by omega)
  have a2 := szLs_less (xs := sayL b.O) (L := szLs (sayL b.P) 1048576) (by omega) (by omega)
  have e3 : szI b.E.length (szLs (sayL b.O) (szLs (sayL b.P) 1048576)) = szLs (sayL b.O) (szLs (sayL b.P) 1048576) - b.E.length := by
    unfold szI at h3 ⊢; split <;> simp_all
  show (sayL b.P).length + (sayL b.O).length + b.E.length ≤ 1048576
  omega
theorem TotB.of {b b' : Bi} (h : TotB b.say) (e : b'.say = b.say) : b'.P.length + b'.O.length + b'.E.length ≤ 1048576 := by
  have h2 : TotB b'.say := e ▸ h
  have h3 : (sayL b'.P).length + (sayL b'.O).length + b'.E.length ≤ 1048576 := h2
  rw [sayL_len, sayL_len] at h3
  exact h3
theorem FitB.of {b b' : Bi} (h : FitB b.say) (e : b'.say = b.say) : FitB b'.say := e ▸ h

end Go.Proofs.YtjfhkcoiomokoaaDoor

/- The law of BinaryNull: its walk. -/

namespace Go.Proofs.YtjfhkcoiomokoaaDoor
open Go.RowKit

set_option maxRecDepth 20000 in
set_option maxHeartbeats 2000000 in
theorem law_BinaryNull (b : Bi) (w : World) (hx : ReadB w w.heap.size b) (hL : Lims w) (hm : LenB maxLen b) (hf : FitB b.say) :
    Calls Tryd.prog 9 #[(.agg #[.int .i64 b.n, .int .i64 b.t, .slice b.Ap b.P.length b.cp, .slice b.Ao b.O.length b.co, .slice b.Ae b.E.length b.ce, .slice b.Af b.F.length b.cf])] w (LawEnds w) := by
  have HX := Lib.hid hx; clear hx
  have HL := Lib.hid hL; clear hL
  have HM := Lib.hid hm; clear hm
  have HF := Lib.hid hf; clear hf
  go_enter Tryd.func9, Tryd.ntmps9
  go_wp2_with fail
  have hBA : Below w.heap.size w (w.alloc (.cells #[.int .i64 b.n, .int .i64 b.t, .slice b.Ap b.P.length b.cp, .slice b.Ao b.O.length b.co, .slice b.Ae b.E.length b.ce, .slice b.Af b.F.length b.cf] 51)) := by go_grown
  have B0 := Box6.new w b 51
  generalize (w.alloc (.cells #[.int .i64 b.n, .int .i64 b.t, .slice b.Ap b.P.length b.cp, .slice b.Ao b.O.length b.co, .slice b.Ae b.E.length b.ce, .slice b.Af b.F.length b.cf] 51)) = W at hBA B0 ⊢
  have HBA := Lib.hid hBA; clear hBA
  have HB0 := Lib.hid B0; clear B0
  refine (szBinary_any _ _ ((HX.out.keep HBA.out).more HBA.out.size) HM.out).mono ?_
  rintro e w1 ⟨rfl, hB1⟩
  have HB1 := Lib.hid hB1; clear hB1
  by_cases hneg : szB (sayL b.P) (sayL b.O) b.E (sayL b.F) 1048576 < 0
  · go_wp2
    go_ret
    exact ⟨rfl, HBA.out.trans (HB1.out.mono HBA.out.size)⟩
  have HLN : Hid (LenB 1048576 b) := szB_bound (by omega)
  have HTT : Hid (TotB b.say) := szB_total (by omega)
  have HW1 := Lib.hid (HBA.out.trans (HB1.out.mono HBA.out.size))
  have KA1 := Lib.hid (HB0.out.keep HB1.out HB0.out.1)
  have HR1 := Lib.hid ((HX.out.keep HW1.out).more HW1.out.size)
  obtain ⟨_, a0, a1, a2, a3, a4, a5⟩ := KA1.out
  clear HB1 HB0 HBA
  -- the reference's answer
  go_wp2_with fail
  refine (toBinaryA_any _ _ HR1.out HLN.out).mono ?_
  rintro e w2 ⟨b2, rfl, ha2, hO2, _, hB2, hP2⟩
  have HP2 := Lib.hid hP2; clear hP2
  have HLN2 := Lib.hid (HLN.out.of_say ha2)
  have HO2 := Lib.hid hO2; clear hO2
  have HA2 := Lib.hid ha2; clear ha2
  have HB2 := Lib.hid hB2; clear hB2
  go_wp2_with fail
  refine (specNull_any _ _ HO2.out.read HLN2.out).mono ?_
  have HBG : Hid (∀ (b' : Bi) (v : World) (e : Ending) (v' : World), b'.say = b.say → GaveP v (bP (GoodBs b'.say)) (IsLeast wayNull noS (bRules (sayL b'.P) (sayL b'.O) b'.E)) e v' → GaveP v (bP (GoodBs b.say)) (IsLeast wayNull noS (bRules (sayL b.P) (sayL b.O) b.E)) e v') := fun b' v e v' h1 h2 => by
    have e3 : sayL b'.P = sayL b.P := congrArg Bs.P h1
    have e4 : sayL b'.O = sayL b.O := congrArg Bs.O h1
    have e5 : b'.E = b.E := congrArg Bs.E h1
    rw [e3, e4, e5, h1] at h2
    exact h2
  intro e w3 hG
  have hG3 := HBG.out _ _ _ _ HA2.out hG
  clear hG
  obtain ⟨ys, hy1, hy2, hy3, A3, c3, rfl, hO3, hB3⟩ := hG3
  have hyl : ys.length ≤ 1048576 := by omega
  have HIMP : Hid (∀ (b' : Bi) (v : World), ReadB v v.heap.size b' → Lims v → b'.say = b.say →
      Calls Tryd.prog 40 #[(.agg #[.int .i64 b'.n, .int .i64 b'.t, .slice b'.Ap b'.P.length b'.cp, .slice b'.Ao b'.O.length b'.co, .slice b'.Ae b'.E.length b'.ce, .slice b'.Af b'.F.length b'.cf])] v (GaveIB v ys (bP (GoodBs b.say)))) := fun b' v h1 h2 h3 => by
    refine (implNull_any b' v h1 h2 (HLN.out.of_say h3) (HTT.out.of h3) (FitB.of HF.out h3)).mono fun e v' hh => ?_
    obtain ⟨zs, z1, z2, _, z4⟩ := HBG.out b' v e v' h3 hh
    have e : zs = ys := same_list (fun _ _ h k => IsLeast.unique h k) z1 z2 hy1 hy2
    exact e ▸ z4
  clear hy1 hy2 hy3 HBG
  generalize bP (GoodBs b.say) = ok at HIMP hO3 ⊢
  have HB3 := Lib.hid (HB2.out.trans (hB3.mono HB2.out.size)); clear hB3
  have HO3 := Lib.hid hO3; clear hO3
  have HI3 : Hid (∀ b, Its A3 ys b → w.heap.size + 1 ≤ b ∧ b < w3.heap.size) := fun b hb => ⟨by have := (HO3.out.its hb).1; have := HB2.out.size; have := KA1.out.1; omega, (HO3.out.its hb).2⟩
  clear a0 a1 a2 a3 a4 a5 HO2 HA2 HLN2
  have KA3 := Lib.hid (KA1.out.keep HB3.out KA1.out.1)
  have HW3 := Lib.hid (HW1.out.trans (HB3.out.mono HW1.out.size))
  have HR3 := Lib.hid ((HX.out.keep HW3.out).more HW3.out.size)
  have HWS3 : Hid (w.heap.size + 1 ≤ w3.heap.size) := KA3.out.1
  clear KA1 HR1 HW1 HB3 HB2
  obtain ⟨_, a0, a1, a2, a3, a4, a5⟩ := KA3.out
  -- the program's argument, a copy
  go_wp2_with fail
  refine (toBinaryA_any _ _ HR3.out HLN.out).mono ?_
  rintro e w4 ⟨b4, rfl, ha4, hO4, _, hB4, hP4⟩
  have HP4 := Lib.hid hP4; clear hP4
  have HLN4 := Lib.hid (HLN.out.of_say ha4)
  have HA4 := Lib.hid ha4; clear ha4
  have HI4 : Hid (∀ b, ItsB b4 b → w3.heap.size ≤ b ∧ b < w4.heap.size) := fun b hb => hO4.its hb
  have HS4 := Lib.hid hB4.size
  clear a0 a1 a2 a3 a4 a5
  go_wp2_with fail
  have hBX : Below w4.heap.size w4 (w4.alloc (.cells #[.int .i64 b4.n, .int .i64 b4.t, .slice b4.Ap b4.P.length b4.cp, .slice b4.Ao b4.O.length b4.co, .slice b4.Ae b4.E.length b4.ce, .slice b4.Af b4.F.length b4.cf] 45)) := by go_grown
  have B4 := Box6.new w4 b4 45
  generalize (w4.alloc (.cells #[.int .i64 b4.n, .int .i64 b4.t, .slice b4.Ap b4.P.length b4.cp, .slice b4.Ao b4.O.length b4.co, .slice b4.Ae b4.E.length b4.ce, .slice b4.Af b4.F.length b4.cf] 45)) = X at hBX B4 ⊢
  have HOX := Lib.hid (hO4.below hBX (Nat.le_refl _)); clear hO4
  have HSX := Lib.hid hBX.size
  have HBX := Lib.hid (hB4.trans (hBX.mono hB4.size)); clear hBX hB4
  have HB4 := Lib.hid B4; clear B4
  have HWX := Lib.hid (HW3.out.trans (HBX.out.mono HW3.out.size))
  have HO3X := Lib.hid (HO3.out.below HBX.out (Nat.le_refl _))
  have KAX := Lib.hid (KA3.out.keep HBX.out KA3.out.1)
  clear HO3 KA3 HW3 HR3
  -- the program's answer
  refine (HIMP.out _ _ HOX.out.read (HL.out.keep HWX.out (Nat.le_refl _)) HA4.out).mono ?_
  rintro e w5 ⟨A5, c5, rfl, hO5, hB5⟩
  have KX5 := Lib.hid (HB4.out.keep hB5 HB4.out.1)
  have KA5 := Lib.hid (KAX.out.keep hB5 KAX.out.1)
  have HO4 := Lib.hid (HOX.out.below hB5 (Nat.le_refl _))
  have HO3 := Lib.hid (HO3X.out.below hB5 (Nat.le_refl _))
  have HW5 := Lib.hid (HWX.out.trans (hB5.mono HWX.out.size))
  have HI5 : Hid (∀ b, Its A5 ys b → w4.heap.size ≤ b) := fun b hb => by have := (hO5.its hb).1; have := HSX.out; omega
  have HO5 := Lib.hid hO5; clear hO5
  clear hB5 HOX HB4 HWX KAX HO3X
  -- they say the same
  go_wp2_with fail
  refine (eqIntS_any _ _ _ _ _ _ _ HO5.out.ints HO3.out.ints hyl).mono ?_
  rintro e w6 ⟨rfl, hB6⟩
  rw [eqL_refl]
  have hok : (ok != ok) = false := by simp
  have KX := Lib.hid (KX5.out.keep hB6 KX5.out.1)
  have KA := Lib.hid (KA5.out.keep hB6 KA5.out.1)
  have HO46 := Lib.hid (HO4.out.below hB6 (Nat.le_refl _))
  have HO36 := Lib.hid (HO3.out.below hB6 (Nat.le_refl _))
  have HO56 := Lib.hid (HO5.out.below hB6 (Nat.le_refl _))
  have HW6 := Lib.hid (HW5.out.trans (hB6.mono HW5.out.size))
  have HR6 := Lib.hid ((HX.out.keep HW6.out).more HW6.out.size)
  clear hB6 KX5 KA5 HO4 HO3 HO5 HW5
  obtain ⟨_, x0, x1, x2, x3, x4, x5⟩ := KX.out
  obtain ⟨_, a0, a1, a2, a3, a4, a5⟩ := KA.out
  go_wp2_with fail
  go_region_held3 (fun w' => w'.cell? ⟨w4.heap.size, 0, none⟩ = some (.int .i64 b4.n) ∧ w'.cell? ⟨w4.heap.size, 1, none⟩ = some (.int .i64 b4.t) ∧ w'.cell? ⟨w4.heap.size, 2, none⟩ = some (.slice b4.Ap b4.P.length b4.cp) ∧ w'.cell? ⟨w4.heap.size, 3, none⟩ = some (.slice b4.Ao b4.O.length b4.co) ∧ w'.cell? ⟨w4.heap.size, 4, none⟩ = some (.slice b4.Ae b4.E.length b4.ce) ∧ w'.cell? ⟨w4.heap.size, 5, none⟩ = some (.slice b4.Af b4.F.length b4.cf) ∧ w'.cell? ⟨w.heap.size, 0, none⟩ = some (.int .i64 b.n) ∧ w'.cell? ⟨w.heap.size, 1, none⟩ = some (.int .i64 b.t) ∧ w'.cell? ⟨w.heap.size, 2, none⟩ = some (.slice b.Ap b.P.length b.cp) ∧ w'.cell? ⟨w.heap.size, 3, none⟩ = some (.slice b.Ao b.O.length b.co) ∧ w'.cell? ⟨w.heap.size, 4, none⟩ = some (.slice b.Ae b.E.length b.ce) ∧ w'.cell? ⟨w.heap.size, 5, none⟩ = some (.slice b.Af b.F.length b.cf))
    (first | exact ⟨v0, v1, v2, v3, v4, v5, u0, u1, u2, u3, u4, u5⟩ | exact ⟨y0, y1, y2, y3, y4, y5, z0, z1, z2, z3, z4, z5⟩ | exact ⟨x0, x1, x2, x3, x4, x5, a0, a1, a2, a3, a4, a5⟩)
    (first
    | (go_at_call 32
       refine (toBinaryA_any _ _ ?_ HLN.out).mono ?_
       · exact HR6.out.keep (by go_grown)
       rintro e w7 ⟨b7, rfl, ha7, hO7, _, hB7', hP7⟩
       have HP7 := Lib.hid hP7; clear hP7
       have hB7 : Below w6.heap.size w6 w7 := Below.trans (by go_grown) hB7'
       obtain ⟨_, y0, y1, y2, y3, y4, y5⟩ := KX.out.keep hB7 KX.out.1
       obtain ⟨_, z0, z1, z2, z3, z4, z5⟩ := KA.out.keep hB7 KA.out.1
       have HO7 := Lib.hid hO7
       have HA7 := Lib.hid ha7
       have HB7 := Lib.hid hB7
       clear hO7 ha7 hB7 hB7')
    | (go_at_call 27
       refine (eqBinary_any _ _ _ ?_ ?_ HLN4.out (HA4.out.trans HA7.out.symm)).mono ?_
       · exact (HO46.out.read.keep HB7.out).more HB7.out.size
       · exact HO7.out.read
       rintro e w8 ⟨rfl, hB8'⟩
       have hB8 : Below w6.heap.size w6 w8 := HB7.out.trans (hB8'.mono HB7.out.size)
       obtain ⟨_, v0, v1, v2, v3, v4, v5⟩ := KX.out.keep hB8 KX.out.1
       obtain ⟨_, u0, u1, u2, u3, u4, u5⟩ := KA.out.keep hB8 KA.out.1
       have HB8 := Lib.hid hB8
       clear hB8 hB8'))
  rename_i hHeld
  clear hHeld x0 x1 x2 x3 x4 x5 a0 a1 a2 a3 a4 a5 y0 y1 y2 y3 y4 y5 z0 z1 z2 z3 z4 z5 u0 u1 u2 u3 u4 u5
  have HW8 := Lib.hid (HW6.out.trans (HB8.out.mono HW6.out.size))
  have HO48 := Lib.hid (HO46.out.below HB8.out (Nat.le_refl _))
  have HO38 := Lib.hid (HO36.out.below HB8.out (Nat.le_refl _))
  have HO58 := Lib.hid (HO56.out.below HB8.out (Nat.le_refl _))
  have KA8 := Lib.hid (KA.out.keep HB8.out KA.out.1)
  have HS34 : Hid (w.heap.size + 1 ≤ w3.heap.size) := HWS3.out
  clear HO46 HO36 HO56 KX KA HW6 HR6 HB8
  -- the argument is marked
  go_wp2_with fail
  refine (markBinary_any _ _ _ _ HO48.out HP4.out HLN4.out (by omega) (by omega)).mono ?_
  rintro e w9 ⟨rfl, _, hS9⟩
  have HB9 : Hid (Below (w.heap.size + 1) w8 w9) := hS9.below (by have := KA8.out.1; omega) fun i hi hI => by have := (HI4.out i hI).1; have := HS34.out; omega
  have HW9 := Lib.hid (HW8.out.trans (HB9.out.mono (by omega)))
  have KA9 := Lib.hid (KA8.out.keep HB9.out (by omega))
  have HO39 := Lib.hid (HO38.out.kept hS9 fun b hb hI => by have := (HI3.out b hb).2; have := (HI4.out b hI).1; omega)
  have HO59 := Lib.hid (HO58.out.kept hS9 fun b hb hI => by have := HI5.out b hb; have := (HI4.out b hI).2; omega)
  clear v0 v1 v2 v3 v4 v5 hS9 HO48 HO38 HO58 KA8 HW8
  go_wp2_with fail
  refine (eqIntS_any _ _ _ _ _ _ _ HO59.out.ints HO39.out.ints hyl).mono ?_
  rintro e w10 ⟨rfl, hB10⟩
  rw [eqL_refl]
  have HW10 := Lib.hid (HW9.out.trans (hB10.mono HW9.out.size))
  have KA10 := Lib.hid (KA9.out.keep hB10 KA9.out.1)
  have HO310 := Lib.hid (HO39.out.below hB10 (Nat.le_refl _))
  have HO510 := Lib.hid (HO59.out.below hB10 (Nat.le_refl _))
  clear hB10 HW9 KA9 HO39 HO59 HB9
  -- the answer is marked, and found again
  go_wp2_with fail
  refine (markIntS_any _ _ _ _ _ _ HO510.out hyl (by omega) (by omega)).mono ?_
  rintro e w11 ⟨rfl, hO11, hS11⟩
  have HB11 : Hid (Below (w.heap.size + 1) w10 w11) := hS11.below (by have := KA10.out.1; omega) fun i hi hI => by have := HI5.out i hI; have := HS34.out; have := HSX.out; have := HS4.out; omega
  have HW11 := Lib.hid (HW10.out.trans (HB11.out.mono (by omega)))
  have KA11 := Lib.hid (KA10.out.keep HB11.out (by omega))
  have HO311 := Lib.hid (HO310.out.kept hS11 fun b hb hI => by have := (HI3.out b hb).2; have := HI5.out b hI; have := HS4.out; omega)
  have HO511 := Lib.hid hO11
  clear hO11 hS11 HW10 KA10 HO310 HO510 HB11
  go_wp2_with fail
  refine (heldIntS_any _ _ _ _ _ HO511.out.ints hyl (by omega) (by omega)).mono ?_
  rintro e w12 ⟨rfl, hB12⟩
  have hne : ((1 + (ys.length : Int)) != (1 + (ys.length : Int))) = false := by simp
  have HW12 := Lib.hid (HW11.out.trans (hB12.mono HW11.out.size))
  have KA12 := Lib.hid (KA11.out.keep hB12 KA11.out.1)
  have HO312 := Lib.hid (HO311.out.below hB12 (Nat.le_refl _))
  have HO512 := Lib.hid (HO511.out.below hB12 (Nat.le_refl _))
  have HR12 := Lib.hid ((HX.out.keep HW12.out).more HW12.out.size)
  obtain ⟨_, a0, a1, a2, a3, a4, a5⟩ := KA12.out
  clear hB12 HW11 KA11 HO311 HO511
  -- the program once more
  go_wp2_with fail
  refine (toBinaryA_any _ _ HR12.out HLN.out).mono ?_
  rintro e w13 ⟨b13, rfl, ha13, hO13, _, hB13, hP13⟩
  have HP13 := Lib.hid hP13; clear hP13
  have HA13 := Lib.hid ha13; clear ha13
  have HO13 := Lib.hid hO13; clear hO13
  have HB13 := Lib.hid hB13; clear hB13
  have HW13 := Lib.hid (HW12.out.trans (HB13.out.mono HW12.out.size))
  clear a0 a1 a2 a3 a4 a5
  go_wp2_with fail
  refine (HIMP.out _ _ HO13.out.read (HL.out.keep HW13.out (Nat.le_refl _)) HA13.out).mono ?_
  rintro e w14 ⟨A14, c14, rfl, hO14, hB14⟩
  have HB14 := Lib.hid (HB13.out.trans (hB14.mono HB13.out.size)); clear hB14
  have HO14 := Lib.hid hO14; clear hO14
  have HO314 := Lib.hid (HO312.out.below HB14.out (Nat.le_refl _))
  have HO514 := Lib.hid (HO512.out.below HB14.out (Nat.le_refl _))
  have HW14 := Lib.hid (HW12.out.trans (HB14.out.mono HW12.out.size))
  go_wp2_with fail
  refine (eqIntS_any _ _ _ _ _ _ _ HO14.out.ints HO314.out.ints hyl).mono ?_
  rintro e w15 ⟨rfl, hB15⟩
  rw [eqL_refl]
  have HO515 := Lib.hid (HO514.out.below hB15 (Nat.le_refl _))
  have HW15 := Lib.hid (HW14.out.trans (hB15.mono HW14.out.size))
  clear hB15
  go_wp2_with fail
  refine (heldIntS_any _ _ _ _ _ HO515.out.ints hyl (by omega) (by omega)).mono ?_
  rintro e w16 ⟨rfl, hB16⟩
  have HW16 := Lib.hid (HW15.out.trans (hB16.mono HW15.out.size))
  clear hB16
  go_wp2
  go_ret
  exact ⟨rfl, HW16.out⟩

end Go.Proofs.YtjfhkcoiomokoaaDoor

/- From the reading of an argument to its cells: a slice of lists of numbers, a binary grammar. -/

namespace Go.Proofs.YtjfhkcoiomokoaaDoor
open Go.ChangeShapes Go.WideShapes Go.ChangeAt Go.RowKit Go.Deep Go.Joins

theorem Tryd.cellsIntSS : Tryd.prog.cellsOf 27 = 1 := by kernel_rfl
theorem Tryd.cellsBinL : Tryd.prog.cellsOf 51 = 6 := by kernel_rfl

theorem array6 {α : Type} {cs : Array α} (h : cs.size = 6) : ∃ c0 c1 c2 c3 c4 c5, cs = #[c0, c1, c2, c3, c4, c5] := by
  obtain ⟨l⟩ := cs
  match l, h with
  | [c0, c1, c2, c3, c4, c5], _ => exact ⟨c0, c1, c2, c3, c4, c5, rfl⟩

instance : Inhabited Li := ⟨⟨none, [], 0⟩⟩

section
variable {H : Type} {enc : TypeId × Value → H} {W : World} {spare : Nat → Bool} {held : Bool}

set_option maxRecDepth 100000 in
theorem open_intSS {fuel : Nat} {v : Value} {y : DataW H × List MemPlace} (h : DataW.trod enc Tryd.prog W 0 spare held fuel 27 [v] = some y) :
    ∃ (A : Option Addr) (ls : List Li) (c : Nat), v = .slice A ls.length c ∧ ls.length ≤ c ∧ Lls W W.heap.size A ls ∧ ls.length ≤ maxLen ∧ (∀ u ∈ ls, u.r.length ≤ maxLen) ∧ FitL (sayL ls) := by
  rcases open_slice Tryd.underlying27 h with ⟨hcs, _⟩ | ⟨a, len, cap, m, n, D, Pl, hcs, _, hl, hm, hz, _, hel⟩
  · injection hcs with hcs
    subst hcs
    exact ⟨none, [], 0, rfl, Nat.le_refl _, fun h => by simp at h, by simp [maxLen], fun x hx => by simp at hx, fun x hx => by simp [sayL] at hx⟩
  · injection hcs with hcs
    subst hcs
    have hlm : len ≤ m := by rw [hz]; split <;> omega
    have each : ∀ i, i < len → ∃ u : Li, W.cell? (a.add i) = some (.slice u.a u.r.length u.c) ∧ u.r.length ≤ u.c ∧ Ints W W.heap.size u.a u.r ∧ u.r.length ≤ maxLen ∧ ∀ x ∈ u.r, F64 x := by
      intro i hi
      obtain ⟨cs', hc, ht⟩ := hel i (by omega)
      rw [Tryd.cellsIntS] at hc
      obtain ⟨_, hcl, hat⟩ := World.cells?_some hc
      match cs', hcl with
      | [q0], _ =>
        obtain ⟨A', xs, c', rfl, hxc, hI, hml, hF⟩ := open_intS ht
        exact ⟨⟨A', xs, c'⟩, by simpa [Addr.add] using hat 0 (by omega), hxc, hI, hml, hF⟩
    obtain ⟨f, hf⟩ := choose_lt each
    have hlen : ((List.range len).map f).length = len := by simp
    refine ⟨some a, (List.range len).map f, cap, by rw [hlen], by omega, fun hp => ?_, by omega, fun u hu => ?_, fun x hx => ?_⟩
    · obtain ⟨b, off, spot⟩ := a
      have hspot : spot = none := by simpa [Addr.add] using World.cell?_spot (hf 0 (by omega)).1
      subst hspot
      refine ⟨b, off, rfl, ?_, fun k u hu => ?_⟩
      · have := (hf 0 (by omega)).1
        exact lt_of_cell (b := b) (o := off) (by simpa [Addr.add] using this)
      · have hk := (List.getElem?_eq_some_iff.1 hu).1
        rw [hlen] at hk
        have hu' : f k = u := by simpa [hk] using hu
        subst hu'
        obtain ⟨h1, h2, h3, _, _⟩ := hf k hk
        rw [Go.WideShapes.add_plain] at h1
        exact ⟨h1, h2, h3⟩
    · obtain ⟨i, hi, rfl⟩ := List.mem_map.1 hu
      exact (hf i (List.mem_range.1 hi)).2.2.2.1
    · obtain ⟨u, hu, rfl⟩ := List.mem_map.1 hx
      obtain ⟨i, hi, rfl⟩ := List.mem_map.1 hu
      exact (hf i (List.mem_range.1 hi)).2.2.2.2

set_option maxRecDepth 100000 in
theorem open_binary {r : Reach} {b0 : Nat} {v : Value} {d : DataW H} {p : List MemPlace} (hv : Value.okWide Tryd.prog W r b0 51 v) (h : DataW.Trod enc Tryd.prog W 0 spare held 51 v d p) :
    ∃ b : Bi, v = (.agg #[.int .i64 b.n, .int .i64 b.t, .slice b.Ap b.P.length b.cp, .slice b.Ao b.O.length b.co, .slice b.Ae b.E.length b.ce, .slice b.Af b.F.length b.cf]) ∧ CapB b ∧ ReadB W W.heap.size b ∧ LenB maxLen b ∧ FitB b.say ∧ F64 b.n ∧ F64 b.t := by
  obtain ⟨cs, rfl, hsz⟩ := okWide_struct Tryd.underlying51 hv
  obtain ⟨c0, c1, c2, c3, c4, c5, rfl⟩ := array6 (hsz.trans Tryd.cellsBinL)
  obtain ⟨fuel, hf⟩ := h
  obtain ⟨xs, n, _, _, _, hlen, hfs⟩ := DataW.trod_struct Tryd.underlying51 hf
  match xs, hlen with
  | [y0, y1, y2, y3, y4, y5], _ =>
    have h0 : DataW.trod enc Tryd.prog W 0 spare held n 3 [c0] = some y0 := by simpa [Value.cells, Tryd.cellsInt, Tryd.cellsIntS, Tryd.cellsIntSS] using hfs 0 _ rfl
    have h1 : DataW.trod enc Tryd.prog W 0 spare held n 3 [c1] = some y1 := by simpa [Value.cells, Tryd.cellsInt, Tryd.cellsIntS, Tryd.cellsIntSS] using hfs 1 _ rfl
    have h2 : DataW.trod enc Tryd.prog W 0 spare held n 27 [c2] = some y2 := by simpa [Value.cells, Tryd.cellsInt, Tryd.cellsIntS, Tryd.cellsIntSS] using hfs 2 _ rfl
    have h3 : DataW.trod enc Tryd.prog W 0 spare held n 27 [c3] = some y3 := by simpa [Value.cells, Tryd.cellsInt, Tryd.cellsIntS, Tryd.cellsIntSS] using hfs 3 _ rfl
    have h4 : DataW.trod enc Tryd.prog W 0 spare held n 25 [c4] = some y4 := by simpa [Value.cells, Tryd.cellsInt, Tryd.cellsIntS, Tryd.cellsIntSS] using hfs 4 _ rfl
    have h5 : DataW.trod enc Tryd.prog W 0 spare held n 27 [c5] = some y5 := by simpa [Value.cells, Tryd.cellsInt, Tryd.cellsIntS, Tryd.cellsIntSS] using hfs 5 _ rfl
    obtain ⟨n, e0, _, w0⟩ := DataW.trod_int Tryd.underlying3 h0
    obtain ⟨t, e1, _, w1⟩ := DataW.trod_int Tryd.underlying3 h1
    injection e0 with e0
    injection e1 with e1
    subst e0 e1
    obtain ⟨Ap, P, cp, rfl, p1, p2, p3, p4, p5⟩ := open_intSS h2
    obtain ⟨Ao, O, co, rfl, o1, o2, o3, o4, o5⟩ := open_intSS h3
    obtain ⟨Ae, E, ce, rfl, i1, i2, i3, i4⟩ := open_intS h4
    obtain ⟨Af, F, cf, rfl, f1, f2, f3, f4, f5⟩ := open_intSS h5
    exact ⟨⟨n, t, Ap, P, cp, Ao, O, co, Ae, E, ce, Af, F, cf⟩, rfl, ⟨p1, o1, i1, f1⟩, ⟨p2, o2, i2, f2⟩, ⟨p3, p4, o3, o4, i3, f3, f4⟩, ⟨p5, o5, i4, f5⟩, bounds_i64 w0, bounds_i64 w1⟩
end

end Go.Proofs.YtjfhkcoiomokoaaDoor

/- The law of BinaryNull holds of every binary grammar that can be read: the call returns true, and the binary grammar reads afterwards as it read before. Conditions: the package's table of limits is as the program's text lays it (tied by the given tie). -/

namespace Go.Proofs.YtjfhkcoiomokoaaDoor
open Go.ChangeShapes Go.WideShapes Go.ChangeAt Go.RowKit

set_option maxRecDepth 100000 in
theorem binaryNull_lifted (os : Os) (started : os.Started) (H : Type) (enc : TypeId × Value → H) :
    ReturnsInHanded {} Tryd.checked os 9 .any (fun w args => (Rows.fnExactBinaryNullSpec.pre enc Tryd.prog Tryd.f9 [] false w args ∧ laidMetH Tryd.prog laid1 w) ∧ sizedMet enc Tryd.prog Tryd.f9 (OpenSpec.ofChange Rows.fnExactBinaryNullSpec) false w args)
      (Rows.fnExactBinaryNullSpec.post enc Tryd.prog Tryd.f9 false true false false) := by
  refine returnsInHanded_of_change_and (C := Tryd.checked) (X := fun w _ => laidMetH Tryd.prog laid1 w) (fun _ _ _ hh h => h.of_heap hh) Tryd.own started (by kernel_rfl) Tryd.func9
    (ChangeSpec.witness_shaped (enc := enc) (C := Tryd.checked) (os := os) (X := fun w _ => laidMetH Tryd.prog laid1 w) false (World.doorLaid Tryd.prog 400 os) #[.agg #[.int .i64 0, .int .i64 0, .slice none 0 0, .slice none 0 0, .slice none 0 0, .slice none 0 0]] 8 rfl (World.shaped_of_RefB (by kernel_rfl) (by kernel_rfl)) (by kernel_rfl) (by kernel_rfl) (by kernel_rfl) (door_met os _)) ?_
  intro W base args ds gs before hval0 hW _ _ hL _
  have hval : ∀ (j : Nat) t v, Tryd.f9.params[j]? = some t → args[j]? = some v → Value.okWide Tryd.prog W .any base t v := hval0
  have hW' := hW
  obtain ⟨p, q, hA0, hV0, rfl, hfz, hnd⟩ := hW
  have hA : DataW.TrodAll enc Tryd.prog W 0 (fun _ => true) true Tryd.f9.params.toList args.toList ds p := hA0
  have hV : DataW.TrodVars enc Tryd.prog W (fun _ => true) ["loop.example/g00758/impl.limits"] gs q := hV0
  rw [Tryd.params9] at hA hval
  obtain ⟨v0, d0, rfl, rfl, h0⟩ := trodAll_one hA
  obtain ⟨g, tg, cs, fuel, dg, pg, rfl, _⟩ := trodVars_one hV
  obtain ⟨b, rfl, _, hR, hM, hF, _, _⟩ := open_binary (hval 0 51 v0 rfl rfl) h0
  refine (law_BinaryNull b W hR (lims_of_laid hL) hM hF).mono fun e W' ⟨he, hb⟩ => ?_
  subst he
  exact ⟨_, rfl, ends_one hW' Tryd.params9 rfl rfl (by kernel_rfl) (of_decide_eq_true (by kernel_rfl)) (by kernel_rfl) hb⟩

theorem binaryNull_holds : Rows.FnExactBinaryNullSaid :=
  OpenClaim.holds_of_wide 9 Tryd.f9 rfl rfl rfl rfl rfl rfl rfl ⟨rfl, rfl, rfl, rfl, rfl⟩ rfl rfl rfl rfl rfl (by kernel_rfl) Tryd.func9 (by kernel_rfl)
    (of_decide_eq_true (by kernel_rfl)) (by unfold Func.isWrapper; first | (rw [if_pos (by decide +kernel)]; kernel_rfl) | (rw [if_neg (by decide +kernel)]; exact ⟨rfl, rfl⟩))
    (fun os started H enc _ => binaryNull_lifted os started H enc)

theorem binaryNull_card : Rows.FnExactBinaryNullCardSaid :=
  Claim7.holds_tied_plain_at .later [] [.data] true (true, "541ab252535a64f61b383d981b2006ce37062e3785817d7f4eac89880f20ffa6") false
    binaryNull_holds (fun _ h => by cases h) (by kernel_rfl) (fun _ h => by cases h) fnExactBinaryNull_row_tie rfl ⟨rfl, rfl⟩ (by kernel_rfl) rfl
    (fun f fn hf hfn => by
      obtain rfl : f = 9 := Option.some.inj ((show Tryd.prog.funcNamed "loop.example/g00758/laws.FnExactBinaryNull" = some 9 by kernel_rfl).symm.trans hf) |>.symm
      obtain rfl : fn = Tryd.f9 := (Option.some.inj (Tryd.func9.symm.trans hfn)).symm
      exact ⟨by kernel_rfl, fun j t ht => by
        rw [Tryd.params9] at ht
        have hm : t ∈ [51] := by simpa using Array.mem_of_getElem? ht
        have hall : ([51].all fun u => !Tryd.prog.wantsStandIn u) = true := by kernel_rfl
        exact (show Tryd.prog.wantsStandIn t = false by simpa using List.all_eq_true.1 hall t hm)⟩)
    (by kernel_rfl)

#print axioms binaryNull_card
end Go.Proofs.YtjfhkcoiomokoaaDoor
