/- What the program's checks of a binary grammar answer: goodEmpty, goodLists, GoodBinary. -/
import Derived.Test.YtjfhkcoiomokoaaDoorGbI
import Derived.Lib.QuietBelow
namespace Go.Proofs.YtjfhkcoiomokoaaDoor
open Go.RowKit
open Go.Sort (grow)

set_option maxRecDepth 20000 in
set_option maxHeartbeats 400000 in
theorem goodEmpty_any (n t : Int) (A : Option Addr) (xs : List Int) (c : Nat) (w : World) (hx : Ints w w.heap.size A xs) (h1 : xs.length ≤ 1048576) :
    Calls Tryd.prog 73 #[.agg #[.int .i64 n, .int .i64 t, .slice none 0 0], .slice A xs.length c] w fun e w' => e = .returned (.bool (bP (GoodE n xs))) ∧ Below w.heap.size w w' := by
  have HX := Lib.hid hx; clear hx
  have HBW : Hid (Below w.heap.size w (w.alloc (.cells #[.int .i64 n, .int .i64 t, .slice none 0 0] 32))) := by show Below _ _ _; go_grown
  have HB3 : Hid (Box3 (w.alloc (.cells #[.int .i64 n, .int .i64 t, .slice none 0 0] 32)) w.heap.size (.int .i64 n) (.int .i64 t) (.slice none 0 0)) := ⟨by simp, by simp [go_sem], by simp [go_sem], by simp [go_sem]⟩
  go_enter Tryd.func73, Tryd.ntmps73
  go_wp2
  go_loopw [9] (fun i wr => ∃ (k : Nat), k ≤ xs.length ∧ i = .int .i64 k ∧ Below w.heap.size w wr ∧ Box3 wr w.heap.size (.int .i64 n) (.int .i64 t) (.slice none 0 0) ∧ Hid (NonTo n xs k)) (fun i _ => xs.length - (intOf i).toNat)
  case atStart => exact ⟨0, by omega, rfl, HBW.out, HB3.out, fun j x h => absurd h (by omega)⟩
  case round =>
    obtain ⟨k, hk, rfl, hB, hbox, H⟩ := hrel
    by_cases hlt : k < xs.length
    · obtain ⟨b, o, rfl, hb, c1⟩ := (HX.out.keep hB).at_ hlt
      obtain ⟨g0, g1, g2, g3⟩ := id hbox
      have HBX := Lib.hid hbox; clear hbox
      cases hs : nonB n xs[k]
      all_goals
        have HSY := Lib.hid hs; clear hs
        go_wp2_with fail
        refine (isNon_any _ _ _ _ _).mono ?_
        rintro e w3 ⟨rfl, hB3⟩
        rw [HSY.out]
        have hB4 : Below w.heap.size w w3 := hB.trans (hB3.mono hB.size)
      · have HE : Hid (bP (GoodE n xs) = false) := bP_f fun h => by
          have := h.1 k _ hlt (List.getElem?_eq_getElem hlt)
          rw [HSY.out] at this; cases this
        go_wp2
        go_ret
        exact ⟨ret_b HE.out.symm, hB4⟩
      · have HN : Hid (NonTo n xs (k + 1)) := upto_next (Q := fun x => nonB n x = true) (List.getElem?_eq_getElem hlt) HSY.out H.out
        go_wp2
        go_roundw
        case rel => exact ⟨k + 1, by omega, by go_num, hB4, HBX.out.keep hB3 g0, HN.out⟩
        case measure => simp [intOf]; omega
    · have HN : Hid (NonTo n xs xs.length) := upto_end (Q := fun x => nonB n x = true) hlt H.out
      clear hbox H
      go_wp2_with fail
      refine (isRisingI_any _ _ _ _ ((HX.out.keep hB).more hB.size) h1).mono ?_
      rintro e w3 ⟨rfl, hB3⟩
      have HE : Hid (bP (GoodE n xs) = bP (RiseI xs xs.length)) := bP_congr ⟨fun h => h.2, fun h => ⟨HN.out, h⟩⟩
      have hB4 : Below w.heap.size w w3 := hB.trans (hB3.mono hB.size)
      clear hB3
      go_wp2
      go_ret
      exact ⟨ret_b HE.out.symm, hB4⟩

theorem Ints.drop1 {w : World} {B b o : Nat} {xs : List Int} (h : Ints w B (some ⟨b, o, none⟩) xs) : Ints w B (some ⟨b, o + 1, none⟩) (xs.drop 1) := by
  intro hn
  obtain ⟨b', o', e, hb, hc⟩ := h (by simp at hn; omega)
  injection e with e
  injection e with e1 e2
  subst e1 e2
  refine ⟨b, o + 1, rfl, hb, fun k x hx => ?_⟩
  rw [List.getElem?_drop] at hx
  have := hc _ _ hx
  rw [show o + (1 + k) = o + 1 + k by omega] at this
  exact this

theorem getD_zero {xs : List Int} (h : 0 < xs.length) : xs.getD 0 0 = xs[0] := by
  rw [List.getD_eq_getElem?_getD, List.getElem?_eq_getElem h]; rfl

set_option maxRecDepth 20000 in
set_option maxHeartbeats 1000000 in
theorem goodLists_any (n t : Int) (long : Nat) (hl2 : 2 ≤ long) (hl3 : long ≤ 3) (A : Option Addr) (ls : List Li) (c : Nat) (w : World) (hx : Lls w w.heap.size A ls) (h1 : ls.length ≤ 1048576) (h2 : ∀ u ∈ ls, u.r.length ≤ 1048576) (hf : FitL (sayL ls)) :
    Calls Tryd.prog 72 #[.agg #[.int .i64 n, .int .i64 t, .slice none 0 0], .slice A ls.length c, .int .i64 long] w fun e w' => e = .returned (.bool (bP (GoodLs n t long (sayL ls)))) ∧ Below w.heap.size w w' := by
  have HX := Lib.hid hx; clear hx
  have H2 := Lib.hid h2; clear h2
  have HF := Lib.hid hf; clear hf
  have HBW : Hid (Below w.heap.size w (w.alloc (.cells #[.int .i64 n, .int .i64 t, .slice none 0 0] 32))) := by show Below _ _ _; go_grown
  have HB3 : Hid (Box3 (w.alloc (.cells #[.int .i64 n, .int .i64 t, .slice none 0 0] 32)) w.heap.size (.int .i64 n) (.int .i64 t) (.slice none 0 0)) := ⟨by simp, by simp [go_sem], by simp [go_sem], by simp [go_sem]⟩
  have HLN : Hid ((sayL ls).length = ls.length) := sayL_len
  cases hq : bP (LongTo long (sayL ls) ls.length)
  · have HQ := Lib.hid hq; clear hq
    have HE : Hid (bP (GoodLs n t long (sayL ls)) = false) := bP_f fun h => bP_no HQ.out (by have := h.1; rw [HLN.out] at this; exact this)
    go_enter Tryd.func72, Tryd.ntmps72
    go_wp2_with fail
    refine (allLong_any _ _ _ _ _ ((HX.out.keep HBW.out).more HBW.out.size) h1).mono ?_
    rintro e w1 ⟨rfl, rfl⟩
    rw [HQ.out]
    go_wp2
    go_ret
    exact ⟨ret_b HE.out.symm, HBW.out⟩
  · have HQ := Lib.hid hq; clear hq
    have HLO : Hid (LongTo long (sayL ls) ls.length) := bP_is HQ.out
    go_enter Tryd.func72, Tryd.ntmps72
    go_wp2_with fail
    refine (allLong_any _ _ _ _ _ ((HX.out.keep HBW.out).more HBW.out.size) h1).mono ?_
    rintro e w1 ⟨rfl, rfl⟩
    rw [HQ.out]
    generalize (w.alloc (.cells #[.int .i64 n, .int .i64 t, .slice none 0 0] 32)) = W at HBW HB3 ⊢
    go_wp2
    go_loopw [15] (fun i wr => ∃ (k : Nat), k ≤ ls.length ∧ i = .int .i64 k ∧ Below w.heap.size w wr ∧ Box3 wr w.heap.size (.int .i64 n) (.int .i64 t) (.slice none 0 0) ∧ Hid (SymTo n t (sayL ls) k)) (fun i _ => ls.length - (intOf i).toNat)
    case atStart => exact ⟨0, by omega, rfl, HBW.out, HB3.out, fun j x h => absurd h (by omega)⟩
    case round =>
      obtain ⟨k, hk, rfl, hB, hbox, H⟩ := hrel
      by_cases hlt : k < ls.length
      · obtain ⟨b, o, rfl, hb, c1, c2, c3⟩ := (HX.out.keep hB).at_ hlt
        obtain ⟨g0, g1, g2, g3⟩ := id hbox
        have HBX := Lib.hid hbox; clear hbox
        have hlen2 := H2.out ls[k] (List.getElem_mem hlt)
        have HLK : Hid ((ls[k].r.length : Int) = long) := HLO.out k _ hlt (sayL_at hlt)
        have hr0 : 1 < ls[k].r.length := by have := HLK.out; omega
        have hc0 : 1 < ls[k].c := by omega
        have hci : (1 : Int) < (ls[k].c : Int) := by omega
        have hri : (1 : Int) < (ls[k].r.length : Int) := by omega
        obtain ⟨b', o', ea, hb', d1⟩ := c3.at_ (k := 0) (by omega)
        have C3 := Lib.hid (c3.more hB.size); clear c3
        rw [ea] at c1 C3
        rw [Nat.add_zero] at d1
        generalize hx0 : ls[k].r[0]'(by omega) = x0 at d1
        have HX0 : Hid (ls[k].r.getD 0 0 = x0) := (getD_zero (by omega)).trans hx0
        clear hx0
        have q0 := cell_regrown d1
        have p0 := cell_regrown g1
        have p1 := cell_regrown g2
        have p2 := cell_regrown g3
        have HRG : Hid (∀ d os, Below w.heap.size w (grow (redrawn wr d) os)) := fun d os => hB.trans ((below_regrown wr d os).mono hB.size)
        have HWR : Hid (∀ d os, Below wr.heap.size wr (grow (redrawn wr d) os)) := fun d os => below_regrown wr d os
        clear g1 g2 g3 d1 ea
        have HCG : Hid (∀ d os, Calls Tryd.prog 75 #[.agg #[.int .i64 n, .int .i64 t, .slice none 0 0], .int .i64 x0] (grow (redrawn wr d) os) fun e w' => e = .returned (.bool (nonB n x0)) ∧ Below (grow (redrawn wr d) os).heap.size (grow (redrawn wr d) os) w') := fun d os =>
          isNon_any _ _ _ _ _
        go_wp2
        cases hu : nonB n x0
        · have HU := Lib.hid hu; clear hu
          have HE : Hid (bP (GoodLs n t long (sayL ls)) = false) := bP_f fun h => by
            have h1 := (h.2.1 k _ (by rw [HLN.out]; exact hlt) (sayL_at hlt)).1
            rw [HX0.out, HU.out] at h1; cases h1
          rw [HU.out] at HCG
          refine wp_region_quiet_below (by kernel_rfl) (by kernel_rfl) ?_
          repeat (first | go_big_quiet_step (exact Calls.regrown_of (HCG.out _ _)) | quiet_step (exact Calls.regrown_of (HCG.out _ _)))
          refine wpQuiet_nil ?_
          intro _ hw'
          obtain ⟨⟨dq, osq⟩, hw''⟩ := hw'
          subst hw''
          go_wp2
          go_ret
          exact ⟨ret_b HE.out.symm, HRG.out dq osq⟩
        · have HU := Lib.hid hu; clear hu
          rw [HU.out] at HCG
          have HFK : Hid (∀ x ∈ ls[k].r.drop 1, F64 x) := fun x hx => HF.out ls[k].r (sayL_mem (List.getElem_mem hlt)) x (List.mem_of_mem_drop hx)
          have HCH : Hid (∀ d os, Calls Tryd.prog 108 #[.agg #[.int .i64 n, .int .i64 t, .slice none 0 0], .slice (some ⟨b', o' + 1, none⟩) (ls[k].r.length - 1) (ls[k].c - 1)] (grow (redrawn wr d) os) fun e w' => e = .returned (.bool (symsB n t (ls[k].r.drop 1))) ∧ Below (grow (redrawn wr d) os).heap.size (grow (redrawn wr d) os) w') := fun d os => by
            have h := allSymbols_any n t none (some ⟨b', o' + 1, none⟩) 0 0 (ls[k].c - 1) (ls[k].r.drop 1) (grow (redrawn wr d) os) ((C3.out.keep (HWR.out d os)).more (HWR.out d os).size).drop1 (by simp; omega) HFK.out
            rw [List.length_drop] at h
            exact h
          cases hh : symsB n t (ls[k].r.drop 1)
          all_goals
            have HH := Lib.hid hh; clear hh
            rw [HH.out] at HCH
            refine wp_region_quiet_below (by kernel_rfl) (by kernel_rfl) ?_
            repeat (first | go_big_quiet_step (first | with_reducible exact Calls.regrown_of (HCG.out _ _) | exact Calls.regrown_of (HCH.out _ _)) | quiet_step (first | with_reducible exact Calls.regrown_of (HCG.out _ _) | exact Calls.regrown_of (HCH.out _ _)))
            refine wpQuiet_nil ?_
            intro _ hw'
            obtain ⟨⟨dq, osq⟩, hw''⟩ := hw'
            subst hw''
            go_wp2
          · have HE : Hid (bP (GoodLs n t long (sayL ls)) = false) := bP_f fun h => by
              have h1 := (h.2.1 k _ (by rw [HLN.out]; exact hlt) (sayL_at hlt)).2
              rw [HH.out] at h1; cases h1
            go_ret
            exact ⟨ret_b HE.out.symm, HRG.out dq osq⟩
          · have HN : Hid (SymTo n t (sayL ls) (k + 1)) := upto_next (Q := symL n t) (sayL_at hlt) ⟨by rw [HX0.out]; exact HU.out, HH.out⟩ H.out
            go_roundw
            case rel => exact ⟨k + 1, by omega, by go_num, HRG.out dq osq, HBX.out.keep (HWR.out dq osq) g0, HN.out⟩
            case measure => simp [intOf]; omega
      · have HN : Hid (SymTo n t (sayL ls) (sayL ls).length) := upto_end (Q := symL n t) (k := k) (by rw [HLN.out]; exact hlt) H.out
        clear hbox H
        go_wp2_with fail
        refine (isRisingL_any _ _ _ _ ((HX.out.keep hB).more hB.size) h1 H2.out).mono ?_
        rintro e w3 ⟨rfl, hB3⟩
        have HE : Hid (bP (GoodLs n t long (sayL ls)) = bP (RiseTo (sayL ls) ls.length)) := bP_congr ⟨fun h => by have := h.2.2; rw [HLN.out] at this; exact this, fun h => ⟨by rw [HLN.out]; exact HLO.out, HN.out, by rw [HLN.out]; exact h⟩⟩
        have hB4 : Below w.heap.size w w3 := hB.trans (hB3.mono hB.size)
        clear hB3
        go_wp2
        go_ret
        exact ⟨ret_b HE.out.symm, hB4⟩

end Go.Proofs.YtjfhkcoiomokoaaDoor
