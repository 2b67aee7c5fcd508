/- The program's DeriveStep. -/
import Derived.Test.YtkghblgiojidgaaDoorPutI
namespace Go.Proofs.YtkghblgiojidgaaDoor
open Go.RowKit

/-- A form that is good. -/
def formB (n t : Int) (xs : List Int) : Bool := decide (xs.length ≤ 40) && symsB n t xs
/-- What DeriveStep tells. -/
def stepF (n t : Int) (ss : List (Int × List Int)) (xs : List Int) (a x : Int) : Option (List Int) := if goodG n t ss = true ∧ formB n t xs = true ∧ 0 ≤ a ∧ a < (xs.length : Int) then stepV ss xs a.toNat x else none

set_option maxRecDepth 20000 in
set_option maxHeartbeats 1000000 in
theorem goodForm_any (n t : Int) (A A' : Option Addr) (m c c' : Nat) (xs : List Int) (w : World) (hx : Ints w w.heap.size A' xs) (h1 : xs.length ≤ 1048576) (hf : ∀ x ∈ xs, F64 x) :
    Calls Tryd.prog 71 #[.agg #[.int .i64 n, .int .i64 t, .slice A m c], .slice A' xs.length c'] w fun e w' => e = .returned (.bool (formB n t xs)) ∧ Below w.heap.size w w' := by
  have HX := Lib.hid hx; clear hx
  have HF := Lib.hid hf; clear hf
  have HBW : Hid (Below w.heap.size w (w.alloc (.cells #[.int .i64 n, .int .i64 t, .slice A m c] 30))) := by show Below _ _ _; go_grown
  by_cases hl : xs.length ≤ 40
  · have HE : Hid (formB n t xs = symsB n t xs) := by show _ = _; unfold formB; rw [decide_eq_true hl]; rfl
    go_enter Tryd.func71, Tryd.ntmps71
    go_wp2_with fail
    refine (allSymbols_any n t A A' m c c' xs _ ((HX.out.keep HBW.out).more HBW.out.size) h1 HF.out).mono ?_
    rintro e w3 ⟨rfl, hB3⟩
    go_wp2
    go_ret
    exact ⟨ret_bool HE.out.symm, HBW.out.trans (hB3.mono HBW.out.size)⟩
  · have HE : Hid (formB n t xs = false) := by show _ = _; unfold formB; rw [decide_eq_false hl]; rfl
    go_enter Tryd.func71, Tryd.ntmps71
    go_wp2
    go_ret
    exact ⟨ret_bool HE.out.symm, HBW.out⟩

set_option maxRecDepth 20000 in
set_option maxHeartbeats 1000000 in
theorem implStep_any (n t a x : Int) (A : Option Addr) (c : Nat) (rs : List Ru) (Af : Option Addr) (cf : Nat) (xs : List Int) (w : World) (hx : Rls w w.heap.size A rs) (hI : Ints w w.heap.size Af xs) (hL : Lims w) (hc : rs.length ≤ c) (h1 : rs.length ≤ 1048576) (h2 : ∀ u ∈ rs, u.r.length ≤ 1048576) (hf : FitR rs) (h3 : xs.length ≤ 1048576) (hfx : ∀ x ∈ xs, F64 x) (hcf : xs.length ≤ cf) :
    Calls Tryd.prog 35 #[.agg #[.int .i64 n, .int .i64 t, .slice A rs.length c], .slice Af xs.length cf, .int .i64 a, .int .i64 x] w (GaveO w (stepF n t (rs.map Ru.abs) xs a x)) := by
  have HX := Lib.hid hx; clear hx
  have HI := Lib.hid hI; clear hI
  have HFX := Lib.hid hfx; clear hfx
  have HB0 : Hid (Below w.heap.size w (w.alloc (.cells #[.int .i64 n, .int .i64 t, .slice A rs.length c] 30))) := by show Below _ _ _; go_grown
  have HX0 : Hid (Box3 (w.alloc (.cells #[.int .i64 n, .int .i64 t, .slice A rs.length c] 30)) w.heap.size (.int .i64 n) (.int .i64 t) (.slice A rs.length c)) := ⟨by simp, by simp [go_sem], by simp [go_sem], by simp [go_sem]⟩
  have HC := Lib.hid (goodGrammar_any n t A c rs _ ((HX.out.keep HB0.out).more HB0.out.size) (hL.keep HB0.out (Nat.le_refl _)) hc h1 h2 hf)
  clear hL
  cases hq : goodG n t (rs.map Ru.abs)
  · have HE : Hid (stepF n t (rs.map Ru.abs) xs a x = none) := if_neg fun h => by rw [hq] at h; cases h.1
    rw [hq] at HC
    clear hq
    go_enter Tryd.func35, Tryd.ntmps35
    go_wp2_with fail
    refine HC.out.mono ?_
    rintro e w1 ⟨rfl, hB1⟩
    have HB1 : Hid (Below w.heap.size w w1) := HB0.out.trans (hB1.mono HB0.out.size)
    clear hB1
    go_wp2
    go_ret2
    exact ⟨none, [], 0, false, rfl, by rw [HE.out]; rfl, by rw [HE.out]; rfl, .inl rfl, Nat.le_refl _, HB1.out⟩
  · rw [hq] at HC
    cases hn : formB n t xs
    · have HE : Hid (stepF n t (rs.map Ru.abs) xs a x = none) := if_neg fun h => by rw [hn] at h; cases h.2.1
      have HN := Lib.hid hn; clear hn hq
      go_enter Tryd.func35, Tryd.ntmps35
      go_wp2_with fail
      refine HC.out.mono ?_
      rintro e w1 ⟨rfl, hB1⟩
      have HB1 : Hid (Below w.heap.size w w1) := HB0.out.trans (hB1.mono HB0.out.size)
      obtain ⟨_, b0, b1, b2⟩ := HX0.out.keep hB1 (by simp)
      clear hB1
      have HD := Lib.hid (goodForm_any n t A Af rs.length c cf xs w1 ((HI.out.keep HB1.out).more HB1.out.size) h3 HFX.out)
      go_wp2_with fail
      refine HD.out.mono ?_
      rintro e w2 ⟨rfl, hB2⟩
      rw [HN.out]
      have HB2 : Hid (Below w.heap.size w w2) := HB1.out.trans (hB2.mono HB1.out.size)
      clear hB2 b0 b1 b2
      go_wp2
      go_ret2
      exact ⟨none, [], 0, false, rfl, by rw [HE.out]; rfl, by rw [HE.out]; rfl, .inl rfl, Nat.le_refl _, HB2.out⟩
    · have hl40 : xs.length ≤ 40 := by unfold formB at hn; rw [Bool.and_eq_true] at hn; exact of_decide_eq_true hn.1
      by_cases ha : 0 ≤ a ∧ a < (xs.length : Int)
      · obtain ⟨i, rfl⟩ : ∃ i : Nat, a = (i : Int) := ⟨a.toNat, by omega⟩
        have hi : i < xs.length := by omega
        have HE : Hid (stepF n t (rs.map Ru.abs) xs (i : Int) x = stepV (rs.map Ru.abs) xs i x) := (if_pos ⟨hq, hn, ha⟩).trans (by rw [Int.toNat_natCast])
        have HG := Lib.hid hq
        have HN := Lib.hid hn
        have ha2 := ha.2
        clear hq hn ha
        go_enter Tryd.func35, Tryd.ntmps35
        go_wp2_with fail
        refine HC.out.mono ?_
        rintro e w1 ⟨rfl, hB1⟩
        have HB1 : Hid (Below w.heap.size w w1) := HB0.out.trans (hB1.mono HB0.out.size)
        have HX1 := Lib.hid (HX0.out.keep hB1 (by simp))
        obtain ⟨_, b0, b1, b2⟩ := HX1.out
        clear hB1
        have HD := Lib.hid (goodForm_any n t A Af rs.length c cf xs w1 ((HI.out.keep HB1.out).more HB1.out.size) h3 HFX.out)
        go_wp2_with fail
        refine HD.out.mono ?_
        rintro e w2 ⟨rfl, hB2⟩
        rw [HN.out]
        have HB2 : Hid (Below w.heap.size w w2) := HB1.out.trans (hB2.mono HB1.out.size)
        have HX2 := Lib.hid (HX1.out.keep hB2 HX1.out.1)
        clear hB2 b0 b1 b2 HX1
        obtain ⟨_, b0, b1, b2⟩ := HX2.out
        have HP := Lib.hid (putRight_any n t x A c rs Af cf xs i w2 ((HX.out.keep HB2.out).more HB2.out.size) HG.out ((HI.out.keep HB2.out).more HB2.out.size) hi hcf hl40)
        go_wp2_with fail
        refine HP.out.mono ?_
        rintro e w3 ⟨A3, ys, c3, bb, rfl, hy, hb, hO, hyc, hB3⟩
        have HB3 : Hid (Below w.heap.size w w3) := HB2.out.trans (hB3.mono HB2.out.size)
        have HY : Hid (ys = (stepF n t (rs.map Ru.abs) xs (i : Int) x).getD [] ∧ bb = (stepF n t (rs.map Ru.abs) xs (i : Int) x).isSome) := by rw [HE.out]; exact ⟨hy, hb⟩
        have HO : Hid (OwnI w3 w.heap.size A3 ys) := hO.lower HB2.out.size
        clear hy hb hO hB3
        go_wp2
        go_ret2
        exact ⟨A3, ys, c3, bb, rfl, HY.out.1, HY.out.2, HO.out, hyc, HB3.out⟩
      · have HE : Hid (stepF n t (rs.map Ru.abs) xs a x = none) := if_neg fun h => ha h.2.2
        have HN := Lib.hid hn; clear hn hq
        by_cases ha0 : a < 0
        case' neg => have ha1 : (xs.length : Int) ≤ a := by omega
        all_goals
          clear ha
          go_enter Tryd.func35, Tryd.ntmps35
          go_wp2_with fail
          refine HC.out.mono ?_
          rintro e w1 ⟨rfl, hB1⟩
          have HB1 : Hid (Below w.heap.size w w1) := HB0.out.trans (hB1.mono HB0.out.size)
          obtain ⟨_, b0, b1, b2⟩ := HX0.out.keep hB1 (by simp)
          clear hB1
          have HD := Lib.hid (goodForm_any n t A Af rs.length c cf xs w1 ((HI.out.keep HB1.out).more HB1.out.size) h3 HFX.out)
          go_wp2_with fail
          refine HD.out.mono ?_
          rintro e w2 ⟨rfl, hB2⟩
          rw [HN.out]
          have HB2 : Hid (Below w.heap.size w w2) := HB1.out.trans (hB2.mono HB1.out.size)
          clear hB2 b0 b1 b2
          go_wp2
          go_ret2
          exact ⟨none, [], 0, false, rfl, by rw [HE.out]; rfl, by rw [HE.out]; rfl, .inl rfl, Nat.le_refl _, HB2.out⟩

end Go.Proofs.YtkghblgiojidgaaDoor
