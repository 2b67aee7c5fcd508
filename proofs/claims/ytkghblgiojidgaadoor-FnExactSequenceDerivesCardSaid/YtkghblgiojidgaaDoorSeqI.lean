/- SequenceDerives: the program's and the reference's. -/
import Derived.Test.YtkghblgiojidgaaDoorDerS2
namespace Go.Proofs.YtkghblgiojidgaaDoor
open Go.RowKit

theorem right_all {n t : Int} (hn : 1 ≤ n) (ht : 1 ≤ t) (xs : List Int) : (decide (xs.length ≤ 4) && allB (-t) (n - 1) xs) = rightB n t xs := by
  unfold rightB
  congr 1
  unfold allB symsB
  congr 1
  funext x
  unfold inB symB
  exact decide_eq_decide.2 (by omega)
theorem right_syms {n t : Int} {xs : List Int} (h : rightB n t xs = true) : xs.length ≤ 4 ∧ ∀ x ∈ xs, (0 ≤ x ∧ x < n) ∨ (x < 0 ∧ -t ≤ x) := by
  unfold rightB at h
  rw [Bool.and_eq_true] at h
  refine ⟨of_decide_eq_true h.1, fun x hx => ?_⟩
  obtain ⟨k, hk⟩ := List.mem_iff_getElem?.1 hx
  have := symsB_iff.1 h.2 k x hk
  unfold symB at this
  have := of_decide_eq_true this
  omega

set_option maxRecDepth 20000 in
set_option maxHeartbeats 1000000 in
theorem implSequence_any (n t : Int) (A : Option Addr) (c : Nat) (rs : List Ru) (Ar : Option Addr) (cr : Nat) (xs : List Int) (Aw : Option Addr) (cw : Nat) (ws : List Int) (w : World) (hx : Rls w w.heap.size A rs) (hR : Ints w w.heap.size Ar xs) (hW : Ints w w.heap.size Aw ws) (hL : Lims w) (hc : rs.length ≤ c) (h1 : rs.length ≤ 1048576) (h2 : ∀ u ∈ rs, u.r.length ≤ 1048576) (hf : FitR rs) (h3 : ws.length ≤ 1048576) (h4 : xs.length ≤ 1048576) (hfx : ∀ x ∈ xs, F64 x) :
    Calls Tryd.prog 33 #[.agg #[.int .i64 n, .int .i64 t, .slice A rs.length c], .slice Ar xs.length cr, .slice Aw ws.length cw] w (GaveXB w (QD (goodW n t (rs.map Ru.abs) ws && rightB n t xs) (SeqD (Der (rs.map Ru.abs) ws) ws xs 0 ws.length))) := by
  have HX := Lib.hid hx; clear hx
  have HR := Lib.hid hR; clear hR
  have HW := Lib.hid hW; clear hW
  have HL := Lib.hid hL; clear hL
  have HFX := Lib.hid hfx; clear hfx
  have HB0 : Hid (Below w.heap.size w (w.alloc (.cells #[.int .i64 n, .int .i64 t, .slice A rs.length c] 30))) := by show Below _ _ _; go_grown
  have HX0 : Hid (Box3 (w.alloc (.cells #[.int .i64 n, .int .i64 t, .slice A rs.length c] 30)) w.heap.size (.int .i64 n) (.int .i64 t) (.slice A rs.length c)) := ⟨by simp, by simp [go_sem], by simp [go_sem], by simp [go_sem]⟩
  have HC := Lib.hid (implWord_any n t A Aw c cw rs ws _ ((HX.out.keep HB0.out).more HB0.out.size) ((HW.out.keep HB0.out).more HB0.out.size) (HL.out.keep HB0.out (Nat.le_refl _)) hc h1 h2 hf h3)
  cases hq : goodW n t (rs.map Ru.abs) ws
  · rw [hq] at HC
    go_enter Tryd.func33, Tryd.ntmps33
    go_wp2_with fail
    refine HC.out.mono ?_
    rintro e w1 ⟨rfl, hB1⟩
    have HB1 : Hid (Below w.heap.size w w1) := HB0.out.trans (hB1.mono HB0.out.size)
    clear hB1
    go_wp2
    go_ret2
    exact ⟨false, false, ⟨rfl, fun h => (by cases h), fun _ => rfl⟩, rfl, HB1.out⟩
  · have hg := goodW_goodG hq
    have hwl := goodW_len hq
    rw [hq] at HC
    have HG := Lib.hid hg; clear hg hq
    cases hn : rightB n t xs
    · have HN := Lib.hid hn; clear hn
      go_enter Tryd.func33, Tryd.ntmps33
      go_wp2_with fail
      refine HC.out.mono ?_
      rintro e w1 ⟨rfl, hB1⟩
      have HB1 : Hid (Below w.heap.size w w1) := HB0.out.trans (hB1.mono HB0.out.size)
      obtain ⟨_, b0, b1, b2⟩ := HX0.out.keep hB1 (by simp)
      clear hB1
      have HD := Lib.hid (goodRight_any n t A Ar rs.length c cr xs w1 ((HR.out.keep HB1.out).more HB1.out.size) (HL.out.keep HB1.out (Nat.le_refl _)) h4 HFX.out)
      go_wp2_with fail
      refine HD.out.mono ?_
      rintro e w2 ⟨rfl, hB2⟩
      rw [HN.out]
      have HB2 : Hid (Below w.heap.size w w2) := HB1.out.trans (hB2.mono HB1.out.size)
      clear hB2 b0 b1 b2
      go_wp2
      go_ret2
      exact ⟨false, false, ⟨rfl, fun h => (by cases h), fun _ => rfl⟩, rfl, HB2.out⟩
    · have HN := Lib.hid hn
      have hsy := right_syms hn
      have HSY : Hid (∀ x ∈ xs, -10 ≤ x ∧ x < 6) := fun x hx => by have := hsy.2 x hx; have := goodG_is HG.out; omega
      have hx4 : xs.length ≤ 40 := by omega
      clear hn hsy
      go_enter Tryd.func33, Tryd.ntmps33
      go_wp2_with fail
      refine HC.out.mono ?_
      rintro e w1 ⟨rfl, hB1⟩
      have HB1 : Hid (Below w.heap.size w w1) := HB0.out.trans (hB1.mono HB0.out.size)
      have HX1 := Lib.hid (HX0.out.keep hB1 (by simp))
      obtain ⟨_, b0, b1, b2⟩ := HX1.out
      clear hB1
      have HD := Lib.hid (goodRight_any n t A Ar rs.length c cr xs w1 ((HR.out.keep HB1.out).more HB1.out.size) (HL.out.keep HB1.out (Nat.le_refl _)) h4 HFX.out)
      go_wp2_with fail
      refine HD.out.mono ?_
      rintro e w2 ⟨rfl, hB2⟩
      rw [HN.out]
      have HB2 : Hid (Below w.heap.size w w2) := HB1.out.trans (hB2.mono HB1.out.size)
      have HX2 := Lib.hid (HX1.out.keep hB2 HX1.out.1)
      clear hB2 b0 b1 b2 HX1
      obtain ⟨_, b0, b1, b2⟩ := HX2.out
      have HE := Lib.hid (deriveWhole_any n t A c rs Ar cr xs Aw cw ws w2 ((HX.out.keep HB2.out).more HB2.out.size) HG.out hwl ((HW.out.keep HB2.out).more HB2.out.size) ((HR.out.keep HB2.out).more HB2.out.size) HSY.out hx4)
      go_wp2_with fail
      refine HE.out.mono ?_
      rintro e w3 ⟨b, rfl, hb, hB3⟩
      have HB3 : Hid (Below w.heap.size w w3) := HB2.out.trans (hB3.mono HB2.out.size)
      have HBB := Lib.hid hb
      clear hb hB3
      go_wp2
      go_ret2
      exact ⟨b, true, ⟨rfl, fun _ => HBB.out, fun h => by cases h⟩, rfl, HB3.out⟩

set_option maxRecDepth 20000 in
set_option maxHeartbeats 1000000 in
theorem l4Form_any (n t : Int) (v : Value) (A : Option Addr) (xs : List Int) (c : Nat) (most : Nat) (w : World) (hx : Ints w w.heap.size A xs) (h1 : xs.length ≤ 1048576) (hn : 1 ≤ n ∧ n ≤ 6) (ht : 1 ≤ t ∧ t ≤ 4) :
    Calls Tryd.prog 67 #[.agg #[.int .i64 n, .int .i64 t, v], .slice A xs.length c, .int .i64 (most : Int)] w fun e w' => e = .returned (.bool (decide (xs.length ≤ most) && allB (-t) (n - 1) xs)) ∧ Below w.heap.size w w' := by
  obtain ⟨n1, n2⟩ := hn
  obtain ⟨t1, t2⟩ := ht
  have HX := Lib.hid hx; clear hx
  have HB0 : Hid (Below w.heap.size w (w.alloc (.cells #[.int .i64 n, .int .i64 t, v] 30))) := by show Below _ _ _; go_grown
  have HC := Lib.hid (l1All_any A xs c (-t) (n - 1) _ ((HX.out.keep HB0.out).more HB0.out.size) h1)
  by_cases hl : xs.length ≤ most
  · have HV : Hid ((decide (xs.length ≤ most) && allB (-t) (n - 1) xs) = allB (-t) (n - 1) xs) := by show _ = _; rw [decide_eq_true hl]; rfl
    go_enter Tryd.func67, Tryd.ntmps67
    go_wp2_with fail
    refine HC.out.mono ?_
    rintro e w1 ⟨rfl, hB1⟩
    have HB1 : Hid (Below w.heap.size w w1) := HB0.out.trans (hB1.mono HB0.out.size)
    clear hB1
    go_wp2
    go_ret
    exact ⟨ret_bool HV.out.symm, HB1.out⟩
  · have HV : Hid ((decide (xs.length ≤ most) && allB (-t) (n - 1) xs) = false) := by show _ = _; rw [decide_eq_false hl]; rfl
    go_enter Tryd.func67, Tryd.ntmps67
    go_wp2
    go_ret
    exact ⟨ret_bool HV.out.symm, HB0.out⟩

set_option maxRecDepth 20000 in
set_option maxHeartbeats 1000000 in
theorem specSequence_any (n t : Int) (A : Option Addr) (c : Nat) (rs : List Ru) (Ar : Option Addr) (cr : Nat) (xs : List Int) (Aw : Option Addr) (cw : Nat) (ws : List Int) (w : World) (hx : Rls w w.heap.size A rs) (hR : Ints w w.heap.size Ar xs) (hcr : xs.length ≤ cr) (hW : Ints w w.heap.size Aw ws) (hc : rs.length ≤ c) (hcap : ∀ u ∈ rs, u.r.length ≤ u.c) (h1 : rs.length ≤ 1048576) (h2 : ∀ u ∈ rs, u.r.length ≤ 1048576) (h3 : ws.length ≤ 1048576) (h4 : xs.length ≤ 1048576) :
    Calls Tryd.prog 32 #[.agg #[.int .i64 n, .int .i64 t, .slice A rs.length c], .slice Ar xs.length cr, .slice Aw ws.length cw] w (GaveXB w (QD (goodW n t (rs.map Ru.abs) ws && rightB n t xs) (SeqD (Der (rs.map Ru.abs) ws) ws xs 0 ws.length))) := by
  have HX := Lib.hid hx; clear hx
  have HR := Lib.hid hR; clear hR
  have HW := Lib.hid hW; clear hW
  have HCP := Lib.hid hcap; clear hcap
  have HB0 : Hid (Below w.heap.size w (w.alloc (.cells #[.int .i64 n, .int .i64 t, .slice A rs.length c] 30))) := by show Below _ _ _; go_grown
  have HX0 : Hid (Box3 (w.alloc (.cells #[.int .i64 n, .int .i64 t, .slice A rs.length c] 30)) w.heap.size (.int .i64 n) (.int .i64 t) (.slice A rs.length c)) := ⟨by simp, by simp [go_sem], by simp [go_sem], by simp [go_sem]⟩
  have HC := Lib.hid (specWord_any n t A Aw c cw rs ws _ ((HX.out.keep HB0.out).more HB0.out.size) ((HW.out.keep HB0.out).more HB0.out.size) hc h1 h2 h3)
  cases hq : goodW n t (rs.map Ru.abs) ws
  · rw [hq] at HC
    go_enter Tryd.func32, Tryd.ntmps32
    go_wp2_with fail
    refine HC.out.mono ?_
    rintro e w1 ⟨rfl, hB1⟩
    have HB1 : Hid (Below w.heap.size w w1) := HB0.out.trans (hB1.mono HB0.out.size)
    clear hB1
    go_wp2
    go_ret2
    exact ⟨false, false, ⟨rfl, fun h => (by cases h), fun _ => rfl⟩, rfl, HB1.out⟩
  · have hg := goodW_goodG hq
    have hwl := goodW_len hq
    obtain ⟨N, rfl⟩ : ∃ N : Nat, n = (N : Int) := ⟨n.toNat, by have := goodG_is hg; omega⟩
    have hnt := goodG_is hg
    have HG := Lib.hid hg
    rw [hq] at HC
    clear hq hg
    have HRA := Lib.hid (right_all (n := (N : Int)) (t := t) (by omega) (by omega) xs)
    have HF := Lib.hid (fun w' h => l4Form_any (N : Int) t (.slice A rs.length c) Ar xs cr 4 w' h h4 (by omega) (by omega))
    rw [HRA.out] at HF
    clear hnt HRA
    cases hn : rightB (N : Int) t xs
    · rw [hn] at HF
      clear hn
      go_enter Tryd.func32, Tryd.ntmps32
      go_wp2_with fail
      refine HC.out.mono ?_
      rintro e w1 ⟨rfl, hB1⟩
      have HB1 : Hid (Below w.heap.size w w1) := HB0.out.trans (hB1.mono HB0.out.size)
      obtain ⟨_, b0, b1, b2⟩ := HX0.out.keep hB1 (by simp)
      clear hB1
      go_wp2_with fail
      refine (HF.out _ ((HR.out.keep HB1.out).more HB1.out.size)).mono ?_
      rintro e w2 ⟨rfl, hB2⟩
      have HB2 : Hid (Below w.heap.size w w2) := HB1.out.trans (hB2.mono HB1.out.size)
      clear hB2 b0 b1 b2
      go_wp2
      go_ret2
      exact ⟨false, false, ⟨rfl, fun h => (by cases h), fun _ => rfl⟩, rfl, HB2.out⟩
    · have hsy := right_syms hn
      have HSY : Hid (∀ x ∈ xs, -10 ≤ x ∧ x < N) := fun x hx => by have := hsy.2 x hx; have := goodG_is HG.out; omega
      have hx4 : xs.length ≤ 4 := hsy.1
      rw [hn] at HF
      clear hn hsy
      go_enter Tryd.func32, Tryd.ntmps32
      go_wp2_with fail
      refine HC.out.mono ?_
      rintro e w1 ⟨rfl, hB1⟩
      have HB1 : Hid (Below w.heap.size w w1) := HB0.out.trans (hB1.mono HB0.out.size)
      have HX1 := Lib.hid (HX0.out.keep hB1 (by simp))
      obtain ⟨_, b0, b1, b2⟩ := HX1.out
      clear hB1
      go_wp2_with fail
      refine (HF.out _ ((HR.out.keep HB1.out).more HB1.out.size)).mono ?_
      rintro e w2 ⟨rfl, hB2⟩
      have HB2 : Hid (Below w.heap.size w w2) := HB1.out.trans (hB2.mono HB1.out.size)
      have HX2 := Lib.hid (HX1.out.keep hB2 HX1.out.1)
      clear hB2 b0 b1 b2 HX1
      obtain ⟨_, b0, b1, b2⟩ := HX2.out
      have HT := Lib.hid (l4Table_any N t A c rs Aw cw ws w2 ((HX.out.keep HB2.out).more HB2.out.size) HG.out HCP.out hwl ((HW.out.keep HB2.out).more HB2.out.size))
      go_wp2_with fail
      refine HT.out.mono ?_
      rintro e w3 ⟨S, T, rfl, hT, hD, hB3⟩
      have HB3 : Hid (Below w.heap.size w w3) := HB2.out.trans (hB3.mono HB2.out.size)
      have HE := Lib.hid (l4Fits_any S N T Aw cw ws w3 hT ((HW.out.keep HB3.out).more HB3.out.size) hwl (fun x i j h => der_in _ _ x i j ((hD x i j).1 h)) ws.length (Nat.le_refl _) xs Ar cr 0 ((HR.out.keep HB3.out).more HB3.out.size) hcr hx4 HSY.out (by omega))
      have HBB : Hid (bD (SeqD (DT ws.length T) ws xs 0 ws.length) = true ↔ SeqD (Der (rs.map Ru.abs) ws) ws xs 0 ws.length) := bD_iff.trans (seqD_iff hD)
      clear hT hD hB3 HT
      generalize bD (SeqD (DT ws.length T) ws xs 0 ws.length) = b at *
      go_wp2_with fail
      refine HE.out.mono ?_
      rintro e w4 ⟨rfl, rfl⟩
      go_wp2
      go_ret2
      exact ⟨b, true, ⟨rfl, fun _ => HBB.out, fun h => by cases h⟩, rfl, HB3.out⟩

end Go.Proofs.YtkghblgiojidgaaDoor
