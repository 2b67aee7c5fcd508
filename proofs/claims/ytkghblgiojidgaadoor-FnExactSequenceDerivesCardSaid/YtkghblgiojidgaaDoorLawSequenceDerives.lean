/- The law of SequenceDerives: its walk. -/
import Derived.Test.YtkghblgiojidgaaDoorBase
import Derived.Test.YtkghblgiojidgaaDoorSeqI
import Derived.Test.YtkghblgiojidgaaDoorLawInLanguage
import Derived.Test.YtkghblgiojidgaaDoorToC
import Derived.Deep.RegionHeld3
namespace Go.Proofs.YtkghblgiojidgaaDoor
open Go.RowKit

set_option maxHeartbeats 1000000 in
theorem law_SequenceDerives (n t : Int) (A B B' : Option Addr) (c d d' : Nat) (rs : List Ru) (xs ys : List Int) (w : World) (hx : Rls w w.heap.size A rs) (hy : Ints w w.heap.size B xs) (hy' : Ints w w.heap.size B' ys) (hL : Lims w) (hn : rs.length ≤ maxLen) (hu : ∀ u ∈ rs, u.r.length ≤ maxLen) (hf : FitR rs) (hm : xs.length ≤ maxLen) (hm' : ys.length ≤ maxLen) (hfx : ∀ x ∈ xs, F64 x) :
    Calls Tryd.prog 8 #[.agg #[.int .i64 n, .int .i64 t, .slice A rs.length c], .slice B xs.length d, .slice B' ys.length d'] w (LawEnds w) := by
  have HX := Lib.hid hx; clear hx
  have HY := Lib.hid hy; clear hy
  have HV := Lib.hid hy'; clear hy'
  have HFX := Lib.hid hfx; clear hfx
  have HL := Lib.hid hL; clear hL
  have HN := Lib.hid hn; clear hn
  have HU := Lib.hid hu; clear hu
  have HF := Lib.hid hf; clear hf
  unfold maxLen at hm hm'
  by_cases hbig : (1048576 : Int) < (xs.length : Int)
  · go_enter Tryd.func8, Tryd.ntmps8
    go_wp2
    go_ret
    exact ⟨rfl, by go_grown⟩
  have hxl : xs.length ≤ 1048576 := by omega
  by_cases hbig' : (1048576 : Int) < (ys.length : Int)
  · go_enter Tryd.func8, Tryd.ntmps8
    go_wp2
    go_ret
    exact ⟨rfl, by go_grown⟩
  have hyl : ys.length ≤ 1048576 := by omega
  go_enter Tryd.func8, Tryd.ntmps8
  go_wp2_with fail
  have hBA : Below w.heap.size w (w.alloc (.cells #[.int .i64 n, .int .i64 t, .slice A rs.length c] 24)) := by go_grown
  have B0 : Box3 (w.alloc (.cells #[.int .i64 n, .int .i64 t, .slice A rs.length c] 24)) w.heap.size (.int .i64 n) (.int .i64 t) (.slice A rs.length c) := ⟨by simp, by simp [go_sem], by simp [go_sem], by simp [go_sem]⟩
  generalize (w.alloc (.cells #[.int .i64 n, .int .i64 t, .slice A rs.length c] 24)) = W at hBA B0 ⊢
  have HBA := Lib.hid hBA; clear hBA
  have HB0 := Lib.hid B0; clear B0
  refine (szGrammar_any _ _ _ _ _ _ _ ((HX.out.keep HBA.out).more HBA.out.size) HN.out HU.out (by omega) (by omega)).mono ?_
  rintro e w1 ⟨rfl, hB1⟩
  have HB1 := Lib.hid hB1; clear hB1
  by_cases hneg : szRs rs 1048576 < 0
  · go_wp2
    go_ret
    exact ⟨rfl, HBA.out.trans (HB1.out.mono HBA.out.size)⟩
  obtain ⟨hlen0, hlens0⟩ := szRs_bound (L := 1048576) (by omega) (by omega : 0 ≤ szRs rs 1048576)
  have hlen : rs.length ≤ 1048576 := by omega
  have HLN : Hid (∀ u ∈ rs, u.r.length ≤ 1048576) := fun u hu => by have := hlens0 u hu; omega
  clear hlen0 hlens0 hbig hbig'
  have HW1 := Lib.hid (HBA.out.trans (HB1.out.mono HBA.out.size))
  have KB1 := Lib.hid (HB0.out.keep HB1.out HB0.out.1)
  have HR1 := Lib.hid ((HX.out.keep HW1.out).more HW1.out.size)
  obtain ⟨_, a0, a1, a2⟩ := KB1.out
  clear HB1 HB0
  go_wp2_with fail
  refine (toGrammarC_any _ _ _ _ _ _ HR1.out hlen HLN.out).mono ?_
  rintro e w2 ⟨A2, c2, rs2, rfl, hcap2, hO2, ha2, hcc2, hB2⟩
  have HCC2 := Lib.hid hcc2; clear hcc2
  have hl2 := abs_len ha2
  have hlen2 : rs2.length ≤ 1048576 := by omega
  have HLN2 := Lib.hid (abs_lens ha2 HLN.out)
  have HO2 := Lib.hid hO2; clear hO2
  have HA2 := Lib.hid ha2; clear ha2
  have HW2 := Lib.hid (HW1.out.trans (hB2.mono HW1.out.size))
  have HB2 := Lib.hid hB2; clear hB2
  clear hl2
  go_wp2_with fail
  refine (toIntS_any _ _ _ _ ((HY.out.keep HW2.out).more HW2.out.size) hxl).mono ?_
  rintro e w2a ⟨B2, d2, rfl, hd2, hP2, hB2a⟩
  have HO2a := Lib.hid (HO2.out.below hB2a (Nat.le_refl _))
  have HB2a := Lib.hid (HB2.out.trans (hB2a.mono HB2.out.size))
  have HW2a := Lib.hid (HW2.out.trans (hB2a.mono HW2.out.size)); clear hB2a
  have HP2a := Lib.hid hP2; clear hP2
  go_wp2_with fail
  refine (toIntS_any _ _ _ _ ((HV.out.keep HW2a.out).more HW2a.out.size) hyl).mono ?_
  rintro e w2' ⟨D2, e2, rfl, he2, hQ2, hB2'⟩
  have HO2' := Lib.hid (HO2a.out.below hB2' (Nat.le_refl _))
  have HP2 := Lib.hid (HP2a.out.below hB2' (Nat.le_refl _))
  have HQ2 := Lib.hid hQ2; clear hQ2
  have HB2' := Lib.hid (HB2a.out.trans (hB2'.mono HB2a.out.size)); clear hB2'
  go_wp2_with fail
  refine (specSequence_any _ _ _ _ _ _ _ _ _ _ _ _ HO2'.out.rls HP2.out.ints hd2 HQ2.out.ints hcap2 HCC2.out hlen2 HLN2.out hyl hxl).mono ?_
  rw [HA2.out]
  rintro e w3 ⟨x, ok, hQ, rfl, hB3⟩
  have HQ := Lib.hid hQ; clear hQ HCC2
  have HB3 := Lib.hid (HB2'.out.trans (hB3.mono HB2'.out.size)); clear hB3
  clear a0 a1 a2 HO2 HA2 HLN2 hlen2 hcap2 HO2' HP2 HB2' hd2 HO2a HB2a HW2a HP2a HQ2 he2
  have KB3 := Lib.hid (KB1.out.keep HB3.out KB1.out.1)
  have HR3 := Lib.hid ((HR1.out.keep HB3.out).more HB3.out.size)
  have HW3 := Lib.hid (HW1.out.trans (HB3.out.mono HW1.out.size))
  clear KB1 HR1 HW1 HB3 HB2 HW2
  obtain ⟨_, a0, a1, a2⟩ := KB3.out
  go_wp2_with fail
  refine (toGrammar_any _ _ _ _ _ _ HR3.out hlen HLN.out).mono ?_
  rintro e w4 ⟨A4, c4, rs4, rfl, hcap4, hO4, ha4, hB4⟩
  have hl4 := abs_len ha4
  have hlen4 : rs4.length ≤ 1048576 := by omega
  have HLN4 := Lib.hid (abs_lens ha4 HLN.out)
  have HF4 := Lib.hid (abs_fit ha4 HF.out)
  have HA4 := Lib.hid ha4; clear ha4
  clear hl4 a0 a1 a2
  go_wp2_with fail
  have hBX : Below w4.heap.size w4 (w4.alloc (.cells #[.int .i64 n, .int .i64 t, .slice A4 rs4.length c4] 30)) := by go_grown
  have B4 : Box3 (w4.alloc (.cells #[.int .i64 n, .int .i64 t, .slice A4 rs4.length c4] 30)) w4.heap.size (.int .i64 n) (.int .i64 t) (.slice A4 rs4.length c4) := ⟨by simp, by simp [go_sem], by simp [go_sem], by simp [go_sem]⟩
  generalize (w4.alloc (.cells #[.int .i64 n, .int .i64 t, .slice A4 rs4.length c4] 30)) = X at hBX B4 ⊢
  have HOX := Lib.hid (hO4.below hBX (Nat.le_refl _)); clear hO4
  have HBX := Lib.hid (hB4.trans (hBX.mono hB4.size)); clear hBX hB4
  have HB4 := Lib.hid B4; clear B4
  have HWX := Lib.hid (HW3.out.trans (HBX.out.mono HW3.out.size))
  refine (toIntS_any _ _ _ _ ((HY.out.keep HWX.out).more HWX.out.size) hxl).mono ?_
  rintro e w5a ⟨B5, d5, rfl, hd5, hP5, hB5a⟩
  have KX5a := Lib.hid (HB4.out.keep hB5a HB4.out.1)
  have KA5a := Lib.hid ((KB3.out.keep HBX.out KB3.out.1).keep hB5a (by have := KB3.out.1; have := HBX.out.size; omega))
  have HO5a := Lib.hid (HOX.out.below hB5a (Nat.le_refl _))
  have HW5a := Lib.hid (HWX.out.trans (hB5a.mono HWX.out.size))
  have HP5a := Lib.hid hP5; clear hP5
  clear hB5a HOX HBX HB4 HWX KB3 HR3 HW3
  go_wp2_with fail
  refine (toIntS_any _ _ _ _ ((HV.out.keep HW5a.out).more HW5a.out.size) hyl).mono ?_
  rintro e w5 ⟨D5, e5, rfl, he5, hQ5, hB5⟩
  have KX5 := Lib.hid (KX5a.out.keep hB5 KX5a.out.1)
  have KA5 := Lib.hid (KA5a.out.keep hB5 KA5a.out.1)
  have HO5 := Lib.hid (HO5a.out.below hB5 (Nat.le_refl _))
  have HW5 := Lib.hid (HW5a.out.trans (hB5.mono HW5a.out.size))
  have HP5 := Lib.hid (HP5a.out.below hB5 (Nat.le_refl _))
  have HQ5 := Lib.hid hQ5; clear hQ5
  clear hB5 KX5a KA5a HO5a HW5a HP5a
  obtain ⟨_, x0, x1, x2⟩ := KX5.out
  go_wp2_with fail
  refine (implSequence_any _ _ _ _ _ _ _ _ _ _ _ _ HO5.out.rls HP5.out.ints HQ5.out.ints (HL.out.keep HW5.out (Nat.le_refl _)) hcap4 hlen4 HLN4.out HF4.out hyl hxl HFX.out).mono ?_
  rw [HA4.out]
  rintro e w6 ⟨x', ok', hQ', rfl, hB6⟩
  obtain ⟨hx', ho'⟩ := QD.unique hQ' HQ.out
  subst hx' ho'
  clear hQ' HQ
  clear x0 x1 x2
  have KX := Lib.hid (KX5.out.keep hB6 KX5.out.1)
  have KA := Lib.hid (KA5.out.keep hB6 KA5.out.1)
  have HO6 := Lib.hid (HO5.out.below hB6 (Nat.le_refl _))
  have HP6 := Lib.hid (HP5.out.below hB6 (Nat.le_refl _))
  have HQ6 := Lib.hid (HQ5.out.below hB6 (Nat.le_refl _))
  have HW6 := Lib.hid (HW5.out.trans (hB6.mono HW5.out.size))
  clear hB6 HO5 HP5 HQ5 HW5 KX5 KA5
  have hne : (ok' != ok') = false := by simp
  have hne2 : (x' != x') = false := by simp
  have HR6 := Lib.hid ((HX.out.keep HW6.out).more HW6.out.size)
  obtain ⟨_, x0, x1, x2⟩ := KX.out
  obtain ⟨_, a0, a1, a2⟩ := KA.out
  go_wp2_with fail
  go_region_held3 (fun w' => w'.cell? ⟨w4.heap.size, 0, none⟩ = some (.int .i64 n) ∧ w'.cell? ⟨w4.heap.size, 1, none⟩ = some (.int .i64 t) ∧ w'.cell? ⟨w4.heap.size, 2, none⟩ = some (.slice A4 rs4.length c4) ∧ w'.cell? ⟨w.heap.size, 0, none⟩ = some (.int .i64 n) ∧ w'.cell? ⟨w.heap.size, 1, none⟩ = some (.int .i64 t) ∧ w'.cell? ⟨w.heap.size, 2, none⟩ = some (.slice A rs.length c))
    (first | exact ⟨v0, v1, v2, u0, u1, u2⟩ | exact ⟨y0, y1, y2, z0, z1, z2⟩ | exact ⟨x0, x1, x2, a0, a1, a2⟩)
    (first
    | (go_at_call 14
       refine (toGrammar_any _ _ _ _ _ _ ?_ hlen HLN.out).mono ?_
       · exact HR6.out.keep (by go_grown)
       rintro e w7 ⟨A7, c7, rs7, rfl, hcap7, hO7, ha7, hB7'⟩
       have hB7 : Below w6.heap.size w6 w7 := Below.trans (by go_grown) hB7'
       obtain ⟨_, y0, y1, y2⟩ := KX.out.keep hB7 KX.out.1
       obtain ⟨_, z0, z1, z2⟩ := KA.out.keep hB7 KA.out.1
       have HO7 := Lib.hid hO7
       have HA7 := Lib.hid ha7
       have HB7 := Lib.hid hB7
       clear hO7 ha7 hB7 hB7')
    | (go_at_call 16
       refine (eqGrammar_any _ _ _ _ _ _ _ _ _ _ _ ?_ ?_ hlen4 HLN4.out).mono ?_
       · exact (HO6.out.rls.keep HB7.out).more HB7.out.size
       · exact HO7.out.rls
       rintro e w8 ⟨rfl, hB8'⟩
       rw [eqG_t (HA4.out.trans HA7.out.symm)]
       have hB8 : Below w6.heap.size w6 w8 := HB7.out.trans (hB8'.mono HB7.out.size)
       obtain ⟨_, v0, v1, v2⟩ := KX.out.keep hB8 KX.out.1
       obtain ⟨_, u0, u1, u2⟩ := KA.out.keep hB8 KA.out.1
       have HB8 := Lib.hid hB8
       clear hB8 hB8'))
  rename_i hHeld
  clear hHeld x0 x1 x2 a0 a1 a2 y0 y1 y2 z0 z1 z2 v0 v1 v2 u0 u1 u2
  have HW8 := Lib.hid (HW6.out.trans (HB8.out.mono HW6.out.size))
  have HP8 := Lib.hid (HP6.out.below HB8.out (Nat.le_refl _))
  have HQ8 := Lib.hid (HQ6.out.below HB8.out (Nat.le_refl _))
  go_wp2_with fail
  refine (toIntS_any _ _ _ _ ((HY.out.keep HW8.out).more HW8.out.size) hxl).mono ?_
  rintro e w9 ⟨B9, d9, rfl, hd9, hP9, hB9⟩
  have HP9 := Lib.hid hP9; clear hP9
  have HB9 := Lib.hid hB9; clear hB9
  go_wp2_with fail
  refine (eqIntS_any _ _ _ _ _ _ _ ((HP8.out.ints.keep HB9.out).more HB9.out.size) HP9.out.ints hxl).mono ?_
  rintro e w10 ⟨rfl, hB10⟩
  rw [eqL_self]
  have HWA : Hid (Below w.heap.size w w10) := HW8.out.trans ((HB9.out.trans (hB10.mono HB9.out.size)).mono HW8.out.size)
  have HQA := Lib.hid ((HQ8.out.below HB9.out (Nat.le_refl _)).below hB10 (Nat.le_refl _))
  clear hB10 HB9 HP9 HP8
  go_wp2_with fail
  refine (toIntS_any _ _ _ _ ((HV.out.keep HWA.out).more HWA.out.size) hyl).mono ?_
  rintro e w11 ⟨B11, d11, rfl, hd11, hP11, hB11⟩
  have HP11 := Lib.hid hP11; clear hP11
  have HB11 := Lib.hid hB11; clear hB11
  go_wp2_with fail
  refine (eqIntS_any _ _ _ _ _ _ _ ((HQA.out.ints.keep HB11.out).more HB11.out.size) HP11.out.ints hyl).mono ?_
  rintro e w12 ⟨rfl, hB12⟩
  rw [eqL_self]
  go_wp2
  go_ret
  exact ⟨rfl, HWA.out.trans ((HB11.out.trans (hB12.mono HB11.out.size)).mono HWA.out.size)⟩

end Go.Proofs.YtkghblgiojidgaaDoor
