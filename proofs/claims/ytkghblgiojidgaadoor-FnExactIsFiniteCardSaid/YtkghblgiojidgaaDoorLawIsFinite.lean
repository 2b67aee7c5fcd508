/- The law of IsFinite: its walk. -/
import Derived.Test.YtkghblgiojidgaaDoorBase
import Derived.Test.YtkghblgiojidgaaDoorFinI2
import Derived.Test.YtkghblgiojidgaaDoorToC
import Derived.Test.YtkghblgiojidgaaDoorFinS2
import Derived.Deep.RegionWith
import Derived.Test.YtkghblgiojidgaaDoorEq
namespace Go.Proofs.YtkghblgiojidgaaDoor
open Go.RowKit
open Go.Sort (grow)

set_option maxHeartbeats 1000000 in
theorem law_IsFinite' (hld : LeadsOK) (n t : Int) (A : Option Addr) (c : Nat) (rs : List Ru) (w : World) (hx : Rls w w.heap.size A rs) (hL : Lims w) (hn : rs.length ≤ maxLen) (hu : ∀ u ∈ rs, u.r.length ≤ maxLen) (hf : FitR rs) :
    Calls Tryd.prog 3 #[.agg #[.int .i64 n, .int .i64 t, .slice A rs.length c]] w (LawEnds w) := by
  have HX := Lib.hid hx; clear hx
  have HL := Lib.hid hL; clear hL
  have HN := Lib.hid hn; clear hn
  have HU := Lib.hid hu; clear hu
  have HF := Lib.hid hf; clear hf
  go_enter Tryd.func3, Tryd.ntmps3
  go_wp2_with fail
  have hBA : Below w.heap.size w (w.alloc (.cells #[.int .i64 n, .int .i64 t, .slice A rs.length c] 24)) := by go_grown
  have B0 : Box3 (w.alloc (.cells #[.int .i64 n, .int .i64 t, .slice A rs.length c] 24)) w.heap.size (.int .i64 n) (.int .i64 t) (.slice A rs.length c) := ⟨by simp, by simp [go_sem], by simp [go_sem], by simp [go_sem]⟩
  generalize (w.alloc (.cells #[.int .i64 n, .int .i64 t, .slice A rs.length c] 24)) = W at hBA B0 ⊢
  have HBA := Lib.hid hBA; clear hBA
  have HB0 := Lib.hid B0; clear B0
  refine (szGrammar_any _ _ _ _ _ _ _ ((HX.out.keep HBA.out).more HBA.out.size) HN.out HU.out (by omega) (by omega)).mono ?_
  rintro e w1 ⟨rfl, hB1⟩
  have HB1 := Lib.hid hB1; clear hB1
  by_cases hneg : szRs rs 1048576 < 0
  · go_wp2
    go_ret
    exact ⟨rfl, HBA.out.trans (HB1.out.mono HBA.out.size)⟩
  obtain ⟨hlen0, hlens0⟩ := szRs_bound (L := 1048576) (by omega) (by omega : 0 ≤ szRs rs 1048576)
  have hlen : rs.length ≤ 1048576 := by omega
  have HLN : Hid (∀ u ∈ rs, u.r.length ≤ 1048576) := fun u hu => by have := hlens0 u hu; omega
  clear hlen0 hlens0
  have KB1 := Lib.hid (HB0.out.keep HB1.out HB0.out.1)
  have HR1 := Lib.hid (((HX.out.keep HBA.out).more HBA.out.size).keep HB1.out |>.more HB1.out.size)
  have HW1 := Lib.hid (HBA.out.trans (HB1.out.mono HBA.out.size))
  obtain ⟨_, a0, a1, a2⟩ := KB1.out
  clear HB1 HB0
  go_wp2_with fail
  refine (toGrammar_any _ _ _ _ _ _ HR1.out hlen HLN.out).mono ?_
  rintro e w2 ⟨A2, c2, rs2, rfl, hcap2, hO2, ha2, hB2⟩
  have hl2 := abs_len ha2
  have hlen2 : rs2.length ≤ 1048576 := by omega
  have HLN2 := Lib.hid (abs_lens ha2 HLN.out)
  have HO2 := Lib.hid hO2; clear hO2
  have HA2 := Lib.hid ha2; clear ha2
  have HB2 := Lib.hid hB2; clear hB2
  clear hl2
  go_wp2_with fail
  refine (specIsFinite' hld _ _ _ _ _ _ HO2.out.rls hcap2 hlen2 HLN2.out).mono ?_
  rw [HA2.out]
  rintro e w3 ⟨x, ok, hQ, rfl, hB3⟩
  have HQ := Lib.hid hQ; clear hQ
  have HB3 := Lib.hid (HB2.out.trans (hB3.mono HB2.out.size)); clear hB3
  clear a0 a1 a2 HO2 HA2 HLN2 hlen2 hcap2
  have KB3 := Lib.hid (KB1.out.keep HB3.out KB1.out.1)
  have HR3 := Lib.hid ((HR1.out.keep HB3.out).more HB3.out.size)
  have HW3 := Lib.hid (HW1.out.trans (HB3.out.mono HW1.out.size))
  clear KB1 HR1 HW1 HB3 HB2
  obtain ⟨_, a0, a1, a2⟩ := KB3.out
  go_wp2_with fail
  refine (toGrammarC_any _ _ _ _ _ _ HR3.out hlen HLN.out).mono ?_
  rintro e w4 ⟨A4, c4, rs4, rfl, hcap4, hO4, ha4, hcp4, hB4⟩
  have HCP4 := Lib.hid hcp4; clear hcp4
  have hl4 := abs_len ha4
  have hlen4 : rs4.length ≤ 1048576 := by omega
  have HLN4 := Lib.hid (abs_lens ha4 HLN.out)
  have HF4 := Lib.hid (abs_fit ha4 HF.out)
  have HA4 := Lib.hid ha4; clear ha4
  clear hl4 a0 a1 a2
  go_wp2_with fail
  have hBX : Below w4.heap.size w4 (w4.alloc (.cells #[.int .i64 n, .int .i64 t, .slice A4 rs4.length c4] 30)) := by go_grown
  have B4 : Box3 (w4.alloc (.cells #[.int .i64 n, .int .i64 t, .slice A4 rs4.length c4] 30)) w4.heap.size (.int .i64 n) (.int .i64 t) (.slice A4 rs4.length c4) := ⟨by simp, by simp [go_sem], by simp [go_sem], by simp [go_sem]⟩
  generalize (w4.alloc (.cells #[.int .i64 n, .int .i64 t, .slice A4 rs4.length c4] 30)) = X at hBX B4 ⊢
  have HOX := Lib.hid (hO4.below hBX (Nat.le_refl _)); clear hO4
  have HBX := Lib.hid (hB4.trans (hBX.mono hB4.size)); clear hBX hB4
  have HB4 := Lib.hid B4; clear B4
  have HWX := Lib.hid (HW3.out.trans (HBX.out.mono HW3.out.size))
  refine (implIsFinite_any _ _ _ _ _ _ HOX.out.rls (HL.out.keep HWX.out (Nat.le_refl _)) hcap4 hlen4 HLN4.out HF4.out HCP4.out).mono ?_
  rw [HA4.out]
  rintro e w5 ⟨x', ok', hQ', rfl, hB5⟩
  obtain ⟨hx', ho'⟩ := QF.unique hQ' HQ.out
  subst hx' ho'
  clear hQ' HQ
  have KX := Lib.hid (HB4.out.keep hB5 HB4.out.1)
  have KB5 := Lib.hid ((KB3.out.keep HBX.out KB3.out.1).keep hB5 (by have := KB3.out.1; have := HBX.out.size; omega))
  have HR5 := Lib.hid ((((HR3.out.keep HBX.out).more HBX.out.size).keep hB5).more hB5.size)
  have HO5 := Lib.hid (HOX.out.below hB5 (Nat.le_refl _))
  have HW5 := Lib.hid (HWX.out.trans (hB5.mono HWX.out.size))
  clear hB5 HOX HBX HB4 HWX KB3 HR3 HW3
  have hne : (ok' != ok') = false := by simp
  have hne2 : (x' != x') = false := by simp
  obtain ⟨_, x0, x1, x2⟩ := KX.out
  obtain ⟨_, a0, a1, a2⟩ := KB5.out
  go_wp2_with fail
  go_region_with (first
    | (go_at_call 14
       refine (toGrammar_any _ _ _ _ _ _ ?_ hlen HLN.out).mono ?_
       · exact HR5.out.keep (by go_grown)
       rintro e w6 ⟨A6, c6, rs6, rfl, hcap6, hO6, ha6, hB6'⟩
       have hB6 : Below w5.heap.size w5 w6 := Below.trans (by go_grown) hB6'
       obtain ⟨_, y0, y1, y2⟩ := KX.out.keep hB6 KX.out.1
       have HO6 := Lib.hid hO6
       have HA6 := Lib.hid ha6
       have HB6 := Lib.hid hB6
       clear hO6 ha6 hB6 hB6')
    | (go_at_call 16
       refine (eqGrammar_any _ _ _ _ _ _ _ _ _ _ _ ?_ ?_ hlen4 HLN4.out).mono ?_
       · exact (HO5.out.rls.keep HB6.out).more HB6.out.size
       · exact HO6.out.rls
       rintro e w7 ⟨rfl, hB7⟩
       rw [eqG_t (HA4.out.trans HA6.out.symm)]))
  all_goals
    go_wp2
    go_ret
    exact ⟨rfl, HW5.out.trans ((HB6.out.trans (hB7.mono HB6.out.size)).mono HW5.out.size)⟩

end Go.Proofs.YtkghblgiojidgaaDoor
