/- The law of BinarySize: its walk. -/
import Derived.Test.YtjfhkcoiomokoaaDoorBase
import Derived.Test.YtjfhkcoiomokoaaDoorLawGoodBinary
import Derived.Test.YtjfhkcoiomokoaaDoorBSize
namespace Go.Proofs.YtjfhkcoiomokoaaDoor
open Go.RowKit
open Go.Sort (grow)

set_option maxRecDepth 20000 in
set_option maxHeartbeats 1000000 in
theorem law_BinarySize (b : Bi) (w : World) (hx : ReadB w w.heap.size b) (hL : Lims w) (hm : LenB maxLen b) (hf : FitB b.say) :
    Calls Tryd.prog 7 #[(.agg #[.int .i64 b.n, .int .i64 b.t, .slice b.Ap b.P.length b.cp, .slice b.Ao b.O.length b.co, .slice b.Ae b.E.length b.ce, .slice b.Af b.F.length b.cf])] w (LawEnds w) := by
  have HX := Lib.hid hx; clear hx
  have HL := Lib.hid hL; clear hL
  have HM := Lib.hid hm; clear hm
  have HF := Lib.hid hf; clear hf
  go_enter Tryd.func7, Tryd.ntmps7
  go_wp2_with fail
  have hBA : Below w.heap.size w (w.alloc (.cells #[.int .i64 b.n, .int .i64 b.t, .slice b.Ap b.P.length b.cp, .slice b.Ao b.O.length b.co, .slice b.Ae b.E.length b.ce, .slice b.Af b.F.length b.cf] 51)) := by go_grown
  have B0 := Box6.new w b 51
  generalize (w.alloc (.cells #[.int .i64 b.n, .int .i64 b.t, .slice b.Ap b.P.length b.cp, .slice b.Ao b.O.length b.co, .slice b.Ae b.E.length b.ce, .slice b.Af b.F.length b.cf] 51)) = W at hBA B0 ⊢
  have HBA := Lib.hid hBA; clear hBA
  have HB0 := Lib.hid B0; clear B0
  refine (szBinary_any _ _ ((HX.out.keep HBA.out).more HBA.out.size) HM.out).mono ?_
  rintro e w1 ⟨rfl, hB1⟩
  have HB1 := Lib.hid hB1; clear hB1
  by_cases hneg : szB (sayL b.P) (sayL b.O) b.E (sayL b.F) 1048576 < 0
  · go_wp2
    go_ret
    exact ⟨rfl, HBA.out.trans (HB1.out.mono HBA.out.size)⟩
  have HLN : Hid (LenB 1048576 b) := szB_bound (by omega)
  have KB1 := Lib.hid (HB0.out.keep HB1.out HB0.out.1)
  have HR1 := Lib.hid (((HX.out.keep HBA.out).more HBA.out.size).keep HB1.out |>.more HB1.out.size)
  have HW1 := Lib.hid (HBA.out.trans (HB1.out.mono HBA.out.size))
  obtain ⟨_, a0, a1, a2, a3, a4, a5⟩ := KB1.out
  clear HB1 HB0
  go_wp2_with fail
  refine (toBinary_any _ _ HR1.out HLN.out).mono ?_
  rintro e w2 ⟨b2, rfl, hs2, hO2, hC2, hB2⟩
  have HLN2 := Lib.hid (HLN.out.of_say hs2)
  have HS2 := Lib.hid hs2; clear hs2
  have HO2 := Lib.hid hO2; clear hO2
  have HC2 := Lib.hid hC2; clear hC2
  have HB2 := Lib.hid hB2; clear hB2
  go_wp2_with fail
  refine (specSizeB_any _ _ HO2.out.read HLN2.out).mono ?_
  rintro e w3 ⟨rfl, hB3⟩
  rw [HS2.out]
  have HB3 := Lib.hid (HB2.out.trans (hB3.mono HB2.out.size)); clear hB3
  clear a0 a1 a2 a3 a4 a5 HO2 HS2 HLN2 HC2
  have KB3 := Lib.hid (KB1.out.keep HB3.out KB1.out.1)
  have HR3 := Lib.hid ((HR1.out.keep HB3.out).more HB3.out.size)
  have HW3 := Lib.hid (HW1.out.trans (HB3.out.mono HW1.out.size))
  clear KB1 HR1 HW1 HB3 HB2
  obtain ⟨_, a0, a1, a2, a3, a4, a5⟩ := KB3.out
  go_wp2_with fail
  refine (toBinary_any _ _ HR3.out HLN.out).mono ?_
  rintro e w4 ⟨b4, rfl, hs4, hO4, hC4, hB4⟩
  have HLN4 := Lib.hid (HLN.out.of_say hs4)
  have HF4 := Lib.hid (fit_say HF.out hs4)
  have HS4 := Lib.hid hs4; clear hs4
  clear a0 a1 a2 a3 a4 a5 hC4
  go_wp2_with fail
  have hBX : Below w4.heap.size w4 (w4.alloc (.cells #[.int .i64 b4.n, .int .i64 b4.t, .slice b4.Ap b4.P.length b4.cp, .slice b4.Ao b4.O.length b4.co, .slice b4.Ae b4.E.length b4.ce, .slice b4.Af b4.F.length b4.cf] 45)) := by go_grown
  have B4 := Box6.new w4 b4 45
  generalize (w4.alloc (.cells #[.int .i64 b4.n, .int .i64 b4.t, .slice b4.Ap b4.P.length b4.cp, .slice b4.Ao b4.O.length b4.co, .slice b4.Ae b4.E.length b4.ce, .slice b4.Af b4.F.length b4.cf] 45)) = X at hBX B4 ⊢
  have HOX := Lib.hid (hO4.below hBX (Nat.le_refl _)); clear hO4
  have HBX := Lib.hid (hB4.trans (hBX.mono hB4.size)); clear hBX hB4
  have HB4 := Lib.hid B4; clear B4
  have HWX := Lib.hid (HW3.out.trans (HBX.out.mono HW3.out.size))
  refine (implSizeB_any _ _ HOX.out.read (HL.out.keep HWX.out (Nat.le_refl _)) HLN4.out HF4.out).mono ?_
  rintro e w5 ⟨rfl, hB5⟩
  rw [HS4.out]
  have KX := Lib.hid (HB4.out.keep hB5 HB4.out.1)
  have KB5 := Lib.hid ((KB3.out.keep HBX.out KB3.out.1).keep hB5 (by have := KB3.out.1; have := HBX.out.size; omega))
  have HR5 := Lib.hid ((((HR3.out.keep HBX.out).more HBX.out.size).keep hB5).more hB5.size)
  have HO5 := Lib.hid (HOX.out.below hB5 (Nat.le_refl _))
  have HW5 := Lib.hid (HWX.out.trans (hB5.mono HWX.out.size))
  clear hB5 HOX HBX HB4 HWX KB3 HR3 HW3
  have hne : (bP (GoodBs b.say) != bP (GoodBs b.say)) = false := by simp
  have hne2 : (sizeBV b.say != sizeBV b.say) = false := by simp
  obtain ⟨_, x0, x1, x2, x3, x4, x5⟩ := KX.out
  obtain ⟨_, a0, a1, a2, a3, a4, a5⟩ := KB5.out
  go_wp2_with fail
  go_region_with (first
    | (go_at_call 32
       refine (toBinary_any _ _ ?_ HLN.out).mono ?_
       · exact HR5.out.keep (by go_grown)
       rintro e w6 ⟨b6, rfl, hs6, hO6, hC6, hB6'⟩
       have hB6 : Below w5.heap.size w5 w6 := Below.trans (by go_grown) hB6'
       obtain ⟨_, y0, y1, y2, y3, y4, y5⟩ := KX.out.keep hB6 KX.out.1
       have HO6 := Lib.hid hO6
       have HS6 := Lib.hid hs6
       have HB6 := Lib.hid hB6
       clear hO6 hs6 hB6 hB6' hC6)
    | (go_at_call 27
       refine (eqBinary_any _ _ _ ?_ ?_ HLN4.out (HS4.out.trans HS6.out.symm)).mono ?_
       · exact (HO5.out.read.keep HB6.out).more HB6.out.size
       · exact HO6.out.read
       rintro e w7 ⟨rfl, hB7⟩))
  all_goals
    go_wp2
    go_ret
    exact ⟨rfl, HW5.out.trans ((HB6.out.trans (hB7.mono HB6.out.size)).mono HW5.out.size)⟩

end Go.Proofs.YtjfhkcoiomokoaaDoor
