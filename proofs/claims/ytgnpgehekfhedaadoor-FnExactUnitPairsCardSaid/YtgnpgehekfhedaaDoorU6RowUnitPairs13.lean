/- The law of UnitPairs holds of every binary grammar that can be read: the call returns true, and what was handed in reads afterwards as it read before. Conditions: the package's table of limits is as the program's text lays it (tied by the given tie). -/
import Derived.Test.YtgnpgehekfhedaaDoorU608
import Derived.Test.YtgnpgehekfhedaaDoorU610
import Derived.Test.YtgnpgehekfhedaaDoorU611
import Derived.Test.YtgnpgehekfhedaaDoorU605
import Derived.Deep.RegionHeld3
import Derived.Test.YtgnpgehekfhedaaDoorU612
import Derived.Test.YtgnpgehekfhedaaDoorCards

namespace Go.Proofs.YtgnpgehekfhedaaDoor
open Go.RowKit

set_option maxRecDepth 20000 in
set_option maxHeartbeats 2000000 in
theorem law_UnitPairs (b : Bi) (w : World) (hx : ReadB w w.heap.size b) (hL : Lims w) (hm : LenB maxLen b) (hf : FitB b.say) :
    Calls Tryd.prog 5 #[(.agg #[.int .i64 b.n, .int .i64 b.t, .slice b.Ap b.P.length b.cp, .slice b.Ao b.O.length b.co, .slice b.Ae b.E.length b.ce, .slice b.Af b.F.length b.cf])] w (LawEnds w) := by
  have HX := Lib.hid hx; clear hx
  have HL := Lib.hid hL; clear hL
  have HM := Lib.hid hm; clear hm
  have HF := Lib.hid hf; clear hf
  go_enter Tryd.func5, Tryd.ntmps5
  go_wp2_with fail
  have hBA : Below w.heap.size w (w.alloc (.cells #[.int .i64 b.n, .int .i64 b.t, .slice b.Ap b.P.length b.cp, .slice b.Ao b.O.length b.co, .slice b.Ae b.E.length b.ce, .slice b.Af b.F.length b.cf] 46)) := by go_grown
  have B0 := Box6.new w b 46
  generalize (w.alloc (.cells #[.int .i64 b.n, .int .i64 b.t, .slice b.Ap b.P.length b.cp, .slice b.Ao b.O.length b.co, .slice b.Ae b.E.length b.ce, .slice b.Af b.F.length b.cf] 46)) = W at hBA B0 ⊢
  have HBA := Lib.hid hBA; clear hBA
  have HB0 := Lib.hid B0; clear B0
  refine (szBinary_any _ _ ((HX.out.keep HBA.out).more HBA.out.size) HM.out).mono ?_
  rintro e w1 ⟨rfl, hB1⟩
  have HB1 := Lib.hid hB1; clear hB1
  by_cases hneg : szB (sayL b.P) (sayL b.O) b.E (sayL b.F) 1048576 < 0
  · go_wp2
    go_ret
    exact ⟨rfl, HBA.out.trans (HB1.out.mono HBA.out.size)⟩
  have HLN : Hid (LenB 1048576 b) := szB_bound (by omega)
  have HTT : Hid (TotB b.say) := szB_total (by omega)
  have HW1 := Lib.hid (HBA.out.trans (HB1.out.mono HBA.out.size))
  have KA1 := Lib.hid (HB0.out.keep HB1.out HB0.out.1)
  have HR1 := Lib.hid ((HX.out.keep HW1.out).more HW1.out.size)
  obtain ⟨_, a0, a1, a2, a3, a4, a5⟩ := KA1.out
  clear HB1 HB0 HBA
  -- the reference's answer
  go_wp2_with fail
  refine (toBinaryA_any _ _ HR1.out HLN.out).mono ?_
  rintro e w2 ⟨b2, rfl, ha2, hO2, _, hB2, hP2⟩
  have HP2 := Lib.hid hP2; clear hP2
  have HLN2 := Lib.hid (HLN.out.of_say ha2)
  have HO2 := Lib.hid hO2; clear hO2
  have HA2 := Lib.hid ha2; clear ha2
  have HB2 := Lib.hid hB2; clear hB2
  go_wp2_with fail
  refine (specUnitPairs_any _ _ HO2.out.read HLN2.out).mono ?_
  have HBG : Hid (∀ (b' : Bi) (v : World) (e : Ending) (v' : World), b'.say = b.say → GaveLP v (bP (GoodBs b'.say)) (PPairs b'.say) e v' → GaveLP v (bP (GoodBs b.say)) (PPairs b.say) e v') := fun b' v e v' h1 h2 => by
    rw [h1] at h2
    exact h2
  intro e w3 hG
  have hG3 := HBG.out _ _ _ _ HA2.out hG
  clear hG
  obtain ⟨ys, hy1, hy2, A3, c3, ls3, rfl, _, hO3, hY3, hB3⟩ := hG3
  have hyb : ys.length ≤ 1048576 ∧ ∀ z ∈ ys, z.length ≤ 1048576 := by
    cases hgd : bP (GoodBs b.say)
    · rw [hy2 hgd]; simp
    · exact ⟨Nat.le_trans ((hy1 hgd).len (bP_is hgd)) (by decide), fun z hz => by obtain ⟨N, _, _, hm⟩ := hy1 hgd; obtain ⟨l, x, rfl, _⟩ := (hm z).1 hz; simp⟩
  have hyl := hyb.1
  have HYU : Hid (∀ z ∈ ys, z.length ≤ 1048576) := hyb.2
  clear hyb
  have HY3 := Lib.hid hY3; clear hY3
  have HIMP : Hid (∀ (b' : Bi) (v : World), ReadB v v.heap.size b' → Lims v → b'.say = b.say →
      Calls Tryd.prog 28 #[(.agg #[.int .i64 b'.n, .int .i64 b'.t, .slice b'.Ap b'.P.length b'.cp, .slice b'.Ao b'.O.length b'.co, .slice b'.Ae b'.E.length b'.ce, .slice b'.Af b'.F.length b'.cf])] v (GaveLB v ys (bP (GoodBs b.say)))) := fun b' v h1 h2 h3 => by
    refine (implUnitPairs_any b' v h1 h2 (HLN.out.of_say h3) (HTT.out.of h3) (FitB.of HF.out h3)).mono fun e v' hh => ?_
    obtain ⟨zs, z1, z2, z4⟩ := HBG.out b' v e v' h3 hh
    have e : zs = ys := by
      cases hgd : bP (GoodBs b.say)
      · rw [z2 hgd, hy2 hgd]
      · exact PPairs.unique (z1 hgd) (hy1 hgd)
    exact e ▸ z4
  clear hy1 hy2 HBG
  generalize bP (GoodBs b.say) = ok at HIMP ⊢
  have HB3 := Lib.hid (HB2.out.trans (hB3.mono HB2.out.size)); clear hB3
  have HO3 := Lib.hid hO3; clear hO3
  have HI3 : Hid (∀ b, ItsL A3 ls3 b → w.heap.size + 1 ≤ b ∧ b < w3.heap.size) := fun b hb => ⟨by have := (HO3.out.its hb).1; have := HB2.out.size; have := KA1.out.1; omega, (HO3.out.its hb).2⟩
  clear a0 a1 a2 a3 a4 a5 HO2 HA2 HLN2
  have KA3 := Lib.hid (KA1.out.keep HB3.out KA1.out.1)
  have HW3 := Lib.hid (HW1.out.trans (HB3.out.mono HW1.out.size))
  have HR3 := Lib.hid ((HX.out.keep HW3.out).more HW3.out.size)
  have HWS3 : Hid (w.heap.size + 1 ≤ w3.heap.size) := KA3.out.1
  clear KA1 HR1 HW1 HB3 HB2
  obtain ⟨_, a0, a1, a2, a3, a4, a5⟩ := KA3.out
  -- the program's argument, a copy
  go_wp2_with fail
  refine (toBinaryA_any _ _ HR3.out HLN.out).mono ?_
  rintro e w4 ⟨b4, rfl, ha4, hO4, _, hB4, hP4⟩
  have HP4 := Lib.hid hP4; clear hP4
  have HLN4 := Lib.hid (HLN.out.of_say ha4)
  have HA4 := Lib.hid ha4; clear ha4
  have HI4 : Hid (∀ b, ItsB b4 b → w3.heap.size ≤ b ∧ b < w4.heap.size) := fun b hb => hO4.its hb
  have HS4 := Lib.hid hB4.size
  clear a0 a1 a2 a3 a4 a5
  go_wp2_with fail
  have hBX : Below w4.heap.size w4 (w4.alloc (.cells #[.int .i64 b4.n, .int .i64 b4.t, .slice b4.Ap b4.P.length b4.cp, .slice b4.Ao b4.O.length b4.co, .slice b4.Ae b4.E.length b4.ce, .slice b4.Af b4.F.length b4.cf] 29)) := by go_grown
  have B4 := Box6.new w4 b4 29
  generalize (w4.alloc (.cells #[.int .i64 b4.n, .int .i64 b4.t, .slice b4.Ap b4.P.length b4.cp, .slice b4.Ao b4.O.length b4.co, .slice b4.Ae b4.E.length b4.ce, .slice b4.Af b4.F.length b4.cf] 29)) = X at hBX B4 ⊢
  have HOX := Lib.hid (hO4.below hBX (Nat.le_refl _)); clear hO4
  have HSX := Lib.hid hBX.size
  have HBX := Lib.hid (hB4.trans (hBX.mono hB4.size)); clear hBX hB4
  have HB4 := Lib.hid B4; clear B4
  have HWX := Lib.hid (HW3.out.trans (HBX.out.mono HW3.out.size))
  have HO3X := Lib.hid (HO3.out.below HBX.out (Nat.le_refl _))
  have KAX := Lib.hid (KA3.out.keep HBX.out KA3.out.1)
  clear HO3 KA3 HW3 HR3
  -- the program's answer
  refine (HIMP.out _ _ HOX.out.read (HL.out.keep HWX.out (Nat.le_refl _)) HA4.out).mono ?_
  rintro e w5 ⟨A5, c5, ls5, rfl, _, hO5, hY5, hB5⟩
  have hl5 := say_len hY5 hyl
  have HU5 := Lib.hid (say_lens hY5 HYU.out)
  have HE5 := Lib.hid (eqLs_t (hY5.trans HY3.out.symm)); clear hY5
  have KX5 := Lib.hid (HB4.out.keep hB5 HB4.out.1)
  have KA5 := Lib.hid (KAX.out.keep hB5 KAX.out.1)
  have HO4 := Lib.hid (HOX.out.below hB5 (Nat.le_refl _))
  have HO3 := Lib.hid (HO3X.out.below hB5 (Nat.le_refl _))
  have HW5 := Lib.hid (HWX.out.trans (hB5.mono HWX.out.size))
  have HI5 : Hid (∀ b, ItsL A5 ls5 b → w4.heap.size ≤ b) := fun b hb => by have := (hO5.its hb).1; have := HSX.out; omega
  have HO5 := Lib.hid hO5; clear hO5
  clear hB5 HOX HB4 HWX KAX HO3X
  -- they say the same
  go_wp2_with fail
  refine (eqIntSS_any _ _ _ _ _ _ _ HO5.out.lls HO3.out.lls hl5 HU5.out).mono ?_
  rintro e w6 ⟨rfl, hB6⟩
  rw [HE5.out]
  have hok : (ok != ok) = false := by simp
  have KX := Lib.hid (KX5.out.keep hB6 KX5.out.1)
  have KA := Lib.hid (KA5.out.keep hB6 KA5.out.1)
  have HO46 := Lib.hid (HO4.out.below hB6 (Nat.le_refl _))
  have HO36 := Lib.hid (HO3.out.below hB6 (Nat.le_refl _))
  have HO56 := Lib.hid (HO5.out.below hB6 (Nat.le_refl _))
  have HW6 := Lib.hid (HW5.out.trans (hB6.mono HW5.out.size))
  have HR6 := Lib.hid ((HX.out.keep HW6.out).more HW6.out.size)
  clear hB6 KX5 KA5 HO4 HO3 HO5 HW5
  obtain ⟨_, x0, x1, x2, x3, x4, x5⟩ := KX.out
  obtain ⟨_, a0, a1, a2, a3, a4, a5⟩ := KA.out
  go_wp2_with fail
  go_region_held3 (fun w' => w'.cell? ⟨w4.heap.size, 0, none⟩ = some (.int .i64 b4.n) ∧ w'.cell? ⟨w4.heap.size, 1, none⟩ = some (.int .i64 b4.t) ∧ w'.cell? ⟨w4.heap.size, 2, none⟩ = some (.slice b4.Ap b4.P.length b4.cp) ∧ w'.cell? ⟨w4.heap.size, 3, none⟩ = some (.slice b4.Ao b4.O.length b4.co) ∧ w'.cell? ⟨w4.heap.size, 4, none⟩ = some (.slice b4.Ae b4.E.length b4.ce) ∧ w'.cell? ⟨w4.heap.size, 5, none⟩ = some (.slice b4.Af b4.F.length b4.cf) ∧ w'.cell? ⟨w.heap.size, 0, none⟩ = some (.int .i64 b.n) ∧ w'.cell? ⟨w.heap.size, 1, none⟩ = some (.int .i64 b.t) ∧ w'.cell? ⟨w.heap.size, 2, none⟩ = some (.slice b.Ap b.P.length b.cp) ∧ w'.cell? ⟨w.heap.size, 3, none⟩ = some (.slice b.Ao b.O.length b.co) ∧ w'.cell? ⟨w.heap.size, 4, none⟩ = some (.slice b.Ae b.E.length b.ce) ∧ w'.cell? ⟨w.heap.size, 5, none⟩ = some (.slice b.Af b.F.length b.cf))
    (first | exact ⟨v0, v1, v2, v3, v4, v5, u0, u1, u2, u3, u4, u5⟩ | exact ⟨y0, y1, y2, y3, y4, y5, z0, z1, z2, z3, z4, z5⟩ | exact ⟨x0, x1, x2, x3, x4, x5, a0, a1, a2, a3, a4, a5⟩)
    (first
    | (go_at_call 27
       refine (toBinaryA_any _ _ ?_ HLN.out).mono ?_
       · exact HR6.out.keep (by go_grown)
       rintro e w7 ⟨b7, rfl, ha7, hO7, _, hB7', hP7⟩
       have HP7 := Lib.hid hP7; clear hP7
       have hB7 : Below w6.heap.size w6 w7 := Below.trans (by go_grown) hB7'
       obtain ⟨_, y0, y1, y2, y3, y4, y5⟩ := KX.out.keep hB7 KX.out.1
       obtain ⟨_, z0, z1, z2, z3, z4, z5⟩ := KA.out.keep hB7 KA.out.1
       have HO7 := Lib.hid hO7
       have HA7 := Lib.hid ha7
       have HB7 := Lib.hid hB7
       clear hO7 ha7 hB7 hB7')
    | (go_at_call 15
       refine (eqBinary_any _ _ _ ?_ ?_ HLN4.out (HA4.out.trans HA7.out.symm)).mono ?_
       · exact (HO46.out.read.keep HB7.out).more HB7.out.size
       · exact HO7.out.read
       rintro e w8 ⟨rfl, hB8'⟩
       have hB8 : Below w6.heap.size w6 w8 := HB7.out.trans (hB8'.mono HB7.out.size)
       obtain ⟨_, v0, v1, v2, v3, v4, v5⟩ := KX.out.keep hB8 KX.out.1
       obtain ⟨_, u0, u1, u2, u3, u4, u5⟩ := KA.out.keep hB8 KA.out.1
       have HB8 := Lib.hid hB8
       clear hB8 hB8'))
  rename_i hHeld
  clear hHeld x0 x1 x2 x3 x4 x5 a0 a1 a2 a3 a4 a5 y0 y1 y2 y3 y4 y5 z0 z1 z2 z3 z4 z5 u0 u1 u2 u3 u4 u5
  have HW8 := Lib.hid (HW6.out.trans (HB8.out.mono HW6.out.size))
  have HO48 := Lib.hid (HO46.out.below HB8.out (Nat.le_refl _))
  have HO38 := Lib.hid (HO36.out.below HB8.out (Nat.le_refl _))
  have HO58 := Lib.hid (HO56.out.below HB8.out (Nat.le_refl _))
  have KA8 := Lib.hid (KA.out.keep HB8.out KA.out.1)
  have HS34 : Hid (w.heap.size + 1 ≤ w3.heap.size) := HWS3.out
  clear HO46 HO36 HO56 KX KA HW6 HR6 HB8
  -- the argument is marked
  go_wp2_with fail
  refine (markBinary_any _ _ _ _ HO48.out HP4.out HLN4.out (by omega) (by omega)).mono ?_
  rintro e w9 ⟨rfl, _, hS9⟩
  have HB9 : Hid (Below (w.heap.size + 1) w8 w9) := hS9.below (by have := KA8.out.1; omega) fun i hi hI => by have := (HI4.out i hI).1; have := HS34.out; omega
  have HW9 := Lib.hid (HW8.out.trans (HB9.out.mono (by omega)))
  have KA9 := Lib.hid (KA8.out.keep HB9.out (by omega))
  have HO39 := Lib.hid (HO38.out.kept hS9 fun b hb hI => by have := (HI3.out b hb).2; have := (HI4.out b hI).1; omega)
  have HO59 := Lib.hid (HO58.out.kept hS9 fun b hb hI => by have := HI5.out b hb; have := (HI4.out b hI).2; omega)
  clear v0 v1 v2 v3 v4 v5 hS9 HO48 HO38 HO58 KA8 HW8
  go_wp2_with fail
  refine (eqIntSS_any _ _ _ _ _ _ _ HO59.out.lls HO39.out.lls hl5 HU5.out).mono ?_
  rintro e w10 ⟨rfl, hB10⟩
  rw [HE5.out]
  have HW10 := Lib.hid (HW9.out.trans (hB10.mono HW9.out.size))
  have KA10 := Lib.hid (KA9.out.keep hB10 KA9.out.1)
  have HO310 := Lib.hid (HO39.out.below hB10 (Nat.le_refl _))
  have HO510 := Lib.hid (HO59.out.below hB10 (Nat.le_refl _))
  clear hB10 HW9 KA9 HO39 HO59 HB9
  -- the answer is marked, and found again
  go_wp2_with fail
  refine (markIntSS_any _ _ _ _ _ _ HO510.out hl5 HU5.out (by omega) (by omega)).mono ?_
  rintro e w11 ⟨rfl, hO11, hS11⟩
  have HB11 : Hid (Below (w.heap.size + 1) w10 w11) := hS11.below (by have := KA10.out.1; omega) fun i hi hI => by have := HI5.out i hI; have := HS34.out; have := HSX.out; have := HS4.out; omega
  have HW11 := Lib.hid (HW10.out.trans (HB11.out.mono (by omega)))
  have KA11 := Lib.hid (KA10.out.keep HB11.out (by omega))
  have HO311 := Lib.hid (HO310.out.kept hS11 fun b hb hI => by have := (HI3.out b hb).2; have := HI5.out b hI; have := HS4.out; omega)
  have HO511 := Lib.hid hO11
  clear hO11 hS11 HW10 KA10 HO310 HO510 HB11
  go_wp2_with fail
  refine (heldIntSS_any _ _ _ _ _ HO511.out.lls hl5 HU5.out (by omega) (by omega)).mono ?_
  rintro e w12 ⟨rfl, hB12⟩
  have hne : ((1 + (lcnt ls5 ls5.length : Int)) != (1 + (lcnt ls5 ls5.length : Int))) = false := by simp
  have HW12 := Lib.hid (HW11.out.trans (hB12.mono HW11.out.size))
  have KA12 := Lib.hid (KA11.out.keep hB12 KA11.out.1)
  have HO312 := Lib.hid (HO311.out.below hB12 (Nat.le_refl _))
  have HO512 := Lib.hid (HO511.out.below hB12 (Nat.le_refl _))
  have HR12 := Lib.hid ((HX.out.keep HW12.out).more HW12.out.size)
  obtain ⟨_, a0, a1, a2, a3, a4, a5⟩ := KA12.out
  clear hB12 HW11 KA11 HO311 HO511
  -- the program once more
  go_wp2_with fail
  refine (toBinaryA_any _ _ HR12.out HLN.out).mono ?_
  rintro e w13 ⟨b13, rfl, ha13, hO13, _, hB13, hP13⟩
  have HP13 := Lib.hid hP13; clear hP13
  have HA13 := Lib.hid ha13; clear ha13
  have HO13 := Lib.hid hO13; clear hO13
  have HB13 := Lib.hid hB13; clear hB13
  have HW13 := Lib.hid (HW12.out.trans (HB13.out.mono HW12.out.size))
  clear a0 a1 a2 a3 a4 a5
  go_wp2_with fail
  refine (HIMP.out _ _ HO13.out.read (HL.out.keep HW13.out (Nat.le_refl _)) HA13.out).mono ?_
  rintro e w14 ⟨A14, c14, ls14, rfl, _, hO14, hY14, hB14⟩
  have hl14 := say_len hY14 hyl
  have HU14 := Lib.hid (say_lens hY14 HYU.out)
  have HE14 := Lib.hid (eqLs_t (hY14.trans HY3.out.symm)); clear hY14
  have HB14 := Lib.hid (HB13.out.trans (hB14.mono HB13.out.size)); clear hB14
  have HO14 := Lib.hid hO14; clear hO14
  have HO314 := Lib.hid (HO312.out.below HB14.out (Nat.le_refl _))
  have HO514 := Lib.hid (HO512.out.below HB14.out (Nat.le_refl _))
  have HW14 := Lib.hid (HW12.out.trans (HB14.out.mono HW12.out.size))
  go_wp2_with fail
  refine (eqIntSS_any _ _ _ _ _ _ _ HO14.out.lls HO314.out.lls hl14 HU14.out).mono ?_
  rintro e w15 ⟨rfl, hB15⟩
  rw [HE14.out]
  have HO515 := Lib.hid (HO514.out.below hB15 (Nat.le_refl _))
  have HW15 := Lib.hid (HW14.out.trans (hB15.mono HW14.out.size))
  clear hB15
  go_wp2_with fail
  refine (heldIntSS_any _ _ _ _ _ HO515.out.lls hl5 HU5.out (by omega) (by omega)).mono ?_
  rintro e w16 ⟨rfl, hB16⟩
  have HW16 := Lib.hid (HW15.out.trans (hB16.mono HW15.out.size))
  clear hB16
  go_wp2
  go_ret
  exact ⟨rfl, HW16.out⟩

end Go.Proofs.YtgnpgehekfhedaaDoor

/- The law of UnitPairs holds of every binary grammar that can be read: the call returns true, and what was handed in reads afterwards as it read before. Conditions: the package's table of limits is as the program's text lays it (tied by the given tie). -/

namespace Go.Proofs.YtgnpgehekfhedaaDoor
open Go.ChangeShapes Go.WideShapes Go.ChangeAt Go.RowKit

set_option maxRecDepth 100000 in
theorem unitPairs_lifted (os : Os) (started : os.Started) (H : Type) (enc : TypeId × Value → H) :
    ReturnsInHanded {} Tryd.checked os 5 .any (fun w args => (Rows.fnExactUnitPairsSpec.pre enc Tryd.prog Tryd.f5 [] false w args ∧ laidMetH Tryd.prog laid1 w) ∧ sizedMet enc Tryd.prog Tryd.f5 (OpenSpec.ofChange Rows.fnExactUnitPairsSpec) false w args)
      (Rows.fnExactUnitPairsSpec.post enc Tryd.prog Tryd.f5 false true false false) := by
  refine returnsInHanded_of_change_and (C := Tryd.checked) (X := fun w _ => laidMetH Tryd.prog laid1 w) (fun _ _ _ hh h => h.of_heap hh) Tryd.own started (by kernel_rfl) Tryd.func5
    (ChangeSpec.witness_shaped (enc := enc) (C := Tryd.checked) (os := os) (X := fun w _ => laidMetH Tryd.prog laid1 w) false (World.doorLaid Tryd.prog 400 os) #[.agg #[.int .i64 0, .int .i64 0, .slice none 0 0, .slice none 0 0, .slice none 0 0, .slice none 0 0]] 8 rfl (World.shaped_of_RefB (by kernel_rfl) (by kernel_rfl)) (by kernel_rfl) (by kernel_rfl) (by kernel_rfl) (door_met os _)) ?_
  intro W base args ds gs before hval0 hW _ _ hL _
  have hval : ∀ (j : Nat) t v, Tryd.f5.params[j]? = some t → args[j]? = some v → Value.okWide Tryd.prog W .any base t v := hval0
  have hW' := hW
  obtain ⟨p, q, hA0, hV0, rfl, hfz, hnd⟩ := hW
  have hA : DataW.TrodAll enc Tryd.prog W 0 (fun _ => true) true Tryd.f5.params.toList args.toList ds p := hA0
  have hV : DataW.TrodVars enc Tryd.prog W (fun _ => true) ["loop.example/g00758/impl.limits"] gs q := hV0
  rw [Tryd.params5] at hA hval
  obtain ⟨v0, d0, rfl, rfl, h0⟩ := trodAll_one hA
  obtain ⟨g, tg, cs, fuel, dg, pg, rfl, _⟩ := trodVars_one hV
  obtain ⟨b, rfl, _, hR, hM, hF, _, _⟩ := open_binary (hval 0 46 v0 rfl rfl) h0
  refine (law_UnitPairs b W hR (lims_of_laid hL) hM hF).mono fun e W' ⟨he, hb⟩ => ?_
  subst he
  exact ⟨_, rfl, ends_one hW' Tryd.params5 rfl rfl (by kernel_rfl) (of_decide_eq_true (by kernel_rfl)) (by kernel_rfl) hb⟩

theorem unitPairs_holds : Rows.FnExactUnitPairsSaid :=
  OpenClaim.holds_of_wide 5 Tryd.f5 rfl rfl rfl rfl rfl rfl rfl ⟨rfl, rfl, rfl, rfl, rfl⟩ rfl rfl rfl rfl rfl (by kernel_rfl) Tryd.func5 (by kernel_rfl)
    (of_decide_eq_true (by kernel_rfl)) (by unfold Func.isWrapper; first | (rw [if_pos (by decide +kernel)]; kernel_rfl) | (rw [if_neg (by decide +kernel)]; exact ⟨rfl, rfl⟩))
    (fun os started H enc _ => unitPairs_lifted os started H enc)

theorem unitPairs_card : Rows.FnExactUnitPairsCardSaid :=
  Claim7.holds_tied_plain_at .later [] [.data] true (true, "1fac3799f206336fa8af4b9097f4185abcb8c03864a1d5e98eee04a0eb5b7ada") false
    unitPairs_holds (fun _ h => by cases h) (by kernel_rfl) (fun _ h => by cases h) fnExactUnitPairs_row_tie rfl ⟨rfl, rfl⟩ (by kernel_rfl) rfl
    (fun f fn hf hfn => by
      obtain rfl : f = 5 := Option.some.inj ((show Tryd.prog.funcNamed "loop.example/g00758/laws.FnExactUnitPairs" = some 5 by kernel_rfl).symm.trans hf) |>.symm
      obtain rfl : fn = Tryd.f5 := (Option.some.inj (Tryd.func5.symm.trans hfn)).symm
      exact ⟨by kernel_rfl, fun j t ht => by
        rw [Tryd.params5] at ht
        have hm : t ∈ [46] := by simpa using Array.mem_of_getElem? ht
        have hall : ([46].all fun u => !Tryd.prog.wantsStandIn u) = true := by kernel_rfl
        exact (show Tryd.prog.wantsStandIn t = false by simpa using List.all_eq_true.1 hall t hm)⟩)
    (by kernel_rfl)

#print axioms unitPairs_card
end Go.Proofs.YtgnpgehekfhedaaDoor
