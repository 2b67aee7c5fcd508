/- The law of ClosedSet holds of every binary grammar that can be read and every list of numbers: the call returns true, and what was handed in reads afterwards as it read before. Conditions: the package's table of limits is as the program's text lays it (tied by the given tie). -/
import Derived.Test.YtgnpgehekfhedaaDoorU608
import Derived.Test.YtgnpgehekfhedaaDoorU611
import Derived.Deep.RegionHeld3
import Derived.Test.YtgnpgehekfhedaaDoorU612
import Derived.Test.YtgnpgehekfhedaaDoorCards

namespace Go.Proofs.YtgnpgehekfhedaaDoor
open Go.RowKit

theorem cntBi_le {b : Bi} (h : LenB 1048576 b) : cntBi b ≤ 3298539077632 := by
  have h1 := lcn_le h.p h.ps
  have h2 := lcn_le h.o h.os
  have h3 := lcn_le h.f h.fs
  have h4 := h.e
  unfold cntBi
  omega

set_option maxRecDepth 20000 in
set_option maxHeartbeats 2000000 in
theorem law_ClosedSet (b : Bi) (B : Option Addr) (d : Nat) (xs : List Int) (w : World) (hx : ReadB w w.heap.size b) (hy : Ints w w.heap.size B xs) (hxm : xs.length ≤ maxLen) (hL : Lims w) (hm : LenB maxLen b) (hf : FitB b.say) :
    Calls Tryd.prog 6 #[(.agg #[.int .i64 b.n, .int .i64 b.t, .slice b.Ap b.P.length b.cp, .slice b.Ao b.O.length b.co, .slice b.Ae b.E.length b.ce, .slice b.Af b.F.length b.cf]), .slice B xs.length d] w (LawEnds w) := by
  have HX := Lib.hid hx; clear hx
  have HL := Lib.hid hL; clear hL
  have HY := Lib.hid hy; clear hy
  have hxm2 := hxm
  unfold maxLen at hxm2
  by_cases hbig : (1048576 : Int) < (xs.length : Int)
  · go_enter Tryd.func6, Tryd.ntmps6
    go_wp2
    go_ret
    exact ⟨rfl, by go_grown⟩
  have hxl : xs.length ≤ 1048576 := by omega
  have HM := Lib.hid hm; clear hm
  have HF := Lib.hid hf; clear hf
  go_enter Tryd.func6, Tryd.ntmps6
  go_wp2_with fail
  have hBA : Below w.heap.size w (w.alloc (.cells #[.int .i64 b.n, .int .i64 b.t, .slice b.Ap b.P.length b.cp, .slice b.Ao b.O.length b.co, .slice b.Ae b.E.length b.ce, .slice b.Af b.F.length b.cf] 46)) := by go_grown
  have B0 := Box6.new w b 46
  generalize (w.alloc (.cells #[.int .i64 b.n, .int .i64 b.t, .slice b.Ap b.P.length b.cp, .slice b.Ao b.O.length b.co, .slice b.Ae b.E.length b.ce, .slice b.Af b.F.length b.cf] 46)) = W at hBA B0 ⊢
  have HBA := Lib.hid hBA; clear hBA
  have HB0 := Lib.hid B0; clear B0
  refine (szBinary_any _ _ ((HX.out.keep HBA.out).more HBA.out.size) HM.out).mono ?_
  rintro e w1 ⟨rfl, hB1⟩
  have HB1 := Lib.hid hB1; clear hB1
  by_cases hneg : szB (sayL b.P) (sayL b.O) b.E (sayL b.F) 1048576 < 0
  · go_wp2
    go_ret
    exact ⟨rfl, HBA.out.trans (HB1.out.mono HBA.out.size)⟩
  have HLN : Hid (LenB 1048576 b) := szB_bound (by omega)
  have HTT : Hid (TotB b.say) := szB_total (by omega)
  have HW1 := Lib.hid (HBA.out.trans (HB1.out.mono HBA.out.size))
  have KA1 := Lib.hid (HB0.out.keep HB1.out HB0.out.1)
  have HR1 := Lib.hid ((HX.out.keep HW1.out).more HW1.out.size)
  obtain ⟨_, a0, a1, a2, a3, a4, a5⟩ := KA1.out
  clear HB1 HB0 HBA
  -- the reference's answer
  go_wp2_with fail
  refine (toBinaryA_any _ _ HR1.out HLN.out).mono ?_
  rintro e w2 ⟨b2, rfl, ha2, hO2, _, hB2, hP2⟩
  have HP2 := Lib.hid hP2; clear hP2
  have HLN2 := Lib.hid (HLN.out.of_say ha2)
  have HO2 := Lib.hid hO2; clear hO2
  have HA2 := Lib.hid ha2; clear ha2
  have HW2 := Lib.hid (HW1.out.trans (hB2.mono HW1.out.size))
  have HB2 := Lib.hid hB2; clear hB2
  go_wp2_with fail
  refine (toIntS_any _ _ _ _ ((HY.out.keep HW2.out).more HW2.out.size) hxl).mono ?_
  rintro e w2a ⟨B2, d2, rfl, hd2, hJ2, hB2a⟩
  have HO2a := Lib.hid (HO2.out.below hB2a (Nat.le_refl _))
  have HJ2 := Lib.hid hJ2; clear hJ2
  have HB2a := Lib.hid (HB2.out.trans (hB2a.mono HB2.out.size)); clear hB2a
  go_wp2_with fail
  refine (specClosedSet_any _ _ _ _ _ HO2a.out.read HLN2.out HJ2.out.ints hxl).mono ?_
  have HBG : Hid (∀ (b' : Bi) (v : World) (e : Ending) (v' : World), b'.say = b.say → GaveP v (bP (GoodBs b'.say ∧ GoodE b'.n xs)) (PUp b'.say fun _ y => xs.contains y) e v' → GaveP v (bP (GoodBs b.say ∧ GoodE b.n xs)) (PUp b.say fun _ y => xs.contains y) e v') := fun b' v e v' h1 h2 => by
    have e1 : b'.n = b.n := congrArg Bs.n h1
    rw [e1, h1] at h2
    exact h2
  intro e w3 hG
  have hG3 := HBG.out _ _ _ _ HA2.out hG
  clear hG
  obtain ⟨ys, hy1, hy2, hy3, A3, c3, rfl, hO3, hB3⟩ := hG3
  have hyl : ys.length ≤ 1048576 := by omega
  have HIMP : Hid (∀ (b' : Bi) (B' : Option Addr) (d' : Nat) (v : World), ReadB v v.heap.size b' → Ints v v.heap.size B' xs → Lims v → b'.say = b.say →
      Calls Tryd.prog 34 #[(.agg #[.int .i64 b'.n, .int .i64 b'.t, .slice b'.Ap b'.P.length b'.cp, .slice b'.Ao b'.O.length b'.co, .slice b'.Ae b'.E.length b'.ce, .slice b'.Af b'.F.length b'.cf]), .slice B' xs.length d'] v (GaveIB v ys (bP (GoodBs b.say ∧ GoodE b.n xs)))) := fun b' B' d' v h1 h1' h2 h3 => by
    refine (implClosedSet_any b' B' xs d' v h1 h2 (HLN.out.of_say h3) (HTT.out.of h3) (FitB.of HF.out h3) h1' hxl).mono fun e v' hh => ?_
    obtain ⟨zs, z1, z2, _, z4⟩ := HBG.out b' v e v' h3 hh
    have e : zs = ys := same_list (fun _ _ h k => PUp.unique h k) z1 z2 hy1 hy2
    exact e ▸ z4
  clear hy1 hy2 hy3 HBG
  generalize bP (GoodBs b.say ∧ GoodE b.n xs) = ok at HIMP hO3 ⊢
  have HB3 := Lib.hid (HB2a.out.trans (hB3.mono HB2a.out.size)); clear hB3
  have HO3 := Lib.hid hO3; clear hO3
  have HI3 : Hid (∀ b, Its A3 ys b → w.heap.size + 1 ≤ b ∧ b < w3.heap.size) := fun b hb => ⟨by have := (HO3.out.its hb).1; have := HB2a.out.size; have := KA1.out.1; omega, (HO3.out.its hb).2⟩
  clear a0 a1 a2 a3 a4 a5 HO2 HA2 HLN2 HO2a HJ2 hd2
  have KA3 := Lib.hid (KA1.out.keep HB3.out KA1.out.1)
  have HW3 := Lib.hid (HW1.out.trans (HB3.out.mono HW1.out.size))
  have HR3 := Lib.hid ((HX.out.keep HW3.out).more HW3.out.size)
  have HWS3 : Hid (w.heap.size + 1 ≤ w3.heap.size) := KA3.out.1
  clear KA1 HR1 HW1 HB3 HB2 HB2a HW2
  obtain ⟨_, a0, a1, a2, a3, a4, a5⟩ := KA3.out
  -- the program's argument, a copy
  go_wp2_with fail
  refine (toBinaryA_any _ _ HR3.out HLN.out).mono ?_
  rintro e w4 ⟨b4, rfl, ha4, hO4, _, hB4, hP4⟩
  have HP4 := Lib.hid hP4; clear hP4
  have HLN4 := Lib.hid (HLN.out.of_say ha4)
  have HA4 := Lib.hid ha4; clear ha4
  have HI4 : Hid (∀ b, ItsB b4 b → w3.heap.size ≤ b ∧ b < w4.heap.size) := fun b hb => hO4.its hb
  have HS4 := Lib.hid hB4.size
  clear a0 a1 a2 a3 a4 a5
  go_wp2_with fail
  have hBX : Below w4.heap.size w4 (w4.alloc (.cells #[.int .i64 b4.n, .int .i64 b4.t, .slice b4.Ap b4.P.length b4.cp, .slice b4.Ao b4.O.length b4.co, .slice b4.Ae b4.E.length b4.ce, .slice b4.Af b4.F.length b4.cf] 29)) := by go_grown
  have B4 := Box6.new w4 b4 29
  generalize (w4.alloc (.cells #[.int .i64 b4.n, .int .i64 b4.t, .slice b4.Ap b4.P.length b4.cp, .slice b4.Ao b4.O.length b4.co, .slice b4.Ae b4.E.length b4.ce, .slice b4.Af b4.F.length b4.cf] 29)) = X at hBX B4 ⊢
  have HOX := Lib.hid (hO4.below hBX (Nat.le_refl _)); clear hO4
  have HSX := Lib.hid hBX.size
  have HBX := Lib.hid (hB4.trans (hBX.mono hB4.size)); clear hBX hB4
  have HB4 := Lib.hid B4; clear B4
  have HWX := Lib.hid (HW3.out.trans (HBX.out.mono HW3.out.size))
  have HO3X := Lib.hid (HO3.out.below HBX.out (Nat.le_refl _))
  have KAX := Lib.hid (KA3.out.keep HBX.out KA3.out.1)
  clear HO3 KA3 HW3 HR3
  refine (toIntS_any _ _ _ _ ((HY.out.keep HWX.out).more HWX.out.size) hxl).mono ?_
  rintro e Z ⟨B5, d5, rfl, hd5, hJ5, hBZ⟩
  have HOZ := Lib.hid (HOX.out.below hBZ (Nat.le_refl _))
  have HB4Z := Lib.hid (HB4.out.keep hBZ HB4.out.1)
  have HWZ := Lib.hid (HWX.out.trans (hBZ.mono HWX.out.size))
  have HO3Z := Lib.hid (HO3X.out.below hBZ (Nat.le_refl _))
  have KAZ := Lib.hid (KAX.out.keep hBZ KAX.out.1)
  have HIP : Hid (∀ b, Its B5 xs b → X.heap.size ≤ b ∧ b < Z.heap.size) := fun b hb => hJ5.its hb
  have HJZ := Lib.hid hJ5
  have HSZ := Lib.hid hBZ.size
  clear hJ5 hBZ HOX HB4 HWX HO3X KAX
  obtain ⟨_, zz0, zz1, zz2⟩ := HB4Z.out
  go_wp2_with fail
  -- the program's answer
  refine (HIMP.out _ _ _ _ HOZ.out.read HJZ.out.ints (HL.out.keep HWZ.out (Nat.le_refl _)) HA4.out).mono ?_
  rintro e w5 ⟨A5, c5, rfl, hO5, hB5⟩
  clear zz0 zz1 zz2
  have KX5 := Lib.hid (HB4Z.out.keep hB5 HB4Z.out.1)
  have KA5 := Lib.hid (KAZ.out.keep hB5 KAZ.out.1)
  have HO4 := Lib.hid (HOZ.out.below hB5 (Nat.le_refl _))
  have HO3 := Lib.hid (HO3Z.out.below hB5 (Nat.le_refl _))
  have HJ5 := Lib.hid (HJZ.out.below hB5 (Nat.le_refl _))
  have HW5 := Lib.hid (HWZ.out.trans (hB5.mono HWZ.out.size))
  have HI5 : Hid (∀ b, Its A5 ys b → w4.heap.size ≤ b) := fun b hb => by have := (hO5.its hb).1; have := HSX.out; have := HSZ.out; omega
  have HI5Z : Hid (∀ b, Its A5 ys b → Z.heap.size ≤ b) := fun b hb => (hO5.its hb).1
  have HO5 := Lib.hid hO5; clear hO5
  clear hB5 HOZ HB4Z HWZ KAZ HO3Z HJZ
  -- they say the same
  go_wp2_with fail
  refine (eqIntS_any _ _ _ _ _ _ _ HO5.out.ints HO3.out.ints hyl).mono ?_
  rintro e w6 ⟨rfl, hB6⟩
  rw [eqL_refl]
  have hok : (ok != ok) = false := by simp
  have KX := Lib.hid (KX5.out.keep hB6 KX5.out.1)
  have KA := Lib.hid (KA5.out.keep hB6 KA5.out.1)
  have HO46 := Lib.hid (HO4.out.below hB6 (Nat.le_refl _))
  have HO36 := Lib.hid (HO3.out.below hB6 (Nat.le_refl _))
  have HO56 := Lib.hid (HO5.out.below hB6 (Nat.le_refl _))
  have HJ6 := Lib.hid (HJ5.out.below hB6 (Nat.le_refl _))
  have HW6 := Lib.hid (HW5.out.trans (hB6.mono HW5.out.size))
  have HR6 := Lib.hid ((HX.out.keep HW6.out).more HW6.out.size)
  clear hB6 KX5 KA5 HO4 HO3 HO5 HW5 HJ5
  obtain ⟨_, x0, x1, x2, x3, x4, x5⟩ := KX.out
  obtain ⟨_, a0, a1, a2, a3, a4, a5⟩ := KA.out
  go_wp2_with fail
  go_region_held3 (fun w' => w'.cell? ⟨w4.heap.size, 0, none⟩ = some (.int .i64 b4.n) ∧ w'.cell? ⟨w4.heap.size, 1, none⟩ = some (.int .i64 b4.t) ∧ w'.cell? ⟨w4.heap.size, 2, none⟩ = some (.slice b4.Ap b4.P.length b4.cp) ∧ w'.cell? ⟨w4.heap.size, 3, none⟩ = some (.slice b4.Ao b4.O.length b4.co) ∧ w'.cell? ⟨w4.heap.size, 4, none⟩ = some (.slice b4.Ae b4.E.length b4.ce) ∧ w'.cell? ⟨w4.heap.size, 5, none⟩ = some (.slice b4.Af b4.F.length b4.cf) ∧ w'.cell? ⟨w.heap.size, 0, none⟩ = some (.int .i64 b.n) ∧ w'.cell? ⟨w.heap.size, 1, none⟩ = some (.int .i64 b.t) ∧ w'.cell? ⟨w.heap.size, 2, none⟩ = some (.slice b.Ap b.P.length b.cp) ∧ w'.cell? ⟨w.heap.size, 3, none⟩ = some (.slice b.Ao b.O.length b.co) ∧ w'.cell? ⟨w.heap.size, 4, none⟩ = some (.slice b.Ae b.E.length b.ce) ∧ w'.cell? ⟨w.heap.size, 5, none⟩ = some (.slice b.Af b.F.length b.cf))
    (first | exact ⟨v0, v1, v2, v3, v4, v5, u0, u1, u2, u3, u4, u5⟩ | exact ⟨y0, y1, y2, y3, y4, y5, z0, z1, z2, z3, z4, z5⟩ | exact ⟨x0, x1, x2, x3, x4, x5, a0, a1, a2, a3, a4, a5⟩)
    (first
    | (go_at_call 27
       refine (toBinaryA_any _ _ ?_ HLN.out).mono ?_
       · exact HR6.out.keep (by go_grown)
       rintro e w7 ⟨b7, rfl, ha7, hO7, _, hB7', hP7⟩
       have HP7 := Lib.hid hP7; clear hP7
       have hB7 : Below w6.heap.size w6 w7 := Below.trans (by go_grown) hB7'
       obtain ⟨_, y0, y1, y2, y3, y4, y5⟩ := KX.out.keep hB7 KX.out.1
       obtain ⟨_, z0, z1, z2, z3, z4, z5⟩ := KA.out.keep hB7 KA.out.1
       have HO7 := Lib.hid hO7
       have HA7 := Lib.hid ha7
       have HB7 := Lib.hid hB7
       clear hO7 ha7 hB7 hB7')
    | (go_at_call 15
       refine (eqBinary_any _ _ _ ?_ ?_ HLN4.out (HA4.out.trans HA7.out.symm)).mono ?_
       · exact (HO46.out.read.keep HB7.out).more HB7.out.size
       · exact HO7.out.read
       rintro e w8 ⟨rfl, hB8'⟩
       have hB8 : Below w6.heap.size w6 w8 := HB7.out.trans (hB8'.mono HB7.out.size)
       obtain ⟨_, v0, v1, v2, v3, v4, v5⟩ := KX.out.keep hB8 KX.out.1
       obtain ⟨_, u0, u1, u2, u3, u4, u5⟩ := KA.out.keep hB8 KA.out.1
       have HB8 := Lib.hid hB8
       clear hB8 hB8'))
  rename_i hHeld
  clear hHeld x0 x1 x2 x3 x4 x5 a0 a1 a2 a3 a4 a5 y0 y1 y2 y3 y4 y5 z0 z1 z2 z3 z4 z5 u0 u1 u2 u3 u4 u5
  have HW8 := Lib.hid (HW6.out.trans (HB8.out.mono HW6.out.size))
  have HO48 := Lib.hid (HO46.out.below HB8.out (Nat.le_refl _))
  have HO38 := Lib.hid (HO36.out.below HB8.out (Nat.le_refl _))
  have HO58 := Lib.hid (HO56.out.below HB8.out (Nat.le_refl _))
  have HJ8 := Lib.hid (HJ6.out.below HB8.out (Nat.le_refl _))
  have KA8 := Lib.hid (KA.out.keep HB8.out KA.out.1)
  have KX8 := Lib.hid (KX.out.keep HB8.out KX.out.1)
  have HS34 : Hid (w.heap.size + 1 ≤ w3.heap.size) := HWS3.out
  clear HO46 HO36 HO56 KX KA HW6 HR6 HB8 HJ6 v0 v1 v2 v3 v4 v5
  go_wp2_with fail
  refine (toIntS_any _ _ _ _ ((HY.out.keep HW8.out).more HW8.out.size) hxl).mono ?_
  rintro e w8a ⟨B8, d8, rfl, hd8, hJ8a, hB8a⟩
  have HJ8a := Lib.hid hJ8a; clear hJ8a
  have HB8a := Lib.hid hB8a; clear hB8a
  go_wp2_with fail
  refine (eqIntS_any _ _ _ _ _ _ _ ((HJ8.out.ints.keep HB8a.out).more HB8a.out.size) HJ8a.out.ints hxl).mono ?_
  rintro e w8b ⟨rfl, hB8b⟩
  rw [eqL_refl]
  have HBb := Lib.hid (HB8a.out.trans (hB8b.mono HB8a.out.size)); clear hB8b
  have HO48' := Lib.hid (HO48.out.below HBb.out (Nat.le_refl _))
  have HO38' := Lib.hid (HO38.out.below HBb.out (Nat.le_refl _))
  have HO58' := Lib.hid (HO58.out.below HBb.out (Nat.le_refl _))
  have HJ8' := Lib.hid (HJ8.out.below HBb.out (Nat.le_refl _))
  have KA8' := Lib.hid (KA8.out.keep HBb.out KA8.out.1)
  obtain ⟨_, v0, v1, v2, v3, v4, v5⟩ := KX8.out.keep HBb.out KX8.out.1
  have HW8' := Lib.hid (HW8.out.trans (HBb.out.mono HW8.out.size))
  clear HO48 HO38 HO58 HJ8 KA8 HW8 KX8 HBb HB8a HJ8a
  -- the argument is marked
  go_wp2_with fail
  refine (markBinary_any _ _ _ _ HO48'.out HP4.out HLN4.out (by omega) (by omega)).mono ?_
  rintro e w9 ⟨rfl, _, hS9⟩
  have HB9 : Hid (Below (w.heap.size + 1) w8b w9) := hS9.below (by have := KA8'.out.1; omega) fun i hi hI => by have := (HI4.out i hI).1; have := HS34.out; omega
  have HW9 := Lib.hid (HW8'.out.trans (HB9.out.mono (by omega)))
  have KA9 := Lib.hid (KA8'.out.keep HB9.out (by omega))
  have HO39 := Lib.hid (HO38'.out.kept hS9 fun b hb hI => by have := (HI3.out b hb).2; have := (HI4.out b hI).1; omega)
  have HO59 := Lib.hid (HO58'.out.kept hS9 fun b hb hI => by have := HI5.out b hb; have := (HI4.out b hI).2; omega)
  have HJ9 := Lib.hid (HJ8'.out.kept hS9 fun b hb hI => by have := (HIP.out b hb).1; have := (HI4.out b hI).2; have := HSX.out; omega)
  clear v0 v1 v2 v3 v4 v5 hS9 HO48' HO38' HO58' KA8' HW8' HJ8' HB9
  have hcm := cntBi_le HLN4.out
  go_wp2_with fail
  refine (markIntS_any _ _ _ _ _ _ HJ9.out hxl (by omega) (by omega)).mono ?_
  rintro e wm ⟨rfl, _, hSm⟩
  have HBm : Hid (Below (w.heap.size + 1) w9 wm) := hSm.below (by have := KA9.out.1; omega) fun i hi hI => by have := (HIP.out i hI).1; have := HS34.out; have := HSX.out; have := HS4.out; omega
  have HWm := Lib.hid (HW9.out.trans (HBm.out.mono (by omega)))
  have KAm := Lib.hid (KA9.out.keep HBm.out (by omega))
  have HO3m := Lib.hid (HO39.out.kept hSm fun b hb hI => by have := (HI3.out b hb).2; have := (HIP.out b hI).1; have := HSX.out; have := HS4.out; omega)
  have HO5m := Lib.hid (HO59.out.kept hSm fun b hb hI => by have := HI5Z.out b hb; have := (HIP.out b hI).2; omega)
  clear hSm HW9 KA9 HO39 HO59 HBm HJ9
  go_wp2_with fail
  refine (eqIntS_any _ _ _ _ _ _ _ HO5m.out.ints HO3m.out.ints hyl).mono ?_
  rintro e w10 ⟨rfl, hB10⟩
  rw [eqL_refl]
  have HW10 := Lib.hid (HWm.out.trans (hB10.mono HWm.out.size))
  have KA10 := Lib.hid (KAm.out.keep hB10 KAm.out.1)
  have HO310 := Lib.hid (HO3m.out.below hB10 (Nat.le_refl _))
  have HO510 := Lib.hid (HO5m.out.below hB10 (Nat.le_refl _))
  clear hB10 HWm KAm HO3m HO5m
  -- the answer is marked, and found again
  go_wp2_with fail
  refine (markIntS_any _ _ _ _ _ _ HO510.out hyl (by omega) (by omega)).mono ?_
  rintro e w11 ⟨rfl, hO11, hS11⟩
  have HB11 : Hid (Below (w.heap.size + 1) w10 w11) := hS11.below (by have := KA10.out.1; omega) fun i hi hI => by have := HI5.out i hI; have := HS34.out; have := HSX.out; have := HS4.out; omega
  have HW11 := Lib.hid (HW10.out.trans (HB11.out.mono (by omega)))
  have KA11 := Lib.hid (KA10.out.keep HB11.out (by omega))
  have HO311 := Lib.hid (HO310.out.kept hS11 fun b hb hI => by have := (HI3.out b hb).2; have := HI5.out b hI; have := HS4.out; omega)
  have HO511 := Lib.hid hO11
  clear hO11 hS11 HW10 KA10 HO310 HO510 HB11
  go_wp2_with fail
  refine (heldIntS_any _ _ _ _ _ HO511.out.ints hyl (by omega) (by omega)).mono ?_
  rintro e w12 ⟨rfl, hB12⟩
  have hne : ((1 + (ys.length : Int)) != (1 + (ys.length : Int))) = false := by simp
  have HW12 := Lib.hid (HW11.out.trans (hB12.mono HW11.out.size))
  have KA12 := Lib.hid (KA11.out.keep hB12 KA11.out.1)
  have HO312 := Lib.hid (HO311.out.below hB12 (Nat.le_refl _))
  have HO512 := Lib.hid (HO511.out.below hB12 (Nat.le_refl _))
  have HR12 := Lib.hid ((HX.out.keep HW12.out).more HW12.out.size)
  obtain ⟨_, a0, a1, a2, a3, a4, a5⟩ := KA12.out
  clear hB12 HW11 KA11 HO311 HO511
  -- the program once more
  go_wp2_with fail
  refine (toBinaryA_any _ _ HR12.out HLN.out).mono ?_
  rintro e w13 ⟨b13, rfl, ha13, hO13, _, hB13, hP13⟩
  have HP13 := Lib.hid hP13; clear hP13
  have HA13 := Lib.hid ha13; clear ha13
  have HO13 := Lib.hid hO13; clear hO13
  have HB13 := Lib.hid hB13; clear hB13
  have HW13 := Lib.hid (HW12.out.trans (HB13.out.mono HW12.out.size))
  clear a0 a1 a2 a3 a4 a5
  go_wp2_with fail
  refine (toIntS_any _ _ _ _ ((HY.out.keep HW13.out).more HW13.out.size) hxl).mono ?_
  rintro e w13a ⟨B13, d13, rfl, hd13, hJ13, hB13a⟩
  have HO13a := Lib.hid (HO13.out.below hB13a (Nat.le_refl _))
  have HW13a := Lib.hid (HW13.out.trans (hB13a.mono HW13.out.size))
  have HB13a := Lib.hid (HB13.out.trans (hB13a.mono HB13.out.size)); clear hB13a
  have HJ13 := Lib.hid hJ13; clear hJ13
  go_wp2_with fail
  refine (HIMP.out _ _ _ _ HO13a.out.read HJ13.out.ints (HL.out.keep HW13a.out (Nat.le_refl _)) HA13.out).mono ?_
  rintro e w14 ⟨A14, c14, rfl, hO14, hB14⟩
  have HB14 := Lib.hid (HB13a.out.trans (hB14.mono HB13a.out.size)); clear hB14
  have HO14 := Lib.hid hO14; clear hO14
  have HO314 := Lib.hid (HO312.out.below HB14.out (Nat.le_refl _))
  have HO514 := Lib.hid (HO512.out.below HB14.out (Nat.le_refl _))
  have HW14 := Lib.hid (HW12.out.trans (HB14.out.mono HW12.out.size))
  go_wp2_with fail
  refine (eqIntS_any _ _ _ _ _ _ _ HO14.out.ints HO314.out.ints hyl).mono ?_
  rintro e w15 ⟨rfl, hB15⟩
  rw [eqL_refl]
  have HO515 := Lib.hid (HO514.out.below hB15 (Nat.le_refl _))
  have HW15 := Lib.hid (HW14.out.trans (hB15.mono HW14.out.size))
  clear hB15
  go_wp2_with fail
  refine (heldIntS_any _ _ _ _ _ HO515.out.ints hyl (by omega) (by omega)).mono ?_
  rintro e w16 ⟨rfl, hB16⟩
  have HW16 := Lib.hid (HW15.out.trans (hB16.mono HW15.out.size))
  clear hB16
  go_wp2
  go_ret
  exact ⟨rfl, HW16.out⟩

end Go.Proofs.YtgnpgehekfhedaaDoor

/- The law of ClosedSet holds of every binary grammar that can be read and every list of numbers: the call returns true, and what was handed in reads afterwards as it read before. Conditions: the package's table of limits is as the program's text lays it (tied by the given tie). -/

namespace Go.Proofs.YtgnpgehekfhedaaDoor
open Go.ChangeShapes Go.WideShapes Go.ChangeAt Go.RowKit

set_option maxRecDepth 100000 in
theorem closedSet_lifted (os : Os) (started : os.Started) (H : Type) (enc : TypeId × Value → H) :
    ReturnsInHanded {} Tryd.checked os 6 .any (fun w args => (Rows.fnExactClosedSetSpec.pre enc Tryd.prog Tryd.f6 [] false w args ∧ laidMetH Tryd.prog laid1 w) ∧ sizedMet enc Tryd.prog Tryd.f6 (OpenSpec.ofChange Rows.fnExactClosedSetSpec) false w args)
      (Rows.fnExactClosedSetSpec.post enc Tryd.prog Tryd.f6 false true false false) := by
  refine returnsInHanded_of_change_and (C := Tryd.checked) (X := fun w _ => laidMetH Tryd.prog laid1 w) (fun _ _ _ hh h => h.of_heap hh) Tryd.own started (by kernel_rfl) Tryd.func6
    (ChangeSpec.witness_shaped (enc := enc) (C := Tryd.checked) (os := os) (X := fun w _ => laidMetH Tryd.prog laid1 w) false (World.doorLaid Tryd.prog 400 os) #[.agg #[.int .i64 0, .int .i64 0, .slice none 0 0, .slice none 0 0, .slice none 0 0, .slice none 0 0], .slice none 0 0] 8 rfl (World.shaped_of_RefB (by kernel_rfl) (by kernel_rfl)) (by kernel_rfl) (by kernel_rfl) (by kernel_rfl) (door_met os _)) ?_
  intro W base args ds gs before hval0 hW _ _ hL _
  have hval : ∀ (j : Nat) t v, Tryd.f6.params[j]? = some t → args[j]? = some v → Value.okWide Tryd.prog W .any base t v := hval0
  have hW' := hW
  obtain ⟨p, q, hA0, hV0, rfl, hfz, hnd⟩ := hW
  have hA : DataW.TrodAll enc Tryd.prog W 0 (fun _ => true) true Tryd.f6.params.toList args.toList ds p := hA0
  have hV : DataW.TrodVars enc Tryd.prog W (fun _ => true) ["loop.example/g00758/impl.limits"] gs q := hV0
  rw [Tryd.params6] at hA hval
  obtain ⟨v0, v1, d0, d1, p0, p1, rfl, rfl, rfl, h0, h1⟩ := trodAll_two hA
  obtain ⟨g, tg, cs, fuel, dg, pg, rfl, _⟩ := trodVars_one hV
  obtain ⟨b, rfl, _, hR, hM, hF, _, _⟩ := open_binary (hval 0 46 v0 rfl rfl) h0
  obtain ⟨B, xs, d, rfl, _, hI, hml, _⟩ := open_intS' (hval 1 27 v1 rfl rfl) h1
  refine (law_ClosedSet b B d xs W hR hI hml (lims_of_laid hL) hM hF).mono fun e W' ⟨he, hb⟩ => ?_
  subst he
  exact ⟨_, rfl, ends_two hW' Tryd.params6 rfl rfl (by kernel_rfl) (of_decide_eq_true (by kernel_rfl)) (by kernel_rfl) (of_decide_eq_true (by kernel_rfl)) (by kernel_rfl) hb⟩

theorem closedSet_holds : Rows.FnExactClosedSetSaid :=
  OpenClaim.holds_of_wide 6 Tryd.f6 rfl rfl rfl rfl rfl rfl rfl ⟨rfl, rfl, rfl, rfl, rfl⟩ rfl rfl rfl rfl rfl (by kernel_rfl) Tryd.func6 (by kernel_rfl)
    (of_decide_eq_true (by kernel_rfl)) (by unfold Func.isWrapper; first | (rw [if_pos (by decide +kernel)]; kernel_rfl) | (rw [if_neg (by decide +kernel)]; exact ⟨rfl, rfl⟩))
    (fun os started H enc _ => closedSet_lifted os started H enc)

theorem closedSet_card : Rows.FnExactClosedSetCardSaid :=
  Claim7.holds_tied_plain_at .later [] [.data] true (true, "1fac3799f206336fa8af4b9097f4185abcb8c03864a1d5e98eee04a0eb5b7ada") false
    closedSet_holds (fun _ h => by cases h) (by kernel_rfl) (fun _ h => by cases h) fnExactClosedSet_row_tie rfl ⟨rfl, rfl⟩ (by kernel_rfl) rfl
    (fun f fn hf hfn => by
      obtain rfl : f = 6 := Option.some.inj ((show Tryd.prog.funcNamed "loop.example/g00758/laws.FnExactClosedSet" = some 6 by kernel_rfl).symm.trans hf) |>.symm
      obtain rfl : fn = Tryd.f6 := (Option.some.inj (Tryd.func6.symm.trans hfn)).symm
      exact ⟨by kernel_rfl, fun j t ht => by
        rw [Tryd.params6] at ht
        have hm : t ∈ [46, 27] := by simpa using Array.mem_of_getElem? ht
        have hall : ([46, 27].all fun u => !Tryd.prog.wantsStandIn u) = true := by kernel_rfl
        exact (show Tryd.prog.wantsStandIn t = false by simpa using List.all_eq_true.1 hall t hm)⟩)
    (by kernel_rfl)

#print axioms closedSet_card
end Go.Proofs.YtgnpgehekfhedaaDoor
