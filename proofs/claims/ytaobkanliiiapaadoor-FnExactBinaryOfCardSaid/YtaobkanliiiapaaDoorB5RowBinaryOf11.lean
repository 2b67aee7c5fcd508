/- The law of BinaryOf holds of every grammar that can be read: the call returns true, and what was handed in reads afterwards as it read before. Conditions: the package's table of limits is as the program's text lays it (tied by the given tie). -/
import Derived.Test.YtaobkanliiiapaaDoorB509
import Derived.Test.YtaobkanliiiapaaDoorB510
import Derived.Deep.RegionHeld3
import Derived.Test.YtaobkanliiiapaaDoorCards

namespace Go.Proofs.YtaobkanliiiapaaDoor
open Go.RowKit

set_option maxHeartbeats 2000000 in
theorem law_BinaryOf (n t : Int) (A : Option Addr) (c : Nat) (rs : List Ru) (w : World) (hx : Rls w w.heap.size A rs) (hL : Lims w) (hn : rs.length ≤ maxLen) (hu : ∀ u ∈ rs, u.r.length ≤ maxLen) (hf : FitR rs) :
    Calls Tryd.prog 4 #[.agg #[.int .i64 n, .int .i64 t, .slice A rs.length c]] w (LawEnds w) := by
  have HX := Lib.hid hx; clear hx
  have HL := Lib.hid hL; clear hL
  have HN := Lib.hid hn; clear hn
  have HU := Lib.hid hu; clear hu
  have HF := Lib.hid hf; clear hf
  go_enter Tryd.func4, Tryd.ntmps4
  go_wp2_with fail
  have hBA := below_new w (.cells #[.int .i64 n, .int .i64 t, .slice A rs.length c] 48)
  have B0 := box_new w (.int .i64 n) (.int .i64 t) (.slice A rs.length c) 48
  generalize (w.alloc (.cells #[.int .i64 n, .int .i64 t, .slice A rs.length c] 48)) = W at hBA B0 ⊢
  have HBA := Lib.hid hBA; clear hBA
  have HB0 := Lib.hid B0; clear B0
  refine (szGrammar_any _ _ _ _ _ _ _ ((HX.out.keep HBA.out).more HBA.out.size) HN.out HU.out (by omega) (by omega)).mono ?_
  rintro e w1 ⟨rfl, hB1⟩
  have HB1 := Lib.hid hB1; clear hB1
  by_cases hneg : szRs rs 1048576 < 0
  · go_wp2
    go_ret
    exact ⟨rfl, HBA.out.trans (HB1.out.mono HBA.out.size)⟩
  obtain ⟨hlen0, hlens0⟩ := szRs_bound (L := 1048576) (by omega) (by omega : 0 ≤ szRs rs 1048576)
  have hlen : rs.length ≤ 1048576 := by omega
  have HLN : Hid (∀ u ∈ rs, u.r.length ≤ 1048576) := fun u hu => by have := hlens0 u hu; omega
  clear hlen0 hlens0
  have HW1 := Lib.hid (HBA.out.trans (HB1.out.mono HBA.out.size))
  have KA1 := Lib.hid (HB0.out.keep HB1.out HB0.out.1)
  have HR1 := Lib.hid ((HX.out.keep HW1.out).more HW1.out.size)
  obtain ⟨_, a0, a1, a2⟩ := KA1.out
  clear HB1 HB0 HBA
  -- the reference's answer
  go_wp2_with fail
  refine (toGrammarC_any _ _ _ _ _ _ HR1.out hlen HLN.out).mono ?_
  rintro e w2 ⟨A2, c2, rs2, rfl, hcap2, hO2, ha2, hcp2, hB2⟩
  have HCP2 := Lib.hid hcp2; clear hcp2
  have hl2 := abs_len ha2
  have hlen2 : rs2.length ≤ 1048576 := by omega
  have HLN2 := Lib.hid (abs_lens ha2 HLN.out)
  have HO2 := Lib.hid hO2; clear hO2
  have HA2 := Lib.hid ha2; clear ha2
  have HB2 := Lib.hid hB2; clear hB2
  clear hl2
  go_wp2_with fail
  refine (specBo_any _ _ _ _ _ _ HO2.out.rls hcap2 hlen2 HLN2.out HCP2.out).mono ?_
  rw [HA2.out]
  have HIMP : Hid (∀ (A' : Option Addr) (c' : Nat) (rs' : List Ru) (v : World), Rls v v.heap.size A' rs' → Lims v → rs'.length ≤ c' → (∀ u ∈ rs', u.r.length ≤ u.c) → rs'.map Ru.abs = rs.map Ru.abs →
      Calls Tryd.prog 31 #[.agg #[.int .i64 n, .int .i64 t, .slice A' rs'.length c']] v (GaveAB v (boS n t (rs.map Ru.abs)) (goodG n t (rs.map Ru.abs)))) := fun A' c' rs' v h1 h2 h3 h3' h4 => by
    have h5 := abs_len h4
    have h6 := implBo_any n t A' c' rs' v h1 h2 h3 (by omega) (abs_lens h4 HLN.out) h3' (abs_fit h4 HF.out)
    rw [h4] at h6
    exact h6
  generalize boS n t (rs.map Ru.abs) = ss at HIMP ⊢
  generalize goodG n t (rs.map Ru.abs) = ok at HIMP ⊢
  rintro e w3 ⟨b3, rfl, ha3, hO3, hLB3, hB3⟩
  have HB3 := Lib.hid (HB2.out.trans (hB3.mono HB2.out.size)); clear hB3
  have HA3 := Lib.hid ha3; clear ha3
  have HI3 : Hid (∀ b, ItsB b3 b → w.heap.size + 1 ≤ b ∧ b < w3.heap.size) := fun b hb => ⟨by have := (hO3.its hb).1; have := HB2.out.size; have := KA1.out.1; omega, (hO3.its hb).2⟩
  have HO3 := Lib.hid hO3; clear hO3
  have HLN3 := Lib.hid hLB3; clear hLB3
  clear a0 a1 a2 HO2 HA2 HLN2 hlen2 hcap2 HCP2
  have KA3 := Lib.hid (KA1.out.keep HB3.out KA1.out.1)
  have HW3 := Lib.hid (HW1.out.trans (HB3.out.mono HW1.out.size))
  clear KA1 HR1 HW1 HB3 HB2
  obtain ⟨_, a0, a1, a2⟩ := KA3.out
  go_wp2_with fail
  have hBN := below_new w3 (.cells #[.int .i64 b3.n, .int .i64 b3.t, .slice b3.Ap b3.P.length b3.cp, .slice b3.Ao b3.O.length b3.co, .slice b3.Ae b3.E.length b3.ce, .slice b3.Af b3.F.length b3.cf] 41)
  have hKN := Box6.new w3 b3 41
  generalize (w3.alloc (.cells #[.int .i64 b3.n, .int .i64 b3.t, .slice b3.Ap b3.P.length b3.cp, .slice b3.Ao b3.O.length b3.co, .slice b3.Ae b3.E.length b3.ce, .slice b3.Af b3.F.length b3.cf] 41)) = V3 at hBN hKN ⊢
  clear a0 a1 a2
  have HV3 := Lib.hid hBN; clear hBN
  have KW := Lib.hid hKN; clear hKN
  have KAV := Lib.hid (KA3.out.keep HV3.out KA3.out.1)
  have HWV := Lib.hid (HW3.out.trans (HV3.out.mono HW3.out.size))
  have HO3V := Lib.hid (HO3.out.below HV3.out (Nat.le_refl _))
  have HRV := Lib.hid ((HX.out.keep HWV.out).more HWV.out.size)
  have HS3 : Hid (w.heap.size + 1 ≤ w3.heap.size) := KA3.out.1
  have HSV : Hid (w3.heap.size + 1 ≤ V3.heap.size) := KW.out.1
  clear KA3 HW3 HO3 HV3
  -- the program's argument, a copy
  refine (toGrammarC_any _ _ _ _ _ _ HRV.out hlen HLN.out).mono ?_
  rintro e w4 ⟨A4, c4, rs4, rfl, hcap4, hO4, ha4, hcp4, hB4⟩
  have HCP4 := Lib.hid hcp4; clear hcp4
  have hl4 := abs_len ha4
  have hlen4 : rs4.length ≤ 1048576 := by omega
  have HLN4 := Lib.hid (abs_lens ha4 HLN.out)
  have HA4 := Lib.hid ha4; clear ha4
  have HI4 : Hid (∀ b, ItsR A4 rs4 b → V3.heap.size ≤ b ∧ b < w4.heap.size) := fun b hb => hO4.its hb
  have HS4 : Hid (V3.heap.size ≤ w4.heap.size) := hB4.size
  clear hl4
  go_wp2_with fail
  have hBN := below_new w4 (.cells #[.int .i64 n, .int .i64 t, .slice A4 rs4.length c4] 54)
  have hKN := box_new w4 (.int .i64 n) (.int .i64 t) (.slice A4 rs4.length c4) 54
  generalize (w4.alloc (.cells #[.int .i64 n, .int .i64 t, .slice A4 rs4.length c4] 54)) = V4 at hBN hKN ⊢
  have HB4 := Lib.hid (hB4.trans (hBN.mono hB4.size))
  have HO4 := Lib.hid (hO4.below hBN (Nat.le_refl _)); clear hO4 hB4 hBN
  have KX4 := Lib.hid hKN; clear hKN
  have KA4 := Lib.hid (KAV.out.keep HB4.out KAV.out.1)
  have KW4 := Lib.hid (KW.out.keep HB4.out KW.out.1)
  have HO34 := Lib.hid (HO3V.out.below HB4.out (Nat.le_refl _))
  have HW4 := Lib.hid (HWV.out.trans (HB4.out.mono HWV.out.size))
  have HS4' : Hid (w4.heap.size + 1 ≤ V4.heap.size) := KX4.out.1
  clear KAV KW HO3V HWV HRV HB4
  -- the program's answer
  refine (HIMP.out _ _ _ _ HO4.out.rls (HL.out.keep HW4.out (Nat.le_refl _)) hcap4 HCP4.out HA4.out).mono ?_
  rintro e w5 ⟨b5, rfl, ha5, hO5, hLB5, hP5, hB5⟩
  have HP5 := Lib.hid hP5; clear hP5
  have HA5 := Lib.hid ha5; clear ha5
  have HI5 : Hid (∀ b, ItsB b5 b → V4.heap.size ≤ b ∧ b < w5.heap.size) := fun b hb => hO5.its hb
  have HLN5 := Lib.hid hLB5; clear hLB5
  have HS5 : Hid (V4.heap.size ≤ w5.heap.size) := hB5.size
  obtain ⟨_, x0, x1, x2, x3, x4, x5⟩ := KW4.out.keep hB5 KW4.out.1
  go_wp2_with fail
  have hBN := below_new w5 (.cells #[.int .i64 b5.n, .int .i64 b5.t, .slice b5.Ap b5.P.length b5.cp, .slice b5.Ao b5.O.length b5.co, .slice b5.Ae b5.E.length b5.ce, .slice b5.Af b5.F.length b5.cf] 41)
  have hKN := Box6.new w5 b5 41
  generalize (w5.alloc (.cells #[.int .i64 b5.n, .int .i64 b5.t, .slice b5.Ap b5.P.length b5.cp, .slice b5.Ao b5.O.length b5.co, .slice b5.Ae b5.E.length b5.ce, .slice b5.Af b5.F.length b5.cf] 41)) = V5 at hBN hKN ⊢
  have HB5 := Lib.hid (hB5.trans (hBN.mono hB5.size))
  have HO55 := Lib.hid (hO5.below hBN (Nat.le_refl _)); clear hO5 hB5 hBN x0 x1 x2 x3 x4 x5
  have KG5 := Lib.hid hKN; clear hKN
  have KA5 := Lib.hid (KA4.out.keep HB5.out KA4.out.1)
  have KW5 := Lib.hid (KW4.out.keep HB5.out KW4.out.1)
  have KX5 := Lib.hid (KX4.out.keep HB5.out KX4.out.1)
  have HO35 := Lib.hid (HO34.out.below HB5.out (Nat.le_refl _))
  have HO45 := Lib.hid (HO4.out.below HB5.out (Nat.le_refl _))
  have HW5 := Lib.hid (HW4.out.trans (HB5.out.mono HW4.out.size))
  clear KA4 KW4 KX4 HO34 HO4 HW4 HB5
  -- they say the same
  refine (eqBinary_any _ _ _ HO55.out.read HO35.out.read HLN5.out (HA5.out.trans HA3.out.symm)).mono ?_
  rintro e w6 ⟨rfl, hB6⟩
  have hok : (ok != ok) = false := by simp
  have KA := Lib.hid (KA5.out.keep hB6 KA5.out.1)
  have KW := Lib.hid (KW5.out.keep hB6 KW5.out.1)
  have KX := Lib.hid (KX5.out.keep hB6 KX5.out.1)
  have KG := Lib.hid (KG5.out.keep hB6 KG5.out.1)
  have HO36 := Lib.hid (HO35.out.below hB6 (Nat.le_refl _))
  have HO46 := Lib.hid (HO45.out.below hB6 (Nat.le_refl _))
  have HO56 := Lib.hid (HO55.out.below hB6 (Nat.le_refl _))
  have HW6 := Lib.hid (HW5.out.trans (hB6.mono HW5.out.size))
  have HR6 := Lib.hid ((HX.out.keep HW6.out).more HW6.out.size)
  clear hB6 KA5 KW5 KX5 KG5 HO35 HO45 HO55 HW5
  obtain ⟨_, x0, x1, x2⟩ := KX.out
  obtain ⟨_, a0, a1, a2⟩ := KA.out
  go_wp2_with fail
  go_region_held3 (fun w' => w'.cell? ⟨w4.heap.size, 0, none⟩ = some (.int .i64 n) ∧ w'.cell? ⟨w4.heap.size, 1, none⟩ = some (.int .i64 t) ∧ w'.cell? ⟨w4.heap.size, 2, none⟩ = some (.slice A4 rs4.length c4) ∧ w'.cell? ⟨w.heap.size, 0, none⟩ = some (.int .i64 n) ∧ w'.cell? ⟨w.heap.size, 1, none⟩ = some (.int .i64 t) ∧ w'.cell? ⟨w.heap.size, 2, none⟩ = some (.slice A rs.length c))
    (first | exact ⟨v0, v1, v2, u0, u1, u2⟩ | exact ⟨y0, y1, y2, z0, z1, z2⟩ | exact ⟨x0, x1, x2, a0, a1, a2⟩)
    (first
    | (go_at_call 30
       refine (toGrammarC_any _ _ _ _ _ _ ?_ hlen HLN.out).mono ?_
       · exact HR6.out.keep (by go_grown)
       rintro e w7 ⟨A7, c7, rs7, rfl, hcap7, hO7, ha7, _, hB7'⟩
       have hB7 : Below w6.heap.size w6 w7 := Below.trans (by go_grown) hB7'
       obtain ⟨_, y0, y1, y2⟩ := KX.out.keep hB7 KX.out.1
       obtain ⟨_, z0, z1, z2⟩ := KA.out.keep hB7 KA.out.1
       have HO7 := Lib.hid hO7
       have HA7 := Lib.hid ha7
       have HB7 := Lib.hid hB7
       clear hO7 ha7 hB7 hB7')
    | (go_at_call 33
       refine (eqGrammar_any _ _ _ _ _ _ _ _ _ _ _ ?_ ?_ hlen4 HLN4.out).mono ?_
       · exact (HO46.out.rls.keep HB7.out).more HB7.out.size
       · exact HO7.out.rls
       rintro e w8 ⟨rfl, hB8'⟩
       rw [eqG_t (HA4.out.trans HA7.out.symm)]
       have hB8 : Below w6.heap.size w6 w8 := HB7.out.trans (hB8'.mono HB7.out.size)
       obtain ⟨_, v0, v1, v2⟩ := KX.out.keep hB8 KX.out.1
       obtain ⟨_, u0, u1, u2⟩ := KA.out.keep hB8 KA.out.1
       have HB8 := Lib.hid hB8
       clear hB8 hB8'))
  rename_i hHeld
  clear hHeld x0 x1 x2 a0 a1 a2 y0 y1 y2 z0 z1 z2 u0 u1 u2
  have HW8 := Lib.hid (HW6.out.trans (HB8.out.mono HW6.out.size))
  have HO38 := Lib.hid (HO36.out.below HB8.out (Nat.le_refl _))
  have HO48 := Lib.hid (HO46.out.below HB8.out (Nat.le_refl _))
  have HO58 := Lib.hid (HO56.out.below HB8.out (Nat.le_refl _))
  have KA8 := Lib.hid (KA.out.keep HB8.out KA.out.1)
  have KW8 := Lib.hid (KW.out.keep HB8.out KW.out.1)
  have KG8 := Lib.hid (KG.out.keep HB8.out KG.out.1)
  clear HO36 HO46 HO56 KA KW KX KG HW6 HR6 HB8 HO7 HA7 HB7
  -- the argument is marked
  go_wp2_with fail
  refine (markGrammar_any _ _ _ _ _ _ _ _ HO48.out hlen4 HLN4.out (by omega) (by omega)).mono ?_
  rintro e w9 ⟨rfl, _, hS9⟩
  have HB9 : Hid (Below (w.heap.size + 1) w8 w9) := hS9.below (by have := KA8.out.1; omega) fun i hi hI => by have := (HI4.out i hI).1; have := HS3.out; have := HSV.out; omega
  have HW9 := Lib.hid (HW8.out.trans (HB9.out.mono (by omega)))
  have KA9 := Lib.hid (KA8.out.keep HB9.out (by omega))
  have KW9 := Lib.hid (KW8.out.save hS9 fun hI => by have := (HI4.out _ hI).1; have := HSV.out; omega)
  have KG9 := Lib.hid (KG8.out.save hS9 fun hI => by have := (HI4.out _ hI).2; have := HS5.out; have := HS4'.out; omega)
  have HO39 := Lib.hid (HO38.out.kept hS9 fun b hb hI => by have := (HI3.out b hb).2; have := (HI4.out b hI).1; have := HSV.out; omega)
  have HO59 := Lib.hid (HO58.out.kept hS9 fun b hb hI => by have := (HI5.out b hb).1; have := (HI4.out b hI).2; have := HS4'.out; omega)
  have hcn : cntTo rs4 rs4.length ≤ rs4.length * 1048577 := cntTo_le HLN4.out _
  clear v0 v1 v2 hS9 HO48 HO38 HO58 KA8 KW8 KG8 HW8
  obtain ⟨_, p0, p1, p2, p3, p4, p5⟩ := KG9.out
  obtain ⟨_, q0, q1, q2, q3, q4, q5⟩ := KW9.out
  go_wp2_with fail
  refine (eqBinary_any _ _ _ HO59.out.read HO39.out.read HLN5.out (HA5.out.trans HA3.out.symm)).mono ?_
  rintro e w10 ⟨rfl, hB10⟩
  have HW10 := Lib.hid (HW9.out.trans (hB10.mono HW9.out.size))
  have KA10 := Lib.hid (KA9.out.keep hB10 KA9.out.1)
  have KW10 := Lib.hid (KW9.out.keep hB10 KW9.out.1)
  have KG10 := Lib.hid (KG9.out.keep hB10 KG9.out.1)
  have HO310 := Lib.hid (HO39.out.below hB10 (Nat.le_refl _))
  have HO510 := Lib.hid (HO59.out.below hB10 (Nat.le_refl _))
  clear hB10 HW9 KA9 KW9 KG9 HO39 HO59 HB9 p0 p1 p2 p3 p4 p5 q0 q1 q2 q3 q4 q5
  obtain ⟨_, p0, p1, p2, p3, p4, p5⟩ := KG10.out
  -- the answer is marked, and found again
  go_wp2_with fail
  refine (markBinary_any _ _ _ _ HO510.out HP5.out HLN5.out (by omega) (by omega)).mono ?_
  rintro e w11 ⟨rfl, hO11, hS11⟩
  have HB11 : Hid (Below (w.heap.size + 1) w10 w11) := hS11.below (by have := KA10.out.1; omega) fun i hi hI => by have := (HI5.out i hI).1; have := HS3.out; have := HSV.out; have := HS4.out; have := HS4'.out; omega
  have HW11 := Lib.hid (HW10.out.trans (HB11.out.mono (by omega)))
  have KA11 := Lib.hid (KA10.out.keep HB11.out (by omega))
  have KW11 := Lib.hid (KW10.out.save hS11 fun hI => by have := (HI5.out _ hI).1; have := HSV.out; have := HS4.out; have := HS4'.out; omega)
  have KG11 := Lib.hid (KG10.out.save hS11 fun hI => by have := (HI5.out _ hI).2; omega)
  have HO311 := Lib.hid (HO310.out.kept hS11 fun b hb hI => by have := (HI3.out b hb).2; have := (HI5.out b hI).1; have := HSV.out; have := HS4.out; have := HS4'.out; omega)
  have HO511 := Lib.hid hO11
  clear hO11 hS11 HW10 KA10 KW10 KG10 HO310 HO510 HB11 p0 p1 p2 p3 p4 p5
  obtain ⟨_, p0, p1, p2, p3, p4, p5⟩ := KG11.out
  go_wp2_with fail
  refine (heldBinary_any _ _ _ HO511.out.read HLN5.out (by omega) (by omega)).mono ?_
  rintro e w12 ⟨rfl, hB12⟩
  have hne : ((1 + (cntBi b5 : Int)) != (1 + (cntBi b5 : Int))) = false := by simp
  have HW12 := Lib.hid (HW11.out.trans (hB12.mono HW11.out.size))
  have KA12 := Lib.hid (KA11.out.keep hB12 KA11.out.1)
  have KW12 := Lib.hid (KW11.out.keep hB12 KW11.out.1)
  have KG12 := Lib.hid (KG11.out.keep hB12 KG11.out.1)
  have HO312 := Lib.hid (HO311.out.below hB12 (Nat.le_refl _))
  have HO512 := Lib.hid (HO511.out.below hB12 (Nat.le_refl _))
  have HR12 := Lib.hid ((HX.out.keep HW12.out).more HW12.out.size)
  clear hB12 HW11 KA11 KW11 KG11 HO311 HO511 p0 p1 p2 p3 p4 p5
  obtain ⟨_, a0, a1, a2⟩ := KA12.out
  -- the program once more
  go_wp2_with fail
  refine (toGrammarC_any _ _ _ _ _ _ HR12.out hlen HLN.out).mono ?_
  rintro e w13 ⟨A13, c13, rs13, rfl, hcap13, hO13, ha13, hcp13, hB13⟩
  have HCP13 := Lib.hid hcp13; clear hcp13
  have HA13 := Lib.hid ha13; clear ha13
  have HO13 := Lib.hid hO13; clear hO13
  have HB13 := Lib.hid hB13; clear hB13
  have HW13 := Lib.hid (HW12.out.trans (HB13.out.mono HW12.out.size))
  clear a0 a1 a2
  go_wp2_with fail
  refine (HIMP.out _ _ _ _ HO13.out.rls (HL.out.keep HW13.out (Nat.le_refl _)) hcap13 HCP13.out HA13.out).mono ?_
  rintro e w14 ⟨b14, rfl, ha14, hO14, hLB14, _, hB14⟩
  have HB14 := Lib.hid (HB13.out.trans (hB14.mono HB13.out.size)); clear hB14
  have HA14 := Lib.hid ha14; clear ha14
  have HLN14 := Lib.hid hLB14; clear hLB14
  obtain ⟨_, q0, q1, q2, q3, q4, q5⟩ := KW12.out.keep HB14.out KW12.out.1
  go_wp2_with fail
  have hBN := below_new w14 (.cells #[.int .i64 b14.n, .int .i64 b14.t, .slice b14.Ap b14.P.length b14.cp, .slice b14.Ao b14.O.length b14.co, .slice b14.Ae b14.E.length b14.ce, .slice b14.Af b14.F.length b14.cf] 41)
  have hKN := Box6.new w14 b14 41
  generalize (w14.alloc (.cells #[.int .i64 b14.n, .int .i64 b14.t, .slice b14.Ap b14.P.length b14.cp, .slice b14.Ao b14.O.length b14.co, .slice b14.Ae b14.E.length b14.ce, .slice b14.Af b14.F.length b14.cf] 41)) = V14 at hBN hKN ⊢
  clear q0 q1 q2 q3 q4 q5 hKN
  have HB15 := Lib.hid (HB14.out.trans (hBN.mono HB14.out.size))
  have HO15 := Lib.hid (hO14.below hBN (Nat.le_refl _)); clear hO14 hBN
  have KG15 := Lib.hid (KG12.out.keep HB15.out KG12.out.1)
  have HO315 := Lib.hid (HO312.out.below HB15.out (Nat.le_refl _))
  have HO515 := Lib.hid (HO512.out.below HB15.out (Nat.le_refl _))
  have HW15 := Lib.hid (HW12.out.trans (HB15.out.mono HW12.out.size))
  clear KA12 KW12 KG12 HO312 HO512 HW12 HW13 HB13 HB14 HB15 HO13
  refine (eqBinary_any _ _ _ HO15.out.read HO315.out.read HLN14.out (HA14.out.trans HA3.out.symm)).mono ?_
  rintro e w16 ⟨rfl, hB16⟩
  have KG16 := Lib.hid (KG15.out.keep hB16 KG15.out.1)
  have HO516 := Lib.hid (HO515.out.below hB16 (Nat.le_refl _))
  have HW16 := Lib.hid (HW15.out.trans (hB16.mono HW15.out.size))
  clear hB16 KG15 HO515 HW15 HO315 HO15
  obtain ⟨_, p0, p1, p2, p3, p4, p5⟩ := KG16.out
  go_wp2_with fail
  refine (heldBinary_any _ _ _ HO516.out.read HLN5.out (by omega) (by omega)).mono ?_
  rintro e w17 ⟨rfl, hB17⟩
  have HW17 := Lib.hid (HW16.out.trans (hB17.mono HW16.out.size))
  clear hB17 p0 p1 p2 p3 p4 p5
  go_wp2
  go_ret
  exact ⟨rfl, HW17.out⟩

end Go.Proofs.YtaobkanliiiapaaDoor

/- The law of BinaryOf holds of every grammar that can be read: the call returns true, and what was handed in reads afterwards as it read before. Conditions: the package's table of limits is as the program's text lays it (tied by the given tie). -/

namespace Go.Proofs.YtaobkanliiiapaaDoor
open Go.ChangeShapes Go.WideShapes Go.ChangeAt Go.RowKit

set_option maxRecDepth 100000 in
theorem binaryOf_lifted (os : Os) (started : os.Started) (H : Type) (enc : TypeId × Value → H) :
    ReturnsInHanded {} Tryd.checked os 4 .any (fun w args => (Rows.fnExactBinaryOfSpec.pre enc Tryd.prog Tryd.f4 [] false w args ∧ laidMetH Tryd.prog laid1 w) ∧ sizedMet enc Tryd.prog Tryd.f4 (OpenSpec.ofChange Rows.fnExactBinaryOfSpec) false w args)
      (Rows.fnExactBinaryOfSpec.post enc Tryd.prog Tryd.f4 false true false false) := by
  refine returnsInHanded_of_change_and (C := Tryd.checked) (X := fun w _ => laidMetH Tryd.prog laid1 w) (fun _ _ _ hh h => h.of_heap hh) Tryd.own started (by kernel_rfl) Tryd.func4
    (ChangeSpec.witness_shaped (enc := enc) (C := Tryd.checked) (os := os) (X := fun w _ => laidMetH Tryd.prog laid1 w) false (World.doorLaid Tryd.prog 400 os) #[.agg #[.int .i64 0, .int .i64 0, .slice none 0 0]] 8 rfl (World.shaped_of_RefB (by kernel_rfl) (by kernel_rfl)) (by kernel_rfl) (by kernel_rfl) (by kernel_rfl) (door_met os _)) ?_
  intro W base args ds gs before hval0 hW _ _ hL _
  have hval : ∀ (j : Nat) t v, Tryd.f4.params[j]? = some t → args[j]? = some v → Value.okWide Tryd.prog W .any base t v := hval0
  have hW' := hW
  obtain ⟨p, q, hA0, hV0, rfl, hfz, hnd⟩ := hW
  have hA : DataW.TrodAll enc Tryd.prog W 0 (fun _ => true) true Tryd.f4.params.toList args.toList ds p := hA0
  have hV : DataW.TrodVars enc Tryd.prog W (fun _ => true) ["loop.example/g00758/impl.limits"] gs q := hV0
  rw [Tryd.params4] at hA hval
  obtain ⟨v0, d0, rfl, rfl, h0⟩ := trodAll_one hA
  obtain ⟨g, tg, cs, fuel, dg, pg, rfl, _⟩ := trodVars_one hV
  obtain ⟨n, t, A, rs, c, rfl, _, hR, hlen, hlens, hF, _, _⟩ := open_grammar (hval 0 48 v0 rfl rfl) h0
  refine (law_BinaryOf n t A c rs W hR (lims_of_laid hL) hlen hlens hF).mono fun e W' ⟨he, hb⟩ => ?_
  subst he
  exact ⟨_, rfl, ends_one hW' Tryd.params4 rfl rfl (by kernel_rfl) (of_decide_eq_true (by kernel_rfl)) (by kernel_rfl) hb⟩

theorem binaryOf_holds : Rows.FnExactBinaryOfSaid :=
  OpenClaim.holds_of_wide 4 Tryd.f4 rfl rfl rfl rfl rfl rfl rfl ⟨rfl, rfl, rfl, rfl, rfl⟩ rfl rfl rfl rfl rfl (by kernel_rfl) Tryd.func4 (by kernel_rfl)
    (of_decide_eq_true (by kernel_rfl)) (by unfold Func.isWrapper; first | (rw [if_pos (by decide +kernel)]; kernel_rfl) | (rw [if_neg (by decide +kernel)]; exact ⟨rfl, rfl⟩))
    (fun os started H enc _ => binaryOf_lifted os started H enc)

theorem binaryOf_card : Rows.FnExactBinaryOfCardSaid :=
  Claim7.holds_tied_plain_at .later [] [.data] true (true, "0ddedf4d80d5d8f2e345429263da6b8cad2651b6835fb3eaec4afe850fb80d0b") false
    binaryOf_holds (fun _ h => by cases h) (by kernel_rfl) (fun _ h => by cases h) fnExactBinaryOf_row_tie rfl ⟨rfl, rfl⟩ (by kernel_rfl) rfl
    (fun f fn hf hfn => by
      obtain rfl : f = 4 := Option.some.inj ((show Tryd.prog.funcNamed "loop.example/g00758/laws.FnExactBinaryOf" = some 4 by kernel_rfl).symm.trans hf) |>.symm
      obtain rfl : fn = Tryd.f4 := (Option.some.inj (Tryd.func4.symm.trans hfn)).symm
      exact ⟨by kernel_rfl, fun j t ht => by
        rw [Tryd.params4] at ht
        have hm : t ∈ [48] := by simpa using Array.mem_of_getElem? ht
        have hall : ([48].all fun u => !Tryd.prog.wantsStandIn u) = true := by kernel_rfl
        exact (show Tryd.prog.wantsStandIn t = false by simpa using List.all_eq_true.1 hall t hm)⟩)
    (by kernel_rfl)

#print axioms binaryOf_card
end Go.Proofs.YtaobkanliiiapaaDoor
