/- The law of RewritesTo: its walk. -/
import Derived.Test.YtkghblgiojidgaaDoorBase
import Derived.Test.YtkghblgiojidgaaDoorIts
import Derived.Test.YtkghblgiojidgaaDoorMark2
import Derived.Test.YtkghblgiojidgaaDoorRewS
import Derived.Deep.RegionHeld3
namespace Go.Proofs.YtkghblgiojidgaaDoor
open Go.RowKit

theorem GaveO.ib {w w' : World} {o : Option (List Int)} {e : Ending} (h : GaveO w o e w') : GaveIB w (o.getD []) o.isSome e w' := by
  obtain ⟨A, ys, c, b, rfl, rfl, rfl, h1, _, h2⟩ := h
  exact ⟨A, c, rfl, h1, h2⟩
theorem rew_len {ss : List (Int × List Int)} {us f : List Int} {o : Option (List Int)} (h : Rew ss us f o) (hf : f.length ≤ 40) : (o.getD []).length ≤ 40 := by
  induction h with
  | done f => exact hf
  | stop r rs f h => simp
  | fail r rs f i h h2 => simp
  | step r rs f f' i o h1 h2 h3 ih => exact ih (stepV_len h2)
theorem qr_len {n t : Int} {ss : List (Int × List Int)} {us : List Int} {o : Option (List Int)} (h : QR n t ss us o) : (o.getD []).length ≤ 40 := by
  by_cases e : goodG n t ss = true ∧ us.length ≤ 60
  · exact rew_len (h.1 e) (by simp)
  · rw [h.2 e]; simp

set_option maxHeartbeats 1000000 in
theorem law_RewritesTo (n t : Int) (A B : Option Addr) (c d : Nat) (rs : List Ru) (xs : List Int) (w : World) (hx : Rls w w.heap.size A rs) (hy : Ints w w.heap.size B xs) (hm : xs.length ≤ maxLen) (hL : Lims w) (hn : rs.length ≤ maxLen) (hu : ∀ u ∈ rs, u.r.length ≤ maxLen) (hf : FitR rs) :
    Calls Tryd.prog 10 #[.agg #[.int .i64 n, .int .i64 t, .slice A rs.length c], .slice B xs.length d] w (LawEnds w) := by
  have HX := Lib.hid hx; clear hx
  have HL := Lib.hid hL; clear hL
  have HY := Lib.hid hy; clear hy
  unfold maxLen at hm
  by_cases hbig : (1048576 : Int) < (xs.length : Int)
  · go_enter Tryd.func10, Tryd.ntmps10
    go_wp2
    go_ret
    exact ⟨rfl, by go_grown⟩
  have hxl : xs.length ≤ 1048576 := by omega
  have HN := Lib.hid hn; clear hn
  have HU := Lib.hid hu; clear hu
  have HF := Lib.hid hf; clear hf
  go_enter Tryd.func10, Tryd.ntmps10
  go_wp2_with fail
  have hBA : Below w.heap.size w (w.alloc (.cells #[.int .i64 n, .int .i64 t, .slice A rs.length c] 24)) := by go_grown
  have B0 : Box3 (w.alloc (.cells #[.int .i64 n, .int .i64 t, .slice A rs.length c] 24)) w.heap.size (.int .i64 n) (.int .i64 t) (.slice A rs.length c) := ⟨by simp, by simp [go_sem], by simp [go_sem], by simp [go_sem]⟩
  generalize (w.alloc (.cells #[.int .i64 n, .int .i64 t, .slice A rs.length c] 24)) = W at hBA B0 ⊢
  have HBA := Lib.hid hBA; clear hBA
  have HB0 := Lib.hid B0; clear B0
  refine (szGrammar_any _ _ _ _ _ _ _ ((HX.out.keep HBA.out).more HBA.out.size) HN.out HU.out (by omega) (by omega)).mono ?_
  rintro e w1 ⟨rfl, hB1⟩
  have HB1 := Lib.hid hB1; clear hB1
  by_cases hneg : szRs rs 1048576 < 0
  · go_wp2
    go_ret
    exact ⟨rfl, HBA.out.trans (HB1.out.mono HBA.out.size)⟩
  obtain ⟨hlen0, hlens0⟩ := szRs_bound (L := 1048576) (by omega) (by omega : 0 ≤ szRs rs 1048576)
  have hlen : rs.length ≤ 1048576 := by omega
  have HLN : Hid (∀ u ∈ rs, u.r.length ≤ 1048576) := fun u hu => by have := hlens0 u hu; omega
  clear hlen0 hlens0 hbig
  have HW1 := Lib.hid (HBA.out.trans (HB1.out.mono HBA.out.size))
  have KA1 := Lib.hid (HB0.out.keep HB1.out HB0.out.1)
  have HR1 := Lib.hid ((HX.out.keep HW1.out).more HW1.out.size)
  obtain ⟨_, a0, a1, a2⟩ := KA1.out
  clear HB1 HB0 HBA
  -- the reference's answer
  go_wp2_with fail
  refine (toGrammar_any _ _ _ _ _ _ HR1.out hlen HLN.out).mono ?_
  rintro e w2 ⟨A2, c2, rs2, rfl, hcap2, hO2, ha2, hB2⟩
  have hl2 := abs_len ha2
  have hlen2 : rs2.length ≤ 1048576 := by omega
  have HLN2 := Lib.hid (abs_lens ha2 HLN.out)
  have HO2 := Lib.hid hO2; clear hO2
  have HA2 := Lib.hid ha2; clear ha2
  have HW2 := Lib.hid (HW1.out.trans (hB2.mono HW1.out.size))
  have HB2 := Lib.hid hB2; clear hB2
  clear hl2
  go_wp2_with fail
  refine (toIntS_any _ _ _ _ ((HY.out.keep HW2.out).more HW2.out.size) hxl).mono ?_
  rintro e w2a ⟨B2, d2, rfl, hd2, hP2, hB2a⟩
  have HO2a := Lib.hid (HO2.out.below hB2a (Nat.le_refl _))
  have HP2 := Lib.hid hP2; clear hP2
  have HB2a := Lib.hid (HB2.out.trans (hB2a.mono HB2.out.size)); clear hB2a
  go_wp2_with fail
  refine (specRewrites_any _ _ _ _ _ _ _ _ _ HO2a.out.rls HP2.out.ints hcap2 hlen2 HLN2.out hxl).mono ?_
  rw [HA2.out]
  rintro e w3 ⟨oo, hQ, hh⟩
  replace hh := hh.ib
  have hyl : (oo.getD []).length ≤ 1048576 := by have := qr_len hQ; omega
  have HIMP : Hid (∀ (A' : Option Addr) (c' : Nat) (rs' : List Ru) (B' : Option Addr) (d' : Nat) (v : World), Rls v v.heap.size A' rs' → Ints v v.heap.size B' xs → xs.length ≤ d' → Lims v → rs'.length ≤ c' → rs'.map Ru.abs = rs.map Ru.abs →
      Calls Tryd.prog 38 #[.agg #[.int .i64 n, .int .i64 t, .slice A' rs'.length c'], .slice B' xs.length d'] v (GaveIB v (oo.getD []) oo.isSome)) := fun A' c' rs' B' d' v h1 h1' h1'' h2 h3 h4 => by
    have h5 := abs_len h4
    have h6 := implRewrites_any n t A' c' rs' B' d' xs v h1 h1' h2 h3 (by omega) (abs_lens h4 HLN.out) (abs_fit h4 HF.out) hxl
    rw [h4] at h6
    refine h6.mono fun e w' h => ?_
    obtain ⟨o', hQ', h7⟩ := h
    rw [hQ'.unique hQ] at h7
    exact h7.ib
  clear hQ
  generalize oo.getD [] = ys at hyl HIMP hh
  generalize oo.isSome = ok at HIMP hh
  obtain ⟨A3, c3, rfl, hO3, hB3⟩ := hh
  have HB3 := Lib.hid (HB2a.out.trans (hB3.mono HB2a.out.size)); clear hB3
  have HO3 := Lib.hid hO3; clear hO3
  have HI3 : Hid (∀ b, Its A3 ys b → w.heap.size + 1 ≤ b ∧ b < w3.heap.size) := fun b hb => ⟨by have := (HO3.out.its hb).1; have := HB2a.out.size; have := KA1.out.1; omega, (HO3.out.its hb).2⟩
  clear a0 a1 a2 HO2 HA2 HLN2 hlen2 hcap2 HO2a HP2 hd2
  have KA3 := Lib.hid (KA1.out.keep HB3.out KA1.out.1)
  have HW3 := Lib.hid (HW1.out.trans (HB3.out.mono HW1.out.size))
  have HR3 := Lib.hid ((HX.out.keep HW3.out).more HW3.out.size)
  have HWS3 : Hid (w.heap.size + 1 ≤ w3.heap.size) := KA3.out.1
  clear KA1 HR1 HW1 HB3 HB2 HB2a HW2
  obtain ⟨_, a0, a1, a2⟩ := KA3.out
  -- the program's argument, a copy
  go_wp2_with fail
  refine (toGrammar_any _ _ _ _ _ _ HR3.out hlen HLN.out).mono ?_
  rintro e w4 ⟨A4, c4, rs4, rfl, hcap4, hO4, ha4, hB4⟩
  have hl4 := abs_len ha4
  have hlen4 : rs4.length ≤ 1048576 := by omega
  have HLN4 := Lib.hid (abs_lens ha4 HLN.out)
  have HA4 := Lib.hid ha4; clear ha4
  have HI4 : Hid (∀ b, ItsR A4 rs4 b → w3.heap.size ≤ b ∧ b < w4.heap.size) := fun b hb => hO4.its hb
  have HS4 := Lib.hid hB4.size
  clear hl4 a0 a1 a2
  go_wp2_with fail
  have hBX : Below w4.heap.size w4 (w4.alloc (.cells #[.int .i64 n, .int .i64 t, .slice A4 rs4.length c4] 30)) := by go_grown
  have B4 : Box3 (w4.alloc (.cells #[.int .i64 n, .int .i64 t, .slice A4 rs4.length c4] 30)) w4.heap.size (.int .i64 n) (.int .i64 t) (.slice A4 rs4.length c4) := ⟨by simp, by simp [go_sem], by simp [go_sem], by simp [go_sem]⟩
  generalize (w4.alloc (.cells #[.int .i64 n, .int .i64 t, .slice A4 rs4.length c4] 30)) = X at hBX B4 ⊢
  have HOX := Lib.hid (hO4.below hBX (Nat.le_refl _)); clear hO4
  have HSX := Lib.hid hBX.size
  have HBX := Lib.hid (hB4.trans (hBX.mono hB4.size)); clear hBX hB4
  have HB4 := Lib.hid B4; clear B4
  have HWX := Lib.hid (HW3.out.trans (HBX.out.mono HW3.out.size))
  have HO3X := Lib.hid (HO3.out.below HBX.out (Nat.le_refl _))
  have KAX := Lib.hid (KA3.out.keep HBX.out KA3.out.1)
  clear HO3 KA3 HW3 HR3
  refine (toIntS_any _ _ _ _ ((HY.out.keep HWX.out).more HWX.out.size) hxl).mono ?_
  rintro e Z ⟨B5, d5, rfl, hd5, hP5, hBZ⟩
  have HOZ := Lib.hid (HOX.out.below hBZ (Nat.le_refl _))
  have HB4Z := Lib.hid (HB4.out.keep hBZ HB4.out.1)
  have HWZ := Lib.hid (HWX.out.trans (hBZ.mono HWX.out.size))
  have HO3Z := Lib.hid (HO3X.out.below hBZ (Nat.le_refl _))
  have KAZ := Lib.hid (KAX.out.keep hBZ KAX.out.1)
  have HIP : Hid (∀ b, Its B5 xs b → X.heap.size ≤ b ∧ b < Z.heap.size) := fun b hb => hP5.its hb
  have HPZ := Lib.hid hP5
  have HSZ := Lib.hid hBZ.size
  clear hP5 hBZ HOX HB4 HWX HO3X KAX
  obtain ⟨_, zz0, zz1, zz2⟩ := HB4Z.out
  go_wp2_with fail
  -- the program's answer
  refine (HIMP.out _ _ _ _ _ _ HOZ.out.rls HPZ.out.ints hd5 (HL.out.keep HWZ.out (Nat.le_refl _)) hcap4 HA4.out).mono ?_
  rintro e w5 ⟨A5, c5, rfl, hO5, hB5⟩
  clear zz0 zz1 zz2
  have KX5 := Lib.hid (HB4Z.out.keep hB5 HB4Z.out.1)
  have KA5 := Lib.hid (KAZ.out.keep hB5 KAZ.out.1)
  have HO4 := Lib.hid (HOZ.out.below hB5 (Nat.le_refl _))
  have HO3 := Lib.hid (HO3Z.out.below hB5 (Nat.le_refl _))
  have HP5 := Lib.hid (HPZ.out.below hB5 (Nat.le_refl _))
  have HW5 := Lib.hid (HWZ.out.trans (hB5.mono HWZ.out.size))
  have HI5 : Hid (∀ b, Its A5 ys b → w4.heap.size ≤ b) := fun b hb => by have := (hO5.its hb).1; have := HSX.out; have := HSZ.out; omega
  have HI5Z : Hid (∀ b, Its A5 ys b → Z.heap.size ≤ b) := fun b hb => (hO5.its hb).1
  have HO5 := Lib.hid hO5; clear hO5
  clear hB5 HOZ HB4Z HWZ KAZ HO3Z HPZ
  -- they say the same
  go_wp2_with fail
  refine (eqIntS_any _ _ _ _ _ _ _ HO5.out.ints HO3.out.ints hyl).mono ?_
  rintro e w6 ⟨rfl, hB6⟩
  rw [eqL_refl]
  have hok : (ok != ok) = false := by simp
  have KX := Lib.hid (KX5.out.keep hB6 KX5.out.1)
  have KA := Lib.hid (KA5.out.keep hB6 KA5.out.1)
  have HO46 := Lib.hid (HO4.out.below hB6 (Nat.le_refl _))
  have HO36 := Lib.hid (HO3.out.below hB6 (Nat.le_refl _))
  have HO56 := Lib.hid (HO5.out.below hB6 (Nat.le_refl _))
  have HP6 := Lib.hid (HP5.out.below hB6 (Nat.le_refl _))
  have HW6 := Lib.hid (HW5.out.trans (hB6.mono HW5.out.size))
  have HR6 := Lib.hid ((HX.out.keep HW6.out).more HW6.out.size)
  clear hB6 KX5 KA5 HO4 HO3 HO5 HW5 HP5
  obtain ⟨_, x0, x1, x2⟩ := KX.out
  obtain ⟨_, a0, a1, a2⟩ := KA.out
  go_wp2_with fail
  go_region_held3 (fun w' => w'.cell? ⟨w4.heap.size, 0, none⟩ = some (.int .i64 n) ∧ w'.cell? ⟨w4.heap.size, 1, none⟩ = some (.int .i64 t) ∧ w'.cell? ⟨w4.heap.size, 2, none⟩ = some (.slice A4 rs4.length c4) ∧ w'.cell? ⟨w.heap.size, 0, none⟩ = some (.int .i64 n) ∧ w'.cell? ⟨w.heap.size, 1, none⟩ = some (.int .i64 t) ∧ w'.cell? ⟨w.heap.size, 2, none⟩ = some (.slice A rs.length c))
    (first | exact ⟨v0, v1, v2, u0, u1, u2⟩ | exact ⟨y0, y1, y2, z0, z1, z2⟩ | exact ⟨x0, x1, x2, a0, a1, a2⟩)
    (first
    | (go_at_call 14
       refine (toGrammar_any _ _ _ _ _ _ ?_ hlen HLN.out).mono ?_
       · exact HR6.out.keep (by go_grown)
       rintro e w7 ⟨A7, c7, rs7, rfl, hcap7, hO7, ha7, hB7'⟩
       have hB7 : Below w6.heap.size w6 w7 := Below.trans (by go_grown) hB7'
       obtain ⟨_, y0, y1, y2⟩ := KX.out.keep hB7 KX.out.1
       obtain ⟨_, z0, z1, z2⟩ := KA.out.keep hB7 KA.out.1
       have HO7 := Lib.hid hO7
       have HA7 := Lib.hid ha7
       have HB7 := Lib.hid hB7
       clear hO7 ha7 hB7 hB7')
    | (go_at_call 16
       refine (eqGrammar_any _ _ _ _ _ _ _ _ _ _ _ ?_ ?_ hlen4 HLN4.out).mono ?_
       · exact (HO46.out.rls.keep HB7.out).more HB7.out.size
       · exact HO7.out.rls
       rintro e w8 ⟨rfl, hB8'⟩
       rw [eqG_t (HA4.out.trans HA7.out.symm)]
       have hB8 : Below w6.heap.size w6 w8 := HB7.out.trans (hB8'.mono HB7.out.size)
       obtain ⟨_, v0, v1, v2⟩ := KX.out.keep hB8 KX.out.1
       obtain ⟨_, u0, u1, u2⟩ := KA.out.keep hB8 KA.out.1
       have HB8 := Lib.hid hB8
       clear hB8 hB8'))
  rename_i hHeld
  clear hHeld x0 x1 x2 a0 a1 a2 y0 y1 y2 z0 z1 z2 u0 u1 u2
  have HW8 := Lib.hid (HW6.out.trans (HB8.out.mono HW6.out.size))
  have HO48 := Lib.hid (HO46.out.below HB8.out (Nat.le_refl _))
  have HO38 := Lib.hid (HO36.out.below HB8.out (Nat.le_refl _))
  have HO58 := Lib.hid (HO56.out.below HB8.out (Nat.le_refl _))
  have HP8 := Lib.hid (HP6.out.below HB8.out (Nat.le_refl _))
  have KA8 := Lib.hid (KA.out.keep HB8.out KA.out.1)
  have KX8 := Lib.hid (KX.out.keep HB8.out KX.out.1)
  have HS34 : Hid (w.heap.size + 1 ≤ w3.heap.size) := HWS3.out
  clear HO46 HO36 HO56 KX KA HW6 HR6 HB8 HP6 v0 v1 v2
  go_wp2_with fail
  refine (toIntS_any _ _ _ _ ((HY.out.keep HW8.out).more HW8.out.size) hxl).mono ?_
  rintro e w8a ⟨B8, d8, rfl, hd8, hP8a, hB8a⟩
  have HP8a := Lib.hid hP8a; clear hP8a
  have HB8a := Lib.hid hB8a; clear hB8a
  go_wp2_with fail
  refine (eqIntS_any _ _ _ _ _ _ _ ((HP8.out.ints.keep HB8a.out).more HB8a.out.size) HP8a.out.ints hxl).mono ?_
  rintro e w8b ⟨rfl, hB8b⟩
  rw [eqL_refl]
  have HBb := Lib.hid (HB8a.out.trans (hB8b.mono HB8a.out.size)); clear hB8b
  have HO48' := Lib.hid (HO48.out.below HBb.out (Nat.le_refl _))
  have HO38' := Lib.hid (HO38.out.below HBb.out (Nat.le_refl _))
  have HO58' := Lib.hid (HO58.out.below HBb.out (Nat.le_refl _))
  have HP8' := Lib.hid (HP8.out.below HBb.out (Nat.le_refl _))
  have KA8' := Lib.hid (KA8.out.keep HBb.out KA8.out.1)
  obtain ⟨_, v0, v1, v2⟩ := KX8.out.keep HBb.out KX8.out.1
  have HW8' := Lib.hid (HW8.out.trans (HBb.out.mono HW8.out.size))
  clear HO48 HO38 HO58 HP8 KA8 HW8 KX8 HBb HB8a HP8a
  -- the argument is marked
  go_wp2_with fail
  refine (markGrammar_any _ _ _ _ _ _ _ _ HO48'.out hlen4 HLN4.out (by omega) (by omega)).mono ?_
  rintro e w9 ⟨rfl, _, hS9⟩
  have HB9 : Hid (Below (w.heap.size + 1) w8b w9) := hS9.below (by have := KA8'.out.1; omega) fun i hi hI => by have := (HI4.out i hI).1; have := HS34.out; omega
  have HW9 := Lib.hid (HW8'.out.trans (HB9.out.mono (by omega)))
  have KA9 := Lib.hid (KA8'.out.keep HB9.out (by omega))
  have HO39 := Lib.hid (HO38'.out.kept hS9 fun b hb hI => by have := (HI3.out b hb).2; have := (HI4.out b hI).1; omega)
  have HO59 := Lib.hid (HO58'.out.kept hS9 fun b hb hI => by have := HI5.out b hb; have := (HI4.out b hI).2; omega)
  have HP9 := Lib.hid (HP8'.out.kept hS9 fun b hb hI => by have := (HIP.out b hb).1; have := (HI4.out b hI).2; have := HSX.out; omega)
  have hcn : cntTo rs4 rs4.length ≤ rs4.length * 1048577 := cntTo_le HLN4.out _
  clear v0 v1 v2 hS9 HO48' HO38' HO58' KA8' HW8' HP8' HB9
  have hcm : cntTo rs4 rs4.length ≤ 1099512676352 := by
    have h : rs4.length * 1048577 ≤ 1048576 * 1048577 := Nat.mul_le_mul_right _ hlen4
    omega
  go_wp2_with fail
  refine (markIntS_any _ _ _ _ _ _ HP9.out hxl (by omega) (by omega)).mono ?_
  rintro e wm ⟨rfl, _, hSm⟩
  have HBm : Hid (Below (w.heap.size + 1) w9 wm) := hSm.below (by have := KA9.out.1; omega) fun i hi hI => by have := (HIP.out i hI).1; have := HS34.out; have := HSX.out; have := HS4.out; omega
  have HWm := Lib.hid (HW9.out.trans (HBm.out.mono (by omega)))
  have KAm := Lib.hid (KA9.out.keep HBm.out (by omega))
  have HO3m := Lib.hid (HO39.out.kept hSm fun b hb hI => by have := (HI3.out b hb).2; have := (HIP.out b hI).1; have := HSX.out; have := HS4.out; omega)
  have HO5m := Lib.hid (HO59.out.kept hSm fun b hb hI => by have := HI5Z.out b hb; have := (HIP.out b hI).2; omega)
  clear hSm HW9 KA9 HO39 HO59 HBm HP9
  go_wp2_with fail
  refine (eqIntS_any _ _ _ _ _ _ _ HO5m.out.ints HO3m.out.ints hyl).mono ?_
  rintro e w10 ⟨rfl, hB10⟩
  rw [eqL_refl]
  have HW10 := Lib.hid (HWm.out.trans (hB10.mono HWm.out.size))
  have KA10 := Lib.hid (KAm.out.keep hB10 KAm.out.1)
  have HO310 := Lib.hid (HO3m.out.below hB10 (Nat.le_refl _))
  have HO510 := Lib.hid (HO5m.out.below hB10 (Nat.le_refl _))
  clear hB10 HWm KAm HO3m HO5m
  -- the answer is marked, and found again
  go_wp2_with fail
  refine (markIntS_any _ _ _ _ _ _ HO510.out hyl (by omega) (by omega)).mono ?_
  rintro e w11 ⟨rfl, hO11, hS11⟩
  have HB11 : Hid (Below (w.heap.size + 1) w10 w11) := hS11.below (by have := KA10.out.1; omega) fun i hi hI => by have := HI5.out i hI; have := HS34.out; have := HSX.out; have := HS4.out; omega
  have HW11 := Lib.hid (HW10.out.trans (HB11.out.mono (by omega)))
  have KA11 := Lib.hid (KA10.out.keep HB11.out (by omega))
  have HO311 := Lib.hid (HO310.out.kept hS11 fun b hb hI => by have := (HI3.out b hb).2; have := HI5.out b hI; have := HS4.out; omega)
  have HO511 := Lib.hid hO11
  clear hO11 hS11 HW10 KA10 HO310 HO510 HB11
  go_wp2_with fail
  refine (heldIntS_any _ _ _ _ _ HO511.out.ints hyl (by omega) (by omega)).mono ?_
  rintro e w12 ⟨rfl, hB12⟩
  have hne : ((1 + (ys.length : Int)) != (1 + (ys.length : Int))) = false := by simp
  have HW12 := Lib.hid (HW11.out.trans (hB12.mono HW11.out.size))
  have KA12 := Lib.hid (KA11.out.keep hB12 KA11.out.1)
  have HO312 := Lib.hid (HO311.out.below hB12 (Nat.le_refl _))
  have HO512 := Lib.hid (HO511.out.below hB12 (Nat.le_refl _))
  have HR12 := Lib.hid ((HX.out.keep HW12.out).more HW12.out.size)
  obtain ⟨_, a0, a1, a2⟩ := KA12.out
  clear hB12 HW11 KA11 HO311 HO511
  -- the program once more
  go_wp2_with fail
  refine (toGrammar_any _ _ _ _ _ _ HR12.out hlen HLN.out).mono ?_
  rintro e w13 ⟨A13, c13, rs13, rfl, hcap13, hO13, ha13, hB13⟩
  have HA13 := Lib.hid ha13; clear ha13
  have HO13 := Lib.hid hO13; clear hO13
  have HB13 := Lib.hid hB13; clear hB13
  have HW13 := Lib.hid (HW12.out.trans (HB13.out.mono HW12.out.size))
  clear a0 a1 a2
  go_wp2_with fail
  refine (toIntS_any _ _ _ _ ((HY.out.keep HW13.out).more HW13.out.size) hxl).mono ?_
  rintro e w13a ⟨B13, d13, rfl, hd13, hP13, hB13a⟩
  have HO13a := Lib.hid (HO13.out.below hB13a (Nat.le_refl _))
  have HW13a := Lib.hid (HW13.out.trans (hB13a.mono HW13.out.size))
  have HB13a := Lib.hid (HB13.out.trans (hB13a.mono HB13.out.size)); clear hB13a
  have HP13 := Lib.hid hP13; clear hP13
  go_wp2_with fail
  refine (HIMP.out _ _ _ _ _ _ HO13a.out.rls HP13.out.ints hd13 (HL.out.keep HW13a.out (Nat.le_refl _)) hcap13 HA13.out).mono ?_
  rintro e w14 ⟨A14, c14, rfl, hO14, hB14⟩
  have HB14 := Lib.hid (HB13a.out.trans (hB14.mono HB13a.out.size)); clear hB14
  have HO14 := Lib.hid hO14; clear hO14
  have HO314 := Lib.hid (HO312.out.below HB14.out (Nat.le_refl _))
  have HO514 := Lib.hid (HO512.out.below HB14.out (Nat.le_refl _))
  have HW14 := Lib.hid (HW12.out.trans (HB14.out.mono HW12.out.size))
  go_wp2_with fail
  refine (eqIntS_any _ _ _ _ _ _ _ HO14.out.ints HO314.out.ints hyl).mono ?_
  rintro e w15 ⟨rfl, hB15⟩
  rw [eqL_refl]
  have HO515 := Lib.hid (HO514.out.below hB15 (Nat.le_refl _))
  have HW15 := Lib.hid (HW14.out.trans (hB15.mono HW14.out.size))
  clear hB15
  go_wp2_with fail
  refine (heldIntS_any _ _ _ _ _ HO515.out.ints hyl (by omega) (by omega)).mono ?_
  rintro e w16 ⟨rfl, hB16⟩
  have HW16 := Lib.hid (HW15.out.trans (hB16.mono HW15.out.size))
  clear hB16
  go_wp2
  go_ret
  exact ⟨rfl, HW16.out⟩

end Go.Proofs.YtkghblgiojidgaaDoor
