/- The law of CellAt holds of every chart that can be read and every two ints: the call returns true, and what was handed in reads afterwards as it read before. Conditions: the package's table of limits is as the program's text lays it (tied by the given tie). -/
import Derived.Test.YtaobkanliiiapaaDoorC702
import Derived.Test.YtaobkanliiiapaaDoorC703
import Derived.Test.YtaobkanliiiapaaDoorC704
import Derived.Deep.RegionHeld3
import Derived.Test.YtaobkanliiiapaaDoorCards

namespace Go.Proofs.YtaobkanliiiapaaDoor
open Go.RowKit

set_option maxRecDepth 20000 in
set_option maxHeartbeats 2000000 in
theorem law_CellAt (n : Int) (A : Option Addr) (ls : List Li) (c : Nat) (f t : Int) (w : World) (hx : Lls w w.heap.size A ls) (hn : ls.length ≤ maxLen) (hu : ∀ u ∈ ls, u.r.length ≤ maxLen) (_ : FitL (sayL ls)) (_ : F64 n) (_ : F64 f) (_ : F64 t) (hL : Lims w) :
    Calls Tryd.prog 10 #[.agg #[.int .i64 n, .slice A ls.length c], .int .i64 f, .int .i64 t] w (LawEnds w) := by
  have HX := Lib.hid hx; clear hx
  have HL := Lib.hid hL; clear hL
  have HU := Lib.hid hu; clear hu
  go_enter Tryd.func10, Tryd.ntmps10
  go_wp2_with fail
  have hBA : Below w.heap.size w (w.alloc (.cells #[.int .i64 n, .slice A ls.length c] 68)) := by go_grown
  have B0 := BoxC.new w n A ls.length c 68
  generalize (w.alloc (.cells #[.int .i64 n, .slice A ls.length c] 68)) = W at hBA B0 ⊢
  have HBA := Lib.hid hBA; clear hBA
  have HB0 := Lib.hid B0; clear B0
  refine (szChart_any _ _ _ _ _ _ ((HX.out.keep HBA.out).more HBA.out.size) hn HU.out (by omega) (by omega)).mono ?_
  rintro e w1 ⟨rfl, hB1⟩
  have HB1 := Lib.hid hB1; clear hB1
  by_cases hneg : szLs (sayL ls) 1048576 < 0
  · go_wp2
    go_ret
    exact ⟨rfl, HBA.out.trans (HB1.out.mono HBA.out.size)⟩
  obtain ⟨hl0, hu0⟩ := szLs_bound (rs := sayL ls) (L := 1048576) (by omega) (by omega)
  have hlen : ls.length ≤ 1048576 := by rw [sayL_len] at hl0; omega
  have HLN : Hid (∀ u ∈ ls, u.r.length ≤ 1048576) := fun u hu => by have := hu0 _ (sayL_mem hu); omega
  clear hl0 hu0
  have HW1 := Lib.hid (HBA.out.trans (HB1.out.mono HBA.out.size))
  have KA1 := Lib.hid (HB0.out.keep HB1.out HB0.out.1)
  have HR1 := Lib.hid ((HX.out.keep HW1.out).more HW1.out.size)
  obtain ⟨_, a0, a1⟩ := KA1.out
  clear HB1 HB0 HBA
  -- the reference's answer
  go_wp2_with fail
  refine (toChart_any _ _ _ _ _ HR1.out hlen HLN.out).mono ?_
  rintro e w2 ⟨A2, ls2, c2, rfl, ha2, hO2, _, hB2⟩
  have hlen2 := Nat.le_trans (Nat.le_of_eq ((sayL_len' ha2).trans sayL_len)) hlen
  have HLN2 : Hid (∀ u ∈ ls2, u.r.length ≤ 1048576) := say_lens ha2 fun x hx => by obtain ⟨u, hu, rfl⟩ := List.mem_map.1 hx; exact HLN.out u hu
  have HO2 := Lib.hid hO2; clear hO2
  have HA2 := Lib.hid ha2; clear ha2
  have HB2 := Lib.hid hB2; clear hB2
  go_wp2_with fail
  refine (specCellAt_any _ _ _ _ _ _ _ HO2.out.lls hlen2 HLN2.out).mono ?_
  rw [HA2.out]
  have hyl : (atV n (sayL ls) f t).length ≤ 1048576 := by
    unfold atV
    split
    · rename_i h
      have hg := bP_is (Bool.and_eq_true_iff.1 h).1
      obtain ⟨k, b, o, a, cc, hk, hkl, _⟩ := cell_at (HX.out) hg (Bool.and_eq_true_iff.1 h).2
      rw [atC_at hkl hk]
      exact HLN.out _ (List.getElem_mem hkl)
    · simp
  have HIMP : Hid (∀ (A' : Option Addr) (ls' : List Li) (c' : Nat) (v : World), Lls v v.heap.size A' ls' → ls'.length ≤ 1048576 → (∀ u ∈ ls', u.r.length ≤ 1048576) → Lims v → sayL ls' = sayL ls →
      Calls Tryd.prog 22 #[.agg #[.int .i64 n, .slice A' ls'.length c'], .int .i64 f, .int .i64 t] v (GaveIB v (atV n (sayL ls) f t) (okA n (sayL ls) f t))) := fun A' ls' c' v h1 h2 h3 h4 h5 => by
    have h6 := implCellAt_any n f t A' ls' c' v h1 h2 h3 h4
    rw [h5] at h6
    exact h6
  generalize atV n (sayL ls) f t = ys at hyl HIMP ⊢
  generalize okA n (sayL ls) f t = ok at HIMP ⊢
  rintro e w3 ⟨A3, c3, rfl, hO3, hB3⟩
  have HB3 := Lib.hid (HB2.out.trans (hB3.mono HB2.out.size)); clear hB3
  have HO3 := Lib.hid hO3; clear hO3
  have HI3 : Hid (∀ b, Its A3 ys b → w.heap.size + 1 ≤ b ∧ b < w3.heap.size) := fun b hb => ⟨by have := (HO3.out.its hb).1; have := HB2.out.size; have := KA1.out.1; omega, (HO3.out.its hb).2⟩
  clear a0 a1 HO2 HA2 HLN2
  have KA3 := Lib.hid (KA1.out.keep HB3.out KA1.out.1)
  have HW3 := Lib.hid (HW1.out.trans (HB3.out.mono HW1.out.size))
  have HR3 := Lib.hid ((HX.out.keep HW3.out).more HW3.out.size)
  have HWS3 : Hid (w.heap.size + 1 ≤ w3.heap.size) := KA3.out.1
  clear KA1 HR1 HW1 HB3 HB2
  obtain ⟨_, a0, a1⟩ := KA3.out
  -- the program's argument, a copy
  go_wp2_with fail
  refine (toChart_any _ _ _ _ _ HR3.out hlen HLN.out).mono ?_
  rintro e w4 ⟨A4, ls4, c4, rfl, ha4, hO4, _, hB4⟩
  have hlen4 := Nat.le_trans (Nat.le_of_eq ((sayL_len' ha4).trans sayL_len)) hlen
  have HLN4 : Hid (∀ u ∈ ls4, u.r.length ≤ 1048576) := say_lens ha4 fun x hx => by obtain ⟨u, hu, rfl⟩ := List.mem_map.1 hx; exact HLN.out u hu
  have HA4 := Lib.hid ha4; clear ha4
  have HI4 : Hid (∀ b, ItsL A4 ls4 b → w3.heap.size ≤ b ∧ b < w4.heap.size) := fun b hb => hO4.its hb
  have HS4 := Lib.hid hB4.size
  clear a0 a1
  go_wp2_with fail
  have hBX : Below w4.heap.size w4 (w4.alloc (.cells #[.int .i64 n, .slice A4 ls4.length c4] 27)) := by go_grown
  have B4 := BoxC.new w4 n A4 ls4.length c4 27
  generalize (w4.alloc (.cells #[.int .i64 n, .slice A4 ls4.length c4] 27)) = X at hBX B4 ⊢
  have HOX := Lib.hid (hO4.below hBX (Nat.le_refl _)); clear hO4
  have HSX := Lib.hid hBX.size
  have HBX := Lib.hid (hB4.trans (hBX.mono hB4.size)); clear hBX hB4
  have HB4 := Lib.hid B4; clear B4
  have HWX := Lib.hid (HW3.out.trans (HBX.out.mono HW3.out.size))
  have HO3X := Lib.hid (HO3.out.below HBX.out (Nat.le_refl _))
  have KAX := Lib.hid (KA3.out.keep HBX.out KA3.out.1)
  clear HO3 KA3 HW3 HR3
  -- the program's answer
  refine (HIMP.out _ _ _ _ HOX.out.lls hlen4 HLN4.out (HL.out.keep HWX.out (Nat.le_refl _)) HA4.out).mono ?_
  rintro e w5 ⟨A5, c5, rfl, hO5, hB5⟩
  have KX5 := Lib.hid (HB4.out.keep hB5 HB4.out.1)
  have KA5 := Lib.hid (KAX.out.keep hB5 KAX.out.1)
  have HO4 := Lib.hid (HOX.out.below hB5 (Nat.le_refl _))
  have HO3 := Lib.hid (HO3X.out.below hB5 (Nat.le_refl _))
  have HW5 := Lib.hid (HWX.out.trans (hB5.mono HWX.out.size))
  have HI5 : Hid (∀ b, Its A5 ys b → w4.heap.size ≤ b) := fun b hb => by have := (hO5.its hb).1; have := HSX.out; omega
  have HO5 := Lib.hid hO5; clear hO5
  clear hB5 HOX HB4 HWX KAX HO3X
  -- they say the same
  go_wp2_with fail
  refine (eqIntS_any _ _ _ _ _ _ _ HO5.out.ints HO3.out.ints hyl).mono ?_
  rintro e w6 ⟨rfl, hB6⟩
  rw [eqL_refl]
  have hok : (ok != ok) = false := by simp
  have KX := Lib.hid (KX5.out.keep hB6 KX5.out.1)
  have KA := Lib.hid (KA5.out.keep hB6 KA5.out.1)
  have HO46 := Lib.hid (HO4.out.below hB6 (Nat.le_refl _))
  have HO36 := Lib.hid (HO3.out.below hB6 (Nat.le_refl _))
  have HO56 := Lib.hid (HO5.out.below hB6 (Nat.le_refl _))
  have HW6 := Lib.hid (HW5.out.trans (hB6.mono HW5.out.size))
  have HR6 := Lib.hid ((HX.out.keep HW6.out).more HW6.out.size)
  clear hB6 KX5 KA5 HO4 HO3 HO5 HW5
  obtain ⟨_, x0, x1⟩ := KX.out
  obtain ⟨_, a0, a1⟩ := KA.out
  go_wp2_with fail
  go_region_held3 (fun w' => w'.cell? ⟨w4.heap.size, 0, none⟩ = some (.int .i64 n) ∧ w'.cell? ⟨w4.heap.size, 1, none⟩ = some (.slice A4 ls4.length c4) ∧ w'.cell? ⟨w.heap.size, 0, none⟩ = some (.int .i64 n) ∧ w'.cell? ⟨w.heap.size, 1, none⟩ = some (.slice A ls.length c))
    (first | exact ⟨v0, v1, u0, u1⟩ | exact ⟨y0, y1, z0, z1⟩ | exact ⟨x0, x1, a0, a1⟩)
    (first
    | (go_at_call 49
       refine (toChart_any _ _ _ _ _ ?_ hlen HLN.out).mono ?_
       · exact HR6.out.keep (by go_grown)
       rintro e w7 ⟨A7, ls7, c7, rfl, ha7, hO7, _, hB7'⟩
       have hB7 : Below w6.heap.size w6 w7 := Below.trans (by go_grown) hB7'
       obtain ⟨_, y0, y1⟩ := KX.out.keep hB7 KX.out.1
       obtain ⟨_, z0, z1⟩ := KA.out.keep hB7 KA.out.1
       have HO7 := Lib.hid hO7
       have HA7 := Lib.hid ha7
       have HB7 := Lib.hid hB7
       clear hO7 ha7 hB7 hB7')
    | (go_at_call 42
       refine (eqChart_any _ _ _ _ _ _ _ _ _ ?_ ?_ hlen4 HLN4.out rfl (HA4.out.trans HA7.out.symm)).mono ?_
       · exact (HO46.out.lls.keep HB7.out).more HB7.out.size
       · exact HO7.out.lls
       rintro e w8 ⟨rfl, hB8'⟩
       have hB8 : Below w6.heap.size w6 w8 := HB7.out.trans (hB8'.mono HB7.out.size)
       obtain ⟨_, v0, v1⟩ := KX.out.keep hB8 KX.out.1
       obtain ⟨_, u0, u1⟩ := KA.out.keep hB8 KA.out.1
       have HB8 := Lib.hid hB8
       clear hB8 hB8'))
  rename_i hHeld
  clear hHeld x0 x1 a0 a1 y0 y1 z0 z1 u0 u1
  have HW8 := Lib.hid (HW6.out.trans (HB8.out.mono HW6.out.size))
  have HO48 := Lib.hid (HO46.out.below HB8.out (Nat.le_refl _))
  have HO38 := Lib.hid (HO36.out.below HB8.out (Nat.le_refl _))
  have HO58 := Lib.hid (HO56.out.below HB8.out (Nat.le_refl _))
  have KA8 := Lib.hid (KA.out.keep HB8.out KA.out.1)
  have HS34 : Hid (w.heap.size + 1 ≤ w3.heap.size) := HWS3.out
  clear HO46 HO36 HO56 KX KA HW6 HR6 HB8
  -- the argument is marked
  go_wp2_with fail
  refine (markChart_any _ _ _ _ _ _ _ HO48.out hlen4 HLN4.out (by omega) (by omega)).mono ?_
  rintro e w9 ⟨rfl, _, hS9⟩
  have HB9 : Hid (Below (w.heap.size + 1) w8 w9) := hS9.below (by have := KA8.out.1; omega) fun i hi hI => by have := (HI4.out i hI).1; have := HS34.out; omega
  have HW9 := Lib.hid (HW8.out.trans (HB9.out.mono (by omega)))
  have KA9 := Lib.hid (KA8.out.keep HB9.out (by omega))
  have HO39 := Lib.hid (HO38.out.kept hS9 fun b hb hI => by have := (HI3.out b hb).2; have := (HI4.out b hI).1; omega)
  have HO59 := Lib.hid (HO58.out.kept hS9 fun b hb hI => by have := HI5.out b hb; have := (HI4.out b hI).2; omega)
  clear v0 v1 hS9 HO48 HO38 HO58 KA8 HW8
  go_wp2_with fail
  refine (eqIntS_any _ _ _ _ _ _ _ HO59.out.ints HO39.out.ints hyl).mono ?_
  rintro e w10 ⟨rfl, hB10⟩
  rw [eqL_refl]
  have HW10 := Lib.hid (HW9.out.trans (hB10.mono HW9.out.size))
  have KA10 := Lib.hid (KA9.out.keep hB10 KA9.out.1)
  have HO310 := Lib.hid (HO39.out.below hB10 (Nat.le_refl _))
  have HO510 := Lib.hid (HO59.out.below hB10 (Nat.le_refl _))
  clear hB10 HW9 KA9 HO39 HO59 HB9
  -- the answer is marked, and found again
  go_wp2_with fail
  refine (markIntS_any _ _ _ _ _ _ HO510.out hyl (by omega) (by omega)).mono ?_
  rintro e w11 ⟨rfl, hO11, hS11⟩
  have HB11 : Hid (Below (w.heap.size + 1) w10 w11) := hS11.below (by have := KA10.out.1; omega) fun i hi hI => by have := HI5.out i hI; have := HS34.out; have := HSX.out; have := HS4.out; omega
  have HW11 := Lib.hid (HW10.out.trans (HB11.out.mono (by omega)))
  have KA11 := Lib.hid (KA10.out.keep HB11.out (by omega))
  have HO311 := Lib.hid (HO310.out.kept hS11 fun b hb hI => by have := (HI3.out b hb).2; have := HI5.out b hI; have := HS4.out; omega)
  have HO511 := Lib.hid hO11
  clear hO11 hS11 HW10 KA10 HO310 HO510 HB11
  go_wp2_with fail
  refine (heldIntS_any _ _ _ _ _ HO511.out.ints hyl (by omega) (by omega)).mono ?_
  rintro e w12 ⟨rfl, hB12⟩
  have hne : ((1 + (ys.length : Int)) != (1 + (ys.length : Int))) = false := by simp
  have HW12 := Lib.hid (HW11.out.trans (hB12.mono HW11.out.size))
  have KA12 := Lib.hid (KA11.out.keep hB12 KA11.out.1)
  have HO312 := Lib.hid (HO311.out.below hB12 (Nat.le_refl _))
  have HO512 := Lib.hid (HO511.out.below hB12 (Nat.le_refl _))
  have HR12 := Lib.hid ((HX.out.keep HW12.out).more HW12.out.size)
  obtain ⟨_, a0, a1⟩ := KA12.out
  clear hB12 HW11 KA11 HO311 HO511
  -- the program once more
  go_wp2_with fail
  refine (toChart_any _ _ _ _ _ HR12.out hlen HLN.out).mono ?_
  rintro e w13 ⟨A13, ls13, c13, rfl, ha13, hO13, _, hB13⟩
  have hlen13 := Nat.le_trans (Nat.le_of_eq ((sayL_len' ha13).trans sayL_len)) hlen
  have HLN13 : Hid (∀ u ∈ ls13, u.r.length ≤ 1048576) := say_lens ha13 fun x hx => by obtain ⟨u, hu, rfl⟩ := List.mem_map.1 hx; exact HLN.out u hu
  have HA13 := Lib.hid ha13; clear ha13
  have HO13 := Lib.hid hO13; clear hO13
  have HB13 := Lib.hid hB13; clear hB13
  have HW13 := Lib.hid (HW12.out.trans (HB13.out.mono HW12.out.size))
  clear a0 a1
  go_wp2_with fail
  refine (HIMP.out _ _ _ _ HO13.out.lls hlen13 HLN13.out (HL.out.keep HW13.out (Nat.le_refl _)) HA13.out).mono ?_
  rintro e w14 ⟨A14, c14, rfl, hO14, hB14⟩
  have HB14 := Lib.hid (HB13.out.trans (hB14.mono HB13.out.size)); clear hB14
  have HO14 := Lib.hid hO14; clear hO14
  have HO314 := Lib.hid (HO312.out.below HB14.out (Nat.le_refl _))
  have HO514 := Lib.hid (HO512.out.below HB14.out (Nat.le_refl _))
  have HW14 := Lib.hid (HW12.out.trans (HB14.out.mono HW12.out.size))
  go_wp2_with fail
  refine (eqIntS_any _ _ _ _ _ _ _ HO14.out.ints HO314.out.ints hyl).mono ?_
  rintro e w15 ⟨rfl, hB15⟩
  rw [eqL_refl]
  have HO515 := Lib.hid (HO514.out.below hB15 (Nat.le_refl _))
  have HW15 := Lib.hid (HW14.out.trans (hB15.mono HW14.out.size))
  clear hB15
  go_wp2_with fail
  refine (heldIntS_any _ _ _ _ _ HO515.out.ints hyl (by omega) (by omega)).mono ?_
  rintro e w16 ⟨rfl, hB16⟩
  have HW16 := Lib.hid (HW15.out.trans (hB16.mono HW15.out.size))
  clear hB16
  go_wp2
  go_ret
  exact ⟨rfl, HW16.out⟩

end Go.Proofs.YtaobkanliiiapaaDoor

/- The law of CellAt holds of every chart that can be read and every two ints: the call returns true, and what was handed in reads afterwards as it read before. Conditions: the package's table of limits is as the program's text lays it (tied by the given tie). -/

namespace Go.Proofs.YtaobkanliiiapaaDoor
open Go.ChangeShapes Go.WideShapes Go.ChangeAt Go.RowKit

set_option maxRecDepth 100000 in
theorem cellAt_lifted (os : Os) (started : os.Started) (H : Type) (enc : TypeId × Value → H) :
    ReturnsInHanded {} Tryd.checked os 10 .any (fun w args => (Rows.fnExactCellAtSpec.pre enc Tryd.prog Tryd.f10 [] false w args ∧ laidMetH Tryd.prog laid1 w) ∧ sizedMet enc Tryd.prog Tryd.f10 (OpenSpec.ofChange Rows.fnExactCellAtSpec) false w args)
      (Rows.fnExactCellAtSpec.post enc Tryd.prog Tryd.f10 false true false false) := by
  refine returnsInHanded_of_change_and (C := Tryd.checked) (X := fun w _ => laidMetH Tryd.prog laid1 w) (fun _ _ _ hh h => h.of_heap hh) Tryd.own started (by kernel_rfl) Tryd.func10
    (ChangeSpec.witness_shaped (enc := enc) (C := Tryd.checked) (os := os) (X := fun w _ => laidMetH Tryd.prog laid1 w) false (World.doorLaid Tryd.prog 400 os) #[.agg #[.int .i64 0, .slice none 0 0], .int .i64 0, .int .i64 0] 8 rfl (World.shaped_of_RefB (by kernel_rfl) (by kernel_rfl)) (by kernel_rfl) (by kernel_rfl) (by kernel_rfl) (door_met os _)) ?_
  intro W base args ds gs before hval0 hW _ _ hL _
  have hval : ∀ (j : Nat) t v, Tryd.f10.params[j]? = some t → args[j]? = some v → Value.okWide Tryd.prog W .any base t v := hval0
  have hW' := hW
  obtain ⟨p, q, hA0, hV0, rfl, hfz, hnd⟩ := hW
  have hA : DataW.TrodAll enc Tryd.prog W 0 (fun _ => true) true Tryd.f10.params.toList args.toList ds p := hA0
  have hV : DataW.TrodVars enc Tryd.prog W (fun _ => true) ["loop.example/g00758/impl.limits"] gs q := hV0
  rw [Tryd.params10] at hA hval
  obtain ⟨v0, v1, v2, d0, d1, d2, p0, p1, p2, rfl, rfl, rfl, h0, h1, h2⟩ := trodAll_three hA
  obtain ⟨g, tg, cs, fuel, dg, pg, rfl, _⟩ := trodVars_one hV
  obtain ⟨n0, A0, ls0, c0, rfl, _, hR0, hN0, hU0, hF0, hw0⟩ := open_chart (hval 0 68 v0 rfl rfl) h0
  obtain ⟨x1, rfl, rfl, rfl, w1⟩ := open_int Tryd.underlying3 (hval 1 3 v1 rfl rfl) h1
  obtain ⟨x2, rfl, rfl, rfl, w2⟩ := open_int Tryd.underlying3 (hval 2 3 v2 rfl rfl) h2
  refine (law_CellAt n0 A0 ls0 c0 x1 x2 W hR0 hN0 hU0 hF0 hw0 (bounds_i64 w1) (bounds_i64 w2) (lims_of_laid hL)).mono fun e W' ⟨he, hb⟩ => ?_
  subst he
  exact ⟨_, rfl, ends_three hW' Tryd.params10 rfl rfl (by kernel_rfl) (of_decide_eq_true (by kernel_rfl)) (by kernel_rfl) (of_decide_eq_true (by kernel_rfl)) (by kernel_rfl) (of_decide_eq_true (by kernel_rfl)) (by kernel_rfl) hb⟩

theorem cellAt_holds : Rows.FnExactCellAtSaid :=
  OpenClaim.holds_of_wide 10 Tryd.f10 rfl rfl rfl rfl rfl rfl rfl ⟨rfl, rfl, rfl, rfl, rfl⟩ rfl rfl rfl rfl rfl (by kernel_rfl) Tryd.func10 (by kernel_rfl)
    (of_decide_eq_true (by kernel_rfl)) (by unfold Func.isWrapper; first | (rw [if_pos (by decide +kernel)]; kernel_rfl) | (rw [if_neg (by decide +kernel)]; exact ⟨rfl, rfl⟩))
    (fun os started H enc _ => cellAt_lifted os started H enc)

theorem cellAt_card : Rows.FnExactCellAtCardSaid :=
  Claim7.holds_tied_plain_at .later [] [.data] true (true, "0ddedf4d80d5d8f2e345429263da6b8cad2651b6835fb3eaec4afe850fb80d0b") false
    cellAt_holds (fun _ h => by cases h) (by kernel_rfl) (fun _ h => by cases h) fnExactCellAt_row_tie rfl ⟨rfl, rfl⟩ (by kernel_rfl) rfl
    (fun f fn hf hfn => by
      obtain rfl : f = 10 := Option.some.inj ((show Tryd.prog.funcNamed "loop.example/g00758/laws.FnExactCellAt" = some 10 by kernel_rfl).symm.trans hf) |>.symm
      obtain rfl : fn = Tryd.f10 := (Option.some.inj (Tryd.func10.symm.trans hfn)).symm
      exact ⟨by kernel_rfl, fun j t ht => by
        rw [Tryd.params10] at ht
        have hm : t ∈ [68, 3, 3] := by simpa using Array.mem_of_getElem? ht
        have hall : ([68, 3, 3].all fun u => !Tryd.prog.wantsStandIn u) = true := by kernel_rfl
        exact (show Tryd.prog.wantsStandIn t = false by simpa using List.all_eq_true.1 hall t hm)⟩)
    (by kernel_rfl)

#print axioms cellAt_card
end Go.Proofs.YtaobkanliiiapaaDoor
