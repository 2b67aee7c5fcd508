/- The law of PartOf holds of every four ints: the call returns true, and what was handed in reads afterwards as it read before. Conditions: the package's table of limits is as the program's text lays it (tied by the given tie). -/
import Derived.Test.YtfbpcdmpkbjifaaDoorW801
import Derived.Test.YtfbpcdmpkbjifaaDoorW802
import Derived.Test.YtfbpcdmpkbjifaaDoorW804
import Derived.Test.YtfbpcdmpkbjifaaDoorCards

namespace Go.Proofs.YtfbpcdmpkbjifaaDoor
open Go.RowKit

set_option maxHeartbeats 1000000 in
theorem law_PartOf (n hs h l : Int) (w : World) (_ : F64 n) (_ : F64 hs) (_ : F64 h) (_ : F64 l) (hL : Lims w) :
    Calls Tryd.prog 3 #[.int .i64 n, .int .i64 hs, .int .i64 h, .int .i64 l] w (LawEnds w) := by
  have HL := Lib.hid hL; clear hL
  have HS := Lib.hid (specPartOf_any n hs h l w)
  have HI : Hid (∀ v, Lims v → Calls Tryd.prog 13 #[.int .i64 n, .int .i64 hs, .int .i64 h, .int .i64 l] v (GaveIB v (partV n hs h l) (partB n hs h l))) := fun v hv => implPartOf_any n hs h l v hv
  have hyl : (partV n hs h l).length ≤ 1048576 := Nat.le_trans (partV_len _ _ _ _) (by decide)
  generalize partV n hs h l = ys at HS HI hyl
  generalize partB n hs h l = ok at HS HI
  have hok : (ok != ok) = false := by simp
  go_enter Tryd.func3, Tryd.ntmps3
  go_wp2_with fail
  refine HS.out.mono ?_
  rintro e w3 ⟨A3, c3, rfl, hO3, hB3⟩
  have HI3 : Hid (∀ b, Its A3 ys b → b < w3.heap.size) := fun b hb => (hO3.its hb).2
  have HO3 := Lib.hid hO3; clear hO3
  have HW3 := Lib.hid hB3; clear hB3
  go_wp2_with fail
  refine (HI.out w3 (HL.out.keep HW3.out (Nat.le_refl _))).mono ?_
  rintro e w5 ⟨A5, c5, rfl, hO5, hB5⟩
  have HI5 : Hid (∀ b, Its A5 ys b → w3.heap.size ≤ b) := fun b hb => (hO5.its hb).1
  have HO5 := Lib.hid hO5; clear hO5
  have HO35 := Lib.hid (HO3.out.below hB5 (Nat.le_refl _))
  have HW5 := Lib.hid (HW3.out.trans (hB5.mono HW3.out.size))
  have HS35 := Lib.hid HW3.out.size
  clear hB5 HO3 HW3
  -- they say the same
  go_wp2_with fail
  refine (eqIntS_any _ _ _ _ _ _ _ HO5.out.ints HO35.out.ints hyl).mono ?_
  rintro e w6 ⟨rfl, hB6⟩
  rw [eqL_refl]
  have HO56 := Lib.hid (HO5.out.below hB6 (Nat.le_refl _))
  have HO36 := Lib.hid (HO35.out.below hB6 (Nat.le_refl _))
  have HW6 := Lib.hid (HW5.out.trans (hB6.mono HW5.out.size))
  clear hB6 HO5 HO35 HW5
  -- the answer is marked, and found again
  go_wp2_with fail
  refine (markIntS_any _ _ _ _ _ _ HO56.out hyl (by omega) (by omega)).mono ?_
  rintro e w11 ⟨rfl, hO11, hS11⟩
  have HB11 : Hid (Below w.heap.size w6 w11) := hS11.below HW6.out.size fun i hi hI => by have := HI5.out i hI; have := HS35.out; omega
  have HW11 := Lib.hid (HW6.out.trans HB11.out)
  have HO311 := Lib.hid (HO36.out.kept hS11 fun b hb hI => by have := HI3.out b hb; have := HI5.out b hI; omega)
  have HO511 := Lib.hid hO11
  clear hO11 hS11 HW6 HO36 HO56 HB11
  go_wp2_with fail
  refine (heldIntS_any _ _ _ _ _ HO511.out.ints hyl (by omega) (by omega)).mono ?_
  rintro e w12 ⟨rfl, hB12⟩
  have hne : ((1 + (ys.length : Int)) != (1 + (ys.length : Int))) = false := by simp
  have HW12 := Lib.hid (HW11.out.trans (hB12.mono HW11.out.size))
  have HO312 := Lib.hid (HO311.out.below hB12 (Nat.le_refl _))
  have HO512 := Lib.hid (HO511.out.below hB12 (Nat.le_refl _))
  clear hB12 HW11 HO311 HO511
  -- the program once more
  go_wp2_with fail
  refine (HI.out w12 (HL.out.keep HW12.out (Nat.le_refl _))).mono ?_
  rintro e w14 ⟨A14, c14, rfl, hO14, hB14⟩
  have HO14 := Lib.hid hO14; clear hO14
  have HO314 := Lib.hid (HO312.out.below hB14 (Nat.le_refl _))
  have HO514 := Lib.hid (HO512.out.below hB14 (Nat.le_refl _))
  have HW14 := Lib.hid (HW12.out.trans (hB14.mono HW12.out.size))
  clear hB14
  go_wp2_with fail
  refine (eqIntS_any _ _ _ _ _ _ _ HO14.out.ints HO314.out.ints hyl).mono ?_
  rintro e w15 ⟨rfl, hB15⟩
  rw [eqL_refl]
  have HO515 := Lib.hid (HO514.out.below hB15 (Nat.le_refl _))
  have HW15 := Lib.hid (HW14.out.trans (hB15.mono HW14.out.size))
  clear hB15
  go_wp2_with fail
  refine (heldIntS_any _ _ _ _ _ HO515.out.ints hyl (by omega) (by omega)).mono ?_
  rintro e w16 ⟨rfl, hB16⟩
  have HW16 := Lib.hid (HW15.out.trans (hB16.mono HW15.out.size))
  clear hB16
  go_wp2
  go_ret
  exact ⟨rfl, HW16.out⟩

end Go.Proofs.YtfbpcdmpkbjifaaDoor

/- The law of PartOf holds of every four ints: the call returns true, and what was handed in reads afterwards as it read before. Conditions: the package's table of limits is as the program's text lays it (tied by the given tie). -/

namespace Go.Proofs.YtfbpcdmpkbjifaaDoor
open Go.ChangeShapes Go.WideShapes Go.ChangeAt Go.RowKit

set_option maxRecDepth 100000 in
theorem partOf_lifted (os : Os) (started : os.Started) (H : Type) (enc : TypeId × Value → H) :
    ReturnsInHanded {} Tryd.checked os 3 .any (fun w args => (Rows.fnExactPartOfSpec.pre enc Tryd.prog Tryd.f3 [] false w args ∧ laidMetH Tryd.prog laid1 w) ∧ sizedMet enc Tryd.prog Tryd.f3 (OpenSpec.ofChange Rows.fnExactPartOfSpec) false w args)
      (Rows.fnExactPartOfSpec.post enc Tryd.prog Tryd.f3 false true false false) := by
  refine returnsInHanded_of_change_and (C := Tryd.checked) (X := fun w _ => laidMetH Tryd.prog laid1 w) (fun _ _ _ hh h => h.of_heap hh) Tryd.own started (by kernel_rfl) Tryd.func3
    (ChangeSpec.witness_shaped (enc := enc) (C := Tryd.checked) (os := os) (X := fun w _ => laidMetH Tryd.prog laid1 w) false (World.doorLaid Tryd.prog 400 os) #[.int .i64 0, .int .i64 0, .int .i64 0, .int .i64 0] 8 rfl (World.shaped_of_RefB (by kernel_rfl) (by kernel_rfl)) (by kernel_rfl) (by kernel_rfl) (by kernel_rfl) (door_met os _)) ?_
  intro W base args ds gs before hval0 hW _ _ hL _
  have hval : ∀ (j : Nat) t v, Tryd.f3.params[j]? = some t → args[j]? = some v → Value.okWide Tryd.prog W .any base t v := hval0
  have hW' := hW
  obtain ⟨p, q, hA0, hV0, rfl, hfz, hnd⟩ := hW
  have hA : DataW.TrodAll enc Tryd.prog W 0 (fun _ => true) true Tryd.f3.params.toList args.toList ds p := hA0
  have hV : DataW.TrodVars enc Tryd.prog W (fun _ => true) ["loop.example/g00758/impl.limits"] gs q := hV0
  rw [Tryd.params3] at hA hval
  obtain ⟨v0, v1, v2, v3, d0, d1, d2, d3, p0, p1, p2, p3, rfl, rfl, rfl, h0, h1, h2, h3⟩ := trodAll_four hA
  obtain ⟨g, tg, cs, fuel, dg, pg, rfl, _⟩ := trodVars_one hV
  obtain ⟨x0, rfl, rfl, rfl, w0⟩ := open_int Tryd.underlying3 (hval 0 3 v0 rfl rfl) h0
  obtain ⟨x1, rfl, rfl, rfl, w1⟩ := open_int Tryd.underlying3 (hval 1 3 v1 rfl rfl) h1
  obtain ⟨x2, rfl, rfl, rfl, w2⟩ := open_int Tryd.underlying3 (hval 2 3 v2 rfl rfl) h2
  obtain ⟨x3, rfl, rfl, rfl, w3⟩ := open_int Tryd.underlying3 (hval 3 3 v3 rfl rfl) h3
  refine (law_PartOf x0 x1 x2 x3 W (bounds_i64 w0) (bounds_i64 w1) (bounds_i64 w2) (bounds_i64 w3) (lims_of_laid hL)).mono fun e W' ⟨he, hb⟩ => ?_
  subst he
  exact ⟨_, rfl, ends_four hW' Tryd.params3 rfl rfl (by kernel_rfl) (of_decide_eq_true (by kernel_rfl)) (by kernel_rfl) (of_decide_eq_true (by kernel_rfl)) (by kernel_rfl) (of_decide_eq_true (by kernel_rfl)) (by kernel_rfl) (of_decide_eq_true (by kernel_rfl)) (by kernel_rfl) hb⟩

theorem partOf_holds : Rows.FnExactPartOfSaid :=
  OpenClaim.holds_of_wide 3 Tryd.f3 rfl rfl rfl rfl rfl rfl rfl ⟨rfl, rfl, rfl, rfl, rfl⟩ rfl rfl rfl rfl rfl (by kernel_rfl) Tryd.func3 (by kernel_rfl)
    (of_decide_eq_true (by kernel_rfl)) (by unfold Func.isWrapper; first | (rw [if_pos (by decide +kernel)]; kernel_rfl) | (rw [if_neg (by decide +kernel)]; exact ⟨rfl, rfl⟩))
    (fun os started H enc _ => partOf_lifted os started H enc)

theorem partOf_card : Rows.FnExactPartOfCardSaid :=
  Claim7.holds_tied_plain_at .later [] [.data] true (true, "18902ad48fee14ba0ba1e5828de7a6a28e51b3a8703fe69bc2803f0493ca1330") false
    partOf_holds (fun _ h => by cases h) (by kernel_rfl) (fun _ h => by cases h) fnExactPartOf_row_tie rfl ⟨rfl, rfl⟩ (by kernel_rfl) rfl
    (fun f fn hf hfn => by
      obtain rfl : f = 3 := Option.some.inj ((show Tryd.prog.funcNamed "loop.example/g00758/laws.FnExactPartOf" = some 3 by kernel_rfl).symm.trans hf) |>.symm
      obtain rfl : fn = Tryd.f3 := (Option.some.inj (Tryd.func3.symm.trans hfn)).symm
      exact ⟨by kernel_rfl, fun j t ht => by
        rw [Tryd.params3] at ht
        have hm : t ∈ [3, 3, 3, 3] := by simpa using Array.mem_of_getElem? ht
        have hall : ([3, 3, 3, 3].all fun u => !Tryd.prog.wantsStandIn u) = true := by kernel_rfl
        exact (show Tryd.prog.wantsStandIn t = false by simpa using List.all_eq_true.1 hall t hm)⟩)
    (by kernel_rfl)

#print axioms partOf_card
end Go.Proofs.YtfbpcdmpkbjifaaDoor
