/- The law of PackedSize holds of every forest: the call returns true, and what was handed in reads afterwards as it read before. Conditions: the package's table of limits is as the program's text lays it (tied by the given tie). -/
import Derived.Test.YtbgjlabjihoaaaaDoorF902
import Derived.Test.YtbgjlabjihoaaaaDoorF903
import Derived.Deep.RegionWith
import Derived.Test.YtbgjlabjihoaaaaDoorCards

namespace Go.Proofs.YtbgjlabjihoaaaaDoor
open Go.RowKit

set_option maxRecDepth 20000 in
set_option maxHeartbeats 1000000 in
theorem law_PackedSize (f : Fo) (w : World) (hx : ReadF w w.heap.size f) (hm : LenF maxLen f) (_ : FitE f.es) (hL : Lims w) :
    Calls Tryd.prog 6 #[(.agg #[.slice f.a f.ns.length f.c, .slice f.b f.es.length f.d])] w (LawEnds w) := by
  have HX := Lib.hid hx; clear hx
  have HL := Lib.hid hL; clear hL
  have HM := Lib.hid hm; clear hm
  go_enter Tryd.func6, Tryd.ntmps6
  go_wp2_with fail
  have hBA : Below w.heap.size w (w.alloc (.cells #[.slice f.a f.ns.length f.c, .slice f.b f.es.length f.d] 25)) := by go_grown
  have B0 := BoxF.new w f 25
  generalize (w.alloc (.cells #[.slice f.a f.ns.length f.c, .slice f.b f.es.length f.d] 25)) = W at hBA B0 ⊢
  have HBA := Lib.hid hBA; clear hBA
  have HB0 := Lib.hid B0; clear B0
  refine (szForest_any _ _ _ ((HX.out.keep HBA.out).more HBA.out.size) HM.out (by omega) (by omega)).mono ?_
  rintro e w1 ⟨rfl, hB1⟩
  have HB1 := Lib.hid hB1; clear hB1
  by_cases hneg : szFo f.ns.length f.es 1048576 < 0
  · go_wp2
    go_ret
    exact ⟨rfl, HBA.out.trans (HB1.out.mono HBA.out.size)⟩
  have HLN : Hid (LenF 1048576 f) := (szFo_bound (f := f) (L := 1048576) (by omega) (by omega) (by omega)).1
  have KB1 := Lib.hid (HB0.out.keep HB1.out HB0.out.1)
  have HR1 := Lib.hid (((HX.out.keep HBA.out).more HBA.out.size).keep HB1.out |>.more HB1.out.size)
  have HW1 := Lib.hid (HBA.out.trans (HB1.out.mono HBA.out.size))
  obtain ⟨_, a0, a1⟩ := KB1.out
  clear HB1 HB0
  go_wp2_with fail
  refine (toForest_any _ _ HR1.out HLN.out).mono ?_
  rintro e w2 ⟨f2, rfl, hs2, hO2, hC2, hB2⟩
  have HLN2 := Lib.hid (HLN.out.of_say hs2)
  have HS2 := Lib.hid hs2; clear hs2
  have HO2 := Lib.hid hO2; clear hO2
  have HB2 := Lib.hid hB2; clear hB2
  clear hC2
  go_wp2_with fail
  refine (specPackedSize_any _ _ HLN2.out).mono ?_
  rw [HS2.out]
  have HIMP : Hid (∀ (f' : Fo) (v : World), Lims v → LenF 1048576 f' → f'.say = f.say → Calls Tryd.prog 25 #[(.agg #[.slice f'.a f'.ns.length f'.c, .slice f'.b f'.es.length f'.d])] v (GavePk v f.say)) := fun f' v h1 h2 h3 => by
    have h6 := implPackedSize_any f' v h1 h2
    rw [h3] at h6
    exact h6
  unfold GavePk at HIMP ⊢
  generalize (if smF f.say then (f.say.ns.length : Int) else 0) = pn at HIMP ⊢
  generalize (if smF f.say then (f.say.es.length : Int) else 0) = pe at HIMP ⊢
  generalize smF f.say = ok at HIMP ⊢
  rintro e w3 ⟨rfl, hB3⟩
  have HB3 := Lib.hid (HB2.out.trans (hB3.mono HB2.out.size)); clear hB3
  clear a0 a1 HO2 HS2 HLN2
  have KB3 := Lib.hid (KB1.out.keep HB3.out KB1.out.1)
  have HR3 := Lib.hid ((HR1.out.keep HB3.out).more HB3.out.size)
  have HW3 := Lib.hid (HW1.out.trans (HB3.out.mono HW1.out.size))
  clear KB1 HR1 HW1 HB3 HB2
  obtain ⟨_, a0, a1⟩ := KB3.out
  go_wp2_with fail
  refine (toForest_any _ _ HR3.out HLN.out).mono ?_
  rintro e w4 ⟨f4, rfl, hs4, hO4, hC4, hB4⟩
  have HLN4 := Lib.hid (HLN.out.of_say hs4)
  have HS4 := Lib.hid hs4; clear hs4
  clear a0 a1 hC4
  go_wp2_with fail
  have hBX : Below w4.heap.size w4 (w4.alloc (.cells #[.slice f4.a f4.ns.length f4.c, .slice f4.b f4.es.length f4.d] 33)) := by go_grown
  have B4 := BoxF.new w4 f4 33
  generalize (w4.alloc (.cells #[.slice f4.a f4.ns.length f4.c, .slice f4.b f4.es.length f4.d] 33)) = X at hBX B4 ⊢
  have HOX := Lib.hid (hO4.below hBX (Nat.le_refl _)); clear hO4
  have HBX := Lib.hid (hB4.trans (hBX.mono hB4.size)); clear hBX hB4
  have HB4 := Lib.hid B4; clear B4
  have HWX := Lib.hid (HW3.out.trans (HBX.out.mono HW3.out.size))
  refine (HIMP.out _ _ (HL.out.keep HWX.out (Nat.le_refl _)) HLN4.out HS4.out).mono ?_
  rintro e w5 ⟨rfl, hB5⟩
  clear HIMP
  have KX := Lib.hid (HB4.out.keep hB5 HB4.out.1)
  have KB5 := Lib.hid ((KB3.out.keep HBX.out KB3.out.1).keep hB5 (by have := KB3.out.1; have := HBX.out.size; omega))
  have HR5 := Lib.hid ((((HR3.out.keep HBX.out).more HBX.out.size).keep hB5).more hB5.size)
  have HO5 := Lib.hid (HOX.out.below hB5 (Nat.le_refl _))
  have HW5 := Lib.hid (HWX.out.trans (hB5.mono HWX.out.size))
  clear hB5 HOX HBX HB4 HWX KB3 HR3 HW3
  have hne : (ok != ok) = false := by simp
  have hne2 : (pn != pn) = false := by simp
  have hne3 : (pe != pe) = false := by simp
  obtain ⟨_, x0, x1⟩ := KX.out
  obtain ⟨_, a0, a1⟩ := KB5.out
  go_wp2_with fail
  go_region_with (first
    | (go_at_call 9
       refine (toForest_any _ _ ?_ HLN.out).mono ?_
       · exact HR5.out.keep (by go_grown)
       rintro e w6 ⟨f6, rfl, hs6, hO6, hC6, hB6'⟩
       have hB6 : Below w5.heap.size w5 w6 := Below.trans (by go_grown) hB6'
       obtain ⟨_, y0, y1⟩ := KX.out.keep hB6 KX.out.1
       have HO6 := Lib.hid hO6
       have HS6 := Lib.hid hs6
       have HB6 := Lib.hid hB6
       clear hO6 hs6 hB6 hB6' hC6)
    | (go_at_call 12
       refine (eqForest_same _ _ _ ?_ ?_ HLN4.out (HS4.out.trans HS6.out.symm)).mono ?_
       · exact (HO5.out.read.keep HB6.out).more HB6.out.size
       · exact HO6.out.read
       rintro e w7 ⟨rfl, hB7⟩))
  all_goals
    go_wp2
    go_ret
    exact ⟨rfl, HW5.out.trans ((HB6.out.trans (hB7.mono HB6.out.size)).mono HW5.out.size)⟩

end Go.Proofs.YtbgjlabjihoaaaaDoor

/- The law of PackedSize holds of every forest: the call returns true, and what was handed in reads afterwards as it read before. Conditions: the package's table of limits is as the program's text lays it (tied by the given tie). -/

namespace Go.Proofs.YtbgjlabjihoaaaaDoor
open Go.ChangeShapes Go.WideShapes Go.ChangeAt Go.RowKit

set_option maxRecDepth 100000 in
theorem packedSize_lifted (os : Os) (started : os.Started) (H : Type) (enc : TypeId × Value → H) :
    ReturnsInHanded {} Tryd.checked os 6 .any (fun w args => (Rows.fnExactPackedSizeSpec.pre enc Tryd.prog Tryd.f6 [] false w args ∧ laidMetH Tryd.prog laid1 w) ∧ sizedMet enc Tryd.prog Tryd.f6 (OpenSpec.ofChange Rows.fnExactPackedSizeSpec) false w args)
      (Rows.fnExactPackedSizeSpec.post enc Tryd.prog Tryd.f6 false true false false) := by
  refine returnsInHanded_of_change_and (C := Tryd.checked) (X := fun w _ => laidMetH Tryd.prog laid1 w) (fun _ _ _ hh h => h.of_heap hh) Tryd.own started (by kernel_rfl) Tryd.func6
    (ChangeSpec.witness_shaped (enc := enc) (C := Tryd.checked) (os := os) (X := fun w _ => laidMetH Tryd.prog laid1 w) false (World.doorLaid Tryd.prog 400 os) #[.agg #[.slice none 0 0, .slice none 0 0]] 8 rfl (World.shaped_of_RefB (by kernel_rfl) (by kernel_rfl)) (by kernel_rfl) (by kernel_rfl) (by kernel_rfl) (door_met os _)) ?_
  intro W base args ds gs before hval0 hW _ _ hL _
  have hval : ∀ (j : Nat) t v, Tryd.f6.params[j]? = some t → args[j]? = some v → Value.okWide Tryd.prog W .any base t v := hval0
  have hW' := hW
  obtain ⟨p, q, hA0, hV0, rfl, hfz, hnd⟩ := hW
  have hA : DataW.TrodAll enc Tryd.prog W 0 (fun _ => true) true Tryd.f6.params.toList args.toList ds p := hA0
  have hV : DataW.TrodVars enc Tryd.prog W (fun _ => true) ["loop.example/g00758/impl.limits"] gs q := hV0
  rw [Tryd.params6] at hA hval
  obtain ⟨v0, d0, rfl, rfl, h0⟩ := trodAll_one hA
  obtain ⟨g, tg, cs, fuel, dg, pg, rfl, _⟩ := trodVars_one hV
  obtain ⟨f0, rfl, _, hR0, hM0, hF0⟩ := open_forest (hval 0 25 v0 rfl rfl) h0
  refine (law_PackedSize f0 W hR0 hM0 hF0 (lims_of_laid hL)).mono fun e W' ⟨he, hb⟩ => ?_
  subst he
  exact ⟨_, rfl, ends_one hW' Tryd.params6 rfl rfl (by kernel_rfl) (of_decide_eq_true (by kernel_rfl)) (by kernel_rfl) hb⟩

theorem packedSize_holds : Rows.FnExactPackedSizeSaid :=
  OpenClaim.holds_of_wide 6 Tryd.f6 rfl rfl rfl rfl rfl rfl rfl ⟨rfl, rfl, rfl, rfl, rfl⟩ rfl rfl rfl rfl rfl (by kernel_rfl) Tryd.func6 (by kernel_rfl)
    (of_decide_eq_true (by kernel_rfl)) (by unfold Func.isWrapper; first | (rw [if_pos (by decide +kernel)]; kernel_rfl) | (rw [if_neg (by decide +kernel)]; exact ⟨rfl, rfl⟩))
    (fun os started H enc _ => packedSize_lifted os started H enc)

theorem packedSize_card : Rows.FnExactPackedSizeCardSaid :=
  Claim7.holds_tied_plain_at .later [] [.data] true (true, "0708bc447225853a1ae87032d251b7168e6f47bb1f3e94d606ee5a28467e1d1b") false
    packedSize_holds (fun _ h => by cases h) (by kernel_rfl) (fun _ h => by cases h) fnExactPackedSize_row_tie rfl ⟨rfl, rfl⟩ (by kernel_rfl) rfl
    (fun f fn hf hfn => by
      obtain rfl : f = 6 := Option.some.inj ((show Tryd.prog.funcNamed "loop.example/g00758/laws.FnExactPackedSize" = some 6 by kernel_rfl).symm.trans hf) |>.symm
      obtain rfl : fn = Tryd.f6 := (Option.some.inj (Tryd.func6.symm.trans hfn)).symm
      exact ⟨by kernel_rfl, fun j t ht => by
        rw [Tryd.params6] at ht
        have hm : t ∈ [25] := by simpa using Array.mem_of_getElem? ht
        have hall : ([25].all fun u => !Tryd.prog.wantsStandIn u) = true := by kernel_rfl
        exact (show Tryd.prog.wantsStandIn t = false by simpa using List.all_eq_true.1 hall t hm)⟩)
    (by kernel_rfl)

#print axioms packedSize_card
end Go.Proofs.YtbgjlabjihoaaaaDoor
