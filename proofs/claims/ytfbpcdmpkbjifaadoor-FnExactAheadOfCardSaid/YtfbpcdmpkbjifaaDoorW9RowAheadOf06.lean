/- The law of AheadOf holds of every list of steps and three ints: the call returns true, and what was handed in reads afterwards as it read before. Conditions: the package's table of limits is as the program's text lays it (tied by the given tie). -/
import Derived.Test.YtfbpcdmpkbjifaaDoorW901
import Derived.Test.YtfbpcdmpkbjifaaDoorW905
import Derived.Test.YtfbpcdmpkbjifaaDoorW902
import Derived.Test.YtfbpcdmpkbjifaaDoorCards

namespace Go.Proofs.YtfbpcdmpkbjifaaDoor
open Go.RowKit

set_option maxRecDepth 20000 in
set_option maxHeartbeats 1000000 in
theorem law_AheadOf (A : Option Addr) (ds : List Dn) (c : Nat) (hs i j : Int) (w : World) (hx : Dos w w.heap.size A ds) (hn : ds.length ≤ maxLen) (_ : F64 hs) (hi : F64 i) (hj : F64 j) (hL : Lims w) :
    Calls Tryd.prog 5 #[.slice A ds.length c, .int .i64 hs, .int .i64 i, .int .i64 j] w (LawEnds w) := by
  have HX := Lib.hid hx; clear hx
  have HL := Lib.hid hL; clear hL
  go_enter Tryd.func5, Tryd.ntmps5
  go_wp2_with fail
  refine (szDoneS_any A ds.length c _ w hn (by omega) (by omega)).mono ?_
  rintro e w1 ⟨rfl, rfl⟩
  by_cases hneg : szI ds.length 1048576 < 0
  · go_wp2
    go_ret
    exact ⟨rfl, Below.refl _ _⟩
  have hlen : ds.length ≤ 1048576 := by unfold szI at hneg; split at hneg <;> omega
  have HSP : Hid (∀ A' c' v, ds.length ≤ c' → Dos v v.heap.size A' ds → Calls Tryd.prog 20 #[.slice A' ds.length c', .int .i64 hs, .int .i64 i, .int .i64 j] v fun e w' => e = .returned (.tuple #[.bool (aheadV ds hs i j), .bool (aheadOk ds hs i j)]) ∧ Below v.heap.size v w') := fun A' c' v h1 h2 => specAheadOf_any A' ds c' hs i j v h2 hlen h1
  have HIM : Hid (∀ A' c' v, Lims v → Dos v v.heap.size A' ds → Calls Tryd.prog 22 #[.slice A' ds.length c', .int .i64 hs, .int .i64 i, .int .i64 j] v fun e w' => e = .returned (.tuple #[.bool (aheadV ds hs i j), .bool (aheadOk ds hs i j)]) ∧ Below v.heap.size v w') := fun A' c' v h1 h2 => implAheadOf_any A' ds c' hs i j v h2 hlen h1 hi hj
  generalize aheadV ds hs i j = x at HSP HIM
  generalize aheadOk ds hs i j = ok at HSP HIM
  have hxx : (x != x) = false := by simp
  have hok : (ok != ok) = false := by simp
  -- the reference's answer
  go_wp2_with fail
  refine (toDoneS_any _ _ _ _ HX.out hlen).mono ?_
  rintro e w2 ⟨A2, c2, rfl, hc2, hO2, hB2⟩
  have HO2 := Lib.hid hO2; clear hO2
  have HB2 := Lib.hid hB2; clear hB2
  go_wp2_with fail
  refine (HSP.out A2 c2 w2 hc2 HO2.out.dos).mono ?_
  rintro e w3 ⟨rfl, hB3⟩
  have HB3 := Lib.hid (HB2.out.trans (hB3.mono HB2.out.size)); clear hB3 HO2 HB2
  -- the program's
  go_wp2_with fail
  refine (toDoneS_any _ _ _ _ ((HX.out.keep HB3.out).more HB3.out.size) hlen).mono ?_
  rintro e w4 ⟨A4, c4, rfl, hc4, hO4, hB4⟩
  have HO4 := Lib.hid hO4; clear hO4
  have HB4 := Lib.hid (HB3.out.trans (hB4.mono HB3.out.size)); clear hB4
  go_wp2_with fail
  refine (HIM.out A4 c4 w4 (HL.out.keep HB4.out (Nat.le_refl _)) HO4.out.dos).mono ?_
  rintro e w5 ⟨rfl, hB5⟩
  have HO5 := Lib.hid (HO4.out.below hB5 (Nat.le_refl _))
  have HB5 := Lib.hid (HB4.out.trans (hB5.mono HB4.out.size)); clear hB5 HO4 HB4 HB3
  -- the argument reads as it did
  go_wp2_with fail
  refine (toDoneS_any _ _ _ _ ((HX.out.keep HB5.out).more HB5.out.size) hlen).mono ?_
  rintro e w6 ⟨A6, c6, rfl, hc6, hO6, hB6⟩
  have HO6 := Lib.hid hO6; clear hO6
  have HO56 := Lib.hid (HO5.out.below hB6 (Nat.le_refl _))
  have HB6 := Lib.hid (HB5.out.trans (hB6.mono HB5.out.size)); clear hB6
  go_wp2_with fail
  refine (eqDoneS_same _ _ _ _ _ _ HO56.out.dos HO6.out.dos hlen).mono ?_
  rintro e w7 ⟨rfl, hB7⟩
  have HB7 := Lib.hid (HB6.out.trans (hB7.mono HB6.out.size)); clear hB7
  go_wp2
  go_ret
  exact ⟨rfl, HB7.out⟩

end Go.Proofs.YtfbpcdmpkbjifaaDoor

/- The law of AheadOf holds of every list of steps and three ints: the call returns true, and what was handed in reads afterwards as it read before. Conditions: the package's table of limits is as the program's text lays it (tied by the given tie). -/

namespace Go.Proofs.YtfbpcdmpkbjifaaDoor
open Go.ChangeShapes Go.WideShapes Go.ChangeAt Go.RowKit

set_option maxRecDepth 100000 in
theorem aheadOf_lifted (os : Os) (started : os.Started) (H : Type) (enc : TypeId × Value → H) :
    ReturnsInHanded {} Tryd.checked os 5 .any (fun w args => (Rows.fnExactAheadOfSpec.pre enc Tryd.prog Tryd.f5 [] false w args ∧ laidMetH Tryd.prog laid1 w) ∧ sizedMet enc Tryd.prog Tryd.f5 (OpenSpec.ofChange Rows.fnExactAheadOfSpec) false w args)
      (Rows.fnExactAheadOfSpec.post enc Tryd.prog Tryd.f5 false true false false) := by
  refine returnsInHanded_of_change_and (C := Tryd.checked) (X := fun w _ => laidMetH Tryd.prog laid1 w) (fun _ _ _ hh h => h.of_heap hh) Tryd.own started (by kernel_rfl) Tryd.func5
    (ChangeSpec.witness_shaped (enc := enc) (C := Tryd.checked) (os := os) (X := fun w _ => laidMetH Tryd.prog laid1 w) false (World.doorLaid Tryd.prog 400 os) #[.slice none 0 0, .int .i64 0, .int .i64 0, .int .i64 0] 8 rfl (World.shaped_of_RefB (by kernel_rfl) (by kernel_rfl)) (by kernel_rfl) (by kernel_rfl) (by kernel_rfl) (door_met os _)) ?_
  intro W base args ds gs before hval0 hW _ _ hL _
  have hval : ∀ (j : Nat) t v, Tryd.f5.params[j]? = some t → args[j]? = some v → Value.okWide Tryd.prog W .any base t v := hval0
  have hW' := hW
  obtain ⟨p, q, hA0, hV0, rfl, hfz, hnd⟩ := hW
  have hA : DataW.TrodAll enc Tryd.prog W 0 (fun _ => true) true Tryd.f5.params.toList args.toList ds p := hA0
  have hV : DataW.TrodVars enc Tryd.prog W (fun _ => true) ["loop.example/g00758/impl.limits"] gs q := hV0
  rw [Tryd.params5] at hA hval
  obtain ⟨v0, v1, v2, v3, d0, d1, d2, d3, p0, p1, p2, p3, rfl, rfl, rfl, h0, h1, h2, h3⟩ := trodAll_four hA
  obtain ⟨g, tg, cs, fuel, dg, pg, rfl, _⟩ := trodVars_one hV
  obtain ⟨A0, xs0, c0, rfl, _, hR0, hN0⟩ := open_doneS' (hval 0 31 v0 rfl rfl) h0
  obtain ⟨x1, rfl, rfl, rfl, w1⟩ := open_int Tryd.underlying3 (hval 1 3 v1 rfl rfl) h1
  obtain ⟨x2, rfl, rfl, rfl, w2⟩ := open_int Tryd.underlying3 (hval 2 3 v2 rfl rfl) h2
  obtain ⟨x3, rfl, rfl, rfl, w3⟩ := open_int Tryd.underlying3 (hval 3 3 v3 rfl rfl) h3
  refine (law_AheadOf A0 xs0 c0 x1 x2 x3 W hR0 hN0 (bounds_i64 w1) (bounds_i64 w2) (bounds_i64 w3) (lims_of_laid hL)).mono fun e W' ⟨he, hb⟩ => ?_
  subst he
  exact ⟨_, rfl, ends_four hW' Tryd.params5 rfl rfl (by kernel_rfl) (of_decide_eq_true (by kernel_rfl)) (by kernel_rfl) (of_decide_eq_true (by kernel_rfl)) (by kernel_rfl) (of_decide_eq_true (by kernel_rfl)) (by kernel_rfl) (of_decide_eq_true (by kernel_rfl)) (by kernel_rfl) hb⟩

theorem aheadOf_holds : Rows.FnExactAheadOfSaid :=
  OpenClaim.holds_of_wide 5 Tryd.f5 rfl rfl rfl rfl rfl rfl rfl ⟨rfl, rfl, rfl, rfl, rfl⟩ rfl rfl rfl rfl rfl (by kernel_rfl) Tryd.func5 (by kernel_rfl)
    (of_decide_eq_true (by kernel_rfl)) (by unfold Func.isWrapper; first | (rw [if_pos (by decide +kernel)]; kernel_rfl) | (rw [if_neg (by decide +kernel)]; exact ⟨rfl, rfl⟩))
    (fun os started H enc _ => aheadOf_lifted os started H enc)

theorem aheadOf_card : Rows.FnExactAheadOfCardSaid :=
  Claim7.holds_tied_plain_at .later [] [.data] true (true, "18902ad48fee14ba0ba1e5828de7a6a28e51b3a8703fe69bc2803f0493ca1330") false
    aheadOf_holds (fun _ h => by cases h) (by kernel_rfl) (fun _ h => by cases h) fnExactAheadOf_row_tie rfl ⟨rfl, rfl⟩ (by kernel_rfl) rfl
    (fun f fn hf hfn => by
      obtain rfl : f = 5 := Option.some.inj ((show Tryd.prog.funcNamed "loop.example/g00758/laws.FnExactAheadOf" = some 5 by kernel_rfl).symm.trans hf) |>.symm
      obtain rfl : fn = Tryd.f5 := (Option.some.inj (Tryd.func5.symm.trans hfn)).symm
      exact ⟨by kernel_rfl, fun j t ht => by
        rw [Tryd.params5] at ht
        have hm : t ∈ [31, 3, 3, 3] := by simpa using Array.mem_of_getElem? ht
        have hall : ([31, 3, 3, 3].all fun u => !Tryd.prog.wantsStandIn u) = true := by kernel_rfl
        exact (show Tryd.prog.wantsStandIn t = false by simpa using List.all_eq_true.1 hall t hm)⟩)
    (by kernel_rfl)

#print axioms aheadOf_card
end Go.Proofs.YtfbpcdmpkbjifaaDoor
