/- The law of EmptyChart holds of every int: the call returns true, and what was handed in reads afterwards as it read before. Conditions: the package's table of limits is as the program's text lays it (tied by the given tie). -/
import Derived.Test.YtaobkanliiiapaaDoorC702
import Derived.Test.YtaobkanliiiapaaDoorC703
import Derived.Test.YtaobkanliiiapaaDoorC704
import Derived.Test.YtaobkanliiiapaaDoorCards

namespace Go.Proofs.YtaobkanliiiapaaDoor
open Go.RowKit

theorem emC_len (n : Int) : (emC n).length ≤ 55 ∧ ∀ x ∈ emC n, x.length ≤ 0 := by
  unfold emC
  split
  · rename_i h
    have hb := cntC_bound (inB_lo h) (inB_hi h)
    refine ⟨by unfold emptyC; rw [List.length_replicate]; omega, fun x hx => ?_⟩
    have := List.eq_of_mem_replicate hx
    rw [this]; simp
  · exact ⟨by simp, fun x hx => by simp at hx⟩

set_option maxRecDepth 20000 in
set_option maxHeartbeats 2000000 in
theorem law_EmptyChart (n : Int) (w : World) (_ : F64 n) (hL : Lims w) :
    Calls Tryd.prog 7 #[.int .i64 n] w (LawEnds w) := by
  have HL := Lib.hid hL; clear hL
  have HSP := Lib.hid (specEmptyChart_any n w)
  have HIM : Hid (∀ v, Lims v → Calls Tryd.prog 15 #[.int .i64 n] v (GaveCB v (emN n) (emC n) (inB 0 10 n))) := fun v h => implEmptyChart_any n v h
  have HBD := Lib.hid (emC_len n)
  generalize emN n = n' at HSP HIM
  generalize emC n = xs at HSP HIM HBD
  generalize inB 0 10 n = ok at HSP HIM
  go_enter Tryd.func7, Tryd.ntmps7
  -- the reference's answer
  go_wp2_with fail
  refine HSP.out.mono ?_
  rintro e w3 ⟨A3, ls3, c3, rfl, hs3, hO3, _, hB3⟩
  have hl3 := say_len hs3 HBD.out.1
  have HU3 : Hid (∀ u ∈ ls3, u.r.length ≤ 1048576) := fun u hu => Nat.le_trans (say_lens hs3 HBD.out.2 u hu) (by omega)
  have HA3 := Lib.hid hs3; clear hs3
  have HI3 : Hid (∀ b, ItsL A3 ls3 b → b < w3.heap.size) := fun b hb => (hO3.its hb).2
  have HL3 : Hid (∀ b, ItsL A3 ls3 b → w.heap.size ≤ b) := fun b hb => (hO3.its hb).1
  go_wp2_with fail
  have hBN := below_new w3 (.cells #[.int .i64 n', .slice A3 ls3.length c3] 27)
  have hKN := BoxC.new w3 n' A3 ls3.length c3 27
  generalize (w3.alloc (.cells #[.int .i64 n', .slice A3 ls3.length c3] 27)) = V3 at hBN hKN ⊢
  have HB3 := Lib.hid (hB3.trans (hBN.mono hB3.size))
  have HO3 := Lib.hid (hO3.below hBN (Nat.le_refl _))
  have KW3 := Lib.hid hKN
  have HS3 := Lib.hid hB3.size
  clear hB3 hO3 hBN hKN
  -- the program's answer
  refine (HIM.out V3 (HL.out.keep HB3.out (Nat.le_refl _))).mono ?_
  rintro e w5 ⟨A5, ls5, c5, rfl, hs5, hO5, _, hB5⟩
  have hl5 := say_len hs5 HBD.out.1
  have HU5 : Hid (∀ u ∈ ls5, u.r.length ≤ 1048576) := fun u hu => Nat.le_trans (say_lens hs5 HBD.out.2 u hu) (by omega)
  have HCN : Hid (lcnt ls5 ls5.length ≤ 100000000) := by
    have h : ∀ i, i ≤ ls5.length → lcnt ls5 i ≤ i := fun i => by
      induction i with
      | zero => intro _; simp [lcnt_zero]
      | succ i ih =>
        intro hi
        rw [lcnt_succ (by omega)]
        have h1 := ih (by omega)
        have h2 := say_lens hs5 HBD.out.2 ls5[i] (List.getElem_mem (by omega))
        omega
    exact Nat.le_trans (h _ (Nat.le_refl _)) (by omega)
  have HA5 := Lib.hid hs5; clear hs5
  have HI5 : Hid (∀ b, ItsL A5 ls5 b → V3.heap.size ≤ b ∧ b < w5.heap.size) := fun b hb => hO5.its hb
  have KW5 := Lib.hid (KW3.out.keep hB5 KW3.out.1)
  have HO35 := Lib.hid (HO3.out.below hB5 (Nat.le_refl _))
  have HB5 := Lib.hid (HB3.out.trans (hB5.mono HB3.out.size))
  have HS5 := Lib.hid hB5.size
  have HZ3 : Hid (w3.heap.size + 1 ≤ V3.heap.size) := KW3.out.1
  clear hB5 KW3 HO3 HB3
  obtain ⟨_, x0, x1⟩ := KW5.out
  go_wp2_with fail
  have hBN := below_new w5 (.cells #[.int .i64 n', .slice A5 ls5.length c5] 27)
  have hKN := BoxC.new w5 n' A5 ls5.length c5 27
  generalize (w5.alloc (.cells #[.int .i64 n', .slice A5 ls5.length c5] 27)) = V5 at hBN hKN ⊢
  clear x0 x1
  have HO55 := Lib.hid (hO5.below hBN (Nat.le_refl _))
  have KG5 := Lib.hid hKN
  have KWV := Lib.hid (KW5.out.keep hBN KW5.out.1)
  have HO3V := Lib.hid (HO35.out.below hBN (Nat.le_refl _))
  have HBV := Lib.hid (HB5.out.trans (hBN.mono HB5.out.size))
  clear hO5 hBN hKN KW5 HO35 HB5
  refine (eqChart_any _ _ _ _ _ _ _ _ _ HO55.out.lls HO3V.out.lls (by omega) HU5.out rfl (HA5.out.trans HA3.out.symm)).mono ?_
  rintro e w6 ⟨rfl, hB6⟩
  have hok : (ok != ok) = false := by simp
  have HO36 := Lib.hid (HO3V.out.below hB6 (Nat.le_refl _))
  have HO56 := Lib.hid (HO55.out.below hB6 (Nat.le_refl _))
  have KG6 := Lib.hid (KG5.out.keep hB6 KG5.out.1)
  have KW6 := Lib.hid (KWV.out.keep hB6 KWV.out.1)
  have HB6 := Lib.hid (HBV.out.trans (hB6.mono HBV.out.size))
  clear hB6 HO3V HO55 KG5 KWV HBV
  obtain ⟨_, x0, x1⟩ := KG6.out
  -- the answer is marked, and found again
  go_wp2_with fail
  refine (markChart_any _ _ _ _ _ _ _ HO56.out (by omega) HU5.out (by omega) (by omega)).mono ?_
  rintro e w11 ⟨rfl, hO11, hS11⟩
  have KG11 := Lib.hid (KG6.out.save hS11 fun hI => by have := (HI5.out _ hI).2; omega)
  have KW11 := Lib.hid (KW6.out.save hS11 fun hI => by have := (HI5.out _ hI).1; have := HZ3.out; omega)
  have HO311 := Lib.hid (HO36.out.kept hS11 fun b hb hI => by have := HI3.out b hb; have := (HI5.out b hI).1; have := HZ3.out; omega)
  have HB11 : Hid (Below w.heap.size w w11) := HB6.out.trans (hS11.below HB6.out.size fun i hi hI => by have := (HI5.out i hI).1; have := HZ3.out; have := HS3.out; omega)
  have HO11 := Lib.hid hO11
  clear hO11 hS11 HO36 HO56 KG6 KW6 HB6 x0 x1
  obtain ⟨_, x0, x1⟩ := KG11.out
  have hcn := HCN.out
  go_wp2_with fail
  refine (heldChart_any _ _ _ _ _ _ HO11.out.lls (by omega) HU5.out (by omega) (by omega) (by omega)).mono ?_
  rintro e w12 ⟨rfl, hB12⟩
  have hne : ((1 + (lcnt ls5 ls5.length : Int)) != (1 + (lcnt ls5 ls5.length : Int))) = false := by simp
  have KG12 := Lib.hid (KG11.out.keep hB12 KG11.out.1)
  have KW12 := Lib.hid (KW11.out.keep hB12 KW11.out.1)
  have HO312 := Lib.hid (HO311.out.below hB12 (Nat.le_refl _))
  have HO12 := Lib.hid (HO11.out.below hB12 (Nat.le_refl _))
  have HB12 := Lib.hid (HB11.out.trans (hB12.mono HB11.out.size))
  clear hB12 KG11 KW11 HO311 HO11 HB11 x0 x1
  -- the program once more
  go_wp2_with fail
  refine (HIM.out w12 (HL.out.keep HB12.out (Nat.le_refl _))).mono ?_
  rintro e w14 ⟨A14, ls14, c14, rfl, hs14, hO14, _, hB14⟩
  have hl14 := say_len hs14 HBD.out.1
  have HU14 : Hid (∀ u ∈ ls14, u.r.length ≤ 1048576) := fun u hu => Nat.le_trans (say_lens hs14 HBD.out.2 u hu) (by omega)
  have HA14 := Lib.hid hs14; clear hs14
  have KG14 := Lib.hid (KG12.out.keep hB14 KG12.out.1)
  have HO314 := Lib.hid (HO312.out.below hB14 (Nat.le_refl _))
  have HO514 := Lib.hid (HO12.out.below hB14 (Nat.le_refl _))
  have HB14 := Lib.hid (HB12.out.trans (hB14.mono HB12.out.size))
  obtain ⟨_, x0, x1⟩ := KW12.out.keep hB14 KW12.out.1
  clear hB14 KG12 KW12 HO312 HO12 HB12
  go_wp2_with fail
  have hBN := below_new w14 (.cells #[.int .i64 n', .slice A14 ls14.length c14] 27)
  generalize (w14.alloc (.cells #[.int .i64 n', .slice A14 ls14.length c14] 27)) = V14 at hBN ⊢
  clear x0 x1
  have HO15 := Lib.hid (hO14.below hBN (Nat.le_refl _))
  have HO315 := Lib.hid (HO314.out.below hBN (Nat.le_refl _))
  have HO515 := Lib.hid (HO514.out.below hBN (Nat.le_refl _))
  have KG15 := Lib.hid (KG14.out.keep hBN KG14.out.1)
  have HB15 := Lib.hid (HB14.out.trans (hBN.mono HB14.out.size))
  clear hO14 hBN HO314 HO514 KG14 HB14
  refine (eqChart_any _ _ _ _ _ _ _ _ _ HO15.out.lls HO315.out.lls (by omega) HU14.out rfl (HA14.out.trans HA3.out.symm)).mono ?_
  rintro e w16 ⟨rfl, hB16⟩
  have KG16 := Lib.hid (KG15.out.keep hB16 KG15.out.1)
  have HO516 := Lib.hid (HO515.out.below hB16 (Nat.le_refl _))
  have HB16 := Lib.hid (HB15.out.trans (hB16.mono HB15.out.size))
  clear hB16 KG15 HO515 HO315 HO15 HB15
  obtain ⟨_, x0, x1⟩ := KG16.out
  go_wp2_with fail
  refine (heldChart_any _ _ _ _ _ _ HO516.out.lls (by omega) HU5.out (by omega) (by omega) (by omega)).mono ?_
  rintro e w17 ⟨rfl, hB17⟩
  have HB17 := Lib.hid (HB16.out.trans (hB17.mono HB16.out.size))
  clear hB17 x0 x1
  go_wp2
  go_ret
  exact ⟨rfl, HB17.out⟩

end Go.Proofs.YtaobkanliiiapaaDoor

/- The law of EmptyChart holds of every int: the call returns true, and what was handed in reads afterwards as it read before. Conditions: the package's table of limits is as the program's text lays it (tied by the given tie). -/

namespace Go.Proofs.YtaobkanliiiapaaDoor
open Go.ChangeShapes Go.WideShapes Go.ChangeAt Go.RowKit

set_option maxRecDepth 100000 in
theorem emptyChart_lifted (os : Os) (started : os.Started) (H : Type) (enc : TypeId × Value → H) :
    ReturnsInHanded {} Tryd.checked os 7 .any (fun w args => (Rows.fnExactEmptyChartSpec.pre enc Tryd.prog Tryd.f7 [] false w args ∧ laidMetH Tryd.prog laid1 w) ∧ sizedMet enc Tryd.prog Tryd.f7 (OpenSpec.ofChange Rows.fnExactEmptyChartSpec) false w args)
      (Rows.fnExactEmptyChartSpec.post enc Tryd.prog Tryd.f7 false true false false) := by
  refine returnsInHanded_of_change_and (C := Tryd.checked) (X := fun w _ => laidMetH Tryd.prog laid1 w) (fun _ _ _ hh h => h.of_heap hh) Tryd.own started (by kernel_rfl) Tryd.func7
    (ChangeSpec.witness_shaped (enc := enc) (C := Tryd.checked) (os := os) (X := fun w _ => laidMetH Tryd.prog laid1 w) false (World.doorLaid Tryd.prog 400 os) #[.int .i64 0] 8 rfl (World.shaped_of_RefB (by kernel_rfl) (by kernel_rfl)) (by kernel_rfl) (by kernel_rfl) (by kernel_rfl) (door_met os _)) ?_
  intro W base args ds gs before hval0 hW _ _ hL _
  have hval : ∀ (j : Nat) t v, Tryd.f7.params[j]? = some t → args[j]? = some v → Value.okWide Tryd.prog W .any base t v := hval0
  have hW' := hW
  obtain ⟨p, q, hA0, hV0, rfl, hfz, hnd⟩ := hW
  have hA : DataW.TrodAll enc Tryd.prog W 0 (fun _ => true) true Tryd.f7.params.toList args.toList ds p := hA0
  have hV : DataW.TrodVars enc Tryd.prog W (fun _ => true) ["loop.example/g00758/impl.limits"] gs q := hV0
  rw [Tryd.params7] at hA hval
  obtain ⟨v0, d0, rfl, rfl, h0⟩ := trodAll_one hA
  obtain ⟨g, tg, cs, fuel, dg, pg, rfl, _⟩ := trodVars_one hV
  obtain ⟨x0, rfl, rfl, rfl, w0⟩ := open_int Tryd.underlying3 (hval 0 3 v0 rfl rfl) h0
  refine (law_EmptyChart x0 W (bounds_i64 w0) (lims_of_laid hL)).mono fun e W' ⟨he, hb⟩ => ?_
  subst he
  exact ⟨_, rfl, ends_one hW' Tryd.params7 rfl rfl (by kernel_rfl) (of_decide_eq_true (by kernel_rfl)) (by kernel_rfl) hb⟩

theorem emptyChart_holds : Rows.FnExactEmptyChartSaid :=
  OpenClaim.holds_of_wide 7 Tryd.f7 rfl rfl rfl rfl rfl rfl rfl ⟨rfl, rfl, rfl, rfl, rfl⟩ rfl rfl rfl rfl rfl (by kernel_rfl) Tryd.func7 (by kernel_rfl)
    (of_decide_eq_true (by kernel_rfl)) (by unfold Func.isWrapper; first | (rw [if_pos (by decide +kernel)]; kernel_rfl) | (rw [if_neg (by decide +kernel)]; exact ⟨rfl, rfl⟩))
    (fun os started H enc _ => emptyChart_lifted os started H enc)

theorem emptyChart_card : Rows.FnExactEmptyChartCardSaid :=
  Claim7.holds_tied_plain_at .later [] [.data] true (true, "0ddedf4d80d5d8f2e345429263da6b8cad2651b6835fb3eaec4afe850fb80d0b") false
    emptyChart_holds (fun _ h => by cases h) (by kernel_rfl) (fun _ h => by cases h) fnExactEmptyChart_row_tie rfl ⟨rfl, rfl⟩ (by kernel_rfl) rfl
    (fun f fn hf hfn => by
      obtain rfl : f = 7 := Option.some.inj ((show Tryd.prog.funcNamed "loop.example/g00758/laws.FnExactEmptyChart" = some 7 by kernel_rfl).symm.trans hf) |>.symm
      obtain rfl : fn = Tryd.f7 := (Option.some.inj (Tryd.func7.symm.trans hfn)).symm
      exact ⟨by kernel_rfl, fun j t ht => by
        rw [Tryd.params7] at ht
        have hm : t ∈ [3] := by simpa using Array.mem_of_getElem? ht
        have hall : ([3].all fun u => !Tryd.prog.wantsStandIn u) = true := by kernel_rfl
        exact (show Tryd.prog.wantsStandIn t = false by simpa using List.all_eq_true.1 hall t hm)⟩)
    (by kernel_rfl)

#print axioms emptyChart_card
end Go.Proofs.YtaobkanliiiapaaDoor
