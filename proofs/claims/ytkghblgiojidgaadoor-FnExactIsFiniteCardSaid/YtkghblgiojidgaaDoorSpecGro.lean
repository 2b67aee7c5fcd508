/- The reference's l3Growing. -/
import Derived.Test.YtkghblgiojidgaaDoorSpecClo
import Derived.Test.YtkghblgiojidgaaDoorListP
namespace Go.Proofs.YtkghblgiojidgaaDoor
open Go.RowKit

theorem any_take {p : Int → Bool} {xs : List Int} {k : Nat} (hk : k < xs.length) : (xs.take (k + 1)).any p = ((xs.take k).any p || p xs[k]) := by
  rw [List.take_succ_eq_append_getElem hk, List.any_append]
  simp

set_option maxRecDepth 20000 in
set_option maxHeartbeats 2000000 in
theorem l3Growing_any (n t : Int) (A : Option Addr) (c : Nat) (rs : List Ru) (w : World) (hx : Rls w w.heap.size A rs) (hg : goodG n t (rs.map Ru.abs) = true) :
    Calls Tryd.prog 122 #[.agg #[.int .i64 n, .int .i64 t, .slice A rs.length c]] w (GaveV w fun ys => Rises ys ∧ (∀ x ∈ ys, 0 ≤ x ∧ x < 6) ∧ IsGrow (rs.map Ru.abs) (setL ys)) := by
  have h16 := good_16 hg
  have HX := Lib.hid hx; clear hx
  have HG := Lib.hid hg; clear hg
  have HB0 : Hid (Below w.heap.size w (w.alloc (.cells #[.int .i64 n, .int .i64 t, .slice A rs.length c] 30))) := by show Below _ _ _; go_grown
  have B00 : Hid (Box3 (w.alloc (.cells #[.int .i64 n, .int .i64 t, .slice A rs.length c] 30)) w.heap.size (.int .i64 n) (.int .i64 t) (.slice A rs.length c)) := ⟨by simp, by simp [go_sem], by simp [go_sem], by simp [go_sem]⟩
  go_enter Tryd.func122, Tryd.ntmps122
  go_wp2_with fail
  refine (l3Close_any n t A c rs true _ ((HX.out.keep HB0.out).more HB0.out.size) HG.out).mono ?_
  rintro e X ⟨vm, ms, rfl, ⟨hm1, hm2, hm3⟩, hm4, hm5⟩
  have hX0 : w.heap.size < X.heap.size := by have := hm5.size; simp at this; omega
  have B0 := Lib.hid (B00.out.keep hm5 (by simp))
  have HBX : Hid (Below w.heap.size w X) := HB0.out.trans (hm5.mono HB0.out.size)
  have HPR : Hid (IsLeast wayProd noS (rs.map Ru.abs) (setL ms)) := hm3
  have hms6 : ms.length ≤ 6 := len6 (S := setL ms) (hm1.imp fun h => by omega) (fun _ hx => setL_iff.2 hx) fun x hx => hm2 x (setL_iff.1 hx)
  obtain ⟨Am, cm, hvm, hcm, hIm⟩ := hm4.shape
  subst hvm
  have HIM := Lib.hid hIm
  clear hm1 hm2 hm3 hm4 hm5 hIm B00 HB0 hcm
  have HI0 : Hid (Inside (wayGrow (setL ms)) noS (rs.map Ru.abs) []) := ⟨List.Pairwise.nil, (fun x h => by cases h), (fun x h => by cases h), (fun x h => by cases h)⟩
  go_wp2
  go_loopg [4, 5] 13 (fun g v m wr => ∃ (more : Bool) (xs : List Int), m = .bool more ∧ g + 2 * xs.length = 12 + (if more then 1 else 0) ∧ Hid (OwnV wr w.heap.size v xs) ∧ Hid (Inside (wayGrow (setL ms)) noS (rs.map Ru.abs) xs) ∧ Hid (Below X.heap.size X wr) ∧ Hid (more = false → ∀ u ∈ rs, (wayGrow (setL ms)).fires (setL xs) u.abs = true → u.l ∈ xs))
  case atStart => exact ⟨true, [], rfl, rfl, OwnV.nil _ _, HI0.out, Below.refl _ _, fun h => by cases h⟩
  case round =>
    obtain ⟨more, xs, rfl, hgk, HV, HI, HB, HC⟩ := hrel
    have hl6 := HI.out.len
    cases more
    · have HD : Hid (IsLeast (wayGrow (setL ms)) noS (rs.map Ru.abs) (setL xs)) := HI.out.done fun r hr hf y hy => by
        obtain ⟨u, hu, rfl⟩ := List.mem_map.1 hr
        have hy' : y ∈ [u.l] := hy
        simp at hy'
        subst hy'
        exact HC.out rfl u hu hf
      have HW : Hid (Below w.heap.size w wr) := HBX.out.trans (HB.out.mono HBX.out.size)
      go_wp2
      go_ret
      exact ⟨_, xs, rfl, ⟨HI.out.rises, HI.out.fit, _, HPR.out, HD.out⟩, HV.out, HW.out⟩
    · rw [if_pos rfl] at hgk
      obtain ⟨wO, hwO⟩ : ∃ x, x = wr := ⟨_, rfl⟩
      subst hwO
      obtain ⟨_, b0, b1, b2⟩ := B0.out.keep HB.out hX0
      go_wp2
      clear b0 b1 b2
      go_loopw [4, 5, 18] (fun v m i wr => ∃ (k : Nat) (more : Bool) (ys : List Int), k ≤ rs.length ∧ i = .int .i64 k ∧ m = .bool more ∧ Hid (OwnV wr w.heap.size v ys) ∧ Hid (Inside (wayGrow (setL ms)) noS (rs.map Ru.abs) ys) ∧ Hid (Below X.heap.size X wr) ∧ Hid (more = true → xs.length < ys.length) ∧ Hid (more = false → ys = xs ∧ ∀ (j : Nat) (u : Ru), j < k → rs[j]? = some u → (wayGrow (setL ms)).fires (setL ys) u.abs = true → u.l ∈ ys)) (fun _ _ i _ => rs.length - (intOf i).toNat)
      case atStart => exact ⟨0, false, xs, by omega, rfl, rfl, HV.out, HI.out, HB.out, fun h => (by cases h), fun _ => ⟨rfl, fun j u h => absurd h (by omega)⟩⟩
      case round =>
        obtain ⟨k, more, ys, hk, rfl, rfl, HV2, HI2, HB2, HM2, HC2⟩ := hrel
        by_cases hlt : k < rs.length
        · have HW2 : Hid (Below w.heap.size w wr) := HBX.out.trans (HB2.out.mono HBX.out.size)
          obtain ⟨p, o, hA, hp, c1, c2, c3⟩ := ((HX.out.keep HW2.out).more HW2.out.size).at_ hlt
          have HR := Lib.hid c3; clear c3
          obtain ⟨Av, cv, hvv, hcv, hIv⟩ := HV2.out.shape
          subst hvv
          have HIV := Lib.hid hIv; clear hIv
          have hy6 := HI2.out.len
          have hum : rs[k].abs ∈ rs.map Ru.abs := List.mem_map.2 ⟨_, List.getElem_mem hlt, rfl⟩
          have h4 := good_len HG.out hum
          have HUM := Lib.hid hum; clear hum
          have HBR : Hid (Below wr.heap.size wr (wr.alloc (.cells #[.int .i64 rs[k].l, .slice rs[k].a rs[k].r.length rs[k].c] 61))) := (Below.refl _ _).alloc (Nat.le_refl _) _
          have BXR : Hid (Box2 (wr.alloc (.cells #[.int .i64 rs[k].l, .slice rs[k].a rs[k].r.length rs[k].c] 61)) wr.heap.size (.int .i64 rs[k].l) (.slice rs[k].a rs[k].r.length rs[k].c)) := ⟨by simp, by simp [go_sem], by simp [go_sem]⟩
          rw [hA]
          go_wp2
          obtain ⟨wM, hwM⟩ : ∃ x, x = wr := ⟨_, rfl⟩
          subst hwM
          clear c1 c2
          generalize (wM.alloc (.cells #[.int .i64 rs[k].l, .slice rs[k].a rs[k].r.length rs[k].c] 61)) = Y at *
          obtain ⟨_, r0, r1⟩ := BXR.out
          have HBY : Hid (Below X.heap.size X Y) := HB2.out.trans (HBR.out.mono HB2.out.size)
          have HIY := Lib.hid ((HIV.out.keep HBR.out).more HBR.out.size)
          have HMY := Lib.hid ((HIM.out.keep HBY.out).more HBY.out.size)
          have HRY := Lib.hid ((HR.out.keep HBR.out).more HBR.out.size)
          have HVY := Lib.hid (HV2.out.keep HBR.out)
          go_loopw [8, 9, 25] (fun a s i wr => ∃ (j : Nat), j ≤ rs[k].r.length ∧ i = .int .i64 j ∧ a = .bool ((rs[k].r.take j).all (tokS (setL ms))) ∧ s = .bool ((rs[k].r.take j).any (tokS (setL ys))) ∧ wr = Y) (fun _ _ i _ => rs[k].r.length - (intOf i).toNat)
          case atStart => exact ⟨0, by omega, rfl, by simp, by simp, rfl⟩
          case round =>
            obtain ⟨j, hj, rfl, rfl, rfl, rfl⟩ := hrel
            by_cases hjl : j < rs[k].r.length
            · obtain ⟨p2, o2, hA2, hp2, c1⟩ := HRY.out.at_ hjl
              have HNA := Lib.hid (all_take (p := tokS (setL ms)) hjl)
              have HNS := Lib.hid (any_take (p := tokS (setL ys)) hjl)
              generalize (rs[k].r.take j).all (tokS (setL ms)) = al at HNA ⊢
              generalize (rs[k].r.take j).any (tokS (setL ys)) = so at HNS ⊢
              rw [hA2]
              by_cases hneg : rs[k].r[j] < 0
              · rw [tokS_lt hneg] at HNA HNS
                cases al <;> cases so
                all_goals
                  go_wp2
                  go_roundw
                  case rel => exact ⟨j + 1, by omega, by go_num, by rw [HNA.out]; rfl, by rw [HNS.out]; rfl, by simp⟩
                  case measure => simp [intOf]; omega
              · rw [tokS_ge hneg] at HNA HNS
                have HCM := Lib.hid (l1Has6_any Am ms cm rs[k].r[j] wr HMY.out hms6)
                have HCY := Lib.hid (l1Has6_any Av ys cv rs[k].r[j] wr HIY.out hy6)
                have e1 : setL ms rs[k].r[j] = ms.contains rs[k].r[j] := rfl
                have e2 : setL ys rs[k].r[j] = ys.contains rs[k].r[j] := rfl
                rw [e1] at HNA
                rw [e2] at HNS
                clear e1 e2
                have HDD : Hid (decide (rs[k].r[j] < 0) = false) := decide_eq_false hneg
                generalize ms.contains rs[k].r[j] = q1 at HNA HCM
                generalize ys.contains rs[k].r[j] = q2 at HNS HCY
                cases al <;> cases so
                · go_wp2_with fail
                  refine HCY.out.mono ?_
                  rintro e w1 ⟨rfl, rfl⟩
                  go_wp2
                  go_roundw
                  case rel => exact ⟨j + 1, by omega, by go_num, by rw [HNA.out]; rfl, by rw [HNS.out]; first | rfl | rw [HDD.out], by simp⟩
                  case measure => simp [intOf]; omega
                · go_wp2
                  go_roundw
                  case rel => exact ⟨j + 1, by omega, by go_num, by rw [HNA.out]; rfl, by rw [HNS.out]; first | rfl | rw [HDD.out], by simp⟩
                  case measure => simp [intOf]; omega
                · go_wp2_with fail
                  refine HCM.out.mono ?_
                  rintro e w1 ⟨rfl, rfl⟩
                  go_wp2_with fail
                  refine HCY.out.mono ?_
                  rintro e w1 ⟨rfl, rfl⟩
                  go_wp2
                  go_roundw
                  case rel => exact ⟨j + 1, by omega, by go_num, by rw [HNA.out]; rfl, by rw [HNS.out]; first | rfl | rw [HDD.out], by simp⟩
                  case measure => simp [intOf]; omega
                · go_wp2_with fail
                  refine HCM.out.mono ?_
                  rintro e w1 ⟨rfl, rfl⟩
                  go_wp2
                  go_roundw
                  case rel => exact ⟨j + 1, by omega, by go_num, by rw [HNA.out]; rfl, by rw [HNS.out]; first | rfl | rw [HDD.out], by simp⟩
                  case measure => simp [intOf]; omega
            · obtain rfl : j = rs[k].r.length := by omega
              rw [List.take_length]
              have HFB : Hid ((wayGrow (setL ms)).fires (setL ys) rs[k].abs = (rs[k].r.all (tokS (setL ms)) && rs[k].r.any (tokS (setL ys)))) := rfl
              generalize rs[k].r.all (tokS (setL ms)) = al at HFB ⊢
              generalize rs[k].r.any (tokS (setL ys)) = so at HFB ⊢
              have HCL := Lib.hid (l1Has6_any Av ys cv rs[k].l wr HIY.out hy6)
              cases al
              · go_wp2
                go_roundw
                case rel =>
                  refine ⟨k + 1, more, ys, by omega, by go_num, rfl, HVY.out, HI2.out, HBY.out, HM2.out, fun h => ⟨(HC2.out h).1, fun i u hi hu hf => ?_⟩⟩
                  by_cases e : i = k
                  · subst e
                    rw [List.getElem?_eq_getElem hlt] at hu
                    injection hu with hu
                    subst hu
                    rw [HFB.out] at hf
                    cases hf
                  · exact (HC2.out h).2 i u (by omega) hu hf
                case measure => simp [intOf]; omega
              cases so
              · go_wp2
                go_roundw
                case rel =>
                  refine ⟨k + 1, more, ys, by omega, by go_num, rfl, HVY.out, HI2.out, HBY.out, HM2.out, fun h => ⟨(HC2.out h).1, fun i u hi hu hf => ?_⟩⟩
                  by_cases e : i = k
                  · subst e
                    rw [List.getElem?_eq_getElem hlt] at hu
                    injection hu with hu
                    subst hu
                    rw [HFB.out] at hf
                    cases hf
                  · exact (HC2.out h).2 i u (by omega) hu hf
                case measure => simp [intOf]; omega
              cases hh : ys.contains rs[k].l
              · rw [hh] at HCL
                have hn : rs[k].l ∉ ys := fun h => by rw [List.contains_iff_mem.2 h] at hh; cases hh
                have HPC := Lib.hid (l1Put_any w.heap.size _ ys rs[k].l wr HVY.out HI2.out.rises hn hy6)
                clear hn hh
                go_wp2_with fail
                refine HCL.out.mono ?_
                rintro e w1 ⟨rfl, rfl⟩
                go_wp2_with fail
                refine HPC.out.mono ?_
                rintro e w1 ⟨v1, zs, rfl, hz1, hz2, hz3, hz4, hz5⟩
                have HIZ : Hid (Inside (wayGrow (setL ms)) noS (rs.map Ru.abs) zs) := HI2.out.put hz1 hz2 HUM.out HFB.out (List.mem_singleton.2 rfl) (by have h5 := (goodG_mem HG.out HUM.out).1; have h6 := goodG_is HG.out; have : rs[k].abs.1 = rs[k].l := rfl; omega)
                have HVZ := Lib.hid (hz4.lower (lo' := w.heap.size) (by have := HBY.out.size; omega))
                have HBZ : Hid (Below X.heap.size X w1) := HBY.out.trans (hz5.mono HBY.out.size)
                have HLZ : Hid (xs.length < zs.length) := by
                  show _ < _
                  cases more
                  · rw [← (HC2.out rfl).1]; omega
                  · have := HM2.out rfl; omega
                clear hz1 hz2 hz3 hz4 hz5
                go_wp2
                go_roundw
                case rel => exact ⟨k + 1, true, zs, by omega, by go_num, rfl, HVZ.out, HIZ.out, HBZ.out, fun _ => HLZ.out, fun h => by cases h⟩
                case measure => simp [intOf]; omega
              · rw [hh] at HCL
                have HHH := Lib.hid hh; clear hh
                go_wp2_with fail
                refine HCL.out.mono ?_
                rintro e w1 ⟨rfl, rfl⟩
                go_wp2
                go_roundw
                case rel =>
                  refine ⟨k + 1, more, ys, by omega, by go_num, rfl, HVY.out, HI2.out, HBY.out, HM2.out, fun h => ⟨(HC2.out h).1, fun i u hi hu hf => ?_⟩⟩
                  by_cases e : i = k
                  · subst e
                    rw [List.getElem?_eq_getElem hlt] at hu
                    injection hu with hu
                    subst hu
                    exact List.contains_iff_mem.1 HHH.out
                  · exact (HC2.out h).2 i u (by omega) hu hf
                case measure => simp [intOf]; omega
        · obtain rfl : k = rs.length := by omega
          go_wp2
          go_roundg (12 + (if more then 1 else 0) - 2 * ys.length)
          case measure =>
            have := HI2.out.len
            cases more
            · rw [(HC2.out rfl).1]
              simp
              omega
            · have := HM2.out rfl
              simp
              omega
          case rel =>
            have := HI2.out.len
            refine ⟨more, ys, rfl, by omega, HV2.out, HI2.out, HB2.out, fun h u hu hf => ?_⟩
            obtain ⟨j, hj⟩ := List.mem_iff_getElem?.1 hu
            exact (HC2.out h).2 j u (List.getElem?_eq_some_iff.1 hj).1 hj hf

end Go.Proofs.YtkghblgiojidgaaDoor
