/- The reference's l3Reached. -/
import Derived.Test.YtkghblgiojidgaaDoorSpecClo
namespace Go.Proofs.YtkghblgiojidgaaDoor
open Go.RowKit

theorem one_own (w : World) (x : Int) : OwnV (w.alloc (.cells #[.int .i64 x] 3)) w.heap.size (.slice (some ⟨w.heap.size, 0, none⟩) 1 1) [x] :=
  ⟨rfl, .inr ⟨w.heap.size, 1, _, rfl, Nat.le_refl _, heap_alloc_new w _, Nat.le_refl _, by simp [maxLen], rfl, rfl⟩⟩

theorem reach_fires (xs : List Int) (u : Ru) : wayReach.fires (setL xs) u.abs = xs.contains u.l := rfl
theorem reach_adds {u : Ru} {y : Int} : y ∈ wayReach.adds u.abs ↔ y ∈ u.r ∧ 0 ≤ y := by
  show y ∈ u.r.filter _ ↔ _
  simp

set_option maxRecDepth 20000 in
set_option maxHeartbeats 2000000 in
theorem l3Reached_any (n t : Int) (A : Option Addr) (c : Nat) (rs : List Ru) (w : World) (hx : Rls w w.heap.size A rs) (hg : goodG n t (rs.map Ru.abs) = true) :
    Calls Tryd.prog 121 #[.agg #[.int .i64 n, .int .i64 t, .slice A rs.length c]] w (GaveV w fun ys => Rises ys ∧ (∀ x ∈ ys, 0 ≤ x ∧ x < 6) ∧ IsLeast wayReach (oneS 0) (rs.map Ru.abs) (setL ys)) := by
  have h16 := good_16 hg
  have HX := Lib.hid hx; clear hx
  have HG := Lib.hid hg; clear hg
  have HB0 : Hid (Below w.heap.size w (w.alloc (.cells #[.int .i64 n, .int .i64 t, .slice A rs.length c] 30))) := by show Below _ _ _; go_grown
  have B0 : Hid (Box3 (w.alloc (.cells #[.int .i64 n, .int .i64 t, .slice A rs.length c] 30)) w.heap.size (.int .i64 n) (.int .i64 t) (.slice A rs.length c)) := ⟨by simp, by simp [go_sem], by simp [go_sem], by simp [go_sem]⟩
  have HI0 : Hid (Inside wayReach (oneS 0) (rs.map Ru.abs) [0]) := ⟨List.pairwise_singleton _ _, (fun x h => by simp at h; omega), (fun x h => by simp at h; subst h; exact Least.start (by simp [oneS])), (fun x h => by simpa [oneS] using h)⟩
  have HO0 := Lib.hid (one_own (w.alloc (.cells #[.int .i64 n, .int .i64 t, .slice A rs.length c] 30)) 0)
  have HB1 : Hid (Below (w.alloc (.cells #[.int .i64 n, .int .i64 t, .slice A rs.length c] 30)).heap.size (w.alloc (.cells #[.int .i64 n, .int .i64 t, .slice A rs.length c] 30)) ((w.alloc (.cells #[.int .i64 n, .int .i64 t, .slice A rs.length c] 30)).alloc (.cells #[.int .i64 0] 3))) := (Below.refl _ _).alloc (Nat.le_refl _) _
  have hsz : (w.alloc (.cells #[.int .i64 n, .int .i64 t, .slice A rs.length c] 30)).heap.size = w.heap.size + 1 := by simp
  rw [hsz] at HO0
  go_enter Tryd.func121, Tryd.ntmps121
  go_wp2
  generalize (w.alloc (.cells #[.int .i64 n, .int .i64 t, .slice A rs.length c] 30)) = X at *
  generalize (X.alloc (.cells #[.int .i64 0] 3)) = X1 at *
  have hXs := B0.out.1
  go_loopg [3, 4] 13 (fun g v m wr => ∃ (more : Bool) (xs : List Int), m = .bool more ∧ g + 2 * xs.length = 14 + (if more then 1 else 0) ∧ Hid (OwnV wr w.heap.size v xs) ∧ Hid (Inside wayReach (oneS 0) (rs.map Ru.abs) xs) ∧ Hid (Below X.heap.size X wr) ∧ Hid (more = false → ∀ u ∈ rs, xs.contains u.l = true → ∀ y ∈ u.r, 0 ≤ y → y ∈ xs))
  case atStart => exact ⟨true, [0], rfl, rfl, HO0.out.lower (by omega), HI0.out, HB1.out, fun h => by cases h⟩
  case round =>
    obtain ⟨more, xs, rfl, hgk, HV, HI, HB, HC⟩ := hrel
    clear HO0 HI0 HB1
    have hl6 := HI.out.len
    cases more
    · have HD : Hid (IsLeast wayReach (oneS 0) (rs.map Ru.abs) (setL xs)) := HI.out.done fun r hr hf y hy => by
        obtain ⟨u, hu, rfl⟩ := List.mem_map.1 hr
        have h1 := reach_adds.1 hy
        exact HC.out rfl u hu hf y h1.1 h1.2
      have HW : Hid (Below w.heap.size w wr) := HB0.out.trans (HB.out.mono HB0.out.size)
      go_wp2
      go_ret
      exact ⟨_, xs, rfl, ⟨HI.out.rises, HI.out.fit, HD.out⟩, HV.out, HW.out⟩
    · rw [if_pos rfl] at hgk
      obtain ⟨wO, hwO⟩ : ∃ x, x = wr := ⟨_, rfl⟩
      subst hwO
      obtain ⟨_, b0, b1, b2⟩ := B0.out.keep HB.out hXs
      go_wp2
      clear b0 b1 b2
      go_loopw [3, 4, 14] (fun v m i wr => ∃ (k : Nat) (more : Bool) (ys : List Int), k ≤ rs.length ∧ i = .int .i64 k ∧ m = .bool more ∧ Hid (OwnV wr w.heap.size v ys) ∧ Hid (Inside wayReach (oneS 0) (rs.map Ru.abs) ys) ∧ Hid (Below X.heap.size X wr) ∧ Hid (more = true → xs.length < ys.length) ∧ Hid (more = false → ys = xs ∧ ∀ (j : Nat) (u : Ru), j < k → rs[j]? = some u → ys.contains u.l = true → ∀ y ∈ u.r, 0 ≤ y → y ∈ ys)) (fun _ _ i _ => rs.length - (intOf i).toNat)
      case atStart => exact ⟨0, false, xs, by omega, rfl, rfl, HV.out, HI.out, HB.out, fun h => (by cases h), fun _ => ⟨rfl, fun j u h => absurd h (by omega)⟩⟩
      case round =>
        obtain ⟨k, more, ys, hk, rfl, rfl, HV2, HI2, HB2, HM2, HC2⟩ := hrel
        by_cases hlt : k < rs.length
        · have HW2 : Hid (Below w.heap.size w wr) := HB0.out.trans (HB2.out.mono HB0.out.size)
          obtain ⟨p, o, hA, hp, c1, c2, c3⟩ := ((HX.out.keep HW2.out).more HW2.out.size).at_ hlt
          have HR := Lib.hid c3; clear c3
          have hum : rs[k].abs ∈ rs.map Ru.abs := List.mem_map.2 ⟨_, List.getElem_mem hlt, rfl⟩
          have h4 := good_len HG.out hum
          have HUM := Lib.hid hum; clear hum
          have HBR : Hid (Below wr.heap.size wr (wr.alloc (.cells #[.int .i64 rs[k].l, .slice rs[k].a rs[k].r.length rs[k].c] 61))) := (Below.refl _ _).alloc (Nat.le_refl _) _
          have BXR : Hid (Box2 (wr.alloc (.cells #[.int .i64 rs[k].l, .slice rs[k].a rs[k].r.length rs[k].c] 61)) wr.heap.size (.int .i64 rs[k].l) (.slice rs[k].a rs[k].r.length rs[k].c)) := ⟨by simp, by simp [go_sem], by simp [go_sem]⟩
          rw [hA]
          go_wp2
          obtain ⟨wM, hwM⟩ : ∃ x, x = wr := ⟨_, rfl⟩
          subst hwM
          clear c1 c2
          generalize (wM.alloc (.cells #[.int .i64 rs[k].l, .slice rs[k].a rs[k].r.length rs[k].c] 61)) = Y at *
          have HBY : Hid (Below X.heap.size X Y) := HB2.out.trans (HBR.out.mono HB2.out.size)
          have HVY := Lib.hid (HV2.out.keep HBR.out)
          have HRY := Lib.hid ((HR.out.keep HBR.out).more HBR.out.size)
          have hYs : w.heap.size ≤ Y.heap.size := by have := HBY.out.size; omega
          go_loopw [3, 4, 21] (fun v m i wr => ∃ (j : Nat) (more2 : Bool) (zs : List Int), j ≤ rs[k].r.length ∧ i = .int .i64 j ∧ m = .bool more2 ∧ Hid (OwnV wr w.heap.size v zs) ∧ Hid (Inside wayReach (oneS 0) (rs.map Ru.abs) zs) ∧ Hid (Below Y.heap.size Y wr) ∧ Hid (more2 = true → xs.length < zs.length) ∧ Hid (more2 = false → more = false ∧ zs = ys ∧ ∀ (i : Nat) (y : Int), i < j → rs[k].r[i]? = some y → 0 ≤ y → zs.contains rs[k].l = true → y ∈ zs)) (fun _ _ i _ => rs[k].r.length - (intOf i).toNat)
          case atStart =>
            refine ⟨0, more, ys, by omega, rfl, rfl, HVY.out, HI2.out, Below.refl _ _, HM2.out, fun h => ⟨h, rfl, fun i y h => absurd h (by omega)⟩⟩
          case round =>
            obtain ⟨j, more2, zs, hj, rfl, rfl, HV3, HI3, HB3, HM3, HC3⟩ := hrel
            by_cases hjl : j < rs[k].r.length
            · obtain ⟨p2, o2, hA2, hp2, c1⟩ := ((HRY.out.keep HB3.out).more HB3.out.size).at_ hjl
              obtain ⟨_, r0, r1⟩ := BXR.out.keep HB3.out BXR.out.1
              obtain ⟨Av, cv, hvv, hcv, hIv⟩ := HV3.out.shape
              subst hvv
              have HIV := Lib.hid hIv; clear hIv
              have hz6 := HI3.out.len
              have HCL := Lib.hid (l1Has6_any Av zs cv rs[k].l wr HIV.out hz6)
              have HCX := Lib.hid (l1Has6_any Av zs cv rs[k].r[j] wr HIV.out hz6)
              rw [hA2]
              by_cases hneg : rs[k].r[j] < 0
              · go_wp2
                go_roundw
                case rel =>
                  refine ⟨j + 1, more2, zs, by omega, by go_num, rfl, HV3.out, HI3.out, HB3.out, HM3.out, fun h => ⟨(HC3.out h).1, (HC3.out h).2.1, ?_⟩⟩
                  intro i y hi hy h0 hl
                  by_cases e : i = j
                  · subst e
                    rw [List.getElem?_eq_getElem hjl] at hy
                    injection hy with hy
                    omega
                  · exact (HC3.out h).2.2 i y (by omega) hy h0 hl
                case measure => simp [intOf]; omega
              · cases hl : zs.contains rs[k].l
                · rw [hl] at HCL
                  have HL := Lib.hid hl; clear hl
                  go_wp2_with fail
                  refine HCL.out.mono ?_
                  rintro e w1 ⟨rfl, rfl⟩
                  go_wp2
                  go_roundw
                  case rel => exact ⟨j + 1, more2, zs, by omega, by go_num, rfl, HV3.out, HI3.out, HB3.out, HM3.out, fun h => ⟨(HC3.out h).1, (HC3.out h).2.1, fun i y hi hy h0 hl2 => by rw [HL.out] at hl2; cases hl2⟩⟩
                  case measure => simp [intOf]; omega
                · rw [hl] at HCL
                  have HL := Lib.hid hl; clear hl
                  cases hm : zs.contains rs[k].r[j]
                  · rw [hm] at HCX
                    have hn : rs[k].r[j] ∉ zs := fun h => by rw [List.contains_iff_mem.2 h] at hm; cases hm
                    have HPC := Lib.hid (l1Put_any w.heap.size _ zs rs[k].r[j] wr HV3.out HI3.out.rises hn hz6)
                    clear hn hm
                    go_wp2_with fail
                    refine HCL.out.mono ?_
                    rintro e w1 ⟨rfl, rfl⟩
                    go_wp2_with fail
                    refine HCX.out.mono ?_
                    rintro e w1 ⟨rfl, rfl⟩
                    go_wp2_with fail
                    refine HPC.out.mono ?_
                    rintro e w1 ⟨v1, qs, rfl, hq1, hq2, hq3, hq4, hq5⟩
                    have HIZ : Hid (Inside wayReach (oneS 0) (rs.map Ru.abs) qs) := HI3.out.put hq1 hq2 HUM.out HL.out (reach_adds.2 ⟨List.getElem_mem hjl, by omega⟩) (by have h5 := (goodG_mem HG.out HUM.out).2.2 _ (List.getElem_mem hjl); have h6 := goodG_is HG.out; omega)
                    have HVZ := Lib.hid (hq4.lower (lo' := w.heap.size) (by have := HB3.out.size; omega))
                    have HBZ : Hid (Below Y.heap.size Y w1) := HB3.out.trans (hq5.mono HB3.out.size)
                    have HLZ : Hid (xs.length < qs.length) := by
                      show _ < _
                      cases more2
                      · obtain ⟨e1, e2, _⟩ := HC3.out rfl
                        have e3 := (HC2.out e1).1
                        rw [← e3, ← e2]; omega
                      · have := HM3.out rfl; omega
                    clear hq1 hq2 hq3 hq4 hq5
                    go_wp2
                    go_roundw
                    case rel => exact ⟨j + 1, true, qs, by omega, by go_num, rfl, HVZ.out, HIZ.out, HBZ.out, fun _ => HLZ.out, fun h => by cases h⟩
                    case measure => simp [intOf]; omega
                  · rw [hm] at HCX
                    have HMM := Lib.hid hm; clear hm
                    go_wp2_with fail
                    refine HCL.out.mono ?_
                    rintro e w1 ⟨rfl, rfl⟩
                    go_wp2_with fail
                    refine HCX.out.mono ?_
                    rintro e w1 ⟨rfl, rfl⟩
                    go_wp2
                    go_roundw
                    case rel =>
                      refine ⟨j + 1, more2, zs, by omega, by go_num, rfl, HV3.out, HI3.out, HB3.out, HM3.out, fun h => ⟨(HC3.out h).1, (HC3.out h).2.1, ?_⟩⟩
                      intro i y hi hy h0 hl
                      by_cases e : i = j
                      · subst e
                        rw [List.getElem?_eq_getElem hjl] at hy
                        injection hy with hy
                        subst hy
                        exact List.contains_iff_mem.1 HMM.out
                      · exact (HC3.out h).2.2 i y (by omega) hy h0 hl
                    case measure => simp [intOf]; omega
            · obtain rfl : j = rs[k].r.length := by omega
              have HBW : Hid (Below X.heap.size X wr) := HBY.out.trans (HB3.out.mono HBY.out.size)
              go_wp2
              go_roundw
              case rel =>
                refine ⟨k + 1, more2, zs, by omega, by go_num, rfl, HV3.out, HI3.out, HBW.out, HM3.out, fun h => ?_⟩
                obtain ⟨e1, e2, e3⟩ := HC3.out h
                obtain ⟨f1, f2⟩ := HC2.out e1
                refine ⟨e2.trans f1, fun i u hi hu hl y hy h0 => ?_⟩
                by_cases e : i = k
                · subst e
                  rw [List.getElem?_eq_getElem hlt] at hu
                  injection hu with hu
                  subst hu
                  obtain ⟨q, hq⟩ := List.mem_iff_getElem?.1 hy
                  exact e3 q y (List.getElem?_eq_some_iff.1 hq).1 hq h0 hl
                · subst e2
                  exact f2 i u (by omega) hu hl y hy h0
              case measure => simp [intOf]; omega
        · obtain rfl : k = rs.length := by omega
          go_wp2
          go_roundg (14 + (if more then 1 else 0) - 2 * ys.length)
          case measure =>
            have := HI2.out.len
            cases more
            · rw [(HC2.out rfl).1]
              simp
              omega
            · have := HM2.out rfl
              simp
              omega
          case rel =>
            have := HI2.out.len
            refine ⟨more, ys, rfl, by omega, HV2.out, HI2.out, HB2.out, fun h u hu hf => ?_⟩
            obtain ⟨j, hj⟩ := List.mem_iff_getElem?.1 hu
            exact (HC2.out h).2 j u (List.getElem?_eq_some_iff.1 hj).1 hj hf

end Go.Proofs.YtkghblgiojidgaaDoor
