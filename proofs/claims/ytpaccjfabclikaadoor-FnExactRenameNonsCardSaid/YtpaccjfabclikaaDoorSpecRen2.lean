/- What the reference's RenameNons answers: its walk. -/
import Derived.Test.YtpaccjfabclikaaDoorSpecRen
namespace Go.Proofs.YtpaccjfabclikaaDoor
open Go.RowKit

set_option maxHeartbeats 4000000 in
theorem specRen_any (n t : Int) (A B : Option Addr) (c d : Nat) (rs : List Ru) (to : List Int) (w : World) (hx : Rls w w.heap.size A rs) (hy : Ints w w.heap.size B to) (hc : rs.length ≤ c) (hd : to.length ≤ d) (h1 : rs.length ≤ 1048576) (h2 : ∀ u ∈ rs, u.r.length ≤ 1048576) (h3 : to.length ≤ 1048576) :
    Calls Tryd.prog 29 #[.agg #[.int .i64 n, .int .i64 t, .slice A rs.length c], .slice B to.length d] w (GaveGB w n t (renA to (rs.map Ru.abs)) (okRen n t (rs.map Ru.abs) to)) := by
  have HX := Lib.hid hx; clear hx
  have HY := Lib.hid hy; clear hy
  have H2 := Lib.hid h2; clear h2
  generalize hW : ((w.alloc (.cells #[.int .i64 n, .int .i64 t, .slice A rs.length c] 29)).alloc (.cells #[.int .i64 0, .int .i64 0, .slice none 0 0] 29)) = W
  have HB0 : Hid (Below w.heap.size w W) := by subst hW; show Below _ _ _; go_grown
  have B0 : Hid (Box3 W w.heap.size (.int .i64 n) (.int .i64 t) (.slice A rs.length c)) := by subst hW; exact ⟨by simp; omega, by simp [go_sem], by simp [go_sem], by simp [go_sem]⟩
  have R0 : Hid (Row W (w.heap.size + 1) 29 #[.int .i64 0, .int .i64 0, .slice none 0 0]) := by
    subst hW
    have h := Row.new (w.alloc (.cells #[.int .i64 n, .int .i64 t, .slice A rs.length c] 29)) 29 #[.int .i64 0, .int .i64 0, .slice none 0 0]
    rwa [World.size_alloc] at h
  have HWE := Lib.hid hW; clear hW
  go_enter Tryd.func29, Tryd.ntmps29
  go_wp2_with fail
  rw [HWE.out]
  refine (specGood_any _ _ _ _ _ _ ((HX.out.keep HB0.out).more HB0.out.size) hc h1 H2.out).mono ?_
  rintro e w1 ⟨rfl, hB1⟩
  have B1 := Lib.hid (B0.out.keep hB1 B0.out.1)
  have R1 := Lib.hid (R0.out.below hB1 R0.out.lt)
  have HB1 := Lib.hid (HB0.out.trans (hB1.mono HB0.out.size)); clear hB1
  clear HWE B0 R0 HB0
  obtain ⟨_, b0, b1, b2⟩ := B1.out
  have d0 := R1.out.cell 0
  have d1 := R1.out.cell 1
  have d2 := R1.out.cell 2
  have g0 := R1.out.frozen 0
  have g1 := R1.out.frozen 1
  have g2 := R1.out.frozen 2
  simp at d0 d1 d2
  cases hg : goodG n t (rs.map Ru.abs)
  · have HG := Lib.hid (okRen_no (to := to) hg); clear hg
    go_wp2
    refine bodyPost_ret (v := .tuple #[.agg #[.int .i64 0, .int .i64 0, .slice none 0 0], .bool false]) (by simp [results, Tryd.results29, go_sem, d0, d1, d2]) rfl ?_
    rw [HG.out]
    refine gave_none ?_
    exact ((HB1.out.setCell (by simp) _).setCell (by simp) _).setCell (by simp) _
  have HG := Lib.hid hg
  have HOK := Lib.hid (okRen_yes (to := to) hg)
  have n1 := (goodG_is hg).1.1
  have n2 := (goodG_is hg).1.2
  clear hg
  by_cases hl : (to.length : Int) = n
  case neg =>
    have HRN : Hid (okRen n t (rs.map Ru.abs) to = false) := HOK.out.trans (renB_len hl)
    have hb := bne_t hl
    clear hl
    go_wp2
    refine bodyPost_ret (v := .tuple #[.agg #[.int .i64 0, .int .i64 0, .slice none 0 0], .bool false]) (by simp [results, Tryd.results29, go_sem, d0, d1, d2]) rfl ?_
    rw [HRN.out]
    refine gave_none ?_
    exact ((HB1.out.setCell (by simp) _).setCell (by simp) _).setCell (by simp) _
  have hbn := bne_f hl
  have hpos : 0 < to.length := by omega
  have HTN := Lib.hid hl; clear hl
  go_wp2_with fail
  refine (l1All_any _ _ _ _ _ _ ((HY.out.keep HB1.out).more HB1.out.size) h3).mono ?_
  rintro e w2 ⟨rfl, hB2⟩
  clear b0 b1 b2 d0 d1 d2 g0 g1 g2
  have B2 := Lib.hid (B1.out.keep hB2 B1.out.1)
  have R2 := Lib.hid (R1.out.below hB2 R1.out.lt)
  have HB2 := Lib.hid (HB1.out.trans (hB2.mono HB1.out.size)); clear hB2
  clear B1 R1 HB1
  have d0 := R2.out.cell 0
  have d1 := R2.out.cell 1
  have d2 := R2.out.cell 2
  have g0 := R2.out.frozen 0
  have g1 := R2.out.frozen 1
  have g2 := R2.out.frozen 2
  simp at d0 d1 d2
  cases ha : allB 0 (n - 1) to
  · have HRN : Hid (okRen n t (rs.map Ru.abs) to = false) := HOK.out.trans (renB_noall (notall_ren ha))
    clear ha
    go_wp2
    refine bodyPost_ret (v := .tuple #[.agg #[.int .i64 0, .int .i64 0, .slice none 0 0], .bool false]) (by simp [results, Tryd.results29, go_sem, d0, d1, d2]) rfl ?_
    rw [HRN.out]
    refine gave_none ?_
    exact ((HB2.out.setCell (by simp) _).setCell (by simp) _).setCell (by simp) _
  have HALL := Lib.hid ha; clear ha
  obtain ⟨b, o, rfl, hbb, c0⟩ := (HY.out.keep HB2.out).at_ hpos
  rw [Nat.add_zero] at c0
  by_cases hz : to[0] = 0
  case neg =>
    have HRN : Hid (okRen n t (rs.map Ru.abs) to = false) := HOK.out.trans (renB_first (by rw [getD_zero hpos]; exact hz))
    have hz' := bne_t hz
    clear hz
    go_wp2
    refine bodyPost_ret (v := .tuple #[.agg #[.int .i64 0, .int .i64 0, .slice none 0 0], .bool false]) (by simp [results, Tryd.results29, go_sem, d0, d1, d2]) rfl ?_
    rw [HRN.out]
    refine gave_none ?_
    exact ((HB2.out.setCell (by simp) _).setCell (by simp) _).setCell (by simp) _
  have HRA : Hid (okRen n t (rs.map Ru.abs) to = renAll n to) := HOK.out.trans (renB_all HTN.out (by rw [getD_zero hpos]; exact hz))
  have hz' := bne_f hz
  clear hz
  go_wp2
  go_loopw [40] (fun i wr => ∃ (k : Nat), k ≤ to.length ∧ i = .int .i64 k ∧ Hid (Below w2.heap.size w2 wr) ∧ Hid (okTo n to k)) (fun i _ => to.length - (intOf i).toNat)
  case atStart => exact ⟨0, by omega, rfl, Below.refl _ _, fun j x h => absurd h (by omega)⟩
  case round =>
    clear c0 hz' hbn d0 d1 d2 g0 g1 g2
    obtain ⟨k, hk, rfl, HB, H⟩ := hrel
    have HBw := Lib.hid (HB2.out.trans (HB.out.mono HB2.out.size))
    by_cases hlt : k < to.length
    · obtain ⟨b', o', e, _, c1⟩ := (HY.out.keep HBw.out).at_ hlt
      injection e with e
      injection e with e1 e2
      subst e1 e2
      have htl : (to.take k).length = k := by rw [List.length_take]; omega
      have HC : Hid (Calls Tryd.prog 53 #[.slice (some ⟨b, o, none⟩) k d, .int .i64 to[k]] wr fun e w' => e = .returned (.bool (hasI (to.take k) to[k])) ∧ Below wr.heap.size wr w') := by
        have h := l1Has_any (some ⟨b, o, none⟩) (to.take k) d to[k] wr (((HY.out.keep HBw.out).more HBw.out.size).take k) (by omega)
        rw [htl] at h
        exact h
      clear htl
      cases hh : hasI (to.take k) to[k]
      · have HH := Lib.hid hh; clear hh
        rw [HH.out] at HC
        go_wp2_with fail
        refine HC.out.mono ?_
        rintro e w3 ⟨rfl, hB3⟩
        have HB3 := Lib.hid (HB.out.trans (hB3.mono HB.out.size)); clear hB3
        go_wp2
        go_roundw
        case rel => exact ⟨k + 1, by omega, by go_num, HB3.out, okTo_step hlt (all_okTo HALL.out (List.getElem?_eq_getElem hlt)) HH.out H.out⟩
        case measure => simp [intOf]; omega
      · have HH := Lib.hid hh; clear hh
        rw [HH.out] at HC
        have HRN : Hid (okRen n t (rs.map Ru.abs) to = false) := HRA.out.trans (renAll_bad hlt (.inr HH.out))
        go_wp2_with fail
        refine HC.out.mono ?_
        rintro e w3 ⟨rfl, hB3⟩
        have HB3 := Lib.hid (HB.out.trans (hB3.mono HB.out.size)); clear hB3
        have R3 := Lib.hid (R2.out.below HB3.out R2.out.lt)
        have HW3 := Lib.hid (HB2.out.trans (HB3.out.mono HB2.out.size))
        have d0 := R3.out.cell 0
        have d1 := R3.out.cell 1
        have d2 := R3.out.cell 2
        have g0 := R3.out.frozen 0
        have g1 := R3.out.frozen 1
        have g2 := R3.out.frozen 2
        simp at d0 d1 d2
        go_wp2
        refine bodyPost_ret (v := .tuple #[.agg #[.int .i64 0, .int .i64 0, .slice none 0 0], .bool false]) (by simp [results, Tryd.results29, go_sem, d0, d1, d2]) rfl ?_
        rw [HRN.out]
        refine gave_none ?_
        exact ((HW3.out.setCell (by simp) _).setCell (by simp) _).setCell (by simp) _
    have HRN : Hid (okRen n t (rs.map Ru.abs) to = true) := HRA.out.trans (renAll_of hlt H.out)
    have B3 := Lib.hid (B2.out.keep HB.out B2.out.1)
    have R3 := Lib.hid (R2.out.below HB.out R2.out.lt)
    obtain ⟨_, b0, b1, b2⟩ := B3.out
    go_wp2_with fail
    refine (l1OwnG_any _ _ _ _ _ _ ((HX.out.keep HBw.out).more HBw.out.size) h1 H2.out).mono ?_
    rintro e w4 ⟨A2, c2, rs2, rfl, _, hO2, ha2, hB4⟩
    have hl2 := abs_len' ha2
    have hlen2 : rs2.length ≤ 1048576 := by omega
    have HA2 := Lib.hid ha2; clear ha2
    have R4 := Lib.hid (R3.out.below hB4 R3.out.lt)
    have HLO := Lib.hid R3.out.lt
    have HS4 := Lib.hid hB4.size
    have HB4 := Lib.hid (HBw.out.trans (hB4.mono HBw.out.size)); clear hB4
    have HO2 := Lib.hid hO2; clear hO2
    have HLL := Lib.hid hl2; clear hl2
    clear b0 b1 b2
    obtain ⟨wA, hwA⟩ : ∃ x, x = wr := ⟨_, rfl⟩
    subst hwA
    have HLA := Lib.hid HBw.out.size
    clear HB HBw B3 R3 R2 B2 H
    go_wp2
    go_loopw [57] (fun i wq => ∃ (k : Nat) (ds : List Ru), k ≤ rs2.length ∧ i = .int .i64 k ∧ Below w.heap.size w wq ∧ w4.heap.size < wq.heap.size ∧ Hid (ds.map Ru.abs = renToA to (rs.map Ru.abs) k) ∧ Hid (OwnR wq wA.heap.size A2 ds) ∧ Hid (Row wq (w.heap.size + 1) 29 #[.int .i64 0, .int .i64 0, .slice none 0 0]) ∧ Hid (Row wq w4.heap.size 29 #[.int .i64 n, .int .i64 t, .slice A2 rs2.length c2])) (fun i _ => rs2.length - (intOf i).toNat)
    case atStart => exact ⟨0, rs2, by omega, rfl, HB4.out.alloc HB4.out.size _, by simp, by show _ = _; rw [renToA_zero]; exact HA2.out, HO2.out.below (B := w4.heap.size) ((Below.refl _ _).alloc (Nat.le_refl _) _) (Nat.le_refl _), R4.out.alloc _, Row.new _ _ _⟩
    case round =>
      obtain ⟨k, ds, hk, rfl, hB, hsz, HD, HO, HR1, HR2⟩ := hrel
      by_cases hlt : k < rs2.length
      case neg =>
        have HDN : Hid (ds.map Ru.abs = renA to (rs.map Ru.abs)) := by
          show _ = _
          rw [HD.out, renToA_done (by have := HLL.out; simp; omega)]
        have hdl : ds.length = rs2.length := by
          have := congrArg List.length HDN.out
          simp [renA] at this
          have := HLL.out
          omega
        have HLD := Lib.hid hdl; clear hdl
        have o0 := HR2.out.cell 0
        have o1 := HR2.out.cell 1
        have o2 := HR2.out.cell 2
        have d0 := HR1.out.cell 0
        have d1 := HR1.out.cell 1
        have d2 := HR1.out.cell 2
        have g0 := HR1.out.frozen 0
        have g1 := HR1.out.frozen 1
        have g2 := HR1.out.frozen 2
        simp at o0 o1 o2 d0 d1 d2
        have hlo := HLO.out
        go_wp2
        refine bodyPost_ret (v := .tuple #[.agg #[.int .i64 n, .int .i64 t, .slice A2 rs2.length c2], .bool true]) (by simp [results, Tryd.results29, go_sem, d0, d1, d2]) rfl ⟨A2, c2, ds, by rw [HLD.out, HRN.out]; rfl, ?_, ?_, ?_⟩
        · exact (((HO.out.low (by simp; omega) _).low (by simp; omega) _).low (by simp; omega) _).lower HLA.out
        · rw [HDN.out, HRN.out]; rfl
        · exact ((hB.setCell (by simp) _).setCell (by simp) _).setCell (by simp) _
      have hdl : ds.length = rs2.length := by
        have := congrArg List.length HD.out
        simp [renToA] at this
        have := HLL.out
        omega
      have hltd : k < ds.length := by omega
      have hltr : k < rs.length := by have := HLL.out; omega
      have HDK : Hid (ds[k].abs = rs[k].abs) := by
        show _ = _
        have := congrArg (fun l => l[k]?) HD.out
        simp only [List.getElem?_map, List.getElem?_eq_getElem hltd, Option.map_some] at this
        rw [renToA_at (by simpa using hltr)] at this
        simpa using this
      have HER : Hid (ds[k].r = rs[k].r) := congrArg Prod.snd HDK.out
      have HEL : Hid (ds[k].l = rs[k].l) := congrArg Prod.fst HDK.out
      have hul : ds[k].r.length ≤ 1048576 := by rw [HER.out]; exact H2.out _ (List.getElem_mem hltr)
      have HSY : Hid (∀ (j : Nat) (hj : j < ds[k].r.length), ds[k].r[j] < to.length) := fun j hj => by
        have h := good_sym HG.out hltr (j := j) (by rw [← HER.out]; exact hj)
        have e : ds[k].r[j] = rs[k].r[j]'(by rw [← HER.out]; exact hj) := by simp only [HER.out]
        rw [e]
        have := HTN.out
        omega
      obtain ⟨hl0, hl1⟩ := good_left HG.out hltr
      obtain ⟨m, hm⟩ : ∃ m : Nat, ds[k].l = (m : Int) := ⟨ds[k].l.toNat, by have := HEL.out; omega⟩
      have hml : m < to.length := by have := HTN.out; have := HEL.out; omega
      clear hl0 hl1
      obtain ⟨g, rfl, hgA, hgl, c1, c2', f1, f2, c3⟩ := HO.out.at_ hltd
      rw [hm] at c1
      have HM := Lib.hid hm; clear hm c3
      have o2 := HR2.out.cell 2
      simp at o2
      obtain ⟨b', o', e, _, t1⟩ := (HY.out.keep hB).at_ hml
      injection e with e
      injection e with e1 e2
      subst e1 e2
      have HLD := Lib.hid hdl; clear hdl
      have hne4 : w4.heap.size ≠ g := HO.out.row_ne hltd HR2.out (by decide)
      go_wp2_with fail
      have hBA := below_new wr (.cells #[.int .i64 (m : Int), .slice ds[k].a ds[k].r.length ds[k].c] 52)
      have BU : Box2 (wr.alloc (.cells #[.int .i64 (m : Int), .slice ds[k].a ds[k].r.length ds[k].c] 52)) wr.heap.size (.int .i64 (m : Int)) (.slice ds[k].a ds[k].r.length ds[k].c) := ⟨by simp, by simp [go_sem], by simp [go_sem]⟩
      generalize (wr.alloc (.cells #[.int .i64 (m : Int), .slice ds[k].a ds[k].r.length ds[k].c] 52)) = V at hBA BU ⊢
      have c1V := (hBA.cell (p := ⟨g, k * 2, none⟩) hgl).trans c1
      have f1V := (hBA.frozen (p := ⟨g, k * 2, none⟩) hgl).trans f1
      have o2V := (hBA.cell (p := ⟨w4.heap.size, 2, none⟩) hsz).trans o2
      have t1V := (hBA.cell (p := ⟨b, o + m, none⟩) (by have := hB.size; simp; omega)).trans t1
      obtain ⟨hVs, u0, u1⟩ := BU
      clear c1 f1 o2 t1 c2' f2
      have HOV : Hid (OwnR (V.setCell ⟨g, k * 2, none⟩ (.int .i64 to[m])) wA.heap.size (some ⟨g, 0, none⟩) (ds.set k (midU to ds[k] 0))) := by
        have h := (HO.out.below hBA (Nat.le_refl _)).setLeft hltd to[m]
        have e : midU to ds[k] 0 = { ds[k] with l := to[m] } := by unfold midU; rw [renMid_zero, HM.out, renX_at hml]
        show OwnR _ _ _ _
        rw [e]
        exact h
      have HR1V : Hid (Row (V.setCell ⟨g, k * 2, none⟩ (.int .i64 to[m])) (w.heap.size + 1) 29 #[.int .i64 0, .int .i64 0, .slice none 0 0]) := (HR1.out.below hBA HR1.out.lt).far (by have := HLO.out; simp; omega) _
      have HR2V : Hid (Row (V.setCell ⟨g, k * 2, none⟩ (.int .i64 to[m])) w4.heap.size 29 #[.int .i64 n, .int .i64 t, .slice (some ⟨g, 0, none⟩) rs2.length c2]) := (HR2.out.below hBA HR2.out.lt).far hne4 _
      have HBV : Hid (Below w.heap.size w (V.setCell ⟨g, k * 2, none⟩ (.int .i64 to[m]))) := (hB.trans (hBA.mono hB.size)).setCell (by have := HLA.out; simp; omega) _
      have HU2 : Hid (Box2 (V.setCell ⟨g, k * 2, none⟩ (.int .i64 to[m])) wr.heap.size (.int .i64 (m : Int)) (.slice ds[k].a ds[k].r.length ds[k].c)) := ⟨by simp; exact hVs, by rw [World.cell?_setCell_far _ _ _ _ (by simp; omega)]; exact u0, by rw [World.cell?_setCell_far _ _ _ _ (by simp; omega)]; exact u1⟩
      have HBA := Lib.hid hBA; clear hBA
      go_region
      clear c1V f1V o2V t1V u0 u1
      obtain ⟨wq, hwq⟩ : ∃ x, x = wr := ⟨_, rfl⟩
      subst hwq
      have HOX : Hid (OwnR (V.setCell ⟨g, k * 2, none⟩ (.int .i64 to[m])).drew wA.heap.size (some ⟨g, 0, none⟩) (ds.set k (midU to ds[k] 0))) := HOV.out
      have HR1X : Hid (Row (V.setCell ⟨g, k * 2, none⟩ (.int .i64 to[m])).drew (w.heap.size + 1) 29 #[.int .i64 0, .int .i64 0, .slice none 0 0]) := HR1V.out
      have HR2X : Hid (Row (V.setCell ⟨g, k * 2, none⟩ (.int .i64 to[m])).drew w4.heap.size 29 #[.int .i64 n, .int .i64 t, .slice (some ⟨g, 0, none⟩) rs2.length c2]) := HR2V.out
      have HBX : Hid (Below w.heap.size w (V.setCell ⟨g, k * 2, none⟩ (.int .i64 to[m])).drew) := below_drewN HBV.out _
      have u1 : (V.setCell ⟨g, k * 2, none⟩ (.int .i64 to[m])).drew.cell? ⟨wq.heap.size, 1, none⟩ = some (.slice ds[k].a ds[k].r.length ds[k].c) := HU2.out.2.2
      have hsX : w4.heap.size < (V.setCell ⟨g, k * 2, none⟩ (.int .i64 to[m])).drew.heap.size := HR2X.out.lt
      clear HOV HR1V HR2V HBV HU2 HBA hVs HO HR1 HR2 hB
      generalize (V.setCell ⟨g, k * 2, none⟩ (.int .i64 to[m])).drew = X at HOX HR1X HR2X HBX u1 hsX ⊢
      clear hsz
      go_wp2
      go_loopw [75] (fun i wv => ∃ (j : Nat), j ≤ ds[k].r.length ∧ i = .int .i64 j ∧ Below w.heap.size w wv ∧ w4.heap.size < wv.heap.size ∧ Hid (OwnR wv wA.heap.size (some ⟨g, 0, none⟩) (ds.set k (midU to ds[k] j))) ∧ Hid (Row wv (w.heap.size + 1) 29 #[.int .i64 0, .int .i64 0, .slice none 0 0]) ∧ Hid (Row wv w4.heap.size 29 #[.int .i64 n, .int .i64 t, .slice (some ⟨g, 0, none⟩) rs2.length c2])) (fun i _ => ds[k].r.length - (intOf i).toNat)
      case atStart => exact ⟨0, by omega, rfl, HBX.out, hsX, HOX.out, HR1X.out, HR2X.out⟩
      case round =>
        clear u1 hsX HOX HR1X HR2X HBX
        obtain ⟨j, hj, rfl, hB, hsz, HO, HR1, HR2⟩ := hrel
        by_cases hjl : j < ds[k].r.length
        case neg =>
          have HDN : Hid ((ds.set k (midU to ds[k] j)).map Ru.abs = renToA to (rs.map Ru.abs) (k + 1)) := by
            show _ = _
            rw [mid_abs hltd hjl, HD.out, HDK.out]
            have := renToA_step (to := to) (ss := rs.map Ru.abs) (k := k) (by simpa using hltr)
            rw [← this]; simp
          go_wp2
          go_roundw
          case rel => exact ⟨k + 1, ds.set k (midU to ds[k] j), by omega, by go_num, hB, hsz, HDN.out, HO.out, HR1.out, HR2.out⟩
          case measure => simp [intOf]; omega
        by_cases hx0 : 0 ≤ ds[k].r[j]
        case neg =>
          obtain ⟨gk, ea, k1⟩ := mid_read hltd hjl HO.out
          have HSM := Lib.hid (mid_same (to := to) hltd hjl hx0)
          have hge : decide (0 ≤ ds[k].r[j]) = false := decide_eq_false hx0
          have HEA := Lib.hid ea; clear ea
          rw [HEA.out]
          go_wp2
          go_roundw
          case rel => exact ⟨j + 1, by omega, by go_num, hB, hsz, by show OwnR _ _ _ _; rw [HSM.out]; exact HO.out, HR1.out, HR2.out⟩
          case measure => simp [intOf]; omega
        obtain ⟨m2, hm2⟩ : ∃ m2 : Nat, ds[k].r[j] = (m2 : Int) := ⟨ds[k].r[j].toNat, by omega⟩
        have hml2 : m2 < to.length := by have := HSY.out j hjl; omega
        have HM2 : Hid (to[m2] = renX to ds[k].r[j]) := by show _ = _; rw [hm2, renX_at hml2]
        obtain ⟨gk, ea, hgk, hgkl, e1, k1, f1, hgg, hrw, hON⟩ := mid_next hltd hjl HO.out to[m2] HM2.out
        have HON := Lib.hid hON; clear hON
        rw [hm2] at k1
        rw [ea] at e1
        have HEA := Lib.hid ea; clear ea
        have HMM := Lib.hid hm2; clear hm2 hx0
        have o2 := HR2.out.cell 2
        simp at o2
        obtain ⟨b', o', e, _, t1⟩ := (HY.out.keep hB).at_ hml2
        injection e with e
        injection e with e1 e2
        subst e1 e2
        have hne5 : w4.heap.size ≠ gk := hrw _ _ _ HR2.out (by decide)
        clear hrw
        rw [HEA.out]
        go_wp2
        go_region
        clear e1 k1 f1 o2 t1
        go_wp2
        go_roundw
        case rel => exact ⟨j + 1, by omega, by go_num, (below_drewN hB _).setCell (by have := HLA.out; simp; omega) _, by simpa using hsz, HON.out, HR1.out.far (by have := HLO.out; simp; omega) _, HR2.out.far hne5 _⟩
        case measure => simp [intOf]; omega

end Go.Proofs.YtpaccjfabclikaaDoor
