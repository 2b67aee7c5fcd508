/- What the program's RenameNons answers: its walk. -/
import Derived.Test.YtpaccjfabclikaaDoorImplRen
namespace Go.Proofs.YtpaccjfabclikaaDoor
open Go.RowKit

/-- Rules that say ss, lying nowhere. -/
def fake (ss : List (Int × List Int)) : List Ru := ss.map fun u => ⟨u.1, none, u.2, 0⟩
theorem fake_abs (ss : List (Int × List Int)) : (fake ss).map Ru.abs = ss := by
  unfold fake
  rw [List.map_map]
  conv => rhs; rw [← List.map_id ss]
  rfl
theorem fake_length (ss : List (Int × List Int)) : (fake ss).length = ss.length := by simp [fake]

theorem ren_len (to : List Int) (rs : List Ru) : (fake (renA to (rs.map Ru.abs))).length = rs.length := by simp [fake, renA]
theorem ren_l {to : List Int} {rs : List Ru} {k : Nat} (h : k < rs.length) (h' : k < (fake (renA to (rs.map Ru.abs))).length) : (fake (renA to (rs.map Ru.abs)))[k].l = renX to rs[k].l := by simp [fake, renA, renU, Ru.abs]
theorem ren_r {to : List Int} {rs : List Ru} {k : Nat} (h : k < rs.length) (h' : k < (fake (renA to (rs.map Ru.abs))).length) : (fake (renA to (rs.map Ru.abs)))[k].r = rs[k].r.map (renX to) := by simp [fake, renA, renU, Ru.abs]

/-- In a good grammar a left side is a nonterminal, and so is each symbol of a right side that is not below 0. -/
theorem good_left {n t : Int} {rs : List Ru} (h : goodG n t (rs.map Ru.abs) = true) {k : Nat} (hk : k < rs.length) : 0 ≤ rs[k].l ∧ rs[k].l < n := by
  have := (goodG_is h).2.2.2 k rs[k].abs (by simpa using hk) (by simp [hk])
  have h1 := this.1
  unfold goodU at h1
  simp only [Bool.and_eq_true] at h1
  exact nonB_is h1.1
theorem good_sym {n t : Int} {rs : List Ru} (h : goodG n t (rs.map Ru.abs) = true) {k : Nat} (hk : k < rs.length) {j : Nat} (hj : j < rs[k].r.length) : rs[k].r[j] < n := by
  have := (goodG_is h).2.2.2 k rs[k].abs (by simpa using hk) (by simp [hk])
  have h1 := this.1
  unfold goodU at h1
  simp only [Bool.and_eq_true] at h1
  have h2 := symsB_iff.1 h1.2.2 j _ (List.getElem?_eq_getElem hj)
  have h3 := of_decide_eq_true h2
  have h4 := (goodG_is h).1
  omega

def okRen (n t : Int) (ss : List (Int × List Int)) (to : List Int) : Bool := goodG n t ss && renB n to
theorem okRen_no {n t : Int} {ss : List (Int × List Int)} {to : List Int} (h : goodG n t ss = false) : okRen n t ss to = false := by unfold okRen; rw [h]; rfl
theorem okRen_yes {n t : Int} {ss : List (Int × List Int)} {to : List Int} (h : goodG n t ss = true) : okRen n t ss to = renB n to := by unfold okRen; rw [h]; rfl

set_option maxHeartbeats 2000000 in
theorem implRen_any (n t : Int) (A B : Option Addr) (c d : Nat) (rs : List Ru) (to : List Int) (w : World) (hx : Rls w w.heap.size A rs) (hy : Ints w w.heap.size B to) (hL : Lims w) (hc : rs.length ≤ c) (hd : to.length ≤ d) (h1 : rs.length ≤ 1048576) (h2 : ∀ u ∈ rs, u.r.length ≤ 1048576) (h3 : to.length ≤ 1048576) (hf : FitR rs) :
    Calls Tryd.prog 30 #[.agg #[.int .i64 n, .int .i64 t, .slice A rs.length c], .slice B to.length d] w (GaveGB w n t (renA to (rs.map Ru.abs)) (okRen n t (rs.map Ru.abs) to)) := by
  have hmk := make_rules rs.length h1
  have HX := Lib.hid hx; clear hx
  have HY := Lib.hid hy; clear hy
  have HL := Lib.hid hL; clear hL
  have HF := Lib.hid hf; clear hf
  have H2 := Lib.hid h2; clear h2
  generalize hW : ((w.alloc (.cells #[.int .i64 n, .int .i64 t, .slice A rs.length c] 29)).alloc (.cells #[.int .i64 0, .int .i64 0, .slice none 0 0] 29)) = W
  have HB0 : Hid (Below w.heap.size w W) := by subst hW; show Below _ _ _; go_grown
  have B0 : Hid (Box3 W w.heap.size (.int .i64 n) (.int .i64 t) (.slice A rs.length c)) := by subst hW; exact ⟨by simp; omega, by simp [go_sem], by simp [go_sem], by simp [go_sem]⟩
  have R0 : Hid (Row W (w.heap.size + 1) 29 #[.int .i64 0, .int .i64 0, .slice none 0 0]) := by
    subst hW
    have h := Row.new (w.alloc (.cells #[.int .i64 n, .int .i64 t, .slice A rs.length c] 29)) 29 #[.int .i64 0, .int .i64 0, .slice none 0 0]
    rwa [World.size_alloc] at h
  have HWE := Lib.hid hW; clear hW
  go_enter Tryd.func30, Tryd.ntmps30
  go_wp2_with fail
  rw [HWE.out]
  refine (goodGrammar_any _ _ _ _ _ _ ((HX.out.keep HB0.out).more HB0.out.size) (HL.out.keep HB0.out (Nat.le_refl _)) hc h1 H2.out HF.out).mono ?_
  rintro e w1 ⟨rfl, hB1⟩
  have B1 := Lib.hid (B0.out.keep hB1 B0.out.1)
  have R1 := Lib.hid (R0.out.below hB1 R0.out.lt)
  have HB1 := Lib.hid (HB0.out.trans (hB1.mono HB0.out.size)); clear hB1
  clear HWE B0 R0 HB0
  cases hg : goodG n t (rs.map Ru.abs)
  · have HG := Lib.hid (okRen_no (to := to) hg); clear hg
    have d0 := R1.out.cell 0
    have d1 := R1.out.cell 1
    have d2 := R1.out.cell 2
    have g0 := R1.out.frozen 0
    have g1 := R1.out.frozen 1
    have g2 := R1.out.frozen 2
    simp at d0 d1 d2
    go_wp2
    refine bodyPost_ret (v := .tuple #[.agg #[.int .i64 0, .int .i64 0, .slice none 0 0], .bool false]) (by simp [results, Tryd.results30, go_sem, d0, d1, d2]) rfl ?_
    rw [HG.out]
    refine gave_none ?_
    exact ((HB1.out.setCell (by simp) _).setCell (by simp) _).setCell (by simp) _
  have HG := Lib.hid hg
  have HOK := Lib.hid (okRen_yes (to := to) hg)
  have n1 := (goodG_is hg).1.1
  have n2 := (goodG_is hg).1.2
  clear hg
  obtain ⟨_, b0, b1, b2⟩ := B1.out
  go_wp2_with fail
  refine (isRenaming_any _ _ _ _ _ _ _ _ _ ((HY.out.keep HB1.out).more HB1.out.size) h3 hd n1 n2).mono ?_
  rintro e w2 ⟨rfl, hB2⟩
  clear b0 b1 b2
  have B2 := Lib.hid (B1.out.keep hB2 B1.out.1)
  have R2 := Lib.hid (R1.out.below hB2 R1.out.lt)
  have HB2 := Lib.hid (HB1.out.trans (hB2.mono HB1.out.size)); clear hB2
  clear B1 R1 HB1
  cases hr : renB n to
  · have HRN : Hid (okRen n t (rs.map Ru.abs) to = false) := HOK.out.trans hr
    clear hr
    have d0 := R2.out.cell 0
    have d1 := R2.out.cell 1
    have d2 := R2.out.cell 2
    have g0 := R2.out.frozen 0
    have g1 := R2.out.frozen 1
    have g2 := R2.out.frozen 2
    simp at d0 d1 d2
    go_wp2
    refine bodyPost_ret (v := .tuple #[.agg #[.int .i64 0, .int .i64 0, .slice none 0 0], .bool false]) (by simp [results, Tryd.results30, go_sem, d0, d1, d2]) rfl ?_
    rw [HRN.out]
    refine gave_none ?_
    exact ((HB2.out.setCell (by simp) _).setCell (by simp) _).setCell (by simp) _
  have HRN : Hid (okRen n t (rs.map Ru.abs) to = true) := HOK.out.trans hr
  have HTN := Lib.hid (renB_is hr).1
  clear hr
  obtain ⟨_, b0, b1, b2⟩ := B2.out
  go_wp2
  go_loopw [26] (fun i wr => ∃ (k : Nat), k ≤ rs.length ∧ i = .int .i64 k ∧ w2.heap.size < wr.heap.size ∧ Below w.heap.size w wr ∧ Hid (Copying wr w2.heap.size w2.heap.size (fake (renA to (rs.map Ru.abs))) k) ∧ Hid (Box3 wr w.heap.size (.int .i64 n) (.int .i64 t) (.slice A rs.length c)) ∧ Hid (Row wr (w.heap.size + 1) 29 #[.int .i64 0, .int .i64 0, .slice none 0 0])) (fun i _ => rs.length - (intOf i).toNat)
  case atStart =>
    refine ⟨0, by omega, rfl, by simp, HB2.out.alloc HB2.out.size _, ?_, B2.out.keep (B := w2.heap.size) (below_new _ _) B2.out.1, R2.out.alloc _⟩
    have h := Copying.start w2 w2.heap.size (fake (renA to (rs.map Ru.abs)))
    rw [ren_len] at h
    exact h
  case round =>
    clear b0 b1 b2
    obtain ⟨k, hk, rfl, hsz, hB, HC, HBX, HRW⟩ := hrel
    clear hmk
    by_cases hlt : k < rs.length
    · obtain ⟨b, o, rfl, hb, c1, c2, c3⟩ := (HX.out.keep hB).at_ hlt
      have hul := H2.out rs[k] (List.getElem_mem hlt)
      obtain ⟨hl0, hl1⟩ := good_left HG.out hlt
      obtain ⟨m, hm⟩ : ∃ m : Nat, rs[k].l = (m : Int) := ⟨rs[k].l.toNat, by omega⟩
      have hml : m < to.length := by have := HTN.out; omega
      rw [hm] at c1
      have HM := Lib.hid hm; clear hm hl0 hl1
      have HSY : Hid (∀ (j : Nat) (hj : j < rs[k].r.length), rs[k].r[j] < to.length) := fun j hj => by have := good_sym HG.out hlt hj; have := HTN.out; omega
      have hBA : Below wr.heap.size wr (wr.alloc (.cells #[.int .i64 (m : Int), .slice rs[k].a rs[k].r.length rs[k].c] 52)) := by go_grown
      have HBA := Lib.hid hBA; clear hBA
      have C3 := Lib.hid (((c3.more hB.size).keep HBA.out).more HBA.out.size); clear c3
      have HYW := Lib.hid ((((HY.out.keep hB).more hB.size).keep HBA.out).more HBA.out.size)
      have HCA := Lib.hid (HC.out.keep HBA.out)
      have hfk : k < (fake (renA to (rs.map Ru.abs))).length := by rw [ren_len]; exact hlt
      go_wp2_with fail
      refine (renamedRule_any _ _ _ _ _ _ _ _ C3.out HYW.out hul hml HSY.out).mono ?_
      rintro e w3 ⟨A3, k3, rfl, _, hO3, hB3⟩
      obtain ⟨cs, hcs, hcz⟩ := (HCA.out.keep hB3).row
      rw [ren_len] at hcz
      obtain ⟨x0, d0⟩ : ∃ x0, w3.cell? ⟨w2.heap.size, k * 2, none⟩ = some x0 := ⟨_, (hcs.cell (k * 2)).trans (Array.getElem?_eq_getElem (by omega))⟩
      obtain ⟨x1, d1⟩ : ∃ x1, w3.cell? ⟨w2.heap.size, k * 2 + 1, none⟩ = some x1 := ⟨_, (hcs.cell (k * 2 + 1)).trans (Array.getElem?_eq_getElem (by omega))⟩
      have f0 := hcs.frozen (k * 2)
      have f1 := hcs.frozen (k * 2 + 1)
      clear hcs hcz
      have HST : Hid (Copying ((w3.setCell ⟨w2.heap.size, k * 2, none⟩ (.int .i64 (renX to (m : Int)))).setCell ⟨w2.heap.size, k * 2 + 1, none⟩ (.slice A3 rs[k].r.length k3)) w2.heap.size w2.heap.size (fake (renA to (rs.map Ru.abs))) (k + 1)) := by
        have h := HCA.out.step (by have := HBA.out.size; omega) hfk hB3 (A := A3) (c := k3) (by rw [ren_r hlt]; exact hO3)
        rw [ren_l hlt, ren_r hlt, List.length_map, HM.out] at h
        exact h
      have hs3 := hB3.size
      have hsA := HBA.out.size
      have HB3 := Lib.hid (HBA.out.trans (hB3.mono HBA.out.size))
      have HW3 := Lib.hid (hB.trans (HB3.out.mono hB.size))
      have HBX3 := Lib.hid (HBX.out.keep HB3.out HBX.out.1)
      have HRW3 := Lib.hid (HRW.out.below HB3.out HRW.out.lt)
      have HN1 : Hid (w.heap.size + 1 < w2.heap.size) := R2.out.lt
      clear hO3 hB3 c1 c2
      simp only [List.length_map]
      go_wp2
      go_roundw
      case rel =>
        have hn1 := HN1.out
        refine ⟨k + 1, by omega, by go_num, by simp; omega, (HW3.out.setCell (by simp; omega) _).setCell (by simp; omega) _, HST.out, ?_, (HRW3.out.far (by simp; omega) _).far (by simp; omega) _⟩
        obtain ⟨q1, q2, q3, q4⟩ := HBX3.out
        exact ⟨by simp; exact q1, by rw [World.cell?_setCell_far _ _ _ _ (by simp; omega), World.cell?_setCell_far _ _ _ _ (by simp; omega)]; exact q2, by rw [World.cell?_setCell_far _ _ _ _ (by simp; omega), World.cell?_setCell_far _ _ _ _ (by simp; omega)]; exact q3, by rw [World.cell?_setCell_far _ _ _ _ (by simp; omega), World.cell?_setCell_far _ _ _ _ (by simp; omega)]; exact q4⟩
      case measure => simp [intOf]; omega
    · have hkf : k = (fake (renA to (rs.map Ru.abs))).length := by rw [ren_len]; omega
      rw [hkf] at HC
      obtain ⟨ds, hO, hl, ha⟩ := HC.out.done (Nat.le_refl _)
      rw [ren_len] at hl
      rw [fake_abs] at ha
      obtain ⟨_, x0, x1, x2⟩ := HBX.out
      have d0 := HRW.out.cell 0
      have d1 := HRW.out.cell 1
      have d2 := HRW.out.cell 2
      have g0 := HRW.out.frozen 0
      have g1 := HRW.out.frozen 1
      have g2 := HRW.out.frozen 2
      simp at d0 d1 d2
      have HO := Lib.hid hO; clear hO
      have HLL := Lib.hid hl; clear hl
      have HAA := Lib.hid ha; clear ha
      have HKF := Lib.hid hkf; clear hkf
      have hn1 : w.heap.size + 1 < w2.heap.size := R2.out.lt
      go_wp2
      refine bodyPost_ret (v := .tuple #[.agg #[.int .i64 n, .int .i64 t, .slice (some ⟨w2.heap.size, 0, none⟩) rs.length rs.length], .bool true]) (by simp [results, Tryd.results30, go_sem, d0, d1, d2]) rfl ⟨some ⟨w2.heap.size, 0, none⟩, rs.length, ds, by rw [HLL.out, HRN.out]; rfl, ?_, ?_, ?_⟩
      · exact (((HO.out.low (by simp; omega) _).low (by simp; omega) _).low (by simp; omega) _).lower HB2.out.size
      · rw [HAA.out, HRN.out]; rfl
      · exact ((hB.setCell (by simp) _).setCell (by simp) _).setCell (by simp) _

end Go.Proofs.YtpaccjfabclikaaDoor
