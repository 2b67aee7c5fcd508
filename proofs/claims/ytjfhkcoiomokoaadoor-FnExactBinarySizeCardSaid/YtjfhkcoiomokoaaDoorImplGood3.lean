/- What the program's GoodGrammar answers. -/
import Derived.Test.YtjfhkcoiomokoaaDoorImplGood2
import Derived.Lib.QuietBelow
namespace Go.Proofs.YtjfhkcoiomokoaaDoor
open Go.RowKit
open Go.Sort (grow)

/-- All numbers of the right sides are ones that an int can hold. -/
def FitR (rs : List Ru) : Prop := ∀ u ∈ rs, ∀ x ∈ u.r, F64 x

theorem inB_not {lo hi n : Int} (h : inB lo hi n = false) : ¬ (lo ≤ n ∧ n ≤ hi) := by have := inB_no h; omega
theorem inB_and {lo hi n : Int} (h : inB lo hi n = true) : lo ≤ n ∧ n ≤ hi := ⟨inB_lo h, inB_hi h⟩

set_option maxHeartbeats 800000 in
theorem goodGrammar_any (n t : Int) (A : Option Addr) (c : Nat) (rs : List Ru) (w : World) (hx : Rls w w.heap.size A rs) (hL : Lims w) (hc : rs.length ≤ c) (h1 : rs.length ≤ 1048576) (h2 : ∀ u ∈ rs, u.r.length ≤ 1048576) (hf : FitR rs) :
    Calls Tryd.prog 57 #[.agg #[.int .i64 n, .int .i64 t, .slice A rs.length c]] w fun e w' => e = .returned (.bool (goodG n t (rs.map Ru.abs))) ∧ Below w.heap.size w w' := by
  have HX := Lib.hid hx; clear hx
  have HL := Lib.hid hL; clear hL
  have HF := Lib.hid hf; clear hf
  have H2 := Lib.hid h2; clear h2
  have hB0 : Below w.heap.size w (w.alloc (.cells #[.int .i64 n, .int .i64 t, .slice A rs.length c] 32)) := by go_grown
  have B0 : Box3 (w.alloc (.cells #[.int .i64 n, .int .i64 t, .slice A rs.length c] 32)) w.heap.size (.int .i64 n) (.int .i64 t) (.slice A rs.length c) := ⟨by simp, by simp [go_sem], by simp [go_sem], by simp [go_sem]⟩
  have HB0 := Lib.hid hB0; clear hB0
  have BX0 := Lib.hid B0; clear B0
  cases hn : inB 1 6 n
  · have HE : Hid (goodG n t (rs.map Ru.abs) = false) := goodG_n (inB_not hn)
    have HN := Lib.hid hn; clear hn
    go_enter Tryd.func57, Tryd.ntmps57
    go_wp2_with fail
    refine (within0 _ _ (HL.out.keep HB0.out (Nat.le_refl _))).mono ?_
    rintro e w1 ⟨rfl, hB1⟩
    rw [HN.out]
    go_wp2
    go_ret
    exact ⟨ret_bool HE.out.symm, HB0.out.trans (hB1.mono HB0.out.size)⟩
  have HN := Lib.hid hn; clear hn
  cases ht : inB 1 4 t
  · have HE : Hid (goodG n t (rs.map Ru.abs) = false) := goodG_t (inB_not ht)
    have HT := Lib.hid ht; clear ht
    go_enter Tryd.func57, Tryd.ntmps57
    go_wp2_with fail
    refine (within0 _ _ (HL.out.keep HB0.out (Nat.le_refl _))).mono ?_
    rintro e w1 ⟨rfl, hB1⟩
    rw [HN.out]
    obtain ⟨_, b0, b1, b2⟩ := BX0.out.keep hB1 (by simp)
    have HB1 := Lib.hid (HB0.out.trans (hB1.mono HB0.out.size)); clear hB1
    go_wp2_with fail
    refine (within1 _ _ (HL.out.keep HB1.out (Nat.le_refl _))).mono ?_
    rintro e w2 ⟨rfl, hB2⟩
    rw [HT.out]
    go_wp2
    go_ret
    exact ⟨ret_bool HE.out.symm, HB1.out.trans (hB2.mono HB1.out.size)⟩
  have HT := Lib.hid ht; clear ht
  cases hl : inB 0 16 (rs.length : Int)
  · have HE : Hid (goodG n t (rs.map Ru.abs) = false) := goodG_len (by have := inB_no hl; simp; omega)
    have HLN := Lib.hid hl; clear hl
    go_enter Tryd.func57, Tryd.ntmps57
    go_wp2_with fail
    refine (within0 _ _ (HL.out.keep HB0.out (Nat.le_refl _))).mono ?_
    rintro e w1 ⟨rfl, hB1⟩
    rw [HN.out]
    have BX1 := Lib.hid (BX0.out.keep hB1 (by simp))
    obtain ⟨_, b0, b1, b2⟩ := BX1.out
    have HB1 := Lib.hid (HB0.out.trans (hB1.mono HB0.out.size)); clear hB1
    go_wp2_with fail
    refine (within1 _ _ (HL.out.keep HB1.out (Nat.le_refl _))).mono ?_
    rintro e w2 ⟨rfl, hB2⟩
    rw [HT.out]
    clear b0 b1 b2
    obtain ⟨_, b0, b1, b2⟩ := BX1.out.keep hB2 BX1.out.1
    have HB2 := Lib.hid (HB1.out.trans (hB2.mono HB1.out.size)); clear hB2
    go_wp2_with fail
    refine (within2 _ _ (HL.out.keep HB2.out (Nat.le_refl _))).mono ?_
    rintro e w3 ⟨rfl, hB3⟩
    rw [HLN.out]
    go_wp2
    go_ret
    exact ⟨ret_bool HE.out.symm, HB2.out.trans (hB3.mono HB2.out.size)⟩
  have HA : Hid (goodG n t (rs.map Ru.abs) = goodAll n t (rs.map Ru.abs)) := goodG_all (inB_and HN.out) (inB_and HT.out) (by have := inB_hi hl; simp; omega)
  have HLN := Lib.hid hl; clear hl
  go_enter Tryd.func57, Tryd.ntmps57
  go_wp2_with fail
  refine (within0 _ _ (HL.out.keep HB0.out (Nat.le_refl _))).mono ?_
  rintro e w1 ⟨rfl, hB1⟩
  rw [HN.out]
  have BX1 := Lib.hid (BX0.out.keep hB1 (by simp))
  obtain ⟨_, b0, b1, b2⟩ := BX1.out
  have HB1 := Lib.hid (HB0.out.trans (hB1.mono HB0.out.size)); clear hB1
  go_wp2_with fail
  refine (within1 _ _ (HL.out.keep HB1.out (Nat.le_refl _))).mono ?_
  rintro e w2 ⟨rfl, hB2⟩
  rw [HT.out]
  clear b0 b1 b2
  have BX2 := Lib.hid (BX1.out.keep hB2 BX1.out.1)
  obtain ⟨_, b0, b1, b2⟩ := BX2.out
  have HB2 := Lib.hid (HB1.out.trans (hB2.mono HB1.out.size)); clear hB2
  go_wp2_with fail
  refine (within2 _ _ (HL.out.keep HB2.out (Nat.le_refl _))).mono ?_
  rintro e w3 ⟨rfl, hB3⟩
  rw [HLN.out]
  clear b0 b1 b2
  have BX3 := Lib.hid (BX2.out.keep hB3 BX2.out.1)
  obtain ⟨_, b0, b1, b2⟩ := BX3.out
  have HB3 := Lib.hid (HB2.out.trans (hB3.mono HB2.out.size)); clear hB3
  clear BX0 BX1 BX2 HB0 HB1 HB2
  go_wp2
  go_loopw [23] (fun i wr => ∃ (k : Nat), k ≤ rs.length ∧ i = .int .i64 k ∧ Below w.heap.size w wr ∧ Box3 wr w.heap.size (.int .i64 n) (.int .i64 t) (.slice A rs.length c) ∧ Hid (goodTo n t (rs.map Ru.abs) k)) (fun i _ => rs.length - (intOf i).toNat)
  case atStart => exact ⟨0, by omega, rfl, HB3.out, BX3.out, fun j x h => absurd h (by omega)⟩
  case round =>
    clear HB3 BX3 b0 b1 b2
    obtain ⟨k, hk, rfl, hB, hbox, H⟩ := hrel
    by_cases hlt : k < rs.length
    · obtain ⟨b, o, rfl, hb, c1, c2, c3⟩ := (HX.out.keep hB).at_ hlt
      obtain ⟨g0, g1, g2, g3⟩ := id hbox
      have HBX := Lib.hid hbox; clear hbox
      have C3 := Lib.hid (c3.more hB.size); clear c3
      have hlen2 := H2.out rs[k] (List.getElem_mem hlt)
      go_wp2_with fail
      have hBA : Below wr.heap.size wr (wr.alloc (.cells #[.int .i64 rs[k].l, .slice rs[k].a rs[k].r.length rs[k].c] 83)) := by go_grown
      have r0 : (wr.alloc (.cells #[.int .i64 rs[k].l, .slice rs[k].a rs[k].r.length rs[k].c] 83)).cell? ⟨wr.heap.size, 0, none⟩ = some (.int .i64 rs[k].l) := by simp [go_sem]
      have r1 : (wr.alloc (.cells #[.int .i64 rs[k].l, .slice rs[k].a rs[k].r.length rs[k].c] 83)).cell? ⟨wr.heap.size, 1, none⟩ = some (.slice rs[k].a rs[k].r.length rs[k].c) := by simp [go_sem]
      generalize (wr.alloc (.cells #[.int .i64 rs[k].l, .slice rs[k].a rs[k].r.length rs[k].c] 83)) = W at hBA r0 r1 ⊢
      have q0 := cell_regrown r0
      have q1 := cell_regrown r1
      obtain ⟨_, s0, s1, s2⟩ := HBX.out.keep hBA g0
      have p0 := cell_regrown s0
      have p1 := cell_regrown s1
      have p2 := cell_regrown s2
      have hBW : Below w.heap.size w W := hB.trans (hBA.mono hB.size)
      have HBW := Lib.hid hBW
      have HRG : Hid (∀ d os, Below w.heap.size w (grow (redrawn W d) os)) := fun d os => hBW.trans ((below_regrown W d os).mono hBW.size)
      have HWR : Hid (∀ d os, Below wr.heap.size wr (grow (redrawn W d) os)) := fun d os => hBA.trans ((below_regrown W d os).mono hBA.size)
      clear c1 c2 g1 g2 g3 r0 r1 s0 s1 s2 hBA hBW
      have HCG : Hid (∀ d os, Calls Tryd.prog 95 #[.agg #[.int .i64 n, .int .i64 t, .slice (some ⟨b, o, none⟩) rs.length c], .agg #[.int .i64 rs[k].l, .slice rs[k].a rs[k].r.length rs[k].c]] (grow (redrawn W d) os) fun e w' => e = .returned (.bool (goodU n t rs[k].abs)) ∧ Below (grow (redrawn W d) os).heap.size (grow (redrawn W d) os) w') := fun d os =>
        goodRule_any _ _ _ _ _ _ _ _ _ _ ((C3.out.keep (HWR.out d os)).more (HWR.out d os).size) (HL.out.keep (HRG.out d os) (Nat.le_refl _)) hlen2 (HF.out _ (List.getElem_mem hlt))
      cases hu : goodU n t rs[k].abs
      · have HU := Lib.hid hu; clear hu
        have HE : Hid (goodG n t (rs.map Ru.abs) = false) := HA.out.trans (goodAll_bad (k := k) (by simpa using hlt) (.inl (by simpa using HU.out)))
        rw [HU.out] at HCG
        refine wp_region_quiet_below (by kernel_rfl) (by kernel_rfl) ?_
        repeat (first | go_big_quiet_step (exact Calls.regrown_of (HCG.out _ _)) | quiet_step (exact Calls.regrown_of (HCG.out _ _)))
        refine wpQuiet_nil ?_
        intro _ hw'
        obtain ⟨⟨dq, osq⟩, hw''⟩ := hw'
        subst hw''
        go_wp2
        go_ret
        exact ⟨ret_bool HE.out.symm, HRG.out dq osq⟩
      · have HU := Lib.hid hu; clear hu
        rw [HU.out] at HCG
        have hlt' : (rs.take k).length = k := by rw [List.length_take]; omega
        have HCH : Hid (∀ d os, Calls Tryd.prog 96 #[.slice (some ⟨b, o, none⟩) k c, .agg #[.int .i64 rs[k].l, .slice rs[k].a rs[k].r.length rs[k].c]] (grow (redrawn W d) os) fun e w' => e = .returned (.bool (hasU ((rs.take k).map Ru.abs) rs[k].abs)) ∧ Below (grow (redrawn W d) os).heap.size (grow (redrawn W d) os) w') := fun d os => by
          have h := hasRule_any (some ⟨b, o, none⟩) rs[k].a (rs.take k) rs[k].l rs[k].r c rs[k].c (grow (redrawn W d) os) (((HX.out.keep (HRG.out d os)).more (HRG.out d os).size).take k) ((C3.out.keep (HWR.out d os)).more (HWR.out d os).size) (by omega) (fun u hu => H2.out u (List.mem_of_mem_take hu))
          rw [hlt'] at h
          exact h
        clear hlt'
        cases hh : hasU ((rs.take k).map Ru.abs) rs[k].abs
        all_goals
          have HH := Lib.hid hh; clear hh
          rw [HH.out] at HCH
          refine wp_region_quiet_below (by kernel_rfl) (by kernel_rfl) ?_
          repeat (first | go_big_quiet_step (first | exact Calls.regrown_of (HCG.out _ _) | exact Calls.regrown_of (HCH.out _ _)) | quiet_step (first | exact Calls.regrown_of (HCG.out _ _) | exact Calls.regrown_of (HCH.out _ _)))
          refine wpQuiet_nil ?_
          intro _ hw'
          obtain ⟨⟨dq, osq⟩, hw''⟩ := hw'
          subst hw''
          go_wp2
        · go_roundw
          case rel => exact ⟨k + 1, by omega, by go_num, HRG.out dq osq, HBX.out.keep (HWR.out dq osq) g0, goodTo_step (by simpa using hlt) (by simpa using HU.out) (by rw [← List.map_take]; simpa using HH.out) H.out⟩
          case measure => simp [intOf]; omega
        · have HE : Hid (goodG n t (rs.map Ru.abs) = false) := HA.out.trans (goodAll_bad (k := k) (by simpa using hlt) (.inr (by rw [← List.map_take]; simpa using HH.out)))
          go_ret
          exact ⟨ret_bool HE.out.symm, HRG.out dq osq⟩
    · have HE : Hid (goodG n t (rs.map Ru.abs) = true) := HA.out.trans (goodAll_of (k := k) (by simpa using hlt) H.out)
      clear hbox
      go_wp2
      go_ret
      exact ⟨ret_bool HE.out.symm, hB⟩

end Go.Proofs.YtjfhkcoiomokoaaDoor
