/- The reference's DeriveStep, from what is asked of l4Step. -/
import Derived.Test.YtkghblgiojidgaaDoorStepI
import Derived.Test.YtkghblgiojidgaaDoorForm
namespace Go.Proofs.YtkghblgiojidgaaDoor
open Go.RowKit
open Go.Sort (grow)

theorem form_all {n t : Int} (hn : 1 ≤ n) (ht : 1 ≤ t) (xs : List Int) : (decide (xs.length ≤ 40) && allB (-t) (n - 1) xs) = formB n t xs := by
  unfold formB
  congr 1
  unfold allB symsB
  congr 1
  funext x
  unfold inB symB
  exact decide_eq_decide.2 (by omega)

/-- What is asked of l4Step. -/
def L4StepOK : Prop := ∀ (n t : Int) (A : Option Addr) (c : Nat) (rs : List Ru) (Af : Option Addr) (cf : Nat) (xs : List Int) (i k : Nat) (w : World) (hk : k < rs.length), Rls w w.heap.size A rs → Ints w w.heap.size Af xs → i < xs.length → xs.length ≤ cf → xs.length ≤ 40 → rs[k].r.length ≤ 4 → rs.length ≤ 16 →
  Calls Tryd.prog 70 #[.agg #[.int .i64 n, .int .i64 t, .slice A rs.length c], .slice Af xs.length cf, .int .i64 (i : Int), .int .i64 (k : Int)] w fun e w' => ∃ A' c', e = .returned (.slice A' (stepL xs i rs[k].r).length c') ∧ OwnI w' w.heap.size A' (stepL xs i rs[k].r) ∧ (stepL xs i rs[k].r).length ≤ c' ∧ Below w.heap.size w w'

set_option maxRecDepth 20000 in
set_option maxHeartbeats 2000000 in
theorem specStep_any (hok : L4StepOK) (n t a x : Int) (A : Option Addr) (c : Nat) (rs : List Ru) (Af : Option Addr) (cf : Nat) (xs : List Int) (w : World) (hx : Rls w w.heap.size A rs) (hI : Ints w w.heap.size Af xs) (hc : rs.length ≤ c) (h1 : rs.length ≤ 1048576) (h2 : ∀ u ∈ rs, u.r.length ≤ 1048576) (h3 : xs.length ≤ 1048576) (hcf : xs.length ≤ cf) :
    Calls Tryd.prog 34 #[.agg #[.int .i64 n, .int .i64 t, .slice A rs.length c], .slice Af xs.length cf, .int .i64 a, .int .i64 x] w (GaveO w (stepF n t (rs.map Ru.abs) xs a x)) := by
  have HX := Lib.hid hx; clear hx
  have HI := Lib.hid hI; clear hI
  have hBW : Below w.heap.size w (w.alloc (.cells #[.int .i64 n, .int .i64 t, .slice A rs.length c] 30)) := by go_grown
  have HX0 : Hid (Box3 (w.alloc (.cells #[.int .i64 n, .int .i64 t, .slice A rs.length c] 30)) w.heap.size (.int .i64 n) (.int .i64 t) (.slice A rs.length c)) := ⟨by simp, by simp [go_sem], by simp [go_sem], by simp [go_sem]⟩
  go_enter Tryd.func34, Tryd.ntmps34
  go_wp2_with fail
  generalize (w.alloc (.cells #[.int .i64 n, .int .i64 t, .slice A rs.length c] 30)) = W at *
  obtain ⟨_, s0, s1, s2⟩ := HX0.out
  have p0 := cell_regrown s0
  have p1 := cell_regrown s1
  have p2 := cell_regrown s2
  have HRG : Hid (∀ d os, Below w.heap.size w (grow (redrawn W d) os)) := fun d os => hBW.trans ((below_regrown W d os).mono hBW.size)
  have HRB : Hid (∀ d os, Box3 (grow (redrawn W d) os) w.heap.size (.int .i64 n) (.int .i64 t) (.slice A rs.length c)) := fun d os => HX0.out.keep (below_regrown W d os) HX0.out.1
  have HCG := Lib.hid (fun d os => specGood_any n t A c rs (grow (redrawn W d) os) ((HX.out.keep (HRG.out d os)).more (HRG.out d os).size) hc h1 h2)
  have HCI : Hid (∀ (y lo hi : Int) d os, Calls Tryd.prog 56 #[.int .i64 y, .int .i64 lo, .int .i64 hi] (grow (redrawn W d) os) fun e w' => e = .returned (.bool (inB lo hi y)) ∧ Below (grow (redrawn W d) os).heap.size (grow (redrawn W d) os) w') := fun y lo hi d os => (l1In_any y lo hi _).mono fun e w' h => ⟨h.1, by rw [← h.2]; exact Below.refl _ _⟩
  have hBW2 := Lib.hid hBW
  clear s0 s1 s2 hBW
  cases hq : goodG n t (rs.map Ru.abs)
  · have HE : Hid (stepF n t (rs.map Ru.abs) xs a x = none) := if_neg fun h => by rw [hq] at h; cases h.1
    rw [hq] at HCG
    clear hq
    refine wp_region_quiet_below (by kernel_rfl) (by kernel_rfl) ?_
    repeat (first | go_big_quiet_step (exact Calls.regrown_of (HCG.out _ _)) | quiet_step (exact Calls.regrown_of (HCG.out _ _)))
    refine wpQuiet_nil ?_
    intro _ hw'
    obtain ⟨⟨dq, osq⟩, hw''⟩ := hw'
    subst hw''
    go_wp2
    go_ret2
    exact ⟨none, [], 0, false, rfl, by rw [HE.out]; rfl, by rw [HE.out]; rfl, .inl rfl, Nat.le_refl _, HRG.out dq osq⟩
  · have hgi := goodG_is hq
    have HFA := Lib.hid (form_all (n := n) (t := t) (by omega) (by omega) xs)
    have HCF := Lib.hid (fun d os => l4Form_any n t (.slice A rs.length c) Af xs cf 40 (grow (redrawn W d) os) ((HI.out.keep (HRG.out d os)).more (HRG.out d os).size) h3 (by omega) (by omega))
    rw [HFA.out] at HCF
    rw [hq] at HCG
    have h16 : rs.length ≤ 16 := good_16 hq
    clear HFA hgi
    cases hn : formB n t xs
    · have HE : Hid (stepF n t (rs.map Ru.abs) xs a x = none) := if_neg fun h => by rw [hn] at h; cases h.2.1
      rw [hn] at HCF
      clear hn hq
      refine wp_region_quiet_below (by kernel_rfl) (by kernel_rfl) ?_
      repeat (first | go_big_quiet_step (first | exact Calls.regrown_of (HCG.out _ _) | exact Calls.regrown_of (HCF.out _ _) | exact Calls.regrown_of (HCI.out _ _ _ _ _)) | quiet_step (first | exact Calls.regrown_of (HCG.out _ _) | exact Calls.regrown_of (HCF.out _ _) | exact Calls.regrown_of (HCI.out _ _ _ _ _)))
      refine wpQuiet_nil ?_
      intro _ hw'
      obtain ⟨⟨dq, osq⟩, hw''⟩ := hw'
      subst hw''
      go_wp2
      go_ret2
      exact ⟨none, [], 0, false, rfl, by rw [HE.out]; rfl, by rw [HE.out]; rfl, .inl rfl, Nat.le_refl _, HRG.out dq osq⟩
    · have hl40 : xs.length ≤ 40 := by unfold formB at hn; rw [Bool.and_eq_true] at hn; exact of_decide_eq_true hn.1
      cases ha : inB 0 ((xs.length : Int) - 1) a
      · have HE : Hid (stepF n t (rs.map Ru.abs) xs a x = none) := if_neg fun h => by have := inB_no ha; omega
        rw [hn] at HCF
        clear hn hq
        have HCA := Lib.hid (fun d os => HCI.out a 0 ((xs.length : Int) - 1) d os)
        rw [ha] at HCA
        clear ha
        refine wp_region_quiet_below (by kernel_rfl) (by kernel_rfl) ?_
        repeat (first | go_big_quiet_step (first | exact Calls.regrown_of (HCG.out _ _) | exact Calls.regrown_of (HCF.out _ _) | with_reducible exact Calls.regrown_of (HCA.out _ _)) | quiet_step (first | exact Calls.regrown_of (HCG.out _ _) | exact Calls.regrown_of (HCF.out _ _) | with_reducible exact Calls.regrown_of (HCA.out _ _)))
        refine wpQuiet_nil ?_
        intro _ hw'
        obtain ⟨⟨dq, osq⟩, hw''⟩ := hw'
        subst hw''
        go_wp2
        go_ret2
        exact ⟨none, [], 0, false, rfl, by rw [HE.out]; rfl, by rw [HE.out]; rfl, .inl rfl, Nat.le_refl _, HRG.out dq osq⟩
      · have ha' := inB_lo ha
        have ha'' := inB_hi ha
        obtain ⟨i, rfl⟩ : ∃ i : Nat, a = (i : Int) := ⟨a.toNat, by omega⟩
        have hi : i < xs.length := by omega
        have HS : Hid (stepF n t (rs.map Ru.abs) xs (i : Int) x = stepV (rs.map Ru.abs) xs i x) := (if_pos ⟨hq, hn, by omega, by omega⟩).trans (by rw [Int.toNat_natCast])
        rw [hn] at HCF
        have HCA := Lib.hid (fun d os => HCI.out (i : Int) 0 ((xs.length : Int) - 1) d os)
        rw [ha] at HCA
        have HG := Lib.hid hq
        clear ha ha' ha'' hn hq
        cases hr : inB 0 ((rs.length : Int) - 1) x
        · have HE : Hid (stepF n t (rs.map Ru.abs) xs (i : Int) x = none) := HS.out.trans (stepV_none (by rw [List.length_map]; exact decide_eq_false (by have := inB_no hr; omega)))
          have HCB := Lib.hid (fun d os => HCI.out x 0 ((rs.length : Int) - 1) d os)
          rw [hr] at HCB
          clear hr
          refine wp_region_quiet_below (by kernel_rfl) (by kernel_rfl) ?_
          repeat (first | go_big_quiet_step (first | exact Calls.regrown_of (HCG.out _ _) | exact Calls.regrown_of (HCF.out _ _) | with_reducible exact Calls.regrown_of (HCA.out _ _) | exact Calls.regrown_of (HCB.out _ _)) | quiet_step (first | exact Calls.regrown_of (HCG.out _ _) | exact Calls.regrown_of (HCF.out _ _) | with_reducible exact Calls.regrown_of (HCA.out _ _) | exact Calls.regrown_of (HCB.out _ _)))
          refine wpQuiet_nil ?_
          intro _ hw'
          obtain ⟨⟨dq, osq⟩, hw''⟩ := hw'
          subst hw''
          go_wp2
          go_ret2
          exact ⟨none, [], 0, false, rfl, by rw [HE.out]; rfl, by rw [HE.out]; rfl, .inl rfl, Nat.le_refl _, HRG.out dq osq⟩
        · have hr' := inB_lo hr
          have hr'' := inB_hi hr
          obtain ⟨k, rfl⟩ : ∃ k : Nat, x = (k : Int) := ⟨x.toNat, by omega⟩
          have hk : k < rs.length := by omega
          have HCB := Lib.hid (fun d os => HCI.out (k : Int) 0 ((rs.length : Int) - 1) d os)
          rw [hr] at HCB
          have HU : Hid ((rs.map Ru.abs)[k]? = some (rs[k].l, rs[k].r)) := by show _ = _; rw [List.getElem?_map, List.getElem?_eq_getElem hk]; rfl
          have hr4 : rs[k].r.length ≤ 4 := good_len HG.out (List.mem_map.2 ⟨_, List.getElem_mem hk, rfl⟩)
          clear hr hr' hr''
          obtain ⟨p, q, hA, hp, c1, _, _⟩ := (HX.out.keep hBW2.out).at_ hk
          subst hA
          obtain ⟨b, o, hAf, hb, f1⟩ := (HI.out.keep hBW2.out).at_ hi
          subst hAf
          have q1 := cell_regrown c1
          have q2 := cell_regrown f1
          clear c1 f1
          by_cases hne : rs[k].l = xs[i]
          · have hb1 : (rs[k].l != xs[i]) = false := bne_f hne
            have HSS : Hid (stepF n t (rs.map Ru.abs) xs (i : Int) (k : Int) = if (stepL xs i rs[k].r).length ≤ 40 then some (stepL xs i rs[k].r) else none) := by
              show _ = _
              rw [HS.out, stepV_at HU.out]
              have : xs[i]? = some rs[k].l := by rw [List.getElem?_eq_getElem hi, hne]
              simp [this]
            clear hne
            refine wp_region_quiet_below (by kernel_rfl) (by kernel_rfl) ?_
            repeat (first | go_big_quiet_step (first | exact Calls.regrown_of (HCG.out _ _) | exact Calls.regrown_of (HCF.out _ _) | with_reducible exact Calls.regrown_of (HCA.out _ _) | exact Calls.regrown_of (HCB.out _ _)) | quiet_step (first | exact Calls.regrown_of (HCG.out _ _) | exact Calls.regrown_of (HCF.out _ _) | with_reducible exact Calls.regrown_of (HCA.out _ _) | exact Calls.regrown_of (HCB.out _ _)))
            refine wpQuiet_nil ?_
            intro _ hw'
            obtain ⟨⟨dq, osq⟩, hw''⟩ := hw'
            subst hw''
            have HBV := Lib.hid (HRG.out dq osq)
            have HXV := Lib.hid (HRB.out dq osq)
            generalize grow (redrawn W dq) osq = V at *
            clear p0 p1 p2 q1 q2 HRG HRB HCG HCF HCI HCA HCB HX0 hBW2
            obtain ⟨_, s0, s1, s2⟩ := HXV.out
            have HL := Lib.hid (hok n t (some ⟨p, q, none⟩) c rs (some ⟨b, o, none⟩) cf xs i k V hk ((HX.out.keep HBV.out).more HBV.out.size) ((HI.out.keep HBV.out).more HBV.out.size) hi hcf hl40 hr4 h16)
            go_wp2_with fail
            refine HL.out.mono ?_
            rintro e w4 ⟨A4, c4, rfl, hO4, hc4, hB4⟩
            have HO4 : Hid (OwnI w4 w.heap.size A4 (stepL xs i rs[k].r)) := hO4.lower HBV.out.size
            have HB4 : Hid (Below w.heap.size w w4) := HBV.out.trans (hB4.mono HBV.out.size)
            clear hO4 hB4
            by_cases h40 : (stepL xs i rs[k].r).length ≤ 40
            · have HE : Hid (stepF n t (rs.map Ru.abs) xs (i : Int) (k : Int) = some (stepL xs i rs[k].r)) := HSS.out.trans (if_pos h40)
              generalize stepL xs i rs[k].r = zs at *
              go_wp2
              go_ret2
              exact ⟨A4, zs, c4, true, rfl, by rw [HE.out]; rfl, by rw [HE.out]; rfl, HO4.out, hc4, HB4.out⟩
            · have HE : Hid (stepF n t (rs.map Ru.abs) xs (i : Int) (k : Int) = none) := HSS.out.trans (if_neg h40)
              generalize stepL xs i rs[k].r = zs at *
              go_wp2
              go_ret2
              exact ⟨none, [], 0, false, rfl, by rw [HE.out]; rfl, by rw [HE.out]; rfl, .inl rfl, Nat.le_refl _, HB4.out⟩
          · have hb1 : (rs[k].l != xs[i]) = true := bne_t hne
            have HE : Hid (stepF n t (rs.map Ru.abs) xs (i : Int) (k : Int) = none) := by
              show _ = _
              rw [HS.out, stepV_at HU.out]
              refine if_neg fun h => hne ?_
              rw [List.getElem?_eq_getElem hi] at h
              exact (Option.some.inj h.1).symm
            clear hne
            refine wp_region_quiet_below (by kernel_rfl) (by kernel_rfl) ?_
            repeat (first | go_big_quiet_step (first | exact Calls.regrown_of (HCG.out _ _) | exact Calls.regrown_of (HCF.out _ _) | with_reducible exact Calls.regrown_of (HCA.out _ _) | exact Calls.regrown_of (HCB.out _ _)) | quiet_step (first | exact Calls.regrown_of (HCG.out _ _) | exact Calls.regrown_of (HCF.out _ _) | with_reducible exact Calls.regrown_of (HCA.out _ _) | exact Calls.regrown_of (HCB.out _ _)))
            refine wpQuiet_nil ?_
            intro _ hw'
            obtain ⟨⟨dq, osq⟩, hw''⟩ := hw'
            subst hw''
            go_wp2
            go_ret2
            exact ⟨none, [], 0, false, rfl, by rw [HE.out]; rfl, by rw [HE.out]; rfl, .inl rfl, Nat.le_refl _, HRG.out dq osq⟩

end Go.Proofs.YtkghblgiojidgaaDoor
