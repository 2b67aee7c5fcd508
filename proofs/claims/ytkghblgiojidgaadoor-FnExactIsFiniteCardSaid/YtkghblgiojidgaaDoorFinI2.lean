/- The program's IsFinite. -/
import Derived.Test.YtkghblgiojidgaaDoorFinI
namespace Go.Proofs.YtkghblgiojidgaaDoor
open Go.RowKit

/-- No round that grows at the first k places of a rule. -/
def NoRound (ss : List (Int × List Int)) (G : Int → Bool) (u : Ru) (k : Nat) : Prop := ∀ i, i < k → ¬ RoundAt ss G u.abs i
theorem noRound_all {ss : List (Int × List Int)} {G : Int → Bool} {u : Ru} (h : NoRound ss G u u.r.length) : ∀ i, ¬ RoundAt ss G u.abs i := fun i hr => by
  by_cases hi : i < u.r.length
  · exact h i hi hr
  · obtain ⟨x, hx, _⟩ := hr
    have hx' : u.r[i]? = some x := hx
    rw [List.getElem?_eq_none (by omega)] at hx'
    cases hx'
theorem fin_yes {us : List Ru} {G : Int → Bool} {k : Nat} (hk : ¬ k < us.length) (h : ∀ (j : Nat) (u : Ru), j < k → us[j]? = some u → ∀ i, ¬ RoundAt (us.map Ru.abs) G u.abs i) : Fin' (us.map Ru.abs) G := fin_iff.2 fun r hr i => by
  obtain ⟨u, hu, rfl⟩ := List.mem_map.1 hr
  obtain ⟨j, hj⟩ := List.mem_iff_getElem?.1 hu
  exact h j u (by have := (List.getElem?_eq_some_iff.1 hj).1; omega) hj i
theorem fin_no {us : List Ru} {G : Int → Bool} {u : Ru} {i : Nat} (hu : u ∈ us) (h : RoundAt (us.map Ru.abs) G u.abs i) : ¬ Fin' (us.map Ru.abs) G := fun hf => fin_iff.1 hf u.abs (List.mem_map.2 ⟨u, hu, rfl⟩) i h

theorem upto_ru {Q : Ru → Prop} {us : List Ru} {k : Nat} (hk : k < us.length) (h : Q us[k]) (hs : ∀ (j : Nat) (u : Ru), j < k → us[j]? = some u → Q u) : ∀ (j : Nat) (u : Ru), j < k + 1 → us[j]? = some u → Q u := fun j u hj hu => by
  by_cases e : j = k
  · subst e
    rw [List.getElem?_eq_getElem hk] at hu
    injection hu with hu
    subst hu
    exact h
  · exact hs j u (by omega) hu

set_option maxRecDepth 20000 in
set_option maxHeartbeats 2000000 in
theorem implIsFinite_any (n t : Int) (A : Option Addr) (c : Nat) (rs : List Ru) (w : World) (hx : Rls w w.heap.size A rs) (hL : Lims w) (hc : rs.length ≤ c) (h1 : rs.length ≤ 1048576) (h2 : ∀ u ∈ rs, u.r.length ≤ 1048576) (hf : FitR rs) (hcap : ∀ u ∈ rs, u.r.length ≤ u.c) :
    Calls Tryd.prog 15 #[.agg #[.int .i64 n, .int .i64 t, .slice A rs.length c]] w (GaveXB w (QF n t (rs.map Ru.abs))) := by
  have HX := Lib.hid hx; clear hx
  have HL := Lib.hid hL; clear hL
  have HF := Lib.hid hf; clear hf
  have H2 := Lib.hid h2; clear h2
  have HCP := Lib.hid hcap; clear hcap
  generalize hW : (w.alloc (.cells #[.int .i64 n, .int .i64 t, .slice A rs.length c] 30)) = W
  have HB0 : Hid (Below w.heap.size w W) := by subst hW; show Below _ _ _; go_grown
  have B0 : Hid (Box3 W w.heap.size (.int .i64 n) (.int .i64 t) (.slice A rs.length c)) := by subst hW; exact ⟨by simp, by simp [go_sem], by simp [go_sem], by simp [go_sem]⟩
  have HWE := Lib.hid hW; clear hW
  go_enter Tryd.func15, Tryd.ntmps15
  go_wp2_with fail
  rw [HWE.out]
  refine (goodGrammar_any _ _ _ _ _ _ ((HX.out.keep HB0.out).more HB0.out.size) (HL.out.keep HB0.out (Nat.le_refl _)) hc h1 H2.out HF.out).mono ?_
  rintro e w1 ⟨rfl, hB1⟩
  have B1 := Lib.hid (B0.out.keep hB1 B0.out.1)
  have HB1 := Lib.hid (HB0.out.trans (hB1.mono HB0.out.size)); clear hB1
  clear HWE B0 HB0
  obtain ⟨_, b0, b1, b2⟩ := B1.out
  cases hg : goodG n t (rs.map Ru.abs)
  · have HG := Lib.hid hg; clear hg
    go_wp2
    go_ret2
    exact ⟨false, false, ⟨HG.out.symm, fun h => (by rw [HG.out] at h; cases h), fun _ => rfl⟩, rfl, HB1.out⟩
  have HG := Lib.hid hg; clear hg
  have HRR := Lib.hid ((HX.out.keep HB1.out).more HB1.out.size)
  go_wp2_with fail
  refine (usefulRules_any n t A c rs _ HRR.out HG.out).mono ?_
  rintro e w2 ⟨us, hus, A2, c2, rfl, hc2, hR2, hB2⟩
  have HUS := Lib.hid hus
  have HR2 := Lib.hid hR2
  have HB2 := Lib.hid (HB1.out.trans (hB2.mono HB1.out.size))
  have hul : us.length ≤ 1048576 := by have := hus.len; omega
  have HGU : Hid (goodG n t (us.map Ru.abs) = true) := by
    show _ = _
    obtain ⟨P, R, _, _, e⟩ := hus.use
    rw [e]
    exact goodG_filter (goodG_filter HG.out _) _
  have HCU : Hid (∀ u ∈ us, u.r.length ≤ u.c) := fun u hu => HCP.out u (hus.sub u hu)
  clear hus hR2 hB2 b0 b1 b2 B1 HRR HX HL HF H2 HCP HB1 h1 hc
  go_wp2_with fail
  refine (growingBy_any n t A2 c2 us _ HR2.out HGU.out).mono ?_
  rintro e w3 ⟨p, G, rfl, hq, hG3, hP3, hB3⟩
  have HR3 := Lib.hid ((HR2.out.keep hB3).more hB3.size)
  have HB3 := Lib.hid (HB2.out.trans (hB3.mono HB2.out.size))
  have HG3 := Lib.hid hG3
  have HQ : Hid (∀ x : Bool, (x = true ↔ Fin' (us.map Ru.abs) G) → QF n t (rs.map Ru.abs) x true) := fun x hx => ⟨HG.out.symm, fun _ => ⟨us.map Ru.abs, G, HUS.out.use, hP3, hx⟩, fun h => by rw [HG.out] at h; cases h⟩
  clear hG3 hP3 hB3 hq HR2 HB2
  go_wp2
  go_loopw [19] (fun i wr => ∃ (k : Nat), k ≤ us.length ∧ i = .int .i64 k ∧ Hid (Below w3.heap.size w3 wr) ∧ Hid (∀ (j : Nat) (u : Ru), j < k → us[j]? = some u → ∀ i, ¬ RoundAt (us.map Ru.abs) G u.abs i)) (fun i _ => us.length - (intOf i).toNat)
  case atStart => exact ⟨0, by omega, rfl, Below.refl _ _, fun j u h => absurd h (by omega)⟩
  case round =>
    obtain ⟨k, hk, rfl, HBk, HK⟩ := hrel
    by_cases hlt : k < us.length
    · obtain ⟨q, o, hA, hp, c1, c2', c3⟩ := ((HR3.out.keep HBk.out).more HBk.out.size).at_ hlt
      have hum : us[k].abs ∈ us.map Ru.abs := List.mem_map.2 ⟨_, List.getElem_mem hlt, rfl⟩
      have h4 := good_len HGU.out hum
      have HUM := Lib.hid hum
      have hcu := HCU.out us[k] (List.getElem_mem hlt)
      have HBR : Hid (Below wr.heap.size wr (wr.alloc (.cells #[.int .i64 us[k].l, .slice us[k].a us[k].r.length us[k].c] 61))) := (Below.refl _ _).alloc (Nat.le_refl _) _
      have HBU : Hid (Box2 (wr.alloc (.cells #[.int .i64 us[k].l, .slice us[k].a us[k].r.length us[k].c] 61)) wr.heap.size (.int .i64 us[k].l) (.slice us[k].a us[k].r.length us[k].c)) := ⟨by simp, by simp [go_sem], by simp [go_sem]⟩
      have HBY : Hid (Below w3.heap.size w3 (wr.alloc (.cells #[.int .i64 us[k].l, .slice us[k].a us[k].r.length us[k].c] 61))) := HBk.out.trans (HBR.out.mono HBk.out.size)
      have HI := Lib.hid ((c3.keep HBR.out).more HBR.out.size)
      clear c3 hum
      rw [hA]
      obtain ⟨wO, hwO⟩ : ∃ x, x = wr := ⟨_, rfl⟩
      subst hwO
      obtain ⟨_, r0, r1⟩ := HBU.out
      go_wp2
      generalize (wO.alloc (.cells #[.int .i64 us[k].l, .slice us[k].a us[k].r.length us[k].c] 61)) = Y at *
      go_loopw [26] (fun i wr => ∃ (m : Nat), m ≤ us[k].r.length ∧ i = .int .i64 m ∧ Hid (Below Y.heap.size Y wr) ∧ Hid (NoRound (us.map Ru.abs) G us[k] m)) (fun i _ => us[k].r.length - (intOf i).toNat)
      case atStart => exact ⟨0, by omega, rfl, Below.refl _ _, fun i h => absurd h (by omega)⟩
      case round =>
        obtain ⟨m, hm, rfl, HBm, HM⟩ := hrel
        have HWm := Lib.hid (HBY.out.trans (HBm.out.mono HBY.out.size))
        obtain ⟨_, s0, s1⟩ := HBU.out.keep HBm.out HBU.out.1
        by_cases hlm : m < us[k].r.length
        · have HC := Lib.hid (growRound_any n t A2 c2 us p G us[k] m hlm hcu HUM.out wr ((HR3.out.keep HWm.out).more HWm.out.size) ((HI.out.keep HBm.out).more HBm.out.size) (HG3.out.keep HWm.out) HGU.out)
          rw [hA] at HC
          go_wp2_with fail
          refine HC.out.mono ?_
          rintro e w5 ⟨x, rfl, hx, hB5⟩
          cases x
          · have HN : Hid (NoRound (us.map Ru.abs) G us[k] (m + 1)) := fun i hi hr => by
              by_cases e : i = m
              · subst e; exact absurd (hx.2 hr) (by simp)
              · exact HM.out i (by omega) hr
            have HB5 := Lib.hid (HBm.out.trans (hB5.mono HBm.out.size)); clear hB5 hx
            go_wp2
            go_roundw
            case rel => exact ⟨m + 1, by omega, by go_num, HB5.out, HN.out⟩
            case measure => simp [intOf]; omega
          · have HN := Lib.hid (fin_no (List.getElem_mem hlt) (hx.1 rfl))
            have HB5 := Lib.hid (HWm.out.trans (hB5.mono HWm.out.size)); clear hB5 hx
            go_wp2
            go_ret2
            exact ⟨false, true, HQ.out false ⟨fun h => (by cases h), fun h => absurd h HN.out⟩, rfl, HB3.out.trans (HB5.out.mono HB3.out.size)⟩
        · obtain rfl : m = us[k].r.length := by omega
          have HN := Lib.hid (upto_ru (Q := fun u => ∀ i, ¬ RoundAt (us.map Ru.abs) G u.abs i) hlt (noRound_all HM.out) HK.out)
          go_wp2
          go_roundw
          case rel => exact ⟨k + 1, by omega, by go_num, HWm.out, HN.out⟩
          case measure => simp [intOf]; omega
    · have HE := Lib.hid (fin_yes hlt HK.out)
      go_wp2
      go_ret2
      exact ⟨true, true, HQ.out true ⟨fun _ => HE.out, fun _ => rfl⟩, rfl, HB3.out.trans (HBk.out.mono HB3.out.size)⟩

end Go.Proofs.YtkghblgiojidgaaDoor
