/- The reference's RewritesTo. -/
import Derived.Test.YtkghblgiojidgaaDoorRewI
import Derived.Test.YtkghblgiojidgaaDoorEndG
import Derived.Test.YtkghblgiojidgaaDoorStepL
import Derived.StillTailTactics
import Derived.Deep.RegionHeld3
namespace Go.Proofs.YtkghblgiojidgaaDoor
open Go.RowKit

def firstI : Option Nat → Int
  | some i => (i : Int)
  | none => -1
set_option maxRecDepth 20000 in
set_option maxHeartbeats 1000000 in
theorem l4First_any (A : Option Addr) (xs : List Int) (c : Nat) (w : World) (hx : Ints w w.heap.size A xs) (hl : xs.length ≤ 1048576) :
    Calls Tryd.prog 73 #[.slice A xs.length c] w fun e w' => ∃ o : Option Nat, IsFirst xs o ∧ e = .returned (.int .i64 (firstI o)) ∧ w' = w := by
  have HX := Lib.hid hx; clear hx
  go_enter Tryd.func73, Tryd.ntmps73
  go_wp2
  go_loopw [7] (fun n wr => ∃ (k : Nat), k ≤ xs.length ∧ n = .int .i64 k ∧ wr = w ∧ Hid (∀ (j : Nat) (x : Int), j < k → xs[j]? = some x → x < 0)) (fun n _ => xs.length - (intOf n).toNat)
  case atStart => exact ⟨0, by omega, rfl, rfl, fun j x h => absurd h (by omega)⟩
  case round =>
    obtain ⟨k, hk, rfl, hwr, H⟩ := hrel
    subst hwr
    by_cases hlt : k < xs.length
    · obtain ⟨b, o, rfl, hb, c1⟩ := HX.out.at_ hlt
      by_cases hn : 0 ≤ xs[k]
      · have HF : Hid (IsFirst xs (some k)) := ⟨⟨xs[k], List.getElem?_eq_getElem hlt, hn⟩, H.out⟩
        go_wp2
        go_ret
        exact ⟨some k, HF.out, rfl, rfl⟩
      · have HN : Hid (∀ (j : Nat) (x : Int), j < k + 1 → xs[j]? = some x → x < 0) := fun j x h1 h2 => by
          by_cases e : j = k
          · subst e
            rw [List.getElem?_eq_getElem hlt] at h2
            have := Option.some.inj h2
            omega
          · exact H.out j x (by omega) h2
        go_wp2
        go_roundw
        case rel => exact ⟨k + 1, by omega, by go_num, trivial, HN.out⟩
        case measure => simp [intOf]; omega
    · have HF : Hid (IsFirst xs none) := fun j x h => H.out j x (by have := (List.getElem?_eq_some_iff.1 h).1; omega) h
      go_wp2
      go_ret
      exact ⟨none, HF.out, rfl, rfl⟩

theorem first_some (xs : List Int) : ∃ o, IsFirst xs o := by
  induction xs with
  | nil => exact ⟨none, fun j x h => by simp at h⟩
  | cons y ys ih =>
    by_cases hy : 0 ≤ y
    · exact ⟨some 0, ⟨y, rfl, hy⟩, fun j x h => absurd h (by omega)⟩
    · obtain ⟨o, ho⟩ := ih
      rcases o with _ | i
      · refine ⟨none, fun j x h => ?_⟩
        rcases j with _ | j
        · have : y = x := by simpa using h
          omega
        · exact ho j x (by simpa using h)
      · obtain ⟨⟨x, h1, h2⟩, h3⟩ := ho
        refine ⟨some (i + 1), ⟨x, by simpa using h1, h2⟩, fun j z hj hz => ?_⟩
        rcases j with _ | j
        · have : y = z := by simpa using hz
          omega
        · exact h3 j z (by omega) (by simpa using hz)
theorem syms_mem {n t : Int} {xs : List Int} : symsB n t xs = true ↔ ∀ x ∈ xs, symB n t x = true := by unfold symsB; exact List.all_eq_true
theorem form_step {n t : Int} {ss : List (Int × List Int)} {xs ys : List Int} {i : Nat} {x : Int} (hg : goodG n t ss = true) (hf : formB n t xs = true) (h : stepV ss xs i x = some ys) : formB n t ys = true := by
  have h40 := stepV_len h
  unfold formB at hf ⊢
  rw [Bool.and_eq_true] at hf ⊢
  refine ⟨decide_eq_true h40, syms_mem.2 fun y hy => ?_⟩
  unfold stepV at h
  split at h
  · rename_i u hu
    split at h
    · injection h with h
      rw [← h] at hy
      unfold stepL at hy
      rw [List.mem_append, List.mem_append] at hy
      rcases hy with (hy | hy) | hy
      · exact syms_mem.1 hf.2 y (List.mem_of_mem_take hy)
      · have h1 := (goodG_mem hg (List.mem_of_getElem? hu)).2.2 y hy
        unfold symB
        exact decide_eq_true (by omega)
      · exact syms_mem.1 hf.2 y (List.mem_of_mem_drop hy)
    · cases h
  · cases h
theorem stepF_first {n t : Int} {ss : List (Int × List Int)} {xs : List Int} {o : Option Nat} (hg : goodG n t ss = true) (hf : formB n t xs = true) (h : IsFirst xs o) (x : Int) : stepF n t ss xs (firstI o) x = o.bind fun i => stepV ss xs i x := by
  rcases o with _ | i
  · exact if_neg fun h => by have := h.2.2.1; simp [firstI] at this
  · have hi := first_lt h
    refine (if_pos ⟨hg, hf, by simp [firstI], by simp [firstI]; omega⟩).trans ?_
    simp [firstI]

set_option maxRecDepth 20000 in
set_option maxHeartbeats 1000000 in
theorem specRewrites_any (n t : Int) (A : Option Addr) (c : Nat) (rs : List Ru) (Ar : Option Addr) (cr : Nat) (us : List Int) (w : World) (hx : Rls w w.heap.size A rs) (hI : Ints w w.heap.size Ar us) (hc : rs.length ≤ c) (h1 : rs.length ≤ 1048576) (h2 : ∀ u ∈ rs, u.r.length ≤ 1048576) (h3 : us.length ≤ 1048576) :
    Calls Tryd.prog 37 #[.agg #[.int .i64 n, .int .i64 t, .slice A rs.length c], .slice Ar us.length cr] w (GaveOQ w (QR n t (rs.map Ru.abs) us)) := by
  have HX := Lib.hid hx; clear hx
  have HI := Lib.hid hI; clear hI
  have H2 := Lib.hid h2; clear h2
  have HB0 : Hid (Below w.heap.size w (w.alloc (.cells #[.int .i64 n, .int .i64 t, .slice A rs.length c] 30))) := by show Below _ _ _; go_grown
  have HX0 : Hid (Box3 (w.alloc (.cells #[.int .i64 n, .int .i64 t, .slice A rs.length c] 30)) w.heap.size (.int .i64 n) (.int .i64 t) (.slice A rs.length c)) := ⟨by simp, by simp [go_sem], by simp [go_sem], by simp [go_sem]⟩
  have HC := Lib.hid (specGood_any n t A c rs _ ((HX.out.keep HB0.out).more HB0.out.size) hc h1 H2.out)
  by_cases hq : goodG n t (rs.map Ru.abs) = true ∧ us.length ≤ 60
  · obtain ⟨hg, h60⟩ := hq
    rw [hg] at HC
    have HQ : Hid (∀ o, Rew (rs.map Ru.abs) us [0] o → QR n t (rs.map Ru.abs) us o) := fun o h => ⟨fun _ => h, fun k => absurd ⟨hg, h60⟩ k⟩
    have HF0 : Hid (formB n t [0] = true) := by
      have := goodG_is hg
      show _ = _
      unfold formB symsB symB
      simp
      omega
    have HG := Lib.hid hg; clear hg
    go_enter Tryd.func37, Tryd.ntmps37
    go_wp2_with fail
    refine HC.out.mono ?_
    rintro e w1 ⟨rfl, hB1⟩
    have HB1 : Hid (Below w.heap.size w (w1.alloc (.cells #[.int .i64 0] 3))) := (HB0.out.trans (hB1.mono HB0.out.size)).alloc (by have := (HB0.out.trans (hB1.mono HB0.out.size)).size; omega) _
    have HX1 : Hid (Box3 (w1.alloc (.cells #[.int .i64 0] 3)) w.heap.size (.int .i64 n) (.int .i64 t) (.slice A rs.length c)) := (HX0.out.keep hB1 (by simp)).keep ((Below.refl _ _).alloc (Nat.le_refl _) _) (HX0.out.keep hB1 (by simp)).1
    have HO1 : Hid (OwnI (w1.alloc (.cells #[.int .i64 0] 3)) w.heap.size (some ⟨w1.heap.size, 0, none⟩) [0]) := (own_one w1 0).lower (HB0.out.trans (hB1.mono HB0.out.size)).size
    clear hB1
    go_wp2
    go_loopw [6, 22] (fun f i wr => ∃ (k : Nat) (A' : Option Addr) (fs : List Int) (c' : Nat), k ≤ us.length ∧ i = .int .i64 k ∧ f = .slice A' fs.length c' ∧ fs.length ≤ c' ∧ fs.length ≤ 40 ∧ Hid (formB n t fs = true) ∧ Hid (∀ o, Rew (rs.map Ru.abs) (us.drop k) fs o → Rew (rs.map Ru.abs) us [0] o) ∧ Hid (OwnI wr w.heap.size A' fs) ∧ Hid (Below w.heap.size w wr) ∧ Hid (Box3 wr w.heap.size (.int .i64 n) (.int .i64 t) (.slice A rs.length c))) (fun _ i _ => us.length - (intOf i).toNat)
    case atStart => exact ⟨0, _, [0], 1, by omega, rfl, rfl, by simp, by simp, HF0.out, fun o h => h, HO1.out, HB1.out, HX1.out⟩
    case round =>
      obtain ⟨k, A', fs, c', hk, rfl, rfl, hfc, hf40, HFB, HR, HO, HB, HU⟩ := hrel
      clear HB1 HX1 HO1 HF0
      by_cases hlt : k < us.length
      · obtain ⟨b, o, rfl, hb, c1⟩ := (HI.out.keep HB.out).at_ hlt
        have hdr : us.drop k = us[k] :: us.drop (k + 1) := List.drop_eq_getElem_cons hlt
        have HDR := Lib.hid hdr; clear hdr
        obtain ⟨o1, hF1⟩ := first_some fs
        have HF1 := Lib.hid hF1; clear hF1
        obtain ⟨_, b0, b1, b2⟩ := HU.out
        have HBD : Hid (Below w.heap.size w wr.drew) := HB.out.trans ((below_drew' _).mono HB.out.size)
        have HOD : Hid (OwnI wr.drew w.heap.size A' fs) := HO.out.below (below_drew' _) (Nat.le_refl _)
        have HFN : Hid (Calls Tryd.prog 73 #[.slice A' fs.length c'] wr.drew fun e w' => e = .returned (.int .i64 (firstI o1)) ∧ w' = wr.drew) := (l4First_any A' fs c' wr.drew HOD.out.ints (by omega)).mono fun e w' hh => by
          obtain ⟨o2, h5, h6, h7⟩ := hh
          rw [h5.unique HF1.out] at h6
          exact ⟨h6, h7⟩
        have HSF := Lib.hid (stepF_first HG.out HFB.out HF1.out us[k])
        have HP := Lib.hid (specStep_any l4Step_ok n t (firstI o1) us[k] A c rs A' c' fs wr.drew ((HX.out.keep HBD.out).more HBD.out.size) HOD.out.ints hc h1 H2.out (by omega) hfc)
        have HUD := Lib.hid (HU.out.keep (below_drew' _) HU.out.1)
        generalize firstI o1 = aa at *
        go_wp2_with fail
        go_region_held3 (fun w' => w'.cell? ⟨w.heap.size, 0, none⟩ = some (.int .i64 n) ∧ w'.cell? ⟨w.heap.size, 1, none⟩ = some (.int .i64 t) ∧ w'.cell? ⟨w.heap.size, 2, none⟩ = some (.slice A rs.length c))
          (first | exact ⟨y0, y1, y2⟩ | exact ⟨b0, b1, b2⟩)
          (first
          | (go_at_call 73
             refine HFN.out.mono ?_
             rintro e w2 ⟨rfl, rfl⟩)
          | (go_at_call 34
             refine HP.out.mono ?_
             rintro e w3 ⟨A3, ys, c3, bb, rfl, hy, hbb, hO3, hyc, hB3⟩
             have HB3 : Hid (Below w.heap.size w w3) := HBD.out.trans (hB3.mono HBD.out.size)
             have HU3 := Lib.hid (HUD.out.keep hB3 HUD.out.1)
             obtain ⟨_, y0, y1, y2⟩ := HU3.out
             have HO3 : Hid (OwnI w3 w.heap.size A3 ys) := hO3.lower HBD.out.size
             have HYB := Lib.hid (And.intro hy hbb)
             clear hy hbb hO3 hB3)
          | fail)
        rename_i hHeld
        clear hHeld
        obtain ⟨hy, hbb⟩ := HYB.out
        rw [HSF.out] at hy hbb
        clear HSF HYB
        cases hs : (o1.bind fun i => stepV (rs.map Ru.abs) fs i us[k])
        · rw [hs] at hy hbb
          have hbb' : bb = false := hbb
          subst hbb'
          have HE := Lib.hid (HQ.out none (HR.out none (by
            rw [HDR.out]
            rcases o1 with _ | i
            · exact .stop _ _ _ HF1.out
            · exact .fail _ _ _ i HF1.out hs)))
          clear hs hy hbb
          go_wp2
          go_ret2
          exact ⟨none, HE.out, none, [], 0, false, rfl, rfl, rfl, .inl rfl, Nat.le_refl _, HB3.out⟩
        · rename_i ys'
          rw [hs] at hy hbb
          have hy' : ys = ys' := hy
          have hbb' : bb = true := hbb
          subst hbb' hy'
          rcases o1 with _ | i
          · cases hs
          have hs' : stepV (rs.map Ru.abs) fs i us[k] = some ys := hs
          have hy40 := stepV_len hs'
          have HFN2 := Lib.hid (form_step HG.out HFB.out hs')
          have HRN : Hid (∀ o, Rew (rs.map Ru.abs) (us.drop (k + 1)) ys o → Rew (rs.map Ru.abs) us [0] o) := fun o h => HR.out o (by rw [HDR.out]; exact .step _ _ _ _ i _ HF1.out hs' h)
          clear hs hs' hy hbb
          go_wp2
          go_roundw
          case rel => exact ⟨k + 1, A3, ys, c3, by omega, by go_num, rfl, hyc, hy40, HFN2.out, HRN.out, HO3.out, HB3.out, HU3.out⟩
          case measure => simp [intOf]; omega
      · obtain rfl : k = us.length := by omega
        have HE := Lib.hid (HQ.out (some fs) (HR.out (some fs) (by rw [List.drop_length]; exact .done fs)))
        go_wp2
        go_ret2
        exact ⟨some fs, HE.out, A', fs, c', true, rfl, rfl, rfl, HO.out, hfc, HB.out⟩
  · have HE : Hid (QR n t (rs.map Ru.abs) us none) := ⟨fun h => absurd h hq, fun _ => rfl⟩
    cases hg : goodG n t (rs.map Ru.abs)
    case' true => have h60 : 60 < us.length := by by_cases e : us.length ≤ 60; exact absurd ⟨hg, e⟩ hq; omega
    all_goals
      rw [hg] at HC
      clear hg hq
      go_enter Tryd.func37, Tryd.ntmps37
      go_wp2_with fail
      refine HC.out.mono ?_
      rintro e w1 ⟨rfl, hB1⟩
      have HB1 : Hid (Below w.heap.size w w1) := HB0.out.trans (hB1.mono HB0.out.size)
      clear hB1
      go_wp2
      go_ret2
      exact ⟨none, HE.out, none, [], 0, false, rfl, rfl, rfl, .inl rfl, Nat.le_refl _, HB1.out⟩

end Go.Proofs.YtkghblgiojidgaaDoor
