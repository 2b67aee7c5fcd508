/- The law of HelperSays holds of every grammar that can be read and every int: the call returns true, and what was handed in reads afterwards as it read before. Conditions: the package's table of limits is as the program's text lays it (tied by the given tie). -/
import Derived.Test.YtaobkanliiiapaaDoorB510
import Derived.Test.YtaobkanliiiapaaDoorB503
import Derived.Test.YtaobkanliiiapaaDoorB509
import Derived.Deep.RegionHeld3
import Derived.Test.YtaobkanliiiapaaDoorCards

namespace Go.Proofs.YtaobkanliiiapaaDoor
open Go.RowKit

theorem cutR_at (k : Int) : ∀ (r : List Int) (l p n : Int), ∀ z ∈ (cutR k l r p n).F, ∃ q, z = [k, q] ∧ p ≤ q ∧ q + 3 ≤ p + r.length
  | [], l, p, n, z, h => by simp [cutR] at h
  | [a], l, p, n, z, h => by simp [cutR] at h
  | [a, b], l, p, n, z, h => by simp [cutR] at h
  | a :: b :: c :: r, l, p, n, z, h => by
    rw [cutR_more] at h
    rcases List.mem_cons.1 h with h | h
    · exact ⟨p, h, Int.le_refl _, by simp only [List.length_cons]; omega⟩
    · obtain ⟨q, e, h1, h2⟩ := cutR_at k (b :: c :: r) n (p + 1) (n + 1) z h
      exact ⟨q, e, by omega, by simp only [List.length_cons] at h2 ⊢; omega⟩
theorem cutR_flen (k : Int) : ∀ (r : List Int) (l p n : Int), ((cutR k l r p n).F.length : Int) = (cutR k l r p n).n - n
  | [], l, p, n => by simp [cutR]
  | [a], l, p, n => by simp [cutR]
  | [a, b], l, p, n => by simp [cutR]
  | a :: b :: c :: r, l, p, n => by
    have ih := cutR_flen k (b :: c :: r) n (p + 1) (n + 1)
    rw [cutR_more]
    simp only [List.length_cons]
    omega
theorem cutA_at : ∀ (rs : List (Int × List Int)) (k n : Int), ∀ z ∈ (cutA rs k n).F, ∃ (j : Nat) (l : Int) (r : List Int) (q : Int), rs[j]? = some (l, r) ∧ z = [k + j, q] ∧ 1 ≤ q ∧ q + 2 ≤ r.length
  | [], k, n, z, h => by simp [cutA] at h
  | r :: rs, k, n, z, h => by
    rw [cutA_cons] at h
    rcases List.mem_append.1 h with h | h
    · obtain ⟨q, e, h1, h2⟩ := cutR_at k r.2 r.1 1 n z h
      exact ⟨0, r.1, r.2, q, rfl, by simpa using e, h1, by omega⟩
    · obtain ⟨j, l, r', q, e1, e2, h1, h2⟩ := cutA_at rs (k + 1) _ z h
      exact ⟨j + 1, l, r', q, by simpa using e1, by rw [e2]; congr 1; push_cast; omega, h1, h2⟩
theorem cutA_flen : ∀ (rs : List (Int × List Int)) (k n : Int), ((cutA rs k n).F.length : Int) = (cutA rs k n).n - n
  | [], k, n => by simp [cutA]
  | r :: rs, k, n => by
    have h1 := cutR_flen k r.2 r.1 1 n
    have h2 := cutA_flen rs (k + 1) (cutR k r.1 r.2 1 n).n
    rw [cutA_cons]
    simp only [List.length_append]
    omega

theorem PBo.exists {n t : Int} {rs : List (Int × List Int)} (hg : goodG n t rs = true) : ∃ s, PBo n t rs s := by
  have hnd := goodG_nodup hg
  have hsm : ∀ r ∈ rs, r.1 < n ∧ ∀ x ∈ r.2, x < n := fun r hr => by
    have h := goodG_mem hg hr
    refine ⟨h.1.2, fun x hx => ?_⟩
    have h2 := (goodG_is hg).1
    rcases h.2.2 x hx with h3 | h3 <;> omega
  have srt : ∀ xs : List (List Int), (xs.mergeSort fun a b => decide (¬ cmpL b a < 0)).Pairwise fun a b => ¬ cmpL b a < 0 := fun xs => by
    have h := List.pairwise_mergeSort (le := fun a b : List Int => decide (¬ cmpL b a < 0)) (fun a b c h1 h2 => by
      have h1 := of_decide_eq_true h1
      have h2 := of_decide_eq_true h2
      refine decide_eq_true fun h3 => ?_
      have e1 := cmpL_anti a b
      have e2 := cmpL_anti b c
      by_cases h4 : cmpL a b < 0
      · exact h2 (cmpL_trans h3 h4)
      · have e := cmpL_eq (a := a) (b := b) (by omega)
        exact h2 (e ▸ h3)) (fun a b => by
      have e1 := cmpL_anti a b
      by_cases h : cmpL b a < 0
      · simp; omega
      · simp; omega) xs
    exact h.imp fun h => of_decide_eq_true h
  have per : ∀ xs : List (List Int), (xs.mergeSort fun a b => decide (¬ cmpL b a < 0)).Perm xs := fun xs => List.mergeSort_perm _ _
  have ris : ∀ xs : List (List Int), xs.Nodup → RisesL (xs.mergeSort fun a b => decide (¬ cmpL b a < 0)) := fun xs hx => rises_of_sorted (srt xs) ((per xs).nodup_iff.2 hx)
  exact ⟨⟨(cutA rs 0 n).n, t, (cutA rs 0 n).P.mergeSort fun a b => decide (¬ cmpL b a < 0), (cutA rs 0 n).O.mergeSort fun a b => decide (¬ cmpL b a < 0), sortI (cutA rs 0 n).E, (cutA rs 0 n).F⟩, rfl, rfl,
    ris _ (cutA_nodupP n rs 0 n hsm (Int.le_refl _) hnd), fun z => (per _).mem_iff, ris _ (cutA_nodupO rs 0 n hnd), fun z => (per _).mem_iff, rises_sortI (cutA_nodupE rs 0 n hnd), fun z => (sortI_perm _).mem_iff, rfl⟩
theorem boS_is {n t : Int} {rs : List (Int × List Int)} (hg : goodG n t rs = true) : PBo n t rs (boS n t rs) := by
  unfold boS
  rw [if_pos hg]
  exact Classical.epsilon_spec (PBo.exists hg)

/-- What HelperSays answers: whether it answers. -/
def hsO (n t : Int) (rs : List (Int × List Int)) (x : Int) : Bool := goodG n t rs && nonB (cutA rs 0 n).n x
/-- The symbols of a helper. -/
def hsF (rs : List (Int × List Int)) : Option (List Int) → List Int
  | some [j, q] => ((rs[j.toNat]?.map Prod.snd).getD []).drop q.toNat
  | _ => []
def hsV (n : Int) (rs : List (Int × List Int)) (x : Int) : List Int := if nonB n x then [x] else hsF rs (cutA rs 0 n).F[(x - n).toNat]?
def hsL (n t : Int) (rs : List (Int × List Int)) (x : Int) : List Int := if hsO n t rs x then hsV n rs x else []
/-- Of a helper: the rule and the place. -/
theorem hs_at {n x : Int} {rs : List (Int × List Int)} (_hn : 0 ≤ n) (h1 : nonB (cutA rs 0 n).n x = true) (h2 : nonB n x = false) :
    ∃ (i j : Nat) (l : Int) (r : List Int) (q : Nat), x - n = (i : Int) ∧ (cutA rs 0 n).F[i]? = some [(j : Int), (q : Int)] ∧ rs[j]? = some (l, r) ∧ 1 ≤ q ∧ q + 2 ≤ r.length ∧ hsV n rs x = r.drop q := by
  have h3 := nonB_is h1
  have h4 : ¬ (0 ≤ x ∧ x < n) := fun h => by rw [nonB_t h.1 h.2] at h2; cases h2
  obtain ⟨i, hi⟩ := Int.eq_ofNat_of_zero_le (show 0 ≤ x - n by omega)
  have hl := cutA_flen rs 0 n
  have hlt : i < (cutA rs 0 n).F.length := by omega
  obtain ⟨j, l, r, q, e1, e2, h5, h6⟩ := cutA_at rs 0 n _ (List.getElem_mem hlt)
  obtain ⟨q', rfl⟩ := Int.eq_ofNat_of_zero_le (show 0 ≤ q by omega)
  have e3 : (cutA rs 0 n).F[i]? = some [(j : Int), (q' : Int)] := by rw [List.getElem?_eq_getElem hlt, e2]; simp
  refine ⟨i, j, l, r, q', hi, e3, e1, by omega, by omega, ?_⟩
  unfold hsV
  rw [h2, hi, Int.toNat_natCast, e3]
  show ((rs[((j : Int)).toNat]?.map Prod.snd).getD []).drop ((q' : Int)).toNat = _
  simp only [Int.toNat_natCast]
  rw [e1]
  simp

end Go.Proofs.YtaobkanliiiapaaDoor

/- The program's HelperSays. -/

namespace Go.Proofs.YtaobkanliiiapaaDoor
open Go.RowKit

set_option maxRecDepth 20000 in
set_option maxHeartbeats 2000000 in
theorem implHelper_any (n t x : Int) (A : Option Addr) (c : Nat) (rs : List Ru) (w : World) (hx : Rls w w.heap.size A rs) (hL : Lims w) (hc : rs.length ≤ c) (h1 : rs.length ≤ 1048576) (h2 : ∀ u ∈ rs, u.r.length ≤ 1048576) (hcp : ∀ u ∈ rs, u.r.length ≤ u.c) (hf : FitR rs) :
    Calls Tryd.prog 38 #[.agg #[.int .i64 n, .int .i64 t, .slice A rs.length c], .int .i64 x] w (GaveIB w (hsL n t (rs.map Ru.abs) x) (hsO n t (rs.map Ru.abs) x)) := by
  have HX := Lib.hid hx; clear hx
  have HL := Lib.hid hL; clear hL
  have HF := Lib.hid hf; clear hf
  have H2 := Lib.hid h2; clear h2
  have HCP := Lib.hid hcp; clear hcp
  have HI1 : Hid ((Tryd.prog.info? 3).map (·.size) = some 1) := by show _ = _; kernel_rfl
  have HB0 : Hid (Below w.heap.size w (w.alloc (.cells #[.int .i64 n, .int .i64 t, .slice A rs.length c] 54))) := by show Below _ _ _; go_grown
  have B0 := Lib.hid (box_new w (.int .i64 n) (.int .i64 t) (.slice A rs.length c) 54)
  go_enter Tryd.func38, Tryd.ntmps38
  go_wp2_with fail
  generalize (w.alloc (.cells #[.int .i64 n, .int .i64 t, .slice A rs.length c] 54)) = W at HB0 B0 ⊢
  refine (implBo_any n t A c rs W ((HX.out.keep HB0.out).more HB0.out.size) (HL.out.keep HB0.out (Nat.le_refl _)) hc h1 H2.out HCP.out HF.out).mono ?_
  rintro e w1 ⟨b, rfl, hs, hO, hLB, _, hB1⟩
  have B1 := Lib.hid (B0.out.keep hB1 B0.out.1)
  have HB1 := Lib.hid (HB0.out.trans (hB1.mono HB0.out.size)); clear hB1 HB0 B0
  have hsz1 := HB1.out.size
  have HO := Lib.hid hO; clear hO
  have HS := Lib.hid hs; clear hs
  cases hg : goodG n t (rs.map Ru.abs)
  · have HV : Hid (hsO n t (rs.map Ru.abs) x = false) := by show _ = _; unfold hsO; rw [hg]; rfl
    have HV2 : Hid (hsL n t (rs.map Ru.abs) x = []) := by show _ = _; unfold hsL; rw [HV.out]; rfl
    clear hg
    go_wp2
    go_ret2
    exact ⟨none, 0, by rw [HV.out, HV2.out]; rfl, by rw [HV2.out]; exact .inl rfl, HB1.out.alloc hsz1 _⟩
  have HG := Lib.hid hg; clear hg
  have HPB : Hid (b.say.n = (cutA (rs.map Ru.abs) 0 n).n ∧ b.say.F = (cutA (rs.map Ru.abs) 0 n).F) := by
    have h := boS_is (t := t) HG.out
    rw [← HS.out] at h
    exact ⟨h.nn, h.F⟩
  have HBN : Hid (b.n = (cutA (rs.map Ru.abs) 0 n).n) := HPB.out.1
  have HBF : Hid (sayL b.F = (cutA (rs.map Ru.abs) 0 n).F) := HPB.out.2
  have hn0 : 0 ≤ n := by have h := (goodG_is HG.out).1; omega
  have h16 : rs.length ≤ 16 := by have h := (goodG_is HG.out).2.2.1; rwa [List.length_map] at h
  have HBL := Lib.hid (HBN.out ▸ cutA_le (rs.map Ru.abs) 0 n : n ≤ b.n)
  obtain ⟨_, g0, g1, g2⟩ := B1.out
  go_wp2_with fail
  have hBN := below_new w1 (.cells #[.int .i64 b.n, .int .i64 b.t, .slice b.Ap b.P.length b.cp, .slice b.Ao b.O.length b.co, .slice b.Ae b.E.length b.ce, .slice b.Af b.F.length b.cf] 41)
  have BX := Lib.hid (Box6.new w1 b 41)
  generalize (w1.alloc (.cells #[.int .i64 b.n, .int .i64 b.t, .slice b.Ap b.P.length b.cp, .slice b.Ao b.O.length b.co, .slice b.Ae b.E.length b.ce, .slice b.Af b.F.length b.cf] 41)) = W2 at hBN BX ⊢
  have B2 := Lib.hid (B1.out.keep hBN B1.out.1)
  have HO2 := Lib.hid (HO.out.below hBN (Nat.le_refl _))
  have HB2 := Lib.hid (HB1.out.trans (hBN.mono hsz1))
  have hsz2 := HB2.out.size
  clear hBN g0 g1 g2 HB1 B1 HO hsz1
  refine (symbolsOf_any b W2).mono ?_
  rintro e w3 ⟨rfl, hB3⟩
  have B3 := Lib.hid (B2.out.keep hB3 B2.out.1)
  have BX3 := Lib.hid (BX.out.keep hB3 BX.out.1)
  have HO3 := Lib.hid (HO2.out.below hB3 (Nat.le_refl _))
  have HB3 := Lib.hid (HB2.out.trans (hB3.mono hsz2))
  have hsz3 := HB3.out.size
  clear hB3 B2 BX HO2 HB2 hsz2
  go_wp2_with fail
  refine (isNon_any _ _ _ _ _).mono ?_
  rintro e w4 ⟨rfl, hB4⟩
  have B4 := Lib.hid (B3.out.keep hB4 B3.out.1)
  have BX4 := Lib.hid (BX3.out.keep hB4 BX3.out.1)
  have HO4 := Lib.hid (HO3.out.below hB4 (Nat.le_refl _))
  have HB4 := Lib.hid (HB3.out.trans (hB4.mono hsz3))
  have hsz4 := HB4.out.size
  clear hB4 B3 BX3 HO3 HB3 hsz3
  cases hnx : nonB b.n x
  · have HV : Hid (hsO n t (rs.map Ru.abs) x = false) := by show _ = _; unfold hsO; rw [HG.out, ← HBN.out, hnx]; rfl
    have HV2 : Hid (hsL n t (rs.map Ru.abs) x = []) := by show _ = _; unfold hsL; rw [HV.out]; rfl
    clear hnx
    go_wp2
    go_ret2
    exact ⟨none, 0, by rw [HV.out, HV2.out]; rfl, by rw [HV2.out]; exact .inl rfl, HB4.out⟩
  have HV : Hid (hsO n t (rs.map Ru.abs) x = true) := by show _ = _; unfold hsO; rw [HG.out, ← HBN.out, hnx]; rfl
  have HV2 : Hid (hsL n t (rs.map Ru.abs) x = hsV n (rs.map Ru.abs) x) := by show _ = _; unfold hsL; rw [HV.out]; rfl
  obtain ⟨_, g0, g1, g2⟩ := B4.out
  go_wp2_with fail
  refine (isNon_any _ _ _ _ _).mono ?_
  rintro e w5 ⟨rfl, hB5⟩
  have B5 := Lib.hid (B4.out.keep hB5 B4.out.1)
  have BX5 := Lib.hid (BX4.out.keep hB5 BX4.out.1)
  have HO5 := Lib.hid (HO4.out.below hB5 (Nat.le_refl _))
  have HB5 := Lib.hid (HB4.out.trans (hB5.mono hsz4))
  have hsz5 := HB5.out.size
  clear hB5 B4 BX4 HO4 HB4 hsz4 g0 g1 g2
  cases hn2 : nonB n x
  · obtain ⟨i, j, l, r, q, hi, e1, e2, hq1, hq2, e3⟩ := hs_at hn0 (HBN.out ▸ hnx) hn2
    rw [← HBF.out] at e1
    have hil := (List.getElem?_eq_some_iff.1 e1).1
    rw [sayL_len] at hil
    have h10 := nonB_is hnx
    have hxn : 0 ≤ x - n := by omega
    obtain ⟨bb, oo, eA, hbb, c1, _, c3⟩ := HO5.out.2.2.2.lls.at_ hil
    rw [sayL_at hil] at e1
    injection e1 with e1
    rw [e1] at c1 c3
    obtain ⟨p0, o0, eu, hp0, d0⟩ := c3.at_ (k := 0) (by simp)
    obtain ⟨p1, o1, eu1, hp1, d1⟩ := c3.at_ (k := 1) (by simp)
    rw [eu] at eu1
    injection eu1 with eu1
    injection eu1 with eu1 eu2
    subst eu1 eu2
    have hjl := (List.getElem?_eq_some_iff.1 e2).1
    rw [List.length_map] at hjl
    obtain ⟨rb, ro, eR, hrb, k0, k1, k2⟩ := (HX.out.keep HB5.out).at_ hjl
    have hru : rs[j].r = r := by
      rw [List.getElem?_map, List.getElem?_eq_getElem hjl] at e2
      injection e2 with e2
      exact congrArg Prod.snd e2
    have hrc := HCP.out rs[j] (List.getElem_mem hjl)
    have hrl := H2.out rs[j] (List.getElem_mem hjl)
    rw [hru] at k1 k2 hrc hrl
    have hb1000 : b.n ≤ 1000 := by have h := (cutOK_good HG.out).nl; rw [HBN.out]; exact h
    obtain ⟨_, _, _, _, _, _, b5⟩ := BX5.out
    obtain ⟨_, g0, g1, g2⟩ := B5.out
    have HV3 := Lib.hid e3
    have HI := Lib.hid (k2.more hsz5)
    have HSP := Lib.hid HS
    generalize b.F[i] = ui at c1 eu
    obtain ⟨uia, uir, uic⟩ := ui
    generalize rs[j] = uj at k1 HI hrc
    obtain ⟨ujl, uja, ujr, ujc⟩ := uj
    dsimp only at c1 eu k1 HI hrc
    subst eu eR
    rw [eA] at b5
    clear eA
    rw [show ([(j : Int), (q : Int)] : List Int).length = 2 from rfl] at c1
    simp only [List.getElem_cons_zero, List.getElem_cons_succ, Nat.add_zero] at d0 d1
    clear e1 e2 e3 hn2 c3 k2 k0 hnx hru hp0 hp1 h10
    have hq3 : q ≤ r.length := by omega
    have hfl := hLB.f
    go_wp2_with fail
    go_region
    have HBD : Hid (Below w5.heap.size w5 w5.drew) := by show Below _ _ _; go_grown
    have hxl : (r.drop q).length ≤ 1048576 := by rw [List.length_drop]; omega
    have HCPY : Hid (∀ A' : Option Addr, (∀ b' o', uja = some ⟨b', o', none⟩ → q < ujc → A' = some ⟨b', o' + q, none⟩) → Calls Tryd.prog 70 #[.slice A' (r.length - q) (ujc - q)] w5.drew (GaveI w5.drew (r.drop q))) := fun A' hA => by
      have h := copyList_any A' (r.drop q) (ujc - q) w5.drew (fun hp => by
        obtain ⟨b', o', e, hb, hc⟩ := HI.out (by omega)
        refine ⟨b', o' + q, hA b' o' e (by omega), hb, fun k y hy => ?_⟩
        rw [List.getElem?_drop] at hy
        rw [Nat.add_assoc]
        exact hc (q + k) y hy) hxl
      rwa [List.length_drop] at h
    go_wp2_with (first
      | (with_reducible refine wpList_from rfl 37 (.tmp 49) (.tmp 50) rfl 3 Tryd.underlying37 HI1.out uja r.length ujc q rfl rfl hq3 ?_
         intro A' hA1 hA2
         have HC2 := Lib.hid (HCPY.out A' hA1)
         clear hA1 hA2)
      | (go_at_call 70
         refine HC2.out.mono ?_
         rintro e w6 ⟨A6, c6, rfl, hc6, hO6, hB6⟩
         have HO6 := Lib.hid hO6
         have HB6 : Hid (Below w5.heap.size w5 w6) := HBD.out.trans hB6
         clear hO6 hB6 hc6))
    go_ret2
    exact ⟨A6, c6, by rw [HV.out, HV2.out, HV3.out, List.length_drop]; rfl, by rw [HV2.out, HV3.out]; exact HO6.out.lower hsz5, HB5.out.trans (HB6.out.mono hsz5)⟩
  · have HV3 : Hid (hsV n (rs.map Ru.abs) x = [x]) := by show _ = _; unfold hsV; rw [hn2]; rfl
    clear hn2 hnx
    go_wp2
    go_ret2
    refine ⟨some ⟨w5.heap.size, 0, none⟩, 1, by rw [HV.out, HV2.out, HV3.out]; rfl, ?_, HB5.out.alloc hsz5 _⟩
    rw [HV2.out, HV3.out]
    refine .inr ⟨w5.heap.size, _, rfl, hsz5, Row.new _ _ _, fun k y hk => ?_⟩
    rcases k with _ | k
    · simpa using hk
    · simp at hk

end Go.Proofs.YtaobkanliiiapaaDoor

/- The reference's HelperSays. -/

namespace Go.Proofs.YtaobkanliiiapaaDoor
open Go.RowKit

/-- What is read of l5Binary's answer: how many nonterminals, and From. -/
theorem GaveBs.read {w w' : World} {n t : Int} {rs : List (Int × List Int)} {e : Ending} (h : GaveBs w n t rs e w') : ∃ Ap pl cp Ao ol co Ae el ce Af fs cf, e = .returned (.agg #[.int .i64 (cutA rs 0 n).n, .int .i64 t, .slice Ap pl cp, .slice Ao ol co, .slice Ae el ce, .slice Af fs.length cf]) ∧ sayL fs = (cutA rs 0 n).F ∧ Lls w' w'.heap.size Af fs ∧ Below w.heap.size w w' := by
  obtain ⟨m, lo, vp, ps, vo, os, ve, es, vf, fs, rfl, hlo, hN, hM, hB⟩ := h
  obtain ⟨Ap, cp, rfl, _, _⟩ := hN.tri.la.slice
  obtain ⟨Ao, co, rfl, _, _⟩ := hN.tri.lb.slice
  obtain ⟨Ae, ce, rfl, _, _⟩ := hN.e.shape
  obtain ⟨Af, cf, rfl, _, o4⟩ := hN.tri.lc.slice
  have hF := hM.F
  have hn := hM.nx
  rw [List.take_length] at hF hn
  exact ⟨Ap, _, cp, Ao, _, co, Ae, _, ce, Af, fs, cf, by rw [hn], hF, o4.lls, hB⟩

theorem field_n (m t : Int) (Ap Ao Ae Af : Option Addr) (pl cp ol co el ce fl cf : Nat) (w : World) : (Instr.field 41 (.agg #[.int .i64 m, .int .i64 t, .slice Ap pl cp, .slice Ao ol co, .slice Ae el ce, .slice Af fl cf]) 0).run Tryd.prog w = .ok (.int .i64 m) w := by kernel_rfl
theorem field_f (m t : Int) (Ap Ao Ae Af : Option Addr) (pl cp ol co el ce fl cf : Nat) (w : World) : (Instr.field 41 (.agg #[.int .i64 m, .int .i64 t, .slice Ap pl cp, .slice Ao ol co, .slice Ae el ce, .slice Af fl cf]) 5).run Tryd.prog w = .ok (.slice Af fl cf) w := by kernel_rfl

set_option maxRecDepth 20000 in
set_option maxHeartbeats 2000000 in
theorem specHelper_any (n t x : Int) (A : Option Addr) (c : Nat) (rs : List Ru) (w : World) (hx : Rls w w.heap.size A rs) (hc : rs.length ≤ c) (h1 : rs.length ≤ 1048576) (h2 : ∀ u ∈ rs, u.r.length ≤ 1048576) (hcp : ∀ u ∈ rs, u.r.length ≤ u.c) :
    Calls Tryd.prog 37 #[.agg #[.int .i64 n, .int .i64 t, .slice A rs.length c], .int .i64 x] w (GaveIB w (hsL n t (rs.map Ru.abs) x) (hsO n t (rs.map Ru.abs) x)) := by
  have hfn := field_n
  have hff := field_f
  have HX := Lib.hid hx; clear hx
  have H2 := Lib.hid h2; clear h2
  have HCP := Lib.hid hcp; clear hcp
  have HB0 : Hid (Below w.heap.size w (w.alloc (.cells #[.int .i64 n, .int .i64 t, .slice A rs.length c] 54))) := by show Below _ _ _; go_grown
  have B0 := Lib.hid (box_new w (.int .i64 n) (.int .i64 t) (.slice A rs.length c) 54)
  go_enter Tryd.func37, Tryd.ntmps37
  go_wp2_with fail
  generalize (w.alloc (.cells #[.int .i64 n, .int .i64 t, .slice A rs.length c] 54)) = W at HB0 B0 ⊢
  refine (specGood_any n t A c rs W ((HX.out.keep HB0.out).more HB0.out.size) hc h1 H2.out).mono ?_
  rintro e w1 ⟨rfl, hB1⟩
  have B1 := Lib.hid (B0.out.keep hB1 B0.out.1)
  have HB1 := Lib.hid (HB0.out.trans (hB1.mono HB0.out.size)); clear hB1 HB0 B0
  have hsz1 := HB1.out.size
  cases hg : goodG n t (rs.map Ru.abs)
  · have HV : Hid (hsO n t (rs.map Ru.abs) x = false) := by show _ = _; unfold hsO; rw [hg]; rfl
    have HV2 : Hid (hsL n t (rs.map Ru.abs) x = []) := by show _ = _; unfold hsL; rw [HV.out]; rfl
    clear hg
    go_wp2
    go_ret2
    exact ⟨none, 0, by rw [HV.out, HV2.out]; rfl, by rw [HV2.out]; exact .inl rfl, HB1.out⟩
  have HG := Lib.hid hg; clear hg
  have hn0 : 0 ≤ n := by have h := (goodG_is HG.out).1; omega
  have hn6 : n ≤ 6 := by have h := (goodG_is HG.out).1; omega
  have h16 : rs.length ≤ 16 := by have h := (goodG_is HG.out).2.2.1; rwa [List.length_map] at h
  have hmb : n ≤ (cutA (rs.map Ru.abs) 0 n).n ∧ (cutA (rs.map Ru.abs) 0 n).n ≤ 1000 := ⟨cutA_le _ _ _, (cutOK_good HG.out).nl⟩
  obtain ⟨m, hm⟩ : ∃ m, m = (cutA (rs.map Ru.abs) 0 n).n := ⟨_, rfl⟩
  rw [← hm] at hmb
  have HM := Lib.hid hm; clear hm
  have HNB : Hid (inB 0 (m - 1) x = nonB (cutA (rs.map Ru.abs) 0 n).n x) := by
    show _ = _
    rw [← HM.out]
    exact decide_eq_decide.2 ⟨fun h => ⟨h.1, by omega⟩, fun h => ⟨h.1, by omega⟩⟩
  obtain ⟨_, g0, g1, g2⟩ := B1.out
  go_wp2_with fail
  refine (l5Binary_any n t A c rs w1 ((HX.out.keep HB1.out).more hsz1) HCP.out HG.out).mono ?_
  intro e w2 hR
  obtain ⟨Ap, pl, cp, Ao, ol, co, Ae, el, ce, Af, fs, cf, rfl, _, _, hB2⟩ := hR.read
  clear hR
  rw [← HM.out]
  have B2 := Lib.hid (B1.out.keep hB2 B1.out.1)
  have HB2 := Lib.hid (HB1.out.trans (hB2.mono hsz1))
  have hsz2 := HB2.out.size
  clear hB2 B1 HB1 hsz1 g0 g1 g2
  cases hnx : inB 0 (m - 1) x
  · have HV : Hid (hsO n t (rs.map Ru.abs) x = false) := by show _ = _; unfold hsO; rw [HG.out, ← HNB.out, hnx]; rfl
    have HV2 : Hid (hsL n t (rs.map Ru.abs) x = []) := by show _ = _; unfold hsL; rw [HV.out]; rfl
    go_wp2_with (go_at_call 59; refine (l1In_any _ _ _ _).mono ?_; rintro e w3 ⟨rfl, rfl⟩; rw [hnx])
    go_ret2
    exact ⟨none, 0, by rw [HV.out, HV2.out]; rfl, by rw [HV2.out]; exact .inl rfl, HB2.out⟩
  have HV : Hid (hsO n t (rs.map Ru.abs) x = true) := by show _ = _; unfold hsO; rw [HG.out, ← HNB.out, hnx]; rfl
  have HV2 : Hid (hsL n t (rs.map Ru.abs) x = hsV n (rs.map Ru.abs) x) := by show _ = _; unfold hsL; rw [HV.out]; rfl
  have hx0 := inB_lo hnx
  have hx1 := inB_hi hnx
  obtain ⟨_, g0, g1, g2⟩ := B2.out
  by_cases hxn : x < n
  · have HV3 : Hid (hsV n (rs.map Ru.abs) x = [x]) := by show _ = _; unfold hsV; rw [nonB_t hx0 hxn]; rfl
    go_wp2_with (go_at_call 59; refine (l1In_any _ _ _ _).mono ?_; rintro e w3 ⟨rfl, rfl⟩; rw [hnx])
    go_ret2
    refine ⟨some ⟨w2.heap.size, 0, none⟩, 1, by rw [HV.out, HV2.out, HV3.out]; rfl, ?_, HB2.out.alloc hsz2 _⟩
    rw [HV2.out, HV3.out]
    refine .inr ⟨w2.heap.size, _, rfl, hsz2, Row.new _ _ _, fun k y hk => ?_⟩
    rcases k with _ | k
    · simpa using hk
    · simp at hk
  · have hn2 : nonB n x = false := nonB_f (by omega)
    obtain ⟨i, j, l, r, q, hi, e1, e2, hq1, hq2, e3⟩ := hs_at hn0 (HNB.out ▸ hnx) hn2
    have E1 := Lib.hid e1
    have hi50 : i ≤ 1000 := by omega
    have hwi : IntKind.i64.wrap (i : Int) = i := by rw [IntKind.wrap_i64]; omega
    clear e1
    have HC5 : Hid (∀ v : World, Below w2.heap.size w2 v → Calls Tryd.prog 79 #[.agg #[.int .i64 n, .int .i64 t, .slice A rs.length c]] v (GaveBs v n t (rs.map Ru.abs))) := fun v hv => l5Binary_any n t A c rs v (((HX.out.keep HB2.out).more hsz2).keep hv |>.more hv.size) HCP.out HG.out
    go_wp2_with (go_at_call 59; refine (l1In_any _ _ _ _).mono ?_; rintro e w3 ⟨rfl, rfl⟩; rw [hnx])
    go_region_law (first
      | (go_simp
         go_at_call 79
         refine (HC5.out _ ?_).mono ?_
         · go_grown
         intro e w4 hR4
         obtain ⟨Ap', pl', cp', Ao', ol', co', Ae', el', ce', Af', fs', cf', rfl, hF4, hL4, hB4'⟩ := hR4.read
         have hB4 : Below w2.heap.size w2 w4 := Below.trans (by go_grown) hB4'
         have HB4 := Lib.hid hB4
         obtain ⟨_, y0, y1, y2⟩ := B2.out.keep hB4 B2.out.1
         have hil := (List.getElem?_eq_some_iff.1 (hF4 ▸ E1.out : (sayL fs')[i]? = some [(j : Int), (q : Int)])).1
         rw [sayL_len] at hil
         obtain ⟨bb, oo, rfl, hbb, c1, _, c3⟩ := hL4.at_ hil
         have hui : fs'[i].r = [(j : Int), (q : Int)] := by
           have h : (sayL fs')[i]? = some [(j : Int), (q : Int)] := hF4 ▸ E1.out
           rw [sayL_at hil] at h
           injection h
         rw [hui] at c1 c3
         rw [show ([(j : Int), (q : Int)] : List Int).length = 2 from rfl] at c1
         have hfl : fs'.length ≤ 1000000 := by have h := congrArg List.length hF4; rw [sayL_len] at h; have := (cutOK_good HG.out).fl; omega
         have C3 := Lib.hid c3
         clear hB4 hB4' hL4 hF4 hui c3 hR4)
      | fail)
    all_goals
      have HB5 := Lib.hid (HB2.out.trans (HB4.out.mono hsz2))
      have hsz5 := HB5.out.size
      have hjl := (List.getElem?_eq_some_iff.1 e2).1
      rw [List.length_map] at hjl
      have hrs := HX.out
      have hru : rs[j].r = r := by
        rw [List.getElem?_map, List.getElem?_eq_getElem hjl] at e2
        injection e2 with e2
        exact congrArg Prod.snd e2
      obtain ⟨rb, ro, eR, hrb, k0, k1, k2⟩ := (hrs.keep HB5.out).at_ hjl
      have hrc := HCP.out rs[j] (List.getElem_mem hjl)
      have hrl := H2.out rs[j] (List.getElem_mem hjl)
      rw [hru] at k1 k2 hrc hrl
      obtain ⟨vb, vo, eV, hvb, _⟩ := k2 (by omega)
      have HI := Lib.hid (k2.more hsz5)
      have HV3 := Lib.hid e3
      rw [eV] at k1 HI
      clear hrs k0 k2 hru e2 e3 hvb eV
      generalize rs[j].c = ujc at k1 hrc
      subst eR
      generalize fs'[i] = ui at C3 c1 ⊢
      obtain ⟨uia, uir, uic⟩ := ui
      dsimp only at C3 c1 ⊢
      obtain ⟨p0, o0, rfl, hp0, d0⟩ := C3.out.at_ (k := 0) (by simp)
      obtain ⟨p1, o1, eu1, hp1, d1⟩ := C3.out.at_ (k := 1) (by simp)
      injection eu1 with eu1
      injection eu1 with eu1 eu2
      subst eu1 eu2
      simp only [List.getElem_cons_zero, List.getElem_cons_succ, Nat.add_zero] at d0 d1
      have q0 : (0 : Int) ≤ (q : Int) := by omega
      have q1 : (q : Int) ≤ (r.length : Int) := by omega
      have q2 : (r.length : Int) ≤ (ujc : Int) := by omega
      have q3 : ¬ ujc = q := by omega
      have q4 : ¬ (ujc : Int) = (q : Int) := by omega
      have hxl : (r.drop q).length ≤ 1048576 := by rw [List.length_drop]; omega
      have HBD : Hid (Below w4.heap.size w4 w4.drew) := by show Below _ _ _; go_grown
      have HCPY : Hid (Calls Tryd.prog 72 #[.slice (some ⟨vb, vo + q, none⟩) (r.length - q) (ujc - q)] w4.drew (GaveI' w4.drew (r.drop q))) := by
        have h := l1Own_any (some ⟨vb, vo + q, none⟩) (r.drop q) (ujc - q) w4.drew (fun hp => by
          obtain ⟨b', o', e, hb, hc⟩ := HI.out (by omega)
          injection e with e
          injection e with e e'
          subst e e'
          refine ⟨vb, vo + q, rfl, hb, fun k y hy => ?_⟩
          rw [List.getElem?_drop] at hy
          rw [Nat.add_assoc]
          exact hc (q + k) y hy) hxl
        rwa [List.length_drop] at h
      go_wp2_with fail
      go_region_law (first
        | (go_simp
           go_at_call 72
           refine HCPY.out.mono ?_
           rintro e w6 ⟨A6, c6, rfl, hO6, hB6⟩
           have HO6 := Lib.hid hO6
           have HB6 : Hid (Below w4.heap.size w4 w6) := HBD.out.trans hB6
           clear hO6 hB6)
        | fail)
      all_goals
        go_wp2
        go_ret2
        exact ⟨A6, c6, by rw [HV.out, HV2.out, HV3.out, List.length_drop]; rfl, by rw [HV2.out, HV3.out]; exact HO6.out.lower hsz5, HB5.out.trans (HB6.out.mono hsz5)⟩

end Go.Proofs.YtaobkanliiiapaaDoor

/- The law of HelperSays: its walk. -/

namespace Go.Proofs.YtaobkanliiiapaaDoor
open Go.RowKit

set_option maxHeartbeats 1000000 in
theorem law_HelperSays (n t x : Int) (A : Option Addr) (c : Nat) (rs : List Ru) (w : World) (hx : Rls w w.heap.size A rs) (hL : Lims w) (hn : rs.length ≤ maxLen) (hu : ∀ u ∈ rs, u.r.length ≤ maxLen) (hf : FitR rs) :
    Calls Tryd.prog 5 #[.agg #[.int .i64 n, .int .i64 t, .slice A rs.length c], .int .i64 x] w (LawEnds w) := by
  have HX := Lib.hid hx; clear hx
  have HL := Lib.hid hL; clear hL
  have HN := Lib.hid hn; clear hn
  have HU := Lib.hid hu; clear hu
  have HF := Lib.hid hf; clear hf
  go_enter Tryd.func5, Tryd.ntmps5
  go_wp2_with fail
  have hBA : Below w.heap.size w (w.alloc (.cells #[.int .i64 n, .int .i64 t, .slice A rs.length c] 48)) := by go_grown
  have B0 : Box3 (w.alloc (.cells #[.int .i64 n, .int .i64 t, .slice A rs.length c] 48)) w.heap.size (.int .i64 n) (.int .i64 t) (.slice A rs.length c) := ⟨by simp, by simp [go_sem], by simp [go_sem], by simp [go_sem]⟩
  generalize (w.alloc (.cells #[.int .i64 n, .int .i64 t, .slice A rs.length c] 48)) = W at hBA B0 ⊢
  have HBA := Lib.hid hBA; clear hBA
  have HB0 := Lib.hid B0; clear B0
  refine (szGrammar_any _ _ _ _ _ _ _ ((HX.out.keep HBA.out).more HBA.out.size) HN.out HU.out (by omega) (by omega)).mono ?_
  rintro e w1 ⟨rfl, hB1⟩
  have HB1 := Lib.hid hB1; clear hB1
  by_cases hneg : szRs rs 1048576 < 0
  · go_wp2
    go_ret
    exact ⟨rfl, HBA.out.trans (HB1.out.mono HBA.out.size)⟩
  obtain ⟨hlen0, hlens0⟩ := szRs_bound (L := 1048576) (by omega) (by omega : 0 ≤ szRs rs 1048576)
  have hlen : rs.length ≤ 1048576 := by omega
  have HLN : Hid (∀ u ∈ rs, u.r.length ≤ 1048576) := fun u hu => by have := hlens0 u hu; omega
  clear hlen0 hlens0
  have HW1 := Lib.hid (HBA.out.trans (HB1.out.mono HBA.out.size))
  have KA1 := Lib.hid (HB0.out.keep HB1.out HB0.out.1)
  have HR1 := Lib.hid ((HX.out.keep HW1.out).more HW1.out.size)
  obtain ⟨_, a0, a1, a2⟩ := KA1.out
  clear HB1 HB0 HBA
  -- the reference's answer
  go_wp2_with fail
  refine (toGrammarC_any _ _ _ _ _ _ HR1.out hlen HLN.out).mono ?_
  rintro e w2 ⟨A2, c2, rs2, rfl, hcap2, hO2, ha2, hcp2, hB2⟩
  have HCP2 := Lib.hid hcp2; clear hcp2
  have hl2 := abs_len ha2
  have hlen2 : rs2.length ≤ 1048576 := by omega
  have HLN2 := Lib.hid (abs_lens ha2 HLN.out)
  have HO2 := Lib.hid hO2; clear hO2
  have HA2 := Lib.hid ha2; clear ha2
  have HB2 := Lib.hid hB2; clear hB2
  clear hl2
  go_wp2_with fail
  refine (specHelper_any _ _ _ _ _ _ _ HO2.out.rls hcap2 hlen2 HLN2.out HCP2.out).mono ?_
  rw [HA2.out]
  have hyl : (hsL n t (rs.map Ru.abs) x).length ≤ 1048576 := by
    unfold hsL
    split
    · rename_i ho
      have ho := Bool.and_eq_true_iff.1 ho
      cases hn2 : nonB n x
      · have hn0 : 0 ≤ n := by have h := (goodG_is ho.1).1; omega
        obtain ⟨i, j, l, r, q, _, _, e2, _, _, e3⟩ := hs_at hn0 ho.2 hn2
        have h4 := (goodG_mem ho.1 (List.mem_of_getElem? e2)).2.1
        rw [e3, List.length_drop]
        have h5 : r.length ≤ 4 := h4
        omega
      · unfold hsV; rw [hn2]; simp
    · simp
  have HIMP : Hid (∀ (A' : Option Addr) (c' : Nat) (rs' : List Ru) (v : World), Rls v v.heap.size A' rs' → Lims v → rs'.length ≤ c' → (∀ u ∈ rs', u.r.length ≤ u.c) → rs'.map Ru.abs = rs.map Ru.abs →
      Calls Tryd.prog 38 #[.agg #[.int .i64 n, .int .i64 t, .slice A' rs'.length c'], .int .i64 x] v (GaveIB v (hsL n t (rs.map Ru.abs) x) (hsO n t (rs.map Ru.abs) x))) := fun A' c' rs' v h1 h2 h3 h3' h4 => by
    have h5 := abs_len h4
    have h6 := implHelper_any n t x A' c' rs' v h1 h2 h3 (by omega) (abs_lens h4 HLN.out) h3' (abs_fit h4 HF.out)
    rw [h4] at h6
    exact h6
  generalize hsL n t (rs.map Ru.abs) x = ys at hyl HIMP ⊢
  generalize hsO n t (rs.map Ru.abs) x = ok at HIMP ⊢
  rintro e w3 ⟨A3, c3, rfl, hO3, hB3⟩
  have HB3 := Lib.hid (HB2.out.trans (hB3.mono HB2.out.size)); clear hB3
  have HO3 := Lib.hid hO3; clear hO3
  have HI3 : Hid (∀ b, Its A3 ys b → w.heap.size + 1 ≤ b ∧ b < w3.heap.size) := fun b hb => ⟨by have := (HO3.out.its hb).1; have := HB2.out.size; have := KA1.out.1; omega, (HO3.out.its hb).2⟩
  clear a0 a1 a2 HO2 HA2 HLN2 hlen2 hcap2 HCP2
  have KA3 := Lib.hid (KA1.out.keep HB3.out KA1.out.1)
  have HW3 := Lib.hid (HW1.out.trans (HB3.out.mono HW1.out.size))
  have HR3 := Lib.hid ((HX.out.keep HW3.out).more HW3.out.size)
  have HWS3 : Hid (w.heap.size + 1 ≤ w3.heap.size) := KA3.out.1
  clear KA1 HR1 HW1 HB3 HB2
  obtain ⟨_, a0, a1, a2⟩ := KA3.out
  -- the program's argument, a copy
  go_wp2_with fail
  refine (toGrammarC_any _ _ _ _ _ _ HR3.out hlen HLN.out).mono ?_
  rintro e w4 ⟨A4, c4, rs4, rfl, hcap4, hO4, ha4, hcp4, hB4⟩
  have HCP4 := Lib.hid hcp4; clear hcp4
  have hl4 := abs_len ha4
  have hlen4 : rs4.length ≤ 1048576 := by omega
  have HLN4 := Lib.hid (abs_lens ha4 HLN.out)
  have HA4 := Lib.hid ha4; clear ha4
  have HI4 : Hid (∀ b, ItsR A4 rs4 b → w3.heap.size ≤ b ∧ b < w4.heap.size) := fun b hb => hO4.its hb
  have HS4 := Lib.hid hB4.size
  clear hl4 a0 a1 a2
  go_wp2_with fail
  have hBX : Below w4.heap.size w4 (w4.alloc (.cells #[.int .i64 n, .int .i64 t, .slice A4 rs4.length c4] 54)) := by go_grown
  have B4 : Box3 (w4.alloc (.cells #[.int .i64 n, .int .i64 t, .slice A4 rs4.length c4] 54)) w4.heap.size (.int .i64 n) (.int .i64 t) (.slice A4 rs4.length c4) := ⟨by simp, by simp [go_sem], by simp [go_sem], by simp [go_sem]⟩
  generalize (w4.alloc (.cells #[.int .i64 n, .int .i64 t, .slice A4 rs4.length c4] 54)) = X at hBX B4 ⊢
  have HOX := Lib.hid (hO4.below hBX (Nat.le_refl _)); clear hO4
  have HSX := Lib.hid hBX.size
  have HBX := Lib.hid (hB4.trans (hBX.mono hB4.size)); clear hBX hB4
  have HB4 := Lib.hid B4; clear B4
  have HWX := Lib.hid (HW3.out.trans (HBX.out.mono HW3.out.size))
  have HO3X := Lib.hid (HO3.out.below HBX.out (Nat.le_refl _))
  have KAX := Lib.hid (KA3.out.keep HBX.out KA3.out.1)
  clear HO3 KA3 HW3 HR3
  -- the program's answer
  refine (HIMP.out _ _ _ _ HOX.out.rls (HL.out.keep HWX.out (Nat.le_refl _)) hcap4 HCP4.out HA4.out).mono ?_
  rintro e w5 ⟨A5, c5, rfl, hO5, hB5⟩
  have KX5 := Lib.hid (HB4.out.keep hB5 HB4.out.1)
  have KA5 := Lib.hid (KAX.out.keep hB5 KAX.out.1)
  have HO4 := Lib.hid (HOX.out.below hB5 (Nat.le_refl _))
  have HO3 := Lib.hid (HO3X.out.below hB5 (Nat.le_refl _))
  have HW5 := Lib.hid (HWX.out.trans (hB5.mono HWX.out.size))
  have HI5 : Hid (∀ b, Its A5 ys b → w4.heap.size ≤ b) := fun b hb => by have := (hO5.its hb).1; have := HSX.out; omega
  have HO5 := Lib.hid hO5; clear hO5
  clear hB5 HOX HB4 HWX KAX HO3X
  -- they say the same
  go_wp2_with fail
  refine (eqIntS_any _ _ _ _ _ _ _ HO5.out.ints HO3.out.ints hyl).mono ?_
  rintro e w6 ⟨rfl, hB6⟩
  rw [eqL_refl]
  have hok : (ok != ok) = false := by simp
  have KX := Lib.hid (KX5.out.keep hB6 KX5.out.1)
  have KA := Lib.hid (KA5.out.keep hB6 KA5.out.1)
  have HO46 := Lib.hid (HO4.out.below hB6 (Nat.le_refl _))
  have HO36 := Lib.hid (HO3.out.below hB6 (Nat.le_refl _))
  have HO56 := Lib.hid (HO5.out.below hB6 (Nat.le_refl _))
  have HW6 := Lib.hid (HW5.out.trans (hB6.mono HW5.out.size))
  have HR6 := Lib.hid ((HX.out.keep HW6.out).more HW6.out.size)
  clear hB6 KX5 KA5 HO4 HO3 HO5 HW5
  obtain ⟨_, x0, x1, x2⟩ := KX.out
  obtain ⟨_, a0, a1, a2⟩ := KA.out
  go_wp2_with fail
  go_region_held3 (fun w' => w'.cell? ⟨w4.heap.size, 0, none⟩ = some (.int .i64 n) ∧ w'.cell? ⟨w4.heap.size, 1, none⟩ = some (.int .i64 t) ∧ w'.cell? ⟨w4.heap.size, 2, none⟩ = some (.slice A4 rs4.length c4) ∧ w'.cell? ⟨w.heap.size, 0, none⟩ = some (.int .i64 n) ∧ w'.cell? ⟨w.heap.size, 1, none⟩ = some (.int .i64 t) ∧ w'.cell? ⟨w.heap.size, 2, none⟩ = some (.slice A rs.length c))
    (first | exact ⟨v0, v1, v2, u0, u1, u2⟩ | exact ⟨y0, y1, y2, z0, z1, z2⟩ | exact ⟨x0, x1, x2, a0, a1, a2⟩)
    (first
    | (go_at_call 30
       refine (toGrammarC_any _ _ _ _ _ _ ?_ hlen HLN.out).mono ?_
       · exact HR6.out.keep (by go_grown)
       rintro e w7 ⟨A7, c7, rs7, rfl, hcap7, hO7, ha7, _, hB7'⟩
       have hB7 : Below w6.heap.size w6 w7 := Below.trans (by go_grown) hB7'
       obtain ⟨_, y0, y1, y2⟩ := KX.out.keep hB7 KX.out.1
       obtain ⟨_, z0, z1, z2⟩ := KA.out.keep hB7 KA.out.1
       have HO7 := Lib.hid hO7
       have HA7 := Lib.hid ha7
       have HB7 := Lib.hid hB7
       clear hO7 ha7 hB7 hB7')
    | (go_at_call 33
       refine (eqGrammar_any _ _ _ _ _ _ _ _ _ _ _ ?_ ?_ hlen4 HLN4.out).mono ?_
       · exact (HO46.out.rls.keep HB7.out).more HB7.out.size
       · exact HO7.out.rls
       rintro e w8 ⟨rfl, hB8'⟩
       rw [eqG_t (HA4.out.trans HA7.out.symm)]
       have hB8 : Below w6.heap.size w6 w8 := HB7.out.trans (hB8'.mono HB7.out.size)
       obtain ⟨_, v0, v1, v2⟩ := KX.out.keep hB8 KX.out.1
       obtain ⟨_, u0, u1, u2⟩ := KA.out.keep hB8 KA.out.1
       have HB8 := Lib.hid hB8
       clear hB8 hB8'))
  rename_i hHeld
  clear hHeld x0 x1 x2 a0 a1 a2 y0 y1 y2 z0 z1 z2 u0 u1 u2
  have HW8 := Lib.hid (HW6.out.trans (HB8.out.mono HW6.out.size))
  have HO48 := Lib.hid (HO46.out.below HB8.out (Nat.le_refl _))
  have HO38 := Lib.hid (HO36.out.below HB8.out (Nat.le_refl _))
  have HO58 := Lib.hid (HO56.out.below HB8.out (Nat.le_refl _))
  have KA8 := Lib.hid (KA.out.keep HB8.out KA.out.1)
  have HS34 : Hid (w.heap.size + 1 ≤ w3.heap.size) := HWS3.out
  clear HO46 HO36 HO56 KX KA HW6 HR6 HB8
  -- the argument is marked
  go_wp2_with fail
  refine (markGrammar_any _ _ _ _ _ _ _ _ HO48.out hlen4 HLN4.out (by omega) (by omega)).mono ?_
  rintro e w9 ⟨rfl, _, hS9⟩
  have HB9 : Hid (Below (w.heap.size + 1) w8 w9) := hS9.below (by have := KA8.out.1; omega) fun i hi hI => by have := (HI4.out i hI).1; have := HS34.out; omega
  have HW9 := Lib.hid (HW8.out.trans (HB9.out.mono (by omega)))
  have KA9 := Lib.hid (KA8.out.keep HB9.out (by omega))
  have HO39 := Lib.hid (HO38.out.kept hS9 fun b hb hI => by have := (HI3.out b hb).2; have := (HI4.out b hI).1; omega)
  have HO59 := Lib.hid (HO58.out.kept hS9 fun b hb hI => by have := HI5.out b hb; have := (HI4.out b hI).2; omega)
  have hcn : cntTo rs4 rs4.length ≤ rs4.length * 1048577 := cntTo_le HLN4.out _
  clear v0 v1 v2 hS9 HO48 HO38 HO58 KA8 HW8
  go_wp2_with fail
  refine (eqIntS_any _ _ _ _ _ _ _ HO59.out.ints HO39.out.ints hyl).mono ?_
  rintro e w10 ⟨rfl, hB10⟩
  rw [eqL_refl]
  have HW10 := Lib.hid (HW9.out.trans (hB10.mono HW9.out.size))
  have KA10 := Lib.hid (KA9.out.keep hB10 KA9.out.1)
  have HO310 := Lib.hid (HO39.out.below hB10 (Nat.le_refl _))
  have HO510 := Lib.hid (HO59.out.below hB10 (Nat.le_refl _))
  clear hB10 HW9 KA9 HO39 HO59 HB9
  -- the answer is marked, and found again
  go_wp2_with fail
  refine (markIntS_any _ _ _ _ _ _ HO510.out hyl (by omega) (by omega)).mono ?_
  rintro e w11 ⟨rfl, hO11, hS11⟩
  have HB11 : Hid (Below (w.heap.size + 1) w10 w11) := hS11.below (by have := KA10.out.1; omega) fun i hi hI => by have := HI5.out i hI; have := HS34.out; have := HSX.out; have := HS4.out; omega
  have HW11 := Lib.hid (HW10.out.trans (HB11.out.mono (by omega)))
  have KA11 := Lib.hid (KA10.out.keep HB11.out (by omega))
  have HO311 := Lib.hid (HO310.out.kept hS11 fun b hb hI => by have := (HI3.out b hb).2; have := HI5.out b hI; have := HS4.out; omega)
  have HO511 := Lib.hid hO11
  clear hO11 hS11 HW10 KA10 HO310 HO510 HB11
  go_wp2_with fail
  refine (heldIntS_any _ _ _ _ _ HO511.out.ints hyl (by omega) (by omega)).mono ?_
  rintro e w12 ⟨rfl, hB12⟩
  have hne : ((1 + (ys.length : Int)) != (1 + (ys.length : Int))) = false := by simp
  have HW12 := Lib.hid (HW11.out.trans (hB12.mono HW11.out.size))
  have KA12 := Lib.hid (KA11.out.keep hB12 KA11.out.1)
  have HO312 := Lib.hid (HO311.out.below hB12 (Nat.le_refl _))
  have HO512 := Lib.hid (HO511.out.below hB12 (Nat.le_refl _))
  have HR12 := Lib.hid ((HX.out.keep HW12.out).more HW12.out.size)
  obtain ⟨_, a0, a1, a2⟩ := KA12.out
  clear hB12 HW11 KA11 HO311 HO511
  -- the program once more
  go_wp2_with fail
  refine (toGrammarC_any _ _ _ _ _ _ HR12.out hlen HLN.out).mono ?_
  rintro e w13 ⟨A13, c13, rs13, rfl, hcap13, hO13, ha13, hcp13, hB13⟩
  have HCP13 := Lib.hid hcp13; clear hcp13
  have HA13 := Lib.hid ha13; clear ha13
  have HO13 := Lib.hid hO13; clear hO13
  have HB13 := Lib.hid hB13; clear hB13
  have HW13 := Lib.hid (HW12.out.trans (HB13.out.mono HW12.out.size))
  clear a0 a1 a2
  go_wp2_with fail
  refine (HIMP.out _ _ _ _ HO13.out.rls (HL.out.keep HW13.out (Nat.le_refl _)) hcap13 HCP13.out HA13.out).mono ?_
  rintro e w14 ⟨A14, c14, rfl, hO14, hB14⟩
  have HB14 := Lib.hid (HB13.out.trans (hB14.mono HB13.out.size)); clear hB14
  have HO14 := Lib.hid hO14; clear hO14
  have HO314 := Lib.hid (HO312.out.below HB14.out (Nat.le_refl _))
  have HO514 := Lib.hid (HO512.out.below HB14.out (Nat.le_refl _))
  have HW14 := Lib.hid (HW12.out.trans (HB14.out.mono HW12.out.size))
  go_wp2_with fail
  refine (eqIntS_any _ _ _ _ _ _ _ HO14.out.ints HO314.out.ints hyl).mono ?_
  rintro e w15 ⟨rfl, hB15⟩
  rw [eqL_refl]
  have HO515 := Lib.hid (HO514.out.below hB15 (Nat.le_refl _))
  have HW15 := Lib.hid (HW14.out.trans (hB15.mono HW14.out.size))
  clear hB15
  go_wp2_with fail
  refine (heldIntS_any _ _ _ _ _ HO515.out.ints hyl (by omega) (by omega)).mono ?_
  rintro e w16 ⟨rfl, hB16⟩
  have HW16 := Lib.hid (HW15.out.trans (hB16.mono HW15.out.size))
  clear hB16
  go_wp2
  go_ret
  exact ⟨rfl, HW16.out⟩

end Go.Proofs.YtaobkanliiiapaaDoor

/- The law of HelperSays holds of every grammar that can be read and every int: the call returns true, and what was handed in reads afterwards as it read before. Conditions: the package's table of limits is as the program's text lays it (tied by the given tie). -/

namespace Go.Proofs.YtaobkanliiiapaaDoor
open Go.ChangeShapes Go.WideShapes Go.ChangeAt Go.RowKit

set_option maxRecDepth 100000 in
theorem helperSays_lifted (os : Os) (started : os.Started) (H : Type) (enc : TypeId × Value → H) :
    ReturnsInHanded {} Tryd.checked os 5 .any (fun w args => (Rows.fnExactHelperSaysSpec.pre enc Tryd.prog Tryd.f5 [] false w args ∧ laidMetH Tryd.prog laid1 w) ∧ sizedMet enc Tryd.prog Tryd.f5 (OpenSpec.ofChange Rows.fnExactHelperSaysSpec) false w args)
      (Rows.fnExactHelperSaysSpec.post enc Tryd.prog Tryd.f5 false true false false) := by
  refine returnsInHanded_of_change_and (C := Tryd.checked) (X := fun w _ => laidMetH Tryd.prog laid1 w) (fun _ _ _ hh h => h.of_heap hh) Tryd.own started (by kernel_rfl) Tryd.func5
    (ChangeSpec.witness_shaped (enc := enc) (C := Tryd.checked) (os := os) (X := fun w _ => laidMetH Tryd.prog laid1 w) false (World.doorLaid Tryd.prog 400 os) #[.agg #[.int .i64 0, .int .i64 0, .slice none 0 0], .int .i64 0] 8 rfl (World.shaped_of_RefB (by kernel_rfl) (by kernel_rfl)) (by kernel_rfl) (by kernel_rfl) (by kernel_rfl) (door_met os _)) ?_
  intro W base args ds gs before hval0 hW _ _ hL _
  have hval : ∀ (j : Nat) t v, Tryd.f5.params[j]? = some t → args[j]? = some v → Value.okWide Tryd.prog W .any base t v := hval0
  have hW' := hW
  obtain ⟨p, q, hA0, hV0, rfl, hfz, hnd⟩ := hW
  have hA : DataW.TrodAll enc Tryd.prog W 0 (fun _ => true) true Tryd.f5.params.toList args.toList ds p := hA0
  have hV : DataW.TrodVars enc Tryd.prog W (fun _ => true) ["loop.example/g00758/impl.limits"] gs q := hV0
  rw [Tryd.params5] at hA hval
  obtain ⟨v0, v1, d0, d1, p0, p1, rfl, rfl, rfl, h0, h1⟩ := trodAll_two hA
  obtain ⟨g, tg, cs, fuel, dg, pg, rfl, _⟩ := trodVars_one hV
  obtain ⟨n, t, A, rs, c, rfl, _, hR, hlen, hlens, hF, _, _⟩ := open_grammar (hval 0 48 v0 rfl rfl) h0
  obtain ⟨x, rfl, rfl, rfl, wx⟩ := open_int Tryd.underlying3 (hval 1 3 v1 rfl rfl) h1
  refine (law_HelperSays n t x A c rs W hR (lims_of_laid hL) hlen hlens hF).mono fun e W' ⟨he, hb⟩ => ?_
  subst he
  exact ⟨_, rfl, ends_two hW' Tryd.params5 rfl rfl (by kernel_rfl) (of_decide_eq_true (by kernel_rfl)) (by kernel_rfl) (of_decide_eq_true (by kernel_rfl)) (by kernel_rfl) hb⟩

theorem helperSays_holds : Rows.FnExactHelperSaysSaid :=
  OpenClaim.holds_of_wide 5 Tryd.f5 rfl rfl rfl rfl rfl rfl rfl ⟨rfl, rfl, rfl, rfl, rfl⟩ rfl rfl rfl rfl rfl (by kernel_rfl) Tryd.func5 (by kernel_rfl)
    (of_decide_eq_true (by kernel_rfl)) (by unfold Func.isWrapper; first | (rw [if_pos (by decide +kernel)]; kernel_rfl) | (rw [if_neg (by decide +kernel)]; exact ⟨rfl, rfl⟩))
    (fun os started H enc _ => helperSays_lifted os started H enc)

theorem helperSays_card : Rows.FnExactHelperSaysCardSaid :=
  Claim7.holds_tied_plain_at .later [] [.data] true (true, "0ddedf4d80d5d8f2e345429263da6b8cad2651b6835fb3eaec4afe850fb80d0b") false
    helperSays_holds (fun _ h => by cases h) (by kernel_rfl) (fun _ h => by cases h) fnExactHelperSays_row_tie rfl ⟨rfl, rfl⟩ (by kernel_rfl) rfl
    (fun f fn hf hfn => by
      obtain rfl : f = 5 := Option.some.inj ((show Tryd.prog.funcNamed "loop.example/g00758/laws.FnExactHelperSays" = some 5 by kernel_rfl).symm.trans hf) |>.symm
      obtain rfl : fn = Tryd.f5 := (Option.some.inj (Tryd.func5.symm.trans hfn)).symm
      exact ⟨by kernel_rfl, fun j t ht => by
        rw [Tryd.params5] at ht
        have hm : t ∈ [48, 3] := by simpa using Array.mem_of_getElem? ht
        have hall : ([48, 3].all fun u => !Tryd.prog.wantsStandIn u) = true := by kernel_rfl
        exact (show Tryd.prog.wantsStandIn t = false by simpa using List.all_eq_true.1 hall t hm)⟩)
    (by kernel_rfl)

#print axioms helperSays_card
end Go.Proofs.YtaobkanliiiapaaDoor
