/- IsUseful: the program's and the reference's. -/
import Derived.Test.YtacehfjhpnplbaaDoorSpecUO
import Derived.Test.YtacehfjhpnplbaaDoorSameI
import Derived.Deep.RegionHeld3
namespace Go.Proofs.YtacehfjhpnplbaaDoor
open Go.RowKit

set_option maxRecDepth 20000 in
set_option maxHeartbeats 1000000 in
theorem sameG_any (n t : Int) (A A' : Option Addr) (c c' : Nat) (rs ss : List Ru) (w : World) (hx : Rls w w.heap.size A rs) (hy : Rls w w.heap.size A' ss) (hL : Lims w) (hc : rs.length ≤ c) (hc' : ss.length ≤ c') (hg : goodG n t (rs.map Ru.abs) = true) (hg' : goodG n t (ss.map Ru.abs) = true)
    (hu : ∀ u ∈ rs, u.r.length ≤ 1048576) (hu' : ∀ u ∈ ss, u.r.length ≤ 1048576) (hf : FitR rs) (hf' : FitR ss) :
    Calls Tryd.prog 99 #[.agg #[.int .i64 n, .int .i64 t, .slice A rs.length c], .agg #[.int .i64 n, .int .i64 t, .slice A' ss.length c']] w fun e w' => e = .returned (.bool (decide (rs.map Ru.abs = ss.map Ru.abs))) ∧ Below w.heap.size w w' := by
  have h16 := good_16 hg
  have h16' := good_16 hg'
  have HX := Lib.hid hx; clear hx
  have HY := Lib.hid hy; clear hy
  have HL := Lib.hid hL; clear hL
  have HU := Lib.hid hu; clear hu
  have HU' := Lib.hid hu'; clear hu'
  have HF := Lib.hid hf; clear hf
  have HF' := Lib.hid hf'; clear hf'
  have HG := Lib.hid hg; clear hg
  have HG' := Lib.hid hg'; clear hg'
  generalize hW : ((w.alloc (.cells #[.int .i64 n, .int .i64 t, .slice A rs.length c] 26)).alloc (.cells #[.int .i64 n, .int .i64 t, .slice A' ss.length c'] 26)) = W
  have HB0 : Hid (Below w.heap.size w W) := by subst hW; show Below _ _ _; go_grown
  have B0 : Hid (Box3 W w.heap.size (.int .i64 n) (.int .i64 t) (.slice A rs.length c)) := by subst hW; exact ⟨by simp; omega, by simp [go_sem], by simp [go_sem], by simp [go_sem]⟩
  have B1 : Hid (Box3 W (w.heap.size + 1) (.int .i64 n) (.int .i64 t) (.slice A' ss.length c')) := by subst hW; exact ⟨by simp, by simp [go_sem], by simp [go_sem], by simp [go_sem]⟩
  have HWE := Lib.hid hW; clear hW
  go_enter Tryd.func99, Tryd.ntmps99
  go_wp2_with fail
  rw [HWE.out]
  refine (goodGrammar_any _ _ _ _ _ _ ((HX.out.keep HB0.out).more HB0.out.size) (HL.out.keep HB0.out (Nat.le_refl _)) hc (by omega) HU.out HF.out).mono ?_
  rintro e w1 ⟨rfl, hB1⟩
  rw [HG.out]
  have K0 := Lib.hid (B0.out.keep hB1 B0.out.1)
  have K1 := Lib.hid (B1.out.keep hB1 B1.out.1)
  have HB1 := Lib.hid (HB0.out.trans (hB1.mono HB0.out.size)); clear hB1
  clear HWE B0 B1 HB0
  obtain ⟨_, b0, b1, b2⟩ := K1.out
  go_wp2_with fail
  refine (goodGrammar_any _ _ _ _ _ _ ((HY.out.keep HB1.out).more HB1.out.size) (HL.out.keep HB1.out (Nat.le_refl _)) hc' (by omega) HU'.out HF'.out).mono ?_
  rintro e w2 ⟨rfl, hB2⟩
  rw [HG'.out]
  have J0 := Lib.hid (K0.out.keep hB2 K0.out.1)
  have J1 := Lib.hid (K1.out.keep hB2 K1.out.1)
  have HB2 := Lib.hid (HB1.out.trans (hB2.mono HB1.out.size)); clear hB2
  clear K0 K1 b0 b1 b2
  obtain ⟨_, a0, a1, a2⟩ := J0.out
  obtain ⟨_, b0, b1, b2⟩ := J1.out
  have hnn : (n == n) = true := by simp
  have htt : (t == t) = true := by simp
  have HEF := Lib.hid (equalFunc_any A A' c c' rs ss w2 ((HX.out.keep HB2.out).more HB2.out.size) ((HY.out.keep HB2.out).more HB2.out.size) h16 HU.out)
  generalize hq : decide (rs.map Ru.abs = ss.map Ru.abs) = q at HEF
  have HQ := Lib.hid hq; clear hq
  go_wp2_with fail
  refine HEF.out.mono ?_
  rintro e w3 ⟨rfl, hB3⟩
  have HB3 := Lib.hid (HB2.out.trans (hB3.mono HB2.out.size)); clear hB3
  go_wp2
  go_ret
  exact ⟨ret_bool HQ.out.symm, HB3.out⟩

/-- As GaveUse, and the capacity is enough. -/
def GaveUseC (w : World) (n t : Int) (ss : List (Int × List Int)) (e : Ending) (w' : World) : Prop :=
  ∃ us, (goodG n t ss = true → IsUse ss us) ∧ ∃ A c, ∃ rs : List Ru, e = .returned (.tuple #[.agg #[.int .i64 (ansN (goodG n t ss) n), .int .i64 (ansN (goodG n t ss) t), .slice A rs.length c], .bool (goodG n t ss)]) ∧ rs.length ≤ c ∧ OwnR w' w.heap.size A rs ∧ rs.map Ru.abs = ansR (goodG n t ss) us ∧ Below w.heap.size w w'

set_option maxRecDepth 20000 in
set_option maxHeartbeats 2000000 in
theorem implUsefulC_any (n t : Int) (A : Option Addr) (c : Nat) (rs : List Ru) (w : World) (hx : Rls w w.heap.size A rs) (hL : Lims w) (hc : rs.length ≤ c) (h1 : rs.length ≤ 1048576) (h2 : ∀ u ∈ rs, u.r.length ≤ 1048576) (hf : FitR rs) :
    Calls Tryd.prog 44 #[.agg #[.int .i64 n, .int .i64 t, .slice A rs.length c]] w (GaveUseC w n t (rs.map Ru.abs)) := by
  have HX := Lib.hid hx; clear hx
  have HL := Lib.hid hL; clear hL
  have HF := Lib.hid hf; clear hf
  have H2 := Lib.hid h2; clear h2
  generalize hW : ((w.alloc (.cells #[.int .i64 n, .int .i64 t, .slice A rs.length c] 26)).alloc (.cells #[.int .i64 0, .int .i64 0, .slice none 0 0] 26)) = W
  have HB0 : Hid (Below w.heap.size w W) := by subst hW; show Below _ _ _; go_grown
  have B0 : Hid (Box3 W w.heap.size (.int .i64 n) (.int .i64 t) (.slice A rs.length c)) := by subst hW; exact ⟨by simp; omega, by simp [go_sem], by simp [go_sem], by simp [go_sem]⟩
  have R0 : Hid (Row W (w.heap.size + 1) 26 #[.int .i64 0, .int .i64 0, .slice none 0 0]) := by
    subst hW
    have h := Row.new (w.alloc (.cells #[.int .i64 n, .int .i64 t, .slice A rs.length c] 26)) 26 #[.int .i64 0, .int .i64 0, .slice none 0 0]
    rwa [World.size_alloc] at h
  have HWE := Lib.hid hW; clear hW
  go_enter Tryd.func44, Tryd.ntmps44
  go_wp2_with fail
  rw [HWE.out]
  refine (goodGrammar_any _ _ _ _ _ _ ((HX.out.keep HB0.out).more HB0.out.size) (HL.out.keep HB0.out (Nat.le_refl _)) hc h1 H2.out HF.out).mono ?_
  rintro e w1 ⟨rfl, hB1⟩
  have B1 := Lib.hid (B0.out.keep hB1 B0.out.1)
  have R1 := Lib.hid (R0.out.below hB1 R0.out.lt)
  have HB1 := Lib.hid (HB0.out.trans (hB1.mono HB0.out.size)); clear hB1
  clear HWE B0 R0 HB0
  cases hg : goodG n t (rs.map Ru.abs)
  · have HG := Lib.hid hg; clear hg
    have d0 := R1.out.cell 0
    have d1 := R1.out.cell 1
    have d2 := R1.out.cell 2
    have g0 := R1.out.frozen 0
    have g1 := R1.out.frozen 1
    have g2 := R1.out.frozen 2
    simp at d0 d1 d2
    go_wp2
    refine bodyPost_ret (v := .tuple #[.agg #[.int .i64 0, .int .i64 0, .slice none 0 0], .bool false]) (by simp [results, Tryd.results44, go_sem, d0, d1, d2]) rfl ?_
    refine ⟨[], fun h => (by rw [HG.out] at h; cases h), none, 0, [], by rw [HG.out]; rfl, Nat.le_refl _, .inl rfl, by rw [HG.out]; rfl, ?_⟩
    exact ((HB1.out.setCell (by simp) _).setCell (by simp) _).setCell (by simp) _
  have HG := Lib.hid hg; clear hg
  have HRR := Lib.hid ((HX.out.keep HB1.out).more HB1.out.size)
  obtain ⟨_, b0, b1, b2⟩ := B1.out
  have hlt0 : w.heap.size < w1.heap.size := B1.out.1
  have hlt1 : w.heap.size + 1 < w1.heap.size := R1.out.lt
  go_wp2_with fail
  go_region_held3 (fun w' => w'.cell? ⟨w.heap.size, 0, none⟩ = some (.int .i64 n) ∧ w'.cell? ⟨w.heap.size, 1, none⟩ = some (.int .i64 t) ∧ w'.cell? ⟨w.heap.size, 2, none⟩ = some (.slice A rs.length c))
    (first | exact ⟨b0, b1, b2⟩ | exact ⟨y0, y1, y2⟩ | exact ⟨z0, z1, z2⟩ | (refine ⟨?_, ?_, ?_⟩ <;> (rw [World.cell?_setCell_far _ _ _ _ (by simp), World.cell?_setCell_far _ _ _ _ (by simp), World.cell?_setCell_far _ _ _ _ (by simp)]; first | exact z0 | exact z1 | exact z2)))
    (first
    | (go_at_call 92
       refine (usefulRules_any n t A c rs _ ?_ HG.out).mono ?_
       · exact HRR.out.keep (by go_grown)
       rintro e w2 ⟨us, hus, A2, c2, rfl, hc2, hR2, hB2'⟩
       have hB2 : Below w1.heap.size w1 w2 := Below.trans (by go_grown) hB2'
       obtain ⟨_, y0, y1, y2⟩ := B1.out.keep hB2 B1.out.1
       have HUS := Lib.hid hus
       have HR2 := Lib.hid hR2
       have HB2 := Lib.hid hB2
       have hul : us.length ≤ 1048576 := by have := hus.len; omega
       clear hus hR2 hB2 hB2')
    | (go_at_call 91
       refine (copyGrammar_any _ _ _ _ _ _ ?_ hul ?_).mono ?_
       · exact HR2.out.keep (by go_grown)
       · exact fun u hu => H2.out u (HUS.out.sub u hu)
       rintro e w3 ⟨A3, c3, rs3, rfl, hc3, hO3, ha3, hB3'⟩
       have hB3 : Below w1.heap.size w1 w3 := HB2.out.trans (Below.trans (by go_grown) (hB3'.mono HB2.out.size))
       obtain ⟨_, z0, z1, z2⟩ := B1.out.keep hB3 B1.out.1
       have HR3 := Lib.hid (R1.out.below hB3 R1.out.lt)
       have d0 := HR3.out.cell 0
       have d1 := HR3.out.cell 1
       have d2 := HR3.out.cell 2
       have g0 := HR3.out.frozen 0
       have g1 := HR3.out.frozen 1
       have g2 := HR3.out.frozen 2
       simp at d0 d1 d2
       have HO3 := Lib.hid hO3
       have HA3 := Lib.hid ha3
       have HB3 := Lib.hid hB3
       have HS2 := Lib.hid HB2.out.size
       clear hO3 ha3 hB3 hB3'))
  rename_i hHeld
  clear hHeld y0 y1 y2 z0 z1 z2 b0 b1 b2
  go_wp2
  have hs2 := HS2.out
  refine bodyPost_ret (v := .tuple #[.agg #[.int .i64 n, .int .i64 t, .slice A3 rs3.length c3], .bool true]) (by simp [results, Tryd.results44, go_sem, d0, d1, d2]) rfl ?_
  refine ⟨us.map Ru.abs, fun _ => HUS.out.use, A3, c3, rs3, by rw [HG.out]; rfl, hc3, ?_, by rw [HG.out]; exact HA3.out, ?_⟩
  · exact (((HO3.out.low (by simp; omega) _).low (by simp; omega) _).low (by simp; omega) _).lower (by omega)
  · have hB := HB1.out.trans (HB3.out.mono HB1.out.size)
    exact ((hB.setCell (by simp) _).setCell (by simp) _).setCell (by simp) _

/-- What IsUseful answers. -/
def QU (n t : Int) (ss : List (Int × List Int)) (x ok : Bool) : Prop := ok = goodG n t ss ∧ (goodG n t ss = true → ∃ us, IsUse ss us ∧ x = decide (us = ss)) ∧ (goodG n t ss = false → x = false)
theorem QU.unique {n t : Int} {ss : List (Int × List Int)} {x y a b : Bool} (h : QU n t ss x a) (k : QU n t ss y b) : x = y ∧ a = b := by
  obtain ⟨h1, h2, h3⟩ := h
  obtain ⟨k1, k2, k3⟩ := k
  refine ⟨?_, h1.trans k1.symm⟩
  cases hg : goodG n t ss
  · rw [h3 hg, k3 hg]
  · obtain ⟨us, u1, u2⟩ := h2 hg
    obtain ⟨vs, v1, v2⟩ := k2 hg
    rw [u2, v2, isUse_unique u1 v1]
theorem isUse_len {ss us : List (Int × List Int)} (h : IsUse ss us) : (us.length = ss.length) ↔ us = ss := by
  obtain ⟨P, R, _, _, rfl⟩ := h
  constructor
  · intro e
    exact (List.Sublist.trans List.filter_sublist List.filter_sublist).eq_of_length e
  · intro e
    rw [e]

theorem rls_lens {n t : Int} {rs : List Ru} (hg : goodG n t (rs.map Ru.abs) = true) : (∀ u ∈ rs, u.r.length ≤ 1048576) ∧ FitR rs :=
  ⟨fun u hu => by have := good_len hg (List.mem_map.2 ⟨u, hu, rfl⟩); omega, fun u hu => good_fit hg (List.mem_map.2 ⟨u, hu, rfl⟩)⟩

set_option maxRecDepth 20000 in
set_option maxHeartbeats 1000000 in
theorem implIsUseful_any (n t : Int) (A : Option Addr) (c : Nat) (rs : List Ru) (w : World) (hx : Rls w w.heap.size A rs) (hL : Lims w) (hc : rs.length ≤ c) (h1 : rs.length ≤ 1048576) (h2 : ∀ u ∈ rs, u.r.length ≤ 1048576) (hf : FitR rs) :
    Calls Tryd.prog 53 #[.agg #[.int .i64 n, .int .i64 t, .slice A rs.length c]] w (GaveXB w (QU n t (rs.map Ru.abs))) := by
  have HX := Lib.hid hx; clear hx
  have HL := Lib.hid hL; clear hL
  have HF := Lib.hid hf; clear hf
  have H2 := Lib.hid h2; clear h2
  have HB0 : Hid (Below w.heap.size w (w.alloc (.cells #[.int .i64 n, .int .i64 t, .slice A rs.length c] 26))) := by show Below _ _ _; go_grown
  have B0 : Hid (Box3 (w.alloc (.cells #[.int .i64 n, .int .i64 t, .slice A rs.length c] 26)) w.heap.size (.int .i64 n) (.int .i64 t) (.slice A rs.length c)) := ⟨by simp, by simp [go_sem], by simp [go_sem], by simp [go_sem]⟩
  go_enter Tryd.func53, Tryd.ntmps53
  go_wp2_with fail
  refine (implUsefulC_any n t A c rs _ ((HX.out.keep HB0.out).more HB0.out.size) (HL.out.keep HB0.out (Nat.le_refl _)) hc h1 H2.out HF.out).mono ?_
  rintro e w1 ⟨us, hus, A1, c1, us', rfl, hcap1, hO1, ha1, hB1⟩
  have K0 := Lib.hid (B0.out.keep hB1 (by simp))
  have HB1 := Lib.hid (HB0.out.trans (hB1.mono HB0.out.size)); clear hB1
  clear B0 HB0
  cases hg : goodG n t (rs.map Ru.abs)
  · rw [hg] at ha1
    have HQ : Hid (QU n t (rs.map Ru.abs) false false) := ⟨hg.symm, fun h => (by rw [hg] at h; cases h), fun _ => rfl⟩
    clear hus ha1 hg hO1
    go_wp2
    go_ret2
    exact ⟨false, false, HQ.out, rfl, by first | exact HB1.out.alloc HB1.out.size _ | exact HB1.out⟩
  · rw [hg] at ha1
    have ha : us'.map Ru.abs = us := ha1
    have hu := hus hg
    have hgu : goodG n t (us'.map Ru.abs) = true := by rw [ha]; exact isUse_good hg hu
    have HQ : Hid (QU n t (rs.map Ru.abs) (decide (us'.map Ru.abs = rs.map Ru.abs)) true) := ⟨hg.symm, fun _ => ⟨us, hu, by rw [ha]⟩, fun h => by rw [hg] at h; cases h⟩
    have HGU := Lib.hid hgu
    have HG := Lib.hid hg
    have HO1 := Lib.hid hO1
    clear hus ha1 hg hO1 ha hu hgu
    have e1 : ansN true n = n := rfl
    have e2 : ansN true t = t := rfl
    rw [e1, e2]
    clear e1 e2
    obtain ⟨_, b0, b1, b2⟩ := K0.out.keep ((Below.refl w1.heap.size w1).alloc (Nat.le_refl _) (.cells #[.int .i64 n, .int .i64 t, .slice A1 us'.length c1] 26)) K0.out.1
    go_wp2_with fail
    clear b0 b1 b2
    have hBx := (Below.refl w1.heap.size w1).alloc (Nat.le_refl _) (.cells #[.int .i64 n, .int .i64 t, .slice A1 us'.length c1] 26)
    generalize (w1.alloc (.cells #[.int .i64 n, .int .i64 t, .slice A1 us'.length c1] 26)) = X at *
    have HBX := Lib.hid (HB1.out.trans (hBx.mono HB1.out.size))
    have HOX := Lib.hid (HO1.out.below hBx (Nat.le_refl _))
    clear hBx
    have HSG := Lib.hid (sameG_any n t A1 A c1 c us' rs X HOX.out.rls ((HX.out.keep HBX.out).more HBX.out.size) (HL.out.keep HBX.out (Nat.le_refl _)) hcap1 hc HGU.out HG.out (rls_lens HGU.out).1 H2.out (rls_lens HGU.out).2 HF.out)
    generalize hq : decide (us'.map Ru.abs = rs.map Ru.abs) = q at HSG HQ
    clear hq
    refine HSG.out.mono ?_
    rintro e w2 ⟨rfl, hB2⟩
    have HB2 := Lib.hid (HBX.out.trans (hB2.mono HBX.out.size)); clear hB2
    go_wp2
    go_ret2
    exact ⟨q, true, HQ.out, rfl, HB2.out⟩

end Go.Proofs.YtacehfjhpnplbaaDoor
