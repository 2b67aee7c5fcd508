/- IsUseful: the reference's. -/
import Derived.Test.YtacehfjhpnplbaaDoorIsUseI
namespace Go.Proofs.YtacehfjhpnplbaaDoor
open Go.RowKit

set_option maxRecDepth 20000 in
theorem field_rules (a b : Int) (A : Option Addr) (n c : Nat) (w : World) : (Instr.field 26 (.agg #[.int .i64 a, .int .i64 b, .slice A n c]) 2).run Tryd.prog w = .ok (.slice A n c) w := rfl

set_option maxRecDepth 20000 in
set_option maxHeartbeats 2000000 in
theorem specIsUseful_any (n t : Int) (A : Option Addr) (c : Nat) (rs : List Ru) (w : World) (hx : Rls w w.heap.size A rs) (hc : rs.length ≤ c) (h1 : rs.length ≤ 1048576) (h2 : ∀ u ∈ rs, u.r.length ≤ 1048576) :
    Calls Tryd.prog 52 #[.agg #[.int .i64 n, .int .i64 t, .slice A rs.length c]] w (GaveXB w (QU n t (rs.map Ru.abs))) := by
  have HX := Lib.hid hx; clear hx
  have H2 := Lib.hid h2; clear h2
  have HB0 : Hid (Below w.heap.size w (w.alloc (.cells #[.int .i64 n, .int .i64 t, .slice A rs.length c] 26))) := by show Below _ _ _; go_grown
  have B0 : Hid (Box3 (w.alloc (.cells #[.int .i64 n, .int .i64 t, .slice A rs.length c] 26)) w.heap.size (.int .i64 n) (.int .i64 t) (.slice A rs.length c)) := ⟨by simp, by simp [go_sem], by simp [go_sem], by simp [go_sem]⟩
  cases hg : goodG n t (rs.map Ru.abs)
  · have HQ : Hid (QU n t (rs.map Ru.abs) false false) := ⟨hg.symm, fun h => (by rw [hg] at h; cases h), fun _ => rfl⟩
    have HG := Lib.hid hg; clear hg
    go_enter Tryd.func52, Tryd.ntmps52
    go_wp2_with fail
    refine (specGood_any _ _ _ _ _ _ ((HX.out.keep HB0.out).more HB0.out.size) hc h1 H2.out).mono ?_
    rintro e w1 ⟨rfl, hB1⟩
    rw [HG.out]
    have HB1 := Lib.hid (HB0.out.trans (hB1.mono HB0.out.size)); clear hB1
    go_wp2
    go_ret2
    exact ⟨false, false, HQ.out, rfl, HB1.out⟩
  · have HG := Lib.hid hg; clear hg
    go_enter Tryd.func52, Tryd.ntmps52
    go_wp2_with fail
    refine (specGood_any _ _ _ _ _ _ ((HX.out.keep HB0.out).more HB0.out.size) hc h1 H2.out).mono ?_
    rintro e w1 ⟨rfl, hB1⟩
    rw [HG.out]
    have K0 := Lib.hid (B0.out.keep hB1 (by simp))
    have HB1 := Lib.hid (HB0.out.trans (hB1.mono HB0.out.size)); clear hB1
    clear B0 HB0
    obtain ⟨_, b0, b1, b2⟩ := K0.out
    have HRR := Lib.hid ((HX.out.keep HB1.out).more HB1.out.size)
    have hfd := field_rules
    go_wp2_with fail
    go_region_held3 (fun w' => w'.cell? ⟨w.heap.size, 0, none⟩ = some (.int .i64 n) ∧ w'.cell? ⟨w.heap.size, 1, none⟩ = some (.int .i64 t) ∧ w'.cell? ⟨w.heap.size, 2, none⟩ = some (.slice A rs.length c))
      (first | exact ⟨b0, b1, b2⟩ | exact ⟨y0, y1, y2⟩)
      (first
      | (go_at_call 90
         refine (l3Useful_any n t A c rs _ ?_ HG.out).mono ?_
         · exact HRR.out.keep (by go_grown)
         rintro e w2 ⟨A2, c2, us, rfl, hc2, hO2, hus, hB2'⟩
         have hB2 : Below w1.heap.size w1 w2 := Below.trans (by go_grown) hB2'
         obtain ⟨_, y0, y1, y2⟩ := K0.out.keep hB2 K0.out.1
         have HUS := Lib.hid hus
         have HB2 := Lib.hid (HB1.out.trans (hB2.mono HB1.out.size))
         clear hO2 hus hB2 hB2'))
    rename_i hHeld
    clear hHeld y0 y1 y2 b0 b1 b2
    have HQ : Hid (QU n t (rs.map Ru.abs) ((us.length : Int) == (rs.length : Int)) true) := by
      refine ⟨HG.out.symm, fun _ => ⟨_, HUS.out, ?_⟩, fun h => by rw [HG.out] at h; cases h⟩
      have hl := isUse_len HUS.out
      rw [List.length_map, List.length_map] at hl
      rw [Bool.eq_iff_iff]
      simp only [beq_iff_eq, decide_eq_true_eq]
      rw [← hl]
      omega
    generalize ((us.length : Int) == (rs.length : Int)) = q at *
    go_wp2
    go_ret2
    exact ⟨q, true, HQ.out, rfl, HB2.out⟩

end Go.Proofs.YtacehfjhpnplbaaDoor
