/- The reference's UsefulOf and IsUseful. -/
import Derived.Test.YtacehfjhpnplbaaDoorSpecUse
import Derived.Test.YtacehfjhpnplbaaDoorUseI2
import Derived.Test.YtacehfjhpnplbaaDoorSpecGood2
namespace Go.Proofs.YtacehfjhpnplbaaDoor
open Go.RowKit

set_option maxRecDepth 20000 in
set_option maxHeartbeats 2000000 in
theorem specUsefulOf_any (n t : Int) (A : Option Addr) (c : Nat) (rs : List Ru) (w : World) (hx : Rls w w.heap.size A rs) (hc : rs.length ≤ c) (h1 : rs.length ≤ 1048576) (h2 : ∀ u ∈ rs, u.r.length ≤ 1048576) :
    Calls Tryd.prog 43 #[.agg #[.int .i64 n, .int .i64 t, .slice A rs.length c]] w (GaveUse w n t (rs.map Ru.abs)) := by
  have HX := Lib.hid hx; clear hx
  have H2 := Lib.hid h2; clear h2
  generalize hW : ((w.alloc (.cells #[.int .i64 n, .int .i64 t, .slice A rs.length c] 26)).alloc (.cells #[.int .i64 0, .int .i64 0, .slice none 0 0] 26)) = W
  have HB0 : Hid (Below w.heap.size w W) := by subst hW; show Below _ _ _; go_grown
  have B0 : Hid (Box3 W w.heap.size (.int .i64 n) (.int .i64 t) (.slice A rs.length c)) := by subst hW; exact ⟨by simp; omega, by simp [go_sem], by simp [go_sem], by simp [go_sem]⟩
  have R0 : Hid (Row W (w.heap.size + 1) 26 #[.int .i64 0, .int .i64 0, .slice none 0 0]) := by
    subst hW
    have h := Row.new (w.alloc (.cells #[.int .i64 n, .int .i64 t, .slice A rs.length c] 26)) 26 #[.int .i64 0, .int .i64 0, .slice none 0 0]
    rwa [World.size_alloc] at h
  have HWE := Lib.hid hW; clear hW
  go_enter Tryd.func43, Tryd.ntmps43
  go_wp2_with fail
  rw [HWE.out]
  refine (specGood_any _ _ _ _ _ _ ((HX.out.keep HB0.out).more HB0.out.size) hc h1 H2.out).mono ?_
  rintro e w1 ⟨rfl, hB1⟩
  have B1 := Lib.hid (B0.out.keep hB1 B0.out.1)
  have R1 := Lib.hid (R0.out.below hB1 R0.out.lt)
  have HB1 := Lib.hid (HB0.out.trans (hB1.mono HB0.out.size)); clear hB1
  clear HWE B0 R0 HB0
  cases hg : goodG n t (rs.map Ru.abs)
  · have HG := Lib.hid hg; clear hg
    have d0 := R1.out.cell 0
    have d1 := R1.out.cell 1
    have d2 := R1.out.cell 2
    have g0 := R1.out.frozen 0
    have g1 := R1.out.frozen 1
    have g2 := R1.out.frozen 2
    simp at d0 d1 d2
    go_wp2
    refine bodyPost_ret (v := .tuple #[.agg #[.int .i64 0, .int .i64 0, .slice none 0 0], .bool false]) (by simp [results, Tryd.results43, go_sem, d0, d1, d2]) rfl ?_
    refine ⟨[], fun h => (by rw [HG.out] at h; cases h), ?_⟩
    rw [HG.out]
    refine gave_none ?_
    exact ((HB1.out.setCell (by simp) _).setCell (by simp) _).setCell (by simp) _
  have HG := Lib.hid hg; clear hg
  obtain ⟨_, b0, b1, b2⟩ := B1.out
  go_wp2_with fail
  refine (l3Useful_any n t A c rs w1 ((HX.out.keep HB1.out).more HB1.out.size) HG.out).mono ?_
  rintro e w3 ⟨A3, c3, us, rfl, hc3, hO3, hu3, hB3⟩
  have HR3 := Lib.hid (R1.out.below hB3 R1.out.lt)
  have hlt1 : w.heap.size + 1 < w1.heap.size := R1.out.lt
  have d0 := HR3.out.cell 0
  have d1 := HR3.out.cell 1
  have d2 := HR3.out.cell 2
  have g0 := HR3.out.frozen 0
  have g1 := HR3.out.frozen 1
  have g2 := HR3.out.frozen 2
  simp at d0 d1 d2
  have HO3 := Lib.hid hO3
  have HU3 := Lib.hid hu3
  have HB3 := Lib.hid (HB1.out.trans (hB3.mono HB1.out.size))
  clear hO3 hu3 hB3 b0 b1 b2
  go_wp2
  refine bodyPost_ret (v := .tuple #[.agg #[.int .i64 n, .int .i64 t, .slice A3 us.length c3], .bool true]) (by simp [results, Tryd.results43, go_sem, d0, d1, d2]) rfl ?_
  refine ⟨us.map Ru.abs, fun _ => HU3.out, ?_⟩
  rw [HG.out]
  refine ⟨A3, c3, us, rfl, ?_, rfl, ?_⟩
  · exact (((HO3.out.low (by simp; omega) _).low (by simp; omega) _).low (by simp; omega) _).lower (by omega)
  · exact ((HB3.out.setCell (by simp) _).setCell (by simp) _).setCell (by simp) _

end Go.Proofs.YtacehfjhpnplbaaDoor
