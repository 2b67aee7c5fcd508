/- The reference's GrowingOf. -/
import Derived.Test.YtacehfjhpnplbaaDoorSpecGro
import Derived.Test.YtacehfjhpnplbaaDoorListBy
import Derived.Test.YtacehfjhpnplbaaDoorSpecGood2
namespace Go.Proofs.YtacehfjhpnplbaaDoor
open Go.RowKit

set_option maxRecDepth 20000 in
set_option maxHeartbeats 1000000 in
theorem specGrowingOf_any (n t : Int) (A : Option Addr) (c : Nat) (rs : List Ru) (w : World) (hx : Rls w w.heap.size A rs) (hc : rs.length ≤ c) (h1 : rs.length ≤ 1048576) (h2 : ∀ u ∈ rs, u.r.length ≤ 1048576) :
    Calls Tryd.prog 46 #[.agg #[.int .i64 n, .int .i64 t, .slice A rs.length c]] w (GaveP w (goodG n t (rs.map Ru.abs)) (IsGrow (rs.map Ru.abs))) := by
  have HX := Lib.hid hx; clear hx
  have H2 := Lib.hid h2; clear h2
  have HB0 : Hid (Below w.heap.size w (w.alloc (.cells #[.int .i64 n, .int .i64 t, .slice A rs.length c] 26))) := by show Below _ _ _; go_grown
  have B0 : Hid (Box3 (w.alloc (.cells #[.int .i64 n, .int .i64 t, .slice A rs.length c] 26)) w.heap.size (.int .i64 n) (.int .i64 t) (.slice A rs.length c)) := ⟨by simp, by simp [go_sem], by simp [go_sem], by simp [go_sem]⟩
  cases hg : goodG n t (rs.map Ru.abs)
  · have HG := Lib.hid hg; clear hg
    go_enter Tryd.func46, Tryd.ntmps46
    go_wp2_with fail
    refine (specGood_any _ _ _ _ _ _ ((HX.out.keep HB0.out).more HB0.out.size) hc h1 H2.out).mono ?_
    rintro e w1 ⟨rfl, hB1⟩
    rw [HG.out]
    have HB1 := Lib.hid (HB0.out.trans (hB1.mono HB0.out.size)); clear hB1
    go_wp2
    go_ret2
    exact ⟨[], (fun h => by cases h), fun _ => rfl, by simp, none, 0, rfl, .inl rfl, HB1.out⟩
  · have HG := Lib.hid hg; clear hg
    go_enter Tryd.func46, Tryd.ntmps46
    go_wp2_with fail
    refine (specGood_any _ _ _ _ _ _ ((HX.out.keep HB0.out).more HB0.out.size) hc h1 H2.out).mono ?_
    rintro e w1 ⟨rfl, hB1⟩
    rw [HG.out]
    obtain ⟨_, b0, b1, b2⟩ := B0.out.keep hB1 (by simp)
    have HB1 := Lib.hid (HB0.out.trans (hB1.mono HB0.out.size)); clear hB1
    go_wp2_with fail
    refine (l3Growing_any n t A c rs w1 ((HX.out.keep HB1.out).more HB1.out.size) HG.out).mono ?_
    rintro e w2 ⟨v, ys, rfl, ⟨k1, k2, k3⟩, k4, k5⟩
    have h6 : ys.length ≤ 6 := len6 (S := setL ys) (k1.imp fun h => by omega) (fun _ hx => setL_iff.2 hx) fun x hx => k2 x (setL_iff.1 hx)
    obtain ⟨A2, c2, hv, hO⟩ := k4.own
    subst hv
    have K1 := Lib.hid k1; have K3 := Lib.hid k3; have K4 := Lib.hid (hO.lower HB1.out.size); have K5 := Lib.hid (HB1.out.trans (k5.mono HB1.out.size))
    clear k1 k2 k3 k4 k5 hO
    go_wp2
    go_ret2
    exact ⟨ys, fun _ => ⟨setL ys, K3.out, K1.out, fun x => setL_iff.symm⟩, (fun h => by cases h), h6, A2, c2, rfl, K4.out, K5.out⟩

end Go.Proofs.YtacehfjhpnplbaaDoor
