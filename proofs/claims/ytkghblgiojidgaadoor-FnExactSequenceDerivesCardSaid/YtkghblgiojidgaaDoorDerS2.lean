/- The reference's Derives. -/
import Derived.Test.YtkghblgiojidgaaDoorDerS
namespace Go.Proofs.YtkghblgiojidgaaDoor
open Go.RowKit

theorem inB_nonB {n x : Int} : inB 0 (n - 1) x = nonB n x := by
  cases h : nonB n x
  · exact inB_f (by have := nonB_no h; omega)
  · exact inB_t (by have := nonB_is h; omega) (by have := nonB_is h; omega)

set_option maxRecDepth 20000 in
set_option maxHeartbeats 1000000 in
theorem specDerives_any (n t x : Int) (A : Option Addr) (c : Nat) (rs : List Ru) (Aw : Option Addr) (cw : Nat) (ws : List Int) (w : World) (hx : Rls w w.heap.size A rs) (hW : Ints w w.heap.size Aw ws) (hc : rs.length ≤ c) (hcap : ∀ u ∈ rs, u.r.length ≤ u.c) (h1 : rs.length ≤ 1048576) (h2 : ∀ u ∈ rs, u.r.length ≤ 1048576) (h3 : ws.length ≤ 1048576) :
    Calls Tryd.prog 17 #[.agg #[.int .i64 n, .int .i64 t, .slice A rs.length c], .int .i64 x, .slice Aw ws.length cw] w (GaveXB w (QD (goodW n t (rs.map Ru.abs) ws && nonB n x) (Der (rs.map Ru.abs) ws x 0 ws.length))) := by
  have HX := Lib.hid hx; clear hx
  have HW := Lib.hid hW; clear hW
  have HCP := Lib.hid hcap; clear hcap
  have HB0 : Hid (Below w.heap.size w (w.alloc (.cells #[.int .i64 n, .int .i64 t, .slice A rs.length c] 30))) := by show Below _ _ _; go_grown
  have HX0 : Hid (Box3 (w.alloc (.cells #[.int .i64 n, .int .i64 t, .slice A rs.length c] 30)) w.heap.size (.int .i64 n) (.int .i64 t) (.slice A rs.length c)) := ⟨by simp, by simp [go_sem], by simp [go_sem], by simp [go_sem]⟩
  have HC := Lib.hid (specWord_any n t A Aw c cw rs ws _ ((HX.out.keep HB0.out).more HB0.out.size) ((HW.out.keep HB0.out).more HB0.out.size) hc h1 h2 h3)
  cases hq : goodW n t (rs.map Ru.abs) ws
  · rw [hq] at HC
    go_enter Tryd.func17, Tryd.ntmps17
    go_wp2_with fail
    refine HC.out.mono ?_
    rintro e w1 ⟨rfl, hB1⟩
    have HB1 : Hid (Below w.heap.size w w1) := HB0.out.trans (hB1.mono HB0.out.size)
    clear hB1
    go_wp2
    go_ret2
    exact ⟨false, false, ⟨rfl, fun h => (by cases h), fun _ => rfl⟩, rfl, HB1.out⟩
  · have hg := goodW_goodG hq
    have hwl := goodW_len hq
    obtain ⟨N, rfl⟩ : ∃ N : Nat, n = (N : Int) := ⟨n.toNat, by have := goodG_is hg; omega⟩
    have hN6 : N ≤ 6 := by have := goodG_is hg; omega
    have HG := Lib.hid hg
    rw [hq] at HC
    clear hq hg
    cases hn : nonB (N : Int) x
    · have HI : Hid (inB 0 ((N : Int) - 1) x = false) := inB_nonB.trans hn
      clear hn
      go_enter Tryd.func17, Tryd.ntmps17
      go_wp2_with fail
      refine HC.out.mono ?_
      rintro e w1 ⟨rfl, hB1⟩
      have HB1 : Hid (Below w.heap.size w w1) := HB0.out.trans (hB1.mono HB0.out.size)
      obtain ⟨_, b0, b1, b2⟩ := HX0.out.keep hB1 (by simp)
      clear hB1
      go_wp2_with fail
      refine (l1In_any _ _ _ _).mono ?_
      rintro e w2 ⟨rfl, rfl⟩
      rw [HI.out]
      go_wp2
      go_ret2
      exact ⟨false, false, ⟨rfl, fun h => (by cases h), fun _ => rfl⟩, rfl, HB1.out⟩
    · have HI : Hid (inB 0 ((N : Int) - 1) x = true) := inB_nonB.trans hn
      obtain ⟨y, rfl⟩ : ∃ y : Nat, x = (y : Int) := ⟨x.toNat, by have := nonB_is hn; omega⟩
      have hyN : y < N := by have := nonB_is hn; omega
      clear hn
      go_enter Tryd.func17, Tryd.ntmps17
      go_wp2_with fail
      refine HC.out.mono ?_
      rintro e w1 ⟨rfl, hB1⟩
      have HB1 : Hid (Below w.heap.size w w1) := HB0.out.trans (hB1.mono HB0.out.size)
      obtain ⟨_, b0, b1, b2⟩ := HX0.out.keep hB1 (by simp)
      clear hB1
      go_wp2_with fail
      refine (l1In_any _ _ _ _).mono ?_
      rintro e w2 ⟨rfl, rfl⟩
      rw [HI.out]
      have HD := Lib.hid (l4In_any N t A c rs y Aw cw ws w1 ((HX.out.keep HB1.out).more HB1.out.size) HG.out HCP.out hwl ((HW.out.keep HB1.out).more HB1.out.size) hyN)
      go_wp2_with fail
      refine HD.out.mono ?_
      rintro e w2 ⟨b, rfl, hb, hB2⟩
      have HB2 : Hid (Below w.heap.size w w2) := HB1.out.trans (hB2.mono HB1.out.size)
      have HBB := Lib.hid hb
      clear hb hB2 b0 b1 b2
      go_wp2
      go_ret2
      exact ⟨b, true, ⟨rfl, fun _ => HBB.out, fun h => by cases h⟩, rfl, HB2.out⟩

end Go.Proofs.YtkghblgiojidgaaDoor
