/- The reference's InLanguage and Derives. -/
import Derived.Test.YtkghblgiojidgaaDoorTabS
import Derived.Test.YtkghblgiojidgaaDoorDerI
namespace Go.Proofs.YtkghblgiojidgaaDoor
open Go.RowKit

set_option maxRecDepth 20000 in
set_option maxHeartbeats 1000000 in
theorem l4In_any (N : Nat) (t : Int) (A : Option Addr) (c : Nat) (rs : List Ru) (y : Nat) (Aw : Option Addr) (cw : Nat) (ws : List Int) (w : World) (hx : Rls w w.heap.size A rs) (hg : goodG (N : Int) t (rs.map Ru.abs) = true) (hcap : ∀ u ∈ rs, u.r.length ≤ u.c) (hw : ws.length ≤ 10) (hW : Ints w w.heap.size Aw ws) (hy : y < N) :
    Calls Tryd.prog 57 #[.agg #[.int .i64 (N : Int), .int .i64 t, .slice A rs.length c], .int .i64 (y : Int), .slice Aw ws.length cw] w fun e w' => ∃ b, e = .returned (.bool b) ∧ (b = true ↔ Der (rs.map Ru.abs) ws y 0 ws.length) ∧ Below w.heap.size w w' := by
  have HB0 : Hid (Below w.heap.size w (w.alloc (.cells #[.int .i64 N, .int .i64 t, .slice A rs.length c] 30))) := by show Below _ _ _; go_grown
  have HC := Lib.hid (l4Table_any N t A c rs Aw cw ws _ ((hx.keep HB0.out).more HB0.out.size) hg hcap hw ((hW.keep HB0.out).more HB0.out.size))
  clear hx hg hW hcap
  go_enter Tryd.func57, Tryd.ntmps57
  go_wp2_with fail
  refine HC.out.mono ?_
  rintro e w1 ⟨S, T, rfl, hT, hD, hB⟩
  have HB1 : Hid (Below w.heap.size w w1) := HB0.out.trans (hB.mono HB0.out.size)
  have hc : ws.length < (ws.length + 1) * (ws.length + 1) := by have h := cell_lt (n := ws.length) (i := 0) (j := ws.length) (by omega) (by omega); simpa using h
  have k1 := hT.row hy
  obtain ⟨k2, _⟩ := hT.at_ hy hc
  have HQ : Hid (T y ws.length = true ↔ Der (rs.map Ru.abs) ws y 0 ws.length) := by
    refine Iff.trans ?_ (hD y 0 ws.length)
    unfold DT
    simp
  generalize (ws.length + 1) * (ws.length + 1) = M at *
  clear hT hD hB HC
  go_wp2
  go_ret
  exact ⟨_, rfl, HQ.out, HB1.out⟩

set_option maxRecDepth 20000 in
set_option maxHeartbeats 1000000 in
theorem specInLanguage_any (n t : Int) (A : Option Addr) (c : Nat) (rs : List Ru) (Aw : Option Addr) (cw : Nat) (ws : List Int) (w : World) (hx : Rls w w.heap.size A rs) (hW : Ints w w.heap.size Aw ws) (hc : rs.length ≤ c) (hcap : ∀ u ∈ rs, u.r.length ≤ u.c) (h1 : rs.length ≤ 1048576) (h2 : ∀ u ∈ rs, u.r.length ≤ 1048576) (h3 : ws.length ≤ 1048576) :
    Calls Tryd.prog 21 #[.agg #[.int .i64 n, .int .i64 t, .slice A rs.length c], .slice Aw ws.length cw] w (GaveXB w (QD (goodW n t (rs.map Ru.abs) ws) (Der (rs.map Ru.abs) ws 0 0 ws.length))) := by
  have HX := Lib.hid hx; clear hx
  have HW := Lib.hid hW; clear hW
  have HCP := Lib.hid hcap; clear hcap
  have HB0 : Hid (Below w.heap.size w (w.alloc (.cells #[.int .i64 n, .int .i64 t, .slice A rs.length c] 30))) := by show Below _ _ _; go_grown
  have HX0 : Hid (Box3 (w.alloc (.cells #[.int .i64 n, .int .i64 t, .slice A rs.length c] 30)) w.heap.size (.int .i64 n) (.int .i64 t) (.slice A rs.length c)) := ⟨by simp, by simp [go_sem], by simp [go_sem], by simp [go_sem]⟩
  have HC := Lib.hid (specWord_any n t A Aw c cw rs ws _ ((HX.out.keep HB0.out).more HB0.out.size) ((HW.out.keep HB0.out).more HB0.out.size) hc h1 h2 h3)
  cases hq : goodW n t (rs.map Ru.abs) ws
  · rw [hq] at HC
    go_enter Tryd.func21, Tryd.ntmps21
    go_wp2_with fail
    refine HC.out.mono ?_
    rintro e w1 ⟨rfl, hB1⟩
    have HB1 : Hid (Below w.heap.size w w1) := HB0.out.trans (hB1.mono HB0.out.size)
    clear hB1
    go_wp2
    go_ret2
    exact ⟨false, false, ⟨rfl, fun h => (by cases h), fun _ => rfl⟩, rfl, HB1.out⟩
  · have hg := goodW_goodG hq
    have hwl := goodW_len hq
    obtain ⟨N, rfl⟩ : ∃ N : Nat, n = (N : Int) := ⟨n.toNat, by have := goodG_is hg; omega⟩
    have hN1 : 0 < N := by have := goodG_is hg; omega
    have HG := Lib.hid hg
    rw [hq] at HC
    clear hq hg
    go_enter Tryd.func21, Tryd.ntmps21
    go_wp2_with fail
    refine HC.out.mono ?_
    rintro e w1 ⟨rfl, hB1⟩
    have HB1 : Hid (Below w.heap.size w w1) := HB0.out.trans (hB1.mono HB0.out.size)
    obtain ⟨_, b0, b1, b2⟩ := HX0.out.keep hB1 (by simp)
    clear hB1
    have HD := Lib.hid (l4In_any N t A c rs 0 Aw cw ws w1 ((HX.out.keep HB1.out).more HB1.out.size) HG.out HCP.out hwl ((HW.out.keep HB1.out).more HB1.out.size) hN1)
    go_wp2_with fail
    refine HD.out.mono ?_
    rintro e w2 ⟨b, rfl, hb, hB2⟩
    have HB2 : Hid (Below w.heap.size w w2) := HB1.out.trans (hB2.mono HB1.out.size)
    have HBB := Lib.hid hb
    clear hb hB2 b0 b1 b2
    go_wp2
    go_ret2
    exact ⟨b, true, ⟨rfl, fun _ => HBB.out, fun h => by cases h⟩, rfl, HB2.out⟩

end Go.Proofs.YtkghblgiojidgaaDoor
