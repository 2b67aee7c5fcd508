/- The program's UsefulOf. -/
import Derived.Test.YtacehfjhpnplbaaDoorUseI
import Derived.Test.YtacehfjhpnplbaaDoorAns
import Derived.Test.YtacehfjhpnplbaaDoorCopyG
import Derived.Test.YtacehfjhpnplbaaDoorImplGood3
import Derived.Deep.RegionHeld3
namespace Go.Proofs.YtacehfjhpnplbaaDoor
open Go.RowKit

/-- Where g, a new grammar with the useful rules; else none. -/
def GaveUse (w : World) (n t : Int) (ss : List (Int × List Int)) (e : Ending) (w' : World) : Prop :=
  ∃ us, (goodG n t ss = true → IsUse ss us) ∧ GaveGB w n t us (goodG n t ss) e w'

set_option maxRecDepth 20000 in
set_option maxHeartbeats 2000000 in
theorem implUsefulOf_any (n t : Int) (A : Option Addr) (c : Nat) (rs : List Ru) (w : World) (hx : Rls w w.heap.size A rs) (hL : Lims w) (hc : rs.length ≤ c) (h1 : rs.length ≤ 1048576) (h2 : ∀ u ∈ rs, u.r.length ≤ 1048576) (hf : FitR rs) :
    Calls Tryd.prog 44 #[.agg #[.int .i64 n, .int .i64 t, .slice A rs.length c]] w (GaveUse w n t (rs.map Ru.abs)) := by
  have HX := Lib.hid hx; clear hx
  have HL := Lib.hid hL; clear hL
  have HF := Lib.hid hf; clear hf
  have H2 := Lib.hid h2; clear h2
  generalize hW : ((w.alloc (.cells #[.int .i64 n, .int .i64 t, .slice A rs.length c] 26)).alloc (.cells #[.int .i64 0, .int .i64 0, .slice none 0 0] 26)) = W
  have HB0 : Hid (Below w.heap.size w W) := by subst hW; show Below _ _ _; go_grown
  have B0 : Hid (Box3 W w.heap.size (.int .i64 n) (.int .i64 t) (.slice A rs.length c)) := by subst hW; exact ⟨by simp; omega, by simp [go_sem], by simp [go_sem], by simp [go_sem]⟩
  have R0 : Hid (Row W (w.heap.size + 1) 26 #[.int .i64 0, .int .i64 0, .slice none 0 0]) := by
    subst hW
    have h := Row.new (w.alloc (.cells #[.int .i64 n, .int .i64 t, .slice A rs.length c] 26)) 26 #[.int .i64 0, .int .i64 0, .slice none 0 0]
    rwa [World.size_alloc] at h
  have HWE := Lib.hid hW; clear hW
  go_enter Tryd.func44, Tryd.ntmps44
  go_wp2_with fail
  rw [HWE.out]
  refine (goodGrammar_any _ _ _ _ _ _ ((HX.out.keep HB0.out).more HB0.out.size) (HL.out.keep HB0.out (Nat.le_refl _)) hc h1 H2.out HF.out).mono ?_
  rintro e w1 ⟨rfl, hB1⟩
  have B1 := Lib.hid (B0.out.keep hB1 B0.out.1)
  have R1 := Lib.hid (R0.out.below hB1 R0.out.lt)
  have HB1 := Lib.hid (HB0.out.trans (hB1.mono HB0.out.size)); clear hB1
  clear HWE B0 R0 HB0
  cases hg : goodG n t (rs.map Ru.abs)
  · have HG := Lib.hid hg; clear hg
    have d0 := R1.out.cell 0
    have d1 := R1.out.cell 1
    have d2 := R1.out.cell 2
    have g0 := R1.out.frozen 0
    have g1 := R1.out.frozen 1
    have g2 := R1.out.frozen 2
    simp at d0 d1 d2
    go_wp2
    refine bodyPost_ret (v := .tuple #[.agg #[.int .i64 0, .int .i64 0, .slice none 0 0], .bool false]) (by simp [results, Tryd.results44, go_sem, d0, d1, d2]) rfl ?_
    refine ⟨[], fun h => (by rw [HG.out] at h; cases h), ?_⟩
    rw [HG.out]
    refine gave_none ?_
    exact ((HB1.out.setCell (by simp) _).setCell (by simp) _).setCell (by simp) _
  have HG := Lib.hid hg; clear hg
  have HRR := Lib.hid ((HX.out.keep HB1.out).more HB1.out.size)
  obtain ⟨_, b0, b1, b2⟩ := B1.out
  have hlt0 : w.heap.size < w1.heap.size := B1.out.1
  have hlt1 : w.heap.size + 1 < w1.heap.size := R1.out.lt
  go_wp2_with fail
  go_region_held3 (fun w' => w'.cell? ⟨w.heap.size, 0, none⟩ = some (.int .i64 n) ∧ w'.cell? ⟨w.heap.size, 1, none⟩ = some (.int .i64 t) ∧ w'.cell? ⟨w.heap.size, 2, none⟩ = some (.slice A rs.length c))
    (first | exact ⟨b0, b1, b2⟩ | exact ⟨y0, y1, y2⟩ | exact ⟨z0, z1, z2⟩ | (refine ⟨?_, ?_, ?_⟩ <;> (rw [World.cell?_setCell_far _ _ _ _ (by simp), World.cell?_setCell_far _ _ _ _ (by simp), World.cell?_setCell_far _ _ _ _ (by simp)]; first | exact z0 | exact z1 | exact z2)))
    (first
    | (go_at_call 92
       refine (usefulRules_any n t A c rs _ ?_ HG.out).mono ?_
       · exact HRR.out.keep (by go_grown)
       rintro e w2 ⟨us, hus, A2, c2, rfl, hc2, hR2, hB2'⟩
       have hB2 : Below w1.heap.size w1 w2 := Below.trans (by go_grown) hB2'
       obtain ⟨_, y0, y1, y2⟩ := B1.out.keep hB2 B1.out.1
       have HUS := Lib.hid hus
       have HR2 := Lib.hid hR2
       have HB2 := Lib.hid hB2
       have hul : us.length ≤ 1048576 := by have := hus.len; omega
       clear hus hR2 hB2 hB2')
    | (go_at_call 91
       refine (copyGrammar_any _ _ _ _ _ _ ?_ hul ?_).mono ?_
       · exact HR2.out.keep (by go_grown)
       · exact fun u hu => H2.out u (HUS.out.sub u hu)
       rintro e w3 ⟨A3, c3, rs3, rfl, hc3, hO3, ha3, hB3'⟩
       have hB3 : Below w1.heap.size w1 w3 := HB2.out.trans (Below.trans (by go_grown) (hB3'.mono HB2.out.size))
       obtain ⟨_, z0, z1, z2⟩ := B1.out.keep hB3 B1.out.1
       have HR3 := Lib.hid (R1.out.below hB3 R1.out.lt)
       have d0 := HR3.out.cell 0
       have d1 := HR3.out.cell 1
       have d2 := HR3.out.cell 2
       have g0 := HR3.out.frozen 0
       have g1 := HR3.out.frozen 1
       have g2 := HR3.out.frozen 2
       simp at d0 d1 d2
       have HO3 := Lib.hid hO3
       have HA3 := Lib.hid ha3
       have HB3 := Lib.hid hB3
       have HS2 := Lib.hid HB2.out.size
       clear hO3 ha3 hB3 hB3'))
  rename_i hHeld
  clear hHeld y0 y1 y2 z0 z1 z2 b0 b1 b2
  go_wp2
  have hs2 := HS2.out
  refine bodyPost_ret (v := .tuple #[.agg #[.int .i64 n, .int .i64 t, .slice A3 rs3.length c3], .bool true]) (by simp [results, Tryd.results44, go_sem, d0, d1, d2]) rfl ?_
  refine ⟨us.map Ru.abs, fun _ => HUS.out.use, ?_⟩
  rw [HG.out]
  refine ⟨A3, c3, rs3, rfl, ?_, HA3.out, ?_⟩
  · exact (((HO3.out.low (by simp; omega) _).low (by simp; omega) _).low (by simp; omega) _).lower (by omega)
  · have hB := HB1.out.trans (HB3.out.mono HB1.out.size)
    exact ((hB.setCell (by simp) _).setCell (by simp) _).setCell (by simp) _

end Go.Proofs.YtacehfjhpnplbaaDoor
