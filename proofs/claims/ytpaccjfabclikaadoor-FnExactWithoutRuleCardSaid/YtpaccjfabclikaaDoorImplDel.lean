/- What the program's WithoutRule answers. -/
import Derived.Test.YtpaccjfabclikaaDoorDel2
import Derived.Test.YtpaccjfabclikaaDoorGLaw
namespace Go.Proofs.YtpaccjfabclikaaDoor
open Go.RowKit

def okDel (n t : Int) (ss : List (Int × List Int)) (x : Int) : Bool := goodG n t ss && (decide (0 ≤ x) && decide (x < ss.length))
def delA (ss : List (Int × List Int)) (x : Int) : List (Int × List Int) := ss.eraseIdx x.toNat
theorem okDel_no {n t x : Int} {ss : List (Int × List Int)} (h : goodG n t ss = false) : okDel n t ss x = false := by unfold okDel; rw [h]; rfl
theorem okDel_out {n t x : Int} {ss : List (Int × List Int)} (h : ¬ (0 ≤ x ∧ x < ss.length)) : okDel n t ss x = false := by
  unfold okDel
  rcases Decidable.not_and_iff_or_not.1 h with h | h
  · rw [decide_eq_false h]; cases goodG n t ss <;> rfl
  · rw [decide_eq_false h]; cases goodG n t ss <;> cases decide (0 ≤ x) <;> rfl
theorem okDel_yes {n t x : Int} {ss : List (Int × List Int)} (h : goodG n t ss = true) (h1 : 0 ≤ x) (h2 : x < ss.length) : okDel n t ss x = true := by unfold okDel; rw [h, decide_eq_true h1, decide_eq_true h2]; rfl
theorem del_abs {rs : List Ru} {ss : List (Int × List Int)} (h : rs.map Ru.abs = ss) (i : Nat) : (rs.eraseIdx i).map Ru.abs = delA ss (i : Int) := by
  unfold delA
  rw [Int.toNat_natCast, ← h]
  apply List.ext_getElem?
  intro k
  simp only [List.getElem?_map, List.getElem?_eraseIdx]
  split <;> rfl

/-- A box is written beside rules. -/
theorem OwnR.box {w : World} {lo : Nat} {A : Option Addr} {rs : List Ru} (h : OwnR w lo A rs) {p : Addr} {t : TypeId} {cs : Array Value} (hp : Row w p.block t cs) (h1 : t ≠ 52) (h2 : t ≠ 3) (u : Value) : OwnR (w.setCell p u) lo A rs := by
  rcases h with h | ⟨g, cs', ea, hl, hr, hc, hd⟩
  · exact .inl h
  · refine .inr ⟨g, cs', ea, hl, hr.far (hr.ne hp h1.symm) u, fun k x hx => ?_, hd⟩
    obtain ⟨y1, y2, y3⟩ := hc k x hx
    refine ⟨y1, y2, ?_⟩
    rcases y3 with y | ⟨g3, c3, e3, l3, r3, k3⟩
    · exact .inl y
    · exact .inr ⟨g3, c3, e3, l3, r3.far (r3.ne hp h2.symm) u, k3⟩

set_option maxHeartbeats 2000000 in
theorem implDel_any (n t x : Int) (A : Option Addr) (c : Nat) (rs : List Ru) (w : World) (hx : Rls w w.heap.size A rs) (hL : Lims w) (hc : rs.length ≤ c) (h1 : rs.length ≤ 1048576) (h2 : ∀ u ∈ rs, u.r.length ≤ 1048576) (hf : FitR rs) :
    Calls Tryd.prog 32 #[.agg #[.int .i64 n, .int .i64 t, .slice A rs.length c], .int .i64 x] w (GaveGB w n t (delA (rs.map Ru.abs) x) (okDel n t (rs.map Ru.abs) x)) := by
  have HX := Lib.hid hx; clear hx
  have HL := Lib.hid hL; clear hL
  have HF := Lib.hid hf; clear hf
  have H2 := Lib.hid h2; clear h2
  generalize hW : ((w.alloc (.cells #[.int .i64 n, .int .i64 t, .slice A rs.length c] 29)).alloc (.cells #[.int .i64 0, .int .i64 0, .slice none 0 0] 29)) = W
  have HB0 : Hid (Below w.heap.size w W) := by subst hW; show Below _ _ _; go_grown
  have B0 : Hid (Box3 W w.heap.size (.int .i64 n) (.int .i64 t) (.slice A rs.length c)) := by subst hW; exact ⟨by simp; omega, by simp [go_sem], by simp [go_sem], by simp [go_sem]⟩
  have R0 : Hid (Row W (w.heap.size + 1) 29 #[.int .i64 0, .int .i64 0, .slice none 0 0]) := by
    subst hW
    have h := Row.new (w.alloc (.cells #[.int .i64 n, .int .i64 t, .slice A rs.length c] 29)) 29 #[.int .i64 0, .int .i64 0, .slice none 0 0]
    rwa [World.size_alloc] at h
  have HWE := Lib.hid hW; clear hW
  go_enter Tryd.func32, Tryd.ntmps32
  go_wp2_with fail
  rw [HWE.out]
  refine (goodGrammar_any _ _ _ _ _ _ ((HX.out.keep HB0.out).more HB0.out.size) (HL.out.keep HB0.out (Nat.le_refl _)) hc h1 H2.out HF.out).mono ?_
  rintro e w1 ⟨rfl, hB1⟩
  have B1 := Lib.hid (B0.out.keep hB1 B0.out.1)
  have R1 := Lib.hid (R0.out.below hB1 R0.out.lt)
  have HB1 := Lib.hid (HB0.out.trans (hB1.mono HB0.out.size)); clear hB1
  clear HWE B0 R0 HB0
  have d0 := R1.out.cell 0
  have d1 := R1.out.cell 1
  have d2 := R1.out.cell 2
  have g0 := R1.out.frozen 0
  have g1 := R1.out.frozen 1
  have g2 := R1.out.frozen 2
  simp at d0 d1 d2
  cases hg : goodG n t (rs.map Ru.abs)
  · have HG := Lib.hid (okDel_no (x := x) hg); clear hg
    go_wp2
    refine bodyPost_ret (v := .tuple #[.agg #[.int .i64 0, .int .i64 0, .slice none 0 0], .bool false]) (by simp [results, Tryd.results32, go_sem, d0, d1, d2]) rfl ?_
    rw [HG.out]
    refine gave_none ?_
    exact ((HB1.out.setCell (by simp) _).setCell (by simp) _).setCell (by simp) _
  obtain ⟨_, b0, b1, b2⟩ := B1.out
  by_cases hx0 : x < 0
  · have HG : Hid (okDel n t (rs.map Ru.abs) x = false) := okDel_out (by omega)
    clear hg
    go_wp2
    refine bodyPost_ret (v := .tuple #[.agg #[.int .i64 0, .int .i64 0, .slice none 0 0], .bool false]) (by simp [results, Tryd.results32, go_sem, d0, d1, d2]) rfl ?_
    rw [HG.out]
    refine gave_none ?_
    exact ((HB1.out.setCell (by simp) _).setCell (by simp) _).setCell (by simp) _
  by_cases hx1 : (rs.length : Int) ≤ x
  · have HG : Hid (okDel n t (rs.map Ru.abs) x = false) := okDel_out (by rw [List.length_map]; omega)
    clear hg
    go_wp2
    refine bodyPost_ret (v := .tuple #[.agg #[.int .i64 0, .int .i64 0, .slice none 0 0], .bool false]) (by simp [results, Tryd.results32, go_sem, d0, d1, d2]) rfl ?_
    rw [HG.out]
    refine gave_none ?_
    exact ((HB1.out.setCell (by simp) _).setCell (by simp) _).setCell (by simp) _
  have HG : Hid (okDel n t (rs.map Ru.abs) x = true) := okDel_yes hg (by omega) (by rw [List.length_map]; omega)
  clear hg
  obtain ⟨i, rfl⟩ : ∃ i : Nat, x = (i : Int) := ⟨x.toNat, by omega⟩
  have hi : i < rs.length := by omega
  clear hx0 d0 d1 d2 g0 g1 g2
  go_wp2_with fail
  refine (copyGrammar_any _ _ _ _ _ _ ((HX.out.keep HB1.out).more HB1.out.size) h1 H2.out).mono ?_
  rintro e w2 ⟨A2, c2, rs2, rfl, hcap2, hO2, ha2, hB2⟩
  have hl2 : rs2.length = rs.length := by simpa using congrArg List.length ha2
  have hi2 : i < rs2.length := by omega
  have hlen2 : rs2.length ≤ 1048576 := by omega
  obtain ⟨g, rfl, _⟩ := hO2.at_ hi2
  have HA2 := Lib.hid ha2; clear ha2
  have R2 := Lib.hid (R1.out.below hB2 R1.out.lt)
  have HB2 := Lib.hid (HB1.out.trans (hB2.mono HB1.out.size)); clear hB2
  have HO2 := Lib.hid hO2; clear hO2
  clear hl2 b0 b1 b2
  have hwr : IntKind.i64.wrap ((i : Int) + 1) = (i : Int) + 1 := by rw [IntKind.wrap_i64]; omega
  go_wp2_with fail
  have hBN := below_new w2 (.cells #[.int .i64 n, .int .i64 t, .slice (some ⟨g, 0, none⟩) rs2.length c2] 29)
  have RN := Row.new w2 29 #[.int .i64 n, .int .i64 t, .slice (some ⟨g, 0, none⟩) rs2.length c2]
  generalize (w2.alloc (.cells #[.int .i64 n, .int .i64 t, .slice (some ⟨g, 0, none⟩) rs2.length c2] 29)) = V at hBN RN ⊢
  have HBV := Lib.hid (HB2.out.trans (hBN.mono HB2.out.size))
  have RV := Lib.hid (R2.out.below hBN R2.out.lt)
  have HOV := Lib.hid (HO2.out.below hBN (Nat.le_refl _))
  have HRN := Lib.hid RN; clear RN hBN
  refine (delete_any g c2 w1.heap.size i (i + 1) rs2 V HOV.out hi2 rfl hcap2 hlen2).mono ?_
  rintro e w3 ⟨rfl, hO3, hS3⟩
  obtain ⟨csg, hcsg, hgl, _⟩ := HOV.out.size2 hi2
  have R3 := Lib.hid (RV.out.save hS3 (RV.out.ne hcsg (by decide)))
  have RN3 := Lib.hid (HRN.out.save hS3 (HRN.out.ne hcsg (by decide)))
  have hs1 := HB1.out.size
  have HB3 : Hid (Below w.heap.size w w3) := HBV.out.trans (hS3.below HBV.out.size fun b hb e => by omega)
  have HLT : Hid (w.heap.size + 1 < w1.heap.size) := R1.out.lt
  have HLW : Hid (w1.heap.size ≤ w2.heap.size) := by show _ ≤ _; have := HO2.out.size2 hi2; obtain ⟨_, h, h', _⟩ := this; have := h.lt; omega
  have HNG : Hid (w2.heap.size ≠ g) := HRN.out.ne hcsg (by decide)
  have HA3 := Lib.hid (del_abs HA2.out i)
  have HO3 := Lib.hid hO3; clear hO3 hS3 hcsg hgl hs1
  have o0 := RN3.out.cell 0
  have o1 := RN3.out.cell 1
  have o2 := RN3.out.cell 2
  have o3 := RN3.out.frozen 2
  have d0 := R3.out.cell 0
  have d1 := R3.out.cell 1
  have d2 := R3.out.cell 2
  have g0 := R3.out.frozen 0
  have g1 := R3.out.frozen 1
  have g2 := R3.out.frozen 2
  simp at o0 o1 o2 d0 d1 d2
  have hne1 : ¬ w.heap.size + 1 = w2.heap.size := by have := HLT.out; have := HLW.out; omega
  have hne2 : ¬ w2.heap.size = w.heap.size + 1 := by omega
  clear hwr
  go_wp2
  refine bodyPost_ret (v := .tuple #[.agg #[.int .i64 n, .int .i64 t, .slice (some ⟨g, 0, none⟩) (rs2.eraseIdx i).length c2], .bool true]) (by simp [results, Tryd.results32, go_sem, d0, d1, d2]) rfl ⟨some ⟨g, 0, none⟩, c2, rs2.eraseIdx i, by rw [HG.out]; rfl, ?_, ?_, ?_⟩
  · have hlt := HLT.out
    exact ((((HO3.out.box (p := ⟨w2.heap.size, 2, none⟩) RN3.out (by decide) (by decide) _).low (by simp; omega) _).low (by simp; omega) _).low (by simp; omega) _).lower HB1.out.size
  · rw [HG.out]; exact HA3.out
  · have hs2 := HB2.out.size
    exact (((HB3.out.setCell (by simp; omega) _).setCell (by simp) _).setCell (by simp) _).setCell (by simp) _

end Go.Proofs.YtpaccjfabclikaaDoor
