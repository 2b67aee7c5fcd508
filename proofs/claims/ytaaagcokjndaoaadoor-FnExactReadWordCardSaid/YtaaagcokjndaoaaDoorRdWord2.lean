/- What the program's ReadWord answers. -/
import Derived.Test.YtaaagcokjndaoaaDoorRdWord
namespace Go.Proofs.YtaaagcokjndaoaaDoor
open Go.RowKit

theorem gl_lt {w : World} (hN : NonT w) (hT : TokT w) : 1 < w.heap.size ∧ 0 < w.heap.size := ⟨hN.pos, hT.pos⟩

set_option maxRecDepth 20000 in
set_option maxHeartbeats 2000000 in
theorem implRW_any (n t : Int) (A : Option Addr) (c : Nat) (rs : List Ru) (s : ByteArray) (w : World) (hx : Rls w w.heap.size A rs) (hL : Lims w) (hN : NonT w) (hT : TokT w) (hc : rs.length ≤ c) (h1 : rs.length ≤ 1048576) (h2 : ∀ u ∈ rs, u.r.length ≤ 1048576) (hf : FitR rs) (h3 : s.size ≤ 1048576) :
    Calls Tryd.prog 21 #[.agg #[.int .i64 n, .int .i64 t, .slice A rs.length c], .string s] w (GaveIIB w (rdL n t (rs.map Ru.abs) s) (rdP n t (rs.map Ru.abs) s) (rdB n t (rs.map Ru.abs) s)) := by
  have hmf : ∀ (fn : Fn) (first cap : Array Value) (w : World), (Instr.makeFunc fn first cap).run Tryd.prog w = .ok (.func fn first cap) w := fun _ _ _ _ => rfl
  have HX := Lib.hid hx; clear hx
  have HL := Lib.hid hL; clear hL
  have HNT := Lib.hid hN; clear hN
  have HTT := Lib.hid hT; clear hT
  have HF := Lib.hid hf; clear hf
  have H2 := Lib.hid h2; clear h2
  have HB0 : Hid (Below w.heap.size w (w.alloc (.cells #[.int .i64 n, .int .i64 t, .slice A rs.length c] 26))) := by show Below _ _ _; go_grown
  have B0 : Hid (Box3 (w.alloc (.cells #[.int .i64 n, .int .i64 t, .slice A rs.length c] 26)) w.heap.size (.int .i64 n) (.int .i64 t) (.slice A rs.length c)) := ⟨by simp, by simp [go_sem], by simp [go_sem], by simp [go_sem]⟩
  cases hg : goodG n t (rs.map Ru.abs)
  · obtain ⟨e1, e2, e3⟩ := rd_no (rdOk_g (s := s) hg)
    have HE1 := Lib.hid e1; clear e1
    have HE2 := Lib.hid e2; clear e2
    have HE3 := Lib.hid e3; clear e3
    have HG := Lib.hid hg; clear hg
    go_enter Tryd.func21, Tryd.ntmps21
    go_wp2_with fail
    refine (goodGrammar_any _ _ _ _ _ _ ((HX.out.keep HB0.out).more HB0.out.size) (HL.out.keep HB0.out (Nat.le_refl _)) hc h1 H2.out HF.out).mono ?_
    rintro e w1 ⟨rfl, hB1⟩
    rw [HG.out]
    go_wp2
    go_ret3
    exact ⟨none, 0, by rw [HE1.out, HE2.out, HE3.out]; rfl, by rw [HE1.out]; exact .inl rfl, HB0.out.trans (hB1.mono HB0.out.size)⟩
  by_cases hl : s.size ≤ 10
  · have hok : rdOk n t (rs.map Ru.abs) s = true := (rdOk_s hg).trans (decide_eq_true hl)
    have HI : Hid (inB 0 10 (s.size : Int) = true) := inB_t (by omega) (by omega)
    have HOK := Lib.hid hok; clear hok
    have HG := Lib.hid hg; clear hg
    go_enter Tryd.func21, Tryd.ntmps21
    go_wp2_with fail
    refine (goodGrammar_any _ _ _ _ _ _ ((HX.out.keep HB0.out).more HB0.out.size) (HL.out.keep HB0.out (Nat.le_refl _)) hc h1 H2.out HF.out).mono ?_
    rintro e w1 ⟨rfl, hB1⟩
    rw [HG.out]
    have BX1 := Lib.hid (B0.out.keep hB1 (by simp))
    have HB1 := Lib.hid (HB0.out.trans (hB1.mono HB0.out.size)); clear hB1 B0 HB0
    go_wp2_with fail
    refine (within4 _ _ (HL.out.keep HB1.out (Nat.le_refl _))).mono ?_
    rintro e w2 ⟨rfl, hB2⟩
    rw [HI.out]
    obtain ⟨_, b0, b1, b2⟩ := BX1.out.keep hB2 BX1.out.1
    have HB2 := Lib.hid (HB1.out.trans (hB2.mono HB1.out.size)); clear hB2
    have hsz2 := HB2.out.size
    go_wp2_with fail
    have hBA : Below w2.heap.size w2 (w2.alloc (.cells #[.string s, .int .i64 0, .int .i64 n, .int .i64 t, .slice A rs.length c, .slice none 0 0] 65)) := by go_grown
    have hRd : Rdr (w2.alloc (.cells #[.string s, .int .i64 0, .int .i64 n, .int .i64 t, .slice A rs.length c, .slice none 0 0] 65)) w2.heap.size s 0 n t (.slice A rs.length c) (.slice none 0 0) := Row.new _ _ _
    generalize (w2.alloc (.cells #[.string s, .int .i64 0, .int .i64 n, .int .i64 t, .slice A rs.length c, .slice none 0 0] 65)) = W at hBA hRd ⊢
    have HBW := Lib.hid (HB2.out.trans (hBA.mono HB2.out.size))
    have hgl := gl_lt HNT.out HTT.out
    clear b0 b1 b2
    refine (tryWord_any _ _ _ _ _ _ _ _ hRd h3 (HNT.out.keep HBW.out (Nat.le_refl _)) (HTT.out.keep HBW.out (Nat.le_refl _)) (by omega) (by omega)).mono ?_
    rintro e w3 ⟨hS, ⟨hb, rfl, Aw, cw, hRw, hO⟩ | ⟨k, hb, rfl⟩⟩
    · obtain ⟨e1, e2, e3⟩ := rd_good HOK.out hb
      have HE1 := Lib.hid e1; clear e1
      have HE2 := Lib.hid e2; clear e2
      have HE3 := Lib.hid e3; clear e3
      have HRw := Lib.hid hRw; clear hRw
      have HO := Lib.hid hO; clear hO
      have HW3 : Hid (Below w.heap.size w w3) := HBW.out.trans (hS.below HBW.out.size fun i hi (e : i = w2.heap.size) => by omega)
      have HlW := Lib.hid HBW.out.size
      clear hS hb hBA hRd
      have c5 : (w3.alloc (.cells #[.int .i64 0, .int .i64 0] 67)).cell? ⟨w2.heap.size, 5, none⟩ = some (.slice Aw (rwL t s).length cw) := (Row.alloc HRw.out _).cell 5
      go_wp2
      go_ret3
      exact ⟨Aw, cw, by rw [HE1.out, HE2.out, HE3.out]; rfl, by rw [HE1.out]; exact (HO.out.below (by go_grown) (Nat.le_refl _)).lower HlW.out, HW3.out.alloc HW3.out.size _⟩
    · obtain ⟨e1, e2, e3⟩ := rd_bad HOK.out hb
      have HE1 := Lib.hid e1; clear e1
      have HE2 := Lib.hid e2; clear e2
      have HE3 := Lib.hid e3; clear e3
      have HW3 : Hid (Below w.heap.size w w3) := HBW.out.trans (hS.below HBW.out.size fun i hi (e : i = w2.heap.size) => by omega)
      clear hS hb hBA hRd
      go_wp2
      go_quiet (fail)
      go_wp2
      go_ret3
      exact ⟨none, 0, by rw [HE1.out, HE2.out, HE3.out]; rfl, by rw [HE1.out]; exact .inl rfl, below_drewN (HW3.out.alloc HW3.out.size _) _⟩
  · obtain ⟨e1, e2, e3⟩ := rd_no ((rdOk_s hg).trans (decide_eq_false hl))
    have HI : Hid (inB 0 10 (s.size : Int) = false) := inB_f (by omega)
    have HE1 := Lib.hid e1; clear e1
    have HE2 := Lib.hid e2; clear e2
    have HE3 := Lib.hid e3; clear e3
    have HG := Lib.hid hg; clear hg
    go_enter Tryd.func21, Tryd.ntmps21
    go_wp2_with fail
    refine (goodGrammar_any _ _ _ _ _ _ ((HX.out.keep HB0.out).more HB0.out.size) (HL.out.keep HB0.out (Nat.le_refl _)) hc h1 H2.out HF.out).mono ?_
    rintro e w1 ⟨rfl, hB1⟩
    rw [HG.out]
    have HB1 := Lib.hid (HB0.out.trans (hB1.mono HB0.out.size)); clear hB1
    go_wp2_with fail
    refine (within4 _ _ (HL.out.keep HB1.out (Nat.le_refl _))).mono ?_
    rintro e w2 ⟨rfl, hB2⟩
    rw [HI.out]
    go_wp2
    go_ret3
    exact ⟨none, 0, by rw [HE1.out, HE2.out, HE3.out]; rfl, by rw [HE1.out]; exact .inl rfl, HB1.out.trans (hB2.mono HB1.out.size)⟩

end Go.Proofs.YtaaagcokjndaoaaDoor
