/- What the program's GoodBinary answers. -/
import Derived.Test.YtjfhkcoiomokoaaDoorGbI2
namespace Go.Proofs.YtjfhkcoiomokoaaDoor
open Go.RowKit
open Go.Sort (grow)

/-- A binary grammar's box: its cells stay while only newer memory is written. -/
def Box6 (w : World) (g : Nat) (b : Bi) : Prop := g < w.heap.size ∧ w.cell? ⟨g, 0, none⟩ = some (.int .i64 b.n) ∧ w.cell? ⟨g, 1, none⟩ = some (.int .i64 b.t) ∧ w.cell? ⟨g, 2, none⟩ = some (.slice b.Ap b.P.length b.cp) ∧
  w.cell? ⟨g, 3, none⟩ = some (.slice b.Ao b.O.length b.co) ∧ w.cell? ⟨g, 4, none⟩ = some (.slice b.Ae b.E.length b.ce) ∧ w.cell? ⟨g, 5, none⟩ = some (.slice b.Af b.F.length b.cf)
theorem Box6.keep {w w' : World} {g B : Nat} {b : Bi} (h : Box6 w g b) (hb : Below B w w') (hB : g < B) : Box6 w' g b := by
  obtain ⟨h0, h1, h2, h3, h4, h5, h6⟩ := h
  exact ⟨by have := hb.size; omega, (hb.cell (p := ⟨g, 0, none⟩) hB).trans h1, (hb.cell (p := ⟨g, 1, none⟩) hB).trans h2, (hb.cell (p := ⟨g, 2, none⟩) hB).trans h3, (hb.cell (p := ⟨g, 3, none⟩) hB).trans h4, (hb.cell (p := ⟨g, 4, none⟩) hB).trans h5, (hb.cell (p := ⟨g, 5, none⟩) hB).trans h6⟩
theorem Box6.new (w : World) (b : Bi) (t : TypeId) : Box6 (w.alloc (.cells #[.int .i64 b.n, .int .i64 b.t, .slice b.Ap b.P.length b.cp, .slice b.Ao b.O.length b.co, .slice b.Ae b.E.length b.ce, .slice b.Af b.F.length b.cf] t)) w.heap.size b := ⟨by simp, by simp [go_sem], by simp [go_sem], by simp [go_sem], by simp [go_sem], by simp [go_sem], by simp [go_sem]⟩

set_option maxHeartbeats 400000 in
theorem symbolsOf_any (b : Bi) (w : World) :
    Calls Tryd.prog 71 #[(.agg #[.int .i64 b.n, .int .i64 b.t, .slice b.Ap b.P.length b.cp, .slice b.Ao b.O.length b.co, .slice b.Ae b.E.length b.ce, .slice b.Af b.F.length b.cf])] w fun e w' => e = .returned (.agg #[.int .i64 b.n, .int .i64 b.t, .slice none 0 0]) ∧ Below w.heap.size w w' := by
  go_enter Tryd.func71, Tryd.ntmps71
  go_wp2
  exact bodyPost_ret (v := .agg #[.int .i64 b.n, .int .i64 b.t, .slice none 0 0]) (by simp [results, Tryd.results71, go_sem]) rfl ⟨rfl, by go_grown⟩

set_option maxRecDepth 20000 in
set_option maxHeartbeats 1000000 in
theorem implGoodB_any (b : Bi) (w : World) (hx : ReadB w w.heap.size b) (hL : Lims w) (hm : LenB 1048576 b) (hf : FitB b.say) :
    Calls Tryd.prog 33 #[(.agg #[.int .i64 b.n, .int .i64 b.t, .slice b.Ap b.P.length b.cp, .slice b.Ao b.O.length b.co, .slice b.Ae b.E.length b.ce, .slice b.Af b.F.length b.cf])] w fun e w' => e = .returned (.bool (bP (GoodBs b.say))) ∧ Below w.heap.size w w' := by
  have HX := Lib.hid hx; clear hx
  have HL := Lib.hid hL; clear hL
  have HM := Lib.hid hm; clear hm
  have HF := Lib.hid hf; clear hf
  have hB0 : Below w.heap.size w (w.alloc (.cells #[.int .i64 b.n, .int .i64 b.t, .slice b.Ap b.P.length b.cp, .slice b.Ao b.O.length b.co, .slice b.Ae b.E.length b.ce, .slice b.Af b.F.length b.cf] 45)) := by go_grown
  have BX0 := Box6.new w b 45
  go_enter Tryd.func33, Tryd.ntmps33
  go_wp2_with fail
  generalize (w.alloc (.cells #[.int .i64 b.n, .int .i64 b.t, .slice b.Ap b.P.length b.cp, .slice b.Ao b.O.length b.co, .slice b.Ae b.E.length b.ce, .slice b.Af b.F.length b.cf] 45)) = W at hB0 BX0 ⊢
  have HB0 := Lib.hid hB0; clear hB0
  have HBX0 := Lib.hid BX0; clear BX0
  refine (within5 _ _ (HL.out.keep HB0.out (Nat.le_refl _))).mono ?_
  rintro e w1 ⟨rfl, hB1⟩
  have HBX1 := Lib.hid (HBX0.out.keep hB1 HBX0.out.1)
  have HB1 := Lib.hid (HB0.out.trans (hB1.mono HB0.out.size)); clear hB1 HBX0 HB0
  obtain ⟨_, b0, b1, b2, b3, b4, b5⟩ := HBX1.out
  cases hn : inB 1 40 b.n
  · have HE : Hid (bP (GoodBs b.say) = false) := bP_f fun h => inB_not hn h.1
    go_wp2
    go_ret
    exact ⟨ret_b HE.out.symm, HB1.out⟩
  have HN := Lib.hid (inB_and hn); clear hn
  go_wp2_with fail
  refine (within1 _ _ (HL.out.keep HB1.out (Nat.le_refl _))).mono ?_
  rintro e w2 ⟨rfl, hB2⟩
  have HBX2 := Lib.hid (HBX1.out.keep hB2 HBX1.out.1)
  have HB2 := Lib.hid (HB1.out.trans (hB2.mono HB1.out.size)); clear hB2 HBX1 HB1 b0 b1 b2 b3 b4 b5
  obtain ⟨_, b0, b1, b2, b3, b4, b5⟩ := HBX2.out
  cases ht : inB 1 4 b.t
  · have HE : Hid (bP (GoodBs b.say) = false) := bP_f fun h => inB_not ht h.2.1
    go_wp2
    go_ret
    exact ⟨ret_b HE.out.symm, HB2.out⟩
  have HT := Lib.hid (inB_and ht); clear ht
  go_wp2_with fail
  refine (symbolsOf_any _ _).mono ?_
  rintro e w3 ⟨rfl, hB3⟩
  have HBX3 := Lib.hid (HBX2.out.keep hB3 HBX2.out.1)
  have HB3 := Lib.hid (HB2.out.trans (hB3.mono HB2.out.size)); clear hB3 HBX2 HB2 b0 b1 b2 b3 b4 b5
  obtain ⟨_, b0, b1, b2, b3, b4, b5⟩ := HBX3.out
  go_wp2_with fail
  have hB4 : Below w3.heap.size w3 (w3.alloc (.cells #[.int .i64 b.n, .int .i64 b.t, .slice none 0 0] 32)) := by go_grown
  have BG4 : Box3 (w3.alloc (.cells #[.int .i64 b.n, .int .i64 b.t, .slice none 0 0] 32)) w3.heap.size (.int .i64 b.n) (.int .i64 b.t) (.slice none 0 0) := ⟨by simp, by simp [go_sem], by simp [go_sem], by simp [go_sem]⟩
  generalize (w3.alloc (.cells #[.int .i64 b.n, .int .i64 b.t, .slice none 0 0] 32)) = w4 at hB4 BG4 ⊢
  have HBG4 := Lib.hid BG4; clear BG4
  have HBX4 := Lib.hid (HBX3.out.keep hB4 HBX3.out.1)
  have HB4 := Lib.hid (HB3.out.trans (hB4.mono HB3.out.size)); clear hB4 HBX3 HB3 b0 b1 b2 b3 b4 b5
  refine (goodLists_any _ _ 3 (by omega) (by omega) _ _ _ _ ((HX.out.1.keep HB4.out).more HB4.out.size) HM.out.p HM.out.ps HF.out.1).mono ?_
  rintro e w5 ⟨rfl, hB5⟩
  have HBG5 := Lib.hid (HBG4.out.keep hB5 HBG4.out.1)
  have HBX5 := Lib.hid (HBX4.out.keep hB5 HBX4.out.1)
  have HB5 := Lib.hid (HB4.out.trans (hB5.mono HB4.out.size)); clear hB5 HBX4 HB4 HBG4
  obtain ⟨_, b0, b1, b2, b3, b4, b5⟩ := HBX5.out
  obtain ⟨_, y0, y1, y2⟩ := HBG5.out
  cases hP : bP (GoodLs b.n b.t (3 : Nat) (sayL b.P))
  · have HE : Hid (bP (GoodBs b.say) = false) := bP_f fun h => bP_no hP h.2.2.1
    go_wp2
    go_ret
    exact ⟨ret_b HE.out.symm, HB5.out⟩
  have HP := Lib.hid (bP_is hP); clear hP
  go_wp2_with fail
  clear b0 b1 b2 b3 b4 b5 y0 y1 y2
  refine (goodLists_any _ _ 2 (by omega) (by omega) _ _ _ _ ((HX.out.2.1.keep HB5.out).more HB5.out.size) HM.out.o HM.out.os HF.out.2.1).mono ?_
  rintro e w6 ⟨rfl, hB6⟩
  have HBG6 := Lib.hid (HBG5.out.keep hB6 HBG5.out.1)
  have HBX6 := Lib.hid (HBX5.out.keep hB6 HBX5.out.1)
  have HB6 := Lib.hid (HB5.out.trans (hB6.mono HB5.out.size)); clear hB6 HBX5 HB5 HBG5
  obtain ⟨_, b0, b1, b2, b3, b4, b5⟩ := HBX6.out
  obtain ⟨_, y0, y1, y2⟩ := HBG6.out
  cases hO : bP (GoodLs b.n b.t (2 : Nat) (sayL b.O))
  · have HE : Hid (bP (GoodBs b.say) = false) := bP_f fun h => bP_no hO h.2.2.2.1
    go_wp2
    go_ret
    exact ⟨ret_b HE.out.symm, HB6.out⟩
  have HO := Lib.hid (bP_is hO); clear hO
  go_wp2_with fail
  clear b0 b1 b2 b3 b4 b5 y0 y1 y2
  refine (goodEmpty_any _ _ _ _ _ _ ((HX.out.2.2.1.keep HB6.out).more HB6.out.size) HM.out.e).mono ?_
  rintro e w7 ⟨rfl, hB7⟩
  have HBG7 := Lib.hid (HBG6.out.keep hB7 HBG6.out.1)
  have HBX7 := Lib.hid (HBX6.out.keep hB7 HBX6.out.1)
  have HB7 := Lib.hid (HB6.out.trans (hB7.mono HB6.out.size)); clear hB7 HBX6 HB6 HBG6
  obtain ⟨_, b0, b1, b2, b3, b4, b5⟩ := HBX7.out
  obtain ⟨_, y0, y1, y2⟩ := HBG7.out
  cases hE : bP (GoodE b.n b.E)
  · have HE : Hid (bP (GoodBs b.say) = false) := bP_f fun h => bP_no hE h.2.2.2.2.1
    go_wp2
    go_ret
    exact ⟨ret_b HE.out.symm, HB7.out⟩
  have HE := Lib.hid (bP_is hE); clear hE
  have HFN : Hid ((sayL b.F).length = b.F.length) := sayL_len
  by_cases hfl : (b.F.length : Int) ≤ b.n
  · go_wp2_with fail
    refine (allLong_any _ _ _ _ _ ((HX.out.2.2.2.keep HB7.out).more HB7.out.size) HM.out.f).mono ?_
    rintro e w8 ⟨rfl, rfl⟩
    have HE : Hid (bP (GoodBs b.say) = bP (LongTo 2 (sayL b.F) b.F.length)) := bP_congr ⟨fun h => by have := h.2.2.2.2.2.2; exact HFN.out ▸ this, fun h => ⟨HN.out, HT.out, HP.out, HO.out, HE.out, (by show ((sayL b.F).length : Int) ≤ b.n; rw [HFN.out]; exact hfl), (by show LongTo 2 (sayL b.F) (sayL b.F).length; rw [HFN.out]; exact h)⟩⟩
    go_wp2
    go_ret
    exact ⟨ret_b HE.out.symm, HB7.out⟩
  · have HE : Hid (bP (GoodBs b.say) = false) := bP_f fun h => hfl (by have : ((sayL b.F).length : Int) ≤ b.n := h.2.2.2.2.2.1; rw [HFN.out] at this; exact this)
    go_wp2
    go_ret
    exact ⟨ret_b HE.out.symm, HB7.out⟩

end Go.Proofs.YtjfhkcoiomokoaaDoor
