/- The program's fillerOf. Made by mk_fill.py. -/
import Derived.Test.YtfbpcdmpkbjifaaDoorC813
import Derived.Test.YtfbpcdmpkbjifaaDoorC809
import Derived.Test.YtfbpcdmpkbjifaaDoorC810
import Derived.Test.YtfbpcdmpkbjifaaDoorRows
import Derived.Test.YtfbpcdmpkbjifaaDoorC801
import Derived.ProofKit
import Derived.OpenShut
import Derived.Deep.Slices
import Derived.Lib.SmallJoins
import Derived.OpenVars
import Derived.Test.YtfbpcdmpkbjifaaDoorTie
import Derived.LaidMore
import Derived.Stop.Joined
import Derived.SevenTiedAt
import Derived.Test.YtfbpcdmpkbjifaaDoorC803
import Derived.Carry

namespace Go.Proofs.YtfbpcdmpkbjifaaDoor
open Go.RowKit

/-- What fillerOf gives. -/
def GaveFil (w : World) (b : Bi) (ws : List Int) (Aw : Option Addr) (cw : Nat) (e : Ending) (w' : World) : Prop :=
  Below w.heap.size w w' ∧ ((bP (GoodBs b.say ∧ TokW b.t ws) = false ∧ e = .returned (.tuple #[.pointer none, .bool false])) ∨
  (bP (GoodBs b.say ∧ TokW b.t ws) = true ∧ ∃ F N, w.heap.size ≤ F ∧ e = .returned (.tuple #[.pointer (some ⟨F, 0, none⟩), .bool true]) ∧ IsLeast wayNull noS (bRules b.say.P b.say.O b.say.E) N ∧ FilC w' F b (tabF (DirB N b.say.P b.say.O)) Aw ws.length cw))

set_option maxRecDepth 20000 in
set_option linter.unusedSimpArgs false in
set_option maxHeartbeats 2000000 in
theorem fillerOf_any (b : Bi) (Aw : Option Addr) (ws : List Int) (cw : Nat) (w : World) (hx : ReadB w w.heap.size b) (hL : Lims w) (hm : LenB 1048576 b) (ht : b.P.length + b.O.length + b.E.length ≤ 1048576) (hf : FitB b.say) (hw : Ints w w.heap.size Aw ws) (hwl : ws.length ≤ 1048576) :
    Calls Tryd.prog 93 #[(.agg #[.int .i64 b.n, .int .i64 b.t, .slice b.Ap b.P.length b.cp, .slice b.Ao b.O.length b.co, .slice b.Ae b.E.length b.ce, .slice b.Af b.F.length b.cf]), .slice Aw ws.length cw] w (GaveFil w b ws Aw cw) := by
  have HX := Lib.hid hx; clear hx
  have HL := Lib.hid hL; clear hL
  have HF := Lib.hid hf; clear hf
  have HM := Lib.hid hm; clear hm
  have HW := Lib.hid hw; clear hw
  have HB0 : Hid (Below w.heap.size w (w.alloc (.cells #[.int .i64 b.n, .int .i64 b.t, .slice b.Ap b.P.length b.cp, .slice b.Ao b.O.length b.co, .slice b.Ae b.E.length b.ce, .slice b.Af b.F.length b.cf] 55))) := by show Below _ _ _; go_grown
  have B0 := Lib.hid (Box6.new w b 55)
  have HC := Lib.hid (implGoodB_any b (w.alloc (.cells #[.int .i64 b.n, .int .i64 b.t, .slice b.Ap b.P.length b.cp, .slice b.Ao b.O.length b.co, .slice b.Ae b.E.length b.ce, .slice b.Af b.F.length b.cf] 55)) ((HX.out.keep HB0.out).more HB0.out.size) (HL.out.keep HB0.out (Nat.le_refl _)) HM.out HF.out)
  go_enter Tryd.func93, Tryd.ntmps93
  go_wp2_with fail
  refine HC.out.mono ?_
  rintro e w1 ⟨rfl, hB1⟩
  have B1 := Lib.hid (B0.out.keep hB1 B0.out.1)
  have HB1 := Lib.hid (HB0.out.trans (hB1.mono HB0.out.size)); clear hB1
  clear B0 HB0 HC
  obtain ⟨_, b0, b1, b2, b3, b4, b5⟩ := B1.out
  cases hg : bP (GoodBs b.say)
  · have HG : Hid (bP (GoodBs b.say ∧ TokW b.t ws) = false) := bP_f fun h => bP_no hg h.1
    clear hg
    go_wp2
    go_ret2
    exact ⟨HB1.out, .inl ⟨HG.out, rfl⟩⟩
  have HGB : Hid (GoodBs b.say) := bP_is hg
  clear hg
  go_wp2_with fail
  refine (symbolsOf_any b w1).mono ?_
  rintro e w2 ⟨rfl, hB2⟩
  have hs1 := HB1.out.size
  have B2 := Lib.hid (B1.out.keep hB2 B1.out.1)
  have HB2 := Lib.hid (HB1.out.trans (hB2.mono hs1)); clear hB2
  clear B1 HB1 b0 b1 b2 b3 b4 b5
  have hs2 := HB2.out.size
  go_wp2_with fail
  refine (goodTokens_any b.n b.t Aw ws cw w2 ((HW.out.keep HB2.out).more hs2) hwl (HL.out.keep HB2.out (Nat.le_refl _))).mono ?_
  rintro e w3 ⟨rfl, hB3⟩
  have B3 := Lib.hid (B2.out.keep hB3 B2.out.1)
  have HB3 := Lib.hid (HB2.out.trans (hB3.mono hs2)); clear hB3
  clear B2 HB2
  have hs3 := HB3.out.size
  cases hg : bP (TokW b.t ws)
  · have HG : Hid (bP (GoodBs b.say ∧ TokW b.t ws) = false) := bP_f fun h => bP_no hg h.2
    clear hg
    go_wp2
    go_ret2
    exact ⟨HB3.out, .inl ⟨HG.out, rfl⟩⟩
  have HG : Hid (bP (GoodBs b.say ∧ TokW b.t ws) = true) := bP_t ⟨HGB.out, bP_is hg⟩
  clear hg
  have HSK : Hid (∀ V, Below w3.heap.size w3 V → V.cell? ⟨w.heap.size, 0, none⟩ = some (.int .i64 b.n) ∧ V.cell? ⟨w.heap.size, 1, none⟩ = some (.int .i64 b.t) ∧ V.cell? ⟨w.heap.size, 2, none⟩ = some (.slice b.Ap b.P.length b.cp) ∧ V.cell? ⟨w.heap.size, 3, none⟩ = some (.slice b.Ao b.O.length b.co) ∧ V.cell? ⟨w.heap.size, 4, none⟩ = some (.slice b.Ae b.E.length b.ce) ∧ V.cell? ⟨w.heap.size, 5, none⟩ = some (.slice b.Af b.F.length b.cf)) := fun V hV => (B3.out.keep hV B3.out.1).2
  have HDR : Hid (Below w3.heap.size w3 w3.drew) := by show Below _ _ _; go_grown
  go_wp2_with fail
  refine wp_region_held_drew (S := fun w' => w'.cell? ⟨w.heap.size, 0, none⟩ = some (.int .i64 b.n) ∧ w'.cell? ⟨w.heap.size, 1, none⟩ = some (.int .i64 b.t) ∧ w'.cell? ⟨w.heap.size, 2, none⟩ = some (.slice b.Ap b.P.length b.cp) ∧ w'.cell? ⟨w.heap.size, 3, none⟩ = some (.slice b.Ao b.O.length b.co) ∧ w'.cell? ⟨w.heap.size, 4, none⟩ = some (.slice b.Ae b.E.length b.ce) ∧ w'.cell? ⟨w.heap.size, 5, none⟩ = some (.slice b.Af b.F.length b.cf)) (by kernel_rfl) (HSK.out _ HDR.out) (fun hHeld => ?_)
  refine take_at (i := 0) (d := 16) (v := ?_) rfl rfl (by kernel_rfl) (by kernel_rfl) (by kernel_rfl) (fun _ _ _ h => h) (Or.inl ⟨by rfl, ?_⟩) (by assumption) ?_
  rotate_left
  · (intro wz hSw; (try dsimp only at hSw); go_simp; try rfl)
  try simp only [Act.put, List.setIfInBounds_toArray, List.set_cons_zero, List.set_cons_succ]
  refine take_at (i := 1) (d := 17) (v := ?_) rfl rfl (by kernel_rfl) (by kernel_rfl) (by kernel_rfl) (fun _ _ _ h => h) (Or.inl ⟨by rfl, ?_⟩) (by assumption) ?_
  rotate_left
  · (intro wz hSw; (try dsimp only at hSw); go_simp; try rfl)
  try simp only [Act.put, List.setIfInBounds_toArray, List.set_cons_zero, List.set_cons_succ]
  refine take_at (i := 2) (d := 18) (v := ?_) rfl rfl (by kernel_rfl) (by kernel_rfl) (by kernel_rfl) (fun _ _ _ h => h) (Or.inl ⟨by rfl, ?_⟩) (by assumption) ?_
  rotate_left
  · (intro wz hSw; (try dsimp only at hSw); go_simp; try rfl)
  try simp only [Act.put, List.setIfInBounds_toArray, List.set_cons_zero, List.set_cons_succ]
  refine take_at (i := 4) (d := 20) (v := ?_) rfl rfl (by kernel_rfl) (by kernel_rfl) (by kernel_rfl) (fun _ _ _ h => h) (Or.inl ⟨by rfl, ?_⟩) (by assumption) ?_
  rotate_left
  · (intro wz hSw; (try dsimp only at hSw); go_simp; try rfl)
  try simp only [Act.put, List.setIfInBounds_toArray, List.set_cons_zero, List.set_cons_succ]
  generalize w3.drew = V0 at HDR hHeld ⊢
  refine wpAnyH_ready (rs := [3]) (by kernel_rfl) (by simp) (AllReadyH.cons rfl (fun K hK => ?_) AllReadyH.nil)
  go_simp
  have HBV0 := Lib.hid (HB3.out.trans (HDR.out.mono hs3))
  refine (directRows_any b V0 ((HX.out.keep HBV0.out).more HBV0.out.size) HM.out ht HF.out HGB.out).mono ?_
  rintro e V1 ⟨N, rfl, hN, hB4⟩
  have HN := Lib.hid hN; clear hN
  have HV1 := Lib.hid (HDR.out.trans (hB4.mono HDR.out.size))
  refine hK.out _ _ (HSK.out _ HV1.out) (fun hHeld => ?_)
  clear hK K hB4
  try simp only [Act.put, List.setIfInBounds_toArray, List.set_cons_zero, List.set_cons_succ]
  generalize hT0 : tabF (DirB N b.say.P b.say.O) = T
  have HT0 := Lib.hid hT0; clear hT0
  obtain ⟨cs, hrun, q0, q1, q2⟩ := build_fil (.slice b.Ap b.P.length b.cp) (.slice Aw ws.length cw) T rfl rfl V1
  have HQ : Hid (cs[0]? = some (.slice b.Ap b.P.length b.cp) ∧ (∀ j v, (tabA T)[j]? = some v → cs[1 + j]? = some v) ∧ cs[1761]? = some (.slice Aw ws.length cw)) := ⟨q0, q1, q2⟩
  clear q0 q1 q2
  refine wpAnyH_ready (rs := [5]) (by kernel_rfl) (by simp) (AllReadyH.cons rfl (fun K hK => step_ran rfl (v := .agg cs) (w' := V1) ?_ (hK.out _ _ (HSK.out _ HV1.out) (fun hHeld => ?_))) AllReadyH.nil)
  · have hr2 := hrun
    simp [execOp, Act.eval] at hr2 ⊢
    rw [hr2]
    rfl
  clear hrun
  try simp only [Act.put, List.setIfInBounds_toArray, List.set_cons_zero, List.set_cons_succ]
  have HV2 : Hid (Below w3.heap.size w3 (V1.alloc (.cells cs 155))) := HV1.out.alloc HV1.out.size _
  have HRW : Hid (Row (V1.alloc (.cells cs 155)) V1.heap.size 155 cs) := Row.new _ _ _
  refine wpAnyH_ready (rs := [6]) (by kernel_rfl) (by simp) (AllReadyH.cons rfl (fun K hK => step_ran rfl (v := .pointer (some ⟨V1.heap.size, 0, none⟩)) (w' := V1.alloc (.cells cs 155)) (by simp [execOp, Act.eval, Instr.box, Result.andThen, newVar, newRow, Value.cells]) (hK.out _ _ (HSK.out _ HV2.out) (fun hHeld => ?_))) AllReadyH.nil)
  try simp only [Act.put, List.setIfInBounds_toArray, List.set_cons_zero, List.set_cons_succ]
  have HFV : Hid (w.heap.size ≤ V1.heap.size) := Nat.le_trans hs3 HV1.out.size
  generalize V1.alloc (.cells cs 155) = V2 at HV2 HRW hHeld ⊢
  generalize V1.heap.size = F at HRW HFV ⊢
  refine take_at (i := 7) (d := 4) (v := ?_) rfl rfl (by kernel_rfl) (by kernel_rfl) (by kernel_rfl) (fun _ _ _ h => h) (Or.inl ⟨by rfl, ?_⟩) (by assumption) ?_
  rotate_left
  · (intro wz hSw; (try dsimp only at hSw); go_simp; try rfl)
  try simp only [Act.put, List.setIfInBounds_toArray, List.set_cons_zero, List.set_cons_succ]
  refine take_at (i := 8) (d := 5) (v := ?_) rfl rfl (by kernel_rfl) (by kernel_rfl) (by kernel_rfl) (fun _ _ _ h => h) (Or.inl ⟨by rfl, ?_⟩) (by assumption) ?_
  rotate_left
  · (intro wz hSw; (try dsimp only at hSw); go_simp; try rfl)
  try simp only [Act.put, List.setIfInBounds_toArray, List.set_cons_zero, List.set_cons_succ]
  refine wpAnyH_done (by kernel_rfl) ?_ _
  go_simp
  go_wp2
  go_ret2
  refine ⟨HB3.out.trans (HV2.out.mono hs3), .inr ⟨HG.out, F, N, HFV.out, rfl, HN.out, ?_, ?_, ?_⟩⟩
  · rw [HRW.out.cell]; exact HQ.out.1
  · rw [HT0.out]; exact tab_cells HRW.out HQ.out.2.1
  · rw [HRW.out.cell]; exact HQ.out.2.2

end Go.Proofs.YtfbpcdmpkbjifaaDoor

/- The program's CellFor. -/

namespace Go.Proofs.YtfbpcdmpkbjifaaDoor
open Go.RowKit

set_option maxRecDepth 20000 in
set_option maxHeartbeats 2000000 in
theorem implCellFor_any (b : Bi) (n f t : Int) (A Aw : Option Addr) (ls : List Li) (ws : List Int) (c cw : Nat) (w : World) (hx : ReadB w w.heap.size b) (hL : Lims w) (hm : LenB 1048576 b) (ht : b.P.length + b.O.length + b.E.length ≤ 1048576) (hf : FitB b.say) (hl : Lls w w.heap.size A ls) (h1 : ls.length ≤ 1048576) (h2 : ∀ u ∈ ls, u.r.length ≤ 1048576) (hw : Ints w w.heap.size Aw ws) (hwl : ws.length ≤ 1048576) :
    Calls Tryd.prog 38 #[(.agg #[.int .i64 b.n, .int .i64 b.t, .slice b.Ap b.P.length b.cp, .slice b.Ao b.O.length b.co, .slice b.Ae b.E.length b.ce, .slice b.Af b.F.length b.cf]), .agg #[.int .i64 n, .slice A ls.length c], .slice Aw ws.length cw, .int .i64 f, .int .i64 t] w (GaveP w (bP (OkF b.say n (sayL ls) ws f t)) (PUp b.say (cellBase b.say ws (sayL ls) f t))) := by
  have HX := Lib.hid hx; clear hx
  have HL := Lib.hid hL; clear hL
  have HF := Lib.hid hf; clear hf
  have HM := Lib.hid hm; clear hm
  have HC := Lib.hid hl; clear hl
  have HU := Lib.hid h2; clear h2
  have HW := Lib.hid hw; clear hw
  have hB0 : Below w.heap.size w ((w.alloc (.cells #[.int .i64 b.n, .int .i64 b.t, .slice b.Ap b.P.length b.cp, .slice b.Ao b.O.length b.co, .slice b.Ae b.E.length b.ce, .slice b.Af b.F.length b.cf] 55)).alloc (.cells #[.int .i64 n, .slice A ls.length c] 57)) := by go_grown
  have hR0 : Row ((w.alloc (.cells #[.int .i64 b.n, .int .i64 b.t, .slice b.Ap b.P.length b.cp, .slice b.Ao b.O.length b.co, .slice b.Ae b.E.length b.ce, .slice b.Af b.F.length b.cf] 55)).alloc (.cells #[.int .i64 n, .slice A ls.length c] 57)) (w.heap.size + 1) 57 #[.int .i64 n, .slice A ls.length c] := by
    have h := Row.new (w.alloc (.cells #[.int .i64 b.n, .int .i64 b.t, .slice b.Ap b.P.length b.cp, .slice b.Ao b.O.length b.co, .slice b.Ae b.E.length b.ce, .slice b.Af b.F.length b.cf] 55)) 57 #[.int .i64 n, .slice A ls.length c]
    simpa using h
  have B0 : Hid (Box6 ((w.alloc (.cells #[.int .i64 b.n, .int .i64 b.t, .slice b.Ap b.P.length b.cp, .slice b.Ao b.O.length b.co, .slice b.Ae b.E.length b.ce, .slice b.Af b.F.length b.cf] 55)).alloc (.cells #[.int .i64 n, .slice A ls.length c] 57)) w.heap.size b) := (Box6.new w b 55).keep ((Below.refl _ _).alloc (Nat.le_refl _) _) (by simp)
  have HB0 := Lib.hid hB0; clear hB0
  have HR0 := Lib.hid hR0; clear hR0
  have hs0 := HB0.out.size
  obtain ⟨_, b0, b1, b2, b3, b4, b5⟩ := B0.out
  go_enter Tryd.func38, Tryd.ntmps38
  go_wp2_with fail
  generalize ((w.alloc (.cells #[.int .i64 b.n, .int .i64 b.t, .slice b.Ap b.P.length b.cp, .slice b.Ao b.O.length b.co, .slice b.Ae b.E.length b.ce, .slice b.Af b.F.length b.cf] 55)).alloc (.cells #[.int .i64 n, .slice A ls.length c] 57)) = W at HB0 HR0 hs0 B0 b0 b1 b2 b3 b4 b5 ⊢
  refine (fillerOf_any b Aw ws cw W ((HX.out.keep HB0.out).more hs0) (HL.out.keep HB0.out (Nat.le_refl _)) HM.out ht HF.out ((HW.out.keep HB0.out).more hs0) hwl).mono ?_
  rintro e w1 ⟨hB1, ⟨hg, rfl⟩ | ⟨hg, F, N, hFl, rfl, hN, hFC⟩⟩
  · have HE : Hid (bP (OkF b.say n (sayL ls) ws f t) = false) := bP_f fun h => bP_no hg h.1
    have HB1 := Lib.hid (HB0.out.trans (hB1.mono hs0)); clear hB1 hg
    go_wp2
    go_ret2
    exact gaveP_none HE.out HB1.out
  have HG : Hid (GoodBs b.say ∧ TokW b.t ws) := bP_is hg
  clear hg
  have HR1 := Lib.hid (HR0.out.below hB1 HR0.out.lt)
  have HB1 := Lib.hid (HB0.out.trans (hB1.mono hs0)); clear hB1
  have HN := Lib.hid hN; clear hN
  have HFC1 := Lib.hid hFC; clear hFC
  have HFL := Lib.hid hFl; clear hFl
  clear B0 HB0 HR0 b0 b1 b2 b3 b4 b5
  have hs1 := HB1.out.size
  have d0 := HR1.out.cell 0
  have d1 := HR1.out.cell 1
  simp only [List.getElem?_toArray, List.getElem?_cons_succ, List.getElem?_cons_zero] at d0 d1
  go_wp2_with fail
  refine (goodChart_any n A ls c w1 ((HC.out.keep HB1.out).more hs1) h1 HU.out (HL.out.keep HB1.out (Nat.le_refl _))).mono ?_
  rintro e w2 ⟨rfl, hB2⟩
  have HR2 := Lib.hid (HR1.out.below hB2 HR1.out.lt)
  have HFC2 := Lib.hid (HFC1.out.keep hB2 HFC1.out.2.1.1)
  have HB2 := Lib.hid (HB1.out.trans (hB2.mono hs1)); clear hB2
  clear HB1 HR1 HFC1 d0 d1
  have hs2 := HB2.out.size
  have d0 := HR2.out.cell 0
  have d1 := HR2.out.cell 1
  simp only [List.getElem?_toArray, List.getElem?_cons_succ, List.getElem?_cons_zero] at d0 d1
  cases hg : bP (GoodC n (sayL ls))
  · have HE : Hid (bP (OkF b.say n (sayL ls) ws f t) = false) := bP_f fun h => bP_no hg h.2.1
    clear hg
    go_wp2
    go_ret2
    exact gaveP_none HE.out HB2.out
  have HGC : Hid (GoodC n (sayL ls)) := bP_is hg
  clear hg
  by_cases hn : n = ws.length
  · have HNN := Lib.hid hn
    have en := bne_f hn
    clear hn
    go_wp2_with fail
    refine (isCell_any n f t w2 (HL.out.keep HB2.out (Nat.le_refl _))).mono ?_
    rintro e w3 ⟨rfl, hB3⟩
    have HR3 := Lib.hid (HR2.out.below hB3 HR2.out.lt)
    have HFC3 := Lib.hid (HFC2.out.keep hB3 HFC2.out.2.1.1)
    have HB3 := Lib.hid (HB2.out.trans (hB3.mono hs2)); clear hB3
    clear HB2 HR2 HFC2 d0 d1
    have hs3 := HB3.out.size
    have d0 := HR3.out.cell 0
    have d1 := HR3.out.cell 1
    simp only [List.getElem?_toArray, List.getElem?_cons_succ, List.getElem?_cons_zero] at d0 d1
    cases hg : spanB n f t
    · have HE : Hid (bP (OkF b.say n (sayL ls) ws f t) = false) := bP_f fun h => by rw [h.2.2.2] at hg; cases hg
      clear hg
      go_wp2
      go_ret2
      exact gaveP_none HE.out HB3.out
    have HE : Hid (bP (OkF b.say n (sayL ls) ws f t) = true) := bP_t ⟨HG.out, HGC.out, HNN.out, hg⟩
    go_wp2_with fail
    refine (cell_any F b N n f t A Aw ls ws c cw w3 HFC3.out ((HX.out.keep HB3.out).more hs3) HG.out.1 HM.out HNN.out ((HC.out.keep HB3.out).more hs3) HGC.out ((HW.out.keep HB3.out).more hs3) HG.out.2 hg).mono ?_
    rintro e w4 ⟨S, hfS, hU, A4, c4, rfl, _, hO4, hB4⟩
    have HFS := Lib.hid hfS; clear hfS
    have HU4 : Hid (PUp b.say (cellBase b.say ws (sayL ls) f t) S) := ⟨N, HN.out, hU⟩
    clear hU
    have HO4 := Lib.hid (hO4.lower hs3); clear hO4
    have HB4 := Lib.hid (HB3.out.trans (hB4.mono hs3)); clear hB4
    go_wp2
    go_ret2
    exact gaveP_some HE.out HU4.out HFS.out HO4.out HB4.out
  · have HE : Hid (bP (OkF b.say n (sayL ls) ws f t) = false) := bP_f fun h => hn h.2.2.1
    have en := bne_t hn
    clear hn
    go_wp2
    go_ret2
    exact gaveP_none HE.out HB2.out

end Go.Proofs.YtfbpcdmpkbjifaaDoor

/- From the reading of an argument to its cells: a slice of numbers, a grammar. -/

namespace Go.Proofs.YtfbpcdmpkbjifaaDoor
open Go.ChangeShapes Go.WideShapes Go.ChangeAt Go.RowKit Go.Deep Go.Joins

theorem Tryd.cellsInt : Tryd.prog.cellsOf 3 = 1 := by kernel_rfl
theorem Tryd.cellsIntS : Tryd.prog.cellsOf 22 = 1 := by kernel_rfl
theorem lt_of_cell {w : World} {b o : Nat} {v : Value} (h : w.cell? ⟨b, o, none⟩ = some v) : b < w.heap.size := by
  by_cases hg : b < w.heap.size
  · exact hg
  · simp only [World.cell?] at h
    rw [Array.getElem?_eq_none (by omega)] at h
    cases h

section
variable {H : Type} {enc : TypeId × Value → H} {W : World} {spare : Nat → Bool} {held : Bool}

theorem open_intS {fuel : Nat} {v : Value} {y : DataW H × List MemPlace} (h : DataW.trod enc Tryd.prog W 0 spare held fuel 22 [v] = some y) :
    ∃ (A : Option Addr) (xs : List Int) (c : Nat), v = .slice A xs.length c ∧ xs.length ≤ c ∧ Ints W W.heap.size A xs ∧ xs.length ≤ maxLen ∧ ∀ x ∈ xs, F64 x := by
  rcases open_ints Tryd.underlying22 Tryd.underlying3 Tryd.cellsInt h with ⟨hcs, _⟩ | ⟨a, len, cap, zs, hcs, _, hl, hm, hz, _, hcell, hwf⟩
  · injection hcs with hcs
    subst hcs
    exact ⟨none, [], 0, rfl, Nat.le_refl _, fun h => by simp at h, by simp [maxLen], fun x hx => by simp at hx⟩
  · injection hcs with hcs
    subst hcs
    have hlz : len ≤ zs.length := by rw [hz]; split <;> omega
    have hlen : (zs.take len).length = len := by rw [List.length_take]; omega
    refine ⟨some a, zs.take len, cap, by rw [hlen], by omega, fun hp => ?_, by omega, fun x hx => ?_⟩
    · obtain ⟨b, off, rfl, hc⟩ := ints_at hcell (by omega)
      refine ⟨b, off, rfl, lt_of_cell (hc 0 (by omega)), fun k x hx => ?_⟩
      have hk := (List.getElem?_eq_some_iff.1 hx).1
      rw [List.getElem?_take] at hx
      split at hx
      · rw [hc k (by omega), List.getD_eq_getElem?_getD, hx]; rfl
      · cases hx
    · have := hwf x (List.mem_of_mem_take hx)
      exact bounds_i64 this

instance : Inhabited Ru := ⟨⟨0, none, [], 0⟩⟩

end

end Go.Proofs.YtfbpcdmpkbjifaaDoor

/- A law's end: it returned true, and nothing that was there has turned. -/

namespace Go.Proofs.YtfbpcdmpkbjifaaDoor
open Go.ChangeShapes Go.WideShapes Go.ChangeAt Go.RowKit
set_option maxRecDepth 100000

theorem Tryd.own : ownKnob Tryd.prog.godebug = none := by kernel_rfl
theorem Tryd.laidOut : laidOutB Tryd.prog = true := by kernel_rfl

/-- A law's end, one argument: it returned true, and nothing that was there has turned. -/
theorem ends_one {H : Type} {enc : TypeId × Value → H} {f : Func} {s : ChangeSpec} {W W' : World} {v0 : Value} {d0 : DataW H} {gs : List (DataW H)} {before : List MemPlace} {t0 : TypeId}
    (hW : DataW.Whole enc Tryd.prog f.params.toList s.vars false W [v0] [d0] gs before) (hp : f.params = #[t0]) (hr : f.resultTypes = #[4])
    (hfn : s.fn H ([d0] ++ gs) = { results := [.lit (.bool true)], args := [d0], vars := gs })
    (ht : Tryd.prog.readableRec t0 = true) (hs : t0 < Tryd.prog.types.size) (hv : varsRowed Tryd.prog s.vars = true) (hb : Below W.heap.size W W') :
    s.post enc Tryd.prog f false true false false W #[v0] (.bool true) W' := by
  have hlt : ∀ x ∈ before, x.block < W.heap.size := fun x hx => hW.lt x hx
  have hW' := hW
  obtain ⟨p, q, hA, hV, rfl, _, _⟩ := hW
  rw [hp] at hA
  obtain ⟨v, d, e1, e2, h0⟩ := trodAll_one hA
  have ev : v0 = v := by simpa using e1
  have ed : d0 = d := by simpa using e2
  subst ev ed
  refine ⟨[d0], gs, p ++ q, [], p, q, hW', ?_, ?_, ?_, hb.frame _, fun h => by cases h⟩
  · rw [hfn, hr]
    exact trodAll_mk1 (shut_bool Tryd.underlying4 true)
  · rw [hfn, hp]
    exact trodAll_mk1 (hb.trod Tryd.laidOut ht hs h0 (fun x hx => hlt x (List.mem_append_left _ hx)))
  · rw [hfn]
    exact hb.trodVars Tryd.laidOut hv hV

theorem open_intS' {H : Type} {enc : TypeId × Value → H} {W : World} {spare : Nat → Bool} {held : Bool} {r : Reach} {b0 : Nat} {v : Value} {d : DataW H} {p : List MemPlace} (hv : Value.okWide Tryd.prog W r b0 22 v) (h : DataW.Trod enc Tryd.prog W 0 spare held 22 v d p) :
    ∃ (A : Option Addr) (xs : List Int) (c : Nat), v = .slice A xs.length c ∧ xs.length ≤ c ∧ Ints W W.heap.size A xs ∧ xs.length ≤ maxLen ∧ ∀ x ∈ xs, F64 x := by
  obtain ⟨a0, len, cap, rfl⟩ := okWide_slice Tryd.underlying22 hv
  obtain ⟨fuel, hf⟩ := h
  exact open_intS (by simpa [Value.cells] using hf)

/-- A law's end, two arguments: it returned true, and nothing that was there has turned. -/
theorem ends_two {H : Type} {enc : TypeId × Value → H} {f : Func} {s : ChangeSpec} {W W' : World} {v0 v1 : Value} {d0 d1 : DataW H} {gs : List (DataW H)} {before : List MemPlace} {t0 t1 : TypeId}
    (hW : DataW.Whole enc Tryd.prog f.params.toList s.vars false W [v0, v1] [d0, d1] gs before) (hp : f.params = #[t0, t1]) (hr : f.resultTypes = #[4])
    (hfn : s.fn H ([d0, d1] ++ gs) = { results := [.lit (.bool true)], args := [d0, d1], vars := gs })
    (ht : Tryd.prog.readableRec t0 = true) (hs : t0 < Tryd.prog.types.size) (ht1 : Tryd.prog.readableRec t1 = true) (hs1 : t1 < Tryd.prog.types.size) (hv : varsRowed Tryd.prog s.vars = true) (hb : Below W.heap.size W W') :
    s.post enc Tryd.prog f false true false false W #[v0, v1] (.bool true) W' := by
  have hlt : ∀ x ∈ before, x.block < W.heap.size := fun x hx => hW.lt x hx
  have hW' := hW
  obtain ⟨p, q, hA, hV, rfl, _, _⟩ := hW
  rw [hp] at hA
  obtain ⟨v, v', d, d', p0, p1, e1, e2, e3, h0, h1⟩ := trodAll_two hA
  have ev : v0 = v ∧ v1 = v' := by simpa using e1
  have ed : d0 = d ∧ d1 = d' := by simpa using e2
  obtain ⟨rfl, rfl⟩ := ev
  obtain ⟨rfl, rfl⟩ := ed
  subst e3
  refine ⟨[d0, d1], gs, p0 ++ p1 ++ q, [], p0 ++ p1, q, hW', ?_, ?_, ?_, hb.frame _, fun h => by cases h⟩
  · rw [hfn, hr]
    exact trodAll_mk1 (shut_bool Tryd.underlying4 true)
  · rw [hfn, hp]
    exact trodAll_mk2 (hb.trod Tryd.laidOut ht hs h0 (fun x hx => hlt x (by simp [hx]))) (hb.trod Tryd.laidOut ht1 hs1 h1 (fun x hx => hlt x (by simp [hx])))
  · rw [hfn]
    exact hb.trodVars Tryd.laidOut hv hV

end Go.Proofs.YtfbpcdmpkbjifaaDoor

/- What the rows of this seat share: the table of limits out of the row's condition, and a law's end. -/

namespace Go.Proofs.YtfbpcdmpkbjifaaDoor
open Go.ChangeShapes Go.WideShapes Go.ChangeAt Go.RowKit
set_option maxRecDepth 100000

theorem Tryd.gLim : Tryd.prog.globalNamed "loop.example/g00758/impl.limits" = some 0 := by kernel_rfl
theorem Tryd.tLim : (Tryd.prog.globals[0]?).map (·.type) = some 134 := by kernel_rfl
theorem Tryd.cLim : Tryd.prog.cellsOf 133 = 2 := by kernel_rfl
theorem Tryd.cLims : Tryd.prog.cellsOf 134 = 16 := by kernel_rfl

def laid1 : List (String × DataW Unit) := [("loop.example/g00758/impl.limits", Rows.laid_loop_example_g00758_impl_limits)]

/-- The door's own heap meets the condition. -/
theorem door_met (os : Os) (args : Array Value) : laidMetH Tryd.prog laid1 ((World.doorLaid Tryd.prog 400 os).forCall (fun _ _ => 0) ⟨#[], args, []⟩).memory :=
  laidMetH_of_parts3 (fuel := 8) (laidMet_of_run' 8 (by kernel_rfl) (by kernel_rfl)) (by kernel_rfl) (by kernel_rfl)

theorem pair_cells {H : Type} {enc : TypeId × Value → H} {W : World} {base : Nat} {sp : Nat → Bool} {held : Bool} {m : Nat} {q0 q1 : Value} {a b : Int} {ps : List MemPlace}
    (h : DataW.trod enc Tryd.prog W base sp held m 133 [q0, q1] = some (.agg [.lit (.int .i64 a), .lit (.int .i64 b)], ps)) : q0 = .int .i64 a ∧ q1 = .int .i64 b := by
  obtain ⟨y0, y1, n', hx, _, h0, h1⟩ := trod_struct2 Tryd.underlying133 h
  have e0 : DataW.trod enc Tryd.prog W base sp held n' 3 [q0] = some y0 := h0
  have e1 : DataW.trod enc Tryd.prog W base sp held n' 3 [q1] = some y1 := h1
  obtain ⟨l, el, ey, _⟩ := DataW.trod_int Tryd.underlying3 e0
  obtain ⟨l', el', ey', _⟩ := DataW.trod_int Tryd.underlying3 e1
  subst ey ey'
  simp only [Prod.mk.injEq, DataW.agg.injEq, List.cons.injEq, DataW.lit.injEq, Lit.int.injEq] at hx
  injection el with el
  injection el' with el'
  exact ⟨by rw [el, hx.1.1.2], by rw [el', hx.1.2.1.2]⟩

theorem lims_of_laid {W : World} (h : laidMetH Tryd.prog laid1 W) : Lims W := by
  rw [MakeChecks.laidMetH_plain _ _ _ (by kernel_rfl)] at h
  obtain ⟨ps, ⟨g, t, cs, f0, p0, q0, hg, ht, hv, hd, _, _⟩, _, _⟩ := h
  obtain rfl := Option.some.inj (Tryd.gLim.symm.trans hg)
  obtain rfl := Option.some.inj (Tryd.tLim.symm.trans ht)
  obtain ⟨xs, m, _, hx, hlen, hn, hel⟩ := DataW.trod_array Tryd.underlying134 hd
  rw [Tryd.cLims] at hlen
  rw [Tryd.cLim] at hel
  obtain ⟨l⟩ := cs
  match l, hlen, xs, hn with
  | [c0, c1, c2, c3, c4, c5, c6, c7, c8, c9, c10, c11, c12, c13, c14, c15], _, [x0, x1, x2, x3, x4, x5, x6, x7], _ =>
    simp only [Rows.laid_loop_example_g00758_impl_limits, Prod.mk.injEq, DataW.agg.injEq, List.map_cons, List.map_nil, List.cons.injEq] at hx
    obtain ⟨⟨e0, e1, e2, e3, e4, e5, e6, e7, _⟩, _⟩ := hx
    obtain ⟨x0, _⟩ := x0
    obtain ⟨x1, _⟩ := x1
    obtain ⟨x2, _⟩ := x2
    obtain ⟨x3, _⟩ := x3
    obtain ⟨x4, _⟩ := x4
    obtain ⟨x5, _⟩ := x5
    obtain ⟨x6, _⟩ := x6
    obtain ⟨x7, _⟩ := x7
    simp only at e0 e1 e2 e3 e4 e5 e6 e7
    subst e0 e1 e2 e3 e4 e5 e6 e7
    obtain ⟨rfl, rfl⟩ := pair_cells (hel 0 (by omega))
    obtain ⟨rfl, rfl⟩ := pair_cells (hel 1 (by omega))
    obtain ⟨rfl, rfl⟩ := pair_cells (hel 2 (by omega))
    obtain ⟨rfl, rfl⟩ := pair_cells (hel 3 (by omega))
    obtain ⟨rfl, rfl⟩ := pair_cells (hel 4 (by omega))
    obtain ⟨rfl, rfl⟩ := pair_cells (hel 5 (by omega))
    obtain ⟨rfl, rfl⟩ := pair_cells (hel 6 (by omega))
    obtain ⟨rfl, rfl⟩ := pair_cells (hel 7 (by omega))
    intro k v hk
    have hc := World.var?_cell hg hv k
    rw [hc]
    match k, hk with
    | 0, hk => simp [limL] at hk ⊢; exact hk
    | 1, hk => simp [limL] at hk ⊢; exact hk
    | 2, hk => simp [limL] at hk ⊢; exact hk
    | 3, hk => simp [limL] at hk ⊢; exact hk
    | 4, hk => simp [limL] at hk ⊢; exact hk
    | 5, hk => simp [limL] at hk ⊢; exact hk
    | 6, hk => simp [limL] at hk ⊢; exact hk
    | 7, hk => simp [limL] at hk ⊢; exact hk
    | 8, hk => simp [limL] at hk ⊢; exact hk
    | 9, hk => simp [limL] at hk ⊢; exact hk
    | 10, hk => simp [limL] at hk ⊢; exact hk
    | 11, hk => simp [limL] at hk ⊢; exact hk
    | 12, hk => simp [limL] at hk ⊢; exact hk
    | 13, hk => simp [limL] at hk ⊢; exact hk
    | 14, hk => simp [limL] at hk ⊢; exact hk
    | 15, hk => simp [limL] at hk ⊢; exact hk
    | k + 16, hk => simp [limL] at hk

end Go.Proofs.YtfbpcdmpkbjifaaDoor

/- What rows of two arguments share (all of it lies in Ends now). -/



/- From the reading of an argument to its cells: a slice of lists of numbers, a binary grammar. -/

namespace Go.Proofs.YtfbpcdmpkbjifaaDoor
open Go.ChangeShapes Go.WideShapes Go.ChangeAt Go.RowKit Go.Deep Go.Joins

theorem Tryd.cellsIntSS : Tryd.prog.cellsOf 39 = 1 := by kernel_rfl
theorem Tryd.cellsBinL : Tryd.prog.cellsOf 49 = 6 := by kernel_rfl

theorem array6 {α : Type} {cs : Array α} (h : cs.size = 6) : ∃ c0 c1 c2 c3 c4 c5, cs = #[c0, c1, c2, c3, c4, c5] := by
  obtain ⟨l⟩ := cs
  match l, h with
  | [c0, c1, c2, c3, c4, c5], _ => exact ⟨c0, c1, c2, c3, c4, c5, rfl⟩

instance : Inhabited Li := ⟨⟨none, [], 0⟩⟩

section
variable {H : Type} {enc : TypeId × Value → H} {W : World} {spare : Nat → Bool} {held : Bool}

set_option maxRecDepth 100000 in
theorem open_intSS {fuel : Nat} {v : Value} {y : DataW H × List MemPlace} (h : DataW.trod enc Tryd.prog W 0 spare held fuel 39 [v] = some y) :
    ∃ (A : Option Addr) (ls : List Li) (c : Nat), v = .slice A ls.length c ∧ ls.length ≤ c ∧ Lls W W.heap.size A ls ∧ ls.length ≤ maxLen ∧ (∀ u ∈ ls, u.r.length ≤ maxLen) ∧ FitL (sayL ls) := by
  rcases open_slice Tryd.underlying39 h with ⟨hcs, _⟩ | ⟨a, len, cap, m, n, D, Pl, hcs, _, hl, hm, hz, _, hel⟩
  · injection hcs with hcs
    subst hcs
    exact ⟨none, [], 0, rfl, Nat.le_refl _, fun h => by simp at h, by simp [maxLen], fun x hx => by simp at hx, fun x hx => by simp [sayL] at hx⟩
  · injection hcs with hcs
    subst hcs
    have hlm : len ≤ m := by rw [hz]; split <;> omega
    have each : ∀ i, i < len → ∃ u : Li, W.cell? (a.add i) = some (.slice u.a u.r.length u.c) ∧ u.r.length ≤ u.c ∧ Ints W W.heap.size u.a u.r ∧ u.r.length ≤ maxLen ∧ ∀ x ∈ u.r, F64 x := by
      intro i hi
      obtain ⟨cs', hc, ht⟩ := hel i (by omega)
      rw [Tryd.cellsIntS] at hc
      obtain ⟨_, hcl, hat⟩ := World.cells?_some hc
      match cs', hcl with
      | [q0], _ =>
        obtain ⟨A', xs, c', rfl, hxc, hI, hml, hF⟩ := open_intS ht
        exact ⟨⟨A', xs, c'⟩, by simpa [Addr.add] using hat 0 (by omega), hxc, hI, hml, hF⟩
    obtain ⟨f, hf⟩ := choose_lt each
    have hlen : ((List.range len).map f).length = len := by simp
    refine ⟨some a, (List.range len).map f, cap, by rw [hlen], by omega, fun hp => ?_, by omega, fun u hu => ?_, fun x hx => ?_⟩
    · obtain ⟨b, off, spot⟩ := a
      have hspot : spot = none := by simpa [Addr.add] using World.cell?_spot (hf 0 (by omega)).1
      subst hspot
      refine ⟨b, off, rfl, ?_, fun k u hu => ?_⟩
      · have := (hf 0 (by omega)).1
        exact lt_of_cell (b := b) (o := off) (by simpa [Addr.add] using this)
      · have hk := (List.getElem?_eq_some_iff.1 hu).1
        rw [hlen] at hk
        have hu' : f k = u := by simpa [hk] using hu
        subst hu'
        obtain ⟨h1, h2, h3, _, _⟩ := hf k hk
        rw [Go.WideShapes.add_plain] at h1
        exact ⟨h1, h2, h3⟩
    · obtain ⟨i, hi, rfl⟩ := List.mem_map.1 hu
      exact (hf i (List.mem_range.1 hi)).2.2.2.1
    · obtain ⟨u, hu, rfl⟩ := List.mem_map.1 hx
      obtain ⟨i, hi, rfl⟩ := List.mem_map.1 hu
      exact (hf i (List.mem_range.1 hi)).2.2.2.2

set_option maxRecDepth 100000 in
theorem open_binary {r : Reach} {b0 : Nat} {v : Value} {d : DataW H} {p : List MemPlace} (hv : Value.okWide Tryd.prog W r b0 49 v) (h : DataW.Trod enc Tryd.prog W 0 spare held 49 v d p) :
    ∃ b : Bi, v = (.agg #[.int .i64 b.n, .int .i64 b.t, .slice b.Ap b.P.length b.cp, .slice b.Ao b.O.length b.co, .slice b.Ae b.E.length b.ce, .slice b.Af b.F.length b.cf]) ∧ CapB b ∧ ReadB W W.heap.size b ∧ LenB maxLen b ∧ FitB b.say ∧ F64 b.n ∧ F64 b.t := by
  obtain ⟨cs, rfl, hsz⟩ := okWide_struct Tryd.underlying49 hv
  obtain ⟨c0, c1, c2, c3, c4, c5, rfl⟩ := array6 (hsz.trans Tryd.cellsBinL)
  obtain ⟨fuel, hf⟩ := h
  obtain ⟨xs, n, _, _, _, hlen, hfs⟩ := DataW.trod_struct Tryd.underlying49 hf
  match xs, hlen with
  | [y0, y1, y2, y3, y4, y5], _ =>
    have h0 : DataW.trod enc Tryd.prog W 0 spare held n 3 [c0] = some y0 := by simpa [Value.cells, Tryd.cellsInt, Tryd.cellsIntS, Tryd.cellsIntSS] using hfs 0 _ rfl
    have h1 : DataW.trod enc Tryd.prog W 0 spare held n 3 [c1] = some y1 := by simpa [Value.cells, Tryd.cellsInt, Tryd.cellsIntS, Tryd.cellsIntSS] using hfs 1 _ rfl
    have h2 : DataW.trod enc Tryd.prog W 0 spare held n 39 [c2] = some y2 := by simpa [Value.cells, Tryd.cellsInt, Tryd.cellsIntS, Tryd.cellsIntSS] using hfs 2 _ rfl
    have h3 : DataW.trod enc Tryd.prog W 0 spare held n 39 [c3] = some y3 := by simpa [Value.cells, Tryd.cellsInt, Tryd.cellsIntS, Tryd.cellsIntSS] using hfs 3 _ rfl
    have h4 : DataW.trod enc Tryd.prog W 0 spare held n 22 [c4] = some y4 := by simpa [Value.cells, Tryd.cellsInt, Tryd.cellsIntS, Tryd.cellsIntSS] using hfs 4 _ rfl
    have h5 : DataW.trod enc Tryd.prog W 0 spare held n 39 [c5] = some y5 := by simpa [Value.cells, Tryd.cellsInt, Tryd.cellsIntS, Tryd.cellsIntSS] using hfs 5 _ rfl
    obtain ⟨n, e0, _, w0⟩ := DataW.trod_int Tryd.underlying3 h0
    obtain ⟨t, e1, _, w1⟩ := DataW.trod_int Tryd.underlying3 h1
    injection e0 with e0
    injection e1 with e1
    subst e0 e1
    obtain ⟨Ap, P, cp, rfl, p1, p2, p3, p4, p5⟩ := open_intSS h2
    obtain ⟨Ao, O, co, rfl, o1, o2, o3, o4, o5⟩ := open_intSS h3
    obtain ⟨Ae, E, ce, rfl, i1, i2, i3, i4⟩ := open_intS h4
    obtain ⟨Af, F, cf, rfl, f1, f2, f3, f4, f5⟩ := open_intSS h5
    exact ⟨⟨n, t, Ap, P, cp, Ao, O, co, Ae, E, ce, Af, F, cf⟩, rfl, ⟨p1, o1, i1, f1⟩, ⟨p2, o2, i2, f2⟩, ⟨p3, p4, o3, o4, i3, f3, f4⟩, ⟨p5, o5, i4, f5⟩, bounds_i64 w0, bounds_i64 w1⟩
end

end Go.Proofs.YtfbpcdmpkbjifaaDoor

/- From the reading of an argument to its cells: a chart. -/

namespace Go.Proofs.YtfbpcdmpkbjifaaDoor
open Go.ChangeShapes Go.WideShapes Go.ChangeAt Go.RowKit Go.Deep Go.Joins

theorem Tryd.cellsChartL : Tryd.prog.cellsOf 51 = 2 := by kernel_rfl

section
variable {H : Type} {enc : TypeId × Value → H} {W : World} {spare : Nat → Bool} {held : Bool}

set_option maxRecDepth 100000 in
theorem open_chart {r : Reach} {b0 : Nat} {v : Value} {d : DataW H} {p : List MemPlace} (hv : Value.okWide Tryd.prog W r b0 51 v) (h : DataW.Trod enc Tryd.prog W 0 spare held 51 v d p) :
    ∃ (n : Int) (A : Option Addr) (ls : List Li) (c : Nat), v = .agg #[.int .i64 n, .slice A ls.length c] ∧ ls.length ≤ c ∧ Lls W W.heap.size A ls ∧ ls.length ≤ maxLen ∧ (∀ u ∈ ls, u.r.length ≤ maxLen) ∧ FitL (sayL ls) ∧ F64 n := by
  obtain ⟨v0, v1, y0, y1, m, rfl, _, _, h0, h1⟩ := open_agg2 Tryd.underlying51 (by kernel_rfl) Tryd.cellsChartL hv h
  obtain ⟨n, e0, _, w0⟩ := DataW.trod_int Tryd.underlying3 h0
  injection e0 with e0
  subst e0
  obtain ⟨A, ls, c, rfl, a1, a2, a3, a4, a5⟩ := open_intSS h1
  exact ⟨n, A, ls, c, rfl, a1, a2, a3, a4, a5, bounds_i64 w0⟩
end

end Go.Proofs.YtfbpcdmpkbjifaaDoor

/- A law's end, three arguments. -/

namespace Go.Proofs.YtfbpcdmpkbjifaaDoor
open Go.ChangeShapes Go.WideShapes Go.ChangeAt Go.RowKit

theorem ends_three {H : Type} {enc : TypeId × Value → H} {f : Func} {s : ChangeSpec} {W W' : World} {v0 v1 v2 : Value} {d0 d1 d2 : DataW H} {gs : List (DataW H)} {before : List MemPlace} {t0 t1 t2 : TypeId}
    (hW : DataW.Whole enc Tryd.prog f.params.toList s.vars false W [v0, v1, v2] [d0, d1, d2] gs before) (hp : f.params = #[t0, t1, t2]) (hr : f.resultTypes = #[4])
    (hfn : s.fn H ([d0, d1, d2] ++ gs) = { results := [.lit (.bool true)], args := [d0, d1, d2], vars := gs })
    (ht : Tryd.prog.readableRec t0 = true) (hs : t0 < Tryd.prog.types.size) (ht1 : Tryd.prog.readableRec t1 = true) (hs1 : t1 < Tryd.prog.types.size) (ht2 : Tryd.prog.readableRec t2 = true) (hs2 : t2 < Tryd.prog.types.size) (hv : varsRowed Tryd.prog s.vars = true) (hb : Below W.heap.size W W') :
    s.post enc Tryd.prog f false true false false W #[v0, v1, v2] (.bool true) W' := by
  have hlt : ∀ x ∈ before, x.block < W.heap.size := fun x hx => hW.lt x hx
  have hW' := hW
  obtain ⟨p, q, hA, hV, rfl, _, _⟩ := hW
  rw [hp] at hA
  obtain ⟨v, v', v'', d, d', d'', p0, p1, p2, e1, e2, e3, h0, h1, h2⟩ := trodAll_three hA
  have ev : v0 = v ∧ v1 = v' ∧ v2 = v'' := by simpa using e1
  have ed : d0 = d ∧ d1 = d' ∧ d2 = d'' := by simpa using e2
  obtain ⟨rfl, rfl, rfl⟩ := ev
  obtain ⟨rfl, rfl, rfl⟩ := ed
  subst e3
  refine ⟨[d0, d1, d2], gs, p0 ++ p1 ++ p2 ++ q, [], p0 ++ (p1 ++ p2), q, hW', ?_, ?_, ?_, hb.frame _, fun h => by cases h⟩
  · rw [hfn, hr]
    exact trodAll_mk1 (shut_bool Tryd.underlying4 true)
  · rw [hfn, hp]
    exact trodAll_mk3 (hb.trod Tryd.laidOut ht hs h0 (fun x hx => hlt x (by simp [hx]))) (hb.trod Tryd.laidOut ht1 hs1 h1 (fun x hx => hlt x (by simp [hx]))) (hb.trod Tryd.laidOut ht2 hs2 h2 (fun x hx => hlt x (by simp [hx])))
  · rw [hfn]
    exact hb.trodVars Tryd.laidOut hv hV

end Go.Proofs.YtfbpcdmpkbjifaaDoor

/- A law's end, four arguments. -/

namespace Go.Proofs.YtfbpcdmpkbjifaaDoor
open Go.ChangeShapes Go.WideShapes Go.ChangeAt Go.RowKit

theorem ends_four {H : Type} {enc : TypeId × Value → H} {f : Func} {s : ChangeSpec} {W W' : World} {v0 v1 v2 v3 : Value} {d0 d1 d2 d3 : DataW H} {gs : List (DataW H)} {before : List MemPlace} {t0 t1 t2 t3 : TypeId}
    (hW : DataW.Whole enc Tryd.prog f.params.toList s.vars false W [v0, v1, v2, v3] [d0, d1, d2, d3] gs before) (hp : f.params = #[t0, t1, t2, t3]) (hr : f.resultTypes = #[4])
    (hfn : s.fn H ([d0, d1, d2, d3] ++ gs) = { results := [.lit (.bool true)], args := [d0, d1, d2, d3], vars := gs })
    (ht : Tryd.prog.readableRec t0 = true) (hs : t0 < Tryd.prog.types.size) (ht1 : Tryd.prog.readableRec t1 = true) (hs1 : t1 < Tryd.prog.types.size) (ht2 : Tryd.prog.readableRec t2 = true) (hs2 : t2 < Tryd.prog.types.size) (ht3 : Tryd.prog.readableRec t3 = true) (hs3 : t3 < Tryd.prog.types.size) (hv : varsRowed Tryd.prog s.vars = true) (hb : Below W.heap.size W W') :
    s.post enc Tryd.prog f false true false false W #[v0, v1, v2, v3] (.bool true) W' := by
  have hlt : ∀ x ∈ before, x.block < W.heap.size := fun x hx => hW.lt x hx
  have hW' := hW
  obtain ⟨p, q, hA, hV, rfl, _, _⟩ := hW
  rw [hp] at hA
  obtain ⟨v, v', v'', v''', d, d', d'', d''', p0, p1, p2, p3, e1, e2, e3, h0, h1, h2, h3⟩ := trodAll_four hA
  have ev : v0 = v ∧ v1 = v' ∧ v2 = v'' ∧ v3 = v''' := by simpa using e1
  have ed : d0 = d ∧ d1 = d' ∧ d2 = d'' ∧ d3 = d''' := by simpa using e2
  obtain ⟨rfl, rfl, rfl, rfl⟩ := ev
  obtain ⟨rfl, rfl, rfl, rfl⟩ := ed
  subst e3
  refine ⟨[d0, d1, d2, d3], gs, p0 ++ p1 ++ p2 ++ p3 ++ q, [], p0 ++ (p1 ++ (p2 ++ p3)), q, hW', ?_, ?_, ?_, hb.frame _, fun h => by cases h⟩
  · rw [hfn, hr]
    exact trodAll_mk1 (shut_bool Tryd.underlying4 true)
  · rw [hfn, hp]
    exact trodAll_mk4 (hb.trod Tryd.laidOut ht hs h0 (fun x hx => hlt x (by simp [hx]))) (hb.trod Tryd.laidOut ht1 hs1 h1 (fun x hx => hlt x (by simp [hx]))) (hb.trod Tryd.laidOut ht2 hs2 h2 (fun x hx => hlt x (by simp [hx]))) (hb.trod Tryd.laidOut ht3 hs3 h3 (fun x hx => hlt x (by simp [hx])))
  · rw [hfn]
    exact hb.trodVars Tryd.laidOut hv hV

end Go.Proofs.YtfbpcdmpkbjifaaDoor

/- A law's end, five arguments. -/

namespace Go.Proofs.YtfbpcdmpkbjifaaDoor
open Go.ChangeShapes Go.WideShapes Go.ChangeAt Go.RowKit

section
variable {H : Type} {enc : TypeId × Value → H} {P : Program} {w : World} {base : Nat} {spare : Nat → Bool} {held : Bool}
theorem trodAll_five {t t' t'' t3 t4 : TypeId} {args : Array Value} {ds : List (DataW H)} {ps : List MemPlace} (h : DataW.TrodAll enc P w base spare held [t, t', t'', t3, t4] args.toList ds ps) :
    ∃ v v' v'' v3 v4 d d' d'' d3 d4 p p' p'' p3 p4, args = #[v, v', v'', v3, v4] ∧ ds = [d, d', d'', d3, d4] ∧ ps = p ++ p' ++ p'' ++ p3 ++ p4 ∧ DataW.Trod enc P w base spare held t v d p ∧ DataW.Trod enc P w base spare held t' v' d' p' ∧ DataW.Trod enc P w base spare held t'' v'' d'' p'' ∧ DataW.Trod enc P w base spare held t3 v3 d3 p3 ∧ DataW.Trod enc P w base spare held t4 v4 d4 p4 := by
  obtain ⟨v, vs, d, ds', p, q, hargs, rfl, rfl, hd, hrest⟩ := trodAll_cons h
  obtain ⟨v', v'', v3, v4, d', d'', d3, d4, p', p'', p3, p4, e1, rfl, rfl, k1, k2, k3, k4⟩ := trodAll_four (args := ⟨vs⟩) hrest
  have e2 : vs = [v', v'', v3, v4] := congrArg Array.toList e1
  subst e2
  exact ⟨v, v', v'', v3, v4, d, d', d'', d3, d4, p, p', p'', p3, p4, by cases args; simp_all, rfl, by simp, hd, k1, k2, k3, k4⟩
theorem trodAll_mk5 {t t' t'' t3 t4 : TypeId} {v v' v'' v3 v4 : Value} {d d' d'' d3 d4 : DataW H} {p p' p'' p3 p4 : List MemPlace} (h : DataW.Trod enc P w base spare held t v d p) (h' : DataW.Trod enc P w base spare held t' v' d' p')
    (h'' : DataW.Trod enc P w base spare held t'' v'' d'' p'') (h3 : DataW.Trod enc P w base spare held t3 v3 d3 p3) (h4 : DataW.Trod enc P w base spare held t4 v4 d4 p4) : DataW.TrodAll enc P w base spare held [t, t', t'', t3, t4] [v, v', v'', v3, v4] [d, d', d'', d3, d4] (p ++ (p' ++ (p'' ++ (p3 ++ p4)))) := ⟨p, p' ++ (p'' ++ (p3 ++ p4)), h, trodAll_mk4 h' h'' h3 h4, rfl⟩
end

theorem ends_five {H : Type} {enc : TypeId × Value → H} {f : Func} {s : ChangeSpec} {W W' : World} {v0 v1 v2 v3 v4 : Value} {d0 d1 d2 d3 d4 : DataW H} {gs : List (DataW H)} {before : List MemPlace} {t0 t1 t2 t3 t4 : TypeId}
    (hW : DataW.Whole enc Tryd.prog f.params.toList s.vars false W [v0, v1, v2, v3, v4] [d0, d1, d2, d3, d4] gs before) (hp : f.params = #[t0, t1, t2, t3, t4]) (hr : f.resultTypes = #[4])
    (hfn : s.fn H ([d0, d1, d2, d3, d4] ++ gs) = { results := [.lit (.bool true)], args := [d0, d1, d2, d3, d4], vars := gs })
    (ht : Tryd.prog.readableRec t0 = true) (hs : t0 < Tryd.prog.types.size) (ht1 : Tryd.prog.readableRec t1 = true) (hs1 : t1 < Tryd.prog.types.size) (ht2 : Tryd.prog.readableRec t2 = true) (hs2 : t2 < Tryd.prog.types.size) (ht3 : Tryd.prog.readableRec t3 = true) (hs3 : t3 < Tryd.prog.types.size) (ht4 : Tryd.prog.readableRec t4 = true) (hs4 : t4 < Tryd.prog.types.size) (hv : varsRowed Tryd.prog s.vars = true) (hb : Below W.heap.size W W') :
    s.post enc Tryd.prog f false true false false W #[v0, v1, v2, v3, v4] (.bool true) W' := by
  have hlt : ∀ x ∈ before, x.block < W.heap.size := fun x hx => hW.lt x hx
  have hW' := hW
  obtain ⟨p, q, hA, hV, rfl, _, _⟩ := hW
  rw [hp] at hA
  obtain ⟨v, v', v'', v''', v4', d, d', d'', d''', d4', p0, p1, p2, p3, p4, e1, e2, e3, h0, h1, h2, h3, h4⟩ := trodAll_five hA
  have ev : v0 = v ∧ v1 = v' ∧ v2 = v'' ∧ v3 = v''' ∧ v4 = v4' := by simpa using e1
  have ed : d0 = d ∧ d1 = d' ∧ d2 = d'' ∧ d3 = d''' ∧ d4 = d4' := by simpa using e2
  obtain ⟨rfl, rfl, rfl, rfl, rfl⟩ := ev
  obtain ⟨rfl, rfl, rfl, rfl, rfl⟩ := ed
  subst e3
  refine ⟨[d0, d1, d2, d3, d4], gs, p0 ++ p1 ++ p2 ++ p3 ++ p4 ++ q, [], p0 ++ (p1 ++ (p2 ++ (p3 ++ p4))), q, hW', ?_, ?_, ?_, hb.frame _, fun h => by cases h⟩
  · rw [hfn, hr]
    exact trodAll_mk1 (shut_bool Tryd.underlying4 true)
  · rw [hfn, hp]
    exact trodAll_mk5 (hb.trod Tryd.laidOut ht hs h0 (fun x hx => hlt x (by simp [hx]))) (hb.trod Tryd.laidOut ht1 hs1 h1 (fun x hx => hlt x (by simp [hx]))) (hb.trod Tryd.laidOut ht2 hs2 h2 (fun x hx => hlt x (by simp [hx]))) (hb.trod Tryd.laidOut ht3 hs3 h3 (fun x hx => hlt x (by simp [hx]))) (hb.trod Tryd.laidOut ht4 hs4 h4 (fun x hx => hlt x (by simp [hx])))
  · rw [hfn]
    exact hb.trodVars Tryd.laidOut hv hV

end Go.Proofs.YtfbpcdmpkbjifaaDoor
