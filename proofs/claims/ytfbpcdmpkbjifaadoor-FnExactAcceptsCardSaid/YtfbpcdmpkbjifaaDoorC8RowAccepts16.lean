/- The law of Accepts holds of every binary grammar and every list of numbers: the call returns true, and what was handed in reads afterwards as it read before. Conditions: the package's table of limits is as the program's text lays it (tied by the given tie). -/
import Derived.Test.YtfbpcdmpkbjifaaDoorC8RowAccepts15
import Derived.Test.YtfbpcdmpkbjifaaDoorC808
import Derived.Test.YtfbpcdmpkbjifaaDoorC803
import Derived.Test.YtfbpcdmpkbjifaaDoorC814
import Derived.Test.YtfbpcdmpkbjifaaDoorCards

namespace Go.Proofs.YtfbpcdmpkbjifaaDoor
open Go.RowKit

set_option maxRecDepth 20000 in
set_option maxHeartbeats 2000000 in
theorem implAccepts_any (b : Bi) (Aw : Option Addr) (ws : List Int) (cw : Nat) (w : World) (hx : ReadB w w.heap.size b) (hL : Lims w) (hm : LenB 1048576 b) (ht : b.P.length + b.O.length + b.E.length ≤ 1048576) (hf : FitB b.say) (hw : Ints w w.heap.size Aw ws) (hwl : ws.length ≤ 1048576) :
    Calls Tryd.prog 47 #[(.agg #[.int .i64 b.n, .int .i64 b.t, .slice b.Ap b.P.length b.cp, .slice b.Ao b.O.length b.co, .slice b.Ae b.E.length b.ce, .slice b.Af b.F.length b.cf]), .slice Aw ws.length cw] w fun e w' => e = .returned (.tuple #[.bool (accV b.say ws), .bool (fcOk b.say ws)]) ∧ Below w.heap.size w w' := by
  have HX := Lib.hid hx; clear hx
  have HL := Lib.hid hL; clear hL
  have HF := Lib.hid hf; clear hf
  have HM := Lib.hid hm; clear hm
  have HW := Lib.hid hw; clear hw
  have HB0 : Hid (Below w.heap.size w (w.alloc (.cells #[.int .i64 b.n, .int .i64 b.t, .slice b.Ap b.P.length b.cp, .slice b.Ao b.O.length b.co, .slice b.Ae b.E.length b.ce, .slice b.Af b.F.length b.cf] 55))) := (Below.refl _ _).alloc (Nat.le_refl _) _
  have B0 := Lib.hid (Box6.new w b 55)
  have hs0 := HB0.out.size
  obtain ⟨_, b0, b1, b2, b3, b4, b5⟩ := B0.out
  go_enter Tryd.func47, Tryd.ntmps47
  go_wp2_with fail
  generalize (w.alloc (.cells #[.int .i64 b.n, .int .i64 b.t, .slice b.Ap b.P.length b.cp, .slice b.Ao b.O.length b.co, .slice b.Ae b.E.length b.ce, .slice b.Af b.F.length b.cf] 55)) = W at HB0 B0 hs0 b0 b1 b2 b3 b4 b5 ⊢
  refine (implFillChart_any b Aw ws cw W ((HX.out.keep HB0.out).more hs0) (HL.out.keep HB0.out (Nat.le_refl _)) HM.out ht HF.out ((HW.out.keep HB0.out).more hs0) hwl).mono ?_
  rintro e w1 ⟨A, ls, c, rfl, hS, hO, hc, hB1⟩
  have B1 := Lib.hid (B0.out.keep hB1 B0.out.1)
  have HB1 := Lib.hid (HB0.out.trans (hB1.mono hs0)); clear hB1
  clear B0 HB0 b0 b1 b2 b3 b4 b5
  have hs1 := HB1.out.size
  cases hg : fcOk b.say ws
  · have HV : Hid (accV b.say ws = false) := by show _ = _; unfold accV; rw [hg]; rfl
    go_wp2
    go_ret2
    exact ⟨by rw [HV.out, hg]; rfl, HB1.out.alloc hs1 _⟩
  have HG : Hid (GoodBs b.say ∧ TokW b.t ws) := bP_is hg
  have HV : Hid (accV b.say ws = accW b.say ws) := by show _ = _; unfold accV; rw [hg]; rfl
  have HFN : Hid (fcN b.say ws = ws.length) := by show _ = _; unfold fcN; rw [hg]; rfl
  have HFC : Hid (fcC b.say ws = fillC b.say ws ws.length (cellsN ws.length)) := by show _ = _; unfold fcC; rw [hg]; rfl
  rw [HFC.out] at hS
  have hn10 := HG.out.2.1
  have HB2 : Hid (Below w.heap.size w (w1.alloc (.cells #[.int .i64 (fcN b.say ws), .slice A ls.length c] 57))) := HB1.out.alloc hs1 _
  have hbn : Below w1.heap.size w1 (w1.alloc (.cells #[.int .i64 (fcN b.say ws), .slice A ls.length c] 57)) := (Below.refl _ _).alloc (Nat.le_refl _) _
  have B2 := Lib.hid (B1.out.keep hbn B1.out.1)
  have HRC : Hid (Row (w1.alloc (.cells #[.int .i64 (fcN b.say ws), .slice A ls.length c] 57)) w1.heap.size 57 #[.int .i64 (fcN b.say ws), .slice A ls.length c]) := Row.new _ _ _
  have HO2 := Lib.hid (hO.below hbn (Nat.le_refl _))
  rw [HFN.out] at HRC
  clear hO hbn
  cases h0 : ((ws.length : Int) == 0)
  · have hne : ¬ (ws.length : Int) = 0 := by simpa using h0
    have HVA : Hid (accW b.say ws = (accL b.say ws).contains 0) := by show _ = _; unfold accW; rw [if_neg hne]
    have hsp : spanB (ws.length : Int) 0 (ws.length : Int) = true := spanB_t (by omega) (by omega) (by omega) (by omega) (by omega)
    have HNO := Lib.hid (fun v => cellNo_any (ws.length : Int) 0 (ws.length : Int) v hsp)
    have hlen : (ls.length : Int) = cntC ws.length := by
      have h1 := (foldC_len b.say ws ws.length (cellsN ws.length) (emptyC ws.length))
      have h2 := congrArg List.length hS
      rw [sayL_len] at h2
      have hb := cntC_bound (n := (ws.length : Int)) (by omega) (by omega)
      unfold fillC at h2
      rw [h2, h1]
      unfold emptyC
      rw [List.length_replicate, Int.toNat_of_nonneg hb.1]
    have hno := noC_lt (m := ls.length) hsp (by rw [hlen]; exact cntC_two (by omega) (by omega))
    obtain ⟨k, hk⟩ := Int.eq_ofNat_of_zero_le hno.1
    have hkl : k < ls.length := by omega
    have HE : Hid (accL b.say ws = ls[k].r) := by
      show _ = _
      unfold accL
      rw [← hS]
      exact atC_at hkl hk
    have hl40 : ls[k].r.length ≤ 40 := by
      have := (foldC_lens b.say ws ws.length (cellsN ws.length) (emptyC ws.length) (fun x hx => by rw [List.eq_of_mem_replicate hx]; simp)) ls[k].r (by
        have : ls[k].r ∈ sayL ls := sayL_mem (List.getElem_mem hkl)
        rw [hS] at this
        exact this)
      exact this
    rw [hk] at HNO
    have HLL := Lib.hid (fun V (hV : Below (w1.alloc (.cells #[.int .i64 (fcN b.say ws), .slice A ls.length c] 57)).heap.size (w1.alloc (.cells #[.int .i64 (fcN b.say ws), .slice A ls.length c] 57)) V) => (HO2.out.below hV (Nat.le_refl _)).lls.at_ hkl)
    clear hS hno hk hlen
    go_wp2_with fail
    rw [HFN.out] at HB2 HLL B2 HO2 ⊢
    generalize (w1.alloc (.cells #[.int .i64 (ws.length : Int), .slice A ls.length c] 57)) = W2 at HB2 HRC B2 HO2 HLL ⊢
    obtain ⟨g, o, rfl, hg', c0, c1, c2⟩ := HLL.out W2 (Below.refl _ _)
    have HI := Lib.hid c2
    generalize ls[k] = u at c0 HE HI hl40
    have HSK : Hid (W2.cell? ⟨w1.heap.size, 0, none⟩ = some (.int .i64 (ws.length : Int)) ∧ W2.cell? ⟨w1.heap.size, 1, none⟩ = some (.slice (some ⟨g, o, none⟩) ls.length c) ∧ W2.cell? ⟨g, o + k, none⟩ = some (.slice u.a u.r.length u.c)) := by
      have d0 := HRC.out.cell 0
      have d1 := HRC.out.cell 1
      simp only [List.getElem?_toArray, List.getElem?_cons_succ, List.getElem?_cons_zero] at d0 d1
      exact ⟨d0, d1, c0⟩
    obtain ⟨d0, d1, d2⟩ := HSK.out
    have HD : Hid (Below W2.heap.size W2 W2.drew) := by show Below _ _ _; go_grown
    have HI2 := Lib.hid ((HI.out.keep HD.out).more HD.out.size)
    have HCT := Lib.hid (containsN_any u.a u.r u.c 0 W2.drew HI2.out (by omega))
    clear c0 c1 c2 HLL
    go_region_held3 (fun w' => w'.cell? ⟨w1.heap.size, 0, none⟩ = some (.int .i64 (ws.length : Int)) ∧ w'.cell? ⟨w1.heap.size, 1, none⟩ = some (.slice (some ⟨g, o, none⟩) ls.length c) ∧ w'.cell? ⟨g, o + k, none⟩ = some (.slice u.a u.r.length u.c))
      (first | exact HS5.out | exact ⟨d0, d1, d2⟩)
      (first
      | (go_at_call 100
         with_reducible refine (HNO.out _).mono ?_
         rintro e w4 ⟨rfl, hw4⟩
         replace hw4 := hw4.symm
         subst hw4)
      | (go_at_call 104
         refine Calls.mono HCT.out ?_
         rintro e w5 ⟨rfl, hB5⟩
         have HB5 := Lib.hid (HD.out.trans (hB5.mono HD.out.size))
         have HS5 : Hid (w5.cell? ⟨w1.heap.size, 0, none⟩ = some (.int .i64 (ws.length : Int)) ∧ w5.cell? ⟨w1.heap.size, 1, none⟩ = some (.slice (some ⟨g, o, none⟩) ls.length c) ∧ w5.cell? ⟨g, o + k, none⟩ = some (.slice u.a u.r.length u.c)) := ⟨(HB5.out.cell (p := ⟨w1.heap.size, 0, none⟩) HRC.out.lt).trans d0, (HB5.out.cell (p := ⟨w1.heap.size, 1, none⟩) HRC.out.lt).trans d1, (HB5.out.cell (p := ⟨g, o + k, none⟩) hg').trans d2⟩
         clear hB5))
    all_goals
      go_wp2
      go_ret2
      exact ⟨by rw [HV.out, HVA.out, HE.out, hg]; simp [hasN], HB2.out.trans (HB5.out.mono HB2.out.size)⟩
  · have he : (ws.length : Int) = 0 := by simpa using h0
    have HVA : Hid (accW b.say ws = accE b.say) := by show _ = _; unfold accW; rw [if_pos he]
    have HSM := Lib.hid (smallB HG.out.1 ht HF.out)
    clear he
    obtain ⟨_, b0, b1, b2, b3, b4, b5⟩ := B1.out
    go_wp2_with fail
    generalize (w1.alloc (.cells #[.int .i64 (fcN b.say ws), .slice A ls.length c] 57)) = W2 at HB2 HRC B2 HO2 ⊢
    clear b0 b1 b2 b3 b4 b5
    refine (binaryRules_any b w.heap.size W2 HB2.out.size (HX.out.keep HB2.out) HM.out (goodB_long HG.out.1)).mono ?_
    rintro e w2 ⟨v2, rs2, rfl, hO2, hD2, hB2⟩
    have hsz1 := HB2.out.size
    obtain ⟨A2, c2, rfl, hcap2, hRl⟩ := rls_of hD2 rfl hO2 (hB2.mono hsz1) (Nat.le_trans hsz1 hB2.size)
    have HRl := Lib.hid hRl
    have HSY := Lib.hid hD2.say
    have HB3 := Lib.hid (HB2.out.trans (hB2.mono hsz1))
    clear hO2 hD2 hB2 hRl
    go_wp2_with fail
    refine (nullB_any A2 c2 rs2 w2 HRl.out (by rw [HSY.out]; exact HSM.out)).mono ?_
    rintro e w3 ⟨q, S, rfl, hq, hS', hI, hB3⟩
    have hl := hS'.look (x := 0) (by unfold F64; omega)
    have HI : Hid (accE b.say = S 0) := accE_is (by rw [HSY.out] at hI; exact hI)
    have HB4 := Lib.hid (HB3.out.trans (hB3.mono HB3.out.size))
    clear hS' hI hB3
    go_wp2
    go_ret2
    exact ⟨by rw [HV.out, HVA.out, HI.out, hg]; rfl, HB4.out⟩

end Go.Proofs.YtfbpcdmpkbjifaaDoor

/- The law of Accepts: its walk. -/

namespace Go.Proofs.YtfbpcdmpkbjifaaDoor
open Go.RowKit

set_option maxRecDepth 20000 in
set_option maxHeartbeats 4000000 in
theorem law_Accepts (b : Bi) (Aw : Option Addr) (ws : List Int) (cw : Nat) (w : World) (hx : ReadB w w.heap.size b) (hm : LenB maxLen b) (hf : FitB b.say) (hz : Ints w w.heap.size Aw ws) (hzn : ws.length ≤ maxLen) (_ : ∀ x ∈ ws, F64 x) (hL : Lims w) :
    Calls Tryd.prog 10 #[(.agg #[.int .i64 b.n, .int .i64 b.t, .slice b.Ap b.P.length b.cp, .slice b.Ao b.O.length b.co, .slice b.Ae b.E.length b.ce, .slice b.Af b.F.length b.cf]), .slice Aw ws.length cw] w (LawEnds w) := by
  have hzn2 := hzn
  unfold maxLen at hzn2
  by_cases hbig : (1048576 : Int) < (ws.length : Int)
  · go_enter Tryd.func10, Tryd.ntmps10
    go_wp2
    go_ret
    exact ⟨rfl, by go_grown⟩
  have hwl : ws.length ≤ 1048576 := by omega
  have HX := Lib.hid hx; clear hx
  have HZ := Lib.hid hz; clear hz
  have HL := Lib.hid hL; clear hL
  have HM := Lib.hid hm; clear hm
  have HF := Lib.hid hf; clear hf
  have hB0 : Below w.heap.size w (w.alloc (.cells #[.int .i64 b.n, .int .i64 b.t, .slice b.Ap b.P.length b.cp, .slice b.Ao b.O.length b.co, .slice b.Ae b.E.length b.ce, .slice b.Af b.F.length b.cf] 49)) := by go_grown
  have KB0 := Lib.hid (Box6.new w b 49)
  have hW2 : (w.alloc (.cells #[.int .i64 b.n, .int .i64 b.t, .slice b.Ap b.P.length b.cp, .slice b.Ao b.O.length b.co, .slice b.Ae b.E.length b.ce, .slice b.Af b.F.length b.cf] 49)).heap.size = w.heap.size + 1 := by simp
  obtain ⟨_, a0, a1, a2, a3, a4, a5⟩ := KB0.out
  go_enter Tryd.func10, Tryd.ntmps10
  go_wp2_with fail
  generalize (w.alloc (.cells #[.int .i64 b.n, .int .i64 b.t, .slice b.Ap b.P.length b.cp, .slice b.Ao b.O.length b.co, .slice b.Ae b.E.length b.ce, .slice b.Af b.F.length b.cf] 49)) = W at hB0 KB0 hW2 a0 a1 a2 a3 a4 a5 ⊢
  have HB0 := Lib.hid hB0; clear hB0
  have HWS : Hid (w.heap.size + 1 ≤ W.heap.size) := by show _ ≤ _; omega
  clear hW2
  -- what any later world keeps
  have HN : Hid (∀ V V', Below (w.heap.size + 1) W V → Below V.heap.size V V' → Below (w.heap.size + 1) W V') := fun V V' h k => h.trans (k.mono (Nat.le_trans HWS.out h.size))
  have HBW : Hid (∀ V, Below (w.heap.size + 1) W V → Below w.heap.size w V) := fun V h => HB0.out.trans (h.mono (by omega))
  have HSA : Hid (∀ V, Below (w.heap.size + 1) W V → V.cell? ⟨w.heap.size, 0, none⟩ = some (.int .i64 b.n) ∧ V.cell? ⟨w.heap.size, 1, none⟩ = some (.int .i64 b.t) ∧ V.cell? ⟨w.heap.size, 2, none⟩ = some (.slice b.Ap b.P.length b.cp) ∧ V.cell? ⟨w.heap.size, 3, none⟩ = some (.slice b.Ao b.O.length b.co) ∧ V.cell? ⟨w.heap.size, 4, none⟩ = some (.slice b.Ae b.E.length b.ce) ∧ V.cell? ⟨w.heap.size, 5, none⟩ = some (.slice b.Af b.F.length b.cf)) := fun V h => by
    obtain ⟨_, a0, a1, a2, a3, a4, a5⟩ := KB0.out.keep h (by omega)
    exact ⟨a0, a1, a2, a3, a4, a5⟩
  have HRX : Hid (∀ V, Below (w.heap.size + 1) W V → ReadB V V.heap.size b ∧ Ints V V.heap.size Aw ws ∧ Lims V) := fun V h => by
    have k := HBW.out V h
    exact ⟨(HX.out.keep k).more k.size, (HZ.out.keep k).more k.size, HL.out.keep k (Nat.le_refl _)⟩
  have HWW : Hid (Below (w.heap.size + 1) W W) := Below.refl _ _
  refine (szBinary_any _ _ (HRX.out _ HWW.out).1 HM.out).mono ?_
  rintro e w1 ⟨rfl, hB1⟩
  have HB1 := Lib.hid (HN.out _ _ HWW.out hB1); clear hB1
  by_cases hneg : szB (sayL b.P) (sayL b.O) b.E (sayL b.F) 1048576 < 0
  · go_wp2
    go_ret
    exact ⟨rfl, HBW.out _ HB1.out⟩
  have HLN : Hid (LenB 1048576 b) := szB_bound (by omega)
  have HTT : Hid (TotB b.say) := szB_total (by omega)
  clear a0 a1 a2 a3 a4 a5
  -- both answers
  have HSPEC : Hid (∀ (b' : Bi) (Aw' : Option Addr) (cw' : Nat) (V : World), ReadB V V.heap.size b' → Ints V V.heap.size Aw' ws → b'.say = b.say →
      Calls Tryd.prog 46 #[(.agg #[.int .i64 b'.n, .int .i64 b'.t, .slice b'.Ap b'.P.length b'.cp, .slice b'.Ao b'.O.length b'.co, .slice b'.Ae b'.E.length b'.ce, .slice b'.Af b'.F.length b'.cf]), .slice Aw' ws.length cw'] V fun e w' => e = .returned (.tuple #[.bool (accV b.say ws), .bool (fcOk b.say ws)]) ∧ Below V.heap.size V w') := fun b' Aw' cw' V h1 h3 h4 => by
    have h6 := specAccepts_any b' Aw' ws cw' V h1 (HLN.out.of_say h4) h3 hwl
    rw [h4] at h6
    exact h6
  have HIMP : Hid (∀ (b' : Bi) (Aw' : Option Addr) (cw' : Nat) (V : World), ReadB V V.heap.size b' → Ints V V.heap.size Aw' ws → Lims V → b'.say = b.say →
      Calls Tryd.prog 47 #[(.agg #[.int .i64 b'.n, .int .i64 b'.t, .slice b'.Ap b'.P.length b'.cp, .slice b'.Ao b'.O.length b'.co, .slice b'.Ae b'.E.length b'.ce, .slice b'.Af b'.F.length b'.cf]), .slice Aw' ws.length cw'] V fun e w' => e = .returned (.tuple #[.bool (accV b.say ws), .bool (fcOk b.say ws)]) ∧ Below V.heap.size V w') := fun b' Aw' cw' V h1 h3 hl h4 => by
    have h6 := implAccepts_any b' Aw' ws cw' V h1 hl (HLN.out.of_say h4) (HTT.out.of h4) (FitB.of HF.out h4) h3 hwl
    rw [h4] at h6
    exact h6
  generalize accV b.say ws = av at HSPEC HIMP
  generalize fcOk b.say ws = ok at HSPEC HIMP
  have hav : (av != av) = false := by simp
  have hok : (ok != ok) = false := by simp
  -- the reference's answer
  obtain ⟨a0, a1, a2, a3, a4, a5⟩ := HSA.out _ HB1.out
  go_wp2_with fail
  refine (toBinaryA_any _ _ (HRX.out _ HB1.out).1 HLN.out).mono ?_
  rintro e w2 ⟨b2, rfl, ha2, hO2, _, hBx, _⟩
  have HB2 := Lib.hid (HN.out _ _ HB1.out hBx)
  have HO2 := Lib.hid hO2
  have HA2 := Lib.hid ha2
  clear hO2 ha2 hBx a0 a1 a2 a3 a4 a5
  go_wp2_with fail
  refine (toIntS_any _ _ _ _ (HRX.out _ HB2.out).2.1 hwl).mono ?_
  rintro e w2c ⟨Aw2, cw2, rfl, _, hI2, hBx⟩
  have HB2c := Lib.hid (HN.out _ _ HB2.out hBx)
  have HO2c := Lib.hid (HO2.out.below hBx (Nat.le_refl _))
  have HI2 := Lib.hid hI2
  clear hI2 hBx
  go_wp2_with fail
  refine (HSPEC.out _ _ _ _ HO2c.out.read HI2.out.ints HA2.out).mono ?_
  rintro e w3 ⟨rfl, hBx⟩
  have HB3 := Lib.hid (HN.out _ _ HB2c.out hBx)
  have HS3 : Hid (w.heap.size + 1 ≤ w3.heap.size) := Nat.le_trans HWS.out HB3.out.size
  clear hBx HO2 HO2c HI2 HB2 HB2c HA2 HB1
  obtain ⟨a0, a1, a2, a3, a4, a5⟩ := HSA.out _ HB3.out
  go_wp2_with fail
  -- the program's arguments, copies
  refine (toBinaryA_any _ _ (HRX.out _ HB3.out).1 HLN.out).mono ?_
  rintro e w4 ⟨b4, rfl, ha4, hO4, _, hBx, hP4⟩
  clear a0 a1 a2 a3 a4 a5
  have HLN4 := Lib.hid (HLN.out.of_say ha4)
  have HA4 := Lib.hid ha4; clear ha4 hP4
  have HB4 := Lib.hid (HN.out _ _ HB3.out hBx)
  have HS34 := Lib.hid hBx.size
  clear hBx
  go_wp2_with fail
  have hBX1 : Below w4.heap.size w4 (w4.alloc (.cells #[.int .i64 b4.n, .int .i64 b4.t, .slice b4.Ap b4.P.length b4.cp, .slice b4.Ao b4.O.length b4.co, .slice b4.Ae b4.E.length b4.ce, .slice b4.Af b4.F.length b4.cf] 55)) := by go_grown
  have KX1 := Lib.hid (Box6.new w4 b4 55)
  generalize w4.alloc (.cells #[.int .i64 b4.n, .int .i64 b4.t, .slice b4.Ap b4.P.length b4.cp, .slice b4.Ao b4.O.length b4.co, .slice b4.Ae b4.E.length b4.ce, .slice b4.Af b4.F.length b4.cf] 55) = X1 at hBX1 KX1 ⊢
  have HBX1 := Lib.hid (HN.out _ _ HB4.out hBX1)
  have HO4a := Lib.hid (hO4.below hBX1 (Nat.le_refl _))
  clear hBX1 hO4 HB4
  refine (toIntS_any _ _ _ _ (HRX.out _ HBX1.out).2.1 hwl).mono ?_
  rintro e w6 ⟨A6, c6, rfl, _, hO6, hBx⟩
  have HB6 := Lib.hid (HN.out _ _ HBX1.out hBx)
  have KX6 := Lib.hid (KX1.out.keep hBx KX1.out.1)
  have HO46 := Lib.hid (HO4a.out.below hBx (Nat.le_refl _))
  have HO66 := Lib.hid hO6
  clear hBx hO6 KX1 HO4a HBX1
  obtain ⟨_, x0, x1, x2, x3, x4, x5⟩ := KX6.out
  go_wp2_with fail
  -- the program's answer
  refine (HIMP.out _ _ _ _ HO46.out.read HO66.out.ints (HRX.out _ HB6.out).2.2 HA4.out).mono ?_
  rintro e w8 ⟨rfl, hB7⟩
  clear x0 x1 x2 x3 x4 x5
  have HB67 := Lib.hid hB7; clear hB7
  have HM2 : Hid (∀ V V', Below w8.heap.size w8 V → Below V.heap.size V V' → Below w8.heap.size w8 V') := fun V V' h k => h.trans (k.mono h.size)
  have HK : Hid (∀ V, Below w8.heap.size w8 V → Below (w.heap.size + 1) W V ∧ Box6 V w4.heap.size b4 ∧ OwnB V w3.heap.size b4 ∧ OwnI V X1.heap.size A6 ws) := fun V h => by
    have k : Below w6.heap.size w6 V := HB67.out.trans (h.mono HB67.out.size)
    exact ⟨HN.out _ _ HB6.out k, KX6.out.keep k KX6.out.1, HO46.out.below k (Nat.le_refl _), HO66.out.below k (Nat.le_refl _)⟩
  have HSX : Hid (∀ V, Below w8.heap.size w8 V → V.cell? ⟨w4.heap.size, 0, none⟩ = some (.int .i64 b4.n) ∧ V.cell? ⟨w4.heap.size, 1, none⟩ = some (.int .i64 b4.t) ∧ V.cell? ⟨w4.heap.size, 2, none⟩ = some (.slice b4.Ap b4.P.length b4.cp) ∧ V.cell? ⟨w4.heap.size, 3, none⟩ = some (.slice b4.Ao b4.O.length b4.co) ∧ V.cell? ⟨w4.heap.size, 4, none⟩ = some (.slice b4.Ae b4.E.length b4.ce) ∧ V.cell? ⟨w4.heap.size, 5, none⟩ = some (.slice b4.Af b4.F.length b4.cf) ∧ V.cell? ⟨w.heap.size, 0, none⟩ = some (.int .i64 b.n) ∧ V.cell? ⟨w.heap.size, 1, none⟩ = some (.int .i64 b.t) ∧ V.cell? ⟨w.heap.size, 2, none⟩ = some (.slice b.Ap b.P.length b.cp) ∧ V.cell? ⟨w.heap.size, 3, none⟩ = some (.slice b.Ao b.O.length b.co) ∧ V.cell? ⟨w.heap.size, 4, none⟩ = some (.slice b.Ae b.E.length b.ce) ∧ V.cell? ⟨w.heap.size, 5, none⟩ = some (.slice b.Af b.F.length b.cf)) := fun V h => by
    obtain ⟨_, x0, x1, x2, x3, x4, x5⟩ := (HK.out V h).2.1
    obtain ⟨a0, a1, a2, a3, a4, a5⟩ := HSA.out _ (HK.out V h).1
    exact ⟨x0, x1, x2, x3, x4, x5, a0, a1, a2, a3, a4, a5⟩
  have HW8 : Hid (Below w8.heap.size w8 w8) := Below.refl _ _
  clear KX6 HO46 HO66 HB6
  obtain ⟨x0, x1, x2, x3, x4, x5, a0, a1, a2, a3, a4, a5⟩ := HSX.out _ HW8.out
  go_wp2_with fail
  go_region_held3 (fun w' => w'.cell? ⟨w4.heap.size, 0, none⟩ = some (.int .i64 b4.n) ∧ w'.cell? ⟨w4.heap.size, 1, none⟩ = some (.int .i64 b4.t) ∧ w'.cell? ⟨w4.heap.size, 2, none⟩ = some (.slice b4.Ap b4.P.length b4.cp) ∧ w'.cell? ⟨w4.heap.size, 3, none⟩ = some (.slice b4.Ao b4.O.length b4.co) ∧ w'.cell? ⟨w4.heap.size, 4, none⟩ = some (.slice b4.Ae b4.E.length b4.ce) ∧ w'.cell? ⟨w4.heap.size, 5, none⟩ = some (.slice b4.Af b4.F.length b4.cf) ∧ w'.cell? ⟨w.heap.size, 0, none⟩ = some (.int .i64 b.n) ∧ w'.cell? ⟨w.heap.size, 1, none⟩ = some (.int .i64 b.t) ∧ w'.cell? ⟨w.heap.size, 2, none⟩ = some (.slice b.Ap b.P.length b.cp) ∧ w'.cell? ⟨w.heap.size, 3, none⟩ = some (.slice b.Ao b.O.length b.co) ∧ w'.cell? ⟨w.heap.size, 4, none⟩ = some (.slice b.Ae b.E.length b.ce) ∧ w'.cell? ⟨w.heap.size, 5, none⟩ = some (.slice b.Af b.F.length b.cf))
    (first | exact HSX.out _ HW10.out | exact HSX.out _ HW9.out | exact ⟨x0, x1, x2, x3, x4, x5, a0, a1, a2, a3, a4, a5⟩)
    (first
    | (go_at_call 35
       refine (toBinaryA_any _ _ ?_ HLN.out).mono ?_
       · exact (HRX.out _ (HK.out _ HW8.out).1).1.keep (by go_grown)
       rintro e w9 ⟨b9, rfl, ha9, hO9, _, hBx, _⟩
       have hB9 : Below w8.heap.size w8 w9 := Below.trans (by go_grown) hBx
       have HW9 := Lib.hid (HM2.out _ _ HW8.out hB9)
       have HO9 := Lib.hid hO9
       have HA9 := Lib.hid ha9
       clear hO9 ha9 hBx hB9)
    | (go_at_call 39
       refine (eqBinary_any _ _ _ ((HK.out _ HW9.out).2.2.1.read) HO9.out.read HLN4.out (HA4.out.trans HA9.out.symm)).mono ?_
       rintro e w10 ⟨rfl, hBx⟩
       have HW10 := Lib.hid (HM2.out _ _ HW9.out hBx)
       clear hBx))
  rename_i hHeld
  clear hHeld x0 x1 x2 x3 x4 x5 a0 a1 a2 a3 a4 a5 HO9 HA9 HW9 HW8
  go_wp2_with fail
  refine (toIntS_any _ _ _ _ (HRX.out _ (HK.out _ HW10.out).1).2.1 hwl).mono ?_
  rintro e w13 ⟨A13, c13, rfl, _, hO13, hBx⟩
  have HW13 := Lib.hid (HM2.out _ _ HW10.out hBx)
  have HO13 := Lib.hid hO13
  clear hO13 hBx HW10
  go_wp2_with fail
  refine (eqIntS_any _ _ _ _ _ _ _ (HK.out _ HW13.out).2.2.2.ints HO13.out.ints hwl).mono ?_
  rintro e w14 ⟨rfl, hBx⟩
  rw [eqL_refl]
  have HW14 := Lib.hid (HM2.out _ _ HW13.out hBx)
  clear hBx HO13 HW13
  go_wp2
  go_ret
  exact ⟨rfl, HBW.out _ (HK.out _ HW14.out).1⟩

end Go.Proofs.YtfbpcdmpkbjifaaDoor

/- The law of Accepts holds of every binary grammar and every list of numbers: the call returns true, and what was handed in reads afterwards as it read before. Conditions: the package's table of limits is as the program's text lays it (tied by the given tie). -/

namespace Go.Proofs.YtfbpcdmpkbjifaaDoor
open Go.ChangeShapes Go.WideShapes Go.ChangeAt Go.RowKit

set_option maxRecDepth 100000 in
theorem accepts_lifted (os : Os) (started : os.Started) (H : Type) (enc : TypeId × Value → H) :
    ReturnsInHanded {} Tryd.checked os 10 .any (fun w args => (Rows.fnExactAcceptsSpec.pre enc Tryd.prog Tryd.f10 [] false w args ∧ laidMetH Tryd.prog laid1 w) ∧ sizedMet enc Tryd.prog Tryd.f10 (OpenSpec.ofChange Rows.fnExactAcceptsSpec) false w args)
      (Rows.fnExactAcceptsSpec.post enc Tryd.prog Tryd.f10 false true false false) := by
  refine returnsInHanded_of_change_and (C := Tryd.checked) (X := fun w _ => laidMetH Tryd.prog laid1 w) (fun _ _ _ hh h => h.of_heap hh) Tryd.own started (by kernel_rfl) Tryd.func10
    (ChangeSpec.witness_shaped (enc := enc) (C := Tryd.checked) (os := os) (X := fun w _ => laidMetH Tryd.prog laid1 w) false (World.doorLaid Tryd.prog 400 os) #[.agg #[.int .i64 0, .int .i64 0, .slice none 0 0, .slice none 0 0, .slice none 0 0, .slice none 0 0], .slice none 0 0] 8 rfl (World.shaped_of_RefB (by kernel_rfl) (by kernel_rfl)) (by kernel_rfl) (by kernel_rfl) (by kernel_rfl) (door_met os _)) ?_
  intro W base args ds gs before hval0 hW _ _ hL _
  have hval : ∀ (j : Nat) t v, Tryd.f10.params[j]? = some t → args[j]? = some v → Value.okWide Tryd.prog W .any base t v := hval0
  have hW' := hW
  obtain ⟨p, q, hA0, hV0, rfl, hfz, hnd⟩ := hW
  have hA : DataW.TrodAll enc Tryd.prog W 0 (fun _ => true) true Tryd.f10.params.toList args.toList ds p := hA0
  have hV : DataW.TrodVars enc Tryd.prog W (fun _ => true) ["loop.example/g00758/impl.limits"] gs q := hV0
  rw [Tryd.params10] at hA hval
  obtain ⟨v0, v1, d0, d1, p0, p1, rfl, rfl, rfl, h0, h1⟩ := trodAll_two hA
  obtain ⟨g, tg, cs, fuel, dg, pg, rfl, _⟩ := trodVars_one hV
  obtain ⟨b0, rfl, _, hR0, hM0, hF0, _, _⟩ := open_binary (hval 0 49 v0 rfl rfl) h0
  obtain ⟨A1, xs1, c1, rfl, _, hR1, hN1, hF1⟩ := open_intS' (hval 1 22 v1 rfl rfl) h1
  refine (law_Accepts b0 A1 xs1 c1 W hR0 hM0 hF0 hR1 hN1 hF1 (lims_of_laid hL)).mono fun e W' ⟨he, hb⟩ => ?_
  subst he
  exact ⟨_, rfl, ends_two hW' Tryd.params10 rfl rfl (by kernel_rfl) (of_decide_eq_true (by kernel_rfl)) (by kernel_rfl) (of_decide_eq_true (by kernel_rfl)) (by kernel_rfl) hb⟩

theorem accepts_holds : Rows.FnExactAcceptsSaid :=
  OpenClaim.holds_of_wide 10 Tryd.f10 rfl rfl rfl rfl rfl rfl rfl ⟨rfl, rfl, rfl, rfl, rfl⟩ rfl rfl rfl rfl rfl (by kernel_rfl) Tryd.func10 (by kernel_rfl)
    (of_decide_eq_true (by kernel_rfl)) (by unfold Func.isWrapper; first | (rw [if_pos (by decide +kernel)]; kernel_rfl) | (rw [if_neg (by decide +kernel)]; exact ⟨rfl, rfl⟩))
    (fun os started H enc _ => accepts_lifted os started H enc)

theorem accepts_card : Rows.FnExactAcceptsCardSaid :=
  Claim7.holds_tied_plain_at .later [] [.data] true (true, "18902ad48fee14ba0ba1e5828de7a6a28e51b3a8703fe69bc2803f0493ca1330") false
    accepts_holds (fun _ h => by cases h) (by kernel_rfl) (fun _ h => by cases h) fnExactAccepts_row_tie rfl ⟨rfl, rfl⟩ (by kernel_rfl) rfl
    (fun f fn hf hfn => by
      obtain rfl : f = 10 := Option.some.inj ((show Tryd.prog.funcNamed "loop.example/g00758/laws.FnExactAccepts" = some 10 by kernel_rfl).symm.trans hf) |>.symm
      obtain rfl : fn = Tryd.f10 := (Option.some.inj (Tryd.func10.symm.trans hfn)).symm
      exact ⟨by kernel_rfl, fun j t ht => by
        rw [Tryd.params10] at ht
        have hm : t ∈ [49, 22] := by simpa using Array.mem_of_getElem? ht
        have hall : ([49, 22].all fun u => !Tryd.prog.wantsStandIn u) = true := by kernel_rfl
        exact (show Tryd.prog.wantsStandIn t = false by simpa using List.all_eq_true.1 hall t hm)⟩)
    (by kernel_rfl)

#print axioms accepts_card
end Go.Proofs.YtfbpcdmpkbjifaaDoor
