/- The law of FillChart holds of every binary grammar and every list of numbers: the call returns true, and what was handed in reads afterwards as it read before. Conditions: the package's table of limits is as the program's text lays it (tied by the given tie). -/
import Derived.Test.YtfbpcdmpkbjifaaDoorC803
import Derived.Test.YtfbpcdmpkbjifaaDoorC8RowFillChart15
import Derived.Test.YtfbpcdmpkbjifaaDoorC814
import Derived.Test.YtfbpcdmpkbjifaaDoorCards

namespace Go.Proofs.YtfbpcdmpkbjifaaDoor
open Go.RowKit

theorem cellV_len (s : Bs) (ws : List Int) (xs : List (List Int)) (f t : Int) : (cellV s ws xs f t).length ≤ 40 := by
  unfold cellV
  split
  · rename_i h
    exact goodE40_len (Classical.choose_spec h).good
  · simp
theorem foldC_bd (s : Bs) (ws : List Int) (n : Int) : ∀ (L : List (Int × Int)) (xs : List (List Int)), (∀ x ∈ xs, x.length ≤ 40) → (L.foldl (putC s ws n) xs).length = xs.length ∧ ∀ x ∈ L.foldl (putC s ws n) xs, x.length ≤ 40
  | [], xs, h => ⟨rfl, h⟩
  | p :: r, xs, h => by
    have ih := foldC_bd s ws n r (putC s ws n xs p) fun x hx => by
      rcases List.mem_or_eq_of_mem_set hx with hx | rfl
      · exact h x hx
      · exact cellV_len _ _ _ _ _
    refine ⟨ih.1.trans (List.length_set ..), ih.2⟩
theorem fcC_bd (s : Bs) (ws : List Int) : (fcC s ws).length ≤ 55 ∧ ∀ x ∈ fcC s ws, x.length ≤ 40 := by
  unfold fcC
  split
  · rename_i h
    have hT : GoodBs s ∧ TokW s.t ws := bP_is h
    have hn := hT.2.1
    have hb := cntC_bound (n := (ws.length : Int)) (by omega) (by omega)
    have h1 := foldC_bd s ws ws.length (cellsN ws.length) (emptyC ws.length) fun x hx => by rw [List.eq_of_mem_replicate hx]; simp
    refine ⟨?_, h1.2⟩
    have h2 := h1.1
    unfold fillC
    rw [h2]
    unfold emptyC
    rw [List.length_replicate]
    omega
  · exact ⟨by simp, fun x hx => by cases hx⟩
theorem lcnt_sm {ls : List Li} (hl : ls.length ≤ 55) (hu : ∀ u ∈ ls, u.r.length ≤ 40) : lcnt ls ls.length ≤ 100000000 := by
  have h : ∀ i, i ≤ ls.length → lcnt ls i ≤ 41 * i := fun i => by
    induction i with
    | zero => intro _; simp [lcnt_zero]
    | succ i ih =>
      intro hi
      rw [lcnt_succ (by omega)]
      have h1 := ih (by omega)
      have h2 := hu ls[i] (List.getElem_mem (by omega))
      omega
  exact Nat.le_trans (h _ (Nat.le_refl _)) (by omega)

set_option maxRecDepth 20000 in
set_option maxHeartbeats 4000000 in
theorem law_FillChart (b : Bi) (Aw : Option Addr) (ws : List Int) (cw : Nat) (w : World) (hx : ReadB w w.heap.size b) (hm : LenB maxLen b) (hf : FitB b.say) (hz : Ints w w.heap.size Aw ws) (hzn : ws.length ≤ maxLen) (_ : ∀ x ∈ ws, F64 x) (hL : Lims w) :
    Calls Tryd.prog 9 #[(.agg #[.int .i64 b.n, .int .i64 b.t, .slice b.Ap b.P.length b.cp, .slice b.Ao b.O.length b.co, .slice b.Ae b.E.length b.ce, .slice b.Af b.F.length b.cf]), .slice Aw ws.length cw] w (LawEnds w) := by
  have hzn2 := hzn
  unfold maxLen at hzn2
  by_cases hbig : (1048576 : Int) < (ws.length : Int)
  · go_enter Tryd.func9, Tryd.ntmps9
    go_wp2
    go_ret
    exact ⟨rfl, by go_grown⟩
  have hwl : ws.length ≤ 1048576 := by omega
  have HX := Lib.hid hx; clear hx
  have HZ := Lib.hid hz; clear hz
  have HL := Lib.hid hL; clear hL
  have HM := Lib.hid hm; clear hm
  have HF := Lib.hid hf; clear hf
  have hB0 : Below w.heap.size w (w.alloc (.cells #[.int .i64 b.n, .int .i64 b.t, .slice b.Ap b.P.length b.cp, .slice b.Ao b.O.length b.co, .slice b.Ae b.E.length b.ce, .slice b.Af b.F.length b.cf] 49)) := by go_grown
  have KB0 := Lib.hid (Box6.new w b 49)
  have hW2 : (w.alloc (.cells #[.int .i64 b.n, .int .i64 b.t, .slice b.Ap b.P.length b.cp, .slice b.Ao b.O.length b.co, .slice b.Ae b.E.length b.ce, .slice b.Af b.F.length b.cf] 49)).heap.size = w.heap.size + 1 := by simp
  obtain ⟨_, a0, a1, a2, a3, a4, a5⟩ := KB0.out
  go_enter Tryd.func9, Tryd.ntmps9
  go_wp2_with fail
  generalize (w.alloc (.cells #[.int .i64 b.n, .int .i64 b.t, .slice b.Ap b.P.length b.cp, .slice b.Ao b.O.length b.co, .slice b.Ae b.E.length b.ce, .slice b.Af b.F.length b.cf] 49)) = W at hB0 KB0 hW2 a0 a1 a2 a3 a4 a5 ⊢
  have HB0 := Lib.hid hB0; clear hB0
  have HWS : Hid (w.heap.size + 1 ≤ W.heap.size) := by show _ ≤ _; omega
  clear hW2
  -- what any later world keeps
  have HN : Hid (∀ V V', Below (w.heap.size + 1) W V → Below V.heap.size V V' → Below (w.heap.size + 1) W V') := fun V V' h k => h.trans (k.mono (Nat.le_trans HWS.out h.size))
  have HBW : Hid (∀ V, Below (w.heap.size + 1) W V → Below w.heap.size w V) := fun V h => HB0.out.trans (h.mono (by omega))
  have HSA : Hid (∀ V, Below (w.heap.size + 1) W V → V.cell? ⟨w.heap.size, 0, none⟩ = some (.int .i64 b.n) ∧ V.cell? ⟨w.heap.size, 1, none⟩ = some (.int .i64 b.t) ∧ V.cell? ⟨w.heap.size, 2, none⟩ = some (.slice b.Ap b.P.length b.cp) ∧ V.cell? ⟨w.heap.size, 3, none⟩ = some (.slice b.Ao b.O.length b.co) ∧ V.cell? ⟨w.heap.size, 4, none⟩ = some (.slice b.Ae b.E.length b.ce) ∧ V.cell? ⟨w.heap.size, 5, none⟩ = some (.slice b.Af b.F.length b.cf)) := fun V h => by
    obtain ⟨_, a0, a1, a2, a3, a4, a5⟩ := KB0.out.keep h (by omega)
    exact ⟨a0, a1, a2, a3, a4, a5⟩
  have HRX : Hid (∀ V, Below (w.heap.size + 1) W V → ReadB V V.heap.size b ∧ Ints V V.heap.size Aw ws ∧ Lims V) := fun V h => by
    have k := HBW.out V h
    exact ⟨(HX.out.keep k).more k.size, (HZ.out.keep k).more k.size, HL.out.keep k (Nat.le_refl _)⟩
  have HWW : Hid (Below (w.heap.size + 1) W W) := Below.refl _ _
  refine (szBinary_any _ _ (HRX.out _ HWW.out).1 HM.out).mono ?_
  rintro e w1 ⟨rfl, hB1⟩
  have HB1 := Lib.hid (HN.out _ _ HWW.out hB1); clear hB1
  by_cases hneg : szB (sayL b.P) (sayL b.O) b.E (sayL b.F) 1048576 < 0
  · go_wp2
    go_ret
    exact ⟨rfl, HBW.out _ HB1.out⟩
  have HLN : Hid (LenB 1048576 b) := szB_bound (by omega)
  have HTT : Hid (TotB b.say) := szB_total (by omega)
  clear a0 a1 a2 a3 a4 a5
  -- both answers
  have HSPEC : Hid (∀ (b' : Bi) (Aw' : Option Addr) (cw' : Nat) (V : World), ReadB V V.heap.size b' → Ints V V.heap.size Aw' ws → b'.say = b.say →
      Calls Tryd.prog 43 #[(.agg #[.int .i64 b'.n, .int .i64 b'.t, .slice b'.Ap b'.P.length b'.cp, .slice b'.Ao b'.O.length b'.co, .slice b'.Ae b'.E.length b'.ce, .slice b'.Af b'.F.length b'.cf]), .slice Aw' ws.length cw'] V (GaveCB V (fcN b.say ws) (fcC b.say ws) (fcOk b.say ws))) := fun b' Aw' cw' V h1 h3 h4 => by
    have h6 := specFillChart_any b' Aw' ws cw' V h1 (HLN.out.of_say h4) h3 hwl
    rw [h4] at h6
    exact h6
  have HIMP : Hid (∀ (b' : Bi) (Aw' : Option Addr) (cw' : Nat) (V : World), ReadB V V.heap.size b' → Ints V V.heap.size Aw' ws → Lims V → b'.say = b.say →
      Calls Tryd.prog 44 #[(.agg #[.int .i64 b'.n, .int .i64 b'.t, .slice b'.Ap b'.P.length b'.cp, .slice b'.Ao b'.O.length b'.co, .slice b'.Ae b'.E.length b'.ce, .slice b'.Af b'.F.length b'.cf]), .slice Aw' ws.length cw'] V (GaveCB V (fcN b.say ws) (fcC b.say ws) (fcOk b.say ws))) := fun b' Aw' cw' V h1 h3 hl h4 => by
    have h6 := implFillChart_any b' Aw' ws cw' V h1 hl (HLN.out.of_say h4) (HTT.out.of h4) (FitB.of HF.out h4) h3 hwl
    rw [h4] at h6
    exact h6
  have HBD := Lib.hid (fcC_bd b.say ws)
  generalize fcN b.say ws = n' at HSPEC HIMP
  generalize fcC b.say ws = xs at HSPEC HIMP HBD
  generalize fcOk b.say ws = ok at HSPEC HIMP
  -- the reference's answer
  obtain ⟨a0, a1, a2, a3, a4, a5⟩ := HSA.out _ HB1.out
  go_wp2_with fail
  refine (toBinaryA_any _ _ (HRX.out _ HB1.out).1 HLN.out).mono ?_
  rintro e w2 ⟨b2, rfl, ha2, hO2, _, hBx, _⟩
  have HB2 := Lib.hid (HN.out _ _ HB1.out hBx)
  have HO2 := Lib.hid hO2
  have HA2 := Lib.hid ha2
  clear hO2 ha2 hBx a0 a1 a2 a3 a4 a5
  go_wp2_with fail
  refine (toIntS_any _ _ _ _ (HRX.out _ HB2.out).2.1 hwl).mono ?_
  rintro e w2c ⟨Aw2, cw2, rfl, _, hI2, hBx⟩
  have HB2c := Lib.hid (HN.out _ _ HB2.out hBx)
  have HO2c := Lib.hid (HO2.out.below hBx (Nat.le_refl _))
  have HI2 := Lib.hid hI2
  clear hI2 hBx
  go_wp2_with fail
  refine (HSPEC.out _ _ _ _ HO2c.out.read HI2.out.ints HA2.out).mono ?_
  rintro e w3 ⟨A3, ls3, c3, rfl, hs3, hO3, _, hBx⟩
  have hl3 := say_len hs3 HBD.out.1
  have HU3 : Hid (∀ u ∈ ls3, u.r.length ≤ 1048576) := fun u hu => Nat.le_trans (say_lens hs3 HBD.out.2 u hu) (by omega)
  have HA3 := Lib.hid hs3; clear hs3
  have HB3 := Lib.hid (HN.out _ _ HB2c.out hBx)
  have HI3 : Hid (∀ q, ItsL A3 ls3 q → q < w3.heap.size) := fun q hq => (hO3.its hq).2
  have HS3 : Hid (w.heap.size + 1 ≤ w3.heap.size) := Nat.le_trans HWS.out HB3.out.size
  clear hBx HO2 HO2c HI2 HB2 HB2c HA2 HB1
  obtain ⟨a0, a1, a2, a3, a4, a5⟩ := HSA.out (w3.alloc (.cells #[.int .i64 n', .slice A3 ls3.length c3] 57)) (HN.out _ _ HB3.out (by go_grown))
  have hs3' : w.heap.size + 1 ≤ w3.heap.size := HS3.out
  go_wp2_with fail
  have hBX := below_new w3 (.cells #[.int .i64 n', .slice A3 ls3.length c3] 57)
  have hKN := BoxC.new w3 n' A3 ls3.length c3 57
  have hZ : w3.heap.size < (w3.alloc (.cells #[.int .i64 n', .slice A3 ls3.length c3] 57)).heap.size := by simp
  generalize (w3.alloc (.cells #[.int .i64 n', .slice A3 ls3.length c3] 57)) = V3 at hBX hKN hZ a0 a1 a2 a3 a4 a5 ⊢
  have HBV3 := Lib.hid (HN.out _ _ HB3.out hBX)
  have KW3 := Lib.hid hKN
  have HO3 := Lib.hid (hO3.below hBX (Nat.le_refl _))
  have HZ3 := Lib.hid hZ
  clear hBX hKN hZ hO3 HB3 hs3'
  -- the program's arguments, copies
  refine (toBinaryA_any _ _ (HRX.out _ HBV3.out).1 HLN.out).mono ?_
  rintro e w4 ⟨b4, rfl, ha4, hO4, _, hBx, hP4⟩
  clear a0 a1 a2 a3 a4 a5
  have HP4 := Lib.hid hP4; clear hP4
  have HLN4 := Lib.hid (HLN.out.of_say ha4)
  have HTT4 : Hid (b4.P.length + b4.O.length + b4.E.length ≤ 1048576) := HTT.out.of ha4
  have HA4 := Lib.hid ha4; clear ha4
  have HI4 : Hid (∀ q, ItsB b4 q → V3.heap.size ≤ q ∧ q < w4.heap.size) := fun q hq => hO4.its hq
  have HB4 := Lib.hid (HN.out _ _ HBV3.out hBx)
  have KW4 := Lib.hid (KW3.out.keep hBx KW3.out.1)
  have HO34 := Lib.hid (HO3.out.below hBx (Nat.le_refl _))
  have HS34 := Lib.hid hBx.size
  clear hBx KW3 HO3
  go_wp2_with fail
  have hBX1 : Below w4.heap.size w4 (w4.alloc (.cells #[.int .i64 b4.n, .int .i64 b4.t, .slice b4.Ap b4.P.length b4.cp, .slice b4.Ao b4.O.length b4.co, .slice b4.Ae b4.E.length b4.ce, .slice b4.Af b4.F.length b4.cf] 55)) := by go_grown
  have KX1 := Lib.hid (Box6.new w4 b4 55)
  have hX1s : w4.heap.size < (w4.alloc (.cells #[.int .i64 b4.n, .int .i64 b4.t, .slice b4.Ap b4.P.length b4.cp, .slice b4.Ao b4.O.length b4.co, .slice b4.Ae b4.E.length b4.ce, .slice b4.Af b4.F.length b4.cf] 55)).heap.size := by simp
  generalize w4.alloc (.cells #[.int .i64 b4.n, .int .i64 b4.t, .slice b4.Ap b4.P.length b4.cp, .slice b4.Ao b4.O.length b4.co, .slice b4.Ae b4.E.length b4.ce, .slice b4.Af b4.F.length b4.cf] 55) = X1 at hBX1 KX1 hX1s ⊢
  have HBX1 := Lib.hid (HN.out _ _ HB4.out hBX1)
  have HO4a := Lib.hid (hO4.below hBX1 (Nat.le_refl _))
  have HO3a := Lib.hid (HO34.out.below hBX1 (Nat.le_refl _))
  have KWa := Lib.hid (KW4.out.keep hBX1 KW4.out.1)
  have HX1S := Lib.hid hX1s
  clear hBX1 hX1s hO4 HO34 KW4 HB4
  refine (toIntS_any _ _ _ _ (HRX.out _ HBX1.out).2.1 hwl).mono ?_
  rintro e w6 ⟨A6, c6, rfl, _, hO6, hBx⟩
  have HI6 : Hid (∀ q, Its A6 ws q → X1.heap.size ≤ q ∧ q < w6.heap.size) := fun q hq => hO6.its hq
  have HB6 := Lib.hid (HN.out _ _ HBX1.out hBx)
  have KX6 := Lib.hid (KX1.out.keep hBx KX1.out.1)
  have KW6 := Lib.hid (KWa.out.keep hBx KWa.out.1)
  have HO46 := Lib.hid (HO4a.out.below hBx (Nat.le_refl _))
  have HO36 := Lib.hid (HO3a.out.below hBx (Nat.le_refl _))
  have HO66 := Lib.hid hO6
  have HS6 := Lib.hid hBx.size
  clear hBx hO6 KX1 KWa HO4a HO3a HBX1
  obtain ⟨_, x0, x1, x2, x3, x4, x5⟩ := KX6.out
  go_wp2_with fail
  -- the program's answer
  refine (HIMP.out _ _ _ _ HO46.out.read HO66.out.ints (HRX.out _ HB6.out).2.2 HA4.out).mono ?_
  rintro e w7 ⟨A7, ls7, c7, rfl, hs7, hO7, _, hB7⟩
  clear x0 x1 x2 x3 x4 x5
  have hl7 := say_len hs7 HBD.out.1
  have HU7 : Hid (∀ u ∈ ls7, u.r.length ≤ 1048576) := fun u hu => Nat.le_trans (say_lens hs7 HBD.out.2 u hu) (by omega)
  have HCN : Hid (lcnt ls7 ls7.length ≤ 100000000) := lcnt_sm hl7 (say_lens hs7 HBD.out.2)
  have HA7 := Lib.hid hs7; clear hs7
  have HI7 : Hid (∀ q, ItsL A7 ls7 q → w6.heap.size ≤ q ∧ q < w7.heap.size) := fun q hq => hO7.its hq
  have HS7 := Lib.hid hB7.size
  obtain ⟨_, r0, r1⟩ := KW6.out.keep hB7 KW6.out.1
  go_wp2_with fail
  have hBX := below_new w7 (.cells #[.int .i64 n', .slice A7 ls7.length c7] 57)
  have hKN := BoxC.new w7 n' A7 ls7.length c7 57
  generalize (w7.alloc (.cells #[.int .i64 n', .slice A7 ls7.length c7] 57)) = V7 at hBX hKN ⊢
  clear r0 r1
  have HO7 := Lib.hid (hO7.below hBX (Nat.le_refl _))
  have KG7 := Lib.hid hKN
  have HB67 := Lib.hid (hB7.trans (hBX.mono hB7.size))
  have HORD : Hid (w.heap.size + 1 ≤ w3.heap.size ∧ w3.heap.size < V3.heap.size ∧ V3.heap.size ≤ w4.heap.size ∧ w4.heap.size < X1.heap.size ∧ X1.heap.size ≤ w6.heap.size ∧ w6.heap.size ≤ w7.heap.size ∧ w7.heap.size < V7.heap.size) := ⟨HS3.out, HZ3.out, HS34.out, HX1S.out, HS6.out, HS7.out, KG7.out.1⟩
  clear hBX hKN hO7 hB7 HS3 HZ3 HS34 HX1S HS6 HS7
  -- what any later world keeps
  have HM2 : Hid (∀ V V', Below V7.heap.size V7 V → Below V.heap.size V V' → Below V7.heap.size V7 V') := fun V V' h k => h.trans (k.mono h.size)
  have HK : Hid (∀ V, Below V7.heap.size V7 V → Below (w.heap.size + 1) W V ∧ Box6 V w4.heap.size b4 ∧ BoxC V w3.heap.size n' A3 ls3.length c3 ∧ BoxC V w7.heap.size n' A7 ls7.length c7 ∧ OwnB V V3.heap.size b4 ∧ OwnI V X1.heap.size A6 ws ∧ OwnL V w2c.heap.size A3 ls3 ∧ OwnL V w6.heap.size A7 ls7) := fun V h => by
    have k : Below w6.heap.size w6 V := HB67.out.trans (h.mono HB67.out.size)
    exact ⟨HN.out _ _ HB6.out k, KX6.out.keep k KX6.out.1, KW6.out.keep k KW6.out.1, KG7.out.keep h KG7.out.1, HO46.out.below k (Nat.le_refl _), HO66.out.below k (Nat.le_refl _), HO36.out.below k (Nat.le_refl _), HO7.out.below h (Nat.le_refl _)⟩
  have HSX : Hid (∀ V, Below V7.heap.size V7 V → V.cell? ⟨w4.heap.size, 0, none⟩ = some (.int .i64 b4.n) ∧ V.cell? ⟨w4.heap.size, 1, none⟩ = some (.int .i64 b4.t) ∧ V.cell? ⟨w4.heap.size, 2, none⟩ = some (.slice b4.Ap b4.P.length b4.cp) ∧ V.cell? ⟨w4.heap.size, 3, none⟩ = some (.slice b4.Ao b4.O.length b4.co) ∧ V.cell? ⟨w4.heap.size, 4, none⟩ = some (.slice b4.Ae b4.E.length b4.ce) ∧ V.cell? ⟨w4.heap.size, 5, none⟩ = some (.slice b4.Af b4.F.length b4.cf) ∧ V.cell? ⟨w.heap.size, 0, none⟩ = some (.int .i64 b.n) ∧ V.cell? ⟨w.heap.size, 1, none⟩ = some (.int .i64 b.t) ∧ V.cell? ⟨w.heap.size, 2, none⟩ = some (.slice b.Ap b.P.length b.cp) ∧ V.cell? ⟨w.heap.size, 3, none⟩ = some (.slice b.Ao b.O.length b.co) ∧ V.cell? ⟨w.heap.size, 4, none⟩ = some (.slice b.Ae b.E.length b.ce) ∧ V.cell? ⟨w.heap.size, 5, none⟩ = some (.slice b.Af b.F.length b.cf)) := fun V h => by
    obtain ⟨_, x0, x1, x2, x3, x4, x5⟩ := (HK.out V h).2.1
    obtain ⟨a0, a1, a2, a3, a4, a5⟩ := HSA.out _ (HK.out V h).1
    exact ⟨x0, x1, x2, x3, x4, x5, a0, a1, a2, a3, a4, a5⟩
  have HW7 : Hid (Below V7.heap.size V7 V7) := Below.refl _ _
  clear KX6 KW6 KG7 HO46 HO66 HO36 HO7 HB6 HBV3
  -- they say the same
  refine (eqChart_any _ _ _ _ _ _ _ _ _ (HK.out _ HW7.out).2.2.2.2.2.2.2.lls (HK.out _ HW7.out).2.2.2.2.2.2.1.lls (by omega) HU7.out rfl (HA7.out.trans HA3.out.symm)).mono ?_
  rintro e w8 ⟨rfl, hBx⟩
  have hok : (ok != ok) = false := by simp
  have HW8 := Lib.hid (HM2.out _ _ HW7.out hBx)
  clear hBx HW7
  obtain ⟨x0, x1, x2, x3, x4, x5, a0, a1, a2, a3, a4, a5⟩ := HSX.out _ HW8.out
  go_wp2_with fail
  go_region_held3 (fun w' => w'.cell? ⟨w4.heap.size, 0, none⟩ = some (.int .i64 b4.n) ∧ w'.cell? ⟨w4.heap.size, 1, none⟩ = some (.int .i64 b4.t) ∧ w'.cell? ⟨w4.heap.size, 2, none⟩ = some (.slice b4.Ap b4.P.length b4.cp) ∧ w'.cell? ⟨w4.heap.size, 3, none⟩ = some (.slice b4.Ao b4.O.length b4.co) ∧ w'.cell? ⟨w4.heap.size, 4, none⟩ = some (.slice b4.Ae b4.E.length b4.ce) ∧ w'.cell? ⟨w4.heap.size, 5, none⟩ = some (.slice b4.Af b4.F.length b4.cf) ∧ w'.cell? ⟨w.heap.size, 0, none⟩ = some (.int .i64 b.n) ∧ w'.cell? ⟨w.heap.size, 1, none⟩ = some (.int .i64 b.t) ∧ w'.cell? ⟨w.heap.size, 2, none⟩ = some (.slice b.Ap b.P.length b.cp) ∧ w'.cell? ⟨w.heap.size, 3, none⟩ = some (.slice b.Ao b.O.length b.co) ∧ w'.cell? ⟨w.heap.size, 4, none⟩ = some (.slice b.Ae b.E.length b.ce) ∧ w'.cell? ⟨w.heap.size, 5, none⟩ = some (.slice b.Af b.F.length b.cf))
    (first | exact HSX.out _ HW10.out | exact HSX.out _ HW9.out | exact ⟨x0, x1, x2, x3, x4, x5, a0, a1, a2, a3, a4, a5⟩)
    (first
    | (go_at_call 35
       refine (toBinaryA_any _ _ ?_ HLN.out).mono ?_
       · exact (HRX.out _ (HK.out _ HW8.out).1).1.keep (by go_grown)
       rintro e w9 ⟨b9, rfl, ha9, hO9, _, hBx, _⟩
       have hB9 : Below w8.heap.size w8 w9 := Below.trans (by go_grown) hBx
       have HW9 := Lib.hid (HM2.out _ _ HW8.out hB9)
       have HO9 := Lib.hid hO9
       have HA9 := Lib.hid ha9
       clear hO9 ha9 hBx hB9)
    | (go_at_call 39
       refine (eqBinary_any _ _ _ ((HK.out _ HW9.out).2.2.2.2.1.read) HO9.out.read HLN4.out (HA4.out.trans HA9.out.symm)).mono ?_
       rintro e w10 ⟨rfl, hBx⟩
       have HW10 := Lib.hid (HM2.out _ _ HW9.out hBx)
       clear hBx))
  rename_i hHeld
  clear hHeld x0 x1 x2 x3 x4 x5 a0 a1 a2 a3 a4 a5 HO9 HA9 HW9 HW8
  go_wp2_with fail
  refine (toIntS_any _ _ _ _ (HRX.out _ (HK.out _ HW10.out).1).2.1 hwl).mono ?_
  rintro e w13 ⟨A13, c13, rfl, _, hO13, hBx⟩
  have HW13 := Lib.hid (HM2.out _ _ HW10.out hBx)
  have HO13 := Lib.hid hO13
  clear hO13 hBx HW10
  go_wp2_with fail
  refine (eqIntS_any _ _ _ _ _ _ _ (HK.out _ HW13.out).2.2.2.2.2.1.ints HO13.out.ints hwl).mono ?_
  rintro e w14 ⟨rfl, hBx⟩
  rw [eqL_refl]
  have HW14 := Lib.hid (HM2.out _ _ HW13.out hBx)
  clear hBx HO13 HW13
  obtain ⟨k0, k1, k2, k3, k4, k5, k6, k7⟩ := HK.out _ HW14.out
  have HB14 := Lib.hid k0
  have KW := Lib.hid k2
  have KG := Lib.hid k3
  have HO4 := Lib.hid k4
  have HO6 := Lib.hid k5
  have HO3 := Lib.hid k6
  have HO7 := Lib.hid k7
  obtain ⟨_, x0, x1, x2, x3, x4, x5⟩ := k1
  clear k0 k2 k3 k4 k5 k6 k7 HSX HK HM2 HB67 HW14
  -- the arguments are marked
  go_wp2_with fail
  refine (markBinary_any _ _ _ _ HO4.out HP4.out HLN4.out (by omega) (by omega)).mono ?_
  rintro e w15 ⟨rfl, _, hS⟩
  have HB15 : Hid (Below (w.heap.size + 1) W w15) := HB14.out.trans (hS.below (Nat.le_trans HWS.out HB14.out.size) fun i hi hI => by have := (HI4.out i hI).1; have := HORD.out; omega)
  have KW15 := Lib.hid (KW.out.save hS fun hI => by have := (HI4.out _ hI).1; have := HORD.out; omega)
  have KG15 := Lib.hid (KG.out.save hS fun hI => by have := (HI4.out _ hI).2; have := HORD.out; omega)
  have HO615 := Lib.hid (HO6.out.kept hS fun q hq hI => by have := (HI6.out q hq).1; have := (HI4.out q hI).2; have := HORD.out; omega)
  have HO315 := Lib.hid (HO3.out.kept hS fun q hq hI => by have := HI3.out q hq; have := (HI4.out q hI).1; have := HORD.out; omega)
  have HO715 := Lib.hid (HO7.out.kept hS fun q hq hI => by have := (HI7.out q hq).1; have := (HI4.out q hI).2; have := HORD.out; omega)
  have hcm := cntBi_le2 HLN4.out HTT4.out
  clear hS x0 x1 x2 x3 x4 x5 HB14 KW KG HO4 HO6 HO3 HO7
  go_wp2_with fail
  refine (markIntS_any _ _ _ _ _ _ HO615.out hwl (by omega) (by omega)).mono ?_
  rintro e w17 ⟨rfl, _, hS⟩
  have HB17 : Hid (Below (w.heap.size + 1) W w17) := HB15.out.trans (hS.below (Nat.le_trans HWS.out HB15.out.size) fun i hi hI => by have := (HI6.out i hI).1; have := HORD.out; omega)
  have KW17 := Lib.hid (KW15.out.save hS fun hI => by have := (HI6.out _ hI).1; have := HORD.out; omega)
  have KG17 := Lib.hid (KG15.out.save hS fun hI => by have := (HI6.out _ hI).2; have := HORD.out; omega)
  have HO317 := Lib.hid (HO315.out.kept hS fun q hq hI => by have := HI3.out q hq; have := (HI6.out q hI).1; have := HORD.out; omega)
  have HO717 := Lib.hid (HO715.out.kept hS fun q hq hI => by have := (HI7.out q hq).1; have := (HI6.out q hI).2; have := HORD.out; omega)
  clear hS HB15 KW15 KG15 HO615 HO315 HO715
  obtain ⟨_, g0, g1⟩ := KG17.out
  obtain ⟨_, r0, r1⟩ := KW17.out
  go_wp2_with fail
  refine (eqChart_any _ _ _ _ _ _ _ _ _ HO717.out.lls HO317.out.lls (by omega) HU7.out rfl (HA7.out.trans HA3.out.symm)).mono ?_
  rintro e w18 ⟨rfl, hBx⟩
  have HB18 := Lib.hid (HN.out _ _ HB17.out hBx)
  have KW18 := Lib.hid (KW17.out.keep hBx KW17.out.1)
  have KG18 := Lib.hid (KG17.out.keep hBx KG17.out.1)
  have HO318 := Lib.hid (HO317.out.below hBx (Nat.le_refl _))
  have HO718 := Lib.hid (HO717.out.below hBx (Nat.le_refl _))
  clear hBx HB17 KW17 KG17 HO317 HO717 g0 g1 r0 r1
  obtain ⟨_, g0, g1⟩ := KG18.out
  -- the answer is marked, and found again
  go_wp2_with fail
  refine (markChart_any _ _ _ _ _ _ _ HO718.out (by omega) HU7.out (by omega) (by omega)).mono ?_
  rintro e w19 ⟨rfl, hO19, hS⟩
  have HB19 : Hid (Below (w.heap.size + 1) W w19) := HB18.out.trans (hS.below (Nat.le_trans HWS.out HB18.out.size) fun i hi hI => by have := (HI7.out i hI).1; have := HORD.out; omega)
  have KW19 := Lib.hid (KW18.out.save hS fun hI => by have := (HI7.out _ hI).1; have := HORD.out; omega)
  have KG19 := Lib.hid (KG18.out.save hS fun hI => by have := (HI7.out _ hI).2; omega)
  have HO319 := Lib.hid (HO318.out.kept hS fun q hq hI => by have := HI3.out q hq; have := (HI7.out q hI).1; have := HORD.out; omega)
  have HO719 := Lib.hid hO19
  clear hO19 hS HB18 KW18 KG18 HO318 HO718 g0 g1
  obtain ⟨_, g0, g1⟩ := KG19.out
  have hcn := HCN.out
  go_wp2_with fail
  refine (heldChart_any _ _ _ _ _ _ HO719.out.lls (by omega) HU7.out (by omega) (by omega) (by omega)).mono ?_
  rintro e w20 ⟨rfl, hBx⟩
  have hne : ((1 + (lcnt ls7 ls7.length : Int)) != (1 + (lcnt ls7 ls7.length : Int))) = false := by simp
  have HB20 := Lib.hid (HN.out _ _ HB19.out hBx)
  have KW20 := Lib.hid (KW19.out.keep hBx KW19.out.1)
  have KG20 := Lib.hid (KG19.out.keep hBx KG19.out.1)
  have HO320 := Lib.hid (HO319.out.below hBx (Nat.le_refl _))
  have HO720 := Lib.hid (HO719.out.below hBx (Nat.le_refl _))
  clear hBx HB19 KW19 KG19 HO319 HO719 g0 g1
  -- the program once more
  obtain ⟨a0, a1, a2, a3, a4, a5⟩ := HSA.out _ HB20.out
  go_wp2_with fail
  refine (toBinaryA_any _ _ (HRX.out _ HB20.out).1 HLN.out).mono ?_
  rintro e w21 ⟨b21, rfl, ha21, hO21, _, hBx, _⟩
  have HB21 := Lib.hid (HN.out _ _ HB20.out hBx)
  have HK21 := Lib.hid hBx
  have HO21 := Lib.hid hO21
  have HA21 := Lib.hid ha21
  clear hO21 ha21 hBx a0 a1 a2 a3 a4 a5
  go_wp2_with fail
  refine (toIntS_any _ _ _ _ (HRX.out _ HB21.out).2.1 hwl).mono ?_
  rintro e w23 ⟨A23, c23, rfl, _, hI23, hBx⟩
  have HB23 := Lib.hid (HN.out _ _ HB21.out hBx)
  have HK23 := Lib.hid (HK21.out.trans (hBx.mono HK21.out.size))
  have HO23 := Lib.hid (HO21.out.below hBx (Nat.le_refl _))
  have HI23 := Lib.hid hI23
  clear hI23 hBx HB21 HK21 HO21
  go_wp2_with fail
  refine (HIMP.out _ _ _ _ HO23.out.read HI23.out.ints (HRX.out _ HB23.out).2.2 HA21.out).mono ?_
  rintro e w24 ⟨A24, ls24, c24, rfl, hs24, hO24, _, hBx⟩
  have hl24 := say_len hs24 HBD.out.1
  have HU24 : Hid (∀ u ∈ ls24, u.r.length ≤ 1048576) := fun u hu => Nat.le_trans (say_lens hs24 HBD.out.2 u hu) (by omega)
  have HA24 := Lib.hid hs24; clear hs24
  have HB24 := Lib.hid (HN.out _ _ HB23.out hBx)
  have HK24 := Lib.hid (HK23.out.trans (hBx.mono HK23.out.size))
  clear hBx HB23 HK23 HO23 HI23 HA21
  obtain ⟨_, r0, r1⟩ := KW20.out.keep HK24.out KW20.out.1
  go_wp2_with fail
  have hBN := below_new w24 (.cells #[.int .i64 n', .slice A24 ls24.length c24] 57)
  generalize (w24.alloc (.cells #[.int .i64 n', .slice A24 ls24.length c24] 57)) = V24 at hBN ⊢
  clear r0 r1
  have HK25 := Lib.hid (HK24.out.trans (hBN.mono HK24.out.size))
  have HO24 := Lib.hid (hO24.below hBN (Nat.le_refl _))
  have HO325 := Lib.hid (HO320.out.below HK25.out (Nat.le_refl _))
  have HO725 := Lib.hid (HO720.out.below HK25.out (Nat.le_refl _))
  have KG25 := Lib.hid (KG20.out.keep HK25.out KG20.out.1)
  have HB25 := Lib.hid (HN.out _ _ HB24.out hBN)
  clear hBN hO24 HO320 HO720 KG20 KW20 HB24 HK24
  refine (eqChart_any _ _ _ _ _ _ _ _ _ HO24.out.lls HO325.out.lls (by omega) HU24.out rfl (HA24.out.trans HA3.out.symm)).mono ?_
  rintro e w26 ⟨rfl, hBx⟩
  have KG26 := Lib.hid (KG25.out.keep hBx KG25.out.1)
  have HO726 := Lib.hid (HO725.out.below hBx (Nat.le_refl _))
  have HB26 := Lib.hid (HN.out _ _ HB25.out hBx)
  clear hBx KG25 HO725 HO325 HO24 HB25
  obtain ⟨_, g0, g1⟩ := KG26.out
  go_wp2_with fail
  refine (heldChart_any _ _ _ _ _ _ HO726.out.lls (by omega) HU7.out (by omega) (by omega) (by omega)).mono ?_
  rintro e w27 ⟨rfl, hBx⟩
  have HB27 := Lib.hid (HN.out _ _ HB26.out hBx)
  clear hBx g0 g1
  go_wp2
  go_ret
  exact ⟨rfl, HBW.out _ HB27.out⟩

end Go.Proofs.YtfbpcdmpkbjifaaDoor

/- The law of FillChart holds of every binary grammar and every list of numbers: the call returns true, and what was handed in reads afterwards as it read before. Conditions: the package's table of limits is as the program's text lays it (tied by the given tie). -/

namespace Go.Proofs.YtfbpcdmpkbjifaaDoor
open Go.ChangeShapes Go.WideShapes Go.ChangeAt Go.RowKit

set_option maxRecDepth 100000 in
theorem fillChart_lifted (os : Os) (started : os.Started) (H : Type) (enc : TypeId × Value → H) :
    ReturnsInHanded {} Tryd.checked os 9 .any (fun w args => (Rows.fnExactFillChartSpec.pre enc Tryd.prog Tryd.f9 [] false w args ∧ laidMetH Tryd.prog laid1 w) ∧ sizedMet enc Tryd.prog Tryd.f9 (OpenSpec.ofChange Rows.fnExactFillChartSpec) false w args)
      (Rows.fnExactFillChartSpec.post enc Tryd.prog Tryd.f9 false true false false) := by
  refine returnsInHanded_of_change_and (C := Tryd.checked) (X := fun w _ => laidMetH Tryd.prog laid1 w) (fun _ _ _ hh h => h.of_heap hh) Tryd.own started (by kernel_rfl) Tryd.func9
    (ChangeSpec.witness_shaped (enc := enc) (C := Tryd.checked) (os := os) (X := fun w _ => laidMetH Tryd.prog laid1 w) false (World.doorLaid Tryd.prog 400 os) #[.agg #[.int .i64 0, .int .i64 0, .slice none 0 0, .slice none 0 0, .slice none 0 0, .slice none 0 0], .slice none 0 0] 8 rfl (World.shaped_of_RefB (by kernel_rfl) (by kernel_rfl)) (by kernel_rfl) (by kernel_rfl) (by kernel_rfl) (door_met os _)) ?_
  intro W base args ds gs before hval0 hW _ _ hL _
  have hval : ∀ (j : Nat) t v, Tryd.f9.params[j]? = some t → args[j]? = some v → Value.okWide Tryd.prog W .any base t v := hval0
  have hW' := hW
  obtain ⟨p, q, hA0, hV0, rfl, hfz, hnd⟩ := hW
  have hA : DataW.TrodAll enc Tryd.prog W 0 (fun _ => true) true Tryd.f9.params.toList args.toList ds p := hA0
  have hV : DataW.TrodVars enc Tryd.prog W (fun _ => true) ["loop.example/g00758/impl.limits"] gs q := hV0
  rw [Tryd.params9] at hA hval
  obtain ⟨v0, v1, d0, d1, p0, p1, rfl, rfl, rfl, h0, h1⟩ := trodAll_two hA
  obtain ⟨g, tg, cs, fuel, dg, pg, rfl, _⟩ := trodVars_one hV
  obtain ⟨b0, rfl, _, hR0, hM0, hF0, _, _⟩ := open_binary (hval 0 49 v0 rfl rfl) h0
  obtain ⟨A1, xs1, c1, rfl, _, hR1, hN1, hF1⟩ := open_intS' (hval 1 22 v1 rfl rfl) h1
  refine (law_FillChart b0 A1 xs1 c1 W hR0 hM0 hF0 hR1 hN1 hF1 (lims_of_laid hL)).mono fun e W' ⟨he, hb⟩ => ?_
  subst he
  exact ⟨_, rfl, ends_two hW' Tryd.params9 rfl rfl (by kernel_rfl) (of_decide_eq_true (by kernel_rfl)) (by kernel_rfl) (of_decide_eq_true (by kernel_rfl)) (by kernel_rfl) hb⟩

theorem fillChart_holds : Rows.FnExactFillChartSaid :=
  OpenClaim.holds_of_wide 9 Tryd.f9 rfl rfl rfl rfl rfl rfl rfl ⟨rfl, rfl, rfl, rfl, rfl⟩ rfl rfl rfl rfl rfl (by kernel_rfl) Tryd.func9 (by kernel_rfl)
    (of_decide_eq_true (by kernel_rfl)) (by unfold Func.isWrapper; first | (rw [if_pos (by decide +kernel)]; kernel_rfl) | (rw [if_neg (by decide +kernel)]; exact ⟨rfl, rfl⟩))
    (fun os started H enc _ => fillChart_lifted os started H enc)

theorem fillChart_card : Rows.FnExactFillChartCardSaid :=
  Claim7.holds_tied_plain_at .later [] [.data] true (true, "18902ad48fee14ba0ba1e5828de7a6a28e51b3a8703fe69bc2803f0493ca1330") false
    fillChart_holds (fun _ h => by cases h) (by kernel_rfl) (fun _ h => by cases h) fnExactFillChart_row_tie rfl ⟨rfl, rfl⟩ (by kernel_rfl) rfl
    (fun f fn hf hfn => by
      obtain rfl : f = 9 := Option.some.inj ((show Tryd.prog.funcNamed "loop.example/g00758/laws.FnExactFillChart" = some 9 by kernel_rfl).symm.trans hf) |>.symm
      obtain rfl : fn = Tryd.f9 := (Option.some.inj (Tryd.func9.symm.trans hfn)).symm
      exact ⟨by kernel_rfl, fun j t ht => by
        rw [Tryd.params9] at ht
        have hm : t ∈ [49, 22] := by simpa using Array.mem_of_getElem? ht
        have hall : ([49, 22].all fun u => !Tryd.prog.wantsStandIn u) = true := by kernel_rfl
        exact (show Tryd.prog.wantsStandIn t = false by simpa using List.all_eq_true.1 hall t hm)⟩)
    (by kernel_rfl)

#print axioms fillChart_card
end Go.Proofs.YtfbpcdmpkbjifaaDoor
