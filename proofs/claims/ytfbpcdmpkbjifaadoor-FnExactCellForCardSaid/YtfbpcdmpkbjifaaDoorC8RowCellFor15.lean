/- The law of CellFor holds of every binary grammar, chart, list of numbers and two ints: the call returns true, and what was handed in reads afterwards as it read before. Conditions: the package's table of limits is as the program's text lays it (tied by the given tie). -/
import Derived.Test.YtfbpcdmpkbjifaaDoorC803
import Derived.Test.YtfbpcdmpkbjifaaDoorC814
import Derived.Test.YtfbpcdmpkbjifaaDoorC811
import Derived.Test.YtfbpcdmpkbjifaaDoorCards

namespace Go.Proofs.YtfbpcdmpkbjifaaDoor
open Go.RowKit

set_option maxRecDepth 20000 in
set_option maxHeartbeats 4000000 in
theorem law_CellFor (b : Bi) (n : Int) (A : Option Addr) (ls : List Li) (c : Nat) (Aw : Option Addr) (ws : List Int) (cw : Nat) (f t : Int) (w : World) (hx : ReadB w w.heap.size b) (hm : LenB maxLen b) (hf : FitB b.say)
    (hy : Lls w w.heap.size A ls) (hyn : ls.length ≤ maxLen) (hyu : ∀ u ∈ ls, u.r.length ≤ maxLen) (_ : FitL (sayL ls)) (_ : F64 n) (hz : Ints w w.heap.size Aw ws) (hzn : ws.length ≤ maxLen) (_ : ∀ x ∈ ws, F64 x) (_ : F64 f) (_ : F64 t) (hL : Lims w) :
    Calls Tryd.prog 8 #[(.agg #[.int .i64 b.n, .int .i64 b.t, .slice b.Ap b.P.length b.cp, .slice b.Ao b.O.length b.co, .slice b.Ae b.E.length b.ce, .slice b.Af b.F.length b.cf]), .agg #[.int .i64 n, .slice A ls.length c], .slice Aw ws.length cw, .int .i64 f, .int .i64 t] w (LawEnds w) := by
  have hzn2 := hzn
  unfold maxLen at hzn2
  by_cases hbig : (1048576 : Int) < (ws.length : Int)
  · go_enter Tryd.func8, Tryd.ntmps8
    go_wp2
    go_ret
    exact ⟨rfl, by go_grown⟩
  have hwl : ws.length ≤ 1048576 := by omega
  have HX := Lib.hid hx; clear hx
  have HY := Lib.hid hy; clear hy
  have HZ := Lib.hid hz; clear hz
  have HL := Lib.hid hL; clear hL
  have HM := Lib.hid hm; clear hm
  have HF := Lib.hid hf; clear hf
  have HYU := Lib.hid hyu; clear hyu
  have hB0 : Below w.heap.size w ((w.alloc (.cells #[.int .i64 b.n, .int .i64 b.t, .slice b.Ap b.P.length b.cp, .slice b.Ao b.O.length b.co, .slice b.Ae b.E.length b.ce, .slice b.Af b.F.length b.cf] 49)).alloc (.cells #[.int .i64 n, .slice A ls.length c] 51)) := by go_grown
  have KB0 : Hid (Box6 ((w.alloc (.cells #[.int .i64 b.n, .int .i64 b.t, .slice b.Ap b.P.length b.cp, .slice b.Ao b.O.length b.co, .slice b.Ae b.E.length b.ce, .slice b.Af b.F.length b.cf] 49)).alloc (.cells #[.int .i64 n, .slice A ls.length c] 51)) w.heap.size b) := (Box6.new w b 49).keep ((Below.refl _ _).alloc (Nat.le_refl _) _) (by simp)
  have KC0 : Hid (BoxC ((w.alloc (.cells #[.int .i64 b.n, .int .i64 b.t, .slice b.Ap b.P.length b.cp, .slice b.Ao b.O.length b.co, .slice b.Ae b.E.length b.ce, .slice b.Af b.F.length b.cf] 49)).alloc (.cells #[.int .i64 n, .slice A ls.length c] 51)) (w.heap.size + 1) n A ls.length c) := by
    have h := BoxC.new (w.alloc (.cells #[.int .i64 b.n, .int .i64 b.t, .slice b.Ap b.P.length b.cp, .slice b.Ao b.O.length b.co, .slice b.Ae b.E.length b.ce, .slice b.Af b.F.length b.cf] 49)) n A ls.length c 51
    rw [World.size_alloc] at h
    exact h
  have hW2 : ((w.alloc (.cells #[.int .i64 b.n, .int .i64 b.t, .slice b.Ap b.P.length b.cp, .slice b.Ao b.O.length b.co, .slice b.Ae b.E.length b.ce, .slice b.Af b.F.length b.cf] 49)).alloc (.cells #[.int .i64 n, .slice A ls.length c] 51)).heap.size = w.heap.size + 2 := by simp
  obtain ⟨_, a0, a1, a2, a3, a4, a5⟩ := KB0.out
  obtain ⟨_, e0, e1⟩ := KC0.out
  go_enter Tryd.func8, Tryd.ntmps8
  go_wp2_with fail
  generalize ((w.alloc (.cells #[.int .i64 b.n, .int .i64 b.t, .slice b.Ap b.P.length b.cp, .slice b.Ao b.O.length b.co, .slice b.Ae b.E.length b.ce, .slice b.Af b.F.length b.cf] 49)).alloc (.cells #[.int .i64 n, .slice A ls.length c] 51)) = W at hB0 KB0 KC0 hW2 a0 a1 a2 a3 a4 a5 e0 e1 ⊢
  have HB0 := Lib.hid hB0; clear hB0
  have hWs : w.heap.size + 2 ≤ W.heap.size := by omega
  have HWS := Lib.hid hWs
  clear hW2 hWs
  -- what any later world keeps
  have HN : Hid (∀ V V', Below (w.heap.size + 2) W V → Below V.heap.size V V' → Below (w.heap.size + 2) W V') := fun V V' h k => h.trans (k.mono (Nat.le_trans HWS.out h.size))
  have HBW : Hid (∀ V, Below (w.heap.size + 2) W V → Below w.heap.size w V) := fun V h => HB0.out.trans (h.mono (by omega))
  have HSA : Hid (∀ V, Below (w.heap.size + 2) W V → V.cell? ⟨w.heap.size, 0, none⟩ = some (.int .i64 b.n) ∧ V.cell? ⟨w.heap.size, 1, none⟩ = some (.int .i64 b.t) ∧ V.cell? ⟨w.heap.size, 2, none⟩ = some (.slice b.Ap b.P.length b.cp) ∧ V.cell? ⟨w.heap.size, 3, none⟩ = some (.slice b.Ao b.O.length b.co) ∧ V.cell? ⟨w.heap.size, 4, none⟩ = some (.slice b.Ae b.E.length b.ce) ∧ V.cell? ⟨w.heap.size, 5, none⟩ = some (.slice b.Af b.F.length b.cf) ∧ V.cell? ⟨w.heap.size + 1, 0, none⟩ = some (.int .i64 n) ∧ V.cell? ⟨w.heap.size + 1, 1, none⟩ = some (.slice A ls.length c)) := fun V h => by
    obtain ⟨_, a0, a1, a2, a3, a4, a5⟩ := KB0.out.keep h (by omega)
    obtain ⟨_, e0, e1⟩ := KC0.out.keep h (by omega)
    exact ⟨a0, a1, a2, a3, a4, a5, e0, e1⟩
  have HRX : Hid (∀ V, Below (w.heap.size + 2) W V → ReadB V V.heap.size b ∧ Lls V V.heap.size A ls ∧ Ints V V.heap.size Aw ws ∧ Lims V) := fun V h => by
    have k := HBW.out V h
    exact ⟨(HX.out.keep k).more k.size, (HY.out.keep k).more k.size, (HZ.out.keep k).more k.size, HL.out.keep k (Nat.le_refl _)⟩
  have HWW : Hid (Below (w.heap.size + 2) W W) := Below.refl _ _
  refine (szBinary_any _ _ (HRX.out _ HWW.out).1 HM.out).mono ?_
  rintro e w1 ⟨rfl, hB1⟩
  have HB1 := Lib.hid (HN.out _ _ HWW.out hB1); clear hB1
  by_cases hneg : szB (sayL b.P) (sayL b.O) b.E (sayL b.F) 1048576 < 0
  · go_wp2
    go_ret
    exact ⟨rfl, HBW.out _ HB1.out⟩
  have HLN : Hid (LenB 1048576 b) := szB_bound (by omega)
  have HTT : Hid (TotB b.say) := szB_total (by omega)
  have hsz0 : 0 ≤ szB (sayL b.P) (sayL b.O) b.E (sayL b.F) 1048576 := by omega
  have hsz1 : szB (sayL b.P) (sayL b.O) b.E (sayL b.F) 1048576 ≤ 1048576 := szB_le
  generalize szB (sayL b.P) (sayL b.O) b.E (sayL b.F) 1048576 = L1 at hsz0 hsz1 hneg ⊢
  clear a0 a1 a2 a3 a4 a5 e0 e1
  obtain ⟨a0, a1, a2, a3, a4, a5, e0, e1⟩ := HSA.out _ HB1.out
  go_wp2_with fail
  refine (szChart_any _ _ _ _ _ _ (HRX.out _ HB1.out).2.1 hyn HYU.out hsz0 hsz1).mono ?_
  rintro e w1b ⟨rfl, hB1b⟩
  have HB1b := Lib.hid (HN.out _ _ HB1.out hB1b); clear hB1b
  by_cases hneg2 : szLs (sayL ls) L1 < 0
  · go_wp2
    go_ret
    exact ⟨rfl, HBW.out _ HB1b.out⟩
  obtain ⟨hl0, hu0⟩ := szLs_bound (rs := sayL ls) (L := L1) hsz0 (by omega)
  have hlen : ls.length ≤ 1048576 := by rw [sayL_len] at hl0; omega
  have HLC : Hid (∀ u ∈ ls, u.r.length ≤ 1048576) := fun u hu => by have := hu0 _ (sayL_mem hu); omega
  clear hl0 hu0 a0 a1 a2 a3 a4 a5 e0 e1
  -- both answers
  have HSPEC : Hid (∀ (b' : Bi) (A' Aw' : Option Addr) (ls' : List Li) (c' cw' : Nat) (V : World), ReadB V V.heap.size b' → Lls V V.heap.size A' ls' → Ints V V.heap.size Aw' ws → b'.say = b.say → sayL ls' = sayL ls →
      Calls Tryd.prog 34 #[(.agg #[.int .i64 b'.n, .int .i64 b'.t, .slice b'.Ap b'.P.length b'.cp, .slice b'.Ao b'.O.length b'.co, .slice b'.Ae b'.E.length b'.ce, .slice b'.Af b'.F.length b'.cf]), .agg #[.int .i64 n, .slice A' ls'.length c'], .slice Aw' ws.length cw', .int .i64 f, .int .i64 t] V (GaveP V (bP (OkF b.say n (sayL ls) ws f t)) (PUp b.say (cellBase b.say ws (sayL ls) f t)))) := fun b' A' Aw' ls' c' cw' V h1 h2 h3 h4 h5 => by
    have h6 := specCellFor_any b' n f t A' Aw' ls' ws c' cw' V h1 (HLN.out.of_say h4) h2 (Nat.le_trans (Nat.le_of_eq ((sayL_len' h5).trans sayL_len)) hlen) (say_lens h5 fun x hx => by obtain ⟨u, hu, rfl⟩ := List.mem_map.1 hx; exact HLC.out u hu) h3 hwl
    rw [h4, h5] at h6
    exact h6
  have HIMPL : Hid (∀ (b' : Bi) (A' Aw' : Option Addr) (ls' : List Li) (c' cw' : Nat) (V : World), ReadB V V.heap.size b' → Lls V V.heap.size A' ls' → Ints V V.heap.size Aw' ws → Lims V → b'.say = b.say → sayL ls' = sayL ls →
      Calls Tryd.prog 38 #[(.agg #[.int .i64 b'.n, .int .i64 b'.t, .slice b'.Ap b'.P.length b'.cp, .slice b'.Ao b'.O.length b'.co, .slice b'.Ae b'.E.length b'.ce, .slice b'.Af b'.F.length b'.cf]), .agg #[.int .i64 n, .slice A' ls'.length c'], .slice Aw' ws.length cw', .int .i64 f, .int .i64 t] V (GaveP V (bP (OkF b.say n (sayL ls) ws f t)) (PUp b.say (cellBase b.say ws (sayL ls) f t)))) := fun b' A' Aw' ls' c' cw' V h1 h2 h3 hl h4 h5 => by
    have h6 := implCellFor_any b' n f t A' Aw' ls' ws c' cw' V h1 hl (HLN.out.of_say h4) (HTT.out.of h4) (FitB.of HF.out h4) h2 (Nat.le_trans (Nat.le_of_eq ((sayL_len' h5).trans sayL_len)) hlen) (say_lens h5 fun x hx => by obtain ⟨u, hu, rfl⟩ := List.mem_map.1 hx; exact HLC.out u hu) h3 hwl
    rw [h4, h5] at h6
    exact h6
  have HUQ : Hid (∀ S T, PUp b.say (cellBase b.say ws (sayL ls) f t) S → PUp b.say (cellBase b.say ws (sayL ls) f t) T → S = T) := fun _ _ h k => PUp.unique h k
  generalize bP (OkF b.say n (sayL ls) ws f t) = ok at HSPEC HIMPL
  generalize PUp b.say (cellBase b.say ws (sayL ls) f t) = PU at HSPEC HIMPL HUQ
  -- the reference's answer
  obtain ⟨a0, a1, a2, a3, a4, a5, e0, e1⟩ := HSA.out _ HB1b.out
  go_wp2_with fail
  go_region_held3 (fun w' => w'.cell? ⟨w.heap.size, 0, none⟩ = some (.int .i64 b.n) ∧ w'.cell? ⟨w.heap.size, 1, none⟩ = some (.int .i64 b.t) ∧ w'.cell? ⟨w.heap.size, 2, none⟩ = some (.slice b.Ap b.P.length b.cp) ∧ w'.cell? ⟨w.heap.size, 3, none⟩ = some (.slice b.Ao b.O.length b.co) ∧ w'.cell? ⟨w.heap.size, 4, none⟩ = some (.slice b.Ae b.E.length b.ce) ∧ w'.cell? ⟨w.heap.size, 5, none⟩ = some (.slice b.Af b.F.length b.cf) ∧ w'.cell? ⟨w.heap.size + 1, 0, none⟩ = some (.int .i64 n) ∧ w'.cell? ⟨w.heap.size + 1, 1, none⟩ = some (.slice A ls.length c))
    (first | exact HSA.out _ HB3.out | exact HSA.out _ HB2c.out | exact HSA.out _ HB2b.out | exact HSA.out _ HB2.out | exact ⟨a0, a1, a2, a3, a4, a5, e0, e1⟩)
    (first
    | (go_at_call 35
       refine (toBinaryA_any _ _ ?_ HLN.out).mono ?_
       · exact (HRX.out _ HB1b.out).1.keep (by go_grown)
       rintro e w2 ⟨b2, rfl, ha2, hO2, _, hBx, _⟩
       have hB2 : Below w1b.heap.size w1b w2 := Below.trans (by go_grown) hBx
       have HB2 := Lib.hid (HN.out _ _ HB1b.out hB2)
       have HO2 := Lib.hid hO2
       have HA2 := Lib.hid ha2
       clear hO2 ha2 hBx hB2)
    | (go_at_call 36
       refine (toChart_any _ _ _ _ _ (HRX.out _ HB2.out).2.1 hlen HLC.out).mono ?_
       rintro e w2b ⟨A2, ls2, c2, rfl, hl2, hJ2, _, hBx⟩
       have HB2b := Lib.hid (HN.out _ _ HB2.out hBx)
       have HO2b := Lib.hid (HO2.out.below hBx (Nat.le_refl _))
       have HJ2 := Lib.hid hJ2
       have HL2 := Lib.hid hl2
       clear hJ2 hl2 hBx)
    | (go_at_call 37
       refine (toIntS_any _ _ _ _ (HRX.out _ HB2b.out).2.2.1 hwl).mono ?_
       rintro e w2c ⟨Aw2, cw2, rfl, _, hI2, hBx⟩
       have HB2c := Lib.hid (HN.out _ _ HB2b.out hBx)
       have HO2c := Lib.hid (HO2b.out.below hBx (Nat.le_refl _))
       have HJ2c := Lib.hid (HJ2.out.below hBx (Nat.le_refl _))
       have HI2 := Lib.hid hI2
       clear hI2 hBx)
    | (go_at_call 34
       refine (HSPEC.out _ _ _ _ _ _ _ HO2c.out.read HJ2c.out.lls HI2.out.ints HA2.out HL2.out).mono ?_
       rintro e w3 ⟨ys, hy1, hy2, hy3, A3, c3, rfl, hO3, hBx⟩
       have HB3 := Lib.hid (HN.out _ _ HB2c.out hBx)
       have HO3 := Lib.hid hO3
       have HY12 := Lib.hid (And.intro hy1 hy2)
       have hyl : ys.length ≤ 1048576 := Nat.le_trans hy3 (by decide)
       clear hy1 hy2 hy3 hO3 hBx))
  rename_i hHeld
  clear hHeld a0 a1 a2 a3 a4 a5 e0 e1
  have HIMP : Hid (∀ (b' : Bi) (A' Aw' : Option Addr) (ls' : List Li) (c' cw' : Nat) (V : World), ReadB V V.heap.size b' → Lls V V.heap.size A' ls' → Ints V V.heap.size Aw' ws → Lims V → b'.say = b.say → sayL ls' = sayL ls →
      Calls Tryd.prog 38 #[(.agg #[.int .i64 b'.n, .int .i64 b'.t, .slice b'.Ap b'.P.length b'.cp, .slice b'.Ao b'.O.length b'.co, .slice b'.Ae b'.E.length b'.ce, .slice b'.Af b'.F.length b'.cf]), .agg #[.int .i64 n, .slice A' ls'.length c'], .slice Aw' ws.length cw', .int .i64 f, .int .i64 t] V (GaveIB V ys ok)) := fun b' A' Aw' ls' c' cw' V h1 h2 h3 hl h4 h5 => by
    refine (HIMPL.out b' A' Aw' ls' c' cw' V h1 h2 h3 hl h4 h5).mono fun e v' hh => ?_
    obtain ⟨zs, z1, z2, _, z4⟩ := hh
    have e : zs = ys := same_list HUQ.out z1 z2 HY12.out.1 HY12.out.2
    exact e ▸ z4
  have HI3 : Hid (∀ q, Its A3 ys q → q < w3.heap.size) := fun q hq => (HO3.out.its hq).2
  clear HSPEC HIMPL HUQ HY12 HB2 HB2b HB2c HO2 HO2b HO2c HA2 HJ2 HJ2c HL2 HI2
  -- the program's arguments, copies
  obtain ⟨a0, a1, a2, a3, a4, a5, e0, e1⟩ := HSA.out _ HB3.out
  go_wp2_with fail
  refine (toBinaryA_any _ _ (HRX.out _ HB3.out).1 HLN.out).mono ?_
  rintro e w4 ⟨b4, rfl, ha4, hO4, _, hBx, hP4⟩
  clear a0 a1 a2 a3 a4 a5 e0 e1
  have HP4 := Lib.hid hP4; clear hP4
  have HLN4 := Lib.hid (HLN.out.of_say ha4)
  have HTT4 : Hid (b4.P.length + b4.O.length + b4.E.length ≤ 1048576) := HTT.out.of ha4
  have HA4 := Lib.hid ha4; clear ha4
  have HI4 : Hid (∀ q, ItsB b4 q → w3.heap.size ≤ q ∧ q < w4.heap.size) := fun q hq => hO4.its hq
  have HB4 := Lib.hid (HN.out _ _ HB3.out hBx)
  have HO3a := Lib.hid (HO3.out.below hBx (Nat.le_refl _))
  have HS34 := Lib.hid hBx.size
  have HS3 : Hid (w.heap.size + 2 ≤ w3.heap.size) := Nat.le_trans HWS.out HB3.out.size
  clear hBx HO3
  obtain ⟨_, _, _, _, _, _, e0, e1⟩ := HSA.out (w4.alloc (.cells #[.int .i64 b4.n, .int .i64 b4.t, .slice b4.Ap b4.P.length b4.cp, .slice b4.Ao b4.O.length b4.co, .slice b4.Ae b4.E.length b4.ce, .slice b4.Af b4.F.length b4.cf] 55)) (HN.out _ _ HB4.out (by go_grown))
  have hs4 : w.heap.size + 2 ≤ w4.heap.size := Nat.le_trans HS3.out HS34.out
  go_wp2_with fail
  have hBX1 : Below w4.heap.size w4 (w4.alloc (.cells #[.int .i64 b4.n, .int .i64 b4.t, .slice b4.Ap b4.P.length b4.cp, .slice b4.Ao b4.O.length b4.co, .slice b4.Ae b4.E.length b4.ce, .slice b4.Af b4.F.length b4.cf] 55)) := by go_grown
  have KX1 := Lib.hid (Box6.new w4 b4 55)
  have hX1s : w4.heap.size < (w4.alloc (.cells #[.int .i64 b4.n, .int .i64 b4.t, .slice b4.Ap b4.P.length b4.cp, .slice b4.Ao b4.O.length b4.co, .slice b4.Ae b4.E.length b4.ce, .slice b4.Af b4.F.length b4.cf] 55)).heap.size := by simp
  generalize w4.alloc (.cells #[.int .i64 b4.n, .int .i64 b4.t, .slice b4.Ap b4.P.length b4.cp, .slice b4.Ao b4.O.length b4.co, .slice b4.Ae b4.E.length b4.ce, .slice b4.Af b4.F.length b4.cf] 55) = X1 at hBX1 KX1 hX1s ⊢
  have HBX1 := Lib.hid (HN.out _ _ HB4.out hBX1)
  have HO4a := Lib.hid (hO4.below hBX1 (Nat.le_refl _))
  have HO3b := Lib.hid (HO3a.out.below hBX1 (Nat.le_refl _))
  have HX1S := Lib.hid hX1s
  clear hBX1 hX1s hO4 HO3a e0 e1 hs4
  refine (toChart_any _ _ _ _ _ (HRX.out _ HBX1.out).2.1 hlen HLC.out).mono ?_
  rintro e w5 ⟨A5, ls5, c5, rfl, hl5, hO5, _, hBx⟩
  have hlen5 : ls5.length ≤ 1048576 := Nat.le_trans (Nat.le_of_eq ((sayL_len' hl5).trans sayL_len)) hlen
  have HLC5 : Hid (∀ u ∈ ls5, u.r.length ≤ 1048576) := say_lens hl5 fun x hx => by obtain ⟨u, hu, rfl⟩ := List.mem_map.1 hx; exact HLC.out u hu
  have HL5 := Lib.hid hl5; clear hl5
  have HI5 : Hid (∀ q, ItsL A5 ls5 q → X1.heap.size ≤ q ∧ q < w5.heap.size) := fun q hq => hO5.its hq
  have HB5 := Lib.hid (HN.out _ _ HBX1.out hBx)
  have HO4b := Lib.hid (HO4a.out.below hBx (Nat.le_refl _))
  have HO3c := Lib.hid (HO3b.out.below hBx (Nat.le_refl _))
  have KX2 := Lib.hid (KX1.out.keep hBx KX1.out.1)
  have HX1S5 := Lib.hid hBx.size
  clear hBx HO4a HO3b KX1
  go_wp2_with fail
  have hBX2 : Below w5.heap.size w5 (w5.alloc (.cells #[.int .i64 n, .slice A5 ls5.length c5] 57)) := by go_grown
  have KY2 := Lib.hid (BoxC.new w5 n A5 ls5.length c5 57)
  have hX2s : w5.heap.size < (w5.alloc (.cells #[.int .i64 n, .slice A5 ls5.length c5] 57)).heap.size := by simp
  generalize w5.alloc (.cells #[.int .i64 n, .slice A5 ls5.length c5] 57) = X2 at hBX2 KY2 hX2s ⊢
  have HBX2 := Lib.hid (HN.out _ _ HB5.out hBX2)
  have KX3 := Lib.hid (KX2.out.keep hBX2 KX2.out.1)
  have HO4c := Lib.hid (HO4b.out.below hBX2 (Nat.le_refl _))
  have HO5a := Lib.hid (hO5.below hBX2 (Nat.le_refl _))
  have HO3d := Lib.hid (HO3c.out.below hBX2 (Nat.le_refl _))
  have HX2S := Lib.hid hX2s
  clear hBX2 hX2s hO5 HO4b HO3c KX2
  refine (toIntS_any _ _ _ _ (HRX.out _ HBX2.out).2.2.1 hwl).mono ?_
  rintro e w6 ⟨A6, c6, rfl, _, hO6, hBx⟩
  have HI6 : Hid (∀ q, Its A6 ws q → X2.heap.size ≤ q ∧ q < w6.heap.size) := fun q hq => hO6.its hq
  have HB6 := Lib.hid (HN.out _ _ HBX2.out hBx)
  have KX6 := Lib.hid (KX3.out.keep hBx KX3.out.1)
  have KY6 := Lib.hid (KY2.out.keep hBx KY2.out.1)
  have HO46 := Lib.hid (HO4c.out.below hBx (Nat.le_refl _))
  have HO56 := Lib.hid (HO5a.out.below hBx (Nat.le_refl _))
  have HO66 := Lib.hid hO6
  have HO36 := Lib.hid (HO3d.out.below hBx (Nat.le_refl _))
  have HORD : Hid (w.heap.size + 2 ≤ w3.heap.size ∧ w3.heap.size ≤ w4.heap.size ∧ w4.heap.size < X1.heap.size ∧ X1.heap.size ≤ w5.heap.size ∧ w5.heap.size < X2.heap.size ∧ X2.heap.size ≤ w6.heap.size) := ⟨HS3.out, HS34.out, HX1S.out, HX1S5.out, HX2S.out, hBx.size⟩
  clear hBx hO6 KX3 KY2 HO4c HO5a HO3d HS3 HS34 HX1S HX1S5 HX2S
  obtain ⟨_, x0, x1, x2, x3, x4, x5⟩ := KX6.out
  obtain ⟨_, y0, y1⟩ := KY6.out
  go_wp2_with fail
  -- the program's answer
  refine (HIMP.out _ _ _ _ _ _ _ HO46.out.read HO56.out.lls HO66.out.ints (HRX.out _ HB6.out).2.2.2 HA4.out HL5.out).mono ?_
  rintro e w7 ⟨A7, c7, rfl, hO7, hB7⟩
  clear x0 x1 x2 x3 x4 x5 y0 y1
  have HI7 : Hid (∀ q, Its A7 ys q → w6.heap.size ≤ q) := fun q hq => (hO7.its hq).1
  have HO7 := Lib.hid hO7; clear hO7
  have HB67 := Lib.hid hB7; clear hB7
  -- what any later world keeps
  have HM : Hid (∀ V V', Below w7.heap.size w7 V → Below V.heap.size V V' → Below w7.heap.size w7 V') := fun V V' h k => h.trans (k.mono h.size)
  have HK : Hid (∀ V, Below w7.heap.size w7 V → Below (w.heap.size + 2) W V ∧ Box6 V w4.heap.size b4 ∧ BoxC V w5.heap.size n A5 ls5.length c5 ∧ OwnB V w3.heap.size b4 ∧ OwnL V X1.heap.size A5 ls5 ∧ OwnI V X2.heap.size A6 ws ∧ OwnI V w2c.heap.size A3 ys ∧ OwnI V w6.heap.size A7 ys) := fun V h => by
    have k : Below w6.heap.size w6 V := HB67.out.trans (h.mono HB67.out.size)
    exact ⟨HN.out _ _ HB6.out k, KX6.out.keep k KX6.out.1, KY6.out.keep k KY6.out.1, HO46.out.below k (Nat.le_refl _), HO56.out.below k (Nat.le_refl _), HO66.out.below k (Nat.le_refl _), HO36.out.below k (Nat.le_refl _), HO7.out.below h (Nat.le_refl _)⟩
  have HSX : Hid (∀ V, Below w7.heap.size w7 V → V.cell? ⟨w4.heap.size, 0, none⟩ = some (.int .i64 b4.n) ∧ V.cell? ⟨w4.heap.size, 1, none⟩ = some (.int .i64 b4.t) ∧ V.cell? ⟨w4.heap.size, 2, none⟩ = some (.slice b4.Ap b4.P.length b4.cp) ∧ V.cell? ⟨w4.heap.size, 3, none⟩ = some (.slice b4.Ao b4.O.length b4.co) ∧ V.cell? ⟨w4.heap.size, 4, none⟩ = some (.slice b4.Ae b4.E.length b4.ce) ∧ V.cell? ⟨w4.heap.size, 5, none⟩ = some (.slice b4.Af b4.F.length b4.cf) ∧ V.cell? ⟨w5.heap.size, 0, none⟩ = some (.int .i64 n) ∧ V.cell? ⟨w5.heap.size, 1, none⟩ = some (.slice A5 ls5.length c5) ∧ V.cell? ⟨w.heap.size, 0, none⟩ = some (.int .i64 b.n) ∧ V.cell? ⟨w.heap.size, 1, none⟩ = some (.int .i64 b.t) ∧ V.cell? ⟨w.heap.size, 2, none⟩ = some (.slice b.Ap b.P.length b.cp) ∧ V.cell? ⟨w.heap.size, 3, none⟩ = some (.slice b.Ao b.O.length b.co) ∧ V.cell? ⟨w.heap.size, 4, none⟩ = some (.slice b.Ae b.E.length b.ce) ∧ V.cell? ⟨w.heap.size, 5, none⟩ = some (.slice b.Af b.F.length b.cf) ∧ V.cell? ⟨w.heap.size + 1, 0, none⟩ = some (.int .i64 n) ∧ V.cell? ⟨w.heap.size + 1, 1, none⟩ = some (.slice A ls.length c)) := fun V h => by
    obtain ⟨_, x0, x1, x2, x3, x4, x5⟩ := (HK.out V h).2.1
    obtain ⟨_, y0, y1⟩ := (HK.out V h).2.2.1
    obtain ⟨a0, a1, a2, a3, a4, a5, e0, e1⟩ := HSA.out _ (HK.out V h).1
    exact ⟨x0, x1, x2, x3, x4, x5, y0, y1, a0, a1, a2, a3, a4, a5, e0, e1⟩
  have HW7 : Hid (Below w7.heap.size w7 w7) := Below.refl _ _
  clear KX6 KY6 HO46 HO56 HO66 HO36 HO7 HB6 HBX2 HB5 HBX1 HB4 HB3
  -- they say the same
  go_wp2_with fail
  refine (eqIntS_any _ _ _ _ _ _ _ (HK.out _ HW7.out).2.2.2.2.2.2.2.ints (HK.out _ HW7.out).2.2.2.2.2.2.1.ints hyl).mono ?_
  rintro e w8 ⟨rfl, hBx⟩
  rw [eqL_refl]
  have hok : (ok != ok) = false := by simp
  have HW8 := Lib.hid (HM.out _ _ HW7.out hBx); clear hBx HW7
  obtain ⟨x0, x1, x2, x3, x4, x5, y0, y1, a0, a1, a2, a3, a4, a5, e0, e1⟩ := HSX.out _ HW8.out
  go_wp2_with fail
  go_region_held3 (fun w' => w'.cell? ⟨w4.heap.size, 0, none⟩ = some (.int .i64 b4.n) ∧ w'.cell? ⟨w4.heap.size, 1, none⟩ = some (.int .i64 b4.t) ∧ w'.cell? ⟨w4.heap.size, 2, none⟩ = some (.slice b4.Ap b4.P.length b4.cp) ∧ w'.cell? ⟨w4.heap.size, 3, none⟩ = some (.slice b4.Ao b4.O.length b4.co) ∧ w'.cell? ⟨w4.heap.size, 4, none⟩ = some (.slice b4.Ae b4.E.length b4.ce) ∧ w'.cell? ⟨w4.heap.size, 5, none⟩ = some (.slice b4.Af b4.F.length b4.cf) ∧ w'.cell? ⟨w5.heap.size, 0, none⟩ = some (.int .i64 n) ∧ w'.cell? ⟨w5.heap.size, 1, none⟩ = some (.slice A5 ls5.length c5) ∧ w'.cell? ⟨w.heap.size, 0, none⟩ = some (.int .i64 b.n) ∧ w'.cell? ⟨w.heap.size, 1, none⟩ = some (.int .i64 b.t) ∧ w'.cell? ⟨w.heap.size, 2, none⟩ = some (.slice b.Ap b.P.length b.cp) ∧ w'.cell? ⟨w.heap.size, 3, none⟩ = some (.slice b.Ao b.O.length b.co) ∧ w'.cell? ⟨w.heap.size, 4, none⟩ = some (.slice b.Ae b.E.length b.ce) ∧ w'.cell? ⟨w.heap.size, 5, none⟩ = some (.slice b.Af b.F.length b.cf) ∧ w'.cell? ⟨w.heap.size + 1, 0, none⟩ = some (.int .i64 n) ∧ w'.cell? ⟨w.heap.size + 1, 1, none⟩ = some (.slice A ls.length c))
    (first | exact HSX.out _ HW10.out | exact HSX.out _ HW9.out | exact ⟨x0, x1, x2, x3, x4, x5, y0, y1, a0, a1, a2, a3, a4, a5, e0, e1⟩)
    (first
    | (go_at_call 35
       refine (toBinaryA_any _ _ ?_ HLN.out).mono ?_
       · exact (HRX.out _ (HK.out _ HW8.out).1).1.keep (by go_grown)
       rintro e w9 ⟨b9, rfl, ha9, hO9, _, hBx, _⟩
       have hB9 : Below w8.heap.size w8 w9 := Below.trans (by go_grown) hBx
       have HW9 := Lib.hid (HM.out _ _ HW8.out hB9)
       have HO9 := Lib.hid hO9
       have HA9 := Lib.hid ha9
       clear hO9 ha9 hBx hB9)
    | (go_at_call 39
       refine (eqBinary_any _ _ _ ((HK.out _ HW9.out).2.2.2.1.read) HO9.out.read HLN4.out (HA4.out.trans HA9.out.symm)).mono ?_
       rintro e w10 ⟨rfl, hBx⟩
       have HW10 := Lib.hid (HM.out _ _ HW9.out hBx)
       clear hBx))
  rename_i hHeld
  clear hHeld x0 x1 x2 x3 x4 x5 y0 y1 a0 a1 a2 a3 a4 a5 e0 e1 HO9 HA9 HW9 HW8
  obtain ⟨x0, x1, x2, x3, x4, x5, y0, y1, a0, a1, a2, a3, a4, a5, e0, e1⟩ := HSX.out _ HW10.out
  go_wp2_with fail
  go_region_held3 (fun w' => w'.cell? ⟨w4.heap.size, 0, none⟩ = some (.int .i64 b4.n) ∧ w'.cell? ⟨w4.heap.size, 1, none⟩ = some (.int .i64 b4.t) ∧ w'.cell? ⟨w4.heap.size, 2, none⟩ = some (.slice b4.Ap b4.P.length b4.cp) ∧ w'.cell? ⟨w4.heap.size, 3, none⟩ = some (.slice b4.Ao b4.O.length b4.co) ∧ w'.cell? ⟨w4.heap.size, 4, none⟩ = some (.slice b4.Ae b4.E.length b4.ce) ∧ w'.cell? ⟨w4.heap.size, 5, none⟩ = some (.slice b4.Af b4.F.length b4.cf) ∧ w'.cell? ⟨w5.heap.size, 0, none⟩ = some (.int .i64 n) ∧ w'.cell? ⟨w5.heap.size, 1, none⟩ = some (.slice A5 ls5.length c5) ∧ w'.cell? ⟨w.heap.size, 0, none⟩ = some (.int .i64 b.n) ∧ w'.cell? ⟨w.heap.size, 1, none⟩ = some (.int .i64 b.t) ∧ w'.cell? ⟨w.heap.size, 2, none⟩ = some (.slice b.Ap b.P.length b.cp) ∧ w'.cell? ⟨w.heap.size, 3, none⟩ = some (.slice b.Ao b.O.length b.co) ∧ w'.cell? ⟨w.heap.size, 4, none⟩ = some (.slice b.Ae b.E.length b.ce) ∧ w'.cell? ⟨w.heap.size, 5, none⟩ = some (.slice b.Af b.F.length b.cf) ∧ w'.cell? ⟨w.heap.size + 1, 0, none⟩ = some (.int .i64 n) ∧ w'.cell? ⟨w.heap.size + 1, 1, none⟩ = some (.slice A ls.length c))
    (first | exact HSX.out _ HW12.out | exact HSX.out _ HW11.out | exact ⟨x0, x1, x2, x3, x4, x5, y0, y1, a0, a1, a2, a3, a4, a5, e0, e1⟩)
    (first
    | (go_at_call 36
       refine (toChart_any _ _ _ _ _ ?_ hlen HLC.out).mono ?_
       · exact (HRX.out _ (HK.out _ HW10.out).1).2.1.keep (by go_grown)
       rintro e w11 ⟨A11, ls11, c11, rfl, hl11, hO11, _, hBx⟩
       have hB11 : Below w10.heap.size w10 w11 := Below.trans (by go_grown) hBx
       have HW11 := Lib.hid (HM.out _ _ HW10.out hB11)
       have HO11 := Lib.hid hO11
       have HL11 := Lib.hid hl11
       clear hO11 hl11 hBx hB11)
    | (go_at_call 40
       refine (eqChart_any _ _ _ _ _ _ _ _ _ ((HK.out _ HW11.out).2.2.2.2.1.lls) HO11.out.lls hlen5 HLC5.out rfl (HL5.out.trans HL11.out.symm)).mono ?_
       rintro e w12 ⟨rfl, hBx⟩
       have HW12 := Lib.hid (HM.out _ _ HW11.out hBx)
       clear hBx))
  rename_i hHeld
  clear hHeld x0 x1 x2 x3 x4 x5 y0 y1 a0 a1 a2 a3 a4 a5 e0 e1 HO11 HL11 HW11 HW10
  go_wp2_with fail
  refine (toIntS_any _ _ _ _ (HRX.out _ (HK.out _ HW12.out).1).2.2.1 hwl).mono ?_
  rintro e w13 ⟨A13, c13, rfl, _, hO13, hBx⟩
  have HW13 := Lib.hid (HM.out _ _ HW12.out hBx)
  have HO13 := Lib.hid hO13
  clear hO13 hBx HW12
  go_wp2_with fail
  refine (eqIntS_any _ _ _ _ _ _ _ (HK.out _ HW13.out).2.2.2.2.2.1.ints HO13.out.ints hwl).mono ?_
  rintro e w14 ⟨rfl, hBx⟩
  rw [eqL_refl]
  have HW14 := Lib.hid (HM.out _ _ HW13.out hBx)
  clear hBx HO13 HW13
  obtain ⟨k0, k1, k2, k3, k4, k5, k6, k7⟩ := HK.out _ HW14.out
  have KY14 := Lib.hid k2
  have HB14 := Lib.hid k0
  have HO4 := Lib.hid k3
  have HO5 := Lib.hid k4
  have HO6 := Lib.hid k5
  have HO3 := Lib.hid k6
  have HO7 := Lib.hid k7
  have HW14S : Hid (w6.heap.size ≤ w14.heap.size) := Nat.le_trans HB67.out.size HW14.out.size
  obtain ⟨_, x0, x1, x2, x3, x4, x5⟩ := k1
  clear k0 k2 k3 k4 k5 k6 k7 HSX HK HM HB67 HW14
  -- the arguments are marked
  go_wp2_with fail
  refine (markBinary_any _ _ _ _ HO4.out HP4.out HLN4.out (by omega) (by omega)).mono ?_
  rintro e w15 ⟨rfl, _, hS⟩
  have HB15 : Hid (Below (w.heap.size + 2) W w15) := HB14.out.trans (hS.below (Nat.le_trans HWS.out HB14.out.size) fun i hi hI => by have := (HI4.out i hI).1; have := HORD.out; omega)
  have KY15 := Lib.hid (KY14.out.save hS fun hI => by have := (HI4.out _ hI).2; have := HORD.out; omega)
  have HO5b := Lib.hid (HO5.out.kept hS fun q hq hI => by have := (HI5.out q hq).1; have := (HI4.out q hI).2; have := HORD.out; omega)
  have HO6b := Lib.hid (HO6.out.kept hS fun q hq hI => by have := (HI6.out q hq).1; have := (HI4.out q hI).2; have := HORD.out; omega)
  have HO3b := Lib.hid (HO3.out.kept hS fun q hq hI => by have := HI3.out q hq; have := (HI4.out q hI).1; omega)
  have HO7b := Lib.hid (HO7.out.kept hS fun q hq hI => by have := HI7.out q hq; have := (HI4.out q hI).2; have := HORD.out; omega)
  have hcm := cntBi_le2 HLN4.out HTT4.out
  clear hS x0 x1 x2 x3 x4 x5 HB14 KY14 HO4 HO5 HO6 HO3 HO7
  obtain ⟨_, y0, y1⟩ := KY15.out
  go_wp2_with fail
  refine (markChart_any _ _ _ _ _ _ _ HO5b.out hlen5 HLC5.out (by omega) (by omega)).mono ?_
  rintro e w16 ⟨rfl, _, hS⟩
  have HB16 : Hid (Below (w.heap.size + 2) W w16) := HB15.out.trans (hS.below (Nat.le_trans HWS.out HB15.out.size) fun i hi hI => by have := (HI5.out i hI).1; have := HORD.out; omega)
  have HO6c := Lib.hid (HO6b.out.kept hS fun q hq hI => by have := (HI6.out q hq).1; have := (HI5.out q hI).2; have := HORD.out; omega)
  have HO3c := Lib.hid (HO3b.out.kept hS fun q hq hI => by have := HI3.out q hq; have := (HI5.out q hI).1; have := HORD.out; omega)
  have HO7c := Lib.hid (HO7b.out.kept hS fun q hq hI => by have := HI7.out q hq; have := (HI5.out q hI).2; have := HORD.out; omega)
  have hlc := lcnt_le HLC5.out ls5.length (Nat.le_refl _)
  have hlc2 : lcnt ls5 ls5.length ≤ 1048576 * 1048577 := Nat.le_trans hlc (Nat.mul_le_mul_right _ hlen5)
  clear hlc hS y0 y1 HB15 KY15 HO5b HO6b HO3b HO7b
  go_wp2_with fail
  refine (markIntS_any _ _ _ _ _ _ HO6c.out hwl (by omega) (by omega)).mono ?_
  rintro e w17 ⟨rfl, _, hS⟩
  have HB17 : Hid (Below (w.heap.size + 2) W w17) := HB16.out.trans (hS.below (Nat.le_trans HWS.out HB16.out.size) fun i hi hI => by have := (HI6.out i hI).1; have := HORD.out; omega)
  have HO3d := Lib.hid (HO3c.out.kept hS fun q hq hI => by have := HI3.out q hq; have := (HI6.out q hI).1; have := HORD.out; omega)
  have HO7d := Lib.hid (HO7c.out.kept hS fun q hq hI => by have := HI7.out q hq; have := (HI6.out q hI).2; have := HORD.out; omega)
  clear hS HB16 HO6c HO3c HO7c
  go_wp2_with fail
  refine (eqIntS_any _ _ _ _ _ _ _ HO7d.out.ints HO3d.out.ints hyl).mono ?_
  rintro e w18 ⟨rfl, hBx⟩
  rw [eqL_refl]
  have HB18 := Lib.hid (HN.out _ _ HB17.out hBx)
  have HO3e := Lib.hid (HO3d.out.below hBx (Nat.le_refl _))
  have HO7e := Lib.hid (HO7d.out.below hBx (Nat.le_refl _))
  clear hBx HB17 HO3d HO7d
  -- the answer is marked, and found again
  go_wp2_with fail
  refine (markIntS_any _ _ _ _ _ _ HO7e.out hyl (by omega) (by omega)).mono ?_
  rintro e w19 ⟨rfl, hO19, hS⟩
  have HB19 : Hid (Below (w.heap.size + 2) W w19) := HB18.out.trans (hS.below (Nat.le_trans HWS.out HB18.out.size) fun i hi hI => by have := HI7.out i hI; have := HORD.out; omega)
  have HO3f := Lib.hid (HO3e.out.kept hS fun q hq hI => by have := HI3.out q hq; have := HI7.out q hI; have := HORD.out; omega)
  have HO19 := Lib.hid hO19
  clear hO19 hS HB18 HO3e HO7e
  go_wp2_with fail
  refine (heldIntS_any _ _ _ _ _ HO19.out.ints hyl (by omega) (by omega)).mono ?_
  rintro e w20 ⟨rfl, hBx⟩
  have hne : ((1 + (ys.length : Int)) != (1 + (ys.length : Int))) = false := by simp
  have HB20 := Lib.hid (HN.out _ _ HB19.out hBx)
  have HO320 := Lib.hid (HO3f.out.below hBx (Nat.le_refl _))
  have HO720 := Lib.hid (HO19.out.below hBx (Nat.le_refl _))
  clear hBx HB19 HO3f HO19
  -- the program once more
  obtain ⟨a0, a1, a2, a3, a4, a5, e0, e1⟩ := HSA.out _ HB20.out
  go_wp2_with fail
  go_region_held3 (fun w' => w'.cell? ⟨w.heap.size, 0, none⟩ = some (.int .i64 b.n) ∧ w'.cell? ⟨w.heap.size, 1, none⟩ = some (.int .i64 b.t) ∧ w'.cell? ⟨w.heap.size, 2, none⟩ = some (.slice b.Ap b.P.length b.cp) ∧ w'.cell? ⟨w.heap.size, 3, none⟩ = some (.slice b.Ao b.O.length b.co) ∧ w'.cell? ⟨w.heap.size, 4, none⟩ = some (.slice b.Ae b.E.length b.ce) ∧ w'.cell? ⟨w.heap.size, 5, none⟩ = some (.slice b.Af b.F.length b.cf) ∧ w'.cell? ⟨w.heap.size + 1, 0, none⟩ = some (.int .i64 n) ∧ w'.cell? ⟨w.heap.size + 1, 1, none⟩ = some (.slice A ls.length c))
    (first | exact HSA.out _ HB24.out | exact HSA.out _ HB23.out | exact HSA.out _ HB22.out | exact HSA.out _ HB21.out | exact ⟨a0, a1, a2, a3, a4, a5, e0, e1⟩)
    (first
    | (go_at_call 35
       refine (toBinaryA_any _ _ ?_ HLN.out).mono ?_
       · exact (HRX.out _ HB20.out).1.keep (by go_grown)
       rintro e w21 ⟨b21, rfl, ha21, hO21, _, hBx, _⟩
       have hB21 : Below w20.heap.size w20 w21 := Below.trans (by go_grown) hBx
       have HB21 := Lib.hid (HN.out _ _ HB20.out hB21)
       have HK21 := Lib.hid hB21
       have HO21 := Lib.hid hO21
       have HA21 := Lib.hid ha21
       clear hO21 ha21 hBx hB21)
    | (go_at_call 36
       refine (toChart_any _ _ _ _ _ (HRX.out _ HB21.out).2.1 hlen HLC.out).mono ?_
       rintro e w22 ⟨A22, ls22, c22, rfl, hl22, hJ22, _, hBx⟩
       have HB22 := Lib.hid (HN.out _ _ HB21.out hBx)
       have HK22 := Lib.hid (HK21.out.trans (hBx.mono HK21.out.size))
       have HO22 := Lib.hid (HO21.out.below hBx (Nat.le_refl _))
       have HJ22 := Lib.hid hJ22
       have HL22 := Lib.hid hl22
       clear hJ22 hl22 hBx)
    | (go_at_call 37
       refine (toIntS_any _ _ _ _ (HRX.out _ HB22.out).2.2.1 hwl).mono ?_
       rintro e w23 ⟨A23, c23, rfl, _, hI23, hBx⟩
       have HB23 := Lib.hid (HN.out _ _ HB22.out hBx)
       have HK23 := Lib.hid (HK22.out.trans (hBx.mono HK22.out.size))
       have HO23 := Lib.hid (HO22.out.below hBx (Nat.le_refl _))
       have HJ23 := Lib.hid (HJ22.out.below hBx (Nat.le_refl _))
       have HI23 := Lib.hid hI23
       clear hI23 hBx)
    | (go_at_call 38
       refine (HIMP.out _ _ _ _ _ _ _ HO23.out.read HJ23.out.lls HI23.out.ints (HRX.out _ HB23.out).2.2.2 HA21.out HL22.out).mono ?_
       rintro e w24 ⟨A24, c24, rfl, hO24, hBx⟩
       have HB24 := Lib.hid (HN.out _ _ HB23.out hBx)
       have HK24 := Lib.hid (HK23.out.trans (hBx.mono HK23.out.size))
       have HO24 := Lib.hid hO24
       clear hO24 hBx))
  rename_i hHeld
  clear hHeld a0 a1 a2 a3 a4 a5 e0 e1
  have HO324 := Lib.hid (HO320.out.below HK24.out (Nat.le_refl _))
  have HO724 := Lib.hid (HO720.out.below HK24.out (Nat.le_refl _))
  clear HO21 HA21 HK21 HK22 HK23 HO22 HJ22 HL22 HO23 HJ23 HI23 HB21 HB22 HB23
  go_wp2_with fail
  refine (eqIntS_any _ _ _ _ _ _ _ HO24.out.ints HO324.out.ints hyl).mono ?_
  rintro e w25 ⟨rfl, hBx⟩
  rw [eqL_refl]
  have HB25 := Lib.hid (HN.out _ _ HB24.out hBx)
  have HO725 := Lib.hid (HO724.out.below hBx (Nat.le_refl _))
  clear hBx
  go_wp2_with fail
  refine (heldIntS_any _ _ _ _ _ HO725.out.ints hyl (by omega) (by omega)).mono ?_
  rintro e w26 ⟨rfl, hBx⟩
  have HB26 := Lib.hid (HN.out _ _ HB25.out hBx)
  clear hBx
  go_wp2
  go_ret
  exact ⟨rfl, HBW.out _ HB26.out⟩

end Go.Proofs.YtfbpcdmpkbjifaaDoor

/- The law of CellFor holds of every binary grammar, chart, list of numbers and two ints: the call returns true, and what was handed in reads afterwards as it read before. Conditions: the package's table of limits is as the program's text lays it (tied by the given tie). -/

namespace Go.Proofs.YtfbpcdmpkbjifaaDoor
open Go.ChangeShapes Go.WideShapes Go.ChangeAt Go.RowKit

set_option maxRecDepth 100000 in
theorem cellFor_lifted (os : Os) (started : os.Started) (H : Type) (enc : TypeId × Value → H) :
    ReturnsInHanded {} Tryd.checked os 8 .any (fun w args => (Rows.fnExactCellForSpec.pre enc Tryd.prog Tryd.f8 [] false w args ∧ laidMetH Tryd.prog laid1 w) ∧ sizedMet enc Tryd.prog Tryd.f8 (OpenSpec.ofChange Rows.fnExactCellForSpec) false w args)
      (Rows.fnExactCellForSpec.post enc Tryd.prog Tryd.f8 false true false false) := by
  refine returnsInHanded_of_change_and (C := Tryd.checked) (X := fun w _ => laidMetH Tryd.prog laid1 w) (fun _ _ _ hh h => h.of_heap hh) Tryd.own started (by kernel_rfl) Tryd.func8
    (ChangeSpec.witness_shaped (enc := enc) (C := Tryd.checked) (os := os) (X := fun w _ => laidMetH Tryd.prog laid1 w) false (World.doorLaid Tryd.prog 400 os) #[.agg #[.int .i64 0, .int .i64 0, .slice none 0 0, .slice none 0 0, .slice none 0 0, .slice none 0 0], .agg #[.int .i64 0, .slice none 0 0], .slice none 0 0, .int .i64 0, .int .i64 0] 8 rfl (World.shaped_of_RefB (by kernel_rfl) (by kernel_rfl)) (by kernel_rfl) (by kernel_rfl) (by kernel_rfl) (door_met os _)) ?_
  intro W base args ds gs before hval0 hW _ _ hL _
  have hval : ∀ (j : Nat) t v, Tryd.f8.params[j]? = some t → args[j]? = some v → Value.okWide Tryd.prog W .any base t v := hval0
  have hW' := hW
  obtain ⟨p, q, hA0, hV0, rfl, hfz, hnd⟩ := hW
  have hA : DataW.TrodAll enc Tryd.prog W 0 (fun _ => true) true Tryd.f8.params.toList args.toList ds p := hA0
  have hV : DataW.TrodVars enc Tryd.prog W (fun _ => true) ["loop.example/g00758/impl.limits"] gs q := hV0
  rw [Tryd.params8] at hA hval
  obtain ⟨v0, v1, v2, v3, v4, d0, d1, d2, d3, d4, p0, p1, p2, p3, p4, rfl, rfl, rfl, h0, h1, h2, h3, h4⟩ := trodAll_five hA
  obtain ⟨g, tg, cs, fuel, dg, pg, rfl, _⟩ := trodVars_one hV
  obtain ⟨b0, rfl, _, hR0, hM0, hF0, _, _⟩ := open_binary (hval 0 49 v0 rfl rfl) h0
  obtain ⟨n1, A1, ls1, c1, rfl, _, hR1, hN1, hU1, hF1, hw1⟩ := open_chart (hval 1 51 v1 rfl rfl) h1
  obtain ⟨A2, xs2, c2, rfl, _, hR2, hN2, hF2⟩ := open_intS' (hval 2 22 v2 rfl rfl) h2
  obtain ⟨x3, rfl, rfl, rfl, w3⟩ := open_int Tryd.underlying3 (hval 3 3 v3 rfl rfl) h3
  obtain ⟨x4, rfl, rfl, rfl, w4⟩ := open_int Tryd.underlying3 (hval 4 3 v4 rfl rfl) h4
  refine (law_CellFor b0 n1 A1 ls1 c1 A2 xs2 c2 x3 x4 W hR0 hM0 hF0 hR1 hN1 hU1 hF1 hw1 hR2 hN2 hF2 (bounds_i64 w3) (bounds_i64 w4) (lims_of_laid hL)).mono fun e W' ⟨he, hb⟩ => ?_
  subst he
  exact ⟨_, rfl, ends_five hW' Tryd.params8 rfl rfl (by kernel_rfl) (of_decide_eq_true (by kernel_rfl)) (by kernel_rfl) (of_decide_eq_true (by kernel_rfl)) (by kernel_rfl) (of_decide_eq_true (by kernel_rfl)) (by kernel_rfl) (of_decide_eq_true (by kernel_rfl)) (by kernel_rfl) (of_decide_eq_true (by kernel_rfl)) (by kernel_rfl) hb⟩

theorem cellFor_holds : Rows.FnExactCellForSaid :=
  OpenClaim.holds_of_wide 8 Tryd.f8 rfl rfl rfl rfl rfl rfl rfl ⟨rfl, rfl, rfl, rfl, rfl⟩ rfl rfl rfl rfl rfl (by kernel_rfl) Tryd.func8 (by kernel_rfl)
    (of_decide_eq_true (by kernel_rfl)) (by unfold Func.isWrapper; first | (rw [if_pos (by decide +kernel)]; kernel_rfl) | (rw [if_neg (by decide +kernel)]; exact ⟨rfl, rfl⟩))
    (fun os started H enc _ => cellFor_lifted os started H enc)

theorem cellFor_card : Rows.FnExactCellForCardSaid :=
  Claim7.holds_tied_plain_at .later [] [.data] true (true, "18902ad48fee14ba0ba1e5828de7a6a28e51b3a8703fe69bc2803f0493ca1330") false
    cellFor_holds (fun _ h => by cases h) (by kernel_rfl) (fun _ h => by cases h) fnExactCellFor_row_tie rfl ⟨rfl, rfl⟩ (by kernel_rfl) rfl
    (fun f fn hf hfn => by
      obtain rfl : f = 8 := Option.some.inj ((show Tryd.prog.funcNamed "loop.example/g00758/laws.FnExactCellFor" = some 8 by kernel_rfl).symm.trans hf) |>.symm
      obtain rfl : fn = Tryd.f8 := (Option.some.inj (Tryd.func8.symm.trans hfn)).symm
      exact ⟨by kernel_rfl, fun j t ht => by
        rw [Tryd.params8] at ht
        have hm : t ∈ [49, 51, 22, 3, 3] := by simpa using Array.mem_of_getElem? ht
        have hall : ([49, 51, 22, 3, 3].all fun u => !Tryd.prog.wantsStandIn u) = true := by kernel_rfl
        exact (show Tryd.prog.wantsStandIn t = false by simpa using List.all_eq_true.1 hall t hm)⟩)
    (by kernel_rfl)

#print axioms cellFor_card
end Go.Proofs.YtfbpcdmpkbjifaaDoor
