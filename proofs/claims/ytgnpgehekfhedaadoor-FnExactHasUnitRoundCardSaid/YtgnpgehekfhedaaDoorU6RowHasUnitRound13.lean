/- The law of HasUnitRound holds of every binary grammar that can be read: the call returns true, and what was handed in reads afterwards as it read before. Conditions: the package's table of limits is as the program's text lays it (tied by the given tie). -/
import Derived.Test.YtgnpgehekfhedaaDoorU611
import Derived.Test.YtgnpgehekfhedaaDoorU610
import Derived.Deep.RegionHeld3
import Derived.Test.YtgnpgehekfhedaaDoorU608
import Derived.Deep.RegionWith
import Derived.Test.YtgnpgehekfhedaaDoorU612
import Derived.Test.YtgnpgehekfhedaaDoorCards

namespace Go.Proofs.YtgnpgehekfhedaaDoor
open Go.RowKit

theorem rise_len {ys : List Int} (hr : Rises ys) (hf : ∀ y ∈ ys, -4 ≤ y ∧ y < 40) : ys.length ≤ 44 := by
  have := nodup_le ys ((List.range 44).map fun (k : Nat) => (k : Int) - 4) (hr.imp fun h => by omega) fun x hx => by
    have h := hf x hx
    exact List.mem_map.2 ⟨(x + 4).toNat, List.mem_range.2 (by omega), by omega⟩
  simpa using this
theorem up_one {D : Int → Int → Prop} {ys : List Int} {l : Int} (h : IsUp D (setL [l]) (setL ys)) (y : Int) : setL ys y = true ↔ Ups D l y := by
  rw [h.ups]
  constructor
  · rintro ⟨x, hx, hu⟩
    have e : x = l := by simpa [setL] using hx
    exact e ▸ hu
  · exact fun hu => ⟨l, by simp [setL], hu⟩
/-- No pair so far is on a round. -/
def NoRound (D : Int → Int → Prop) (ds : List Li) (k : Nat) : Prop := ∀ (j : Nat) (u : Li), j < k → ds[j]? = some u → ∀ l y, u.r = [l, y] → 0 ≤ y → ¬ Ups D l y
theorem NoRound.step {D : Int → Int → Prop} {ds : List Li} {k : Nat} (h : NoRound D ds k) {u : Li} (hu : ds[k]? = some u) {l y : Int} (er : u.r = [l, y]) (hn : 0 ≤ y → ¬ Ups D l y) : NoRound D ds (k + 1) := fun j v hj hv l' y' e => by
  by_cases ej : j = k
  · subst ej
    rw [hu] at hv
    injection hv with hv
    subst hv
    rw [er] at e
    simp at e
    rw [← e.1, ← e.2]
    exact hn
  · exact h j v (by omega) hv l' y' e

set_option maxRecDepth 20000 in
set_option maxHeartbeats 2000000 in
theorem specHasUnitRound_any (b : Bi) (w : World) (hx : ReadB w w.heap.size b) (hm : LenB 1048576 b) :
    Calls Tryd.prog 39 #[(.agg #[.int .i64 b.n, .int .i64 b.t, .slice b.Ap b.P.length b.cp, .slice b.Ao b.O.length b.co, .slice b.Ae b.E.length b.ce, .slice b.Af b.F.length b.cf])] w (GaveXB w (QRound b.say)) := by
  have HX := Lib.hid hx; clear hx
  have HM := Lib.hid hm; clear hm
  have HB0 : Hid (Below w.heap.size w (w.alloc (.cells #[.int .i64 b.n, .int .i64 b.t, .slice b.Ap b.P.length b.cp, .slice b.Ao b.O.length b.co, .slice b.Ae b.E.length b.ce, .slice b.Af b.F.length b.cf] 29))) := by show Below _ _ _; go_grown
  have B0 := Lib.hid (Box6.new w b 29)
  have HC := Lib.hid (specGoodB_any b (w.alloc (.cells #[.int .i64 b.n, .int .i64 b.t, .slice b.Ap b.P.length b.cp, .slice b.Ao b.O.length b.co, .slice b.Ae b.E.length b.ce, .slice b.Af b.F.length b.cf] 29)) ((HX.out.keep HB0.out).more HB0.out.size) HM.out)
  go_enter Tryd.func39, Tryd.ntmps39
  go_wp2_with fail
  refine HC.out.mono ?_
  rintro e w1 ⟨rfl, hB1⟩
  have B1 := Lib.hid (B0.out.keep hB1 B0.out.1)
  have HB1 := Lib.hid (HB0.out.trans (hB1.mono HB0.out.size)); clear hB1
  clear B0 HB0 HC
  obtain ⟨_, b0, b1, b2, b3, b4, b5⟩ := B1.out
  have hs1 := HB1.out.size
  cases hg : bP (GoodBs b.say)
  · have HQ : Hid (QRound b.say false false) := ⟨fun h => absurd h (bP_no hg), fun _ => ⟨rfl, rfl⟩⟩
    clear hg
    go_wp2
    go_ret2
    exact ⟨false, false, HQ.out, rfl, HB1.out⟩
  have HGB : Hid (GoodBs b.say) := bP_is hg
  clear hg
  go_wp2_with fail
  refine (l6Pairs_any b w1 ((HX.out.keep HB1.out).more HB1.out.size) HM.out HGB.out).mono ?_
  rintro e w2 ⟨v2, ds, rfl, hL2, hP2, hB2⟩
  have hdl := hP2.len HGB.out
  rw [sayL_len] at hdl
  obtain ⟨N, hN, _, hmem⟩ := hP2
  have HN := Lib.hid hN
  have HFIT := Lib.hid (pairs_fit HGB.out hmem)
  have HDP := Lib.hid (DP_eq hmem)
  have HMEM := Lib.hid hmem
  obtain ⟨A2, c2, rfl, _, hLl, _⟩ := hL2.shape
  have HLL := Lib.hid hLl
  have HB2 := Lib.hid (HB1.out.trans (hB2.mono hs1))
  have hs2 := HB2.out.size
  clear hL2 hN hmem hLl hB2
  clear B1 HB1 b0 b1 b2 b3 b4 b5
  generalize hD : DirB N b.say.P b.say.O = D at HDP HMEM
  have HDD := Lib.hid hD; clear hD
  go_wp2
  go_loopw [14] (fun i wr => ∃ (k : Nat), k ≤ ds.length ∧ i = .int .i64 k ∧ Hid (Below w2.heap.size w2 wr) ∧ Hid (NoRound D ds k)) (fun i _ => ds.length - (intOf i).toNat)
  case atStart => exact ⟨0, by omega, rfl, Below.refl _ _, fun j u h => absurd h (by omega)⟩
  case round =>
    obtain ⟨k, hk, rfl, HB, HNR⟩ := hrel
    have HBW := Lib.hid (HB2.out.trans (HB.out.mono hs2))
    by_cases hlt : k < ds.length
    · have hws := HB.out.size
      obtain ⟨bb, oo, eA, hbb, d1, hcap, hI⟩ := (HLL.out.keep HB.out).at_ hlt
      obtain ⟨l, y, er, hl, hy⟩ := HFIT.out _ (List.getElem_mem hlt)
      have HUK := Lib.hid (List.getElem?_eq_getElem hlt)
      have HDL : Hid (D l y) := by
        have h : [l, y] ∈ sayL ds := by rw [← er]; exact sayL_mem (List.getElem_mem hlt)
        obtain ⟨l', y', e, hd⟩ := (HMEM.out _).1 h
        simp at e
        show D l y
        rw [e.1, e.2]; exact hd
      have HER := Lib.hid er
      rw [er] at hI d1 hcap
      obtain ⟨pp, po, ea, hpp, c0, c1⟩ : ∃ p o, ds[k].a = some ⟨p, o, none⟩ ∧ p < w2.heap.size ∧ wr.cell? ⟨p, o, none⟩ = some (.int .i64 l) ∧ wr.cell? ⟨p, o + 1, none⟩ = some (.int .i64 y) := by
        obtain ⟨p, o, e, hp, hc⟩ := hI (by simp)
        exact ⟨p, o, e, hp, hc 0 l rfl, hc 1 y rfl⟩
      clear hI er
      generalize ds[k] = u at d1 hcap ea HUK HER
      obtain ⟨ua, ur, uc⟩ := u
      dsimp only at d1 hcap ea
      subst ea
      have HLR := Lib.hid ((HLL.out.keep HB.out).more hws)
      by_cases hneg : y < 0
      · have HST := Lib.hid (HNR.out.step HUK.out HER.out (fun h => by omega))
        obtain ⟨m, rfl⟩ : ∃ m : Nat, y = Int.negSucc m := ⟨(-1 - y).toNat, by omega⟩
        rw [eA]
        clear eA hneg
        go_wp2_with fail
        go_region
        all_goals
          go_wp2
          go_roundw
          case rel => exact ⟨k + 1, by omega, by go_num, HB.out.drew, HST.out⟩
          case measure => simp [intOf]; omega
      · obtain ⟨m, rfl⟩ : ∃ m : Nat, y = (m : Int) := ⟨y.toNat, by omega⟩
        subst eA
        have hpw : pp < wr.heap.size := Nat.lt_of_lt_of_le hpp hws
        have hmm : (0 : Int) ≤ (m : Int) := by omega
        have HBU1 : Hid (Below wr.heap.size wr (wr.alloc (.cells #[.int .i64 m] 3)).drew) := ((Below.refl _ _).alloc (Nat.le_refl _) _).drew
        have HU1 : Hid (Calls Tryd.prog 82 #[.slice (some ⟨bb, oo, none⟩) ds.length c2, .slice (some ⟨wr.heap.size, 0, none⟩) 1 1] (wr.alloc (.cells #[.int .i64 m] 3)).drew (GaveV (wr.alloc (.cells #[.int .i64 m] 3)).drew fun ys => Rises ys ∧ (∀ y ∈ ys, -4 ≤ y ∧ y < 40) ∧ IsUp (DP (sayL ds)) (setL [(m : Int)]) (setL ys))) := l6Up_any _ (some ⟨wr.heap.size, 0, none⟩) ds [(m : Int)] c2 1 _ ((HLR.out.keep HBU1.out).more HBU1.out.size) HFIT.out (fun h => ints_oneU wr (m : Int) _ (by simp) h) (by simp [Rises]) (by simp; omega) (by omega)
        go_wp2_with fail
        go_region_held3 (fun w' => w'.cell? ⟨pp, po, none⟩ = some (.int .i64 l) ∧ w'.cell? ⟨pp, po + 1, none⟩ = some (.int .i64 m))
          (first | exact ⟨x0, x1⟩ | exact ⟨(Below.cell (B := w5.heap.size) (p := ⟨pp, po, none⟩) (by go_grown) hpw5).trans y0, (Below.cell (B := w5.heap.size) (p := ⟨pp, po + 1, none⟩) (by go_grown) hpw5).trans y1⟩ | exact ⟨(Below.cell (B := wr.heap.size) (p := ⟨pp, po, none⟩) (by go_grown) hpw).trans c0, (Below.cell (B := wr.heap.size) (p := ⟨pp, po + 1, none⟩) (by go_grown) hpw).trans c1⟩)
          (first
          | (go_at_call 82
             with_reducible refine HU1.out.mono ?_
             rintro e w5 ⟨v5, ys, rfl, ⟨hr5, hf5, hU5⟩, hO5, hB5⟩
             obtain ⟨A5, c5, rfl, hO5i, hc5⟩ := own_slice (ys := ys) hO5
             have hB5' : Below wr.heap.size wr w5 := HBU1.out.trans (hB5.mono HBU1.out.size)
             have hs5 := hB5'.size
             have hpw5 : pp < w5.heap.size := by omega
             have y0 := (hB5'.cell (p := ⟨pp, po, none⟩) hpw).trans c0
             have y1 := (hB5'.cell (p := ⟨pp, po + 1, none⟩) hpw).trans c1
             have HI5 := Lib.hid hO5i.ints
             have hl5 : ys.length ≤ 44 := rise_len hr5 hf5
             rw [HDP.out] at hU5
             have HH5 : Hid (Calls Tryd.prog 91 #[.slice A5 ys.length c5, .int .i64 l] w5 fun e w' => e = .returned (.bool true) ∧ w' = w5) := (l1HasW_any A5 ys c5 l w5 hO5i.ints (by omega)).mono fun e w' h => by
               have hl : ys.contains l = true := (up_one hU5 l).2 ((Ups.refl D m).step HDL.out)
               rw [hl] at h
               exact h
             have HB5 := Lib.hid hB5'
             have HBU2 : Hid (Below w5.heap.size w5 (w5.alloc (.cells #[.int .i64 l] 3))) := (Below.refl _ _).alloc (Nat.le_refl _) _
             have HU2 : Hid (Calls Tryd.prog 82 #[.slice (some ⟨bb, oo, none⟩) ds.length c2, .slice (some ⟨w5.heap.size, 0, none⟩) 1 1] (w5.alloc (.cells #[.int .i64 l] 3)) (GaveV (w5.alloc (.cells #[.int .i64 l] 3)) fun ys => Rises ys ∧ (∀ y ∈ ys, -4 ≤ y ∧ y < 40) ∧ IsUp (DP (sayL ds)) (setL [l]) (setL ys))) := l6Up_any _ (some ⟨w5.heap.size, 0, none⟩) ds [l] c2 1 _ ((((HLR.out.keep hB5').more hs5).keep HBU2.out).more HBU2.out.size) HFIT.out (ints_oneU _ _ _ (by simp)) (by simp [Rises]) (by simp; omega) (by omega)
             clear hU5 hO5 hO5i hB5 hr5 hf5 hB5' hc5)
          | (go_at_call 91
             with_reducible refine HH5.out.mono ?_
             rintro e w6 ⟨rfl, hw6⟩
             have hw6' := hw6.symm
             subst hw6'
             clear hw6)
          | (go_at_call 82
             with_reducible refine HU2.out.mono ?_
             rintro e w7 ⟨v7, zs, rfl, ⟨hr7, hf7, hU7⟩, hO7, hB7⟩
             obtain ⟨A7, c7, rfl, hO7i, hc7⟩ := own_slice (ys := zs) hO7
             have hB7' : Below w5.heap.size w5 w7 := HBU2.out.trans (hB7.mono HBU2.out.size)
             have hs7 := hB7'.size
             have x0 := (hB7'.cell (p := ⟨pp, po, none⟩) hpw5).trans y0
             have x1 := (hB7'.cell (p := ⟨pp, po + 1, none⟩) hpw5).trans y1
             have hl7 : zs.length ≤ 44 := rise_len hr7 hf7
             rw [HDP.out] at hU7
             have HUP := Lib.hid (up_one hU7 (m : Int))
             have HH7 : Hid (Calls Tryd.prog 91 #[.slice A7 zs.length c7, .int .i64 m] w7 fun e w' => e = .returned (.bool (setL zs m)) ∧ w' = w7) := l1HasW_any A7 zs c7 m w7 hO7i.ints (by omega)
             have HB7 := Lib.hid (HB5.out.trans (hB7'.mono hs5))
             clear hU7 hO7 hO7i hB7 hr7 hf7 hB7' hc7)
          | (go_at_call 91
             with_reducible refine HH7.out.mono ?_
             rintro e w8 ⟨rfl, hw8⟩
             have hw8' := hw8.symm
             subst hw8'
             clear hw8)
          | fail)
        have HBN := Lib.hid (HB.out.trans (HB7.out.mono hws))
        have HBM := Lib.hid (HB2.out.trans (HBN.out.mono hs2))
        generalize hz : setL zs (m : Int) = z at *
        have HZ := Lib.hid hz
        clear hz
        cases z
        · have HST := Lib.hid (HNR.out.step HUK.out HER.out (fun _ hu => by have h := HUP.out.2 hu; cases h))
          go_wp2
          go_roundw
          case rel => exact ⟨k + 1, by omega, by go_num, HBN.out, HST.out⟩
          case measure => simp [intOf]; omega
        · have HQ : Hid (QRound b.say true true) := ⟨fun _ => ⟨rfl, N, HN.out, fun _ => by rw [HDD.out]; exact ⟨l, m, HDL.out, by omega, HUP.out.1 rfl⟩, fun _ => rfl⟩, fun h => absurd HGB.out h⟩
          go_wp2
          go_ret2
          exact ⟨true, true, HQ.out, rfl, HBM.out⟩
    · obtain rfl : k = ds.length := by omega
      have HQ : Hid (QRound b.say false true) := ⟨fun _ => ⟨rfl, N, HN.out, fun h => (by cases h), fun h => by
          rw [HDD.out] at h
          obtain ⟨l, x, hd, hx, hu⟩ := h
          have hm : [l, x] ∈ sayL ds := (HMEM.out _).2 ⟨l, x, rfl, hd⟩
          obtain ⟨u, hu', e⟩ := List.mem_map.1 hm
          obtain ⟨j, hj, ej⟩ := List.getElem_of_mem hu'
          exact absurd hu (HNR.out j u hj (by rw [← ej]; exact List.getElem?_eq_getElem hj) l x e hx)⟩, fun h => absurd HGB.out h⟩
      go_wp2
      go_ret2
      exact ⟨false, true, HQ.out, rfl, HBW.out⟩

end Go.Proofs.YtgnpgehekfhedaaDoor

/- The law of HasUnitRound: its walk. -/

namespace Go.Proofs.YtgnpgehekfhedaaDoor
open Go.RowKit
open Go.Sort (grow)

set_option maxRecDepth 20000 in
set_option maxHeartbeats 1000000 in
theorem law_HasUnitRound (b : Bi) (w : World) (hx : ReadB w w.heap.size b) (hL : Lims w) (hm : LenB maxLen b) (hf : FitB b.say) :
    Calls Tryd.prog 9 #[(.agg #[.int .i64 b.n, .int .i64 b.t, .slice b.Ap b.P.length b.cp, .slice b.Ao b.O.length b.co, .slice b.Ae b.E.length b.ce, .slice b.Af b.F.length b.cf])] w (LawEnds w) := by
  have HX := Lib.hid hx; clear hx
  have HL := Lib.hid hL; clear hL
  have HM := Lib.hid hm; clear hm
  have HF := Lib.hid hf; clear hf
  go_enter Tryd.func9, Tryd.ntmps9
  go_wp2_with fail
  have hBA : Below w.heap.size w (w.alloc (.cells #[.int .i64 b.n, .int .i64 b.t, .slice b.Ap b.P.length b.cp, .slice b.Ao b.O.length b.co, .slice b.Ae b.E.length b.ce, .slice b.Af b.F.length b.cf] 46)) := by go_grown
  have B0 := Box6.new w b 46
  generalize (w.alloc (.cells #[.int .i64 b.n, .int .i64 b.t, .slice b.Ap b.P.length b.cp, .slice b.Ao b.O.length b.co, .slice b.Ae b.E.length b.ce, .slice b.Af b.F.length b.cf] 46)) = W at hBA B0 ⊢
  have HBA := Lib.hid hBA; clear hBA
  have HB0 := Lib.hid B0; clear B0
  refine (szBinary_any _ _ ((HX.out.keep HBA.out).more HBA.out.size) HM.out).mono ?_
  rintro e w1 ⟨rfl, hB1⟩
  have HB1 := Lib.hid hB1; clear hB1
  by_cases hneg : szB (sayL b.P) (sayL b.O) b.E (sayL b.F) 1048576 < 0
  · go_wp2
    go_ret
    exact ⟨rfl, HBA.out.trans (HB1.out.mono HBA.out.size)⟩
  have HLN : Hid (LenB 1048576 b) := szB_bound (by omega)
  have HTT : Hid (TotB b.say) := szB_total (by omega)
  have KB1 := Lib.hid (HB0.out.keep HB1.out HB0.out.1)
  have HR1 := Lib.hid (((HX.out.keep HBA.out).more HBA.out.size).keep HB1.out |>.more HB1.out.size)
  have HW1 := Lib.hid (HBA.out.trans (HB1.out.mono HBA.out.size))
  obtain ⟨_, a0, a1, a2, a3, a4, a5⟩ := KB1.out
  clear HB1 HB0
  go_wp2_with fail
  refine (toBinary_any _ _ HR1.out HLN.out).mono ?_
  rintro e w2 ⟨b2, rfl, hs2, hO2, hC2, hB2⟩
  have HLN2 := Lib.hid (HLN.out.of_say hs2)
  have HS2 := Lib.hid hs2; clear hs2
  have HO2 := Lib.hid hO2; clear hO2
  have HC2 := Lib.hid hC2; clear hC2
  have HB2 := Lib.hid hB2; clear hB2
  go_wp2_with fail
  refine (specHasUnitRound_any _ _ HO2.out.read HLN2.out).mono ?_
  rw [HS2.out]
  rintro e w3 ⟨x, ok, hQ, rfl, hB3⟩
  have HQ := Lib.hid hQ; clear hQ
  have HB3 := Lib.hid (HB2.out.trans (hB3.mono HB2.out.size)); clear hB3
  clear a0 a1 a2 a3 a4 a5 HO2 HS2 HLN2 HC2
  have KB3 := Lib.hid (KB1.out.keep HB3.out KB1.out.1)
  have HR3 := Lib.hid ((HR1.out.keep HB3.out).more HB3.out.size)
  have HW3 := Lib.hid (HW1.out.trans (HB3.out.mono HW1.out.size))
  clear KB1 HR1 HW1 HB3 HB2
  obtain ⟨_, a0, a1, a2, a3, a4, a5⟩ := KB3.out
  go_wp2_with fail
  refine (toBinary_any _ _ HR3.out HLN.out).mono ?_
  rintro e w4 ⟨b4, rfl, hs4, hO4, hC4, hB4⟩
  have HLN4 := Lib.hid (HLN.out.of_say hs4)
  have HF4 := Lib.hid (FitB.of HF.out hs4)
  have HS4 := Lib.hid hs4; clear hs4
  clear a0 a1 a2 a3 a4 a5 hC4
  go_wp2_with fail
  have hBX : Below w4.heap.size w4 (w4.alloc (.cells #[.int .i64 b4.n, .int .i64 b4.t, .slice b4.Ap b4.P.length b4.cp, .slice b4.Ao b4.O.length b4.co, .slice b4.Ae b4.E.length b4.ce, .slice b4.Af b4.F.length b4.cf] 29)) := by go_grown
  have B4 := Box6.new w4 b4 29
  generalize (w4.alloc (.cells #[.int .i64 b4.n, .int .i64 b4.t, .slice b4.Ap b4.P.length b4.cp, .slice b4.Ao b4.O.length b4.co, .slice b4.Ae b4.E.length b4.ce, .slice b4.Af b4.F.length b4.cf] 29)) = X at hBX B4 ⊢
  have HOX := Lib.hid (hO4.below hBX (Nat.le_refl _)); clear hO4
  have HBX := Lib.hid (hB4.trans (hBX.mono hB4.size)); clear hBX hB4
  have HB4 := Lib.hid B4; clear B4
  have HWX := Lib.hid (HW3.out.trans (HBX.out.mono HW3.out.size))
  refine (implHasUnitRound_any _ _ HOX.out.read (HL.out.keep HWX.out (Nat.le_refl _)) HLN4.out (HTT.out.of HS4.out) HF4.out).mono ?_
  rw [HS4.out]
  rintro e w5 ⟨x', ok', hQ', rfl, hB5⟩
  obtain ⟨hx', ho'⟩ := hQ'.unique HQ.out
  subst hx' ho'
  clear hQ' HQ
  have KX := Lib.hid (HB4.out.keep hB5 HB4.out.1)
  have KB5 := Lib.hid ((KB3.out.keep HBX.out KB3.out.1).keep hB5 (by have := KB3.out.1; have := HBX.out.size; omega))
  have HR5 := Lib.hid ((((HR3.out.keep HBX.out).more HBX.out.size).keep hB5).more hB5.size)
  have HO5 := Lib.hid (HOX.out.below hB5 (Nat.le_refl _))
  have HW5 := Lib.hid (HWX.out.trans (hB5.mono HWX.out.size))
  clear hB5 HOX HBX HB4 HWX KB3 HR3 HW3
  have hne : (ok' != ok') = false := by simp
  have hne2 : (x' != x') = false := by simp
  obtain ⟨_, x0, x1, x2, x3, x4, x5⟩ := KX.out
  obtain ⟨_, a0, a1, a2, a3, a4, a5⟩ := KB5.out
  go_wp2_with fail
  go_region_with (first
    | (go_at_call 27
       refine (toBinary_any _ _ ?_ HLN.out).mono ?_
       · exact HR5.out.keep (by go_grown)
       rintro e w6 ⟨b6, rfl, hs6, hO6, hC6, hB6'⟩
       have hB6 : Below w5.heap.size w5 w6 := Below.trans (by go_grown) hB6'
       obtain ⟨_, y0, y1, y2, y3, y4, y5⟩ := KX.out.keep hB6 KX.out.1
       have HO6 := Lib.hid hO6
       have HS6 := Lib.hid hs6
       have HB6 := Lib.hid hB6
       clear hO6 hs6 hB6 hB6' hC6)
    | (go_at_call 15
       refine (eqBinary_any _ _ _ ?_ ?_ HLN4.out (HS4.out.trans HS6.out.symm)).mono ?_
       · exact (HO5.out.read.keep HB6.out).more HB6.out.size
       · exact HO6.out.read
       rintro e w7 ⟨rfl, hB7⟩))
  all_goals
    go_wp2
    go_ret
    exact ⟨rfl, HW5.out.trans ((HB6.out.trans (hB7.mono HB6.out.size)).mono HW5.out.size)⟩

end Go.Proofs.YtgnpgehekfhedaaDoor

/- The law of HasUnitRound holds of every binary grammar that can be read: the call returns true, and what was handed in reads afterwards as it read before. Conditions: the package's table of limits is as the program's text lays it (tied by the given tie). -/

namespace Go.Proofs.YtgnpgehekfhedaaDoor
open Go.ChangeShapes Go.WideShapes Go.ChangeAt Go.RowKit

set_option maxRecDepth 100000 in
theorem hasUnitRound_lifted (os : Os) (started : os.Started) (H : Type) (enc : TypeId × Value → H) :
    ReturnsInHanded {} Tryd.checked os 9 .any (fun w args => (Rows.fnExactHasUnitRoundSpec.pre enc Tryd.prog Tryd.f9 [] false w args ∧ laidMetH Tryd.prog laid1 w) ∧ sizedMet enc Tryd.prog Tryd.f9 (OpenSpec.ofChange Rows.fnExactHasUnitRoundSpec) false w args)
      (Rows.fnExactHasUnitRoundSpec.post enc Tryd.prog Tryd.f9 false true false false) := by
  refine returnsInHanded_of_change_and (C := Tryd.checked) (X := fun w _ => laidMetH Tryd.prog laid1 w) (fun _ _ _ hh h => h.of_heap hh) Tryd.own started (by kernel_rfl) Tryd.func9
    (ChangeSpec.witness_shaped (enc := enc) (C := Tryd.checked) (os := os) (X := fun w _ => laidMetH Tryd.prog laid1 w) false (World.doorLaid Tryd.prog 400 os) #[.agg #[.int .i64 0, .int .i64 0, .slice none 0 0, .slice none 0 0, .slice none 0 0, .slice none 0 0]] 8 rfl (World.shaped_of_RefB (by kernel_rfl) (by kernel_rfl)) (by kernel_rfl) (by kernel_rfl) (by kernel_rfl) (door_met os _)) ?_
  intro W base args ds gs before hval0 hW _ _ hL _
  have hval : ∀ (j : Nat) t v, Tryd.f9.params[j]? = some t → args[j]? = some v → Value.okWide Tryd.prog W .any base t v := hval0
  have hW' := hW
  obtain ⟨p, q, hA0, hV0, rfl, hfz, hnd⟩ := hW
  have hA : DataW.TrodAll enc Tryd.prog W 0 (fun _ => true) true Tryd.f9.params.toList args.toList ds p := hA0
  have hV : DataW.TrodVars enc Tryd.prog W (fun _ => true) ["loop.example/g00758/impl.limits"] gs q := hV0
  rw [Tryd.params9] at hA hval
  obtain ⟨v0, d0, rfl, rfl, h0⟩ := trodAll_one hA
  obtain ⟨g, tg, cs, fuel, dg, pg, rfl, _⟩ := trodVars_one hV
  obtain ⟨b, rfl, _, hR, hM, hF, _, _⟩ := open_binary (hval 0 46 v0 rfl rfl) h0
  refine (law_HasUnitRound b W hR (lims_of_laid hL) hM hF).mono fun e W' ⟨he, hb⟩ => ?_
  subst he
  exact ⟨_, rfl, ends_one hW' Tryd.params9 rfl rfl (by kernel_rfl) (of_decide_eq_true (by kernel_rfl)) (by kernel_rfl) hb⟩

theorem hasUnitRound_holds : Rows.FnExactHasUnitRoundSaid :=
  OpenClaim.holds_of_wide 9 Tryd.f9 rfl rfl rfl rfl rfl rfl rfl ⟨rfl, rfl, rfl, rfl, rfl⟩ rfl rfl rfl rfl rfl (by kernel_rfl) Tryd.func9 (by kernel_rfl)
    (of_decide_eq_true (by kernel_rfl)) (by unfold Func.isWrapper; first | (rw [if_pos (by decide +kernel)]; kernel_rfl) | (rw [if_neg (by decide +kernel)]; exact ⟨rfl, rfl⟩))
    (fun os started H enc _ => hasUnitRound_lifted os started H enc)

theorem hasUnitRound_card : Rows.FnExactHasUnitRoundCardSaid :=
  Claim7.holds_tied_plain_at .later [] [.data] true (true, "1fac3799f206336fa8af4b9097f4185abcb8c03864a1d5e98eee04a0eb5b7ada") false
    hasUnitRound_holds (fun _ h => by cases h) (by kernel_rfl) (fun _ h => by cases h) fnExactHasUnitRound_row_tie rfl ⟨rfl, rfl⟩ (by kernel_rfl) rfl
    (fun f fn hf hfn => by
      obtain rfl : f = 9 := Option.some.inj ((show Tryd.prog.funcNamed "loop.example/g00758/laws.FnExactHasUnitRound" = some 9 by kernel_rfl).symm.trans hf) |>.symm
      obtain rfl : fn = Tryd.f9 := (Option.some.inj (Tryd.func9.symm.trans hfn)).symm
      exact ⟨by kernel_rfl, fun j t ht => by
        rw [Tryd.params9] at ht
        have hm : t ∈ [46] := by simpa using Array.mem_of_getElem? ht
        have hall : ([46].all fun u => !Tryd.prog.wantsStandIn u) = true := by kernel_rfl
        exact (show Tryd.prog.wantsStandIn t = false by simpa using List.all_eq_true.1 hall t hm)⟩)
    (by kernel_rfl)

#print axioms hasUnitRound_card
end Go.Proofs.YtgnpgehekfhedaaDoor
