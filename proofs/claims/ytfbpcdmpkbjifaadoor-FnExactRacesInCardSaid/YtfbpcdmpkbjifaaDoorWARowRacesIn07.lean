/- The reference's l4Table. -/
import Derived.Test.YtfbpcdmpkbjifaaDoorWARowRacesIn06
import Derived.Test.YtfbpcdmpkbjifaaDoorWA01
import Derived.Test.YtfbpcdmpkbjifaaDoorWA04
import Derived.Deep.LoopGhost
import Derived.Deep.RegionHeld
import Derived.Laws.ShiftsVarLaws
import Derived.Test.YtfbpcdmpkbjifaaDoorWA02
import Derived.StillTailTactics
import Derived.Test.YtfbpcdmpkbjifaaDoorWA05
import Derived.Test.YtfbpcdmpkbjifaaDoorWA03
import Derived.Deep.AppendLies

namespace Go.Proofs.YtfbpcdmpkbjifaaDoor
open Go.RowKit

theorem make_boolsM (n : Nat) (hn : n ≤ 121) (w : World) :
    (Instr.makeSlice 205 (.int .i64 (n : Int)) (.int .i64 (n : Int))).run Tryd.prog w = .ok (.slice (some ⟨w.heap.size, 0, none⟩) n n) (w.alloc (.cells (bools n fun _ => false) 4)) := by
  obtain ⟨i, hi, hz, hs, hb⟩ := info_of Tryd.infoBool
  have h := run_make (P := Tryd.prog) w 205 4 i _ Tryd.underlying205 hi hz .i64 .i64 n n (by omega) (by omega) (by rw [hb]; omega) (by omega)
  rw [hs] at h
  rw [← bools_no]
  simpa [Value.cells] using h
def noB : Nat → Nat → Bool := fun _ _ => false
theorem TabR.made (w : World) (N M : Nat) : TabR (w.alloc (.cells (zS N) 205)) w.heap.size N M 0 noB :=
  ⟨⟨zS N, Row.new w _ _, zS_size _, fun a h => absurd h (by omega)⟩, fun a h => absurd h (by omega)⟩
theorem TabR.grow {w : World} {S N M k : Nat} (h : TabR w S N M k noB) (hs : w.heap.size = S + 1 + k) (hk : k < N) :
    TabR ((w.setCell ⟨S, k, none⟩ (.slice (some ⟨w.heap.size, 0, none⟩) M M)).alloc (.cells (bools M fun _ => false) 4)) S N M (k + 1) noB := by
  obtain ⟨⟨cs, h1, h1s, h1'⟩, h3⟩ := h
  generalize hW : w.setCell ⟨S, k, none⟩ (.slice (some ⟨w.heap.size, 0, none⟩) M M) = W
  have hz : W.heap.size = w.heap.size := by subst hW; simp
  have hT : Row (W.alloc (.cells (bools M fun _ => false) 4)) w.heap.size 4 (bools M fun _ => false) := by
    have h := Row.new W 4 (bools M fun _ => false)
    rw [hz] at h
    exact h
  have k1 : Row W S 205 (cs.setIfInBounds k (.slice (some ⟨w.heap.size, 0, none⟩) M M)) := by subst hW; exact h1.set k _
  refine ⟨⟨_, k1.alloc _, by simp [h1s], fun a ha => ?_⟩, fun a ha => ?_⟩
  · rw [Array.getElem?_setIfInBounds]
    by_cases e : k = a
    · subst e
      rw [if_pos rfl, if_pos (by omega), hs]
    · rw [if_neg e]
      exact h1' a (by omega)
  · by_cases e : a = k
    · subst e
      rw [← hs]
      exact hT
    · have h4 := h3 a (by omega)
      refine Row.alloc ?_ _
      subst hW
      exact h4.far (by simp; omega) _

/-- What l4Table gives. -/
def GaveT (w : World) (N : Nat) (ws : List Int) (ss : List (Int × List Int)) (e : Ending) (w' : World) : Prop :=
  ∃ S T, e = .returned (.slice (some ⟨S, 0, none⟩) N N) ∧ TabR w' S N ((ws.length + 1) * (ws.length + 1)) N T ∧ (∀ x i j, DT ws.length T x i j ↔ Der ss ws x i j) ∧ Below w.heap.size w w'

set_option maxRecDepth 20000 in
set_option maxHeartbeats 4000000 in
theorem l4Table_any (N : Nat) (t : Int) (A : Option Addr) (c : Nat) (rs : List Ru) (Aw : Option Addr) (cw : Nat) (ws : List Int) (w : World) (hx : Rls w w.heap.size A rs) (hg : goodG (N : Int) t (rs.map Ru.abs) = true) (hcap : ∀ u ∈ rs, u.r.length ≤ u.c) (hw : ws.length ≤ 10) (hW : Ints w w.heap.size Aw ws) :
    Calls Tryd.prog 181 #[.agg #[.int .i64 (N : Int), .int .i64 t, .slice A rs.length c], .slice Aw ws.length cw] w (GaveT w N ws (rs.map Ru.abs)) := by
  have h16 := good_16 hg
  have hN : N ≤ 6 := by have := goodG_is hg; omega
  have HX := Lib.hid hx; clear hx
  have HG := Lib.hid hg; clear hg
  have HW := Lib.hid hW; clear hW
  have HCP := Lib.hid hcap; clear hcap
  have HB0 : Hid (Below w.heap.size w (w.alloc (.cells #[.int .i64 N, .int .i64 t, .slice A rs.length c] 147))) := by show Below _ _ _; go_grown
  have B00 : Hid (Box3 (w.alloc (.cells #[.int .i64 N, .int .i64 t, .slice A rs.length c] 147)) w.heap.size (.int .i64 N) (.int .i64 t) (.slice A rs.length c)) := ⟨by simp, by simp [go_sem], by simp [go_sem], by simp [go_sem]⟩
  obtain ⟨M, hM⟩ : ∃ M, M = (ws.length + 1) * (ws.length + 1) := ⟨_, rfl⟩
  have hM121 : M ≤ 121 := by rw [hM]; exact (Nat.mul_le_mul (by omega) (by omega) : (ws.length + 1) * (ws.length + 1) ≤ 11 * 11)
  have hmul : ((ws.length : Int) + 1) * ((ws.length : Int) + 1) = (M : Int) := by rw [hM]; simp
  have HCL : Hid (∀ i j, i ≤ ws.length → j ≤ ws.length → i * (ws.length + 1) + j < M) := fun i j hi hj => by rw [hM]; exact cell_lt hi hj
  have HM := Lib.hid hM; clear hM
  have hmr := make_rows N hN
  have hmb := make_boolsM M hM121
  have HT0 : Hid (TabR ((w.alloc (.cells #[.int .i64 N, .int .i64 t, .slice A rs.length c] 147)).alloc (.cells (zS N) 205)) (w.heap.size + 1) N M 0 noB) := by
    have h := TabR.made (w.alloc (.cells #[.int .i64 N, .int .i64 t, .slice A rs.length c] 147)) N M
    rw [World.size_alloc] at h
    exact h
  have HBT : Hid (Below w.heap.size w ((w.alloc (.cells #[.int .i64 N, .int .i64 t, .slice A rs.length c] 147)).alloc (.cells (zS N) 205))) := by show Below _ _ _; go_grown
  have BXT := Lib.hid (B00.out.keep (w' := (w.alloc (.cells #[.int .i64 N, .int .i64 t, .slice A rs.length c] 147)).alloc (.cells (zS N) 205)) ((Below.refl _ _).alloc (Nat.le_refl _) _) (by simp))
  have HZT : Hid (((w.alloc (.cells #[.int .i64 N, .int .i64 t, .slice A rs.length c] 147)).alloc (.cells (zS N) 205)).heap.size = w.heap.size + 1 + 1) := by show _ = _; simp
  go_enter Tryd.func181, Tryd.ntmps181
  go_wp2
  generalize (w.alloc (.cells #[.int .i64 N, .int .i64 t, .slice A rs.length c] 147)).alloc (.cells (zS N) 205) = X at *
  clear HB0 B00 hmr
  obtain ⟨S, hS⟩ : ∃ S, S = w.heap.size + 1 := ⟨_, rfl⟩
  rw [← hS] at HT0 HZT ⊢
  have HS := Lib.hid hS
  have hwS : w.heap.size < S := by omega
  clear hS
  go_loopw [21] (fun i wr => ∃ (k : Nat), k ≤ N ∧ i = .int .i64 k ∧ Hid (TabR wr S N M k noB) ∧ Hid (wr.heap.size = S + 1 + k) ∧ Hid (Below w.heap.size w wr) ∧ Hid (Box3 wr w.heap.size (.int .i64 N) (.int .i64 t) (.slice A rs.length c))) (fun i _ => N - (intOf i).toNat)
  case atStart => exact ⟨0, by omega, rfl, HT0.out, HZT.out, HBT.out, BXT.out⟩
  case round =>
    obtain ⟨k, hk, rfl, HT, HZ, HB, HU⟩ := hrel
    clear HT0 HBT BXT HZT
    by_cases hlt : k < N
    · have HN := Lib.hid (HT.out.grow HZ.out hlt)
      obtain ⟨⟨cs, d1, d2, _⟩, _⟩ := HT.out
      obtain ⟨x0, c1⟩ : ∃ x0, wr.cell? ⟨S, k, none⟩ = some x0 := ⟨_, (d1.cell k).trans (Array.getElem?_eq_getElem (by omega))⟩
      have f1 := d1.frozen k
      have hz2 : S < wr.heap.size := d1.lt
      have HUN : Hid (Box3 ((wr.setCell ⟨S, k, none⟩ (.slice (some ⟨wr.heap.size, 0, none⟩) M M)).alloc (.cells (bools M fun _ => false) 4)) w.heap.size (.int .i64 N) (.int .i64 t) (.slice A rs.length c)) := HU.out.keep (B := S) (((Below.refl _ _).setCell (by simp) _).alloc (by simp; omega) _) hwS
      clear d1 d2
      go_wp2
      go_roundw
      case rel => exact ⟨k + 1, by omega, by go_num, HN.out, by have h1 := HZ.out; show _ = _; simp; omega, (HB.out.setCell (by simp; omega) _).alloc (by have := HB.out.size; simp; omega) _, HUN.out⟩
      case measure => simp [intOf]; omega
    · obtain rfl : k = N := by omega
      clear hmb HZ
      obtain ⟨wO, hwO⟩ : ∃ x, x = wr := ⟨_, rfl⟩
      subst hwO
      have HK : Hid (TabR wO S k M k noB) := HT.out
      clear HT
      go_wp2
      go_loopg [8] (2 * (726 - cntT noB) + 1) (fun g m wr => ∃ (more : Bool) (T : Nat → Nat → Bool), m = .bool more ∧ g = 2 * (726 - cntT T) + (if more then 1 else 0) ∧ Hid (TabR wr S k M k T) ∧ Hid (OkT (rs.map Ru.abs) ws T) ∧ Hid (Below w.heap.size w wr) ∧ Hid (Box3 wr w.heap.size (.int .i64 k) (.int .i64 t) (.slice A rs.length c)) ∧ Hid (more = false → ∀ x i j, DT ws.length T x i j ↔ Der (rs.map Ru.abs) ws x i j))
      case atStart => exact ⟨true, noB, rfl, rfl, HK.out, okT_no _ _, HB.out, HU.out, fun h => by cases h⟩
      case round =>
        obtain ⟨more, T, rfl, hgk, HTm, HOm, HBm, HUm, HDm⟩ := hrel
        clear HK HB HU
        cases more
        · have HDD := Lib.hid (HDm.out rfl)
          rw [HM.out] at HTm
          go_wp2
          go_ret
          exact ⟨S, T, rfl, HTm.out, HDD.out, HBm.out⟩
        · rw [if_pos rfl] at hgk
          clear HDm
          obtain ⟨wM, hwM⟩ : ∃ x, x = wr := ⟨_, rfl⟩
          subst hwM
          obtain ⟨_, b0, b1, b2⟩ := HUm.out
          go_wp2
          clear b0 b1 b2
          go_loopw [8, 36] (fun m i wr => ∃ (j : Nat) (more : Bool) (T2 : Nat → Nat → Bool), j ≤ rs.length ∧ i = .int .i64 j ∧ m = .bool more ∧ Hid (TabR wr S k M k T2) ∧ Hid (PassT (rs.map Ru.abs) ws j 0 0 T T2 more) ∧ Hid (Below w.heap.size w wr) ∧ Hid (Box3 wr w.heap.size (.int .i64 k) (.int .i64 t) (.slice A rs.length c))) (fun _ i _ => rs.length - (intOf i).toNat)
          case atStart => exact ⟨0, false, T, by omega, rfl, rfl, HTm.out, PassT.start HOm.out, HBm.out, HUm.out⟩
          case round =>
            obtain ⟨j, more, T2, hj, rfl, rfl, HT2, HP2, HB2, HU2⟩ := hrel
            clear HTm HOm HBm HUm
            by_cases hlt2 : j < rs.length
            · obtain ⟨p, o, hA, hp, c1, c2, c3⟩ := (HX.out.keep HB2.out).at_ hlt2
              have hum : rs[j].abs ∈ rs.map Ru.abs := List.mem_map.2 ⟨_, List.getElem_mem hlt2, rfl⟩
              have h4 := good_len HG.out hum
              have HGM := Lib.hid (goodG_mem HG.out hum)
              obtain ⟨L, hL⟩ : ∃ L : Nat, rs[j].l = (L : Int) := ⟨_, Int.eq_ofNat_of_zero_le HGM.out.1.1 |>.choose_spec⟩
              have hLk : L < k := by have h : rs[j].l < k := HGM.out.1.2; omega
              have HJ : Hid ((rs.map Ru.abs)[j]? = some ((L : Int), rs[j].r)) := by show _ = _; rw [List.getElem?_map, List.getElem?_eq_getElem hlt2, ← hL]; rfl
              have HSY : Hid (∀ x ∈ rs[j].r, -10 ≤ x ∧ x < k) := fun x hx => by have h := HGM.out.2.2 x hx; have := goodG_is HG.out; omega
              have HCR := Lib.hid (HCP.out rs[j] (List.getElem_mem hlt2))
              rw [hL] at c1
              have HBR : Hid (Below wr.heap.size wr (wr.alloc (.cells #[.int .i64 L, .slice rs[j].a rs[j].r.length rs[j].c] 166))) := (Below.refl _ _).alloc (Nat.le_refl _) _
              have HBU : Hid (Box2 (wr.alloc (.cells #[.int .i64 L, .slice rs[j].a rs[j].r.length rs[j].c] 166)) wr.heap.size (.int .i64 L) (.slice rs[j].a rs[j].r.length rs[j].c)) := ⟨by simp, by simp [go_sem], by simp [go_sem]⟩
              have HTY := Lib.hid (HT2.out.keep HBR.out HT2.out.lt)
              have HBY : Hid (Below w.heap.size w (wr.alloc (.cells #[.int .i64 L, .slice rs[j].a rs[j].r.length rs[j].c] 166))) := HB2.out.trans (HBR.out.mono HB2.out.size)
              have HUY := Lib.hid (HU2.out.keep HBR.out HU2.out.1)
              have HI : Hid (∀ u, Below w.heap.size w u → Ints u u.heap.size rs[j].a rs[j].r) := fun u hu => by
                obtain ⟨_, _, _, _, _, _, h⟩ := (HX.out.keep hu).at_ hlt2
                exact h.more hu.size
              have hwl : S + 1 + k ≤ wr.heap.size := HT2.out.lt
              clear c3 hum hL HT2 HB2 HU2
              subst hA
              obtain ⟨wP, hwP⟩ : ∃ x, x = wr := ⟨_, rfl⟩
              subst hwP
              obtain ⟨_, r0, r1⟩ := HBU.out
              go_wp2
              generalize (wP.alloc (.cells #[.int .i64 L, .slice rs[j].a rs[j].r.length rs[j].c] 166)) = Y at *
              clear r0 r1 c1 c2
              obtain ⟨Q, hQ⟩ : ∃ x, x = wP.heap.size := ⟨_, rfl⟩
              rw [← hQ] at HBU hwl ⊢
              clear hQ HBR
              go_loopw [8, 11] (fun m n wr => ∃ (i : Nat) (more : Bool) (T2 : Nat → Nat → Bool), i ≤ ws.length + 1 ∧ n = .int .i64 i ∧ m = .bool more ∧ Hid (TabR wr S k M k T2) ∧ Hid (PassT (rs.map Ru.abs) ws j i 0 T T2 more) ∧ Hid (Below w.heap.size w wr) ∧ Hid (Box3 wr w.heap.size (.int .i64 k) (.int .i64 t) (.slice (some ⟨p, o, none⟩) rs.length c)) ∧ Hid (Box2 wr Q (.int .i64 L) (.slice rs[j].a rs[j].r.length rs[j].c))) (fun _ n _ => ws.length + 1 - (intOf n).toNat)
              case atStart => exact ⟨0, more, T2, by omega, rfl, rfl, HTY.out, HP2.out, HBY.out, HUY.out, HBU.out⟩
              case round =>
                obtain ⟨i, more, T2, hi, rfl, rfl, HT3, HP3, HB3, HU3, HR3⟩ := hrel
                clear HTY HP2 HBY HUY HBU
                by_cases hlt3 : i < ws.length + 1
                · have HPO := Lib.hid HP3.out.open_
                  have hi' : (i : Int) < (ws.length : Int) + 1 := by omega
                  obtain ⟨wI, hwI⟩ : ∃ x, x = wr := ⟨_, rfl⟩
                  subst hwI
                  go_wp2
                  go_loopw [8, 12] (fun m n wr => ∃ (e : Nat) (more : Bool) (T2 : Nat → Nat → Bool), e ≤ ws.length + 1 ∧ n = .int .i64 e ∧ m = .bool more ∧ Hid (TabR wr S k M k T2) ∧ Hid (PassT (rs.map Ru.abs) ws j i e T T2 more) ∧ Hid (Below w.heap.size w wr) ∧ Hid (Box3 wr w.heap.size (.int .i64 k) (.int .i64 t) (.slice (some ⟨p, o, none⟩) rs.length c)) ∧ Hid (Box2 wr Q (.int .i64 L) (.slice rs[j].a rs[j].r.length rs[j].c))) (fun _ n _ => ws.length + 1 - (intOf n).toNat)
                  case atStart => exact ⟨i, more, T2, by omega, rfl, rfl, HT3.out, HPO.out, HB3.out, HU3.out, HR3.out⟩
                  case round =>
                    obtain ⟨e, more, T2, he, rfl, rfl, HT4, HP4, HB4, HU4, HR4⟩ := hrel
                    clear HT3 HP3 HB3 HU3 HR3 HPO
                    by_cases hlt4 : e < ws.length + 1
                    · have he' : (e : Int) < (ws.length : Int) + 1 := by omega
                      have hql := HCL.out i e (by omega) (by omega)
                      have k1 := HT4.out.row hLk
                      obtain ⟨k2, k3⟩ := HT4.out.at_ hLk hql
                      obtain ⟨_, r0, r1⟩ := HR4.out
                      have hq : (i : Int) * ((ws.length : Int) + 1) + (e : Int) = ((i * (ws.length + 1) + e : Nat) : Int) := by simp
                      have hb0 : (i : Int) * ((ws.length : Int) + 1) ≤ 121 := by omega
                      have hb1 : 0 ≤ (i : Int) * ((ws.length : Int) + 1) := Int.mul_nonneg (by omega) (by omega)
                      have HSK : Hid (T2 L (i * (ws.length + 1) + e) = true ∨ ¬ SeqD (DT ws.length T2) ws rs[j].r i e → PassT (rs.map Ru.abs) ws j i (e + 1) T T2 more) := fun h => HP4.out.skip HJ.out (by omega) (by omega) h
                      have HPU : Hid (T2 L (i * (ws.length + 1) + e) = false → SeqD (DT ws.length T2) ws rs[j].r i e → PassT (rs.map Ru.abs) ws j i (e + 1) T (setB T2 L (i * (ws.length + 1) + e)) true) := fun h h' => HP4.out.put HJ.out (by omega) hw (by omega) (by omega) h h'
                      have HTU := Lib.hid (HT4.out.put (c := i * (ws.length + 1) + e) hLk)
                      have HTM : Hid (TabR wr S k ((ws.length + 1) * (ws.length + 1)) k T2) := by have h := HT4.out; rw [HM.out] at h; exact h
                      have HF := Lib.hid (l4Fits_any S k T2 Aw cw ws wr HTM.out ((HW.out.keep HB4.out).more HB4.out.size) hw HP4.out.1.inD e (by omega) rs[j].r rs[j].a rs[j].c i (HI.out _ HB4.out) HCR.out h4 HSY.out (by omega))
                      generalize hqq : i * (ws.length + 1) + e = q at *
                      clear hqq HTM
                      cases hc : T2 L q
                      · rw [hc] at k2
                        cases hs : bD (SeqD (DT ws.length T2) ws rs[j].r i e)
                        · have HN := Lib.hid (HSK.out (.inr fun h => by rw [bD_t h] at hs; cases hs))
                          have HSV := Lib.hid hs; clear hs hc
                          go_wp2_with fail
                          refine HF.out.mono ?_
                          rintro e' w1 ⟨rfl, rfl⟩
                          rw [HSV.out]
                          go_wp2
                          go_roundw
                          case rel => exact ⟨e + 1, more, T2, by omega, by go_num, rfl, HT4.out, HN.out, HB4.out, HU4.out, HR4.out⟩
                          case measure => simp [intOf]; omega
                        · have HN := Lib.hid (HPU.out hc (bD_iff.1 hs))
                          have HSV := Lib.hid hs; clear hs hc
                          have HBU : Hid (Below w.heap.size w (wr.setCell ⟨S + 1 + L, q, none⟩ (.bool true))) := HB4.out.setCell (by simp; omega) _
                          have HUU : Hid (Box3 (wr.setCell ⟨S + 1 + L, q, none⟩ (.bool true)) w.heap.size (.int .i64 k) (.int .i64 t) (.slice (some ⟨p, o, none⟩) rs.length c)) := HU4.out.keep (B := S) ((Below.refl _ _).setCell (by simp; omega) _) hwS
                          have HRU : Hid (Box2 (wr.setCell ⟨S + 1 + L, q, none⟩ (.bool true)) Q (.int .i64 L) (.slice rs[j].a rs[j].r.length rs[j].c)) := ⟨by rw [World.size_setCell]; exact HR4.out.1, (World.cell?_setCell_far _ _ _ _ (by simp; omega)).trans r0, (World.cell?_setCell_far _ _ _ _ (by simp; omega)).trans r1⟩
                          go_wp2_with fail
                          refine HF.out.mono ?_
                          rintro e' w1 ⟨rfl, rfl⟩
                          rw [HSV.out]
                          go_wp2
                          go_roundw
                          case rel => exact ⟨e + 1, true, _, by omega, by go_num, rfl, HTU.out, HN.out, HBU.out, HUU.out, HRU.out⟩
                          case measure => simp [intOf]; omega
                      · rw [hc] at k2
                        have HN := Lib.hid (HSK.out (.inl hc))
                        clear hc
                        go_wp2
                        go_roundw
                        case rel => exact ⟨e + 1, more, T2, by omega, by go_num, rfl, HT4.out, HN.out, HB4.out, HU4.out, HR4.out⟩
                        case measure => simp [intOf]; omega
                    · obtain rfl : e = ws.length + 1 := by omega
                      have HN := Lib.hid HP4.out.line
                      go_wp2
                      go_roundw
                      case rel => exact ⟨i + 1, more, T2, by omega, by go_num, rfl, HT4.out, HN.out, HB4.out, HU4.out, HR4.out⟩
                      case measure => simp [intOf]; omega
                · obtain rfl : i = ws.length + 1 := by omega
                  have HN := Lib.hid HP3.out.rule
                  go_wp2
                  go_roundw
                  case rel => exact ⟨j + 1, more, T2, by omega, by go_num, rfl, HT3.out, HN.out, HB3.out, HU3.out⟩
                  case measure => simp [intOf]; omega
            · obtain rfl : j = rs.length := by omega
              have HPE : Hid (PassT (rs.map Ru.abs) ws (rs.map Ru.abs).length 0 0 T T2 more) := by have h := HP2.out; rw [List.length_map]; exact h
              have HDE : Hid (more = false → ∀ x i j, DT ws.length T2 x i j ↔ Der (rs.map Ru.abs) ws x i j) := fun e x i j => by have h := HPE.out; rw [e] at h; exact h.done
              have HME : Hid (2 * (726 - cntT T2) + (if more then 1 else 0) < 2 * (726 - cntT T) + 1) := by
                show _ < _
                have h1 := cntT_most T2
                cases more
                · rw [(HPE.out.2.2 rfl).1]; simp
                · have h2 := HPE.out.2.1 rfl; simp; omega
              go_wp2
              go_roundg (2 * (726 - cntT T2) + (if more then 1 else 0))
              case measure => rw [hgk]; exact HME.out
              case rel => exact ⟨more, T2, rfl, rfl, HT2.out, HPE.out.1, HB2.out, HU2.out, HDE.out⟩

end Go.Proofs.YtfbpcdmpkbjifaaDoor

/- The program's places: masks. -/

namespace Go.Proofs.YtfbpcdmpkbjifaaDoor
open Go.RowKit

def pw (a : Nat) : Nat := 2 ^ a
theorem pw_lt {a : Nat} (h : a < 11) : pw a < 2048 := Nat.pow_lt_pow_right (by decide) h
theorem u16_shl {a : Nat} (h : a < 11) : IntKind.u16.wrap ((2 : Int) ^ a) = (pw a : Int) := by
  rw [IntKind.wrap_u16]
  have h1 := pw_lt h
  have h2 : ((2 : Int) ^ a) = (pw a : Int) := by unfold pw; simp
  rw [h2]
  omega
theorem ret_u16 {a b : Int} (h : a = b) : Ending.returned (.int .u16 a) = .returned (.int .u16 b) := by rw [h]
theorem has_bit {m a : Nat} (hm : m < 2048) (h : a < 11) : (bits .and .u16 (m : Int) (pw a : Int) != 0) = m.testBit a := by
  have h1 := pw_lt h
  rw [u16_and _ _ (by omega) (by omega) (by omega) (by omega)]
  cases e : m.testBit a
  · have h2 := bit_and.2 e
    rw [Int.toNat_natCast, Int.toNat_natCast, show m &&& pw a = 0 from h2]; rfl
  · have h2 : ¬ m &&& pw a = 0 := fun h => by have := bit_and.1 h; rw [e] at this; cases this
    rw [Int.toNat_natCast, Int.toNat_natCast]
    exact bne_t (by omega)

theorem cell_in {w : World} {B : Nat} {v : Value} (h : w.cell? ⟨B, 0, none⟩ = some v) : B < w.heap.size := by
  by_cases e : B < w.heap.size
  · exact e
  · simp only [World.cell?] at h
    rw [Array.getElem?_eq_none (by omega)] at h
    cases h
/-- One mask of a symbol. -/
theorem symD_tok {K : Nat → Nat → Nat} {ws : List Int} {x : Int} {i : Nat} (hx : x < 0) (hi : i < ws.length) (hw : ws.length ≤ 10) (h : ws[i] = -1 - x) : Msk (pw (i + 1)) fun j => SymD (DK K) ws x i j :=
  (msk_one (a := i + 1) (by omega)).congr fun j => ⟨fun e => .inl ⟨hx, e, by rw [List.getElem?_eq_getElem hi, h]⟩, fun e => by rcases e with e | e; exact e.2.1; omega⟩
theorem symD_none {K : Nat → Nat → Nat} {ws : List Int} {x : Int} {i : Nat} (hx : x < 0) (h : ∀ hi : i < ws.length, ws[i] ≠ -1 - x) : Msk 0 fun j => SymD (DK K) ws x i j :=
  msk_no.congr fun j => ⟨False.elim, fun e => by
    rcases e with e | e
    · obtain ⟨hi, e2⟩ := List.getElem?_eq_some_iff.1 e.2.2
      exact h hi e2
    · omega⟩
theorem symD_non {K : Nat → Nat → Nat} {ws : List Int} {x i : Nat} (hK : ∀ x i, K x i < 2048) : Msk (K x i) fun j => SymD (DK K) ws (x : Int) i j :=
  ⟨hK x i, fun j => ⟨fun e => .inr ⟨Int.natCast_nonneg x, Int.natCast_nonneg x, e⟩, fun e => by
    rcases e with e | e
    · omega
    · exact e.2.2⟩⟩

end Go.Proofs.YtfbpcdmpkbjifaaDoor

/- The program's function that tells the places behind what symbols derive. -/

namespace Go.Proofs.YtfbpcdmpkbjifaaDoor
open Go.RowKit

theorem seqD_start {D : Int → Nat → Nat → Prop} {ws xs : List Int} {i : Nat} (hi : i < 11) : Msk (pw i) fun j => SeqD D ws (xs.take 0) i j := (msk_one hi).congr fun _ => ⟨fun e => e.symm, fun e => e.symm⟩
theorem u16_orK {a b : Nat} (ha : a < 2048) (hb : b < 2048) : bits .or .u16 (a : Int) (b : Int) = ((a ||| b : Nat) : Int) := by
  rw [u16_or _ _ (by omega) (by omega) (by omega) (by omega), Int.toNat_natCast, Int.toNat_natCast]
def orK (a b : Nat) : Nat := a ||| b
theorem u16_or' {a b : Nat} (ha : a < 2048) (hb : b < 2048) : bits .or .u16 (a : Int) (b : Int) = (orK a b : Int) := u16_orK ha hb

/-- .. with its value named. -/
noncomputable def endsM (K : Nat → Nat → Nat) (ws xs : List Int) (i : Nat) : Nat := mskOf fun j => SeqD (DK K) ws xs i j
theorem endsM_is {K : Nat → Nat → Nat} {ws xs : List Int} {i : Nat} (hK : ∀ x i, K x i < 2048) (hw : ws.length ≤ 10) (hi : i < 11) : Msk (endsM K ws xs i) fun j => SeqD (DK K) ws xs i j := mskOf_is fun _ h => seqD_lt hK hw hi h
end Go.Proofs.YtfbpcdmpkbjifaaDoor

/- The program's growTable and endsIn. -/

namespace Go.Proofs.YtfbpcdmpkbjifaaDoor
open Go.RowKit

theorem Save.alloc {S : Nat → Prop} {a w : World} (h : Save S a w) (o : Obj) : Save S a (w.alloc o) := h.trans (Save.of_below ((Below.refl _ _).alloc (Nat.le_refl _) _))
theorem Box2.save {S : Nat → Prop} {w w' : World} {g : Nat} {a b : Value} (h : Box2 w g a b) (hs : Save S w w') (hg : ¬ S g) : Box2 w' g a b := by
  have e := hs.block g h.1 hg
  have k : ∀ i, w'.cell? ⟨g, i, none⟩ = w.cell? ⟨g, i, none⟩ := fun i => by simp only [World.cell?, e]
  exact ⟨Nat.lt_of_lt_of_le h.1 hs.size, (k 0).trans h.2.1, (k 1).trans h.2.2⟩

theorem below_drew' (w : World) : Below w.heap.size w w.drew := by go_grown

end Go.Proofs.YtfbpcdmpkbjifaaDoor

/- The program's endsIn and deriveWhole. -/

namespace Go.Proofs.YtfbpcdmpkbjifaaDoor
open Go.RowKit

theorem okK_zero (ss : List (Int × List Int)) (ws : List Int) : OkK ss ws fun _ _ => 0 := ⟨fun _ _ => by show 0 < 2048; omega, fun x i j h => by have := h.2; simp at this⟩
theorem sumK_zero : sumK (fun _ _ => 0) = 0 := by decide

end Go.Proofs.YtfbpcdmpkbjifaaDoor

/- A value and a bool as an answer. -/

namespace Go.Proofs.YtfbpcdmpkbjifaaDoor
open Go.RowKit

def GaveXB (w : World) (Q : Bool → Bool → Prop) (e : Ending) (w' : World) : Prop := ∃ x ok, Q x ok ∧ e = .returned (.tuple #[.bool x, .bool ok]) ∧ Below w.heap.size w w'
def GaveXI (w : World) (Q : Int → Bool → Prop) (e : Ending) (w' : World) : Prop := ∃ x ok, Q x ok ∧ e = .returned (.tuple #[.int .i64 x, .bool ok]) ∧ Below w.heap.size w w'

end Go.Proofs.YtfbpcdmpkbjifaaDoor

/- The program's deriveWhole, Derives, InLanguage and SequenceDerives. -/

namespace Go.Proofs.YtfbpcdmpkbjifaaDoor
open Go.RowKit

/-- A bool that tells P, where the arguments are as said; and whether they are. -/
def QD (ok : Bool) (P : Prop) (x o : Bool) : Prop := o = ok ∧ (ok = true → (x = true ↔ P)) ∧ (ok = false → x = false)
theorem QD.unique {ok : Bool} {P : Prop} {x o x' o' : Bool} (h : QD ok P x o) (k : QD ok P x' o') : x = x' ∧ o = o' := by
  refine ⟨?_, h.1.trans k.1.symm⟩
  cases ok
  · rw [h.2.2 rfl, k.2.2 rfl]
  · have h1 := (h.2.1 rfl).trans (k.2.1 rfl).symm
    cases x <;> cases x' <;> simp_all
theorem seqD_one {D : Int → Nat → Nat → Prop} {ws : List Int} {x : Int} {i j : Nat} (hx : 0 ≤ x) : SeqD D ws [x] i j ↔ D x i j := by
  constructor
  · rintro ⟨m, (⟨h, _⟩ | ⟨_, h⟩), k⟩
    · omega
    · have k' : m = j := k
      subst k'; exact h
  · exact fun h => ⟨j, .inr ⟨hx, h⟩, rfl⟩
theorem seqD_iff {D E : Int → Nat → Nat → Prop} {ws xs : List Int} {i j : Nat} (h : ∀ x i j, D x i j ↔ E x i j) : SeqD D ws xs i j ↔ SeqD E ws xs i j := ⟨fun k => k.mono fun x i j => (h x i j).1, fun k => k.mono fun x i j => (h x i j).2⟩

theorem ints_one (w : World) (x : Int) : Ints (w.alloc (.cells #[.int .i64 x] 3)) (w.heap.size + 1) (some ⟨w.heap.size, 0, none⟩) [x] := fun _ => ⟨w.heap.size, 0, rfl, by omega, fun k y hk => by
  have hk1 := (List.getElem?_eq_some_iff.1 hk).1
  have e : k = 0 := by simp at hk1; omega
  subst e
  simp at hk
  subst hk
  simp [go_sem]⟩

theorem goodW_goodG {n t : Int} {ss : List (Int × List Int)} {ws : List Int} (h : goodW n t ss ws = true) : goodG n t ss = true := by cases e : goodG n t ss; rw [goodW_no e] at h; cases h; rfl
theorem goodW_len {n t : Int} {ss : List (Int × List Int)} {ws : List Int} (h : goodW n t ss ws = true) : ws.length ≤ 10 := by
  by_cases e : ws.length ≤ 10
  · exact e
  · rw [goodW_yes (goodW_goodG h), wordB_long e] at h; cases h
theorem goodW_zero {n t : Int} {ss : List (Int × List Int)} {ws : List Int} : (goodW n t ss ws && nonB n 0) = goodW n t ss ws := by
  cases e : goodW n t ss ws
  · rfl
  · have := goodG_is (goodW_goodG e)
    rw [Bool.true_and]
    exact nonB_t (by omega) (by omega)

end Go.Proofs.YtfbpcdmpkbjifaaDoor

/- The reference's InLanguage and Derives. -/

namespace Go.Proofs.YtfbpcdmpkbjifaaDoor
open Go.RowKit

set_option maxRecDepth 20000 in
set_option maxHeartbeats 1000000 in
theorem l4In_any (N : Nat) (t : Int) (A : Option Addr) (c : Nat) (rs : List Ru) (y : Nat) (Aw : Option Addr) (cw : Nat) (ws : List Int) (w : World) (hx : Rls w w.heap.size A rs) (hg : goodG (N : Int) t (rs.map Ru.abs) = true) (hcap : ∀ u ∈ rs, u.r.length ≤ u.c) (hw : ws.length ≤ 10) (hW : Ints w w.heap.size Aw ws) (hy : y < N) :
    Calls Tryd.prog 178 #[.agg #[.int .i64 (N : Int), .int .i64 t, .slice A rs.length c], .int .i64 (y : Int), .slice Aw ws.length cw] w fun e w' => ∃ b, e = .returned (.bool b) ∧ (b = true ↔ Der (rs.map Ru.abs) ws y 0 ws.length) ∧ Below w.heap.size w w' := by
  have HB0 : Hid (Below w.heap.size w (w.alloc (.cells #[.int .i64 N, .int .i64 t, .slice A rs.length c] 147))) := by show Below _ _ _; go_grown
  have HC := Lib.hid (l4Table_any N t A c rs Aw cw ws _ ((hx.keep HB0.out).more HB0.out.size) hg hcap hw ((hW.keep HB0.out).more HB0.out.size))
  clear hx hg hW hcap
  go_enter Tryd.func178, Tryd.ntmps178
  go_wp2_with fail
  refine HC.out.mono ?_
  rintro e w1 ⟨S, T, rfl, hT, hD, hB⟩
  have HB1 : Hid (Below w.heap.size w w1) := HB0.out.trans (hB.mono HB0.out.size)
  have hc : ws.length < (ws.length + 1) * (ws.length + 1) := by have h := cell_lt (n := ws.length) (i := 0) (j := ws.length) (by omega) (by omega); simpa using h
  have k1 := hT.row hy
  obtain ⟨k2, _⟩ := hT.at_ hy hc
  have HQ : Hid (T y ws.length = true ↔ Der (rs.map Ru.abs) ws y 0 ws.length) := by
    refine Iff.trans ?_ (hD y 0 ws.length)
    unfold DT
    simp
  generalize (ws.length + 1) * (ws.length + 1) = M at *
  clear hT hD hB HC
  go_wp2
  go_ret
  exact ⟨_, rfl, HQ.out, HB1.out⟩

end Go.Proofs.YtfbpcdmpkbjifaaDoor

/- The spans of a word: the plain list; an answer that is a list of lists. -/

namespace Go.Proofs.YtfbpcdmpkbjifaaDoor
open Go.RowKit

/-- An answer: a list of lists, and whether there is one. -/
def GaveLB (w : World) (xs : List (List Int)) (ok : Bool) (e : Ending) (w' : World) : Prop :=
  ∃ A c ls, e = .returned (.tuple #[.slice A ls.length c, .bool ok]) ∧ ls.length ≤ c ∧ OwnL w' w.heap.size A ls ∧ sayL ls = xs ∧ Below w.heap.size w w'

theorem bP_eq {P : Prop} {b : Bool} (h : b = true ↔ P) : bP P = b := by
  cases b
  · exact bP_f fun hp => by cases h.2 hp
  · exact bP_t (h.1 rfl)

theorem flat_len {α β : Type} (l : List α) (f : α → List β) (c : Nat) (h : ∀ x, (f x).length ≤ c) : (l.flatMap f).length ≤ l.length * c := by
  induction l with
  | nil => simp
  | cons x l ih =>
    rw [List.flatMap_cons, List.length_append, List.length_cons, Nat.add_mul]
    have := h x
    omega

section
variable (D : Int → Nat → Nat → Prop)

/-- The nonterminals below k that derive the part from i to j. -/
noncomputable def spRow (i j k : Nat) : List (List Int) := ((List.range k).filter fun (x : Nat) => bP (D (x : Int) i j)).map fun (x : Nat) => [(i : Int), (j : Int), (x : Int)]
noncomputable def spCol (N i m : Nat) : List (List Int) := (List.range m).flatMap fun d => spRow D i (i + d) N
noncomputable def spAll (N L f : Nat) : List (List Int) := (List.range f).flatMap fun i => spCol D N i (L + 1 - i)

theorem spRow_zero (i j : Nat) : spRow D i j 0 = [] := by simp [spRow]
theorem spRow_yes {i j k : Nat} (h : bP (D (k : Int) i j) = true) : spRow D i j (k + 1) = spRow D i j k ++ [[(i : Int), (j : Int), (k : Int)]] := by
  unfold spRow
  rw [List.range_succ, List.filter_append, List.map_append]
  simp [h]
theorem spRow_no {i j k : Nat} (h : bP (D (k : Int) i j) = false) : spRow D i j (k + 1) = spRow D i j k := by
  unfold spRow
  rw [List.range_succ, List.filter_append, List.map_append]
  simp [h]
theorem spCol_zero (N i : Nat) : spCol D N i 0 = [] := by simp [spCol]
theorem spCol_succ (N i m : Nat) : spCol D N i (m + 1) = spCol D N i m ++ spRow D i (i + m) N := by
  unfold spCol
  rw [List.range_succ, List.flatMap_append]
  simp
theorem spAll_zero (N L : Nat) : spAll D N L 0 = [] := by simp [spAll]
theorem spAll_succ (N L f : Nat) : spAll D N L (f + 1) = spAll D N L f ++ spCol D N f (L + 1 - f) := by
  unfold spAll
  rw [List.range_succ, List.flatMap_append]
  simp
theorem spRow_len (i j k : Nat) : (spRow D i j k).length ≤ k := by
  unfold spRow
  rw [List.length_map]
  exact Nat.le_trans (List.length_filter_le _ _) (by simp)
theorem spCol_len (N i m : Nat) : (spCol D N i m).length ≤ m * N := by
  have := flat_len (List.range m) (fun d => spRow D i (i + d) N) N (fun d => spRow_len D i (i + d) N)
  rw [List.length_range] at this
  exact this
theorem spAll_len (N L f : Nat) : (spAll D N L f).length ≤ f * ((L + 1) * N) := by
  have := flat_len (List.range f) (fun i => spCol D N i (L + 1 - i)) ((L + 1) * N) (fun i => Nat.le_trans (spCol_len D N i _) (Nat.mul_le_mul_right _ (by omega)))
  rw [List.length_range] at this
  exact this
theorem spRow_three {i j k : Nat} {x : List Int} (h : x ∈ spRow D i j k) : x.length = 3 := by
  obtain ⟨y, _, rfl⟩ := List.mem_map.1 h
  rfl
theorem spAll_three {N L f : Nat} {x : List Int} (h : x ∈ spAll D N L f) : x.length = 3 := by
  obtain ⟨i, _, h⟩ := List.mem_flatMap.1 h
  obtain ⟨d, _, h⟩ := List.mem_flatMap.1 h
  exact spRow_three D h

/-- All that is told ahead of nonterminal k of the part from i to i + m. -/
noncomputable def spAt (N L i m k : Nat) : List (List Int) := spAll D N L i ++ spCol D N i m ++ spRow D i (i + m) k
theorem spAt_len {N L i m k : Nat} (hN : N ≤ 6) (hL : L ≤ 10) (hi : i ≤ 11) (hm : m ≤ 11) (hk : k ≤ 6) : (spAt D N L i m k).length ≤ 2000 := by
  unfold spAt
  rw [List.length_append, List.length_append]
  have h1 := spAll_len D N L i
  have h2 := spCol_len D N i m
  have h3 := spRow_len D i (i + m) k
  have h4 : (L + 1) * N ≤ 11 * 6 := Nat.mul_le_mul (by omega) hN
  have h5 : i * ((L + 1) * N) ≤ 11 * (11 * 6) := Nat.mul_le_mul hi h4
  have h6 : m * N ≤ 11 * 6 := Nat.mul_le_mul hm hN
  omega
theorem spAt_start (N L : Nat) : spAt D N L 0 0 0 = [] := by unfold spAt; rw [spAll_zero, spCol_zero, spRow_zero]; rfl
theorem spAt_yes {N L i m k : Nat} (h : bP (D (k : Int) i (i + m)) = true) : spAt D N L i m (k + 1) = spAt D N L i m k ++ [[(i : Int), ((i + m : Nat) : Int), (k : Int)]] := by
  unfold spAt; rw [spRow_yes D h]; simp only [List.append_assoc]
theorem spAt_no {N L i m k : Nat} (h : bP (D (k : Int) i (i + m)) = false) : spAt D N L i m (k + 1) = spAt D N L i m k := by
  unfold spAt; rw [spRow_no D h]
theorem spAt_col (N L i m : Nat) : spAt D N L i (m + 1) 0 = spAt D N L i m N := by
  unfold spAt; rw [spRow_zero, spCol_succ, List.append_nil]; simp only [List.append_assoc]
theorem spAt_all {N L i m : Nat} (h : m = L + 1 - i) : spAt D N L (i + 1) 0 0 = spAt D N L i m 0 := by
  unfold spAt; rw [spRow_zero, spRow_zero, spCol_zero, spAll_succ, h]; simp
theorem spAt_end {N L i : Nat} (h : i = L + 1) : spAt D N L i 0 0 = spAll D N L (L + 1) := by
  unfold spAt; rw [spRow_zero, spCol_zero, h]; simp
end

/-- What the spans are. -/
noncomputable def spansV (n t : Int) (ss : List (Int × List Int)) (ws : List Int) : List (List Int) := if goodW n t ss ws = true then spAll (Der ss ws) n.toNat ws.length (ws.length + 1) else []
theorem spansV_len {n t : Int} {ss : List (Int × List Int)} {ws : List Int} : (spansV n t ss ws).length ≤ 2000 := by
  unfold spansV
  split
  · rename_i h
    have h1 := goodG_is (goodW_goodG h)
    have h2 := goodW_len h
    rw [← spAt_end (Der ss ws) rfl]
    exact spAt_len _ (by omega) h2 (by omega) (by omega) (by omega)
  · simp
theorem spansV_three {n t : Int} {ss : List (Int × List Int)} {ws : List Int} {x : List Int} (h : x ∈ spansV n t ss ws) : x.length = 3 := by
  unfold spansV at h
  split at h
  · exact spAll_three _ h
  · simp at h

end Go.Proofs.YtfbpcdmpkbjifaaDoor

/- The short words: the plain list of all words up to a length, in the order in which they are told. -/

namespace Go.Proofs.YtfbpcdmpkbjifaaDoor
open Go.RowKit

/-- The words that are made of one by putting one of the first m tokens behind it. -/
def kidsTo (m : Nat) (x : List Int) : List (List Int) := (List.range m).map fun (t : Nat) => x ++ [(t : Int)]
/-- The words that are made of each of some words. -/
def kids (m : Nat) (l : List (List Int)) : List (List Int) := l.flatMap (kidsTo m)
/-- The words of n tokens. -/
def lev (m : Nat) : Nat → List (List Int)
  | 0 => [[]]
  | n + 1 => kids m (lev m n)
/-- The words of fewer than n tokens. -/
def upTo (m : Nat) : Nat → List (List Int)
  | 0 => []
  | n + 1 => upTo m n ++ lev m n

theorem kidsTo_zero (x : List Int) : kidsTo 0 x = [] := by simp [kidsTo]
theorem kidsTo_succ (m : Nat) (x : List Int) : kidsTo (m + 1) x = kidsTo m x ++ [x ++ [(m : Int)]] := by simp [kidsTo, List.range_succ]
theorem kidsTo_len (m : Nat) (x : List Int) : (kidsTo m x).length = m := by simp [kidsTo]
theorem kids_nil (m : Nat) : kids m [] = [] := rfl
theorem kids_append (m : Nat) (a b : List (List Int)) : kids m (a ++ b) = kids m a ++ kids m b := List.flatMap_append
theorem kids_snoc (m : Nat) (a : List (List Int)) (x : List Int) : kids m (a ++ [x]) = kids m a ++ kidsTo m x := by rw [kids_append]; simp [kids]
theorem kids_len (m : Nat) : ∀ l : List (List Int), (kids m l).length = l.length * m
  | [] => by simp [kids]
  | x :: l => by
    have h := kids_len m l
    unfold kids at h ⊢
    rw [List.flatMap_cons, List.length_append, h, kidsTo_len, List.length_cons, Nat.add_mul]
    omega

theorem root_kids (m : Nat) : ∀ n, [] :: kids m (upTo m n) = upTo m (n + 1)
  | 0 => by simp [upTo, kids, lev]
  | n + 1 => by
    have h := root_kids m n
    show [] :: kids m (upTo m n ++ lev m n) = upTo m (n + 1) ++ kids m (lev m n)
    rw [kids_append, ← List.cons_append, h]

theorem lev_len_mem (m : Nat) : ∀ (n : Nat) (x : List Int), x ∈ lev m n → x.length = n
  | 0, x, h => by simp [lev] at h; simp [h]
  | n + 1, x, h => by
    obtain ⟨y, hy, hx⟩ := List.mem_flatMap.1 h
    obtain ⟨t, _, rfl⟩ := List.mem_map.1 hx
    have := lev_len_mem m n y hy
    simp [this]
theorem upTo_len_mem (m : Nat) : ∀ (n : Nat) (x : List Int), x ∈ upTo m n → x.length < n
  | 0, x, h => by simp [upTo] at h
  | n + 1, x, h => by
    rcases List.mem_append.1 h with h | h
    · have := upTo_len_mem m n x h; omega
    · have := lev_len_mem m n x h; omega
theorem lev_len (m : Nat) : ∀ n, (lev m n).length = m ^ n
  | 0 => rfl
  | n + 1 => by
    show (kids m (lev m n)).length = _
    rw [kids_len, lev_len m n, Nat.pow_succ]
theorem lev_le {m n : Nat} (hm : m ≤ 4) (hn : n ≤ 4) : (lev m n).length ≤ 256 := by
  rw [lev_len]
  calc m ^ n ≤ 4 ^ n := Nat.pow_le_pow_left hm n
    _ ≤ 4 ^ 4 := Nat.pow_le_pow_right (by omega) hn
    _ = 256 := by decide
theorem upTo_le {m : Nat} (hm : m ≤ 4) : ∀ n, n ≤ 5 → (upTo m n).length ≤ n * 256
  | 0, _ => by simp [upTo]
  | n + 1, h => by
    have h1 := upTo_le hm n (by omega)
    have h2 := lev_le hm (show n ≤ 4 by omega)
    show (upTo m n ++ lev m n).length ≤ _
    rw [List.length_append]
    omega

theorem kids_take_pre (m : Nat) (l : List (List Int)) (a : Nat) : ∃ r, kids m l = kids m (l.take a) ++ r := ⟨kids m (l.drop a), by rw [← kids_append, List.take_append_drop]⟩

/-- What the queue holds when the first a of the words have been gone through. -/
def que (m n a : Nat) : List (List Int) := [] :: kids m ((upTo m n).take a)
theorem que_start (m n : Nat) : que m n 0 = [[]] := by simp [que, kids]
theorem que_end (m n : Nat) : que m n (upTo m n).length = upTo m (n + 1) := by rw [que, List.take_length, root_kids]
theorem que_pre (m n a : Nat) : ∃ r, upTo m (n + 1) = que m n a ++ r := by
  obtain ⟨r, h⟩ := kids_take_pre m (upTo m n) a
  exact ⟨r, by rw [← root_kids, h]; rfl⟩
theorem que_len {m n a : Nat} (hm : 1 ≤ m) (ha : a ≤ (upTo m n).length) : a < (que m n a).length := by
  show a < (kids m _).length + 1
  rw [kids_len, List.length_take, Nat.min_eq_left ha]
  have : a * 1 ≤ a * m := Nat.mul_le_mul_left a hm
  omega
theorem que_le {m n a : Nat} (hm : m ≤ 4) (hn : n ≤ 4) : (que m n a).length ≤ 1280 := by
  obtain ⟨r, h⟩ := que_pre m n a
  have h1 := upTo_le hm (n + 1) (by omega)
  rw [h, List.length_append] at h1
  omega
/-- The word at a place of the queue. -/
theorem que_at {m n a : Nat} {q : List (List Int)} (hm : 1 ≤ m) (ha : a < (upTo m n).length) (hq : que m n a ++ q <+: upTo m (n + 1)) : (que m n a ++ q)[a]? = (upTo m n)[a]? := by
  obtain ⟨r, hr⟩ := hq
  have h1 := que_len hm (Nat.le_of_lt ha)
  have h2 : (upTo m (n + 1))[a]? = (que m n a ++ q)[a]? := by
    rw [← hr, List.getElem?_append_left (by rw [List.length_append]; omega)]
  rw [← h2]
  show (upTo m n ++ lev m n)[a]? = _
  rw [List.getElem?_append_left ha]
theorem que_step {m n a : Nat} {x : List Int} (h : (upTo m n)[a]? = some x) : que m n (a + 1) = que m n a ++ kidsTo m x := by
  unfold que
  rw [List.take_add_one, h]
  show [] :: kids m (_ ++ [x]) = _
  rw [kids_snoc]
  rfl
theorem kidsTo_pre {j m : Nat} (h : j ≤ m) (x : List Int) : kidsTo j x <+: kidsTo m x := by
  obtain ⟨d, rfl⟩ : ∃ d, m = j + d := ⟨m - j, by omega⟩
  clear h
  induction d with
  | zero => exact List.prefix_refl _
  | succ d ih => exact ih.trans ⟨_, (kidsTo_succ (j + d) x).symm⟩
theorem que_mid {m n a j : Nat} {x : List Int} (h : (upTo m n)[a]? = some x) (hj : j ≤ m) : que m n a ++ kidsTo j x <+: upTo m (n + 1) := by
  obtain ⟨r, hr⟩ := que_pre m n (a + 1)
  obtain ⟨s, hs⟩ := kidsTo_pre hj x
  refine ⟨s ++ r, ?_⟩
  rw [hr, que_step h, ← hs]
  simp only [List.append_assoc]
theorem que_word {m n a : Nat} {q : List (List Int)} {x : List Int} (hm : 1 ≤ m) (h : (upTo m n)[a]? = some x) (hq : que m n a ++ q <+: upTo m (n + 1)) : (que m n a ++ q)[a]? = some x := by
  rw [que_at hm (List.getElem?_eq_some_iff.1 h).1 hq, h]
theorem que_last {m n : Nat} (hm : 1 ≤ m) : ∃ x, (que m n (upTo m n).length)[(upTo m n).length]? = some x ∧ x.length = n := by
  rw [que_end]
  show ∃ x, (upTo m n ++ lev m n)[(upTo m n).length]? = some x ∧ _
  rw [List.getElem?_append_right (Nat.le_refl _), Nat.sub_self]
  have h : 0 < (lev m n).length := by rw [lev_len]; exact Nat.pow_pos (by omega)
  refine ⟨(lev m n)[0], List.getElem?_eq_getElem h, lev_len_mem m n _ (List.getElem_mem h)⟩
theorem upTo_word {m n a : Nat} {x : List Int} (h : (upTo m n)[a]? = some x) : x.length < n := upTo_len_mem m n x (List.mem_of_getElem? h)

/-- A word is of the language. -/
noncomputable def langB (ss : List (Int × List Int)) (ws : List Int) : Bool := bP (Der ss ws 0 0 ws.length)
/-- What the short words are. -/
noncomputable def shortV (n t : Int) (ss : List (Int × List Int)) (x : Int) : List (List Int) := if goodG n t ss = true ∧ 0 ≤ x ∧ x ≤ 4 then (upTo t.toNat (x.toNat + 1)).filter (langB ss) else []
def okS (n t : Int) (ss : List (Int × List Int)) (x : Int) : Bool := goodG n t ss && decide (0 ≤ x ∧ x ≤ 4)
theorem shortV_len {n t : Int} {ss : List (Int × List Int)} {x : Int} (ht : goodG n t ss = true → t ≤ 4) : (shortV n t ss x).length ≤ 1280 := by
  unfold shortV
  split
  · rename_i h
    refine Nat.le_trans (List.length_filter_le _ _) ?_
    have := upTo_le (m := t.toNat) (by have := ht h.1; omega) (x.toNat + 1) (by omega)
    omega
  · simp
theorem shortV_lens {n t : Int} {ss : List (Int × List Int)} {x : Int} {y : List Int} (h : y ∈ shortV n t ss x) : y.length ≤ 4 := by
  unfold shortV at h
  split at h
  · have := upTo_len_mem _ _ y (List.mem_filter.1 h).1
    omega
  · simp at h
theorem filter_yes {P : List Int → Bool} {l : List (List Int)} {k : Nat} (hk : k < l.length) (h : P l[k] = true) : (l.take (k + 1)).filter P = (l.take k).filter P ++ [l[k]] := by
  rw [List.take_succ_eq_append_getElem hk, List.filter_append]
  simp [h]
theorem filter_no {P : List Int → Bool} {l : List (List Int)} {k : Nat} (hk : k < l.length) (h : P l[k] = false) : (l.take (k + 1)).filter P = (l.take k).filter P := by
  rw [List.take_succ_eq_append_getElem hk, List.filter_append]
  simp [h]

end Go.Proofs.YtfbpcdmpkbjifaaDoor

/- Slices of lists that are appended to: a list made just before; a list that lies in another slice of lists. -/

namespace Go.Proofs.YtfbpcdmpkbjifaaDoor
open Go.RowKit

theorem sayL_snoc (ds : List Li) (u : Li) : sayL (ds ++ [u]) = sayL ds ++ [u.r] := by simp [sayL]
theorem sayL_get {ds : List Li} {xs : List (List Int)} {k : Nat} {x : List Int} (h : sayL ds = xs) (hx : xs[k]? = some x) : ∃ u, ds[k]? = some u ∧ u.r = x := by
  rw [← h] at hx
  unfold sayL at hx
  rw [List.getElem?_map] at hx
  cases e : ds[k]? with
  | none => rw [e] at hx; cases hx
  | some u => rw [e] at hx; exact ⟨u, rfl, Option.some.inj hx⟩

/-- A list that was made just now is appended. -/
theorem ListsW.pushI {w w1 w2 : World} {lo : Nat} {v v' : Value} {ds : List Li} {A : Option Addr} {xs : List Int} {c : Nat} {o : Obj} (h : ListsW w lo v ds) (hb : Below w.heap.size w w1) (hlo : lo ≤ w.heap.size) (hO : OwnI w1 w.heap.size A xs) (hcap : xs.length ≤ c)
    (ho : w2.ownsRow lo 22 1 v' (ds.length + 1) (ds.map cellsL ++ [.slice A xs.length c])) (hg : (w1.alloc o).grownBy w2 v.ownBlock) : ListsW w2 lo v' (ds ++ [⟨A, xs, c⟩]) := by
  have hB2 : Below w1.heap.size w1 (w1.alloc o) := (Below.refl _ _).alloc (Nat.le_refl _) _
  have hO2 := hO.below hB2 (Nat.le_refl _)
  exact ((h.keep hb).keep hB2).step (hO2.lower hlo) hcap (h.apart hO) ho hg

theorem one_new (w : World) (x : Value) (t : TypeId) : ∀ j u, [x][j]? = some u → (w.alloc (.cells #[x] t)).cell? ((⟨w.heap.size, 0, none⟩ : Addr).add j) = some u := by
  intro j u h
  rw [Go.WideShapes.add_plain, Nat.zero_add]
  rcases j with _ | j
  · simpa [go_sem] using h
  · simp at h

/-- The slice v of lists is new from lo2 on and reads as ds; each list is the call's own from lo on, and no two lie in one block. -/
structure ListsV (w : World) (lo lo2 : Nat) (v : Value) (ds : List Li) : Prop where
  row : w.ownsRow lo2 22 1 v ds.length (ds.map cellsL)
  caps : ∀ (j : Nat) (u : Li), ds[j]? = some u → u.r.length ≤ u.c
  rts : ∀ (j : Nat) (u : Li), ds[j]? = some u → OwnI w lo u.a u.r
  far : ∀ (i j : Nat) (u v : Li), ds[i]? = some u → ds[j]? = some v → i ≠ j → u.r ≠ [] → v.r ≠ [] → u.a ≠ v.a

theorem ListsV.start (w : World) (lo lo2 : Nat) : ListsV w lo lo2 (.slice none 0 0) [] := ⟨⟨rfl, .inl ⟨rfl, rfl⟩⟩, fun j u h => by simp at h, fun j u h => by simp at h, fun i j u v h => by simp at h⟩
theorem ListsV.keep {w w' : World} {lo lo2 : Nat} {v : Value} {ds : List Li} (h : ListsV w lo lo2 v ds) (hb : Below w.heap.size w w') : ListsV w' lo lo2 v ds :=
  ⟨own_below h.row hb, h.caps, fun j x hx => (h.rts j x hx).below hb (Nat.le_refl _), h.far⟩
theorem ListsV.lt {w : World} {lo lo2 : Nat} {v : Value} {ds : List Li} (h : ListsV w lo lo2 v ds) (b : Nat) (e : v.ownBlock = some b) : lo2 ≤ b ∧ b < w.heap.size := h.row.lt b e
theorem ListsV.slice {w : World} {lo lo2 : Nat} {v : Value} {ds : List Li} (h : ListsV w lo lo2 v ds) (hl : lo ≤ lo2) : ∃ A c, v = .slice A ds.length c ∧ ds.length ≤ c ∧ OwnL w lo A ds := by
  obtain ⟨_, ⟨rfl, h0⟩ | ⟨g, cap, cur, rfl, hlo, hg, hcap, _, _, hx⟩⟩ := h.row
  · have : ds = [] := List.eq_nil_of_length_eq_zero h0
    subst this
    exact ⟨none, 0, rfl, Nat.le_refl _, .inl rfl⟩
  · refine ⟨_, cap, rfl, hcap, .inr ⟨g, cur, rfl, by omega, hg, fun k u hu => ?_, h.far⟩⟩
    have hk := (List.getElem?_eq_some_iff.1 hu).1
    have f1 : (ds.map cellsL)[k]? = some (cellsL u) := by rw [List.getElem?_map, hu]; rfl
    rw [← hx, List.getElem?_take, if_pos (by omega)] at f1
    exact ⟨by simpa [cellsL] using f1, h.caps k u hu, h.rts k u hu⟩
theorem ListsV.step {w w2 : World} {lo lo2 : Nat} {v v' : Value} {ds : List Li} {u : Li} (h : ListsV w lo lo2 v ds) (hO : OwnI w lo u.a u.r) (hcap : u.r.length ≤ u.c)
    (hap : ∀ (j : Nat) (x : Li), ds[j]? = some x → x.r ≠ [] → u.r ≠ [] → x.a ≠ u.a)
    (ho : w2.ownsRow lo2 22 1 v' (ds.length + 1) (ds.map cellsL ++ [.slice u.a u.r.length u.c])) (hg : w.grownBy w2 v.ownBlock) : ListsV w2 lo lo2 v' (ds ++ [u]) := by
  refine ⟨?_, ?_, ?_, ?_⟩
  · rw [List.length_append, List.map_append]
    simpa [cellsL] using ho
  · intro j x hx
    rcases getElem?_snoc hx with ⟨_, hx⟩ | ⟨_, rfl⟩
    · exact h.caps j x hx
    · exact hcap
  · intro j x hx
    rcases getElem?_snoc hx with ⟨_, hx⟩ | ⟨_, rfl⟩
    · exact (h.rts j x hx).grownL h.row hg
    · exact hO.grownL h.row hg
  · intro i j x y hx hy hij hxn hyn
    rcases getElem?_snoc hx with ⟨_, hx'⟩ | ⟨hi, ei⟩ <;> rcases getElem?_snoc hy with ⟨_, hy'⟩ | ⟨hj, ej⟩
    · exact h.far i j x y hx' hy' hij hxn hyn
    · rw [ej] at hyn ⊢; exact hap i x hx' hxn hyn
    · rw [ei] at hxn ⊢; exact fun e => hap j y hy' hyn hxn e.symm
    · omega

/-- The lists es are some of the first k of ds. -/
def SomeOf (es ds : List Li) (k : Nat) : Prop := ∀ (j : Nat) (x : Li), es[j]? = some x → ∃ i, i < k ∧ ds[i]? = some x
theorem SomeOf.start (ds : List Li) : SomeOf [] ds 0 := fun j x h => by simp at h
theorem SomeOf.more {es ds : List Li} {k : Nat} (h : SomeOf es ds k) : SomeOf es ds (k + 1) := fun j x hx => by
  obtain ⟨i, hi, e⟩ := h j x hx
  exact ⟨i, by omega, e⟩
theorem SomeOf.snoc {es ds : List Li} {k : Nat} (h : SomeOf es ds k) {u : Li} (hu : ds[k]? = some u) : SomeOf (es ++ [u]) ds (k + 1) := fun j x hx => by
  rcases getElem?_snoc hx with ⟨_, hx⟩ | ⟨_, rfl⟩
  · exact h.more j x hx
  · exact ⟨k, by omega, hu⟩

/-- A list out of ds, whose lists lie apart, is appended to a slice of those ahead of it. -/
theorem ListsV.pushU {w w1 w2 : World} {lo lo2 : Nat} {v v' : Value} {es ds : List Li} {k : Nat} {u : Li} {o : Obj} (h : ListsV w lo lo2 v es) (hb : Below w.heap.size w w1) (hS : SomeOf es ds k) (hu : ds[k]? = some u) (hO : OwnI w1 lo u.a u.r) (hcap : u.r.length ≤ u.c)
    (hfar : ∀ (i j : Nat) (u v : Li), ds[i]? = some u → ds[j]? = some v → i ≠ j → u.r ≠ [] → v.r ≠ [] → u.a ≠ v.a)
    (ho : w2.ownsRow lo2 22 1 v' (es.length + 1) (es.map cellsL ++ [.slice u.a u.r.length u.c])) (hg : (w1.alloc o).grownBy w2 v.ownBlock) : ListsV w2 lo lo2 v' (es ++ [u]) := by
  have hB2 : Below w1.heap.size w1 (w1.alloc o) := (Below.refl _ _).alloc (Nat.le_refl _) _
  refine ((h.keep hb).keep hB2).step (hO.below hB2 (Nat.le_refl _)) hcap (fun j x hx hxn hun => ?_) ho hg
  obtain ⟨i, hi, e⟩ := hS j x hx
  exact hfar i k x u e hu (by omega) hxn hun

/-- A slice of one list, as it is written. -/
theorem ListsW.one {w : World} {lo g : Nat} {A : Option Addr} {xs : List Int} {c : Nat} (hr : Row w g 22 #[.slice A xs.length c]) (hlo : lo ≤ g) (hO : OwnI w lo A xs) (hcap : xs.length ≤ c) : ListsW w lo (.slice (some ⟨g, 0, none⟩) 1 1) [⟨A, xs, c⟩] := by
  refine ⟨⟨rfl, .inr ⟨g, 1, _, rfl, hlo, hr, Nat.le_refl _, by unfold maxLen; omega, rfl, rfl⟩⟩, fun j u hu => ?_, fun j u hu => ?_, fun i j u v hu hv hij => ?_⟩
  · rcases j with _ | j
    · simp at hu; subst hu; exact hcap
    · simp at hu
  · rcases j with _ | j
    · simp at hu; subst hu; exact hO
    · simp at hu
  · have h1 := (List.getElem?_eq_some_iff.1 hu).1
    have h2 := (List.getElem?_eq_some_iff.1 hv).1
    simp at h1 h2
    omega

end Go.Proofs.YtfbpcdmpkbjifaaDoor

/- The program's RacesIn. Made by mk_raci.py. -/

namespace Go.Proofs.YtfbpcdmpkbjifaaDoor
open Go.RowKit
open Go.Sort (grow)

theorem own_pair (w : World) (a b : Int) : OwnI (w.alloc (.cells #[.int .i64 a, .int .i64 b] 3)) w.heap.size (some ⟨w.heap.size, 0, none⟩) [a, b] := by
  refine .inr ⟨w.heap.size, _, rfl, Nat.le_refl _, Row.new _ _ _, fun k x hx => ?_⟩
  rcases k with _ | _ | k
  · simpa using hx
  · simpa using hx
  · simp at hx
theorem one_cell (w : World) (v : Value) (t : TypeId) : ∀ j u, ([v] : List Value)[j]? = some u → (w.alloc (.cells #[v] t)).cell? ((⟨w.heap.size, 0, none⟩ : Addr).add j) = some u := cell_one_new w v t

set_option maxRecDepth 20000 in
set_option maxHeartbeats 2000000 in
theorem implRacesIn_any (n : Int) (A : Option Addr) (ds : List Dn) (c : Nat) (hs : Int) (w : World) (hx : Dos w w.heap.size A ds) (hn : ds.length ≤ 1048576) (hL : Lims w) :
    Calls Tryd.prog 25 #[.int .i64 n, .slice A ds.length c, .int .i64 hs] w (GaveLB w (racV n hs ds) (racO n hs ds)) := by
  have HX := Lib.hid hx; clear hx
  have HL := Lib.hid hL; clear hL
  obtain ⟨i0, hi0, hz0, hz1, hz2⟩ := info_of Tryd.infoIntS
  cases h1 : inB 0 10 n
  · have HE : Hid (racO n hs ds = false) := bP_f fun h => by have h2 := inB_t h.1.1 h.1.2; rw [h1] at h2; cases h2
    have HV : Hid (racV n hs ds = []) := by show _ = _; unfold racV; rw [HE.out]; rfl
    go_enter Tryd.func25, Tryd.ntmps25
    go_wp2_with (go_at_call 66; (with_reducible refine (within4 n w HL.out).mono ?_); rintro e w1 ⟨rfl, hB⟩; rw [h1]; have HB := Lib.hid hB; clear hB)
    go_ret2
    exact ⟨none, 0, [], by rw [HE.out]; rfl, Nat.le_refl _, .inl rfl, HV.out.symm, HB.out⟩
  cases hg : bP (GoodW hs ds)
  · have HE : Hid (racO n hs ds = false) := bP_f fun h => bP_no hg h.2
    have HV : Hid (racV n hs ds = []) := by show _ = _; unfold racV; rw [HE.out]; rfl
    go_enter Tryd.func25, Tryd.ntmps25
    go_wp2_with (first
      | (go_at_call 66; (with_reducible refine (within4 n w HL.out).mono ?_); rintro e w1 ⟨rfl, hB⟩; rw [h1]; have HB := Lib.hid hB; clear hB)
      | (go_at_call 73; refine (goodLog_any A ds c hs _ ((HX.out.keep HB.out).more HB.out.size) hn (HL.out.keep HB.out (Nat.le_refl _))).mono ?_; rintro e w2 ⟨rfl, hB⟩; rw [hg]; have HB2 := Lib.hid (HB.out.trans (hB.mono HB.out.size)); clear hB))
    go_ret2
    exact ⟨none, 0, [], by rw [HE.out]; rfl, Nat.le_refl _, .inl rfl, HV.out.symm, HB2.out⟩
  have HG := Lib.hid (bP_is hg)
  have hl200 := HG.out.2.1
  have HE : Hid (racO n hs ds = true) := bP_t ⟨⟨inB_lo h1, inB_hi h1⟩, HG.out⟩
  have HV : Hid (racV n hs ds = racA ds ds.length) := by show _ = _; unfold racV; rw [HE.out]; rfl
  go_enter Tryd.func25, Tryd.ntmps25
  go_wp2_with (first
    | (go_at_call 66; (with_reducible refine (within4 n w HL.out).mono ?_); rintro e w1 ⟨rfl, hB⟩; rw [h1]; have HB := Lib.hid hB; clear hB)
    | (go_at_call 73; refine (goodLog_any A ds c hs _ ((HX.out.keep HB.out).more HB.out.size) hn (HL.out.keep HB.out (Nat.le_refl _))).mono ?_; rintro e w1' ⟨rfl, hB⟩; rw [hg]; have HB2 := Lib.hid (HB.out.trans (hB.mono HB.out.size)); clear hB)
    | (go_at_call 75
       refine (waitsAhead_any A ds c hs w1' ((HX.out.keep HB2.out).more HB2.out.size) HG.out).mono ?_
       rintro e w2 ⟨A', c', rfl, hc', hO, hB⟩
       have HBW := Lib.hid (HB2.out.trans (hB.mono HB2.out.size))
       have HY := Lib.hid hO.ints
       rw [aheadL_len]
       clear hB hO))
  have HX2 := Lib.hid ((HX.out.keep HBW.out).more HBW.out.size)
  clear HB HB2
  go_loopw [9, 25] (fun v x wr => ∃ (i : Nat) (ls : List Li), i ≤ ds.length ∧ x = .int .i64 i ∧ Hid (Below w2.heap.size w2 wr) ∧ Hid (ListsW wr w2.heap.size v ls) ∧ Hid (sayL ls = racA ds i)) (fun _ x _ => ds.length - (intOf x).toNat)
  case atStart => exact ⟨0, [], by omega, rfl, Below.refl _ _, ListsW.start _ _, rfl⟩
  case round =>
    obtain ⟨i, ls, hi, rfl, HB, HL2, HP⟩ := hrel
    by_cases hlt : i < ds.length
    · obtain ⟨wA, hwA⟩ : ∃ x, x = wr := ⟨_, rfl⟩
      subst hwA
      obtain ⟨fs, hfs⟩ : ∃ x, x = ls := ⟨_, rfl⟩
      subst hfs
      go_wp2
      go_loopw [9, 11] (fun v x wr => ∃ (j : Nat) (ls : List Li), i < j ∧ j ≤ ds.length ∧ x = .int .i64 j ∧ Hid (Below w2.heap.size w2 wr) ∧ Hid (ListsW wr w2.heap.size v ls) ∧ Hid (sayL ls = racA ds i ++ racJ ds i j)) (fun _ x _ => ds.length - (intOf x).toNat)
      case atStart => exact ⟨i + 1, fs, by omega, by omega, by go_num, HB.out, HL2.out, by show _ = _; rw [racJ_start ds i _ (Nat.le_refl _), List.append_nil]; exact HP.out⟩
      case round =>
        clear HB HL2 HP
        obtain ⟨j, ls, hij, hj, rfl, HB, HL, HP⟩ := hrel
        by_cases hjl : j < ds.length
        · obtain ⟨b, o, rfl, hb, c0, c1, c2, c3⟩ := (HX2.out.keep HB.out).at_ hlt
          obtain ⟨b', o', e', hb', d0, d1, d2, d3⟩ := (HX2.out.keep HB.out).at_ hjl
          cases e'
          replace c0 := cell_regrown c0
          replace c1 := cell_regrown c1
          replace c2 := cell_regrown c2
          replace c3 := cell_regrown c3
          replace d0 := cell_regrown d0
          replace d1 := cell_regrown d1
          replace d2 := cell_regrown d2
          replace d3 := cell_regrown d3
          have HRG : Hid (∀ d os, Below w2.heap.size w2 (grow (redrawn wr d) os)) := fun d os => HB.out.trans ((below_regrown wr d os).mono HB.out.size)
          have HC1 : Hid (∀ d os, Calls Tryd.prog 78 #[.agg #[.int .i64 ds[i].h, .int .i64 ds[i].k, .int .i64 ds[i].f, .int .i64 ds[i].t], .agg #[.int .i64 ds[j].h, .int .i64 ds[j].k, .int .i64 ds[j].f, .int .i64 ds[j].t]] (grow (redrawn wr d) os) fun e w' => e = .returned (.bool (touchB ds[i] ds[j])) ∧ Below (grow (redrawn wr d) os).heap.size (grow (redrawn wr d) os) w') := fun d os => areInTouch_any _ _ _
          have HC2 : Hid (∀ d os, Calls Tryd.prog 74 #[.slice (some ⟨b, o, none⟩) ds.length c, .slice A' ds.length c', .int .i64 (i : Int), .int .i64 (j : Int)] (grow (redrawn wr d) os) fun e w' => e = .returned (.bool (bP (Ahead ds i j))) ∧ Below (grow (redrawn wr d) os).heap.size (grow (redrawn wr d) os) w') := fun d os => isAhead_any _ A' ds c c' i j _ ((HX2.out.keep (HRG.out d os)).more (HRG.out d os).size) ((HY.out.keep (HRG.out d os)).more (HRG.out d os).size) hl200 hlt hjl
          have HNO : Hid ((touchB ds[i] ds[j] = false ∨ bP (Ahead ds i j) = true) → racJ ds i (j + 1) = racJ ds i j) := fun h => racJ_no (by rw [getD_at hlt, getD_at hjl]; exact h)
          have HYES : Hid (touchB ds[i] ds[j] = true → bP (Ahead ds i j) = false → racJ ds i (j + 1) = racJ ds i j ++ [[(i : Int), (j : Int)]]) := fun h1 h2 => racJ_yes hij (by rw [getD_at hlt, getD_at hjl]; exact h1) h2
          generalize bP (Ahead ds i j) = ab at HC2 HNO HYES
          generalize touchB ds[i] ds[j] = tb at HC1 HNO HYES
          generalize ds[i] = u at c0 c1 c2 c3 HC1
          generalize ds[j] = u' at d0 d1 d2 d3 HC1
          clear HRG
          cases tb
          · have HN := Lib.hid (HNO.out (.inl rfl))
            clear HNO HYES
            go_wp2
            refine wp_region_quiet_below (by kernel_rfl) (by kernel_rfl) ?_
            repeat (first | go_big_quiet_step (first | (with_reducible exact Calls.regrown_of (HC1.out _ _)) | (with_reducible exact Calls.regrown_of (HC2.out _ _))) | quiet_step (first | (with_reducible exact Calls.regrown_of (HC1.out _ _)) | (with_reducible exact Calls.regrown_of (HC2.out _ _))))
            refine wpQuiet_nil ?_
            intro _ hw'
            obtain ⟨⟨dq, osq⟩, hw''⟩ := hw'
            subst hw''
            have HG3 : Hid (Below wr.heap.size wr (grow (redrawn wr dq) osq)) := below_regrown wr dq osq
            generalize grow (redrawn wr dq) osq = W3 at HG3 ⊢
            have HB3 := Lib.hid (HB.out.trans (HG3.out.mono HB.out.size))
            have HL3 := Lib.hid (HL.out.keep HG3.out)
            clear HC1 HC2 HG3 HB HL c0 c1 c2 c3 d0 d1 d2 d3

            go_wp2
            go_roundw
            case rel => exact ⟨j + 1, ls, by omega, by omega, by go_num, HB3.out, HL3.out, by show _ = _; rw [HN.out]; exact HP.out⟩
            case measure => simp [intOf]; omega
          cases ab
          · have HN := Lib.hid (HYES.out rfl rfl)
            clear HNO HYES
            go_wp2
            refine wp_region_quiet_below (by kernel_rfl) (by kernel_rfl) ?_
            repeat (first | go_big_quiet_step (first | (with_reducible exact Calls.regrown_of (HC1.out _ _)) | (with_reducible exact Calls.regrown_of (HC2.out _ _))) | quiet_step (first | (with_reducible exact Calls.regrown_of (HC1.out _ _)) | (with_reducible exact Calls.regrown_of (HC2.out _ _))))
            refine wpQuiet_nil ?_
            intro _ hw'
            obtain ⟨⟨dq, osq⟩, hw''⟩ := hw'
            subst hw''
            have HG3 : Hid (Below wr.heap.size wr (grow (redrawn wr dq) osq)) := below_regrown wr dq osq
            generalize grow (redrawn wr dq) osq = W3 at HG3 ⊢
            have HB3 := Lib.hid (HB.out.trans (HG3.out.mono HB.out.size))
            have HL3 := Lib.hid (HL.out.keep HG3.out)
            clear HC1 HC2 HG3 HB HL c0 c1 c2 c3 d0 d1 d2 d3

            have hs3 : w2.heap.size ≤ W3.heap.size := HB3.out.size
            have HB6 : Hid (Below W3.heap.size W3 (W3.alloc (.cells #[.int .i64 (i : Int), .int .i64 (j : Int)] 3))) := (Below.refl _ _).alloc (Nat.le_refl _) _
            have HO6 := Lib.hid (own_pair W3 (i : Int) (j : Int))
            have HWn : Hid (((W3.alloc (.cells #[.int .i64 (i : Int), .int .i64 (j : Int)] 3)).alloc (.cells #[.slice (some ⟨W3.heap.size, 0, none⟩) 2 2] 22)).ownsRow w2.heap.size 22 1 _ ls.length (ls.map cellsL)) := (own_below HL3.out.row HB6.out).alloc _
            have HNW : Hid (∀ j' u, ([.slice (some ⟨W3.heap.size, 0, none⟩) 2 2] : List Value)[j']? = some u → ((W3.alloc (.cells #[.int .i64 (i : Int), .int .i64 (j : Int)] 3)).alloc (.cells #[.slice (some ⟨W3.heap.size, 0, none⟩) 2 2] 22)).cell? ((⟨W3.heap.size + 1, 0, none⟩ : Addr).add j') = some u) := by
              have h := one_cell (W3.alloc (.cells #[.int .i64 (i : Int), .int .i64 (j : Int)] 3)) (.slice (some ⟨W3.heap.size, 0, none⟩) 2 2) 22
              rw [World.size_alloc] at h
              exact h
            have hls : ls.length ≤ 40200 := by
              have h1 := sayL_len' HP.out
              rw [List.length_append] at h1
              have h2 := racA_len ds i
              have h3 := racJ_len ds i j
              have h4 : i * ds.length ≤ 200 * 200 := Nat.mul_le_mul (by omega) hl200
              omega
            go_wp2_with (at_builtin
                         refine wpList_append_lies _ rfl (.tmp 53) (.tmp 57) _ rfl w2.heap.size 22 i0 _ 1 24 Tryd.underlying39 hi0 hz0 hz1 hz2 rfl (by omega) _ _ _ rfl HWn.out ⟨W3.heap.size + 1, 0, none⟩ 1 1 [.slice (some ⟨W3.heap.size, 0, none⟩) 2 2] rfl rfl HNW.out (by intro u hu; simp at hu; subst hu; rfl) (by omega) (by unfold maxLen; omega) (by omega) (by simp; omega) _ rfl ?_
                         intro g7 cap7 w7 p1 p2 p3 p4
                         have HLN := Lib.hid (HL3.out.pushI (xs := [(i : Int), (j : Int)]) (c := 2) HB6.out hs3 HO6.out (by simp) p1 p2)
                         have HBN : Hid (Below w2.heap.size w2 w7) := (HB3.out.trans ((HB6.out.mono hs3).alloc (by simp; omega) _)).grown p2 (by simp; omega) fun j hj => (HL3.out.lt j hj).1
                         have HSN : Hid (sayL (ls ++ [⟨some ⟨W3.heap.size, 0, none⟩, [(i : Int), (j : Int)], 2⟩]) = racA ds i ++ racJ ds i (j + 1)) := by show _ = _; rw [HN.out, ← List.append_assoc, ← HP.out]; simp [sayL]
                         clear p1 p2 p3 p4)
            go_roundw
            case rel => exact ⟨j + 1, _, by omega, by omega, by go_num, HBN.out, HLN.out, HSN.out⟩
            case measure => simp [intOf]; omega
          · have HN := Lib.hid (HNO.out (.inr rfl))
            clear HNO HYES
            go_wp2
            refine wp_region_quiet_below (by kernel_rfl) (by kernel_rfl) ?_
            repeat (first | go_big_quiet_step (first | (with_reducible exact Calls.regrown_of (HC1.out _ _)) | (with_reducible exact Calls.regrown_of (HC2.out _ _))) | quiet_step (first | (with_reducible exact Calls.regrown_of (HC1.out _ _)) | (with_reducible exact Calls.regrown_of (HC2.out _ _))))
            refine wpQuiet_nil ?_
            intro _ hw'
            obtain ⟨⟨dq, osq⟩, hw''⟩ := hw'
            subst hw''
            have HG3 : Hid (Below wr.heap.size wr (grow (redrawn wr dq) osq)) := below_regrown wr dq osq
            generalize grow (redrawn wr dq) osq = W3 at HG3 ⊢
            have HB3 := Lib.hid (HB.out.trans (HG3.out.mono HB.out.size))
            have HL3 := Lib.hid (HL.out.keep HG3.out)
            clear HC1 HC2 HG3 HB HL c0 c1 c2 c3 d0 d1 d2 d3

            go_wp2
            go_roundw
            case rel => exact ⟨j + 1, ls, by omega, by omega, by go_num, HB3.out, HL3.out, by show _ = _; rw [HN.out]; exact HP.out⟩
            case measure => simp [intOf]; omega
        · have HP2 : Hid (sayL ls = racA ds (i + 1)) := by
            have hj2 : j = ds.length := by omega
            show _ = _
            rw [HP.out, hj2]
            rfl
          go_wp2
          go_roundw
          case rel => exact ⟨i + 1, ls, by omega, by go_num, HB.out, HL.out, HP2.out⟩
          case measure => simp [intOf]; omega
    · have HP2 : Hid (sayL ls = racV n hs ds) := by
        have hi2 : i = ds.length := by omega
        show _ = _
        rw [HP.out, hi2, HV.out]
      obtain ⟨A2, c2, rfl, hc2, hOL⟩ := HL2.out.slice
      have HOL := Lib.hid hOL
      clear hOL
      go_wp2
      go_ret2
      exact ⟨A2, c2, ls, by rw [HE.out]; rfl, hc2, HOL.out.lower HBW.out.size, HP2.out, HBW.out.trans (HB.out.mono HBW.out.size)⟩

end Go.Proofs.YtfbpcdmpkbjifaaDoor

/- The reference's RacesIn. Made by mk_racs.py. -/

namespace Go.Proofs.YtfbpcdmpkbjifaaDoor
open Go.RowKit

theorem app_own {w6 : World} {lo : Nat} {v : Value} {ls : List Li} {x y : Int} (h : ListsW w6 lo v ls) : ((w6.alloc (.cells #[.int .i64 x, .int .i64 y] 3)).alloc (.cells #[.slice (some ⟨w6.heap.size, 0, none⟩) 2 2] 22)).ownsRow lo 22 1 v ls.length (ls.map cellsL) :=
  (own_below h.row ((Below.refl _ _).alloc (Nat.le_refl _) _)).alloc _
theorem app_cell (w6 : World) (x y : Int) : ∀ j' u, ([.slice (some ⟨w6.heap.size, 0, none⟩) 2 2] : List Value)[j']? = some u → ((w6.alloc (.cells #[.int .i64 x, .int .i64 y] 3)).alloc (.cells #[.slice (some ⟨w6.heap.size, 0, none⟩) 2 2] 22)).cell? ((⟨w6.heap.size + 1, 0, none⟩ : Addr).add j') = some u := by
  have h := one_cell (w6.alloc (.cells #[.int .i64 x, .int .i64 y] 3)) (.slice (some ⟨w6.heap.size, 0, none⟩) 2 2) 22
  rw [World.size_alloc] at h
  exact h
theorem row_listT {w : World} {lo n g : Nat} {v : Value} {xs : List Value} (h : w.ownsRow lo 22 1 v n xs) (e : v.ownBlock = some g) : ∃ cur, Row w g 22 cur := by
  rcases h.2 with ⟨rfl, _⟩ | ⟨g', cap, cur, rfl, hlo, hb, _⟩
  · cases e
  · cases e
    exact ⟨cur, hb⟩

set_option maxRecDepth 20000 in
set_option maxHeartbeats 2000000 in
theorem specRacesIn_any (n : Int) (A : Option Addr) (ds : List Dn) (c : Nat) (hs : Int) (w : World) (hx : Dos w w.heap.size A ds) (hn : ds.length ≤ 1048576) (hcap : ds.length ≤ c) :
    Calls Tryd.prog 24 #[.int .i64 n, .slice A ds.length c, .int .i64 hs] w (GaveLB w (racV n hs ds) (racO n hs ds)) := by
  have HC := Lib.hid (l8Log_any A ds c hs w hx hn)
  have HX := Lib.hid hx; clear hx
  obtain ⟨i0, hi0, hz0, hz1, hz2⟩ := info_of Tryd.infoIntS
  cases hg : bP (GoodW hs ds)
  · have HE : Hid (racO n hs ds = false) := bP_f fun h => bP_no hg h.2
    have HV : Hid (racV n hs ds = []) := by show _ = _; unfold racV; rw [HE.out]; rfl
    go_enter Tryd.func24, Tryd.ntmps24
    go_wp2_with (go_at_call 70; refine HC.out.mono ?_; rintro e w1 ⟨rfl, hB⟩; rw [hg]; have HB := Lib.hid hB; clear hB)
    go_ret2
    exact ⟨none, 0, [], by rw [HE.out]; rfl, Nat.le_refl _, .inl rfl, HV.out.symm, HB.out⟩
  cases h1 : inB 0 10 n
  · have HE : Hid (racO n hs ds = false) := bP_f fun h => by have h2 := inB_t h.1.1 h.1.2; rw [h1] at h2; cases h2
    have HV : Hid (racV n hs ds = []) := by show _ = _; unfold racV; rw [HE.out]; rfl
    go_enter Tryd.func24, Tryd.ntmps24
    go_wp2_with (first
      | (go_at_call 70; refine HC.out.mono ?_; rintro e w1 ⟨rfl, hB⟩; rw [hg]; have HB := Lib.hid hB; clear hB)
      | (go_at_call 64; refine (l1In_any _ _ _ _).mono ?_; rintro e w' ⟨rfl, rfl⟩; rw [h1]))
    go_ret2
    exact ⟨none, 0, [], by rw [HE.out]; rfl, Nat.le_refl _, .inl rfl, HV.out.symm, HB.out⟩
  have HG := Lib.hid (bP_is hg)
  have hl200 := HG.out.2.1
  have HE : Hid (racO n hs ds = true) := bP_t ⟨⟨inB_lo h1, inB_hi h1⟩, HG.out⟩
  have HV : Hid (racV n hs ds = racA ds ds.length) := by show _ = _; unfold racV; rw [HE.out]; rfl
  go_enter Tryd.func24, Tryd.ntmps24
  go_wp2_with (first
    | (go_at_call 70; refine HC.out.mono ?_; rintro e w1 ⟨rfl, hB⟩; rw [hg]; have HBA := Lib.hid hB; clear hB)
    | (go_at_call 64; refine (l1In_any _ _ _ _).mono ?_; rintro e w0 ⟨rfl, rfl⟩; rw [h1]))
  obtain ⟨w0, hw0⟩ : ∃ x, x = w1 := ⟨_, rfl⟩
  subst hw0
  obtain ⟨lo, hlo⟩ : ∃ x, x = w0.heap.size := ⟨_, rfl⟩
  have HX2 : Hid (Dos w0 lo A ds) := by subst hlo; exact (HX.out.keep HBA.out).more HBA.out.size
  have HLO : Hid (lo ≤ w0.heap.size) := Nat.le_of_eq hlo
  have HLO2 : Hid (w.heap.size ≤ lo) := by have := HBA.out.size; show _ ≤ _; omega
  clear hlo
  go_loopw [8, 24] (fun v x wr => ∃ (i : Nat) (ls : List Li), i ≤ ds.length ∧ x = .int .i64 i ∧ Hid (Below lo w0 wr) ∧ Hid (ListsW wr lo v ls) ∧ Hid (sayL ls = racA ds i)) (fun _ x _ => ds.length - (intOf x).toNat)
  case atStart => exact ⟨0, [], by omega, rfl, Below.refl _ _, ListsW.start _ _, rfl⟩
  case round =>
    obtain ⟨i, ls, hi, rfl, HB, HL2, HP⟩ := hrel
    by_cases hlt : i < ds.length
    · obtain ⟨wA, hwA⟩ : ∃ x, x = wr := ⟨_, rfl⟩
      subst hwA
      obtain ⟨fs, hfs⟩ : ∃ x, x = ls := ⟨_, rfl⟩
      subst hfs
      obtain ⟨b, o, rfl, hb, c0, c1, c2, c3⟩ := (HX2.out.keep HB.out).at_ hlt
      have HUI := Lib.hid (HG.out.at_ hlt)
      have HU1 := Lib.hid (getD_at hlt)
      generalize ds[i] = u at c0 c1 c2 c3 HUI HU1
      have hloA : lo ≤ wA.heap.size := Nat.le_trans HLO.out HB.out.size
      have HBK : Hid (Below lo w0 (wA.alloc (.cells #[.int .i64 u.h, .int .i64 u.k, .int .i64 u.f, .int .i64 u.t] 88))) := HB.out.alloc hloA _
      have HRK : Hid (Row (wA.alloc (.cells #[.int .i64 u.h, .int .i64 u.k, .int .i64 u.f, .int .i64 u.t] 88)) wA.heap.size 88 #[.int .i64 u.h, .int .i64 u.k, .int .i64 u.f, .int .i64 u.t]) := Row.new _ _ _
      have HLK : Hid (ListsW (wA.alloc (.cells #[.int .i64 u.h, .int .i64 u.k, .int .i64 u.f, .int .i64 u.t] 88)) lo _ fs) := HL2.out.keep ((Below.refl _ _).alloc (Nat.le_refl _) _)
      go_wp2
      generalize wA.alloc (.cells #[.int .i64 u.h, .int .i64 u.k, .int .i64 u.f, .int .i64 u.t] 88) = WK at HBK HRK HLK ⊢
      generalize wA.heap.size = K at HRK ⊢
      go_loopw [8, 11] (fun v x wr => ∃ (j : Nat) (ls : List Li), i < j ∧ j ≤ ds.length ∧ x = .int .i64 j ∧ Hid (Below lo w0 wr) ∧ Hid (ListsW wr lo v ls) ∧ Hid (Row wr K 88 #[.int .i64 u.h, .int .i64 u.k, .int .i64 u.f, .int .i64 u.t]) ∧ Hid (sayL ls = racA ds i ++ racJ ds i j)) (fun _ x _ => ds.length - (intOf x).toNat)
      case atStart => exact ⟨i + 1, fs, by omega, by omega, by go_num, HBK.out, HLK.out, HRK.out, by show _ = _; rw [racJ_start ds i _ (Nat.le_refl _), List.append_nil]; exact HP.out⟩
      case round =>
        clear HB HL2 HP HBK HLK HRK c0 c1 c2 c3
        obtain ⟨j, ls, hij, hj, rfl, HB, HL, HR, HP⟩ := hrel
        by_cases hjl : j < ds.length
        · obtain ⟨b', o', e', hb', d0, d1, d2, d3⟩ := (HX2.out.keep HB.out).at_ hjl
          cases e'
          have HUJ := Lib.hid (HG.out.at_ hjl)
          have HU2 := Lib.hid (getD_at hjl)
          generalize ds[j] = u' at d0 d1 d2 d3 HUJ HU2
          have hloR : lo ≤ wr.heap.size := Nat.le_trans HLO.out HB.out.size
          have HBW : Hid (Below lo w0 (wr.alloc (.cells #[.int .i64 u'.h, .int .i64 u'.k, .int .i64 u'.f, .int .i64 u'.t] 88))) := HB.out.alloc hloR _
          have HRW : Hid (Row (wr.alloc (.cells #[.int .i64 u'.h, .int .i64 u'.k, .int .i64 u'.f, .int .i64 u'.t] 88)) K 88 #[.int .i64 u.h, .int .i64 u.k, .int .i64 u.f, .int .i64 u.t]) := HR.out.alloc _
          have HRJ : Hid (Row (wr.alloc (.cells #[.int .i64 u'.h, .int .i64 u'.k, .int .i64 u'.f, .int .i64 u'.t] 88)) wr.heap.size 88 #[.int .i64 u'.h, .int .i64 u'.k, .int .i64 u'.f, .int .i64 u'.t]) := Row.new _ _ _
          have HLW : Hid (ListsW (wr.alloc (.cells #[.int .i64 u'.h, .int .i64 u'.k, .int .i64 u'.f, .int .i64 u'.t] 88)) lo _ ls) := HL.out.keep ((Below.refl _ _).alloc (Nat.le_refl _) _)
          have HC1 : Hid (∀ W, Calls Tryd.prog 77 #[.agg #[.int .i64 u.h, .int .i64 u.k, .int .i64 u.f, .int .i64 u.t], .agg #[.int .i64 u'.h, .int .i64 u'.k, .int .i64 u'.f, .int .i64 u'.t]] W fun e w' => e = .returned (.bool ((u.f == u'.f) || (u.t == u'.t))) ∧ Below W.heap.size W w') := fun W => l8Touch_any _ _ hs W HUI.out HUJ.out
          have HC2 : Hid (∀ w5, Below lo w0 w5 → Calls Tryd.prog 71 #[.slice (some ⟨b, o, none⟩) ds.length c, .int .i64 (i : Int), .int .i64 (j : Int)] w5 fun e w' => e = .returned (.bool (bP (Ahead ds i j))) ∧ Below w5.heap.size w5 w') := fun w5 hB => l8Ahead_any _ ds c i j _ ((HX2.out.keep hB).more (Nat.le_trans HLO.out hB.size)) hl200 hcap hlt hjl
          have HNO : Hid ((touchB u u' = false ∨ bP (Ahead ds i j) = true) → racJ ds i (j + 1) = racJ ds i j) := fun h => racJ_no (by rw [HU1.out, HU2.out]; exact h)
          have HYES : Hid (touchB u u' = true → bP (Ahead ds i j) = false → racJ ds i (j + 1) = racJ ds i j ++ [[(i : Int), (j : Int)]]) := fun h1 h2 => racJ_yes hij (by rw [HU1.out, HU2.out]; exact h1) h2
          have HT : Hid (touchB u u' = ((u.k == 1) && ((u'.k == 1) && ((u.f == u'.f) || (u.t == u'.t))))) := rfl
          generalize bP (Ahead ds i j) = ab at HC2 HNO HYES
          generalize ((u.f == u'.f) || (u.t == u'.t)) = tv at HC1 HT
          have k0 := HRW.out.cell 0
          have k1 := HRW.out.cell 1
          have k2 := HRW.out.cell 2
          have k3 := HRW.out.cell 3
          simp only [List.getElem?_toArray, List.getElem?_cons_succ, List.getElem?_cons_zero] at k0 k1 k2 k3
          cases hk1 : (u.k == 1)
          · have HN := Lib.hid (HNO.out (.inl (by rw [HT.out, hk1]; rfl)))
            go_wp2

            go_roundw
            case rel => exact ⟨j + 1, ls, by omega, by omega, by go_num, HBW.out.trans ((Below.refl _ _).mono (Nat.le_trans HLO.out HBW.out.size)), HLW.out.keep (Below.refl _ _), HRW.out.below (Below.refl _ _) HRW.out.lt, by show _ = _; rw [HN.out]; exact HP.out⟩
            case measure => simp [intOf]; omega
          cases hk2 : (u'.k == 1)
          · have HN := Lib.hid (HNO.out (.inl (by rw [HT.out, hk1, hk2]; rfl)))
            go_wp2

            go_roundw
            case rel => exact ⟨j + 1, ls, by omega, by omega, by go_num, HBW.out.trans ((Below.refl _ _).mono (Nat.le_trans HLO.out HBW.out.size)), HLW.out.keep (Below.refl _ _), HRW.out.below (Below.refl _ _) HRW.out.lt, by show _ = _; rw [HN.out]; exact HP.out⟩
            case measure => simp [intOf]; omega
          cases tv
          · have HN := Lib.hid (HNO.out (.inl (by rw [HT.out, hk1, hk2]; rfl)))
            go_wp2_with (go_at_call 77; (with_reducible refine (HC1.out _).mono ?_); rintro e w5 ⟨rfl, hB⟩; have HB5 := Lib.hid hB; clear hB)

            go_roundw
            case rel => exact ⟨j + 1, ls, by omega, by omega, by go_num, HBW.out.trans (HB5.out.mono (Nat.le_trans HLO.out HBW.out.size)), HLW.out.keep HB5.out, HRW.out.below HB5.out HRW.out.lt, by show _ = _; rw [HN.out]; exact HP.out⟩
            case measure => simp [intOf]; omega
          cases ab
          · have HN := Lib.hid (HYES.out (by rw [HT.out, hk1, hk2]; rfl) rfl)
            have hls : ls.length ≤ 40200 := by
              have h1 := sayL_len' HP.out
              rw [List.length_append] at h1
              have h2 := racA_len ds i
              have h3 := racJ_len ds i j
              have h4 : i * ds.length ≤ 200 * 200 := Nat.mul_le_mul (by omega) hl200
              omega
            have HRD : Hid (∀ w6, Below (wr.alloc (.cells #[.int .i64 u'.h, .int .i64 u'.k, .int .i64 u'.f, .int .i64 u'.t] 88)).heap.size (wr.alloc (.cells #[.int .i64 u'.h, .int .i64 u'.k, .int .i64 u'.f, .int .i64 u'.t] 88)) w6 → lo ≤ w6.heap.size) := fun w6 hB => Nat.le_trans (Nat.le_trans HLO.out HBW.out.size) hB.size
            go_wp2_with (first
              | (go_at_call 77; (with_reducible refine (HC1.out _).mono ?_); rintro e w5 ⟨rfl, hB⟩; have HB5 := Lib.hid hB; clear hB)
              | (go_at_call 71; (with_reducible refine (HC2.out w5 (HBW.out.trans (HB5.out.mono (Nat.le_trans HLO.out HBW.out.size)))).mono ?_); rintro e w6 ⟨rfl, hB⟩; have HB6 := Lib.hid (HB5.out.trans (hB.mono HB5.out.size)); have hs6 := HRD.out w6 HB6.out; have HA1 : Hid (Below w6.heap.size w6 (w6.alloc (.cells #[.int .i64 (i : Int), .int .i64 (j : Int)] 3))) := (Below.refl _ _).alloc (Nat.le_refl _) _; have HA2 := Lib.hid (HLW.out.keep HB6.out); have HA3 := Lib.hid (app_own (x := (i : Int)) (y := (j : Int)) HA2.out); have HA4 := Lib.hid (app_cell w6 (i : Int) (j : Int)); have HA5 := Lib.hid (HRW.out.below HB6.out HRW.out.lt); clear hB)
              | (at_builtin
                 refine wpList_append_lies _ rfl (.tmp 61) (.tmp 65) _ rfl lo 22 i0 _ 1 24 Tryd.underlying39 hi0 hz0 hz1 hz2 rfl (by omega) _ _ _ rfl HA3.out ⟨w6.heap.size + 1, 0, none⟩ 1 1 [.slice (some ⟨w6.heap.size, 0, none⟩) 2 2] rfl rfl HA4.out (by intro u hu; simp at hu; subst hu; rfl) (by omega) (by unfold maxLen; omega) (by omega) (by simp; omega) _ rfl ?_
                 intro g7 cap7 w7 p1 p2 p3 p4
                 have HLN := Lib.hid (HA2.out.pushI (xs := [(i : Int), (j : Int)]) (c := 2) HA1.out hs6 (own_pair w6 (i : Int) (j : Int)) (by simp) p1 p2)
                 have HBN : Hid (Below lo w0 w7) := ((HBW.out.trans (HB6.out.mono (Nat.le_trans HLO.out HBW.out.size))).trans ((HA1.out.mono hs6).alloc (by simp; omega) _)).grown p2 (by simp; omega) fun j hj => (HA2.out.lt j hj).1
                 have HRN : Hid (Row w7 K 88 #[.int .i64 u.h, .int .i64 u.k, .int .i64 u.f, .int .i64 u.t]) := (p2.block K (by have := HA5.out.lt; simp; omega) (fun e => by
                   obtain ⟨cur, hc⟩ := row_listT HA2.out.row e.symm
                   exact HA5.out.ne hc (by decide) rfl)).trans ((HA5.out.alloc _).alloc _)
                 have HSN : Hid (sayL (ls ++ [⟨some ⟨w6.heap.size, 0, none⟩, [(i : Int), (j : Int)], 2⟩]) = racA ds i ++ racJ ds i (j + 1)) := by show _ = _; rw [HN.out, ← List.append_assoc, ← HP.out]; simp [sayL]
                 clear p1 p2 p3 p4))
            go_roundw
            case rel => exact ⟨j + 1, _, by omega, by omega, by go_num, HBN.out, HLN.out, HRN.out, HSN.out⟩
            case measure => simp [intOf]; omega
          · have HN := Lib.hid (HNO.out (.inr rfl))
            go_wp2_with (first
              | (go_at_call 77; (with_reducible refine (HC1.out _).mono ?_); rintro e w5 ⟨rfl, hB⟩; have HB5 := Lib.hid hB; clear hB)
              | (go_at_call 71; (with_reducible refine (HC2.out w5 (HBW.out.trans (HB5.out.mono (Nat.le_trans HLO.out HBW.out.size)))).mono ?_); rintro e w6 ⟨rfl, hB⟩; have HB6 := Lib.hid (HB5.out.trans (hB.mono HB5.out.size)); clear hB))

            go_roundw
            case rel => exact ⟨j + 1, ls, by omega, by omega, by go_num, HBW.out.trans (HB6.out.mono (Nat.le_trans HLO.out HBW.out.size)), HLW.out.keep HB6.out, HRW.out.below HB6.out HRW.out.lt, by show _ = _; rw [HN.out]; exact HP.out⟩
            case measure => simp [intOf]; omega
        · have HP2 : Hid (sayL ls = racA ds (i + 1)) := by
            have hj2 : j = ds.length := by omega
            show _ = _
            rw [HP.out, hj2]
            rfl
          go_wp2
          go_roundw
          case rel => exact ⟨i + 1, ls, by omega, by go_num, HB.out, HL.out, HP2.out⟩
          case measure => simp [intOf]; omega
    · have HP2 : Hid (sayL ls = racV n hs ds) := by
        have hi2 : i = ds.length := by omega
        show _ = _
        rw [HP.out, hi2, HV.out]
      obtain ⟨A2, c2, rfl, hc2, hOL⟩ := HL2.out.slice
      have HOL := Lib.hid hOL
      clear hOL
      go_wp2
      go_ret2
      exact ⟨A2, c2, ls, by rw [HE.out]; rfl, hc2, HOL.out.lower HLO2.out, HP2.out, HBA.out.trans (HB.out.mono HLO2.out)⟩

end Go.Proofs.YtfbpcdmpkbjifaaDoor

/- The law of RacesIn: its walk. -/

namespace Go.Proofs.YtfbpcdmpkbjifaaDoor
open Go.RowKit

set_option maxRecDepth 20000 in
set_option maxHeartbeats 2000000 in
theorem law_RacesIn (n : Int) (A : Option Addr) (ds : List Dn) (c : Nat) (hs : Int) (w : World) (_ : F64 n) (hx : Dos w w.heap.size A ds) (hn : ds.length ≤ maxLen) (_ : F64 hs) (hL : Lims w) :
    Calls Tryd.prog 6 #[.int .i64 n, .slice A ds.length c, .int .i64 hs] w (LawEnds w) := by
  have HX := Lib.hid hx; clear hx
  have HL := Lib.hid hL; clear hL
  go_enter Tryd.func6, Tryd.ntmps6
  go_wp2_with fail
  refine (szDoneS_any A ds.length c _ w hn (by omega) (by omega)).mono ?_
  rintro e w1 ⟨rfl, rfl⟩
  by_cases hneg : szI ds.length 1048576 < 0
  · go_wp2
    go_ret
    exact ⟨rfl, Below.refl _ _⟩
  have hlen : ds.length ≤ 1048576 := by unfold szI at hneg; split at hneg <;> omega
  have HSP : Hid (∀ A' c' v, ds.length ≤ c' → Dos v v.heap.size A' ds → Calls Tryd.prog 24 #[.int .i64 n, .slice A' ds.length c', .int .i64 hs] v (GaveLB v (racV n hs ds) (racO n hs ds))) := fun A' c' v h1 h2 => specRacesIn_any n A' ds c' hs v h2 hlen h1
  have HIM : Hid (∀ A' c' v, Lims v → Dos v v.heap.size A' ds → Calls Tryd.prog 25 #[.int .i64 n, .slice A' ds.length c', .int .i64 hs] v (GaveLB v (racV n hs ds) (racO n hs ds))) := fun A' c' v h1 h2 => implRacesIn_any n A' ds c' hs v h2 hlen h1
  have hyl : (racV n hs ds).length ≤ 1048576 := Nat.le_trans (racV_len n hs ds) (by decide)
  have HYU := Lib.hid (racV_lens n hs ds)
  generalize racV n hs ds = ys at hyl HYU HSP HIM
  generalize racO n hs ds = ok at HSP HIM
  have hok : (ok != ok) = false := by simp
  -- the reference's answer
  go_wp2_with fail
  refine (toDoneS_any _ _ _ _ HX.out hlen).mono ?_
  rintro e w2 ⟨A2, c2, rfl, hc2, hO2, hB2⟩
  have HO2 := Lib.hid hO2; clear hO2
  have HB2 := Lib.hid hB2; clear hB2
  go_wp2_with fail
  refine (HSP.out A2 c2 w2 hc2 HO2.out.dos).mono ?_
  rintro e w3 ⟨A3, c3, ls3, rfl, _, hO3, hY3, hB3⟩
  have HY3 := Lib.hid hY3; clear hY3
  have HI3 : Hid (∀ b, ItsL A3 ls3 b → w.heap.size ≤ b ∧ b < w3.heap.size) := fun b hb => ⟨by have := (hO3.its hb).1; have := HB2.out.size; omega, (hO3.its hb).2⟩
  have HO3 := Lib.hid hO3; clear hO3
  have HW3 := Lib.hid (HB2.out.trans (hB3.mono HB2.out.size)); clear hB3 HO2 HB2
  -- the program's argument, a copy
  go_wp2_with fail
  refine (toDoneS_any _ _ _ _ ((HX.out.keep HW3.out).more HW3.out.size) hlen).mono ?_
  rintro e w4 ⟨A4, c4, rfl, hc4, hO4, hB4⟩
  have HI4 : Hid (∀ b, ItsD A4 ds b → w3.heap.size ≤ b ∧ b < w4.heap.size) := fun b hb => hO4.its hb
  have HO4 := Lib.hid hO4; clear hO4
  have HO34 := Lib.hid (HO3.out.below hB4 (Nat.le_refl _))
  have HW4 := Lib.hid (HW3.out.trans (hB4.mono HW3.out.size))
  have HS3 := Lib.hid HW3.out.size
  have HS4 := Lib.hid hB4.size
  clear hB4 HO3 HW3
  -- the program's answer
  go_wp2_with fail
  refine (HIM.out A4 c4 w4 (HL.out.keep HW4.out (Nat.le_refl _)) HO4.out.dos).mono ?_
  rintro e w5 ⟨A5, c5, ls5, rfl, _, hO5, hY5, hB5⟩
  have hl5 := say_len hY5 hyl
  have HU5 := Lib.hid (say_lens hY5 HYU.out)
  have HE5 := Lib.hid (eqLs_t (hY5.trans HY3.out.symm)); clear hY5
  have HO45 := Lib.hid (HO4.out.below hB5 (Nat.le_refl _))
  have HO35 := Lib.hid (HO34.out.below hB5 (Nat.le_refl _))
  have HW5 := Lib.hid (HW4.out.trans (hB5.mono HW4.out.size))
  have HI5 : Hid (∀ b, ItsL A5 ls5 b → w4.heap.size ≤ b) := fun b hb => (hO5.its hb).1
  have HO5 := Lib.hid hO5; clear hO5
  clear hB5 HO4 HO34 HW4
  -- they say the same
  go_wp2_with fail
  refine (eqIntSS_any _ _ _ _ _ _ _ HO5.out.lls HO35.out.lls hl5 HU5.out).mono ?_
  rintro e w6 ⟨rfl, hB6⟩
  rw [HE5.out]
  have HO46 := Lib.hid (HO45.out.below hB6 (Nat.le_refl _))
  have HO36 := Lib.hid (HO35.out.below hB6 (Nat.le_refl _))
  have HO56 := Lib.hid (HO5.out.below hB6 (Nat.le_refl _))
  have HW6 := Lib.hid (HW5.out.trans (hB6.mono HW5.out.size))
  clear hB6 HO45 HO35 HO5 HW5
  -- the argument reads as it did
  go_wp2_with fail
  refine (toDoneS_any _ _ _ _ ((HX.out.keep HW6.out).more HW6.out.size) hlen).mono ?_
  rintro e w7 ⟨A7, c7, rfl, hc7, hO7, hB7⟩
  have HO7 := Lib.hid hO7; clear hO7
  have HB7 := Lib.hid hB7; clear hB7
  have HO47 := Lib.hid (HO46.out.below HB7.out (Nat.le_refl _))
  go_wp2_with fail
  refine (eqDoneS_same _ _ _ _ _ _ HO47.out.dos HO7.out.dos hlen).mono ?_
  rintro e w8 ⟨rfl, hB8⟩
  have HB8 := Lib.hid (HB7.out.trans (hB8.mono HB7.out.size)); clear hB8 HB7 HO7 HO47
  have HW8 := Lib.hid (HW6.out.trans (HB8.out.mono HW6.out.size))
  have HO48 := Lib.hid (HO46.out.below HB8.out (Nat.le_refl _))
  have HO38 := Lib.hid (HO36.out.below HB8.out (Nat.le_refl _))
  have HO58 := Lib.hid (HO56.out.below HB8.out (Nat.le_refl _))
  clear HO46 HO36 HO56 HW6 HB8
  -- the argument is marked
  go_wp2_with fail
  refine (markDoneS_any _ _ _ _ _ _ HO48.out hlen (by omega) (by omega)).mono ?_
  rintro e w9 ⟨rfl, _, hS9⟩
  have HB9 : Hid (Below w.heap.size w8 w9) := hS9.below HW8.out.size fun i hi hI => by have := (HI4.out i hI).1; have := HS3.out; omega
  have HW9 := Lib.hid (HW8.out.trans HB9.out)
  have HO39 := Lib.hid (HO38.out.kept hS9 fun b hb hI => by have := (HI3.out b hb).2; have := (HI4.out b hI).1; omega)
  have HO59 := Lib.hid (HO58.out.kept hS9 fun b hb hI => by have := HI5.out b hb; have := (HI4.out b hI).2; omega)
  clear hS9 HO48 HO38 HO58 HW8 HB9
  go_wp2_with fail
  refine (eqIntSS_any _ _ _ _ _ _ _ HO59.out.lls HO39.out.lls hl5 HU5.out).mono ?_
  rintro e w10 ⟨rfl, hB10⟩
  rw [HE5.out]
  have HW10 := Lib.hid (HW9.out.trans (hB10.mono HW9.out.size))
  have HO310 := Lib.hid (HO39.out.below hB10 (Nat.le_refl _))
  have HO510 := Lib.hid (HO59.out.below hB10 (Nat.le_refl _))
  clear hB10 HW9 HO39 HO59
  -- the answer is marked, and found again
  go_wp2_with fail
  refine (markIntSS_any _ _ _ _ _ _ HO510.out hl5 HU5.out (by omega) (by omega)).mono ?_
  rintro e w11 ⟨rfl, hO11, hS11⟩
  have HB11 : Hid (Below w.heap.size w10 w11) := hS11.below HW10.out.size fun i hi hI => by have := HI5.out i hI; have := HS3.out; have := HS4.out; omega
  have HW11 := Lib.hid (HW10.out.trans HB11.out)
  have HO311 := Lib.hid (HO310.out.kept hS11 fun b hb hI => by have := (HI3.out b hb).2; have := HI5.out b hI; have := HS4.out; omega)
  have HO511 := Lib.hid hO11
  clear hO11 hS11 HW10 HO310 HO510 HB11
  go_wp2_with fail
  refine (heldIntSS_any _ _ _ _ _ HO511.out.lls hl5 HU5.out (by omega) (by omega)).mono ?_
  rintro e w12 ⟨rfl, hB12⟩
  have hne : ((1 + (lcnt ls5 ls5.length : Int)) != (1 + (lcnt ls5 ls5.length : Int))) = false := by simp
  have HW12 := Lib.hid (HW11.out.trans (hB12.mono HW11.out.size))
  have HO312 := Lib.hid (HO311.out.below hB12 (Nat.le_refl _))
  have HO512 := Lib.hid (HO511.out.below hB12 (Nat.le_refl _))
  clear hB12 HW11 HO311 HO511
  -- the program once more
  go_wp2_with fail
  refine (toDoneS_any _ _ _ _ ((HX.out.keep HW12.out).more HW12.out.size) hlen).mono ?_
  rintro e w13 ⟨A13, c13, rfl, hc13, hO13, hB13⟩
  have HO13 := Lib.hid hO13; clear hO13
  have HB13 := Lib.hid hB13; clear hB13
  have HW13 := Lib.hid (HW12.out.trans (HB13.out.mono HW12.out.size))
  go_wp2_with fail
  refine (HIM.out _ _ _ (HL.out.keep HW13.out (Nat.le_refl _)) HO13.out.dos).mono ?_
  rintro e w14 ⟨A14, c14, ls14, rfl, _, hO14, hY14, hB14⟩
  have hl14 := say_len hY14 hyl
  have HU14 := Lib.hid (say_lens hY14 HYU.out)
  have HE14 := Lib.hid (eqLs_t (hY14.trans HY3.out.symm)); clear hY14
  have HB14 := Lib.hid (HB13.out.trans (hB14.mono HB13.out.size)); clear hB14
  have HO14 := Lib.hid hO14; clear hO14
  have HO314 := Lib.hid (HO312.out.below HB14.out (Nat.le_refl _))
  have HO514 := Lib.hid (HO512.out.below HB14.out (Nat.le_refl _))
  have HW14 := Lib.hid (HW12.out.trans (HB14.out.mono HW12.out.size))
  go_wp2_with fail
  refine (eqIntSS_any _ _ _ _ _ _ _ HO14.out.lls HO314.out.lls hl14 HU14.out).mono ?_
  rintro e w15 ⟨rfl, hB15⟩
  rw [HE14.out]
  have HO515 := Lib.hid (HO514.out.below hB15 (Nat.le_refl _))
  have HW15 := Lib.hid (HW14.out.trans (hB15.mono HW14.out.size))
  clear hB15
  go_wp2_with fail
  refine (heldIntSS_any _ _ _ _ _ HO515.out.lls hl5 HU5.out (by omega) (by omega)).mono ?_
  rintro e w16 ⟨rfl, hB16⟩
  have HW16 := Lib.hid (HW15.out.trans (hB16.mono HW15.out.size))
  clear hB16
  go_wp2
  go_ret
  exact ⟨rfl, HW16.out⟩

end Go.Proofs.YtfbpcdmpkbjifaaDoor
