/- The reference's l4Table. -/
import Derived.Test.YtgnpgehekfhedaaDoorU604
import Derived.Test.YtgnpgehekfhedaaDoorU602
import Derived.Deep.LoopGhost
import Derived.Deep.RegionHeld
import Derived.Test.YtgnpgehekfhedaaDoorU603
import Derived.Test.YtgnpgehekfhedaaDoorU601
import Derived.Laws.ShiftsVarLaws
import Derived.StillTailTactics

namespace Go.Proofs.YtgnpgehekfhedaaDoor
open Go.RowKit

theorem make_boolsM (n : Nat) (hn : n ≤ 121) (w : World) :
    (Instr.makeSlice 134 (.int .i64 (n : Int)) (.int .i64 (n : Int))).run Tryd.prog w = .ok (.slice (some ⟨w.heap.size, 0, none⟩) n n) (w.alloc (.cells (bools n fun _ => false) 4)) := by
  obtain ⟨i, hi, hz, hs, hb⟩ := info_of Tryd.infoBool
  have h := run_make (P := Tryd.prog) w 134 4 i _ Tryd.underlying134 hi hz .i64 .i64 n n (by omega) (by omega) (by rw [hb]; omega) (by omega)
  rw [hs] at h
  rw [← bools_no]
  simpa [Value.cells] using h
def noB : Nat → Nat → Bool := fun _ _ => false
theorem TabR.made (w : World) (N M : Nat) : TabR (w.alloc (.cells (zS N) 134)) w.heap.size N M 0 noB :=
  ⟨⟨zS N, Row.new w _ _, zS_size _, fun a h => absurd h (by omega)⟩, fun a h => absurd h (by omega)⟩
theorem TabR.grow {w : World} {S N M k : Nat} (h : TabR w S N M k noB) (hs : w.heap.size = S + 1 + k) (hk : k < N) :
    TabR ((w.setCell ⟨S, k, none⟩ (.slice (some ⟨w.heap.size, 0, none⟩) M M)).alloc (.cells (bools M fun _ => false) 4)) S N M (k + 1) noB := by
  obtain ⟨⟨cs, h1, h1s, h1'⟩, h3⟩ := h
  generalize hW : w.setCell ⟨S, k, none⟩ (.slice (some ⟨w.heap.size, 0, none⟩) M M) = W
  have hz : W.heap.size = w.heap.size := by subst hW; simp
  have hT : Row (W.alloc (.cells (bools M fun _ => false) 4)) w.heap.size 4 (bools M fun _ => false) := by
    have h := Row.new W 4 (bools M fun _ => false)
    rw [hz] at h
    exact h
  have k1 : Row W S 134 (cs.setIfInBounds k (.slice (some ⟨w.heap.size, 0, none⟩) M M)) := by subst hW; exact h1.set k _
  refine ⟨⟨_, k1.alloc _, by simp [h1s], fun a ha => ?_⟩, fun a ha => ?_⟩
  · rw [Array.getElem?_setIfInBounds]
    by_cases e : k = a
    · subst e
      rw [if_pos rfl, if_pos (by omega), hs]
    · rw [if_neg e]
      exact h1' a (by omega)
  · by_cases e : a = k
    · subst e
      rw [← hs]
      exact hT
    · have h4 := h3 a (by omega)
      refine Row.alloc ?_ _
      subst hW
      exact h4.far (by simp; omega) _

/-- What l4Table gives. -/
def GaveT (w : World) (N : Nat) (ws : List Int) (ss : List (Int × List Int)) (e : Ending) (w' : World) : Prop :=
  ∃ S T, e = .returned (.slice (some ⟨S, 0, none⟩) N N) ∧ TabR w' S N ((ws.length + 1) * (ws.length + 1)) N T ∧ (∀ x i j, DT ws.length T x i j ↔ Der ss ws x i j) ∧ Below w.heap.size w w'

set_option maxRecDepth 20000 in
set_option maxHeartbeats 4000000 in
theorem l4Table_any (N : Nat) (t : Int) (A : Option Addr) (c : Nat) (rs : List Ru) (Aw : Option Addr) (cw : Nat) (ws : List Int) (w : World) (hx : Rls w w.heap.size A rs) (hg : goodG (N : Int) t (rs.map Ru.abs) = true) (hcap : ∀ u ∈ rs, u.r.length ≤ u.c) (hw : ws.length ≤ 10) (hW : Ints w w.heap.size Aw ws) :
    Calls Tryd.prog 108 #[.agg #[.int .i64 (N : Int), .int .i64 t, .slice A rs.length c], .slice Aw ws.length cw] w (GaveT w N ws (rs.map Ru.abs)) := by
  have h16 := good_16 hg
  have hN : N ≤ 6 := by have := goodG_is hg; omega
  have HX := Lib.hid hx; clear hx
  have HG := Lib.hid hg; clear hg
  have HW := Lib.hid hW; clear hW
  have HCP := Lib.hid hcap; clear hcap
  have HB0 : Hid (Below w.heap.size w (w.alloc (.cells #[.int .i64 N, .int .i64 t, .slice A rs.length c] 34))) := by show Below _ _ _; go_grown
  have B00 : Hid (Box3 (w.alloc (.cells #[.int .i64 N, .int .i64 t, .slice A rs.length c] 34)) w.heap.size (.int .i64 N) (.int .i64 t) (.slice A rs.length c)) := ⟨by simp, by simp [go_sem], by simp [go_sem], by simp [go_sem]⟩
  obtain ⟨M, hM⟩ : ∃ M, M = (ws.length + 1) * (ws.length + 1) := ⟨_, rfl⟩
  have hM121 : M ≤ 121 := by rw [hM]; exact (Nat.mul_le_mul (by omega) (by omega) : (ws.length + 1) * (ws.length + 1) ≤ 11 * 11)
  have hmul : ((ws.length : Int) + 1) * ((ws.length : Int) + 1) = (M : Int) := by rw [hM]; simp
  have HCL : Hid (∀ i j, i ≤ ws.length → j ≤ ws.length → i * (ws.length + 1) + j < M) := fun i j hi hj => by rw [hM]; exact cell_lt hi hj
  have HM := Lib.hid hM; clear hM
  have hmr := make_rows N hN
  have hmb := make_boolsM M hM121
  have HT0 : Hid (TabR ((w.alloc (.cells #[.int .i64 N, .int .i64 t, .slice A rs.length c] 34)).alloc (.cells (zS N) 134)) (w.heap.size + 1) N M 0 noB) := by
    have h := TabR.made (w.alloc (.cells #[.int .i64 N, .int .i64 t, .slice A rs.length c] 34)) N M
    rw [World.size_alloc] at h
    exact h
  have HBT : Hid (Below w.heap.size w ((w.alloc (.cells #[.int .i64 N, .int .i64 t, .slice A rs.length c] 34)).alloc (.cells (zS N) 134))) := by show Below _ _ _; go_grown
  have BXT := Lib.hid (B00.out.keep (w' := (w.alloc (.cells #[.int .i64 N, .int .i64 t, .slice A rs.length c] 34)).alloc (.cells (zS N) 134)) ((Below.refl _ _).alloc (Nat.le_refl _) _) (by simp))
  have HZT : Hid (((w.alloc (.cells #[.int .i64 N, .int .i64 t, .slice A rs.length c] 34)).alloc (.cells (zS N) 134)).heap.size = w.heap.size + 1 + 1) := by show _ = _; simp
  go_enter Tryd.func108, Tryd.ntmps108
  go_wp2
  generalize (w.alloc (.cells #[.int .i64 N, .int .i64 t, .slice A rs.length c] 34)).alloc (.cells (zS N) 134) = X at *
  clear HB0 B00 hmr
  obtain ⟨S, hS⟩ : ∃ S, S = w.heap.size + 1 := ⟨_, rfl⟩
  rw [← hS] at HT0 HZT ⊢
  have HS := Lib.hid hS
  have hwS : w.heap.size < S := by omega
  clear hS
  go_loopw [21] (fun i wr => ∃ (k : Nat), k ≤ N ∧ i = .int .i64 k ∧ Hid (TabR wr S N M k noB) ∧ Hid (wr.heap.size = S + 1 + k) ∧ Hid (Below w.heap.size w wr) ∧ Hid (Box3 wr w.heap.size (.int .i64 N) (.int .i64 t) (.slice A rs.length c))) (fun i _ => N - (intOf i).toNat)
  case atStart => exact ⟨0, by omega, rfl, HT0.out, HZT.out, HBT.out, BXT.out⟩
  case round =>
    obtain ⟨k, hk, rfl, HT, HZ, HB, HU⟩ := hrel
    clear HT0 HBT BXT HZT
    by_cases hlt : k < N
    · have HN := Lib.hid (HT.out.grow HZ.out hlt)
      obtain ⟨⟨cs, d1, d2, _⟩, _⟩ := HT.out
      obtain ⟨x0, c1⟩ : ∃ x0, wr.cell? ⟨S, k, none⟩ = some x0 := ⟨_, (d1.cell k).trans (Array.getElem?_eq_getElem (by omega))⟩
      have f1 := d1.frozen k
      have hz2 : S < wr.heap.size := d1.lt
      have HUN : Hid (Box3 ((wr.setCell ⟨S, k, none⟩ (.slice (some ⟨wr.heap.size, 0, none⟩) M M)).alloc (.cells (bools M fun _ => false) 4)) w.heap.size (.int .i64 N) (.int .i64 t) (.slice A rs.length c)) := HU.out.keep (B := S) (((Below.refl _ _).setCell (by simp) _).alloc (by simp; omega) _) hwS
      clear d1 d2
      go_wp2
      go_roundw
      case rel => exact ⟨k + 1, by omega, by go_num, HN.out, by have h1 := HZ.out; show _ = _; simp; omega, (HB.out.setCell (by simp; omega) _).alloc (by have := HB.out.size; simp; omega) _, HUN.out⟩
      case measure => simp [intOf]; omega
    · obtain rfl : k = N := by omega
      clear hmb HZ
      obtain ⟨wO, hwO⟩ : ∃ x, x = wr := ⟨_, rfl⟩
      subst hwO
      have HK : Hid (TabR wO S k M k noB) := HT.out
      clear HT
      go_wp2
      go_loopg [8] (2 * (726 - cntT noB) + 1) (fun g m wr => ∃ (more : Bool) (T : Nat → Nat → Bool), m = .bool more ∧ g = 2 * (726 - cntT T) + (if more then 1 else 0) ∧ Hid (TabR wr S k M k T) ∧ Hid (OkT (rs.map Ru.abs) ws T) ∧ Hid (Below w.heap.size w wr) ∧ Hid (Box3 wr w.heap.size (.int .i64 k) (.int .i64 t) (.slice A rs.length c)) ∧ Hid (more = false → ∀ x i j, DT ws.length T x i j ↔ Der (rs.map Ru.abs) ws x i j))
      case atStart => exact ⟨true, noB, rfl, rfl, HK.out, okT_no _ _, HB.out, HU.out, fun h => by cases h⟩
      case round =>
        obtain ⟨more, T, rfl, hgk, HTm, HOm, HBm, HUm, HDm⟩ := hrel
        clear HK HB HU
        cases more
        · have HDD := Lib.hid (HDm.out rfl)
          rw [HM.out] at HTm
          go_wp2
          go_ret
          exact ⟨S, T, rfl, HTm.out, HDD.out, HBm.out⟩
        · rw [if_pos rfl] at hgk
          clear HDm
          obtain ⟨wM, hwM⟩ : ∃ x, x = wr := ⟨_, rfl⟩
          subst hwM
          obtain ⟨_, b0, b1, b2⟩ := HUm.out
          go_wp2
          clear b0 b1 b2
          go_loopw [8, 36] (fun m i wr => ∃ (j : Nat) (more : Bool) (T2 : Nat → Nat → Bool), j ≤ rs.length ∧ i = .int .i64 j ∧ m = .bool more ∧ Hid (TabR wr S k M k T2) ∧ Hid (PassT (rs.map Ru.abs) ws j 0 0 T T2 more) ∧ Hid (Below w.heap.size w wr) ∧ Hid (Box3 wr w.heap.size (.int .i64 k) (.int .i64 t) (.slice A rs.length c))) (fun _ i _ => rs.length - (intOf i).toNat)
          case atStart => exact ⟨0, false, T, by omega, rfl, rfl, HTm.out, PassT.start HOm.out, HBm.out, HUm.out⟩
          case round =>
            obtain ⟨j, more, T2, hj, rfl, rfl, HT2, HP2, HB2, HU2⟩ := hrel
            clear HTm HOm HBm HUm
            by_cases hlt2 : j < rs.length
            · obtain ⟨p, o, hA, hp, c1, c2, c3⟩ := (HX.out.keep HB2.out).at_ hlt2
              have hum : rs[j].abs ∈ rs.map Ru.abs := List.mem_map.2 ⟨_, List.getElem_mem hlt2, rfl⟩
              have h4 := good_len HG.out hum
              have HGM := Lib.hid (goodG_mem HG.out hum)
              obtain ⟨L, hL⟩ : ∃ L : Nat, rs[j].l = (L : Int) := ⟨_, Int.eq_ofNat_of_zero_le HGM.out.1.1 |>.choose_spec⟩
              have hLk : L < k := by have h : rs[j].l < k := HGM.out.1.2; omega
              have HJ : Hid ((rs.map Ru.abs)[j]? = some ((L : Int), rs[j].r)) := by show _ = _; rw [List.getElem?_map, List.getElem?_eq_getElem hlt2, ← hL]; rfl
              have HSY : Hid (∀ x ∈ rs[j].r, -10 ≤ x ∧ x < k) := fun x hx => by have h := HGM.out.2.2 x hx; have := goodG_is HG.out; omega
              have HCR := Lib.hid (HCP.out rs[j] (List.getElem_mem hlt2))
              rw [hL] at c1
              have HBR : Hid (Below wr.heap.size wr (wr.alloc (.cells #[.int .i64 L, .slice rs[j].a rs[j].r.length rs[j].c] 67))) := (Below.refl _ _).alloc (Nat.le_refl _) _
              have HBU : Hid (Box2 (wr.alloc (.cells #[.int .i64 L, .slice rs[j].a rs[j].r.length rs[j].c] 67)) wr.heap.size (.int .i64 L) (.slice rs[j].a rs[j].r.length rs[j].c)) := ⟨by simp, by simp [go_sem], by simp [go_sem]⟩
              have HTY := Lib.hid (HT2.out.keep HBR.out HT2.out.lt)
              have HBY : Hid (Below w.heap.size w (wr.alloc (.cells #[.int .i64 L, .slice rs[j].a rs[j].r.length rs[j].c] 67))) := HB2.out.trans (HBR.out.mono HB2.out.size)
              have HUY := Lib.hid (HU2.out.keep HBR.out HU2.out.1)
              have HI : Hid (∀ u, Below w.heap.size w u → Ints u u.heap.size rs[j].a rs[j].r) := fun u hu => by
                obtain ⟨_, _, _, _, _, _, h⟩ := (HX.out.keep hu).at_ hlt2
                exact h.more hu.size
              have hwl : S + 1 + k ≤ wr.heap.size := HT2.out.lt
              clear c3 hum hL HT2 HB2 HU2
              subst hA
              obtain ⟨wP, hwP⟩ : ∃ x, x = wr := ⟨_, rfl⟩
              subst hwP
              obtain ⟨_, r0, r1⟩ := HBU.out
              go_wp2
              generalize (wP.alloc (.cells #[.int .i64 L, .slice rs[j].a rs[j].r.length rs[j].c] 67)) = Y at *
              clear r0 r1 c1 c2
              obtain ⟨Q, hQ⟩ : ∃ x, x = wP.heap.size := ⟨_, rfl⟩
              rw [← hQ] at HBU hwl ⊢
              clear hQ HBR
              go_loopw [8, 11] (fun m n wr => ∃ (i : Nat) (more : Bool) (T2 : Nat → Nat → Bool), i ≤ ws.length + 1 ∧ n = .int .i64 i ∧ m = .bool more ∧ Hid (TabR wr S k M k T2) ∧ Hid (PassT (rs.map Ru.abs) ws j i 0 T T2 more) ∧ Hid (Below w.heap.size w wr) ∧ Hid (Box3 wr w.heap.size (.int .i64 k) (.int .i64 t) (.slice (some ⟨p, o, none⟩) rs.length c)) ∧ Hid (Box2 wr Q (.int .i64 L) (.slice rs[j].a rs[j].r.length rs[j].c))) (fun _ n _ => ws.length + 1 - (intOf n).toNat)
              case atStart => exact ⟨0, more, T2, by omega, rfl, rfl, HTY.out, HP2.out, HBY.out, HUY.out, HBU.out⟩
              case round =>
                obtain ⟨i, more, T2, hi, rfl, rfl, HT3, HP3, HB3, HU3, HR3⟩ := hrel
                clear HTY HP2 HBY HUY HBU
                by_cases hlt3 : i < ws.length + 1
                · have HPO := Lib.hid HP3.out.open_
                  have hi' : (i : Int) < (ws.length : Int) + 1 := by omega
                  obtain ⟨wI, hwI⟩ : ∃ x, x = wr := ⟨_, rfl⟩
                  subst hwI
                  go_wp2
                  go_loopw [8, 12] (fun m n wr => ∃ (e : Nat) (more : Bool) (T2 : Nat → Nat → Bool), e ≤ ws.length + 1 ∧ n = .int .i64 e ∧ m = .bool more ∧ Hid (TabR wr S k M k T2) ∧ Hid (PassT (rs.map Ru.abs) ws j i e T T2 more) ∧ Hid (Below w.heap.size w wr) ∧ Hid (Box3 wr w.heap.size (.int .i64 k) (.int .i64 t) (.slice (some ⟨p, o, none⟩) rs.length c)) ∧ Hid (Box2 wr Q (.int .i64 L) (.slice rs[j].a rs[j].r.length rs[j].c))) (fun _ n _ => ws.length + 1 - (intOf n).toNat)
                  case atStart => exact ⟨i, more, T2, by omega, rfl, rfl, HT3.out, HPO.out, HB3.out, HU3.out, HR3.out⟩
                  case round =>
                    obtain ⟨e, more, T2, he, rfl, rfl, HT4, HP4, HB4, HU4, HR4⟩ := hrel
                    clear HT3 HP3 HB3 HU3 HR3 HPO
                    by_cases hlt4 : e < ws.length + 1
                    · have he' : (e : Int) < (ws.length : Int) + 1 := by omega
                      have hql := HCL.out i e (by omega) (by omega)
                      have k1 := HT4.out.row hLk
                      obtain ⟨k2, k3⟩ := HT4.out.at_ hLk hql
                      obtain ⟨_, r0, r1⟩ := HR4.out
                      have hq : (i : Int) * ((ws.length : Int) + 1) + (e : Int) = ((i * (ws.length + 1) + e : Nat) : Int) := by simp
                      have hb0 : (i : Int) * ((ws.length : Int) + 1) ≤ 121 := by omega
                      have hb1 : 0 ≤ (i : Int) * ((ws.length : Int) + 1) := Int.mul_nonneg (by omega) (by omega)
                      have HSK : Hid (T2 L (i * (ws.length + 1) + e) = true ∨ ¬ SeqD (DT ws.length T2) ws rs[j].r i e → PassT (rs.map Ru.abs) ws j i (e + 1) T T2 more) := fun h => HP4.out.skip HJ.out (by omega) (by omega) h
                      have HPU : Hid (T2 L (i * (ws.length + 1) + e) = false → SeqD (DT ws.length T2) ws rs[j].r i e → PassT (rs.map Ru.abs) ws j i (e + 1) T (setB T2 L (i * (ws.length + 1) + e)) true) := fun h h' => HP4.out.put HJ.out (by omega) hw (by omega) (by omega) h h'
                      have HTU := Lib.hid (HT4.out.put (c := i * (ws.length + 1) + e) hLk)
                      have HTM : Hid (TabR wr S k ((ws.length + 1) * (ws.length + 1)) k T2) := by have h := HT4.out; rw [HM.out] at h; exact h
                      have HF := Lib.hid (l4Fits_any S k T2 Aw cw ws wr HTM.out ((HW.out.keep HB4.out).more HB4.out.size) hw HP4.out.1.inD e (by omega) rs[j].r rs[j].a rs[j].c i (HI.out _ HB4.out) HCR.out h4 HSY.out (by omega))
                      generalize hqq : i * (ws.length + 1) + e = q at *
                      clear hqq HTM
                      cases hc : T2 L q
                      · rw [hc] at k2
                        cases hs : bD (SeqD (DT ws.length T2) ws rs[j].r i e)
                        · have HN := Lib.hid (HSK.out (.inr fun h => by rw [bD_t h] at hs; cases hs))
                          have HSV := Lib.hid hs; clear hs hc
                          go_wp2_with fail
                          refine HF.out.mono ?_
                          rintro e' w1 ⟨rfl, rfl⟩
                          rw [HSV.out]
                          go_wp2
                          go_roundw
                          case rel => exact ⟨e + 1, more, T2, by omega, by go_num, rfl, HT4.out, HN.out, HB4.out, HU4.out, HR4.out⟩
                          case measure => simp [intOf]; omega
                        · have HN := Lib.hid (HPU.out hc (bD_iff.1 hs))
                          have HSV := Lib.hid hs; clear hs hc
                          have HBU : Hid (Below w.heap.size w (wr.setCell ⟨S + 1 + L, q, none⟩ (.bool true))) := HB4.out.setCell (by simp; omega) _
                          have HUU : Hid (Box3 (wr.setCell ⟨S + 1 + L, q, none⟩ (.bool true)) w.heap.size (.int .i64 k) (.int .i64 t) (.slice (some ⟨p, o, none⟩) rs.length c)) := HU4.out.keep (B := S) ((Below.refl _ _).setCell (by simp; omega) _) hwS
                          have HRU : Hid (Box2 (wr.setCell ⟨S + 1 + L, q, none⟩ (.bool true)) Q (.int .i64 L) (.slice rs[j].a rs[j].r.length rs[j].c)) := ⟨by rw [World.size_setCell]; exact HR4.out.1, (World.cell?_setCell_far _ _ _ _ (by simp; omega)).trans r0, (World.cell?_setCell_far _ _ _ _ (by simp; omega)).trans r1⟩
                          go_wp2_with fail
                          refine HF.out.mono ?_
                          rintro e' w1 ⟨rfl, rfl⟩
                          rw [HSV.out]
                          go_wp2
                          go_roundw
                          case rel => exact ⟨e + 1, true, _, by omega, by go_num, rfl, HTU.out, HN.out, HBU.out, HUU.out, HRU.out⟩
                          case measure => simp [intOf]; omega
                      · rw [hc] at k2
                        have HN := Lib.hid (HSK.out (.inl hc))
                        clear hc
                        go_wp2
                        go_roundw
                        case rel => exact ⟨e + 1, more, T2, by omega, by go_num, rfl, HT4.out, HN.out, HB4.out, HU4.out, HR4.out⟩
                        case measure => simp [intOf]; omega
                    · obtain rfl : e = ws.length + 1 := by omega
                      have HN := Lib.hid HP4.out.line
                      go_wp2
                      go_roundw
                      case rel => exact ⟨i + 1, more, T2, by omega, by go_num, rfl, HT4.out, HN.out, HB4.out, HU4.out, HR4.out⟩
                      case measure => simp [intOf]; omega
                · obtain rfl : i = ws.length + 1 := by omega
                  have HN := Lib.hid HP3.out.rule
                  go_wp2
                  go_roundw
                  case rel => exact ⟨j + 1, more, T2, by omega, by go_num, rfl, HT3.out, HN.out, HB3.out, HU3.out⟩
                  case measure => simp [intOf]; omega
            · obtain rfl : j = rs.length := by omega
              have HPE : Hid (PassT (rs.map Ru.abs) ws (rs.map Ru.abs).length 0 0 T T2 more) := by have h := HP2.out; rw [List.length_map]; exact h
              have HDE : Hid (more = false → ∀ x i j, DT ws.length T2 x i j ↔ Der (rs.map Ru.abs) ws x i j) := fun e x i j => by have h := HPE.out; rw [e] at h; exact h.done
              have HME : Hid (2 * (726 - cntT T2) + (if more then 1 else 0) < 2 * (726 - cntT T) + 1) := by
                show _ < _
                have h1 := cntT_most T2
                cases more
                · rw [(HPE.out.2.2 rfl).1]; simp
                · have h2 := HPE.out.2.1 rfl; simp; omega
              go_wp2
              go_roundg (2 * (726 - cntT T2) + (if more then 1 else 0))
              case measure => rw [hgk]; exact HME.out
              case rel => exact ⟨more, T2, rfl, rfl, HT2.out, HPE.out.1, HB2.out, HU2.out, HDE.out⟩

end Go.Proofs.YtgnpgehekfhedaaDoor

/- The program's places: masks. -/

namespace Go.Proofs.YtgnpgehekfhedaaDoor
open Go.RowKit

def pw (a : Nat) : Nat := 2 ^ a
theorem pw_lt {a : Nat} (h : a < 11) : pw a < 2048 := Nat.pow_lt_pow_right (by decide) h
theorem u16_shl {a : Nat} (h : a < 11) : IntKind.u16.wrap ((2 : Int) ^ a) = (pw a : Int) := by
  rw [IntKind.wrap_u16]
  have h1 := pw_lt h
  have h2 : ((2 : Int) ^ a) = (pw a : Int) := by unfold pw; simp
  rw [h2]
  omega
theorem ret_u16 {a b : Int} (h : a = b) : Ending.returned (.int .u16 a) = .returned (.int .u16 b) := by rw [h]
theorem has_bit {m a : Nat} (hm : m < 2048) (h : a < 11) : (bits .and .u16 (m : Int) (pw a : Int) != 0) = m.testBit a := by
  have h1 := pw_lt h
  rw [u16_and _ _ (by omega) (by omega) (by omega) (by omega)]
  cases e : m.testBit a
  · have h2 := bit_and.2 e
    rw [Int.toNat_natCast, Int.toNat_natCast, show m &&& pw a = 0 from h2]; rfl
  · have h2 : ¬ m &&& pw a = 0 := fun h => by have := bit_and.1 h; rw [e] at this; cases this
    rw [Int.toNat_natCast, Int.toNat_natCast]
    exact bne_t (by omega)

set_option maxHeartbeats 400000 in
theorem placeAt_any (a : Nat) (h : a < 11) (w : World) :
    Calls Tryd.prog 144 #[.int .i64 (a : Int)] w fun e w' => e = .returned (.int .u16 (pw a : Int)) ∧ w' = w := by
  have HS := Lib.hid (u16_shl h)
  go_enter Tryd.func144, Tryd.ntmps144
  go_wp2
  go_ret
  exact ⟨ret_u16 HS.out, rfl⟩

set_option maxHeartbeats 400000 in
theorem has_any (m a : Nat) (hm : m < 2048) (h : a < 11) (w : World) :
    Calls Tryd.prog 101 #[.int .u16 (m : Int), .int .i64 (a : Int)] w fun e w' => e = .returned (.bool (m.testBit a)) ∧ w' = w := by
  have HS := Lib.hid (has_bit hm h)
  go_enter Tryd.func101, Tryd.ntmps101
  go_wp2_with fail
  refine (placeAt_any a h _).mono ?_
  rintro e w1 ⟨rfl, rfl⟩
  go_wp2
  go_ret
  exact ⟨ret_bool HS.out, rfl⟩

/-- The table K lies in block R, and can be written. -/
def TabK (w : World) (R : Nat) (K : Nat → Nat → Nat) : Prop := ∃ cs, Row w R 164 cs ∧ cs.size = 66 ∧ ∀ x i, x < 6 → i < 11 → cs[x * 11 + i]? = some (.int .u16 (K x i : Int))
theorem TabK.at_ {w : World} {R : Nat} {K : Nat → Nat → Nat} (h : TabK w R K) {x i : Nat} (hx : x < 6) (hi : i < 11) : w.cell? ⟨R, x * 11 + i, none⟩ = some (.int .u16 (K x i : Int)) ∧ w.frozen? ⟨R, x * 11 + i, none⟩ = false := by
  obtain ⟨cs, h1, _, h2⟩ := h
  exact ⟨(h1.cell _).trans (h2 x i hx hi), h1.frozen _⟩
theorem TabK.set {w : World} {R : Nat} {K : Nat → Nat → Nat} (h : TabK w R K) {a b : Nat} (ha : a < 6) (hb : b < 11) (m : Nat) : TabK (w.setCell ⟨R, a * 11 + b, none⟩ (.int .u16 (m : Int))) R (setK K a b m) := by
  obtain ⟨cs, h1, h3, h2⟩ := h
  refine ⟨_, h1.set _ _, by simpa using h3, fun x i hx hi => ?_⟩
  rw [Array.getElem?_setIfInBounds]
  by_cases e : x = a ∧ i = b
  · obtain ⟨rfl, rfl⟩ := e
    rw [if_pos rfl, if_pos (by omega), setK_at]
  · rw [if_neg (by omega), h2 x i hx hi, setK_far e]
/-- What the closures hold: the table in R by way of the box P, the word by way of the box W, the first closure in the box O. -/
def EnvK (v : World) (R P W O : Nat) (Aw : Option Addr) (cw : Nat) (ws : List Int) (K : Nat → Nat → Nat) : Prop :=
  TabK v R K ∧ v.cell? ⟨P, 0, none⟩ = some (.pointer (some ⟨R, 0, none⟩)) ∧ v.cell? ⟨W, 0, none⟩ = some (.slice Aw ws.length cw) ∧ Ints v R Aw ws ∧
  v.cell? ⟨O, 0, none⟩ = some (.func (.func 179) #[] #[.pointer (some ⟨P, 0, none⟩), .pointer (some ⟨W, 0, none⟩)]) ∧ R < P ∧ R < W ∧ R < O
theorem cell_in {w : World} {B : Nat} {v : Value} (h : w.cell? ⟨B, 0, none⟩ = some v) : B < w.heap.size := by
  by_cases e : B < w.heap.size
  · exact e
  · simp only [World.cell?] at h
    rw [Array.getElem?_eq_none (by omega)] at h
    cases h
theorem EnvK.keep {v v' : World} {R P W O : Nat} {Aw : Option Addr} {cw : Nat} {ws : List Int} {K : Nat → Nat → Nat} (h : EnvK v R P W O Aw cw ws K) (hb : Below v.heap.size v v') : EnvK v' R P W O Aw cw ws K := by
  obtain ⟨⟨cs, h1, h1'⟩, h2, h3, h4, h5, h6⟩ := h
  exact ⟨⟨cs, h1.below hb h1.lt, h1'⟩, (hb.cell (p := ⟨P, 0, none⟩) (cell_in h2)).trans h2, (hb.cell (p := ⟨W, 0, none⟩) (cell_in h3)).trans h3, h4.keep (hb.mono (Nat.le_of_lt h1.lt)), (hb.cell (p := ⟨O, 0, none⟩) (cell_in h5)).trans h5, h6⟩
theorem EnvK.set {v : World} {R P W O : Nat} {Aw : Option Addr} {cw : Nat} {ws : List Int} {K : Nat → Nat → Nat} (h : EnvK v R P W O Aw cw ws K) {a b : Nat} (ha : a < 6) (hb : b < 11) (m : Nat) : EnvK (v.setCell ⟨R, a * 11 + b, none⟩ (.int .u16 (m : Int))) R P W O Aw cw ws (setK K a b m) := by
  obtain ⟨h1, h2, h3, h4, h5, h6, h7, h8⟩ := h
  exact ⟨h1.set ha hb m, (World.cell?_setCell_far _ _ _ _ (by simp; omega)).trans h2, (World.cell?_setCell_far _ _ _ _ (by simp; omega)).trans h3, h4.keep ((Below.refl _ _).setCell (by simp) _), (World.cell?_setCell_far _ _ _ _ (by simp; omega)).trans h5, h6, h7, h8⟩

/-- One mask of a symbol. -/
theorem symD_tok {K : Nat → Nat → Nat} {ws : List Int} {x : Int} {i : Nat} (hx : x < 0) (hi : i < ws.length) (hw : ws.length ≤ 10) (h : ws[i] = -1 - x) : Msk (pw (i + 1)) fun j => SymD (DK K) ws x i j :=
  (msk_one (a := i + 1) (by omega)).congr fun j => ⟨fun e => .inl ⟨hx, e, by rw [List.getElem?_eq_getElem hi, h]⟩, fun e => by rcases e with e | e; exact e.2.1; omega⟩
theorem symD_none {K : Nat → Nat → Nat} {ws : List Int} {x : Int} {i : Nat} (hx : x < 0) (h : ∀ hi : i < ws.length, ws[i] ≠ -1 - x) : Msk 0 fun j => SymD (DK K) ws x i j :=
  msk_no.congr fun j => ⟨False.elim, fun e => by
    rcases e with e | e
    · obtain ⟨hi, e2⟩ := List.getElem?_eq_some_iff.1 e.2.2
      exact h hi e2
    · omega⟩
theorem symD_non {K : Nat → Nat → Nat} {ws : List Int} {x i : Nat} (hK : ∀ x i, K x i < 2048) : Msk (K x i) fun j => SymD (DK K) ws (x : Int) i j :=
  ⟨hK x i, fun j => ⟨fun e => .inr ⟨Int.natCast_nonneg x, Int.natCast_nonneg x, e⟩, fun e => by
    rcases e with e | e
    · omega
    · exact e.2.2⟩⟩

set_option maxRecDepth 20000 in
set_option maxHeartbeats 1000000 in
theorem one_any (R P W O : Nat) (Aw : Option Addr) (cw : Nat) (ws : List Int) (K : Nat → Nat → Nat) (x : Int) (i : Nat) (v : World) (hE : EnvK v R P W O Aw cw ws K) (hK : ∀ x i, K x i < 2048) (hw : ws.length ≤ 10) (hx : -10 ≤ x ∧ x < 6) (hi : i < 11) :
    Calls Tryd.prog 179 #[.int .i64 x, .int .i64 (i : Int), .pointer (some ⟨P, 0, none⟩), .pointer (some ⟨W, 0, none⟩)] v fun e v' => ∃ m : Nat, e = .returned (.int .u16 (m : Int)) ∧ Msk m (fun j => SymD (DK K) ws x i j) ∧ v' = v := by
  obtain ⟨h1, h2, h3, h4, h5, h6, h7, h8⟩ := hE
  obtain ⟨x0, x1⟩ := hx
  by_cases h0 : 0 ≤ x
  · obtain ⟨y, rfl⟩ := Int.eq_ofNat_of_zero_le h0
    obtain ⟨c1, _⟩ := h1.at_ (x := y) (i := i) (by omega) hi
    have HM := Lib.hid (symD_non (ws := ws) (x := y) (i := i) hK)
    have hy : y < 6 := by omega
    clear h0 h1 h4 h5 h3 hK
    go_enter Tryd.func179, Tryd.ntmps179
    go_wp2
    go_ret
    exact ⟨_, rfl, HM.out, rfl⟩
  · by_cases hl : i < ws.length
    · obtain ⟨q, o, hA, hq, c1⟩ := h4.at_ hl
      subst hA
      by_cases he : ws[i] = -1 - x
      · have HM := Lib.hid (symD_tok (K := K) (i := i) (by omega) hl hw he)
        have hb : (ws[i] == -1 - x) = true := by simp [he]
        clear h1 h4 h5 hK
        go_enter Tryd.func179, Tryd.ntmps179
        go_wp2_with fail
        refine (placeAt_any (i + 1) (by omega) _).mono ?_
        rintro e w1 ⟨rfl, rfl⟩
        go_wp2
        go_ret
        exact ⟨_, rfl, HM.out, rfl⟩
      · have HM := Lib.hid (symD_none (K := K) (i := i) (x := x) (ws := ws) (by omega) (fun _ => he))
        have hb : (ws[i] == -1 - x) = false := by simp [he]
        clear h1 h4 h5 hK
        go_enter Tryd.func179, Tryd.ntmps179
        go_wp2
        go_ret
        exact ⟨0, rfl, HM.out, rfl⟩
    · have HM := Lib.hid (symD_none (K := K) (i := i) (x := x) (ws := ws) (by omega) (fun h => absurd h hl))
      clear h1 h4 h5 hK
      go_enter Tryd.func179, Tryd.ntmps179
      go_wp2
      go_ret
      exact ⟨0, rfl, HM.out, rfl⟩

end Go.Proofs.YtgnpgehekfhedaaDoor

/- The program's function that tells the places behind what symbols derive. -/

namespace Go.Proofs.YtgnpgehekfhedaaDoor
open Go.RowKit

set_option maxRecDepth 100000 in
theorem enter_one (xs : Array Value) (v : World) : Sem.run Tryd.prog (callFunc 179 xs) v = .ok (.enter 179 xs) v := rfl

theorem seqD_start {D : Int → Nat → Nat → Prop} {ws xs : List Int} {i : Nat} (hi : i < 11) : Msk (pw i) fun j => SeqD D ws (xs.take 0) i j := (msk_one hi).congr fun _ => ⟨fun e => e.symm, fun e => e.symm⟩
theorem u16_orK {a b : Nat} (ha : a < 2048) (hb : b < 2048) : bits .or .u16 (a : Int) (b : Int) = ((a ||| b : Nat) : Int) := by
  rw [u16_or _ _ (by omega) (by omega) (by omega) (by omega), Int.toNat_natCast, Int.toNat_natCast]
def orK (a b : Nat) : Nat := a ||| b
theorem u16_or' {a b : Nat} (ha : a < 2048) (hb : b < 2048) : bits .or .u16 (a : Int) (b : Int) = (orK a b : Int) := u16_orK ha hb

set_option maxRecDepth 20000 in
set_option maxHeartbeats 1000000 in
theorem ends_any (R P W O : Nat) (Aw : Option Addr) (cw : Nat) (ws : List Int) (K : Nat → Nat → Nat) (Ar : Option Addr) (xs : List Int) (cr : Nat) (i : Nat) (v : World) (hE : EnvK v R P W O Aw cw ws K) (hK : ∀ x i, K x i < 2048) (hw : ws.length ≤ 10) (hr : Ints v v.heap.size Ar xs) (hx : ∀ x ∈ xs, -10 ≤ x ∧ x < 6) (hl : xs.length ≤ 40) (hi : i < 11) :
    Calls Tryd.prog 178 #[.slice Ar xs.length cr, .int .i64 (i : Int), .pointer (some ⟨O, 0, none⟩)] v fun e v' => ∃ m : Nat, e = .returned (.int .u16 (m : Int)) ∧ Msk m (fun j => SeqD (DK K) ws xs i j) ∧ v' = v := by
  have h5 := hE.2.2.2.2.1
  have HE := Lib.hid hE; clear hE
  have HK := Lib.hid hK; clear hK
  have HR := Lib.hid hr; clear hr
  have HX := Lib.hid hx; clear hx
  have HS := Lib.hid (seqD_start (D := DK K) (ws := ws) (xs := xs) hi)
  go_enter Tryd.func178, Tryd.ntmps178
  go_wp2_with fail
  refine (placeAt_any i hi _).mono ?_
  rintro e w1 ⟨rfl, rfl⟩
  go_wp2
  go_loopw [6, 15] (fun e n wr => ∃ (k m : Nat), k ≤ xs.length ∧ n = .int .i64 k ∧ e = .int .u16 (m : Int) ∧ Hid (Msk m fun j => SeqD (DK K) ws (xs.take k) i j) ∧ wr = w1) (fun _ n _ => xs.length - (intOf n).toNat)
  case atStart => exact ⟨0, _, by omega, rfl, rfl, HS.out, rfl⟩
  case round =>
    obtain ⟨k, m, hk, rfl, rfl, HM, rfl⟩ := hrel
    by_cases hlt : k < xs.length
    · obtain ⟨q, o, hA, hq, c1⟩ := HR.out.at_ hlt
      subst hA
      have HF0 : Hid (Msk 0 fun j => FromD K ws xs[k] m 0 j) := msk_no.congr fun _ => fromD_zero.symm
      have hm : m < 2048 := HM.out.1
      obtain ⟨x0, x1⟩ := HX.out xs[k] (List.getElem_mem hlt)
      obtain ⟨wA, hwA⟩ : ∃ x, x = wr := ⟨_, rfl⟩
      subst hwA
      go_wp2
      go_loopw [6, 20] (fun e n wr => ∃ (a m' : Nat), a ≤ 11 ∧ n = .int .i64 a ∧ e = .int .u16 (m' : Int) ∧ Hid (Msk m' fun j => FromD K ws xs[k] m a j) ∧ wr = wA) (fun _ n _ => 11 - (intOf n).toNat)
      case atStart => exact ⟨0, 0, by omega, rfl, rfl, HF0.out, rfl⟩
      case round =>
        obtain ⟨a, m', ha, rfl, rfl, HF, rfl⟩ := hrel
        by_cases hlta : a < 11
        · cases hb : m.testBit a
          · have HN : Hid (Msk m' fun j => FromD K ws xs[k] m (a + 1) j) := HF.out.congr fun _ => fromD_skip hb
            have HB := Lib.hid hb; clear hb
            go_wp2_with fail
            refine (has_any m a hm hlta _).mono ?_
            rintro e w2 ⟨rfl, rfl⟩
            rw [HB.out]
            go_wp2
            go_roundw
            case rel => exact ⟨a + 1, m', by omega, by go_num, rfl, HN.out, trivial⟩
            case measure => simp [intOf]; omega
          · have HT := Lib.hid (@fromD_take K ws xs[k] m a · hb)
            have HB := Lib.hid hb; clear hb
            have hm' : m' < 2048 := HF.out.1
            have HO := Lib.hid (one_any R P W O Aw cw ws K xs[k] a wr HE.out HK.out hw ⟨x0, x1⟩ hlta)
            go_wp2_with fail
            refine (has_any m a hm hlta _).mono ?_
            rintro e w2 ⟨rfl, rfl⟩
            rw [HB.out]
            go_wp2_with fail
            refine HO.out.mono ?_
            rintro e w3 ⟨m2, rfl, hm2, rfl⟩
            have HM2 := Lib.hid (HF.out.or hm2)
            have hm3 : m2 < 2048 := hm2.1
            have ho := u16_or' hm' hm3
            go_wp2
            go_roundw
            case rel => exact ⟨a + 1, orK m' m2, by omega, by go_num, rfl, HM2.out.congr fun j => HT.out j, trivial⟩
            case measure => simp [intOf]; omega
        · obtain rfl : a = 11 := by omega
          have HN : Hid (Msk m' fun j => SeqD (DK K) ws (xs.take (k + 1)) i j) := HF.out.congr fun _ => fromD_all hlt HM.out
          go_wp2
          go_roundw
          case rel => exact ⟨k + 1, m', by omega, by go_num, rfl, HN.out, trivial⟩
          case measure => simp [intOf]; omega
    · obtain rfl : k = xs.length := by omega
      go_wp2
      go_ret
      refine ⟨m, rfl, ?_, rfl⟩
      have h := HM.out
      rw [List.take_length] at h
      exact h

/-- .. with its value named. -/
noncomputable def endsM (K : Nat → Nat → Nat) (ws xs : List Int) (i : Nat) : Nat := mskOf fun j => SeqD (DK K) ws xs i j
theorem endsM_is {K : Nat → Nat → Nat} {ws xs : List Int} {i : Nat} (hK : ∀ x i, K x i < 2048) (hw : ws.length ≤ 10) (hi : i < 11) : Msk (endsM K ws xs i) fun j => SeqD (DK K) ws xs i j := mskOf_is fun _ h => seqD_lt hK hw hi h
theorem ends_still (R P W O : Nat) (Aw : Option Addr) (cw : Nat) (ws : List Int) (K : Nat → Nat → Nat) (Ar : Option Addr) (xs : List Int) (cr : Nat) (i : Nat) (v : World) (hE : EnvK v R P W O Aw cw ws K) (hK : ∀ x i, K x i < 2048) (hw : ws.length ≤ 10) (hr : Ints v v.heap.size Ar xs) (hx : ∀ x ∈ xs, -10 ≤ x ∧ x < 6) (hl : xs.length ≤ 40) (hi : i < 11) :
    Calls Tryd.prog 178 #[.slice Ar xs.length cr, .int .i64 (i : Int), .pointer (some ⟨O, 0, none⟩)] v fun e v' => e = .returned (.int .u16 (endsM K ws xs i : Int)) ∧ v' = v :=
  (ends_any R P W O Aw cw ws K Ar xs cr i v hE hK hw hr hx hl hi).mono fun e v' h => by
    obtain ⟨m, rfl, hm, rfl⟩ := h
    rw [show m = endsM K ws xs i from mskOf_eq hm]
    exact ⟨rfl, rfl⟩

end Go.Proofs.YtgnpgehekfhedaaDoor

/- The program's growTable and endsIn. -/

namespace Go.Proofs.YtgnpgehekfhedaaDoor
open Go.RowKit

set_option maxRecDepth 100000 in
theorem enter_all (xs : Array Value) (v : World) : Sem.run Tryd.prog (callFunc 178 xs) v = .ok (.enter 178 xs) v := rfl
theorem Save.alloc {S : Nat → Prop} {a w : World} (h : Save S a w) (o : Obj) : Save S a (w.alloc o) := h.trans (Save.of_below ((Below.refl _ _).alloc (Nat.le_refl _) _))
theorem Box3.save {S : Nat → Prop} {w w' : World} {g : Nat} {a b c : Value} (h : Box3 w g a b c) (hs : Save S w w') (hg : ¬ S g) : Box3 w' g a b c := by
  have e := hs.block g h.1 hg
  have k : ∀ i, w'.cell? ⟨g, i, none⟩ = w.cell? ⟨g, i, none⟩ := fun i => by simp only [World.cell?, e]
  exact ⟨Nat.lt_of_lt_of_le h.1 hs.size, (k 0).trans h.2.1, (k 1).trans h.2.2.1, (k 2).trans h.2.2.2⟩
theorem Box2.save {S : Nat → Prop} {w w' : World} {g : Nat} {a b : Value} (h : Box2 w g a b) (hs : Save S w w') (hg : ¬ S g) : Box2 w' g a b := by
  have e := hs.block g h.1 hg
  have k : ∀ i, w'.cell? ⟨g, i, none⟩ = w.cell? ⟨g, i, none⟩ := fun i => by simp only [World.cell?, e]
  exact ⟨Nat.lt_of_lt_of_le h.1 hs.size, (k 0).trans h.2.1, (k 1).trans h.2.2⟩

theorem below_drew' (w : World) : Below w.heap.size w w.drew := by go_grown

/-- One pass over the table. -/
def GaveGrow (v : World) (R P W O : Nat) (Aw : Option Addr) (cw : Nat) (ws : List Int) (ss : List (Int × List Int)) (K0 : Nat → Nat → Nat) (e : Ending) (v' : World) : Prop :=
  ∃ K b, e = .returned (.bool b) ∧ EnvK v' R P W O Aw cw ws K ∧ Pass ss ws ss.length 0 K0 K b ∧ Save (· = R) v v'

set_option maxRecDepth 20000 in
set_option maxHeartbeats 4000000 in
theorem growTable_any (n t : Int) (A : Option Addr) (c : Nat) (rs : List Ru) (R P W O : Nat) (Aw : Option Addr) (cw : Nat) (ws : List Int) (K0 : Nat → Nat → Nat) (v : World) (hx : Rls v R A rs) (hg : goodG n t (rs.map Ru.abs) = true) (hw : ws.length ≤ 10) (hE : EnvK v R P W O Aw cw ws K0) (hK : OkK (rs.map Ru.abs) ws K0) :
    Calls Tryd.prog 143 #[.pointer (some ⟨R, 0, none⟩), .agg #[.int .i64 n, .int .i64 t, .slice A rs.length c], .slice Aw ws.length cw, .func (.func 178) #[] #[.pointer (some ⟨O, 0, none⟩)]] v (GaveGrow v R P W O Aw cw ws (rs.map Ru.abs) K0) := by
  have h16 := good_16 hg
  have HX := Lib.hid hx; clear hx
  have HG := Lib.hid hg; clear hg
  have hR : R < v.heap.size := by obtain ⟨⟨cs, h1, _⟩, _⟩ := hE; exact h1.lt
  have HP0 := Lib.hid (Pass.start hK)
  have HE0 : Hid (EnvK (v.alloc (.cells #[.int .i64 n, .int .i64 t, .slice A rs.length c] 34)) R P W O Aw cw ws K0) := hE.keep ((Below.refl _ _).alloc (Nat.le_refl _) _)
  have HS0 : Hid (Save (· = R) v (v.alloc (.cells #[.int .i64 n, .int .i64 t, .slice A rs.length c] 34))) := (Save.refl _ _).alloc _
  have HB0 : Hid (Box3 (v.alloc (.cells #[.int .i64 n, .int .i64 t, .slice A rs.length c] 34)) v.heap.size (.int .i64 n) (.int .i64 t) (.slice A rs.length c)) := ⟨by simp, by simp [go_sem], by simp [go_sem], by simp [go_sem]⟩
  clear hE hK
  go_enter Tryd.func143, Tryd.ntmps143
  go_wp2
  go_loopw [9, 17] (fun g n wr => ∃ (j : Nat) (K : Nat → Nat → Nat) (b : Bool), j ≤ rs.length ∧ n = .int .i64 j ∧ g = .bool b ∧ Hid (EnvK wr R P W O Aw cw ws K) ∧ Hid (Pass (rs.map Ru.abs) ws j 0 K0 K b) ∧ Hid (Save (· = R) v wr)) (fun _ n _ => rs.length - (intOf n).toNat)
  case atStart => exact ⟨0, K0, false, by omega, rfl, rfl, HE0.out, HP0.out, HS0.out⟩
  case round =>
    obtain ⟨j, K, b, hj, rfl, rfl, HE, HP, HS⟩ := hrel
    clear HE0 HP0 HS0
    by_cases hlt : j < rs.length
    · obtain ⟨p, o, hA, hp, c1, c2, c3⟩ := (HX.out.keep (HS.out.below (Nat.le_of_lt hR) (fun i hi h => by omega))).at_ hlt
      have hum : rs[j].abs ∈ rs.map Ru.abs := List.mem_map.2 ⟨_, List.getElem_mem hlt, rfl⟩
      have h4 := good_len HG.out hum
      have HGM := Lib.hid (goodG_mem HG.out hum)
      obtain ⟨L, hL⟩ : ∃ L : Nat, rs[j].l = (L : Int) := ⟨_, Int.eq_ofNat_of_zero_le HGM.out.1.1 |>.choose_spec⟩
      have hL6 : L < 6 := by have h : rs[j].l < n := HGM.out.1.2; have := goodG_is HG.out; omega
      have HJ : Hid ((rs.map Ru.abs)[j]? = some ((L : Int), rs[j].r)) := by show _ = _; rw [List.getElem?_map, List.getElem?_eq_getElem hlt, ← hL]; rfl
      have HSY : Hid (∀ x ∈ rs[j].r, -10 ≤ x ∧ x < 6) := fun x hx => by have h := HGM.out.2.2 x hx; have := goodG_is HG.out; omega
      rw [hL] at c1
      have HBR : Hid (Below wr.heap.size wr (wr.alloc (.cells #[.int .i64 L, .slice rs[j].a rs[j].r.length rs[j].c] 67))) := (Below.refl _ _).alloc (Nat.le_refl _) _
      have HBU : Hid (Box2 (wr.alloc (.cells #[.int .i64 L, .slice rs[j].a rs[j].r.length rs[j].c] 67)) wr.heap.size (.int .i64 L) (.slice rs[j].a rs[j].r.length rs[j].c)) := ⟨by simp, by simp [go_sem], by simp [go_sem]⟩
      have HEY := Lib.hid (HE.out.keep HBR.out)
      have HSV : Hid (Save (· = R) v (wr.alloc (.cells #[.int .i64 L, .slice rs[j].a rs[j].r.length rs[j].c] 67))) := HS.out.alloc _
      have HI : Hid (∀ u, Save (· = R) v u → Ints u R rs[j].a rs[j].r) := fun u hu => by
        obtain ⟨_, _, _, _, _, _, h⟩ := (HX.out.keep (hu.below (Nat.le_of_lt hR) (fun i hi h => by omega))).at_ hlt
        exact h
      have hQR : R < wr.heap.size := Nat.lt_of_lt_of_le hR HS.out.size
      clear c3 hum hL HE HS
      rw [hA]
      obtain ⟨wP, hwP⟩ : ∃ x, x = wr := ⟨_, rfl⟩
      subst hwP
      obtain ⟨_, r0, r1⟩ := HBU.out
      go_wp2
      generalize (wP.alloc (.cells #[.int .i64 L, .slice rs[j].a rs[j].r.length rs[j].c] 67)) = Y at *
      clear r0 r1 c1 c2
      obtain ⟨Q, hQ⟩ : ∃ x, x = wP.heap.size := ⟨_, rfl⟩
      rw [← hQ] at HBU hQR ⊢
      clear hQ HBR
      have HPO : Hid (Pass (rs.map Ru.abs) ws j 0 K0 K b) := HP.out
      clear HP
      go_loopw [9, 24] (fun g n wr => ∃ (i : Nat) (K : Nat → Nat → Nat) (b : Bool), i ≤ ws.length + 1 ∧ n = .int .i64 i ∧ g = .bool b ∧ Hid (EnvK wr R P W O Aw cw ws K) ∧ Hid (Pass (rs.map Ru.abs) ws j i K0 K b) ∧ Hid (Save (· = R) v wr) ∧ Hid (Box2 wr Q (.int .i64 L) (.slice rs[j].a rs[j].r.length rs[j].c))) (fun _ n _ => ws.length + 1 - (intOf n).toNat)
      case atStart => exact ⟨0, K, b, by omega, rfl, rfl, HEY.out, HPO.out, HSV.out, HBU.out⟩
      case round =>
        obtain ⟨i, K, b, hi, rfl, rfl, HE, HP, HS, HU⟩ := hrel
        clear HEY HPO HSV HBU
        by_cases hlti : i < ws.length + 1
        · obtain ⟨k1, k2⟩ := HE.out.1.at_ hL6 (show i < 11 by omega)
          obtain ⟨_, r0, r1⟩ := HU.out
          have hRw : R ≤ wr.heap.size := Nat.le_of_lt (Nat.lt_of_lt_of_le hR HS.out.size)
          have hkl : K L i < 2048 := HP.out.1.1 L i
          have HM := Lib.hid (endsM_is (K := K) (ws := ws) (xs := rs[j].r) (i := i) HP.out.1.1 hw (by omega))
          have HPN := Lib.hid (HP.out.step HJ.out hL6 (show i ≤ ws.length by omega) hw HM.out)
          have ho := u16_or' hkl HM.out.1
          go_wp2_with fail
          go_region
          have HED : Hid (EnvK wr.drew R P W O Aw cw ws K) := HE.out.keep (below_drew' _)
          have HSD : Hid (Save (· = R) v wr.drew) := HS.out.trans (Save.of_below (below_drew' _))
          have HUD : Hid (Box2 wr.drew Q (.int .i64 L) (.slice rs[j].a rs[j].r.length rs[j].c)) := HU.out.keep (below_drew' _) HU.out.1
          have hRD : R ≤ wr.drew.heap.size := hRw
          go_wp2_with fail
          generalize wr.drew = wD at *
          clear HE HS HU k1 k2 r0 r1 hRw
          obtain ⟨k1, k2⟩ := HED.out.1.at_ hL6 (show i < 11 by omega)
          obtain ⟨_, r0, r1⟩ := HUD.out
          have HC := Lib.hid (ends_still R P W O Aw cw ws K rs[j].a rs[j].r rs[j].c i wD.drew (HED.out.keep (below_drew' _)) HP.out.1.1 hw (((HI.out _ HSD.out).keep ((below_drew' _).mono hRD)).more hRD) HSY.out (by omega) (by omega))
          generalize endsM K ws rs[j].r i = m at *
          have hLi : (L : Int) < 6 := by omega
          have hii : (i : Int) < 11 := by omega
          refine wp_region_still_tail 17 (by kernel_rfl) (by kernel_rfl) ?_
          simp only [List.take_succ_cons, List.take_zero, List.drop_succ_cons, List.drop_zero]
          repeat still_step
          still_call HC.out
          repeat still_step
          refine wpStill_nil ?_
          change wpList _ _ _ _ _ wD.drew
          go_wp2
          have hQR' : Q ≠ R := by omega
          have HEZ : Hid (EnvK (wD.setCell ⟨R, L * 11 + i, none⟩ (.int .u16 (orK (K L i) m : Int))).drew R P W O Aw cw ws (setK K L i (orK (K L i) m))) := (HED.out.set hL6 (by omega) _).keep (below_drew' _)
          have HSZ : Hid (Save (· = R) v (wD.setCell ⟨R, L * 11 + i, none⟩ (.int .u16 (orK (K L i) m : Int))).drew) := (HSD.out.setCell rfl _).trans (Save.of_below (below_drew' _))
          have HUZ : Hid (Box2 (wD.setCell ⟨R, L * 11 + i, none⟩ (.int .u16 (orK (K L i) m : Int))).drew Q (.int .i64 L) (.slice rs[j].a rs[j].r.length rs[j].c)) := by
            have h := HUD.out.save (S := (· = R)) (Save.setCell (S := (· = R)) (Save.refl _ _) (p := ⟨R, L * 11 + i, none⟩) rfl (.int .u16 (orK (K L i) m : Int))) hQR'
            exact h.keep (below_drew' _) h.1
          have hd : ((orK (K L i) m : Int) != (K L i : Int)) = decide (K L i ||| m ≠ K L i) := by
            by_cases e : K L i ||| m = K L i
            · rw [decide_eq_false (by simpa using e)]; exact bne_f (by have : orK (K L i) m = K L i := e; omega)
            · rw [decide_eq_true e]; exact bne_t (by have : ¬ orK (K L i) m = K L i := e; omega)
          have HPQ : Hid (Pass (rs.map Ru.abs) ws j (i + 1) K0 (setK K L i (orK (K L i) m)) (b || decide (K L i ||| m ≠ K L i))) := HPN.out
          generalize decide (K L i ||| m ≠ K L i) = d at *
          generalize (wD.setCell ⟨R, L * 11 + i, none⟩ (.int .u16 (orK (K L i) m : Int))).drew = Z at *
          clear k1 k2 r0 r1 HPN HP HM HC HED HSD HUD ho
          obtain ⟨k1, k2⟩ := HEZ.out.1.at_ hL6 (show i < 11 by omega)
          obtain ⟨_, r0, r1⟩ := HUZ.out
          rw [setK_at] at k1
          have HEW : Hid (EnvK Z.drew R P W O Aw cw ws (setK K L i (orK (K L i) m))) := HEZ.out.keep (below_drew' _)
          have HSW : Hid (Save (· = R) v Z.drew) := HSZ.out.trans (Save.of_below (below_drew' _))
          have HUW : Hid (Box2 Z.drew Q (.int .i64 L) (.slice rs[j].a rs[j].r.length rs[j].c)) := HUZ.out.keep (below_drew' _) HUZ.out.1
          clear HEZ HSZ HUZ
          generalize setK K L i (orK (K L i) m) = K2 at HEW HPQ
          cases b
          · go_still (by kernel_rfl)
            change Exit.inBlock _ _ _ _ Z.drew
            go_wp2
            go_roundw
            case rel => exact ⟨i + 1, K2, d, by omega, by go_num, rfl, HEW.out, HPQ.out, HSW.out, HUW.out⟩
            case measure => simp [intOf]; omega
          · clear hd k1 k2
            go_region
            go_wp2
            go_roundw
            case rel => exact ⟨i + 1, K2, true, by omega, by go_num, rfl, HEW.out, HPQ.out, HSW.out, HUW.out⟩
            case measure => simp [intOf]; omega
        · obtain rfl : i = ws.length + 1 := by omega
          have HPN := Lib.hid HP.out.line
          go_wp2
          go_roundw
          case rel => exact ⟨j + 1, K, b, by omega, by go_num, rfl, HE.out, HPN.out, HS.out⟩
          case measure => simp [intOf]; omega
    · obtain rfl : j = rs.length := by omega
      have HPL : Hid (Pass (rs.map Ru.abs) ws (rs.map Ru.abs).length 0 K0 K b) := by have h := HP.out; rw [List.length_map]; exact h
      go_wp2
      go_ret
      exact ⟨K, b, rfl, HE.out, HPL.out, HS.out⟩

end Go.Proofs.YtgnpgehekfhedaaDoor

/- The program's endsIn and deriveWhole. -/

namespace Go.Proofs.YtgnpgehekfhedaaDoor
open Go.RowKit

set_option maxRecDepth 20000 in
theorem zero124 : Tryd.zeroCells164.size = 66 ∧ ∀ k, k < 66 → Tryd.zeroCells164[k]? = some (.int .u16 0) := by
  have h : Tryd.zeroCells164 = Array.replicate 66 (.int .u16 0) := by kernel_rfl
  rw [h]
  exact ⟨by simp, fun k hk => by simp [hk]⟩

set_option maxHeartbeats 400000 in
theorem endsOfOne_any (p : Option Addr) (A : Option Addr) (n c : Nat) (v : World) :
    Calls Tryd.prog 142 #[.pointer p, .slice A n c] v fun e v' => e = .returned (.func (.func 179) #[] #[.pointer (some ⟨v.heap.size, 0, none⟩), .pointer (some ⟨v.heap.size + 1, 0, none⟩)]) ∧ v' = (v.alloc (.cells #[.pointer p] 168)).alloc (.cells #[.slice A n c] 27) := by
  go_enter Tryd.func142, Tryd.ntmps142
  go_wp2
  go_ret
  exact ⟨rfl, rfl⟩

set_option maxHeartbeats 400000 in
theorem endsOfAll_any (f : Fn) (a b : Array Value) (v : World) :
    Calls Tryd.prog 141 #[.func f a b] v fun e v' => e = .returned (.func (.func 178) #[] #[.pointer (some ⟨v.heap.size, 0, none⟩)]) ∧ v' = v.alloc (.cells #[.func f a b] 166) := by
  go_enter Tryd.func141, Tryd.ntmps141
  go_wp2
  go_ret
  exact ⟨rfl, rfl⟩

/-- What endsIn gives: the function, with a table that tells just what is derived. -/
def GaveEnds (w : World) (Aw : Option Addr) (cw : Nat) (ws : List Int) (ss : List (Int × List Int)) (e : Ending) (w' : World) : Prop :=
  ∃ R P W O K, e = .returned (.func (.func 178) #[] #[.pointer (some ⟨O, 0, none⟩)]) ∧ EnvK w' R P W O Aw cw ws K ∧ (∀ x i, K x i < 2048) ∧ (∀ x i j, DK K x i j ↔ Der ss ws x i j) ∧ w.heap.size ≤ R ∧ Below w.heap.size w w'
theorem okK_zero (ss : List (Int × List Int)) (ws : List Int) : OkK ss ws fun _ _ => 0 := ⟨fun _ _ => by show 0 < 2048; omega, fun x i j h => by have := h.2; simp at this⟩
theorem sumK_zero : sumK (fun _ _ => 0) = 0 := by decide

set_option maxRecDepth 20000 in
set_option maxHeartbeats 1000000 in
theorem endsIn_any (n t : Int) (A : Option Addr) (c : Nat) (rs : List Ru) (Aw : Option Addr) (cw : Nat) (ws : List Int) (w : World) (hx : Rls w w.heap.size A rs) (hg : goodG n t (rs.map Ru.abs) = true) (hw : ws.length ≤ 10) (hW : Ints w w.heap.size Aw ws) :
    Calls Tryd.prog 100 #[.agg #[.int .i64 n, .int .i64 t, .slice A rs.length c], .slice Aw ws.length cw] w (GaveEnds w Aw cw ws (rs.map Ru.abs)) := by
  have HX := Lib.hid hx; clear hx
  have HG := Lib.hid hg; clear hg
  have HW := Lib.hid hW; clear hW
  have HB2 : Hid (Below w.heap.size w ((w.alloc (.cells #[.int .i64 n, .int .i64 t, .slice A rs.length c] 34)).alloc (.cells Tryd.zeroCells164 164))) := by show Below _ _ _; go_grown
  have HX2 : Hid (Box3 ((w.alloc (.cells #[.int .i64 n, .int .i64 t, .slice A rs.length c] 34)).alloc (.cells Tryd.zeroCells164 164)) w.heap.size (.int .i64 n) (.int .i64 t) (.slice A rs.length c)) := Box3.keep (B := w.heap.size + 1) (w := w.alloc (.cells #[.int .i64 n, .int .i64 t, .slice A rs.length c] 34)) ⟨by simp, by simp [go_sem], by simp [go_sem], by simp [go_sem]⟩ ((Below.refl _ _).alloc (by simp) _) (by omega)
  have HT2 : Hid (TabK ((w.alloc (.cells #[.int .i64 n, .int .i64 t, .slice A rs.length c] 34)).alloc (.cells Tryd.zeroCells164 164)) (w.heap.size + 1) fun _ _ => 0) := by
    refine ⟨Tryd.zeroCells164, ?_, zero124.1, fun x i hx hi => zero124.2 _ (by omega)⟩
    have h := Row.new (w.alloc (.cells #[.int .i64 n, .int .i64 t, .slice A rs.length c] 34)) 164 Tryd.zeroCells164
    rw [World.size_alloc] at h
    exact h
  have hz2 : ((w.alloc (.cells #[.int .i64 n, .int .i64 t, .slice A rs.length c] 34)).alloc (.cells Tryd.zeroCells164 164)).heap.size = w.heap.size + 2 := by simp
  go_enter Tryd.func100, Tryd.ntmps100
  go_wp2_with fail
  generalize (w.alloc (.cells #[.int .i64 n, .int .i64 t, .slice A rs.length c] 34)).alloc (.cells Tryd.zeroCells164 164) = w2 at *
  refine (endsOfOne_any _ _ _ _ _).mono ?_
  rintro e w3 ⟨rfl, h3⟩
  have HB3 : Hid (Below w2.heap.size w2 w3) := by rw [h3]; show Below _ _ _; go_grown
  have HP3 : Hid (w3.cell? ⟨w2.heap.size, 0, none⟩ = some (.pointer (some ⟨w.heap.size + 1, 0, none⟩))) := by show _ = _; rw [h3]; simp [go_sem]
  have HW3 : Hid (w3.cell? ⟨w2.heap.size + 1, 0, none⟩ = some (.slice Aw ws.length cw)) := by show _ = _; rw [h3]; simp [go_sem]
  have hz3 : w3.heap.size = w2.heap.size + 2 := by rw [h3]; simp
  clear h3
  go_wp2_with fail
  refine (endsOfAll_any _ _ _ _).mono ?_
  rintro e w4 ⟨rfl, h4⟩
  have HB4 : Hid (Below w3.heap.size w3 w4) := by rw [h4]; show Below _ _ _; go_grown
  have HO4 : Hid (w4.cell? ⟨w3.heap.size, 0, none⟩ = some (.func (.func 179) #[] #[.pointer (some ⟨w2.heap.size, 0, none⟩), .pointer (some ⟨w2.heap.size + 1, 0, none⟩)])) := by show _ = _; rw [h4]; simp [go_sem]
  have hz4 : w4.heap.size = w3.heap.size + 1 := by rw [h4]; simp
  clear h4
  have HBW : Hid (Below w.heap.size w w4) := (HB2.out.trans (HB3.out.mono (by omega))).trans (HB4.out.mono (by omega))
  have HEN : Hid (EnvK w4 (w.heap.size + 1) (w.heap.size + 2) (w.heap.size + 2 + 1) w3.heap.size Aw cw ws fun _ _ => 0) := by
    obtain ⟨cs, h1, h2⟩ := HT2.out
    have k1 := HP3.out
    have k2 := HW3.out
    have k3 := HO4.out
    rw [hz2] at k3
    rw [hz2] at k1 k2
    exact ⟨⟨cs, (h1.below HB3.out (by omega)).below HB4.out (by omega), h2⟩, (HB4.out.cell (p := ⟨w.heap.size + 2, 0, none⟩) (by simp; omega)).trans k1, (HB4.out.cell (p := ⟨w.heap.size + 2 + 1, 0, none⟩) (by simp; omega)).trans k2, (HW.out.keep HBW.out).more (by omega), k3, by omega, by omega, by omega⟩
  have HX4 := Lib.hid ((HX2.out.keep HB3.out (by omega)).keep HB4.out (by omega))
  have hz5 : w.heap.size + 2 < w4.heap.size := by omega
  clear HB2 HX2 HT2 HB3 HP3 HW3 HB4 HO4 hz4 hz3
  go_wp2_with fail
  clear hz2
  go_loopg [] 135102 (fun g wr => ∃ K, g = 135102 - sumK K ∧ Hid (EnvK wr (w.heap.size + 1) (w.heap.size + 2) (w.heap.size + 2 + 1) w3.heap.size Aw cw ws K) ∧ Hid (OkK (rs.map Ru.abs) ws K) ∧ Hid (Save (· = w.heap.size + 1) w4 wr))
  case atStart => exact ⟨_, by rw [sumK_zero], HEN.out, okK_zero _ _, Save.refl _ _⟩
  case round =>
    obtain ⟨K, hgk, HE, HK, HS⟩ := hrel
    clear HEN
    have HBR : Hid (Below w.heap.size w wr) := HBW.out.trans (HS.out.below (by omega) (fun i hi h => by omega))
    obtain ⟨_, b0, b1, b2⟩ := HX4.out.save HS.out (by omega)
    have HC := Lib.hid (growTable_any n t A c rs (w.heap.size + 1) (w.heap.size + 2) (w.heap.size + 2 + 1) w3.heap.size Aw cw ws K wr ((HX.out.keep HBR.out).more (by omega)) HG.out hw HE.out HK.out)
    go_wp2_with fail
    refine HC.out.mono ?_
    rintro e w5 ⟨K2, b, rfl, hE, hP, hS⟩
    have HE2 := Lib.hid hE
    have HP2 := Lib.hid hP
    have HS2 := Lib.hid (HS.out.trans hS)
    clear hE hP hS
    cases b
    · have HB5 : Hid (Below w.heap.size w w5) := HBW.out.trans (HS2.out.below (by omega) (fun i hi h => by omega))
      go_wp2
      go_ret
      exact ⟨w.heap.size + 1, w.heap.size + 2, w.heap.size + 2 + 1, w3.heap.size, K2, rfl, HE2.out, HP2.out.1.1, fun x i j => HP2.out.done, by omega, HB5.out⟩
    · have h1 := HP2.out.2.2.1 rfl
      have h2 := sumK_most HP2.out.1.1
      have HD : Hid (135102 - sumK K2 < 135102 - sumK K) := by show _ < _; omega
      clear h1 h2
      go_wp2
      go_roundg (135102 - sumK K2)
      case measure => rw [hgk]; exact HD.out
      case rel => exact ⟨K2, rfl, HE2.out, HP2.out.1, HS2.out⟩

end Go.Proofs.YtgnpgehekfhedaaDoor

/- A value and a bool as an answer. -/

namespace Go.Proofs.YtgnpgehekfhedaaDoor
open Go.RowKit

def GaveXB (w : World) (Q : Bool → Bool → Prop) (e : Ending) (w' : World) : Prop := ∃ x ok, Q x ok ∧ e = .returned (.tuple #[.bool x, .bool ok]) ∧ Below w.heap.size w w'
def GaveXI (w : World) (Q : Int → Bool → Prop) (e : Ending) (w' : World) : Prop := ∃ x ok, Q x ok ∧ e = .returned (.tuple #[.int .i64 x, .bool ok]) ∧ Below w.heap.size w w'

end Go.Proofs.YtgnpgehekfhedaaDoor

/- The program's deriveWhole, Derives, InLanguage and SequenceDerives. -/

namespace Go.Proofs.YtgnpgehekfhedaaDoor
open Go.RowKit

/-- A bool that tells P, where the arguments are as said; and whether they are. -/
def QD (ok : Bool) (P : Prop) (x o : Bool) : Prop := o = ok ∧ (ok = true → (x = true ↔ P)) ∧ (ok = false → x = false)
theorem QD.unique {ok : Bool} {P : Prop} {x o x' o' : Bool} (h : QD ok P x o) (k : QD ok P x' o') : x = x' ∧ o = o' := by
  refine ⟨?_, h.1.trans k.1.symm⟩
  cases ok
  · rw [h.2.2 rfl, k.2.2 rfl]
  · have h1 := (h.2.1 rfl).trans (k.2.1 rfl).symm
    cases x <;> cases x' <;> simp_all
theorem seqD_one {D : Int → Nat → Nat → Prop} {ws : List Int} {x : Int} {i j : Nat} (hx : 0 ≤ x) : SeqD D ws [x] i j ↔ D x i j := by
  constructor
  · rintro ⟨m, (⟨h, _⟩ | ⟨_, h⟩), k⟩
    · omega
    · have k' : m = j := k
      subst k'; exact h
  · exact fun h => ⟨j, .inr ⟨hx, h⟩, rfl⟩
theorem seqD_iff {D E : Int → Nat → Nat → Prop} {ws xs : List Int} {i j : Nat} (h : ∀ x i j, D x i j ↔ E x i j) : SeqD D ws xs i j ↔ SeqD E ws xs i j := ⟨fun k => k.mono fun x i j => (h x i j).1, fun k => k.mono fun x i j => (h x i j).2⟩

set_option maxRecDepth 20000 in
set_option maxHeartbeats 1000000 in
theorem deriveWhole_any (n t : Int) (A : Option Addr) (c : Nat) (rs : List Ru) (Ar : Option Addr) (cr : Nat) (xs : List Int) (Aw : Option Addr) (cw : Nat) (ws : List Int) (w : World) (hx : Rls w w.heap.size A rs) (hg : goodG n t (rs.map Ru.abs) = true) (hw : ws.length ≤ 10) (hW : Ints w w.heap.size Aw ws) (hr : Ints w w.heap.size Ar xs) (hs : ∀ x ∈ xs, -10 ≤ x ∧ x < 6) (hl : xs.length ≤ 40) :
    Calls Tryd.prog 96 #[.agg #[.int .i64 n, .int .i64 t, .slice A rs.length c], .slice Ar xs.length cr, .slice Aw ws.length cw] w fun e w' => ∃ b, e = .returned (.bool b) ∧ (b = true ↔ SeqD (Der (rs.map Ru.abs) ws) ws xs 0 ws.length) ∧ Below w.heap.size w w' := by
  have HR := Lib.hid hr; clear hr
  have HS := Lib.hid hs; clear hs
  have HB0 : Hid (Below w.heap.size w (w.alloc (.cells #[.int .i64 n, .int .i64 t, .slice A rs.length c] 34))) := by show Below _ _ _; go_grown
  have HC := Lib.hid (endsIn_any n t A c rs Aw cw ws _ ((hx.keep HB0.out).more HB0.out.size) hg hw ((hW.keep HB0.out).more HB0.out.size))
  clear hx hg hW
  go_enter Tryd.func96, Tryd.ntmps96
  go_wp2_with fail
  refine HC.out.mono ?_
  rintro e w1 ⟨R, P, W, O, K, rfl, hE, hK, hD, hR, hB⟩
  have HBW : Hid (Below w.heap.size w w1) := HB0.out.trans (hB.mono HB0.out.size)
  have HE := Lib.hid (ends_still R P W O Aw cw ws K Ar xs cr 0 w1 hE hK hw ((HR.out.keep HBW.out).more HBW.out.size) HS.out hl (by omega))
  have HM := Lib.hid (endsM_is (K := K) (ws := ws) (xs := xs) (i := 0) hK hw (by omega))
  have HQ : Hid ((endsM K ws xs 0).testBit ws.length = true ↔ SeqD (Der (rs.map Ru.abs) ws) ws xs 0 ws.length) := (HM.out.2 _).trans (seqD_iff hD)
  have hm : endsM K ws xs 0 < 2048 := HM.out.1
  clear HC hE hK hD hR hB HM
  generalize endsM K ws xs 0 = m at *
  go_wp2_with fail
  refine HE.out.mono ?_
  rintro e w2 ⟨rfl, rfl⟩
  go_wp2_with fail
  refine (has_any m ws.length hm (by omega) _).mono ?_
  rintro e w3 ⟨rfl, rfl⟩
  go_wp2
  go_ret
  exact ⟨_, rfl, HQ.out, HBW.out⟩

theorem ints_one (w : World) (x : Int) : Ints (w.alloc (.cells #[.int .i64 x] 3)) (w.heap.size + 1) (some ⟨w.heap.size, 0, none⟩) [x] := fun _ => ⟨w.heap.size, 0, rfl, by omega, fun k y hk => by
  have hk1 := (List.getElem?_eq_some_iff.1 hk).1
  have e : k = 0 := by simp at hk1; omega
  subst e
  simp at hk
  subst hk
  simp [go_sem]⟩

set_option maxRecDepth 20000 in
set_option maxHeartbeats 1000000 in
theorem implDerives_any (n t x : Int) (A : Option Addr) (c : Nat) (rs : List Ru) (Aw : Option Addr) (cw : Nat) (ws : List Int) (w : World) (hx : Rls w w.heap.size A rs) (hW : Ints w w.heap.size Aw ws) (hL : Lims w) (hc : rs.length ≤ c) (h1 : rs.length ≤ 1048576) (h2 : ∀ u ∈ rs, u.r.length ≤ 1048576) (hf : FitR rs) (h3 : ws.length ≤ 1048576) :
    Calls Tryd.prog 43 #[.agg #[.int .i64 n, .int .i64 t, .slice A rs.length c], .int .i64 x, .slice Aw ws.length cw] w (GaveXB w (QD (goodW n t (rs.map Ru.abs) ws && nonB n x) (Der (rs.map Ru.abs) ws x 0 ws.length))) := by
  have HX := Lib.hid hx; clear hx
  have HW := Lib.hid hW; clear hW
  have HB0 : Hid (Below w.heap.size w (w.alloc (.cells #[.int .i64 n, .int .i64 t, .slice A rs.length c] 34))) := by show Below _ _ _; go_grown
  have HX0 : Hid (Box3 (w.alloc (.cells #[.int .i64 n, .int .i64 t, .slice A rs.length c] 34)) w.heap.size (.int .i64 n) (.int .i64 t) (.slice A rs.length c)) := ⟨by simp, by simp [go_sem], by simp [go_sem], by simp [go_sem]⟩
  have HC := Lib.hid (implWord_any n t A Aw c cw rs ws _ ((HX.out.keep HB0.out).more HB0.out.size) ((HW.out.keep HB0.out).more HB0.out.size) (hL.keep HB0.out (Nat.le_refl _)) hc h1 h2 hf h3)
  clear hL
  cases hq : goodW n t (rs.map Ru.abs) ws
  · rw [hq] at HC
    go_enter Tryd.func43, Tryd.ntmps43
    go_wp2_with fail
    refine HC.out.mono ?_
    rintro e w1 ⟨rfl, hB1⟩
    have HB1 : Hid (Below w.heap.size w w1) := HB0.out.trans (hB1.mono HB0.out.size)
    clear hB1
    go_wp2
    go_ret2
    exact ⟨false, false, ⟨rfl, fun h => (by cases h), fun _ => rfl⟩, rfl, HB1.out⟩
  · have hg : goodG n t (rs.map Ru.abs) = true := by cases e : goodG n t (rs.map Ru.abs); rw [goodW_no e] at hq; cases hq; rfl
    have hwl : ws.length ≤ 10 := by
      by_cases e : ws.length ≤ 10
      · exact e
      · rw [goodW_yes hg, wordB_long e] at hq; cases hq
    rw [hq] at HC
    clear hq
    cases hn : nonB n x
    · have HN := Lib.hid hn; clear hn
      go_enter Tryd.func43, Tryd.ntmps43
      go_wp2_with fail
      refine HC.out.mono ?_
      rintro e w1 ⟨rfl, hB1⟩
      have HB1 : Hid (Below w.heap.size w w1) := HB0.out.trans (hB1.mono HB0.out.size)
      obtain ⟨_, b0, b1, b2⟩ := HX0.out.keep hB1 (by simp)
      clear hB1
      go_wp2_with fail
      refine (isNon_any _ _ _ _ _).mono ?_
      rintro e w2 ⟨rfl, hB2⟩
      rw [HN.out]
      have HB2 : Hid (Below w.heap.size w w2) := HB1.out.trans (hB2.mono HB1.out.size)
      clear hB2 b0 b1 b2
      go_wp2
      go_ret2
      exact ⟨false, false, ⟨rfl, fun h => (by cases h), fun _ => rfl⟩, rfl, HB2.out⟩
    · have HN := Lib.hid hn; clear hn
      have hx6 : 0 ≤ x ∧ x < 6 := by have h := HN.out; have := goodG_is hg; unfold nonB at h; simp at h; omega
      have HG := Lib.hid hg; clear hg
      go_enter Tryd.func43, Tryd.ntmps43
      go_wp2_with fail
      refine HC.out.mono ?_
      rintro e w1 ⟨rfl, hB1⟩
      have HB1 : Hid (Below w.heap.size w w1) := HB0.out.trans (hB1.mono HB0.out.size)
      have HX1 := Lib.hid (HX0.out.keep hB1 (by simp))
      clear hB1
      obtain ⟨_, b0, b1, b2⟩ := HX1.out
      go_wp2_with fail
      refine (isNon_any _ _ _ _ _).mono ?_
      rintro e w2 ⟨rfl, hB2⟩
      rw [HN.out]
      have HB2 : Hid (Below w.heap.size w w2) := HB1.out.trans (hB2.mono HB1.out.size)
      have HX2 := Lib.hid (HX1.out.keep hB2 HX1.out.1)
      clear hB2 b0 b1 b2 HX1
      have HB3 : Hid (Below w.heap.size w (w2.alloc (.cells #[.int .i64 x] 3))) := HB2.out.alloc HB2.out.size _
      obtain ⟨_, b0, b1, b2⟩ := HX2.out
      have HD := Lib.hid (deriveWhole_any n t A c rs (some ⟨w2.heap.size, 0, none⟩) 1 [x] Aw cw ws (w2.alloc (.cells #[.int .i64 x] 3)) ((HX.out.keep HB3.out).more HB3.out.size) HG.out hwl ((HW.out.keep HB3.out).more HB3.out.size) (by rw [World.size_alloc]; exact ints_one w2 x) (fun y hy => by simp at hy; omega) (by simp))
      go_wp2_with fail
      refine HD.out.mono ?_
      rintro e w3 ⟨b, rfl, hb, hB3⟩
      have HB4 : Hid (Below w.heap.size w w3) := HB3.out.trans (hB3.mono HB3.out.size)
      have HBB : Hid (b = true ↔ Der (rs.map Ru.abs) ws x 0 ws.length) := hb.trans (seqD_one hx6.1)
      clear hb hB3
      go_wp2
      go_ret2
      exact ⟨b, true, ⟨rfl, fun _ => HBB.out, fun h => by cases h⟩, rfl, HB4.out⟩

theorem goodW_goodG {n t : Int} {ss : List (Int × List Int)} {ws : List Int} (h : goodW n t ss ws = true) : goodG n t ss = true := by cases e : goodG n t ss; rw [goodW_no e] at h; cases h; rfl
theorem goodW_len {n t : Int} {ss : List (Int × List Int)} {ws : List Int} (h : goodW n t ss ws = true) : ws.length ≤ 10 := by
  by_cases e : ws.length ≤ 10
  · exact e
  · rw [goodW_yes (goodW_goodG h), wordB_long e] at h; cases h
theorem goodW_zero {n t : Int} {ss : List (Int × List Int)} {ws : List Int} : (goodW n t ss ws && nonB n 0) = goodW n t ss ws := by
  cases e : goodW n t ss ws
  · rfl
  · have := goodG_is (goodW_goodG e)
    rw [Bool.true_and]
    exact nonB_t (by omega) (by omega)

set_option maxRecDepth 20000 in
set_option maxHeartbeats 1000000 in
theorem implInLanguage_any (n t : Int) (A : Option Addr) (c : Nat) (rs : List Ru) (Aw : Option Addr) (cw : Nat) (ws : List Int) (w : World) (hx : Rls w w.heap.size A rs) (hW : Ints w w.heap.size Aw ws) (hL : Lims w) (hc : rs.length ≤ c) (h1 : rs.length ≤ 1048576) (h2 : ∀ u ∈ rs, u.r.length ≤ 1048576) (hf : FitR rs) (h3 : ws.length ≤ 1048576) :
    Calls Tryd.prog 52 #[.agg #[.int .i64 n, .int .i64 t, .slice A rs.length c], .slice Aw ws.length cw] w (GaveXB w (QD (goodW n t (rs.map Ru.abs) ws) (Der (rs.map Ru.abs) ws 0 0 ws.length))) := by
  have HB0 : Hid (Below w.heap.size w (w.alloc (.cells #[.int .i64 n, .int .i64 t, .slice A rs.length c] 34))) := by show Below _ _ _; go_grown
  have HC := Lib.hid (implDerives_any n t 0 A c rs Aw cw ws _ ((hx.keep HB0.out).more HB0.out.size) ((hW.keep HB0.out).more HB0.out.size) (hL.keep HB0.out (Nat.le_refl _)) hc h1 h2 hf h3)
  rw [goodW_zero] at HC
  clear hx hW hL
  go_enter Tryd.func52, Tryd.ntmps52
  go_wp2_with fail
  refine HC.out.mono ?_
  rintro e w1 ⟨x, o, hQ, rfl, hB1⟩
  have HQ := Lib.hid hQ
  have HB1 : Hid (Below w.heap.size w w1) := HB0.out.trans (hB1.mono HB0.out.size)
  clear hQ hB1
  go_wp2
  go_ret2
  exact ⟨x, o, HQ.out, rfl, HB1.out⟩

end Go.Proofs.YtgnpgehekfhedaaDoor

/- The reference's InLanguage and Derives. -/

namespace Go.Proofs.YtgnpgehekfhedaaDoor
open Go.RowKit

set_option maxRecDepth 20000 in
set_option maxHeartbeats 1000000 in
theorem l4In_any (N : Nat) (t : Int) (A : Option Addr) (c : Nat) (rs : List Ru) (y : Nat) (Aw : Option Addr) (cw : Nat) (ws : List Int) (w : World) (hx : Rls w w.heap.size A rs) (hg : goodG (N : Int) t (rs.map Ru.abs) = true) (hcap : ∀ u ∈ rs, u.r.length ≤ u.c) (hw : ws.length ≤ 10) (hW : Ints w w.heap.size Aw ws) (hy : y < N) :
    Calls Tryd.prog 98 #[.agg #[.int .i64 (N : Int), .int .i64 t, .slice A rs.length c], .int .i64 (y : Int), .slice Aw ws.length cw] w fun e w' => ∃ b, e = .returned (.bool b) ∧ (b = true ↔ Der (rs.map Ru.abs) ws y 0 ws.length) ∧ Below w.heap.size w w' := by
  have HB0 : Hid (Below w.heap.size w (w.alloc (.cells #[.int .i64 N, .int .i64 t, .slice A rs.length c] 34))) := by show Below _ _ _; go_grown
  have HC := Lib.hid (l4Table_any N t A c rs Aw cw ws _ ((hx.keep HB0.out).more HB0.out.size) hg hcap hw ((hW.keep HB0.out).more HB0.out.size))
  clear hx hg hW hcap
  go_enter Tryd.func98, Tryd.ntmps98
  go_wp2_with fail
  refine HC.out.mono ?_
  rintro e w1 ⟨S, T, rfl, hT, hD, hB⟩
  have HB1 : Hid (Below w.heap.size w w1) := HB0.out.trans (hB.mono HB0.out.size)
  have hc : ws.length < (ws.length + 1) * (ws.length + 1) := by have h := cell_lt (n := ws.length) (i := 0) (j := ws.length) (by omega) (by omega); simpa using h
  have k1 := hT.row hy
  obtain ⟨k2, _⟩ := hT.at_ hy hc
  have HQ : Hid (T y ws.length = true ↔ Der (rs.map Ru.abs) ws y 0 ws.length) := by
    refine Iff.trans ?_ (hD y 0 ws.length)
    unfold DT
    simp
  generalize (ws.length + 1) * (ws.length + 1) = M at *
  clear hT hD hB HC
  go_wp2
  go_ret
  exact ⟨_, rfl, HQ.out, HB1.out⟩

end Go.Proofs.YtgnpgehekfhedaaDoor

/- The spans of a word: the plain list; an answer that is a list of lists. -/

namespace Go.Proofs.YtgnpgehekfhedaaDoor
open Go.RowKit

/-- An answer: a list of lists, and whether there is one. -/
def GaveLB (w : World) (xs : List (List Int)) (ok : Bool) (e : Ending) (w' : World) : Prop :=
  ∃ A c ls, e = .returned (.tuple #[.slice A ls.length c, .bool ok]) ∧ ls.length ≤ c ∧ OwnL w' w.heap.size A ls ∧ sayL ls = xs ∧ Below w.heap.size w w'

theorem bP_eq {P : Prop} {b : Bool} (h : b = true ↔ P) : bP P = b := by
  cases b
  · exact bP_f fun hp => by cases h.2 hp
  · exact bP_t (h.1 rfl)

theorem flat_len {α β : Type} (l : List α) (f : α → List β) (c : Nat) (h : ∀ x, (f x).length ≤ c) : (l.flatMap f).length ≤ l.length * c := by
  induction l with
  | nil => simp
  | cons x l ih =>
    rw [List.flatMap_cons, List.length_append, List.length_cons, Nat.add_mul]
    have := h x
    omega

section
variable (D : Int → Nat → Nat → Prop)

/-- The nonterminals below k that derive the part from i to j. -/
noncomputable def spRow (i j k : Nat) : List (List Int) := ((List.range k).filter fun (x : Nat) => bP (D (x : Int) i j)).map fun (x : Nat) => [(i : Int), (j : Int), (x : Int)]
noncomputable def spCol (N i m : Nat) : List (List Int) := (List.range m).flatMap fun d => spRow D i (i + d) N
noncomputable def spAll (N L f : Nat) : List (List Int) := (List.range f).flatMap fun i => spCol D N i (L + 1 - i)

theorem spRow_zero (i j : Nat) : spRow D i j 0 = [] := by simp [spRow]
theorem spRow_yes {i j k : Nat} (h : bP (D (k : Int) i j) = true) : spRow D i j (k + 1) = spRow D i j k ++ [[(i : Int), (j : Int), (k : Int)]] := by
  unfold spRow
  rw [List.range_succ, List.filter_append, List.map_append]
  simp [h]
theorem spRow_no {i j k : Nat} (h : bP (D (k : Int) i j) = false) : spRow D i j (k + 1) = spRow D i j k := by
  unfold spRow
  rw [List.range_succ, List.filter_append, List.map_append]
  simp [h]
theorem spCol_zero (N i : Nat) : spCol D N i 0 = [] := by simp [spCol]
theorem spCol_succ (N i m : Nat) : spCol D N i (m + 1) = spCol D N i m ++ spRow D i (i + m) N := by
  unfold spCol
  rw [List.range_succ, List.flatMap_append]
  simp
theorem spAll_zero (N L : Nat) : spAll D N L 0 = [] := by simp [spAll]
theorem spAll_succ (N L f : Nat) : spAll D N L (f + 1) = spAll D N L f ++ spCol D N f (L + 1 - f) := by
  unfold spAll
  rw [List.range_succ, List.flatMap_append]
  simp
theorem spRow_len (i j k : Nat) : (spRow D i j k).length ≤ k := by
  unfold spRow
  rw [List.length_map]
  exact Nat.le_trans (List.length_filter_le _ _) (by simp)
theorem spCol_len (N i m : Nat) : (spCol D N i m).length ≤ m * N := by
  have := flat_len (List.range m) (fun d => spRow D i (i + d) N) N (fun d => spRow_len D i (i + d) N)
  rw [List.length_range] at this
  exact this
theorem spAll_len (N L f : Nat) : (spAll D N L f).length ≤ f * ((L + 1) * N) := by
  have := flat_len (List.range f) (fun i => spCol D N i (L + 1 - i)) ((L + 1) * N) (fun i => Nat.le_trans (spCol_len D N i _) (Nat.mul_le_mul_right _ (by omega)))
  rw [List.length_range] at this
  exact this
theorem spRow_three {i j k : Nat} {x : List Int} (h : x ∈ spRow D i j k) : x.length = 3 := by
  obtain ⟨y, _, rfl⟩ := List.mem_map.1 h
  rfl
theorem spAll_three {N L f : Nat} {x : List Int} (h : x ∈ spAll D N L f) : x.length = 3 := by
  obtain ⟨i, _, h⟩ := List.mem_flatMap.1 h
  obtain ⟨d, _, h⟩ := List.mem_flatMap.1 h
  exact spRow_three D h

/-- All that is told ahead of nonterminal k of the part from i to i + m. -/
noncomputable def spAt (N L i m k : Nat) : List (List Int) := spAll D N L i ++ spCol D N i m ++ spRow D i (i + m) k
theorem spAt_len {N L i m k : Nat} (hN : N ≤ 6) (hL : L ≤ 10) (hi : i ≤ 11) (hm : m ≤ 11) (hk : k ≤ 6) : (spAt D N L i m k).length ≤ 2000 := by
  unfold spAt
  rw [List.length_append, List.length_append]
  have h1 := spAll_len D N L i
  have h2 := spCol_len D N i m
  have h3 := spRow_len D i (i + m) k
  have h4 : (L + 1) * N ≤ 11 * 6 := Nat.mul_le_mul (by omega) hN
  have h5 : i * ((L + 1) * N) ≤ 11 * (11 * 6) := Nat.mul_le_mul hi h4
  have h6 : m * N ≤ 11 * 6 := Nat.mul_le_mul hm hN
  omega
theorem spAt_start (N L : Nat) : spAt D N L 0 0 0 = [] := by unfold spAt; rw [spAll_zero, spCol_zero, spRow_zero]; rfl
theorem spAt_yes {N L i m k : Nat} (h : bP (D (k : Int) i (i + m)) = true) : spAt D N L i m (k + 1) = spAt D N L i m k ++ [[(i : Int), ((i + m : Nat) : Int), (k : Int)]] := by
  unfold spAt; rw [spRow_yes D h]; simp only [List.append_assoc]
theorem spAt_no {N L i m k : Nat} (h : bP (D (k : Int) i (i + m)) = false) : spAt D N L i m (k + 1) = spAt D N L i m k := by
  unfold spAt; rw [spRow_no D h]
theorem spAt_col (N L i m : Nat) : spAt D N L i (m + 1) 0 = spAt D N L i m N := by
  unfold spAt; rw [spRow_zero, spCol_succ, List.append_nil]; simp only [List.append_assoc]
theorem spAt_all {N L i m : Nat} (h : m = L + 1 - i) : spAt D N L (i + 1) 0 0 = spAt D N L i m 0 := by
  unfold spAt; rw [spRow_zero, spRow_zero, spCol_zero, spAll_succ, h]; simp
theorem spAt_end {N L i : Nat} (h : i = L + 1) : spAt D N L i 0 0 = spAll D N L (L + 1) := by
  unfold spAt; rw [spRow_zero, spCol_zero, h]; simp
end

/-- What the spans are. -/
noncomputable def spansV (n t : Int) (ss : List (Int × List Int)) (ws : List Int) : List (List Int) := if goodW n t ss ws = true then spAll (Der ss ws) n.toNat ws.length (ws.length + 1) else []
theorem spansV_len {n t : Int} {ss : List (Int × List Int)} {ws : List Int} : (spansV n t ss ws).length ≤ 2000 := by
  unfold spansV
  split
  · rename_i h
    have h1 := goodG_is (goodW_goodG h)
    have h2 := goodW_len h
    rw [← spAt_end (Der ss ws) rfl]
    exact spAt_len _ (by omega) h2 (by omega) (by omega) (by omega)
  · simp
theorem spansV_three {n t : Int} {ss : List (Int × List Int)} {ws : List Int} {x : List Int} (h : x ∈ spansV n t ss ws) : x.length = 3 := by
  unfold spansV at h
  split at h
  · exact spAll_three _ h
  · simp at h

end Go.Proofs.YtgnpgehekfhedaaDoor

/- The short words: the plain list of all words up to a length, in the order in which they are told. -/

namespace Go.Proofs.YtgnpgehekfhedaaDoor
open Go.RowKit

/-- The words that are made of one by putting one of the first m tokens behind it. -/
def kidsTo (m : Nat) (x : List Int) : List (List Int) := (List.range m).map fun (t : Nat) => x ++ [(t : Int)]
/-- The words that are made of each of some words. -/
def kids (m : Nat) (l : List (List Int)) : List (List Int) := l.flatMap (kidsTo m)
/-- The words of n tokens. -/
def lev (m : Nat) : Nat → List (List Int)
  | 0 => [[]]
  | n + 1 => kids m (lev m n)
/-- The words of fewer than n tokens. -/
def upTo (m : Nat) : Nat → List (List Int)
  | 0 => []
  | n + 1 => upTo m n ++ lev m n

theorem kidsTo_zero (x : List Int) : kidsTo 0 x = [] := by simp [kidsTo]
theorem kidsTo_succ (m : Nat) (x : List Int) : kidsTo (m + 1) x = kidsTo m x ++ [x ++ [(m : Int)]] := by simp [kidsTo, List.range_succ]
theorem kidsTo_len (m : Nat) (x : List Int) : (kidsTo m x).length = m := by simp [kidsTo]
theorem kids_nil (m : Nat) : kids m [] = [] := rfl
theorem kids_append (m : Nat) (a b : List (List Int)) : kids m (a ++ b) = kids m a ++ kids m b := List.flatMap_append
theorem kids_snoc (m : Nat) (a : List (List Int)) (x : List Int) : kids m (a ++ [x]) = kids m a ++ kidsTo m x := by rw [kids_append]; simp [kids]
theorem kids_len (m : Nat) : ∀ l : List (List Int), (kids m l).length = l.length * m
  | [] => by simp [kids]
  | x :: l => by
    have h := kids_len m l
    unfold kids at h ⊢
    rw [List.flatMap_cons, List.length_append, h, kidsTo_len, List.length_cons, Nat.add_mul]
    omega

theorem root_kids (m : Nat) : ∀ n, [] :: kids m (upTo m n) = upTo m (n + 1)
  | 0 => by simp [upTo, kids, lev]
  | n + 1 => by
    have h := root_kids m n
    show [] :: kids m (upTo m n ++ lev m n) = upTo m (n + 1) ++ kids m (lev m n)
    rw [kids_append, ← List.cons_append, h]

theorem lev_len_mem (m : Nat) : ∀ (n : Nat) (x : List Int), x ∈ lev m n → x.length = n
  | 0, x, h => by simp [lev] at h; simp [h]
  | n + 1, x, h => by
    obtain ⟨y, hy, hx⟩ := List.mem_flatMap.1 h
    obtain ⟨t, _, rfl⟩ := List.mem_map.1 hx
    have := lev_len_mem m n y hy
    simp [this]
theorem upTo_len_mem (m : Nat) : ∀ (n : Nat) (x : List Int), x ∈ upTo m n → x.length < n
  | 0, x, h => by simp [upTo] at h
  | n + 1, x, h => by
    rcases List.mem_append.1 h with h | h
    · have := upTo_len_mem m n x h; omega
    · have := lev_len_mem m n x h; omega
theorem lev_len (m : Nat) : ∀ n, (lev m n).length = m ^ n
  | 0 => rfl
  | n + 1 => by
    show (kids m (lev m n)).length = _
    rw [kids_len, lev_len m n, Nat.pow_succ]
theorem lev_le {m n : Nat} (hm : m ≤ 4) (hn : n ≤ 4) : (lev m n).length ≤ 256 := by
  rw [lev_len]
  calc m ^ n ≤ 4 ^ n := Nat.pow_le_pow_left hm n
    _ ≤ 4 ^ 4 := Nat.pow_le_pow_right (by omega) hn
    _ = 256 := by decide
theorem upTo_le {m : Nat} (hm : m ≤ 4) : ∀ n, n ≤ 5 → (upTo m n).length ≤ n * 256
  | 0, _ => by simp [upTo]
  | n + 1, h => by
    have h1 := upTo_le hm n (by omega)
    have h2 := lev_le hm (show n ≤ 4 by omega)
    show (upTo m n ++ lev m n).length ≤ _
    rw [List.length_append]
    omega

theorem kids_take_pre (m : Nat) (l : List (List Int)) (a : Nat) : ∃ r, kids m l = kids m (l.take a) ++ r := ⟨kids m (l.drop a), by rw [← kids_append, List.take_append_drop]⟩

/-- What the queue holds when the first a of the words have been gone through. -/
def que (m n a : Nat) : List (List Int) := [] :: kids m ((upTo m n).take a)
theorem que_start (m n : Nat) : que m n 0 = [[]] := by simp [que, kids]
theorem que_end (m n : Nat) : que m n (upTo m n).length = upTo m (n + 1) := by rw [que, List.take_length, root_kids]
theorem que_pre (m n a : Nat) : ∃ r, upTo m (n + 1) = que m n a ++ r := by
  obtain ⟨r, h⟩ := kids_take_pre m (upTo m n) a
  exact ⟨r, by rw [← root_kids, h]; rfl⟩
theorem que_len {m n a : Nat} (hm : 1 ≤ m) (ha : a ≤ (upTo m n).length) : a < (que m n a).length := by
  show a < (kids m _).length + 1
  rw [kids_len, List.length_take, Nat.min_eq_left ha]
  have : a * 1 ≤ a * m := Nat.mul_le_mul_left a hm
  omega
theorem que_le {m n a : Nat} (hm : m ≤ 4) (hn : n ≤ 4) : (que m n a).length ≤ 1280 := by
  obtain ⟨r, h⟩ := que_pre m n a
  have h1 := upTo_le hm (n + 1) (by omega)
  rw [h, List.length_append] at h1
  omega
/-- The word at a place of the queue. -/
theorem que_at {m n a : Nat} {q : List (List Int)} (hm : 1 ≤ m) (ha : a < (upTo m n).length) (hq : que m n a ++ q <+: upTo m (n + 1)) : (que m n a ++ q)[a]? = (upTo m n)[a]? := by
  obtain ⟨r, hr⟩ := hq
  have h1 := que_len hm (Nat.le_of_lt ha)
  have h2 : (upTo m (n + 1))[a]? = (que m n a ++ q)[a]? := by
    rw [← hr, List.getElem?_append_left (by rw [List.length_append]; omega)]
  rw [← h2]
  show (upTo m n ++ lev m n)[a]? = _
  rw [List.getElem?_append_left ha]
theorem que_step {m n a : Nat} {x : List Int} (h : (upTo m n)[a]? = some x) : que m n (a + 1) = que m n a ++ kidsTo m x := by
  unfold que
  rw [List.take_add_one, h]
  show [] :: kids m (_ ++ [x]) = _
  rw [kids_snoc]
  rfl
theorem kidsTo_pre {j m : Nat} (h : j ≤ m) (x : List Int) : kidsTo j x <+: kidsTo m x := by
  obtain ⟨d, rfl⟩ : ∃ d, m = j + d := ⟨m - j, by omega⟩
  clear h
  induction d with
  | zero => exact List.prefix_refl _
  | succ d ih => exact ih.trans ⟨_, (kidsTo_succ (j + d) x).symm⟩
theorem que_mid {m n a j : Nat} {x : List Int} (h : (upTo m n)[a]? = some x) (hj : j ≤ m) : que m n a ++ kidsTo j x <+: upTo m (n + 1) := by
  obtain ⟨r, hr⟩ := que_pre m n (a + 1)
  obtain ⟨s, hs⟩ := kidsTo_pre hj x
  refine ⟨s ++ r, ?_⟩
  rw [hr, que_step h, ← hs]
  simp only [List.append_assoc]
theorem que_word {m n a : Nat} {q : List (List Int)} {x : List Int} (hm : 1 ≤ m) (h : (upTo m n)[a]? = some x) (hq : que m n a ++ q <+: upTo m (n + 1)) : (que m n a ++ q)[a]? = some x := by
  rw [que_at hm (List.getElem?_eq_some_iff.1 h).1 hq, h]
theorem que_last {m n : Nat} (hm : 1 ≤ m) : ∃ x, (que m n (upTo m n).length)[(upTo m n).length]? = some x ∧ x.length = n := by
  rw [que_end]
  show ∃ x, (upTo m n ++ lev m n)[(upTo m n).length]? = some x ∧ _
  rw [List.getElem?_append_right (Nat.le_refl _), Nat.sub_self]
  have h : 0 < (lev m n).length := by rw [lev_len]; exact Nat.pow_pos (by omega)
  refine ⟨(lev m n)[0], List.getElem?_eq_getElem h, lev_len_mem m n _ (List.getElem_mem h)⟩
theorem upTo_word {m n a : Nat} {x : List Int} (h : (upTo m n)[a]? = some x) : x.length < n := upTo_len_mem m n x (List.mem_of_getElem? h)

/-- A word is of the language. -/
noncomputable def langB (ss : List (Int × List Int)) (ws : List Int) : Bool := bP (Der ss ws 0 0 ws.length)
/-- What the short words are. -/
noncomputable def shortV (n t : Int) (ss : List (Int × List Int)) (x : Int) : List (List Int) := if goodG n t ss = true ∧ 0 ≤ x ∧ x ≤ 4 then (upTo t.toNat (x.toNat + 1)).filter (langB ss) else []
def okS (n t : Int) (ss : List (Int × List Int)) (x : Int) : Bool := goodG n t ss && decide (0 ≤ x ∧ x ≤ 4)
theorem shortV_len {n t : Int} {ss : List (Int × List Int)} {x : Int} (ht : goodG n t ss = true → t ≤ 4) : (shortV n t ss x).length ≤ 1280 := by
  unfold shortV
  split
  · rename_i h
    refine Nat.le_trans (List.length_filter_le _ _) ?_
    have := upTo_le (m := t.toNat) (by have := ht h.1; omega) (x.toNat + 1) (by omega)
    omega
  · simp
theorem shortV_lens {n t : Int} {ss : List (Int × List Int)} {x : Int} {y : List Int} (h : y ∈ shortV n t ss x) : y.length ≤ 4 := by
  unfold shortV at h
  split at h
  · have := upTo_len_mem _ _ y (List.mem_filter.1 h).1
    omega
  · simp at h
theorem filter_yes {P : List Int → Bool} {l : List (List Int)} {k : Nat} (hk : k < l.length) (h : P l[k] = true) : (l.take (k + 1)).filter P = (l.take k).filter P ++ [l[k]] := by
  rw [List.take_succ_eq_append_getElem hk, List.filter_append]
  simp [h]
theorem filter_no {P : List Int → Bool} {l : List (List Int)} {k : Nat} (hk : k < l.length) (h : P l[k] = false) : (l.take (k + 1)).filter P = (l.take k).filter P := by
  rw [List.take_succ_eq_append_getElem hk, List.filter_append]
  simp [h]

end Go.Proofs.YtgnpgehekfhedaaDoor

/- Slices of lists that are appended to: a list made just before; a list that lies in another slice of lists. -/

namespace Go.Proofs.YtgnpgehekfhedaaDoor
open Go.RowKit

theorem sayL_snoc (ds : List Li) (u : Li) : sayL (ds ++ [u]) = sayL ds ++ [u.r] := by simp [sayL]
theorem sayL_get {ds : List Li} {xs : List (List Int)} {k : Nat} {x : List Int} (h : sayL ds = xs) (hx : xs[k]? = some x) : ∃ u, ds[k]? = some u ∧ u.r = x := by
  rw [← h] at hx
  unfold sayL at hx
  rw [List.getElem?_map] at hx
  cases e : ds[k]? with
  | none => rw [e] at hx; cases hx
  | some u => rw [e] at hx; exact ⟨u, rfl, Option.some.inj hx⟩

/-- A list that was made just now is appended. -/
theorem ListsW.pushI {w w1 w2 : World} {lo : Nat} {v v' : Value} {ds : List Li} {A : Option Addr} {xs : List Int} {c : Nat} {o : Obj} (h : ListsW w lo v ds) (hb : Below w.heap.size w w1) (hlo : lo ≤ w.heap.size) (hO : OwnI w1 w.heap.size A xs) (hcap : xs.length ≤ c)
    (ho : w2.ownsRow lo 27 1 v' (ds.length + 1) (ds.map cellsL ++ [.slice A xs.length c])) (hg : (w1.alloc o).grownBy w2 v.ownBlock) : ListsW w2 lo v' (ds ++ [⟨A, xs, c⟩]) := by
  have hB2 : Below w1.heap.size w1 (w1.alloc o) := (Below.refl _ _).alloc (Nat.le_refl _) _
  have hO2 := hO.below hB2 (Nat.le_refl _)
  exact ((h.keep hb).keep hB2).step (hO2.lower hlo) hcap (h.apart hO) ho hg

theorem one_new (w : World) (x : Value) (t : TypeId) : ∀ j u, [x][j]? = some u → (w.alloc (.cells #[x] t)).cell? ((⟨w.heap.size, 0, none⟩ : Addr).add j) = some u := by
  intro j u h
  rw [Go.WideShapes.add_plain, Nat.zero_add]
  rcases j with _ | j
  · simpa [go_sem] using h
  · simp at h

/-- The slice v of lists is new from lo2 on and reads as ds; each list is the call's own from lo on, and no two lie in one block. -/
structure ListsV (w : World) (lo lo2 : Nat) (v : Value) (ds : List Li) : Prop where
  row : w.ownsRow lo2 27 1 v ds.length (ds.map cellsL)
  caps : ∀ (j : Nat) (u : Li), ds[j]? = some u → u.r.length ≤ u.c
  rts : ∀ (j : Nat) (u : Li), ds[j]? = some u → OwnI w lo u.a u.r
  far : ∀ (i j : Nat) (u v : Li), ds[i]? = some u → ds[j]? = some v → i ≠ j → u.r ≠ [] → v.r ≠ [] → u.a ≠ v.a

theorem ListsV.start (w : World) (lo lo2 : Nat) : ListsV w lo lo2 (.slice none 0 0) [] := ⟨⟨rfl, .inl ⟨rfl, rfl⟩⟩, fun j u h => by simp at h, fun j u h => by simp at h, fun i j u v h => by simp at h⟩
theorem ListsV.keep {w w' : World} {lo lo2 : Nat} {v : Value} {ds : List Li} (h : ListsV w lo lo2 v ds) (hb : Below w.heap.size w w') : ListsV w' lo lo2 v ds :=
  ⟨own_below h.row hb, h.caps, fun j x hx => (h.rts j x hx).below hb (Nat.le_refl _), h.far⟩
theorem ListsV.lt {w : World} {lo lo2 : Nat} {v : Value} {ds : List Li} (h : ListsV w lo lo2 v ds) (b : Nat) (e : v.ownBlock = some b) : lo2 ≤ b ∧ b < w.heap.size := h.row.lt b e
theorem ListsV.slice {w : World} {lo lo2 : Nat} {v : Value} {ds : List Li} (h : ListsV w lo lo2 v ds) (hl : lo ≤ lo2) : ∃ A c, v = .slice A ds.length c ∧ ds.length ≤ c ∧ OwnL w lo A ds := by
  obtain ⟨_, ⟨rfl, h0⟩ | ⟨g, cap, cur, rfl, hlo, hg, hcap, _, _, hx⟩⟩ := h.row
  · have : ds = [] := List.eq_nil_of_length_eq_zero h0
    subst this
    exact ⟨none, 0, rfl, Nat.le_refl _, .inl rfl⟩
  · refine ⟨_, cap, rfl, hcap, .inr ⟨g, cur, rfl, by omega, hg, fun k u hu => ?_, h.far⟩⟩
    have hk := (List.getElem?_eq_some_iff.1 hu).1
    have f1 : (ds.map cellsL)[k]? = some (cellsL u) := by rw [List.getElem?_map, hu]; rfl
    rw [← hx, List.getElem?_take, if_pos (by omega)] at f1
    exact ⟨by simpa [cellsL] using f1, h.caps k u hu, h.rts k u hu⟩
theorem ListsV.step {w w2 : World} {lo lo2 : Nat} {v v' : Value} {ds : List Li} {u : Li} (h : ListsV w lo lo2 v ds) (hO : OwnI w lo u.a u.r) (hcap : u.r.length ≤ u.c)
    (hap : ∀ (j : Nat) (x : Li), ds[j]? = some x → x.r ≠ [] → u.r ≠ [] → x.a ≠ u.a)
    (ho : w2.ownsRow lo2 27 1 v' (ds.length + 1) (ds.map cellsL ++ [.slice u.a u.r.length u.c])) (hg : w.grownBy w2 v.ownBlock) : ListsV w2 lo lo2 v' (ds ++ [u]) := by
  refine ⟨?_, ?_, ?_, ?_⟩
  · rw [List.length_append, List.map_append]
    simpa [cellsL] using ho
  · intro j x hx
    rcases getElem?_snoc hx with ⟨_, hx⟩ | ⟨_, rfl⟩
    · exact h.caps j x hx
    · exact hcap
  · intro j x hx
    rcases getElem?_snoc hx with ⟨_, hx⟩ | ⟨_, rfl⟩
    · exact (h.rts j x hx).grownL h.row hg
    · exact hO.grownL h.row hg
  · intro i j x y hx hy hij hxn hyn
    rcases getElem?_snoc hx with ⟨_, hx'⟩ | ⟨hi, ei⟩ <;> rcases getElem?_snoc hy with ⟨_, hy'⟩ | ⟨hj, ej⟩
    · exact h.far i j x y hx' hy' hij hxn hyn
    · rw [ej] at hyn ⊢; exact hap i x hx' hxn hyn
    · rw [ei] at hxn ⊢; exact fun e => hap j y hy' hyn hxn e.symm
    · omega

/-- The lists es are some of the first k of ds. -/
def SomeOf (es ds : List Li) (k : Nat) : Prop := ∀ (j : Nat) (x : Li), es[j]? = some x → ∃ i, i < k ∧ ds[i]? = some x
theorem SomeOf.start (ds : List Li) : SomeOf [] ds 0 := fun j x h => by simp at h
theorem SomeOf.more {es ds : List Li} {k : Nat} (h : SomeOf es ds k) : SomeOf es ds (k + 1) := fun j x hx => by
  obtain ⟨i, hi, e⟩ := h j x hx
  exact ⟨i, by omega, e⟩
theorem SomeOf.snoc {es ds : List Li} {k : Nat} (h : SomeOf es ds k) {u : Li} (hu : ds[k]? = some u) : SomeOf (es ++ [u]) ds (k + 1) := fun j x hx => by
  rcases getElem?_snoc hx with ⟨_, hx⟩ | ⟨_, rfl⟩
  · exact h.more j x hx
  · exact ⟨k, by omega, hu⟩

/-- A list out of ds, whose lists lie apart, is appended to a slice of those ahead of it. -/
theorem ListsV.pushU {w w1 w2 : World} {lo lo2 : Nat} {v v' : Value} {es ds : List Li} {k : Nat} {u : Li} {o : Obj} (h : ListsV w lo lo2 v es) (hb : Below w.heap.size w w1) (hS : SomeOf es ds k) (hu : ds[k]? = some u) (hO : OwnI w1 lo u.a u.r) (hcap : u.r.length ≤ u.c)
    (hfar : ∀ (i j : Nat) (u v : Li), ds[i]? = some u → ds[j]? = some v → i ≠ j → u.r ≠ [] → v.r ≠ [] → u.a ≠ v.a)
    (ho : w2.ownsRow lo2 27 1 v' (es.length + 1) (es.map cellsL ++ [.slice u.a u.r.length u.c])) (hg : (w1.alloc o).grownBy w2 v.ownBlock) : ListsV w2 lo lo2 v' (es ++ [u]) := by
  have hB2 : Below w1.heap.size w1 (w1.alloc o) := (Below.refl _ _).alloc (Nat.le_refl _) _
  refine ((h.keep hb).keep hB2).step (hO.below hB2 (Nat.le_refl _)) hcap (fun j x hx hxn hun => ?_) ho hg
  obtain ⟨i, hi, e⟩ := hS j x hx
  exact hfar i k x u e hu (by omega) hxn hun

/-- A slice of one list, as it is written. -/
theorem ListsW.one {w : World} {lo g : Nat} {A : Option Addr} {xs : List Int} {c : Nat} (hr : Row w g 27 #[.slice A xs.length c]) (hlo : lo ≤ g) (hO : OwnI w lo A xs) (hcap : xs.length ≤ c) : ListsW w lo (.slice (some ⟨g, 0, none⟩) 1 1) [⟨A, xs, c⟩] := by
  refine ⟨⟨rfl, .inr ⟨g, 1, _, rfl, hlo, hr, Nat.le_refl _, by unfold maxLen; omega, rfl, rfl⟩⟩, fun j u hu => ?_, fun j u hu => ?_, fun i j u v hu hv hij => ?_⟩
  · rcases j with _ | j
    · simp at hu; subst hu; exact hcap
    · simp at hu
  · rcases j with _ | j
    · simp at hu; subst hu; exact hO
    · simp at hu
  · have h1 := (List.getElem?_eq_some_iff.1 hu).1
    have h2 := (List.getElem?_eq_some_iff.1 hv).1
    simp at h1 h2
    omega

end Go.Proofs.YtgnpgehekfhedaaDoor
