/- The reference's l4Table. -/
import Derived.Test.YtaobkanliiiapaaDoorB504
import Derived.Test.YtaobkanliiiapaaDoorB502
import Derived.Deep.LoopGhost
import Derived.Deep.RegionHeld
import Derived.Test.YtaobkanliiiapaaDoorB503
import Derived.Test.YtaobkanliiiapaaDoorB501
import Derived.Laws.ShiftsVarLaws
import Derived.StillTailTactics
import Derived.Lib.QuietBelow

namespace Go.Proofs.YtaobkanliiiapaaDoor
open Go.RowKit

theorem make_boolsM (n : Nat) (hn : n ≤ 121) (w : World) :
    (Instr.makeSlice 220 (.int .i64 (n : Int)) (.int .i64 (n : Int))).run Tryd.prog w = .ok (.slice (some ⟨w.heap.size, 0, none⟩) n n) (w.alloc (.cells (bools n fun _ => false) 4)) := by
  obtain ⟨i, hi, hz, hs, hb⟩ := info_of Tryd.infoBool
  have h := run_make (P := Tryd.prog) w 220 4 i _ Tryd.underlying220 hi hz .i64 .i64 n n (by omega) (by omega) (by rw [hb]; omega) (by omega)
  rw [hs] at h
  rw [← bools_no]
  simpa [Value.cells] using h
def noB : Nat → Nat → Bool := fun _ _ => false
theorem TabR.made (w : World) (N M : Nat) : TabR (w.alloc (.cells (zS N) 220)) w.heap.size N M 0 noB :=
  ⟨⟨zS N, Row.new w _ _, zS_size _, fun a h => absurd h (by omega)⟩, fun a h => absurd h (by omega)⟩
theorem TabR.grow {w : World} {S N M k : Nat} (h : TabR w S N M k noB) (hs : w.heap.size = S + 1 + k) (hk : k < N) :
    TabR ((w.setCell ⟨S, k, none⟩ (.slice (some ⟨w.heap.size, 0, none⟩) M M)).alloc (.cells (bools M fun _ => false) 4)) S N M (k + 1) noB := by
  obtain ⟨⟨cs, h1, h1s, h1'⟩, h3⟩ := h
  generalize hW : w.setCell ⟨S, k, none⟩ (.slice (some ⟨w.heap.size, 0, none⟩) M M) = W
  have hz : W.heap.size = w.heap.size := by subst hW; simp
  have hT : Row (W.alloc (.cells (bools M fun _ => false) 4)) w.heap.size 4 (bools M fun _ => false) := by
    have h := Row.new W 4 (bools M fun _ => false)
    rw [hz] at h
    exact h
  have k1 : Row W S 220 (cs.setIfInBounds k (.slice (some ⟨w.heap.size, 0, none⟩) M M)) := by subst hW; exact h1.set k _
  refine ⟨⟨_, k1.alloc _, by simp [h1s], fun a ha => ?_⟩, fun a ha => ?_⟩
  · rw [Array.getElem?_setIfInBounds]
    by_cases e : k = a
    · subst e
      rw [if_pos rfl, if_pos (by omega), hs]
    · rw [if_neg e]
      exact h1' a (by omega)
  · by_cases e : a = k
    · subst e
      rw [← hs]
      exact hT
    · have h4 := h3 a (by omega)
      refine Row.alloc ?_ _
      subst hW
      exact h4.far (by simp; omega) _

/-- What l4Table gives. -/
def GaveT (w : World) (N : Nat) (ws : List Int) (ss : List (Int × List Int)) (e : Ending) (w' : World) : Prop :=
  ∃ S T, e = .returned (.slice (some ⟨S, 0, none⟩) N N) ∧ TabR w' S N ((ws.length + 1) * (ws.length + 1)) N T ∧ (∀ x i j, DT ws.length T x i j ↔ Der ss ws x i j) ∧ Below w.heap.size w w'

set_option maxRecDepth 20000 in
set_option maxHeartbeats 4000000 in
theorem l4Table_any (N : Nat) (t : Int) (A : Option Addr) (c : Nat) (rs : List Ru) (Aw : Option Addr) (cw : Nat) (ws : List Int) (w : World) (hx : Rls w w.heap.size A rs) (hg : goodG (N : Int) t (rs.map Ru.abs) = true) (hcap : ∀ u ∈ rs, u.r.length ≤ u.c) (hw : ws.length ≤ 10) (hW : Ints w w.heap.size Aw ws) :
    Calls Tryd.prog 203 #[.agg #[.int .i64 (N : Int), .int .i64 t, .slice A rs.length c], .slice Aw ws.length cw] w (GaveT w N ws (rs.map Ru.abs)) := by
  have h16 := good_16 hg
  have hN : N ≤ 6 := by have := goodG_is hg; omega
  have HX := Lib.hid hx; clear hx
  have HG := Lib.hid hg; clear hg
  have HW := Lib.hid hW; clear hW
  have HCP := Lib.hid hcap; clear hcap
  have HB0 : Hid (Below w.heap.size w (w.alloc (.cells #[.int .i64 N, .int .i64 t, .slice A rs.length c] 54))) := by show Below _ _ _; go_grown
  have B00 : Hid (Box3 (w.alloc (.cells #[.int .i64 N, .int .i64 t, .slice A rs.length c] 54)) w.heap.size (.int .i64 N) (.int .i64 t) (.slice A rs.length c)) := ⟨by simp, by simp [go_sem], by simp [go_sem], by simp [go_sem]⟩
  obtain ⟨M, hM⟩ : ∃ M, M = (ws.length + 1) * (ws.length + 1) := ⟨_, rfl⟩
  have hM121 : M ≤ 121 := by rw [hM]; exact (Nat.mul_le_mul (by omega) (by omega) : (ws.length + 1) * (ws.length + 1) ≤ 11 * 11)
  have hmul : ((ws.length : Int) + 1) * ((ws.length : Int) + 1) = (M : Int) := by rw [hM]; simp
  have HCL : Hid (∀ i j, i ≤ ws.length → j ≤ ws.length → i * (ws.length + 1) + j < M) := fun i j hi hj => by rw [hM]; exact cell_lt hi hj
  have HM := Lib.hid hM; clear hM
  have hmr := make_rows N hN
  have hmb := make_boolsM M hM121
  have HT0 : Hid (TabR ((w.alloc (.cells #[.int .i64 N, .int .i64 t, .slice A rs.length c] 54)).alloc (.cells (zS N) 220)) (w.heap.size + 1) N M 0 noB) := by
    have h := TabR.made (w.alloc (.cells #[.int .i64 N, .int .i64 t, .slice A rs.length c] 54)) N M
    rw [World.size_alloc] at h
    exact h
  have HBT : Hid (Below w.heap.size w ((w.alloc (.cells #[.int .i64 N, .int .i64 t, .slice A rs.length c] 54)).alloc (.cells (zS N) 220))) := by show Below _ _ _; go_grown
  have BXT := Lib.hid (B00.out.keep (w' := (w.alloc (.cells #[.int .i64 N, .int .i64 t, .slice A rs.length c] 54)).alloc (.cells (zS N) 220)) ((Below.refl _ _).alloc (Nat.le_refl _) _) (by simp))
  have HZT : Hid (((w.alloc (.cells #[.int .i64 N, .int .i64 t, .slice A rs.length c] 54)).alloc (.cells (zS N) 220)).heap.size = w.heap.size + 1 + 1) := by show _ = _; simp
  go_enter Tryd.func203, Tryd.ntmps203
  go_wp2
  generalize (w.alloc (.cells #[.int .i64 N, .int .i64 t, .slice A rs.length c] 54)).alloc (.cells (zS N) 220) = X at *
  clear HB0 B00 hmr
  obtain ⟨S, hS⟩ : ∃ S, S = w.heap.size + 1 := ⟨_, rfl⟩
  rw [← hS] at HT0 HZT ⊢
  have HS := Lib.hid hS
  have hwS : w.heap.size < S := by omega
  clear hS
  go_loopw [21] (fun i wr => ∃ (k : Nat), k ≤ N ∧ i = .int .i64 k ∧ Hid (TabR wr S N M k noB) ∧ Hid (wr.heap.size = S + 1 + k) ∧ Hid (Below w.heap.size w wr) ∧ Hid (Box3 wr w.heap.size (.int .i64 N) (.int .i64 t) (.slice A rs.length c))) (fun i _ => N - (intOf i).toNat)
  case atStart => exact ⟨0, by omega, rfl, HT0.out, HZT.out, HBT.out, BXT.out⟩
  case round =>
    obtain ⟨k, hk, rfl, HT, HZ, HB, HU⟩ := hrel
    clear HT0 HBT BXT HZT
    by_cases hlt : k < N
    · have HN := Lib.hid (HT.out.grow HZ.out hlt)
      obtain ⟨⟨cs, d1, d2, _⟩, _⟩ := HT.out
      obtain ⟨x0, c1⟩ : ∃ x0, wr.cell? ⟨S, k, none⟩ = some x0 := ⟨_, (d1.cell k).trans (Array.getElem?_eq_getElem (by omega))⟩
      have f1 := d1.frozen k
      have hz2 : S < wr.heap.size := d1.lt
      have HUN : Hid (Box3 ((wr.setCell ⟨S, k, none⟩ (.slice (some ⟨wr.heap.size, 0, none⟩) M M)).alloc (.cells (bools M fun _ => false) 4)) w.heap.size (.int .i64 N) (.int .i64 t) (.slice A rs.length c)) := HU.out.keep (B := S) (((Below.refl _ _).setCell (by simp) _).alloc (by simp; omega) _) hwS
      clear d1 d2
      go_wp2
      go_roundw
      case rel => exact ⟨k + 1, by omega, by go_num, HN.out, by have h1 := HZ.out; show _ = _; simp; omega, (HB.out.setCell (by simp; omega) _).alloc (by have := HB.out.size; simp; omega) _, HUN.out⟩
      case measure => simp [intOf]; omega
    · obtain rfl : k = N := by omega
      clear hmb HZ
      obtain ⟨wO, hwO⟩ : ∃ x, x = wr := ⟨_, rfl⟩
      subst hwO
      have HK : Hid (TabR wO S k M k noB) := HT.out
      clear HT
      go_wp2
      go_loopg [8] (2 * (726 - cntT noB) + 1) (fun g m wr => ∃ (more : Bool) (T : Nat → Nat → Bool), m = .bool more ∧ g = 2 * (726 - cntT T) + (if more then 1 else 0) ∧ Hid (TabR wr S k M k T) ∧ Hid (OkT (rs.map Ru.abs) ws T) ∧ Hid (Below w.heap.size w wr) ∧ Hid (Box3 wr w.heap.size (.int .i64 k) (.int .i64 t) (.slice A rs.length c)) ∧ Hid (more = false → ∀ x i j, DT ws.length T x i j ↔ Der (rs.map Ru.abs) ws x i j))
      case atStart => exact ⟨true, noB, rfl, rfl, HK.out, okT_no _ _, HB.out, HU.out, fun h => by cases h⟩
      case round =>
        obtain ⟨more, T, rfl, hgk, HTm, HOm, HBm, HUm, HDm⟩ := hrel
        clear HK HB HU
        cases more
        · have HDD := Lib.hid (HDm.out rfl)
          rw [HM.out] at HTm
          go_wp2
          go_ret
          exact ⟨S, T, rfl, HTm.out, HDD.out, HBm.out⟩
        · rw [if_pos rfl] at hgk
          clear HDm
          obtain ⟨wM, hwM⟩ : ∃ x, x = wr := ⟨_, rfl⟩
          subst hwM
          obtain ⟨_, b0, b1, b2⟩ := HUm.out
          go_wp2
          clear b0 b1 b2
          go_loopw [8, 36] (fun m i wr => ∃ (j : Nat) (more : Bool) (T2 : Nat → Nat → Bool), j ≤ rs.length ∧ i = .int .i64 j ∧ m = .bool more ∧ Hid (TabR wr S k M k T2) ∧ Hid (PassT (rs.map Ru.abs) ws j 0 0 T T2 more) ∧ Hid (Below w.heap.size w wr) ∧ Hid (Box3 wr w.heap.size (.int .i64 k) (.int .i64 t) (.slice A rs.length c))) (fun _ i _ => rs.length - (intOf i).toNat)
          case atStart => exact ⟨0, false, T, by omega, rfl, rfl, HTm.out, PassT.start HOm.out, HBm.out, HUm.out⟩
          case round =>
            obtain ⟨j, more, T2, hj, rfl, rfl, HT2, HP2, HB2, HU2⟩ := hrel
            clear HTm HOm HBm HUm
            by_cases hlt2 : j < rs.length
            · obtain ⟨p, o, hA, hp, c1, c2, c3⟩ := (HX.out.keep HB2.out).at_ hlt2
              have hum : rs[j].abs ∈ rs.map Ru.abs := List.mem_map.2 ⟨_, List.getElem_mem hlt2, rfl⟩
              have h4 := good_len HG.out hum
              have HGM := Lib.hid (goodG_mem HG.out hum)
              obtain ⟨L, hL⟩ : ∃ L : Nat, rs[j].l = (L : Int) := ⟨_, Int.eq_ofNat_of_zero_le HGM.out.1.1 |>.choose_spec⟩
              have hLk : L < k := by have h : rs[j].l < k := HGM.out.1.2; omega
              have HJ : Hid ((rs.map Ru.abs)[j]? = some ((L : Int), rs[j].r)) := by show _ = _; rw [List.getElem?_map, List.getElem?_eq_getElem hlt2, ← hL]; rfl
              have HSY : Hid (∀ x ∈ rs[j].r, -10 ≤ x ∧ x < k) := fun x hx => by have h := HGM.out.2.2 x hx; have := goodG_is HG.out; omega
              have HCR := Lib.hid (HCP.out rs[j] (List.getElem_mem hlt2))
              rw [hL] at c1
              have HBR : Hid (Below wr.heap.size wr (wr.alloc (.cells #[.int .i64 L, .slice rs[j].a rs[j].r.length rs[j].c] 106))) := (Below.refl _ _).alloc (Nat.le_refl _) _
              have HBU : Hid (Box2 (wr.alloc (.cells #[.int .i64 L, .slice rs[j].a rs[j].r.length rs[j].c] 106)) wr.heap.size (.int .i64 L) (.slice rs[j].a rs[j].r.length rs[j].c)) := ⟨by simp, by simp [go_sem], by simp [go_sem]⟩
              have HTY := Lib.hid (HT2.out.keep HBR.out HT2.out.lt)
              have HBY : Hid (Below w.heap.size w (wr.alloc (.cells #[.int .i64 L, .slice rs[j].a rs[j].r.length rs[j].c] 106))) := HB2.out.trans (HBR.out.mono HB2.out.size)
              have HUY := Lib.hid (HU2.out.keep HBR.out HU2.out.1)
              have HI : Hid (∀ u, Below w.heap.size w u → Ints u u.heap.size rs[j].a rs[j].r) := fun u hu => by
                obtain ⟨_, _, _, _, _, _, h⟩ := (HX.out.keep hu).at_ hlt2
                exact h.more hu.size
              have hwl : S + 1 + k ≤ wr.heap.size := HT2.out.lt
              clear c3 hum hL HT2 HB2 HU2
              subst hA
              obtain ⟨wP, hwP⟩ : ∃ x, x = wr := ⟨_, rfl⟩
              subst hwP
              obtain ⟨_, r0, r1⟩ := HBU.out
              go_wp2
              generalize (wP.alloc (.cells #[.int .i64 L, .slice rs[j].a rs[j].r.length rs[j].c] 106)) = Y at *
              clear r0 r1 c1 c2
              obtain ⟨Q, hQ⟩ : ∃ x, x = wP.heap.size := ⟨_, rfl⟩
              rw [← hQ] at HBU hwl ⊢
              clear hQ HBR
              go_loopw [8, 11] (fun m n wr => ∃ (i : Nat) (more : Bool) (T2 : Nat → Nat → Bool), i ≤ ws.length + 1 ∧ n = .int .i64 i ∧ m = .bool more ∧ Hid (TabR wr S k M k T2) ∧ Hid (PassT (rs.map Ru.abs) ws j i 0 T T2 more) ∧ Hid (Below w.heap.size w wr) ∧ Hid (Box3 wr w.heap.size (.int .i64 k) (.int .i64 t) (.slice (some ⟨p, o, none⟩) rs.length c)) ∧ Hid (Box2 wr Q (.int .i64 L) (.slice rs[j].a rs[j].r.length rs[j].c))) (fun _ n _ => ws.length + 1 - (intOf n).toNat)
              case atStart => exact ⟨0, more, T2, by omega, rfl, rfl, HTY.out, HP2.out, HBY.out, HUY.out, HBU.out⟩
              case round =>
                obtain ⟨i, more, T2, hi, rfl, rfl, HT3, HP3, HB3, HU3, HR3⟩ := hrel
                clear HTY HP2 HBY HUY HBU
                by_cases hlt3 : i < ws.length + 1
                · have HPO := Lib.hid HP3.out.open_
                  have hi' : (i : Int) < (ws.length : Int) + 1 := by omega
                  obtain ⟨wI, hwI⟩ : ∃ x, x = wr := ⟨_, rfl⟩
                  subst hwI
                  go_wp2
                  go_loopw [8, 12] (fun m n wr => ∃ (e : Nat) (more : Bool) (T2 : Nat → Nat → Bool), e ≤ ws.length + 1 ∧ n = .int .i64 e ∧ m = .bool more ∧ Hid (TabR wr S k M k T2) ∧ Hid (PassT (rs.map Ru.abs) ws j i e T T2 more) ∧ Hid (Below w.heap.size w wr) ∧ Hid (Box3 wr w.heap.size (.int .i64 k) (.int .i64 t) (.slice (some ⟨p, o, none⟩) rs.length c)) ∧ Hid (Box2 wr Q (.int .i64 L) (.slice rs[j].a rs[j].r.length rs[j].c))) (fun _ n _ => ws.length + 1 - (intOf n).toNat)
                  case atStart => exact ⟨i, more, T2, by omega, rfl, rfl, HT3.out, HPO.out, HB3.out, HU3.out, HR3.out⟩
                  case round =>
                    obtain ⟨e, more, T2, he, rfl, rfl, HT4, HP4, HB4, HU4, HR4⟩ := hrel
                    clear HT3 HP3 HB3 HU3 HR3 HPO
                    by_cases hlt4 : e < ws.length + 1
                    · have he' : (e : Int) < (ws.length : Int) + 1 := by omega
                      have hql := HCL.out i e (by omega) (by omega)
                      have k1 := HT4.out.row hLk
                      obtain ⟨k2, k3⟩ := HT4.out.at_ hLk hql
                      obtain ⟨_, r0, r1⟩ := HR4.out
                      have hq : (i : Int) * ((ws.length : Int) + 1) + (e : Int) = ((i * (ws.length + 1) + e : Nat) : Int) := by simp
                      have hb0 : (i : Int) * ((ws.length : Int) + 1) ≤ 121 := by omega
                      have hb1 : 0 ≤ (i : Int) * ((ws.length : Int) + 1) := Int.mul_nonneg (by omega) (by omega)
                      have HSK : Hid (T2 L (i * (ws.length + 1) + e) = true ∨ ¬ SeqD (DT ws.length T2) ws rs[j].r i e → PassT (rs.map Ru.abs) ws j i (e + 1) T T2 more) := fun h => HP4.out.skip HJ.out (by omega) (by omega) h
                      have HPU : Hid (T2 L (i * (ws.length + 1) + e) = false → SeqD (DT ws.length T2) ws rs[j].r i e → PassT (rs.map Ru.abs) ws j i (e + 1) T (setB T2 L (i * (ws.length + 1) + e)) true) := fun h h' => HP4.out.put HJ.out (by omega) hw (by omega) (by omega) h h'
                      have HTU := Lib.hid (HT4.out.put (c := i * (ws.length + 1) + e) hLk)
                      have HTM : Hid (TabR wr S k ((ws.length + 1) * (ws.length + 1)) k T2) := by have h := HT4.out; rw [HM.out] at h; exact h
                      have HF := Lib.hid (l4Fits_any S k T2 Aw cw ws wr HTM.out ((HW.out.keep HB4.out).more HB4.out.size) hw HP4.out.1.inD e (by omega) rs[j].r rs[j].a rs[j].c i (HI.out _ HB4.out) HCR.out h4 HSY.out (by omega))
                      generalize hqq : i * (ws.length + 1) + e = q at *
                      clear hqq HTM
                      cases hc : T2 L q
                      · rw [hc] at k2
                        cases hs : bD (SeqD (DT ws.length T2) ws rs[j].r i e)
                        · have HN := Lib.hid (HSK.out (.inr fun h => by rw [bD_t h] at hs; cases hs))
                          have HSV := Lib.hid hs; clear hs hc
                          go_wp2_with fail
                          refine HF.out.mono ?_
                          rintro e' w1 ⟨rfl, rfl⟩
                          rw [HSV.out]
                          go_wp2
                          go_roundw
                          case rel => exact ⟨e + 1, more, T2, by omega, by go_num, rfl, HT4.out, HN.out, HB4.out, HU4.out, HR4.out⟩
                          case measure => simp [intOf]; omega
                        · have HN := Lib.hid (HPU.out hc (bD_iff.1 hs))
                          have HSV := Lib.hid hs; clear hs hc
                          have HBU : Hid (Below w.heap.size w (wr.setCell ⟨S + 1 + L, q, none⟩ (.bool true))) := HB4.out.setCell (by simp; omega) _
                          have HUU : Hid (Box3 (wr.setCell ⟨S + 1 + L, q, none⟩ (.bool true)) w.heap.size (.int .i64 k) (.int .i64 t) (.slice (some ⟨p, o, none⟩) rs.length c)) := HU4.out.keep (B := S) ((Below.refl _ _).setCell (by simp; omega) _) hwS
                          have HRU : Hid (Box2 (wr.setCell ⟨S + 1 + L, q, none⟩ (.bool true)) Q (.int .i64 L) (.slice rs[j].a rs[j].r.length rs[j].c)) := ⟨by rw [World.size_setCell]; exact HR4.out.1, (World.cell?_setCell_far _ _ _ _ (by simp; omega)).trans r0, (World.cell?_setCell_far _ _ _ _ (by simp; omega)).trans r1⟩
                          go_wp2_with fail
                          refine HF.out.mono ?_
                          rintro e' w1 ⟨rfl, rfl⟩
                          rw [HSV.out]
                          go_wp2
                          go_roundw
                          case rel => exact ⟨e + 1, true, _, by omega, by go_num, rfl, HTU.out, HN.out, HBU.out, HUU.out, HRU.out⟩
                          case measure => simp [intOf]; omega
                      · rw [hc] at k2
                        have HN := Lib.hid (HSK.out (.inl hc))
                        clear hc
                        go_wp2
                        go_roundw
                        case rel => exact ⟨e + 1, more, T2, by omega, by go_num, rfl, HT4.out, HN.out, HB4.out, HU4.out, HR4.out⟩
                        case measure => simp [intOf]; omega
                    · obtain rfl : e = ws.length + 1 := by omega
                      have HN := Lib.hid HP4.out.line
                      go_wp2
                      go_roundw
                      case rel => exact ⟨i + 1, more, T2, by omega, by go_num, rfl, HT4.out, HN.out, HB4.out, HU4.out, HR4.out⟩
                      case measure => simp [intOf]; omega
                · obtain rfl : i = ws.length + 1 := by omega
                  have HN := Lib.hid HP3.out.rule
                  go_wp2
                  go_roundw
                  case rel => exact ⟨j + 1, more, T2, by omega, by go_num, rfl, HT3.out, HN.out, HB3.out, HU3.out⟩
                  case measure => simp [intOf]; omega
            · obtain rfl : j = rs.length := by omega
              have HPE : Hid (PassT (rs.map Ru.abs) ws (rs.map Ru.abs).length 0 0 T T2 more) := by have h := HP2.out; rw [List.length_map]; exact h
              have HDE : Hid (more = false → ∀ x i j, DT ws.length T2 x i j ↔ Der (rs.map Ru.abs) ws x i j) := fun e x i j => by have h := HPE.out; rw [e] at h; exact h.done
              have HME : Hid (2 * (726 - cntT T2) + (if more then 1 else 0) < 2 * (726 - cntT T) + 1) := by
                show _ < _
                have h1 := cntT_most T2
                cases more
                · rw [(HPE.out.2.2 rfl).1]; simp
                · have h2 := HPE.out.2.1 rfl; simp; omega
              go_wp2
              go_roundg (2 * (726 - cntT T2) + (if more then 1 else 0))
              case measure => rw [hgk]; exact HME.out
              case rel => exact ⟨more, T2, rfl, rfl, HT2.out, HPE.out.1, HB2.out, HU2.out, HDE.out⟩

end Go.Proofs.YtaobkanliiiapaaDoor

/- The program's places: masks. -/

namespace Go.Proofs.YtaobkanliiiapaaDoor
open Go.RowKit

def pw (a : Nat) : Nat := 2 ^ a
theorem pw_lt {a : Nat} (h : a < 11) : pw a < 2048 := Nat.pow_lt_pow_right (by decide) h
theorem u16_shl {a : Nat} (h : a < 11) : IntKind.u16.wrap ((2 : Int) ^ a) = (pw a : Int) := by
  rw [IntKind.wrap_u16]
  have h1 := pw_lt h
  have h2 : ((2 : Int) ^ a) = (pw a : Int) := by unfold pw; simp
  rw [h2]
  omega
theorem ret_u16 {a b : Int} (h : a = b) : Ending.returned (.int .u16 a) = .returned (.int .u16 b) := by rw [h]
theorem has_bit {m a : Nat} (hm : m < 2048) (h : a < 11) : (bits .and .u16 (m : Int) (pw a : Int) != 0) = m.testBit a := by
  have h1 := pw_lt h
  rw [u16_and _ _ (by omega) (by omega) (by omega) (by omega)]
  cases e : m.testBit a
  · have h2 := bit_and.2 e
    rw [Int.toNat_natCast, Int.toNat_natCast, show m &&& pw a = 0 from h2]; rfl
  · have h2 : ¬ m &&& pw a = 0 := fun h => by have := bit_and.1 h; rw [e] at this; cases this
    rw [Int.toNat_natCast, Int.toNat_natCast]
    exact bne_t (by omega)

theorem cell_in {w : World} {B : Nat} {v : Value} (h : w.cell? ⟨B, 0, none⟩ = some v) : B < w.heap.size := by
  by_cases e : B < w.heap.size
  · exact e
  · simp only [World.cell?] at h
    rw [Array.getElem?_eq_none (by omega)] at h
    cases h
/-- One mask of a symbol. -/
theorem symD_tok {K : Nat → Nat → Nat} {ws : List Int} {x : Int} {i : Nat} (hx : x < 0) (hi : i < ws.length) (hw : ws.length ≤ 10) (h : ws[i] = -1 - x) : Msk (pw (i + 1)) fun j => SymD (DK K) ws x i j :=
  (msk_one (a := i + 1) (by omega)).congr fun j => ⟨fun e => .inl ⟨hx, e, by rw [List.getElem?_eq_getElem hi, h]⟩, fun e => by rcases e with e | e; exact e.2.1; omega⟩
theorem symD_none {K : Nat → Nat → Nat} {ws : List Int} {x : Int} {i : Nat} (hx : x < 0) (h : ∀ hi : i < ws.length, ws[i] ≠ -1 - x) : Msk 0 fun j => SymD (DK K) ws x i j :=
  msk_no.congr fun j => ⟨False.elim, fun e => by
    rcases e with e | e
    · obtain ⟨hi, e2⟩ := List.getElem?_eq_some_iff.1 e.2.2
      exact h hi e2
    · omega⟩
theorem symD_non {K : Nat → Nat → Nat} {ws : List Int} {x i : Nat} (hK : ∀ x i, K x i < 2048) : Msk (K x i) fun j => SymD (DK K) ws (x : Int) i j :=
  ⟨hK x i, fun j => ⟨fun e => .inr ⟨Int.natCast_nonneg x, Int.natCast_nonneg x, e⟩, fun e => by
    rcases e with e | e
    · omega
    · exact e.2.2⟩⟩

end Go.Proofs.YtaobkanliiiapaaDoor

/- The program's function that tells the places behind what symbols derive. -/

namespace Go.Proofs.YtaobkanliiiapaaDoor
open Go.RowKit

theorem seqD_start {D : Int → Nat → Nat → Prop} {ws xs : List Int} {i : Nat} (hi : i < 11) : Msk (pw i) fun j => SeqD D ws (xs.take 0) i j := (msk_one hi).congr fun _ => ⟨fun e => e.symm, fun e => e.symm⟩
theorem u16_orK {a b : Nat} (ha : a < 2048) (hb : b < 2048) : bits .or .u16 (a : Int) (b : Int) = ((a ||| b : Nat) : Int) := by
  rw [u16_or _ _ (by omega) (by omega) (by omega) (by omega), Int.toNat_natCast, Int.toNat_natCast]
def orK (a b : Nat) : Nat := a ||| b
theorem u16_or' {a b : Nat} (ha : a < 2048) (hb : b < 2048) : bits .or .u16 (a : Int) (b : Int) = (orK a b : Int) := u16_orK ha hb

/-- .. with its value named. -/
noncomputable def endsM (K : Nat → Nat → Nat) (ws xs : List Int) (i : Nat) : Nat := mskOf fun j => SeqD (DK K) ws xs i j
theorem endsM_is {K : Nat → Nat → Nat} {ws xs : List Int} {i : Nat} (hK : ∀ x i, K x i < 2048) (hw : ws.length ≤ 10) (hi : i < 11) : Msk (endsM K ws xs i) fun j => SeqD (DK K) ws xs i j := mskOf_is fun _ h => seqD_lt hK hw hi h
end Go.Proofs.YtaobkanliiiapaaDoor

/- The program's growTable and endsIn. -/

namespace Go.Proofs.YtaobkanliiiapaaDoor
open Go.RowKit

theorem Save.alloc {S : Nat → Prop} {a w : World} (h : Save S a w) (o : Obj) : Save S a (w.alloc o) := h.trans (Save.of_below ((Below.refl _ _).alloc (Nat.le_refl _) _))
theorem Box3.save {S : Nat → Prop} {w w' : World} {g : Nat} {a b c : Value} (h : Box3 w g a b c) (hs : Save S w w') (hg : ¬ S g) : Box3 w' g a b c := by
  have e := hs.block g h.1 hg
  have k : ∀ i, w'.cell? ⟨g, i, none⟩ = w.cell? ⟨g, i, none⟩ := fun i => by simp only [World.cell?, e]
  exact ⟨Nat.lt_of_lt_of_le h.1 hs.size, (k 0).trans h.2.1, (k 1).trans h.2.2.1, (k 2).trans h.2.2.2⟩
theorem Box2.save {S : Nat → Prop} {w w' : World} {g : Nat} {a b : Value} (h : Box2 w g a b) (hs : Save S w w') (hg : ¬ S g) : Box2 w' g a b := by
  have e := hs.block g h.1 hg
  have k : ∀ i, w'.cell? ⟨g, i, none⟩ = w.cell? ⟨g, i, none⟩ := fun i => by simp only [World.cell?, e]
  exact ⟨Nat.lt_of_lt_of_le h.1 hs.size, (k 0).trans h.2.1, (k 1).trans h.2.2⟩

theorem below_drew' (w : World) : Below w.heap.size w w.drew := by go_grown

end Go.Proofs.YtaobkanliiiapaaDoor

/- The program's endsIn and deriveWhole. -/

namespace Go.Proofs.YtaobkanliiiapaaDoor
open Go.RowKit

theorem okK_zero (ss : List (Int × List Int)) (ws : List Int) : OkK ss ws fun _ _ => 0 := ⟨fun _ _ => by show 0 < 2048; omega, fun x i j h => by have := h.2; simp at this⟩
theorem sumK_zero : sumK (fun _ _ => 0) = 0 := by decide

end Go.Proofs.YtaobkanliiiapaaDoor

/- A value and a bool as an answer. -/

namespace Go.Proofs.YtaobkanliiiapaaDoor
open Go.RowKit

def GaveXB (w : World) (Q : Bool → Bool → Prop) (e : Ending) (w' : World) : Prop := ∃ x ok, Q x ok ∧ e = .returned (.tuple #[.bool x, .bool ok]) ∧ Below w.heap.size w w'
def GaveXI (w : World) (Q : Int → Bool → Prop) (e : Ending) (w' : World) : Prop := ∃ x ok, Q x ok ∧ e = .returned (.tuple #[.int .i64 x, .bool ok]) ∧ Below w.heap.size w w'

end Go.Proofs.YtaobkanliiiapaaDoor

/- The program's deriveWhole, Derives, InLanguage and SequenceDerives. -/

namespace Go.Proofs.YtaobkanliiiapaaDoor
open Go.RowKit

/-- A bool that tells P, where the arguments are as said; and whether they are. -/
def QD (ok : Bool) (P : Prop) (x o : Bool) : Prop := o = ok ∧ (ok = true → (x = true ↔ P)) ∧ (ok = false → x = false)
theorem QD.unique {ok : Bool} {P : Prop} {x o x' o' : Bool} (h : QD ok P x o) (k : QD ok P x' o') : x = x' ∧ o = o' := by
  refine ⟨?_, h.1.trans k.1.symm⟩
  cases ok
  · rw [h.2.2 rfl, k.2.2 rfl]
  · have h1 := (h.2.1 rfl).trans (k.2.1 rfl).symm
    cases x <;> cases x' <;> simp_all
theorem seqD_one {D : Int → Nat → Nat → Prop} {ws : List Int} {x : Int} {i j : Nat} (hx : 0 ≤ x) : SeqD D ws [x] i j ↔ D x i j := by
  constructor
  · rintro ⟨m, (⟨h, _⟩ | ⟨_, h⟩), k⟩
    · omega
    · have k' : m = j := k
      subst k'; exact h
  · exact fun h => ⟨j, .inr ⟨hx, h⟩, rfl⟩
theorem seqD_iff {D E : Int → Nat → Nat → Prop} {ws xs : List Int} {i j : Nat} (h : ∀ x i j, D x i j ↔ E x i j) : SeqD D ws xs i j ↔ SeqD E ws xs i j := ⟨fun k => k.mono fun x i j => (h x i j).1, fun k => k.mono fun x i j => (h x i j).2⟩

theorem ints_one (w : World) (x : Int) : Ints (w.alloc (.cells #[.int .i64 x] 3)) (w.heap.size + 1) (some ⟨w.heap.size, 0, none⟩) [x] := fun _ => ⟨w.heap.size, 0, rfl, by omega, fun k y hk => by
  have hk1 := (List.getElem?_eq_some_iff.1 hk).1
  have e : k = 0 := by simp at hk1; omega
  subst e
  simp at hk
  subst hk
  simp [go_sem]⟩

theorem goodW_goodG {n t : Int} {ss : List (Int × List Int)} {ws : List Int} (h : goodW n t ss ws = true) : goodG n t ss = true := by cases e : goodG n t ss; rw [goodW_no e] at h; cases h; rfl
theorem goodW_len {n t : Int} {ss : List (Int × List Int)} {ws : List Int} (h : goodW n t ss ws = true) : ws.length ≤ 10 := by
  by_cases e : ws.length ≤ 10
  · exact e
  · rw [goodW_yes (goodW_goodG h), wordB_long e] at h; cases h
theorem goodW_zero {n t : Int} {ss : List (Int × List Int)} {ws : List Int} : (goodW n t ss ws && nonB n 0) = goodW n t ss ws := by
  cases e : goodW n t ss ws
  · rfl
  · have := goodG_is (goodW_goodG e)
    rw [Bool.true_and]
    exact nonB_t (by omega) (by omega)

end Go.Proofs.YtaobkanliiiapaaDoor

/- The reference's InLanguage and Derives. -/

namespace Go.Proofs.YtaobkanliiiapaaDoor
open Go.RowKit

set_option maxRecDepth 20000 in
set_option maxHeartbeats 1000000 in
theorem l4In_any (N : Nat) (t : Int) (A : Option Addr) (c : Nat) (rs : List Ru) (y : Nat) (Aw : Option Addr) (cw : Nat) (ws : List Int) (w : World) (hx : Rls w w.heap.size A rs) (hg : goodG (N : Int) t (rs.map Ru.abs) = true) (hcap : ∀ u ∈ rs, u.r.length ≤ u.c) (hw : ws.length ≤ 10) (hW : Ints w w.heap.size Aw ws) (hy : y < N) :
    Calls Tryd.prog 190 #[.agg #[.int .i64 (N : Int), .int .i64 t, .slice A rs.length c], .int .i64 (y : Int), .slice Aw ws.length cw] w fun e w' => ∃ b, e = .returned (.bool b) ∧ (b = true ↔ Der (rs.map Ru.abs) ws y 0 ws.length) ∧ Below w.heap.size w w' := by
  have HB0 : Hid (Below w.heap.size w (w.alloc (.cells #[.int .i64 N, .int .i64 t, .slice A rs.length c] 54))) := by show Below _ _ _; go_grown
  have HC := Lib.hid (l4Table_any N t A c rs Aw cw ws _ ((hx.keep HB0.out).more HB0.out.size) hg hcap hw ((hW.keep HB0.out).more HB0.out.size))
  clear hx hg hW hcap
  go_enter Tryd.func190, Tryd.ntmps190
  go_wp2_with fail
  refine HC.out.mono ?_
  rintro e w1 ⟨S, T, rfl, hT, hD, hB⟩
  have HB1 : Hid (Below w.heap.size w w1) := HB0.out.trans (hB.mono HB0.out.size)
  have hc : ws.length < (ws.length + 1) * (ws.length + 1) := by have h := cell_lt (n := ws.length) (i := 0) (j := ws.length) (by omega) (by omega); simpa using h
  have k1 := hT.row hy
  obtain ⟨k2, _⟩ := hT.at_ hy hc
  have HQ : Hid (T y ws.length = true ↔ Der (rs.map Ru.abs) ws y 0 ws.length) := by
    refine Iff.trans ?_ (hD y 0 ws.length)
    unfold DT
    simp
  generalize (ws.length + 1) * (ws.length + 1) = M at *
  clear hT hD hB HC
  go_wp2
  go_ret
  exact ⟨_, rfl, HQ.out, HB1.out⟩

end Go.Proofs.YtaobkanliiiapaaDoor

/- The spans of a word: the plain list; an answer that is a list of lists. -/

namespace Go.Proofs.YtaobkanliiiapaaDoor
open Go.RowKit

/-- An answer: a list of lists, and whether there is one. -/
def GaveLB (w : World) (xs : List (List Int)) (ok : Bool) (e : Ending) (w' : World) : Prop :=
  ∃ A c ls, e = .returned (.tuple #[.slice A ls.length c, .bool ok]) ∧ ls.length ≤ c ∧ OwnL w' w.heap.size A ls ∧ sayL ls = xs ∧ Below w.heap.size w w'

theorem bP_eq {P : Prop} {b : Bool} (h : b = true ↔ P) : bP P = b := by
  cases b
  · exact bP_f fun hp => by cases h.2 hp
  · exact bP_t (h.1 rfl)

theorem flat_len {α β : Type} (l : List α) (f : α → List β) (c : Nat) (h : ∀ x, (f x).length ≤ c) : (l.flatMap f).length ≤ l.length * c := by
  induction l with
  | nil => simp
  | cons x l ih =>
    rw [List.flatMap_cons, List.length_append, List.length_cons, Nat.add_mul]
    have := h x
    omega

section
variable (D : Int → Nat → Nat → Prop)

/-- The nonterminals below k that derive the part from i to j. -/
noncomputable def spRow (i j k : Nat) : List (List Int) := ((List.range k).filter fun (x : Nat) => bP (D (x : Int) i j)).map fun (x : Nat) => [(i : Int), (j : Int), (x : Int)]
noncomputable def spCol (N i m : Nat) : List (List Int) := (List.range m).flatMap fun d => spRow D i (i + d) N
noncomputable def spAll (N L f : Nat) : List (List Int) := (List.range f).flatMap fun i => spCol D N i (L + 1 - i)

theorem spRow_zero (i j : Nat) : spRow D i j 0 = [] := by simp [spRow]
theorem spRow_yes {i j k : Nat} (h : bP (D (k : Int) i j) = true) : spRow D i j (k + 1) = spRow D i j k ++ [[(i : Int), (j : Int), (k : Int)]] := by
  unfold spRow
  rw [List.range_succ, List.filter_append, List.map_append]
  simp [h]
theorem spRow_no {i j k : Nat} (h : bP (D (k : Int) i j) = false) : spRow D i j (k + 1) = spRow D i j k := by
  unfold spRow
  rw [List.range_succ, List.filter_append, List.map_append]
  simp [h]
theorem spCol_zero (N i : Nat) : spCol D N i 0 = [] := by simp [spCol]
theorem spCol_succ (N i m : Nat) : spCol D N i (m + 1) = spCol D N i m ++ spRow D i (i + m) N := by
  unfold spCol
  rw [List.range_succ, List.flatMap_append]
  simp
theorem spAll_zero (N L : Nat) : spAll D N L 0 = [] := by simp [spAll]
theorem spAll_succ (N L f : Nat) : spAll D N L (f + 1) = spAll D N L f ++ spCol D N f (L + 1 - f) := by
  unfold spAll
  rw [List.range_succ, List.flatMap_append]
  simp
theorem spRow_len (i j k : Nat) : (spRow D i j k).length ≤ k := by
  unfold spRow
  rw [List.length_map]
  exact Nat.le_trans (List.length_filter_le _ _) (by simp)
theorem spCol_len (N i m : Nat) : (spCol D N i m).length ≤ m * N := by
  have := flat_len (List.range m) (fun d => spRow D i (i + d) N) N (fun d => spRow_len D i (i + d) N)
  rw [List.length_range] at this
  exact this
theorem spAll_len (N L f : Nat) : (spAll D N L f).length ≤ f * ((L + 1) * N) := by
  have := flat_len (List.range f) (fun i => spCol D N i (L + 1 - i)) ((L + 1) * N) (fun i => Nat.le_trans (spCol_len D N i _) (Nat.mul_le_mul_right _ (by omega)))
  rw [List.length_range] at this
  exact this
theorem spRow_three {i j k : Nat} {x : List Int} (h : x ∈ spRow D i j k) : x.length = 3 := by
  obtain ⟨y, _, rfl⟩ := List.mem_map.1 h
  rfl
theorem spAll_three {N L f : Nat} {x : List Int} (h : x ∈ spAll D N L f) : x.length = 3 := by
  obtain ⟨i, _, h⟩ := List.mem_flatMap.1 h
  obtain ⟨d, _, h⟩ := List.mem_flatMap.1 h
  exact spRow_three D h

/-- All that is told ahead of nonterminal k of the part from i to i + m. -/
noncomputable def spAt (N L i m k : Nat) : List (List Int) := spAll D N L i ++ spCol D N i m ++ spRow D i (i + m) k
theorem spAt_len {N L i m k : Nat} (hN : N ≤ 6) (hL : L ≤ 10) (hi : i ≤ 11) (hm : m ≤ 11) (hk : k ≤ 6) : (spAt D N L i m k).length ≤ 2000 := by
  unfold spAt
  rw [List.length_append, List.length_append]
  have h1 := spAll_len D N L i
  have h2 := spCol_len D N i m
  have h3 := spRow_len D i (i + m) k
  have h4 : (L + 1) * N ≤ 11 * 6 := Nat.mul_le_mul (by omega) hN
  have h5 : i * ((L + 1) * N) ≤ 11 * (11 * 6) := Nat.mul_le_mul hi h4
  have h6 : m * N ≤ 11 * 6 := Nat.mul_le_mul hm hN
  omega
theorem spAt_start (N L : Nat) : spAt D N L 0 0 0 = [] := by unfold spAt; rw [spAll_zero, spCol_zero, spRow_zero]; rfl
theorem spAt_yes {N L i m k : Nat} (h : bP (D (k : Int) i (i + m)) = true) : spAt D N L i m (k + 1) = spAt D N L i m k ++ [[(i : Int), ((i + m : Nat) : Int), (k : Int)]] := by
  unfold spAt; rw [spRow_yes D h]; simp only [List.append_assoc]
theorem spAt_no {N L i m k : Nat} (h : bP (D (k : Int) i (i + m)) = false) : spAt D N L i m (k + 1) = spAt D N L i m k := by
  unfold spAt; rw [spRow_no D h]
theorem spAt_col (N L i m : Nat) : spAt D N L i (m + 1) 0 = spAt D N L i m N := by
  unfold spAt; rw [spRow_zero, spCol_succ, List.append_nil]; simp only [List.append_assoc]
theorem spAt_all {N L i m : Nat} (h : m = L + 1 - i) : spAt D N L (i + 1) 0 0 = spAt D N L i m 0 := by
  unfold spAt; rw [spRow_zero, spRow_zero, spCol_zero, spAll_succ, h]; simp
theorem spAt_end {N L i : Nat} (h : i = L + 1) : spAt D N L i 0 0 = spAll D N L (L + 1) := by
  unfold spAt; rw [spRow_zero, spCol_zero, h]; simp
end

/-- What the spans are. -/
noncomputable def spansV (n t : Int) (ss : List (Int × List Int)) (ws : List Int) : List (List Int) := if goodW n t ss ws = true then spAll (Der ss ws) n.toNat ws.length (ws.length + 1) else []
theorem spansV_len {n t : Int} {ss : List (Int × List Int)} {ws : List Int} : (spansV n t ss ws).length ≤ 2000 := by
  unfold spansV
  split
  · rename_i h
    have h1 := goodG_is (goodW_goodG h)
    have h2 := goodW_len h
    rw [← spAt_end (Der ss ws) rfl]
    exact spAt_len _ (by omega) h2 (by omega) (by omega) (by omega)
  · simp
theorem spansV_three {n t : Int} {ss : List (Int × List Int)} {ws : List Int} {x : List Int} (h : x ∈ spansV n t ss ws) : x.length = 3 := by
  unfold spansV at h
  split at h
  · exact spAll_three _ h
  · simp at h

end Go.Proofs.YtaobkanliiiapaaDoor

/- The short words: the plain list of all words up to a length, in the order in which they are told. -/

namespace Go.Proofs.YtaobkanliiiapaaDoor
open Go.RowKit

/-- The words that are made of one by putting one of the first m tokens behind it. -/
def kidsTo (m : Nat) (x : List Int) : List (List Int) := (List.range m).map fun (t : Nat) => x ++ [(t : Int)]
/-- The words that are made of each of some words. -/
def kids (m : Nat) (l : List (List Int)) : List (List Int) := l.flatMap (kidsTo m)
/-- The words of n tokens. -/
def lev (m : Nat) : Nat → List (List Int)
  | 0 => [[]]
  | n + 1 => kids m (lev m n)
/-- The words of fewer than n tokens. -/
def upTo (m : Nat) : Nat → List (List Int)
  | 0 => []
  | n + 1 => upTo m n ++ lev m n

theorem kidsTo_zero (x : List Int) : kidsTo 0 x = [] := by simp [kidsTo]
theorem kidsTo_succ (m : Nat) (x : List Int) : kidsTo (m + 1) x = kidsTo m x ++ [x ++ [(m : Int)]] := by simp [kidsTo, List.range_succ]
theorem kidsTo_len (m : Nat) (x : List Int) : (kidsTo m x).length = m := by simp [kidsTo]
theorem kids_nil (m : Nat) : kids m [] = [] := rfl
theorem kids_append (m : Nat) (a b : List (List Int)) : kids m (a ++ b) = kids m a ++ kids m b := List.flatMap_append
theorem kids_snoc (m : Nat) (a : List (List Int)) (x : List Int) : kids m (a ++ [x]) = kids m a ++ kidsTo m x := by rw [kids_append]; simp [kids]
theorem kids_len (m : Nat) : ∀ l : List (List Int), (kids m l).length = l.length * m
  | [] => by simp [kids]
  | x :: l => by
    have h := kids_len m l
    unfold kids at h ⊢
    rw [List.flatMap_cons, List.length_append, h, kidsTo_len, List.length_cons, Nat.add_mul]
    omega

theorem root_kids (m : Nat) : ∀ n, [] :: kids m (upTo m n) = upTo m (n + 1)
  | 0 => by simp [upTo, kids, lev]
  | n + 1 => by
    have h := root_kids m n
    show [] :: kids m (upTo m n ++ lev m n) = upTo m (n + 1) ++ kids m (lev m n)
    rw [kids_append, ← List.cons_append, h]

theorem lev_len_mem (m : Nat) : ∀ (n : Nat) (x : List Int), x ∈ lev m n → x.length = n
  | 0, x, h => by simp [lev] at h; simp [h]
  | n + 1, x, h => by
    obtain ⟨y, hy, hx⟩ := List.mem_flatMap.1 h
    obtain ⟨t, _, rfl⟩ := List.mem_map.1 hx
    have := lev_len_mem m n y hy
    simp [this]
theorem upTo_len_mem (m : Nat) : ∀ (n : Nat) (x : List Int), x ∈ upTo m n → x.length < n
  | 0, x, h => by simp [upTo] at h
  | n + 1, x, h => by
    rcases List.mem_append.1 h with h | h
    · have := upTo_len_mem m n x h; omega
    · have := lev_len_mem m n x h; omega
theorem lev_len (m : Nat) : ∀ n, (lev m n).length = m ^ n
  | 0 => rfl
  | n + 1 => by
    show (kids m (lev m n)).length = _
    rw [kids_len, lev_len m n, Nat.pow_succ]
theorem lev_le {m n : Nat} (hm : m ≤ 4) (hn : n ≤ 4) : (lev m n).length ≤ 256 := by
  rw [lev_len]
  calc m ^ n ≤ 4 ^ n := Nat.pow_le_pow_left hm n
    _ ≤ 4 ^ 4 := Nat.pow_le_pow_right (by omega) hn
    _ = 256 := by decide
theorem upTo_le {m : Nat} (hm : m ≤ 4) : ∀ n, n ≤ 5 → (upTo m n).length ≤ n * 256
  | 0, _ => by simp [upTo]
  | n + 1, h => by
    have h1 := upTo_le hm n (by omega)
    have h2 := lev_le hm (show n ≤ 4 by omega)
    show (upTo m n ++ lev m n).length ≤ _
    rw [List.length_append]
    omega

theorem kids_take_pre (m : Nat) (l : List (List Int)) (a : Nat) : ∃ r, kids m l = kids m (l.take a) ++ r := ⟨kids m (l.drop a), by rw [← kids_append, List.take_append_drop]⟩

/-- What the queue holds when the first a of the words have been gone through. -/
def que (m n a : Nat) : List (List Int) := [] :: kids m ((upTo m n).take a)
theorem que_start (m n : Nat) : que m n 0 = [[]] := by simp [que, kids]
theorem que_end (m n : Nat) : que m n (upTo m n).length = upTo m (n + 1) := by rw [que, List.take_length, root_kids]
theorem que_pre (m n a : Nat) : ∃ r, upTo m (n + 1) = que m n a ++ r := by
  obtain ⟨r, h⟩ := kids_take_pre m (upTo m n) a
  exact ⟨r, by rw [← root_kids, h]; rfl⟩
theorem que_len {m n a : Nat} (hm : 1 ≤ m) (ha : a ≤ (upTo m n).length) : a < (que m n a).length := by
  show a < (kids m _).length + 1
  rw [kids_len, List.length_take, Nat.min_eq_left ha]
  have : a * 1 ≤ a * m := Nat.mul_le_mul_left a hm
  omega
theorem que_le {m n a : Nat} (hm : m ≤ 4) (hn : n ≤ 4) : (que m n a).length ≤ 1280 := by
  obtain ⟨r, h⟩ := que_pre m n a
  have h1 := upTo_le hm (n + 1) (by omega)
  rw [h, List.length_append] at h1
  omega
/-- The word at a place of the queue. -/
theorem que_at {m n a : Nat} {q : List (List Int)} (hm : 1 ≤ m) (ha : a < (upTo m n).length) (hq : que m n a ++ q <+: upTo m (n + 1)) : (que m n a ++ q)[a]? = (upTo m n)[a]? := by
  obtain ⟨r, hr⟩ := hq
  have h1 := que_len hm (Nat.le_of_lt ha)
  have h2 : (upTo m (n + 1))[a]? = (que m n a ++ q)[a]? := by
    rw [← hr, List.getElem?_append_left (by rw [List.length_append]; omega)]
  rw [← h2]
  show (upTo m n ++ lev m n)[a]? = _
  rw [List.getElem?_append_left ha]
theorem que_step {m n a : Nat} {x : List Int} (h : (upTo m n)[a]? = some x) : que m n (a + 1) = que m n a ++ kidsTo m x := by
  unfold que
  rw [List.take_add_one, h]
  show [] :: kids m (_ ++ [x]) = _
  rw [kids_snoc]
  rfl
theorem kidsTo_pre {j m : Nat} (h : j ≤ m) (x : List Int) : kidsTo j x <+: kidsTo m x := by
  obtain ⟨d, rfl⟩ : ∃ d, m = j + d := ⟨m - j, by omega⟩
  clear h
  induction d with
  | zero => exact List.prefix_refl _
  | succ d ih => exact ih.trans ⟨_, (kidsTo_succ (j + d) x).symm⟩
theorem que_mid {m n a j : Nat} {x : List Int} (h : (upTo m n)[a]? = some x) (hj : j ≤ m) : que m n a ++ kidsTo j x <+: upTo m (n + 1) := by
  obtain ⟨r, hr⟩ := que_pre m n (a + 1)
  obtain ⟨s, hs⟩ := kidsTo_pre hj x
  refine ⟨s ++ r, ?_⟩
  rw [hr, que_step h, ← hs]
  simp only [List.append_assoc]
theorem que_word {m n a : Nat} {q : List (List Int)} {x : List Int} (hm : 1 ≤ m) (h : (upTo m n)[a]? = some x) (hq : que m n a ++ q <+: upTo m (n + 1)) : (que m n a ++ q)[a]? = some x := by
  rw [que_at hm (List.getElem?_eq_some_iff.1 h).1 hq, h]
theorem que_last {m n : Nat} (hm : 1 ≤ m) : ∃ x, (que m n (upTo m n).length)[(upTo m n).length]? = some x ∧ x.length = n := by
  rw [que_end]
  show ∃ x, (upTo m n ++ lev m n)[(upTo m n).length]? = some x ∧ _
  rw [List.getElem?_append_right (Nat.le_refl _), Nat.sub_self]
  have h : 0 < (lev m n).length := by rw [lev_len]; exact Nat.pow_pos (by omega)
  refine ⟨(lev m n)[0], List.getElem?_eq_getElem h, lev_len_mem m n _ (List.getElem_mem h)⟩
theorem upTo_word {m n a : Nat} {x : List Int} (h : (upTo m n)[a]? = some x) : x.length < n := upTo_len_mem m n x (List.mem_of_getElem? h)

/-- A word is of the language. -/
noncomputable def langB (ss : List (Int × List Int)) (ws : List Int) : Bool := bP (Der ss ws 0 0 ws.length)
/-- What the short words are. -/
noncomputable def shortV (n t : Int) (ss : List (Int × List Int)) (x : Int) : List (List Int) := if goodG n t ss = true ∧ 0 ≤ x ∧ x ≤ 4 then (upTo t.toNat (x.toNat + 1)).filter (langB ss) else []
def okS (n t : Int) (ss : List (Int × List Int)) (x : Int) : Bool := goodG n t ss && decide (0 ≤ x ∧ x ≤ 4)
theorem shortV_len {n t : Int} {ss : List (Int × List Int)} {x : Int} (ht : goodG n t ss = true → t ≤ 4) : (shortV n t ss x).length ≤ 1280 := by
  unfold shortV
  split
  · rename_i h
    refine Nat.le_trans (List.length_filter_le _ _) ?_
    have := upTo_le (m := t.toNat) (by have := ht h.1; omega) (x.toNat + 1) (by omega)
    omega
  · simp
theorem shortV_lens {n t : Int} {ss : List (Int × List Int)} {x : Int} {y : List Int} (h : y ∈ shortV n t ss x) : y.length ≤ 4 := by
  unfold shortV at h
  split at h
  · have := upTo_len_mem _ _ y (List.mem_filter.1 h).1
    omega
  · simp at h
theorem filter_yes {P : List Int → Bool} {l : List (List Int)} {k : Nat} (hk : k < l.length) (h : P l[k] = true) : (l.take (k + 1)).filter P = (l.take k).filter P ++ [l[k]] := by
  rw [List.take_succ_eq_append_getElem hk, List.filter_append]
  simp [h]
theorem filter_no {P : List Int → Bool} {l : List (List Int)} {k : Nat} (hk : k < l.length) (h : P l[k] = false) : (l.take (k + 1)).filter P = (l.take k).filter P := by
  rw [List.take_succ_eq_append_getElem hk, List.filter_append]
  simp [h]

end Go.Proofs.YtaobkanliiiapaaDoor

/- Slices of lists that are appended to: a list made just before; a list that lies in another slice of lists. -/

namespace Go.Proofs.YtaobkanliiiapaaDoor
open Go.RowKit

theorem sayL_snoc (ds : List Li) (u : Li) : sayL (ds ++ [u]) = sayL ds ++ [u.r] := by simp [sayL]
theorem sayL_get {ds : List Li} {xs : List (List Int)} {k : Nat} {x : List Int} (h : sayL ds = xs) (hx : xs[k]? = some x) : ∃ u, ds[k]? = some u ∧ u.r = x := by
  rw [← h] at hx
  unfold sayL at hx
  rw [List.getElem?_map] at hx
  cases e : ds[k]? with
  | none => rw [e] at hx; cases hx
  | some u => rw [e] at hx; exact ⟨u, rfl, Option.some.inj hx⟩

/-- A list that was made just now is appended. -/
theorem ListsW.pushI {w w1 w2 : World} {lo : Nat} {v v' : Value} {ds : List Li} {A : Option Addr} {xs : List Int} {c : Nat} {o : Obj} (h : ListsW w lo v ds) (hb : Below w.heap.size w w1) (hlo : lo ≤ w.heap.size) (hO : OwnI w1 w.heap.size A xs) (hcap : xs.length ≤ c)
    (ho : w2.ownsRow lo 37 1 v' (ds.length + 1) (ds.map cellsL ++ [.slice A xs.length c])) (hg : (w1.alloc o).grownBy w2 v.ownBlock) : ListsW w2 lo v' (ds ++ [⟨A, xs, c⟩]) := by
  have hB2 : Below w1.heap.size w1 (w1.alloc o) := (Below.refl _ _).alloc (Nat.le_refl _) _
  have hO2 := hO.below hB2 (Nat.le_refl _)
  exact ((h.keep hb).keep hB2).step (hO2.lower hlo) hcap (h.apart hO) ho hg

theorem one_new (w : World) (x : Value) (t : TypeId) : ∀ j u, [x][j]? = some u → (w.alloc (.cells #[x] t)).cell? ((⟨w.heap.size, 0, none⟩ : Addr).add j) = some u := by
  intro j u h
  rw [Go.WideShapes.add_plain, Nat.zero_add]
  rcases j with _ | j
  · simpa [go_sem] using h
  · simp at h

/-- The slice v of lists is new from lo2 on and reads as ds; each list is the call's own from lo on, and no two lie in one block. -/
structure ListsV (w : World) (lo lo2 : Nat) (v : Value) (ds : List Li) : Prop where
  row : w.ownsRow lo2 37 1 v ds.length (ds.map cellsL)
  caps : ∀ (j : Nat) (u : Li), ds[j]? = some u → u.r.length ≤ u.c
  rts : ∀ (j : Nat) (u : Li), ds[j]? = some u → OwnI w lo u.a u.r
  far : ∀ (i j : Nat) (u v : Li), ds[i]? = some u → ds[j]? = some v → i ≠ j → u.r ≠ [] → v.r ≠ [] → u.a ≠ v.a

theorem ListsV.start (w : World) (lo lo2 : Nat) : ListsV w lo lo2 (.slice none 0 0) [] := ⟨⟨rfl, .inl ⟨rfl, rfl⟩⟩, fun j u h => by simp at h, fun j u h => by simp at h, fun i j u v h => by simp at h⟩
theorem ListsV.keep {w w' : World} {lo lo2 : Nat} {v : Value} {ds : List Li} (h : ListsV w lo lo2 v ds) (hb : Below w.heap.size w w') : ListsV w' lo lo2 v ds :=
  ⟨own_below h.row hb, h.caps, fun j x hx => (h.rts j x hx).below hb (Nat.le_refl _), h.far⟩
theorem ListsV.lt {w : World} {lo lo2 : Nat} {v : Value} {ds : List Li} (h : ListsV w lo lo2 v ds) (b : Nat) (e : v.ownBlock = some b) : lo2 ≤ b ∧ b < w.heap.size := h.row.lt b e
theorem ListsV.slice {w : World} {lo lo2 : Nat} {v : Value} {ds : List Li} (h : ListsV w lo lo2 v ds) (hl : lo ≤ lo2) : ∃ A c, v = .slice A ds.length c ∧ ds.length ≤ c ∧ OwnL w lo A ds := by
  obtain ⟨_, ⟨rfl, h0⟩ | ⟨g, cap, cur, rfl, hlo, hg, hcap, _, _, hx⟩⟩ := h.row
  · have : ds = [] := List.eq_nil_of_length_eq_zero h0
    subst this
    exact ⟨none, 0, rfl, Nat.le_refl _, .inl rfl⟩
  · refine ⟨_, cap, rfl, hcap, .inr ⟨g, cur, rfl, by omega, hg, fun k u hu => ?_, h.far⟩⟩
    have hk := (List.getElem?_eq_some_iff.1 hu).1
    have f1 : (ds.map cellsL)[k]? = some (cellsL u) := by rw [List.getElem?_map, hu]; rfl
    rw [← hx, List.getElem?_take, if_pos (by omega)] at f1
    exact ⟨by simpa [cellsL] using f1, h.caps k u hu, h.rts k u hu⟩
theorem ListsV.step {w w2 : World} {lo lo2 : Nat} {v v' : Value} {ds : List Li} {u : Li} (h : ListsV w lo lo2 v ds) (hO : OwnI w lo u.a u.r) (hcap : u.r.length ≤ u.c)
    (hap : ∀ (j : Nat) (x : Li), ds[j]? = some x → x.r ≠ [] → u.r ≠ [] → x.a ≠ u.a)
    (ho : w2.ownsRow lo2 37 1 v' (ds.length + 1) (ds.map cellsL ++ [.slice u.a u.r.length u.c])) (hg : w.grownBy w2 v.ownBlock) : ListsV w2 lo lo2 v' (ds ++ [u]) := by
  refine ⟨?_, ?_, ?_, ?_⟩
  · rw [List.length_append, List.map_append]
    simpa [cellsL] using ho
  · intro j x hx
    rcases getElem?_snoc hx with ⟨_, hx⟩ | ⟨_, rfl⟩
    · exact h.caps j x hx
    · exact hcap
  · intro j x hx
    rcases getElem?_snoc hx with ⟨_, hx⟩ | ⟨_, rfl⟩
    · exact (h.rts j x hx).grownL h.row hg
    · exact hO.grownL h.row hg
  · intro i j x y hx hy hij hxn hyn
    rcases getElem?_snoc hx with ⟨_, hx'⟩ | ⟨hi, ei⟩ <;> rcases getElem?_snoc hy with ⟨_, hy'⟩ | ⟨hj, ej⟩
    · exact h.far i j x y hx' hy' hij hxn hyn
    · rw [ej] at hyn ⊢; exact hap i x hx' hxn hyn
    · rw [ei] at hxn ⊢; exact fun e => hap j y hy' hyn hxn e.symm
    · omega

/-- The lists es are some of the first k of ds. -/
def SomeOf (es ds : List Li) (k : Nat) : Prop := ∀ (j : Nat) (x : Li), es[j]? = some x → ∃ i, i < k ∧ ds[i]? = some x
theorem SomeOf.start (ds : List Li) : SomeOf [] ds 0 := fun j x h => by simp at h
theorem SomeOf.more {es ds : List Li} {k : Nat} (h : SomeOf es ds k) : SomeOf es ds (k + 1) := fun j x hx => by
  obtain ⟨i, hi, e⟩ := h j x hx
  exact ⟨i, by omega, e⟩
theorem SomeOf.snoc {es ds : List Li} {k : Nat} (h : SomeOf es ds k) {u : Li} (hu : ds[k]? = some u) : SomeOf (es ++ [u]) ds (k + 1) := fun j x hx => by
  rcases getElem?_snoc hx with ⟨_, hx⟩ | ⟨_, rfl⟩
  · exact h.more j x hx
  · exact ⟨k, by omega, hu⟩

/-- A list out of ds, whose lists lie apart, is appended to a slice of those ahead of it. -/
theorem ListsV.pushU {w w1 w2 : World} {lo lo2 : Nat} {v v' : Value} {es ds : List Li} {k : Nat} {u : Li} {o : Obj} (h : ListsV w lo lo2 v es) (hb : Below w.heap.size w w1) (hS : SomeOf es ds k) (hu : ds[k]? = some u) (hO : OwnI w1 lo u.a u.r) (hcap : u.r.length ≤ u.c)
    (hfar : ∀ (i j : Nat) (u v : Li), ds[i]? = some u → ds[j]? = some v → i ≠ j → u.r ≠ [] → v.r ≠ [] → u.a ≠ v.a)
    (ho : w2.ownsRow lo2 37 1 v' (es.length + 1) (es.map cellsL ++ [.slice u.a u.r.length u.c])) (hg : (w1.alloc o).grownBy w2 v.ownBlock) : ListsV w2 lo lo2 v' (es ++ [u]) := by
  have hB2 : Below w1.heap.size w1 (w1.alloc o) := (Below.refl _ _).alloc (Nat.le_refl _) _
  refine ((h.keep hb).keep hB2).step (hO.below hB2 (Nat.le_refl _)) hcap (fun j x hx hxn hun => ?_) ho hg
  obtain ⟨i, hi, e⟩ := hS j x hx
  exact hfar i k x u e hu (by omega) hxn hun

/-- A slice of one list, as it is written. -/
theorem ListsW.one {w : World} {lo g : Nat} {A : Option Addr} {xs : List Int} {c : Nat} (hr : Row w g 37 #[.slice A xs.length c]) (hlo : lo ≤ g) (hO : OwnI w lo A xs) (hcap : xs.length ≤ c) : ListsW w lo (.slice (some ⟨g, 0, none⟩) 1 1) [⟨A, xs, c⟩] := by
  refine ⟨⟨rfl, .inr ⟨g, 1, _, rfl, hlo, hr, Nat.le_refl _, by unfold maxLen; omega, rfl, rfl⟩⟩, fun j u hu => ?_, fun j u hu => ?_, fun i j u v hu hv hij => ?_⟩
  · rcases j with _ | j
    · simp at hu; subst hu; exact hcap
    · simp at hu
  · rcases j with _ | j
    · simp at hu; subst hu; exact hO
    · simp at hu
  · have h1 := (List.getElem?_eq_some_iff.1 hu).1
    have h2 := (List.getElem?_eq_some_iff.1 hv).1
    simp at h1 h2
    omega

end Go.Proofs.YtaobkanliiiapaaDoor

/- What the program's checks of lists answer: slices.Compare, isRising, allLong, goodLists, goodEmpty. -/

namespace Go.Proofs.YtaobkanliiiapaaDoor
open Go.RowKit

/-- Two numbers compared. -/
def cmpI (x y : Int) : Int := if x < y then -1 else if y < x then 1 else 0

theorem cmpI_lt {x y : Int} : cmpI x y < 0 ↔ x < y := by
  unfold cmpI
  split
  · simp_all
  · split <;> simp_all

set_option maxHeartbeats 400000 in
theorem isNaN_any (x : Int) (w : World) : Calls Tryd.prog 171 #[.int .i64 x] w fun e w' => e = .returned (.bool false) ∧ w' = w := by
  have hd : (x != x) = false := by simp
  go_enter Tryd.func171, Tryd.ntmps171
  go_wp2
  go_ret
  exact ⟨rfl, rfl⟩

set_option maxHeartbeats 400000 in
theorem compareI_any (x y : Int) (w : World) : Calls Tryd.prog 128 #[.int .i64 x, .int .i64 y] w fun e w' => e = .returned (.int .i64 (cmpI x y)) ∧ w' = w := by
  rcases Int.lt_trichotomy x y with h | h | h
  · have HE : Hid (cmpI x y = -1) := by show _ = _; unfold cmpI; rw [if_pos h]
    go_enter Tryd.func128, Tryd.ntmps128
    go_wp2_with (go_at_call 171; refine (isNaN_any _ _).mono ?_; rintro e w' ⟨rfl, rfl⟩)
    go_ret
    exact ⟨by rw [HE.out]; rfl, rfl⟩
  · have HE : Hid (cmpI x y = 0) := by show _ = _; unfold cmpI; rw [if_neg (by omega), if_neg (by omega)]
    have h1 : ¬ x < y := by omega
    have h2 : ¬ y < x := by omega
    clear h
    go_enter Tryd.func128, Tryd.ntmps128
    go_wp2_with (go_at_call 171; refine (isNaN_any _ _).mono ?_; rintro e w' ⟨rfl, rfl⟩)
    go_ret
    exact ⟨by rw [HE.out]; rfl, rfl⟩
  · have HE : Hid (cmpI x y = 1) := by show _ = _; unfold cmpI; rw [if_neg (by omega), if_pos h]
    have h1 : ¬ x < y := by omega
    go_enter Tryd.func128, Tryd.ntmps128
    go_wp2_with (go_at_call 171; refine (isNaN_any _ _).mono ?_; rintro e w' ⟨rfl, rfl⟩)
    go_ret
    exact ⟨by rw [HE.out]; rfl, rfl⟩

set_option maxHeartbeats 400000 in
theorem compareL_any (A A' : Option Addr) (xs ys : List Int) (c c' : Nat) (w : World) (hx : Ints w w.heap.size A xs) (hy : Ints w w.heap.size A' ys) (h1 : xs.length ≤ 1048576) :
    Calls Tryd.prog 84 #[.slice A xs.length c, .slice A' ys.length c'] w fun e w' => e = .returned (.int .i64 (cmpL xs ys)) ∧ w' = w := by
  have HX := Lib.hid hx; clear hx
  have HY := Lib.hid hy; clear hy
  go_enter Tryd.func84, Tryd.ntmps84
  go_wp2
  go_loopw [11] (fun i wr => ∃ (k : Nat), k ≤ xs.length ∧ i = .int .i64 k ∧ wr = w ∧ Hid (cmpL xs ys = cmpL (xs.drop k) (ys.drop k))) (fun i _ => xs.length - (intOf i).toNat)
  case atStart => exact ⟨0, by omega, rfl, rfl, rfl⟩
  case round =>
    obtain ⟨k, hk, rfl, rfl, H⟩ := hrel
    by_cases hlt : k < xs.length
    · obtain ⟨b, o, rfl, hb, c1⟩ := HX.out.at_ hlt
      by_cases hlt' : k < ys.length
      · obtain ⟨b', o', rfl, hb', c2⟩ := HY.out.at_ hlt'
        by_cases hne : cmpI xs[k] ys[k] = 0
        · have hd : (cmpI xs[k] ys[k] != 0) = false := bne_f hne
          have HN : Hid (cmpL xs ys = cmpL (xs.drop (k + 1)) (ys.drop (k + 1))) := by
            show _ = _
            rw [H.out, cmpL_drop hlt hlt']
            unfold cmpI at hne
            split at hne
            · cases hne
            · split at hne
              · cases hne
              · rename_i g1 g2; rw [if_neg g1, if_neg g2]
          clear hne
          go_wp2_with (go_at_call 128; refine (compareI_any _ _ _).mono ?_; rintro e w' ⟨rfl, rfl⟩)
          go_roundw
          case rel => exact ⟨k + 1, by omega, by go_num, trivial, HN.out⟩
          case measure => simp [intOf]; omega
        · have hd : (cmpI xs[k] ys[k] != 0) = true := bne_t hne
          have HN : Hid (cmpL xs ys = cmpI xs[k] ys[k]) := by
            show _ = _
            rw [H.out, cmpL_drop hlt hlt']
            unfold cmpI at hne ⊢
            split
            · rfl
            · split
              · rfl
              · rename_i g1 g2; rw [if_neg g1, if_neg g2] at hne; exact absurd rfl hne
          clear hne
          go_wp2_with (go_at_call 128; refine (compareI_any _ _ _).mono ?_; rintro e w' ⟨rfl, rfl⟩)
          go_ret
          exact ⟨by rw [HN.out]; rfl, rfl⟩
      · have HN : Hid (cmpL xs ys = 1) := H.out.trans (cmpL_left hlt hlt')
        go_wp2
        go_ret
        exact ⟨by rw [HN.out]; rfl, rfl⟩
    · by_cases hl : xs.length < ys.length
      · have HN : Hid (cmpL xs ys = -1) := H.out.trans (cmpL_right hlt (by omega))
        go_wp2
        go_ret
        exact ⟨by rw [HN.out]; rfl, rfl⟩
      · by_cases hl2 : k < ys.length
        · omega
        have HN : Hid (cmpL xs ys = 0) := H.out.trans (cmpL_end hlt hl2)
        go_wp2
        go_ret
        exact ⟨by rw [HN.out]; rfl, rfl⟩

set_option maxRecDepth 100000 in
theorem cmpF_enter (xs : Array Value) (v : World) : Sem.run Tryd.prog (callFunc 84 xs) v = .ok (.enter 84 xs) v := rfl
set_option maxRecDepth 100000 in
theorem cmpI_enter (xs : Array Value) (v : World) : Sem.run Tryd.prog (callFunc 128 xs) v = .ok (.enter 128 xs) v := rfl

set_option maxRecDepth 20000 in
set_option maxHeartbeats 400000 in
theorem isRisingL_any (A : Option Addr) (ls : List Li) (c : Nat) (w : World) (hx : Lls w w.heap.size A ls) (h1 : ls.length ≤ 1048576) (h2 : ∀ u ∈ ls, u.r.length ≤ 1048576) :
    Calls Tryd.prog 155 #[.slice A ls.length c, .func (.func 84) #[] #[]] w fun e w' => e = .returned (.bool (bP (RiseTo (sayL ls) ls.length))) ∧ Below w.heap.size w w' := by
  have HX := Lib.hid hx; clear hx
  have H2 := Lib.hid h2; clear h2
  have HCF := cmpF_enter
  go_enter Tryd.func155, Tryd.ntmps155
  go_wp2
  go_loopw [5] (fun i wr => ∃ (j : Nat), i = .int .i64 ((j + 1 : Nat) : Int) ∧ j ≤ ls.length ∧ Below w.heap.size w wr ∧ Hid (RiseTo (sayL ls) (j + 1))) (fun i _ => ls.length + 1 - (intOf i).toNat)
  case atStart => exact ⟨0, rfl, by omega, Below.refl _ _, RiseTo.none _⟩
  case round =>
    obtain ⟨k, rfl, hk, hB, H⟩ := hrel
    by_cases hlt' : k + 1 < ls.length
    · have hlt : k < ls.length := by omega
      obtain ⟨b, o, rfl, hb, c1, _, c3⟩ := (HX.out.keep hB).at_ hlt
      obtain ⟨b', o', e', hb', d1, _, d3⟩ := (HX.out.keep hB).at_ hlt'
      injection e' with e'
      injection e' with e1 e2
      subst e1 e2
      have C3 := Lib.hid (c3.more hB.size); clear c3
      have D3 := Lib.hid (d3.more hB.size); clear d3
      have hlen2 := H2.out ls[k] (List.getElem_mem hlt)
      by_cases hq : cmpL ls[k].r ls[k + 1].r < 0
      all_goals
        have HQ := Lib.hid hq
        have hwk : IntKind.i64.wrap (k : Int) = (k : Int) := by rw [IntKind.wrap_i64]; omega
        have hI1 : (k : Int) + 1 < (ls.length : Int) := by omega
        have hI0 : (0 : Int) ≤ (k : Int) + 1 := by omega
        have hT : ((k : Int) + 1).toNat = k + 1 := by omega
        go_wp2
        go_still_tail 10, (by kernel_rfl)
        change wpList _ _ _ _ _ wr.drew
        go_wp2_with fail
        refine (compareL_any _ _ _ _ _ _ _ ?_ ?_ hlen2).mono ?_
        · exact C3.out.keep (by go_grown)
        · exact D3.out.keep (by go_grown)
        rintro e w1 ⟨rfl, rfl⟩
        have hB2 : Below w.heap.size w wr.drew := hB.trans (Below.trans (by go_grown) (Below.refl _ _))
      · have HN : Hid (RiseTo (sayL ls) (k + 1 + 1)) := H.out.step (sayL_at hlt) (sayL_at hlt') HQ.out
        go_wp2
        go_roundw
        case rel => exact ⟨k + 1, by go_num, by omega, hB2, HN.out⟩
        case measure => simp [intOf]; omega
      · have HE : Hid (bP (RiseTo (sayL ls) ls.length) = false) := bP_f fun h => by have h1 := h k _ _ hlt' (sayL_at hlt) (sayL_at hlt'); have h2 := HQ.out; omega
        go_wp2
        go_ret
        exact ⟨ret_b HE.out.symm, hB2⟩
    · have HE : Hid (bP (RiseTo (sayL ls) ls.length) = true) := bP_t (H.out.mono (by omega))
      go_wp2
      go_ret
      exact ⟨ret_b HE.out.symm, hB⟩

set_option maxRecDepth 20000 in
set_option maxHeartbeats 400000 in
theorem isRisingI_any (A : Option Addr) (xs : List Int) (c : Nat) (w : World) (hx : Ints w w.heap.size A xs) (h1 : xs.length ≤ 1048576) :
    Calls Tryd.prog 153 #[.slice A xs.length c, .func (.func 128) #[] #[]] w fun e w' => e = .returned (.bool (bP (RiseI xs xs.length))) ∧ Below w.heap.size w w' := by
  have HX := Lib.hid hx; clear hx
  have HCF := cmpI_enter
  go_enter Tryd.func153, Tryd.ntmps153
  go_wp2
  go_loopw [5] (fun i wr => ∃ (j : Nat), i = .int .i64 ((j + 1 : Nat) : Int) ∧ j ≤ xs.length ∧ Below w.heap.size w wr ∧ Hid (RiseI xs (j + 1))) (fun i _ => xs.length + 1 - (intOf i).toNat)
  case atStart => exact ⟨0, rfl, by omega, Below.refl _ _, RiseI.none _⟩
  case round =>
    obtain ⟨k, rfl, hk, hB, H⟩ := hrel
    by_cases hlt' : k + 1 < xs.length
    · have hlt : k < xs.length := by omega
      obtain ⟨b, o, rfl, hb, c1⟩ := (HX.out.keep hB).at_ hlt
      obtain ⟨b', o', e', hb', d1⟩ := (HX.out.keep hB).at_ hlt'
      injection e' with e'
      injection e' with e1 e2
      subst e1 e2
      by_cases hq : cmpI xs[k] xs[k + 1] < 0
      all_goals
        have HQ := Lib.hid hq
        have hwk : IntKind.i64.wrap (k : Int) = (k : Int) := by rw [IntKind.wrap_i64]; omega
        have hI1 : (k : Int) + 1 < (xs.length : Int) := by omega
        have hI0 : (0 : Int) ≤ (k : Int) + 1 := by omega
        have hT : ((k : Int) + 1).toNat = k + 1 := by omega
        go_wp2
        go_still_tail 10, (by kernel_rfl)
        change wpList _ _ _ _ _ wr.drew
        go_wp2_with fail
        refine (compareI_any _ _ _).mono ?_
        rintro e w1 ⟨rfl, rfl⟩
        have hB2 : Below w.heap.size w wr.drew := hB.trans (Below.trans (by go_grown) (Below.refl _ _))
      · have HN : Hid (RiseI xs (k + 1 + 1)) := H.out.step (List.getElem?_eq_getElem hlt) (List.getElem?_eq_getElem hlt') (cmpI_lt.1 HQ.out)
        go_wp2
        go_roundw
        case rel => exact ⟨k + 1, by go_num, by omega, hB2, HN.out⟩
        case measure => simp [intOf]; omega
      · have HE : Hid (bP (RiseI xs xs.length) = false) := bP_f fun h => by have h1 := cmpI_lt.2 (h k _ _ hlt' (List.getElem?_eq_getElem hlt) (List.getElem?_eq_getElem hlt')); have h2 := HQ.out; omega
        go_wp2
        go_ret
        exact ⟨ret_b HE.out.symm, hB2⟩
    · have HE : Hid (bP (RiseI xs xs.length) = true) := bP_t (H.out.mono (by omega))
      go_wp2
      go_ret
      exact ⟨ret_b HE.out.symm, hB⟩

set_option maxHeartbeats 400000 in
theorem allLong_any (A : Option Addr) (ls : List Li) (c : Nat) (long : Int) (w : World) (hx : Lls w w.heap.size A ls) (h1 : ls.length ≤ 1048576) :
    Calls Tryd.prog 113 #[.slice A ls.length c, .int .i64 long] w fun e w' => e = .returned (.bool (bP (LongTo long (sayL ls) ls.length))) ∧ w' = w := by
  have HX := Lib.hid hx; clear hx
  go_enter Tryd.func113, Tryd.ntmps113
  go_wp2
  go_loopw [9] (fun i wr => ∃ (k : Nat), k ≤ ls.length ∧ i = .int .i64 k ∧ wr = w ∧ Hid (LongTo long (sayL ls) k)) (fun i _ => ls.length - (intOf i).toNat)
  case atStart => exact ⟨0, by omega, rfl, rfl, fun j x h => absurd h (by omega)⟩
  case round =>
    obtain ⟨k, hk, rfl, rfl, H⟩ := hrel
    by_cases hlt : k < ls.length
    · obtain ⟨b, o, rfl, hb, c1, c2, c3⟩ := HX.out.at_ hlt
      clear c2 c3
      by_cases hne : (ls[k].r.length : Int) = long
      · have hd : ((ls[k].r.length : Int) != long) = false := bne_f hne
        have HN : Hid (LongTo long (sayL ls) (k + 1)) := upto_next (Q := fun x : List Int => (x.length : Int) = long) (sayL_at hlt) hne H.out
        clear hne
        go_wp2
        go_roundw
        case rel => exact ⟨k + 1, by omega, by go_num, trivial, HN.out⟩
        case measure => simp [intOf]; omega
      · have hd : ((ls[k].r.length : Int) != long) = true := bne_t hne
        have HN : Hid (bP (LongTo long (sayL ls) ls.length) = false) := bP_f fun h => hne (h k _ hlt (sayL_at hlt))
        clear hne
        go_wp2
        go_ret
        exact ⟨ret_b HN.out.symm, rfl⟩
    · have HN : Hid (bP (LongTo long (sayL ls) ls.length) = true) := bP_t (fun j x _ hx => H.out j x (by have := (List.getElem?_eq_some_iff.1 hx).1; rw [sayL_len] at this; omega) hx)
      go_wp2
      go_ret
      exact ⟨ret_b HN.out.symm, rfl⟩

end Go.Proofs.YtaobkanliiiapaaDoor

/- What the program's checks of a binary grammar answer: goodEmpty, goodLists, GoodBinary. -/

namespace Go.Proofs.YtaobkanliiiapaaDoor
open Go.RowKit
open Go.Sort (grow)

set_option maxRecDepth 20000 in
set_option maxHeartbeats 400000 in
theorem goodEmpty_any (n t : Int) (A : Option Addr) (xs : List Int) (c : Nat) (w : World) (hx : Ints w w.heap.size A xs) (h1 : xs.length ≤ 1048576) :
    Calls Tryd.prog 110 #[.agg #[.int .i64 n, .int .i64 t, .slice none 0 0], .slice A xs.length c] w fun e w' => e = .returned (.bool (bP (GoodE n xs))) ∧ Below w.heap.size w w' := by
  have HX := Lib.hid hx; clear hx
  have HBW : Hid (Below w.heap.size w (w.alloc (.cells #[.int .i64 n, .int .i64 t, .slice none 0 0] 54))) := by show Below _ _ _; go_grown
  have HB3 : Hid (Box3 (w.alloc (.cells #[.int .i64 n, .int .i64 t, .slice none 0 0] 54)) w.heap.size (.int .i64 n) (.int .i64 t) (.slice none 0 0)) := ⟨by simp, by simp [go_sem], by simp [go_sem], by simp [go_sem]⟩
  go_enter Tryd.func110, Tryd.ntmps110
  go_wp2
  go_loopw [9] (fun i wr => ∃ (k : Nat), k ≤ xs.length ∧ i = .int .i64 k ∧ Below w.heap.size w wr ∧ Box3 wr w.heap.size (.int .i64 n) (.int .i64 t) (.slice none 0 0) ∧ Hid (NonTo n xs k)) (fun i _ => xs.length - (intOf i).toNat)
  case atStart => exact ⟨0, by omega, rfl, HBW.out, HB3.out, fun j x h => absurd h (by omega)⟩
  case round =>
    obtain ⟨k, hk, rfl, hB, hbox, H⟩ := hrel
    by_cases hlt : k < xs.length
    · obtain ⟨b, o, rfl, hb, c1⟩ := (HX.out.keep hB).at_ hlt
      obtain ⟨g0, g1, g2, g3⟩ := id hbox
      have HBX := Lib.hid hbox; clear hbox
      cases hs : nonB n xs[k]
      all_goals
        have HSY := Lib.hid hs; clear hs
        go_wp2_with fail
        refine (isNon_any _ _ _ _ _).mono ?_
        rintro e w3 ⟨rfl, hB3⟩
        rw [HSY.out]
        have hB4 : Below w.heap.size w w3 := hB.trans (hB3.mono hB.size)
      · have HE : Hid (bP (GoodE n xs) = false) := bP_f fun h => by
          have := h.1 k _ hlt (List.getElem?_eq_getElem hlt)
          rw [HSY.out] at this; cases this
        go_wp2
        go_ret
        exact ⟨ret_b HE.out.symm, hB4⟩
      · have HN : Hid (NonTo n xs (k + 1)) := upto_next (Q := fun x => nonB n x = true) (List.getElem?_eq_getElem hlt) HSY.out H.out
        go_wp2
        go_roundw
        case rel => exact ⟨k + 1, by omega, by go_num, hB4, HBX.out.keep hB3 g0, HN.out⟩
        case measure => simp [intOf]; omega
    · have HN : Hid (NonTo n xs xs.length) := upto_end (Q := fun x => nonB n x = true) hlt H.out
      clear hbox H
      go_wp2_with fail
      refine (isRisingI_any _ _ _ _ ((HX.out.keep hB).more hB.size) h1).mono ?_
      rintro e w3 ⟨rfl, hB3⟩
      have HE : Hid (bP (GoodE n xs) = bP (RiseI xs xs.length)) := bP_congr ⟨fun h => h.2, fun h => ⟨HN.out, h⟩⟩
      have hB4 : Below w.heap.size w w3 := hB.trans (hB3.mono hB.size)
      clear hB3
      go_wp2
      go_ret
      exact ⟨ret_b HE.out.symm, hB4⟩

theorem Ints.drop1 {w : World} {B b o : Nat} {xs : List Int} (h : Ints w B (some ⟨b, o, none⟩) xs) : Ints w B (some ⟨b, o + 1, none⟩) (xs.drop 1) := by
  intro hn
  obtain ⟨b', o', e, hb, hc⟩ := h (by simp at hn; omega)
  injection e with e
  injection e with e1 e2
  subst e1 e2
  refine ⟨b, o + 1, rfl, hb, fun k x hx => ?_⟩
  rw [List.getElem?_drop] at hx
  have := hc _ _ hx
  rw [show o + (1 + k) = o + 1 + k by omega] at this
  exact this

theorem getD_zero {xs : List Int} (h : 0 < xs.length) : xs.getD 0 0 = xs[0] := by
  rw [List.getD_eq_getElem?_getD, List.getElem?_eq_getElem h]; rfl

set_option maxRecDepth 20000 in
set_option maxHeartbeats 1000000 in
theorem goodLists_any (n t : Int) (long : Nat) (hl2 : 2 ≤ long) (hl3 : long ≤ 3) (A : Option Addr) (ls : List Li) (c : Nat) (w : World) (hx : Lls w w.heap.size A ls) (h1 : ls.length ≤ 1048576) (h2 : ∀ u ∈ ls, u.r.length ≤ 1048576) (hf : FitL (sayL ls)) :
    Calls Tryd.prog 112 #[.agg #[.int .i64 n, .int .i64 t, .slice none 0 0], .slice A ls.length c, .int .i64 long] w fun e w' => e = .returned (.bool (bP (GoodLs n t long (sayL ls)))) ∧ Below w.heap.size w w' := by
  have HX := Lib.hid hx; clear hx
  have H2 := Lib.hid h2; clear h2
  have HF := Lib.hid hf; clear hf
  have HBW : Hid (Below w.heap.size w (w.alloc (.cells #[.int .i64 n, .int .i64 t, .slice none 0 0] 54))) := by show Below _ _ _; go_grown
  have HB3 : Hid (Box3 (w.alloc (.cells #[.int .i64 n, .int .i64 t, .slice none 0 0] 54)) w.heap.size (.int .i64 n) (.int .i64 t) (.slice none 0 0)) := ⟨by simp, by simp [go_sem], by simp [go_sem], by simp [go_sem]⟩
  have HLN : Hid ((sayL ls).length = ls.length) := sayL_len
  cases hq : bP (LongTo long (sayL ls) ls.length)
  · have HQ := Lib.hid hq; clear hq
    have HE : Hid (bP (GoodLs n t long (sayL ls)) = false) := bP_f fun h => bP_no HQ.out (by have := h.1; rw [HLN.out] at this; exact this)
    go_enter Tryd.func112, Tryd.ntmps112
    go_wp2_with fail
    refine (allLong_any _ _ _ _ _ ((HX.out.keep HBW.out).more HBW.out.size) h1).mono ?_
    rintro e w1 ⟨rfl, rfl⟩
    rw [HQ.out]
    go_wp2
    go_ret
    exact ⟨ret_b HE.out.symm, HBW.out⟩
  · have HQ := Lib.hid hq; clear hq
    have HLO : Hid (LongTo long (sayL ls) ls.length) := bP_is HQ.out
    go_enter Tryd.func112, Tryd.ntmps112
    go_wp2_with fail
    refine (allLong_any _ _ _ _ _ ((HX.out.keep HBW.out).more HBW.out.size) h1).mono ?_
    rintro e w1 ⟨rfl, rfl⟩
    rw [HQ.out]
    generalize (w.alloc (.cells #[.int .i64 n, .int .i64 t, .slice none 0 0] 54)) = W at HBW HB3 ⊢
    go_wp2
    go_loopw [15] (fun i wr => ∃ (k : Nat), k ≤ ls.length ∧ i = .int .i64 k ∧ Below w.heap.size w wr ∧ Box3 wr w.heap.size (.int .i64 n) (.int .i64 t) (.slice none 0 0) ∧ Hid (SymTo n t (sayL ls) k)) (fun i _ => ls.length - (intOf i).toNat)
    case atStart => exact ⟨0, by omega, rfl, HBW.out, HB3.out, fun j x h => absurd h (by omega)⟩
    case round =>
      obtain ⟨k, hk, rfl, hB, hbox, H⟩ := hrel
      by_cases hlt : k < ls.length
      · obtain ⟨b, o, rfl, hb, c1, c2, c3⟩ := (HX.out.keep hB).at_ hlt
        obtain ⟨g0, g1, g2, g3⟩ := id hbox
        have HBX := Lib.hid hbox; clear hbox
        have hlen2 := H2.out ls[k] (List.getElem_mem hlt)
        have HLK : Hid ((ls[k].r.length : Int) = long) := HLO.out k _ hlt (sayL_at hlt)
        have hr0 : 1 < ls[k].r.length := by have := HLK.out; omega
        have hc0 : 1 < ls[k].c := by omega
        have hci : (1 : Int) < (ls[k].c : Int) := by omega
        have hri : (1 : Int) < (ls[k].r.length : Int) := by omega
        obtain ⟨b', o', ea, hb', d1⟩ := c3.at_ (k := 0) (by omega)
        have C3 := Lib.hid (c3.more hB.size); clear c3
        rw [ea] at c1 C3
        rw [Nat.add_zero] at d1
        generalize hx0 : ls[k].r[0]'(by omega) = x0 at d1
        have HX0 : Hid (ls[k].r.getD 0 0 = x0) := (getD_zero (by omega)).trans hx0
        clear hx0
        have q0 := cell_regrown d1
        have p0 := cell_regrown g1
        have p1 := cell_regrown g2
        have p2 := cell_regrown g3
        have HRG : Hid (∀ d os, Below w.heap.size w (grow (redrawn wr d) os)) := fun d os => hB.trans ((below_regrown wr d os).mono hB.size)
        have HWR : Hid (∀ d os, Below wr.heap.size wr (grow (redrawn wr d) os)) := fun d os => below_regrown wr d os
        clear g1 g2 g3 d1 ea
        have HCG : Hid (∀ d os, Calls Tryd.prog 91 #[.agg #[.int .i64 n, .int .i64 t, .slice none 0 0], .int .i64 x0] (grow (redrawn wr d) os) fun e w' => e = .returned (.bool (nonB n x0)) ∧ Below (grow (redrawn wr d) os).heap.size (grow (redrawn wr d) os) w') := fun d os =>
          isNon_any _ _ _ _ _
        go_wp2
        cases hu : nonB n x0
        · have HU := Lib.hid hu; clear hu
          have HE : Hid (bP (GoodLs n t long (sayL ls)) = false) := bP_f fun h => by
            have h1 := (h.2.1 k _ (by rw [HLN.out]; exact hlt) (sayL_at hlt)).1
            rw [HX0.out, HU.out] at h1; cases h1
          rw [HU.out] at HCG
          refine wp_region_quiet_below (by kernel_rfl) (by kernel_rfl) ?_
          repeat (first | go_big_quiet_step (exact Calls.regrown_of (HCG.out _ _)) | quiet_step (exact Calls.regrown_of (HCG.out _ _)))
          refine wpQuiet_nil ?_
          intro _ hw'
          obtain ⟨⟨dq, osq⟩, hw''⟩ := hw'
          subst hw''
          go_wp2
          go_ret
          exact ⟨ret_b HE.out.symm, HRG.out dq osq⟩
        · have HU := Lib.hid hu; clear hu
          rw [HU.out] at HCG
          have HFK : Hid (∀ x ∈ ls[k].r.drop 1, F64 x) := fun x hx => HF.out ls[k].r (sayL_mem (List.getElem_mem hlt)) x (List.mem_of_mem_drop hx)
          have HCH : Hid (∀ d os, Calls Tryd.prog 154 #[.agg #[.int .i64 n, .int .i64 t, .slice none 0 0], .slice (some ⟨b', o' + 1, none⟩) (ls[k].r.length - 1) (ls[k].c - 1)] (grow (redrawn wr d) os) fun e w' => e = .returned (.bool (symsB n t (ls[k].r.drop 1))) ∧ Below (grow (redrawn wr d) os).heap.size (grow (redrawn wr d) os) w') := fun d os => by
            have h := allSymbols_any n t none (some ⟨b', o' + 1, none⟩) 0 0 (ls[k].c - 1) (ls[k].r.drop 1) (grow (redrawn wr d) os) ((C3.out.keep (HWR.out d os)).more (HWR.out d os).size).drop1 (by simp; omega) HFK.out
            rw [List.length_drop] at h
            exact h
          cases hh : symsB n t (ls[k].r.drop 1)
          all_goals
            have HH := Lib.hid hh; clear hh
            rw [HH.out] at HCH
            refine wp_region_quiet_below (by kernel_rfl) (by kernel_rfl) ?_
            repeat (first | go_big_quiet_step (first | with_reducible exact Calls.regrown_of (HCG.out _ _) | exact Calls.regrown_of (HCH.out _ _)) | quiet_step (first | with_reducible exact Calls.regrown_of (HCG.out _ _) | exact Calls.regrown_of (HCH.out _ _)))
            refine wpQuiet_nil ?_
            intro _ hw'
            obtain ⟨⟨dq, osq⟩, hw''⟩ := hw'
            subst hw''
            go_wp2
          · have HE : Hid (bP (GoodLs n t long (sayL ls)) = false) := bP_f fun h => by
              have h1 := (h.2.1 k _ (by rw [HLN.out]; exact hlt) (sayL_at hlt)).2
              rw [HH.out] at h1; cases h1
            go_ret
            exact ⟨ret_b HE.out.symm, HRG.out dq osq⟩
          · have HN : Hid (SymTo n t (sayL ls) (k + 1)) := upto_next (Q := symL n t) (sayL_at hlt) ⟨by rw [HX0.out]; exact HU.out, HH.out⟩ H.out
            go_roundw
            case rel => exact ⟨k + 1, by omega, by go_num, HRG.out dq osq, HBX.out.keep (HWR.out dq osq) g0, HN.out⟩
            case measure => simp [intOf]; omega
      · have HN : Hid (SymTo n t (sayL ls) (sayL ls).length) := upto_end (Q := symL n t) (k := k) (by rw [HLN.out]; exact hlt) H.out
        clear hbox H
        go_wp2_with fail
        refine (isRisingL_any _ _ _ _ ((HX.out.keep hB).more hB.size) h1 H2.out).mono ?_
        rintro e w3 ⟨rfl, hB3⟩
        have HE : Hid (bP (GoodLs n t long (sayL ls)) = bP (RiseTo (sayL ls) ls.length)) := bP_congr ⟨fun h => by have := h.2.2; rw [HLN.out] at this; exact this, fun h => ⟨by rw [HLN.out]; exact HLO.out, HN.out, by rw [HLN.out]; exact h⟩⟩
        have hB4 : Below w.heap.size w w3 := hB.trans (hB3.mono hB.size)
        clear hB3
        go_wp2
        go_ret
        exact ⟨ret_b HE.out.symm, hB4⟩

end Go.Proofs.YtaobkanliiiapaaDoor

/- What the program's GoodBinary answers. -/

namespace Go.Proofs.YtaobkanliiiapaaDoor
open Go.RowKit
open Go.Sort (grow)

/-- A binary grammar's box: its cells stay while only newer memory is written. -/
def Box6 (w : World) (g : Nat) (b : Bi) : Prop := g < w.heap.size ∧ w.cell? ⟨g, 0, none⟩ = some (.int .i64 b.n) ∧ w.cell? ⟨g, 1, none⟩ = some (.int .i64 b.t) ∧ w.cell? ⟨g, 2, none⟩ = some (.slice b.Ap b.P.length b.cp) ∧
  w.cell? ⟨g, 3, none⟩ = some (.slice b.Ao b.O.length b.co) ∧ w.cell? ⟨g, 4, none⟩ = some (.slice b.Ae b.E.length b.ce) ∧ w.cell? ⟨g, 5, none⟩ = some (.slice b.Af b.F.length b.cf)
theorem Box6.keep {w w' : World} {g B : Nat} {b : Bi} (h : Box6 w g b) (hb : Below B w w') (hB : g < B) : Box6 w' g b := by
  obtain ⟨h0, h1, h2, h3, h4, h5, h6⟩ := h
  exact ⟨by have := hb.size; omega, (hb.cell (p := ⟨g, 0, none⟩) hB).trans h1, (hb.cell (p := ⟨g, 1, none⟩) hB).trans h2, (hb.cell (p := ⟨g, 2, none⟩) hB).trans h3, (hb.cell (p := ⟨g, 3, none⟩) hB).trans h4, (hb.cell (p := ⟨g, 4, none⟩) hB).trans h5, (hb.cell (p := ⟨g, 5, none⟩) hB).trans h6⟩
theorem Box6.new (w : World) (b : Bi) (t : TypeId) : Box6 (w.alloc (.cells #[.int .i64 b.n, .int .i64 b.t, .slice b.Ap b.P.length b.cp, .slice b.Ao b.O.length b.co, .slice b.Ae b.E.length b.ce, .slice b.Af b.F.length b.cf] t)) w.heap.size b := ⟨by simp, by simp [go_sem], by simp [go_sem], by simp [go_sem], by simp [go_sem], by simp [go_sem], by simp [go_sem]⟩

set_option maxHeartbeats 400000 in
theorem symbolsOf_any (b : Bi) (w : World) :
    Calls Tryd.prog 92 #[(.agg #[.int .i64 b.n, .int .i64 b.t, .slice b.Ap b.P.length b.cp, .slice b.Ao b.O.length b.co, .slice b.Ae b.E.length b.ce, .slice b.Af b.F.length b.cf])] w fun e w' => e = .returned (.agg #[.int .i64 b.n, .int .i64 b.t, .slice none 0 0]) ∧ Below w.heap.size w w' := by
  go_enter Tryd.func92, Tryd.ntmps92
  go_wp2
  exact bodyPost_ret (v := .agg #[.int .i64 b.n, .int .i64 b.t, .slice none 0 0]) (by simp [results, Tryd.results92, go_sem]) rfl ⟨rfl, by go_grown⟩

set_option maxRecDepth 20000 in
set_option maxHeartbeats 1000000 in
theorem implGoodB_any (b : Bi) (w : World) (hx : ReadB w w.heap.size b) (hL : Lims w) (hm : LenB 1048576 b) (hf : FitB b.say) :
    Calls Tryd.prog 74 #[(.agg #[.int .i64 b.n, .int .i64 b.t, .slice b.Ap b.P.length b.cp, .slice b.Ao b.O.length b.co, .slice b.Ae b.E.length b.ce, .slice b.Af b.F.length b.cf])] w fun e w' => e = .returned (.bool (bP (GoodBs b.say))) ∧ Below w.heap.size w w' := by
  have HX := Lib.hid hx; clear hx
  have HL := Lib.hid hL; clear hL
  have HM := Lib.hid hm; clear hm
  have HF := Lib.hid hf; clear hf
  have hB0 : Below w.heap.size w (w.alloc (.cells #[.int .i64 b.n, .int .i64 b.t, .slice b.Ap b.P.length b.cp, .slice b.Ao b.O.length b.co, .slice b.Ae b.E.length b.ce, .slice b.Af b.F.length b.cf] 41)) := by go_grown
  have BX0 := Box6.new w b 41
  go_enter Tryd.func74, Tryd.ntmps74
  go_wp2_with fail
  generalize (w.alloc (.cells #[.int .i64 b.n, .int .i64 b.t, .slice b.Ap b.P.length b.cp, .slice b.Ao b.O.length b.co, .slice b.Ae b.E.length b.ce, .slice b.Af b.F.length b.cf] 41)) = W at hB0 BX0 ⊢
  have HB0 := Lib.hid hB0; clear hB0
  have HBX0 := Lib.hid BX0; clear BX0
  refine (within5 _ _ (HL.out.keep HB0.out (Nat.le_refl _))).mono ?_
  rintro e w1 ⟨rfl, hB1⟩
  have HBX1 := Lib.hid (HBX0.out.keep hB1 HBX0.out.1)
  have HB1 := Lib.hid (HB0.out.trans (hB1.mono HB0.out.size)); clear hB1 HBX0 HB0
  obtain ⟨_, b0, b1, b2, b3, b4, b5⟩ := HBX1.out
  cases hn : inB 1 40 b.n
  · have HE : Hid (bP (GoodBs b.say) = false) := bP_f fun h => inB_not hn h.1
    go_wp2
    go_ret
    exact ⟨ret_b HE.out.symm, HB1.out⟩
  have HN := Lib.hid (inB_and hn); clear hn
  go_wp2_with fail
  refine (within1 _ _ (HL.out.keep HB1.out (Nat.le_refl _))).mono ?_
  rintro e w2 ⟨rfl, hB2⟩
  have HBX2 := Lib.hid (HBX1.out.keep hB2 HBX1.out.1)
  have HB2 := Lib.hid (HB1.out.trans (hB2.mono HB1.out.size)); clear hB2 HBX1 HB1 b0 b1 b2 b3 b4 b5
  obtain ⟨_, b0, b1, b2, b3, b4, b5⟩ := HBX2.out
  cases ht : inB 1 4 b.t
  · have HE : Hid (bP (GoodBs b.say) = false) := bP_f fun h => inB_not ht h.2.1
    go_wp2
    go_ret
    exact ⟨ret_b HE.out.symm, HB2.out⟩
  have HT := Lib.hid (inB_and ht); clear ht
  go_wp2_with fail
  refine (symbolsOf_any _ _).mono ?_
  rintro e w3 ⟨rfl, hB3⟩
  have HBX3 := Lib.hid (HBX2.out.keep hB3 HBX2.out.1)
  have HB3 := Lib.hid (HB2.out.trans (hB3.mono HB2.out.size)); clear hB3 HBX2 HB2 b0 b1 b2 b3 b4 b5
  obtain ⟨_, b0, b1, b2, b3, b4, b5⟩ := HBX3.out
  go_wp2_with fail
  have hB4 : Below w3.heap.size w3 (w3.alloc (.cells #[.int .i64 b.n, .int .i64 b.t, .slice none 0 0] 54)) := by go_grown
  have BG4 : Box3 (w3.alloc (.cells #[.int .i64 b.n, .int .i64 b.t, .slice none 0 0] 54)) w3.heap.size (.int .i64 b.n) (.int .i64 b.t) (.slice none 0 0) := ⟨by simp, by simp [go_sem], by simp [go_sem], by simp [go_sem]⟩
  generalize (w3.alloc (.cells #[.int .i64 b.n, .int .i64 b.t, .slice none 0 0] 54)) = w4 at hB4 BG4 ⊢
  have HBG4 := Lib.hid BG4; clear BG4
  have HBX4 := Lib.hid (HBX3.out.keep hB4 HBX3.out.1)
  have HB4 := Lib.hid (HB3.out.trans (hB4.mono HB3.out.size)); clear hB4 HBX3 HB3 b0 b1 b2 b3 b4 b5
  refine (goodLists_any _ _ 3 (by omega) (by omega) _ _ _ _ ((HX.out.1.keep HB4.out).more HB4.out.size) HM.out.p HM.out.ps HF.out.1).mono ?_
  rintro e w5 ⟨rfl, hB5⟩
  have HBG5 := Lib.hid (HBG4.out.keep hB5 HBG4.out.1)
  have HBX5 := Lib.hid (HBX4.out.keep hB5 HBX4.out.1)
  have HB5 := Lib.hid (HB4.out.trans (hB5.mono HB4.out.size)); clear hB5 HBX4 HB4 HBG4
  obtain ⟨_, b0, b1, b2, b3, b4, b5⟩ := HBX5.out
  obtain ⟨_, y0, y1, y2⟩ := HBG5.out
  cases hP : bP (GoodLs b.n b.t (3 : Nat) (sayL b.P))
  · have HE : Hid (bP (GoodBs b.say) = false) := bP_f fun h => bP_no hP h.2.2.1
    go_wp2
    go_ret
    exact ⟨ret_b HE.out.symm, HB5.out⟩
  have HP := Lib.hid (bP_is hP); clear hP
  go_wp2_with fail
  clear b0 b1 b2 b3 b4 b5 y0 y1 y2
  refine (goodLists_any _ _ 2 (by omega) (by omega) _ _ _ _ ((HX.out.2.1.keep HB5.out).more HB5.out.size) HM.out.o HM.out.os HF.out.2.1).mono ?_
  rintro e w6 ⟨rfl, hB6⟩
  have HBG6 := Lib.hid (HBG5.out.keep hB6 HBG5.out.1)
  have HBX6 := Lib.hid (HBX5.out.keep hB6 HBX5.out.1)
  have HB6 := Lib.hid (HB5.out.trans (hB6.mono HB5.out.size)); clear hB6 HBX5 HB5 HBG5
  obtain ⟨_, b0, b1, b2, b3, b4, b5⟩ := HBX6.out
  obtain ⟨_, y0, y1, y2⟩ := HBG6.out
  cases hO : bP (GoodLs b.n b.t (2 : Nat) (sayL b.O))
  · have HE : Hid (bP (GoodBs b.say) = false) := bP_f fun h => bP_no hO h.2.2.2.1
    go_wp2
    go_ret
    exact ⟨ret_b HE.out.symm, HB6.out⟩
  have HO := Lib.hid (bP_is hO); clear hO
  go_wp2_with fail
  clear b0 b1 b2 b3 b4 b5 y0 y1 y2
  refine (goodEmpty_any _ _ _ _ _ _ ((HX.out.2.2.1.keep HB6.out).more HB6.out.size) HM.out.e).mono ?_
  rintro e w7 ⟨rfl, hB7⟩
  have HBG7 := Lib.hid (HBG6.out.keep hB7 HBG6.out.1)
  have HBX7 := Lib.hid (HBX6.out.keep hB7 HBX6.out.1)
  have HB7 := Lib.hid (HB6.out.trans (hB7.mono HB6.out.size)); clear hB7 HBX6 HB6 HBG6
  obtain ⟨_, b0, b1, b2, b3, b4, b5⟩ := HBX7.out
  obtain ⟨_, y0, y1, y2⟩ := HBG7.out
  cases hE : bP (GoodE b.n b.E)
  · have HE : Hid (bP (GoodBs b.say) = false) := bP_f fun h => bP_no hE h.2.2.2.2.1
    go_wp2
    go_ret
    exact ⟨ret_b HE.out.symm, HB7.out⟩
  have HE := Lib.hid (bP_is hE); clear hE
  have HFN : Hid ((sayL b.F).length = b.F.length) := sayL_len
  by_cases hfl : (b.F.length : Int) ≤ b.n
  · go_wp2_with fail
    refine (allLong_any _ _ _ _ _ ((HX.out.2.2.2.keep HB7.out).more HB7.out.size) HM.out.f).mono ?_
    rintro e w8 ⟨rfl, rfl⟩
    have HE : Hid (bP (GoodBs b.say) = bP (LongTo 2 (sayL b.F) b.F.length)) := bP_congr ⟨fun h => by have := h.2.2.2.2.2.2; exact HFN.out ▸ this, fun h => ⟨HN.out, HT.out, HP.out, HO.out, HE.out, (by show ((sayL b.F).length : Int) ≤ b.n; rw [HFN.out]; exact hfl), (by show LongTo 2 (sayL b.F) (sayL b.F).length; rw [HFN.out]; exact h)⟩⟩
    go_wp2
    go_ret
    exact ⟨ret_b HE.out.symm, HB7.out⟩
  · have HE : Hid (bP (GoodBs b.say) = false) := bP_f fun h => hfl (by have : ((sayL b.F).length : Int) ≤ b.n := h.2.2.2.2.2.1; rw [HFN.out] at this; exact this)
    go_wp2
    go_ret
    exact ⟨ret_b HE.out.symm, HB7.out⟩

end Go.Proofs.YtaobkanliiiapaaDoor
