/- The reference's l4Table. -/
import Derived.Test.YtkghblgiojidgaaDoorFitS
import Derived.Test.YtkghblgiojidgaaDoorSpecGood2
import Derived.Test.YtkghblgiojidgaaDoorSets
import Derived.Deep.LoopGhost
import Derived.Deep.RegionHeld
namespace Go.Proofs.YtkghblgiojidgaaDoor
open Go.RowKit

theorem make_boolsM (n : Nat) (hn : n ≤ 121) (w : World) :
    (Instr.makeSlice 85 (.int .i64 (n : Int)) (.int .i64 (n : Int))).run Tryd.prog w = .ok (.slice (some ⟨w.heap.size, 0, none⟩) n n) (w.alloc (.cells (bools n fun _ => false) 4)) := by
  obtain ⟨i, hi, hz, hs, hb⟩ := info_of Tryd.infoBool
  have h := run_make (P := Tryd.prog) w 85 4 i _ Tryd.underlying85 hi hz .i64 .i64 n n (by omega) (by omega) (by rw [hb]; omega) (by omega)
  rw [hs] at h
  rw [← bools_no]
  simpa [Value.cells] using h
def noB : Nat → Nat → Bool := fun _ _ => false
theorem TabR.made (w : World) (N M : Nat) : TabR (w.alloc (.cells (zS N) 85)) w.heap.size N M 0 noB :=
  ⟨⟨zS N, Row.new w _ _, zS_size _, fun a h => absurd h (by omega)⟩, fun a h => absurd h (by omega)⟩
theorem TabR.grow {w : World} {S N M k : Nat} (h : TabR w S N M k noB) (hs : w.heap.size = S + 1 + k) (hk : k < N) :
    TabR ((w.setCell ⟨S, k, none⟩ (.slice (some ⟨w.heap.size, 0, none⟩) M M)).alloc (.cells (bools M fun _ => false) 4)) S N M (k + 1) noB := by
  obtain ⟨⟨cs, h1, h1s, h1'⟩, h3⟩ := h
  generalize hW : w.setCell ⟨S, k, none⟩ (.slice (some ⟨w.heap.size, 0, none⟩) M M) = W
  have hz : W.heap.size = w.heap.size := by subst hW; simp
  have hT : Row (W.alloc (.cells (bools M fun _ => false) 4)) w.heap.size 4 (bools M fun _ => false) := by
    have h := Row.new W 4 (bools M fun _ => false)
    rw [hz] at h
    exact h
  have k1 : Row W S 85 (cs.setIfInBounds k (.slice (some ⟨w.heap.size, 0, none⟩) M M)) := by subst hW; exact h1.set k _
  refine ⟨⟨_, k1.alloc _, by simp [h1s], fun a ha => ?_⟩, fun a ha => ?_⟩
  · rw [Array.getElem?_setIfInBounds]
    by_cases e : k = a
    · subst e
      rw [if_pos rfl, if_pos (by omega), hs]
    · rw [if_neg e]
      exact h1' a (by omega)
  · by_cases e : a = k
    · subst e
      rw [← hs]
      exact hT
    · have h4 := h3 a (by omega)
      refine Row.alloc ?_ _
      subst hW
      exact h4.far (by simp; omega) _

/-- What l4Table gives. -/
def GaveT (w : World) (N : Nat) (ws : List Int) (ss : List (Int × List Int)) (e : Ending) (w' : World) : Prop :=
  ∃ S T, e = .returned (.slice (some ⟨S, 0, none⟩) N N) ∧ TabR w' S N ((ws.length + 1) * (ws.length + 1)) N T ∧ (∀ x i j, DT ws.length T x i j ↔ Der ss ws x i j) ∧ Below w.heap.size w w'

set_option maxRecDepth 20000 in
set_option maxHeartbeats 4000000 in
theorem l4Table_any (N : Nat) (t : Int) (A : Option Addr) (c : Nat) (rs : List Ru) (Aw : Option Addr) (cw : Nat) (ws : List Int) (w : World) (hx : Rls w w.heap.size A rs) (hg : goodG (N : Int) t (rs.map Ru.abs) = true) (hcap : ∀ u ∈ rs, u.r.length ≤ u.c) (hw : ws.length ≤ 10) (hW : Ints w w.heap.size Aw ws) :
    Calls Tryd.prog 61 #[.agg #[.int .i64 (N : Int), .int .i64 t, .slice A rs.length c], .slice Aw ws.length cw] w (GaveT w N ws (rs.map Ru.abs)) := by
  have h16 := good_16 hg
  have hN : N ≤ 6 := by have := goodG_is hg; omega
  have HX := Lib.hid hx; clear hx
  have HG := Lib.hid hg; clear hg
  have HW := Lib.hid hW; clear hW
  have HCP := Lib.hid hcap; clear hcap
  have HB0 : Hid (Below w.heap.size w (w.alloc (.cells #[.int .i64 N, .int .i64 t, .slice A rs.length c] 30))) := by show Below _ _ _; go_grown
  have B00 : Hid (Box3 (w.alloc (.cells #[.int .i64 N, .int .i64 t, .slice A rs.length c] 30)) w.heap.size (.int .i64 N) (.int .i64 t) (.slice A rs.length c)) := ⟨by simp, by simp [go_sem], by simp [go_sem], by simp [go_sem]⟩
  obtain ⟨M, hM⟩ : ∃ M, M = (ws.length + 1) * (ws.length + 1) := ⟨_, rfl⟩
  have hM121 : M ≤ 121 := by rw [hM]; exact (Nat.mul_le_mul (by omega) (by omega) : (ws.length + 1) * (ws.length + 1) ≤ 11 * 11)
  have hmul : ((ws.length : Int) + 1) * ((ws.length : Int) + 1) = (M : Int) := by rw [hM]; simp
  have HCL : Hid (∀ i j, i ≤ ws.length → j ≤ ws.length → i * (ws.length + 1) + j < M) := fun i j hi hj => by rw [hM]; exact cell_lt hi hj
  have HM := Lib.hid hM; clear hM
  have hmr := make_rows N hN
  have hmb := make_boolsM M hM121
  have HT0 : Hid (TabR ((w.alloc (.cells #[.int .i64 N, .int .i64 t, .slice A rs.length c] 30)).alloc (.cells (zS N) 85)) (w.heap.size + 1) N M 0 noB) := by
    have h := TabR.made (w.alloc (.cells #[.int .i64 N, .int .i64 t, .slice A rs.length c] 30)) N M
    rw [World.size_alloc] at h
    exact h
  have HBT : Hid (Below w.heap.size w ((w.alloc (.cells #[.int .i64 N, .int .i64 t, .slice A rs.length c] 30)).alloc (.cells (zS N) 85))) := by show Below _ _ _; go_grown
  have BXT := Lib.hid (B00.out.keep (w' := (w.alloc (.cells #[.int .i64 N, .int .i64 t, .slice A rs.length c] 30)).alloc (.cells (zS N) 85)) ((Below.refl _ _).alloc (Nat.le_refl _) _) (by simp))
  have HZT : Hid (((w.alloc (.cells #[.int .i64 N, .int .i64 t, .slice A rs.length c] 30)).alloc (.cells (zS N) 85)).heap.size = w.heap.size + 1 + 1) := by show _ = _; simp
  go_enter Tryd.func61, Tryd.ntmps61
  go_wp2
  generalize (w.alloc (.cells #[.int .i64 N, .int .i64 t, .slice A rs.length c] 30)).alloc (.cells (zS N) 85) = X at *
  clear HB0 B00 hmr
  obtain ⟨S, hS⟩ : ∃ S, S = w.heap.size + 1 := ⟨_, rfl⟩
  rw [← hS] at HT0 HZT ⊢
  have HS := Lib.hid hS
  have hwS : w.heap.size < S := by omega
  clear hS
  go_loopw [21] (fun i wr => ∃ (k : Nat), k ≤ N ∧ i = .int .i64 k ∧ Hid (TabR wr S N M k noB) ∧ Hid (wr.heap.size = S + 1 + k) ∧ Hid (Below w.heap.size w wr) ∧ Hid (Box3 wr w.heap.size (.int .i64 N) (.int .i64 t) (.slice A rs.length c))) (fun i _ => N - (intOf i).toNat)
  case atStart => exact ⟨0, by omega, rfl, HT0.out, HZT.out, HBT.out, BXT.out⟩
  case round =>
    obtain ⟨k, hk, rfl, HT, HZ, HB, HU⟩ := hrel
    clear HT0 HBT BXT HZT
    by_cases hlt : k < N
    · have HN := Lib.hid (HT.out.grow HZ.out hlt)
      obtain ⟨⟨cs, d1, d2, _⟩, _⟩ := HT.out
      obtain ⟨x0, c1⟩ : ∃ x0, wr.cell? ⟨S, k, none⟩ = some x0 := ⟨_, (d1.cell k).trans (Array.getElem?_eq_getElem (by omega))⟩
      have f1 := d1.frozen k
      have hz2 : S < wr.heap.size := d1.lt
      have HUN : Hid (Box3 ((wr.setCell ⟨S, k, none⟩ (.slice (some ⟨wr.heap.size, 0, none⟩) M M)).alloc (.cells (bools M fun _ => false) 4)) w.heap.size (.int .i64 N) (.int .i64 t) (.slice A rs.length c)) := HU.out.keep (B := S) (((Below.refl _ _).setCell (by simp) _).alloc (by simp; omega) _) hwS
      clear d1 d2
      go_wp2
      go_roundw
      case rel => exact ⟨k + 1, by omega, by go_num, HN.out, by have h1 := HZ.out; show _ = _; simp; omega, (HB.out.setCell (by simp; omega) _).alloc (by have := HB.out.size; simp; omega) _, HUN.out⟩
      case measure => simp [intOf]; omega
    · obtain rfl : k = N := by omega
      clear hmb HZ
      obtain ⟨wO, hwO⟩ : ∃ x, x = wr := ⟨_, rfl⟩
      subst hwO
      have HK : Hid (TabR wO S k M k noB) := HT.out
      clear HT
      go_wp2
      go_loopg [8] (2 * (726 - cntT noB) + 1) (fun g m wr => ∃ (more : Bool) (T : Nat → Nat → Bool), m = .bool more ∧ g = 2 * (726 - cntT T) + (if more then 1 else 0) ∧ Hid (TabR wr S k M k T) ∧ Hid (OkT (rs.map Ru.abs) ws T) ∧ Hid (Below w.heap.size w wr) ∧ Hid (Box3 wr w.heap.size (.int .i64 k) (.int .i64 t) (.slice A rs.length c)) ∧ Hid (more = false → ∀ x i j, DT ws.length T x i j ↔ Der (rs.map Ru.abs) ws x i j))
      case atStart => exact ⟨true, noB, rfl, rfl, HK.out, okT_no _ _, HB.out, HU.out, fun h => by cases h⟩
      case round =>
        obtain ⟨more, T, rfl, hgk, HTm, HOm, HBm, HUm, HDm⟩ := hrel
        clear HK HB HU
        cases more
        · have HDD := Lib.hid (HDm.out rfl)
          rw [HM.out] at HTm
          go_wp2
          go_ret
          exact ⟨S, T, rfl, HTm.out, HDD.out, HBm.out⟩
        · rw [if_pos rfl] at hgk
          clear HDm
          obtain ⟨wM, hwM⟩ : ∃ x, x = wr := ⟨_, rfl⟩
          subst hwM
          obtain ⟨_, b0, b1, b2⟩ := HUm.out
          go_wp2
          clear b0 b1 b2
          go_loopw [8, 36] (fun m i wr => ∃ (j : Nat) (more : Bool) (T2 : Nat → Nat → Bool), j ≤ rs.length ∧ i = .int .i64 j ∧ m = .bool more ∧ Hid (TabR wr S k M k T2) ∧ Hid (PassT (rs.map Ru.abs) ws j 0 0 T T2 more) ∧ Hid (Below w.heap.size w wr) ∧ Hid (Box3 wr w.heap.size (.int .i64 k) (.int .i64 t) (.slice A rs.length c))) (fun _ i _ => rs.length - (intOf i).toNat)
          case atStart => exact ⟨0, false, T, by omega, rfl, rfl, HTm.out, PassT.start HOm.out, HBm.out, HUm.out⟩
          case round =>
            obtain ⟨j, more, T2, hj, rfl, rfl, HT2, HP2, HB2, HU2⟩ := hrel
            clear HTm HOm HBm HUm
            by_cases hlt2 : j < rs.length
            · obtain ⟨p, o, hA, hp, c1, c2, c3⟩ := (HX.out.keep HB2.out).at_ hlt2
              have hum : rs[j].abs ∈ rs.map Ru.abs := List.mem_map.2 ⟨_, List.getElem_mem hlt2, rfl⟩
              have h4 := good_len HG.out hum
              have HGM := Lib.hid (goodG_mem HG.out hum)
              obtain ⟨L, hL⟩ : ∃ L : Nat, rs[j].l = (L : Int) := ⟨_, Int.eq_ofNat_of_zero_le HGM.out.1.1 |>.choose_spec⟩
              have hLk : L < k := by have h : rs[j].l < k := HGM.out.1.2; omega
              have HJ : Hid ((rs.map Ru.abs)[j]? = some ((L : Int), rs[j].r)) := by show _ = _; rw [List.getElem?_map, List.getElem?_eq_getElem hlt2, ← hL]; rfl
              have HSY : Hid (∀ x ∈ rs[j].r, -10 ≤ x ∧ x < k) := fun x hx => by have h := HGM.out.2.2 x hx; have := goodG_is HG.out; omega
              have HCR := Lib.hid (HCP.out rs[j] (List.getElem_mem hlt2))
              rw [hL] at c1
              have HBR : Hid (Below wr.heap.size wr (wr.alloc (.cells #[.int .i64 L, .slice rs[j].a rs[j].r.length rs[j].c] 61))) := (Below.refl _ _).alloc (Nat.le_refl _) _
              have HBU : Hid (Box2 (wr.alloc (.cells #[.int .i64 L, .slice rs[j].a rs[j].r.length rs[j].c] 61)) wr.heap.size (.int .i64 L) (.slice rs[j].a rs[j].r.length rs[j].c)) := ⟨by simp, by simp [go_sem], by simp [go_sem]⟩
              have HTY := Lib.hid (HT2.out.keep HBR.out HT2.out.lt)
              have HBY : Hid (Below w.heap.size w (wr.alloc (.cells #[.int .i64 L, .slice rs[j].a rs[j].r.length rs[j].c] 61))) := HB2.out.trans (HBR.out.mono HB2.out.size)
              have HUY := Lib.hid (HU2.out.keep HBR.out HU2.out.1)
              have HI : Hid (∀ u, Below w.heap.size w u → Ints u u.heap.size rs[j].a rs[j].r) := fun u hu => by
                obtain ⟨_, _, _, _, _, _, h⟩ := (HX.out.keep hu).at_ hlt2
                exact h.more hu.size
              have hwl : S + 1 + k ≤ wr.heap.size := HT2.out.lt
              clear c3 hum hL HT2 HB2 HU2
              subst hA
              obtain ⟨wP, hwP⟩ : ∃ x, x = wr := ⟨_, rfl⟩
              subst hwP
              obtain ⟨_, r0, r1⟩ := HBU.out
              go_wp2
              generalize (wP.alloc (.cells #[.int .i64 L, .slice rs[j].a rs[j].r.length rs[j].c] 61)) = Y at *
              clear r0 r1 c1 c2
              obtain ⟨Q, hQ⟩ : ∃ x, x = wP.heap.size := ⟨_, rfl⟩
              rw [← hQ] at HBU hwl ⊢
              clear hQ HBR
              go_loopw [8, 11] (fun m n wr => ∃ (i : Nat) (more : Bool) (T2 : Nat → Nat → Bool), i ≤ ws.length + 1 ∧ n = .int .i64 i ∧ m = .bool more ∧ Hid (TabR wr S k M k T2) ∧ Hid (PassT (rs.map Ru.abs) ws j i 0 T T2 more) ∧ Hid (Below w.heap.size w wr) ∧ Hid (Box3 wr w.heap.size (.int .i64 k) (.int .i64 t) (.slice (some ⟨p, o, none⟩) rs.length c)) ∧ Hid (Box2 wr Q (.int .i64 L) (.slice rs[j].a rs[j].r.length rs[j].c))) (fun _ n _ => ws.length + 1 - (intOf n).toNat)
              case atStart => exact ⟨0, more, T2, by omega, rfl, rfl, HTY.out, HP2.out, HBY.out, HUY.out, HBU.out⟩
              case round =>
                obtain ⟨i, more, T2, hi, rfl, rfl, HT3, HP3, HB3, HU3, HR3⟩ := hrel
                clear HTY HP2 HBY HUY HBU
                by_cases hlt3 : i < ws.length + 1
                · have HPO := Lib.hid HP3.out.open_
                  have hi' : (i : Int) < (ws.length : Int) + 1 := by omega
                  obtain ⟨wI, hwI⟩ : ∃ x, x = wr := ⟨_, rfl⟩
                  subst hwI
                  go_wp2
                  go_loopw [8, 12] (fun m n wr => ∃ (e : Nat) (more : Bool) (T2 : Nat → Nat → Bool), e ≤ ws.length + 1 ∧ n = .int .i64 e ∧ m = .bool more ∧ Hid (TabR wr S k M k T2) ∧ Hid (PassT (rs.map Ru.abs) ws j i e T T2 more) ∧ Hid (Below w.heap.size w wr) ∧ Hid (Box3 wr w.heap.size (.int .i64 k) (.int .i64 t) (.slice (some ⟨p, o, none⟩) rs.length c)) ∧ Hid (Box2 wr Q (.int .i64 L) (.slice rs[j].a rs[j].r.length rs[j].c))) (fun _ n _ => ws.length + 1 - (intOf n).toNat)
                  case atStart => exact ⟨i, more, T2, by omega, rfl, rfl, HT3.out, HPO.out, HB3.out, HU3.out, HR3.out⟩
                  case round =>
                    obtain ⟨e, more, T2, he, rfl, rfl, HT4, HP4, HB4, HU4, HR4⟩ := hrel
                    clear HT3 HP3 HB3 HU3 HR3 HPO
                    by_cases hlt4 : e < ws.length + 1
                    · have he' : (e : Int) < (ws.length : Int) + 1 := by omega
                      have hql := HCL.out i e (by omega) (by omega)
                      have k1 := HT4.out.row hLk
                      obtain ⟨k2, k3⟩ := HT4.out.at_ hLk hql
                      obtain ⟨_, r0, r1⟩ := HR4.out
                      have hq : (i : Int) * ((ws.length : Int) + 1) + (e : Int) = ((i * (ws.length + 1) + e : Nat) : Int) := by simp
                      have hb0 : (i : Int) * ((ws.length : Int) + 1) ≤ 121 := by omega
                      have hb1 : 0 ≤ (i : Int) * ((ws.length : Int) + 1) := Int.mul_nonneg (by omega) (by omega)
                      have HSK : Hid (T2 L (i * (ws.length + 1) + e) = true ∨ ¬ SeqD (DT ws.length T2) ws rs[j].r i e → PassT (rs.map Ru.abs) ws j i (e + 1) T T2 more) := fun h => HP4.out.skip HJ.out (by omega) (by omega) h
                      have HPU : Hid (T2 L (i * (ws.length + 1) + e) = false → SeqD (DT ws.length T2) ws rs[j].r i e → PassT (rs.map Ru.abs) ws j i (e + 1) T (setB T2 L (i * (ws.length + 1) + e)) true) := fun h h' => HP4.out.put HJ.out (by omega) hw (by omega) (by omega) h h'
                      have HTU := Lib.hid (HT4.out.put (c := i * (ws.length + 1) + e) hLk)
                      have HTM : Hid (TabR wr S k ((ws.length + 1) * (ws.length + 1)) k T2) := by have h := HT4.out; rw [HM.out] at h; exact h
                      have HF := Lib.hid (l4Fits_any S k T2 Aw cw ws wr HTM.out ((HW.out.keep HB4.out).more HB4.out.size) hw HP4.out.1.inD e (by omega) rs[j].r rs[j].a rs[j].c i (HI.out _ HB4.out) HCR.out h4 HSY.out (by omega))
                      generalize hqq : i * (ws.length + 1) + e = q at *
                      clear hqq HTM
                      cases hc : T2 L q
                      · rw [hc] at k2
                        cases hs : bD (SeqD (DT ws.length T2) ws rs[j].r i e)
                        · have HN := Lib.hid (HSK.out (.inr fun h => by rw [bD_t h] at hs; cases hs))
                          have HSV := Lib.hid hs; clear hs hc
                          go_wp2_with fail
                          refine HF.out.mono ?_
                          rintro e' w1 ⟨rfl, rfl⟩
                          rw [HSV.out]
                          go_wp2
                          go_roundw
                          case rel => exact ⟨e + 1, more, T2, by omega, by go_num, rfl, HT4.out, HN.out, HB4.out, HU4.out, HR4.out⟩
                          case measure => simp [intOf]; omega
                        · have HN := Lib.hid (HPU.out hc (bD_iff.1 hs))
                          have HSV := Lib.hid hs; clear hs hc
                          have HBU : Hid (Below w.heap.size w (wr.setCell ⟨S + 1 + L, q, none⟩ (.bool true))) := HB4.out.setCell (by simp; omega) _
                          have HUU : Hid (Box3 (wr.setCell ⟨S + 1 + L, q, none⟩ (.bool true)) w.heap.size (.int .i64 k) (.int .i64 t) (.slice (some ⟨p, o, none⟩) rs.length c)) := HU4.out.keep (B := S) ((Below.refl _ _).setCell (by simp; omega) _) hwS
                          have HRU : Hid (Box2 (wr.setCell ⟨S + 1 + L, q, none⟩ (.bool true)) Q (.int .i64 L) (.slice rs[j].a rs[j].r.length rs[j].c)) := ⟨by rw [World.size_setCell]; exact HR4.out.1, (World.cell?_setCell_far _ _ _ _ (by simp; omega)).trans r0, (World.cell?_setCell_far _ _ _ _ (by simp; omega)).trans r1⟩
                          go_wp2_with fail
                          refine HF.out.mono ?_
                          rintro e' w1 ⟨rfl, rfl⟩
                          rw [HSV.out]
                          go_wp2
                          go_roundw
                          case rel => exact ⟨e + 1, true, _, by omega, by go_num, rfl, HTU.out, HN.out, HBU.out, HUU.out, HRU.out⟩
                          case measure => simp [intOf]; omega
                      · rw [hc] at k2
                        have HN := Lib.hid (HSK.out (.inl hc))
                        clear hc
                        go_wp2
                        go_roundw
                        case rel => exact ⟨e + 1, more, T2, by omega, by go_num, rfl, HT4.out, HN.out, HB4.out, HU4.out, HR4.out⟩
                        case measure => simp [intOf]; omega
                    · obtain rfl : e = ws.length + 1 := by omega
                      have HN := Lib.hid HP4.out.line
                      go_wp2
                      go_roundw
                      case rel => exact ⟨i + 1, more, T2, by omega, by go_num, rfl, HT4.out, HN.out, HB4.out, HU4.out, HR4.out⟩
                      case measure => simp [intOf]; omega
                · obtain rfl : i = ws.length + 1 := by omega
                  have HN := Lib.hid HP3.out.rule
                  go_wp2
                  go_roundw
                  case rel => exact ⟨j + 1, more, T2, by omega, by go_num, rfl, HT3.out, HN.out, HB3.out, HU3.out⟩
                  case measure => simp [intOf]; omega
            · obtain rfl : j = rs.length := by omega
              have HPE : Hid (PassT (rs.map Ru.abs) ws (rs.map Ru.abs).length 0 0 T T2 more) := by have h := HP2.out; rw [List.length_map]; exact h
              have HDE : Hid (more = false → ∀ x i j, DT ws.length T2 x i j ↔ Der (rs.map Ru.abs) ws x i j) := fun e x i j => by have h := HPE.out; rw [e] at h; exact h.done
              have HME : Hid (2 * (726 - cntT T2) + (if more then 1 else 0) < 2 * (726 - cntT T) + 1) := by
                show _ < _
                have h1 := cntT_most T2
                cases more
                · rw [(HPE.out.2.2 rfl).1]; simp
                · have h2 := HPE.out.2.1 rfl; simp; omega
              go_wp2
              go_roundg (2 * (726 - cntT T2) + (if more then 1 else 0))
              case measure => rw [hgk]; exact HME.out
              case rel => exact ⟨more, T2, rfl, rfl, HT2.out, HPE.out.1, HB2.out, HU2.out, HDE.out⟩

end Go.Proofs.YtkghblgiojidgaaDoor
