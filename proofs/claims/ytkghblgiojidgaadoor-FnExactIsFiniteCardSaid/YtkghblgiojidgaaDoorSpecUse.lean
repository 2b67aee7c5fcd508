/- The reference's l3Useful. -/
import Derived.Test.YtkghblgiojidgaaDoorSpecRea
import Derived.Test.YtkghblgiojidgaaDoorUseI
import Derived.Deep.RegionLaw
import Derived.Deep.AppendLies
namespace Go.Proofs.YtkghblgiojidgaaDoor
open Go.RowKit

/-- Right sides lie apart. -/
def Far (ds : List Ru) : Prop := ds.Pairwise fun u v => u.r ≠ [] → v.r ≠ [] → u.a ≠ v.a
theorem far_of {ds : List Ru} (h : ∀ (i j : Nat) (u v : Ru), ds[i]? = some u → ds[j]? = some v → i ≠ j → u.r ≠ [] → v.r ≠ [] → u.a ≠ v.a) : Far ds :=
  List.pairwise_iff_getElem.2 fun i j hi hj hij => h i j _ _ (List.getElem?_eq_getElem hi) (List.getElem?_eq_getElem hj) (by omega)
theorem Far.all {ds : List Ru} (h : Far ds) : ∀ (i j : Nat) (u v : Ru), ds[i]? = some u → ds[j]? = some v → i ≠ j → u.r ≠ [] → v.r ≠ [] → u.a ≠ v.a := by
  intro i j u v hu hv hij h1 h2
  obtain ⟨hi, rfl⟩ := List.getElem?_eq_some_iff.1 hu
  obtain ⟨hj, rfl⟩ := List.getElem?_eq_some_iff.1 hv
  rcases Nat.lt_or_gt_of_ne hij with hl | hl
  · exact List.pairwise_iff_getElem.1 h i j hi hj hl h1 h2
  · exact fun e => List.pairwise_iff_getElem.1 h j i hj hi hl h2 h1 e.symm

/-- The rules that were kept so far. -/
def keptA (P : Int → Bool) (rs : List Ru) (k : Nat) : List (Int × List Int) := ((rs.take k).filter fun u => soundA P u.abs).map Ru.abs
theorem keptA_zero (P : Int → Bool) (rs : List Ru) : keptA P rs 0 = [] := rfl
theorem keptA_yes {P : Int → Bool} {rs : List Ru} {k : Nat} (hk : k < rs.length) (h : soundA P rs[k].abs = true) : keptA P rs (k + 1) = keptA P rs k ++ [(rs[k].l, rs[k].r)] := by
  unfold keptA
  rw [filter_yes (p := fun u => soundA P u.abs) hk h, List.map_append]
  rfl
theorem keptA_no {P : Int → Bool} {rs : List Ru} {k : Nat} (hk : k < rs.length) (h : soundA P rs[k].abs = false) : keptA P rs (k + 1) = keptA P rs k := by
  unfold keptA
  rw [filter_no (p := fun u => soundA P u.abs) hk h]
theorem keptA_all (P : Int → Bool) (rs : List Ru) : keptA P rs rs.length = (rs.map Ru.abs).filter (soundA P) := by
  unfold keptA
  rw [List.take_length, map_filter]
theorem keptA_len (P : Int → Bool) (rs : List Ru) (k : Nat) : (keptA P rs k).length ≤ rs.length := by
  unfold keptA
  rw [List.length_map]
  exact filter_len _ _ _

theorem own_lower {w : World} {lo lo' : Nat} {e : TypeId} {size n : Nat} {v : Value} {xs : List Value} (h : w.ownsRow lo e size v n xs) (hl : lo' ≤ lo) : w.ownsRow lo' e size v n xs := by
  refine ⟨h.1, ?_⟩
  rcases h.2 with h | ⟨g, cap, cur, e, hlo, r⟩
  · exact .inl h
  · exact .inr ⟨g, cap, cur, e, by omega, r⟩

theorem own_slice {w : World} {lo : Nat} {e : TypeId} {size n : Nat} {v : Value} {xs : List Value} (h : w.ownsRow lo e size v n xs) : ∃ A c, v = .slice A n c := by
  rcases h.2 with ⟨rfl, h0⟩ | ⟨g, cap, cur, rfl, _⟩
  · exact ⟨none, 0, by rw [h0]⟩
  · exact ⟨_, cap, rfl⟩

/-- A grammar's useful rules, new. -/
def GaveUG (w : World) (n t : Int) (ss : List (Int × List Int)) (e : Ending) (w' : World) : Prop :=
  ∃ A c, ∃ us : List Ru, e = .returned (.agg #[.int .i64 n, .int .i64 t, .slice A us.length c]) ∧ us.length ≤ c ∧ OwnR w' w.heap.size A us ∧ IsUse ss (us.map Ru.abs) ∧ Below w.heap.size w w'

set_option maxRecDepth 20000 in
set_option maxHeartbeats 4000000 in
theorem l3Useful_any (n t : Int) (A : Option Addr) (c : Nat) (rs : List Ru) (w : World) (hx : Rls w w.heap.size A rs) (hg : goodG n t (rs.map Ru.abs) = true) :
    Calls Tryd.prog 85 #[.agg #[.int .i64 n, .int .i64 t, .slice A rs.length c]] w (GaveUG w n t (rs.map Ru.abs)) := by
  obtain ⟨i0, hi0, hz0, hz1, hz2⟩ := info_of Tryd.infoRule
  have h16 := good_16 hg
  have HX := Lib.hid hx; clear hx
  have HG := Lib.hid hg; clear hg
  generalize hW : ((w.alloc (.cells #[.int .i64 n, .int .i64 t, .slice A rs.length c] 30)).alloc (.cells #[.int .i64 0, .int .i64 0, .slice none 0 0] 30)) = W
  have HB0 : Hid (Below w.heap.size w W) := by subst hW; show Below _ _ _; go_grown
  have B0 : Hid (Box3 W w.heap.size (.int .i64 n) (.int .i64 t) (.slice A rs.length c)) := by subst hW; exact ⟨by simp; omega, by simp [go_sem], by simp [go_sem], by simp [go_sem]⟩
  have R0 : Hid (Row W (w.heap.size + 1) 30 #[.int .i64 0, .int .i64 0, .slice none 0 0]) := by
    subst hW
    have h := Row.new (w.alloc (.cells #[.int .i64 n, .int .i64 t, .slice A rs.length c] 30)) 30 #[.int .i64 0, .int .i64 0, .slice none 0 0]
    rwa [World.size_alloc] at h
  have HWE := Lib.hid hW; clear hW
  go_enter Tryd.func85, Tryd.ntmps85
  go_wp2_with fail
  rw [HWE.out]
  refine (l3Close_any n t A c rs true _ ((HX.out.keep HB0.out).more HB0.out.size) HG.out).mono ?_
  rintro e w2 ⟨vm, ms, rfl, ⟨hm1, hm2, hm3⟩, hm4, hm5⟩
  have B2 := Lib.hid (B0.out.keep hm5 B0.out.1)
  have R2 := Lib.hid (R0.out.below hm5 R0.out.lt)
  have HB2 : Hid (Below w.heap.size w w2) := HB0.out.trans (hm5.mono HB0.out.size)
  have HPR : Hid (IsLeast wayProd noS (rs.map Ru.abs) (setL ms)) := hm3
  have hms6 : ms.length ≤ 6 := len6 (S := setL ms) (hm1.imp fun h => by omega) (fun _ hx => setL_iff.2 hx) fun x hx => hm2 x (setL_iff.1 hx)
  obtain ⟨Am, cm, hvm, hcm, hIm⟩ := hm4.shape
  subst hvm
  have HIM := Lib.hid hIm
  have hw0 : w.heap.size < w2.heap.size := B2.out.1
  have hw1 : w.heap.size + 1 < w2.heap.size := R2.out.lt
  clear hm1 hm2 hm3 hm4 hm5 hIm HWE B0 R0 HB0 hcm
  obtain ⟨_, b0, b1, b2⟩ := B2.out
  have q2 : (w2.alloc (.cells #[.int .i64 n, .int .i64 t, .slice none 0 0] 30)).cell? ⟨w.heap.size, 2, none⟩ = some (.slice A rs.length c) := (B2.out.keep ((Below.refl w2.heap.size w2).alloc (Nat.le_refl _) _) hw0).2.2.2
  go_wp2
  clear b0 b1 b2 q2
  go_loopw [24] (fun i wr => ∃ (k : Nat) (v : Value) (ds : List Ru), k ≤ rs.length ∧ i = .int .i64 k ∧ Hid (Below w2.heap.size w2 wr) ∧ Hid (Row wr w2.heap.size 30 #[.int .i64 n, .int .i64 t, v]) ∧ Hid (RulesW wr (w2.heap.size + 1) v ds) ∧ Hid (ds.map Ru.abs = keptA (setL ms) rs k)) (fun i _ => rs.length - (intOf i).toNat)
  case atStart => exact ⟨0, _, [], by omega, rfl, (Below.refl _ _).alloc (Nat.le_refl _) _, Row.new _ _ _, RulesW.start _ _, rfl⟩
  case round =>
    obtain ⟨k, v, ds, hk, rfl, HB, HR4, HRW, HKA⟩ := hrel
    have hdl : ds.length ≤ 16 := by
      have h1 := congrArg List.length HKA.out
      have h2 := keptA_len (setL ms) rs k
      rw [List.length_map] at h1
      omega
    by_cases hlt : k < rs.length
    · have HWr : Hid (Below w.heap.size w wr) := HB2.out.trans (HB.out.mono HB2.out.size)
      obtain ⟨p, o, hA, hp, c1, c2, c3⟩ := ((HX.out.keep HWr.out).more HWr.out.size).at_ hlt
      have C3 := Lib.hid c3; clear c3
      have hum : rs[k].abs ∈ rs.map Ru.abs := List.mem_map.2 ⟨_, List.getElem_mem hlt, rfl⟩
      have h4 := good_len HG.out hum
      have HUM := Lib.hid hum; clear hum
      have HBA : Hid (Below wr.heap.size wr (wr.alloc (.cells #[.int .i64 rs[k].l, .slice rs[k].a rs[k].r.length rs[k].c] 61))) := (Below.refl _ _).alloc (Nat.le_refl _) _
      have HBU : Hid (Box2 (wr.alloc (.cells #[.int .i64 rs[k].l, .slice rs[k].a rs[k].r.length rs[k].c] 61)) wr.heap.size (.int .i64 rs[k].l) (.slice rs[k].a rs[k].r.length rs[k].c)) := ⟨by simp, by simp [go_sem], by simp [go_sem]⟩
      have HC1 := Lib.hid (l1Has6_any Am ms cm rs[k].l (wr.alloc (.cells #[.int .i64 rs[k].l, .slice rs[k].a rs[k].r.length rs[k].c] 61)) ((((HIM.out.keep HB.out).more HB.out.size).keep HBA.out).more HBA.out.size) hms6)
      have HSL : Hid (soundA (setL ms) rs[k].abs = true → ms.contains rs[k].l = true) := fun h => sound_left HPR.out HUM.out h
      generalize ms.contains rs[k].l = hb at HC1 HSL
      rw [hA]
      go_wp2_with fail
      refine HC1.out.mono ?_
      rintro e w1 ⟨rfl, hw1⟩
      rw [hw1]
      clear hw1 w1 HC1
      obtain ⟨wM, hwM⟩ : ∃ x, x = wr := ⟨_, rfl⟩
      subst hwM
      obtain ⟨_, r0, r1⟩ := HBU.out
      generalize (wM.alloc (.cells #[.int .i64 rs[k].l, .slice rs[k].a rs[k].r.length rs[k].c] 61)) = Y at *
      go_wp2
      clear c1 c2
      have HMY := Lib.hid ((((HIM.out.keep HB.out).more HB.out.size).keep HBA.out).more HBA.out.size)
      have HRY := Lib.hid ((C3.out.keep HBA.out).more HBA.out.size)
      go_loopw [7, 35] (fun a i wr => ∃ (j : Nat), j ≤ rs[k].r.length ∧ i = .int .i64 j ∧ a = .bool (hb && (rs[k].r.take j).all (tokS (setL ms))) ∧ wr = Y) (fun _ i _ => rs[k].r.length - (intOf i).toNat)
      case atStart => exact ⟨0, by omega, rfl, by simp, rfl⟩
      case round =>
        obtain ⟨j, hj, rfl, rfl, rfl⟩ := hrel
        by_cases hjl : j < rs[k].r.length
        · obtain ⟨p2, o2, hA2, hp2, c1⟩ := HRY.out.at_ hjl
          have HNA := Lib.hid (all_take (p := tokS (setL ms)) hjl)
          generalize hal : (hb && (rs[k].r.take j).all (tokS (setL ms))) = al
          have HNX : Hid ((hb && (rs[k].r.take (j + 1)).all (tokS (setL ms))) = (al && tokS (setL ms) rs[k].r[j])) := by
            show _ = _
            rw [HNA.out, ← hal, Bool.and_assoc]
          clear hal
          rw [hA2]
          cases al
          · go_wp2
            go_roundw
            case rel => exact ⟨j + 1, by omega, by go_num, by rw [HNX.out]; rfl, by simp⟩
            case measure => simp [intOf]; omega
          · by_cases hneg : rs[k].r[j] < 0
            · have HQ : Hid (tokS (setL ms) rs[k].r[j] = true) := tokS_lt hneg
              go_wp2
              go_roundw
              case rel => exact ⟨j + 1, by omega, by go_num, by rw [HNX.out, HQ.out]; rfl, by simp⟩
              case measure => simp [intOf]; omega
            · have HCM := Lib.hid (l1Has6_any Am ms cm rs[k].r[j] wr HMY.out hms6)
              have HQ : Hid (tokS (setL ms) rs[k].r[j] = ms.contains rs[k].r[j]) := tokS_ge hneg
              generalize ms.contains rs[k].r[j] = q at HQ HCM
              go_wp2_with fail
              refine HCM.out.mono ?_
              rintro e w1 ⟨rfl, rfl⟩
              go_wp2
              go_roundw
              case rel => exact ⟨j + 1, by omega, by go_num, by rw [HNX.out, HQ.out]; rfl, by simp⟩
              case measure => simp [intOf]; omega
        · obtain rfl : j = rs[k].r.length := by omega
          rw [List.take_length]
          have HSB : Hid (soundA (setL ms) rs[k].abs = rs[k].r.all (tokS (setL ms))) := rfl
          have HEQ : (hb && rs[k].r.all (tokS (setL ms))) = soundA (setL ms) rs[k].abs := by
            rw [HSB.out]
            cases hs : rs[k].r.all (tokS (setL ms))
            · simp
            · rw [HSL.out (HSB.out.trans hs)]; rfl
          rw [HEQ]
          clear HEQ
          have HBY : Hid (Below w2.heap.size w2 wr) := HB.out.trans (HBA.out.mono HB.out.size)
          have HR4W := Lib.hid (HR4.out.below HBA.out HR4.out.lt)
          have HRWW := Lib.hid (HRW.out.keep HBA.out)
          cases hsb : soundA (setL ms) rs[k].abs
          · have HKN := Lib.hid (keptA_no hlt hsb); clear hsb
            go_wp2
            go_roundw
            case rel => exact ⟨k + 1, v, ds, by omega, by go_num, HBY.out, HR4W.out, HRWW.out, by show _ = _; rw [HKN.out]; exact HKA.out⟩
            case measure => simp [intOf]; omega
          · have HKY := Lib.hid (keptA_yes hlt hsb); clear hsb
            have HVB : Hid (∀ b, v.ownBlock = some b → w2.heap.size + 1 ≤ b ∧ b < wM.heap.size) := fun b e => HRW.out.row.lt b e
            have o2 := HR4W.out.cell 2
            simp at o2
            have hs1 := HBA.out.size
            have hs0 := HR4.out.lt
            go_wp2_with fail
            go_region_law (first
              | (refine step_append_lies _ rfl _ _ _ rfl (w2.heap.size + 1) 61 i0 _ 2 32 Tryd.underlying28 hi0 hz0 hz1 hz2 rfl (by omega) v ds.length (ds.flatMap cellsU) (by simp [Act.eval]) ((own_below HRWW.out.row HB1.out).alloc _)
                   ⟨w1.heap.size, 0, none⟩ 1 1 [.int .i64 rs[k].l, .slice A1 rs[k].r.length k1] (by simp [Act.eval]) rfl (two_new _ _ _ _) (by simp [Value.oneCell'])
                   (by omega) (by unfold maxLen; omega) (by omega) (by simp; omega) (w1.heap.size + 1) (by simp) ?_
                 intro gg cap w3 hown hgrow hat hgl
                 have HOW := Lib.hid hown
                 have HGR := Lib.hid hgrow
                 have HNE : Hid (∀ b, b < w2.heap.size + 1 ∨ wM.heap.size ≤ b → some b ≠ v.ownBlock) := fun b hb e => by have := HVB.out b e.symm; omega
                 have HR3 : Hid (Row w3 w2.heap.size 30 #[.int .i64 n, .int .i64 t, v]) := (hgrow.block w2.heap.size (by simp; omega) (HNE.out _ (.inl (by omega)))).trans ((HR4W.out.below HB1.out HR4W.out.lt).alloc _)
                 have t2 := HR3.out.cell 2
                 simp at t2
                 have g2 := HR3.out.frozen 2
                 clear hown hgrow hat)
              | (go_simp
                 go_at_call 65
                 refine (l1Own_any _ _ _ _ ?_ (by omega)).mono ?_
                 · exact HRY.out.keep (by go_grown)
                 rintro e w1 ⟨A1, k1, rfl, hO1, hB1'⟩
                 have hB1 : Below wr.heap.size wr w1 := Below.trans (by go_grown) hB1'
                 obtain ⟨_, y0, y1⟩ := HBU.out.keep hB1 HBU.out.1
                 have p2 := (HR4W.out.below hB1 HR4W.out.lt).cell 2
                 simp at p2
                 have hs2 := hB1.size
                 have hs3 : w2.heap.size < w1.heap.size := by omega
                 have HO1 := Lib.hid hO1
                 have HB1 := Lib.hid hB1
                 clear hO1 hB1 hB1'))
            all_goals
              have hs4 := HGR.out.size
              rw [World.size_alloc] at hs4
              have HST : Hid (RulesW w3 (w2.heap.size + 1) (.slice (some ⟨gg, 0, none⟩) (ds.length + 1) cap) (ds ++ [⟨rs[k].l, A1, rs[k].r, k1⟩])) :=
                RulesW.step (c := k1) ((HRWW.out.keep HB1.out).keep ((Below.refl _ _).alloc (Nat.le_refl _) _)) ((HO1.out.lower (by show _ ≤ wr.heap.size; omega)).below ((Below.refl _ _).alloc (Nat.le_refl _) _) (Nat.le_refl _)) (HRWW.out.apart (w1 := w1) HO1.out) HOW.out HGR.out
              have HB3 : Hid (Below w2.heap.size w2 w3) := ((HBY.out.trans (HB1.out.mono HBY.out.size)).alloc (by omega) _).grown HGR.out (by simp; omega) fun b hb => by have := (HVB.out b hb).1; omega
              have hs5 : w2.heap.size < w3.heap.size := HR3.out.lt
              clear HGR HOW HNE HO1 HB1 y0 y1 p2 t2 g2 r0 r1 o2 HR4W HRWW HVB
              go_wp2
              go_roundw
              case rel => exact ⟨k + 1, _, _, by omega, by go_num, HB3.out.setCell (by simp) _, HR3.out.set 2 _, HST.out.low (by simp) _, by show _ = _; rw [HKY.out, List.map_append, HKA.out]; rfl⟩
              case measure => simp [intOf]; omega
    · obtain rfl : k = rs.length := by omega
      obtain ⟨wL, hwL⟩ : ∃ x, x = wr := ⟨_, rfl⟩
      subst hwL
      obtain ⟨A4, c4, hv4, hc4, hO4⟩ := HRW.out.slice
      subst hv4
      have HO4 := Lib.hid hO4; clear hO4
      have HKB : Hid (ds.map Ru.abs = (rs.map Ru.abs).filter (soundA (setL ms))) := by show _ = _; rw [← keptA_all]; exact HKA.out
      have HGD : Hid (goodG n t (ds.map Ru.abs) = true) := by show _ = _; rw [HKB.out]; exact goodG_filter HG.out _
      have o0 := HR4.out.cell 0
      have o1 := HR4.out.cell 1
      have o2 := HR4.out.cell 2
      simp at o0 o1 o2
      go_wp2_with fail
      refine (l3Reached_any n t A4 c4 ds wL HO4.out.rls HGD.out).mono ?_
      rintro e w5 ⟨vq, qs, rfl, ⟨hq1, hq2, hq3⟩, hq4, hq5⟩
      clear o0 o1 o2
      have hqs6 : qs.length ≤ 6 := len6 (S := setL qs) (hq1.imp fun h => by omega) (fun _ hx => setL_iff.2 hx) fun x hx => hq2 x (setL_iff.1 hx)
      obtain ⟨Aq, cq, hvq, hcq, hIq⟩ := hq4.shape
      subst hvq
      have HIQ := Lib.hid hIq
      have HLR : Hid (IsLeast wayReach (oneS 0) ((rs.map Ru.abs).filter (soundA (setL ms))) (setL qs)) := by
        show IsLeast _ _ _ _
        rw [← HKB.out]; exact hq3
      have HR5 := Lib.hid (HR4.out.below hq5 HR4.out.lt)
      have HRW5 := Lib.hid (HRW.out.keep hq5)
      have HB5 : Hid (Below w2.heap.size w2 w5) := HB.out.trans (hq5.mono HB.out.size)
      have h25 : w2.heap.size < w5.heap.size := HR5.out.lt
      clear hq1 hq2 hq3 hq4 hq5 hIq hcq
      obtain ⟨_, b0, b1, b2⟩ := B2.out.keep HB5.out hw0
      have p0 : (w5.alloc (.cells #[.int .i64 n, .int .i64 t, .slice none 0 0] 30)).cell? ⟨w2.heap.size, 2, none⟩ = some (.slice A4 ds.length c4) := by
        have h := (HR5.out.below ((Below.refl w5.heap.size w5).alloc (Nat.le_refl _) (.cells #[.int .i64 n, .int .i64 t, .slice none 0 0] 30)) HR5.out.lt).cell 2
        simpa using h
      go_wp2
      clear b0 b1 b2 p0
      have HRL := Lib.hid (HRW5.out.slice)
      go_loopw [73] (fun i wr => ∃ (k : Nat) (v : Value), k ≤ ds.length ∧ i = .int .i64 k ∧ Hid (Below w5.heap.size w5 wr) ∧ Hid (Row wr w5.heap.size 30 #[.int .i64 n, .int .i64 t, v]) ∧ Hid (wr.ownsRow (w5.heap.size + 1) 61 2 v ((ds.take k).filter fun u => setL qs u.abs.1).length (((ds.take k).filter fun u => setL qs u.abs.1).flatMap cellsU))) (fun i _ => ds.length - (intOf i).toNat)
      case atStart => exact ⟨0, _, by omega, rfl, (Below.refl _ _).alloc (Nat.le_refl _) _, Row.new _ _ _, ⟨by simp, .inl ⟨rfl, by simp⟩⟩⟩
      case round =>
        obtain ⟨k, v, hk, rfl, HB6, HR6, HO6⟩ := hrel
        have hfl := filter_len (fun u => setL qs u.abs.1) ds k
        have HO46 : Hid (Rls wr wr.heap.size A4 ds) := by
          obtain ⟨A', c', e, _, h⟩ := HRL.out
          injection e with e1 _ _
          subst e1
          exact (h.rls.keep HB6.out).more HB6.out.size
        by_cases hlt : k < ds.length
        · obtain ⟨p, o, hA, hp, c1, c2, c3⟩ := HO46.out.at_ hlt
          clear c3
          have HBA : Hid (Below wr.heap.size wr (wr.alloc (.cells #[.int .i64 ds[k].l, .slice ds[k].a ds[k].r.length ds[k].c] 61))) := (Below.refl _ _).alloc (Nat.le_refl _) _
          have HBU : Hid (Box2 (wr.alloc (.cells #[.int .i64 ds[k].l, .slice ds[k].a ds[k].r.length ds[k].c] 61)) wr.heap.size (.int .i64 ds[k].l) (.slice ds[k].a ds[k].r.length ds[k].c)) := ⟨by simp, by simp [go_sem], by simp [go_sem]⟩
          have HC1 := Lib.hid (l1Has6_any Aq qs cq ds[k].l (wr.alloc (.cells #[.int .i64 ds[k].l, .slice ds[k].a ds[k].r.length ds[k].c] 61)) ((((HIQ.out.keep HB6.out).more HB6.out.size).keep HBA.out).more HBA.out.size) hqs6)
          have HR6W := Lib.hid (HR6.out.below HBA.out HR6.out.lt)
          have HO6W := Lib.hid (own_below HO6.out HBA.out)
          have HB6W : Hid (Below w5.heap.size w5 (wr.alloc (.cells #[.int .i64 ds[k].l, .slice ds[k].a ds[k].r.length ds[k].c] 61))) := HB6.out.trans (HBA.out.mono HB6.out.size)
          have h56 : w5.heap.size < wr.heap.size := HR6.out.lt
          have HVB : Hid (∀ b, v.ownBlock = some b → w5.heap.size + 1 ≤ b) := fun b e => (HO6.out.lt b e).1
          rw [hA]
          cases hq : qs.contains ds[k].l
          · rw [hq] at HC1
            have HF := Lib.hid (filter_no (p := fun u => setL qs u.abs.1) hlt hq); clear hq
            go_wp2_with fail
            refine HC1.out.mono ?_
            rintro e w1 ⟨rfl, hw1⟩
            rw [hw1]
            clear hw1 w1 HC1
            go_wp2
            go_roundw
            case rel => exact ⟨k + 1, v, by omega, by go_num, HB6W.out, HR6W.out, by show World.ownsRow _ _ _ _ _ _ _; rw [HF.out]; exact HO6W.out⟩
            case measure => simp [intOf]; omega
          · rw [hq] at HC1
            have HF := Lib.hid (filter_yes (p := fun u => setL qs u.abs.1) hlt hq); clear hq
            go_wp2_with fail
            refine HC1.out.mono ?_
            rintro e w1 ⟨rfl, hw1⟩
            rw [hw1]
            clear hw1 w1 HC1
            obtain ⟨_, r0, r1⟩ := HBU.out
            have hYs : wr.heap.size ≤ (wr.alloc (.cells #[.int .i64 ds[k].l, .slice ds[k].a ds[k].r.length ds[k].c] 61)).heap.size := HBA.out.size
            generalize (wr.alloc (.cells #[.int .i64 ds[k].l, .slice ds[k].a ds[k].r.length ds[k].c] 61)) = Y at *
            have o2 := HR6W.out.cell 2
            simp at o2
            have HA1 := Lib.hid (HO6W.out.alloc (.cells #[.int .i64 ds[k].l, .slice ds[k].a ds[k].r.length ds[k].c] 61))
            have HN1 := Lib.hid (two_new Y (.int .i64 ds[k].l) (.slice ds[k].a ds[k].r.length ds[k].c) 61)
            clear c1 c2
            go_wp2_with (at_builtin
                         refine wpList_append_own _ rfl _ _ _ rfl (w5.heap.size + 1) 61 i0 _ 2 32 Tryd.underlying28 hi0 hz0 hz1 hz2 rfl (by omega) _ _ _ rfl HA1.out ⟨Y.heap.size, 0, none⟩ 1 1 [.int .i64 ds[k].l, .slice ds[k].a ds[k].r.length ds[k].c] rfl rfl HN1.out (by simp [Value.oneCell']) (by unfold maxLen; omega) (by omega) (by simp; omega) ?_
                         intro v' w6 h1 h2 h3
                         obtain ⟨A8, c8, hv8⟩ := own_slice h1
                         subst hv8
                         have HO7 := Lib.hid h1
                         have HB7 : Hid (Below w5.heap.size w5 w6) := (HB6W.out.alloc HB6W.out.size _).grown h2 (by simp; omega) fun j hj => by have := HVB.out j hj; omega
                         have HR7 : Hid (Row w6 w5.heap.size 30 #[.int .i64 n, .int .i64 t, v]) := (h2.block w5.heap.size (by simp; omega) (fun e => by have := HVB.out _ e.symm; omega)).trans (HR6W.out.alloc _)
                         have t2 := HR7.out.cell 2
                         simp at t2
                         have g2 := HR7.out.frozen 2
                         clear h1 h2 h3)
            go_roundw
            case rel =>
              refine ⟨k + 1, _, by omega, by go_num, HB7.out.setCell (by simp) _, HR7.out.set 2 _, ?_⟩
              show World.ownsRow _ _ _ _ _ _ _
              refine ownsRow_setCell_below ?_ (by simp) _
              rw [HF.out, List.length_append, List.flatMap_append]
              simpa [cellsU] using HO7.out
            case measure => simp [intOf]; omega
        · obtain rfl : k = ds.length := by omega
          have hO := HO6.out
          rw [List.take_length] at hO
          have HUS : Hid (IsUse (rs.map Ru.abs) ((ds.filter fun u => setL qs u.abs.1).map Ru.abs)) := by
            refine ⟨setL ms, setL qs, HPR.out, HLR.out, ?_⟩
            rw [map_filter (fun r => setL qs r.1), HKB.out]
          have HRW6 := Lib.hid (HRW5.out.keep HB6.out)
          obtain ⟨A7, c7, hv7, hc7, hO7⟩ := ownR_of_row (lo := w2.heap.size + 1) rfl (own_lower hO (by omega)) (fun j u hu => by
            have hm := (List.mem_filter.1 (List.mem_of_getElem? hu)).1
            obtain ⟨i, hi⟩ := List.mem_iff_getElem?.1 hm
            exact HRW6.out.rts i u hi) ((far_of HRW6.out.far).filter _ |> Far.all)
          subst hv7
          have HO7 := Lib.hid hO7; clear hO7 hO
          have HR2W := Lib.hid ((R2.out.below HB5.out hw1).below HB6.out (by omega))
          have HBF : Hid (Below w.heap.size w wr) := HB2.out.trans ((HB5.out.trans (HB6.out.mono HB5.out.size)).mono HB2.out.size)
          generalize (ds.filter fun u => setL qs u.abs.1) = fs at *
          have o0 := HR6.out.cell 0
          have o1 := HR6.out.cell 1
          have o2 := HR6.out.cell 2
          have d0 := HR2W.out.cell 0
          have d1 := HR2W.out.cell 1
          have d2 := HR2W.out.cell 2
          have g0 := HR2W.out.frozen 0
          have g1 := HR2W.out.frozen 1
          have g2 := HR2W.out.frozen 2
          simp at o0 o1 o2 d0 d1 d2
          go_wp2
          refine bodyPost_ret (v := .agg #[.int .i64 n, .int .i64 t, .slice A7 fs.length c7]) (by simp [results, Tryd.results85, go_sem, d0, d1, d2]) rfl ⟨A7, c7, fs, rfl, hc7, ?_, HUS.out, ?_⟩
          · exact (((HO7.out.low (by simp; omega) _).low (by simp; omega) _).low (by simp; omega) _).lower (by omega)
          · exact ((HBF.out.setCell (by simp) _).setCell (by simp) _).setCell (by simp) _

end Go.Proofs.YtkghblgiojidgaaDoor
