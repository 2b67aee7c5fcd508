/- The reference's l5Binary, walked. -/
import Derived.Test.YtaobkanliiiapaaDoorB509
import Derived.Test.YtaobkanliiiapaaDoorB501
import Derived.Test.YtaobkanliiiapaaDoorB505
import Derived.Test.YtaobkanliiiapaaDoorB502
import Derived.Test.YtaobkanliiiapaaDoorRows
import Derived.ProofKit
import Derived.OpenShut
import Derived.Deep.Slices
import Derived.Lib.SmallJoins
import Derived.OpenVars
import Derived.Test.YtaobkanliiiapaaDoorTie
import Derived.LaidMore
import Derived.Stop.Joined
import Derived.SevenTiedAt

namespace Go.Proofs.YtaobkanliiiapaaDoor
open Go.RowKit

/-- A binary grammar of the reference's making. -/
def GaveBs (w : World) (n t : Int) (rs : List (Int × List Int)) (e : Ending) (w' : World) : Prop :=
  ∃ m lo vp ps vo os ve es vf fs, e = .returned (.agg #[.int .i64 m, .int .i64 t, vp, vo, ve, vf]) ∧ w.heap.size ≤ lo ∧ BinR w' lo vp ps vo os ve es vf fs ∧ BoM rs n rs.length m (sayL ps) (sayL os) es (sayL fs) ∧ Below w.heap.size w w'

theorem BoM.of {rs : List (Int × List Int)} {n m : Int} {k : Nat} {C : Cut} (hC : cutA (rs.take k) 0 n = C) {ps os fs : List (List Int)} {es : List Int} (hn : m = C.n) (hP : ∀ z, z ∈ ps ↔ z ∈ C.P) (hO : ∀ z, z ∈ os ↔ z ∈ C.O) (hE : ∀ z, z ∈ es ↔ z ∈ C.E) (hF : fs = C.F) (rp : RisesL ps) (ro : RisesL os) (re : Rises es) : BoM rs n k m ps os es fs := by
  subst hC
  exact ⟨hn, hP, hO, hE, hF, rp, ro, re⟩
theorem mem_swap {α : Type} {z x : α} {xs : List α} : (z = x ∨ z ∈ xs) ↔ (z ∈ xs ∨ z ∈ [x]) := by rw [List.mem_singleton]; exact Or.comm

set_option maxRecDepth 20000 in
set_option maxHeartbeats 4000000 in
theorem l5Binary_any (n t : Int) (A : Option Addr) (c : Nat) (rs : List Ru) (w : World) (hx : Rls w w.heap.size A rs) (hcp : ∀ u ∈ rs, u.r.length ≤ u.c) (hg : goodG n t (rs.map Ru.abs) = true) :
    Calls Tryd.prog 79 #[.agg #[.int .i64 n, .int .i64 t, .slice A rs.length c]] w (GaveBs w n t (rs.map Ru.abs)) := by
  obtain ⟨i0, hi0, hz0, hz1, hz2⟩ := info_of Tryd.infoIntS
  obtain ⟨i3, hi3, hy0, hy1, hy2⟩ := info_of Tryd.infoInt
  have HX := Lib.hid hx; clear hx
  have HCP := Lib.hid hcp; clear hcp
  have hl16 : rs.length ≤ 16 := by have h := (goodG_is hg).2.2.1; rwa [List.length_map] at h
  have HG := Lib.hid hg; clear hg
  have HOK : Hid (∀ k, k ≤ rs.length → CutOK (cutA ((rs.map Ru.abs).take k) 0 n)) := fun k hk => by
    have hmem : ∀ z ∈ (rs.map Ru.abs).take k, z.2.length ≤ 4 ∧ z.1 < n ∧ ∀ x ∈ z.2, x < n := fun z hz => by
      have h := goodG_mem HG.out (List.mem_of_mem_take hz)
      have h2 := (goodG_is HG.out).1
      refine ⟨h.2.1, h.1.2, fun x hx => ?_⟩
      rcases h.2.2 x hx with h3 | h3 <;> omega
    have hb := cutA_big ((rs.map Ru.abs).take k) 0 n fun z hz => (hmem z hz).1
    have h16 := (goodG_is HG.out).2.2.1
    have h6 := (goodG_is HG.out).1
    have hl : ((rs.map Ru.abs).take k).length ≤ 16 := Nat.le_trans (by rw [List.length_take]; omega) h16
    refine ⟨fun z hz => ?_, fun z hz => ?_, by omega, by omega, by omega, by omega, by omega⟩
    · obtain ⟨r, _, m1, m2, _, _, x, y, q, e, _⟩ := cutA_pairs n _ 0 n (fun r hr => (hmem r hr).2.2) _ hz
      rw [e]; rfl
    · obtain ⟨l, a, _, e⟩ := (cutA_ones _ 0 n z).1 hz
      rw [e]; rfl
  generalize hW : (((w.alloc (.cells #[.int .i64 n, .int .i64 t, .slice A rs.length c] 54)).alloc (.cells #[.int .i64 0, .int .i64 0, .slice none 0 0, .slice none 0 0, .slice none 0 0, .slice none 0 0] 41)).alloc (.cells #[.int .i64 n, .int .i64 t, .slice none 0 0, .slice none 0 0, .slice none 0 0, .slice none 0 0] 41)) = W
  have HB0 : Hid (Below w.heap.size w W) := by subst hW; show Below _ _ _; go_grown
  have HZW : Hid (W.heap.size = w.heap.size + 3) := by subst hW; show _ = _; simp
  have B0 : Hid (Row W w.heap.size 54 #[.int .i64 n, .int .i64 t, .slice A rs.length c]) := by
    subst hW
    exact Row.alloc (Row.alloc (Row.new w 54 #[.int .i64 n, .int .i64 t, .slice A rs.length c]) _) _
  have R0 : Hid (Row W (w.heap.size + 1) 41 #[.int .i64 0, .int .i64 0, .slice none 0 0, .slice none 0 0, .slice none 0 0, .slice none 0 0]) := by
    subst hW
    have h := Row.new (w.alloc (.cells #[.int .i64 n, .int .i64 t, .slice A rs.length c] 54)) 41 #[.int .i64 0, .int .i64 0, .slice none 0 0, .slice none 0 0, .slice none 0 0, .slice none 0 0]
    rw [World.size_alloc] at h
    exact h.alloc _
  have X0 : Hid (BoxW W (w.heap.size + 1 + 1) n t (.slice none 0 0) (.slice none 0 0) (.slice none 0 0) (.slice none 0 0)) := by
    subst hW
    have h := Row.new ((w.alloc (.cells #[.int .i64 n, .int .i64 t, .slice A rs.length c] 54)).alloc (.cells #[.int .i64 0, .int .i64 0, .slice none 0 0, .slice none 0 0, .slice none 0 0, .slice none 0 0] 41)) 41 #[.int .i64 n, .int .i64 t, .slice none 0 0, .slice none 0 0, .slice none 0 0, .slice none 0 0]
    rw [World.size_alloc, World.size_alloc] at h
    exact h
  have HWE := Lib.hid hW
  have b2 := B0.out.cell 2
  simp at b2
  rw [← hW] at b2
  clear hW
  go_enter Tryd.func79, Tryd.ntmps79
  go_wp2_with fail
  rw [HWE.out]
  clear HWE b2
  have hsz := HZW.out
  go_loopw [17] (fun i wr => ∃ (k : Nat) (m : Int) (vp : Value) (ps : List Li) (vo : Value) (os : List Li) (ve : Value) (es : List Int) (vf : Value) (fs : List Li), k ≤ rs.length ∧ i = .int .i64 k ∧ 0 ≤ m ∧ Hid (BoxW wr (w.heap.size + 1 + 1) m t vp vo ve vf) ∧ Hid (BinR wr (w.heap.size + 3) vp ps vo os ve es vf fs) ∧ Hid (Below (w.heap.size + 2) W wr) ∧ Hid (BoM (rs.map Ru.abs) n k m (sayL ps) (sayL os) es (sayL fs))) (fun i _ => rs.length - (intOf i).toNat)
  case atStart => exact ⟨0, n, _, [], _, [], _, [], _, [], Nat.zero_le _, rfl, by have := (goodG_is HG.out).1; omega, X0.out, BinR.start _ _, Below.refl _ _, BoM.start _ _⟩
  case round =>
    clear X0
    obtain ⟨k, m, vp, ps, vo, os, ve, es, vf, fs, hk, rfl, hm, HX2, HN, HB, HK⟩ := hrel
    have hws := HB.out.size
    by_cases hlt : k < rs.length
    · have HBW : Hid (Below w.heap.size w wr) := HB0.out.trans (HB.out.mono (by omega))
      have hat := HX.out.at_ hlt
      have hrc := HCP.out rs[k] (List.getElem_mem hlt)
      have hr4 : rs[k].r.length ≤ 4 := (goodG_mem HG.out (u := rs[k].abs) (List.mem_map.2 ⟨_, List.getElem_mem hlt, rfl⟩)).2.1
      have HGT := Lib.hid ((List.getElem?_map (f := Ru.abs) (l := rs) (i := k)).trans (by rw [List.getElem?_eq_getElem hlt]; rfl : Option.map Ru.abs rs[k]? = some (rs[k].l, rs[k].r)))
      generalize rs[k] = u at hat hrc hr4 HGT
      obtain ⟨l, a, r, cc⟩ := u
      obtain ⟨b, o, rfl, hb, e1, e2, c3⟩ := hat
      have c1 := (HBW.out.cell (p := ⟨b, o + k * 2, none⟩) hb).trans e1
      have c2 := (HBW.out.cell (p := ⟨b, o + k * 2 + 1, none⟩) hb).trans e2
      clear e1 e2
      dsimp only at c1 c2 c3 hrc hr4 HGT
      have HCT := Lib.hid (HK.out.cut HGT.out (goodG_nodup HG.out))
      have HCO := Lib.hid (HOK.out (k + 1) (by omega))
      generalize hY : wr.alloc (.cells #[.int .i64 l, .slice a r.length cc] 106) = Y
      have HBY : Hid (Below wr.heap.size wr Y) := by subst hY; show Below _ _ _; go_grown
      have y0 : Y.cell? ⟨wr.heap.size, 0, none⟩ = some (.int .i64 l) := by subst hY; simp [go_sem]
      have y1 : Y.cell? ⟨wr.heap.size, 1, none⟩ = some (.slice a r.length cc) := by subst hY; simp [go_sem]
      have HXY : Hid (BoxW Y (w.heap.size + 1 + 1) m t vp vo ve vf) := by subst hY; exact Row.alloc HX2.out _
      have HNY := Lib.hid (HN.out.keep HBY.out)
      have C3 := Lib.hid c3; clear c3
      have HBV : Hid (Below (w.heap.size + 2) W Y) := HB.out.trans (HBY.out.mono (by omega))
      have hys : w.heap.size + 3 ≤ Y.heap.size := by have := HBY.out.size; omega
      have HYE := Lib.hid hY
      rw [← hY] at y0 y1
      clear hY
      go_wp2_with fail
      rw [HYE.out]
      clear HYE y0 y1 c1 c2 HN HX2 HK HBY
      generalize hCC : cutA ((rs.map Ru.abs).take (k + 1)) 0 n = C at HCT HCO
      go_loopw [6, 7, 8] (fun v6 v7 v8 wr => ∃ (l : Int) (A : Option Addr) (r : List Int) (c p : Nat) (m : Int) (vp : Value) (ps : List Li) (vo : Value) (os : List Li) (ve : Value) (es : List Int) (vf : Value) (fs : List Li), v6 = .int .i64 l ∧ v7 = .slice A r.length c ∧ v8 = .int .i64 p ∧ r.length ≤ c ∧ p + r.length ≤ 5 ∧ 0 ≤ m ∧ Hid (Ints w w.heap.size A r) ∧ Hid (BoxW wr (w.heap.size + 1 + 1) m t vp vo ve vf) ∧ Hid (BinR wr (w.heap.size + 3) vp ps vo os ve es vf fs) ∧ Hid (Below (w.heap.size + 2) W wr) ∧ Hid (w.heap.size + 3 ≤ wr.heap.size) ∧ Hid (MemTo k C l r (p : Int) m (sayL ps) (sayL os) es (sayL fs))) (fun _ v7 _ _ => lenS v7)
      case atStart => exact ⟨l, a, r, cc, 1, m, vp, ps, vo, os, ve, es, vf, fs, rfl, rfl, rfl, hrc, by omega, hm, C3.out, HXY.out, HNY.out, HBV.out, hys, HCT.out⟩
      case round =>
        clear HXY HNY HBV hys HCT C3 hm HB HBW hws
        obtain ⟨l, A, r, c2, p, m, vp, ps, vo, os, ve, es, vf, fs, rfl, rfl, rfl, hrc, hpr, hm, HR, HX, HN, HB, HS, HC⟩ := hrel
        obtain ⟨hp3, ho2, hpl, hol, hel, hfl, hml⟩ := HC.out.lens HCO.out
        have HP3 := Lib.hid hp3; clear hp3
        have HO2 := Lib.hid ho2; clear ho2
        have hsz2 := HS.out
        have HBW : Hid (Below w.heap.size w wr) := HB0.out.trans (HB.out.mono (by omega))
        by_cases h3 : 2 < r.length
        · obtain ⟨a, b, c', r', rfl⟩ : ∃ a b c' r', r = a :: b :: c' :: r' := by
            rcases r with _ | ⟨a, _ | ⟨b, _ | ⟨c', r'⟩⟩⟩
            · simp at h3
            · simp at h3
            · simp at h3
            · exact ⟨a, b, c', r', rfl⟩
          obtain ⟨bb, oo, rfl, hbb, hcc⟩ := HR.out (by simp)
          have HRT : Hid (Ints w w.heap.size (some ⟨bb, oo + 1, none⟩) (b :: c' :: r')) := fun _ => ⟨bb, oo + 1, rfl, hbb, fun k x hx => by rw [Nat.add_assoc, Nat.add_comm 1 k]; exact hcc (k + 1) x (by simpa using hx)⟩
          have e0 := (HBW.out.cell (p := ⟨bb, oo, none⟩) hbb).trans (hcc 0 a rfl)
          clear hcc
          have hlr : (a :: b :: c' :: r').length = r'.length + 3 := rfl
          rw [hlr] at hrc hpr ⊢
          clear hlr h3
          have hI0 : (2 : Int) < (r'.length : Int) + 3 := by omega
          have hI9 : (0 : Int) < (r'.length : Int) + 3 := by omega
          obtain ⟨x0, _, x2, _, _, _⟩ := HX.out.six
          have hKs : w.heap.size + 1 + 1 < wr.heap.size := by omega
          have hbs : bb < wr.heap.size := by omega
          have HBA : Hid (Below wr.heap.size wr (wr.drew.alloc (.cells #[.int .i64 l, .int .i64 a, .int .i64 m] 3))) := ((Below.refl _ _).drew).alloc (Nat.le_refl _) _
          have HOA := Lib.hid (own_new3 wr.drew l a m)
          have HNA := Lib.hid (HN.out.keep HBA.out)
          have HINS := Lib.hid (l5InsertN_any (w.heap.size + 3) vp ps (some ⟨wr.heap.size, 0, none⟩) [l, a, m] 3 _ HNA.out.tri.la.lsR HC.out.rp (HOA.out.lower (by simp; omega)) (HN.out.tri.la.lsR.apart HOA.out) (by simp) (by simpa using HP3.out) (by simp) (by omega) (by simp; omega))
          go_wp2_with fail
          go_region_law (first
            | (go_simp
               go_at_call 119
               refine HINS.out.mono ?_
               rintro e w6 ⟨v6, d6, rfl, hL6, hr6, hm6, _, hB6, hv6⟩
               obtain ⟨A6, c6, rfl, hc6, _, _⟩ := hL6.shape
               have HN6 := Lib.hid (HNA.out.ins hB6 hL6 hv6)
               have HB6 := Lib.hid (HBA.out.trans (hB6.mono HBA.out.size))
               have HX6 : Hid (BoxW w6 (w.heap.size + 1 + 1) m t vp vo ve vf) := Row.below HX.out HB6.out (by omega)
               have HR6 := Lib.hid hr6
               have HM6 := Lib.hid hm6
               have q2 := HX6.out.six.2.2.1
               have f2 := Row.frozen HX6.out 2
               clear hL6 hr6 hm6 hB6 hv6)
            | fail)
          all_goals
            have HX8 := Lib.hid (boxw_set2 (v := .slice A6 d6.length c6) HX6.out)
            have HN8 := Lib.hid (HN6.out.lowCell (p := ⟨w.heap.size + 1 + 1, 2, none⟩) (Nat.lt_succ_self _) (.slice A6 d6.length c6))
            have HB8 : Hid (Below (w.heap.size + 2) W (w6.setCell ⟨w.heap.size + 1 + 1, 2, none⟩ (.slice A6 d6.length c6))) := (HB.out.trans (HB6.out.mono (by omega))).setCell (Nat.le_refl _) _
            have HS8 : Hid (w.heap.size + 3 ≤ (w6.setCell ⟨w.heap.size + 1 + 1, 2, none⟩ (.slice A6 d6.length c6)).heap.size) := by have := HB6.out.size; show _ ≤ _; simp [World.setCell]; omega
            generalize (w6.setCell ⟨w.heap.size + 1 + 1, 2, none⟩ (.slice A6 d6.length c6)) = w8 at HX8 HN8 HB8 HS8 ⊢
            clear HX6 HN6 HB6 q2 f2 HINS HNA HOA HBA x0 x2 e0 hKs hbs HX HN HB hsz2 HS HBW
            have hsz8 := HS8.out
            have HLr : Hid ((w8.alloc (.cells #[.int .i64 k, .int .i64 p] 3)).ownsRow (w.heap.size + 3) 37 1 vf fs.length (fs.map cellsL)) := HN8.out.tri.lc.row.alloc _
            have HNW := Lib.hid (one_new (w8.alloc (.cells #[.int .i64 k, .int .i64 p] 3)) (.slice (some ⟨w8.heap.size, 0, none⟩) 2 2) 37)
            have HOL := Lib.hid (own_new2 w8 k p)
            have HBL : Hid (Below w8.heap.size w8 (w8.alloc (.cells #[.int .i64 k, .int .i64 p] 3))) := (Below.refl _ _).alloc (Nat.le_refl _) _
            have HZ2 : Hid ((w8.alloc (.cells #[.int .i64 k, .int .i64 p] 3)).heap.size = w8.heap.size + 1) := by show _ = _; rw [World.size_alloc]
            obtain ⟨_, _, _, _, _, x5⟩ := HX8.out.six
            have hI1 : (1 : Int) ≤ (r'.length : Int) + 3 := by omega
            have hI3 : (r'.length : Int) + 3 ≤ (c2 : Int) := by omega
            have hI4 : ¬ c2 = 1 := by omega
            go_wp2_with (at_builtin
                         refine wpList_append_lies _ rfl (.tmp 43) (.tmp 47) _ rfl (w.heap.size + 3) 37 i0 _ 1 24 Tryd.underlying25 hi0 hz0 hz1 hz2 rfl (by omega) _ _ _ rfl (HLr.out.alloc _) ⟨w8.heap.size + 1, 0, none⟩ 1 1 [.slice (some ⟨w8.heap.size, 0, none⟩) 2 2] rfl rfl (by have h := HNW.out; rw [HZ2.out] at h; exact h) (by intro u hu; simp at hu; subst hu; rfl) (by omega) (by unfold maxLen; omega) (by omega) (by have := HZ2.out; rw [World.size_alloc]; omega) _ rfl ?_
                         intro g cap w9 p1 p2 p3 p4
                         have HN9 := Lib.hid (HN8.out.push HBL.out hsz8 HOL.out (Nat.le_refl _) p1 p2 p3)
                         have HX9 : Hid (BoxW w9 (w.heap.size + 1 + 1) m t (.slice A6 d6.length c6) vo ve vf) := BoxW.grown (lo := w.heap.size + 3) ((Row.alloc (Row.alloc HX8.out _) _) : BoxW _ _ _ _ _ _ _ _) p2 (fun b hb => (HN8.out.tri.lc.lt b hb).1) (by omega)
                         have HB9 : Hid (Below (w.heap.size + 2) W w9) := ((HB8.out.alloc (by omega) _).alloc (by have := HZ2.out; omega) _).grown p2 (by have := HZ2.out; rw [World.size_alloc]; omega) fun b hb => by have := (HN8.out.tri.lc.lt b hb).1; omega
                         have HS9 : Hid (w.heap.size + 3 ≤ w9.heap.size) := by have := HB8.out.size; have h := p2.size; rw [World.size_alloc, World.size_alloc] at h; show _ ≤ _; omega
                         have c0 := HX9.out.six.1
                         have f0 := Row.frozen HX9.out 0
                         have c5 := HX9.out.six.2.2.2.2.2
                         have f5 := Row.frozen HX9.out 5
                         clear p1 p2 p3 p4)
            have HX10 := Lib.hid (boxw_set (v := .slice (some ⟨g, 0, none⟩) (fs.length + 1) cap) HX9.out)
            have HN10 := Lib.hid (HN9.out.lowCell (p := ⟨w.heap.size + 1 + 1, 5, none⟩) (Nat.lt_succ_self _) (.slice (some ⟨g, 0, none⟩) (fs.length + 1) cap))
            have HX11 := Lib.hid (boxw_set0 (m := m + 1) HX10.out)
            have HN11 := Lib.hid (HN10.out.lowCell (p := ⟨w.heap.size + 1 + 1, 0, none⟩) (Nat.lt_succ_self _) (.int .i64 (m + 1)))
            have HB11 := Lib.hid ((HB9.out.setCell (p := ⟨w.heap.size + 1 + 1, 5, none⟩) (Nat.le_refl _) (.slice (some ⟨g, 0, none⟩) (fs.length + 1) cap)).setCell (p := ⟨w.heap.size + 1 + 1, 0, none⟩) (Nat.le_refl _) (.int .i64 (m + 1)))
            have HS11 : Hid (w.heap.size + 3 ≤ ((w9.setCell ⟨w.heap.size + 1 + 1, 5, none⟩ (.slice (some ⟨g, 0, none⟩) (fs.length + 1) cap)).setCell ⟨w.heap.size + 1 + 1, 0, none⟩ (.int .i64 (m + 1))).heap.size) := by have := HS9.out; show _ ≤ _; simp [World.setCell]; omega
            have HC11 := Lib.hid (HC.out.step (ps' := sayL d6) (fs' := sayL (fs ++ [⟨some ⟨w8.heap.size, 0, none⟩, [(k : Int), (p : Int)], 2⟩])) HR6.out HM6.out (by rw [sayL_snoc]))
            go_roundw
            case rel => exact ⟨m, some ⟨bb, oo + 1, none⟩, b :: c' :: r', c2 - 1, p + 1, m + 1, _, d6, _, os, _, es, _, _, rfl, rfl, by go_num, by simp; omega, by simp; omega, by omega, HRT.out, HX11.out, HN11.out, HB11.out, HS11.out, HC11.out⟩
            case measure => simp [lenS]
        · have hKs : w.heap.size + 1 + 1 < wr.heap.size := by omega
          rcases r with _ | ⟨a, _ | ⟨b2, _ | ⟨d, r'⟩⟩⟩
          · have hl0 : ([] : List Int).length = 0 := rfl
            rw [hl0]
            obtain ⟨_, _, _, _, x4, _⟩ := HX.out.six
            have HPUT := Lib.hid (l1PutW_any (w.heap.size + 3) ve es l wr HN.out.e HC.out.re (HC.out.new rfl) hel)
            clear h3
            go_wp2_with (go_at_call 120
                         refine HPUT.out.mono ?_
                         rintro e w6 ⟨v6, es6, rfl, hr6, hm6, hlen6, hO6, hB6⟩
                         obtain ⟨A6, c6, rfl, hc6, _⟩ := hO6.shape
                         have HN6 : Hid (BinR w6 (w.heap.size + 3) vp ps vo os (.slice A6 es6.length c6) es6 vf fs) := ⟨HN.out.tri.keep hB6, hO6.lower hsz2⟩
                         have HX6 : Hid (BoxW w6 (w.heap.size + 1 + 1) m t vp vo ve vf) := Row.below HX.out hB6 (by omega)
                         have HR6 := Lib.hid hr6
                         have HM6 := Lib.hid hm6
                         have HB6 := Lib.hid (HB.out.trans (hB6.mono (by omega)))
                         have q4 := HX6.out.six.2.2.2.2.1
                         have f4 := Row.frozen HX6.out 4
                         clear hr6 hm6 hO6 hB6 hlen6)
            have HX8 := Lib.hid (boxw_set4 (v := .slice A6 es6.length c6) HX6.out)
            have HN8 := Lib.hid (HN6.out.lowCell (p := ⟨w.heap.size + 1 + 1, 4, none⟩) (Nat.lt_succ_self _) (.slice A6 es6.length c6))
            have HB8 := Lib.hid (HB6.out.setCell (p := ⟨w.heap.size + 1 + 1, 4, none⟩) (Nat.le_refl _) (.slice A6 es6.length c6))
            have HK8 : Hid (BoM (rs.map Ru.abs) n (k + 1) m (sayL ps) (sayL os) es6 (sayL fs)) := BoM.of hCC HC.out.n (fun z => by have h := HC.out.P z; simpa [cutR] using h) (fun z => by have h := HC.out.O z; simpa [cutR] using h) (fun z => by rw [HM6.out, mem_swap]; exact HC.out.E z) (by have h := HC.out.F; simpa [cutR] using h) HC.out.rp HC.out.ro HR6.out
            go_roundw
            case rel => exact ⟨k + 1, m, vp, ps, vo, os, _, es6, vf, fs, by omega, by go_num, hm, HX8.out, HN8.out, HB8.out, HK8.out⟩
            case measure => simp [intOf]; omega
          · have hl0 : ([a] : List Int).length = 1 := rfl
            rw [hl0]
            obtain ⟨bb, oo, rfl, hbb, hcc⟩ := HR.out (by simp)
            have e0 := (HBW.out.cell (p := ⟨bb, oo, none⟩) hbb).trans (hcc 0 a rfl)
            clear hcc
            have hbs : bb < wr.heap.size := by omega
            obtain ⟨_, _, _, x3, _, _⟩ := HX.out.six
            have HBA : Hid (Below wr.heap.size wr (wr.drew.alloc (.cells #[.int .i64 l, .int .i64 a] 3))) := ((Below.refl _ _).drew).alloc (Nat.le_refl _) _
            have HOA := Lib.hid (own_new2 wr.drew l a)
            have HNA := Lib.hid (HN.out.keep HBA.out)
            have HINS := Lib.hid (l5InsertN_any (w.heap.size + 3) vo os (some ⟨wr.heap.size, 0, none⟩) [l, a] 2 _ HNA.out.tri.lb.lsR HC.out.ro (HOA.out.lower (by simp; omega)) (HN.out.tri.lb.lsR.apart HOA.out) (by simp) (by simpa using HO2.out) (by simp) (by omega) (by simp; omega))
            clear h3
            go_wp2_with fail
            go_region_law (first
              | (go_simp
                 go_at_call 119
                 refine HINS.out.mono ?_
                 rintro e w6 ⟨v6, d6, rfl, hL6, hr6, hm6, _, hB6, hv6⟩
                 obtain ⟨A6, c6, rfl, hc6, _, _⟩ := hL6.shape
                 have HN6 := Lib.hid (HNA.out.swapPO.ins hB6 hL6 hv6).swapPO
                 have HB6 := Lib.hid (HBA.out.trans (hB6.mono HBA.out.size))
                 have HX6 : Hid (BoxW w6 (w.heap.size + 1 + 1) m t vp vo ve vf) := Row.below HX.out HB6.out (by omega)
                 have HR6 := Lib.hid hr6
                 have HM6 := Lib.hid hm6
                 have q3 := HX6.out.six.2.2.2.1
                 have f3 := Row.frozen HX6.out 3
                 clear hL6 hr6 hm6 hB6 hv6)
              | fail)
            all_goals
              have HX8 := Lib.hid (boxw_set3 (v := .slice A6 d6.length c6) HX6.out)
              have HN8 := Lib.hid (HN6.out.lowCell (p := ⟨w.heap.size + 1 + 1, 3, none⟩) (Nat.lt_succ_self _) (.slice A6 d6.length c6))
              have HB8 : Hid (Below (w.heap.size + 2) W (w6.setCell ⟨w.heap.size + 1 + 1, 3, none⟩ (.slice A6 d6.length c6))) := (HB.out.trans (HB6.out.mono (by omega))).setCell (Nat.le_refl _) _
              have HK8 : Hid (BoM (rs.map Ru.abs) n (k + 1) m (sayL ps) (sayL d6) es (sayL fs)) := BoM.of hCC HC.out.n (fun z => by have h := HC.out.P z; simpa [cutR] using h) (fun z => by rw [HM6.out, mem_swap]; exact HC.out.O z) (fun z => by have h := HC.out.E z; simpa [cutR] using h) (by have h := HC.out.F; simpa [cutR] using h) HC.out.rp HR6.out HC.out.re
              go_wp2
              go_roundw
              case rel => exact ⟨k + 1, m, vp, ps, _, d6, ve, es, vf, fs, by omega, by go_num, hm, HX8.out, HN8.out, HB8.out, HK8.out⟩
              case measure => simp [intOf]; omega
          · have hl0 : ([a, b2] : List Int).length = 2 := rfl
            rw [hl0]
            obtain ⟨bb, oo, rfl, hbb, hcc⟩ := HR.out (by simp)
            have e0 := (HBW.out.cell (p := ⟨bb, oo, none⟩) hbb).trans (hcc 0 a rfl)
            have e1 := (HBW.out.cell (p := ⟨bb, oo + 1, none⟩) hbb).trans (hcc 1 b2 rfl)
            clear hcc
            have hbs : bb < wr.heap.size := by omega
            obtain ⟨_, _, x2, _, _, _⟩ := HX.out.six
            have HBA : Hid (Below wr.heap.size wr (wr.drew.alloc (.cells #[.int .i64 l, .int .i64 a, .int .i64 b2] 3))) := ((Below.refl _ _).drew).alloc (Nat.le_refl _) _
            have HOA := Lib.hid (own_new3 wr.drew l a b2)
            have HNA := Lib.hid (HN.out.keep HBA.out)
            have HINS := Lib.hid (l5InsertN_any (w.heap.size + 3) vp ps (some ⟨wr.heap.size, 0, none⟩) [l, a, b2] 3 _ HNA.out.tri.la.lsR HC.out.rp (HOA.out.lower (by simp; omega)) (HN.out.tri.la.lsR.apart HOA.out) (by simp) (by simpa using HP3.out) (by simp) (by omega) (by simp; omega))
            clear h3
            go_wp2_with fail
            go_region_law (first
              | (go_simp
                 go_at_call 119
                 refine HINS.out.mono ?_
                 rintro e w6 ⟨v6, d6, rfl, hL6, hr6, hm6, _, hB6, hv6⟩
                 obtain ⟨A6, c6, rfl, hc6, _, _⟩ := hL6.shape
                 have HN6 := Lib.hid (HNA.out.ins hB6 hL6 hv6)
                 have HB6 := Lib.hid (HBA.out.trans (hB6.mono HBA.out.size))
                 have HX6 : Hid (BoxW w6 (w.heap.size + 1 + 1) m t vp vo ve vf) := Row.below HX.out HB6.out (by omega)
                 have HR6 := Lib.hid hr6
                 have HM6 := Lib.hid hm6
                 have q2 := HX6.out.six.2.2.1
                 have f2 := Row.frozen HX6.out 2
                 clear hL6 hr6 hm6 hB6 hv6)
              | fail)
            all_goals
              have HX8 := Lib.hid (boxw_set2 (v := .slice A6 d6.length c6) HX6.out)
              have HN8 := Lib.hid (HN6.out.lowCell (p := ⟨w.heap.size + 1 + 1, 2, none⟩) (Nat.lt_succ_self _) (.slice A6 d6.length c6))
              have HB8 : Hid (Below (w.heap.size + 2) W (w6.setCell ⟨w.heap.size + 1 + 1, 2, none⟩ (.slice A6 d6.length c6))) := (HB.out.trans (HB6.out.mono (by omega))).setCell (Nat.le_refl _) _
              have HK8 : Hid (BoM (rs.map Ru.abs) n (k + 1) m (sayL d6) (sayL os) es (sayL fs)) := BoM.of hCC HC.out.n (fun z => by rw [HM6.out, mem_swap]; exact HC.out.P z) (fun z => by have h := HC.out.O z; simpa [cutR] using h) (fun z => by have h := HC.out.E z; simpa [cutR] using h) (by have h := HC.out.F; simpa [cutR] using h) HR6.out HC.out.ro HC.out.re
              go_wp2
              go_roundw
              case rel => exact ⟨k + 1, m, _, d6, vo, os, ve, es, vf, fs, by omega, by go_num, hm, HX8.out, HN8.out, HB8.out, HK8.out⟩
              case measure => simp [intOf]; omega
          · exact absurd h3 (by simp)
    · have hke : k = rs.length := by omega
      subst hke
      have hszr : w.heap.size + 3 ≤ wr.heap.size := by omega
      have HR3 := Lib.hid (R0.out.below (HB.out.mono (Nat.le_refl _)) (by omega))
      obtain ⟨Ap, cp, rfl, _, _⟩ := HN.out.tri.la.slice
      obtain ⟨Ao, co, rfl, _, _⟩ := HN.out.tri.lb.slice
      obtain ⟨Ae, ce, rfl, _, _⟩ := HN.out.e.shape
      obtain ⟨Af, cf, rfl, _, _⟩ := HN.out.tri.lc.slice
      obtain ⟨b0, b1, b2, b3, b4, b5⟩ := BoxW.six HX2.out
      have d0 := HR3.out.cell 0
      have d1 := HR3.out.cell 1
      have d2 := HR3.out.cell 2
      have d3 := HR3.out.cell 3
      have d4 := HR3.out.cell 4
      have d5 := HR3.out.cell 5
      have g0 := HR3.out.frozen 0
      have g1 := HR3.out.frozen 1
      have g2 := HR3.out.frozen 2
      have g3 := HR3.out.frozen 3
      have g4 := HR3.out.frozen 4
      have g5 := HR3.out.frozen 5
      simp at d0 d1 d2 d3 d4 d5
      go_wp2
      refine bodyPost_ret (v := .agg #[.int .i64 m, .int .i64 t, .slice Ap ps.length cp, .slice Ao os.length co, .slice Ae es.length ce, .slice Af fs.length cf]) (by simp [results, Tryd.results79, go_sem, d0, d1, d2, d3, d4, d5]) rfl ⟨m, w.heap.size + 3, _, ps, _, os, _, es, _, fs, rfl, by omega, ?_, by rw [List.length_map]; exact HK.out, ?_⟩
      · exact (((((HN.out.lowCell (by simp) _).lowCell (by simp) _).lowCell (by simp) _).lowCell (by simp) _).lowCell (by simp) _).lowCell (by simp) _
      · exact ((((((HB0.out.trans (HB.out.mono (by omega))).setCell (by simp) _).setCell (by simp) _).setCell (by simp) _).setCell (by simp) _).setCell (by simp) _).setCell (by simp) _

end Go.Proofs.YtaobkanliiiapaaDoor

/- As To, with the capacities of the right sides. Made by mk_toc.py. -/

namespace Go.Proofs.YtaobkanliiiapaaDoor
open Go.RowKit

/-- A new slice of rules that says what rs say; nothing older has turned. -/
def GaveRC (w : World) (ss : List (Int × List Int)) (e : Ending) (w' : World) : Prop :=
  ∃ A c rs, e = .returned (.slice A rs.length c) ∧ rs.length ≤ c ∧ OwnR w' w.heap.size A rs ∧ rs.map Ru.abs = ss ∧ (∀ u ∈ rs, u.r.length ≤ u.c) ∧ Below w.heap.size w w'

/-- The first k rules of rs are copied into block g. -/
def CopyingC (w : World) (lo g : Nat) (rs : List Ru) (k : Nat) : Prop :=
  ∃ (cs : Array Value) (done : List Ru), Row w g 106 cs ∧ cs.size = rs.length * 2 ∧ done.length = k ∧ done.map Ru.abs = (rs.take k).map Ru.abs ∧
    (∀ (j : Nat) (u : Ru), done[j]? = some u → cs[j * 2]? = some (.int .i64 u.l) ∧ cs[j * 2 + 1]? = some (.slice u.a u.r.length u.c) ∧ OwnI w lo u.a u.r) ∧
    (∀ (i j : Nat) (u v : Ru), done[i]? = some u → done[j]? = some v → i ≠ j → u.r ≠ [] → v.r ≠ [] → u.a ≠ v.a) ∧ ∀ u ∈ done, u.r.length ≤ u.c

theorem CopyingC.step {w w1 : World} {lo g k : Nat} {rs : List Ru} (h : CopyingC w lo g rs k) (hlo : lo ≤ w.heap.size) (hk : k < rs.length) (hb : Below w.heap.size w w1) {A : Option Addr} {c : Nat} (hO : OwnI w1 w.heap.size A rs[k].r) (hcap : rs[k].r.length ≤ c) :
    CopyingC ((w1.setCell ⟨g, k * 2, none⟩ (.int .i64 rs[k].l)).setCell ⟨g, k * 2 + 1, none⟩ (.slice A rs[k].r.length c)) lo g rs (k + 1) := by
  obtain ⟨cs, done, hr, hs, hl, ha, hc, hd, hcs⟩ := h
  have hg : g < w.heap.size := hr.lt
  have hr1 : Row w1 g 106 cs := hr.below hb hg
  have keep : ∀ {A' : Option Addr} {xs : List Int}, OwnI w1 lo A' xs → OwnI ((w1.setCell ⟨g, k * 2, none⟩ (.int .i64 rs[k].l)).setCell ⟨g, k * 2 + 1, none⟩ (.slice A rs[k].r.length c)) lo A' xs := by
    intro A' xs h
    rcases h with h | ⟨g', cs', e, hl', hr', hc'⟩
    · exact .inl h
    · have hne : g' ≠ g := hr'.ne hr1 (by decide)
      exact .inr ⟨g', cs', e, hl', (hr'.far hne _).far hne _, hc'⟩
  refine ⟨(cs.setIfInBounds (k * 2) (.int .i64 rs[k].l)).setIfInBounds (k * 2 + 1) (.slice A rs[k].r.length c), done ++ [⟨rs[k].l, A, rs[k].r, c⟩], (hr1.set _ _).set _ _, by simp [hs], by simp [hl], ?_, ?_, ?_, fun u hu => (List.mem_append.1 hu).elim (fun h => hcs u h) (fun h => by rw [List.mem_singleton.1 h]; exact hcap)⟩
  · rw [List.map_append, ha, List.take_succ_eq_append_getElem hk, List.map_append]; rfl
  · intro j u hu
    by_cases e : j < k
    · rw [List.getElem?_append_left (by omega)] at hu
      obtain ⟨h1, h2, h3⟩ := hc j u hu
      refine ⟨?_, ?_, keep (h3.below hb (Nat.le_refl _))⟩
      · rw [Array.getElem?_setIfInBounds, if_neg (by omega), Array.getElem?_setIfInBounds, if_neg (by omega)]; exact h1
      · rw [Array.getElem?_setIfInBounds, if_neg (by omega), Array.getElem?_setIfInBounds, if_neg (by omega)]; exact h2
    · rw [List.getElem?_append_right (by omega)] at hu
      have hj : j - done.length = 0 := by
        rcases Nat.eq_zero_or_pos (j - done.length) with h0 | h0
        · exact h0
        · rw [List.getElem?_eq_none (by simp; omega)] at hu; cases hu
      rw [hj] at hu
      simp at hu
      subst hu
      have : j = k := by omega
      subst this
      refine ⟨?_, ?_, keep (hO.lower hlo)⟩
      · rw [Array.getElem?_setIfInBounds, if_neg (by omega), Array.getElem?_setIfInBounds, if_pos rfl, if_pos (by omega)]
      · rw [Array.getElem?_setIfInBounds, if_pos rfl, if_pos (by simp; omega)]
  · have old : ∀ (i : Nat) (u : Ru), i < k → (done ++ [⟨rs[k].l, A, rs[k].r, c⟩])[i]? = some u → u.r ≠ [] → rs[k].r ≠ [] → u.a ≠ A := by
      intro i u hi hu hne hne' he
      rw [List.getElem?_append_left (by omega)] at hu
      obtain ⟨_, _, h3⟩ := hc i u hu
      rcases h3 with h3 | ⟨g1, _, e1, _, r1, _⟩
      · exact hne h3
      · rcases hO with h4 | ⟨g2, _, e2, l2, _, _⟩
        · exact hne' h4
        · rw [e1, e2] at he
          have := r1.lt
          injection he with he
          injection he with he
          omega
    have last : ∀ (i : Nat) (u : Ru), ¬ i < k → (done ++ [⟨rs[k].l, A, rs[k].r, c⟩])[i]? = some u → i = k ∧ u = ⟨rs[k].l, A, rs[k].r, c⟩ := by
      intro i u hi hu
      rw [List.getElem?_append_right (by omega)] at hu
      have hj : i - done.length = 0 := by
        rcases Nat.eq_zero_or_pos (i - done.length) with h0 | h0
        · exact h0
        · rw [List.getElem?_eq_none (by simp; omega)] at hu; cases hu
      rw [hj] at hu
      simp at hu
      exact ⟨by omega, hu.symm⟩
    intro i j u v hu hv hij hun hvn
    by_cases hi : i < k <;> by_cases hj : j < k
    · rw [List.getElem?_append_left (by omega)] at hu hv
      exact hd i j u v hu hv hij hun hvn
    · obtain ⟨rfl, rfl⟩ := last j v hj hv
      exact old i u hi hu hun hvn
    · obtain ⟨rfl, rfl⟩ := last i u hi hu
      exact fun e => old j v hj hv hvn hun e.symm
    · have := (last i u hi hu).1; have := (last j v hj hv).1; omega

theorem CopyingC.row {w : World} {lo g k : Nat} {rs : List Ru} (h : CopyingC w lo g rs k) : ∃ cs, Row w g 106 cs ∧ cs.size = rs.length * 2 := by
  obtain ⟨cs, _, hr, hs, _⟩ := h
  exact ⟨cs, hr, hs⟩

theorem CopyingC.done {w : World} {lo g : Nat} {rs : List Ru} (h : CopyingC w lo g rs rs.length) (hg : lo ≤ g) : ∃ ds : List Ru, OwnR w lo (some ⟨g, 0, none⟩) ds ∧ ds.length = rs.length ∧ ds.map Ru.abs = rs.map Ru.abs ∧ ∀ u ∈ ds, u.r.length ≤ u.c := by
  obtain ⟨cs, ds, hr, _, hl, ha, hc, hd, hcp⟩ := h
  exact ⟨ds, .inr ⟨g, cs, rfl, hg, hr, hc, hd⟩, hl, by rw [ha, List.take_length], hcp⟩

set_option maxHeartbeats 400000 in
theorem toRuleSC_any (A : Option Addr) (rs : List Ru) (c : Nat) (w : World) (hr : Rls w w.heap.size A rs) (hn : rs.length ≤ 1048576) (hu : ∀ u ∈ rs, u.r.length ≤ 1048576) :
    Calls Tryd.prog 80 #[.slice A rs.length c] w (GaveRC w (rs.map Ru.abs)) := by
  have hmk := make_rules rs.length hn
  have HR := Lib.hid hr; clear hr
  have HU := Lib.hid hu; clear hu
  go_enter Tryd.func80, Tryd.ntmps80
  go_wp2
  go_loopw [4] (fun i wr => ∃ (k : Nat), k ≤ rs.length ∧ i = .int .i64 k ∧ w.heap.size < wr.heap.size ∧ Below w.heap.size w wr ∧ Hid (CopyingC wr w.heap.size w.heap.size rs k)) (fun i _ => rs.length - (intOf i).toNat)
  case atStart => exact ⟨0, by omega, rfl, by simp, (Below.refl _ _).alloc (Nat.le_refl _) _, zR rs.length, [], Row.new _ _ _, zR_size _, rfl, rfl, fun j u h => by simp at h, fun i j u v h => (by simp at h), fun u h => by simp at h⟩
  case round =>
    obtain ⟨k, hk, rfl, hsz, hB, H⟩ := hrel
    clear hmk
    by_cases hlt : k < rs.length
    · obtain ⟨b, o, rfl, hb, c1, c2, c3⟩ := (HR.out.keep hB).at_ hlt
      have C3 := Lib.hid (c3.more hB.size); clear c3
      have hlen := HU.out rs[k] (List.getElem_mem hlt)
      go_wp2_with fail
      refine (toRule_any _ _ _ _ _ C3.out hlen).mono ?_
      rintro e w1 ⟨A1, k1, rfl, hcap1, hO, hB1⟩
      obtain ⟨cs, hcs, hcz⟩ := H.out.row
      have hr1 := hcs.below hB1 hsz
      obtain ⟨x0, d0⟩ : ∃ x0, w1.cell? ⟨w.heap.size, k * 2, none⟩ = some x0 := ⟨_, (hr1.cell (k * 2)).trans (Array.getElem?_eq_getElem (by omega))⟩
      obtain ⟨x1, d1⟩ : ∃ x1, w1.cell? ⟨w.heap.size, k * 2 + 1, none⟩ = some x1 := ⟨_, (hr1.cell (k * 2 + 1)).trans (Array.getElem?_eq_getElem (by omega))⟩
      have f0 := hr1.frozen (k * 2)
      have f1 := hr1.frozen (k * 2 + 1)
      have HO := Lib.hid hO; clear hO
      have HB1 := Lib.hid hB1; clear hB1
      clear hr1 hcs hcz
      go_wp2
      go_roundw
      case rel => exact ⟨k + 1, by omega, by go_num, by have := HB1.out.size; simp; omega, ((hB.trans (HB1.out.mono hB.size)).setCell (Nat.le_refl _) _).setCell (Nat.le_refl _) _, H.out.step hB.size hlt HB1.out HO.out hcap1⟩
      case measure => simp [intOf]; omega
    · go_wp2
      go_ret
      obtain rfl : k = rs.length := by omega
      obtain ⟨ds, hO, hl, ha, hcp⟩ := H.out.done (Nat.le_refl _)
      exact ⟨some ⟨w.heap.size, 0, none⟩, rs.length, ds, by rw [hl]; rfl, by omega, hO, ha, hcp, hB⟩

/-- A grammar's copy: it says the same; nothing older has turned. -/
def GaveGC (w : World) (n t : Int) (ss : List (Int × List Int)) (e : Ending) (w' : World) : Prop :=
  ∃ A c rs, e = .returned (.agg #[.int .i64 n, .int .i64 t, .slice A rs.length c]) ∧ rs.length ≤ c ∧ OwnR w' w.heap.size A rs ∧ rs.map Ru.abs = ss ∧ (∀ u ∈ rs, u.r.length ≤ u.c) ∧ Below w.heap.size w w'

set_option maxHeartbeats 400000 in
theorem toGrammarC_any (n t : Int) (A : Option Addr) (rs : List Ru) (c : Nat) (w : World) (hr : Rls w w.heap.size A rs) (hn : rs.length ≤ 1048576) (hu : ∀ u ∈ rs, u.r.length ≤ 1048576) :
    Calls Tryd.prog 30 #[.agg #[.int .i64 n, .int .i64 t, .slice A rs.length c]] w (GaveGC w n t (rs.map Ru.abs)) := by
  have HR := Lib.hid hr; clear hr
  have HU := Lib.hid hu; clear hu
  go_enter Tryd.func30, Tryd.ntmps30
  go_wp2_with fail
  refine (toRuleSC_any _ _ _ _ ?_ hn HU.out).mono ?_
  · exact (HR.out.keep (by go_grown)).more (by go_size)
  · rintro e w1 ⟨A', c', ss, rfl, hcap, hO, ha, hcp, hB⟩
    have HCP := Lib.hid hcp; clear hcp
    have hz := hB.size
    have c0 := (hB.cell (p := ⟨w.heap.size + 1 + 1, 0, none⟩) (by simp)).trans (show _ = some (.int .i64 n) from by simp [go_sem])
    have c1 := (hB.cell (p := ⟨w.heap.size + 1 + 1, 1, none⟩) (by simp)).trans (show _ = some (.int .i64 t) from by simp [go_sem])
    have c2 := (hB.cell (p := ⟨w.heap.size + 1 + 1, 2, none⟩) (by simp)).trans (show _ = some (.slice none 0 0) from by simp [go_sem])
    have f0 := (hB.frozen (p := ⟨w.heap.size + 1 + 1, 2, none⟩) (by simp)).trans (show _ = false from by simp [go_sem])
    have d0 := (hB.cell (p := ⟨w.heap.size + 1, 0, none⟩) (by simp)).trans (show _ = some (.int .i64 0) from by simp [go_sem])
    have d1 := (hB.cell (p := ⟨w.heap.size + 1, 1, none⟩) (by simp)).trans (show _ = some (.int .i64 0) from by simp [go_sem])
    have d2 := (hB.cell (p := ⟨w.heap.size + 1, 2, none⟩) (by simp)).trans (show _ = some (.slice none 0 0) from by simp [go_sem])
    have g0 := (hB.frozen (p := ⟨w.heap.size + 1, 0, none⟩) (by simp)).trans (show _ = false from by simp [go_sem])
    have g1 := (hB.frozen (p := ⟨w.heap.size + 1, 1, none⟩) (by simp)).trans (show _ = false from by simp [go_sem])
    have g2 := (hB.frozen (p := ⟨w.heap.size + 1, 2, none⟩) (by simp)).trans (show _ = false from by simp [go_sem])
    have HO := Lib.hid hO; clear hO
    have HB := Lib.hid hB; clear hB
    have HA := Lib.hid ha; clear ha
    go_wp2_with fail
    simp only [World.size_alloc] at hz
    refine bodyPost_ret (v := .agg #[.int .i64 n, .int .i64 t, .slice A' ss.length c']) (by simp [results, Tryd.results30, go_sem, d0, d1, d2]) rfl ⟨A', c', ss, rfl, hcap, ?_, HA.out, HCP.out, ?_⟩
    · have h := HO.out
      simp only [World.size_alloc] at h
      exact ((((h.low (by simp) _).low (by simp) _).low (by simp) _).low (by simp) _).lower (by omega)
    · have h := HB.out
      simp only [World.size_alloc] at h
      have hB0 : Below w.heap.size w w1 := Below.trans (by go_grown) (h.mono (by omega))
      exact (((hB0.setCell (by simp; omega) _).setCell (by simp) _).setCell (by simp) _).setCell (by simp) _

end Go.Proofs.YtaobkanliiiapaaDoor

/- BinaryOf: both sides answer the one binary grammar that is told by its members. -/

namespace Go.Proofs.YtaobkanliiiapaaDoor
open Go.RowKit

/-- What BinaryOf of good rules says. -/
structure PBo (n t : Int) (rs : List (Int × List Int)) (s : Bs) : Prop where
  nn : s.n = (cutA rs 0 n).n
  tt : s.t = t
  rp : RisesL s.P
  P : ∀ z, z ∈ s.P ↔ z ∈ (cutA rs 0 n).P
  ro : RisesL s.O
  O : ∀ z, z ∈ s.O ↔ z ∈ (cutA rs 0 n).O
  re : Rises s.E
  E : ∀ z, z ∈ s.E ↔ z ∈ (cutA rs 0 n).E
  F : s.F = (cutA rs 0 n).F
theorem PBo.unique {n t : Int} {rs : List (Int × List Int)} {s s' : Bs} (h : PBo n t rs s) (k : PBo n t rs s') : s = s' := by
  obtain ⟨a1, a2, a3, a4, a5, a6⟩ := s
  obtain ⟨b1, b2, b3, b4, b5, b6⟩ := s'
  have e1 : a1 = b1 := h.nn.trans k.nn.symm
  have e2 : a2 = b2 := h.tt.trans k.tt.symm
  have e3 : a3 = b3 := risesL_unique h.rp k.rp fun z => (h.P z).trans (k.P z).symm
  have e4 : a4 = b4 := risesL_unique h.ro k.ro fun z => (h.O z).trans (k.O z).symm
  have e5 : a5 = b5 := rises_unique h.re k.re fun z => (h.E z).trans (k.E z).symm
  have e6 : a6 = b6 := h.F.trans k.F.symm
  rw [e1, e2, e3, e4, e5, e6]
def zeroS : Bs := ⟨0, 0, [], [], [], []⟩
instance : Nonempty Bs := ⟨zeroS⟩
noncomputable def boS (n t : Int) (rs : List (Int × List Int)) : Bs := if goodG n t rs = true then Classical.epsilon (PBo n t rs) else zeroS
theorem boS_eq {n t : Int} {rs : List (Int × List Int)} {s : Bs} (hg : goodG n t rs = true) (h : PBo n t rs s) : s = boS n t rs := by
  unfold boS
  rw [if_pos hg]
  exact h.unique (Classical.epsilon_spec ⟨s, h⟩)
theorem boS_zero {n t : Int} {rs : List (Int × List Int)} (hg : goodG n t rs = false) : zeroS = boS n t rs := by
  unfold boS
  rw [if_neg (by rw [hg]; simp)]
theorem cutOK_good {n t : Int} {rs : List (Int × List Int)} (hg : goodG n t rs = true) : CutOK (cutA rs 0 n) := by
  have hmem : ∀ z ∈ rs, z.2.length ≤ 4 ∧ z.1 < n ∧ ∀ x ∈ z.2, x < n := fun z hz => by
    have h := goodG_mem hg hz
    have h2 := (goodG_is hg).1
    refine ⟨h.2.1, h.1.2, fun x hx => ?_⟩
    rcases h.2.2 x hx with h3 | h3 <;> omega
  have hb := cutA_big rs 0 n fun z hz => (hmem z hz).1
  have h16 := (goodG_is hg).2.2.1
  have h6 := (goodG_is hg).1
  refine ⟨fun z hz => ?_, fun z hz => ?_, by omega, by omega, by omega, by omega, by omega⟩
  · obtain ⟨r, _, m1, m2, _, _, x, y, q, e, _⟩ := cutA_pairs n _ 0 n (fun r hr => (hmem r hr).2.2) _ hz
    rw [e]; rfl
  · obtain ⟨l, a, _, e⟩ := (cutA_ones _ 0 n z).1 hz
    rw [e]; rfl
theorem cutR_two (k : Int) : ∀ (r : List Int) (l p n : Int), ∀ z ∈ (cutR k l r p n).F, z.length = 2
  | [], l, p, n, z, h => by simp [cutR] at h
  | [a], l, p, n, z, h => by simp [cutR] at h
  | [a, b], l, p, n, z, h => by simp [cutR] at h
  | a :: b :: c :: r, l, p, n, z, h => by
    rw [cutR_more] at h
    rcases List.mem_cons.1 h with h | h
    · rw [h]; rfl
    · exact cutR_two k (b :: c :: r) n (p + 1) (n + 1) z h
theorem cutA_two : ∀ (rs : List (Int × List Int)) (k n : Int), ∀ z ∈ (cutA rs k n).F, z.length = 2
  | [], k, n, z, h => by simp [cutA] at h
  | r :: rs, k, n, z, h => by
    rw [cutA_cons] at h
    rcases List.mem_append.1 h with h | h
    · exact cutR_two k r.2 r.1 1 n z h
    · exact cutA_two rs (k + 1) _ z h
/-- Its lists are short. -/
theorem PBo.lenB {n t : Int} {rs : List (Int × List Int)} {b : Bi} (hg : goodG n t rs = true) (h : PBo n t rs b.say) : LenB 1048576 b := by
  have hc := cutOK_good hg
  have nd : ∀ {zs : List (List Int)}, RisesL zs → zs.Nodup := fun hz => hz.imp fun h e => by subst e; rw [cmpL_self] at h; omega
  have h1 := nodup_le (sayL b.P) (cutA rs 0 n).P (nd h.rp) fun z hz => (h.P z).1 hz
  have h2 := nodup_le (sayL b.O) (cutA rs 0 n).O (nd h.ro) fun z hz => (h.O z).1 hz
  have h3 := nodup_le b.E (cutA rs 0 n).E (h.re.imp fun h e => by subst e; omega) fun z hz => (h.E z).1 hz
  have h4 : (sayL b.F).length = (cutA rs 0 n).F.length := congrArg List.length h.F
  rw [sayL_len] at h1 h2 h4
  have := hc.pl
  have := hc.ol
  have := hc.el
  have := hc.fl
  refine ⟨by omega, fun u hu => ?_, by omega, fun u hu => ?_, by omega, by omega, fun u hu => ?_⟩
  · rw [hc.p3 _ ((h.P _).1 (sayL_mem hu))]; omega
  · rw [hc.o2 _ ((h.O _).1 (sayL_mem hu))]; omega
  · have hf : u.r ∈ (cutA rs 0 n).F := h.F ▸ (sayL_mem hu : u.r ∈ sayL b.F)
    rw [cutA_two _ _ _ _ hf]; omega

def zeroB : Bi := ⟨0, 0, none, [], 0, none, [], 0, none, [], 0, none, [], 0⟩
/-- A binary grammar and a bool, new. -/
def GaveOB (w : World) (s : Bs) (ok : Bool) (e : Ending) (w' : World) : Prop :=
  ∃ b : Bi, e = .returned (.tuple #[(.agg #[.int .i64 b.n, .int .i64 b.t, .slice b.Ap b.P.length b.cp, .slice b.Ao b.O.length b.co, .slice b.Ae b.E.length b.ce, .slice b.Af b.F.length b.cf]), .bool ok]) ∧ b.say = s ∧ OwnB w' w.heap.size b ∧ LenB 1048576 b ∧ Below w.heap.size w w'
/-- A binary grammar and a bool, new, its lists apart. -/
def GaveAB (w : World) (s : Bs) (ok : Bool) (e : Ending) (w' : World) : Prop :=
  ∃ b : Bi, e = .returned (.tuple #[(.agg #[.int .i64 b.n, .int .i64 b.t, .slice b.Ap b.P.length b.cp, .slice b.Ao b.O.length b.co, .slice b.Ae b.E.length b.ce, .slice b.Af b.F.length b.cf]), .bool ok]) ∧ b.say = s ∧ OwnB w' w.heap.size b ∧ LenB 1048576 b ∧ ApartB b ∧ Below w.heap.size w w'

theorem zero_own (w : World) (lo : Nat) : OwnB w lo zeroB := ⟨.inl rfl, .inl rfl, .inl rfl, .inl rfl⟩
theorem itsL_nil {A : Option Addr} {q : Nat} : ¬ ItsL A [] q := by
  rintro (⟨_, h⟩ | ⟨i, u, h, _⟩)
  · exact h rfl
  · simp at h
theorem zero_len : LenB 1048576 zeroB := ⟨Nat.zero_le _, (fun u h => by cases h), Nat.zero_le _, (fun u h => by cases h), Nat.zero_le _, Nat.zero_le _, (fun u h => by cases h)⟩
theorem zero_apart : ApartB zeroB := ⟨fun _ h => absurd h itsL_nil, fun _ h => absurd h itsL_nil, fun _ h => absurd h itsL_nil, fun _ h => absurd h itsL_nil, fun _ h => absurd h itsL_nil, fun _ h => absurd rfl h.2⟩

theorem lists_apart {w : World} {lo : Nat} {A A' : Option Addr} {xs ys : List Li} {c c' : Nat} (hx : OwnL w lo A xs) (hy : OwnL w lo A' ys) (hs : Sep (.slice A xs.length c) (.slice A' ys.length c')) (hf : Far xs ys) : ∀ q, ItsL A xs q → ¬ ItsL A' ys q := by
  rintro q (⟨e, hn⟩ | ⟨i, u, hu, e, hn⟩) (⟨e', hn'⟩ | ⟨j, v, hv, e', hn'⟩)
  · subst e e'
    exact hs q rfl rfl
  · rcases hx with h | ⟨g, cs, e2, _, hr, _⟩
    · exact hn h
    · rcases hy with h | ⟨g', cs', _, _, _, hc, _⟩
      · subst h; simp at hv
      · rcases (hc j v hv).2.2 with h | ⟨g3, cs3, e3, _, hr3, _⟩
        · exact hn' h
        · rw [e] at e2; rw [e'] at e3
          injection e2 with e2; injection e2 with e2
          injection e3 with e3; injection e3 with e3
          exact hr.ne hr3 (by decide) (e2.symm.trans e3)
  · rcases hy with h | ⟨g, cs, e2, _, hr, _⟩
    · exact hn' h
    · rcases hx with h | ⟨g', cs', _, _, _, hc, _⟩
      · subst h; simp at hu
      · rcases (hc i u hu).2.2 with h | ⟨g3, cs3, e3, _, hr3, _⟩
        · exact hn h
        · rw [e'] at e2; rw [e] at e3
          injection e2 with e2; injection e2 with e2
          injection e3 with e3; injection e3 with e3
          exact hr.ne hr3 (by decide) (e2.symm.trans e3)
  · exact hf i j u v hu hv hn hn' (e.trans e'.symm)
theorem list_int_apart {w : World} {lo : Nat} {A A' : Option Addr} {xs : List Li} {ys : List Int} {c' : Nat} (hx : OwnL w lo A xs) (hy : OwnI w lo A' ys) (ho : Off (.slice A' ys.length c') xs) : ∀ q, ItsL A xs q → ¬ Its A' ys q := by
  rintro q (⟨e, hn⟩ | ⟨i, u, hu, e, hn⟩) ⟨e', hn'⟩
  · rcases hx with h | ⟨g, cs, e2, _, hr, _⟩
    · exact hn h
    · rcases hy with h | ⟨g3, cs3, e3, _, hr3, _⟩
      · exact hn' h
      · rw [e] at e2; rw [e'] at e3
        injection e2 with e2; injection e2 with e2
        injection e3 with e3; injection e3 with e3
        exact hr.ne hr3 (by decide) (e2.symm.trans e3)
  · subst e'
    exact ho i u hu hn q rfl e

theorem implBo_any (n t : Int) (A : Option Addr) (c : Nat) (rs : List Ru) (w : World) (hx : Rls w w.heap.size A rs) (hL : Lims w) (hc : rs.length ≤ c) (h1 : rs.length ≤ 1048576) (h2 : ∀ u ∈ rs, u.r.length ≤ 1048576) (hcp : ∀ u ∈ rs, u.r.length ≤ u.c) (hf : FitR rs) :
    Calls Tryd.prog 31 #[.agg #[.int .i64 n, .int .i64 t, .slice A rs.length c]] w (GaveAB w (boS n t (rs.map Ru.abs)) (goodG n t (rs.map Ru.abs))) := by
  refine (implBinaryOf_any n t A c rs w hx hL hc h1 h2 hcp hf).mono ?_
  rintro e w' ⟨hB, ⟨hg, rfl⟩ | ⟨hg, lo, vp, ps, vo, os, ve, es, vf, fs, hlo, rfl, hN, hp, rp, ho, ro, he, re, hF⟩⟩
  · rw [hg]
    exact ⟨zeroB, rfl, boS_zero hg, zero_own _ _, zero_len, zero_apart, hB⟩
  · obtain ⟨Ap, cp, rfl, _, o1⟩ := hN.tri.la.slice
    obtain ⟨Ao, co, rfl, _, o2⟩ := hN.tri.lb.slice
    obtain ⟨Ae, ce, rfl, _, _⟩ := hN.e.shape
    obtain ⟨Ae', ce', e3, o3⟩ := hN.e.own
    injection e3 with e3 _ _
    subst e3
    obtain ⟨Af, cf, rfl, _, o4⟩ := hN.tri.lc.slice
    rw [hg]
    have hPB : PBo n t (rs.map Ru.abs) (Bi.say ⟨(cutA (rs.map Ru.abs) 0 n).n, t, Ap, ps, cp, Ao, os, co, Ae, es, ce, Af, fs, cf⟩) := ⟨rfl, rfl, rp, fun z => hp.mem_iff, ro, fun z => ho.mem_iff, re, fun z => he.mem_iff, hF⟩
    refine ⟨⟨(cutA (rs.map Ru.abs) 0 n).n, t, Ap, ps, cp, Ao, os, co, Ae, es, ce, Af, fs, cf⟩, rfl, boS_eq hg hPB, ⟨o1.lower hlo, o2.lower hlo, o3.lower hlo, o4.lower hlo⟩, hPB.lenB hg, ?_, hB⟩
    exact ⟨lists_apart o1 o2 hN.tri.ab hN.po, list_int_apart o1 o3 hN.ep, lists_apart o1 o4 hN.tri.ac hN.pf, list_int_apart o2 o3 hN.eo, lists_apart o2 o4 hN.tri.bc hN.of, fun q h h' => list_int_apart o4 o3 hN.ef q h' h⟩

set_option maxHeartbeats 1000000 in
theorem specBo_any (n t : Int) (A : Option Addr) (c : Nat) (rs : List Ru) (w : World) (hx : Rls w w.heap.size A rs) (hc : rs.length ≤ c) (h1 : rs.length ≤ 1048576) (h2 : ∀ u ∈ rs, u.r.length ≤ 1048576) (hcp : ∀ u ∈ rs, u.r.length ≤ u.c) :
    Calls Tryd.prog 29 #[.agg #[.int .i64 n, .int .i64 t, .slice A rs.length c]] w (GaveOB w (boS n t (rs.map Ru.abs)) (goodG n t (rs.map Ru.abs))) := by
  have HX := Lib.hid hx; clear hx
  have H2 := Lib.hid h2; clear h2
  have HCP := Lib.hid hcp; clear hcp
  generalize hW : ((w.alloc (.cells #[.int .i64 n, .int .i64 t, .slice A rs.length c] 54)).alloc (.cells #[.int .i64 0, .int .i64 0, .slice none 0 0, .slice none 0 0, .slice none 0 0, .slice none 0 0] 41)) = W
  have HB0 : Hid (Below w.heap.size w W) := by subst hW; show Below _ _ _; go_grown
  have B0 : Hid (Row W w.heap.size 54 #[.int .i64 n, .int .i64 t, .slice A rs.length c]) := by
    subst hW
    exact Row.alloc (Row.new w 54 #[.int .i64 n, .int .i64 t, .slice A rs.length c]) _
  have R0 : Hid (Row W (w.heap.size + 1) 41 #[.int .i64 0, .int .i64 0, .slice none 0 0, .slice none 0 0, .slice none 0 0, .slice none 0 0]) := by
    subst hW
    have h := Row.new (w.alloc (.cells #[.int .i64 n, .int .i64 t, .slice A rs.length c] 54)) 41 #[.int .i64 0, .int .i64 0, .slice none 0 0, .slice none 0 0, .slice none 0 0, .slice none 0 0]
    rwa [World.size_alloc] at h
  have HWE := Lib.hid hW; clear hW
  have b0 := B0.out.cell 0
  have b1 := B0.out.cell 1
  have b2 := B0.out.cell 2
  simp at b0 b1 b2
  go_enter Tryd.func29, Tryd.ntmps29
  go_wp2_with fail
  rw [HWE.out]
  refine (specGood_any _ _ _ _ _ W ((HX.out.keep HB0.out).more HB0.out.size) hc h1 H2.out).mono ?_
  rintro e w1 ⟨rfl, hB1⟩
  have B1 := Lib.hid (B0.out.below hB1 B0.out.lt)
  have R1 := Lib.hid (R0.out.below hB1 R0.out.lt)
  have HB1 := Lib.hid (HB0.out.trans (hB1.mono HB0.out.size)); clear hB1
  clear HWE B0 R0 HB0 b0 b1 b2
  cases hg : goodG n t (rs.map Ru.abs)
  · have d0 := R1.out.cell 0
    have d1 := R1.out.cell 1
    have d2 := R1.out.cell 2
    have d3 := R1.out.cell 3
    have d4 := R1.out.cell 4
    have d5 := R1.out.cell 5
    have g0 := R1.out.frozen 0
    have g1 := R1.out.frozen 1
    have g2 := R1.out.frozen 2
    have g3 := R1.out.frozen 3
    have g4 := R1.out.frozen 4
    have g5 := R1.out.frozen 5
    simp at d0 d1 d2 d3 d4 d5
    have HG := Lib.hid hg; clear hg
    go_wp2
    refine bodyPost_ret (v := .tuple #[.agg #[.int .i64 0, .int .i64 0, .slice none 0 0, .slice none 0 0, .slice none 0 0, .slice none 0 0], .bool false]) (by simp [results, Tryd.results29, go_sem, d0, d1, d2, d3, d4, d5]) rfl ⟨zeroB, by rw [HG.out]; rfl, boS_zero HG.out, zero_own _ _, zero_len, ?_⟩
    exact (((((HB1.out.setCell (by simp) _).setCell (by simp) _).setCell (by simp) _).setCell (by simp) _).setCell (by simp) _).setCell (by simp) _
  have HG := Lib.hid hg; clear hg
  have b0 := B1.out.cell 0
  have b1 := B1.out.cell 1
  have b2 := B1.out.cell 2
  simp at b0 b1 b2
  go_wp2_with fail
  refine (l5Binary_any n t A c rs w1 ((HX.out.keep HB1.out).more HB1.out.size) HCP.out HG.out).mono ?_
  rintro e w2 ⟨m, lo, vp, ps, vo, os, ve, es, vf, fs, rfl, hlo, hN, hM, hB2⟩
  have hsz := HB1.out.size
  have R2 := Lib.hid (R1.out.below hB2 R1.out.lt)
  have HB2 := Lib.hid (HB1.out.trans (hB2.mono hsz)); clear hB2
  have hKlt : w.heap.size + 1 < w1.heap.size := R1.out.lt
  obtain ⟨Ap, cp, rfl, _, o1⟩ := hN.tri.la.slice
  obtain ⟨Ao, co, rfl, _, o2⟩ := hN.tri.lb.slice
  obtain ⟨Ae, ce, rfl, _, _⟩ := hN.e.shape
  obtain ⟨Ae', ce', e3, o3⟩ := hN.e.own
  injection e3 with e3 _ hce
  subst e3 hce
  obtain ⟨Af, cf, rfl, _, o4⟩ := hN.tri.lc.slice
  have O1 := Lib.hid o1
  have O2 := Lib.hid o2
  have O3 := Lib.hid o3
  have O4 := Lib.hid o4
  have HM := Lib.hid hM
  clear o1 o2 o3 o4 hN hM b0 b1 b2
  have d0 := R2.out.cell 0
  have d1 := R2.out.cell 1
  have d2 := R2.out.cell 2
  have d3 := R2.out.cell 3
  have d4 := R2.out.cell 4
  have d5 := R2.out.cell 5
  have g0 := R2.out.frozen 0
  have g1 := R2.out.frozen 1
  have g2 := R2.out.frozen 2
  have g3 := R2.out.frozen 3
  have g4 := R2.out.frozen 4
  have g5 := R2.out.frozen 5
  simp at d0 d1 d2 d3 d4 d5
  go_wp2
  have hM := HM.out
  have hF := hM.F
  have hP := hM.P
  have hO := hM.O
  have hE := hM.E
  have hn := hM.nx
  rw [List.take_length] at hF hP hO hE hn
  have hPB : PBo n t (rs.map Ru.abs) (Bi.say ⟨m, t, Ap, ps, cp, Ao, os, co, Ae, es, ce, Af, fs, cf⟩) := ⟨hn, rfl, hM.rp, hP, hM.ro, hO, hM.re, hE, hF⟩
  refine bodyPost_ret (v := .tuple #[.agg #[.int .i64 m, .int .i64 t, .slice Ap ps.length cp, .slice Ao os.length co, .slice Ae es.length ce, .slice Af fs.length cf], .bool true]) (by simp [results, Tryd.results29, go_sem, d0, d1, d2, d3, d4, d5]) rfl ⟨⟨m, t, Ap, ps, cp, Ao, os, co, Ae, es, ce, Af, fs, cf⟩, by rw [HG.out], boS_eq HG.out hPB, ⟨?_, ?_, ?_, ?_⟩, hPB.lenB HG.out, ?_⟩
  · exact (((((O1.out.lower hlo).low (by simp; omega) _).low (by simp; omega) _).low (by simp; omega) _).low (by simp; omega) _).low (by simp; omega) _ |>.low (by simp; omega) _ |>.lower hsz
  · exact (((((O2.out.lower hlo).low (by simp; omega) _).low (by simp; omega) _).low (by simp; omega) _).low (by simp; omega) _).low (by simp; omega) _ |>.low (by simp; omega) _ |>.lower hsz
  · exact (((((O3.out.lower hlo).low (by simp; omega) _).low (by simp; omega) _).low (by simp; omega) _).low (by simp; omega) _).low (by simp; omega) _ |>.low (by simp; omega) _ |>.lower hsz
  · exact (((((O4.out.lower hlo).low (by simp; omega) _).low (by simp; omega) _).low (by simp; omega) _).low (by simp; omega) _).low (by simp; omega) _ |>.low (by simp; omega) _ |>.lower hsz
  · exact (((((HB2.out.setCell (by simp) _).setCell (by simp) _).setCell (by simp) _).setCell (by simp) _).setCell (by simp) _).setCell (by simp) _

end Go.Proofs.YtaobkanliiiapaaDoor

/- What the laws find again of a marked binary grammar. -/

namespace Go.Proofs.YtaobkanliiiapaaDoor
open Go.RowKit

theorem Box6.save {S : Nat → Prop} {w w' : World} {g : Nat} {b : Bi} (h : Box6 w g b) (hs : Save S w w') (hg : ¬ S g) : Box6 w' g b := by
  have hb := hs.block g h.1 hg
  obtain ⟨h0, h1, h2, h3, h4, h5, h6⟩ := h
  refine ⟨Nat.lt_of_lt_of_le h0 hs.size, ?_, ?_, ?_, ?_, ?_, ?_⟩
  · rw [← h1]; simp only [World.cell?, hb]
  · rw [← h2]; simp only [World.cell?, hb]
  · rw [← h3]; simp only [World.cell?, hb]
  · rw [← h4]; simp only [World.cell?, hb]
  · rw [← h5]; simp only [World.cell?, hb]
  · rw [← h6]; simp only [World.cell?, hb]

set_option maxHeartbeats 1000000 in
theorem heldBinary_any (b : Bi) (k : Int) (w : World) (h : ReadB w w.heap.size (markB k b)) (hm : LenB 1048576 b) (hk : 0 ≤ k) (hk' : k ≤ 16) :
    Calls Tryd.prog 36 #[(.agg #[.int .i64 b.n, .int .i64 b.t, .slice b.Ap b.P.length b.cp, .slice b.Ao b.O.length b.co, .slice b.Ae b.E.length b.ce, .slice b.Af b.F.length b.cf]), .int .i64 k] w fun e w' => e = .returned (.int .i64 (k + (cntBi b : Int))) ∧ Below w.heap.size w w' := by
  obtain ⟨h1, h2, h3, h4⟩ := h
  have HP := Lib.hid h1; clear h1
  have HO := Lib.hid h2; clear h2
  have HE := Lib.hid h3; clear h3
  have HF := Lib.hid h4; clear h4
  have HM := Lib.hid hm; clear hm
  have hlp := lcn_le HM.out.p HM.out.ps
  have hlo := lcn_le HM.out.o HM.out.os
  have hlf := lcn_le HM.out.f HM.out.fs
  have hle := HM.out.e
  have hep : ((lcnt b.P b.P.length : Nat) : Int) = (lcn b.P : Int) := rfl
  have heo : ((lcnt b.O b.O.length : Nat) : Int) = (lcn b.O : Int) := rfl
  have hef : ((lcnt b.F b.F.length : Nat) : Int) = (lcn b.F : Int) := rfl
  have HBX : Hid (Below w.heap.size w (w.alloc (.cells #[.int .i64 b.n, .int .i64 b.t, .slice b.Ap b.P.length b.cp, .slice b.Ao b.O.length b.co, .slice b.Ae b.E.length b.ce, .slice b.Af b.F.length b.cf] 41))) := by show Below _ _ _; go_grown
  have BX0 := Lib.hid (Box6.new w b 41)
  go_enter Tryd.func36, Tryd.ntmps36
  go_wp2_with fail
  generalize (w.alloc (.cells #[.int .i64 b.n, .int .i64 b.t, .slice b.Ap b.P.length b.cp, .slice b.Ao b.O.length b.co, .slice b.Ae b.E.length b.ce, .slice b.Af b.F.length b.cf] 41)) = W at HBX BX0 ⊢
  refine (heldIntSS_any _ _ _ _ _ ((HP.out.keep HBX.out).more HBX.out.size) HM.out.p HM.out.ps hk (by omega)).mono ?_
  rintro e w1 ⟨rfl, hB1⟩
  have BX1 := Lib.hid (BX0.out.keep hB1 BX0.out.1)
  have HB1 := Lib.hid (HBX.out.trans (hB1.mono HBX.out.size)); clear hB1 HBX BX0
  rw [hep]
  obtain ⟨_, _, _, _, b3, _, _⟩ := BX1.out
  go_wp2_with fail
  refine (heldIntSS_any _ _ _ _ _ ((HO.out.keep HB1.out).more HB1.out.size) HM.out.o HM.out.os (by omega) (by omega)).mono ?_
  rintro e w2 ⟨rfl, hB2⟩
  have BX2 := Lib.hid (BX1.out.keep hB2 BX1.out.1)
  have HB2 := Lib.hid (HB1.out.trans (hB2.mono HB1.out.size)); clear hB2 HB1 BX1 b3
  rw [heo]
  obtain ⟨_, _, _, _, _, b4, _⟩ := BX2.out
  go_wp2_with fail
  refine (heldIntS_any _ _ _ _ _ ((HE.out.keep HB2.out).more HB2.out.size) hle (by omega) (by omega)).mono ?_
  rintro e w3 ⟨rfl, hB3⟩
  have BX3 := Lib.hid (BX2.out.keep hB3 BX2.out.1)
  have HB3 := Lib.hid (HB2.out.trans (hB3.mono HB2.out.size)); clear hB3 HB2 BX2 b4
  obtain ⟨_, _, _, _, _, _, b5⟩ := BX3.out
  go_wp2_with fail
  refine (heldIntSS_any _ _ _ _ _ ((HF.out.keep HB3.out).more HB3.out.size) HM.out.f HM.out.fs (by omega) (by omega)).mono ?_
  rintro e w4 ⟨rfl, hB4⟩
  have HB4 := Lib.hid (HB3.out.trans (hB4.mono HB3.out.size)); clear hB4 HB3 BX3 b5
  rw [hef]
  have HV : Hid (k + (lcn b.P : Int) + (lcn b.O : Int) + (b.E.length : Int) + (lcn b.F : Int) = k + (cntBi b : Int)) := by
    show _ = _
    unfold cntBi
    omega
  go_wp2
  go_ret
  exact ⟨ret_int HV.out, HB4.out⟩

end Go.Proofs.YtaobkanliiiapaaDoor

/- How many rules the lists of a binary grammar make that the laws take. -/

namespace Go.Proofs.YtaobkanliiiapaaDoor
open Go.RowKit

def TotB (s : Bs) : Prop := s.P.length + s.O.length + s.E.length ≤ 1048576
theorem szLs_less {xs : List (List Int)} {L : Int} (_hL : 0 ≤ L) (h : 0 ≤ szLs xs L) : szLs xs L ≤ L - xs.length := by
  unfold szLs at h ⊢
  split at h
  · omega
  · rename_i hn
    rw [if_neg hn]
    exact (szL_ge xs (L := L - xs.length) (by omega)).2 h |>.1
theorem szB_total {b : Bi} (hp : 0 ≤ szB (sayL b.P) (sayL b.O) b.E (sayL b.F) 1048576) : TotB b.say := by
  unfold szB at hp
  split at hp
  · omega
  rename_i h1
  split at hp
  · omega
  rename_i h2
  split at hp
  · omega
  rename_i h3
  have a1 := szLs_less (xs := sayL b.P) (L := 1048576) (by omega) (by omega)
  have a2 := szLs_less (xs := sayL b.O) (L := szLs (sayL b.P) 1048576) (by omega) (by omega)
  have e3 : szI b.E.length (szLs (sayL b.O) (szLs (sayL b.P) 1048576)) = szLs (sayL b.O) (szLs (sayL b.P) 1048576) - b.E.length := by
    unfold szI at h3 ⊢; split <;> simp_all
  show (sayL b.P).length + (sayL b.O).length + b.E.length ≤ 1048576
  omega
theorem TotB.of {b b' : Bi} (h : TotB b.say) (e : b'.say = b.say) : b'.P.length + b'.O.length + b'.E.length ≤ 1048576 := by
  have h2 : TotB b'.say := e ▸ h
  have h3 : (sayL b'.P).length + (sayL b'.O).length + b'.E.length ≤ 1048576 := h2
  rw [sayL_len, sayL_len] at h3
  exact h3
theorem FitB.of {b b' : Bi} (h : FitB b.say) (e : b'.say = b.say) : FitB b'.say := e ▸ h

end Go.Proofs.YtaobkanliiiapaaDoor

/- From the reading of an argument to its cells: a slice of numbers, a grammar. -/

namespace Go.Proofs.YtaobkanliiiapaaDoor
open Go.ChangeShapes Go.WideShapes Go.ChangeAt Go.RowKit Go.Deep Go.Joins

theorem Tryd.cellsInt : Tryd.prog.cellsOf 3 = 1 := by kernel_rfl
theorem Tryd.cellsIntS : Tryd.prog.cellsOf 37 = 1 := by kernel_rfl
theorem Tryd.cellsRuleL : Tryd.prog.cellsOf 141 = 2 := by kernel_rfl
theorem Tryd.cellsGramL : Tryd.prog.cellsOf 48 = 3 := by kernel_rfl

theorem lt_of_cell {w : World} {b o : Nat} {v : Value} (h : w.cell? ⟨b, o, none⟩ = some v) : b < w.heap.size := by
  by_cases hg : b < w.heap.size
  · exact hg
  · simp only [World.cell?] at h
    rw [Array.getElem?_eq_none (by omega)] at h
    cases h

section
variable {H : Type} {enc : TypeId × Value → H} {W : World} {spare : Nat → Bool} {held : Bool}

theorem open_intS {fuel : Nat} {v : Value} {y : DataW H × List MemPlace} (h : DataW.trod enc Tryd.prog W 0 spare held fuel 37 [v] = some y) :
    ∃ (A : Option Addr) (xs : List Int) (c : Nat), v = .slice A xs.length c ∧ xs.length ≤ c ∧ Ints W W.heap.size A xs ∧ xs.length ≤ maxLen ∧ ∀ x ∈ xs, F64 x := by
  rcases open_ints Tryd.underlying37 Tryd.underlying3 Tryd.cellsInt h with ⟨hcs, _⟩ | ⟨a, len, cap, zs, hcs, _, hl, hm, hz, _, hcell, hwf⟩
  · injection hcs with hcs
    subst hcs
    exact ⟨none, [], 0, rfl, Nat.le_refl _, fun h => by simp at h, by simp [maxLen], fun x hx => by simp at hx⟩
  · injection hcs with hcs
    subst hcs
    have hlz : len ≤ zs.length := by rw [hz]; split <;> omega
    have hlen : (zs.take len).length = len := by rw [List.length_take]; omega
    refine ⟨some a, zs.take len, cap, by rw [hlen], by omega, fun hp => ?_, by omega, fun x hx => ?_⟩
    · obtain ⟨b, off, rfl, hc⟩ := ints_at hcell (by omega)
      refine ⟨b, off, rfl, lt_of_cell (hc 0 (by omega)), fun k x hx => ?_⟩
      have hk := (List.getElem?_eq_some_iff.1 hx).1
      rw [List.getElem?_take] at hx
      split at hx
      · rw [hc k (by omega), List.getD_eq_getElem?_getD, hx]; rfl
      · cases hx
    · have := hwf x (List.mem_of_mem_take hx)
      exact bounds_i64 this

instance : Inhabited Ru := ⟨⟨0, none, [], 0⟩⟩

set_option maxRecDepth 100000 in
theorem open_ruleS {fuel : Nat} {v : Value} {y : DataW H × List MemPlace} (h : DataW.trod enc Tryd.prog W 0 spare held fuel 46 [v] = some y) :
    ∃ (A : Option Addr) (rs : List Ru) (c : Nat), v = .slice A rs.length c ∧ rs.length ≤ c ∧ Rls W W.heap.size A rs ∧ rs.length ≤ maxLen ∧ (∀ u ∈ rs, u.r.length ≤ maxLen) ∧ FitR rs := by
  rcases open_slice Tryd.underlying46 h with ⟨hcs, _⟩ | ⟨a, len, cap, m, n, D, Pl, hcs, _, hl, hm, hz, _, hel⟩
  · injection hcs with hcs
    subst hcs
    exact ⟨none, [], 0, rfl, Nat.le_refl _, fun h => by simp at h, by simp [maxLen], fun x hx => by simp at hx, fun x hx => by simp at hx⟩
  · injection hcs with hcs
    subst hcs
    have hlm : len ≤ m := by rw [hz]; split <;> omega
    have each : ∀ i, i < len → ∃ u : Ru, W.cell? (a.add (i * 2)) = some (.int .i64 u.l) ∧ W.cell? ((a.add (i * 2)).add 1) = some (.slice u.a u.r.length u.c) ∧ Ints W W.heap.size u.a u.r ∧ u.r.length ≤ maxLen ∧ ∀ x ∈ u.r, F64 x := by
      intro i hi
      obtain ⟨cs', hc, ht⟩ := hel i (by omega)
      rw [Tryd.cellsRuleL] at hc
      obtain ⟨_, hcl, hat⟩ := World.cells?_some hc
      obtain ⟨y0, y1, n', _, _, h0, h1⟩ := trod_struct2 Tryd.underlying141 ht
      match cs', hcl with
      | [q0, q1], _ =>
        have e0 : DataW.trod enc Tryd.prog W 0 spare held n' 3 [q0] = some y0 := h0
        have e1 : DataW.trod enc Tryd.prog W 0 spare held n' 37 [q1] = some y1 := h1
        obtain ⟨l, el, _, _⟩ := DataW.trod_int Tryd.underlying3 e0
        injection el with el
        subst el
        obtain ⟨A', xs, c', rfl, _, hI, hml, hF⟩ := open_intS e1
        exact ⟨⟨l, A', xs, c'⟩, by simpa [Addr.add] using hat 0 (by omega), by simpa using hat 1 (by omega), hI, hml, hF⟩
    obtain ⟨f, hf⟩ := choose_lt each
    have hlen : ((List.range len).map f).length = len := by simp
    refine ⟨some a, (List.range len).map f, cap, by rw [hlen], by omega, fun hp => ?_, by omega, fun u hu => ?_, fun u hu => ?_⟩
    · obtain ⟨b, off, spot⟩ := a
      have hspot : spot = none := by simpa [Addr.add] using World.cell?_spot (hf 0 (by omega)).1
      subst hspot
      refine ⟨b, off, rfl, ?_, fun k u hu => ?_⟩
      · have := (hf 0 (by omega)).1
        exact lt_of_cell (b := b) (o := off) (by simpa [Addr.add] using this)
      · have hk := (List.getElem?_eq_some_iff.1 hu).1
        rw [hlen] at hk
        have hu' : f k = u := by simpa [hk] using hu
        subst hu'
        obtain ⟨h1, h2, h3, _, _⟩ := hf k hk
        rw [Go.WideShapes.add_plain] at h1 h2
        rw [Go.WideShapes.add_plain] at h2
        exact ⟨h1, h2, h3⟩
    · obtain ⟨i, hi, rfl⟩ := List.mem_map.1 hu
      exact (hf i (List.mem_range.1 hi)).2.2.2.1
    · obtain ⟨i, hi, rfl⟩ := List.mem_map.1 hu
      exact (hf i (List.mem_range.1 hi)).2.2.2.2

set_option maxRecDepth 100000 in
theorem open_grammar {r : Reach} {b0 : Nat} {v : Value} {d : DataW H} {p : List MemPlace} (hv : Value.okWide Tryd.prog W r b0 48 v) (h : DataW.Trod enc Tryd.prog W 0 spare held 48 v d p) :
    ∃ (n t : Int) (A : Option Addr) (rs : List Ru) (c : Nat), v = .agg #[.int .i64 n, .int .i64 t, .slice A rs.length c] ∧ rs.length ≤ c ∧ Rls W W.heap.size A rs ∧ rs.length ≤ maxLen ∧ (∀ u ∈ rs, u.r.length ≤ maxLen) ∧ FitR rs ∧ F64 n ∧ F64 t := by
  obtain ⟨v0, v1, v2, y0, y1, y2, m, rfl, _, _, h0, h1, h2⟩ := open_agg3 Tryd.underlying48 (by kernel_rfl) Tryd.cellsGramL hv h
  obtain ⟨n, e0, _, w0⟩ := DataW.trod_int Tryd.underlying3 h0
  obtain ⟨t, e1, _, w1⟩ := DataW.trod_int Tryd.underlying3 h1
  injection e0 with e0
  injection e1 with e1
  subst e0 e1
  obtain ⟨A, rs, c, rfl, a1, a2, a3, a4, a5⟩ := open_ruleS h2
  exact ⟨n, t, A, rs, c, rfl, a1, a2, a3, a4, a5, bounds_i64 w0, bounds_i64 w1⟩
end

end Go.Proofs.YtaobkanliiiapaaDoor

/- From the reading of an argument to its cells: a slice of lists of numbers, a binary grammar. -/

namespace Go.Proofs.YtaobkanliiiapaaDoor
open Go.ChangeShapes Go.WideShapes Go.ChangeAt Go.RowKit Go.Deep Go.Joins

theorem Tryd.cellsIntSS : Tryd.prog.cellsOf 25 = 1 := by kernel_rfl
theorem Tryd.cellsBinL : Tryd.prog.cellsOf 67 = 6 := by kernel_rfl

theorem array6 {α : Type} {cs : Array α} (h : cs.size = 6) : ∃ c0 c1 c2 c3 c4 c5, cs = #[c0, c1, c2, c3, c4, c5] := by
  obtain ⟨l⟩ := cs
  match l, h with
  | [c0, c1, c2, c3, c4, c5], _ => exact ⟨c0, c1, c2, c3, c4, c5, rfl⟩

instance : Inhabited Li := ⟨⟨none, [], 0⟩⟩

section
variable {H : Type} {enc : TypeId × Value → H} {W : World} {spare : Nat → Bool} {held : Bool}

set_option maxRecDepth 100000 in
theorem open_intSS {fuel : Nat} {v : Value} {y : DataW H × List MemPlace} (h : DataW.trod enc Tryd.prog W 0 spare held fuel 25 [v] = some y) :
    ∃ (A : Option Addr) (ls : List Li) (c : Nat), v = .slice A ls.length c ∧ ls.length ≤ c ∧ Lls W W.heap.size A ls ∧ ls.length ≤ maxLen ∧ (∀ u ∈ ls, u.r.length ≤ maxLen) ∧ FitL (sayL ls) := by
  rcases open_slice Tryd.underlying25 h with ⟨hcs, _⟩ | ⟨a, len, cap, m, n, D, Pl, hcs, _, hl, hm, hz, _, hel⟩
  · injection hcs with hcs
    subst hcs
    exact ⟨none, [], 0, rfl, Nat.le_refl _, fun h => by simp at h, by simp [maxLen], fun x hx => by simp at hx, fun x hx => by simp [sayL] at hx⟩
  · injection hcs with hcs
    subst hcs
    have hlm : len ≤ m := by rw [hz]; split <;> omega
    have each : ∀ i, i < len → ∃ u : Li, W.cell? (a.add i) = some (.slice u.a u.r.length u.c) ∧ u.r.length ≤ u.c ∧ Ints W W.heap.size u.a u.r ∧ u.r.length ≤ maxLen ∧ ∀ x ∈ u.r, F64 x := by
      intro i hi
      obtain ⟨cs', hc, ht⟩ := hel i (by omega)
      rw [Tryd.cellsIntS] at hc
      obtain ⟨_, hcl, hat⟩ := World.cells?_some hc
      match cs', hcl with
      | [q0], _ =>
        obtain ⟨A', xs, c', rfl, hxc, hI, hml, hF⟩ := open_intS ht
        exact ⟨⟨A', xs, c'⟩, by simpa [Addr.add] using hat 0 (by omega), hxc, hI, hml, hF⟩
    obtain ⟨f, hf⟩ := choose_lt each
    have hlen : ((List.range len).map f).length = len := by simp
    refine ⟨some a, (List.range len).map f, cap, by rw [hlen], by omega, fun hp => ?_, by omega, fun u hu => ?_, fun x hx => ?_⟩
    · obtain ⟨b, off, spot⟩ := a
      have hspot : spot = none := by simpa [Addr.add] using World.cell?_spot (hf 0 (by omega)).1
      subst hspot
      refine ⟨b, off, rfl, ?_, fun k u hu => ?_⟩
      · have := (hf 0 (by omega)).1
        exact lt_of_cell (b := b) (o := off) (by simpa [Addr.add] using this)
      · have hk := (List.getElem?_eq_some_iff.1 hu).1
        rw [hlen] at hk
        have hu' : f k = u := by simpa [hk] using hu
        subst hu'
        obtain ⟨h1, h2, h3, _, _⟩ := hf k hk
        rw [Go.WideShapes.add_plain] at h1
        exact ⟨h1, h2, h3⟩
    · obtain ⟨i, hi, rfl⟩ := List.mem_map.1 hu
      exact (hf i (List.mem_range.1 hi)).2.2.2.1
    · obtain ⟨u, hu, rfl⟩ := List.mem_map.1 hx
      obtain ⟨i, hi, rfl⟩ := List.mem_map.1 hu
      exact (hf i (List.mem_range.1 hi)).2.2.2.2

set_option maxRecDepth 100000 in
theorem open_binary {r : Reach} {b0 : Nat} {v : Value} {d : DataW H} {p : List MemPlace} (hv : Value.okWide Tryd.prog W r b0 67 v) (h : DataW.Trod enc Tryd.prog W 0 spare held 67 v d p) :
    ∃ b : Bi, v = (.agg #[.int .i64 b.n, .int .i64 b.t, .slice b.Ap b.P.length b.cp, .slice b.Ao b.O.length b.co, .slice b.Ae b.E.length b.ce, .slice b.Af b.F.length b.cf]) ∧ CapB b ∧ ReadB W W.heap.size b ∧ LenB maxLen b ∧ FitB b.say ∧ F64 b.n ∧ F64 b.t := by
  obtain ⟨cs, rfl, hsz⟩ := okWide_struct Tryd.underlying67 hv
  obtain ⟨c0, c1, c2, c3, c4, c5, rfl⟩ := array6 (hsz.trans Tryd.cellsBinL)
  obtain ⟨fuel, hf⟩ := h
  obtain ⟨xs, n, _, _, _, hlen, hfs⟩ := DataW.trod_struct Tryd.underlying67 hf
  match xs, hlen with
  | [y0, y1, y2, y3, y4, y5], _ =>
    have h0 : DataW.trod enc Tryd.prog W 0 spare held n 3 [c0] = some y0 := by simpa [Value.cells, Tryd.cellsInt, Tryd.cellsIntS, Tryd.cellsIntSS] using hfs 0 _ rfl
    have h1 : DataW.trod enc Tryd.prog W 0 spare held n 3 [c1] = some y1 := by simpa [Value.cells, Tryd.cellsInt, Tryd.cellsIntS, Tryd.cellsIntSS] using hfs 1 _ rfl
    have h2 : DataW.trod enc Tryd.prog W 0 spare held n 25 [c2] = some y2 := by simpa [Value.cells, Tryd.cellsInt, Tryd.cellsIntS, Tryd.cellsIntSS] using hfs 2 _ rfl
    have h3 : DataW.trod enc Tryd.prog W 0 spare held n 25 [c3] = some y3 := by simpa [Value.cells, Tryd.cellsInt, Tryd.cellsIntS, Tryd.cellsIntSS] using hfs 3 _ rfl
    have h4 : DataW.trod enc Tryd.prog W 0 spare held n 37 [c4] = some y4 := by simpa [Value.cells, Tryd.cellsInt, Tryd.cellsIntS, Tryd.cellsIntSS] using hfs 4 _ rfl
    have h5 : DataW.trod enc Tryd.prog W 0 spare held n 25 [c5] = some y5 := by simpa [Value.cells, Tryd.cellsInt, Tryd.cellsIntS, Tryd.cellsIntSS] using hfs 5 _ rfl
    obtain ⟨n, e0, _, w0⟩ := DataW.trod_int Tryd.underlying3 h0
    obtain ⟨t, e1, _, w1⟩ := DataW.trod_int Tryd.underlying3 h1
    injection e0 with e0
    injection e1 with e1
    subst e0 e1
    obtain ⟨Ap, P, cp, rfl, p1, p2, p3, p4, p5⟩ := open_intSS h2
    obtain ⟨Ao, O, co, rfl, o1, o2, o3, o4, o5⟩ := open_intSS h3
    obtain ⟨Ae, E, ce, rfl, i1, i2, i3, i4⟩ := open_intS h4
    obtain ⟨Af, F, cf, rfl, f1, f2, f3, f4, f5⟩ := open_intSS h5
    exact ⟨⟨n, t, Ap, P, cp, Ao, O, co, Ae, E, ce, Af, F, cf⟩, rfl, ⟨p1, o1, i1, f1⟩, ⟨p2, o2, i2, f2⟩, ⟨p3, p4, o3, o4, i3, f3, f4⟩, ⟨p5, o5, i4, f5⟩, bounds_i64 w0, bounds_i64 w1⟩
end

end Go.Proofs.YtaobkanliiiapaaDoor

/- A law's end: it returned true, and nothing that was there has turned. -/

namespace Go.Proofs.YtaobkanliiiapaaDoor
open Go.ChangeShapes Go.WideShapes Go.ChangeAt Go.RowKit
set_option maxRecDepth 100000

theorem Tryd.own : ownKnob Tryd.prog.godebug = none := by kernel_rfl
theorem Tryd.laidOut : laidOutB Tryd.prog = true := by kernel_rfl

/-- A law's end, one argument: it returned true, and nothing that was there has turned. -/
theorem ends_one {H : Type} {enc : TypeId × Value → H} {f : Func} {s : ChangeSpec} {W W' : World} {v0 : Value} {d0 : DataW H} {gs : List (DataW H)} {before : List MemPlace} {t0 : TypeId}
    (hW : DataW.Whole enc Tryd.prog f.params.toList s.vars false W [v0] [d0] gs before) (hp : f.params = #[t0]) (hr : f.resultTypes = #[4])
    (hfn : s.fn H ([d0] ++ gs) = { results := [.lit (.bool true)], args := [d0], vars := gs })
    (ht : Tryd.prog.readableRec t0 = true) (hs : t0 < Tryd.prog.types.size) (hv : varsRowed Tryd.prog s.vars = true) (hb : Below W.heap.size W W') :
    s.post enc Tryd.prog f false true false false W #[v0] (.bool true) W' := by
  have hlt : ∀ x ∈ before, x.block < W.heap.size := fun x hx => hW.lt x hx
  have hW' := hW
  obtain ⟨p, q, hA, hV, rfl, _, _⟩ := hW
  rw [hp] at hA
  obtain ⟨v, d, e1, e2, h0⟩ := trodAll_one hA
  have ev : v0 = v := by simpa using e1
  have ed : d0 = d := by simpa using e2
  subst ev ed
  refine ⟨[d0], gs, p ++ q, [], p, q, hW', ?_, ?_, ?_, hb.frame _, fun h => by cases h⟩
  · rw [hfn, hr]
    exact trodAll_mk1 (shut_bool Tryd.underlying4 true)
  · rw [hfn, hp]
    exact trodAll_mk1 (hb.trod Tryd.laidOut ht hs h0 (fun x hx => hlt x (List.mem_append_left _ hx)))
  · rw [hfn]
    exact hb.trodVars Tryd.laidOut hv hV

theorem open_intS' {H : Type} {enc : TypeId × Value → H} {W : World} {spare : Nat → Bool} {held : Bool} {r : Reach} {b0 : Nat} {v : Value} {d : DataW H} {p : List MemPlace} (hv : Value.okWide Tryd.prog W r b0 37 v) (h : DataW.Trod enc Tryd.prog W 0 spare held 37 v d p) :
    ∃ (A : Option Addr) (xs : List Int) (c : Nat), v = .slice A xs.length c ∧ xs.length ≤ c ∧ Ints W W.heap.size A xs ∧ xs.length ≤ maxLen ∧ ∀ x ∈ xs, F64 x := by
  obtain ⟨a0, len, cap, rfl⟩ := okWide_slice Tryd.underlying37 hv
  obtain ⟨fuel, hf⟩ := h
  exact open_intS (by simpa [Value.cells] using hf)

/-- A law's end, two arguments: it returned true, and nothing that was there has turned. -/
theorem ends_two {H : Type} {enc : TypeId × Value → H} {f : Func} {s : ChangeSpec} {W W' : World} {v0 v1 : Value} {d0 d1 : DataW H} {gs : List (DataW H)} {before : List MemPlace} {t0 t1 : TypeId}
    (hW : DataW.Whole enc Tryd.prog f.params.toList s.vars false W [v0, v1] [d0, d1] gs before) (hp : f.params = #[t0, t1]) (hr : f.resultTypes = #[4])
    (hfn : s.fn H ([d0, d1] ++ gs) = { results := [.lit (.bool true)], args := [d0, d1], vars := gs })
    (ht : Tryd.prog.readableRec t0 = true) (hs : t0 < Tryd.prog.types.size) (ht1 : Tryd.prog.readableRec t1 = true) (hs1 : t1 < Tryd.prog.types.size) (hv : varsRowed Tryd.prog s.vars = true) (hb : Below W.heap.size W W') :
    s.post enc Tryd.prog f false true false false W #[v0, v1] (.bool true) W' := by
  have hlt : ∀ x ∈ before, x.block < W.heap.size := fun x hx => hW.lt x hx
  have hW' := hW
  obtain ⟨p, q, hA, hV, rfl, _, _⟩ := hW
  rw [hp] at hA
  obtain ⟨v, v', d, d', p0, p1, e1, e2, e3, h0, h1⟩ := trodAll_two hA
  have ev : v0 = v ∧ v1 = v' := by simpa using e1
  have ed : d0 = d ∧ d1 = d' := by simpa using e2
  obtain ⟨rfl, rfl⟩ := ev
  obtain ⟨rfl, rfl⟩ := ed
  subst e3
  refine ⟨[d0, d1], gs, p0 ++ p1 ++ q, [], p0 ++ p1, q, hW', ?_, ?_, ?_, hb.frame _, fun h => by cases h⟩
  · rw [hfn, hr]
    exact trodAll_mk1 (shut_bool Tryd.underlying4 true)
  · rw [hfn, hp]
    exact trodAll_mk2 (hb.trod Tryd.laidOut ht hs h0 (fun x hx => hlt x (by simp [hx]))) (hb.trod Tryd.laidOut ht1 hs1 h1 (fun x hx => hlt x (by simp [hx])))
  · rw [hfn]
    exact hb.trodVars Tryd.laidOut hv hV

end Go.Proofs.YtaobkanliiiapaaDoor

/- What the rows of this seat share: the table of limits out of the row's condition, and a law's end. -/

namespace Go.Proofs.YtaobkanliiiapaaDoor
open Go.ChangeShapes Go.WideShapes Go.ChangeAt Go.RowKit
set_option maxRecDepth 100000

theorem Tryd.gLim : Tryd.prog.globalNamed "loop.example/g00758/impl.limits" = some 0 := by kernel_rfl
theorem Tryd.tLim : (Tryd.prog.globals[0]?).map (·.type) = some 131 := by kernel_rfl
theorem Tryd.cLim : Tryd.prog.cellsOf 130 = 2 := by kernel_rfl
theorem Tryd.cLims : Tryd.prog.cellsOf 131 = 12 := by kernel_rfl

def laid1 : List (String × DataW Unit) := [("loop.example/g00758/impl.limits", Rows.laid_loop_example_g00758_impl_limits)]

/-- The door's own heap meets the condition. -/
theorem door_met (os : Os) (args : Array Value) : laidMetH Tryd.prog laid1 ((World.doorLaid Tryd.prog 400 os).forCall (fun _ _ => 0) ⟨#[], args, []⟩).memory :=
  laidMetH_of_parts3 (fuel := 8) (laidMet_of_run' 8 (by kernel_rfl) (by kernel_rfl)) (by kernel_rfl) (by kernel_rfl)

theorem pair_cells {H : Type} {enc : TypeId × Value → H} {W : World} {base : Nat} {sp : Nat → Bool} {held : Bool} {m : Nat} {q0 q1 : Value} {a b : Int} {ps : List MemPlace}
    (h : DataW.trod enc Tryd.prog W base sp held m 130 [q0, q1] = some (.agg [.lit (.int .i64 a), .lit (.int .i64 b)], ps)) : q0 = .int .i64 a ∧ q1 = .int .i64 b := by
  obtain ⟨y0, y1, n', hx, _, h0, h1⟩ := trod_struct2 Tryd.underlying130 h
  have e0 : DataW.trod enc Tryd.prog W base sp held n' 3 [q0] = some y0 := h0
  have e1 : DataW.trod enc Tryd.prog W base sp held n' 3 [q1] = some y1 := h1
  obtain ⟨l, el, ey, _⟩ := DataW.trod_int Tryd.underlying3 e0
  obtain ⟨l', el', ey', _⟩ := DataW.trod_int Tryd.underlying3 e1
  subst ey ey'
  simp only [Prod.mk.injEq, DataW.agg.injEq, List.cons.injEq, DataW.lit.injEq, Lit.int.injEq] at hx
  injection el with el
  injection el' with el'
  exact ⟨by rw [el, hx.1.1.2], by rw [el', hx.1.2.1.2]⟩

theorem lims_of_laid {W : World} (h : laidMetH Tryd.prog laid1 W) : Lims W := by
  rw [MakeChecks.laidMetH_plain _ _ _ (by kernel_rfl)] at h
  obtain ⟨ps, ⟨g, t, cs, f0, p0, q0, hg, ht, hv, hd, _, _⟩, _, _⟩ := h
  obtain rfl := Option.some.inj (Tryd.gLim.symm.trans hg)
  obtain rfl := Option.some.inj (Tryd.tLim.symm.trans ht)
  obtain ⟨xs, m, _, hx, hlen, hn, hel⟩ := DataW.trod_array Tryd.underlying131 hd
  rw [Tryd.cLims] at hlen
  rw [Tryd.cLim] at hel
  obtain ⟨l⟩ := cs
  match l, hlen, xs, hn with
  | [c0, c1, c2, c3, c4, c5, c6, c7, c8, c9, c10, c11], _, [x0, x1, x2, x3, x4, x5], _ =>
    simp only [Rows.laid_loop_example_g00758_impl_limits, Prod.mk.injEq, DataW.agg.injEq, List.map_cons, List.map_nil, List.cons.injEq] at hx
    obtain ⟨⟨e0, e1, e2, e3, e4, e5, _⟩, _⟩ := hx
    obtain ⟨x0, _⟩ := x0
    obtain ⟨x1, _⟩ := x1
    obtain ⟨x2, _⟩ := x2
    obtain ⟨x3, _⟩ := x3
    obtain ⟨x4, _⟩ := x4
    obtain ⟨x5, _⟩ := x5
    simp only at e0 e1 e2 e3 e4 e5
    subst e0 e1 e2 e3 e4 e5
    obtain ⟨rfl, rfl⟩ := pair_cells (hel 0 (by omega))
    obtain ⟨rfl, rfl⟩ := pair_cells (hel 1 (by omega))
    obtain ⟨rfl, rfl⟩ := pair_cells (hel 2 (by omega))
    obtain ⟨rfl, rfl⟩ := pair_cells (hel 3 (by omega))
    obtain ⟨rfl, rfl⟩ := pair_cells (hel 4 (by omega))
    obtain ⟨rfl, rfl⟩ := pair_cells (hel 5 (by omega))
    intro k v hk
    have hc := World.var?_cell hg hv k
    rw [hc]
    match k, hk with
    | 0, hk => simp [limL] at hk ⊢; exact hk
    | 1, hk => simp [limL] at hk ⊢; exact hk
    | 2, hk => simp [limL] at hk ⊢; exact hk
    | 3, hk => simp [limL] at hk ⊢; exact hk
    | 4, hk => simp [limL] at hk ⊢; exact hk
    | 5, hk => simp [limL] at hk ⊢; exact hk
    | 6, hk => simp [limL] at hk ⊢; exact hk
    | 7, hk => simp [limL] at hk ⊢; exact hk
    | 8, hk => simp [limL] at hk ⊢; exact hk
    | 9, hk => simp [limL] at hk ⊢; exact hk
    | 10, hk => simp [limL] at hk ⊢; exact hk
    | 11, hk => simp [limL] at hk ⊢; exact hk
    | k + 12, hk => simp [limL] at hk

end Go.Proofs.YtaobkanliiiapaaDoor

/- What rows of two arguments share (all of it lies in Ends now). -/


