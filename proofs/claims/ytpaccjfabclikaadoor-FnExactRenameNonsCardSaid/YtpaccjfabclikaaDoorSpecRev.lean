/- What the reference's ReverseOf answers. -/
import Derived.Test.YtpaccjfabclikaaDoorSpecOwn2
import Derived.Test.YtpaccjfabclikaaDoorImplRev
import Derived.Test.YtpaccjfabclikaaDoorSpecGood2
namespace Go.Proofs.YtpaccjfabclikaaDoor
open Go.RowKit

/-- A rule's right side put in anew. -/
theorem OwnR.setSlice {w w1 : World} {lo g : Nat} {rs : List Ru} (h : OwnR w lo (some ⟨g, 0, none⟩) rs) {i : Nat} (hi : i < rs.length) (hb : Below w.heap.size w w1) (hlo : lo ≤ w.heap.size) {A1 : Option Addr} {ys : List Int} (c1 : Nat)
    (hO : OwnI w1 w.heap.size A1 ys) : OwnR (w1.setCell ⟨g, i * 2 + 1, none⟩ (.slice A1 ys.length c1)) lo (some ⟨g, 0, none⟩) (rs.set i ⟨rs[i].l, A1, ys, c1⟩) := by
  rcases h with h | ⟨g', cs, ea, hl, hr, hc, hd⟩
  · subst h; simp at hi
  · injection ea with ea
    injection ea with ea
    subst ea
    have hlt : i * 2 + 1 < cs.size := (Array.getElem?_eq_some_iff.1 (hc i _ (List.getElem?_eq_getElem hi)).2.1).1
    have hr1 : Row w1 g 52 cs := hr.below hb hr.lt
    have keep : ∀ {A' : Option Addr} {xs : List Int}, OwnI w1 lo A' xs → OwnI (w1.setCell ⟨g, i * 2 + 1, none⟩ (.slice A1 ys.length c1)) lo A' xs := by
      intro A' xs h
      rcases h with h | ⟨g', cs', e, hl', hr', hc'⟩
      · exact .inl h
      · exact .inr ⟨g', cs', e, hl', hr'.far (hr'.ne hr1 (by decide)) _, hc'⟩
    have old : ∀ (j : Nat) (u : Ru), rs[j]? = some u → u.r ≠ [] → ys ≠ [] → u.a ≠ A1 := by
      intro j u hu hne hne' he
      rcases (hc j u hu).2.2 with h6 | ⟨g1, _, e1, _, r1, _⟩
      · exact hne h6
      · rcases hO with h7 | ⟨g2, _, e2, l2, _, _⟩
        · exact hne' h7
        · rw [e1, e2] at he
          have := r1.lt
          injection he with he
          injection he with he
          omega
    refine .inr ⟨g, cs.setIfInBounds (i * 2 + 1) (.slice A1 ys.length c1), rfl, hl, hr1.set _ _, fun k u hu => ?_, fun a b u v hu hv hab hun hvn => ?_⟩
    · rw [List.getElem?_set] at hu
      by_cases e : i = k
      · subst e
        rw [if_pos rfl, if_pos hi] at hu
        injection hu with hu
        subst hu
        obtain ⟨h1, _, _⟩ := hc i _ (List.getElem?_eq_getElem hi)
        refine ⟨?_, by rw [Array.getElem?_setIfInBounds, if_pos rfl, if_pos hlt], keep (hO.lower hlo)⟩
        rw [Array.getElem?_setIfInBounds, if_neg (by omega)]; exact h1
      · rw [if_neg e] at hu
        obtain ⟨h1, h2, h3⟩ := hc k u hu
        refine ⟨?_, ?_, keep (h3.below hb (Nat.le_refl _))⟩
        · rw [Array.getElem?_setIfInBounds, if_neg (by omega)]; exact h1
        · rw [Array.getElem?_setIfInBounds, if_neg (by omega)]; exact h2
    · rw [List.getElem?_set] at hu hv
      by_cases e1 : i = a
      · subst e1
        rw [if_pos rfl, if_pos hi] at hu
        injection hu with hu
        subst hu
        rw [if_neg hab] at hv
        exact fun e => old b v hv hvn hun e.symm
      · rw [if_neg e1] at hu
        by_cases e2 : i = b
        · subst e2
          rw [if_pos rfl, if_pos hi] at hv
          injection hv with hv
          subst hv
          exact old a u hu hun hvn
        · rw [if_neg e2] at hv
          exact hd a b u v hu hv hab hun hvn

theorem OwnR.row_ne {w : World} {lo g g' i : Nat} {rs : List Ru} {t : TypeId} {cs : Array Value} (h : OwnR w lo (some ⟨g, 0, none⟩) rs) (hi : i < rs.length) (hr : Row w g' t cs) (ht : t ≠ 52) : g' ≠ g := by
  rcases h with h | ⟨g2, cs2, e, _, hr2, _⟩
  · subst h; simp at hi
  · injection e with e
    injection e with e
    subst e
    exact hr.ne hr2 ht

/-- What is said with the first k right sides turned round. -/
def revToA (ss : List (Int × List Int)) (k : Nat) : List (Int × List Int) := ss.mapIdx fun j u => if j < k then revU u else u
theorem revToA_zero (ss : List (Int × List Int)) : revToA ss 0 = ss := by
  apply List.ext_getElem?
  intro j
  simp [revToA]
theorem revToA_at {ss : List (Int × List Int)} {k : Nat} (h : k < ss.length) : (revToA ss k)[k]? = some ss[k] := by simp [revToA, h]
theorem revToA_step {ss : List (Int × List Int)} {k : Nat} (h : k < ss.length) : (revToA ss k).set k (revU ss[k]) = revToA ss (k + 1) := by
  apply List.ext_getElem
  · simp [revToA]
  · intro j h1 h2
    simp only [revToA, List.getElem_set, List.getElem_mapIdx]
    by_cases e : k = j
    · subst e; rw [if_pos rfl, if_pos (by omega)]
    · rw [if_neg e]
      by_cases e3 : j < k
      · rw [if_pos e3, if_pos (by omega)]
      · rw [if_neg e3, if_neg (by omega)]
theorem revToA_done {ss : List (Int × List Int)} {k : Nat} (h : ¬ k < ss.length) : revToA ss k = revA ss := by
  apply List.ext_getElem
  · simp [revToA, revA]
  · intro j h1 h2
    simp only [revToA, List.length_mapIdx] at h1
    simp only [revToA, revA, List.getElem_mapIdx, List.getElem_map]
    rw [if_pos (by omega)]

theorem set_abs {ds : List Ru} {i : Nat} {l : Int} {A1 : Option Addr} {ys : List Int} {c1 : Nat} : (ds.set i ⟨l, A1, ys, c1⟩).map Ru.abs = (ds.map Ru.abs).set i (l, ys) := by rw [List.map_set]; rfl

set_option maxHeartbeats 1000000 in
theorem specRev_any (n t : Int) (A : Option Addr) (c : Nat) (rs : List Ru) (w : World) (hx : Rls w w.heap.size A rs) (hc : rs.length ≤ c) (h1 : rs.length ≤ 1048576) (h2 : ∀ u ∈ rs, u.r.length ≤ 1048576) :
    Calls Tryd.prog 26 #[.agg #[.int .i64 n, .int .i64 t, .slice A rs.length c]] w (GaveGB w n t (revA (rs.map Ru.abs)) (goodG n t (rs.map Ru.abs))) := by
  have HX := Lib.hid hx; clear hx
  have H2 := Lib.hid h2; clear h2
  generalize hW : ((w.alloc (.cells #[.int .i64 n, .int .i64 t, .slice A rs.length c] 29)).alloc (.cells #[.int .i64 0, .int .i64 0, .slice none 0 0] 29)) = W
  have HB0 : Hid (Below w.heap.size w W) := by subst hW; show Below _ _ _; go_grown
  have B0 : Hid (Box3 W w.heap.size (.int .i64 n) (.int .i64 t) (.slice A rs.length c)) := by subst hW; exact ⟨by simp; omega, by simp [go_sem], by simp [go_sem], by simp [go_sem]⟩
  have R0 : Hid (Row W (w.heap.size + 1) 29 #[.int .i64 0, .int .i64 0, .slice none 0 0]) := by
    subst hW
    have h := Row.new (w.alloc (.cells #[.int .i64 n, .int .i64 t, .slice A rs.length c] 29)) 29 #[.int .i64 0, .int .i64 0, .slice none 0 0]
    rwa [World.size_alloc] at h
  have HWE := Lib.hid hW; clear hW
  go_enter Tryd.func26, Tryd.ntmps26
  go_wp2_with fail
  rw [HWE.out]
  refine (specGood_any _ _ _ _ _ _ ((HX.out.keep HB0.out).more HB0.out.size) hc h1 H2.out).mono ?_
  rintro e w1 ⟨rfl, hB1⟩
  have B1 := Lib.hid (B0.out.keep hB1 B0.out.1)
  have R1 := Lib.hid (R0.out.below hB1 R0.out.lt)
  have HB1 := Lib.hid (HB0.out.trans (hB1.mono HB0.out.size)); clear hB1
  clear HWE B0 R0 HB0
  have d0 := R1.out.cell 0
  have d1 := R1.out.cell 1
  have d2 := R1.out.cell 2
  have g0 := R1.out.frozen 0
  have g1 := R1.out.frozen 1
  have g2 := R1.out.frozen 2
  simp at d0 d1 d2
  cases hg : goodG n t (rs.map Ru.abs)
  · have HG := Lib.hid hg; clear hg
    go_wp2
    refine bodyPost_ret (v := .tuple #[.agg #[.int .i64 0, .int .i64 0, .slice none 0 0], .bool false]) (by simp [results, Tryd.results26, go_sem, d0, d1, d2]) rfl ?_
    rw [HG.out]
    refine gave_none ?_
    exact ((HB1.out.setCell (by simp) _).setCell (by simp) _).setCell (by simp) _
  have HG := Lib.hid hg; clear hg
  obtain ⟨_, b0, b1, b2⟩ := B1.out
  go_wp2_with fail
  refine (l1OwnG_any _ _ _ _ _ _ ((HX.out.keep HB1.out).more HB1.out.size) h1 H2.out).mono ?_
  rintro e w2 ⟨A2, c2, rs2, rfl, _, hO2, ha2, hB2⟩
  have hl2 := abs_len' ha2
  have hlen2 : rs2.length ≤ 1048576 := by omega
  have HA2 := Lib.hid ha2; clear ha2
  have R2 := Lib.hid (R1.out.below hB2 R1.out.lt)
  have HLO := Lib.hid R1.out.lt
  have HS2 := Lib.hid hB2.size
  have HB2 := Lib.hid (HB1.out.trans (hB2.mono HB1.out.size)); clear hB2
  have HO2 := Lib.hid hO2; clear hO2
  clear b0 b1 b2 d0 d1 d2 g0 g1 g2
  have HLL := Lib.hid hl2; clear hl2
  go_wp2
  go_loopw [15] (fun i wr => ∃ (k : Nat) (ds : List Ru), k ≤ rs2.length ∧ i = .int .i64 k ∧ Below w.heap.size w wr ∧ w2.heap.size < wr.heap.size ∧ Hid (ds.map Ru.abs = revToA (rs.map Ru.abs) k) ∧ Hid (OwnR wr w1.heap.size A2 ds) ∧ Hid (Row wr (w.heap.size + 1) 29 #[.int .i64 0, .int .i64 0, .slice none 0 0]) ∧ Hid (Row wr w2.heap.size 29 #[.int .i64 n, .int .i64 t, .slice A2 rs2.length c2])) (fun i _ => rs2.length - (intOf i).toNat)
  case atStart => exact ⟨0, rs2, by omega, rfl, HB2.out.alloc HB2.out.size _, by simp, by show _ = _; rw [revToA_zero]; exact HA2.out, HO2.out.below (B := w2.heap.size) ((Below.refl _ _).alloc (Nat.le_refl _) _) (Nat.le_refl _), R2.out.alloc _, Row.new _ _ _⟩
  case round =>
    obtain ⟨k, ds, hk, rfl, hB, hsz, HD, HO, HR1, HR2⟩ := hrel
    by_cases hlt : k < rs2.length
    · have hdl : ds.length = rs2.length := by
        have := congrArg List.length HD.out
        simp [revToA] at this
        have := HLL.out
        omega
      have hltd : k < ds.length := by omega
      have hltr : k < rs.length := by have := HLL.out; omega
      have HDK : Hid (ds[k].abs = rs[k].abs) := by
        show _ = _
        have := congrArg (fun l => l[k]?) HD.out
        simp only [List.getElem?_map, List.getElem?_eq_getElem hltd, Option.map_some] at this
        rw [revToA_at (by simpa using hltr)] at this
        simpa using this
      have hul : ds[k].r.length ≤ 1048576 := by
        have e : ds[k].r = rs[k].r := congrArg Prod.snd HDK.out
        rw [e]; exact H2.out _ (List.getElem_mem hltr)
      obtain ⟨g, rfl, _, hgl, c1, c2', f1, f2, c3⟩ := HO.out.at_ hltd
      have C3 := Lib.hid c3.ints; clear c3
      have o2 := HR2.out.cell 2
      simp at o2
      have HLD := Lib.hid hdl; clear hdl
      go_wp2_with fail
      go_region_with (go_at_call 48
                      refine (l1Turned_any _ _ _ _ ?_ hul).mono ?_
                      · exact C3.out.keep (by go_grown)
                      rintro e w3 ⟨A3, k3, rfl, hO3, hB3'⟩
                      have hB3 : Below wr.heap.size wr w3 := Below.trans (by go_grown) hB3'
                      have p2 := (hB3.cell (p := ⟨w2.heap.size, 2, none⟩) (by simp; omega)).trans o2
                      have q2 := (hB3.cell (p := ⟨g, k * 2 + 1, none⟩) hgl).trans c2'
                      have q3 := (hB3.frozen (p := ⟨g, k * 2 + 1, none⟩) hgl).trans f2
                      have HO3 := Lib.hid hO3
                      have HB3 := Lib.hid hB3
                      clear hO3 hB3 hB3')
      all_goals
        have hs3 := HB3.out.size
        have HST : Hid (OwnR (w3.setCell ⟨g, k * 2 + 1, none⟩ (.slice A3 ds[k].r.length k3)) w1.heap.size (some ⟨g, 0, none⟩) (ds.set k ⟨ds[k].l, A3, ds[k].r.reverse, k3⟩)) := by
          have h := HO.out.setSlice hltd HB3.out (by have := HS2.out; omega) k3 HO3.out
          rw [List.length_reverse] at h
          exact h
        have HDN : Hid ((ds.set k ⟨ds[k].l, A3, ds[k].r.reverse, k3⟩).map Ru.abs = revToA (rs.map Ru.abs) (k + 1)) := by
          show _ = _
          rw [set_abs, HD.out, ← revToA_step (by simpa using hltr)]
          congr 1
          have e1 : ds[k].l = rs[k].l := congrArg Prod.fst HDK.out
          have e2 : ds[k].r = rs[k].r := congrArg Prod.snd HDK.out
          rw [e1, e2, List.getElem_map]
          rfl
        have hgw : w1.heap.size ≤ g := by assumption
        have hne1 : w.heap.size + 1 ≠ g := by have := HLO.out; omega
        have hne2 : w2.heap.size ≠ g := HO.out.row_ne hltd HR2.out (by decide)
        have HB4 := Lib.hid (hB.trans (HB3.out.mono hB.size))
        clear p2 q2 q3 c1 c2' f1 f2 o2
        go_wp2
        go_roundw
        case rel => exact ⟨k + 1, _, by omega, by go_num, HB4.out.setCell (by have := HB1.out.size; simp; omega) _, by simp; omega, HDN.out, HST.out, (HR1.out.below HB3.out HR1.out.lt).far hne1 _, (HR2.out.below HB3.out HR2.out.lt).far hne2 _⟩
        case measure => simp [intOf]; omega
    · have HDN : Hid (ds.map Ru.abs = revA (rs.map Ru.abs)) := by
        show _ = _
        rw [HD.out, revToA_done (by have := HLL.out; simp; omega)]
      have hdl : ds.length = rs2.length := by
        have := congrArg List.length HDN.out
        simp [revA] at this
        have := HLL.out
        omega
      have HLD := Lib.hid hdl; clear hdl
      have o0 := HR2.out.cell 0
      have o1 := HR2.out.cell 1
      have o2 := HR2.out.cell 2
      have d0 := HR1.out.cell 0
      have d1 := HR1.out.cell 1
      have d2 := HR1.out.cell 2
      have g0 := HR1.out.frozen 0
      have g1 := HR1.out.frozen 1
      have g2 := HR1.out.frozen 2
      simp at o0 o1 o2 d0 d1 d2
      have hlo := HLO.out
      go_wp2
      refine bodyPost_ret (v := .tuple #[.agg #[.int .i64 n, .int .i64 t, .slice A2 rs2.length c2], .bool true]) (by simp [results, Tryd.results26, go_sem, d0, d1, d2]) rfl ⟨A2, c2, ds, by rw [HLD.out, HG.out]; rfl, ?_, ?_, ?_⟩
      · exact (((HO.out.low (by simp; omega) _).low (by simp; omega) _).low (by simp; omega) _).lower HB1.out.size
      · rw [HDN.out, HG.out]; rfl
      · exact ((hB.setCell (by simp) _).setCell (by simp) _).setCell (by simp) _

end Go.Proofs.YtpaccjfabclikaaDoor
