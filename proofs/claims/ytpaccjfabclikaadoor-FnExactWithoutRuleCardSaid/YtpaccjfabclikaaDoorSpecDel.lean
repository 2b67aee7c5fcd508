/- What the reference's WithoutRule answers. -/
import Derived.Test.YtpaccjfabclikaaDoorImplDel
import Derived.Test.YtpaccjfabclikaaDoorSpecOwn2
import Derived.Test.YtpaccjfabclikaaDoorSpecGood2
namespace Go.Proofs.YtpaccjfabclikaaDoor
open Go.RowKit

theorem in_yes {m x : Int} (h : inB 0 (m - 1) x = true) : 0 ≤ x ∧ x < m := by
  unfold inB at h
  simp at h
  omega
theorem in_no {m x : Int} (h : inB 0 (m - 1) x = false) : ¬ (0 ≤ x ∧ x < m) := by
  unfold inB at h
  simp at h
  omega
theorem take_get {α : Type} {l : List α} {i k : Nat} {u : α} (h : (l.take i)[k]? = some u) : l[k]? = some u := by
  rw [List.getElem?_take] at h
  split at h
  · exact h
  · cases h
theorem own_none (w : World) (t : TypeId) (s : Nat) : (w.alloc (.cells #[] t)).ownsRow w.heap.size t s (.slice (some ⟨w.heap.size, 0, none⟩) 0 0) 0 [] :=
  ⟨by simp, .inr ⟨w.heap.size, 0, #[], rfl, Nat.le_refl _, heap_alloc_new w _, Nat.le_refl _, by simp [maxLen], by simp, by simp⟩⟩
theorem own_lower {w : World} {base base' : Nat} {e : TypeId} {size n : Nat} {v : Value} {xs : List Value} (h : w.ownsRow base e size v n xs) (hb : base' ≤ base) : w.ownsRow base' e size v n xs := by
  obtain ⟨h1, h2 | ⟨g, cap, cur, h3, h4, h5⟩⟩ := h
  · exact ⟨h1, .inl h2⟩
  · exact ⟨h1, .inr ⟨g, cap, cur, h3, by omega, h5⟩⟩

theorem flat_erase (rs : List Ru) (i : Nat) : (rs.take i).flatMap cellsU ++ (rs.drop (i + 1)).flatMap cellsU = (rs.eraseIdx i).flatMap cellsU := by
  rw [List.eraseIdx_eq_take_drop_succ, List.flatMap_append]

/-- The cells of a stretch of owned rules. -/
theorem flat_src {w : World} {lo g : Nat} {rs ds : List Ru} (h : OwnR w lo (some ⟨g, 0, none⟩) rs) (j : Nat) (hd : ∀ (k : Nat) (u : Ru), ds[k]? = some u → rs[j + k]? = some u) :
    ∀ (t : Nat) (v : Value), (ds.flatMap cellsU)[t]? = some v → w.cell? ((⟨g, j * 2, none⟩ : Addr).add t) = some v := by
  intro t v hv
  obtain ⟨k, u, hu, hcase⟩ := flat_cell hv
  have hx := hd k u hu
  obtain ⟨cs, hr, _, _, hc⟩ := h.size2 (List.getElem?_eq_some_iff.1 hx).1
  obtain ⟨y1, y2⟩ := hc _ _ hx
  rw [Addr.add_lit]
  rcases hcase with ⟨rfl, rfl⟩ | ⟨rfl, rfl⟩
  · rw [hr.cell, ← y1]; congr 1; omega
  · rw [hr.cell, ← y2]; congr 1; omega

theorem app_below {V V2 w3 : World} {v : Value} {B n s : Nat} {e : TypeId} {xs : List Value} (hE : V2.ownsRow B e s v n xs) (hV : Below B V V2) (hg : V2.grownBy w3 v.ownBlock) (hB : B ≤ V2.heap.size) : Below B V w3 := hV.grown hg hB fun k hk => (hE.lt k hk).1

/-- Where rules that are appended come to lie. -/
theorem app_done {w : World} {lo B g i k : Nat} {v : Value} {rs : List Ru} (hk : k = (rs.eraseIdx i).length) (h2 : w.ownsRow B 52 2 v k ((rs.take i).flatMap cellsU ++ (rs.drop (i + 1)).flatMap cellsU)) (hlo : lo ≤ B) (h : OwnR w lo (some ⟨g, 0, none⟩) rs) :
    ∃ A c, v = .slice A (rs.eraseIdx i).length c ∧ OwnR w lo A (rs.eraseIdx i) := by
  rw [flat_erase] at h2
  have at_ : ∀ k, (rs.eraseIdx i)[k]? = if k < i then rs[k]? else rs[k + 1]? := fun k => List.getElem?_eraseIdx
  rcases h with h | ⟨g', cs, e, hl, hr, hc, hd⟩
  · subst h
    simp at hk h2
    subst hk
    obtain ⟨A, c, h3, _, h4⟩ := ownR_of_row (ds := []) (lo := lo) rfl (own_lower h2 hlo) (fun j u h => by simp at h) (fun a b u v h => by simp at h)
    exact ⟨A, c, by simpa using h3, by simpa using h4⟩
  · obtain ⟨A, c, h3, _, h4⟩ := ownR_of_row (lo := lo) hk.symm (own_lower h2 hlo) (fun j u hu => by
      rw [at_] at hu
      split at hu
      · exact (hc _ _ hu).2.2
      · exact (hc _ _ hu).2.2) (fun a b u v hu hv hab hun hvn => by
      rw [at_] at hu hv
      by_cases e1 : a < i
      · rw [if_pos e1] at hu
        by_cases e2 : b < i
        · rw [if_pos e2] at hv
          exact hd a b u v hu hv hab hun hvn
        · rw [if_neg e2] at hv
          exact hd a (b + 1) u v hu hv (by omega) hun hvn
      · rw [if_neg e1] at hu
        by_cases e2 : b < i
        · rw [if_pos e2] at hv
          exact hd (a + 1) b u v hu hv (by omega) hun hvn
        · rw [if_neg e2] at hv
          exact hd (a + 1) (b + 1) u v hu hv (by omega) hun hvn)
    exact ⟨A, c, h3, h4⟩

set_option maxHeartbeats 2000000 in
theorem specDel_any (n t x : Int) (A : Option Addr) (c : Nat) (rs : List Ru) (w : World) (hx : Rls w w.heap.size A rs) (hc : rs.length ≤ c) (h1 : rs.length ≤ 1048576) (h2 : ∀ u ∈ rs, u.r.length ≤ 1048576) :
    Calls Tryd.prog 31 #[.agg #[.int .i64 n, .int .i64 t, .slice A rs.length c], .int .i64 x] w (GaveGB w n t (delA (rs.map Ru.abs) x) (okDel n t (rs.map Ru.abs) x)) := by
  obtain ⟨i0, hi0, hz0, hz1, hz2⟩ := info_of Tryd.infoRule
  have HX := Lib.hid hx; clear hx
  have H2 := Lib.hid h2; clear h2
  generalize hW : ((w.alloc (.cells #[.int .i64 n, .int .i64 t, .slice A rs.length c] 29)).alloc (.cells #[.int .i64 0, .int .i64 0, .slice none 0 0] 29)) = W
  have HB0 : Hid (Below w.heap.size w W) := by subst hW; show Below _ _ _; go_grown
  have B0 : Hid (Box3 W w.heap.size (.int .i64 n) (.int .i64 t) (.slice A rs.length c)) := by subst hW; exact ⟨by simp; omega, by simp [go_sem], by simp [go_sem], by simp [go_sem]⟩
  have R0 : Hid (Row W (w.heap.size + 1) 29 #[.int .i64 0, .int .i64 0, .slice none 0 0]) := by
    subst hW
    have h := Row.new (w.alloc (.cells #[.int .i64 n, .int .i64 t, .slice A rs.length c] 29)) 29 #[.int .i64 0, .int .i64 0, .slice none 0 0]
    rwa [World.size_alloc] at h
  have HWE := Lib.hid hW; clear hW
  go_enter Tryd.func31, Tryd.ntmps31
  go_wp2_with fail
  rw [HWE.out]
  refine (specGood_any _ _ _ _ _ _ ((HX.out.keep HB0.out).more HB0.out.size) hc h1 H2.out).mono ?_
  rintro e w1 ⟨rfl, hB1⟩
  have B1 := Lib.hid (B0.out.keep hB1 B0.out.1)
  have R1 := Lib.hid (R0.out.below hB1 R0.out.lt)
  have HB1 := Lib.hid (HB0.out.trans (hB1.mono HB0.out.size)); clear hB1
  clear HWE B0 R0 HB0
  have d0 := R1.out.cell 0
  have d1 := R1.out.cell 1
  have d2 := R1.out.cell 2
  have g0 := R1.out.frozen 0
  have g1 := R1.out.frozen 1
  have g2 := R1.out.frozen 2
  simp at d0 d1 d2
  cases hg : goodG n t (rs.map Ru.abs)
  · have HG := Lib.hid (okDel_no (x := x) hg); clear hg
    go_wp2
    refine bodyPost_ret (v := .tuple #[.agg #[.int .i64 0, .int .i64 0, .slice none 0 0], .bool false]) (by simp [results, Tryd.results31, go_sem, d0, d1, d2]) rfl ?_
    rw [HG.out]
    refine gave_none ?_
    exact ((HB1.out.setCell (by simp) _).setCell (by simp) _).setCell (by simp) _
  obtain ⟨_, b0, b1, b2⟩ := B1.out
  have HGG := Lib.hid hg; clear hg
  go_wp2_with fail
  refine (l1In_any _ _ _ _).mono ?_
  rintro e w1' ⟨rfl, hw1'⟩
  subst hw1'
  cases hin : inB 0 ((rs.length : Int) - 1) x
  · have HG : Hid (okDel n t (rs.map Ru.abs) x = false) := okDel_out (by rw [List.length_map]; exact in_no hin)
    clear hin
    go_wp2
    refine bodyPost_ret (v := .tuple #[.agg #[.int .i64 0, .int .i64 0, .slice none 0 0], .bool false]) (by simp [results, Tryd.results31, go_sem, d0, d1, d2]) rfl ?_
    rw [HG.out]
    refine gave_none ?_
    exact ((HB1.out.setCell (by simp) _).setCell (by simp) _).setCell (by simp) _
  have hx2 : 0 ≤ x ∧ x < rs.length := in_yes hin
  have HG : Hid (okDel n t (rs.map Ru.abs) x = true) := okDel_yes HGG.out hx2.1 (by rw [List.length_map]; exact hx2.2)
  clear hin
  obtain ⟨i, rfl⟩ : ∃ i : Nat, x = (i : Int) := ⟨x.toNat, by omega⟩
  have hi : i < rs.length := by omega
  clear hx2 d0 d1 d2 g0 g1 g2
  go_wp2_with fail
  refine (l1OwnG_any _ _ _ _ _ _ ((HX.out.keep HB1.out).more HB1.out.size) h1 H2.out).mono ?_
  rintro e w2 ⟨A2, c2, rs2, rfl, hcap2, hO2, ha2, hB2⟩
  have hl2 : rs2.length = rs.length := by simpa using congrArg List.length ha2
  have hi2 : i < rs2.length := by omega
  have hlen2 : rs2.length ≤ 1048576 := by omega
  obtain ⟨g, rfl, _⟩ := hO2.at_ hi2
  have HA2 := Lib.hid ha2; clear ha2
  have R2 := Lib.hid (R1.out.below hB2 R1.out.lt)
  have HB2 := Lib.hid (HB1.out.trans (hB2.mono HB1.out.size)); clear hB2
  have HO2 := Lib.hid hO2; clear hO2
  clear hl2 b0 b1 b2
  have hwr : IntKind.i64.wrap ((i : Int) + 1) = (i : Int) + 1 := by rw [IntKind.wrap_i64]; omega
  have hp0 : (0 : Int) ≤ (i : Int) + 1 := by omega
  have hp1 : (i : Int) + 1 ≤ (rs2.length : Int) := by omega
  have hp2 : ((i : Int) + 1).toNat = i + 1 := by omega
  have hic : i ≤ c2 := by omega
  have hjc : i + 1 ≤ c2 := by omega
  have HLT : Hid (w.heap.size + 1 < w1.heap.size) := R1.out.lt
  have HLW : Hid (w1.heap.size ≤ w2.heap.size) := by show _ ≤ _; have := HO2.out.size2 hi2; obtain ⟨_, h, h', _⟩ := this; have := h.lt; omega
  -- the worlds: the box of out, and the empty list beside it
  obtain ⟨V, hV⟩ : ∃ V, V = w2.alloc (.cells #[.int .i64 n, .int .i64 t, .slice (some ⟨g, 0, none⟩) rs2.length c2] 29) := ⟨_, rfl⟩
  have HVS : Hid (V.heap.size = w2.heap.size + 1) := by subst hV; show _ = _; simp
  have HVB : Hid (Below w2.heap.size w2 V) := by subst hV; exact below_new _ _
  have HVN : Hid (Row V w2.heap.size 29 #[.int .i64 n, .int .i64 t, .slice (some ⟨g, 0, none⟩) rs2.length c2]) := by subst hV; exact Row.new _ _ _
  have HVO := Lib.hid (HO2.out.below HVB.out (Nat.le_refl _))
  have HVR := Lib.hid (R2.out.below HVB.out R2.out.lt)
  have HBV := Lib.hid (HB2.out.trans (HVB.out.mono HB2.out.size))
  have HE : Hid ((V.alloc (.cells #[] 52)).ownsRow (w2.heap.size + 1) 52 2 (.slice (some ⟨w2.heap.size + 1, 0, none⟩) 0 0) 0 []) := by
    have h := own_none V 52 2
    rw [HVS.out] at h
    exact h
  have HE2 : Hid (Below (w2.heap.size + 1) V (V.alloc (.cells #[] 52))) := by rw [← HVS.out]; exact below_new _ _
  have HN : Hid (∀ (t : Nat) (v : Value), ((rs2.take i).flatMap cellsU)[t]? = some v → (V.alloc (.cells #[] 52)).cell? ((⟨g, 0, none⟩ : Addr).add t) = some v) := by
    have h := flat_src (HVO.out.below (B := V.heap.size) (below_new V (.cells #[] 52)) (Nat.le_refl _)) (ds := rs2.take i) 0 (fun k u hu => by rw [Nat.zero_add]; exact take_get hu)
    rw [Nat.zero_mul] at h
    exact h
  have HL1 : Hid (((rs2.take i).flatMap cellsU).length = i * 2) := by show _ = _; rw [flat_length, List.length_take]; congr 1; omega
  have HL2 : Hid (((rs2.drop (i + 1)).flatMap cellsU).length = (rs2.length - (i + 1)) * 2) := by show _ = _; rw [flat_length, List.length_drop]
  obtain ⟨Aj, hA, HAJ⟩ : ∃ Aj : Addr, (if c2 = i + 1 then some (⟨g, 0, none⟩ : Addr) else some ⟨g, (i + 1) * 2, none⟩) = some Aj ∧ Hid (∀ v : World, OwnR v w1.heap.size (some ⟨g, 0, none⟩) rs2 → ∀ (t : Nat) (u : Value), ((rs2.drop (i + 1)).flatMap cellsU)[t]? = some u → v.cell? (Aj.add t) = some u) := by
    by_cases e : c2 = i + 1
    · refine ⟨⟨g, 0, none⟩, by simp [e], fun v _ t u hu => ?_⟩
      have h0 := HL2.out
      rw [show rs2.length - (i + 1) = 0 by omega, Nat.zero_mul] at h0
      rw [List.length_eq_zero_iff.1 h0] at hu
      simp at hu
    · refine ⟨⟨g, (i + 1) * 2, none⟩, by simp [e], fun v hv => flat_src hv (i + 1) fun k u hu => ?_⟩
      rw [List.getElem?_drop] at hu
      exact hu
  have HEL : Hid (i + (rs2.length - (i + 1)) = (rs2.eraseIdx i).length) := by show _ = _; rw [List.length_eraseIdx, if_pos hi2]; omega
  have o2 : V.cell? ⟨w2.heap.size, 2, none⟩ = some (.slice (some ⟨g, 0, none⟩) rs2.length c2) := by have h := HVN.out.cell 2; simpa using h
  have hvs := HVS.out
  have HVE := Lib.hid hV; clear hV
  go_wp2_with
    (first
    | (at_builtin
       rw [← HVE.out]
       refine wpList_append_own _ rfl (.tmp 23) (.tmp 27) _ rfl (w2.heap.size + 1) 52 i0 _ 2 32 Tryd.underlying27 hi0 hz0 hz1 hz2 rfl (by omega) _ _ _ rfl HE.out ⟨g, 0, none⟩ i c2 ((rs2.take i).flatMap cellsU) rfl HL1.out HN.out flat_one (by unfold maxLen; omega) (by omega) (by simp; omega) ?_
       intro v3 w3 h1 h2 h3
       have HO1 : Hid (w3.ownsRow (w2.heap.size + 1) 52 2 v3 i ((rs2.take i).flatMap cellsU)) := by
         have h := h1
         rw [List.nil_append, Nat.zero_add] at h
         exact h
       have HB3 : Hid (Below (w2.heap.size + 1) V w3) := app_below HE.out HE2.out h2 (by simp; omega)
       have HR3 := Lib.hid (HVN.out.below HB3.out (by omega))
       have HO3 := Lib.hid (HVO.out.below (B := w2.heap.size + 1) HB3.out (by omega))
       have o3 : w3.cell? ⟨w2.heap.size, 2, none⟩ = some (.slice (some ⟨g, 0, none⟩) rs2.length c2) := (HR3.out.cell 2).trans (by simp)
       clear h1 h2 h3 o2)
    | (at_builtin
       refine wpList_append_own _ rfl (.tmp 29) (.tmp 34) _ rfl (w2.heap.size + 1) 52 i0 _ 2 32 Tryd.underlying27 hi0 hz0 hz1 hz2 rfl (by omega) _ _ _ rfl HO1.out Aj (rs2.length - (i + 1)) (c2 - (i + 1)) ((rs2.drop (i + 1)).flatMap cellsU) rfl HL2.out (HAJ.out _ HO3.out) flat_one (by unfold maxLen; omega) (by omega) (by have := HB3.out.size; omega) ?_
       intro v4 w4 h1 h2 h3
       have HB4 : Hid (Below (w2.heap.size + 1) V w4) := HB3.out.grown h2 (by have := HB3.out.size; omega) fun k hk => (HO1.out.lt k hk).1
       have HO4 := Lib.hid (HVO.out.below (B := w2.heap.size + 1) HB4.out (by omega))
       obtain ⟨A4, c4, rfl, hO4⟩ := app_done HEL.out h1 (by have := HLW.out; omega) HO4.out
       have HD4 := Lib.hid hO4
       have HR4 := Lib.hid (HVN.out.below HB4.out (by omega))
       have HQ4 := Lib.hid (HVR.out.below HB4.out (by have := HLT.out; have := HLW.out; omega))
       have o0 := (HR4.out.cell 0).trans (show _ = some (Value.int .i64 n) by simp)
       have o1 := (HR4.out.cell 1).trans (show _ = some (Value.int .i64 t) by simp)
       have o2 := (HR4.out.cell 2).trans (show _ = some (Value.slice (some ⟨g, 0, none⟩) rs2.length c2) by simp)
       have of2 := HR4.out.frozen 2
       have d0 := (HQ4.out.cell 0).trans (show _ = some (Value.int .i64 0) by simp)
       have d1 := (HQ4.out.cell 1).trans (show _ = some (Value.int .i64 0) by simp)
       have d2 := (HQ4.out.cell 2).trans (show _ = some (Value.slice none 0 0) by simp)
       have g0 := HQ4.out.frozen 0
       have g1 := HQ4.out.frozen 1
       have g2 := HQ4.out.frozen 2
       have hne1 : ¬ w.heap.size + 1 = w2.heap.size := by have := HLT.out; have := HLW.out; omega
       have hne2 : ¬ w2.heap.size = w.heap.size + 1 := by omega
       clear h1 h2 h3 hO4 o3))
  have HA3 := Lib.hid (del_abs HA2.out i)
  refine bodyPost_ret (v := .tuple #[.agg #[.int .i64 n, .int .i64 t, .slice A4 (rs2.eraseIdx i).length c4], .bool true]) (by simp [results, Tryd.results31, go_sem, d0, d1, d2]) rfl ⟨A4, c4, rs2.eraseIdx i, by rw [HG.out]; rfl, ?_, ?_, ?_⟩
  · have hlt := HLT.out
    exact ((((HD4.out.box (p := ⟨w2.heap.size, 2, none⟩) HR4.out (by decide) (by decide) _).low (by simp; omega) _).low (by simp; omega) _).low (by simp; omega) _).lower HB1.out.size
  · rw [HG.out]; exact HA3.out
  · have hs2 := HB2.out.size
    exact ((((HBV.out.trans (HB4.out.mono (by omega))).setCell (by simp; omega) _).setCell (by simp) _).setCell (by simp) _).setCell (by simp) _

end Go.Proofs.YtpaccjfabclikaaDoor
