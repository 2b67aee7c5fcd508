/- The program's joinedAt. -/
import Derived.Test.YtfbpcdmpkbjifaaDoorC812
import Derived.Laws.Tables
import Derived.Great.BuildSlice
import Derived.Test.YtfbpcdmpkbjifaaDoorC809

namespace Go.Proofs.YtfbpcdmpkbjifaaDoor
open Go.RowKit

/-- The lefts that a place gives, of the first k pairs. -/
def LeftK (P : List (List Int)) (ws : List Int) (xs : List (List Int)) (f m t : Int) (k : Nat) : Int → Bool := fun l => (P.take k).any fun p => decide (p.getD 0 0 = l) && (hasB ws xs (p.getD 1 0) f m && hasB ws xs (p.getD 2 0) m t)
theorem leftK_zero (P : List (List Int)) (ws : List Int) (xs : List (List Int)) (f m t : Int) : LeftK P ws xs f m t 0 = noS := by funext l; simp [LeftK, noS]
theorem leftK_step {P : List (List Int)} {ws : List Int} {xs : List (List Int)} {f m t : Int} {k : Nat} {l y z : Int} (h : P[k]? = some [l, y, z]) : LeftK P ws xs f m t (k + 1) = fun x => LeftK P ws xs f m t k x || (decide (l = x) && (hasB ws xs y f m && hasB ws xs z m t)) := by
  funext x
  obtain ⟨hk, e⟩ := List.getElem?_eq_some_iff.1 h
  unfold LeftK
  rw [List.take_succ_eq_append_getElem hk, List.any_append, e]
  simp
theorem leftK_no {P : List (List Int)} {ws : List Int} {xs : List (List Int)} {f m t : Int} {k : Nat} {l y z : Int} (h : P[k]? = some [l, y, z]) (hq : (hasB ws xs y f m && hasB ws xs z m t) = false) : rowA (LeftK P ws xs f m t (k + 1)) = rowA (LeftK P ws xs f m t k) := by
  rw [leftK_step h, hq]; simp
theorem leftK_yes {P : List (List Int)} {ws : List Int} {xs : List (List Int)} {f m t : Int} {k l0 : Nat} {y z : Int} (h : P[k]? = some [(l0 : Int), y, z]) (h1 : hasB ws xs y f m = true) (h2 : hasB ws xs z m t = true) : (rowA fun x => if x = (l0 : Int) then true else LeftK P ws xs f m t k x) = rowA (LeftK P ws xs f m t (k + 1)) := by
  rw [leftK_step h, h1, h2]
  congr 1
  funext x
  by_cases e : x = (l0 : Int)
  · rw [if_pos e, decide_eq_true e.symm]; simp
  · rw [if_neg e, decide_eq_false (fun h => e h.symm)]; simp

theorem step_allocD {P : Program} {ops : Array Oper} {Q : Exit → Act → World → Prop} {a : Act} {w : World} {o : Oper} {K : Act → World → Prop} {E : Prop} (hg : o.guard = none) (d : Tmp) (hd : o.dst = some d) (ty : TypeId) (ho : o.op = .alloc ty) (cs : Array Value) (n : Nat) (hz : (P.info? ty).map (fun i => (i.zero, i.size)) = some (some (.agg cs), n))
    (h : K (a.put (some d) (.pointer (some ⟨w.heap.size, 0, none⟩))) (w.alloc (.cells cs ty))) : if Region.wanted o (yielded ops a.tmps) = true then Oper.wp P o a w K Q else E := by
  refine step_ran hg ?_ (by rw [hd]; exact h)
  have hz1 := (zero_of_info hz).1 w
  simp [execOp, ho, Instr.alloc, hz1, Result.andThen, newVar, newRow, Value.cells]

set_option maxRecDepth 20000 in
set_option linter.unusedSimpArgs false in
set_option maxHeartbeats 2000000 in
theorem joinedAt_any (F : Nat) (b : Bi) (T : Int → Int → Bool) (n f m t : Int) (A Aw : Option Addr) (ls : List Li) (ws : List Int) (c cw : Nat) (w : World) (hF : FilC w F b T Aw ws.length cw) (hb : ReadB w w.heap.size b) (hgb : GoodBs b.say) (hm : LenB 1048576 b) (hn : n = ws.length) (hx : Lls w w.heap.size A ls) (hg : GoodC n (sayL ls)) (hw : Ints w w.heap.size Aw ws) (hT : TokW 4 ws) (hfm : f < m) (hmt : m < t) (hs : spanB n f t = true) :
    Calls Tryd.prog 133 #[.pointer (some ⟨F, 0, none⟩), .agg #[.int .i64 n, .slice A ls.length c], .int .i64 f, .int .i64 m, .int .i64 t] w fun e w' => e = .returned (.agg (rowA (LeftK b.say.P ws (sayL ls) f m t b.P.length))) ∧ Below w.heap.size w w' := by
  have HZ := Lib.hid info_set
  have HS := Lib.hid size_set
  have HZR := Lib.hid info_row
  have HSR := Lib.hid size_row
  have HF := Lib.hid hF; clear hF
  have HX := Lib.hid hx; clear hx
  have HW := Lib.hid hw; clear hw
  have HT := Lib.hid hT; clear hT
  have HN := Lib.hid hn; clear hn
  have HBB := Lib.hid hb; clear hb
  have HG := Lib.hid hgb; clear hgb
  have HGC := Lib.hid hg; clear hg
  have hPl := hm.p
  clear hm
  have hsp := spanB_is hs
  have hFl := HF.out.2.1.1
  clear hs
  have HB0 : Hid (Below w.heap.size w (((w.alloc (.cells #[.int .i64 n, .slice A ls.length c] 57)).alloc (.cells (rowA noS) 150)).alloc (.cells (rowA noS) 150))) := ((((Below.refl w.heap.size w).alloc (Nat.le_refl _) _).alloc (by rw [World.size_alloc]; omega) _).alloc (by rw [World.size_alloc, World.size_alloc]; omega) _)
  have HR0 : Hid (Row (((w.alloc (.cells #[.int .i64 n, .slice A ls.length c] 57)).alloc (.cells (rowA noS) 150)).alloc (.cells (rowA noS) 150)) w.heap.size 57 #[.int .i64 n, .slice A ls.length c]) := ((Row.new _ _ _).alloc _).alloc _
  have HR1 : Hid (Row (((w.alloc (.cells #[.int .i64 n, .slice A ls.length c] 57)).alloc (.cells (rowA noS) 150)).alloc (.cells (rowA noS) 150)) (w.heap.size + 1) 150 (rowA noS)) := by
    have h := Row.new (w.alloc (.cells #[.int .i64 n, .slice A ls.length c] 57)) 150 (rowA noS)
    rw [World.size_alloc] at h
    exact h.alloc _
  have HR2 : Hid (Row (((w.alloc (.cells #[.int .i64 n, .slice A ls.length c] 57)).alloc (.cells (rowA noS) 150)).alloc (.cells (rowA noS) 150)) (w.heap.size + 2) 150 (rowA noS)) := by
    have h := Row.new ((w.alloc (.cells #[.int .i64 n, .slice A ls.length c] 57)).alloc (.cells (rowA noS) 150)) 150 (rowA noS)
    rw [World.size_alloc, World.size_alloc] at h
    exact h
  go_enter Tryd.func133, Tryd.ntmps133
  go_wp2_with (with_reducible refine wpList_allocA rfl 150 rfl (rowA noS) 40 HZR.out ?_)
  go_simp
  have hW3 : w.heap.size + 3 = (((w.alloc (.cells #[.int .i64 n, .slice A ls.length c] 57)).alloc (.cells (rowA noS) 150)).alloc (.cells (rowA noS) 150)).heap.size := by simp
  generalize (((w.alloc (.cells #[.int .i64 n, .slice A ls.length c] 57)).alloc (.cells (rowA noS) 150)).alloc (.cells (rowA noS) 150)) = W at HB0 HR0 HR1 HR2 hW3 ⊢
  have HSK : Hid (∀ V, Below W.heap.size W V → V.cell? ⟨w.heap.size, 0, none⟩ = some (.int .i64 n) ∧ V.cell? ⟨w.heap.size, 1, none⟩ = some (.slice A ls.length c)) := fun V hV => by
    have hR := HR0.out.below hV HR0.out.lt
    have d0 := hR.cell 0
    have d1 := hR.cell 1
    simp only [List.getElem?_toArray, List.getElem?_cons_succ, List.getElem?_cons_zero] at d0 d1
    exact ⟨d0, d1⟩
  have hs0 := HB0.out.size
  have HC1 : Hid (∀ V, Below W.heap.size W V → Calls Tryd.prog 156 #[.pointer (some ⟨F, 0, none⟩), .agg #[.int .i64 n, .slice A ls.length c], .int .i64 f, .int .i64 m] V fun e w' => e = .returned (.agg (setA fun x => hasB ws (sayL ls) x f m)) ∧ Below V.heap.size V w') := fun V hV => by
    have hk := HB0.out.trans (hV.mono hs0)
    exact symbolsIn_any F b T n f m A Aw ls ws c cw V (HF.out.keep hk hFl) HN.out ((HX.out.keep hk).more hk.size) HGC.out ((HW.out.keep hk).more hk.size) HT.out (spanB_t hsp.1.1 hsp.1.2 hsp.2.1 hfm (by omega))
  have HC2 : Hid (∀ V, Below W.heap.size W V → Calls Tryd.prog 156 #[.pointer (some ⟨F, 0, none⟩), .agg #[.int .i64 n, .slice A ls.length c], .int .i64 m, .int .i64 t] V fun e w' => e = .returned (.agg (setA fun x => hasB ws (sayL ls) x m t)) ∧ Below V.heap.size V w') := fun V hV => by
    have hk := HB0.out.trans (hV.mono hs0)
    exact symbolsIn_any F b T n m t A Aw ls ws c cw V (HF.out.keep hk hFl) HN.out ((HX.out.keep hk).more hk.size) HGC.out ((HW.out.keep hk).more hk.size) HT.out (spanB_t hsp.1.1 hsp.1.2 (by omega) hmt hsp.2.2.2)
  have HDR : Hid (Below W.heap.size W W.drew) := by show Below _ _ _; go_grown
  generalize hS1 : (fun x => hasB ws (sayL ls) x f m) = S1 at HC1
  generalize hS2 : (fun x => hasB ws (sayL ls) x m t) = S2 at HC2
  go_cut [12, 13] from 12 (fun a b wx => ∃ G1 G2, (W.heap.size ≤ G1 ∧ W.heap.size ≤ G2) ∧ a = .pointer (some ⟨G1, 0, none⟩) ∧ b = .pointer (some ⟨G2, 0, none⟩) ∧ Hid (Below W.heap.size W wx) ∧ Hid (Row wx G1 185 (setA S1)) ∧ Hid (Row wx G2 185 (setA S2)))
  case first =>
    refine wp_region_held_drew (S := fun w' => w'.cell? ⟨w.heap.size, 0, none⟩ = some (.int .i64 n) ∧ w'.cell? ⟨w.heap.size, 1, none⟩ = some (.slice A ls.length c)) (by kernel_rfl) (HSK.out _ HDR.out) (fun hHeld => ?_)
    refine take_at (i := 0) (d := 16) (v := ?_) rfl rfl (by kernel_rfl) (by kernel_rfl) (by kernel_rfl) (fun _ _ _ h => h) (Or.inl ⟨by rfl, ?_⟩) (by assumption) ?_
    rotate_left
    · (intro wz hSw; (try dsimp only at hSw); go_simp; try rfl)
    simp only [Act.put, List.setIfInBounds_toArray, List.set_cons_zero, List.set_cons_succ]
    refine take_at (i := 1) (d := 17) (v := ?_) rfl rfl (by kernel_rfl) (by kernel_rfl) (by kernel_rfl) (fun _ _ _ h => h) (Or.inl ⟨by rfl, ?_⟩) (by assumption) ?_
    rotate_left
    · (intro wz hSw; (try dsimp only at hSw); go_simp; try rfl)
    simp only [Act.put, List.setIfInBounds_toArray, List.set_cons_zero, List.set_cons_succ]
    refine take_at (i := 2) (d := 18) (v := ?_) rfl rfl (by kernel_rfl) (by kernel_rfl) (by kernel_rfl) (fun _ _ _ h => h) (Or.inl ⟨by rfl, ?_⟩) (by assumption) ?_
    rotate_left
    · (intro wz hSw; (try dsimp only at hSw); go_simp; try rfl)
    simp only [Act.put, List.setIfInBounds_toArray, List.set_cons_zero, List.set_cons_succ]
    refine take_at (i := 3) (d := 19) (v := ?_) rfl rfl (by kernel_rfl) (by kernel_rfl) (by kernel_rfl) (fun _ _ _ h => h) (Or.inl ⟨by rfl, ?_⟩) (by assumption) ?_
    rotate_left
    · (intro wz hSw; (try dsimp only at hSw); go_simp; try rfl)
    simp only [Act.put, List.setIfInBounds_toArray, List.set_cons_zero, List.set_cons_succ]
    refine take_at (i := 5) (d := 21) (v := ?_) rfl rfl (by kernel_rfl) (by kernel_rfl) (by kernel_rfl) (fun _ _ _ h => h) (Or.inl ⟨by rfl, ?_⟩) (by assumption) ?_
    rotate_left
    · (intro wz hSw; (try dsimp only at hSw); go_simp; try rfl)
    simp only [Act.put, List.setIfInBounds_toArray, List.set_cons_zero, List.set_cons_succ]
    refine take_at (i := 6) (d := 22) (v := ?_) rfl rfl (by kernel_rfl) (by kernel_rfl) (by kernel_rfl) (fun _ _ _ h => h) (Or.inl ⟨by rfl, ?_⟩) (by assumption) ?_
    rotate_left
    · (intro wz hSw; (try dsimp only at hSw); go_simp; try rfl)
    simp only [Act.put, List.setIfInBounds_toArray, List.set_cons_zero, List.set_cons_succ]
    refine take_at (i := 7) (d := 23) (v := ?_) rfl rfl (by kernel_rfl) (by kernel_rfl) (by kernel_rfl) (fun _ _ _ h => h) (Or.inl ⟨by rfl, ?_⟩) (by assumption) ?_
    rotate_left
    · (intro wz hSw; (try dsimp only at hSw); go_simp; try rfl)
    simp only [Act.put, List.setIfInBounds_toArray, List.set_cons_zero, List.set_cons_succ]
    refine take_at (i := 8) (d := 24) (v := ?_) rfl rfl (by kernel_rfl) (by kernel_rfl) (by kernel_rfl) (fun _ _ _ h => h) (Or.inl ⟨by rfl, ?_⟩) (by assumption) ?_
    rotate_left
    · (intro wz hSw; (try dsimp only at hSw); go_simp; try rfl)
    simp only [Act.put, List.setIfInBounds_toArray, List.set_cons_zero, List.set_cons_succ]
    generalize W.drew = V0 at HDR hHeld ⊢
    refine wpAnyH_ready (rs := [4, 10, 11]) (by kernel_rfl) (by simp) (AllReadyH.cons rfl (fun K hK => ?_) (AllReadyH.cons rfl (fun K hK => step_allocD rfl 12 rfl 185 rfl (setA noS) 44 HZ.out (hK.out _ _ (HSK.out _ (HDR.out.alloc HDR.out.size _)) (fun hHeld => ?_))) (AllReadyH.cons rfl (fun K hK => step_allocD rfl 13 rfl 185 rfl (setA noS) 44 HZ.out (hK.out _ _ (HSK.out _ (HDR.out.alloc HDR.out.size _)) (fun hHeld => ?_))) (AllReadyH.nil))))
    · go_simp
      refine (HC1.out _ HDR.out).mono ?_
      rintro e V1 ⟨rfl, hB1⟩
      have HV1 := Lib.hid (HDR.out.trans (hB1.mono HDR.out.size))
      refine hK.out _ _ (HSK.out _ HV1.out) (fun hHeld => ?_)
      clear hK K hB1
      try simp only [Act.put, List.setIfInBounds_toArray, List.set_cons_zero, List.set_cons_succ]
      refine wpAnyH_ready (rs := [9, 10, 11]) (by kernel_rfl) (by simp) (AllReadyH.cons rfl (fun K hK => ?_) (AllReadyH.cons rfl (fun K hK => step_allocD rfl 12 rfl 185 rfl (setA noS) 44 HZ.out (hK.out _ _ (HSK.out _ (HV1.out.alloc HV1.out.size _)) (fun hHeld => ?_))) (AllReadyH.cons rfl (fun K hK => step_allocD rfl 13 rfl 185 rfl (setA noS) 44 HZ.out (hK.out _ _ (HSK.out _ (HV1.out.alloc HV1.out.size _)) (fun hHeld => ?_))) (AllReadyH.nil))))
      · go_simp
        refine (HC2.out _ HV1.out).mono ?_
        rintro e V2 ⟨rfl, hB2⟩
        have HV2 := Lib.hid (HV1.out.trans (hB2.mono HV1.out.size))
        refine hK.out _ _ (HSK.out _ HV2.out) (fun hHeld => ?_)
        clear hK K hB2
        try simp only [Act.put, List.setIfInBounds_toArray, List.set_cons_zero, List.set_cons_succ]
        refine wpAnyH_ready (rs := [10, 11]) (by kernel_rfl) (by simp) (AllReadyH.cons rfl (fun K hK => step_allocD rfl 12 rfl 185 rfl (setA noS) 44 HZ.out (hK.out _ _ (HSK.out _ (HV2.out.alloc HV2.out.size _)) (fun hHeld => ?_))) (AllReadyH.cons rfl (fun K hK => step_allocD rfl 13 rfl 185 rfl (setA noS) 44 HZ.out (hK.out _ _ (HSK.out _ (HV2.out.alloc HV2.out.size _)) (fun hHeld => ?_))) (AllReadyH.nil)))
        · have R10_3 := Lib.hid (Row.new V2 185 (setA noS))
          have HV3 := Lib.hid (HV2.out.alloc HV2.out.size (.cells (setA noS) 185))
          have hG3 := HV2.out.size
          simp only [Act.put, List.setIfInBounds_toArray, List.set_cons_zero, List.set_cons_succ]
          generalize V2.alloc (.cells (setA noS) 185) = V3 at R10_3 HV3 hHeld ⊢
          generalize V2.heap.size = G3 at R10_3 hG3 ⊢
          refine wpAnyH_ready (rs := [11]) (by kernel_rfl) (by simp) (AllReadyH.cons rfl (fun K hK => step_allocD rfl 13 rfl 185 rfl (setA noS) 44 HZ.out (hK.out _ _ (HSK.out _ (HV3.out.alloc HV3.out.size _)) (fun hHeld => ?_))) (AllReadyH.nil))
          have R10_4 := Lib.hid (R10_3.out.alloc (.cells (setA noS) 185))
          have R11_4 := Lib.hid (Row.new V3 185 (setA noS))
          have HV4 := Lib.hid (HV3.out.alloc HV3.out.size (.cells (setA noS) 185))
          have hG4 := HV3.out.size
          have hlt := R10_3.out.lt
          simp only [Act.put, List.setIfInBounds_toArray, List.set_cons_zero, List.set_cons_succ]
          generalize V3.alloc (.cells (setA noS) 185) = V4 at R11_4 HV4 hHeld R10_4 ⊢
          generalize V3.heap.size = G4 at R11_4 hG4 hlt ⊢
          have hne : G3 ≠ G4 := by first | exact Nat.ne_of_lt hlt | exact (Nat.ne_of_lt hlt).symm
          refine wpAnyH_ready (rs := [12]) (by kernel_rfl) (by simp) (AllReadyH.cons rfl (fun K1 hK1 => step_storeA rfl 185 (.tmp 12) (.tmp 20) rfl G3 (setA S1) rfl rfl 185 (setA noS) R10_4.out (HS.out _) (by rw [setA_size, setA_size]) (setA_all _) (hK1.out _ _ (HSK.out _ (below_setRow HV4.out hG3 _)) (fun hHeld => ?_))) AllReadyH.nil)
          refine wpAnyH_ready (rs := [13]) (by kernel_rfl) (by simp) (AllReadyH.cons rfl (fun K1 hK1 => step_storeA rfl 185 (.tmp 13) (.tmp 25) rfl G4 (setA S2) rfl rfl 185 (setA noS) (R11_4.out.setRow_far (Ne.symm hne) _) (HS.out _) (by rw [setA_size, setA_size]) (setA_all _) (hK1.out _ _ (HSK.out _ (below_setRow (below_setRow HV4.out hG3 _) hG4 _)) (fun hHeld => ?_))) AllReadyH.nil)
          refine wpAnyH_done (by kernel_rfl) ?_ _
          go_simp
          go_wp2_with fail
          go_meet
          case rel => exact ⟨G3, G4, ⟨hG3, hG4⟩, rfl, rfl, below_setRow (below_setRow HV4.out hG3 _) hG4 _, (R10_4.out.setRow _).setRow_far hne _, (R11_4.out.setRow_far (Ne.symm hne) _).setRow _⟩
        · have R11_5 := Lib.hid (Row.new V2 185 (setA noS))
          have HV5 := Lib.hid (HV2.out.alloc HV2.out.size (.cells (setA noS) 185))
          have hG5 := HV2.out.size
          simp only [Act.put, List.setIfInBounds_toArray, List.set_cons_zero, List.set_cons_succ]
          generalize V2.alloc (.cells (setA noS) 185) = V5 at R11_5 HV5 hHeld ⊢
          generalize V2.heap.size = G5 at R11_5 hG5 ⊢
          refine wpAnyH_ready (rs := [10]) (by kernel_rfl) (by simp) (AllReadyH.cons rfl (fun K hK => step_allocD rfl 12 rfl 185 rfl (setA noS) 44 HZ.out (hK.out _ _ (HSK.out _ (HV5.out.alloc HV5.out.size _)) (fun hHeld => ?_))) (AllReadyH.nil))
          have R11_6 := Lib.hid (R11_5.out.alloc (.cells (setA noS) 185))
          have R10_6 := Lib.hid (Row.new V5 185 (setA noS))
          have HV6 := Lib.hid (HV5.out.alloc HV5.out.size (.cells (setA noS) 185))
          have hG6 := HV5.out.size
          have hlt := R11_5.out.lt
          simp only [Act.put, List.setIfInBounds_toArray, List.set_cons_zero, List.set_cons_succ]
          generalize V5.alloc (.cells (setA noS) 185) = V6 at R10_6 HV6 hHeld R11_6 ⊢
          generalize V5.heap.size = G6 at R10_6 hG6 hlt ⊢
          have hne : G6 ≠ G5 := by first | exact Nat.ne_of_lt hlt | exact (Nat.ne_of_lt hlt).symm
          refine wpAnyH_ready (rs := [12]) (by kernel_rfl) (by simp) (AllReadyH.cons rfl (fun K1 hK1 => step_storeA rfl 185 (.tmp 12) (.tmp 20) rfl G6 (setA S1) rfl rfl 185 (setA noS) R10_6.out (HS.out _) (by rw [setA_size, setA_size]) (setA_all _) (hK1.out _ _ (HSK.out _ (below_setRow HV6.out hG6 _)) (fun hHeld => ?_))) AllReadyH.nil)
          refine wpAnyH_ready (rs := [13]) (by kernel_rfl) (by simp) (AllReadyH.cons rfl (fun K1 hK1 => step_storeA rfl 185 (.tmp 13) (.tmp 25) rfl G5 (setA S2) rfl rfl 185 (setA noS) (R11_6.out.setRow_far (Ne.symm hne) _) (HS.out _) (by rw [setA_size, setA_size]) (setA_all _) (hK1.out _ _ (HSK.out _ (below_setRow (below_setRow HV6.out hG6 _) hG5 _)) (fun hHeld => ?_))) AllReadyH.nil)
          refine wpAnyH_done (by kernel_rfl) ?_ _
          go_simp
          go_wp2_with fail
          go_meet
          case rel => exact ⟨G6, G5, ⟨hG6, hG5⟩, rfl, rfl, below_setRow (below_setRow HV6.out hG6 _) hG5 _, (R10_6.out.setRow _).setRow_far hne _, (R11_6.out.setRow_far (Ne.symm hne) _).setRow _⟩
      · have R10_7 := Lib.hid (Row.new V1 185 (setA noS))
        have HV7 := Lib.hid (HV1.out.alloc HV1.out.size (.cells (setA noS) 185))
        have hG7 := HV1.out.size
        simp only [Act.put, List.setIfInBounds_toArray, List.set_cons_zero, List.set_cons_succ]
        generalize V1.alloc (.cells (setA noS) 185) = V7 at R10_7 HV7 hHeld ⊢
        generalize V1.heap.size = G7 at R10_7 hG7 ⊢
        refine wpAnyH_ready (rs := [9, 11]) (by kernel_rfl) (by simp) (AllReadyH.cons rfl (fun K hK => ?_) (AllReadyH.cons rfl (fun K hK => step_allocD rfl 13 rfl 185 rfl (setA noS) 44 HZ.out (hK.out _ _ (HSK.out _ (HV7.out.alloc HV7.out.size _)) (fun hHeld => ?_))) (AllReadyH.nil)))
        · go_simp
          refine (HC2.out _ HV7.out).mono ?_
          rintro e V8 ⟨rfl, hB8⟩
          have R10_8 := Lib.hid (R10_7.out.below hB8 R10_7.out.lt)
          have HV8 := Lib.hid (HV7.out.trans (hB8.mono HV7.out.size))
          refine hK.out _ _ (HSK.out _ HV8.out) (fun hHeld => ?_)
          clear hK K hB8
          try simp only [Act.put, List.setIfInBounds_toArray, List.set_cons_zero, List.set_cons_succ]
          refine wpAnyH_ready (rs := [11]) (by kernel_rfl) (by simp) (AllReadyH.cons rfl (fun K hK => step_allocD rfl 13 rfl 185 rfl (setA noS) 44 HZ.out (hK.out _ _ (HSK.out _ (HV8.out.alloc HV8.out.size _)) (fun hHeld => ?_))) (AllReadyH.nil))
          have R10_9 := Lib.hid (R10_8.out.alloc (.cells (setA noS) 185))
          have R11_9 := Lib.hid (Row.new V8 185 (setA noS))
          have HV9 := Lib.hid (HV8.out.alloc HV8.out.size (.cells (setA noS) 185))
          have hG9 := HV8.out.size
          have hlt := R10_8.out.lt
          simp only [Act.put, List.setIfInBounds_toArray, List.set_cons_zero, List.set_cons_succ]
          generalize V8.alloc (.cells (setA noS) 185) = V9 at R11_9 HV9 hHeld R10_9 ⊢
          generalize V8.heap.size = G9 at R11_9 hG9 hlt ⊢
          have hne : G7 ≠ G9 := by first | exact Nat.ne_of_lt hlt | exact (Nat.ne_of_lt hlt).symm
          refine wpAnyH_ready (rs := [12]) (by kernel_rfl) (by simp) (AllReadyH.cons rfl (fun K1 hK1 => step_storeA rfl 185 (.tmp 12) (.tmp 20) rfl G7 (setA S1) rfl rfl 185 (setA noS) R10_9.out (HS.out _) (by rw [setA_size, setA_size]) (setA_all _) (hK1.out _ _ (HSK.out _ (below_setRow HV9.out hG7 _)) (fun hHeld => ?_))) AllReadyH.nil)
          refine wpAnyH_ready (rs := [13]) (by kernel_rfl) (by simp) (AllReadyH.cons rfl (fun K1 hK1 => step_storeA rfl 185 (.tmp 13) (.tmp 25) rfl G9 (setA S2) rfl rfl 185 (setA noS) (R11_9.out.setRow_far (Ne.symm hne) _) (HS.out _) (by rw [setA_size, setA_size]) (setA_all _) (hK1.out _ _ (HSK.out _ (below_setRow (below_setRow HV9.out hG7 _) hG9 _)) (fun hHeld => ?_))) AllReadyH.nil)
          refine wpAnyH_done (by kernel_rfl) ?_ _
          go_simp
          go_wp2_with fail
          go_meet
          case rel => exact ⟨G7, G9, ⟨hG7, hG9⟩, rfl, rfl, below_setRow (below_setRow HV9.out hG7 _) hG9 _, (R10_9.out.setRow _).setRow_far hne _, (R11_9.out.setRow_far (Ne.symm hne) _).setRow _⟩
        · have R10_10 := Lib.hid (R10_7.out.alloc (.cells (setA noS) 185))
          have R11_10 := Lib.hid (Row.new V7 185 (setA noS))
          have HV10 := Lib.hid (HV7.out.alloc HV7.out.size (.cells (setA noS) 185))
          have hG10 := HV7.out.size
          have hlt := R10_7.out.lt
          simp only [Act.put, List.setIfInBounds_toArray, List.set_cons_zero, List.set_cons_succ]
          generalize V7.alloc (.cells (setA noS) 185) = V10 at R11_10 HV10 hHeld R10_10 ⊢
          generalize V7.heap.size = G10 at R11_10 hG10 hlt ⊢
          refine wpAnyH_ready (rs := [9]) (by kernel_rfl) (by simp) (AllReadyH.cons rfl (fun K hK => ?_) (AllReadyH.nil))
          go_simp
          refine (HC2.out _ HV10.out).mono ?_
          rintro e V11 ⟨rfl, hB11⟩
          have R10_11 := Lib.hid (R10_10.out.below hB11 R10_10.out.lt)
          have R11_11 := Lib.hid (R11_10.out.below hB11 R11_10.out.lt)
          have HV11 := Lib.hid (HV10.out.trans (hB11.mono HV10.out.size))
          refine hK.out _ _ (HSK.out _ HV11.out) (fun hHeld => ?_)
          clear hK K hB11
          try simp only [Act.put, List.setIfInBounds_toArray, List.set_cons_zero, List.set_cons_succ]
          have hne : G7 ≠ G10 := by first | exact Nat.ne_of_lt hlt | exact (Nat.ne_of_lt hlt).symm
          refine wpAnyH_ready (rs := [12]) (by kernel_rfl) (by simp) (AllReadyH.cons rfl (fun K1 hK1 => step_storeA rfl 185 (.tmp 12) (.tmp 20) rfl G7 (setA S1) rfl rfl 185 (setA noS) R10_11.out (HS.out _) (by rw [setA_size, setA_size]) (setA_all _) (hK1.out _ _ (HSK.out _ (below_setRow HV11.out hG7 _)) (fun hHeld => ?_))) AllReadyH.nil)
          refine wpAnyH_ready (rs := [13]) (by kernel_rfl) (by simp) (AllReadyH.cons rfl (fun K1 hK1 => step_storeA rfl 185 (.tmp 13) (.tmp 25) rfl G10 (setA S2) rfl rfl 185 (setA noS) (R11_11.out.setRow_far (Ne.symm hne) _) (HS.out _) (by rw [setA_size, setA_size]) (setA_all _) (hK1.out _ _ (HSK.out _ (below_setRow (below_setRow HV11.out hG7 _) hG10 _)) (fun hHeld => ?_))) AllReadyH.nil)
          refine wpAnyH_done (by kernel_rfl) ?_ _
          go_simp
          go_wp2_with fail
          go_meet
          case rel => exact ⟨G7, G10, ⟨hG7, hG10⟩, rfl, rfl, below_setRow (below_setRow HV11.out hG7 _) hG10 _, (R10_11.out.setRow _).setRow_far hne _, (R11_11.out.setRow_far (Ne.symm hne) _).setRow _⟩
      · have R11_12 := Lib.hid (Row.new V1 185 (setA noS))
        have HV12 := Lib.hid (HV1.out.alloc HV1.out.size (.cells (setA noS) 185))
        have hG12 := HV1.out.size
        simp only [Act.put, List.setIfInBounds_toArray, List.set_cons_zero, List.set_cons_succ]
        generalize V1.alloc (.cells (setA noS) 185) = V12 at R11_12 HV12 hHeld ⊢
        generalize V1.heap.size = G12 at R11_12 hG12 ⊢
        refine wpAnyH_ready (rs := [9, 10]) (by kernel_rfl) (by simp) (AllReadyH.cons rfl (fun K hK => ?_) (AllReadyH.cons rfl (fun K hK => step_allocD rfl 12 rfl 185 rfl (setA noS) 44 HZ.out (hK.out _ _ (HSK.out _ (HV12.out.alloc HV12.out.size _)) (fun hHeld => ?_))) (AllReadyH.nil)))
        · go_simp
          refine (HC2.out _ HV12.out).mono ?_
          rintro e V13 ⟨rfl, hB13⟩
          have R11_13 := Lib.hid (R11_12.out.below hB13 R11_12.out.lt)
          have HV13 := Lib.hid (HV12.out.trans (hB13.mono HV12.out.size))
          refine hK.out _ _ (HSK.out _ HV13.out) (fun hHeld => ?_)
          clear hK K hB13
          try simp only [Act.put, List.setIfInBounds_toArray, List.set_cons_zero, List.set_cons_succ]
          refine wpAnyH_ready (rs := [10]) (by kernel_rfl) (by simp) (AllReadyH.cons rfl (fun K hK => step_allocD rfl 12 rfl 185 rfl (setA noS) 44 HZ.out (hK.out _ _ (HSK.out _ (HV13.out.alloc HV13.out.size _)) (fun hHeld => ?_))) (AllReadyH.nil))
          have R11_14 := Lib.hid (R11_13.out.alloc (.cells (setA noS) 185))
          have R10_14 := Lib.hid (Row.new V13 185 (setA noS))
          have HV14 := Lib.hid (HV13.out.alloc HV13.out.size (.cells (setA noS) 185))
          have hG14 := HV13.out.size
          have hlt := R11_13.out.lt
          simp only [Act.put, List.setIfInBounds_toArray, List.set_cons_zero, List.set_cons_succ]
          generalize V13.alloc (.cells (setA noS) 185) = V14 at R10_14 HV14 hHeld R11_14 ⊢
          generalize V13.heap.size = G14 at R10_14 hG14 hlt ⊢
          have hne : G14 ≠ G12 := by first | exact Nat.ne_of_lt hlt | exact (Nat.ne_of_lt hlt).symm
          refine wpAnyH_ready (rs := [12]) (by kernel_rfl) (by simp) (AllReadyH.cons rfl (fun K1 hK1 => step_storeA rfl 185 (.tmp 12) (.tmp 20) rfl G14 (setA S1) rfl rfl 185 (setA noS) R10_14.out (HS.out _) (by rw [setA_size, setA_size]) (setA_all _) (hK1.out _ _ (HSK.out _ (below_setRow HV14.out hG14 _)) (fun hHeld => ?_))) AllReadyH.nil)
          refine wpAnyH_ready (rs := [13]) (by kernel_rfl) (by simp) (AllReadyH.cons rfl (fun K1 hK1 => step_storeA rfl 185 (.tmp 13) (.tmp 25) rfl G12 (setA S2) rfl rfl 185 (setA noS) (R11_14.out.setRow_far (Ne.symm hne) _) (HS.out _) (by rw [setA_size, setA_size]) (setA_all _) (hK1.out _ _ (HSK.out _ (below_setRow (below_setRow HV14.out hG14 _) hG12 _)) (fun hHeld => ?_))) AllReadyH.nil)
          refine wpAnyH_done (by kernel_rfl) ?_ _
          go_simp
          go_wp2_with fail
          go_meet
          case rel => exact ⟨G14, G12, ⟨hG14, hG12⟩, rfl, rfl, below_setRow (below_setRow HV14.out hG14 _) hG12 _, (R10_14.out.setRow _).setRow_far hne _, (R11_14.out.setRow_far (Ne.symm hne) _).setRow _⟩
        · have R11_15 := Lib.hid (R11_12.out.alloc (.cells (setA noS) 185))
          have R10_15 := Lib.hid (Row.new V12 185 (setA noS))
          have HV15 := Lib.hid (HV12.out.alloc HV12.out.size (.cells (setA noS) 185))
          have hG15 := HV12.out.size
          have hlt := R11_12.out.lt
          simp only [Act.put, List.setIfInBounds_toArray, List.set_cons_zero, List.set_cons_succ]
          generalize V12.alloc (.cells (setA noS) 185) = V15 at R10_15 HV15 hHeld R11_15 ⊢
          generalize V12.heap.size = G15 at R10_15 hG15 hlt ⊢
          refine wpAnyH_ready (rs := [9]) (by kernel_rfl) (by simp) (AllReadyH.cons rfl (fun K hK => ?_) (AllReadyH.nil))
          go_simp
          refine (HC2.out _ HV15.out).mono ?_
          rintro e V16 ⟨rfl, hB16⟩
          have R11_16 := Lib.hid (R11_15.out.below hB16 R11_15.out.lt)
          have R10_16 := Lib.hid (R10_15.out.below hB16 R10_15.out.lt)
          have HV16 := Lib.hid (HV15.out.trans (hB16.mono HV15.out.size))
          refine hK.out _ _ (HSK.out _ HV16.out) (fun hHeld => ?_)
          clear hK K hB16
          try simp only [Act.put, List.setIfInBounds_toArray, List.set_cons_zero, List.set_cons_succ]
          have hne : G15 ≠ G12 := by first | exact Nat.ne_of_lt hlt | exact (Nat.ne_of_lt hlt).symm
          refine wpAnyH_ready (rs := [12]) (by kernel_rfl) (by simp) (AllReadyH.cons rfl (fun K1 hK1 => step_storeA rfl 185 (.tmp 12) (.tmp 20) rfl G15 (setA S1) rfl rfl 185 (setA noS) R10_16.out (HS.out _) (by rw [setA_size, setA_size]) (setA_all _) (hK1.out _ _ (HSK.out _ (below_setRow HV16.out hG15 _)) (fun hHeld => ?_))) AllReadyH.nil)
          refine wpAnyH_ready (rs := [13]) (by kernel_rfl) (by simp) (AllReadyH.cons rfl (fun K1 hK1 => step_storeA rfl 185 (.tmp 13) (.tmp 25) rfl G12 (setA S2) rfl rfl 185 (setA noS) (R11_16.out.setRow_far (Ne.symm hne) _) (HS.out _) (by rw [setA_size, setA_size]) (setA_all _) (hK1.out _ _ (HSK.out _ (below_setRow (below_setRow HV16.out hG15 _) hG12 _)) (fun hHeld => ?_))) AllReadyH.nil)
          refine wpAnyH_done (by kernel_rfl) ?_ _
          go_simp
          go_wp2_with fail
          go_meet
          case rel => exact ⟨G15, G12, ⟨hG15, hG12⟩, rfl, rfl, below_setRow (below_setRow HV16.out hG15 _) hG12 _, (R10_16.out.setRow _).setRow_far hne _, (R11_16.out.setRow_far (Ne.symm hne) _).setRow _⟩
    · have R10_17 := Lib.hid (Row.new V0 185 (setA noS))
      have HV17 := Lib.hid (HDR.out.alloc HDR.out.size (.cells (setA noS) 185))
      have hG17 := HDR.out.size
      simp only [Act.put, List.setIfInBounds_toArray, List.set_cons_zero, List.set_cons_succ]
      generalize V0.alloc (.cells (setA noS) 185) = V17 at R10_17 HV17 hHeld ⊢
      generalize V0.heap.size = G17 at R10_17 hG17 ⊢
      refine wpAnyH_ready (rs := [4, 11]) (by kernel_rfl) (by simp) (AllReadyH.cons rfl (fun K hK => ?_) (AllReadyH.cons rfl (fun K hK => step_allocD rfl 13 rfl 185 rfl (setA noS) 44 HZ.out (hK.out _ _ (HSK.out _ (HV17.out.alloc HV17.out.size _)) (fun hHeld => ?_))) (AllReadyH.nil)))
      · go_simp
        refine (HC1.out _ HV17.out).mono ?_
        rintro e V18 ⟨rfl, hB18⟩
        have R10_18 := Lib.hid (R10_17.out.below hB18 R10_17.out.lt)
        have HV18 := Lib.hid (HV17.out.trans (hB18.mono HV17.out.size))
        refine hK.out _ _ (HSK.out _ HV18.out) (fun hHeld => ?_)
        clear hK K hB18
        try simp only [Act.put, List.setIfInBounds_toArray, List.set_cons_zero, List.set_cons_succ]
        refine wpAnyH_ready (rs := [9, 11]) (by kernel_rfl) (by simp) (AllReadyH.cons rfl (fun K hK => ?_) (AllReadyH.cons rfl (fun K hK => step_allocD rfl 13 rfl 185 rfl (setA noS) 44 HZ.out (hK.out _ _ (HSK.out _ (HV18.out.alloc HV18.out.size _)) (fun hHeld => ?_))) (AllReadyH.nil)))
        · go_simp
          refine (HC2.out _ HV18.out).mono ?_
          rintro e V19 ⟨rfl, hB19⟩
          have R10_19 := Lib.hid (R10_18.out.below hB19 R10_18.out.lt)
          have HV19 := Lib.hid (HV18.out.trans (hB19.mono HV18.out.size))
          refine hK.out _ _ (HSK.out _ HV19.out) (fun hHeld => ?_)
          clear hK K hB19
          try simp only [Act.put, List.setIfInBounds_toArray, List.set_cons_zero, List.set_cons_succ]
          refine wpAnyH_ready (rs := [11]) (by kernel_rfl) (by simp) (AllReadyH.cons rfl (fun K hK => step_allocD rfl 13 rfl 185 rfl (setA noS) 44 HZ.out (hK.out _ _ (HSK.out _ (HV19.out.alloc HV19.out.size _)) (fun hHeld => ?_))) (AllReadyH.nil))
          have R10_20 := Lib.hid (R10_19.out.alloc (.cells (setA noS) 185))
          have R11_20 := Lib.hid (Row.new V19 185 (setA noS))
          have HV20 := Lib.hid (HV19.out.alloc HV19.out.size (.cells (setA noS) 185))
          have hG20 := HV19.out.size
          have hlt := R10_19.out.lt
          simp only [Act.put, List.setIfInBounds_toArray, List.set_cons_zero, List.set_cons_succ]
          generalize V19.alloc (.cells (setA noS) 185) = V20 at R11_20 HV20 hHeld R10_20 ⊢
          generalize V19.heap.size = G20 at R11_20 hG20 hlt ⊢
          have hne : G17 ≠ G20 := by first | exact Nat.ne_of_lt hlt | exact (Nat.ne_of_lt hlt).symm
          refine wpAnyH_ready (rs := [12]) (by kernel_rfl) (by simp) (AllReadyH.cons rfl (fun K1 hK1 => step_storeA rfl 185 (.tmp 12) (.tmp 20) rfl G17 (setA S1) rfl rfl 185 (setA noS) R10_20.out (HS.out _) (by rw [setA_size, setA_size]) (setA_all _) (hK1.out _ _ (HSK.out _ (below_setRow HV20.out hG17 _)) (fun hHeld => ?_))) AllReadyH.nil)
          refine wpAnyH_ready (rs := [13]) (by kernel_rfl) (by simp) (AllReadyH.cons rfl (fun K1 hK1 => step_storeA rfl 185 (.tmp 13) (.tmp 25) rfl G20 (setA S2) rfl rfl 185 (setA noS) (R11_20.out.setRow_far (Ne.symm hne) _) (HS.out _) (by rw [setA_size, setA_size]) (setA_all _) (hK1.out _ _ (HSK.out _ (below_setRow (below_setRow HV20.out hG17 _) hG20 _)) (fun hHeld => ?_))) AllReadyH.nil)
          refine wpAnyH_done (by kernel_rfl) ?_ _
          go_simp
          go_wp2_with fail
          go_meet
          case rel => exact ⟨G17, G20, ⟨hG17, hG20⟩, rfl, rfl, below_setRow (below_setRow HV20.out hG17 _) hG20 _, (R10_20.out.setRow _).setRow_far hne _, (R11_20.out.setRow_far (Ne.symm hne) _).setRow _⟩
        · have R10_21 := Lib.hid (R10_18.out.alloc (.cells (setA noS) 185))
          have R11_21 := Lib.hid (Row.new V18 185 (setA noS))
          have HV21 := Lib.hid (HV18.out.alloc HV18.out.size (.cells (setA noS) 185))
          have hG21 := HV18.out.size
          have hlt := R10_18.out.lt
          simp only [Act.put, List.setIfInBounds_toArray, List.set_cons_zero, List.set_cons_succ]
          generalize V18.alloc (.cells (setA noS) 185) = V21 at R11_21 HV21 hHeld R10_21 ⊢
          generalize V18.heap.size = G21 at R11_21 hG21 hlt ⊢
          refine wpAnyH_ready (rs := [9]) (by kernel_rfl) (by simp) (AllReadyH.cons rfl (fun K hK => ?_) (AllReadyH.nil))
          go_simp
          refine (HC2.out _ HV21.out).mono ?_
          rintro e V22 ⟨rfl, hB22⟩
          have R10_22 := Lib.hid (R10_21.out.below hB22 R10_21.out.lt)
          have R11_22 := Lib.hid (R11_21.out.below hB22 R11_21.out.lt)
          have HV22 := Lib.hid (HV21.out.trans (hB22.mono HV21.out.size))
          refine hK.out _ _ (HSK.out _ HV22.out) (fun hHeld => ?_)
          clear hK K hB22
          try simp only [Act.put, List.setIfInBounds_toArray, List.set_cons_zero, List.set_cons_succ]
          have hne : G17 ≠ G21 := by first | exact Nat.ne_of_lt hlt | exact (Nat.ne_of_lt hlt).symm
          refine wpAnyH_ready (rs := [12]) (by kernel_rfl) (by simp) (AllReadyH.cons rfl (fun K1 hK1 => step_storeA rfl 185 (.tmp 12) (.tmp 20) rfl G17 (setA S1) rfl rfl 185 (setA noS) R10_22.out (HS.out _) (by rw [setA_size, setA_size]) (setA_all _) (hK1.out _ _ (HSK.out _ (below_setRow HV22.out hG17 _)) (fun hHeld => ?_))) AllReadyH.nil)
          refine wpAnyH_ready (rs := [13]) (by kernel_rfl) (by simp) (AllReadyH.cons rfl (fun K1 hK1 => step_storeA rfl 185 (.tmp 13) (.tmp 25) rfl G21 (setA S2) rfl rfl 185 (setA noS) (R11_22.out.setRow_far (Ne.symm hne) _) (HS.out _) (by rw [setA_size, setA_size]) (setA_all _) (hK1.out _ _ (HSK.out _ (below_setRow (below_setRow HV22.out hG17 _) hG21 _)) (fun hHeld => ?_))) AllReadyH.nil)
          refine wpAnyH_done (by kernel_rfl) ?_ _
          go_simp
          go_wp2_with fail
          go_meet
          case rel => exact ⟨G17, G21, ⟨hG17, hG21⟩, rfl, rfl, below_setRow (below_setRow HV22.out hG17 _) hG21 _, (R10_22.out.setRow _).setRow_far hne _, (R11_22.out.setRow_far (Ne.symm hne) _).setRow _⟩
      · have R10_23 := Lib.hid (R10_17.out.alloc (.cells (setA noS) 185))
        have R11_23 := Lib.hid (Row.new V17 185 (setA noS))
        have HV23 := Lib.hid (HV17.out.alloc HV17.out.size (.cells (setA noS) 185))
        have hG23 := HV17.out.size
        have hlt := R10_17.out.lt
        simp only [Act.put, List.setIfInBounds_toArray, List.set_cons_zero, List.set_cons_succ]
        generalize V17.alloc (.cells (setA noS) 185) = V23 at R11_23 HV23 hHeld R10_23 ⊢
        generalize V17.heap.size = G23 at R11_23 hG23 hlt ⊢
        refine wpAnyH_ready (rs := [4]) (by kernel_rfl) (by simp) (AllReadyH.cons rfl (fun K hK => ?_) (AllReadyH.nil))
        go_simp
        refine (HC1.out _ HV23.out).mono ?_
        rintro e V24 ⟨rfl, hB24⟩
        have R10_24 := Lib.hid (R10_23.out.below hB24 R10_23.out.lt)
        have R11_24 := Lib.hid (R11_23.out.below hB24 R11_23.out.lt)
        have HV24 := Lib.hid (HV23.out.trans (hB24.mono HV23.out.size))
        refine hK.out _ _ (HSK.out _ HV24.out) (fun hHeld => ?_)
        clear hK K hB24
        try simp only [Act.put, List.setIfInBounds_toArray, List.set_cons_zero, List.set_cons_succ]
        refine wpAnyH_ready (rs := [9]) (by kernel_rfl) (by simp) (AllReadyH.cons rfl (fun K hK => ?_) (AllReadyH.nil))
        go_simp
        refine (HC2.out _ HV24.out).mono ?_
        rintro e V25 ⟨rfl, hB25⟩
        have R10_25 := Lib.hid (R10_24.out.below hB25 R10_24.out.lt)
        have R11_25 := Lib.hid (R11_24.out.below hB25 R11_24.out.lt)
        have HV25 := Lib.hid (HV24.out.trans (hB25.mono HV24.out.size))
        refine hK.out _ _ (HSK.out _ HV25.out) (fun hHeld => ?_)
        clear hK K hB25
        try simp only [Act.put, List.setIfInBounds_toArray, List.set_cons_zero, List.set_cons_succ]
        have hne : G17 ≠ G23 := by first | exact Nat.ne_of_lt hlt | exact (Nat.ne_of_lt hlt).symm
        refine wpAnyH_ready (rs := [12]) (by kernel_rfl) (by simp) (AllReadyH.cons rfl (fun K1 hK1 => step_storeA rfl 185 (.tmp 12) (.tmp 20) rfl G17 (setA S1) rfl rfl 185 (setA noS) R10_25.out (HS.out _) (by rw [setA_size, setA_size]) (setA_all _) (hK1.out _ _ (HSK.out _ (below_setRow HV25.out hG17 _)) (fun hHeld => ?_))) AllReadyH.nil)
        refine wpAnyH_ready (rs := [13]) (by kernel_rfl) (by simp) (AllReadyH.cons rfl (fun K1 hK1 => step_storeA rfl 185 (.tmp 13) (.tmp 25) rfl G23 (setA S2) rfl rfl 185 (setA noS) (R11_25.out.setRow_far (Ne.symm hne) _) (HS.out _) (by rw [setA_size, setA_size]) (setA_all _) (hK1.out _ _ (HSK.out _ (below_setRow (below_setRow HV25.out hG17 _) hG23 _)) (fun hHeld => ?_))) AllReadyH.nil)
        refine wpAnyH_done (by kernel_rfl) ?_ _
        go_simp
        go_wp2_with fail
        go_meet
        case rel => exact ⟨G17, G23, ⟨hG17, hG23⟩, rfl, rfl, below_setRow (below_setRow HV25.out hG17 _) hG23 _, (R10_25.out.setRow _).setRow_far hne _, (R11_25.out.setRow_far (Ne.symm hne) _).setRow _⟩
    · have R11_26 := Lib.hid (Row.new V0 185 (setA noS))
      have HV26 := Lib.hid (HDR.out.alloc HDR.out.size (.cells (setA noS) 185))
      have hG26 := HDR.out.size
      simp only [Act.put, List.setIfInBounds_toArray, List.set_cons_zero, List.set_cons_succ]
      generalize V0.alloc (.cells (setA noS) 185) = V26 at R11_26 HV26 hHeld ⊢
      generalize V0.heap.size = G26 at R11_26 hG26 ⊢
      refine wpAnyH_ready (rs := [4, 10]) (by kernel_rfl) (by simp) (AllReadyH.cons rfl (fun K hK => ?_) (AllReadyH.cons rfl (fun K hK => step_allocD rfl 12 rfl 185 rfl (setA noS) 44 HZ.out (hK.out _ _ (HSK.out _ (HV26.out.alloc HV26.out.size _)) (fun hHeld => ?_))) (AllReadyH.nil)))
      · go_simp
        refine (HC1.out _ HV26.out).mono ?_
        rintro e V27 ⟨rfl, hB27⟩
        have R11_27 := Lib.hid (R11_26.out.below hB27 R11_26.out.lt)
        have HV27 := Lib.hid (HV26.out.trans (hB27.mono HV26.out.size))
        refine hK.out _ _ (HSK.out _ HV27.out) (fun hHeld => ?_)
        clear hK K hB27
        try simp only [Act.put, List.setIfInBounds_toArray, List.set_cons_zero, List.set_cons_succ]
        refine wpAnyH_ready (rs := [9, 10]) (by kernel_rfl) (by simp) (AllReadyH.cons rfl (fun K hK => ?_) (AllReadyH.cons rfl (fun K hK => step_allocD rfl 12 rfl 185 rfl (setA noS) 44 HZ.out (hK.out _ _ (HSK.out _ (HV27.out.alloc HV27.out.size _)) (fun hHeld => ?_))) (AllReadyH.nil)))
        · go_simp
          refine (HC2.out _ HV27.out).mono ?_
          rintro e V28 ⟨rfl, hB28⟩
          have R11_28 := Lib.hid (R11_27.out.below hB28 R11_27.out.lt)
          have HV28 := Lib.hid (HV27.out.trans (hB28.mono HV27.out.size))
          refine hK.out _ _ (HSK.out _ HV28.out) (fun hHeld => ?_)
          clear hK K hB28
          try simp only [Act.put, List.setIfInBounds_toArray, List.set_cons_zero, List.set_cons_succ]
          refine wpAnyH_ready (rs := [10]) (by kernel_rfl) (by simp) (AllReadyH.cons rfl (fun K hK => step_allocD rfl 12 rfl 185 rfl (setA noS) 44 HZ.out (hK.out _ _ (HSK.out _ (HV28.out.alloc HV28.out.size _)) (fun hHeld => ?_))) (AllReadyH.nil))
          have R11_29 := Lib.hid (R11_28.out.alloc (.cells (setA noS) 185))
          have R10_29 := Lib.hid (Row.new V28 185 (setA noS))
          have HV29 := Lib.hid (HV28.out.alloc HV28.out.size (.cells (setA noS) 185))
          have hG29 := HV28.out.size
          have hlt := R11_28.out.lt
          simp only [Act.put, List.setIfInBounds_toArray, List.set_cons_zero, List.set_cons_succ]
          generalize V28.alloc (.cells (setA noS) 185) = V29 at R10_29 HV29 hHeld R11_29 ⊢
          generalize V28.heap.size = G29 at R10_29 hG29 hlt ⊢
          have hne : G29 ≠ G26 := by first | exact Nat.ne_of_lt hlt | exact (Nat.ne_of_lt hlt).symm
          refine wpAnyH_ready (rs := [12]) (by kernel_rfl) (by simp) (AllReadyH.cons rfl (fun K1 hK1 => step_storeA rfl 185 (.tmp 12) (.tmp 20) rfl G29 (setA S1) rfl rfl 185 (setA noS) R10_29.out (HS.out _) (by rw [setA_size, setA_size]) (setA_all _) (hK1.out _ _ (HSK.out _ (below_setRow HV29.out hG29 _)) (fun hHeld => ?_))) AllReadyH.nil)
          refine wpAnyH_ready (rs := [13]) (by kernel_rfl) (by simp) (AllReadyH.cons rfl (fun K1 hK1 => step_storeA rfl 185 (.tmp 13) (.tmp 25) rfl G26 (setA S2) rfl rfl 185 (setA noS) (R11_29.out.setRow_far (Ne.symm hne) _) (HS.out _) (by rw [setA_size, setA_size]) (setA_all _) (hK1.out _ _ (HSK.out _ (below_setRow (below_setRow HV29.out hG29 _) hG26 _)) (fun hHeld => ?_))) AllReadyH.nil)
          refine wpAnyH_done (by kernel_rfl) ?_ _
          go_simp
          go_wp2_with fail
          go_meet
          case rel => exact ⟨G29, G26, ⟨hG29, hG26⟩, rfl, rfl, below_setRow (below_setRow HV29.out hG29 _) hG26 _, (R10_29.out.setRow _).setRow_far hne _, (R11_29.out.setRow_far (Ne.symm hne) _).setRow _⟩
        · have R11_30 := Lib.hid (R11_27.out.alloc (.cells (setA noS) 185))
          have R10_30 := Lib.hid (Row.new V27 185 (setA noS))
          have HV30 := Lib.hid (HV27.out.alloc HV27.out.size (.cells (setA noS) 185))
          have hG30 := HV27.out.size
          have hlt := R11_27.out.lt
          simp only [Act.put, List.setIfInBounds_toArray, List.set_cons_zero, List.set_cons_succ]
          generalize V27.alloc (.cells (setA noS) 185) = V30 at R10_30 HV30 hHeld R11_30 ⊢
          generalize V27.heap.size = G30 at R10_30 hG30 hlt ⊢
          refine wpAnyH_ready (rs := [9]) (by kernel_rfl) (by simp) (AllReadyH.cons rfl (fun K hK => ?_) (AllReadyH.nil))
          go_simp
          refine (HC2.out _ HV30.out).mono ?_
          rintro e V31 ⟨rfl, hB31⟩
          have R11_31 := Lib.hid (R11_30.out.below hB31 R11_30.out.lt)
          have R10_31 := Lib.hid (R10_30.out.below hB31 R10_30.out.lt)
          have HV31 := Lib.hid (HV30.out.trans (hB31.mono HV30.out.size))
          refine hK.out _ _ (HSK.out _ HV31.out) (fun hHeld => ?_)
          clear hK K hB31
          try simp only [Act.put, List.setIfInBounds_toArray, List.set_cons_zero, List.set_cons_succ]
          have hne : G30 ≠ G26 := by first | exact Nat.ne_of_lt hlt | exact (Nat.ne_of_lt hlt).symm
          refine wpAnyH_ready (rs := [12]) (by kernel_rfl) (by simp) (AllReadyH.cons rfl (fun K1 hK1 => step_storeA rfl 185 (.tmp 12) (.tmp 20) rfl G30 (setA S1) rfl rfl 185 (setA noS) R10_31.out (HS.out _) (by rw [setA_size, setA_size]) (setA_all _) (hK1.out _ _ (HSK.out _ (below_setRow HV31.out hG30 _)) (fun hHeld => ?_))) AllReadyH.nil)
          refine wpAnyH_ready (rs := [13]) (by kernel_rfl) (by simp) (AllReadyH.cons rfl (fun K1 hK1 => step_storeA rfl 185 (.tmp 13) (.tmp 25) rfl G26 (setA S2) rfl rfl 185 (setA noS) (R11_31.out.setRow_far (Ne.symm hne) _) (HS.out _) (by rw [setA_size, setA_size]) (setA_all _) (hK1.out _ _ (HSK.out _ (below_setRow (below_setRow HV31.out hG30 _) hG26 _)) (fun hHeld => ?_))) AllReadyH.nil)
          refine wpAnyH_done (by kernel_rfl) ?_ _
          go_simp
          go_wp2_with fail
          go_meet
          case rel => exact ⟨G30, G26, ⟨hG30, hG26⟩, rfl, rfl, below_setRow (below_setRow HV31.out hG30 _) hG26 _, (R10_31.out.setRow _).setRow_far hne _, (R11_31.out.setRow_far (Ne.symm hne) _).setRow _⟩
      · have R11_32 := Lib.hid (R11_26.out.alloc (.cells (setA noS) 185))
        have R10_32 := Lib.hid (Row.new V26 185 (setA noS))
        have HV32 := Lib.hid (HV26.out.alloc HV26.out.size (.cells (setA noS) 185))
        have hG32 := HV26.out.size
        have hlt := R11_26.out.lt
        simp only [Act.put, List.setIfInBounds_toArray, List.set_cons_zero, List.set_cons_succ]
        generalize V26.alloc (.cells (setA noS) 185) = V32 at R10_32 HV32 hHeld R11_32 ⊢
        generalize V26.heap.size = G32 at R10_32 hG32 hlt ⊢
        refine wpAnyH_ready (rs := [4]) (by kernel_rfl) (by simp) (AllReadyH.cons rfl (fun K hK => ?_) (AllReadyH.nil))
        go_simp
        refine (HC1.out _ HV32.out).mono ?_
        rintro e V33 ⟨rfl, hB33⟩
        have R11_33 := Lib.hid (R11_32.out.below hB33 R11_32.out.lt)
        have R10_33 := Lib.hid (R10_32.out.below hB33 R10_32.out.lt)
        have HV33 := Lib.hid (HV32.out.trans (hB33.mono HV32.out.size))
        refine hK.out _ _ (HSK.out _ HV33.out) (fun hHeld => ?_)
        clear hK K hB33
        try simp only [Act.put, List.setIfInBounds_toArray, List.set_cons_zero, List.set_cons_succ]
        refine wpAnyH_ready (rs := [9]) (by kernel_rfl) (by simp) (AllReadyH.cons rfl (fun K hK => ?_) (AllReadyH.nil))
        go_simp
        refine (HC2.out _ HV33.out).mono ?_
        rintro e V34 ⟨rfl, hB34⟩
        have R11_34 := Lib.hid (R11_33.out.below hB34 R11_33.out.lt)
        have R10_34 := Lib.hid (R10_33.out.below hB34 R10_33.out.lt)
        have HV34 := Lib.hid (HV33.out.trans (hB34.mono HV33.out.size))
        refine hK.out _ _ (HSK.out _ HV34.out) (fun hHeld => ?_)
        clear hK K hB34
        try simp only [Act.put, List.setIfInBounds_toArray, List.set_cons_zero, List.set_cons_succ]
        have hne : G32 ≠ G26 := by first | exact Nat.ne_of_lt hlt | exact (Nat.ne_of_lt hlt).symm
        refine wpAnyH_ready (rs := [12]) (by kernel_rfl) (by simp) (AllReadyH.cons rfl (fun K1 hK1 => step_storeA rfl 185 (.tmp 12) (.tmp 20) rfl G32 (setA S1) rfl rfl 185 (setA noS) R10_34.out (HS.out _) (by rw [setA_size, setA_size]) (setA_all _) (hK1.out _ _ (HSK.out _ (below_setRow HV34.out hG32 _)) (fun hHeld => ?_))) AllReadyH.nil)
        refine wpAnyH_ready (rs := [13]) (by kernel_rfl) (by simp) (AllReadyH.cons rfl (fun K1 hK1 => step_storeA rfl 185 (.tmp 13) (.tmp 25) rfl G26 (setA S2) rfl rfl 185 (setA noS) (R11_34.out.setRow_far (Ne.symm hne) _) (HS.out _) (by rw [setA_size, setA_size]) (setA_all _) (hK1.out _ _ (HSK.out _ (below_setRow (below_setRow HV34.out hG32 _) hG26 _)) (fun hHeld => ?_))) AllReadyH.nil)
        refine wpAnyH_done (by kernel_rfl) ?_ _
        go_simp
        go_wp2_with fail
        go_meet
        case rel => exact ⟨G32, G26, ⟨hG32, hG26⟩, rfl, rfl, below_setRow (below_setRow HV34.out hG32 _) hG26 _, (R10_34.out.setRow _).setRow_far hne _, (R11_34.out.setRow_far (Ne.symm hne) _).setRow _⟩
  case rest =>
    obtain ⟨G1, G2, ⟨hG1, hG2⟩, rfl, rfl, HBc, HQ1, HQ2⟩ := hcut
    have HBW : Hid (Below w.heap.size w wc) := HB0.out.trans (HBc.out.mono hs0)
    have HP1 := Lib.hid (HR1.out.below HBc.out HR1.out.lt)
    have HP2 : Hid (Row wc (w.heap.size + 2) 150 (rowA (LeftK b.say.P ws (sayL ls) f m t 0))) := by rw [leftK_zero]; exact HR2.out.below HBc.out HR2.out.lt
    have cf0 := (HBW.out.cell (p := ⟨F, 0, none⟩) hFl).trans HF.out.1
    clear HBc HR1 HR2 HR0 HSK HC1 HC2 HDR HB0
    have hg1 : w.heap.size + 3 ≤ G1 := by omega
    have hg2 : w.heap.size + 3 ≤ G2 := by omega
    clear hG1 hG2 hs0 hW3
    go_wp2
    clear cf0
    go_loopw [31] (fun i wr => ∃ (k : Nat), k ≤ b.P.length ∧ i = .int .i64 k ∧ Hid (Below w.heap.size w wr) ∧ Hid (Row wr (w.heap.size + 1) 150 (rowA noS)) ∧ Hid (Row wr (w.heap.size + 2) 150 (rowA (LeftK b.say.P ws (sayL ls) f m t k))) ∧ Hid (Row wr G1 185 (setA S1)) ∧ Hid (Row wr G2 185 (setA S2))) (fun i _ => b.P.length - (intOf i).toNat)
    case atStart => exact ⟨0, by omega, rfl, HBW.out, HP1.out, HP2.out, HQ1.out, HQ2.out⟩
    case round =>
      clear HBW HP1 HP2 HQ1 HQ2
      obtain ⟨k, hk, rfl, HB, HP1, HP2, HQ1, HQ2⟩ := hrel
      by_cases hlt : k < b.P.length
      · obtain ⟨bb, oo, eA, hbb, d1, hcap, hI⟩ := (HBB.out.1.keep HB.out).at_ hlt
        have hsay : b.say.P[k]? = some b.P[k].r := sayL_at hlt
        obtain ⟨l, y, z, er, hnl', hsy, hsz⟩ := good_pair HG.out hsay
        rw [er] at hI hsay d1
        have HSAY := Lib.hid hsay
        obtain ⟨pp, po, ea, hpp, e0, e1, e2⟩ := ints_three_lt hI
        obtain ⟨l0, hl0, rfl⟩ := non_row hnl' HG.out.1.2
        obtain ⟨my, hmy, hey⟩ := sym_row hsy HG.out.1.2 HG.out.2.1.2
        obtain ⟨mz, hmz, hez⟩ := sym_row hsz HG.out.1.2 HG.out.2.1.2
        rw [eA]
        clear hI er eA hsay hnl' hsy hsz
        generalize b.P[k] = u at d1 hcap ea
        obtain ⟨ua, ur, uc⟩ := u
        dsimp only at d1 hcap ea
        subst ea
        have HH1 := Lib.hid (setHas_any G1 my y S1 wr HQ1.out hmy hey)
        have HH2 := Lib.hid (setHas_any G2 mz z S2 wr HQ2.out hmz hez)
        have q1 : S1 y = hasB ws (sayL ls) y f m := by rw [← hS1]
        have q2 : S2 z = hasB ws (sayL ls) z m t := by rw [← hS2]
        cases h1 : hasB ws (sayL ls) y f m
        · have HST := Lib.hid (leftK_no (f := f) (m := m) (t := t) HSAY.out (by rw [h1]; rfl))
          rw [h1] at q1
          rw [q1] at HH1
          clear q1 q2 HH2 h1 hey hez
          go_wp2_with fail
          refine HH1.out.mono ?_
          rintro e w2 ⟨rfl, hw2⟩
          have hw2' := hw2.symm
          subst hw2'
          clear hw2 HH1
          go_wp2
          go_roundw
          case rel => exact ⟨k + 1, by omega, by go_num, HB.out, HP1.out, by show Row _ _ _ _; rw [HST.out]; exact HP2.out, HQ1.out, HQ2.out⟩
          case measure => simp [intOf]; omega
        · rw [h1] at q1
          rw [q1] at HH1
          cases h2 : hasB ws (sayL ls) z m t
          · have HST := Lib.hid (leftK_no (f := f) (m := m) (t := t) HSAY.out (by rw [h2, Bool.and_false]))
            rw [h2] at q2
            rw [q2] at HH2
            clear q1 q2 h1 h2 hey hez
            go_wp2_with fail
            refine HH1.out.mono ?_
            rintro e w2 ⟨rfl, hw2⟩
            have hw2' := hw2.symm
            subst hw2'
            clear hw2 HH1
            go_wp2_with fail
            refine HH2.out.mono ?_
            rintro e w2 ⟨rfl, hw2⟩
            have hw2' := hw2.symm
            subst hw2'
            clear hw2 HH2
            go_wp2
            go_roundw
            case rel => exact ⟨k + 1, by omega, by go_num, HB.out, HP1.out, by show Row _ _ _ _; rw [HST.out]; exact HP2.out, HQ1.out, HQ2.out⟩
            case measure => simp [intOf]; omega
          · have HST := Lib.hid (leftK_yes (f := f) (m := m) (t := t) HSAY.out h1 h2)
            rw [h2] at q2
            rw [q2] at HH2
            have cl := HP2.out.cell l0
            rw [rowA_at _ hl0] at cl
            have fl := HP2.out.frozen l0
            have HP1' := Lib.hid (HP1.out.far (p := ⟨w.heap.size + 2, l0, none⟩) (by simp) (.bool true))
            have HQ1' := Lib.hid (HQ1.out.far (p := ⟨w.heap.size + 2, l0, none⟩) (by simp; omega) (.bool true))
            have HQ2' := Lib.hid (HQ2.out.far (p := ⟨w.heap.size + 2, l0, none⟩) (by simp; omega) (.bool true))
            have HP2' : Hid (Row (wr.setCell ⟨w.heap.size + 2, l0, none⟩ (.bool true)) (w.heap.size + 2) 150 (rowA (LeftK b.say.P ws (sayL ls) f m t (k + 1)))) := by
              have h := HP2.out.set l0 (.bool true)
              rw [rowA_set _ _ hl0, HST.out] at h
              exact h
            have HB' : Hid (Below w.heap.size w (wr.setCell ⟨w.heap.size + 2, l0, none⟩ (.bool true))) := HB.out.setCell (by simp) _
            clear q1 q2 h1 h2 hey hez HST HP1 HP2 HQ1 HQ2 HB
            go_wp2_with fail
            refine HH1.out.mono ?_
            rintro e w2 ⟨rfl, hw2⟩
            have hw2' := hw2.symm
            subst hw2'
            clear hw2 HH1
            go_wp2_with fail
            refine HH2.out.mono ?_
            rintro e w2 ⟨rfl, hw2⟩
            have hw2' := hw2.symm
            subst hw2'
            clear hw2 HH2
            go_wp2
            go_roundw
            case rel => exact ⟨k + 1, by omega, by go_num, HB'.out, HP1'.out, HP2'.out, HQ1'.out, HQ2'.out⟩
            case measure => simp [intOf]; omega
      · obtain rfl : k = b.P.length := by omega
        generalize hLL : LeftK b.say.P ws (sayL ls) f m t b.P.length = L at HP2 ⊢
        have HPe := Lib.hid (HP1.out.setRow (rowA L))
        have HBe := Lib.hid (below_setRow HB.out (Nat.le_succ w.heap.size) (rowA L))
        go_wp2_with (first
          | with_reducible refine wpList_loadA rfl 150 (.tmp 11) rfl (w.heap.size + 2) 0 rfl (rowA L) 40 4 Tryd.underlying150 (HSR.out _) HP2.out.rowCells ?_
          | with_reducible refine wpList_storeA rfl 150 (.tmp 10) (.tmp 50) rfl (w.heap.size + 1) (rowA L) rfl rfl 150 (rowA noS) HP1.out (HSR.out _) (by rw [rowA_size, rowA_size]) (rowA_all _) ?_)
        refine bodyPost_ret (v := .agg (rowA L)) ?_ rfl ⟨by rw [← hLL], HBe.out⟩
        exact results_cell_row Tryd.results133 _ _ (w.heap.size + 1) 150 (rowA L) (0, 0) _ rfl HPe.out Tryd.underlying150 rfl (HSR.out _)

end Go.Proofs.YtfbpcdmpkbjifaaDoor

/- Plain mathematics: the lefts of all places together. -/

namespace Go.Proofs.YtfbpcdmpkbjifaaDoor
open Go.RowKit

theorem leftK_iff {s : Bs} (hg : GoodBs s) {ws : List Int} {xs : List (List Int)} {f m t l : Int} : LeftK s.P ws xs f m t s.P.length l = true ↔ ∃ y z, [l, y, z] ∈ s.P ∧ hasB ws xs y f m = true ∧ hasB ws xs z m t = true := by
  unfold LeftK
  rw [List.take_length, List.any_eq_true]
  constructor
  · rintro ⟨p, hp, h⟩
    obtain ⟨k, hk⟩ := List.mem_iff_getElem?.1 hp
    obtain ⟨l', y, z, rfl, _⟩ := good_pair hg hk
    simp at h
    obtain ⟨rfl, h1, h2⟩ := h
    exact ⟨y, z, hp, h1, h2⟩
  · rintro ⟨y, z, hp, h1, h2⟩
    exact ⟨_, hp, by simp [h1, h2]⟩
/-- The lefts of the places from f+1 up to m, m not among them. -/
def LeftsTo (s : Bs) (ws : List Int) (xs : List (List Int)) (f t m : Int) (L : Int → Bool) : Prop := ∀ l, L l = true ↔ ∃ m', (f < m' ∧ m' < m) ∧ LeftK s.P ws xs f m' t s.P.length l = true
theorem LeftsTo.zero (s : Bs) (ws : List Int) (xs : List (List Int)) (f t : Int) : LeftsTo s ws xs f t (f + 1) noS := fun l => ⟨fun h => by simp [noS] at h, fun ⟨m', h, _⟩ => by omega⟩
theorem LeftsTo.step {s : Bs} {ws : List Int} {xs : List (List Int)} {f t m : Int} {L : Int → Bool} (h : LeftsTo s ws xs f t m L) (hm : f < m) : LeftsTo s ws xs f t (m + 1) (anyR [L, LeftK s.P ws xs f m t s.P.length]) := fun l => by
  have e : anyR [L, LeftK s.P ws xs f m t s.P.length] l = (L l || LeftK s.P ws xs f m t s.P.length l) := by simp [anyR]
  rw [e, Bool.or_eq_true, h l]
  constructor
  · rintro (⟨m', h1, h2⟩ | h2)
    · exact ⟨m', by omega, h2⟩
    · exact ⟨m, by omega, h2⟩
  · rintro ⟨m', h1, h2⟩
    by_cases e : m' = m
    · subst e; exact .inr h2
    · exact .inl ⟨m', by omega, h2⟩
theorem LeftsTo.done {s : Bs} (hg : GoodBs s) {ws : List Int} {xs : List (List Int)} {f t : Int} {L : Int → Bool} (h : LeftsTo s ws xs f t t L) : L = fun l => bP (JoinC s.P ws xs f t l) := by
  funext l
  have hq : L l = true ↔ JoinC s.P ws xs f t l := by
    rw [h l]
    constructor
    · rintro ⟨m, hm, hl⟩
      obtain ⟨y, z, hp, h1, h2⟩ := (leftK_iff hg).1 hl
      exact ⟨y, z, m, hp, hm, h1, h2⟩
    · rintro ⟨y, z, m, hp, hm, h1, h2⟩
      exact ⟨m, hm, (leftK_iff hg).2 ⟨y, z, hp, h1, h2⟩⟩
  cases e : L l
  · exact (bP_f fun hj => by rw [hq.2 hj] at e; cases e).symm
  · exact (bP_t (hq.1 e)).symm
theorem joinC_fit {s : Bs} (hg : GoodBs s) {ws : List Int} {xs : List (List Int)} {f t : Int} : Fit40 fun l => bP (JoinC s.P ws xs f t l) := fun l hl => by
  obtain ⟨y, z, m, hp, _⟩ := bP_is hl
  obtain ⟨k, hk⟩ := List.mem_iff_getElem?.1 hp
  obtain ⟨l', y', z', e, h2, _⟩ := good_pair hg hk
  simp at e
  obtain ⟨rfl, rfl, rfl⟩ := e
  have := nonB_is h2
  have := hg.1.2
  omega
end Go.Proofs.YtfbpcdmpkbjifaaDoor

/- A filler built; a slice of two rows. -/

namespace Go.Proofs.YtfbpcdmpkbjifaaDoor
open Go.RowKit

theorem fold_sizeO (off : Nat) : ∀ (l : List Value) (k : Nat) (z : Array Value), ((l.zipIdx k).foldl (fun cs (p : Value × Nat) => cs.setIfInBounds (off + p.2) p.1) z).size = z.size
  | [], _, _ => rfl
  | v :: l, k, z => by rw [List.zipIdx_cons, List.foldl_cons, fold_sizeO off l (k + 1), Array.size_setIfInBounds]
theorem fold_getO (off : Nat) : ∀ (l : List Value) (k : Nat) (z : Array Value) (i : Nat), off + k + l.length ≤ z.size → ((l.zipIdx k).foldl (fun cs (p : Value × Nat) => cs.setIfInBounds (off + p.2) p.1) z)[i]? = if off + k ≤ i ∧ i < off + k + l.length then l[i - (off + k)]? else z[i]?
  | [], k, z, i, _ => by simp; omega
  | v :: l, k, z, i, h => by
    rw [List.zipIdx_cons, List.foldl_cons, fold_getO off l (k + 1) _ i (by simp at h ⊢; omega)]
    simp only [List.length_cons] at h ⊢
    by_cases h1 : off + (k + 1) ≤ i ∧ i < off + (k + 1) + l.length
    · rw [if_pos h1, if_pos (by omega), show i - (off + k) = (i - (off + (k + 1))) + 1 by omega, List.getElem?_cons_succ]
    · rw [if_neg h1, Array.getElem?_setIfInBounds]
      by_cases h2 : off + k = i
      · subst h2
        rw [if_pos rfl, if_pos (by omega), if_pos (by omega)]
        simp
      · rw [if_neg h2, if_neg (by omega)]
/-- What a fill of one wide part leaves. -/
theorem fold_arr (off : Nat) (v z : Array Value) (h : off + v.size ≤ z.size) :
    (v.zipIdx.foldl (fun cs (p : Value × Nat) => cs.setIfInBounds (off + p.2) p.1) z).size = z.size ∧ ∀ i, (v.zipIdx.foldl (fun cs (p : Value × Nat) => cs.setIfInBounds (off + p.2) p.1) z)[i]? = if off ≤ i ∧ i < off + v.size then v[i - off]? else z[i]? := by
  rw [← Array.foldl_toList, Array.toList_zipIdx]
  refine ⟨fold_sizeO off _ 0 z, fun i => ?_⟩
  rw [fold_getO off v.toList 0 z i (by simpa using h)]
  simp

theorem info_fil : (Tryd.prog.info? 155).map (fun i => i.zero.map fun z => z.cells.size) = some (some 1762) := by kernel_rfl
theorem places_fil : (match Tryd.prog.underlying 155 with | some (.struct fields) => fields.toList.mapM (fun f => (Tryd.prog.info? f.type).map fun i => (f.offset, i.size)) | _ => none) = some [(0, 1), (1, 1760), (1761, 1)] := by kernel_rfl

/-- A filler, as a value. -/
theorem build_fil (x y : Value) (T : Int → Int → Bool) (hx : x.cells = #[x]) (hy : y.cells = #[y]) (w : World) : ∃ cs : Array Value, (Instr.build 155 #[(0, x), (1, .agg (tabA T)), (2, y)]).run Tryd.prog w = .ok (.agg cs) w ∧
    cs[0]? = some x ∧ (∀ j v, (tabA T)[j]? = some v → cs[1 + j]? = some v) ∧ cs[1761]? = some y := by
  have hi := info_fil
  have hp := places_fil
  cases hq : Tryd.prog.info? 155 with
  | none => rw [hq] at hi; cases hi
  | some it =>
    rw [hq] at hi
    simp only [Option.map_some, Option.some.injEq] at hi
    cases hz : it.zero with
    | none => rw [hz] at hi; cases hi
    | some z =>
      rw [hz] at hi
      simp only [Option.map_some, Option.some.injEq] at hi
      cases hu : Tryd.prog.underlying 155 with
      | none => rw [hu] at hp; cases hp
      | some d =>
        rw [hu] at hp
        cases d <;> try (simp at hp; done)
        case struct fields =>
          simp only at hp
          have f1 := fold_arr 0 #[x] z.cells (by simp; omega)
          generalize hc1 : (#[x] : Array Value).zipIdx.foldl (fun cs (p : Value × Nat) => cs.setIfInBounds (0 + p.2) p.1) z.cells = c1 at f1
          have f2 := fold_arr 1 (tabA T) c1 (by rw [f1.1, tabA_size, hi]; omega)
          generalize hc2 : (tabA T).zipIdx.foldl (fun cs (p : Value × Nat) => cs.setIfInBounds (1 + p.2) p.1) c1 = c2 at f2
          have f3 := fold_arr 1761 #[y] c2 (by rw [f2.1, f1.1, hi]; simp)
          generalize hc3 : (#[y] : Array Value).zipIdx.foldl (fun cs (p : Value × Nat) => cs.setIfInBounds (1761 + p.2) p.1) c2 = c3 at f3
          refine ⟨c3, run_build w _ _ _ ?_, ?_, ?_, ?_⟩
          · unfold Program.built
            rw [hq, hu]
            simp only [hz, hp]
            have a1 : (Value.agg (tabA T)).cells = tabA T := rfl
            simp only [Instr.fill, hx, hy, a1, hc1, hc2, hc3, tabA_size, f1.1, f2.1, hi, List.getElem?_toArray, List.getElem?_cons_zero, List.getElem?_cons_succ]
            simp
          · rw [f3.2, if_neg (by omega), f2.2, if_neg (by omega), f1.2, if_pos (by simp)]
            simp
          · intro j v hj
            have hj2 : j < 1760 := by have := (Array.getElem?_eq_some_iff.1 hj).1; rwa [tabA_size] at this
            rw [f3.2, if_neg (by omega), f2.2, if_pos (by rw [tabA_size]; omega), show 1 + j - 1 = j by omega]
            exact hj
          · rw [f3.2, if_pos (by simp)]
            simp

theorem tab_cells {w : World} {F : Nat} {T : Int → Int → Bool} {cs : Array Value} {t : TypeId} (h : Row w F t cs) (hc : ∀ j v, (tabA T)[j]? = some v → cs[1 + j]? = some v) : TabO w F 1 T := by
  refine ⟨h.lt, fun m x hm hx j v hj => ?_⟩
  have hj40 : j < 40 := by have := (Array.getElem?_eq_some_iff.1 hj).1; rw [rowA_size] at this; exact this
  rw [rowA_at _ hj40] at hj
  rw [h.cell, Nat.add_assoc, hc (m * 40 + j) v ?_]
  rw [tabA_at T hm hj40, show (m : Int) - 4 = x by omega]
  exact hj

/-- A slice of two rows. -/
theorem two_rows (S U : Int → Bool) (w : World) : ∃ cs : Array Value, (Instr.buildSlice 183 2 #[(0, .agg (rowA S)), (1, .agg (rowA U))]).run Tryd.prog w = .ok (.slice (some ⟨w.heap.size, 0, none⟩) 2 2) (w.alloc (.cells cs 150)) ∧
    OwnRows (w.alloc (.cells cs 150)) w.heap.size (.slice (some ⟨w.heap.size, 0, none⟩) 2 2) [S, U] := by
  have hz0 := info_row
  cases hq : Tryd.prog.info? 150 with
  | none => rw [hq] at hz0; cases hz0
  | some it =>
    rw [hq] at hz0
    simp only [Option.map_some, Option.some.injEq, Prod.mk.injEq] at hz0
    obtain ⟨hz, hs⟩ := hz0
    have hsz : ((Array.range (2 * it.size)).map ((Value.agg (rowA noS)).cells[· % (Value.agg (rowA noS)).cells.size]!)).size = 80 := by rw [hs]; simp
    generalize hz00 : (Array.range (2 * it.size)).map ((Value.agg (rowA noS)).cells[· % (Value.agg (rowA noS)).cells.size]!) = z0 at hsz
    have f1 := fold_arr 0 (rowA S) z0 (by rw [rowA_size]; omega)
    generalize hc1 : (rowA S).zipIdx.foldl (fun cs (p : Value × Nat) => cs.setIfInBounds (0 + p.2) p.1) z0 = c1 at f1
    have f2 := fold_arr 40 (rowA U) c1 (by rw [f1.1, rowA_size]; omega)
    generalize hc2 : (rowA U).zipIdx.foldl (fun cs (p : Value × Nat) => cs.setIfInBounds (40 + p.2) p.1) c1 = c2 at f2
    refine ⟨c2, run_buildSlice w _ _ 2 _ c2 it _ Tryd.underlying183 hq hz (by rw [hs]; omega) (by rw [hs]; omega) ?_, ?_⟩
    · rw [hz00, hs]
      have a1 : ∀ X : Array Value, (Value.agg X).cells = X := fun _ => rfl
      simp only [Instr.fill, a1, rowA_size, hsz, f1.1, Nat.zero_mul, Nat.one_mul, hc1, hc2]
      simp
    · have hsz2 : c2.size = 80 := by rw [f2.1, f1.1, hsz]
      refine ⟨by rw [rowsL_len], .inr ⟨w.heap.size, 2, c2, rfl, Nat.le_refl _, Row.new _ _ _, Nat.le_refl _, by unfold maxLen; omega, by omega, ?_⟩⟩
      rw [List.take_of_length_le (by rw [Array.length_toList, hsz2]; simp)]
      apply List.ext_getElem?
      intro i
      rw [Array.getElem?_toList, f2.2, rowA_size]
      have e1 : rowsL [S, U] = (rowA S).toList ++ (rowA U).toList := by simp [rowsL]
      rw [e1]
      by_cases h1 : i < 40
      · rw [if_neg (by omega), f1.2, rowA_size, if_pos (by omega), List.getElem?_append_left (by rw [Array.length_toList, rowA_size]; omega), Array.getElem?_toList]
        simp
      · by_cases h2 : i < 80
        · rw [if_pos (by omega), List.getElem?_append_right (by rw [Array.length_toList, rowA_size]; omega), Array.getElem?_toList, Array.length_toList, rowA_size]
        · rw [if_neg (by omega), f1.2, rowA_size, if_neg (by omega), List.getElem?_append_right (by rw [Array.length_toList, rowA_size]; omega), Array.getElem?_eq_none (by omega), List.getElem?_eq_none (by simp [rowA_size]; omega)]

end Go.Proofs.YtfbpcdmpkbjifaaDoor

/- The program's cell. Made by mk_filk.py. -/

namespace Go.Proofs.YtfbpcdmpkbjifaaDoor
open Go.RowKit

theorem tokW_four {b : Bi} {ws : List Int} (hg : GoodBs b.say) (h : TokW b.t ws) : TokW 4 ws := ⟨h.1, fun v hv => by
  have := h.2 v hv
  have : b.t ≤ 4 := hg.2.1.2
  omega⟩

/-- What cell answers. -/
def GaveCell (w : World) (D : Int → Int → Prop) (B : Int → Bool) (e : Ending) (w' : World) : Prop := ∃ S, Fit40 S ∧ IsUp D B S ∧ GaveI w (upK S 40) e w'

set_option maxRecDepth 20000 in
set_option linter.unusedSimpArgs false in
set_option maxHeartbeats 2000000 in
theorem cell_any (F : Nat) (b : Bi) (N : Int → Bool) (n f t : Int) (A Aw : Option Addr) (ls : List Li) (ws : List Int) (c cw : Nat) (w : World)
    (hF : FilC w F b (tabF (DirB N b.say.P b.say.O)) Aw ws.length cw) (hb : ReadB w w.heap.size b) (hgb : GoodBs b.say) (hm : LenB 1048576 b) (hn : n = ws.length) (hx : Lls w w.heap.size A ls) (hg : GoodC n (sayL ls)) (hw : Ints w w.heap.size Aw ws) (hT : TokW b.t ws) (hs : spanB n f t = true) :
    Calls Tryd.prog 96 #[.pointer (some ⟨F, 0, none⟩), .agg #[.int .i64 n, .slice A ls.length c], .int .i64 f, .int .i64 t] w (GaveCell w (DirB N b.say.P b.say.O) (cellBase b.say ws (sayL ls) f t (DirB N b.say.P b.say.O))) := by
  have HT4 := Lib.hid (tokW_four hgb hT)
  have HFT := Lib.hid (dirB_fit hgb N)
  have HZR := Lib.hid info_row
  have HSR := Lib.hid size_row
  have HLD : Hid (∀ xs L, LeftsTo b.say ws xs f t t L → L = fun l => bP (JoinC b.say.P ws xs f t l)) := fun xs L h => LeftsTo.done hgb h
  have HLF : Hid (∀ xs, Fit40 fun l => bP (JoinC b.say.P ws xs f t l)) := fun xs => joinC_fit hgb
  have HLS : Hid (∀ xs m L, LeftsTo b.say ws xs f t m L → f < m → LeftsTo b.say ws xs f t (m + 1) (anyR [L, LeftK b.say.P ws xs f m t b.P.length])) := fun xs m L h hm' => by
    have e : b.say.P.length = b.P.length := sayL_len
    rw [← e]
    exact h.step hm'
  have HJA : Hid (∀ (m : Int) (V : World), FilC V F b (tabF (DirB N b.say.P b.say.O)) Aw ws.length cw → ReadB V V.heap.size b → Lls V V.heap.size A ls → Ints V V.heap.size Aw ws → f < m → m < t →
      Calls Tryd.prog 133 #[.pointer (some ⟨F, 0, none⟩), .agg #[.int .i64 n, .slice A ls.length c], .int .i64 f, .int .i64 m, .int .i64 t] V fun e w' => e = .returned (.agg (rowA (LeftK b.say.P ws (sayL ls) f m t b.P.length))) ∧ Below V.heap.size V w') := fun m V h1 h2 h3 h4 h5 h6 =>
    joinedAt_any F b _ n f m t A Aw ls ws c cw V h1 h2 hgb hm hn h3 hg h4 HT4.out h5 h6 hs
  have hsp := spanB_is hs
  have hFl := hF.2.1.1
  have HF := Lib.hid hF; clear hF
  have HX := Lib.hid hx; clear hx
  have HW := Lib.hid hw; clear hw
  have HBB := Lib.hid hb; clear hb
  have HN := Lib.hid hn; clear hn
  have HT := Lib.hid hT; clear hT
  clear hg hm hs hgb
  generalize hDD : DirB N b.say.P b.say.O = D at HF HFT HJA ⊢
  clear hDD
  have HB0 : Hid (Below w.heap.size w (w.alloc (.cells #[.int .i64 n, .slice A ls.length c] 57))) := (Below.refl w.heap.size w).alloc (Nat.le_refl _) _
  have HR0 : Hid (Row (w.alloc (.cells #[.int .i64 n, .slice A ls.length c] 57)) w.heap.size 57 #[.int .i64 n, .slice A ls.length c]) := Row.new _ _ _
  by_cases ht1 : t = f + 1
  · have HE : Hid (cellBase b.say ws (sayL ls) f t D = rowOf D (-1 - ws.getD f.toNat 0)) := by show _ = _; rw [cellBase_one ht1]
    have ht2 : t - f = 1 := by omega
    obtain ⟨fk, rfl⟩ := Int.eq_ofNat_of_zero_le hsp.2.1
    have hfk : fk < ws.length := by have := HN.out; omega
    have HY : Hid (ws.getD (fk : Int).toNat 0 = ws[fk]) := by show _ = _; rw [Int.toNat_natCast, List.getD_eq_getElem?_getD, List.getElem?_eq_getElem hfk]; rfl
    have hy := HT4.out.2 _ (List.getElem_mem hfk)
    have HFW := Lib.hid (HF.out.keep HB0.out hFl)
    obtain ⟨p, o, rfl, hp, y0⟩ := ((HW.out.keep HB0.out).more HB0.out.size).at_ hfk
    generalize ws[fk] = y at hy y0 HY
    have f2 := HFW.out.2.2
    have hy0 := hy.1
    have hy3 := hy.2
    have hwrap : IntKind.i64.wrap (-1 - y) = -1 - y := by
      rcases (show y = 0 ∨ y = 1 ∨ y = 2 ∨ y = 3 by omega) with rfl | rfl | rfl | rfl <;> rfl
    obtain ⟨m, hm44, hmx⟩ : ∃ m : Nat, m < 44 ∧ 4 + (-1 - y) = (m : Int) := ⟨(3 - y).toNat, by omega, by omega⟩
    have hbe : ((t - (fk : Int)) == 1) = true := by rw [ht2]; rfl
    clear ht1 hy
    go_enter Tryd.func96, Tryd.ntmps96
    go_wp2
    generalize (w.alloc (.cells #[.int .i64 n, .slice A ls.length c] 57)) = W at HB0 HR0 HFW y0 f2 ⊢
    go_still_tail 11, (by kernel_rfl)
    change wpList _ _ _ _ _ W.drew
    have HD : Hid (Below W.heap.size W W.drew) := by show Below _ _ _; go_grown
    have hs0 := HB0.out.size
    have HFD := Lib.hid (HFW.out.keep HD.out HFW.out.2.1.1)
    have HBD := Lib.hid (HB0.out.trans (HD.out.mono hs0))
    go_wp2_with fail
    refine (unitRow_anyO F 1 D m (-1 - y) _ HFD.out.2.1 HFT.out hm44 hmx).mono ?_
    rintro e w6 ⟨S, rfl, hfS, hU, hB6⟩
    have hsd := HBD.out.size
    have HB6 := Lib.hid (HBD.out.trans (hB6.mono hsd)); clear hB6
    have HFS := Lib.hid hfS; clear hfS
    have HU : Hid (IsUp D (cellBase b.say ws (sayL ls) (fk : Int) t D) S) := by show IsUp _ _ _; rw [HE.out, HY.out]; exact hU
    clear hU
    go_wp2_with fail
    refine (rowList_any S w6).mono ?_
    rintro e w7 ⟨A7, c7, rfl, hc7, hO7, hB7⟩
    have hs6 := HB6.out.size
    have HB7 := Lib.hid (HB6.out.trans (hB7.mono hs6)); clear hB7
    have HO7 := Lib.hid (hO7.lower hs6); clear hO7
    go_wp2
    go_ret
    exact ⟨S, HFS.out, HU.out, A7, c7, rfl, hc7, HO7.out, HB7.out⟩
  · have HE : Hid (cellBase b.say ws (sayL ls) f t D = fun l => bP (JoinC b.say.P ws (sayL ls) f t l)) := by show _ = _; rw [cellBase_more ht1]
    have hbe : ((t - f) == 1) = false := by simpa using (by omega : ¬ t - f = 1)
    have hft : f + 1 < t := by omega
    clear ht1
    have HB1 : Hid (Below w.heap.size w ((w.alloc (.cells #[.int .i64 n, .slice A ls.length c] 57)).alloc (.cells (rowA noS) 150))) := HB0.out.alloc HB0.out.size _
    have HR1 : Hid (Row ((w.alloc (.cells #[.int .i64 n, .slice A ls.length c] 57)).alloc (.cells (rowA noS) 150)) w.heap.size 57 #[.int .i64 n, .slice A ls.length c]) := HR0.out.alloc _
    have HR2 : Hid (Row ((w.alloc (.cells #[.int .i64 n, .slice A ls.length c] 57)).alloc (.cells (rowA noS) 150)) (w.heap.size + 1) 150 (rowA noS)) := by
      have h := Row.new (w.alloc (.cells #[.int .i64 n, .slice A ls.length c] 57)) 150 (rowA noS)
      rw [World.size_alloc] at h
      exact h
    go_enter Tryd.func96, Tryd.ntmps96
    go_wp2_with (with_reducible refine wpList_allocA rfl 150 rfl (rowA noS) 40 HZR.out ?_)
    go_simp
    generalize ((w.alloc (.cells #[.int .i64 n, .slice A ls.length c] 57)).alloc (.cells (rowA noS) 150)) = W at HB1 HR1 HR2 ⊢
    clear HB0 HR0
    go_loopw [10] (fun x wr => ∃ (m : Int) (L : Int → Bool), x = .int .i64 m ∧ (f < m ∧ m ≤ t) ∧ Hid (Below w.heap.size w wr) ∧ Hid (Row wr w.heap.size 57 #[.int .i64 n, .slice A ls.length c]) ∧ Hid (Row wr (w.heap.size + 1) 150 (rowA L)) ∧ Hid (LeftsTo b.say ws (sayL ls) f t m L)) (fun x _ => (t - intOf x).toNat)
    case atStart => exact ⟨f + 1, noS, by go_num, ⟨by omega, by omega⟩, HB1.out, HR1.out, HR2.out, LeftsTo.zero _ _ _ _ _⟩
    case round =>
      clear HB1 HR1 HR2
      obtain ⟨m, L, rfl, ⟨hm1, hm2⟩, HB, HRC, HRL, HL⟩ := hrel
      have hws := HB.out.size
      have HSK : Hid (∀ V, Below wr.heap.size wr V → V.cell? ⟨w.heap.size, 0, none⟩ = some (.int .i64 n) ∧ V.cell? ⟨w.heap.size, 1, none⟩ = some (.slice A ls.length c)) := fun V hV => by
        have hR := HRC.out.below hV HRC.out.lt
        have d0 := hR.cell 0
        have d1 := hR.cell 1
        simp only [List.getElem?_toArray, List.getElem?_cons_succ, List.getElem?_cons_zero] at d0 d1
        exact ⟨d0, d1⟩
      have HDR : Hid (Below wr.heap.size wr wr.drew) := by show Below _ _ _; go_grown
      by_cases hlt : m < t
      · have HC1 : Hid (∀ V, Below wr.heap.size wr V → Calls Tryd.prog 133 #[.pointer (some ⟨F, 0, none⟩), .agg #[.int .i64 n, .slice A ls.length c], .int .i64 f, .int .i64 m, .int .i64 t] V fun e w' => e = .returned (.agg (rowA (LeftK b.say.P ws (sayL ls) f m t b.P.length))) ∧ Below V.heap.size V w') := fun V hV => by
          have hk := HB.out.trans (hV.mono hws)
          exact HJA.out m V (HF.out.keep hk hFl) ((HBB.out.keep hk).more hk.size) ((HX.out.keep hk).more hk.size) ((HW.out.keep hk).more hk.size) hm1 hlt
        have HL1 := Lib.hid (HLS.out _ m L HL.out hm1)
        have hrl := HRL.out.lt
        generalize LeftK b.say.P ws (sayL ls) f m t b.P.length = M at HC1 HL1
        go_wp2_with fail
        refine wp_region_held_drew (S := fun w' => w'.cell? ⟨w.heap.size, 0, none⟩ = some (.int .i64 n) ∧ w'.cell? ⟨w.heap.size, 1, none⟩ = some (.slice A ls.length c)) (by kernel_rfl) (HSK.out _ HDR.out) (fun hHeld => ?_)
        refine take_at (i := 1) (d := 36) (v := ?_) rfl rfl (by kernel_rfl) (by kernel_rfl) (by kernel_rfl) (fun _ _ _ h => h) (Or.inl ⟨by rfl, ?_⟩) (by assumption) ?_
        rotate_left
        · (intro wz hSw; (try dsimp only at hSw); go_simp; try rfl)
        try simp only [Act.put, List.setIfInBounds_toArray, List.set_cons_zero, List.set_cons_succ]
        refine take_at (i := 2) (d := 37) (v := ?_) rfl rfl (by kernel_rfl) (by kernel_rfl) (by kernel_rfl) (fun _ _ _ h => h) (Or.inl ⟨by rfl, ?_⟩) (by assumption) ?_
        rotate_left
        · (intro wz hSw; (try dsimp only at hSw); go_simp; try rfl)
        try simp only [Act.put, List.setIfInBounds_toArray, List.set_cons_zero, List.set_cons_succ]
        refine take_at (i := 3) (d := 38) (v := ?_) rfl rfl (by kernel_rfl) (by kernel_rfl) (by kernel_rfl) (fun _ _ _ h => h) (Or.inl ⟨by rfl, ?_⟩) (by assumption) ?_
        rotate_left
        · (intro wz hSw; (try dsimp only at hSw); go_simp; try rfl)
        try simp only [Act.put, List.setIfInBounds_toArray, List.set_cons_zero, List.set_cons_succ]
        refine take_at (i := 4) (d := 39) (v := ?_) rfl rfl (by kernel_rfl) (by kernel_rfl) (by kernel_rfl) (fun _ _ _ h => h) (Or.inl ⟨by rfl, ?_⟩) (by assumption) ?_
        rotate_left
        · (intro wz hSw; (try dsimp only at hSw); go_simp; try rfl)
        try simp only [Act.put, List.setIfInBounds_toArray, List.set_cons_zero, List.set_cons_succ]
        refine take_at (i := 5) (d := 40) (v := ?_) rfl rfl (by kernel_rfl) (by kernel_rfl) (by kernel_rfl) (fun _ _ _ h => h) (Or.inl ⟨by rfl, ?_⟩) (by assumption) ?_
        rotate_left
        · (intro wz hSw; (try dsimp only at hSw); go_simp; try rfl)
        try simp only [Act.put, List.setIfInBounds_toArray, List.set_cons_zero, List.set_cons_succ]
        generalize wr.drew = V0 at HDR hHeld ⊢
        refine wpAnyH_ready (rs := [0, 6]) (by kernel_rfl) (by simp) (AllReadyH.cons rfl (fun K hK => step_loadA rfl 150 (.tmp 9) rfl (w.heap.size + 1) 0 rfl (rowA L) 40 4 Tryd.underlying150 (HSR.out _) (HRL.out.below HDR.out HRL.out.lt).rowCells (hK.out _ _ (HSK.out _ HDR.out) (fun hHeld => ?_))) (AllReadyH.cons rfl (fun K hK => ?_) AllReadyH.nil))
        · try simp only [Act.put, List.setIfInBounds_toArray, List.set_cons_zero, List.set_cons_succ]
          refine wpAnyH_ready (rs := [6]) (by kernel_rfl) (by simp) (AllReadyH.cons rfl (fun K hK => ?_) AllReadyH.nil)
          go_simp
          refine (HC1.out _ HDR.out).mono ?_
          rintro e V1 ⟨rfl, hB1⟩
          have HV1 := Lib.hid (HDR.out.trans (hB1.mono HDR.out.size))
          refine hK.out _ _ (HSK.out _ HV1.out) (fun hHeld => ?_)
          clear hK K hB1
          try simp only [Act.put, List.setIfInBounds_toArray, List.set_cons_zero, List.set_cons_succ]
          obtain ⟨cs2, hrun, hown⟩ := two_rows L M V1
          have HOW := Lib.hid hown; clear hown
          have HV2 : Hid (Below wr.heap.size wr (V1.alloc (.cells cs2 150))) := HV1.out.alloc HV1.out.size _
          refine wpAnyH_ready (rs := [7]) (by kernel_rfl) (by simp) (AllReadyH.cons rfl (fun K hK => step_ran rfl (v := .slice (some ⟨V1.heap.size, 0, none⟩) 2 2) (w' := V1.alloc (.cells cs2 150)) ?_ (hK.out _ _ (HSK.out _ HV2.out) (fun hHeld => ?_))) AllReadyH.nil)
          · have hr2 := hrun
            simp [execOp, Act.eval] at hr2 ⊢
            rw [hr2]
            rfl
          clear hrun
          try simp only [Act.put, List.setIfInBounds_toArray, List.set_cons_zero, List.set_cons_succ]
          generalize V1.alloc (.cells cs2 150) = V2 at HV2 HOW hHeld ⊢
          refine wpAnyH_ready (rs := [8]) (by kernel_rfl) (by simp) (AllReadyH.cons rfl (fun K hK => ?_) AllReadyH.nil)
          go_simp
          refine (joined_any V1.heap.size _ [L, M] V2 HOW.out (by simp) (by simp)).mono ?_
          rintro e V3 ⟨rfl, hB3⟩
          have HV3 := Lib.hid (HV2.out.trans (hB3.mono HV2.out.size))
          refine hK.out _ _ (HSK.out _ HV3.out) (fun hHeld => ?_)
          clear hK K hB3
          try simp only [Act.put, List.setIfInBounds_toArray, List.set_cons_zero, List.set_cons_succ]
          have HRL3 := Lib.hid (HRL.out.below HV3.out HRL.out.lt)
          have HRC3 := Lib.hid (HRC.out.below HV3.out HRC.out.lt)
          have HB3 := Lib.hid (HB.out.trans (HV3.out.mono hws))
          have HBN := Lib.hid (below_setRow HB3.out (by omega : w.heap.size ≤ w.heap.size + 1) (rowA (anyR [L, M])))
          have HRN := Lib.hid (HRL3.out.setRow (rowA (anyR [L, M])))
          have HCN := Lib.hid (HRC3.out.setRow_far (k := w.heap.size + 1) (by omega) (rowA (anyR [L, M])))
          have hcn0 := HCN.out.cell 0
          have hcn1 := HCN.out.cell 1
          simp only [List.getElem?_toArray, List.getElem?_cons_succ, List.getElem?_cons_zero] at hcn0 hcn1
          refine wpAnyH_ready (rs := [9]) (by kernel_rfl) (by simp) (AllReadyH.cons rfl (fun K hK => step_storeA rfl 150 (.tmp 9) (.tmp 43) rfl (w.heap.size + 1) (rowA (anyR [L, M])) rfl rfl 150 (rowA L) HRL3.out (HSR.out _) (by rw [rowA_size, rowA_size]) (rowA_all _) (hK.out _ _ ⟨hcn0, hcn1⟩ (fun hHeld => ?_))) AllReadyH.nil)
          clear hcn0 hcn1
          refine wpAnyH_done (by kernel_rfl) ?_ _
          go_simp
          go_wp2_with fail
          go_roundw
          case rel => exact ⟨m + 1, anyR [L, M], by go_num, ⟨by omega, by omega⟩, HBN.out, HCN.out, HRN.out, HL1.out⟩
          case measure => simp [intOf]; omega
        · go_simp
          refine (HC1.out _ HDR.out).mono ?_
          rintro e V1 ⟨rfl, hB1⟩
          have HV1 := Lib.hid (HDR.out.trans (hB1.mono HDR.out.size))
          refine hK.out _ _ (HSK.out _ HV1.out) (fun hHeld => ?_)
          clear hK K hB1
          try simp only [Act.put, List.setIfInBounds_toArray, List.set_cons_zero, List.set_cons_succ]
          refine wpAnyH_ready (rs := [0]) (by kernel_rfl) (by simp) (AllReadyH.cons rfl (fun K hK => step_loadA rfl 150 (.tmp 9) rfl (w.heap.size + 1) 0 rfl (rowA L) 40 4 Tryd.underlying150 (HSR.out _) (HRL.out.below HV1.out HRL.out.lt).rowCells (hK.out _ _ (HSK.out _ HV1.out) (fun hHeld => ?_))) AllReadyH.nil)
          try simp only [Act.put, List.setIfInBounds_toArray, List.set_cons_zero, List.set_cons_succ]
          obtain ⟨cs2, hrun, hown⟩ := two_rows L M V1
          have HOW := Lib.hid hown; clear hown
          have HV2 : Hid (Below wr.heap.size wr (V1.alloc (.cells cs2 150))) := HV1.out.alloc HV1.out.size _
          refine wpAnyH_ready (rs := [7]) (by kernel_rfl) (by simp) (AllReadyH.cons rfl (fun K hK => step_ran rfl (v := .slice (some ⟨V1.heap.size, 0, none⟩) 2 2) (w' := V1.alloc (.cells cs2 150)) ?_ (hK.out _ _ (HSK.out _ HV2.out) (fun hHeld => ?_))) AllReadyH.nil)
          · have hr2 := hrun
            simp [execOp, Act.eval] at hr2 ⊢
            rw [hr2]
            rfl
          clear hrun
          try simp only [Act.put, List.setIfInBounds_toArray, List.set_cons_zero, List.set_cons_succ]
          generalize V1.alloc (.cells cs2 150) = V2 at HV2 HOW hHeld ⊢
          refine wpAnyH_ready (rs := [8]) (by kernel_rfl) (by simp) (AllReadyH.cons rfl (fun K hK => ?_) AllReadyH.nil)
          go_simp
          refine (joined_any V1.heap.size _ [L, M] V2 HOW.out (by simp) (by simp)).mono ?_
          rintro e V3 ⟨rfl, hB3⟩
          have HV3 := Lib.hid (HV2.out.trans (hB3.mono HV2.out.size))
          refine hK.out _ _ (HSK.out _ HV3.out) (fun hHeld => ?_)
          clear hK K hB3
          try simp only [Act.put, List.setIfInBounds_toArray, List.set_cons_zero, List.set_cons_succ]
          have HRL3 := Lib.hid (HRL.out.below HV3.out HRL.out.lt)
          have HRC3 := Lib.hid (HRC.out.below HV3.out HRC.out.lt)
          have HB3 := Lib.hid (HB.out.trans (HV3.out.mono hws))
          have HBN := Lib.hid (below_setRow HB3.out (by omega : w.heap.size ≤ w.heap.size + 1) (rowA (anyR [L, M])))
          have HRN := Lib.hid (HRL3.out.setRow (rowA (anyR [L, M])))
          have HCN := Lib.hid (HRC3.out.setRow_far (k := w.heap.size + 1) (by omega) (rowA (anyR [L, M])))
          have hcn0 := HCN.out.cell 0
          have hcn1 := HCN.out.cell 1
          simp only [List.getElem?_toArray, List.getElem?_cons_succ, List.getElem?_cons_zero] at hcn0 hcn1
          refine wpAnyH_ready (rs := [9]) (by kernel_rfl) (by simp) (AllReadyH.cons rfl (fun K hK => step_storeA rfl 150 (.tmp 9) (.tmp 43) rfl (w.heap.size + 1) (rowA (anyR [L, M])) rfl rfl 150 (rowA L) HRL3.out (HSR.out _) (by rw [rowA_size, rowA_size]) (rowA_all _) (hK.out _ _ ⟨hcn0, hcn1⟩ (fun hHeld => ?_))) AllReadyH.nil)
          clear hcn0 hcn1
          refine wpAnyH_done (by kernel_rfl) ?_ _
          go_simp
          go_wp2_with fail
          go_roundw
          case rel => exact ⟨m + 1, anyR [L, M], by go_num, ⟨by omega, by omega⟩, HBN.out, HCN.out, HRN.out, HL1.out⟩
          case measure => simp [intOf]; omega
      · have hmt : m = t := by omega
        have HLE := Lib.hid (HLD.out _ L (hmt ▸ HL.out))
        have HL40 : Hid (Fit40 L) := by rw [HLE.out]; exact HLF.out _
        clear hmt
        go_wp2_with fail
        refine wp_region_held_drew (S := fun w' => w'.cell? ⟨w.heap.size, 0, none⟩ = some (.int .i64 n) ∧ w'.cell? ⟨w.heap.size, 1, none⟩ = some (.slice A ls.length c)) (by kernel_rfl) (HSK.out _ HDR.out) (fun hHeld => ?_)
        refine take_at (i := 0) (d := 44) (v := ?_) rfl rfl (by kernel_rfl) (by kernel_rfl) (by kernel_rfl) (fun _ _ _ h => h) (Or.inl ⟨by rfl, ?_⟩) (by assumption) ?_
        rotate_left
        · (intro wz hSw; (try dsimp only at hSw); go_simp; try rfl)
        try simp only [Act.put, List.setIfInBounds_toArray, List.set_cons_zero, List.set_cons_succ]
        refine take_at (i := 1) (d := 45) (v := ?_) rfl rfl (by kernel_rfl) (by kernel_rfl) (by kernel_rfl) (fun _ _ _ h => h) (Or.inl ⟨by rfl, ?_⟩) (by assumption) ?_
        rotate_left
        · (intro wz hSw; (try dsimp only at hSw); go_simp; try rfl)
        try simp only [Act.put, List.setIfInBounds_toArray, List.set_cons_zero, List.set_cons_succ]
        refine take_at (i := 2) (d := 46) (v := ?_) rfl rfl (by kernel_rfl) (by kernel_rfl) (by kernel_rfl) (fun _ _ _ h => h) (Or.inl ⟨by rfl, ?_⟩) (by assumption) ?_
        rotate_left
        · (intro wz hSw; (try dsimp only at hSw); go_simp; try rfl)
        try simp only [Act.put, List.setIfInBounds_toArray, List.set_cons_zero, List.set_cons_succ]

        generalize wr.drew = V0 at HDR hHeld ⊢
        refine wpAnyH_ready (rs := [3]) (by kernel_rfl) (by simp) (AllReadyH.cons rfl (fun K hK => step_loadA rfl 150 (.tmp 9) rfl (w.heap.size + 1) 0 rfl (rowA L) 40 4 Tryd.underlying150 (HSR.out _) (HRL.out.below HDR.out HRL.out.lt).rowCells (hK.out _ _ (HSK.out _ HDR.out) (fun hHeld => ?_))) AllReadyH.nil)
        try simp only [Act.put, List.setIfInBounds_toArray, List.set_cons_zero, List.set_cons_succ]
        have HB0 := Lib.hid (HB.out.trans (HDR.out.mono hws))
        have HF0 := Lib.hid (HF.out.keep HB0.out hFl)
        refine wpAnyH_ready (rs := [4]) (by kernel_rfl) (by simp) (AllReadyH.cons rfl (fun K hK => ?_) AllReadyH.nil)
        go_simp
        refine (closed_anyO F 1 (tabF D) L V0 HF0.out.2.1 HFT.out HL40.out).mono ?_
        rintro e V1 ⟨S, rfl, hfS, hU, hB1⟩
        rw [DT6_tab] at hU
        have HFS := Lib.hid hfS; clear hfS
        have HU : Hid (IsUp D (cellBase b.say ws (sayL ls) f t D) S) := by show IsUp _ _ _; rw [HE.out, ← HLE.out]; exact hU
        clear hU
        have HV1 := Lib.hid (HDR.out.trans (hB1.mono HDR.out.size))
        refine hK.out _ _ (HSK.out _ HV1.out) (fun hHeld => ?_)
        clear hK K hB1
        try simp only [Act.put, List.setIfInBounds_toArray, List.set_cons_zero, List.set_cons_succ]
        refine wpAnyH_ready (rs := [5]) (by kernel_rfl) (by simp) (AllReadyH.cons rfl (fun K hK => ?_) AllReadyH.nil)
        go_simp
        refine (rowList_any S V1).mono ?_
        rintro e V2 ⟨A7, c7, rfl, hc7, hO7, hB7⟩
        have HV2 := Lib.hid (HV1.out.trans (hB7.mono HV1.out.size))
        have hs6 : w.heap.size ≤ V1.heap.size := Nat.le_trans hws HV1.out.size
        have HO7 := Lib.hid (hO7.lower hs6); clear hO7
        have HB2 := Lib.hid (HB.out.trans (HV2.out.mono hws))
        refine hK.out _ _ (HSK.out _ HV2.out) (fun hHeld => ?_)
        clear hK K hB7
        try simp only [Act.put, List.setIfInBounds_toArray, List.set_cons_zero, List.set_cons_succ]
        refine take_at (i := 6) (d := 8) (v := ?_) rfl rfl (by kernel_rfl) (by kernel_rfl) (by kernel_rfl) (fun _ _ _ h => h) (Or.inl ⟨by rfl, ?_⟩) (by assumption) ?_
        rotate_left
        · (intro wz hSw; (try dsimp only at hSw); go_simp; try rfl)
        try simp only [Act.put, List.setIfInBounds_toArray, List.set_cons_zero, List.set_cons_succ]
        refine wpAnyH_done (by kernel_rfl) ?_ _
        go_simp
        go_wp2
        go_ret
        exact ⟨S, HFS.out, HU.out, A7, c7, rfl, hc7, HO7.out, HB2.out⟩

end Go.Proofs.YtfbpcdmpkbjifaaDoor
