/- The program's rows of a table that begins inside a block. Printed by mk_unio.py. -/
import Derived.Test.YtfbpcdmpkbjifaaDoorC809
import Derived.Test.YtfbpcdmpkbjifaaDoorC811

namespace Go.Proofs.YtfbpcdmpkbjifaaDoor
open Go.RowKit

/-- The table that begins at cell off of block K. -/
def TabO (w : World) (K off : Nat) (T : Int → Int → Bool) : Prop :=
  K < w.heap.size ∧ ∀ (m : Nat) (x : Int), m < 44 → 4 + x = (m : Int) → ∀ (j : Nat) (v : Value), (rowA (T x))[j]? = some v → w.cell? ⟨K, off + m * 40 + j, none⟩ = some v
theorem TabO.keep {w w' : World} {K off B : Nat} {T : Int → Int → Bool} (h : TabO w K off T) (hb : Below B w w') (hK : K < B) : TabO w' K off T :=
  ⟨Nat.lt_of_lt_of_le h.1 hb.size, fun m x hm hx j v hj => (hb.cell (p := ⟨K, off + m * 40 + j, none⟩) hK).trans (h.2 m x hm hx j v hj)⟩

set_option maxHeartbeats 400000 in
theorem of_anyO (K off : Nat) (m : Nat) (x : Int) (w : World) (hm : m < 44) (hx : 4 + x = (m : Int)) :
    Calls Tryd.prog 151 #[.pointer (some ⟨K, off, none⟩), .int .i64 x] w fun e w' => e = .returned (.pointer (some ⟨K, off + m * 40, none⟩)) ∧ w' = w := by
  obtain rfl : x = (m : Int) - 4 := by omega
  clear hx
  go_enter Tryd.func151, Tryd.ntmps151
  have h1 : 4 + ((m : Int) - 4) = (m : Int) := by omega
  go_wp2
  go_ret
  exact ⟨by simp, rfl⟩


set_option maxRecDepth 20000 in
set_option maxHeartbeats 1000000 in
theorem step_anyO (K off : Nat) (T : Int → Int → Bool) (S : Int → Bool) (w : World) (hT : TabO w K off T) :
    Calls Tryd.prog 158 #[.pointer (some ⟨K, off, none⟩), .agg (rowA S)] w fun e w' => e = .returned (.agg (rowA (stepR T S))) ∧ Below w.heap.size w w' := by
  obtain ⟨i0, hi0, hz0, hz1, hz2⟩ := info_of info_row3
  have HZ := Lib.hid info_row
  have HS := Lib.hid size_row
  have HT := Lib.hid hT; clear hT
  go_enter Tryd.func158, Tryd.ntmps158
  have HB0 : Hid (Below w.heap.size w (((w.alloc (.cells (rowA S) 150)).alloc (.cells (rowA noS) 150)).alloc (.cells (rowA S) 150))) := by show Below _ _ _; go_grown
  have HR0a : Hid (Row ((w.alloc (.cells (rowA S) 150)).alloc (.cells (rowA noS) 150)) w.heap.size 150 (rowA S)) := (Row.new _ _ _).alloc _
  have HR0 : Hid (Row (((w.alloc (.cells (rowA S) 150)).alloc (.cells (rowA noS) 150)).alloc (.cells (rowA S) 150)) w.heap.size 150 (rowA S)) := HR0a.out.alloc _
  have HR1 : Hid (Row (((w.alloc (.cells (rowA S) 150)).alloc (.cells (rowA noS) 150)).alloc (.cells (rowA S) 150)) (w.heap.size + 1) 150 (rowA noS)) := by
    have h := Row.new (w.alloc (.cells (rowA S) 150)) 150 (rowA noS)
    rw [World.size_alloc] at h
    exact h.alloc _
  have HO : Hid (OwnRows (((w.alloc (.cells (rowA S) 150)).alloc (.cells (rowA noS) 150)).alloc (.cells (rowA S) 150)) (w.heap.size + 2) (.slice (some ⟨w.heap.size + 2, 0, none⟩) 1 1) [S]) := by
    have h := Row.new ((w.alloc (.cells (rowA S) 150)).alloc (.cells (rowA noS) 150)) 150 (rowA S)
    rw [World.size_alloc, World.size_alloc] at h
    refine ⟨rfl, .inr ⟨w.heap.size + 2, 1, _, rfl, Nat.le_refl _, h, Nat.le_refl _, by unfold maxLen; omega, by rw [rowA_size], ?_⟩⟩
    rw [List.take_of_length_le (by rw [Array.length_toList, rowA_size]; simp)]
    simp [rowsL]
  go_wp2_with (first
    | with_reducible refine wpList_boxA rfl 150 (.tmp 1) rfl (rowA S) rfl ?_
    | with_reducible refine wpList_allocA rfl 150 rfl (rowA noS) 40 HZ.out ?_
    | with_reducible refine wpList_loadA rfl 150 (.tmp 3) rfl w.heap.size 0 rfl (rowA S) 40 4 Tryd.underlying150 (HS.out _) HR0a.out.rowCells ?_
    | with_reducible refine wpList_sliceA rfl 183 150 (.tmp 8) rfl (rowA S) (rowA noS) rfl 40 Tryd.underlying183 HZ.out (rowA_size _) (by omega) (rowA_size _) (by omega) ?_
    | with_reducible refine wpList_loadA rfl 150 (.tmp 3) rfl w.heap.size 0 rfl (rowA S) 40 4 Tryd.underlying150 (HS.out _) HR0.out.rowCells ?_)
  clear HR0 HR0a
  have hW3 : w.heap.size + 3 ≤ (((w.alloc (.cells (rowA S) 150)).alloc (.cells (rowA noS) 150)).alloc (.cells (rowA S) 150)).heap.size := by simp
  generalize ((w.alloc (.cells (rowA S) 150)).alloc (.cells (rowA noS) 150)).alloc (.cells (rowA S) 150) = W at HB0 HR1 HO hW3 ⊢
  refine (rowList_any S W).mono ?_
  rintro e w1 ⟨A1, c1, rfl, _, hO1, hB1⟩
  have hWs := HB0.out.size
  have HB1 := Lib.hid (HB0.out.trans (hB1.mono hWs))
  have HR2 := Lib.hid (HR1.out.below hB1 HR1.out.lt)
  have HO2 : Hid (OwnRows w1 (w.heap.size + 2) (.slice (some ⟨w.heap.size + 2, 0, none⟩) 1 1) [S]) := own_below HO.out hB1
  have HI1 := Lib.hid hO1
  have hw1s : w.heap.size + 3 ≤ w1.heap.size := Nat.le_trans hW3 hB1.size
  clear hO1 hB1 HR1 HO HB0
  have HM := Lib.hid (upK_mem S 40)
  have hL40 := upK_len S 40
  have HDEF : Hid (stepR T S = anyR (S :: (upK S 40).map T)) := rfl
  generalize hL : upK S 40 = L at HI1 HM hL40 HDEF ⊢
  clear hL
  go_wp2
  go_loopw [5, 13] (fun v i wr => ∃ (k : Nat), k ≤ L.length ∧ i = .int .i64 k ∧ Hid (Below w.heap.size w wr) ∧ Hid (OwnI wr W.heap.size A1 L ∧ w.heap.size + 3 ≤ wr.heap.size) ∧ Hid (Row wr (w.heap.size + 1) 150 (rowA noS)) ∧ Hid (OwnRows wr (w.heap.size + 2) v (S :: (L.take k).map T))) (fun _ i _ => L.length - (intOf i).toNat)
  case atStart => exact ⟨0, by omega, rfl, HB1.out, ⟨HI1.out, hw1s⟩, HR2.out, HO2.out⟩
  case round =>
    clear HR2 HO2
    obtain ⟨k, hk, rfl, HB, HBX, HR, HO⟩ := hrel
    by_cases hlt : k < L.length
    · obtain ⟨p, q, rfl, hb, c1⟩ := HBX.out.1.ints.at_ hlt
      obtain ⟨m, hm, hme⟩ : ∃ m : Nat, m < 44 ∧ 4 + L[k] = (m : Int) := by
        have h := (HM.out L[k]).1 (List.getElem_mem hlt)
        exact ⟨(4 + L[k]).toNat, by omega, by omega⟩
      have HTK : Hid ((L.take (k + 1)).map T = (L.take k).map T ++ [T L[k]]) := by show _ = _; rw [List.take_succ_eq_append_getElem hlt, List.map_append]; rfl
      have HTC : Hid (∀ (j : Nat) (v : Value), (rowA (T L[k]))[j]? = some v → wr.cell? ⟨K, off + m * 40 + j, none⟩ = some v) := (HT.out.keep HB.out HT.out.1).2 m L[k] hm hme
      have hkl : (S :: (L.take k).map T).length = k + 1 := by simp; omega
      have hws : w.heap.size + 3 ≤ wr.heap.size := HBX.out.2
      generalize L[k] = x at c1 hme HTK HTC
      go_wp2_with fail
      refine (of_anyO K off m x wr hm hme).mono ?_
      rintro e w2 ⟨rfl, rfl⟩
      have HOA : Hid ((w2.alloc (.cells (rowA (T x)) 150)).ownsRow (w.heap.size + 2) 150 40 u5 (k + 1) (rowsL (S :: (L.take k).map T))) := by have h := HO.out; unfold OwnRows at h; rw [hkl] at h; exact h.alloc _
      have HNW : Hid (∀ (j : Nat) (u : Value), (rowA (T x)).toList[j]? = some u → (w2.alloc (.cells (rowA (T x)) 150)).cell? ((⟨w2.heap.size, 0, none⟩ : Addr).add j) = some u) := fun j u h => by
        rw [Go.WideShapes.add_plain, Nat.zero_add, (Row.new w2 150 (rowA (T x))).cell]
        simpa using h
      go_wp2_with (first
        | with_reducible refine wpList_loadA rfl 150 (.tmp 21) rfl K (off + m * 40) rfl (rowA (T x)) 40 4 Tryd.underlying150 (HS.out _) HTC.out ?_
        | with_reducible refine wpList_sliceA rfl 183 150 (.tmp 22) rfl (rowA (T x)) (rowA noS) rfl 40 Tryd.underlying183 HZ.out (rowA_size _) (by omega) (rowA_size _) (by omega) ?_
        | (at_builtin
           refine wpList_append_own _ rfl (.tmp 17) (.tmp 23) _ rfl (w.heap.size + 2) 150 i0 _ 40 40 Tryd.underlying183 hi0 hz0 hz1 hz2 (rowA_size _) (by omega) _ _ _ rfl HOA.out ⟨w2.heap.size, 0, none⟩ 1 1 (rowA (T x)).toList rfl (by rw [Array.length_toList, rowA_size]) HNW.out (rowsL_one _) (by unfold maxLen; omega) (by omega) (by simp; omega) ?_
           intro v' w' h1 h2 h3
           have HO' : Hid (OwnRows w' (w.heap.size + 2) v' (S :: (L.take (k + 1)).map T)) := by
             show World.ownsRow _ _ _ _ _ _ _
             have e1 : (S :: (L.take (k + 1)).map T).length = k + 1 + 1 := by simp; omega
             have e2 : rowsL (S :: (L.take (k + 1)).map T) = rowsL (S :: (L.take k).map T) ++ (rowA (T x)).toList := by rw [HTK.out]; simp [rowsL]
             rw [e1, e2]
             exact h1
           have HB' : Hid (Below w.heap.size w w') := (HB.out.alloc (by omega) _).grown h2 (by simp; omega) fun j hj => by have := (HO.out.lt j hj).1; omega
           have HBX' : Hid (OwnI w' W.heap.size _ L ∧ w.heap.size + 3 ≤ w'.heap.size) := ⟨(HBX.out.1.below ((Below.refl _ _).alloc (Nat.le_refl _) _) (Nat.le_refl _)).grownG HOA.out (by decide) h2, by have := h2.size; rw [World.size_alloc] at this; omega⟩
           have HR' : Hid (Row w' (w.heap.size + 1) 150 (rowA noS)) := (h2.block _ (by simp; omega) fun hj => by have := (HO.out.lt _ hj.symm).1; omega).trans (HR.out.alloc _)
           clear h1 h2 h3))
      go_roundw
      case rel => exact ⟨k + 1, by omega, by go_num, HB'.out, HBX'.out, HR'.out, HO'.out⟩
      case measure => simp [intOf]; omega
    · obtain rfl : k = L.length := by omega
      rw [List.take_length] at HO
      go_wp2_with fail
      refine (joined_any (w.heap.size + 2) _ _ wr HO.out (by simp) (by simp; omega)).mono ?_
      rintro e w2 ⟨rfl, hB2⟩
      rw [← HDEF.out]
      have hws : w.heap.size + 3 ≤ wr.heap.size := HBX.out.2
      have HR2 := Lib.hid (HR.out.below hB2 HR.out.lt)
      have HB2 := Lib.hid (HB.out.trans (hB2.mono (by omega)))
      generalize hRR : stepR T S = R
      have HR3 := Lib.hid (HR2.out.setRow (rowA R))
      have HB3 := Lib.hid (below_setRow HB2.out (Nat.le_succ w.heap.size) (rowA R))
      clear hB2
      go_wp2_with (first
        | with_reducible refine wpList_storeA rfl 150 (.tmp 4) (.tmp 27) rfl (w.heap.size + 1) (rowA R) rfl rfl 150 (rowA noS) HR2.out (HS.out _) (by rw [rowA_size, rowA_size]) (rowA_all _) ?_)
      refine bodyPost_ret (v := .agg (rowA R)) ?_ rfl ⟨by rw [hRR], HB3.out⟩
      exact results_cell_row Tryd.results158 _ _ (w.heap.size + 1) 150 (rowA R) (0, 0) _ rfl HR3.out Tryd.underlying150 rfl (HS.out _)


set_option maxRecDepth 20000 in
set_option maxHeartbeats 1000000 in
theorem closed_anyO (K off : Nat) (T : Int → Int → Bool) (S0 : Int → Bool) (w : World) (hT : TabO w K off T) (hfT : ∀ x, Fit40 (T x)) (hf : Fit40 S0) :
    Calls Tryd.prog 134 #[.pointer (some ⟨K, off, none⟩), .agg (rowA S0)] w (GaveUps w T S0) := by
  have HZ := Lib.hid info_row
  have HS := Lib.hid size_row
  have HT := Lib.hid hT; clear hT
  have HFT := Lib.hid hfT; clear hfT
  have HO := Lib.hid (OnUp.start (T := T) hf); clear hf
  go_enter Tryd.func134, Tryd.ntmps134
  have HB0 : Hid (Below w.heap.size w ((w.alloc (.cells (rowA S0) 150)).alloc (.cells (rowA noS) 150))) := by show Below _ _ _; go_grown
  have HR0 : Hid (Row ((w.alloc (.cells (rowA S0) 150)).alloc (.cells (rowA noS) 150)) w.heap.size 150 (rowA S0)) := (Row.new _ _ _).alloc _
  have HR1 : Hid (Row ((w.alloc (.cells (rowA S0) 150)).alloc (.cells (rowA noS) 150)) (w.heap.size + 1) 150 (rowA noS)) := by
    have h := Row.new (w.alloc (.cells (rowA S0) 150)) 150 (rowA noS)
    rw [World.size_alloc] at h
    exact h
  go_wp2_with (first
    | with_reducible refine wpList_boxA rfl 150 (.tmp 1) rfl (rowA S0) rfl ?_
    | with_reducible refine wpList_allocA rfl 150 rfl (rowA noS) 40 HZ.out ?_
    | with_reducible refine wpList_loadA rfl 150 (.tmp 3) rfl w.heap.size 0 rfl (rowA S0) 40 4 Tryd.underlying150 (HS.out _) HR0.out.rowCells ?_)
  refine (step_anyO K off T S0 _ (HT.out.keep HB0.out HT.out.1)).mono ?_
  have hW2 : w.heap.size + 2 = ((w.alloc (.cells (rowA S0) 150)).alloc (.cells (rowA noS) 150)).heap.size := by simp
  generalize (w.alloc (.cells (rowA S0) 150)).alloc (.cells (rowA noS) 150) = W at HB0 HR0 HR1 hW2 ⊢
  rintro e w1 ⟨rfl, hB1⟩
  have hs1 := hB1.size
  have HB1 := Lib.hid (HB0.out.trans (hB1.mono (by omega)))
  have HR01 := Lib.hid (HR0.out.below hB1 HR0.out.lt)
  have HR11 := Lib.hid (HR1.out.below hB1 HR1.out.lt)
  clear HB0 HR0 HR1 hB1
  have hKN : w.heap.size + 2 ≤ w1.heap.size := by omega
  have HRN : Hid (Row (w1.alloc (.cells (rowA noS) 150)) w1.heap.size 150 (rowA noS)) := Row.new _ _ _
  have HB2 : Hid (Below w.heap.size w ((w1.alloc (.cells (rowA noS) 150)).setRow w1.heap.size (rowA (stepR T S0)))) := below_setRow (HB1.out.alloc (by omega) _) (by omega) _
  have HR02 : Hid (Row ((w1.alloc (.cells (rowA noS) 150)).setRow w1.heap.size (rowA (stepR T S0))) w.heap.size 150 (rowA S0)) := (HR01.out.alloc _).setRow_far (by omega) _
  have HR12 : Hid (Row ((w1.alloc (.cells (rowA noS) 150)).setRow w1.heap.size (rowA (stepR T S0))) (w.heap.size + 1) 150 (rowA noS)) := (HR11.out.alloc _).setRow_far (by omega) _
  have HR22 : Hid (Row ((w1.alloc (.cells (rowA noS) 150)).setRow w1.heap.size (rowA (stepR T S0))) w1.heap.size 150 (rowA (stepR T S0))) := HRN.out.setRow _
  go_wp2_with (first
    | with_reducible refine wpList_allocA rfl 150 rfl (rowA noS) 40 HZ.out ?_
    | with_reducible refine wpList_storeA rfl 150 (.tmp 5) (.tmp 8) rfl w1.heap.size (rowA (stepR T S0)) rfl rfl 150 (rowA noS) HRN.out (HS.out _) (by rw [rowA_size, rowA_size]) (rowA_all _) ?_)
  clear HB1 HR01 HR11 HRN
  generalize (w1.alloc (.cells (rowA noS) 150)).setRow w1.heap.size (rowA (stepR T S0)) = W2 at HB2 HR02 HR12 HR22 ⊢
  generalize w1.heap.size = KN at hKN HR22 ⊢
  go_simp
  go_loopg [] (40 - (upK S0 40).length) (fun g wr => ∃ R, g = 40 - (upK R 40).length ∧ Hid (OnUp T S0 R) ∧ Hid (Below w.heap.size w wr) ∧ Hid (Row wr w.heap.size 150 (rowA R)) ∧ Hid (Row wr (w.heap.size + 1) 150 (rowA noS)) ∧ Hid (Row wr KN 150 (rowA (stepR T R))))
  case atStart => exact ⟨S0, rfl, HO.out, HB2.out, HR02.out, HR12.out, HR22.out⟩
  case round =>
    clear HO HB2 HR02 HR12 HR22
    obtain ⟨R, hgk, HO, HB, HR0, HR1, HRN⟩ := hrel
    go_wp2_with (first
      | with_reducible refine wpList_loadA rfl 150 (.tmp 3) rfl w.heap.size 0 rfl (rowA R) 40 4 Tryd.underlying150 (HS.out _) HR0.out.rowCells ?_
      | with_reducible refine wpList_loadA rfl 150 (.tmp 5) rfl KN 0 rfl (rowA (stepR T R)) 40 4 Tryd.underlying150 (HS.out _) HRN.out.rowCells ?_
      | with_reducible refine wpList_neqA rfl 150 (.tmp 9) (.tmp 10) _ rfl (stepR T R) R rfl rfl 4 Tryd.underlying150 Tryd.underlying4 (by kernel_rfl) (by kernel_rfl) ?_
      | with_reducible refine wpList_storeA rfl 150 (.tmp 4) (.tmp 16) rfl (w.heap.size + 1) (rowA R) rfl rfl 150 (rowA noS) HR1.out (HS.out _) (by rw [rowA_size, rowA_size]) (rowA_all _) ?_)
    · rename_i hne
      have hneq : ¬ rowA (stepR T R) = rowA R := bP_no (by simpa using hne)
      have hless := upK_less (fun x hx => (stepR_is T R x).2 (.inl hx)) hneq
      have hmax := upK_len (stepR T R) 40
      clear hne hneq
      go_simp
      have HD : Hid (Below wr.heap.size wr wr.drew) := by show Below _ _ _; go_grown
      have hws := HB.out.size
      have hws2 := HR1.out.lt
      have HON := Lib.hid (HO.out.step HFT.out)
      have HRD := Lib.hid (HRN.out.below HD.out HRN.out.lt)
      have HCALL : Hid (Calls Tryd.prog 158 #[.pointer (some ⟨K, off, none⟩), .agg (rowA (stepR T R))] wr.drew fun e w' => e = .returned (.agg (rowA (stepR T (stepR T R)))) ∧ Below wr.drew.heap.size wr.drew w') := step_anyO K off T (stepR T R) _ ((HT.out.keep HB.out HT.out.1).keep HD.out (Nat.lt_of_lt_of_le HT.out.1 hws))
      refine wp_region_any (by kernel_rfl) ?_
      change wpAny _ _ _ _ _ _ _ (World.drew _)
      refine wpAny_take (i := 1) (v := .pointer (some ⟨K, off, none⟩)) rfl (by kernel_rfl) (by kernel_rfl) (by kernel_rfl) (fun _ _ _ h => h) (Or.inl ⟨by rfl, fun _ => by rfl⟩) ?_
      refine wpAny_ready (rs := [0, 2]) (by kernel_rfl) (by simp) ?_
      refine AllReady.cons rfl (fun K1 hK1 => step_loadA rfl 150 (.tmp 5) rfl KN 0 rfl (rowA (stepR T R)) 40 4 Tryd.underlying150 (HS.out _) HRD.out.rowCells (hK1 _ _ ?_)) (AllReady.cons rfl (fun K1 hK1 => step_loadA rfl 150 (.tmp 5) rfl KN 0 rfl (rowA (stepR T R)) 40 4 Tryd.underlying150 (HS.out _) HRD.out.rowCells (hK1 _ _ ?_)) AllReady.nil)
      · refine wpAny_ready (rs := [2]) (by kernel_rfl) (by simp) (AllReady.cons rfl (fun K2 hK2 => step_loadA rfl 150 (.tmp 5) rfl KN 0 rfl (rowA (stepR T R)) 40 4 Tryd.underlying150 (HS.out _) HRD.out.rowCells (hK2 _ _ ?_)) AllReady.nil)
        refine wpAny_ready (rs := [3]) (by kernel_rfl) (by simp) (AllReady.cons rfl (fun K3 hK3 => ?_) AllReady.nil)
        go_simp
        refine HCALL.out.mono ?_
        rintro e w2 ⟨rfl, hB2⟩
        refine hK3 _ _ ?_
        have hB2' : Below wr.heap.size wr w2 := HD.out.trans (hB2.mono HD.out.size)
        have HQ0 := Lib.hid (HR0.out.below hB2' HR0.out.lt)
        have HQ1 := Lib.hid (HR1.out.below hB2' HR1.out.lt)
        have HQN := Lib.hid (HRN.out.below hB2' HRN.out.lt)
        have HBQ := Lib.hid (HB.out.trans (hB2'.mono hws))
        have HX0 := Lib.hid (HQ0.out.setRow (rowA (stepR T R)))
        have HX1 := Lib.hid (HQ1.out.setRow_far (k := w.heap.size) (by omega) (rowA (stepR T R)))
        have HXN := Lib.hid (HQN.out.setRow_far (k := w.heap.size) (by omega) (rowA (stepR T R)))
        have HY0 := Lib.hid (HX0.out.setRow_far (k := KN) (by omega) (rowA (stepR T (stepR T R))))
        have HY1 := Lib.hid (HX1.out.setRow_far (k := KN) (by omega) (rowA (stepR T (stepR T R))))
        have HYN := Lib.hid (HXN.out.setRow (rowA (stepR T (stepR T R))))
        have HBY := Lib.hid (below_setRow (below_setRow HBQ.out (Nat.le_refl w.heap.size) (rowA (stepR T R))) (g := KN) (by omega) (rowA (stepR T (stepR T R))))
        clear hB2 hB2'
        refine wpAny_ready (rs := [4]) (by kernel_rfl) (by simp) (AllReady.cons rfl (fun K4 hK4 => step_storeA rfl 150 (.tmp 3) (.tmp 12) rfl w.heap.size (rowA (stepR T R)) rfl rfl 150 (rowA R) HQ0.out (HS.out _) (by rw [rowA_size, rowA_size]) (rowA_all _) (hK4 _ _ ?_)) AllReady.nil)
        refine wpAny_ready (rs := [5]) (by kernel_rfl) (by simp) (AllReady.cons rfl (fun K5 hK5 => step_storeA rfl 150 (.tmp 5) (.tmp 15) rfl KN (rowA (stepR T (stepR T R))) rfl rfl 150 (rowA (stepR T R)) HXN.out (HS.out _) (by rw [rowA_size, rowA_size]) (rowA_all _) (hK5 _ _ ?_)) AllReady.nil)
        refine wpAny_done (by kernel_rfl) ?_ _
        go_simp
        go_wp2
        go_roundg (40 - (upK (stepR T R) 40).length)
        case measure => omega
        case rel => exact ⟨stepR T R, rfl, HON.out, HBY.out, HY0.out, HY1.out, HYN.out⟩
      · refine wpAny_ready (rs := [0, 3]) (by kernel_rfl) (by simp) (AllReady.cons rfl (fun K2 hK2 => step_loadA rfl 150 (.tmp 5) rfl KN 0 rfl (rowA (stepR T R)) 40 4 Tryd.underlying150 (HS.out _) HRD.out.rowCells (hK2 _ _ ?_)) (AllReady.cons rfl (fun K3 hK3 => ?_) AllReady.nil))
        · refine wpAny_ready (rs := [3]) (by kernel_rfl) (by simp) (AllReady.cons rfl (fun K3 hK3 => ?_) AllReady.nil)
          go_simp
          refine HCALL.out.mono ?_
          rintro e w2 ⟨rfl, hB2⟩
          refine hK3 _ _ ?_
          have hB2' : Below wr.heap.size wr w2 := HD.out.trans (hB2.mono HD.out.size)
          have HQ0 := Lib.hid (HR0.out.below hB2' HR0.out.lt)
          have HQ1 := Lib.hid (HR1.out.below hB2' HR1.out.lt)
          have HQN := Lib.hid (HRN.out.below hB2' HRN.out.lt)
          have HBQ := Lib.hid (HB.out.trans (hB2'.mono hws))
          have HX0 := Lib.hid (HQ0.out.setRow (rowA (stepR T R)))
          have HX1 := Lib.hid (HQ1.out.setRow_far (k := w.heap.size) (by omega) (rowA (stepR T R)))
          have HXN := Lib.hid (HQN.out.setRow_far (k := w.heap.size) (by omega) (rowA (stepR T R)))
          have HY0 := Lib.hid (HX0.out.setRow_far (k := KN) (by omega) (rowA (stepR T (stepR T R))))
          have HY1 := Lib.hid (HX1.out.setRow_far (k := KN) (by omega) (rowA (stepR T (stepR T R))))
          have HYN := Lib.hid (HXN.out.setRow (rowA (stepR T (stepR T R))))
          have HBY := Lib.hid (below_setRow (below_setRow HBQ.out (Nat.le_refl w.heap.size) (rowA (stepR T R))) (g := KN) (by omega) (rowA (stepR T (stepR T R))))
          clear hB2 hB2'
          refine wpAny_ready (rs := [4]) (by kernel_rfl) (by simp) (AllReady.cons rfl (fun K4 hK4 => step_storeA rfl 150 (.tmp 3) (.tmp 12) rfl w.heap.size (rowA (stepR T R)) rfl rfl 150 (rowA R) HQ0.out (HS.out _) (by rw [rowA_size, rowA_size]) (rowA_all _) (hK4 _ _ ?_)) AllReady.nil)
          refine wpAny_ready (rs := [5]) (by kernel_rfl) (by simp) (AllReady.cons rfl (fun K5 hK5 => step_storeA rfl 150 (.tmp 5) (.tmp 15) rfl KN (rowA (stepR T (stepR T R))) rfl rfl 150 (rowA (stepR T R)) HXN.out (HS.out _) (by rw [rowA_size, rowA_size]) (rowA_all _) (hK5 _ _ ?_)) AllReady.nil)
          refine wpAny_done (by kernel_rfl) ?_ _
          go_simp
          go_wp2
          go_roundg (40 - (upK (stepR T R) 40).length)
          case measure => omega
          case rel => exact ⟨stepR T R, rfl, HON.out, HBY.out, HY0.out, HY1.out, HYN.out⟩
        · go_simp
          refine HCALL.out.mono ?_
          rintro e w2 ⟨rfl, hB2⟩
          refine hK3 _ _ ?_
          have hB2' : Below wr.heap.size wr w2 := HD.out.trans (hB2.mono HD.out.size)
          have HQ0 := Lib.hid (HR0.out.below hB2' HR0.out.lt)
          have HQ1 := Lib.hid (HR1.out.below hB2' HR1.out.lt)
          have HQN := Lib.hid (HRN.out.below hB2' HRN.out.lt)
          have HBQ := Lib.hid (HB.out.trans (hB2'.mono hws))
          have HX0 := Lib.hid (HQ0.out.setRow (rowA (stepR T R)))
          have HX1 := Lib.hid (HQ1.out.setRow_far (k := w.heap.size) (by omega) (rowA (stepR T R)))
          have HXN := Lib.hid (HQN.out.setRow_far (k := w.heap.size) (by omega) (rowA (stepR T R)))
          have HY0 := Lib.hid (HX0.out.setRow_far (k := KN) (by omega) (rowA (stepR T (stepR T R))))
          have HY1 := Lib.hid (HX1.out.setRow_far (k := KN) (by omega) (rowA (stepR T (stepR T R))))
          have HYN := Lib.hid (HXN.out.setRow (rowA (stepR T (stepR T R))))
          have HBY := Lib.hid (below_setRow (below_setRow HBQ.out (Nat.le_refl w.heap.size) (rowA (stepR T R))) (g := KN) (by omega) (rowA (stepR T (stepR T R))))
          clear hB2 hB2'
          refine wpAny_ready (rs := [0]) (by kernel_rfl) (by simp) (AllReady.cons rfl (fun K2 hK2 => step_loadA rfl 150 (.tmp 5) rfl KN 0 rfl (rowA (stepR T R)) 40 4 Tryd.underlying150 (HS.out _) HQN.out.rowCells (hK2 _ _ ?_)) AllReady.nil)
          refine wpAny_ready (rs := [4]) (by kernel_rfl) (by simp) (AllReady.cons rfl (fun K4 hK4 => step_storeA rfl 150 (.tmp 3) (.tmp 12) rfl w.heap.size (rowA (stepR T R)) rfl rfl 150 (rowA R) HQ0.out (HS.out _) (by rw [rowA_size, rowA_size]) (rowA_all _) (hK4 _ _ ?_)) AllReady.nil)
          refine wpAny_ready (rs := [5]) (by kernel_rfl) (by simp) (AllReady.cons rfl (fun K5 hK5 => step_storeA rfl 150 (.tmp 5) (.tmp 15) rfl KN (rowA (stepR T (stepR T R))) rfl rfl 150 (rowA (stepR T R)) HXN.out (HS.out _) (by rw [rowA_size, rowA_size]) (rowA_all _) (hK5 _ _ ?_)) AllReady.nil)
          refine wpAny_done (by kernel_rfl) ?_ _
          go_simp
          go_wp2
          go_roundg (40 - (upK (stepR T R) 40).length)
          case measure => omega
          case rel => exact ⟨stepR T R, rfl, HON.out, HBY.out, HY0.out, HY1.out, HYN.out⟩
    · rename_i he
      have heq : rowA (stepR T R) = rowA R := bP_is (by simpa using he)
      have HU := Lib.hid (HO.out.end_ HFT.out heq)
      clear he heq
      have HX1 := Lib.hid (HR1.out.setRow (rowA R))
      have HBX := Lib.hid (below_setRow HB.out (Nat.le_succ w.heap.size) (rowA R))
      refine bodyPost_ret (v := .agg (rowA R)) ?_ rfl ⟨R, rfl, HO.out.fit, HU.out, HBX.out⟩
      exact results_cell_row Tryd.results134 _ _ (w.heap.size + 1) 150 (rowA R) (0, 0) _ rfl HX1.out Tryd.underlying150 rfl (HS.out _)


set_option maxRecDepth 20000 in
set_option maxHeartbeats 1000000 in
theorem unitRow_anyO (K off : Nat) (D : Int → Int → Prop) (m : Nat) (x : Int) (w : World) (hT : TabO w K off (tabF D)) (hfT : ∀ x, Fit40 (tabF D x)) (hm : m < 44) (hmx : 4 + x = (m : Int)) :
    Calls Tryd.prog 130 #[.pointer (some ⟨K, off, none⟩), .int .i64 x] w fun e w' => ∃ S, e = .returned (.agg (rowA S)) ∧ Fit40 S ∧ IsUp D (rowOf D x) S ∧ Below w.heap.size w w' := by
  have HZ := Lib.hid info_row
  have HS := Lib.hid size_row
  have HT := Lib.hid hT; clear hT
  have HFT := Lib.hid hfT; clear hfT
  have HB0 : Hid (Below w.heap.size w (w.alloc (.cells (rowA noS) 150))) := by show Below _ _ _; go_grown
  have HR0 : Hid (Row (w.alloc (.cells (rowA noS) 150)) w.heap.size 150 (rowA noS)) := Row.new _ _ _
  go_enter Tryd.func130, Tryd.ntmps130
  by_cases hneg : x < 0
  · have HE : Hid (tabF D x = rowOf D x) := by
      show _ = _
      funext l
      exact bP_congr (by rw [if_pos hneg])
    go_wp2_with (with_reducible refine wpList_allocA rfl 150 rfl (rowA noS) 40 HZ.out ?_)
    generalize w.alloc (.cells (rowA noS) 150) = W at HB0 HR0 ⊢
    refine (of_anyO K off m x W hm hmx).mono ?_
    rintro e w1 ⟨rfl, rfl⟩
    have HTC : Hid (∀ (j : Nat) (v : Value), (rowA (tabF D x))[j]? = some v → w1.cell? ⟨K, off + m * 40 + j, none⟩ = some v) := (HT.out.keep HB0.out HT.out.1).2 m x hm hmx
    go_wp2_with (first
      | with_reducible refine wpList_loadA rfl 150 (.tmp 11) rfl K (off + m * 40) rfl (rowA (tabF D x)) 40 4 Tryd.underlying150 (HS.out _) HTC.out ?_)
    refine (closed_anyO K off (tabF D) (tabF D x) w1 (HT.out.keep HB0.out HT.out.1) HFT.out (HFT.out x)).mono ?_
    rintro e w2 ⟨S, rfl, hfS, hU, hB2⟩
    rw [DT6_tab, HE.out] at hU
    have hs := HB0.out.size
    have HR2 := Lib.hid (HR0.out.below hB2 HR0.out.lt)
    have HB2 := Lib.hid (HB0.out.trans (hB2.mono hs))
    have HR3 := Lib.hid (HR2.out.setRow (rowA S))
    have HB3 := Lib.hid (below_setRow HB2.out (Nat.le_refl w.heap.size) (rowA S))
    have HU := Lib.hid hU
    have HFS := Lib.hid hfS
    clear hU hB2 HTC hfS
    go_wp2_with (first
      | with_reducible refine wpList_storeA rfl 150 (.tmp 4) (.tmp 13) rfl w.heap.size (rowA S) rfl rfl 150 (rowA noS) HR2.out (HS.out _) (by rw [rowA_size, rowA_size]) (rowA_all _) ?_)
    refine bodyPost_ret (v := .agg (rowA S)) ?_ rfl ⟨S, rfl, HFS.out, HU.out, HB3.out⟩
    exact results_cell_row Tryd.results130 _ _ w.heap.size 150 (rowA S) (0, 0) _ rfl HR3.out Tryd.underlying150 rfl (HS.out _)
  · have HE : Hid ((fun y => [x].contains y) = rowOf D x) := by
      show _ = _
      funext l
      unfold rowOf
      rw [if_neg hneg]
      cases hb : bP (l = x)
      · have := bP_no hb
        simp [this]
      · have := bP_is hb
        simp [this]
    have HBI : Hid (Below w.heap.size w ((w.alloc (.cells (rowA noS) 150)).alloc (.cells #[.int .i64 x] 3))) := by show Below _ _ _; go_grown
    have HRI : Hid (Row ((w.alloc (.cells (rowA noS) 150)).alloc (.cells #[.int .i64 x] 3)) w.heap.size 150 (rowA noS)) := HR0.out.alloc _
    have HII : Hid (Ints ((w.alloc (.cells (rowA noS) 150)).alloc (.cells #[.int .i64 x] 3)) ((w.alloc (.cells (rowA noS) 150)).alloc (.cells #[.int .i64 x] 3)).heap.size (some ⟨w.heap.size + 1, 0, none⟩) [x]) := by
      have h := ints_oneU (w.alloc (.cells (rowA noS) 150)) x ((w.alloc (.cells (rowA noS) 150)).alloc (.cells #[.int .i64 x] 3)).heap.size (by simp)
      simp only [World.size_alloc] at h ⊢
      exact h
    go_wp2_with (with_reducible refine wpList_allocA rfl 150 rfl (rowA noS) 40 HZ.out ?_)
    generalize (w.alloc (.cells (rowA noS) 150)).alloc (.cells #[.int .i64 x] 3) = W at HBI HRI HII ⊢
    refine (rowWith_any (some ⟨w.heap.size + 1, 0, none⟩) 1 [x] W HII.out (by simp; omega) (by simp)).mono ?_
    rintro e w1 ⟨rfl, hB1⟩
    have hs := HBI.out.size
    have HB1 := Lib.hid (HBI.out.trans (hB1.mono hs))
    have HR1 := Lib.hid (HRI.out.below hB1 HRI.out.lt)
    rw [HE.out]
    clear hB1 HII HB0 HR0
    go_wp2_with fail
    refine (closed_anyO K off (tabF D) (rowOf D x) w1 (HT.out.keep HB1.out HT.out.1) HFT.out (fun l hl => by
      have h := bP_is hl
      rw [if_neg (by omega)] at h
      omega)).mono ?_
    rintro e w2 ⟨S, rfl, hfS, hU, hB2⟩
    rw [DT6_tab] at hU
    have hs1 := HB1.out.size
    have HR2 := Lib.hid (HR1.out.below hB2 HR1.out.lt)
    have HB2 := Lib.hid (HB1.out.trans (hB2.mono hs1))
    have HR3 := Lib.hid (HR2.out.setRow (rowA S))
    have HB3 := Lib.hid (below_setRow HB2.out (Nat.le_refl w.heap.size) (rowA S))
    have HU := Lib.hid hU
    have HFS := Lib.hid hfS
    clear hU hB2 hfS
    go_wp2_with (first
      | with_reducible refine wpList_storeA rfl 150 (.tmp 4) (.tmp 18) rfl w.heap.size (rowA S) rfl rfl 150 (rowA noS) HR2.out (HS.out _) (by rw [rowA_size, rowA_size]) (rowA_all _) ?_)
    refine bodyPost_ret (v := .agg (rowA S)) ?_ rfl ⟨S, rfl, HFS.out, HU.out, HB3.out⟩
    exact results_cell_row Tryd.results130 _ _ w.heap.size 150 (rowA S) (0, 0) _ rfl HR3.out Tryd.underlying150 rfl (HS.out _)


end Go.Proofs.YtfbpcdmpkbjifaaDoor

/- The program's goodTokens; symbolSet's put and has. -/

namespace Go.Proofs.YtfbpcdmpkbjifaaDoor
open Go.RowKit

theorem tokW_step {t : Int} {ws : List Int} (hl : ws.length ≤ 10) (h : ∀ (j : Nat) (x : Int), j < ws.length → ws[j]? = some x → nonB t x = true) : TokW t ws := ⟨hl, fun v hv => by
  obtain ⟨j, hj⟩ := List.mem_iff_getElem?.1 hv
  exact nonB_is (h j v (List.getElem?_eq_some_iff.1 hj).1 hj)⟩

set_option maxRecDepth 20000 in
set_option maxHeartbeats 600000 in
theorem goodTokens_any (n t : Int) (A : Option Addr) (ws : List Int) (c : Nat) (w : World) (hw : Ints w w.heap.size A ws) (hwl : ws.length ≤ 1048576) (hL : Lims w) :
    Calls Tryd.prog 126 #[.agg #[.int .i64 n, .int .i64 t, .slice none 0 0], .slice A ws.length c] w fun e w' => e = .returned (.bool (bP (TokW t ws))) ∧ Below w.heap.size w w' := by
  have HW := Lib.hid hw; clear hw
  have HL := Lib.hid hL; clear hL
  have HB0 : Hid (Below w.heap.size w (w.alloc (.cells #[.int .i64 n, .int .i64 t, .slice none 0 0] 147))) := by show Below _ _ _; go_grown
  have HR0 : Hid (Row (w.alloc (.cells #[.int .i64 n, .int .i64 t, .slice none 0 0] 147)) w.heap.size 147 #[.int .i64 n, .int .i64 t, .slice none 0 0]) := Row.new _ _ _
  go_enter Tryd.func126, Tryd.ntmps126
  go_wp2_with fail
  generalize (w.alloc (.cells #[.int .i64 n, .int .i64 t, .slice none 0 0] 147)) = W at HB0 HR0 ⊢
  have hs0 := HB0.out.size
  refine (within4 ws.length W (HL.out.keep HB0.out (Nat.le_refl _))).mono ?_
  rintro e w1 ⟨rfl, hB1⟩
  have HR1 := Lib.hid (HR0.out.below hB1 HR0.out.lt)
  have HB1 := Lib.hid (HB0.out.trans (hB1.mono hs0)); clear hB1 HB0 HR0 hs0
  cases hn : inB 0 10 (ws.length : Int)
  · have HE : Hid (bP (TokW t ws) = false) := bP_f fun h => by have := inB_no hn; have := h.1; omega
    clear hn
    go_wp2
    go_ret
    exact ⟨ret_bool HE.out.symm, HB1.out⟩
  have hl10 : ws.length ≤ 10 := by have := inB_hi hn; omega
  clear hn
  go_wp2
  go_loopw [13] (fun i wr => ∃ (k : Nat), k ≤ ws.length ∧ i = .int .i64 k ∧ Hid (Below w.heap.size w wr) ∧ Hid (Row wr w.heap.size 147 #[.int .i64 n, .int .i64 t, .slice none 0 0]) ∧ Hid (∀ (j : Nat) (x : Int), j < k → ws[j]? = some x → nonB t x = true)) (fun i _ => ws.length - (intOf i).toNat)
  case atStart => exact ⟨0, by omega, rfl, HB1.out, HR1.out, fun j x h => absurd h (by omega)⟩
  case round =>
    clear HB1 HR1
    obtain ⟨k, hk, rfl, HB, HR, H⟩ := hrel
    by_cases hlt : k < ws.length
    · have hws := HB.out.size
      obtain ⟨p, o, rfl, _, c1⟩ := ((HW.out.keep HB.out).more hws).at_ hlt
      have d0 := HR.out.cell 0
      have d1 := HR.out.cell 1
      have d2 := HR.out.cell 2
      simp only [List.getElem?_toArray, List.getElem?_cons_succ, List.getElem?_cons_zero] at d0 d1 d2
      have hlw := HR.out.lt
      cases hq : nonB t ws[k]
      · have HE : Hid (bP (TokW t ws) = false) := bP_f fun h => by
          have h1 := h.2 _ (List.getElem_mem hlt)
          have := nonB_no hq
          omega
        have HC := Lib.hid (isToken_any n t ws[k] (.slice none 0 0) wr)
        rw [hq] at HC
        clear hq
        generalize ws[k] = y at c1 HC
        go_wp2_with fail
        refine HC.out.mono ?_
        rintro e w2 ⟨rfl, hB2⟩
        have HB2 := Lib.hid (HB.out.trans (hB2.mono hws)); clear hB2
        go_wp2
        go_ret
        exact ⟨ret_bool HE.out.symm, HB2.out⟩
      · have HE := Lib.hid (upto_step (Q := fun x => nonB t x = true) hlt hq H.out)
        have HC := Lib.hid (isToken_any n t ws[k] (.slice none 0 0) wr)
        rw [hq] at HC
        clear hq
        generalize ws[k] = y at c1 HC
        go_wp2_with fail
        refine HC.out.mono ?_
        rintro e w2 ⟨rfl, hB2⟩
        have HR2 := Lib.hid (HR.out.below hB2 HR.out.lt)
        have HB2 := Lib.hid (HB.out.trans (hB2.mono hws)); clear hB2
        go_wp2
        go_roundw
        case rel => exact ⟨k + 1, by omega, by go_num, HB2.out, HR2.out, HE.out⟩
        case measure => simp [intOf]; omega
    · obtain rfl : k = ws.length := by omega
      have HE : Hid (bP (TokW t ws) = true) := bP_t (tokW_step hl10 H.out)
      go_wp2
      go_ret
      exact ⟨ret_bool HE.out.symm, HB.out⟩

/-- A set of symbols as an array. -/
def setA (S : Int → Bool) : Array Value := ((List.range 44).map fun (k : Nat) => Value.bool (S ((k : Int) - 4))).toArray
theorem setA_size (S : Int → Bool) : (setA S).size = 44 := by simp [setA]
theorem setA_at (S : Int → Bool) {k : Nat} (h : k < 44) : (setA S)[k]? = some (.bool (S ((k : Int) - 4))) := by simp [setA, h]
theorem setA_none (S : Int → Bool) {k : Nat} (h : ¬ k < 44) : (setA S)[k]? = none := by simp [setA]; omega
theorem setA_all (S : Int → Bool) : (setA S).all (·.oneCell') = true := by simp [setA, Value.oneCell']
theorem setA_ext {S T : Int → Bool} (h : ∀ k : Nat, k < 44 → S ((k : Int) - 4) = T ((k : Int) - 4)) : setA S = setA T := by
  apply Array.ext_getElem?
  intro k
  by_cases hk : k < 44
  · rw [setA_at _ hk, setA_at _ hk, h k hk]
  · rw [setA_none _ hk, setA_none _ hk]
theorem setA_set (S : Int → Bool) {k : Nat} (h : k < 44) : (setA S).setIfInBounds k (.bool true) = setA fun x => if x = (k : Int) - 4 then true else S x := by
  apply Array.ext_getElem?
  intro i
  by_cases hi : i < 44
  · rw [setA_at _ hi, Array.getElem?_setIfInBounds]
    by_cases e : k = i
    · subst e
      rw [if_pos rfl, if_pos (by rw [setA_size]; exact h), if_pos rfl]
    · rw [if_neg e, setA_at _ hi, if_neg (by omega)]
  · rw [setA_none _ hi]
    exact Array.getElem?_eq_none (by rw [Array.size_setIfInBounds, setA_size]; omega)
theorem info_set : (Tryd.prog.info? 185).map (fun i => (i.zero, i.size)) = some (some (.agg (setA noS)), 44) := by kernel_rfl
theorem size_set (S : Int → Bool) : (Tryd.prog.info? 185).map (·.size) = some (setA S).size := by rw [setA_size]; kernel_rfl

set_option maxHeartbeats 400000 in
theorem setPut_any (G m : Nat) (x : Int) (S : Int → Bool) (w : World) (hR : Row w G 185 (setA S)) (hm : m < 44) (hx : 4 + x = (m : Int)) :
    Calls Tryd.prog 175 #[.pointer (some ⟨G, 0, none⟩), .int .i64 x] w fun e w' => e = .returned (.tuple #[]) ∧ w' = w.setCell ⟨G, m, none⟩ (.bool true) := by
  obtain rfl : x = (m : Int) - 4 := by omega
  clear hx
  have c := hR.cell m
  rw [setA_at _ hm] at c
  have f := hR.frozen m
  have h1 : 4 + ((m : Int) - 4) = (m : Int) := by omega
  go_enter Tryd.func175, Tryd.ntmps175
  go_wp2
  go_end0
  exact ⟨rfl, rfl⟩

set_option maxHeartbeats 400000 in
theorem setHas_any (G m : Nat) (x : Int) (S : Int → Bool) (w : World) (hR : Row w G 185 (setA S)) (hm : m < 44) (hx : 4 + x = (m : Int)) :
    Calls Tryd.prog 157 #[.pointer (some ⟨G, 0, none⟩), .int .i64 x] w fun e w' => e = .returned (.bool (S x)) ∧ w' = w := by
  obtain rfl : x = (m : Int) - 4 := by omega
  clear hx
  have c := hR.cell m
  rw [setA_at _ hm] at c
  have h1 : 4 + ((m : Int) - 4) = (m : Int) := by omega
  go_enter Tryd.func157, Tryd.ntmps157
  go_wp2
  go_ret
  exact ⟨rfl, rfl⟩

end Go.Proofs.YtfbpcdmpkbjifaaDoor

/- The program's filler in memory; symbolsIn. -/

namespace Go.Proofs.YtfbpcdmpkbjifaaDoor
open Go.RowKit

/-- The filler: the pairs, the table, the word. -/
def FilC (w : World) (F : Nat) (b : Bi) (T : Int → Int → Bool) (Aw : Option Addr) (k cw : Nat) : Prop :=
  w.cell? ⟨F, 0, none⟩ = some (.slice b.Ap b.P.length b.cp) ∧ TabO w F 1 T ∧ w.cell? ⟨F, 1761, none⟩ = some (.slice Aw k cw)
theorem FilC.keep {w w' : World} {F B : Nat} {b : Bi} {T : Int → Int → Bool} {Aw : Option Addr} {k cw : Nat} (h : FilC w F b T Aw k cw) (hb : Below B w w') (hF : F < B) : FilC w' F b T Aw k cw :=
  ⟨(hb.cell (p := ⟨F, 0, none⟩) hF).trans h.1, h.2.1.keep hb hF, (hb.cell (p := ⟨F, 1761, none⟩) hF).trans h.2.2⟩
theorem Row.setCells {w : World} {g : Nat} {t : TypeId} {S : Int → Bool} (h : Row w g t (setA S)) : ∀ (j : Nat) (v : Value), (setA S)[j]? = some v → w.cell? ⟨g, 0 + j, none⟩ = some v := fun j v hj => by rw [Nat.zero_add, h.cell]; exact hj

theorem setK_step {xs : List Int} {k m : Nat} (hk : k < xs.length) (hm : xs[k] = (m : Int)) : (setA fun x => if x = ((m + 4 : Nat) : Int) - 4 then true else inK xs k x) = setA (inK xs (k + 1)) := by
  rw [← inK_step hk hm]
  congr 1
  funext x
  rw [show ((m + 4 : Nat) : Int) - 4 = (m : Int) by omega]
theorem setA_has {ws : List Int} {cs : List (List Int)} {f t y : Int} {xs : List Int} (hx : atC cs ws.length f t = xs) (h0 : ∀ x ∈ xs, 0 ≤ x) (hy : ws.getD f.toNat 0 = y) (hy0 : 0 ≤ y) (ht : t = f + 1) {m : Nat} (hm : 4 + (-1 - y) = (m : Int)) :
    (setA fun x => if x = (m : Int) - 4 then true else xs.contains x) = setA fun x => hasB ws cs x f t := by
  refine setA_ext fun k hk => ?_
  show (if (k : Int) - 4 = (m : Int) - 4 then true else xs.contains ((k : Int) - 4)) = hasB ws cs ((k : Int) - 4) f t
  by_cases hn : (k : Int) - 4 < 0
  · rw [hasB_neg hn, hy]
    by_cases e : (k : Int) - 4 = (m : Int) - 4
    · rw [if_pos e]
      have h1 : y = -1 - ((k : Int) - 4) := by omega
      rw [decide_eq_true ht, decide_eq_true h1]; rfl
    · rw [if_neg e]
      have h1 : ¬ y = -1 - ((k : Int) - 4) := by omega
      rw [decide_eq_false h1, Bool.and_false]
      cases hc : xs.contains ((k : Int) - 4)
      · rfl
      · have := h0 _ (List.contains_iff_mem.1 hc); omega
  · rw [hasB_pos hn, hx, if_neg (by omega)]
theorem setA_has0 {ws : List Int} {cs : List (List Int)} {f t : Int} {xs : List Int} (hx : atC cs ws.length f t = xs) (h0 : ∀ x ∈ xs, 0 ≤ x) (ht : ¬ t = f + 1) :
    (setA fun x => xs.contains x) = setA fun x => hasB ws cs x f t := by
  refine setA_ext fun k hk => ?_
  show xs.contains ((k : Int) - 4) = hasB ws cs ((k : Int) - 4) f t
  by_cases hn : (k : Int) - 4 < 0
  · rw [hasB_neg hn, decide_eq_false ht, Bool.false_and]
    cases hc : xs.contains ((k : Int) - 4)
    · rfl
    · have := h0 _ (List.contains_iff_mem.1 hc); omega
  · rw [hasB_pos hn, hx]

set_option maxRecDepth 20000 in
set_option maxHeartbeats 1000000 in
theorem symbolsIn_any (F : Nat) (b : Bi) (T : Int → Int → Bool) (n f t : Int) (A Aw : Option Addr) (ls : List Li) (ws : List Int) (c cw : Nat) (w : World) (hF : FilC w F b T Aw ws.length cw) (hn : n = ws.length) (hx : Lls w w.heap.size A ls) (hg : GoodC n (sayL ls)) (hw : Ints w w.heap.size Aw ws) (hT : TokW 4 ws) (hs : spanB n f t = true) :
    Calls Tryd.prog 156 #[.pointer (some ⟨F, 0, none⟩), .agg #[.int .i64 n, .slice A ls.length c], .int .i64 f, .int .i64 t] w fun e w' => e = .returned (.agg (setA fun x => hasB ws (sayL ls) x f t)) ∧ Below w.heap.size w w' := by
  have HZ := Lib.hid info_set
  have HS := Lib.hid size_set
  have HF := Lib.hid hF; clear hF
  have HX := Lib.hid hx; clear hx
  have HW := Lib.hid hw; clear hw
  have HT := Lib.hid hT; clear hT
  have HN := Lib.hid hn; clear hn
  have hsp := spanB_is hs
  have hFl := HF.out.2.1.1
  obtain ⟨fk, rfl⟩ := Int.eq_ofNat_of_zero_le hsp.2.1
  have HB0 : Hid (Below w.heap.size w (((w.alloc (.cells #[.int .i64 n, .slice A ls.length c] 57)).alloc (.cells (setA noS) 185)).alloc (.cells (setA noS) 185))) := ((((Below.refl w.heap.size w).alloc (Nat.le_refl _) _).alloc (by rw [World.size_alloc]; omega) _).alloc (by rw [World.size_alloc, World.size_alloc]; omega) _)
  have HR0 : Hid (Row (((w.alloc (.cells #[.int .i64 n, .slice A ls.length c] 57)).alloc (.cells (setA noS) 185)).alloc (.cells (setA noS) 185)) w.heap.size 57 #[.int .i64 n, .slice A ls.length c]) := ((Row.new _ _ _).alloc _).alloc _
  have HR1 : Hid (Row (((w.alloc (.cells #[.int .i64 n, .slice A ls.length c] 57)).alloc (.cells (setA noS) 185)).alloc (.cells (setA noS) 185)) (w.heap.size + 1) 185 (setA noS)) := by
    have h := Row.new (w.alloc (.cells #[.int .i64 n, .slice A ls.length c] 57)) 185 (setA noS)
    rw [World.size_alloc] at h
    exact h.alloc _
  have HR2 : Hid (Row (((w.alloc (.cells #[.int .i64 n, .slice A ls.length c] 57)).alloc (.cells (setA noS) 185)).alloc (.cells (setA noS) 185)) (w.heap.size + 2) 185 (setA noS)) := by
    have h := Row.new ((w.alloc (.cells #[.int .i64 n, .slice A ls.length c] 57)).alloc (.cells (setA noS) 185)) 185 (setA noS)
    rw [World.size_alloc, World.size_alloc] at h
    exact h
  go_enter Tryd.func156, Tryd.ntmps156
  go_wp2_with (with_reducible refine wpList_allocA rfl 185 rfl (setA noS) 44 HZ.out ?_)
  generalize (((w.alloc (.cells #[.int .i64 n, .slice A ls.length c] 57)).alloc (.cells (setA noS) 185)).alloc (.cells (setA noS) 185)) = W at HB0 HR0 HR1 HR2 ⊢
  have hs0 := HB0.out.size
  obtain ⟨k, bb, o, a, cc, hk, hkl, eA, hb, c1w, c2, c3⟩ := cell_at HX.out hg hs
  have c1 := (HB0.out.cell (p := ⟨bb, o + k, none⟩) hb).trans c1w
  clear c1w
  have hG := atC_good hg hs
  have hul := goodE40_len hG
  have H40 : Hid (∀ x ∈ atC (sayL ls) n fk t, 0 ≤ x ∧ x < 40) := fun y hy => by
    obtain ⟨k, hk⟩ := List.mem_iff_getElem?.1 hy
    exact nonB_is (hG.1 k y (List.getElem?_eq_some_iff.1 hk).1 hk)
  have HI := Lib.hid c3
  have HAT : Hid (atC (sayL ls) ws.length fk t = atC (sayL ls) n fk t) := by show _ = _; rw [HN.out]
  generalize atC (sayL ls) n fk t = xs at c1 c2 HI hul H40 HAT
  subst eA
  have HNO := Lib.hid (fun w => cellNo_any n fk t w hs)
  rw [hk] at HNO
  have d0 := HR0.out.cell 0
  have d1 := HR0.out.cell 1
  simp only [List.getElem?_toArray, List.getElem?_cons_succ, List.getElem?_cons_zero] at d0 d1
  clear hg hs c3 c2 hG
  have HDR : Hid (Below W.heap.size W W.drew) := by show Below _ _ _; go_grown
  have x0 : W.drew.cell? ⟨w.heap.size, 0, none⟩ = some (.int .i64 n) ∧ W.drew.cell? ⟨w.heap.size, 1, none⟩ = some (.slice (some ⟨bb, o, none⟩) ls.length c) ∧ W.drew.cell? ⟨bb, o + k, none⟩ = some (.slice a xs.length cc) := ⟨d0, d1, c1⟩
  go_region_held3 (fun w' => w'.cell? ⟨w.heap.size, 0, none⟩ = some (.int .i64 n) ∧ w'.cell? ⟨w.heap.size, 1, none⟩ = some (.slice (some ⟨bb, o, none⟩) ls.length c) ∧ w'.cell? ⟨bb, o + k, none⟩ = some (.slice a xs.length cc))
    (first | exact x0)
    (first
    | (go_at_call 100
       with_reducible refine (HNO.out _).mono ?_
       rintro e w3 ⟨rfl, hw3⟩
       have hw3' := hw3.symm
       subst hw3'
       clear hw3)
    | fail)
  all_goals
    clear d0 d1 c1 x0 HNO HR0
    have HRD1 : Hid (Row W.drew (w.heap.size + 1) 185 (setA noS)) := HR1.out.below HDR.out HR1.out.lt
    have HRD2 : Hid (Row W.drew (w.heap.size + 2) 185 (setA (inK xs 0))) := by rw [inK_zero]; exact HR2.out.below HDR.out HR2.out.lt
    have HBD : Hid (Below w.heap.size w W.drew) := HB0.out.trans (HDR.out.mono hs0)
    clear HR1 HR2 HDR
    generalize W.drew = V at HRD1 HRD2 HBD ⊢
    go_wp2
    go_loopw [22] (fun i wr => ∃ (k : Nat), k ≤ xs.length ∧ i = .int .i64 k ∧ Hid (Below w.heap.size w wr) ∧ Hid (Row wr (w.heap.size + 1) 185 (setA noS)) ∧ Hid (Row wr (w.heap.size + 2) 185 (setA (inK xs k)))) (fun i _ => xs.length - (intOf i).toNat)
    case atStart => exact ⟨0, by omega, rfl, HBD.out, HRD1.out, HRD2.out⟩
    case round =>
      clear HRD1 HRD2 HBD
      obtain ⟨k, hk, rfl, HB, HR1, HR2⟩ := hrel
      have hws := HB.out.size
      by_cases hlt : k < xs.length
      · obtain ⟨p, q, rfl, _, cx⟩ := (HI.out.keep HB.out).at_ hlt
        obtain ⟨m, hm, hme⟩ : ∃ m : Nat, m < 40 ∧ xs[k] = (m : Int) := by
          have h := H40.out xs[k] (List.getElem_mem hlt)
          exact ⟨xs[k].toNat, by omega, by omega⟩
        have HST := Lib.hid (setK_step hlt hme)
        rw [hme] at cx
        clear hme
        have HPC := Lib.hid (setPut_any (w.heap.size + 2) (m + 4) (m : Int) (inK xs k) wr HR2.out (by omega) (by omega))
        have HR1' := Lib.hid (HR1.out.far (p := ⟨w.heap.size + 2, m + 4, none⟩) (by simp) (.bool true))
        have HR2' : Hid (Row (wr.setCell ⟨w.heap.size + 2, m + 4, none⟩ (.bool true)) (w.heap.size + 2) 185 (setA (inK xs (k + 1)))) := by
          have h := HR2.out.set (m + 4) (.bool true)
          rw [setA_set _ (by omega), HST.out] at h
          exact h
        have HB' : Hid (Below w.heap.size w (wr.setCell ⟨w.heap.size + 2, m + 4, none⟩ (.bool true))) := HB.out.setCell (by simp) _
        clear HR1 HR2 HST HB
        go_wp2_with fail
        refine HPC.out.mono ?_
        rintro e w2 ⟨rfl, rfl⟩
        go_wp2
        go_roundw
        case rel => exact ⟨k + 1, by omega, by go_num, HB'.out, HR1'.out, HR2'.out⟩
        case measure => simp [intOf]; omega
      · obtain rfl : k = xs.length := by omega
        have HE : Hid (inK xs xs.length = fun x => xs.contains x) := by show _ = _; funext x; simp [inK]
        rw [HE.out] at HR2
        clear HE
        have H0 : Hid (∀ x ∈ xs, 0 ≤ x) := fun x hx => (H40.out x hx).1
        by_cases ht : t = (fk : Int) + 1
        · have hwl : fk < ws.length := by have := HN.out; omega
          obtain ⟨p, q, rfl, _, cx⟩ := (HW.out.keep HB.out).at_ hwl
          have hgd : ws.getD ((fk : Int)).toNat 0 = ws[fk] := by rw [Int.toNat_natCast, List.getD_eq_getElem?_getD, List.getElem?_eq_getElem hwl]; rfl
          have hv := HT.out.2 _ (List.getElem_mem hwl)
          have cw1 := (HB.out.cell (p := ⟨F, 1761, none⟩) hFl).trans HF.out.2.2
          obtain ⟨m, hm, hme⟩ : ∃ m : Nat, m < 44 ∧ 4 + (-1 - ws[fk]) = (m : Int) := ⟨(3 - ws[fk]).toNat, by omega, by omega⟩
          have HST := Lib.hid (setA_has (cs := sayL ls) HAT.out H0.out hgd hv.1 ht hme)
          have et : (t - (fk : Int) == 1) = true := beq_t (by omega)
          have HPC := Lib.hid (setPut_any (w.heap.size + 2) m (-1 - ws[fk]) (fun x => xs.contains x) wr HR2.out hm hme)
          have HR1p := Lib.hid (HR1.out.far (p := ⟨w.heap.size + 2, m, none⟩) (by simp) (.bool true))
          have HR2p : Hid (Row (wr.setCell ⟨w.heap.size + 2, m, none⟩ (.bool true)) (w.heap.size + 2) 185 (setA fun x => hasB ws (sayL ls) x fk t)) := by
            have h := HR2.out.set m (.bool true)
            rw [setA_set _ hm, HST.out] at h
            exact h
          have HBp : Hid (Below w.heap.size w (wr.setCell ⟨w.heap.size + 2, m, none⟩ (.bool true))) := HB.out.setCell (by simp) _
          clear hgd ht hme HST HR1 HR2 HB
          generalize ws[fk] = y at cx hv HPC
          generalize hSS : (fun x => hasB ws (sayL ls) x fk t) = S at HR2p ⊢
          go_wp2_with fail
          refine HPC.out.mono ?_
          rintro e w2 ⟨rfl, rfl⟩
          have HR1e := Lib.hid (HR1p.out.setRow (setA S))
          have HBe := Lib.hid (below_setRow HBp.out (Nat.le_succ w.heap.size) (setA S))
          go_wp2_with (first
            | with_reducible refine wpList_loadA rfl 185 (.tmp 9) rfl (w.heap.size + 2) 0 rfl (setA S) 44 4 Tryd.underlying185 (HS.out _) HR2p.out.setCells ?_
            | with_reducible refine wpList_storeA rfl 185 (.tmp 8) (.tmp 42) rfl (w.heap.size + 1) (setA S) rfl rfl 185 (setA noS) HR1p.out (HS.out _) (by rw [setA_size, setA_size]) (setA_all _) ?_)
          refine bodyPost_ret (v := .agg (setA S)) ?_ rfl ⟨by rw [← hSS], HBe.out⟩
          exact results_cell_row Tryd.results156 _ _ (w.heap.size + 1) 185 (setA S) (0, 0) _ rfl HR1e.out Tryd.underlying185 rfl (HS.out _)
        · have HST := Lib.hid (setA_has0 (ws := ws) (cs := sayL ls) HAT.out H0.out ht)
          have et : (t - (fk : Int) == 1) = false := beq_f (by omega)
          have HR1p := HR1
          have HBp := HB
          have HR2p : Hid (Row wr (w.heap.size + 2) 185 (setA fun x => hasB ws (sayL ls) x fk t)) := by
            have h := HR2.out
            rw [HST.out] at h
            exact h
          clear ht HST HR1 HR2 HB
          generalize hSS : (fun x => hasB ws (sayL ls) x fk t) = S at HR2p ⊢
          have HR1e := Lib.hid (HR1p.out.setRow (setA S))
          have HBe := Lib.hid (below_setRow HBp.out (Nat.le_succ w.heap.size) (setA S))
          go_wp2_with (first
            | with_reducible refine wpList_loadA rfl 185 (.tmp 9) rfl (w.heap.size + 2) 0 rfl (setA S) 44 4 Tryd.underlying185 (HS.out _) HR2p.out.setCells ?_
            | with_reducible refine wpList_storeA rfl 185 (.tmp 8) (.tmp 42) rfl (w.heap.size + 1) (setA S) rfl rfl 185 (setA noS) HR1p.out (HS.out _) (by rw [setA_size, setA_size]) (setA_all _) ?_)
          refine bodyPost_ret (v := .agg (setA S)) ?_ rfl ⟨by rw [← hSS], HBe.out⟩
          exact results_cell_row Tryd.results156 _ _ (w.heap.size + 1) 185 (setA S) (0, 0) _ rfl HR1e.out Tryd.underlying185 rfl (HS.out _)

end Go.Proofs.YtfbpcdmpkbjifaaDoor
