/- The program's rows as arrays: of, joined. -/
import Derived.Test.YtfbpcdmpkbjifaaDoorC807
import Derived.Test.YtfbpcdmpkbjifaaDoorC801
import Derived.Test.YtfbpcdmpkbjifaaDoorC806
import Derived.Test.YtfbpcdmpkbjifaaDoorC802
import Derived.Test.YtfbpcdmpkbjifaaDoorC803
import Derived.Deep.RegionHeld3
import Derived.Test.YtfbpcdmpkbjifaaDoorC805
import Derived.Deep.LoopGhost
import Derived.Deep.RegionLaw

namespace Go.Proofs.YtfbpcdmpkbjifaaDoor
open Go.RowKit

set_option maxHeartbeats 400000 in
theorem of_any (K : Nat) (m : Nat) (x : Int) (w : World) (hm : m < 44) (hx : 4 + x = (m : Int)) :
    Calls Tryd.prog 151 #[.pointer (some ⟨K, 0, none⟩), .int .i64 x] w fun e w' => e = .returned (.pointer (some ⟨K, m * 40, none⟩)) ∧ w' = w := by
  obtain rfl : x = (m : Int) - 4 := by omega
  clear hx
  go_enter Tryd.func151, Tryd.ntmps151
  have h1 : 4 + ((m : Int) - 4) = (m : Int) := by omega
  go_wp2
  go_ret
  exact ⟨by simp, rfl⟩

/-- Several rows, one behind the other. -/
def rowsL (Ss : List (Int → Bool)) : List Value := Ss.flatMap fun S => (rowA S).toList
theorem rowsL_len (Ss : List (Int → Bool)) : (rowsL Ss).length = Ss.length * 40 := by
  induction Ss with
  | nil => rfl
  | cons S Ss ih => simp only [rowsL, List.flatMap_cons, List.length_append, List.length_cons, Array.length_toList, rowA_size] at ih ⊢; omega
theorem rowsL_at {Ss : List (Int → Bool)} {k : Nat} {S : Int → Bool} (h : Ss[k]? = some S) {j : Nat} {v : Value} (hj : (rowA S)[j]? = some v) : (rowsL Ss)[k * 40 + j]? = some v := by
  induction Ss generalizing k with
  | nil => simp at h
  | cons T Ss ih =>
    have hj40 : j < 40 := by have := (Array.getElem?_eq_some_iff.1 hj).1; rw [rowA_size] at this; exact this
    show ((rowA T).toList ++ rowsL Ss)[k * 40 + j]? = some v
    rcases k with _ | k
    · simp at h
      subst h
      rw [List.getElem?_append_left (by rw [Array.length_toList, rowA_size]; omega)]
      simpa using hj
    · rw [List.getElem?_append_right (by rw [Array.length_toList, rowA_size]; omega), Array.length_toList, rowA_size, show (k + 1) * 40 + j - 40 = k * 40 + j by omega]
      exact ih (by simpa using h)
theorem rowsL_one (S : Int → Bool) : ∀ u ∈ (rowA S).toList, u.oneCell' = true := fun u hu => by
  simp [rowA] at hu
  obtain ⟨_, _, rfl⟩ := hu
  rfl
/-- The slice of rows v is new and reads as Ss. -/
def OwnRows (w : World) (lo : Nat) (v : Value) (Ss : List (Int → Bool)) : Prop := w.ownsRow lo 150 40 v Ss.length (rowsL Ss)
theorem OwnRows.shape {w : World} {lo : Nat} {v : Value} {Ss : List (Int → Bool)} (h : OwnRows w lo v Ss) (hne : Ss ≠ []) :
    ∃ g c, v = .slice (some ⟨g, 0, none⟩) Ss.length c ∧ Ss.length ≤ c ∧ lo ≤ g ∧ g < w.heap.size ∧ ∀ (k : Nat) (S : Int → Bool), Ss[k]? = some S → ∀ (j : Nat) (u : Value), (rowA S)[j]? = some u → w.cell? ⟨g, k * 40 + j, none⟩ = some u := by
  have hl : 0 < Ss.length := List.length_pos_iff.2 hne
  rcases h.2 with ⟨_, h0⟩ | ⟨g, cap, cur, rfl, hlo, hb, h1, h2, h3, h4⟩
  · omega
  · refine ⟨g, cap, rfl, h1, hlo, (Array.getElem?_eq_some_iff.1 hb).1, fun k S hk j u hj => ?_⟩
    rw [cell_of_row w g _ cur _ _ hb]
    have e := rowsL_at hk hj
    rw [← h4, List.getElem?_take] at e
    split at e
    · simpa using e
    · cases e

/-- What some of the rows have. -/
def anyR (Ss : List (Int → Bool)) : Int → Bool := fun x => Ss.any fun S => S x
/-- Of the numbers below j what T or S have, of the others what T has. -/
def orR (T S : Int → Bool) (j : Nat) : Int → Bool := fun x => if 0 ≤ x ∧ x < (j : Int) then T x || S x else T x
theorem orR_zero (T S : Int → Bool) : orR T S 0 = T := by
  funext x
  unfold orR
  rw [if_neg (by omega)]
theorem orR_step (T S : Int → Bool) (j : Nat) : (fun x => if x = (j : Int) then orR T S j j || S j else orR T S j x) = orR T S (j + 1) := by
  funext x
  unfold orR
  by_cases e : x = (j : Int)
  · subst e
    rw [if_pos rfl, if_neg (by omega), if_pos (by omega)]
  · rw [if_neg e]
    by_cases h : 0 ≤ x ∧ x < (j : Int)
    · rw [if_pos h, if_pos (by omega)]
    · rw [if_neg h, if_neg (by omega)]
theorem orR_at (T S : Int → Bool) (j : Nat) : orR T S j j = T j := by unfold orR; rw [if_neg (by omega)]
theorem orR_all (Ss : List (Int → Bool)) {k : Nat} {S : Int → Bool} (h : Ss[k]? = some S) : rowA (orR (anyR (Ss.take k)) S 40) = rowA (anyR (Ss.take (k + 1))) := rowA_ext fun x hx => by
  have hk := (List.getElem?_eq_some_iff.1 h).1
  have hS := (List.getElem?_eq_some_iff.1 h).2
  unfold orR
  rw [if_pos (by omega), List.take_succ_eq_append_getElem hk, hS]
  simp [anyR]

set_option maxRecDepth 20000 in
set_option maxHeartbeats 1000000 in
theorem joined_any (lo : Nat) (v : Value) (Ss : List (Int → Bool)) (w : World) (hv : OwnRows w lo v Ss) (hne : Ss ≠ []) (hl : Ss.length ≤ 1000) :
    Calls Tryd.prog 132 #[v] w fun e w' => e = .returned (.agg (rowA (anyR Ss))) ∧ Below w.heap.size w w' := by
  have HZ := Lib.hid info_row
  have HS := Lib.hid size_row
  obtain ⟨g, c, rfl, hc, _, hg, hcell⟩ := hv.shape hne
  have HC := Lib.hid hcell
  clear hv hcell hne
  go_enter Tryd.func132, Tryd.ntmps132
  have HB0 : Hid (Below w.heap.size w ((w.alloc (.cells (rowA noS) 150)).alloc (.cells (rowA noS) 150))) := by show Below _ _ _; go_grown
  have HR0 : Hid (Row ((w.alloc (.cells (rowA noS) 150)).alloc (.cells (rowA noS) 150)) w.heap.size 150 (rowA noS)) := (Row.new _ _ _).alloc _
  have HR1 : Hid (Row ((w.alloc (.cells (rowA noS) 150)).alloc (.cells (rowA noS) 150)) (w.heap.size + 1) 150 (rowA (anyR (Ss.take 0)))) := by
    have h := Row.new (w.alloc (.cells (rowA noS) 150)) 150 (rowA noS)
    rw [World.size_alloc] at h
    exact h
  go_wp2_with (with_reducible refine wpList_allocA rfl 150 rfl (rowA noS) 40 HZ.out ?_)
  generalize (w.alloc (.cells (rowA noS) 150)).alloc (.cells (rowA noS) 150) = W at HB0 HR0 HR1 ⊢
  go_loopw [10] (fun i wr => ∃ (k : Nat), k ≤ Ss.length ∧ i = .int .i64 k ∧ Hid (Below w.heap.size w wr) ∧ Hid (Row wr w.heap.size 150 (rowA noS)) ∧ Hid (Row wr (w.heap.size + 1) 150 (rowA (anyR (Ss.take k))))) (fun i _ => Ss.length - (intOf i).toNat)
  case atStart => exact ⟨0, by omega, rfl, HB0.out, HR0.out, HR1.out⟩
  case round =>
    clear HB0 HR0 HR1
    obtain ⟨k, hk, rfl, HB, HR0, HR1⟩ := hrel
    by_cases hlt : k < Ss.length
    · have hsk := List.getElem?_eq_getElem hlt
      have HCK : Hid (∀ (j : Nat) (u : Value), (rowA Ss[k])[j]? = some u → wr.cell? ⟨g, k * 40 + j, none⟩ = some u) := fun j u hj => (HB.out.cell (p := ⟨g, k * 40 + j, none⟩) hg).trans (HC.out k _ hsk j u hj)
      have HALL := Lib.hid (orR_all Ss hsk)
      generalize Ss[k] = S at HCK HALL
      generalize anyR (Ss.take k) = T at HR1 HALL
      obtain ⟨wk, hwk⟩ : ∃ x, x = wr := ⟨_, rfl⟩
      subst hwk
      have hws := HB.out.size
      have HB1 : Hid (Below w.heap.size w ((wk.alloc (.cells (rowA noS) 150)).setRow wk.heap.size (rowA S))) := below_setRow (HB.out.alloc hws _) hws _
      have HR01 : Hid (Row ((wk.alloc (.cells (rowA noS) 150)).setRow wk.heap.size (rowA S)) w.heap.size 150 (rowA noS)) := (HR0.out.alloc _).setRow_far (by have := HR0.out.lt; omega) _
      have HR11 : Hid (Row ((wk.alloc (.cells (rowA noS) 150)).setRow wk.heap.size (rowA S)) (w.heap.size + 1) 150 (rowA (orR T S 0))) := by
        rw [orR_zero]; exact (HR1.out.alloc _).setRow_far (by have := HR1.out.lt; omega) _
      have HRN : Hid (Row (wk.alloc (.cells (rowA noS) 150)) wk.heap.size 150 (rowA noS)) := Row.new _ _ _
      have HR5 : Hid (Row ((wk.alloc (.cells (rowA noS) 150)).setRow wk.heap.size (rowA S)) wk.heap.size 150 (rowA S)) := HRN.out.setRow _
      go_wp2_with (first
        | with_reducible refine wpList_allocA rfl 150 rfl (rowA noS) 40 HZ.out ?_
        | with_reducible refine wpList_loadA rfl 150 (.tmp 12) rfl g (k * 40) rfl (rowA S) 40 4 Tryd.underlying150 (HS.out _) HCK.out ?_
        | with_reducible refine wpList_storeA rfl 150 (.tmp 5) (.tmp 13) rfl wk.heap.size (rowA S) rfl rfl 150 (rowA noS) HRN.out (HS.out _) (by rw [rowA_size, rowA_size]) (rowA_all _) ?_
        | with_reducible refine wpList_loadA rfl 150 (.tmp 5) rfl wk.heap.size 0 rfl (rowA S) 40 4 Tryd.underlying150 (HS.out _) HR5.out.rowCells ?_)
      clear hsk HRN HR5 HCK
      generalize (wk.alloc (.cells (rowA noS) 150)).setRow wk.heap.size (rowA S) = W5 at HB1 HR01 HR11 ⊢
      clear HB HR0 HR1 hws
      go_loopw [15] (fun i wr => ∃ (j : Nat), j ≤ 40 ∧ i = .int .i64 j ∧ Hid (Below w.heap.size w wr) ∧ Hid (Row wr w.heap.size 150 (rowA noS)) ∧ Hid (Row wr (w.heap.size + 1) 150 (rowA (orR T S j)))) (fun i _ => 40 - (intOf i).toNat)
      case atStart => exact ⟨0, by omega, rfl, HB1.out, HR01.out, HR11.out⟩
      case round =>
        clear HB1 HR01 HR11
        obtain ⟨j, hj, rfl, HB, HR0, HR1⟩ := hrel
        by_cases hjl : j < 40
        · have hj2 : (j : Int) < 40 := by omega
          have c2 := HR1.out.cell j
          rw [rowA_at _ hjl, orR_at] at c2
          have f2 := HR1.out.frozen j
          have HV := Lib.hid (rowA_at S hjl)
          have HR0' := Lib.hid (HR0.out.far (p := ⟨w.heap.size + 1, j, none⟩) (by simp) (.bool (T j || S j)))
          have HR1' : Hid (Row (wr.setCell ⟨w.heap.size + 1, j, none⟩ (.bool (T j || S j))) (w.heap.size + 1) 150 (rowA (orR T S (j + 1)))) := by
            have h := HR1.out.set j (.bool (T j || S j))
            rw [rowA_set _ _ hjl] at h
            rw [← orR_step, orR_at]
            exact h
          have HB' : Hid (Below w.heap.size w (wr.setCell ⟨w.heap.size + 1, j, none⟩ (.bool (T j || S j)))) := HB.out.setCell (by simp) _
          clear HR0 HR1
          generalize hT : T j = tb at c2 HR0' HR1' HB'
          clear hT
          cases tb
          · rw [Bool.false_or] at HR0' HR1' HB'
            go_wp2_with (first
              | with_reducible refine wpList_indexA rfl 150 (.tmp 14) (.tmp 15) rfl (rowA S) rfl j rfl 40 4 hjl _ HV.out Tryd.underlying150 _ Tryd.underlying4 rfl (by kernel_rfl) ?_)
            go_roundw
            case rel => exact ⟨j + 1, by omega, by go_num, HB'.out, HR0'.out, HR1'.out⟩
            case measure => simp [intOf]; omega
          · rw [Bool.true_or] at HR0' HR1' HB'
            go_wp2_with (first
              | with_reducible refine wpList_indexA rfl 150 (.tmp 14) (.tmp 15) rfl (rowA S) rfl j rfl 40 4 hjl _ HV.out Tryd.underlying150 _ Tryd.underlying4 rfl (by kernel_rfl) ?_)
            go_roundw
            case rel => exact ⟨j + 1, by omega, by go_num, HB'.out, HR0'.out, HR1'.out⟩
            case measure => simp [intOf]; omega
        · obtain rfl : j = 40 := by omega
          rw [HALL.out] at HR1
          go_wp2
          go_roundw
          case rel => exact ⟨k + 1, by omega, by go_num, HB.out, HR0.out, HR1.out⟩
          case measure => simp [intOf]; omega
    · obtain rfl : k = Ss.length := by omega
      rw [List.take_length] at HR1
      have HR2 := Lib.hid (HR0.out.setRow (rowA (anyR Ss)))
      have HB' := Lib.hid (below_setRow HB.out (Nat.le_refl w.heap.size) (rowA (anyR Ss)))
      go_wp2_with (first
        | with_reducible refine wpList_loadA rfl 150 (.tmp 3) rfl (w.heap.size + 1) 0 rfl (rowA (anyR Ss)) 40 4 Tryd.underlying150 (HS.out _) HR1.out.rowCells ?_
        | with_reducible refine wpList_storeA rfl 150 (.tmp 2) (.tmp 29) rfl w.heap.size (rowA (anyR Ss)) rfl rfl 150 (rowA noS) HR0.out (HS.out _) (by rw [rowA_size, rowA_size]) (rowA_all _) ?_)
      refine bodyPost_ret (v := .agg (rowA (anyR Ss))) ?_ rfl ⟨rfl, HB'.out⟩
      exact results_cell_row Tryd.results132 _ _ w.heap.size 150 (rowA (anyR Ss)) (0, 0) _ rfl HR2.out Tryd.underlying150 rfl (HS.out _)

end Go.Proofs.YtfbpcdmpkbjifaaDoor

/- The program's step: a row, and what stands directly for one of it. -/

namespace Go.Proofs.YtfbpcdmpkbjifaaDoor
open Go.RowKit

theorem info_row3 : (Tryd.prog.info? 150).map (fun i => (i.zero, i.size, i.bytes)) = some (some (.agg (rowA noS)), 40, 40) := by kernel_rfl

/-- The table that begins at block K has for each symbol the row T of it. -/
def TabC (w : World) (K : Nat) (T : Int → Int → Bool) : Prop :=
  K < w.heap.size ∧ ∀ (m : Nat) (x : Int), m < 44 → 4 + x = (m : Int) → ∀ (j : Nat) (v : Value), (rowA (T x))[j]? = some v → w.cell? ⟨K, m * 40 + j, none⟩ = some v
theorem TabC.keep {w w' : World} {K B : Nat} {T : Int → Int → Bool} (h : TabC w K T) (hb : Below B w w') (hK : K < B) : TabC w' K T :=
  ⟨Nat.lt_of_lt_of_le h.1 hb.size, fun m x hm hx j v hj => (hb.cell (p := ⟨K, m * 40 + j, none⟩) hK).trans (h.2 m x hm hx j v hj)⟩

/-- A list lies apart from a row of something else that is appended to. -/
theorem OwnI.grownG {w w' : World} {lo base size n : Nat} {e : TypeId} {A : Option Addr} {xs : List Int} {v : Value} {cs : List Value} (h : OwnI w lo A xs) (hv : w.ownsRow base e size v n cs) (he : 3 ≠ e) (hg : w.grownBy w' v.ownBlock) : OwnI w' lo A xs := by
  rcases h with h | ⟨g, rc, e', hl, hr, hc⟩
  · exact .inl h
  · refine .inr ⟨g, rc, e', hl, (hg.block g hr.lt fun hb => ?_).trans hr, hc⟩
    obtain ⟨_, ⟨rfl, _⟩ | ⟨g', cap, cur, rfl, _, h5, _⟩⟩ := hv
    · cases hb
    · injection hb with hb
      subst hb
      exact hr.ne (t' := e) h5 he rfl

/-- A row, and what stands directly for one of it. -/
def stepR (T : Int → Int → Bool) (S : Int → Bool) : Int → Bool := anyR (S :: (upK S 40).map T)

set_option maxRecDepth 20000 in
set_option maxHeartbeats 1000000 in
theorem step_any (K : Nat) (T : Int → Int → Bool) (S : Int → Bool) (w : World) (hT : TabC w K T) :
    Calls Tryd.prog 158 #[.pointer (some ⟨K, 0, none⟩), .agg (rowA S)] w fun e w' => e = .returned (.agg (rowA (stepR T S))) ∧ Below w.heap.size w w' := by
  obtain ⟨i0, hi0, hz0, hz1, hz2⟩ := info_of info_row3
  have HZ := Lib.hid info_row
  have HS := Lib.hid size_row
  have HT := Lib.hid hT; clear hT
  go_enter Tryd.func158, Tryd.ntmps158
  have HB0 : Hid (Below w.heap.size w (((w.alloc (.cells (rowA S) 150)).alloc (.cells (rowA noS) 150)).alloc (.cells (rowA S) 150))) := by show Below _ _ _; go_grown
  have HR0a : Hid (Row ((w.alloc (.cells (rowA S) 150)).alloc (.cells (rowA noS) 150)) w.heap.size 150 (rowA S)) := (Row.new _ _ _).alloc _
  have HR0 : Hid (Row (((w.alloc (.cells (rowA S) 150)).alloc (.cells (rowA noS) 150)).alloc (.cells (rowA S) 150)) w.heap.size 150 (rowA S)) := HR0a.out.alloc _
  have HR1 : Hid (Row (((w.alloc (.cells (rowA S) 150)).alloc (.cells (rowA noS) 150)).alloc (.cells (rowA S) 150)) (w.heap.size + 1) 150 (rowA noS)) := by
    have h := Row.new (w.alloc (.cells (rowA S) 150)) 150 (rowA noS)
    rw [World.size_alloc] at h
    exact h.alloc _
  have HO : Hid (OwnRows (((w.alloc (.cells (rowA S) 150)).alloc (.cells (rowA noS) 150)).alloc (.cells (rowA S) 150)) (w.heap.size + 2) (.slice (some ⟨w.heap.size + 2, 0, none⟩) 1 1) [S]) := by
    have h := Row.new ((w.alloc (.cells (rowA S) 150)).alloc (.cells (rowA noS) 150)) 150 (rowA S)
    rw [World.size_alloc, World.size_alloc] at h
    refine ⟨rfl, .inr ⟨w.heap.size + 2, 1, _, rfl, Nat.le_refl _, h, Nat.le_refl _, by unfold maxLen; omega, by rw [rowA_size], ?_⟩⟩
    rw [List.take_of_length_le (by rw [Array.length_toList, rowA_size]; simp)]
    simp [rowsL]
  go_wp2_with (first
    | with_reducible refine wpList_boxA rfl 150 (.tmp 1) rfl (rowA S) rfl ?_
    | with_reducible refine wpList_allocA rfl 150 rfl (rowA noS) 40 HZ.out ?_
    | with_reducible refine wpList_loadA rfl 150 (.tmp 3) rfl w.heap.size 0 rfl (rowA S) 40 4 Tryd.underlying150 (HS.out _) HR0a.out.rowCells ?_
    | with_reducible refine wpList_sliceA rfl 183 150 (.tmp 8) rfl (rowA S) (rowA noS) rfl 40 Tryd.underlying183 HZ.out (rowA_size _) (by omega) (rowA_size _) (by omega) ?_
    | with_reducible refine wpList_loadA rfl 150 (.tmp 3) rfl w.heap.size 0 rfl (rowA S) 40 4 Tryd.underlying150 (HS.out _) HR0.out.rowCells ?_)
  clear HR0 HR0a
  have hW3 : w.heap.size + 3 ≤ (((w.alloc (.cells (rowA S) 150)).alloc (.cells (rowA noS) 150)).alloc (.cells (rowA S) 150)).heap.size := by simp
  generalize ((w.alloc (.cells (rowA S) 150)).alloc (.cells (rowA noS) 150)).alloc (.cells (rowA S) 150) = W at HB0 HR1 HO hW3 ⊢
  refine (rowList_any S W).mono ?_
  rintro e w1 ⟨A1, c1, rfl, _, hO1, hB1⟩
  have hWs := HB0.out.size
  have HB1 := Lib.hid (HB0.out.trans (hB1.mono hWs))
  have HR2 := Lib.hid (HR1.out.below hB1 HR1.out.lt)
  have HO2 : Hid (OwnRows w1 (w.heap.size + 2) (.slice (some ⟨w.heap.size + 2, 0, none⟩) 1 1) [S]) := own_below HO.out hB1
  have HI1 := Lib.hid hO1
  have hw1s : w.heap.size + 3 ≤ w1.heap.size := Nat.le_trans hW3 hB1.size
  clear hO1 hB1 HR1 HO HB0
  have HM := Lib.hid (upK_mem S 40)
  have hL40 := upK_len S 40
  have HDEF : Hid (stepR T S = anyR (S :: (upK S 40).map T)) := rfl
  generalize hL : upK S 40 = L at HI1 HM hL40 HDEF ⊢
  clear hL
  go_wp2
  go_loopw [5, 13] (fun v i wr => ∃ (k : Nat), k ≤ L.length ∧ i = .int .i64 k ∧ Hid (Below w.heap.size w wr) ∧ Hid (OwnI wr W.heap.size A1 L ∧ w.heap.size + 3 ≤ wr.heap.size) ∧ Hid (Row wr (w.heap.size + 1) 150 (rowA noS)) ∧ Hid (OwnRows wr (w.heap.size + 2) v (S :: (L.take k).map T))) (fun _ i _ => L.length - (intOf i).toNat)
  case atStart => exact ⟨0, by omega, rfl, HB1.out, ⟨HI1.out, hw1s⟩, HR2.out, HO2.out⟩
  case round =>
    clear HR2 HO2
    obtain ⟨k, hk, rfl, HB, HBX, HR, HO⟩ := hrel
    by_cases hlt : k < L.length
    · obtain ⟨p, q, rfl, hb, c1⟩ := HBX.out.1.ints.at_ hlt
      obtain ⟨m, hm, hme⟩ : ∃ m : Nat, m < 44 ∧ 4 + L[k] = (m : Int) := by
        have h := (HM.out L[k]).1 (List.getElem_mem hlt)
        exact ⟨(4 + L[k]).toNat, by omega, by omega⟩
      have HTK : Hid ((L.take (k + 1)).map T = (L.take k).map T ++ [T L[k]]) := by show _ = _; rw [List.take_succ_eq_append_getElem hlt, List.map_append]; rfl
      have HTC : Hid (∀ (j : Nat) (v : Value), (rowA (T L[k]))[j]? = some v → wr.cell? ⟨K, m * 40 + j, none⟩ = some v) := (HT.out.keep HB.out HT.out.1).2 m L[k] hm hme
      have hkl : (S :: (L.take k).map T).length = k + 1 := by simp; omega
      have hws : w.heap.size + 3 ≤ wr.heap.size := HBX.out.2
      generalize L[k] = x at c1 hme HTK HTC
      go_wp2_with fail
      refine (of_any K m x wr hm hme).mono ?_
      rintro e w2 ⟨rfl, rfl⟩
      have HOA : Hid ((w2.alloc (.cells (rowA (T x)) 150)).ownsRow (w.heap.size + 2) 150 40 u5 (k + 1) (rowsL (S :: (L.take k).map T))) := by have h := HO.out; unfold OwnRows at h; rw [hkl] at h; exact h.alloc _
      have HNW : Hid (∀ (j : Nat) (u : Value), (rowA (T x)).toList[j]? = some u → (w2.alloc (.cells (rowA (T x)) 150)).cell? ((⟨w2.heap.size, 0, none⟩ : Addr).add j) = some u) := fun j u h => by
        rw [Go.WideShapes.add_plain, Nat.zero_add, (Row.new w2 150 (rowA (T x))).cell]
        simpa using h
      go_wp2_with (first
        | with_reducible refine wpList_loadA rfl 150 (.tmp 21) rfl K (m * 40) rfl (rowA (T x)) 40 4 Tryd.underlying150 (HS.out _) HTC.out ?_
        | with_reducible refine wpList_sliceA rfl 183 150 (.tmp 22) rfl (rowA (T x)) (rowA noS) rfl 40 Tryd.underlying183 HZ.out (rowA_size _) (by omega) (rowA_size _) (by omega) ?_
        | (at_builtin
           refine wpList_append_own _ rfl (.tmp 17) (.tmp 23) _ rfl (w.heap.size + 2) 150 i0 _ 40 40 Tryd.underlying183 hi0 hz0 hz1 hz2 (rowA_size _) (by omega) _ _ _ rfl HOA.out ⟨w2.heap.size, 0, none⟩ 1 1 (rowA (T x)).toList rfl (by rw [Array.length_toList, rowA_size]) HNW.out (rowsL_one _) (by unfold maxLen; omega) (by omega) (by simp; omega) ?_
           intro v' w' h1 h2 h3
           have HO' : Hid (OwnRows w' (w.heap.size + 2) v' (S :: (L.take (k + 1)).map T)) := by
             show World.ownsRow _ _ _ _ _ _ _
             have e1 : (S :: (L.take (k + 1)).map T).length = k + 1 + 1 := by simp; omega
             have e2 : rowsL (S :: (L.take (k + 1)).map T) = rowsL (S :: (L.take k).map T) ++ (rowA (T x)).toList := by rw [HTK.out]; simp [rowsL]
             rw [e1, e2]
             exact h1
           have HB' : Hid (Below w.heap.size w w') := (HB.out.alloc (by omega) _).grown h2 (by simp; omega) fun j hj => by have := (HO.out.lt j hj).1; omega
           have HBX' : Hid (OwnI w' W.heap.size _ L ∧ w.heap.size + 3 ≤ w'.heap.size) := ⟨(HBX.out.1.below ((Below.refl _ _).alloc (Nat.le_refl _) _) (Nat.le_refl _)).grownG HOA.out (by decide) h2, by have := h2.size; rw [World.size_alloc] at this; omega⟩
           have HR' : Hid (Row w' (w.heap.size + 1) 150 (rowA noS)) := (h2.block _ (by simp; omega) fun hj => by have := (HO.out.lt _ hj.symm).1; omega).trans (HR.out.alloc _)
           clear h1 h2 h3))
      go_roundw
      case rel => exact ⟨k + 1, by omega, by go_num, HB'.out, HBX'.out, HR'.out, HO'.out⟩
      case measure => simp [intOf]; omega
    · obtain rfl : k = L.length := by omega
      rw [List.take_length] at HO
      go_wp2_with fail
      refine (joined_any (w.heap.size + 2) _ _ wr HO.out (by simp) (by simp; omega)).mono ?_
      rintro e w2 ⟨rfl, hB2⟩
      rw [← HDEF.out]
      have hws : w.heap.size + 3 ≤ wr.heap.size := HBX.out.2
      have HR2 := Lib.hid (HR.out.below hB2 HR.out.lt)
      have HB2 := Lib.hid (HB.out.trans (hB2.mono (by omega)))
      generalize hRR : stepR T S = R
      have HR3 := Lib.hid (HR2.out.setRow (rowA R))
      have HB3 := Lib.hid (below_setRow HB2.out (Nat.le_succ w.heap.size) (rowA R))
      clear hB2
      go_wp2_with (first
        | with_reducible refine wpList_storeA rfl 150 (.tmp 4) (.tmp 27) rfl (w.heap.size + 1) (rowA R) rfl rfl 150 (rowA noS) HR2.out (HS.out _) (by rw [rowA_size, rowA_size]) (rowA_all _) ?_)
      refine bodyPost_ret (v := .agg (rowA R)) ?_ rfl ⟨by rw [hRR], HB3.out⟩
      exact results_cell_row Tryd.results158 _ _ (w.heap.size + 1) 150 (rowA R) (0, 0) _ rfl HR3.out Tryd.underlying150 rfl (HS.out _)

end Go.Proofs.YtfbpcdmpkbjifaaDoor

/- A grammar and a bool as an answer. -/

namespace Go.Proofs.YtfbpcdmpkbjifaaDoor
open Go.RowKit

/-- A grammar's answer: its numbers and its rules; zero where there is none. -/
def ansN (b : Bool) (n : Int) : Int := if b then n else 0
def ansR (b : Bool) (ss : List (Int × List Int)) : List (Int × List Int) := if b then ss else []

/-- A new grammar, and a bool. -/
def GaveGB (w : World) (n t : Int) (ss : List (Int × List Int)) (b : Bool) (e : Ending) (w' : World) : Prop :=
  ∃ A c, ∃ rs : List Ru, e = .returned (.tuple #[.agg #[.int .i64 (ansN b n), .int .i64 (ansN b t), .slice A rs.length c], .bool b]) ∧ OwnR w' w.heap.size A rs ∧ rs.map Ru.abs = ansR b ss ∧ Below w.heap.size w w'

theorem gave_none {w w' : World} {n t : Int} {ss : List (Int × List Int)} (hb : Below w.heap.size w w') : GaveGB w n t ss false (.returned (.tuple #[.agg #[.int .i64 0, .int .i64 0, .slice none 0 0], .bool false])) w' :=
  ⟨none, 0, [], rfl, .inl rfl, rfl, hb⟩

end Go.Proofs.YtfbpcdmpkbjifaaDoor

/- The program's BinaryGrammar. -/

namespace Go.Proofs.YtfbpcdmpkbjifaaDoor
open Go.RowKit

/-- Whether a binary grammar is good and its rules are a good grammar. -/
noncomputable def okBG (s : Bs) : Bool := bP (GoodBs s) && goodG s.n s.t (bRules s.P s.O s.E)

theorem long_mem {long : Int} {xs : List (List Int)} (h : LongTo long xs xs.length) {x : List Int} (hx : x ∈ xs) : (x.length : Int) = long := by
  obtain ⟨k, hk, e⟩ := List.getElem_of_mem hx
  exact h k x hk (by rw [← e]; exact List.getElem?_eq_getElem hk)
theorem goodB_long {b : Bi} (h : GoodBs b.say) : ∀ u ∈ b.P ++ b.O, 2 ≤ u.r.length ∧ u.r.length ≤ 3 := by
  intro u hu
  rcases List.mem_append.1 hu with hu | hu
  · have := long_mem h.2.2.1.1 (sayL_mem hu); omega
  · have := long_mem h.2.2.2.1.1 (sayL_mem hu); omega
theorem bRules_fit {b : Bi} {rs : List Ru} (hf : FitB b.say) (h : rs.map Ru.abs = bRules (sayL b.P) (sayL b.O) b.E) : FitR rs := by
  intro u hu x hx
  have hm : u.abs ∈ bRules (sayL b.P) (sayL b.O) b.E := h ▸ List.mem_map.2 ⟨u, hu, rfl⟩
  unfold bRules at hm
  rcases List.mem_append.1 hm with hm | hm
  · obtain ⟨y, hy, e⟩ := List.mem_map.1 hm
    have er : y.tail = u.r := congrArg Prod.snd e
    have hx' : x ∈ y := List.mem_of_mem_tail (er ▸ hx)
    rcases List.mem_append.1 hy with hy | hy
    · exact hf.1 y hy x hx'
    · exact hf.2.1 y hy x hx'
  · obtain ⟨y, _, e⟩ := List.mem_map.1 hm
    have er : [] = u.r := congrArg Prod.snd e
    rw [← er] at hx
    cases hx
theorem bRules_len {P O : List (List Int)} {E : List Int} : (bRules P O E).length = P.length + O.length + E.length := by unfold bRules; simp; omega
theorem bRules_lens {b : Bi} (hm : LenB 1048576 b) : ∀ u ∈ bRules (sayL b.P) (sayL b.O) b.E, u.2.length ≤ 1048576 := by
  intro u hu
  unfold bRules at hu
  rcases List.mem_append.1 hu with hu | hu
  · obtain ⟨y, hy, rfl⟩ := List.mem_map.1 hu
    have : y.tail.length ≤ y.length := by rw [List.length_tail]; omega
    rcases List.mem_append.1 hy with hy | hy
    · obtain ⟨v, hv, rfl⟩ := List.mem_map.1 hy; have := hm.ps v hv; show (v.r.tail).length ≤ _; omega
    · obtain ⟨v, hv, rfl⟩ := List.mem_map.1 hy; have := hm.os v hv; show (v.r.tail).length ≤ _; omega
  · obtain ⟨y, _, rfl⟩ := List.mem_map.1 hu
    simp

theorem rls_at {w w' : World} {B lo c : Nat} {A : Option Addr} {ds : List Ru} {ss : List (Int × List Int)} (h : RulD w B ds ss) (h2 : w'.ownsRow lo 166 2 (.slice A ds.length c) ds.length (ds.flatMap cellsU)) (hB : Below B w w') (hB2 : B ≤ w'.heap.size) : Rls w' w'.heap.size A ds := by
  obtain ⟨A', c', e, _, hR⟩ := rls_of h rfl h2 hB hB2
  injection e with e1
  rw [e1]; exact hR


end Go.Proofs.YtfbpcdmpkbjifaaDoor

/- What the functions that tell the members of a set answer. -/

namespace Go.Proofs.YtfbpcdmpkbjifaaDoor
open Go.RowKit

/-- Where g, a new rising list of just the members of a set of which P holds; else none. -/
def GaveP (w : World) (g : Bool) (P : (Int → Bool) → Prop) (e : Ending) (w' : World) : Prop :=
  ∃ ys, (g = true → ∃ S, P S ∧ Rises ys ∧ ∀ x, x ∈ ys ↔ S x = true) ∧ (g = false → ys = []) ∧ ys.length ≤ 40 ∧ GaveIB w ys g e w'

theorem same_list {g : Bool} {P : (Int → Bool) → Prop} {ys zs : List Int} (uniq : ∀ S T, P S → P T → S = T) (h1 : g = true → ∃ S, P S ∧ Rises ys ∧ ∀ x, x ∈ ys ↔ S x = true) (h2 : g = false → ys = [])
    (k1 : g = true → ∃ S, P S ∧ Rises zs ∧ ∀ x, x ∈ zs ↔ S x = true) (k2 : g = false → zs = []) : ys = zs := by
  cases g
  · rw [h2 rfl, k2 rfl]
  · obtain ⟨S, a1, a2, a3⟩ := h1 rfl
    obtain ⟨T, b1, b2, b3⟩ := k1 rfl
    have e := uniq S T a1 b1
    subst e
    exact rises_unique a2 b2 fun x => (a3 x).trans (b3 x).symm

/-- S are the growing ones. -/
def IsGrow (ss : List (Int × List Int)) (S : Int → Bool) : Prop := ∃ P, IsLeast wayProd noS ss P ∧ IsLeast (wayGrow P) noS ss S
theorem isGrow_unique {ss : List (Int × List Int)} {S T : Int → Bool} (h : IsGrow ss S) (k : IsGrow ss T) : S = T := by
  obtain ⟨P, h1, h2⟩ := h
  obtain ⟨Q, k1, k2⟩ := k
  have e := h1.unique k1
  subst e
  exact h2.unique k2

end Go.Proofs.YtfbpcdmpkbjifaaDoor

/- The program's BinaryNull. -/

namespace Go.Proofs.YtfbpcdmpkbjifaaDoor
open Go.RowKit

/-- Rules whose least set of nonterminals that derive nothing can be told: not too many, of small numbers. -/
structure SmallR (ss : List (Int × List Int)) : Prop where
  len : ss.length ≤ 1048576
  left : ∀ r ∈ ss, 0 ≤ r.1 ∧ r.1 < 40
  fit : ∀ r ∈ ss, ∀ x ∈ r.2, F64 x
  short : ∀ r ∈ ss, r.2.length ≤ 4

set_option maxRecDepth 20000 in
set_option maxHeartbeats 1000000 in
theorem nullB_any (A : Option Addr) (c : Nat) (rs : List Ru) (w : World) (hx : Rls w w.heap.size A rs) (hs : SmallR (rs.map Ru.abs)) :
    Calls Tryd.prog 102 #[.slice A rs.length c] w (GaveSet w (IsLeast wayNull noS (rs.map Ru.abs))) := by
  have hA : AddsFit wayNull (rs.map Ru.abs) := fun r hr y hy => by
    have e : y = r.1 := by simpa [wayNull] using hy
    subst e
    exact hs.left r hr
  have HC := Lib.hid (closeLefts_any wayNull (fun _ => rfl) A c rs hA 138 #[] (fun _ => True) w hx (by have h := hs.len; rw [List.length_map] at h; exact h) enter_null trivial (fun _ _ _ _ => trivial) fun b _ v S u _ hS hI hm => by
    have h := allNull_any b S u.a u.r u.c v hS hI (hs.fit _ hm) (hs.short _ hm)
    exact h.mono fun e v' ⟨h1, h2⟩ => ⟨h1, by subst h2; exact Below.refl _ _⟩)
  clear hx hs hA
  go_enter Tryd.func102, Tryd.ntmps102
  go_wp2_with fail
  refine HC.out.mono ?_
  rintro e w1 ⟨b, S, rfl, h1, h2, h3, h4⟩
  have H1 := Lib.hid h1; have H2 := Lib.hid h2; have H3 := Lib.hid h3; have H4 := Lib.hid h4
  clear h1 h2 h3 h4
  go_wp2
  go_ret
  exact ⟨b, S, rfl, H1.out, H2.out, H3.out, H4.out⟩

theorem nonB_small {n x : Int} (h : nonB n x = true) (hn : n ≤ 40) : 0 ≤ x ∧ x < 40 := by have := nonB_is h; omega
theorem goodB_lefts {s : Bs} (h : GoodBs s) : ∀ r ∈ bRules s.P s.O s.E, 0 ≤ r.1 ∧ r.1 < 40 := by
  have hn := h.1.2
  have one : ∀ {n t long : Int} {xs : List (List Int)}, GoodLs n t long xs → n ≤ 40 → 2 ≤ long → ∀ x ∈ xs, 0 ≤ (ruleOf x).1 ∧ (ruleOf x).1 < 40 := by
    intro n t long xs hg hn hl x hx
    obtain ⟨k, hk, e⟩ := List.getElem_of_mem hx
    have h1 := hg.2.1 k x hk (by rw [← e]; exact List.getElem?_eq_getElem hk)
    have h2 := long_mem hg.1 hx
    rcases x with _ | ⟨y, x⟩
    · simp at h2; omega
    · exact nonB_small h1.1 hn
  intro r hr
  unfold bRules at hr
  rcases List.mem_append.1 hr with hr | hr
  · obtain ⟨x, hx, rfl⟩ := List.mem_map.1 hr
    rcases List.mem_append.1 hx with hx | hx
    · exact one h.2.2.1 hn (by omega) x hx
    · exact one h.2.2.2.1 hn (by omega) x hx
  · obtain ⟨x, hx, rfl⟩ := List.mem_map.1 hr
    obtain ⟨k, hk, e⟩ := List.getElem_of_mem hx
    exact nonB_small (h.2.2.2.2.1.1 k x hk (by rw [← e]; exact List.getElem?_eq_getElem hk)) hn
theorem smallB {b : Bi} (h : GoodBs b.say) (ht : b.P.length + b.O.length + b.E.length ≤ 1048576) (hf : FitB b.say) : SmallR (bRules (sayL b.P) (sayL b.O) b.E) := by
  refine ⟨by rw [bRules_len, sayL_len, sayL_len]; exact ht, goodB_lefts h, fun r hr x hx => ?_, fun r hr => ?_⟩
  · unfold bRules at hr
    rcases List.mem_append.1 hr with hr | hr
    · obtain ⟨y, hy, rfl⟩ := List.mem_map.1 hr
      have hx' : x ∈ y := List.mem_of_mem_tail hx
      rcases List.mem_append.1 hy with hy | hy
      · exact hf.1 y hy x hx'
      · exact hf.2.1 y hy x hx'
    · obtain ⟨y, _, rfl⟩ := List.mem_map.1 hr
      cases hx
  · unfold bRules at hr
    rcases List.mem_append.1 hr with hr | hr
    · obtain ⟨y, hy, rfl⟩ := List.mem_map.1 hr
      show y.tail.length ≤ 4
      rw [List.length_tail]
      rcases List.mem_append.1 hy with hy | hy
      · have := long_mem h.2.2.1.1 hy; omega
      · have := long_mem h.2.2.2.1.1 hy; omega
    · obtain ⟨y, _, rfl⟩ := List.mem_map.1 hr
      simp


end Go.Proofs.YtfbpcdmpkbjifaaDoor

/- Plain mathematics of chapter 6: what stands for what. No program, no memory. -/

namespace Go.Proofs.YtfbpcdmpkbjifaaDoor

/-- The left number l stands directly for x, where N derive nothing. -/
def DirB (N : Int → Bool) (P O : List (List Int)) (l x : Int) : Prop := [l, x] ∈ O ∨ (∃ y, [l, x, y] ∈ P ∧ N y = true) ∨ (∃ y, [l, y, x] ∈ P ∧ N y = true)

/-- S is the least set that holds S0 and whatever stands directly for one of it. -/
structure IsUp (D : Int → Int → Prop) (S0 S : Int → Bool) : Prop where
  base : ∀ x, S0 x = true → S x = true
  up : ∀ l x, D l x → S x = true → S l = true
  least : ∀ S' : Int → Bool, (∀ x, S0 x = true → S' x = true) → (∀ l x, D l x → S' x = true → S' l = true) → ∀ x, S x = true → S' x = true

theorem IsUp.unique {D : Int → Int → Prop} {S0 S T : Int → Bool} (h : IsUp D S0 S) (k : IsUp D S0 T) : S = T := by
  funext x
  have h1 := h.least T k.base k.up x
  have h2 := k.least S h.base h.up x
  cases e : S x <;> cases e' : T x <;> simp_all

/-- What stands for x, in steps. -/
def Ups (D : Int → Int → Prop) (x y : Int) : Prop := ∀ S : Int → Prop, S x → (∀ l z, D l z → S z → S l) → S y
theorem Ups.refl (D : Int → Int → Prop) (x : Int) : Ups D x x := fun _ h _ => h
theorem Ups.step {D : Int → Int → Prop} {x y l : Int} (h : Ups D x y) (hd : D l y) : Ups D x l := fun S h0 hs => hs l y hd (h S h0 hs)
theorem Ups.trans {D : Int → Int → Prop} {x y z : Int} (h : Ups D x y) (k : Ups D y z) : Ups D x z := fun S h0 hs => k S (h S h0 hs) hs
theorem Ups.first {D : Int → Int → Prop} {x y : Int} (h : Ups D x y) : y = x ∨ ∃ l, D l x ∧ Ups D l y := by
  have := h (fun y => y = x ∨ ∃ l, D l x ∧ Ups D l y) (.inl rfl) fun l z hd hz => by
    rcases hz with rfl | ⟨m, h1, h2⟩
    · exact .inr ⟨l, hd, Ups.refl D l⟩
    · exact .inr ⟨m, h1, h2.step hd⟩
  exact this
theorem IsUp.of {D : Int → Int → Prop} {S0 S : Int → Bool} (h : ∀ y, S y = true ↔ ∃ x, S0 x = true ∧ Ups D x y) : IsUp D S0 S :=
  ⟨fun x hx => (h x).2 ⟨x, hx, Ups.refl D x⟩, fun l x hd hx => by
    obtain ⟨z, h1, h2⟩ := (h x).1 hx
    exact (h l).2 ⟨z, h1, h2.step hd⟩, fun S' h0 hs x hx => by
    obtain ⟨z, h1, h2⟩ := (h x).1 hx
    exact h2 (fun y => S' y = true) (h0 z h1) hs⟩
theorem IsUp.ups {D : Int → Int → Prop} {S0 S : Int → Bool} (h : IsUp D S0 S) (y : Int) : S y = true ↔ ∃ x, S0 x = true ∧ Ups D x y := by
  have k : IsUp D S0 (fun y => bP (∃ x, S0 x = true ∧ Ups D x y)) := IsUp.of fun y => ⟨bP_is, bP_t⟩
  rw [h.unique k]
  exact ⟨bP_is, bP_t⟩

/-- What a symbol's row begins with. -/
noncomputable def rowOf (D : Int → Int → Prop) (x : Int) : Int → Bool := fun l => bP (if x < 0 then D l x else l = x)

/-- A row out of all that stands for a symbol: those of it that are no tokens. -/
theorem isUp_row {D : Int → Int → Prop} (hD : ∀ l x, D l x → 0 ≤ l) {x : Int} {S T : Int → Bool} (h : IsUp D (fun y => decide (y = x)) S) (hT : ∀ y, T y = true ↔ S y = true ∧ 0 ≤ y) : IsUp D (rowOf D x) T := by
  refine IsUp.of fun y => ?_
  rw [hT, h.ups]
  have nn : ∀ {l y}, 0 ≤ l → Ups D l y → 0 ≤ y := fun {l y} hl hu => hu (fun y => 0 ≤ y) hl fun l z hd _ => hD l z hd
  constructor
  · rintro ⟨⟨z, hz, hu⟩, hy⟩
    have e : z = x := of_decide_eq_true hz
    subst e
    by_cases hx : z < 0
    · rcases hu.first with rfl | ⟨l, h1, h2⟩
      · omega
      · exact ⟨l, bP_t (by rw [if_pos hx]; exact h1), h2⟩
    · exact ⟨z, bP_t (by rw [if_neg hx]), hu⟩
  · rintro ⟨l, hl, hu⟩
    have hl := bP_is hl
    by_cases hx : x < 0
    · rw [if_pos hx] at hl
      exact ⟨⟨x, decide_eq_true rfl, Ups.trans ((Ups.refl D x).step hl) hu⟩, nn (hD l x hl) hu⟩
    · rw [if_neg hx] at hl
      subst hl
      exact ⟨⟨l, decide_eq_true rfl, hu⟩, nn (by omega) hu⟩

/-- Some nonterminal stands for itself by a step or more. -/
def RoundD (D : Int → Int → Prop) : Prop := ∃ l x, D l x ∧ 0 ≤ x ∧ Ups D l x
theorem round_up {D : Int → Int → Prop} {x : Int} {S : Int → Bool} (h : IsUp D (fun l => bP (D l x)) S) : S x = true ↔ ∃ l, D l x ∧ Ups D l x := by
  rw [h.ups]
  exact ⟨fun ⟨l, h1, h2⟩ => ⟨l, bP_is h1, h2⟩, fun ⟨l, h1, h2⟩ => ⟨l, bP_t h1, h2⟩⟩

end Go.Proofs.YtfbpcdmpkbjifaaDoor

/- The program's closed: a row, and all that stands for one of it in steps. -/

namespace Go.Proofs.YtfbpcdmpkbjifaaDoor
open Go.RowKit

def Fit40 (S : Int → Bool) : Prop := ∀ x, S x = true → 0 ≤ x ∧ x < 40
/-- What the table says stands directly for what. -/
def DT6 (T : Int → Int → Bool) : Int → Int → Prop := fun l x => T x l = true

theorem stepR_is (T : Int → Int → Bool) (R : Int → Bool) (x : Int) : stepR T R x = true ↔ R x = true ∨ ∃ y, R y = true ∧ 0 ≤ y ∧ y < 40 ∧ T y x = true := by
  unfold stepR anyR
  rw [List.any_cons, Bool.or_eq_true, List.any_map, List.any_eq_true]
  constructor
  · rintro (h | ⟨y, hy, h⟩)
    · exact .inl h
    · have := (upK_mem R 40 y).1 hy
      exact .inr ⟨y, this.1, this.2.1, this.2.2, h⟩
  · rintro (h | ⟨y, h1, h2, h3, h4⟩)
    · exact .inl h
    · exact .inr ⟨y, (upK_mem R 40 y).2 ⟨h1, h2, h3⟩, h4⟩
theorem stepR_fit {T : Int → Int → Bool} {R : Int → Bool} (hT : ∀ x, Fit40 (T x)) (hR : Fit40 R) : Fit40 (stepR T R) := fun x hx => by
  rcases (stepR_is T R x).1 hx with h | ⟨y, _, _, _, h⟩
  · exact hR x h
  · exact hT y x h
theorem fit_eq {S R : Int → Bool} (hS : Fit40 S) (hR : Fit40 R) (h : rowA S = rowA R) : S = R := by
  funext x
  by_cases hx : 0 ≤ x ∧ x < 40
  · have := rowA_inj h x.toNat (by omega)
    rwa [show ((x.toNat : Nat) : Int) = x by omega] at this
  · have h1 : ∀ {Z : Int → Bool}, Fit40 Z → Z x = false := fun {Z} hZ => by
      cases e : Z x
      · rfl
      · exact absurd (hZ x e) hx
    rw [h1 hS, h1 hR]
theorem upK_sub {S R : Int → Bool} (h : ∀ x, S x = true → R x = true) : ∀ k, (upK S k).Sublist (upK R k)
  | 0 => List.Sublist.slnil
  | k + 1 => by
    have ih := upK_sub h k
    unfold upK
    by_cases h1 : S k = true
    · rw [if_pos h1, if_pos (h _ h1)]
      exact ih.append (List.Sublist.refl _)
    · rw [if_neg h1]
      split
      · exact ih.trans (List.sublist_append_left _ _)
      · exact ih
theorem upK_less {S R : Int → Bool} (h : ∀ x, S x = true → R x = true) (hne : rowA R ≠ rowA S) : (upK S 40).length < (upK R 40).length := by
  have h1 := upK_sub h 40
  have h2 := h1.length_le
  apply Classical.byContradiction
  intro hc
  have h3 := h1.eq_of_length (by omega)
  refine hne (rowA_ext fun k hk => ?_)
  have h4 := upK_mem S 40 k
  have h5 := upK_mem R 40 k
  rw [h3, h5] at h4
  cases e : S k <;> cases e' : R k
  · rfl
  · rw [e, e'] at h4; simp at h4; omega
  · rw [e, e'] at h4; simp at h4; omega
  · rfl

/-- On the way to the least set. -/
structure OnUp (T : Int → Int → Bool) (S0 R : Int → Bool) : Prop where
  fit : Fit40 R
  base : ∀ x, S0 x = true → R x = true
  sound : ∀ S' : Int → Bool, (∀ x, S0 x = true → S' x = true) → (∀ l x, DT6 T l x → S' x = true → S' l = true) → ∀ x, R x = true → S' x = true
theorem OnUp.start {T : Int → Int → Bool} {S0 : Int → Bool} (h : Fit40 S0) : OnUp T S0 S0 := ⟨h, fun _ h => h, fun _ h0 _ x hx => h0 x hx⟩
theorem OnUp.step {T : Int → Int → Bool} {S0 R : Int → Bool} (hT : ∀ x, Fit40 (T x)) (h : OnUp T S0 R) : OnUp T S0 (stepR T R) :=
  ⟨stepR_fit hT h.fit, fun x hx => (stepR_is T R x).2 (.inl (h.base x hx)), fun S' h0 hs x hx => by
    rcases (stepR_is T R x).1 hx with h1 | ⟨y, h1, _, _, h2⟩
    · exact h.sound S' h0 hs x h1
    · exact hs x y h2 (h.sound S' h0 hs y h1)⟩
theorem OnUp.end_ {T : Int → Int → Bool} {S0 R : Int → Bool} (hT : ∀ x, Fit40 (T x)) (h : OnUp T S0 R) (he : rowA (stepR T R) = rowA R) : IsUp (DT6 T) S0 R := by
  have e := fit_eq (stepR_fit hT h.fit) h.fit he
  refine ⟨h.base, fun l x hd hx => ?_, h.sound⟩
  rw [← e]
  have := h.fit x hx
  exact (stepR_is T R l).2 (.inr ⟨x, hx, this.1, this.2, hd⟩)

/-- A row of all that stands for one of S0. -/
def GaveUps (w : World) (T : Int → Int → Bool) (S0 : Int → Bool) (e : Ending) (w' : World) : Prop :=
  ∃ S, e = .returned (.agg (rowA S)) ∧ Fit40 S ∧ IsUp (DT6 T) S0 S ∧ Below w.heap.size w w'

set_option maxRecDepth 20000 in
set_option maxHeartbeats 1000000 in
theorem closed_any (K : Nat) (T : Int → Int → Bool) (S0 : Int → Bool) (w : World) (hT : TabC w K T) (hfT : ∀ x, Fit40 (T x)) (hf : Fit40 S0) :
    Calls Tryd.prog 134 #[.pointer (some ⟨K, 0, none⟩), .agg (rowA S0)] w (GaveUps w T S0) := by
  have HZ := Lib.hid info_row
  have HS := Lib.hid size_row
  have HT := Lib.hid hT; clear hT
  have HFT := Lib.hid hfT; clear hfT
  have HO := Lib.hid (OnUp.start (T := T) hf); clear hf
  go_enter Tryd.func134, Tryd.ntmps134
  have HB0 : Hid (Below w.heap.size w ((w.alloc (.cells (rowA S0) 150)).alloc (.cells (rowA noS) 150))) := by show Below _ _ _; go_grown
  have HR0 : Hid (Row ((w.alloc (.cells (rowA S0) 150)).alloc (.cells (rowA noS) 150)) w.heap.size 150 (rowA S0)) := (Row.new _ _ _).alloc _
  have HR1 : Hid (Row ((w.alloc (.cells (rowA S0) 150)).alloc (.cells (rowA noS) 150)) (w.heap.size + 1) 150 (rowA noS)) := by
    have h := Row.new (w.alloc (.cells (rowA S0) 150)) 150 (rowA noS)
    rw [World.size_alloc] at h
    exact h
  go_wp2_with (first
    | with_reducible refine wpList_boxA rfl 150 (.tmp 1) rfl (rowA S0) rfl ?_
    | with_reducible refine wpList_allocA rfl 150 rfl (rowA noS) 40 HZ.out ?_
    | with_reducible refine wpList_loadA rfl 150 (.tmp 3) rfl w.heap.size 0 rfl (rowA S0) 40 4 Tryd.underlying150 (HS.out _) HR0.out.rowCells ?_)
  refine (step_any K T S0 _ (HT.out.keep HB0.out HT.out.1)).mono ?_
  have hW2 : w.heap.size + 2 = ((w.alloc (.cells (rowA S0) 150)).alloc (.cells (rowA noS) 150)).heap.size := by simp
  generalize (w.alloc (.cells (rowA S0) 150)).alloc (.cells (rowA noS) 150) = W at HB0 HR0 HR1 hW2 ⊢
  rintro e w1 ⟨rfl, hB1⟩
  have hs1 := hB1.size
  have HB1 := Lib.hid (HB0.out.trans (hB1.mono (by omega)))
  have HR01 := Lib.hid (HR0.out.below hB1 HR0.out.lt)
  have HR11 := Lib.hid (HR1.out.below hB1 HR1.out.lt)
  clear HB0 HR0 HR1 hB1
  have hKN : w.heap.size + 2 ≤ w1.heap.size := by omega
  have HRN : Hid (Row (w1.alloc (.cells (rowA noS) 150)) w1.heap.size 150 (rowA noS)) := Row.new _ _ _
  have HB2 : Hid (Below w.heap.size w ((w1.alloc (.cells (rowA noS) 150)).setRow w1.heap.size (rowA (stepR T S0)))) := below_setRow (HB1.out.alloc (by omega) _) (by omega) _
  have HR02 : Hid (Row ((w1.alloc (.cells (rowA noS) 150)).setRow w1.heap.size (rowA (stepR T S0))) w.heap.size 150 (rowA S0)) := (HR01.out.alloc _).setRow_far (by omega) _
  have HR12 : Hid (Row ((w1.alloc (.cells (rowA noS) 150)).setRow w1.heap.size (rowA (stepR T S0))) (w.heap.size + 1) 150 (rowA noS)) := (HR11.out.alloc _).setRow_far (by omega) _
  have HR22 : Hid (Row ((w1.alloc (.cells (rowA noS) 150)).setRow w1.heap.size (rowA (stepR T S0))) w1.heap.size 150 (rowA (stepR T S0))) := HRN.out.setRow _
  go_wp2_with (first
    | with_reducible refine wpList_allocA rfl 150 rfl (rowA noS) 40 HZ.out ?_
    | with_reducible refine wpList_storeA rfl 150 (.tmp 5) (.tmp 8) rfl w1.heap.size (rowA (stepR T S0)) rfl rfl 150 (rowA noS) HRN.out (HS.out _) (by rw [rowA_size, rowA_size]) (rowA_all _) ?_)
  clear HB1 HR01 HR11 HRN
  generalize (w1.alloc (.cells (rowA noS) 150)).setRow w1.heap.size (rowA (stepR T S0)) = W2 at HB2 HR02 HR12 HR22 ⊢
  generalize w1.heap.size = KN at hKN HR22 ⊢
  go_simp
  go_loopg [] (40 - (upK S0 40).length) (fun g wr => ∃ R, g = 40 - (upK R 40).length ∧ Hid (OnUp T S0 R) ∧ Hid (Below w.heap.size w wr) ∧ Hid (Row wr w.heap.size 150 (rowA R)) ∧ Hid (Row wr (w.heap.size + 1) 150 (rowA noS)) ∧ Hid (Row wr KN 150 (rowA (stepR T R))))
  case atStart => exact ⟨S0, rfl, HO.out, HB2.out, HR02.out, HR12.out, HR22.out⟩
  case round =>
    clear HO HB2 HR02 HR12 HR22
    obtain ⟨R, hgk, HO, HB, HR0, HR1, HRN⟩ := hrel
    go_wp2_with (first
      | with_reducible refine wpList_loadA rfl 150 (.tmp 3) rfl w.heap.size 0 rfl (rowA R) 40 4 Tryd.underlying150 (HS.out _) HR0.out.rowCells ?_
      | with_reducible refine wpList_loadA rfl 150 (.tmp 5) rfl KN 0 rfl (rowA (stepR T R)) 40 4 Tryd.underlying150 (HS.out _) HRN.out.rowCells ?_
      | with_reducible refine wpList_neqA rfl 150 (.tmp 9) (.tmp 10) _ rfl (stepR T R) R rfl rfl 4 Tryd.underlying150 Tryd.underlying4 (by kernel_rfl) (by kernel_rfl) ?_
      | with_reducible refine wpList_storeA rfl 150 (.tmp 4) (.tmp 16) rfl (w.heap.size + 1) (rowA R) rfl rfl 150 (rowA noS) HR1.out (HS.out _) (by rw [rowA_size, rowA_size]) (rowA_all _) ?_)
    · rename_i hne
      have hneq : ¬ rowA (stepR T R) = rowA R := bP_no (by simpa using hne)
      have hless := upK_less (fun x hx => (stepR_is T R x).2 (.inl hx)) hneq
      have hmax := upK_len (stepR T R) 40
      clear hne hneq
      go_simp
      have HD : Hid (Below wr.heap.size wr wr.drew) := by show Below _ _ _; go_grown
      have hws := HB.out.size
      have hws2 := HR1.out.lt
      have HON := Lib.hid (HO.out.step HFT.out)
      have HRD := Lib.hid (HRN.out.below HD.out HRN.out.lt)
      have HCALL : Hid (Calls Tryd.prog 158 #[.pointer (some ⟨K, 0, none⟩), .agg (rowA (stepR T R))] wr.drew fun e w' => e = .returned (.agg (rowA (stepR T (stepR T R)))) ∧ Below wr.drew.heap.size wr.drew w') := step_any K T (stepR T R) _ ((HT.out.keep HB.out HT.out.1).keep HD.out (Nat.lt_of_lt_of_le HT.out.1 hws))
      refine wp_region_any (by kernel_rfl) ?_
      change wpAny _ _ _ _ _ _ _ (World.drew _)
      refine wpAny_take (i := 1) (v := .pointer (some ⟨K, 0, none⟩)) rfl (by kernel_rfl) (by kernel_rfl) (by kernel_rfl) (fun _ _ _ h => h) (Or.inl ⟨by rfl, fun _ => by rfl⟩) ?_
      refine wpAny_ready (rs := [0, 2]) (by kernel_rfl) (by simp) ?_
      refine AllReady.cons rfl (fun K1 hK1 => step_loadA rfl 150 (.tmp 5) rfl KN 0 rfl (rowA (stepR T R)) 40 4 Tryd.underlying150 (HS.out _) HRD.out.rowCells (hK1 _ _ ?_)) (AllReady.cons rfl (fun K1 hK1 => step_loadA rfl 150 (.tmp 5) rfl KN 0 rfl (rowA (stepR T R)) 40 4 Tryd.underlying150 (HS.out _) HRD.out.rowCells (hK1 _ _ ?_)) AllReady.nil)
      · refine wpAny_ready (rs := [2]) (by kernel_rfl) (by simp) (AllReady.cons rfl (fun K2 hK2 => step_loadA rfl 150 (.tmp 5) rfl KN 0 rfl (rowA (stepR T R)) 40 4 Tryd.underlying150 (HS.out _) HRD.out.rowCells (hK2 _ _ ?_)) AllReady.nil)
        refine wpAny_ready (rs := [3]) (by kernel_rfl) (by simp) (AllReady.cons rfl (fun K3 hK3 => ?_) AllReady.nil)
        go_simp
        refine HCALL.out.mono ?_
        rintro e w2 ⟨rfl, hB2⟩
        refine hK3 _ _ ?_
        have hB2' : Below wr.heap.size wr w2 := HD.out.trans (hB2.mono HD.out.size)
        have HQ0 := Lib.hid (HR0.out.below hB2' HR0.out.lt)
        have HQ1 := Lib.hid (HR1.out.below hB2' HR1.out.lt)
        have HQN := Lib.hid (HRN.out.below hB2' HRN.out.lt)
        have HBQ := Lib.hid (HB.out.trans (hB2'.mono hws))
        have HX0 := Lib.hid (HQ0.out.setRow (rowA (stepR T R)))
        have HX1 := Lib.hid (HQ1.out.setRow_far (k := w.heap.size) (by omega) (rowA (stepR T R)))
        have HXN := Lib.hid (HQN.out.setRow_far (k := w.heap.size) (by omega) (rowA (stepR T R)))
        have HY0 := Lib.hid (HX0.out.setRow_far (k := KN) (by omega) (rowA (stepR T (stepR T R))))
        have HY1 := Lib.hid (HX1.out.setRow_far (k := KN) (by omega) (rowA (stepR T (stepR T R))))
        have HYN := Lib.hid (HXN.out.setRow (rowA (stepR T (stepR T R))))
        have HBY := Lib.hid (below_setRow (below_setRow HBQ.out (Nat.le_refl w.heap.size) (rowA (stepR T R))) (g := KN) (by omega) (rowA (stepR T (stepR T R))))
        clear hB2 hB2'
        refine wpAny_ready (rs := [4]) (by kernel_rfl) (by simp) (AllReady.cons rfl (fun K4 hK4 => step_storeA rfl 150 (.tmp 3) (.tmp 12) rfl w.heap.size (rowA (stepR T R)) rfl rfl 150 (rowA R) HQ0.out (HS.out _) (by rw [rowA_size, rowA_size]) (rowA_all _) (hK4 _ _ ?_)) AllReady.nil)
        refine wpAny_ready (rs := [5]) (by kernel_rfl) (by simp) (AllReady.cons rfl (fun K5 hK5 => step_storeA rfl 150 (.tmp 5) (.tmp 15) rfl KN (rowA (stepR T (stepR T R))) rfl rfl 150 (rowA (stepR T R)) HXN.out (HS.out _) (by rw [rowA_size, rowA_size]) (rowA_all _) (hK5 _ _ ?_)) AllReady.nil)
        refine wpAny_done (by kernel_rfl) ?_ _
        go_simp
        go_wp2
        go_roundg (40 - (upK (stepR T R) 40).length)
        case measure => omega
        case rel => exact ⟨stepR T R, rfl, HON.out, HBY.out, HY0.out, HY1.out, HYN.out⟩
      · refine wpAny_ready (rs := [0, 3]) (by kernel_rfl) (by simp) (AllReady.cons rfl (fun K2 hK2 => step_loadA rfl 150 (.tmp 5) rfl KN 0 rfl (rowA (stepR T R)) 40 4 Tryd.underlying150 (HS.out _) HRD.out.rowCells (hK2 _ _ ?_)) (AllReady.cons rfl (fun K3 hK3 => ?_) AllReady.nil))
        · refine wpAny_ready (rs := [3]) (by kernel_rfl) (by simp) (AllReady.cons rfl (fun K3 hK3 => ?_) AllReady.nil)
          go_simp
          refine HCALL.out.mono ?_
          rintro e w2 ⟨rfl, hB2⟩
          refine hK3 _ _ ?_
          have hB2' : Below wr.heap.size wr w2 := HD.out.trans (hB2.mono HD.out.size)
          have HQ0 := Lib.hid (HR0.out.below hB2' HR0.out.lt)
          have HQ1 := Lib.hid (HR1.out.below hB2' HR1.out.lt)
          have HQN := Lib.hid (HRN.out.below hB2' HRN.out.lt)
          have HBQ := Lib.hid (HB.out.trans (hB2'.mono hws))
          have HX0 := Lib.hid (HQ0.out.setRow (rowA (stepR T R)))
          have HX1 := Lib.hid (HQ1.out.setRow_far (k := w.heap.size) (by omega) (rowA (stepR T R)))
          have HXN := Lib.hid (HQN.out.setRow_far (k := w.heap.size) (by omega) (rowA (stepR T R)))
          have HY0 := Lib.hid (HX0.out.setRow_far (k := KN) (by omega) (rowA (stepR T (stepR T R))))
          have HY1 := Lib.hid (HX1.out.setRow_far (k := KN) (by omega) (rowA (stepR T (stepR T R))))
          have HYN := Lib.hid (HXN.out.setRow (rowA (stepR T (stepR T R))))
          have HBY := Lib.hid (below_setRow (below_setRow HBQ.out (Nat.le_refl w.heap.size) (rowA (stepR T R))) (g := KN) (by omega) (rowA (stepR T (stepR T R))))
          clear hB2 hB2'
          refine wpAny_ready (rs := [4]) (by kernel_rfl) (by simp) (AllReady.cons rfl (fun K4 hK4 => step_storeA rfl 150 (.tmp 3) (.tmp 12) rfl w.heap.size (rowA (stepR T R)) rfl rfl 150 (rowA R) HQ0.out (HS.out _) (by rw [rowA_size, rowA_size]) (rowA_all _) (hK4 _ _ ?_)) AllReady.nil)
          refine wpAny_ready (rs := [5]) (by kernel_rfl) (by simp) (AllReady.cons rfl (fun K5 hK5 => step_storeA rfl 150 (.tmp 5) (.tmp 15) rfl KN (rowA (stepR T (stepR T R))) rfl rfl 150 (rowA (stepR T R)) HXN.out (HS.out _) (by rw [rowA_size, rowA_size]) (rowA_all _) (hK5 _ _ ?_)) AllReady.nil)
          refine wpAny_done (by kernel_rfl) ?_ _
          go_simp
          go_wp2
          go_roundg (40 - (upK (stepR T R) 40).length)
          case measure => omega
          case rel => exact ⟨stepR T R, rfl, HON.out, HBY.out, HY0.out, HY1.out, HYN.out⟩
        · go_simp
          refine HCALL.out.mono ?_
          rintro e w2 ⟨rfl, hB2⟩
          refine hK3 _ _ ?_
          have hB2' : Below wr.heap.size wr w2 := HD.out.trans (hB2.mono HD.out.size)
          have HQ0 := Lib.hid (HR0.out.below hB2' HR0.out.lt)
          have HQ1 := Lib.hid (HR1.out.below hB2' HR1.out.lt)
          have HQN := Lib.hid (HRN.out.below hB2' HRN.out.lt)
          have HBQ := Lib.hid (HB.out.trans (hB2'.mono hws))
          have HX0 := Lib.hid (HQ0.out.setRow (rowA (stepR T R)))
          have HX1 := Lib.hid (HQ1.out.setRow_far (k := w.heap.size) (by omega) (rowA (stepR T R)))
          have HXN := Lib.hid (HQN.out.setRow_far (k := w.heap.size) (by omega) (rowA (stepR T R)))
          have HY0 := Lib.hid (HX0.out.setRow_far (k := KN) (by omega) (rowA (stepR T (stepR T R))))
          have HY1 := Lib.hid (HX1.out.setRow_far (k := KN) (by omega) (rowA (stepR T (stepR T R))))
          have HYN := Lib.hid (HXN.out.setRow (rowA (stepR T (stepR T R))))
          have HBY := Lib.hid (below_setRow (below_setRow HBQ.out (Nat.le_refl w.heap.size) (rowA (stepR T R))) (g := KN) (by omega) (rowA (stepR T (stepR T R))))
          clear hB2 hB2'
          refine wpAny_ready (rs := [0]) (by kernel_rfl) (by simp) (AllReady.cons rfl (fun K2 hK2 => step_loadA rfl 150 (.tmp 5) rfl KN 0 rfl (rowA (stepR T R)) 40 4 Tryd.underlying150 (HS.out _) HQN.out.rowCells (hK2 _ _ ?_)) AllReady.nil)
          refine wpAny_ready (rs := [4]) (by kernel_rfl) (by simp) (AllReady.cons rfl (fun K4 hK4 => step_storeA rfl 150 (.tmp 3) (.tmp 12) rfl w.heap.size (rowA (stepR T R)) rfl rfl 150 (rowA R) HQ0.out (HS.out _) (by rw [rowA_size, rowA_size]) (rowA_all _) (hK4 _ _ ?_)) AllReady.nil)
          refine wpAny_ready (rs := [5]) (by kernel_rfl) (by simp) (AllReady.cons rfl (fun K5 hK5 => step_storeA rfl 150 (.tmp 5) (.tmp 15) rfl KN (rowA (stepR T (stepR T R))) rfl rfl 150 (rowA (stepR T R)) HXN.out (HS.out _) (by rw [rowA_size, rowA_size]) (rowA_all _) (hK5 _ _ ?_)) AllReady.nil)
          refine wpAny_done (by kernel_rfl) ?_ _
          go_simp
          go_wp2
          go_roundg (40 - (upK (stepR T R) 40).length)
          case measure => omega
          case rel => exact ⟨stepR T R, rfl, HON.out, HBY.out, HY0.out, HY1.out, HYN.out⟩
    · rename_i he
      have heq : rowA (stepR T R) = rowA R := bP_is (by simpa using he)
      have HU := Lib.hid (HO.out.end_ HFT.out heq)
      clear he heq
      have HX1 := Lib.hid (HR1.out.setRow (rowA R))
      have HBX := Lib.hid (below_setRow HB.out (Nat.le_succ w.heap.size) (rowA R))
      refine bodyPost_ret (v := .agg (rowA R)) ?_ rfl ⟨R, rfl, HO.out.fit, HU.out, HBX.out⟩
      exact results_cell_row Tryd.results134 _ _ (w.heap.size + 1) 150 (rowA R) (0, 0) _ rfl HX1.out Tryd.underlying150 rfl (HS.out _)

end Go.Proofs.YtfbpcdmpkbjifaaDoor

/- What the reference's l5Rising and GoodBinary answer. -/

namespace Go.Proofs.YtfbpcdmpkbjifaaDoor
open Go.RowKit
open Go.Sort (grow)

theorem cell0 {w : World} {B : Nat} {A : Option Addr} {xs : List Int} (h : Ints w B A xs) (h0 : 0 < xs.length) : ∃ b o, A = some ⟨b, o, none⟩ ∧ b < B ∧ w.cell? ⟨b, o, none⟩ = some (.int .i64 (xs.getD 0 0)) := by
  obtain ⟨b, o, e, hb, hc⟩ := h.at_ h0
  exact ⟨b, o, e, hb, by rw [getD_zero h0]; exact hc⟩

/-- The first k lists are as they should be. -/
def RisTo (n t long : Int) (xs : List (List Int)) (k : Nat) : Prop := LongTo long xs k ∧ SymTo n t xs k ∧ RiseTo xs k

set_option maxRecDepth 20000 in
set_option maxHeartbeats 1000000 in
theorem l5Rising_any (b : Bi) (long : Nat) (hl2 : 2 ≤ long) (hl3 : long ≤ 3) (A : Option Addr) (ls : List Li) (c : Nat) (w : World) (hn : 1 ≤ b.n) (hn' : b.n ≤ 40) (ht : 1 ≤ b.t) (ht' : b.t ≤ 4) (hx : Lls w w.heap.size A ls) (h1 : ls.length ≤ 1048576) (h2 : ∀ u ∈ ls, u.r.length ≤ 1048576) :
    Calls Tryd.prog 148 #[(.agg #[.int .i64 b.n, .int .i64 b.t, .slice b.Ap b.P.length b.cp, .slice b.Ao b.O.length b.co, .slice b.Ae b.E.length b.ce, .slice b.Af b.F.length b.cf]), .slice A ls.length c, .int .i64 long] w fun e w' => e = .returned (.bool (bP (GoodLs b.n b.t long (sayL ls)))) ∧ Below w.heap.size w w' := by
  have HX := Lib.hid hx; clear hx
  have H2 := Lib.hid h2; clear h2
  have HLN : Hid ((sayL ls).length = ls.length) := sayL_len
  have hB0 : Below w.heap.size w (w.alloc (.cells #[.int .i64 b.n, .int .i64 b.t, .slice b.Ap b.P.length b.cp, .slice b.Ao b.O.length b.co, .slice b.Ae b.E.length b.ce, .slice b.Af b.F.length b.cf] 55)) := by go_grown
  have BX0 := Box6.new w b 55
  go_enter Tryd.func148, Tryd.ntmps148
  go_wp2
  generalize (w.alloc (.cells #[.int .i64 b.n, .int .i64 b.t, .slice b.Ap b.P.length b.cp, .slice b.Ao b.O.length b.co, .slice b.Ae b.E.length b.ce, .slice b.Af b.F.length b.cf] 55)) = W at hB0 BX0 ⊢
  go_loopw [13] (fun i wr => ∃ (k : Nat), k ≤ ls.length ∧ i = .int .i64 k ∧ Below w.heap.size w wr ∧ Box6 wr w.heap.size b ∧ Hid (RisTo b.n b.t long (sayL ls) k)) (fun i _ => ls.length - (intOf i).toNat)
  case atStart => exact ⟨0, by omega, rfl, hB0, BX0, fun j x h => absurd h (by omega), fun j x h => absurd h (by omega), RiseTo.zero _⟩
  case round =>
    clear hB0 BX0
    obtain ⟨k, hk, rfl, hB, hbox, H⟩ := hrel
    by_cases hlt : k < ls.length
    · obtain ⟨p, o, rfl, hb, c1, c2, c3⟩ := (HX.out.keep hB).at_ hlt
      obtain ⟨g0, g1, g2, g3, g4, g5, g6⟩ := id hbox
      have HBX := Lib.hid hbox; clear hbox
      have hlen2 := H2.out ls[k] (List.getElem_mem hlt)
      have HRG : Hid (∀ d os, Below w.heap.size w (grow (redrawn wr d) os)) := fun d os => hB.trans ((below_regrown wr d os).mono hB.size)
      have HWR : Hid (∀ d os, Below wr.heap.size wr (grow (redrawn wr d) os)) := fun d os => below_regrown wr d os
      by_cases hne : (ls[k].r.length : Int) = long
      case neg =>
        have hd : ((ls[k].r.length : Int) != (long : Int)) = true := bne_t hne
        have HE : Hid (bP (GoodLs b.n b.t long (sayL ls)) = false) := bP_f fun h => hne (h.1 k _ (by rw [HLN.out]; exact hlt) (sayL_at hlt))
        clear hne c2 c3 g1 g2 g3 g4 g5 g6
        go_wp2
        refine wp_region_quiet_below (by kernel_rfl) (by kernel_rfl) ?_
        repeat (first | go_big_quiet_step (fail) | quiet_step (fail))
        refine wpQuiet_nil ?_
        intro _ hw'
        obtain ⟨⟨dq, osq⟩, hw''⟩ := hw'
        subst hw''
        go_wp2
        go_ret
        exact ⟨ret_b HE.out.symm, HRG.out dq osq⟩
      have hd : ((ls[k].r.length : Int) != (long : Int)) = false := bne_f hne
      have HLK : Hid ((ls[k].r.length : Int) = long) := hne
      have hr0 : 1 < ls[k].r.length := by omega
      have hc0 : 1 < ls[k].c := by omega
      have hci : (1 : Int) < (ls[k].c : Int) := by omega
      have hri : (1 : Int) < (ls[k].r.length : Int) := by omega
      have hr00 : (0 : Int) < (ls[k].r.length : Int) := by omega
      clear hne c2
      obtain ⟨p', o', ea, hb', d1⟩ := cell0 c3 (by omega)
      have C3 := Lib.hid (c3.more hB.size); clear c3
      have c1' := c1
      rw [ea] at c1' C3
      have q0 := cell_regrown d1
      have q1 := cell_regrown g1
      clear c1 g1 g2 g3 g4 g5 g6 d1
      generalize hx0 : ls[k].r.getD 0 0 = x0 at q0
      have HX0 := Lib.hid hx0; clear hx0
      have hwn : IntKind.i64.wrap (b.n - 1) = b.n - 1 := by rw [IntKind.wrap_i64]; omega
      have HCG : Hid (∀ d os, Calls Tryd.prog 64 #[.int .i64 x0, .int .i64 0, .int .i64 (b.n - 1)] (grow (redrawn wr d) os) fun e w' => e = .returned (.bool (nonB b.n x0)) ∧ Below (grow (redrawn wr d) os).heap.size (grow (redrawn wr d) os) w') := fun d os => by
        have h := l1In_any x0 0 (b.n - 1) (grow (redrawn wr d) os)
        rw [non_in] at h
        exact h.mono fun e w' ⟨h1, h2⟩ => ⟨h1, h2 ▸ Below.refl _ _⟩
      cases hu : nonB b.n x0
      case false =>
        have HU := Lib.hid hu; clear hu
        have HE : Hid (bP (GoodLs b.n b.t long (sayL ls)) = false) := bP_f fun h => by
          have h1 := (h.2.1 k _ (by rw [HLN.out]; exact hlt) (sayL_at hlt)).1
          rw [HX0.out, HU.out] at h1; cases h1
        rw [HU.out] at HCG
        go_wp2
        refine wp_region_quiet_below (by kernel_rfl) (by kernel_rfl) ?_
        repeat (first | go_big_quiet_step (exact Calls.regrown_of (HCG.out _ _)) | quiet_step (exact Calls.regrown_of (HCG.out _ _)))
        refine wpQuiet_nil ?_
        intro _ hw'
        obtain ⟨⟨dq, osq⟩, hw''⟩ := hw'
        subst hw''
        go_wp2
        go_ret
        exact ⟨ret_b HE.out.symm, HRG.out dq osq⟩
      have HU := Lib.hid hu; clear hu
      rw [HU.out] at HCG
      have HNL : Hid (LongTo long (sayL ls) (k + 1)) := upto_next (Q := fun x : List Int => (x.length : Int) = long) (sayL_at hlt) HLK.out H.out.1
      by_cases hk0 : k = 0
      · have hpos : decide (0 < k) = false := decide_eq_false (by omega)
        have hpos' : ¬ 0 < k := by omega
        have HNR : Hid (RiseTo (sayL ls) (k + 1)) := by rw [hk0]; exact RiseTo.none _
        clear hk0
        go_wp2
        refine wp_region_quiet_below (by kernel_rfl) (by kernel_rfl) ?_
        repeat (first | go_big_quiet_step (exact Calls.regrown_of (HCG.out _ _)) | quiet_step (exact Calls.regrown_of (HCG.out _ _)))
        refine wpQuiet_nil ?_
        intro _ hw'
        obtain ⟨⟨dq, osq⟩, hw''⟩ := hw'
        subst hw''
        have hBQ := HRG.out dq osq
        have hbq := HBX.out.keep (HWR.out dq osq) g0
        have CQ := Lib.hid ((C3.out.keep (HWR.out dq osq)).more (HWR.out dq osq).size)
        generalize (grow (redrawn wr dq) osq) = wq at hBQ hbq CQ ⊢
        have HCD : Hid (Ints wq wq.heap.size (some ⟨p', o' + 1, none⟩) (ls[k].r.drop 1)) := CQ.out.drop1
        have hdl : (ls[k].r.drop 1).length = ls[k].r.length - 1 := List.length_drop
        have HDL := Lib.hid hdl; clear hdl
        clear q0 q1 HCG CQ c1'
        obtain ⟨wA, hwA⟩ : ∃ x, x = wr := ⟨wr, rfl⟩
        subst hwA
        go_wp2
        go_loopw [49] (fun i wr => ∃ (m : Nat), m ≤ ls[k].r.length - 1 ∧ i = .int .i64 m ∧ Below wq.heap.size wq wr ∧ Box6 wr w.heap.size b ∧ Hid (∀ (j : Nat) (x : Int), j < m → (ls[k].r.drop 1)[j]? = some x → symB b.n b.t x = true)) (fun i _ => ls[k].r.length - 1 - (intOf i).toNat)
        case atStart => exact ⟨0, by omega, rfl, Below.refl _ _, hbq, fun j x h => absurd h (by omega)⟩
        case round =>
          obtain ⟨m, hm, rfl, hBm, hbm, HM⟩ := hrel
          by_cases hmt : m < ls[k].r.length - 1
          · obtain ⟨p2, o2, e2, _, cm⟩ := (HCD.out.keep hBm).at_ (k := m) (by rw [HDL.out]; exact hmt)
            injection e2 with e2
            injection e2 with e3 e4
            subst e3 e4
            obtain ⟨m0, m1, m2, m3, m4, m5, m6⟩ := id hbm
            have HBM := Lib.hid hbm; clear hbm
            generalize hxm : (ls[k].r.drop 1)[m]'(by rw [HDL.out]; exact hmt) = xm at cm
            have HXM : Hid ((ls[k].r.drop 1)[m]? = some xm) := by show _ = _; rw [List.getElem?_eq_getElem (by rw [HDL.out]; exact hmt), hxm]
            clear hxm
            cases hs : symB b.n b.t xm
            all_goals
              have HSY := Lib.hid hs; clear hs
              go_wp2_with fail
              refine (l5Symbol_any b _ _ hn hn' ht ht').mono ?_
              rintro e w3 ⟨rfl, hB3⟩
              rw [HSY.out]
              have hB4 : Below wq.heap.size wq w3 := hBm.trans (hB3.mono hBm.size)
            · have HE : Hid (bP (GoodLs b.n b.t long (sayL ls)) = false) := bP_f fun h => by
                have h1 := (h.2.1 k _ (by rw [HLN.out]; exact hlt) (sayL_at hlt)).2
                have h2 := symsB_iff.1 h1 m xm HXM.out
                rw [HSY.out] at h2; cases h2
              go_wp2
              go_ret
              exact ⟨ret_b HE.out.symm, hBQ.trans (hB4.mono hBQ.size)⟩
            · have HN : Hid (∀ (j : Nat) (x : Int), j < m + 1 → (ls[k].r.drop 1)[j]? = some x → symB b.n b.t x = true) := upto_next (Q := fun x => symB b.n b.t x = true) HXM.out HSY.out HM.out
              go_wp2
              go_roundw
              case rel => exact ⟨m + 1, by omega, by go_num, hB4, HBM.out.keep hB3 m0, HN.out⟩
              case measure => simp [intOf]; omega
          · have HS : Hid (SymTo b.n b.t (sayL ls) (k + 1)) := upto_next (Q := symL b.n b.t) (sayL_at hlt) ⟨by rw [HX0.out]; exact HU.out, symsB_of (k := m) (by rw [HDL.out]; exact hmt) HM.out⟩ H.out.2.1
            have HBM := Lib.hid hbm; clear hbm
            go_wp2
            go_roundw
            case rel => exact ⟨k + 1, by omega, by go_num, hBQ.trans (hBm.mono hBQ.size), HBM.out, HNL.out, HS.out, HNR.out⟩
            case measure => simp [intOf]; omega
      · have hpos : decide (0 < k) = true := decide_eq_true (by omega)
        have hpos' : 0 < k := by omega
        obtain ⟨j, hj⟩ : ∃ j, k = j + 1 := ⟨k - 1, by omega⟩
        have hltj : j < ls.length := by omega
        have hwk : IntKind.i64.wrap ((k : Int) - 1) = (j : Int) := by rw [IntKind.wrap_i64]; omega
        have hjl : (j : Int) < (ls.length : Int) := by omega
        obtain ⟨pp, oo, e', _, d1, d2, d3⟩ := (HX.out.keep hB).at_ hltj
        injection e' with e'
        injection e' with e1 e2
        subst e1 e2
        have qj := cell_regrown d1
        have D3 := Lib.hid (d3.more hB.size); clear d1 d2 d3
        have HLJ : Hid ((ls[j].r.length : Int) = long) := H.out.1 j _ (by omega) (sayL_at hltj)
        have hl21 : ls[j].r.length ≤ ls[k].r.length := by have := HLJ.out; have := HLK.out; omega
        have hl22 : ls[k].r.length ≤ ls[j].r.length := by have := HLJ.out; have := HLK.out; omega
        have hlenj := H2.out ls[j] (List.getElem_mem hltj)
        have HCH : Hid (∀ d os, Calls Tryd.prog 171 #[.slice ls[j].a ls[j].r.length ls[j].c, .slice (some ⟨p', o', none⟩) ls[k].r.length ls[k].c] (grow (redrawn wr d) os) fun e w' => e = .returned (.bool (bP (cmpL ls[j].r ls[k].r < 0))) ∧ Below (grow (redrawn wr d) os).heap.size (grow (redrawn wr d) os) w') := fun d os =>
          l5Less_any _ _ _ _ _ _ _ ((D3.out.keep (HWR.out d os)).more (HWR.out d os).size) ((C3.out.keep (HWR.out d os)).more (HWR.out d os).size) hlenj hl21 hl22
        have HJ := Lib.hid hj; clear hj
        cases hq : bP (cmpL ls[j].r ls[k].r < 0)
        · have HQ := Lib.hid hq; clear hq
          have HE : Hid (bP (GoodLs b.n b.t long (sayL ls)) = false) := bP_f fun h => bP_no HQ.out (h.2.2 j _ _ (by rw [HLN.out, ← HJ.out]; exact hlt) (sayL_at hltj) (by rw [← HJ.out]; exact sayL_at hlt))
          rw [HQ.out] at HCH
          clear hl21 hl22
          go_wp2
          refine wp_region_quiet_below (by kernel_rfl) (by kernel_rfl) ?_
          repeat (first | go_big_quiet_step (first | with_reducible exact Calls.regrown_of (HCG.out _ _) | exact Calls.regrown_of (HCH.out _ _)) | quiet_step (first | with_reducible exact Calls.regrown_of (HCG.out _ _) | exact Calls.regrown_of (HCH.out _ _)))
          refine wpQuiet_nil ?_
          intro _ hw'
          obtain ⟨⟨dq, osq⟩, hw''⟩ := hw'
          subst hw''
          go_wp2
          go_ret
          exact ⟨ret_b HE.out.symm, HRG.out dq osq⟩
        have HQ := Lib.hid hq; clear hq
        have HNR : Hid (RiseTo (sayL ls) (k + 1)) := by
          have h := H.out.2.2
          rw [HJ.out] at h
          have h' := h.step (b := ls[k].r) (sayL_at hltj) (by rw [← HJ.out]; exact sayL_at hlt) (bP_is HQ.out)
          rw [HJ.out]; exact h'
        rw [HQ.out] at HCH
        clear hl21 hl22
        go_wp2
        refine wp_region_quiet_below (by kernel_rfl) (by kernel_rfl) ?_
        repeat (first | go_big_quiet_step (first | with_reducible exact Calls.regrown_of (HCG.out _ _) | exact Calls.regrown_of (HCH.out _ _)) | quiet_step (first | with_reducible exact Calls.regrown_of (HCG.out _ _) | exact Calls.regrown_of (HCH.out _ _)))
        refine wpQuiet_nil ?_
        intro _ hw'
        obtain ⟨⟨dq, osq⟩, hw''⟩ := hw'
        subst hw''
        clear qj HCH hwk hjl
        have hBQ := HRG.out dq osq
        have hbq := HBX.out.keep (HWR.out dq osq) g0
        have CQ := Lib.hid ((C3.out.keep (HWR.out dq osq)).more (HWR.out dq osq).size)
        generalize (grow (redrawn wr dq) osq) = wq at hBQ hbq CQ ⊢
        have HCD : Hid (Ints wq wq.heap.size (some ⟨p', o' + 1, none⟩) (ls[k].r.drop 1)) := CQ.out.drop1
        have hdl : (ls[k].r.drop 1).length = ls[k].r.length - 1 := List.length_drop
        have HDL := Lib.hid hdl; clear hdl
        clear q0 q1 HCG CQ c1'
        obtain ⟨wA, hwA⟩ : ∃ x, x = wr := ⟨wr, rfl⟩
        subst hwA
        go_wp2
        go_loopw [49] (fun i wr => ∃ (m : Nat), m ≤ ls[k].r.length - 1 ∧ i = .int .i64 m ∧ Below wq.heap.size wq wr ∧ Box6 wr w.heap.size b ∧ Hid (∀ (j : Nat) (x : Int), j < m → (ls[k].r.drop 1)[j]? = some x → symB b.n b.t x = true)) (fun i _ => ls[k].r.length - 1 - (intOf i).toNat)
        case atStart => exact ⟨0, by omega, rfl, Below.refl _ _, hbq, fun j x h => absurd h (by omega)⟩
        case round =>
          obtain ⟨m, hm, rfl, hBm, hbm, HM⟩ := hrel
          by_cases hmt : m < ls[k].r.length - 1
          · obtain ⟨p2, o2, e2, _, cm⟩ := (HCD.out.keep hBm).at_ (k := m) (by rw [HDL.out]; exact hmt)
            injection e2 with e2
            injection e2 with e3 e4
            subst e3 e4
            obtain ⟨m0, m1, m2, m3, m4, m5, m6⟩ := id hbm
            have HBM := Lib.hid hbm; clear hbm
            generalize hxm : (ls[k].r.drop 1)[m]'(by rw [HDL.out]; exact hmt) = xm at cm
            have HXM : Hid ((ls[k].r.drop 1)[m]? = some xm) := by show _ = _; rw [List.getElem?_eq_getElem (by rw [HDL.out]; exact hmt), hxm]
            clear hxm
            cases hs : symB b.n b.t xm
            all_goals
              have HSY := Lib.hid hs; clear hs
              go_wp2_with fail
              refine (l5Symbol_any b _ _ hn hn' ht ht').mono ?_
              rintro e w3 ⟨rfl, hB3⟩
              rw [HSY.out]
              have hB4 : Below wq.heap.size wq w3 := hBm.trans (hB3.mono hBm.size)
            · have HE : Hid (bP (GoodLs b.n b.t long (sayL ls)) = false) := bP_f fun h => by
                have h1 := (h.2.1 k _ (by rw [HLN.out]; exact hlt) (sayL_at hlt)).2
                have h2 := symsB_iff.1 h1 m xm HXM.out
                rw [HSY.out] at h2; cases h2
              go_wp2
              go_ret
              exact ⟨ret_b HE.out.symm, hBQ.trans (hB4.mono hBQ.size)⟩
            · have HN : Hid (∀ (j : Nat) (x : Int), j < m + 1 → (ls[k].r.drop 1)[j]? = some x → symB b.n b.t x = true) := upto_next (Q := fun x => symB b.n b.t x = true) HXM.out HSY.out HM.out
              go_wp2
              go_roundw
              case rel => exact ⟨m + 1, by omega, by go_num, hB4, HBM.out.keep hB3 m0, HN.out⟩
              case measure => simp [intOf]; omega
          · have HS : Hid (SymTo b.n b.t (sayL ls) (k + 1)) := upto_next (Q := symL b.n b.t) (sayL_at hlt) ⟨by rw [HX0.out]; exact HU.out, symsB_of (k := m) (by rw [HDL.out]; exact hmt) HM.out⟩ H.out.2.1
            have HBM := Lib.hid hbm; clear hbm
            go_wp2
            go_roundw
            case rel => exact ⟨k + 1, by omega, by go_num, hBQ.trans (hBm.mono hBQ.size), HBM.out, HNL.out, HS.out, HNR.out⟩
            case measure => simp [intOf]; omega
    · have HN : Hid (bP (GoodLs b.n b.t long (sayL ls)) = true) := bP_t ⟨upto_end (Q := fun x : List Int => (x.length : Int) = long) (k := k) (by rw [HLN.out]; exact hlt) H.out.1, upto_end (Q := symL b.n b.t) (k := k) (by rw [HLN.out]; exact hlt) H.out.2.1, H.out.2.2.mono (.inr (by rw [HLN.out]; omega))⟩
      clear hbox
      go_wp2
      go_ret
      exact ⟨ret_b HN.out.symm, hB⟩

end Go.Proofs.YtfbpcdmpkbjifaaDoor

/- What the reference's GoodBinary answers. -/

namespace Go.Proofs.YtfbpcdmpkbjifaaDoor
open Go.RowKit
open Go.Sort (grow)

set_option maxRecDepth 20000 in
set_option maxHeartbeats 1000000 in
theorem specGoodB_any (b : Bi) (w : World) (hx : ReadB w w.heap.size b) (hm : LenB 1048576 b) :
    Calls Tryd.prog 116 #[(.agg #[.int .i64 b.n, .int .i64 b.t, .slice b.Ap b.P.length b.cp, .slice b.Ao b.O.length b.co, .slice b.Ae b.E.length b.ce, .slice b.Af b.F.length b.cf])] w fun e w' => e = .returned (.bool (bP (GoodBs b.say))) ∧ Below w.heap.size w w' := by
  have HX := Lib.hid hx; clear hx
  have HM := Lib.hid hm; clear hm
  have hB0 : Below w.heap.size w (w.alloc (.cells #[.int .i64 b.n, .int .i64 b.t, .slice b.Ap b.P.length b.cp, .slice b.Ao b.O.length b.co, .slice b.Ae b.E.length b.ce, .slice b.Af b.F.length b.cf] 55)) := by go_grown
  have BX0 := Box6.new w b 55
  go_enter Tryd.func116, Tryd.ntmps116
  go_wp2_with fail
  generalize (w.alloc (.cells #[.int .i64 b.n, .int .i64 b.t, .slice b.Ap b.P.length b.cp, .slice b.Ao b.O.length b.co, .slice b.Ae b.E.length b.ce, .slice b.Af b.F.length b.cf] 55)) = W at hB0 BX0 ⊢
  have HB0 := Lib.hid hB0; clear hB0
  have HBX0 := Lib.hid BX0; clear BX0
  obtain ⟨_, b0, b1, b2, b3, b4, b5⟩ := HBX0.out
  refine (l1In_any _ _ _ _).mono ?_
  rintro e w1 ⟨rfl, rfl⟩
  cases hn : inB 1 40 b.n
  · have HE : Hid (bP (GoodBs b.say) = false) := bP_f fun h => inB_not hn h.1
    clear hn
    go_wp2
    go_ret
    exact ⟨ret_b HE.out.symm, HB0.out⟩
  have HN := Lib.hid (inB_and hn); clear hn
  go_wp2_with fail
  refine (l1In_any _ _ _ _).mono ?_
  rintro e w1 ⟨rfl, rfl⟩
  cases ht : inB 1 4 b.t
  · have HE : Hid (bP (GoodBs b.say) = false) := bP_f fun h => inB_not ht h.2.1
    clear ht
    go_wp2
    go_ret
    exact ⟨ret_b HE.out.symm, HB0.out⟩
  have HT := Lib.hid (inB_and ht); clear ht
  have HFN : Hid ((sayL b.F).length = b.F.length) := sayL_len
  by_cases hfl : (b.F.length : Int) ≤ b.n
  case neg =>
    have HE : Hid (bP (GoodBs b.say) = false) := bP_f fun h => hfl (by have : ((sayL b.F).length : Int) ≤ b.n := h.2.2.2.2.2.1; rw [HFN.out] at this; exact this)
    go_wp2
    go_ret
    exact ⟨ret_b HE.out.symm, HB0.out⟩
  go_wp2
  have HFL : Hid ((b.F.length : Int) ≤ b.n) := hfl
  have hmF : b.F.length ≤ 1048576 := HM.out.f
  go_loopw [26] (fun i wr => ∃ (k : Nat), k ≤ b.F.length ∧ i = .int .i64 k ∧ Below w.heap.size w wr ∧ Box6 wr w.heap.size b ∧ Hid (LongTo 2 (sayL b.F) k)) (fun i _ => b.F.length - (intOf i).toNat)
  case atStart => exact ⟨0, by omega, rfl, HB0.out, HBX0.out, fun j x h => absurd h (by omega)⟩
  case round =>
    clear b0 b1 b2 b3 b4 b5 HBX0 HB0
    obtain ⟨k, hk, rfl, hB, hbox, H⟩ := hrel
    by_cases hlt : k < b.F.length
    · have HBX := Lib.hid hbox; clear hbox
      obtain ⟨p, o, ep, hb, c1, c2, c3⟩ := (HX.out.2.2.2.keep hB).at_ hlt
      have hmf := HM.out.fs _ (List.getElem_mem hlt)
      clear c2 c3
      rw [ep]
      by_cases hne : ((b.F[k].r.length : Nat) : Int) = 2
      · have HNX : Hid (LongTo 2 (sayL b.F) (k + 1)) := upto_next (Q := fun x : List Int => (x.length : Int) = 2) (sayL_at hlt) hne H.out
        go_wp2
        go_roundw
        case rel => exact ⟨k + 1, by omega, by go_num, hB, HBX.out, HNX.out⟩
        case measure => simp [intOf]; omega
      · have HE : Hid (bP (GoodBs b.say) = false) := bP_f fun h => hne (h.2.2.2.2.2.2 k _ (by rw [show b.say.F = sayL b.F from rfl, HFN.out]; exact hlt) (sayL_at hlt))
        go_wp2
        go_ret
        exact ⟨ret_b HE.out.symm, hB⟩
    · have HNX : Hid (LongTo 2 (sayL b.F) (sayL b.F).length) := upto_end (Q := fun x : List Int => (x.length : Int) = 2) (k := k) (by rw [HFN.out]; exact hlt) H.out
      have HBX := Lib.hid hbox
      have HB := Lib.hid hB
      obtain ⟨_, b0, b1, b2, b3, b4, b5⟩ := hbox
      clear hB
      go_wp2_with fail
      refine (l5Rising_any b 3 (by omega) (by omega) _ _ _ _ HN.out.1 HN.out.2 HT.out.1 HT.out.2 ((HX.out.1.keep HB.out).more HB.out.size) HM.out.p HM.out.ps).mono ?_
      rintro e w1 ⟨rfl, hB1⟩
      have HBX1 := Lib.hid (HBX.out.keep hB1 HBX.out.1)
      have HB1 := Lib.hid (HB.out.trans (hB1.mono HB.out.size)); clear hB1 HBX HB b0 b1 b2 b3 b4 b5
      obtain ⟨_, b0, b1, b2, b3, b4, b5⟩ := HBX1.out
      cases hP : bP (GoodLs b.n b.t (3 : Nat) (sayL b.P))
      · have HE : Hid (bP (GoodBs b.say) = false) := bP_f fun h => bP_no hP h.2.2.1
        clear hP
        go_wp2
        go_ret
        exact ⟨ret_b HE.out.symm, HB1.out⟩
      have HP := Lib.hid (bP_is hP); clear hP
      go_wp2_with fail
      refine (l5Rising_any b 2 (by omega) (by omega) _ _ _ _ HN.out.1 HN.out.2 HT.out.1 HT.out.2 ((HX.out.2.1.keep HB1.out).more HB1.out.size) HM.out.o HM.out.os).mono ?_
      rintro e w2 ⟨rfl, hB2⟩
      have HBX2 := Lib.hid (HBX1.out.keep hB2 HBX1.out.1)
      have HB2 := Lib.hid (HB1.out.trans (hB2.mono HB1.out.size)); clear hB2 HBX1 HB1 b0 b1 b2 b3 b4 b5
      obtain ⟨_, b0, b1, b2, b3, b4, b5⟩ := HBX2.out
      cases hO : bP (GoodLs b.n b.t (2 : Nat) (sayL b.O))
      · have HE : Hid (bP (GoodBs b.say) = false) := bP_f fun h => bP_no hO h.2.2.2.1
        clear hO
        go_wp2
        go_ret
        exact ⟨ret_b HE.out.symm, HB2.out⟩
      have HO := Lib.hid (bP_is hO); clear hO
      have hwn : IntKind.i64.wrap (b.n - 1) = b.n - 1 := by have := HN.out; rw [IntKind.wrap_i64]; omega
      have HE : Hid (bP (GoodBs b.say) = bP (GoodE b.n b.E)) := bP_congr ⟨fun h => h.2.2.2.2.1, fun h => ⟨HN.out, HT.out, HP.out, HO.out, h, (by show ((sayL b.F).length : Int) ≤ b.n; rw [HFN.out]; exact HFL.out), HNX.out⟩⟩
      go_wp2_with fail
      refine (l1Rising_any _ _ _ _ _ ((HX.out.2.2.1.keep HB2.out).more HB2.out.size) HM.out.e).mono ?_
      rintro e w3 ⟨rfl, hB3⟩
      go_wp2
      go_ret
      exact ⟨ret_b HE.out.symm, HB2.out.trans (hB3.mono HB2.out.size)⟩

end Go.Proofs.YtfbpcdmpkbjifaaDoor

/- The reference's l3Close. -/

namespace Go.Proofs.YtfbpcdmpkbjifaaDoor
open Go.RowKit

def setL (xs : List Int) : Int → Bool := fun x => xs.contains x
theorem setL_iff {xs : List Int} {x : Int} : setL xs x = true ↔ x ∈ xs := by unfold setL; rw [List.contains_iff_mem]

/-- A rising list of numbers below 40, all of them in the least set. -/
structure Inside (W : Way) (S0 : Int → Bool) (ss : List (Int × List Int)) (xs : List Int) : Prop where
  rises : Rises xs
  fit : ∀ x ∈ xs, 0 ≤ x ∧ x < 40
  sound : ∀ x ∈ xs, Least W S0 ss x
  start : ∀ x, S0 x = true → x ∈ xs
theorem Inside.len {W : Way} {S0 : Int → Bool} {ss : List (Int × List Int)} {xs : List Int} (h : Inside W S0 ss xs) : xs.length ≤ 40 :=
  len6 (S := setL xs) (h.rises.imp fun h => by omega) (fun _ hx => setL_iff.2 hx) fun x hx => h.fit x (setL_iff.1 hx)
theorem Inside.put {W : Way} {S0 : Int → Bool} {ss : List (Int × List Int)} {xs ys : List Int} (h : Inside W S0 ss xs) {n : Int} (hr : Rises ys) (hm : ∀ x, x ∈ ys ↔ x = n ∨ x ∈ xs) {r : Int × List Int} (hrs : r ∈ ss) (hf : W.fires (setL xs) r = true) (hn : n ∈ W.adds r) (h6 : 0 ≤ n ∧ n < 40) : Inside W S0 ss ys :=
  ⟨hr, fun x hx => by rcases (hm x).1 hx with rfl | h'; exact h6; exact h.fit x h', fun x hx => by
    rcases (hm x).1 hx with rfl | h'
    · exact Least.step (S := setL xs) (fun y hy => h.sound y (setL_iff.1 hy)) hrs hf hn
    · exact h.sound x h', fun x hx => (hm x).2 (.inr (h.start x hx))⟩
theorem Inside.done {W : Way} {S0 : Int → Bool} {ss : List (Int × List Int)} {xs : List Int} (h : Inside W S0 ss xs) (hc : ∀ r ∈ ss, W.fires (setL xs) r = true → ∀ y ∈ W.adds r, y ∈ xs) : IsLeast W S0 ss (setL xs) :=
  isLeast_of (fun x hx => h.sound x (setL_iff.1 hx)) (fun x hx => setL_iff.2 (h.start x hx)) fun r hr hf y hy => setL_iff.2 (hc r hr hf y hy)

def wayT (tok : Bool) : Way := match tok with
  | true => wayProd
  | false => wayNull
theorem wayT_adds (tok : Bool) (r : Int × List Int) : (wayT tok).adds r = [r.1] := by cases tok <;> rfl
/-- The reference's question to one symbol. -/
def closeP (tok : Bool) (xs : List Int) (x : Int) : Bool := (decide (x < 0) && tok) || (decide (0 ≤ x) && xs.contains x)
theorem closeP_neg {tok : Bool} {xs : List Int} {x : Int} (h : x < 0) : closeP tok xs x = tok := by
  unfold closeP
  rw [decide_eq_true h, decide_eq_false (by omega)]
  cases tok <;> rfl
theorem closeP_non {tok : Bool} {xs : List Int} {x : Int} (h : ¬ x < 0) : closeP tok xs x = xs.contains x := by
  unfold closeP
  rw [decide_eq_false h, decide_eq_true (by omega)]
  rfl
theorem fires_close {tok : Bool} {xs : List Int} (hf : ∀ x ∈ xs, 0 ≤ x ∧ x < 40) (r : Int × List Int) : (wayT tok).fires (setL xs) r = r.2.all (closeP tok xs) := by
  cases tok
  · show r.2.all (setL xs) = _
    congr 1
    funext x
    by_cases h : x < 0
    · rw [closeP_neg h]
      cases hc : setL xs x
      · rfl
      · have := hf x (setL_iff.1 hc); omega
    · rw [closeP_non h]; rfl
  · show r.2.all (tokS (setL xs)) = _
    congr 1
    funext x
    by_cases h : x < 0
    · rw [closeP_neg h, tokS_lt h]
    · rw [closeP_non h, tokS_ge h]; rfl

theorem all_take {p : Int → Bool} {xs : List Int} {k : Nat} (hk : k < xs.length) : (xs.take (k + 1)).all p = ((xs.take k).all p && p xs[k]) := by
  rw [List.take_succ_eq_append_getElem hk, List.all_append]
  simp

/-- The reference's list, new since lo. -/
def GaveV (w : World) (P : List Int → Prop) (e : Ending) (w' : World) : Prop := ∃ v ys, e = .returned v ∧ P ys ∧ OwnV w' w.heap.size v ys ∧ Below w.heap.size w w'

end Go.Proofs.YtfbpcdmpkbjifaaDoor

/- The reference's copy of a list, as a row that can be appended to. -/

namespace Go.Proofs.YtfbpcdmpkbjifaaDoor
open Go.RowKit

set_option maxRecDepth 20000 in
set_option maxHeartbeats 400000 in
theorem l1OwnW_any (A : Option Addr) (xs : List Int) (c : Nat) (w : World) (hr : Ints w w.heap.size A xs) (hn : xs.length ≤ 1048576) :
    Calls Tryd.prog 113 #[.slice A xs.length c] w fun e w' => ∃ v, e = .returned v ∧ w'.ownsRow w.heap.size 3 1 v xs.length (vals xs) ∧ Below w.heap.size w w' := by
  obtain ⟨i0, hi0, hz0, hz1, hz2⟩ := info_of Tryd.infoInt
  have hB0 : Below w.heap.size w (w.alloc (.cells #[] 3)) := by go_grown
  have HB0 := Lib.hid hB0; clear hB0
  have HR := Lib.hid (hr.keep HB0.out); clear hr
  have HE := Lib.hid (own_empty w)
  rcases A with _ | ad
  · have hx : xs = [] := by
      rcases xs with _ | ⟨x, xs⟩
      · rfl
      · obtain ⟨_, _, e, _⟩ := HR.out (by simp)
        cases e
    subst hx
    go_enter Tryd.func113, Tryd.ntmps113
    go_wp2_with (at_builtin
                 refine append_nil_at rfl (.tmp 3) (.tmp 4) _ rfl w.heap.size 3 i0 1 Tryd.underlying22 hi0 _ _ _ rfl HE.out c rfl ?_)
    go_ret
    exact ⟨_, rfl, HE.out, HB0.out⟩
  · have HN : Hid (∀ (j : Nat) (v : Value), (vals xs)[j]? = some v → (w.alloc (.cells #[] 3)).cell? (ad.add j) = some v) := fun j v hv => by
      have hp : 0 < xs.length := by have := (List.getElem?_eq_some_iff.1 hv).1; rw [vals_length] at this; omega
      obtain ⟨ad', e, h⟩ := HR.out.src hp
      injection e with e
      subst e
      exact h j v hv
    go_enter Tryd.func113, Tryd.ntmps113
    go_wp2_with (at_builtin
                 refine wpList_append_own _ rfl (.tmp 3) (.tmp 4) _ rfl w.heap.size 3 i0 _ 1 8 Tryd.underlying22 hi0 hz0 hz1 hz2 rfl (by omega) _ _ _ rfl HE.out ad xs.length c (vals xs) rfl (by rw [vals_length]; omega) HN.out (vals_one xs) (by unfold maxLen; omega) (by omega) (by simp) ?_
                 intro v' w' h1 h2 h3
                 have HO1 := Lib.hid h1
                 have HG1 := Lib.hid h2
                 clear h1 h2 h3)
    have HO2 : Hid (w'.ownsRow w.heap.size 3 1 v' xs.length (vals xs)) := by have h1 := HO1.out; rw [List.nil_append, Nat.zero_add] at h1; exact h1
    go_ret
    exact ⟨_, rfl, HO2.out, HB0.out.grown HG1.out HB0.out.size fun k hk => (HE.out.lt k hk).1⟩

end Go.Proofs.YtfbpcdmpkbjifaaDoor
