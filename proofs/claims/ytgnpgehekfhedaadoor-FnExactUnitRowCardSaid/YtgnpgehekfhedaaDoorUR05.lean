/- The program's rows as arrays: of, joined. -/
import Derived.Test.YtgnpgehekfhedaaDoorUR04
import Derived.Test.YtgnpgehekfhedaaDoorUR03
import Derived.Lib.AppendZerosOnto
import Derived.Lib.AppendZeros
import Derived.Deep.AppendLies
import Derived.Deep.RegionLaw
import Derived.Test.YtgnpgehekfhedaaDoorUR01
import Derived.Lib.QuietBelow
import Derived.Test.YtgnpgehekfhedaaDoorUR02

namespace Go.Proofs.YtgnpgehekfhedaaDoor
open Go.RowKit

set_option maxHeartbeats 400000 in
theorem of_any (K : Nat) (m : Nat) (x : Int) (w : World) (hm : m < 44) (hx : 4 + x = (m : Int)) :
    Calls Tryd.prog 80 #[.pointer (some ⟨K, 0, none⟩), .int .i64 x] w fun e w' => e = .returned (.pointer (some ⟨K, m * 40, none⟩)) ∧ w' = w := by
  obtain rfl : x = (m : Int) - 4 := by omega
  clear hx
  go_enter Tryd.func80, Tryd.ntmps80
  have h1 : 4 + ((m : Int) - 4) = (m : Int) := by omega
  go_wp2
  go_ret
  exact ⟨by simp, rfl⟩

/-- Several rows, one behind the other. -/
def rowsL (Ss : List (Int → Bool)) : List Value := Ss.flatMap fun S => (rowA S).toList
theorem rowsL_len (Ss : List (Int → Bool)) : (rowsL Ss).length = Ss.length * 40 := by
  induction Ss with
  | nil => rfl
  | cons S Ss ih => simp only [rowsL, List.flatMap_cons, List.length_append, List.length_cons, Array.length_toList, rowA_size] at ih ⊢; omega
theorem rowsL_at {Ss : List (Int → Bool)} {k : Nat} {S : Int → Bool} (h : Ss[k]? = some S) {j : Nat} {v : Value} (hj : (rowA S)[j]? = some v) : (rowsL Ss)[k * 40 + j]? = some v := by
  induction Ss generalizing k with
  | nil => simp at h
  | cons T Ss ih =>
    have hj40 : j < 40 := by have := (Array.getElem?_eq_some_iff.1 hj).1; rw [rowA_size] at this; exact this
    show ((rowA T).toList ++ rowsL Ss)[k * 40 + j]? = some v
    rcases k with _ | k
    · simp at h
      subst h
      rw [List.getElem?_append_left (by rw [Array.length_toList, rowA_size]; omega)]
      simpa using hj
    · rw [List.getElem?_append_right (by rw [Array.length_toList, rowA_size]; omega), Array.length_toList, rowA_size, show (k + 1) * 40 + j - 40 = k * 40 + j by omega]
      exact ih (by simpa using h)
theorem rowsL_one (S : Int → Bool) : ∀ u ∈ (rowA S).toList, u.oneCell' = true := fun u hu => by
  simp [rowA] at hu
  obtain ⟨_, _, rfl⟩ := hu
  rfl
/-- The slice of rows v is new and reads as Ss. -/
def OwnRows (w : World) (lo : Nat) (v : Value) (Ss : List (Int → Bool)) : Prop := w.ownsRow lo 97 40 v Ss.length (rowsL Ss)
theorem OwnRows.shape {w : World} {lo : Nat} {v : Value} {Ss : List (Int → Bool)} (h : OwnRows w lo v Ss) (hne : Ss ≠ []) :
    ∃ g c, v = .slice (some ⟨g, 0, none⟩) Ss.length c ∧ Ss.length ≤ c ∧ lo ≤ g ∧ g < w.heap.size ∧ ∀ (k : Nat) (S : Int → Bool), Ss[k]? = some S → ∀ (j : Nat) (u : Value), (rowA S)[j]? = some u → w.cell? ⟨g, k * 40 + j, none⟩ = some u := by
  have hl : 0 < Ss.length := List.length_pos_iff.2 hne
  rcases h.2 with ⟨_, h0⟩ | ⟨g, cap, cur, rfl, hlo, hb, h1, h2, h3, h4⟩
  · omega
  · refine ⟨g, cap, rfl, h1, hlo, (Array.getElem?_eq_some_iff.1 hb).1, fun k S hk j u hj => ?_⟩
    rw [cell_of_row w g _ cur _ _ hb]
    have e := rowsL_at hk hj
    rw [← h4, List.getElem?_take] at e
    split at e
    · simpa using e
    · cases e

/-- What some of the rows have. -/
def anyR (Ss : List (Int → Bool)) : Int → Bool := fun x => Ss.any fun S => S x
/-- Of the numbers below j what T or S have, of the others what T has. -/
def orR (T S : Int → Bool) (j : Nat) : Int → Bool := fun x => if 0 ≤ x ∧ x < (j : Int) then T x || S x else T x
theorem orR_zero (T S : Int → Bool) : orR T S 0 = T := by
  funext x
  unfold orR
  rw [if_neg (by omega)]
theorem orR_step (T S : Int → Bool) (j : Nat) : (fun x => if x = (j : Int) then orR T S j j || S j else orR T S j x) = orR T S (j + 1) := by
  funext x
  unfold orR
  by_cases e : x = (j : Int)
  · subst e
    rw [if_pos rfl, if_neg (by omega), if_pos (by omega)]
  · rw [if_neg e]
    by_cases h : 0 ≤ x ∧ x < (j : Int)
    · rw [if_pos h, if_pos (by omega)]
    · rw [if_neg h, if_neg (by omega)]
theorem orR_at (T S : Int → Bool) (j : Nat) : orR T S j j = T j := by unfold orR; rw [if_neg (by omega)]
theorem orR_all (Ss : List (Int → Bool)) {k : Nat} {S : Int → Bool} (h : Ss[k]? = some S) : rowA (orR (anyR (Ss.take k)) S 40) = rowA (anyR (Ss.take (k + 1))) := rowA_ext fun x hx => by
  have hk := (List.getElem?_eq_some_iff.1 h).1
  have hS := (List.getElem?_eq_some_iff.1 h).2
  unfold orR
  rw [if_pos (by omega), List.take_succ_eq_append_getElem hk, hS]
  simp [anyR]

set_option maxRecDepth 20000 in
set_option maxHeartbeats 1000000 in
theorem joined_any (lo : Nat) (v : Value) (Ss : List (Int → Bool)) (w : World) (hv : OwnRows w lo v Ss) (hne : Ss ≠ []) (hl : Ss.length ≤ 1000) :
    Calls Tryd.prog 175 #[v] w fun e w' => e = .returned (.agg (rowA (anyR Ss))) ∧ Below w.heap.size w w' := by
  have HZ := Lib.hid info_row
  have HS := Lib.hid size_row
  obtain ⟨g, c, rfl, hc, _, hg, hcell⟩ := hv.shape hne
  have HC := Lib.hid hcell
  clear hv hcell hne
  go_enter Tryd.func175, Tryd.ntmps175
  have HB0 : Hid (Below w.heap.size w ((w.alloc (.cells (rowA noS) 97)).alloc (.cells (rowA noS) 97))) := by show Below _ _ _; go_grown
  have HR0 : Hid (Row ((w.alloc (.cells (rowA noS) 97)).alloc (.cells (rowA noS) 97)) w.heap.size 97 (rowA noS)) := (Row.new _ _ _).alloc _
  have HR1 : Hid (Row ((w.alloc (.cells (rowA noS) 97)).alloc (.cells (rowA noS) 97)) (w.heap.size + 1) 97 (rowA (anyR (Ss.take 0)))) := by
    have h := Row.new (w.alloc (.cells (rowA noS) 97)) 97 (rowA noS)
    rw [World.size_alloc] at h
    exact h
  go_wp2_with (with_reducible refine wpList_allocA rfl 97 rfl (rowA noS) 40 HZ.out ?_)
  generalize (w.alloc (.cells (rowA noS) 97)).alloc (.cells (rowA noS) 97) = W at HB0 HR0 HR1 ⊢
  go_loopw [10] (fun i wr => ∃ (k : Nat), k ≤ Ss.length ∧ i = .int .i64 k ∧ Hid (Below w.heap.size w wr) ∧ Hid (Row wr w.heap.size 97 (rowA noS)) ∧ Hid (Row wr (w.heap.size + 1) 97 (rowA (anyR (Ss.take k))))) (fun i _ => Ss.length - (intOf i).toNat)
  case atStart => exact ⟨0, by omega, rfl, HB0.out, HR0.out, HR1.out⟩
  case round =>
    clear HB0 HR0 HR1
    obtain ⟨k, hk, rfl, HB, HR0, HR1⟩ := hrel
    by_cases hlt : k < Ss.length
    · have hsk := List.getElem?_eq_getElem hlt
      have HCK : Hid (∀ (j : Nat) (u : Value), (rowA Ss[k])[j]? = some u → wr.cell? ⟨g, k * 40 + j, none⟩ = some u) := fun j u hj => (HB.out.cell (p := ⟨g, k * 40 + j, none⟩) hg).trans (HC.out k _ hsk j u hj)
      have HALL := Lib.hid (orR_all Ss hsk)
      generalize Ss[k] = S at HCK HALL
      generalize anyR (Ss.take k) = T at HR1 HALL
      obtain ⟨wk, hwk⟩ : ∃ x, x = wr := ⟨_, rfl⟩
      subst hwk
      have hws := HB.out.size
      have HB1 : Hid (Below w.heap.size w ((wk.alloc (.cells (rowA noS) 97)).setRow wk.heap.size (rowA S))) := below_setRow (HB.out.alloc hws _) hws _
      have HR01 : Hid (Row ((wk.alloc (.cells (rowA noS) 97)).setRow wk.heap.size (rowA S)) w.heap.size 97 (rowA noS)) := (HR0.out.alloc _).setRow_far (by have := HR0.out.lt; omega) _
      have HR11 : Hid (Row ((wk.alloc (.cells (rowA noS) 97)).setRow wk.heap.size (rowA S)) (w.heap.size + 1) 97 (rowA (orR T S 0))) := by
        rw [orR_zero]; exact (HR1.out.alloc _).setRow_far (by have := HR1.out.lt; omega) _
      have HRN : Hid (Row (wk.alloc (.cells (rowA noS) 97)) wk.heap.size 97 (rowA noS)) := Row.new _ _ _
      have HR5 : Hid (Row ((wk.alloc (.cells (rowA noS) 97)).setRow wk.heap.size (rowA S)) wk.heap.size 97 (rowA S)) := HRN.out.setRow _
      go_wp2_with (first
        | with_reducible refine wpList_allocA rfl 97 rfl (rowA noS) 40 HZ.out ?_
        | with_reducible refine wpList_loadA rfl 97 (.tmp 12) rfl g (k * 40) rfl (rowA S) 40 4 Tryd.underlying97 (HS.out _) HCK.out ?_
        | with_reducible refine wpList_storeA rfl 97 (.tmp 5) (.tmp 13) rfl wk.heap.size (rowA S) rfl rfl 97 (rowA noS) HRN.out (HS.out _) (by rw [rowA_size, rowA_size]) (rowA_all _) ?_
        | with_reducible refine wpList_loadA rfl 97 (.tmp 5) rfl wk.heap.size 0 rfl (rowA S) 40 4 Tryd.underlying97 (HS.out _) HR5.out.rowCells ?_)
      clear hsk HRN HR5 HCK
      generalize (wk.alloc (.cells (rowA noS) 97)).setRow wk.heap.size (rowA S) = W5 at HB1 HR01 HR11 ⊢
      clear HB HR0 HR1 hws
      go_loopw [15] (fun i wr => ∃ (j : Nat), j ≤ 40 ∧ i = .int .i64 j ∧ Hid (Below w.heap.size w wr) ∧ Hid (Row wr w.heap.size 97 (rowA noS)) ∧ Hid (Row wr (w.heap.size + 1) 97 (rowA (orR T S j)))) (fun i _ => 40 - (intOf i).toNat)
      case atStart => exact ⟨0, by omega, rfl, HB1.out, HR01.out, HR11.out⟩
      case round =>
        clear HB1 HR01 HR11
        obtain ⟨j, hj, rfl, HB, HR0, HR1⟩ := hrel
        by_cases hjl : j < 40
        · have hj2 : (j : Int) < 40 := by omega
          have c2 := HR1.out.cell j
          rw [rowA_at _ hjl, orR_at] at c2
          have f2 := HR1.out.frozen j
          have HV := Lib.hid (rowA_at S hjl)
          have HR0' := Lib.hid (HR0.out.far (p := ⟨w.heap.size + 1, j, none⟩) (by simp) (.bool (T j || S j)))
          have HR1' : Hid (Row (wr.setCell ⟨w.heap.size + 1, j, none⟩ (.bool (T j || S j))) (w.heap.size + 1) 97 (rowA (orR T S (j + 1)))) := by
            have h := HR1.out.set j (.bool (T j || S j))
            rw [rowA_set _ _ hjl] at h
            rw [← orR_step, orR_at]
            exact h
          have HB' : Hid (Below w.heap.size w (wr.setCell ⟨w.heap.size + 1, j, none⟩ (.bool (T j || S j)))) := HB.out.setCell (by simp) _
          clear HR0 HR1
          generalize hT : T j = tb at c2 HR0' HR1' HB'
          clear hT
          cases tb
          · rw [Bool.false_or] at HR0' HR1' HB'
            go_wp2_with (first
              | with_reducible refine wpList_indexA rfl 97 (.tmp 14) (.tmp 15) rfl (rowA S) rfl j rfl 40 4 hjl _ HV.out Tryd.underlying97 _ Tryd.underlying4 rfl (by kernel_rfl) ?_)
            go_roundw
            case rel => exact ⟨j + 1, by omega, by go_num, HB'.out, HR0'.out, HR1'.out⟩
            case measure => simp [intOf]; omega
          · rw [Bool.true_or] at HR0' HR1' HB'
            go_wp2_with (first
              | with_reducible refine wpList_indexA rfl 97 (.tmp 14) (.tmp 15) rfl (rowA S) rfl j rfl 40 4 hjl _ HV.out Tryd.underlying97 _ Tryd.underlying4 rfl (by kernel_rfl) ?_)
            go_roundw
            case rel => exact ⟨j + 1, by omega, by go_num, HB'.out, HR0'.out, HR1'.out⟩
            case measure => simp [intOf]; omega
        · obtain rfl : j = 40 := by omega
          rw [HALL.out] at HR1
          go_wp2
          go_roundw
          case rel => exact ⟨k + 1, by omega, by go_num, HB.out, HR0.out, HR1.out⟩
          case measure => simp [intOf]; omega
    · obtain rfl : k = Ss.length := by omega
      rw [List.take_length] at HR1
      have HR2 := Lib.hid (HR0.out.setRow (rowA (anyR Ss)))
      have HB' := Lib.hid (below_setRow HB.out (Nat.le_refl w.heap.size) (rowA (anyR Ss)))
      go_wp2_with (first
        | with_reducible refine wpList_loadA rfl 97 (.tmp 3) rfl (w.heap.size + 1) 0 rfl (rowA (anyR Ss)) 40 4 Tryd.underlying97 (HS.out _) HR1.out.rowCells ?_
        | with_reducible refine wpList_storeA rfl 97 (.tmp 2) (.tmp 29) rfl w.heap.size (rowA (anyR Ss)) rfl rfl 97 (rowA noS) HR0.out (HS.out _) (by rw [rowA_size, rowA_size]) (rowA_all _) ?_)
      refine bodyPost_ret (v := .agg (rowA (anyR Ss))) ?_ rfl ⟨rfl, HB'.out⟩
      exact results_cell_row Tryd.results175 _ _ w.heap.size 97 (rowA (anyR Ss)) (0, 0) _ rfl HR2.out Tryd.underlying97 rfl (HS.out _)

end Go.Proofs.YtgnpgehekfhedaaDoor

/- The program's step: a row, and what stands directly for one of it. -/

namespace Go.Proofs.YtgnpgehekfhedaaDoor
open Go.RowKit

theorem info_row3 : (Tryd.prog.info? 97).map (fun i => (i.zero, i.size, i.bytes)) = some (some (.agg (rowA noS)), 40, 40) := by kernel_rfl

/-- The table that begins at block K has for each symbol the row T of it. -/
def TabC (w : World) (K : Nat) (T : Int → Int → Bool) : Prop :=
  K < w.heap.size ∧ ∀ (m : Nat) (x : Int), m < 44 → 4 + x = (m : Int) → ∀ (j : Nat) (v : Value), (rowA (T x))[j]? = some v → w.cell? ⟨K, m * 40 + j, none⟩ = some v
theorem TabC.keep {w w' : World} {K B : Nat} {T : Int → Int → Bool} (h : TabC w K T) (hb : Below B w w') (hK : K < B) : TabC w' K T :=
  ⟨Nat.lt_of_lt_of_le h.1 hb.size, fun m x hm hx j v hj => (hb.cell (p := ⟨K, m * 40 + j, none⟩) hK).trans (h.2 m x hm hx j v hj)⟩

/-- A list lies apart from a row of something else that is appended to. -/
theorem OwnI.grownG {w w' : World} {lo base size n : Nat} {e : TypeId} {A : Option Addr} {xs : List Int} {v : Value} {cs : List Value} (h : OwnI w lo A xs) (hv : w.ownsRow base e size v n cs) (he : 3 ≠ e) (hg : w.grownBy w' v.ownBlock) : OwnI w' lo A xs := by
  rcases h with h | ⟨g, rc, e', hl, hr, hc⟩
  · exact .inl h
  · refine .inr ⟨g, rc, e', hl, (hg.block g hr.lt fun hb => ?_).trans hr, hc⟩
    obtain ⟨_, ⟨rfl, _⟩ | ⟨g', cap, cur, rfl, _, h5, _⟩⟩ := hv
    · cases hb
    · injection hb with hb
      subst hb
      exact hr.ne (t' := e) h5 he rfl

/-- A row, and what stands directly for one of it. -/
def stepR (T : Int → Int → Bool) (S : Int → Bool) : Int → Bool := anyR (S :: (upK S 40).map T)

set_option maxRecDepth 20000 in
set_option maxHeartbeats 1000000 in
theorem step_any (K : Nat) (T : Int → Int → Bool) (S : Int → Bool) (w : World) (hT : TabC w K T) :
    Calls Tryd.prog 133 #[.pointer (some ⟨K, 0, none⟩), .agg (rowA S)] w fun e w' => e = .returned (.agg (rowA (stepR T S))) ∧ Below w.heap.size w w' := by
  obtain ⟨i0, hi0, hz0, hz1, hz2⟩ := info_of info_row3
  have HZ := Lib.hid info_row
  have HS := Lib.hid size_row
  have HT := Lib.hid hT; clear hT
  go_enter Tryd.func133, Tryd.ntmps133
  have HB0 : Hid (Below w.heap.size w (((w.alloc (.cells (rowA S) 97)).alloc (.cells (rowA noS) 97)).alloc (.cells (rowA S) 97))) := by show Below _ _ _; go_grown
  have HR0a : Hid (Row ((w.alloc (.cells (rowA S) 97)).alloc (.cells (rowA noS) 97)) w.heap.size 97 (rowA S)) := (Row.new _ _ _).alloc _
  have HR0 : Hid (Row (((w.alloc (.cells (rowA S) 97)).alloc (.cells (rowA noS) 97)).alloc (.cells (rowA S) 97)) w.heap.size 97 (rowA S)) := HR0a.out.alloc _
  have HR1 : Hid (Row (((w.alloc (.cells (rowA S) 97)).alloc (.cells (rowA noS) 97)).alloc (.cells (rowA S) 97)) (w.heap.size + 1) 97 (rowA noS)) := by
    have h := Row.new (w.alloc (.cells (rowA S) 97)) 97 (rowA noS)
    rw [World.size_alloc] at h
    exact h.alloc _
  have HO : Hid (OwnRows (((w.alloc (.cells (rowA S) 97)).alloc (.cells (rowA noS) 97)).alloc (.cells (rowA S) 97)) (w.heap.size + 2) (.slice (some ⟨w.heap.size + 2, 0, none⟩) 1 1) [S]) := by
    have h := Row.new ((w.alloc (.cells (rowA S) 97)).alloc (.cells (rowA noS) 97)) 97 (rowA S)
    rw [World.size_alloc, World.size_alloc] at h
    refine ⟨rfl, .inr ⟨w.heap.size + 2, 1, _, rfl, Nat.le_refl _, h, Nat.le_refl _, by unfold maxLen; omega, by rw [rowA_size], ?_⟩⟩
    rw [List.take_of_length_le (by rw [Array.length_toList, rowA_size]; simp)]
    simp [rowsL]
  go_wp2_with (first
    | with_reducible refine wpList_boxA rfl 97 (.tmp 1) rfl (rowA S) rfl ?_
    | with_reducible refine wpList_allocA rfl 97 rfl (rowA noS) 40 HZ.out ?_
    | with_reducible refine wpList_loadA rfl 97 (.tmp 3) rfl w.heap.size 0 rfl (rowA S) 40 4 Tryd.underlying97 (HS.out _) HR0a.out.rowCells ?_
    | with_reducible refine wpList_sliceA rfl 195 97 (.tmp 8) rfl (rowA S) (rowA noS) rfl 40 Tryd.underlying195 HZ.out (rowA_size _) (by omega) (rowA_size _) (by omega) ?_
    | with_reducible refine wpList_loadA rfl 97 (.tmp 3) rfl w.heap.size 0 rfl (rowA S) 40 4 Tryd.underlying97 (HS.out _) HR0.out.rowCells ?_)
  clear HR0 HR0a
  have hW3 : w.heap.size + 3 ≤ (((w.alloc (.cells (rowA S) 97)).alloc (.cells (rowA noS) 97)).alloc (.cells (rowA S) 97)).heap.size := by simp
  generalize ((w.alloc (.cells (rowA S) 97)).alloc (.cells (rowA noS) 97)).alloc (.cells (rowA S) 97) = W at HB0 HR1 HO hW3 ⊢
  refine (rowList_any S W).mono ?_
  rintro e w1 ⟨A1, c1, rfl, _, hO1, hB1⟩
  have hWs := HB0.out.size
  have HB1 := Lib.hid (HB0.out.trans (hB1.mono hWs))
  have HR2 := Lib.hid (HR1.out.below hB1 HR1.out.lt)
  have HO2 : Hid (OwnRows w1 (w.heap.size + 2) (.slice (some ⟨w.heap.size + 2, 0, none⟩) 1 1) [S]) := own_below HO.out hB1
  have HI1 := Lib.hid hO1
  have hw1s : w.heap.size + 3 ≤ w1.heap.size := Nat.le_trans hW3 hB1.size
  clear hO1 hB1 HR1 HO HB0
  have HM := Lib.hid (upK_mem S 40)
  have hL40 := upK_len S 40
  have HDEF : Hid (stepR T S = anyR (S :: (upK S 40).map T)) := rfl
  generalize hL : upK S 40 = L at HI1 HM hL40 HDEF ⊢
  clear hL
  go_wp2
  go_loopw [5, 13] (fun v i wr => ∃ (k : Nat), k ≤ L.length ∧ i = .int .i64 k ∧ Hid (Below w.heap.size w wr) ∧ Hid (OwnI wr W.heap.size A1 L ∧ w.heap.size + 3 ≤ wr.heap.size) ∧ Hid (Row wr (w.heap.size + 1) 97 (rowA noS)) ∧ Hid (OwnRows wr (w.heap.size + 2) v (S :: (L.take k).map T))) (fun _ i _ => L.length - (intOf i).toNat)
  case atStart => exact ⟨0, by omega, rfl, HB1.out, ⟨HI1.out, hw1s⟩, HR2.out, HO2.out⟩
  case round =>
    clear HR2 HO2
    obtain ⟨k, hk, rfl, HB, HBX, HR, HO⟩ := hrel
    by_cases hlt : k < L.length
    · obtain ⟨p, q, rfl, hb, c1⟩ := HBX.out.1.ints.at_ hlt
      obtain ⟨m, hm, hme⟩ : ∃ m : Nat, m < 44 ∧ 4 + L[k] = (m : Int) := by
        have h := (HM.out L[k]).1 (List.getElem_mem hlt)
        exact ⟨(4 + L[k]).toNat, by omega, by omega⟩
      have HTK : Hid ((L.take (k + 1)).map T = (L.take k).map T ++ [T L[k]]) := by show _ = _; rw [List.take_succ_eq_append_getElem hlt, List.map_append]; rfl
      have HTC : Hid (∀ (j : Nat) (v : Value), (rowA (T L[k]))[j]? = some v → wr.cell? ⟨K, m * 40 + j, none⟩ = some v) := (HT.out.keep HB.out HT.out.1).2 m L[k] hm hme
      have hkl : (S :: (L.take k).map T).length = k + 1 := by simp; omega
      have hws : w.heap.size + 3 ≤ wr.heap.size := HBX.out.2
      generalize L[k] = x at c1 hme HTK HTC
      go_wp2_with fail
      refine (of_any K m x wr hm hme).mono ?_
      rintro e w2 ⟨rfl, rfl⟩
      have HOA : Hid ((w2.alloc (.cells (rowA (T x)) 97)).ownsRow (w.heap.size + 2) 97 40 u5 (k + 1) (rowsL (S :: (L.take k).map T))) := by have h := HO.out; unfold OwnRows at h; rw [hkl] at h; exact h.alloc _
      have HNW : Hid (∀ (j : Nat) (u : Value), (rowA (T x)).toList[j]? = some u → (w2.alloc (.cells (rowA (T x)) 97)).cell? ((⟨w2.heap.size, 0, none⟩ : Addr).add j) = some u) := fun j u h => by
        rw [Go.WideShapes.add_plain, Nat.zero_add, (Row.new w2 97 (rowA (T x))).cell]
        simpa using h
      go_wp2_with (first
        | with_reducible refine wpList_loadA rfl 97 (.tmp 21) rfl K (m * 40) rfl (rowA (T x)) 40 4 Tryd.underlying97 (HS.out _) HTC.out ?_
        | with_reducible refine wpList_sliceA rfl 195 97 (.tmp 22) rfl (rowA (T x)) (rowA noS) rfl 40 Tryd.underlying195 HZ.out (rowA_size _) (by omega) (rowA_size _) (by omega) ?_
        | (at_builtin
           refine wpList_append_own _ rfl (.tmp 17) (.tmp 23) _ rfl (w.heap.size + 2) 97 i0 _ 40 40 Tryd.underlying195 hi0 hz0 hz1 hz2 (rowA_size _) (by omega) _ _ _ rfl HOA.out ⟨w2.heap.size, 0, none⟩ 1 1 (rowA (T x)).toList rfl (by rw [Array.length_toList, rowA_size]) HNW.out (rowsL_one _) (by unfold maxLen; omega) (by omega) (by simp; omega) ?_
           intro v' w' h1 h2 h3
           have HO' : Hid (OwnRows w' (w.heap.size + 2) v' (S :: (L.take (k + 1)).map T)) := by
             show World.ownsRow _ _ _ _ _ _ _
             have e1 : (S :: (L.take (k + 1)).map T).length = k + 1 + 1 := by simp; omega
             have e2 : rowsL (S :: (L.take (k + 1)).map T) = rowsL (S :: (L.take k).map T) ++ (rowA (T x)).toList := by rw [HTK.out]; simp [rowsL]
             rw [e1, e2]
             exact h1
           have HB' : Hid (Below w.heap.size w w') := (HB.out.alloc (by omega) _).grown h2 (by simp; omega) fun j hj => by have := (HO.out.lt j hj).1; omega
           have HBX' : Hid (OwnI w' W.heap.size _ L ∧ w.heap.size + 3 ≤ w'.heap.size) := ⟨(HBX.out.1.below ((Below.refl _ _).alloc (Nat.le_refl _) _) (Nat.le_refl _)).grownG HOA.out (by decide) h2, by have := h2.size; rw [World.size_alloc] at this; omega⟩
           have HR' : Hid (Row w' (w.heap.size + 1) 97 (rowA noS)) := (h2.block _ (by simp; omega) fun hj => by have := (HO.out.lt _ hj.symm).1; omega).trans (HR.out.alloc _)
           clear h1 h2 h3))
      go_roundw
      case rel => exact ⟨k + 1, by omega, by go_num, HB'.out, HBX'.out, HR'.out, HO'.out⟩
      case measure => simp [intOf]; omega
    · obtain rfl : k = L.length := by omega
      rw [List.take_length] at HO
      go_wp2_with fail
      refine (joined_any (w.heap.size + 2) _ _ wr HO.out (by simp) (by simp; omega)).mono ?_
      rintro e w2 ⟨rfl, hB2⟩
      rw [← HDEF.out]
      have hws : w.heap.size + 3 ≤ wr.heap.size := HBX.out.2
      have HR2 := Lib.hid (HR.out.below hB2 HR.out.lt)
      have HB2 := Lib.hid (HB.out.trans (hB2.mono (by omega)))
      generalize hRR : stepR T S = R
      have HR3 := Lib.hid (HR2.out.setRow (rowA R))
      have HB3 := Lib.hid (below_setRow HB2.out (Nat.le_succ w.heap.size) (rowA R))
      clear hB2
      go_wp2_with (first
        | with_reducible refine wpList_storeA rfl 97 (.tmp 4) (.tmp 27) rfl (w.heap.size + 1) (rowA R) rfl rfl 97 (rowA noS) HR2.out (HS.out _) (by rw [rowA_size, rowA_size]) (rowA_all _) ?_)
      refine bodyPost_ret (v := .agg (rowA R)) ?_ rfl ⟨by rw [hRR], HB3.out⟩
      exact results_cell_row Tryd.results133 _ _ (w.heap.size + 1) 97 (rowA R) (0, 0) _ rfl HR3.out Tryd.underlying97 rfl (HS.out _)

end Go.Proofs.YtgnpgehekfhedaaDoor

/- Plain mathematics: lists of lists that rise, and one put into its place. No program, no memory. -/

namespace Go.Proofs.YtgnpgehekfhedaaDoor

theorem cmpL_self : ∀ a : List Int, cmpL a a = 0
  | [] => rfl
  | x :: a => by simp [cmpL, cmpL_self a]
theorem cmpL_anti : ∀ a b : List Int, cmpL b a = - cmpL a b
  | [], [] => rfl
  | [], _ :: _ => rfl
  | _ :: _, [] => rfl
  | x :: a, y :: b => by
    have h := cmpL_anti a b
    rcases Int.lt_trichotomy x y with h1 | h1 | h1
    · simp [cmpL, h1, show ¬ y < x by omega]
    · subst h1; simp [cmpL, h]
    · simp [cmpL, h1, show ¬ x < y by omega]
theorem cmpL_eq : ∀ {a b : List Int}, cmpL a b = 0 → a = b
  | [], [], _ => rfl
  | [], _ :: _, h => by simp [cmpL] at h
  | _ :: _, [], h => by simp [cmpL] at h
  | x :: a, y :: b, h => by
    simp only [cmpL] at h
    by_cases h1 : x < y
    · rw [if_pos h1] at h; omega
    · rw [if_neg h1] at h
      by_cases h2 : y < x
      · rw [if_pos h2] at h; omega
      · rw [if_neg h2] at h
        have e : x = y := by omega
        rw [e, cmpL_eq h]
theorem cmpL_trans : ∀ {a b c : List Int}, cmpL a b < 0 → cmpL b c < 0 → cmpL a c < 0
  | [], [], _, h, _ => by simp [cmpL] at h
  | [], _ :: _, [], _, h => by simp [cmpL] at h
  | [], _ :: _, _ :: _, _, _ => by simp [cmpL]
  | _ :: _, [], _, h, _ => by simp [cmpL] at h
  | _ :: _, _ :: _, [], _, h => by simp [cmpL] at h
  | x :: a, y :: b, z :: c, h, k => by
    have ih := @cmpL_trans a b c
    simp only [cmpL] at h k ⊢
    by_cases h1 : x < y
    · by_cases k1 : y < z
      · rw [if_pos (by omega)]; omega
      · rw [if_neg k1] at k
        by_cases k2 : z < y
        · rw [if_pos k2] at k; omega
        · rw [if_pos (by omega)]; omega
    · rw [if_neg h1] at h
      by_cases h2 : y < x
      · rw [if_pos h2] at h; omega
      · rw [if_neg h2] at h
        by_cases k1 : y < z
        · rw [if_pos (by omega)]; omega
        · rw [if_neg k1] at k
          by_cases k2 : z < y
          · rw [if_pos k2] at k; omega
          · rw [if_neg k2] at k
            rw [if_neg (by omega), if_neg (by omega)]
            exact ih h k

/-- Lists rise. -/
def RisesL (xs : List (List Int)) : Prop := xs.Pairwise fun a b => cmpL a b < 0
theorem RisesL.nil : RisesL [] := List.Pairwise.nil
/-- Two rising lists of lists with the same members are one. -/
theorem risesL_unique {xs ys : List (List Int)} (hx : RisesL xs) (hy : RisesL ys) (h : ∀ x, x ∈ xs ↔ x ∈ ys) : xs = ys := by
  have nd : ∀ {zs : List (List Int)}, RisesL zs → zs.Nodup := fun hz => hz.imp fun h e => by subst e; rw [cmpL_self] at h; omega
  refine List.Perm.eq_of_pairwise (le := fun a b => cmpL a b < 0) (fun a b _ _ h1 h2 => ?_) hx hy ((List.perm_ext_iff_of_nodup (nd hx) (nd hy)).2 h)
  have := cmpL_anti a b
  omega
theorem riseTo_rises {xs : List (List Int)} (h : RiseTo xs xs.length) : RisesL xs := by
  have key : ∀ (j i : Nat) (x y : List Int), i < j → j < xs.length → xs[i]? = some x → xs[j]? = some y → cmpL x y < 0 := by
    intro j
    induction j with
    | zero => intro i x y h1; omega
    | succ j ih =>
      intro i x y h1 h2 hx hy
      have hz : xs[j]? = some xs[j] := List.getElem?_eq_getElem (by omega)
      have h3 := h j _ _ h2 hz hy
      by_cases e : i = j
      · subst e; rw [hz] at hx; injection hx with hx; rw [← hx]; exact h3
      · exact cmpL_trans (ih i x xs[j] (by omega) (by omega) hx hz) h3
  rw [RisesL, List.pairwise_iff_getElem]
  intro i j hi hj hij
  exact key j i _ _ hij hj (List.getElem?_eq_getElem hi) (List.getElem?_eq_getElem hj)

theorem risesL_put {xs : List (List Int)} {x : List Int} {k : Nat} (hk : k ≤ xs.length) (hx : RisesL xs) (h1 : ∀ (j : Nat) (y : List Int), k ≤ j → xs[j]? = some y → cmpL x y < 0) (h2 : ∀ (j : Nat) (y : List Int), j + 1 = k → xs[j]? = some y → cmpL y x < 0) :
    RisesL (xs.take k ++ [x] ++ xs.drop k) ∧ (∀ z, z ∈ xs.take k ++ [x] ++ xs.drop k ↔ z = x ∨ z ∈ xs) := by
  have hsp : (xs.take k ++ xs.drop k).Pairwise (fun a b => cmpL a b < 0) := by rw [List.take_append_drop]; exact hx
  obtain ⟨p1, p2, p3⟩ := List.pairwise_append.1 hsp
  have hb : ∀ y ∈ xs.drop k, cmpL x y < 0 := fun y hm => by
    obtain ⟨j, hj⟩ := List.mem_iff_getElem?.1 hm
    rw [List.getElem?_drop] at hj
    exact h1 (k + j) y (by omega) hj
  have ha : ∀ y ∈ xs.take k, cmpL y x < 0 := fun y hm => by
    obtain ⟨j, hj⟩ := List.mem_iff_getElem?.1 hm
    have hjk : j < k := by
      have := (List.getElem?_eq_some_iff.1 hj).1
      rw [List.length_take] at this
      omega
    rw [List.getElem?_take_of_lt hjk] at hj
    by_cases e : j + 1 = k
    · exact h2 j y e hj
    · have hlen := (List.getElem?_eq_some_iff.1 hj).1
      have hl : k - 1 < xs.length := by omega
      have hz : xs[k - 1]? = some xs[k - 1] := List.getElem?_eq_getElem hl
      have h3 := List.pairwise_iff_getElem.1 hx j (k - 1) hlen hl (by omega)
      rw [(List.getElem?_eq_some_iff.1 hj).2] at h3
      exact cmpL_trans h3 (h2 (k - 1) _ (by omega) hz)
  refine ⟨?_, fun z => ?_⟩
  · show List.Pairwise _ _
    rw [List.append_assoc]
    refine List.pairwise_append.2 ⟨p1, List.pairwise_append.2 ⟨by simp, p2, fun a h b hb' => by simp at h; subst h; exact hb b hb'⟩, fun a h b hb' => ?_⟩
    rcases List.mem_append.1 hb' with h' | h'
    · simp at h'; subst h'; exact ha a h
    · exact p3 a h b h'
  · have e : z ∈ xs ↔ z ∈ xs.take k ∨ z ∈ xs.drop k := by rw [← List.mem_append, List.take_append_drop]
    simp only [List.mem_append, List.mem_singleton, e]
    constructor
    · rintro ((h | h) | h)
      · exact .inr (.inl h)
      · exact .inl h
      · exact .inr (.inr h)
    · rintro (h | h | h)
      · exact .inl (.inr h)
      · exact .inl (.inl h)
      · exact .inr h

end Go.Proofs.YtgnpgehekfhedaaDoor

/- slices.Grow of nothing, and slices.Concat, at lists of lists. -/

namespace Go.Proofs.YtgnpgehekfhedaaDoor
open Go.RowKit

set_option maxRecDepth 20000 in
set_option maxHeartbeats 1000000 in
theorem growNilL_any (n : Nat) (hn : n ≤ 4194304) (w : World) :
    Calls Tryd.prog 192 #[.slice none 0 0, .int .i64 (n : Int)] w fun e w' => ∃ v, e = .returned v ∧ w'.ownsRow w.heap.size 27 1 v 0 [] ∧ Below w.heap.size w w' := by
  obtain ⟨i0, hi0, hz0, hz1, hz2⟩ := info_of Tryd.infoIntS
  by_cases h0 : n = 0
  · subst h0
    go_enter Tryd.func192, Tryd.ntmps192
    go_wp2
    go_ret
    exact ⟨_, rfl, ⟨rfl, .inl ⟨rfl, rfl⟩⟩, Below.refl _ _⟩
  · have hrz : ∀ ty, (Builtin.append_ #[26, 3] ty #[.slice none 0 0, .int .i64 (n : Int)]).run Tryd.prog w =
        .ok (.slice (some ⟨w.heap.size, 0, none⟩) n (grownCap w n 0 27)) (w.drew.alloc (.cells (([] : List Value).toArray ++ Builtin.zeroCells (Value.slice none 0 0).cells n ++ Builtin.zeroCells (Value.slice none 0 0).cells (grownCap w n 0 27 - n)) 27)) := fun ty => by
      have h := Lib.run_append_grow_zeros (P := Tryd.prog) w 26 3 ty 27 i0 (.slice none 0 0) .i64 .i64 Tryd.underlying26 Tryd.underlying3 hi0 hz0 none 0 0 [] (run_firstCells_none w.drew i0.size 0 0 0) n (by omega) (by rw [hz1]; omega) (by omega) (by omega) (by rw [hz2]; omega) (growslice_fits (by omega) (by rw [hz2]; omega))
      rw [Nat.zero_add] at h
      exact h
    have hge : n ≤ grownCap w n 0 27 := grownCap_ge w _ _ _
    have hle := grownCap_le_maxLen w n 0 27 (by unfold maxLen; omega)
    unfold maxLen at hle
    have HO : Hid (∀ G, n ≤ G → G ≤ maxLen → (w.drew.alloc (.cells (([] : List Value).toArray ++ Builtin.zeroCells (Value.slice none 0 0).cells n ++ Builtin.zeroCells (Value.slice none 0 0).cells (G - n)) 27)).ownsRow w.heap.size 27 1 (.slice (some ⟨w.heap.size, 0, none⟩) 0 G) 0 []) := fun G h1 h2 =>
      ⟨rfl, .inr ⟨w.heap.size, G, _, rfl, Nat.le_refl _, heap_alloc_new w.drew _, by omega, h2, by simp [Builtin.zeroCells, Value.cells]; omega, by simp⟩⟩
    have HB : Hid (∀ G, Below w.heap.size w (w.drew.alloc (.cells (([] : List Value).toArray ++ Builtin.zeroCells (Value.slice none 0 0).cells n ++ Builtin.zeroCells (Value.slice none 0 0).cells (G - n)) 27))) := fun G => by go_grown
    generalize grownCap w n 0 27 = G at *
    have HOG := Lib.hid (HO.out G hge (by unfold maxLen; exact hle))
    have HBG := Lib.hid (HB.out G)
    clear HO HB
    generalize w.drew.alloc (.cells (([] : List Value).toArray ++ Builtin.zeroCells (Value.slice none 0 0).cells n ++ Builtin.zeroCells (Value.slice none 0 0).cells (G - n)) 27) = w2 at *
    go_enter Tryd.func192, Tryd.ntmps192
    go_wp2_with (at_builtin; refine Lib.wpList_append_run _ rfl _ _ _ _ rfl _ _ rfl rfl _ _ (hrz _) ?_)
    all_goals
      go_ret
      exact ⟨_, rfl, HOG.out, HBG.out⟩

/-- The cells from A on read as the values xs, below block B; each takes one cell. -/
def VRead (w : World) (B : Nat) (A : Option Addr) (xs : List Value) : Prop :=
  (0 < xs.length → ∃ b o, A = some ⟨b, o, none⟩ ∧ b < B ∧ ∀ (k : Nat) (x : Value), xs[k]? = some x → w.cell? ⟨b, o + k, none⟩ = some x) ∧ ∀ u ∈ xs, u.oneCell' = true
theorem VRead.keep {w w' : World} {B : Nat} {A : Option Addr} {xs : List Value} (h : VRead w B A xs) (hk : Below B w w') : VRead w' B A xs := by
  refine ⟨fun hn => ?_, h.2⟩
  obtain ⟨b, o, e, hb, hc⟩ := h.1 hn
  exact ⟨b, o, e, hb, fun k x hx => (hk.cell (p := ⟨b, o + k, none⟩) hb).trans (hc k x hx)⟩
theorem VRead.more {w : World} {B B' : Nat} {A : Option Addr} {xs : List Value} (h : VRead w B A xs) (hB : B ≤ B') : VRead w B' A xs := by
  refine ⟨fun hn => ?_, h.2⟩
  obtain ⟨b, o, e, hb, hc⟩ := h.1 hn
  exact ⟨b, o, e, by omega, hc⟩
theorem VRead.src {w : World} {B : Nat} {A : Option Addr} {xs : List Value} (h : VRead w B A xs) (hn : 0 < xs.length) : ∃ ad, A = some ad ∧ ∀ (j : Nat) (v : Value), xs[j]? = some v → w.cell? (ad.add j) = some v := by
  obtain ⟨b, o, e, _, hc⟩ := h.1 hn
  exact ⟨_, e, fun j v hv => by rw [Go.WideShapes.add_plain]; exact hc j v hv⟩
theorem Lls.vread {w : World} {B : Nat} {A : Option Addr} {ls : List Li} (h : Lls w B A ls) : VRead w B A (ls.map fun u => .slice u.a u.r.length u.c) := by
  refine ⟨fun hn => ?_, fun u hu => ?_⟩
  · obtain ⟨b, o, e, hb, hc⟩ := h (by simpa using hn)
    refine ⟨b, o, e, hb, fun k x hx => ?_⟩
    rw [List.getElem?_map] at hx
    cases e' : ls[k]? with
    | none => rw [e'] at hx; cases hx
    | some u => rw [e'] at hx; injection hx with hx; subst hx; exact (hc k u e').1
  · obtain ⟨v, _, rfl⟩ := List.mem_map.1 hu
    rfl

/-- A list as a slice in memory: where it lies, what it reads as, its capacity. -/
structure PtV where
  a : Option Addr
  r : List Value
  c : Nat
/-- The cells of block B are the slices ps. -/
def PtsV (w : World) (B : Nat) (ps : List PtV) : Prop := B < w.heap.size ∧ ∀ (k : Nat) (p : PtV), ps[k]? = some p → w.cell? ⟨B, k, none⟩ = some (.slice p.a p.r.length p.c) ∧ VRead w w.heap.size p.a p.r
theorem PtsV.keep {w w' : World} {B : Nat} {ps : List PtV} (h : PtsV w B ps) (hb : Below w.heap.size w w') : PtsV w' B ps :=
  ⟨Nat.lt_of_lt_of_le h.1 hb.size, fun k p hk => ⟨(hb.cell (p := ⟨B, k, none⟩) h.1).trans (h.2 k p hk).1, ((h.2 k p hk).2.keep hb).more hb.size⟩⟩
def catV (ps : List PtV) : List Value := ps.flatMap PtV.r
theorem catV_take {ps : List PtV} {k : Nat} (h : k < ps.length) : catV (ps.take (k + 1)) = catV (ps.take k) ++ ps[k].r := by
  unfold catV
  rw [List.take_add_one, List.getElem?_eq_getElem h, List.flatMap_append]
  simp
theorem catV_le {ps : List PtV} (k : Nat) : (catV (ps.take k)).length ≤ (catV ps).length := by
  have h : catV ps = catV (ps.take k) ++ catV (ps.drop k) := by unfold catV; rw [← List.flatMap_append, List.take_append_drop]
  rw [h, List.length_append]
  omega

set_option maxRecDepth 20000 in
set_option maxHeartbeats 1000000 in
theorem concatV_any (B : Nat) (ps : List PtV) (c : Nat) (w : World) (hP : PtsV w B ps) (hn : (catV ps).length ≤ 4194304) (hl : ps.length ≤ 4194304) :
    Calls Tryd.prog 174 #[.slice (some ⟨B, 0, none⟩) ps.length c] w fun e w' => ∃ v, e = .returned v ∧ w'.ownsRow w.heap.size 27 1 v (catV ps).length ((catV ps)) ∧ Below w.heap.size w w' := by
  obtain ⟨i0, hi0, hz0, hz1, hz2⟩ := info_of Tryd.infoIntS
  have HP := Lib.hid hP; clear hP
  go_enter Tryd.func174, Tryd.ntmps174
  go_wp2
  go_loopw [3, 11] (fun z i wr => ∃ (k m : Nat), k ≤ ps.length ∧ i = .int .i64 k ∧ z = .int .i64 m ∧ Hid (m = (catV (ps.take k)).length) ∧ wr = w) (fun _ i _ => ps.length - (intOf i).toNat)
  case atStart => exact ⟨0, 0, by omega, rfl, rfl, rfl, rfl⟩
  case round =>
    obtain ⟨k, m, hk, rfl, rfl, HM, hwr⟩ := hrel
    subst hwr
    by_cases hlt : k < ps.length
    · obtain ⟨c1, _⟩ := HP.out.2 k ps[k] (List.getElem?_eq_getElem hlt)
      have HN : Hid (m + ps[k].r.length = (catV (ps.take (k + 1))).length) := by show _ = _; rw [catV_take hlt, List.length_append, HM.out]
      have hm : m + ps[k].r.length ≤ 4194304 := by have := HN.out; have := catV_le (ps := ps) (k + 1); omega
      go_wp2
      go_roundw
      case rel => exact ⟨k + 1, m + ps[k].r.length, by omega, by go_num, by go_num, HN.out, trivial⟩
      case measure => simp [intOf]; omega
    · obtain rfl : k = ps.length := by omega
      have hm : m = (catV ps).length := by have := HM.out; rw [List.take_length] at this; exact this
      have hml : m ≤ 4194304 := by omega
      have HMM := Lib.hid hm; clear hm HM
      obtain ⟨wO, hwO⟩ : ∃ x, x = wr := ⟨_, rfl⟩
      subst hwO
      go_wp2_with fail
      refine (growNilL_any m hml _).mono ?_
      rintro e w1 ⟨v1, rfl, hO1, hB1⟩
      have HO1 : Hid (w1.ownsRow wO.heap.size 27 1 v1 (catV (ps.take 0)).length ((catV (ps.take 0)))) := hO1
      have HB1 := Lib.hid hB1
      clear hO1 hB1
      go_wp2
      go_loopw [6, 27] (fun v i wr => ∃ (k : Nat), k ≤ ps.length ∧ i = .int .i64 k ∧ Hid (wr.ownsRow wO.heap.size 27 1 v (catV (ps.take k)).length ((catV (ps.take k)))) ∧ Hid (Below wO.heap.size wO wr)) (fun _ i _ => ps.length - (intOf i).toNat)
      case atStart => exact ⟨0, by omega, rfl, HO1.out, HB1.out⟩
      case round =>
        obtain ⟨k, hk, rfl, HO, HB⟩ := hrel
        clear HO1 HB1
        by_cases hlt : k < ps.length
        · have hPk := HP.out.keep HB.out
          obtain ⟨c1, c2⟩ := hPk.2 k ps[k] (List.getElem?_eq_getElem hlt)
          have HC := Lib.hid (catV_take hlt)
          have hlk : (catV (ps.take k)).length + ps[k].r.length ≤ 4194304 := by have h1 := catV_le (ps := ps) (k + 1); rw [HC.out, List.length_append] at h1; omega
          clear hPk
          generalize ps[k] = p at c1 c2 HC hlk
          obtain ⟨pa, pr, pc⟩ := p
          dsimp only at c1 c2 HC hlk
          have HC2 := Lib.hid c2; clear c2
          rcases pa with _ | ad
          · have hx : pr = [] := by
              rcases pr with _ | ⟨x, xs⟩
              · rfl
              · obtain ⟨_, _, e, _⟩ := HC2.out.1 (by simp)
                cases e
            subst hx
            have HON : Hid (wr.ownsRow wO.heap.size 27 1 u6 (catV (ps.take (k + 1))).length ((catV (ps.take (k + 1))))) := by have h := HO.out; show World.ownsRow _ _ _ _ _ _ _; rw [HC.out, List.append_nil]; exact h
            go_wp2_with (at_builtin
                         refine append_nil_at rfl (.tmp 31) (.tmp 32) _ rfl wO.heap.size 27 i0 1 Tryd.underlying26 hi0 _ _ _ rfl HO.out pc rfl ?_)
            go_roundw
            case rel => exact ⟨k + 1, by omega, by go_num, HON.out, HB.out⟩
            case measure => simp [intOf]; omega
          · have HV1 := Lib.hid HC2.out.2
            have HN : Hid (∀ (j : Nat) (v : Value), (pr)[j]? = some v → wr.cell? (ad.add j) = some v) := fun j v hv => by
              have hp : 0 < pr.length := by have := (List.getElem?_eq_some_iff.1 hv).1; omega
              obtain ⟨ad', e, h⟩ := HC2.out.src hp
              injection e with e
              subst e
              exact h j v hv
            have hws : wO.heap.size ≤ wr.heap.size := HB.out.size
            go_wp2_with (at_builtin
                         refine wpList_append_own _ rfl (.tmp 31) (.tmp 32) _ rfl wO.heap.size 27 i0 _ 1 24 Tryd.underlying26 hi0 hz0 hz1 hz2 rfl (by omega) _ _ _ rfl HO.out ad pr.length pc (pr) rfl (by omega) HN.out HV1.out (by unfold maxLen; omega) (by omega) (by omega) ?_
                         intro v' w' h1 h2 h3
                         have HO1 := Lib.hid h1
                         have HB2 : Hid (Below wO.heap.size wO w') := HB.out.grown h2 HB.out.size fun j hj => (HO.out.lt j hj).1
                         clear h1 h2 h3)
            go_roundw
            case rel =>
              refine ⟨k + 1, by omega, by go_num, ?_, HB2.out⟩
              show World.ownsRow _ _ _ _ _ _ _
              rw [HC.out, List.length_append]
              have h := HO1.out
              exact h
            case measure => simp [intOf]; omega
        · obtain rfl : k = ps.length := by omega
          have HOE : Hid (wr.ownsRow wO.heap.size 27 1 u6 (catV ps).length ((catV ps))) := by have h := HO.out; rw [List.take_length] at h; exact h
          go_wp2
          go_ret
          exact ⟨_, rfl, HOE.out, HB.out⟩

end Go.Proofs.YtgnpgehekfhedaaDoor

/- The program's binaryRules: the rules of a binary grammar. -/

namespace Go.Proofs.YtgnpgehekfhedaaDoor
open Go.RowKit

def ruleOf (x : List Int) : Int × List Int := (x.headD 0, x.tail)
/-- The rules of a binary grammar. -/
def bRules (P O : List (List Int)) (E : List Int) : List (Int × List Int) := (P ++ O).map ruleOf ++ E.map fun e => (e, [])

theorem own_cells {w : World} {lo : Nat} {e : TypeId} {v : Value} {xs : List Value} (h : w.ownsRow lo e 1 v xs.length xs) :
    ∃ A c, v = .slice A xs.length c ∧ xs.length ≤ c ∧ ∀ (k : Nat) (x : Value), xs[k]? = some x → ∃ g, A = some ⟨g, 0, none⟩ ∧ lo ≤ g ∧ g < w.heap.size ∧ w.cell? ⟨g, k, none⟩ = some x := by
  obtain ⟨_, ⟨rfl, h0⟩ | ⟨g, cap, cur, rfl, hlo, hg, hcap, _, _, hx⟩⟩ := h
  · have : xs = [] := List.eq_nil_of_length_eq_zero h0
    subst this
    exact ⟨none, 0, rfl, Nat.le_refl _, fun k x hk => by simp at hk⟩
  · refine ⟨_, cap, rfl, hcap, fun k x hk => ⟨g, rfl, hlo, Row.lt (t := e) hg, ?_⟩⟩
    rw [Row.cell (t := e) hg]
    have hl := (List.getElem?_eq_some_iff.1 hk).1
    rw [← hx, List.getElem?_take, if_pos (by omega)] at hk
    simpa using hk

/-- The rules ds say ss, and their right sides can be read in w, below block B. -/
structure RulD (w : World) (B : Nat) (ds : List Ru) (ss : List (Int × List Int)) : Prop where
  say : ds.map Ru.abs = ss
  read : ∀ u ∈ ds, Ints w B u.a u.r
  caps : ∀ u ∈ ds, u.r.length ≤ u.c
theorem RulD.start (w : World) (B : Nat) : RulD w B [] [] := ⟨rfl, fun u h => by simp at h, fun u h => by simp at h⟩
theorem RulD.snoc {w : World} {B : Nat} {ds : List Ru} {ss : List (Int × List Int)} (h : RulD w B ds ss) {u : Ru} (hu : Ints w B u.a u.r) (hc : u.r.length ≤ u.c) : RulD w B (ds ++ [u]) (ss ++ [u.abs]) :=
  ⟨by rw [List.map_append, h.say]; rfl, fun v hv => (List.mem_append.1 hv).elim (h.read v) fun e => by rw [List.mem_singleton.1 e]; exact hu, fun v hv => (List.mem_append.1 hv).elim (h.caps v) fun e => by rw [List.mem_singleton.1 e]; exact hc⟩
theorem RulD.len {w : World} {B : Nat} {ds : List Ru} {ss : List (Int × List Int)} (h : RulD w B ds ss) : ds.length = ss.length := by rw [← h.say, List.length_map]

/-- A new slice of rules that say ss, with right sides that were there before; nothing older has turned. -/
def GaveRul (w : World) (B : Nat) (ss : List (Int × List Int)) (e : Ending) (w' : World) : Prop :=
  ∃ v rs, e = .returned v ∧ w'.ownsRow w.heap.size 67 2 v rs.length (rs.flatMap cellsU) ∧ RulD w B rs ss ∧ Below w.heap.size w w'

theorem rls_of {w w' : World} {B lo k : Nat} {v : Value} {ds : List Ru} {ss : List (Int × List Int)} (h : RulD w B ds ss) (h1 : ds.length = k) (h2 : w'.ownsRow lo 67 2 v k (ds.flatMap cellsU)) (hB : Below B w w') (hB2 : B ≤ w'.heap.size) : ∃ A c, v = .slice A ds.length c ∧ ds.length ≤ c ∧ Rls w' w'.heap.size A ds := by
  subst h1
  obtain ⟨_, ⟨rfl, h0⟩ | ⟨g, cap, cur, rfl, hlo, hg, hcap, _, _, hx⟩⟩ := h2
  · have : ds = [] := List.eq_nil_of_length_eq_zero h0
    subst this
    exact ⟨none, 0, rfl, Nat.le_refl _, fun hn => by simp at hn⟩
  · refine ⟨_, cap, rfl, hcap, fun _ => ⟨g, 0, rfl, Row.lt (t := 67) hg, fun k u hu => ?_⟩⟩
    have hk := (List.getElem?_eq_some_iff.1 hu).1
    obtain ⟨f1, f2⟩ := flat_get hu
    rw [← hx] at f1 f2
    rw [List.getElem?_take, if_pos (by omega)] at f1 f2
    rw [Nat.zero_add, Row.cell (t := 67) hg, Row.cell (t := 67) hg]
    exact ⟨by simpa using f1, by simpa using f2, ((h.read u (List.mem_of_getElem? hu)).keep hB).more hB2⟩

theorem own_lower {w : World} {lo lo' : Nat} {e : TypeId} {size n : Nat} {v : Value} {xs : List Value} (h : w.ownsRow lo e size v n xs) (hl : lo' ≤ lo) : w.ownsRow lo' e size v n xs := by
  obtain ⟨h1, h2 | ⟨g, cap, cur, e1, h3, h4⟩⟩ := h
  · exact ⟨h1, .inl h2⟩
  · exact ⟨h1, .inr ⟨g, cap, cur, e1, by omega, h4⟩⟩
theorem own_snocR {w : World} {lo k : Nat} {v : Value} {ds : List Ru} (u : Ru) (h : w.ownsRow lo 67 2 v k (ds.flatMap cellsU ++ [.int .i64 u.l, .slice u.a u.r.length u.c])) : w.ownsRow lo 67 2 v k ((ds ++ [u]).flatMap cellsU) := by
  rw [List.flatMap_append]
  simpa [cellsU] using h

set_option maxRecDepth 20000 in
set_option maxHeartbeats 1000000 in
theorem binaryRules_any (b : Bi) (B : Nat) (w : World) (hBB : B ≤ w.heap.size) (hr : ReadB w B b) (hm : LenB 1048576 b) (hp : ∀ u ∈ b.P ++ b.O, 2 ≤ u.r.length ∧ u.r.length ≤ 3) :
    Calls Tryd.prog 131 #[(.agg #[.int .i64 b.n, .int .i64 b.t, .slice b.Ap b.P.length b.cp, .slice b.Ao b.O.length b.co, .slice b.Ae b.E.length b.ce, .slice b.Af b.F.length b.cf])] w (GaveRul w B (bRules (sayL b.P) (sayL b.O) b.E)) := by
  have HR := Lib.hid hr; clear hr
  have HP := Lib.hid hp; clear hp
  have h1 := hm.p
  have h2 := hm.o
  have h3 := hm.e
  clear hm
  obtain ⟨i0, hi0, hz0, hz1, hz2⟩ := info_of Tryd.infoRule
  have HB0 : Hid (Below w.heap.size w ((w.alloc (.cells #[.int .i64 b.n, .int .i64 b.t, .slice b.Ap b.P.length b.cp, .slice b.Ao b.O.length b.co, .slice b.Ae b.E.length b.ce, .slice b.Af b.F.length b.cf] 29)).alloc (.cells #[.slice b.Ap b.P.length b.cp, .slice b.Ao b.O.length b.co] 26))) := by show Below _ _ _; go_grown
  have HR0 : Hid (Row ((w.alloc (.cells #[.int .i64 b.n, .int .i64 b.t, .slice b.Ap b.P.length b.cp, .slice b.Ao b.O.length b.co, .slice b.Ae b.E.length b.ce, .slice b.Af b.F.length b.cf] 29)).alloc (.cells #[.slice b.Ap b.P.length b.cp, .slice b.Ao b.O.length b.co] 26)) w.heap.size 29 #[.int .i64 b.n, .int .i64 b.t, .slice b.Ap b.P.length b.cp, .slice b.Ao b.O.length b.co, .slice b.Ae b.E.length b.ce, .slice b.Af b.F.length b.cf]) := (Row.new _ _ _).alloc _
  have HPT : Hid (PtsV ((w.alloc (.cells #[.int .i64 b.n, .int .i64 b.t, .slice b.Ap b.P.length b.cp, .slice b.Ao b.O.length b.co, .slice b.Ae b.E.length b.ce, .slice b.Af b.F.length b.cf] 29)).alloc (.cells #[.slice b.Ap b.P.length b.cp, .slice b.Ao b.O.length b.co] 26)) (w.heap.size + 1) [⟨b.Ap, b.P.map fun u => .slice u.a u.r.length u.c, b.cp⟩, ⟨b.Ao, b.O.map fun u => .slice u.a u.r.length u.c, b.co⟩]) := by
    refine ⟨by simp, fun k p hk => ?_⟩
    rcases k with _ | _ | k
    · simp at hk
      subst hk
      exact ⟨by simp [go_sem], ((HR.out.1.vread).keep (HB0.out.mono hBB)).more (Nat.le_trans hBB HB0.out.size)⟩
    · simp at hk
      subst hk
      exact ⟨by simp [go_sem], ((HR.out.2.1.vread).keep (HB0.out.mono hBB)).more (Nat.le_trans hBB HB0.out.size)⟩
    · simp at hk
  have HC := Lib.hid (concatV_any (w.heap.size + 1) _ 2 _ HPT.out (by simp [catV]; omega) (by simp))
  have hcat : catV [⟨b.Ap, b.P.map fun u => .slice u.a u.r.length u.c, b.cp⟩, ⟨b.Ao, b.O.map fun u => .slice u.a u.r.length u.c, b.co⟩] = (b.P ++ b.O).map fun u => (.slice u.a u.r.length u.c : Value) := by simp [catV]
  rw [hcat] at HC
  clear hcat HPT
  go_enter Tryd.func131, Tryd.ntmps131
  go_wp2_with fail
  refine HC.out.mono ?_
  rintro e w1 ⟨v, rfl, hO1, hB1⟩
  rw [show ((b.P ++ b.O).map fun u => (.slice u.a u.r.length u.c : Value)).length = ((b.P ++ b.O).map fun u => (.slice u.a u.r.length u.c : Value)).length from rfl] at hO1
  obtain ⟨A1, c1, rfl, hc1, hv1⟩ := own_cells hO1
  have HR1 := Lib.hid (HR0.out.below hB1 HR0.out.lt)
  have HB1 : Hid (Below w.heap.size w w1) := HB0.out.trans (hB1.mono HB0.out.size)
  have HZ1 : Hid (w.heap.size + 2 ≤ w1.heap.size) := by have h := hB1.size; rw [World.size_alloc, World.size_alloc] at h; exact h
  have HRD : Hid (∀ u ∈ b.P ++ b.O, u.r.length ≤ u.c ∧ Ints w B u.a u.r) := fun u hu => by
    rcases List.mem_append.1 hu with hu | hu
    · obtain ⟨k, hk, e⟩ := List.getElem_of_mem hu
      obtain ⟨_, _, _, _, _, h, h'⟩ := HR.out.1.at_ hk
      rw [e] at h h'; exact ⟨h, h'⟩
    · obtain ⟨k, hk, e⟩ := List.getElem_of_mem hu
      obtain ⟨_, _, _, _, _, h, h'⟩ := HR.out.2.1.at_ hk
      rw [e] at h h'; exact ⟨h, h'⟩
  have hLl : (b.P ++ b.O).length ≤ 2097152 := by rw [List.length_append]; omega
  have HSL : Hid ((b.P ++ b.O).map Li.r = sayL b.P ++ sayL b.O) := by show _ = _; rw [List.map_append]; rfl
  rw [List.length_map] at hc1 ⊢
  have HV1 : Hid (∀ (k : Nat) (u : Li), (b.P ++ b.O)[k]? = some u → ∃ g, A1 = some ⟨g, 0, none⟩ ∧ g < w1.heap.size ∧ w1.cell? ⟨g, k, none⟩ = some (.slice u.a u.r.length u.c)) := fun k u hu => by
    obtain ⟨g, e, _, hg, h⟩ := hv1 k (.slice u.a u.r.length u.c) (by rw [List.getElem?_map, hu]; rfl)
    exact ⟨g, e, hg, h⟩
  clear hO1 hB1 hv1 HC HB0 HR0
  generalize b.P ++ b.O = L at *
  go_wp2
  go_loopw [3, 15] (fun v y wr => ∃ (k : Nat) (ds : List Ru), k ≤ L.length ∧ y = .int .i64 k ∧ Hid (ds.length = k) ∧ Hid (Below w1.heap.size w1 wr) ∧ Hid (wr.ownsRow w1.heap.size 67 2 v k (ds.flatMap cellsU)) ∧ Hid (RulD w B ds (((L.take k).map Li.r).map ruleOf))) (fun _ y _ => L.length - (intOf y).toNat)
  case atStart => exact ⟨0, [], by omega, rfl, rfl, Below.refl _ _, ⟨rfl, .inl ⟨rfl, rfl⟩⟩, RulD.start _ _⟩
  case round =>
    obtain ⟨k, ds, hk, rfl, HDL, HB, HOW, HD⟩ := hrel
    by_cases hlt : k < L.length
    · obtain ⟨g, rfl, hg, d1⟩ := HV1.out k L[k] (List.getElem?_eq_getElem hlt)
      have d1' := (HB.out.cell (p := ⟨g, k, none⟩) hg).trans d1
      have hl2 := HP.out L[k] (List.getElem_mem hlt)
      have HI := Lib.hid (HRD.out L[k] (List.getElem_mem hlt)).2
      have huc := (HRD.out L[k] (List.getElem_mem hlt)).1
      have HTK : Hid (((L.take (k + 1)).map Li.r).map ruleOf = ((L.take k).map Li.r).map ruleOf ++ [ruleOf L[k].r]) := by show _ = _; rw [List.take_succ_eq_append_getElem hlt, List.map_append, List.map_append]; rfl
      clear d1
      generalize L[k] = u at d1' hl2 HI HTK huc
      obtain ⟨ua, ur, uc⟩ := u
      dsimp only at d1' hl2 HI HTK huc
      obtain ⟨bb, oo, rfl, hbb, hcc⟩ := HI.out (by omega)
      rcases ur with _ | ⟨y, ur⟩
      · simp at hl2
      have HBW := Lib.hid (HB1.out.trans (HB.out.mono HB1.out.size))
      have e0 := (HBW.out.cell (p := ⟨bb, oo, none⟩) (Nat.lt_of_lt_of_le hbb hBB)).trans (hcc 0 y rfl)
      have HIT : Hid (Ints w B (some ⟨bb, oo + 1, none⟩) ur) := fun _ => ⟨bb, oo + 1, rfl, hbb, fun k x hx => by rw [Nat.add_assoc, Nat.add_comm 1 k]; exact hcc (k + 1) x (by simpa using hx)⟩
      clear hcc HI
      have hul : 1 ≤ ur.length := by simp at hl2; omega
      have hul2 : ur.length ≤ 2 := by simp at hl2; omega
      have hlc : (y :: ur).length = ur.length + 1 := rfl
      rw [hlc] at d1' huc
      clear hlc hl2
      have hs := HB.out.size
      go_wp2_with fail
      have hI1 : (0 : Int) ≤ (ur.length : Int) + 1 := by omega
      have hI2 : (ur.length : Int) + 1 ≤ (uc : Int) := by omega
      have hI3 : (1 : Int) ≤ (ur.length : Int) + 1 := by omega
      have hne : ur ≠ [] := fun e => by subst e; simp at hul
      have HVB : Hid (∀ b, u3.ownBlock = some b → w1.heap.size ≤ b ∧ b < wr.heap.size) := fun b e => HOW.out.lt b e
      go_region_law (first
        | (refine step_append_lies _ rfl _ _ _ rfl w1.heap.size 67 i0 _ 2 32 Tryd.underlying32 hi0 hz0 hz1 hz2 rfl (by omega) u3 k (ds.flatMap cellsU) (by simp [Act.eval]) ((own_below HOW.out (by go_grown)).alloc _)
             ⟨wr.heap.size, 0, none⟩ 1 1 [.int .i64 y, .slice (some ⟨bb, oo + 1, none⟩) ur.length ur.length] (by simp [Act.eval]) rfl (two_new _ _ _ _) (by simp [Value.oneCell'])
             (by omega) (by unfold maxLen; omega) (by omega) (by simp; omega) (wr.heap.size + 1) (by simp) ?_
           intro gg cap w' p1 p2 p3 p4
           have HON : Hid (w'.ownsRow w1.heap.size 67 2 (.slice (some ⟨gg, 0, none⟩) (k + 1) cap) (k + 1) ((ds ++ [(⟨y, some ⟨bb, oo + 1, none⟩, ur, ur.length⟩ : Ru)]).flatMap cellsU)) := own_snocR ⟨y, some ⟨bb, oo + 1, none⟩, ur, ur.length⟩ p1
           have hBn : Below w1.heap.size wr w' := Below.grown (by go_grown) p2 (by simp; omega) fun j hj => (HOW.out.lt j hj).1
           have HBn := Lib.hid (HB.out.trans hBn)
           clear p1 p2 p3 p4 hBn)
        | fail)
      all_goals
        clear hI1 hI2 hI3
        go_wp2
        go_roundw
        case rel => exact ⟨k + 1, _, by omega, by go_num, by show _ = _; rw [List.length_append, HDL.out]; rfl, HBn.out, HON.out, by show RulD _ _ _ _; rw [HTK.out]; exact HD.out.snoc HIT.out (Nat.le_refl _)⟩
        case measure => simp [intOf]; omega
    · obtain rfl : k = L.length := by omega
      have HDA : Hid (RulD w B ds ((sayL b.P ++ sayL b.O).map ruleOf)) := by have h := HD.out; rw [List.take_length, HSL.out] at h; exact h
      have HBW := Lib.hid (HB1.out.trans (HB.out.mono HB1.out.size))
      have HR2 := Lib.hid (HR1.out.below HB.out HR1.out.lt)
      have hs := HB.out.size
      have hdl : ds.length ≤ 2097152 := by have := HDL.out; omega
      have HOW2 : Hid (wr.ownsRow w1.heap.size 67 2 u3 ds.length (ds.flatMap cellsU)) := by have h := HOW.out; rw [← HDL.out] at h; exact h
      clear HD HR1 HOW HDL HV1 HRD HSL HP
      have x4 := HR2.out.cell 4
      simp only [List.getElem?_toArray, List.getElem?_cons_succ, List.getElem?_cons_zero] at x4
      obtain ⟨wA, hwA⟩ : ∃ x, x = wr := ⟨wr, rfl⟩
      subst hwA
      obtain ⟨fs, hfs⟩ : ∃ x, x = ds := ⟨_, rfl⟩
      subst hfs
      go_wp2
      clear x4
      go_loopw [3, 36] (fun v y wr => ∃ (k : Nat) (ds : List Ru), k ≤ b.E.length ∧ y = .int .i64 k ∧ Hid (ds.length = fs.length + k) ∧ Hid (Below w1.heap.size w1 wr) ∧ Hid (wr.ownsRow w1.heap.size 67 2 v ds.length (ds.flatMap cellsU)) ∧ Hid (RulD w B ds ((sayL b.P ++ sayL b.O).map ruleOf ++ (b.E.take k).map fun e => (e, [])))) (fun _ y _ => b.E.length - (intOf y).toNat)
      case atStart => exact ⟨0, fs, by omega, rfl, rfl, HB.out, HOW2.out, by show RulD _ _ _ _; rw [List.take_zero, List.map_nil, List.append_nil]; exact HDA.out⟩
      case round =>
        clear HB HDA HOW2
        obtain ⟨k, ds, hk, rfl, HDL, HB, HOW, HD⟩ := hrel
        by_cases hlt2 : k < b.E.length
        · have hsz := HB.out.size
          have HBX := Lib.hid (HB1.out.trans (HB.out.mono HB1.out.size))
          obtain ⟨bb, oo, ea, hbb, e0⟩ := (HR.out.2.2.1.keep (HBX.out.mono hBB)).at_ hlt2
          have hdd : ds.length ≤ 4194304 := by have := HDL.out; omega
          have HTK : Hid ((b.E.take (k + 1)).map (fun e => ((e, []) : Int × List Int)) = (b.E.take k).map (fun e => (e, [])) ++ [(b.E[k], [])]) := by show _ = _; rw [List.take_succ_eq_append_getElem hlt2, List.map_append]; rfl
          rw [ea]
          have HOD : Hid ((wr.alloc (.cells #[.int .i64 b.E[k], .slice none 0 0] 67)).ownsRow w1.heap.size 67 2 u3 ds.length (ds.flatMap cellsU)) := HOW.out.alloc _
          have HND := Lib.hid (two_new wr (.int .i64 b.E[k]) (.slice none 0 0) 67)
          go_wp2_with (at_builtin
                       refine wpList_append_own _ rfl (.tmp 40) (.tmp 43) _ rfl w1.heap.size 67 i0 _ 2 32 Tryd.underlying32 hi0 hz0 hz1 hz2 rfl (by omega) _ _ _ rfl HOD.out ⟨wr.heap.size, 0, none⟩ 1 1 [.int .i64 b.E[k], .slice none 0 0] rfl rfl HND.out (by simp [Value.oneCell']) (by unfold maxLen; omega) (by omega) (by simp; omega) ?_
                       intro v' w' p1 p2 p3
                       have HON : Hid (w'.ownsRow w1.heap.size 67 2 v' (ds ++ [(⟨b.E[k], none, [], 0⟩ : Ru)]).length ((ds ++ [(⟨b.E[k], none, [], 0⟩ : Ru)]).flatMap cellsU)) := by show World.ownsRow _ _ _ _ _ _ _; rw [List.length_append]; exact own_snocR ⟨b.E[k], none, [], 0⟩ p1
                       have hBn : Below w1.heap.size wr w' := ((Below.refl _ _).alloc (by omega) _).grown p2 (by simp; omega) fun j hj => (HOW.out.lt j hj).1
                       have HBn := Lib.hid (HB.out.trans hBn)
                       clear p1 p2 p3 hBn)
          go_roundw
          case rel => exact ⟨k + 1, _, by omega, by go_num, by have := HDL.out; show _ = _; rw [List.length_append]; simp; omega, HBn.out, HON.out, by show RulD _ _ _ _; rw [HTK.out, ← List.append_assoc]; exact HD.out.snoc (u := ⟨b.E[k], none, [], 0⟩) (fun h => by simp at h) (Nat.le_refl _)⟩
          case measure => simp [intOf]; omega
        · obtain rfl : k = b.E.length := by omega
          have HBX := Lib.hid (HB1.out.trans (HB.out.mono HB1.out.size))
          have HSY : Hid (RulD w B ds (bRules (sayL b.P) (sayL b.O) b.E)) := by have h := HD.out; rw [List.take_length] at h; exact h
          have HOW2 : Hid (wr.ownsRow w.heap.size 67 2 u3 ds.length (ds.flatMap cellsU)) := own_lower HOW.out HB1.out.size
          go_wp2
          go_ret
          exact ⟨_, ds, rfl, HOW2.out, HSY.out, HBX.out⟩

end Go.Proofs.YtgnpgehekfhedaaDoor

/- What the program's checks of lists answer: slices.Compare, isRising, allLong, goodLists, goodEmpty. -/

namespace Go.Proofs.YtgnpgehekfhedaaDoor
open Go.RowKit

/-- Two numbers compared. -/
def cmpI (x y : Int) : Int := if x < y then -1 else if y < x then 1 else 0

theorem cmpI_lt {x y : Int} : cmpI x y < 0 ↔ x < y := by
  unfold cmpI
  split
  · simp_all
  · split <;> simp_all

set_option maxHeartbeats 400000 in
theorem isNaN_any (x : Int) (w : World) : Calls Tryd.prog 161 #[.int .i64 x] w fun e w' => e = .returned (.bool false) ∧ w' = w := by
  have hd : (x != x) = false := by simp
  go_enter Tryd.func161, Tryd.ntmps161
  go_wp2
  go_ret
  exact ⟨rfl, rfl⟩

set_option maxHeartbeats 400000 in
theorem compareI_any (x y : Int) (w : World) : Calls Tryd.prog 123 #[.int .i64 x, .int .i64 y] w fun e w' => e = .returned (.int .i64 (cmpI x y)) ∧ w' = w := by
  rcases Int.lt_trichotomy x y with h | h | h
  · have HE : Hid (cmpI x y = -1) := by show _ = _; unfold cmpI; rw [if_pos h]
    go_enter Tryd.func123, Tryd.ntmps123
    go_wp2_with (go_at_call 161; refine (isNaN_any _ _).mono ?_; rintro e w' ⟨rfl, rfl⟩)
    go_ret
    exact ⟨by rw [HE.out]; rfl, rfl⟩
  · have HE : Hid (cmpI x y = 0) := by show _ = _; unfold cmpI; rw [if_neg (by omega), if_neg (by omega)]
    have h1 : ¬ x < y := by omega
    have h2 : ¬ y < x := by omega
    clear h
    go_enter Tryd.func123, Tryd.ntmps123
    go_wp2_with (go_at_call 161; refine (isNaN_any _ _).mono ?_; rintro e w' ⟨rfl, rfl⟩)
    go_ret
    exact ⟨by rw [HE.out]; rfl, rfl⟩
  · have HE : Hid (cmpI x y = 1) := by show _ = _; unfold cmpI; rw [if_neg (by omega), if_pos h]
    have h1 : ¬ x < y := by omega
    go_enter Tryd.func123, Tryd.ntmps123
    go_wp2_with (go_at_call 161; refine (isNaN_any _ _).mono ?_; rintro e w' ⟨rfl, rfl⟩)
    go_ret
    exact ⟨by rw [HE.out]; rfl, rfl⟩

set_option maxHeartbeats 400000 in
theorem compareL_any (A A' : Option Addr) (xs ys : List Int) (c c' : Nat) (w : World) (hx : Ints w w.heap.size A xs) (hy : Ints w w.heap.size A' ys) (h1 : xs.length ≤ 1048576) :
    Calls Tryd.prog 64 #[.slice A xs.length c, .slice A' ys.length c'] w fun e w' => e = .returned (.int .i64 (cmpL xs ys)) ∧ w' = w := by
  have HX := Lib.hid hx; clear hx
  have HY := Lib.hid hy; clear hy
  go_enter Tryd.func64, Tryd.ntmps64
  go_wp2
  go_loopw [11] (fun i wr => ∃ (k : Nat), k ≤ xs.length ∧ i = .int .i64 k ∧ wr = w ∧ Hid (cmpL xs ys = cmpL (xs.drop k) (ys.drop k))) (fun i _ => xs.length - (intOf i).toNat)
  case atStart => exact ⟨0, by omega, rfl, rfl, rfl⟩
  case round =>
    obtain ⟨k, hk, rfl, rfl, H⟩ := hrel
    by_cases hlt : k < xs.length
    · obtain ⟨b, o, rfl, hb, c1⟩ := HX.out.at_ hlt
      by_cases hlt' : k < ys.length
      · obtain ⟨b', o', rfl, hb', c2⟩ := HY.out.at_ hlt'
        by_cases hne : cmpI xs[k] ys[k] = 0
        · have hd : (cmpI xs[k] ys[k] != 0) = false := bne_f hne
          have HN : Hid (cmpL xs ys = cmpL (xs.drop (k + 1)) (ys.drop (k + 1))) := by
            show _ = _
            rw [H.out, cmpL_drop hlt hlt']
            unfold cmpI at hne
            split at hne
            · cases hne
            · split at hne
              · cases hne
              · rename_i g1 g2; rw [if_neg g1, if_neg g2]
          clear hne
          go_wp2_with (go_at_call 123; refine (compareI_any _ _ _).mono ?_; rintro e w' ⟨rfl, rfl⟩)
          go_roundw
          case rel => exact ⟨k + 1, by omega, by go_num, trivial, HN.out⟩
          case measure => simp [intOf]; omega
        · have hd : (cmpI xs[k] ys[k] != 0) = true := bne_t hne
          have HN : Hid (cmpL xs ys = cmpI xs[k] ys[k]) := by
            show _ = _
            rw [H.out, cmpL_drop hlt hlt']
            unfold cmpI at hne ⊢
            split
            · rfl
            · split
              · rfl
              · rename_i g1 g2; rw [if_neg g1, if_neg g2] at hne; exact absurd rfl hne
          clear hne
          go_wp2_with (go_at_call 123; refine (compareI_any _ _ _).mono ?_; rintro e w' ⟨rfl, rfl⟩)
          go_ret
          exact ⟨by rw [HN.out]; rfl, rfl⟩
      · have HN : Hid (cmpL xs ys = 1) := H.out.trans (cmpL_left hlt hlt')
        go_wp2
        go_ret
        exact ⟨by rw [HN.out]; rfl, rfl⟩
    · by_cases hl : xs.length < ys.length
      · have HN : Hid (cmpL xs ys = -1) := H.out.trans (cmpL_right hlt (by omega))
        go_wp2
        go_ret
        exact ⟨by rw [HN.out]; rfl, rfl⟩
      · by_cases hl2 : k < ys.length
        · omega
        have HN : Hid (cmpL xs ys = 0) := H.out.trans (cmpL_end hlt hl2)
        go_wp2
        go_ret
        exact ⟨by rw [HN.out]; rfl, rfl⟩

set_option maxRecDepth 100000 in
theorem cmpF_enter (xs : Array Value) (v : World) : Sem.run Tryd.prog (callFunc 64 xs) v = .ok (.enter 64 xs) v := rfl
set_option maxRecDepth 100000 in
theorem cmpI_enter (xs : Array Value) (v : World) : Sem.run Tryd.prog (callFunc 123 xs) v = .ok (.enter 123 xs) v := rfl

set_option maxRecDepth 20000 in
set_option maxHeartbeats 400000 in
theorem isRisingL_any (A : Option Addr) (ls : List Li) (c : Nat) (w : World) (hx : Lls w w.heap.size A ls) (h1 : ls.length ≤ 1048576) (h2 : ∀ u ∈ ls, u.r.length ≤ 1048576) :
    Calls Tryd.prog 171 #[.slice A ls.length c, .func (.func 64) #[] #[]] w fun e w' => e = .returned (.bool (bP (RiseTo (sayL ls) ls.length))) ∧ Below w.heap.size w w' := by
  have HX := Lib.hid hx; clear hx
  have H2 := Lib.hid h2; clear h2
  have HCF := cmpF_enter
  go_enter Tryd.func171, Tryd.ntmps171
  go_wp2
  go_loopw [5] (fun i wr => ∃ (j : Nat), i = .int .i64 ((j + 1 : Nat) : Int) ∧ j ≤ ls.length ∧ Below w.heap.size w wr ∧ Hid (RiseTo (sayL ls) (j + 1))) (fun i _ => ls.length + 1 - (intOf i).toNat)
  case atStart => exact ⟨0, rfl, by omega, Below.refl _ _, RiseTo.none _⟩
  case round =>
    obtain ⟨k, rfl, hk, hB, H⟩ := hrel
    by_cases hlt' : k + 1 < ls.length
    · have hlt : k < ls.length := by omega
      obtain ⟨b, o, rfl, hb, c1, _, c3⟩ := (HX.out.keep hB).at_ hlt
      obtain ⟨b', o', e', hb', d1, _, d3⟩ := (HX.out.keep hB).at_ hlt'
      injection e' with e'
      injection e' with e1 e2
      subst e1 e2
      have C3 := Lib.hid (c3.more hB.size); clear c3
      have D3 := Lib.hid (d3.more hB.size); clear d3
      have hlen2 := H2.out ls[k] (List.getElem_mem hlt)
      by_cases hq : cmpL ls[k].r ls[k + 1].r < 0
      all_goals
        have HQ := Lib.hid hq
        have hwk : IntKind.i64.wrap (k : Int) = (k : Int) := by rw [IntKind.wrap_i64]; omega
        have hI1 : (k : Int) + 1 < (ls.length : Int) := by omega
        have hI0 : (0 : Int) ≤ (k : Int) + 1 := by omega
        have hT : ((k : Int) + 1).toNat = k + 1 := by omega
        go_wp2
        go_still_tail 10, (by kernel_rfl)
        change wpList _ _ _ _ _ wr.drew
        go_wp2_with fail
        refine (compareL_any _ _ _ _ _ _ _ ?_ ?_ hlen2).mono ?_
        · exact C3.out.keep (by go_grown)
        · exact D3.out.keep (by go_grown)
        rintro e w1 ⟨rfl, rfl⟩
        have hB2 : Below w.heap.size w wr.drew := hB.trans (Below.trans (by go_grown) (Below.refl _ _))
      · have HN : Hid (RiseTo (sayL ls) (k + 1 + 1)) := H.out.step (sayL_at hlt) (sayL_at hlt') HQ.out
        go_wp2
        go_roundw
        case rel => exact ⟨k + 1, by go_num, by omega, hB2, HN.out⟩
        case measure => simp [intOf]; omega
      · have HE : Hid (bP (RiseTo (sayL ls) ls.length) = false) := bP_f fun h => by have h1 := h k _ _ hlt' (sayL_at hlt) (sayL_at hlt'); have h2 := HQ.out; omega
        go_wp2
        go_ret
        exact ⟨ret_b HE.out.symm, hB2⟩
    · have HE : Hid (bP (RiseTo (sayL ls) ls.length) = true) := bP_t (H.out.mono (by omega))
      go_wp2
      go_ret
      exact ⟨ret_b HE.out.symm, hB⟩

set_option maxRecDepth 20000 in
set_option maxHeartbeats 400000 in
theorem isRisingI_any (A : Option Addr) (xs : List Int) (c : Nat) (w : World) (hx : Ints w w.heap.size A xs) (h1 : xs.length ≤ 1048576) :
    Calls Tryd.prog 132 #[.slice A xs.length c, .func (.func 123) #[] #[]] w fun e w' => e = .returned (.bool (bP (RiseI xs xs.length))) ∧ Below w.heap.size w w' := by
  have HX := Lib.hid hx; clear hx
  have HCF := cmpI_enter
  go_enter Tryd.func132, Tryd.ntmps132
  go_wp2
  go_loopw [5] (fun i wr => ∃ (j : Nat), i = .int .i64 ((j + 1 : Nat) : Int) ∧ j ≤ xs.length ∧ Below w.heap.size w wr ∧ Hid (RiseI xs (j + 1))) (fun i _ => xs.length + 1 - (intOf i).toNat)
  case atStart => exact ⟨0, rfl, by omega, Below.refl _ _, RiseI.none _⟩
  case round =>
    obtain ⟨k, rfl, hk, hB, H⟩ := hrel
    by_cases hlt' : k + 1 < xs.length
    · have hlt : k < xs.length := by omega
      obtain ⟨b, o, rfl, hb, c1⟩ := (HX.out.keep hB).at_ hlt
      obtain ⟨b', o', e', hb', d1⟩ := (HX.out.keep hB).at_ hlt'
      injection e' with e'
      injection e' with e1 e2
      subst e1 e2
      by_cases hq : cmpI xs[k] xs[k + 1] < 0
      all_goals
        have HQ := Lib.hid hq
        have hwk : IntKind.i64.wrap (k : Int) = (k : Int) := by rw [IntKind.wrap_i64]; omega
        have hI1 : (k : Int) + 1 < (xs.length : Int) := by omega
        have hI0 : (0 : Int) ≤ (k : Int) + 1 := by omega
        have hT : ((k : Int) + 1).toNat = k + 1 := by omega
        go_wp2
        go_still_tail 10, (by kernel_rfl)
        change wpList _ _ _ _ _ wr.drew
        go_wp2_with fail
        refine (compareI_any _ _ _).mono ?_
        rintro e w1 ⟨rfl, rfl⟩
        have hB2 : Below w.heap.size w wr.drew := hB.trans (Below.trans (by go_grown) (Below.refl _ _))
      · have HN : Hid (RiseI xs (k + 1 + 1)) := H.out.step (List.getElem?_eq_getElem hlt) (List.getElem?_eq_getElem hlt') (cmpI_lt.1 HQ.out)
        go_wp2
        go_roundw
        case rel => exact ⟨k + 1, by go_num, by omega, hB2, HN.out⟩
        case measure => simp [intOf]; omega
      · have HE : Hid (bP (RiseI xs xs.length) = false) := bP_f fun h => by have h1 := cmpI_lt.2 (h k _ _ hlt' (List.getElem?_eq_getElem hlt) (List.getElem?_eq_getElem hlt')); have h2 := HQ.out; omega
        go_wp2
        go_ret
        exact ⟨ret_b HE.out.symm, hB2⟩
    · have HE : Hid (bP (RiseI xs xs.length) = true) := bP_t (H.out.mono (by omega))
      go_wp2
      go_ret
      exact ⟨ret_b HE.out.symm, hB⟩

set_option maxHeartbeats 400000 in
theorem allLong_any (A : Option Addr) (ls : List Li) (c : Nat) (long : Int) (w : World) (hx : Lls w w.heap.size A ls) (h1 : ls.length ≤ 1048576) :
    Calls Tryd.prog 129 #[.slice A ls.length c, .int .i64 long] w fun e w' => e = .returned (.bool (bP (LongTo long (sayL ls) ls.length))) ∧ w' = w := by
  have HX := Lib.hid hx; clear hx
  go_enter Tryd.func129, Tryd.ntmps129
  go_wp2
  go_loopw [9] (fun i wr => ∃ (k : Nat), k ≤ ls.length ∧ i = .int .i64 k ∧ wr = w ∧ Hid (LongTo long (sayL ls) k)) (fun i _ => ls.length - (intOf i).toNat)
  case atStart => exact ⟨0, by omega, rfl, rfl, fun j x h => absurd h (by omega)⟩
  case round =>
    obtain ⟨k, hk, rfl, rfl, H⟩ := hrel
    by_cases hlt : k < ls.length
    · obtain ⟨b, o, rfl, hb, c1, c2, c3⟩ := HX.out.at_ hlt
      clear c2 c3
      by_cases hne : (ls[k].r.length : Int) = long
      · have hd : ((ls[k].r.length : Int) != long) = false := bne_f hne
        have HN : Hid (LongTo long (sayL ls) (k + 1)) := upto_next (Q := fun x : List Int => (x.length : Int) = long) (sayL_at hlt) hne H.out
        clear hne
        go_wp2
        go_roundw
        case rel => exact ⟨k + 1, by omega, by go_num, trivial, HN.out⟩
        case measure => simp [intOf]; omega
      · have hd : ((ls[k].r.length : Int) != long) = true := bne_t hne
        have HN : Hid (bP (LongTo long (sayL ls) ls.length) = false) := bP_f fun h => hne (h k _ hlt (sayL_at hlt))
        clear hne
        go_wp2
        go_ret
        exact ⟨ret_b HN.out.symm, rfl⟩
    · have HN : Hid (bP (LongTo long (sayL ls) ls.length) = true) := bP_t (fun j x _ hx => H.out j x (by have := (List.getElem?_eq_some_iff.1 hx).1; rw [sayL_len] at this; omega) hx)
      go_wp2
      go_ret
      exact ⟨ret_b HN.out.symm, rfl⟩

end Go.Proofs.YtgnpgehekfhedaaDoor

/- What the program's checks of a binary grammar answer: goodEmpty, goodLists, GoodBinary. -/

namespace Go.Proofs.YtgnpgehekfhedaaDoor
open Go.RowKit
open Go.Sort (grow)

set_option maxRecDepth 20000 in
set_option maxHeartbeats 400000 in
theorem goodEmpty_any (n t : Int) (A : Option Addr) (xs : List Int) (c : Nat) (w : World) (hx : Ints w w.heap.size A xs) (h1 : xs.length ≤ 1048576) :
    Calls Tryd.prog 83 #[.agg #[.int .i64 n, .int .i64 t, .slice none 0 0], .slice A xs.length c] w fun e w' => e = .returned (.bool (bP (GoodE n xs))) ∧ Below w.heap.size w w' := by
  have HX := Lib.hid hx; clear hx
  have HBW : Hid (Below w.heap.size w (w.alloc (.cells #[.int .i64 n, .int .i64 t, .slice none 0 0] 34))) := by show Below _ _ _; go_grown
  have HB3 : Hid (Box3 (w.alloc (.cells #[.int .i64 n, .int .i64 t, .slice none 0 0] 34)) w.heap.size (.int .i64 n) (.int .i64 t) (.slice none 0 0)) := ⟨by simp, by simp [go_sem], by simp [go_sem], by simp [go_sem]⟩
  go_enter Tryd.func83, Tryd.ntmps83
  go_wp2
  go_loopw [9] (fun i wr => ∃ (k : Nat), k ≤ xs.length ∧ i = .int .i64 k ∧ Below w.heap.size w wr ∧ Box3 wr w.heap.size (.int .i64 n) (.int .i64 t) (.slice none 0 0) ∧ Hid (NonTo n xs k)) (fun i _ => xs.length - (intOf i).toNat)
  case atStart => exact ⟨0, by omega, rfl, HBW.out, HB3.out, fun j x h => absurd h (by omega)⟩
  case round =>
    obtain ⟨k, hk, rfl, hB, hbox, H⟩ := hrel
    by_cases hlt : k < xs.length
    · obtain ⟨b, o, rfl, hb, c1⟩ := (HX.out.keep hB).at_ hlt
      obtain ⟨g0, g1, g2, g3⟩ := id hbox
      have HBX := Lib.hid hbox; clear hbox
      cases hs : nonB n xs[k]
      all_goals
        have HSY := Lib.hid hs; clear hs
        go_wp2_with fail
        refine (isNon_any _ _ _ _ _).mono ?_
        rintro e w3 ⟨rfl, hB3⟩
        rw [HSY.out]
        have hB4 : Below w.heap.size w w3 := hB.trans (hB3.mono hB.size)
      · have HE : Hid (bP (GoodE n xs) = false) := bP_f fun h => by
          have := h.1 k _ hlt (List.getElem?_eq_getElem hlt)
          rw [HSY.out] at this; cases this
        go_wp2
        go_ret
        exact ⟨ret_b HE.out.symm, hB4⟩
      · have HN : Hid (NonTo n xs (k + 1)) := upto_next (Q := fun x => nonB n x = true) (List.getElem?_eq_getElem hlt) HSY.out H.out
        go_wp2
        go_roundw
        case rel => exact ⟨k + 1, by omega, by go_num, hB4, HBX.out.keep hB3 g0, HN.out⟩
        case measure => simp [intOf]; omega
    · have HN : Hid (NonTo n xs xs.length) := upto_end (Q := fun x => nonB n x = true) hlt H.out
      clear hbox H
      go_wp2_with fail
      refine (isRisingI_any _ _ _ _ ((HX.out.keep hB).more hB.size) h1).mono ?_
      rintro e w3 ⟨rfl, hB3⟩
      have HE : Hid (bP (GoodE n xs) = bP (RiseI xs xs.length)) := bP_congr ⟨fun h => h.2, fun h => ⟨HN.out, h⟩⟩
      have hB4 : Below w.heap.size w w3 := hB.trans (hB3.mono hB.size)
      clear hB3
      go_wp2
      go_ret
      exact ⟨ret_b HE.out.symm, hB4⟩

theorem Ints.drop1 {w : World} {B b o : Nat} {xs : List Int} (h : Ints w B (some ⟨b, o, none⟩) xs) : Ints w B (some ⟨b, o + 1, none⟩) (xs.drop 1) := by
  intro hn
  obtain ⟨b', o', e, hb, hc⟩ := h (by simp at hn; omega)
  injection e with e
  injection e with e1 e2
  subst e1 e2
  refine ⟨b, o + 1, rfl, hb, fun k x hx => ?_⟩
  rw [List.getElem?_drop] at hx
  have := hc _ _ hx
  rw [show o + (1 + k) = o + 1 + k by omega] at this
  exact this

theorem getD_zero {xs : List Int} (h : 0 < xs.length) : xs.getD 0 0 = xs[0] := by
  rw [List.getD_eq_getElem?_getD, List.getElem?_eq_getElem h]; rfl

set_option maxRecDepth 20000 in
set_option maxHeartbeats 1000000 in
theorem goodLists_any (n t : Int) (long : Nat) (hl2 : 2 ≤ long) (hl3 : long ≤ 3) (A : Option Addr) (ls : List Li) (c : Nat) (w : World) (hx : Lls w w.heap.size A ls) (h1 : ls.length ≤ 1048576) (h2 : ∀ u ∈ ls, u.r.length ≤ 1048576) (hf : FitL (sayL ls)) :
    Calls Tryd.prog 128 #[.agg #[.int .i64 n, .int .i64 t, .slice none 0 0], .slice A ls.length c, .int .i64 long] w fun e w' => e = .returned (.bool (bP (GoodLs n t long (sayL ls)))) ∧ Below w.heap.size w w' := by
  have HX := Lib.hid hx; clear hx
  have H2 := Lib.hid h2; clear h2
  have HF := Lib.hid hf; clear hf
  have HBW : Hid (Below w.heap.size w (w.alloc (.cells #[.int .i64 n, .int .i64 t, .slice none 0 0] 34))) := by show Below _ _ _; go_grown
  have HB3 : Hid (Box3 (w.alloc (.cells #[.int .i64 n, .int .i64 t, .slice none 0 0] 34)) w.heap.size (.int .i64 n) (.int .i64 t) (.slice none 0 0)) := ⟨by simp, by simp [go_sem], by simp [go_sem], by simp [go_sem]⟩
  have HLN : Hid ((sayL ls).length = ls.length) := sayL_len
  cases hq : bP (LongTo long (sayL ls) ls.length)
  · have HQ := Lib.hid hq; clear hq
    have HE : Hid (bP (GoodLs n t long (sayL ls)) = false) := bP_f fun h => bP_no HQ.out (by have := h.1; rw [HLN.out] at this; exact this)
    go_enter Tryd.func128, Tryd.ntmps128
    go_wp2_with fail
    refine (allLong_any _ _ _ _ _ ((HX.out.keep HBW.out).more HBW.out.size) h1).mono ?_
    rintro e w1 ⟨rfl, rfl⟩
    rw [HQ.out]
    go_wp2
    go_ret
    exact ⟨ret_b HE.out.symm, HBW.out⟩
  · have HQ := Lib.hid hq; clear hq
    have HLO : Hid (LongTo long (sayL ls) ls.length) := bP_is HQ.out
    go_enter Tryd.func128, Tryd.ntmps128
    go_wp2_with fail
    refine (allLong_any _ _ _ _ _ ((HX.out.keep HBW.out).more HBW.out.size) h1).mono ?_
    rintro e w1 ⟨rfl, rfl⟩
    rw [HQ.out]
    generalize (w.alloc (.cells #[.int .i64 n, .int .i64 t, .slice none 0 0] 34)) = W at HBW HB3 ⊢
    go_wp2
    go_loopw [15] (fun i wr => ∃ (k : Nat), k ≤ ls.length ∧ i = .int .i64 k ∧ Below w.heap.size w wr ∧ Box3 wr w.heap.size (.int .i64 n) (.int .i64 t) (.slice none 0 0) ∧ Hid (SymTo n t (sayL ls) k)) (fun i _ => ls.length - (intOf i).toNat)
    case atStart => exact ⟨0, by omega, rfl, HBW.out, HB3.out, fun j x h => absurd h (by omega)⟩
    case round =>
      obtain ⟨k, hk, rfl, hB, hbox, H⟩ := hrel
      by_cases hlt : k < ls.length
      · obtain ⟨b, o, rfl, hb, c1, c2, c3⟩ := (HX.out.keep hB).at_ hlt
        obtain ⟨g0, g1, g2, g3⟩ := id hbox
        have HBX := Lib.hid hbox; clear hbox
        have hlen2 := H2.out ls[k] (List.getElem_mem hlt)
        have HLK : Hid ((ls[k].r.length : Int) = long) := HLO.out k _ hlt (sayL_at hlt)
        have hr0 : 1 < ls[k].r.length := by have := HLK.out; omega
        have hc0 : 1 < ls[k].c := by omega
        have hci : (1 : Int) < (ls[k].c : Int) := by omega
        have hri : (1 : Int) < (ls[k].r.length : Int) := by omega
        obtain ⟨b', o', ea, hb', d1⟩ := c3.at_ (k := 0) (by omega)
        have C3 := Lib.hid (c3.more hB.size); clear c3
        rw [ea] at c1 C3
        rw [Nat.add_zero] at d1
        generalize hx0 : ls[k].r[0]'(by omega) = x0 at d1
        have HX0 : Hid (ls[k].r.getD 0 0 = x0) := (getD_zero (by omega)).trans hx0
        clear hx0
        have q0 := cell_regrown d1
        have p0 := cell_regrown g1
        have p1 := cell_regrown g2
        have p2 := cell_regrown g3
        have HRG : Hid (∀ d os, Below w.heap.size w (grow (redrawn wr d) os)) := fun d os => hB.trans ((below_regrown wr d os).mono hB.size)
        have HWR : Hid (∀ d os, Below wr.heap.size wr (grow (redrawn wr d) os)) := fun d os => below_regrown wr d os
        clear g1 g2 g3 d1 ea
        have HCG : Hid (∀ d os, Calls Tryd.prog 70 #[.agg #[.int .i64 n, .int .i64 t, .slice none 0 0], .int .i64 x0] (grow (redrawn wr d) os) fun e w' => e = .returned (.bool (nonB n x0)) ∧ Below (grow (redrawn wr d) os).heap.size (grow (redrawn wr d) os) w') := fun d os =>
          isNon_any _ _ _ _ _
        go_wp2
        cases hu : nonB n x0
        · have HU := Lib.hid hu; clear hu
          have HE : Hid (bP (GoodLs n t long (sayL ls)) = false) := bP_f fun h => by
            have h1 := (h.2.1 k _ (by rw [HLN.out]; exact hlt) (sayL_at hlt)).1
            rw [HX0.out, HU.out] at h1; cases h1
          rw [HU.out] at HCG
          refine wp_region_quiet_below (by kernel_rfl) (by kernel_rfl) ?_
          repeat (first | go_big_quiet_step (exact Calls.regrown_of (HCG.out _ _)) | quiet_step (exact Calls.regrown_of (HCG.out _ _)))
          refine wpQuiet_nil ?_
          intro _ hw'
          obtain ⟨⟨dq, osq⟩, hw''⟩ := hw'
          subst hw''
          go_wp2
          go_ret
          exact ⟨ret_b HE.out.symm, HRG.out dq osq⟩
        · have HU := Lib.hid hu; clear hu
          rw [HU.out] at HCG
          have HFK : Hid (∀ x ∈ ls[k].r.drop 1, F64 x) := fun x hx => HF.out ls[k].r (sayL_mem (List.getElem_mem hlt)) x (List.mem_of_mem_drop hx)
          have HCH : Hid (∀ d os, Calls Tryd.prog 140 #[.agg #[.int .i64 n, .int .i64 t, .slice none 0 0], .slice (some ⟨b', o' + 1, none⟩) (ls[k].r.length - 1) (ls[k].c - 1)] (grow (redrawn wr d) os) fun e w' => e = .returned (.bool (symsB n t (ls[k].r.drop 1))) ∧ Below (grow (redrawn wr d) os).heap.size (grow (redrawn wr d) os) w') := fun d os => by
            have h := allSymbols_any n t none (some ⟨b', o' + 1, none⟩) 0 0 (ls[k].c - 1) (ls[k].r.drop 1) (grow (redrawn wr d) os) ((C3.out.keep (HWR.out d os)).more (HWR.out d os).size).drop1 (by simp; omega) HFK.out
            rw [List.length_drop] at h
            exact h
          cases hh : symsB n t (ls[k].r.drop 1)
          all_goals
            have HH := Lib.hid hh; clear hh
            rw [HH.out] at HCH
            refine wp_region_quiet_below (by kernel_rfl) (by kernel_rfl) ?_
            repeat (first | go_big_quiet_step (first | with_reducible exact Calls.regrown_of (HCG.out _ _) | exact Calls.regrown_of (HCH.out _ _)) | quiet_step (first | with_reducible exact Calls.regrown_of (HCG.out _ _) | exact Calls.regrown_of (HCH.out _ _)))
            refine wpQuiet_nil ?_
            intro _ hw'
            obtain ⟨⟨dq, osq⟩, hw''⟩ := hw'
            subst hw''
            go_wp2
          · have HE : Hid (bP (GoodLs n t long (sayL ls)) = false) := bP_f fun h => by
              have h1 := (h.2.1 k _ (by rw [HLN.out]; exact hlt) (sayL_at hlt)).2
              rw [HH.out] at h1; cases h1
            go_ret
            exact ⟨ret_b HE.out.symm, HRG.out dq osq⟩
          · have HN : Hid (SymTo n t (sayL ls) (k + 1)) := upto_next (Q := symL n t) (sayL_at hlt) ⟨by rw [HX0.out]; exact HU.out, HH.out⟩ H.out
            go_roundw
            case rel => exact ⟨k + 1, by omega, by go_num, HRG.out dq osq, HBX.out.keep (HWR.out dq osq) g0, HN.out⟩
            case measure => simp [intOf]; omega
      · have HN : Hid (SymTo n t (sayL ls) (sayL ls).length) := upto_end (Q := symL n t) (k := k) (by rw [HLN.out]; exact hlt) H.out
        clear hbox H
        go_wp2_with fail
        refine (isRisingL_any _ _ _ _ ((HX.out.keep hB).more hB.size) h1 H2.out).mono ?_
        rintro e w3 ⟨rfl, hB3⟩
        have HE : Hid (bP (GoodLs n t long (sayL ls)) = bP (RiseTo (sayL ls) ls.length)) := bP_congr ⟨fun h => by have := h.2.2; rw [HLN.out] at this; exact this, fun h => ⟨by rw [HLN.out]; exact HLO.out, HN.out, by rw [HLN.out]; exact h⟩⟩
        have hB4 : Below w.heap.size w w3 := hB.trans (hB3.mono hB.size)
        clear hB3
        go_wp2
        go_ret
        exact ⟨ret_b HE.out.symm, hB4⟩

end Go.Proofs.YtgnpgehekfhedaaDoor

/- What the program's GoodBinary answers. -/

namespace Go.Proofs.YtgnpgehekfhedaaDoor
open Go.RowKit
open Go.Sort (grow)

/-- A binary grammar's box: its cells stay while only newer memory is written. -/
def Box6 (w : World) (g : Nat) (b : Bi) : Prop := g < w.heap.size ∧ w.cell? ⟨g, 0, none⟩ = some (.int .i64 b.n) ∧ w.cell? ⟨g, 1, none⟩ = some (.int .i64 b.t) ∧ w.cell? ⟨g, 2, none⟩ = some (.slice b.Ap b.P.length b.cp) ∧
  w.cell? ⟨g, 3, none⟩ = some (.slice b.Ao b.O.length b.co) ∧ w.cell? ⟨g, 4, none⟩ = some (.slice b.Ae b.E.length b.ce) ∧ w.cell? ⟨g, 5, none⟩ = some (.slice b.Af b.F.length b.cf)
theorem Box6.keep {w w' : World} {g B : Nat} {b : Bi} (h : Box6 w g b) (hb : Below B w w') (hB : g < B) : Box6 w' g b := by
  obtain ⟨h0, h1, h2, h3, h4, h5, h6⟩ := h
  exact ⟨by have := hb.size; omega, (hb.cell (p := ⟨g, 0, none⟩) hB).trans h1, (hb.cell (p := ⟨g, 1, none⟩) hB).trans h2, (hb.cell (p := ⟨g, 2, none⟩) hB).trans h3, (hb.cell (p := ⟨g, 3, none⟩) hB).trans h4, (hb.cell (p := ⟨g, 4, none⟩) hB).trans h5, (hb.cell (p := ⟨g, 5, none⟩) hB).trans h6⟩
theorem Box6.new (w : World) (b : Bi) (t : TypeId) : Box6 (w.alloc (.cells #[.int .i64 b.n, .int .i64 b.t, .slice b.Ap b.P.length b.cp, .slice b.Ao b.O.length b.co, .slice b.Ae b.E.length b.ce, .slice b.Af b.F.length b.cf] t)) w.heap.size b := ⟨by simp, by simp [go_sem], by simp [go_sem], by simp [go_sem], by simp [go_sem], by simp [go_sem], by simp [go_sem]⟩

set_option maxHeartbeats 400000 in
theorem symbolsOf_any (b : Bi) (w : World) :
    Calls Tryd.prog 71 #[(.agg #[.int .i64 b.n, .int .i64 b.t, .slice b.Ap b.P.length b.cp, .slice b.Ao b.O.length b.co, .slice b.Ae b.E.length b.ce, .slice b.Af b.F.length b.cf])] w fun e w' => e = .returned (.agg #[.int .i64 b.n, .int .i64 b.t, .slice none 0 0]) ∧ Below w.heap.size w w' := by
  go_enter Tryd.func71, Tryd.ntmps71
  go_wp2
  exact bodyPost_ret (v := .agg #[.int .i64 b.n, .int .i64 b.t, .slice none 0 0]) (by simp [results, Tryd.results71, go_sem]) rfl ⟨rfl, by go_grown⟩

set_option maxRecDepth 20000 in
set_option maxHeartbeats 1000000 in
theorem implGoodB_any (b : Bi) (w : World) (hx : ReadB w w.heap.size b) (hL : Lims w) (hm : LenB 1048576 b) (hf : FitB b.say) :
    Calls Tryd.prog 78 #[(.agg #[.int .i64 b.n, .int .i64 b.t, .slice b.Ap b.P.length b.cp, .slice b.Ao b.O.length b.co, .slice b.Ae b.E.length b.ce, .slice b.Af b.F.length b.cf])] w fun e w' => e = .returned (.bool (bP (GoodBs b.say))) ∧ Below w.heap.size w w' := by
  have HX := Lib.hid hx; clear hx
  have HL := Lib.hid hL; clear hL
  have HM := Lib.hid hm; clear hm
  have HF := Lib.hid hf; clear hf
  have hB0 : Below w.heap.size w (w.alloc (.cells #[.int .i64 b.n, .int .i64 b.t, .slice b.Ap b.P.length b.cp, .slice b.Ao b.O.length b.co, .slice b.Ae b.E.length b.ce, .slice b.Af b.F.length b.cf] 29)) := by go_grown
  have BX0 := Box6.new w b 29
  go_enter Tryd.func78, Tryd.ntmps78
  go_wp2_with fail
  generalize (w.alloc (.cells #[.int .i64 b.n, .int .i64 b.t, .slice b.Ap b.P.length b.cp, .slice b.Ao b.O.length b.co, .slice b.Ae b.E.length b.ce, .slice b.Af b.F.length b.cf] 29)) = W at hB0 BX0 ⊢
  have HB0 := Lib.hid hB0; clear hB0
  have HBX0 := Lib.hid BX0; clear BX0
  refine (within5 _ _ (HL.out.keep HB0.out (Nat.le_refl _))).mono ?_
  rintro e w1 ⟨rfl, hB1⟩
  have HBX1 := Lib.hid (HBX0.out.keep hB1 HBX0.out.1)
  have HB1 := Lib.hid (HB0.out.trans (hB1.mono HB0.out.size)); clear hB1 HBX0 HB0
  obtain ⟨_, b0, b1, b2, b3, b4, b5⟩ := HBX1.out
  cases hn : inB 1 40 b.n
  · have HE : Hid (bP (GoodBs b.say) = false) := bP_f fun h => inB_not hn h.1
    go_wp2
    go_ret
    exact ⟨ret_b HE.out.symm, HB1.out⟩
  have HN := Lib.hid (inB_and hn); clear hn
  go_wp2_with fail
  refine (within1 _ _ (HL.out.keep HB1.out (Nat.le_refl _))).mono ?_
  rintro e w2 ⟨rfl, hB2⟩
  have HBX2 := Lib.hid (HBX1.out.keep hB2 HBX1.out.1)
  have HB2 := Lib.hid (HB1.out.trans (hB2.mono HB1.out.size)); clear hB2 HBX1 HB1 b0 b1 b2 b3 b4 b5
  obtain ⟨_, b0, b1, b2, b3, b4, b5⟩ := HBX2.out
  cases ht : inB 1 4 b.t
  · have HE : Hid (bP (GoodBs b.say) = false) := bP_f fun h => inB_not ht h.2.1
    go_wp2
    go_ret
    exact ⟨ret_b HE.out.symm, HB2.out⟩
  have HT := Lib.hid (inB_and ht); clear ht
  go_wp2_with fail
  refine (symbolsOf_any _ _).mono ?_
  rintro e w3 ⟨rfl, hB3⟩
  have HBX3 := Lib.hid (HBX2.out.keep hB3 HBX2.out.1)
  have HB3 := Lib.hid (HB2.out.trans (hB3.mono HB2.out.size)); clear hB3 HBX2 HB2 b0 b1 b2 b3 b4 b5
  obtain ⟨_, b0, b1, b2, b3, b4, b5⟩ := HBX3.out
  go_wp2_with fail
  have hB4 : Below w3.heap.size w3 (w3.alloc (.cells #[.int .i64 b.n, .int .i64 b.t, .slice none 0 0] 34)) := by go_grown
  have BG4 : Box3 (w3.alloc (.cells #[.int .i64 b.n, .int .i64 b.t, .slice none 0 0] 34)) w3.heap.size (.int .i64 b.n) (.int .i64 b.t) (.slice none 0 0) := ⟨by simp, by simp [go_sem], by simp [go_sem], by simp [go_sem]⟩
  generalize (w3.alloc (.cells #[.int .i64 b.n, .int .i64 b.t, .slice none 0 0] 34)) = w4 at hB4 BG4 ⊢
  have HBG4 := Lib.hid BG4; clear BG4
  have HBX4 := Lib.hid (HBX3.out.keep hB4 HBX3.out.1)
  have HB4 := Lib.hid (HB3.out.trans (hB4.mono HB3.out.size)); clear hB4 HBX3 HB3 b0 b1 b2 b3 b4 b5
  refine (goodLists_any _ _ 3 (by omega) (by omega) _ _ _ _ ((HX.out.1.keep HB4.out).more HB4.out.size) HM.out.p HM.out.ps HF.out.1).mono ?_
  rintro e w5 ⟨rfl, hB5⟩
  have HBG5 := Lib.hid (HBG4.out.keep hB5 HBG4.out.1)
  have HBX5 := Lib.hid (HBX4.out.keep hB5 HBX4.out.1)
  have HB5 := Lib.hid (HB4.out.trans (hB5.mono HB4.out.size)); clear hB5 HBX4 HB4 HBG4
  obtain ⟨_, b0, b1, b2, b3, b4, b5⟩ := HBX5.out
  obtain ⟨_, y0, y1, y2⟩ := HBG5.out
  cases hP : bP (GoodLs b.n b.t (3 : Nat) (sayL b.P))
  · have HE : Hid (bP (GoodBs b.say) = false) := bP_f fun h => bP_no hP h.2.2.1
    go_wp2
    go_ret
    exact ⟨ret_b HE.out.symm, HB5.out⟩
  have HP := Lib.hid (bP_is hP); clear hP
  go_wp2_with fail
  clear b0 b1 b2 b3 b4 b5 y0 y1 y2
  refine (goodLists_any _ _ 2 (by omega) (by omega) _ _ _ _ ((HX.out.2.1.keep HB5.out).more HB5.out.size) HM.out.o HM.out.os HF.out.2.1).mono ?_
  rintro e w6 ⟨rfl, hB6⟩
  have HBG6 := Lib.hid (HBG5.out.keep hB6 HBG5.out.1)
  have HBX6 := Lib.hid (HBX5.out.keep hB6 HBX5.out.1)
  have HB6 := Lib.hid (HB5.out.trans (hB6.mono HB5.out.size)); clear hB6 HBX5 HB5 HBG5
  obtain ⟨_, b0, b1, b2, b3, b4, b5⟩ := HBX6.out
  obtain ⟨_, y0, y1, y2⟩ := HBG6.out
  cases hO : bP (GoodLs b.n b.t (2 : Nat) (sayL b.O))
  · have HE : Hid (bP (GoodBs b.say) = false) := bP_f fun h => bP_no hO h.2.2.2.1
    go_wp2
    go_ret
    exact ⟨ret_b HE.out.symm, HB6.out⟩
  have HO := Lib.hid (bP_is hO); clear hO
  go_wp2_with fail
  clear b0 b1 b2 b3 b4 b5 y0 y1 y2
  refine (goodEmpty_any _ _ _ _ _ _ ((HX.out.2.2.1.keep HB6.out).more HB6.out.size) HM.out.e).mono ?_
  rintro e w7 ⟨rfl, hB7⟩
  have HBG7 := Lib.hid (HBG6.out.keep hB7 HBG6.out.1)
  have HBX7 := Lib.hid (HBX6.out.keep hB7 HBX6.out.1)
  have HB7 := Lib.hid (HB6.out.trans (hB7.mono HB6.out.size)); clear hB7 HBX6 HB6 HBG6
  obtain ⟨_, b0, b1, b2, b3, b4, b5⟩ := HBX7.out
  obtain ⟨_, y0, y1, y2⟩ := HBG7.out
  cases hE : bP (GoodE b.n b.E)
  · have HE : Hid (bP (GoodBs b.say) = false) := bP_f fun h => bP_no hE h.2.2.2.2.1
    go_wp2
    go_ret
    exact ⟨ret_b HE.out.symm, HB7.out⟩
  have HE := Lib.hid (bP_is hE); clear hE
  have HFN : Hid ((sayL b.F).length = b.F.length) := sayL_len
  by_cases hfl : (b.F.length : Int) ≤ b.n
  · go_wp2_with fail
    refine (allLong_any _ _ _ _ _ ((HX.out.2.2.2.keep HB7.out).more HB7.out.size) HM.out.f).mono ?_
    rintro e w8 ⟨rfl, rfl⟩
    have HE : Hid (bP (GoodBs b.say) = bP (LongTo 2 (sayL b.F) b.F.length)) := bP_congr ⟨fun h => by have := h.2.2.2.2.2.2; exact HFN.out ▸ this, fun h => ⟨HN.out, HT.out, HP.out, HO.out, HE.out, (by show ((sayL b.F).length : Int) ≤ b.n; rw [HFN.out]; exact hfl), (by show LongTo 2 (sayL b.F) (sayL b.F).length; rw [HFN.out]; exact h)⟩⟩
    go_wp2
    go_ret
    exact ⟨ret_b HE.out.symm, HB7.out⟩
  · have HE : Hid (bP (GoodBs b.say) = false) := bP_f fun h => hfl (by have : ((sayL b.F).length : Int) ≤ b.n := h.2.2.2.2.2.1; rw [HFN.out] at this; exact this)
    go_wp2
    go_ret
    exact ⟨ret_b HE.out.symm, HB7.out⟩

end Go.Proofs.YtgnpgehekfhedaaDoor

/- A grammar and a bool as an answer. -/

namespace Go.Proofs.YtgnpgehekfhedaaDoor
open Go.RowKit

/-- A grammar's answer: its numbers and its rules; zero where there is none. -/
def ansN (b : Bool) (n : Int) : Int := if b then n else 0
def ansR (b : Bool) (ss : List (Int × List Int)) : List (Int × List Int) := if b then ss else []

/-- A new grammar, and a bool. -/
def GaveGB (w : World) (n t : Int) (ss : List (Int × List Int)) (b : Bool) (e : Ending) (w' : World) : Prop :=
  ∃ A c, ∃ rs : List Ru, e = .returned (.tuple #[.agg #[.int .i64 (ansN b n), .int .i64 (ansN b t), .slice A rs.length c], .bool b]) ∧ OwnR w' w.heap.size A rs ∧ rs.map Ru.abs = ansR b ss ∧ Below w.heap.size w w'

theorem gave_none {w w' : World} {n t : Int} {ss : List (Int × List Int)} (hb : Below w.heap.size w w') : GaveGB w n t ss false (.returned (.tuple #[.agg #[.int .i64 0, .int .i64 0, .slice none 0 0], .bool false])) w' :=
  ⟨none, 0, [], rfl, .inl rfl, rfl, hb⟩

end Go.Proofs.YtgnpgehekfhedaaDoor
