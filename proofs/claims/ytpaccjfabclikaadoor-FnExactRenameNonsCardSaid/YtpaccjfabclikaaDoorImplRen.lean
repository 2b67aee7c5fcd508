/- What the program's RenameNons answers. -/
import Derived.Test.YtpaccjfabclikaaDoorRen
namespace Go.Proofs.YtpaccjfabclikaaDoor
open Go.RowKit
open Go.Sort (grow)

theorem Ints.take {w : World} {B : Nat} {A : Option Addr} {xs : List Int} (h : Ints w B A xs) (m : Nat) : Ints w B A (xs.take m) := by
  intro hn
  obtain ⟨b, o, e, hb, hc⟩ := h (by rw [List.length_take] at hn; omega)
  refine ⟨b, o, e, hb, fun k x hx => hc k x ?_⟩
  rw [List.getElem?_take] at hx
  split at hx
  · exact hx
  · cases hx

theorem getD_zero {xs : List Int} (h : 0 < xs.length) : xs.getD 0 1 = xs[0] := by rw [List.getD_eq_getElem?_getD, List.getElem?_eq_getElem h]; rfl

set_option maxHeartbeats 1000000 in
theorem isRenaming_any (n t : Int) (A B : Option Addr) (m c d : Nat) (to : List Int) (w : World) (hx : Ints w w.heap.size B to) (h1 : to.length ≤ 1048576) (hd : to.length ≤ d) (n1 : 1 ≤ n) (n2 : n ≤ 6) :
    Calls Tryd.prog 54 #[.agg #[.int .i64 n, .int .i64 t, .slice A m c], .slice B to.length d] w fun e w' => e = .returned (.bool (renB n to)) ∧ Below w.heap.size w w' := by
  have HX := Lib.hid hx; clear hx
  have HB0 := Lib.hid (below_new w (.cells #[.int .i64 n, .int .i64 t, .slice A m c] 29))
  have K0 := Lib.hid (box_new w (.int .i64 n) (.int .i64 t) (.slice A m c) 29)
  by_cases hl : (to.length : Int) = n
  case neg =>
    have HE := Lib.hid (renB_len hl)
    have hb := bne_t hl
    clear hl
    go_enter Tryd.func54, Tryd.ntmps54
    go_wp2
    go_ret
    exact ⟨ret_bool HE.out.symm, by go_grown⟩
  have hpos : 0 < to.length := by omega
  have hb := bne_f hl
  obtain ⟨b, o, rfl, hbb, c0⟩ := (HX.out.keep HB0.out).at_ hpos
  rw [Nat.add_zero] at c0
  by_cases hz : to[0] = 0
  case neg =>
    have HE : Hid (renB n to = false) := renB_first (by rw [getD_zero hpos]; exact hz)
    have hz' := bne_t hz
    have HZ := Lib.hid hl; clear hl hz
    go_enter Tryd.func54, Tryd.ntmps54
    go_wp2
    go_ret
    exact ⟨ret_bool HE.out.symm, by go_grown⟩
  have HE : Hid (renB n to = renAll n to) := renB_all hl (by rw [getD_zero hpos]; exact hz)
  have hz' := bne_f hz
  have HZ := Lib.hid hl; clear hl hz
  go_enter Tryd.func54, Tryd.ntmps54
  go_wp2
  go_loopw [20] (fun i wr => ∃ (k : Nat), k ≤ to.length ∧ i = .int .i64 k ∧ Hid (Below w.heap.size w wr) ∧ Hid (Box3 wr w.heap.size (.int .i64 n) (.int .i64 t) (.slice A m c)) ∧ Hid (okTo n to k)) (fun i _ => to.length - (intOf i).toNat)
  case atStart => exact ⟨0, by omega, rfl, HB0.out, K0.out, fun j x h => absurd h (by omega)⟩
  case round =>
    clear c0 hb hz'
    obtain ⟨k, hk, rfl, HB, HK, H⟩ := hrel
    by_cases hlt : k < to.length
    · obtain ⟨b', o', e, _, c1⟩ := (HX.out.keep HB.out).at_ hlt
      injection e with e
      injection e with e1 e2
      subst e1 e2
      obtain ⟨_, k0, k1, k2⟩ := HK.out
      cases hq : nonB n to[k]
      · have HQ := Lib.hid hq; clear hq
        have HF : Hid (renAll n to = false) := renAll_bad hlt (.inl HQ.out)
        go_wp2_with fail
        refine (isNon_any _ _ _ _ _).mono ?_
        rintro e w1 ⟨rfl, hB1⟩
        rw [HQ.out]
        have HB1 := Lib.hid (HB.out.trans (hB1.mono HB.out.size)); clear hB1
        go_wp2
        go_ret
        exact ⟨ret_bool (HE.out.trans HF.out).symm, HB1.out⟩
      have HQ := Lib.hid hq; clear hq
      have htl : (to.take k).length = k := by rw [List.length_take]; omega
      cases hh : hasI (to.take k) to[k]
      all_goals
        have HH := Lib.hid hh; clear hh
        have HT := Lib.hid htl; clear htl
        go_wp2_with fail
        refine (isNon_any _ _ _ _ _).mono ?_
        rintro e w1 ⟨rfl, hB1⟩
        rw [HQ.out]
        have HB1 := Lib.hid (HB.out.trans (hB1.mono HB.out.size))
        have HK1 := Lib.hid (HK.out.keep hB1 HK.out.1); clear hB1
        have HC : Hid (Calls Tryd.prog 65 #[.slice (some ⟨b, o, none⟩) k d, .int .i64 to[k]] w1 fun e w' => e = .returned (.bool (hasI (to.take k) to[k])) ∧ Below w1.heap.size w1 w') := by
          have h := contains_any (some ⟨b, o, none⟩) (to.take k) d to[k] w1 (((HX.out.keep HB1.out).more HB1.out.size).take k) (by rw [HT.out]; omega)
          rw [HT.out] at h
          exact h
        rw [HH.out] at HC
        clear k0 k1 k2
        go_wp2_with fail
        refine HC.out.mono ?_
        rintro e w2 ⟨rfl, hB2⟩
        have HB2 := Lib.hid (HB1.out.trans (hB2.mono HB1.out.size))
        have HK2 := Lib.hid (HK1.out.keep hB2 HK1.out.1); clear hB2
        go_wp2
      · go_roundw
        case rel => exact ⟨k + 1, by omega, by go_num, HB2.out, HK2.out, okTo_step hlt HQ.out HH.out H.out⟩
        case measure => simp [intOf]; omega
      · have HF : Hid (renAll n to = false) := renAll_bad hlt (.inr HH.out)
        go_ret
        exact ⟨ret_bool (HE.out.trans HF.out).symm, HB2.out⟩
    · have HF := Lib.hid (renAll_of hlt H.out)
      go_wp2
      go_ret
      exact ⟨ret_bool (HE.out.trans HF.out).symm, HB.out⟩

/-- A symbol's new name. -/
def renX (to : List Int) (x : Int) : Int := if 0 ≤ x then to.getD x.toNat 0 else x
def renU (to : List Int) (u : Int × List Int) : Int × List Int := (renX to u.1, u.2.map (renX to))
def renA (to : List Int) (ss : List (Int × List Int)) : List (Int × List Int) := ss.map (renU to)
theorem renX_at {to : List Int} {m : Nat} (h : m < to.length) : renX to (m : Int) = to[m] := by
  unfold renX
  rw [if_pos (by omega), Int.toNat_natCast, List.getD_eq_getElem?_getD, List.getElem?_eq_getElem h]
  rfl
theorem renX_tok {to : List Int} {x : Int} (h : ¬ 0 ≤ x) : renX to x = x := by unfold renX; rw [if_neg h]

/-- The right side with its first j symbols renamed. -/
def renMid (to xs : List Int) (j : Nat) : List Int := (xs.take j).map (renX to) ++ xs.drop j
theorem renMid_length {to xs : List Int} {j : Nat} (h : j ≤ xs.length) : (renMid to xs j).length = xs.length := by simp [renMid]; omega
theorem renMid_zero (to xs : List Int) : renMid to xs 0 = xs := by simp [renMid]
theorem renMid_all {to xs : List Int} {j : Nat} (h : ¬ j < xs.length) : renMid to xs j = xs.map (renX to) := by
  unfold renMid
  rw [List.take_of_length_le (by omega), List.drop_of_length_le (by omega), List.append_nil]
theorem renMid_at {to xs : List Int} {j : Nat} (h : j < xs.length) (hj : j < (renMid to xs j).length) : (renMid to xs j)[j] = xs[j] := by
  have e : (renMid to xs j)[j]? = some xs[j] := by
    unfold renMid
    rw [List.getElem?_append_right (by simp; omega), List.getElem?_drop, List.length_map, List.length_take]
    have : j + (j - min j xs.length) = j := by omega
    rw [this, List.getElem?_eq_getElem h]
  rw [List.getElem?_eq_getElem hj] at e
  injection e
theorem renMid_step {to xs : List Int} {j : Nat} (h : j < xs.length) : (renMid to xs j).set j (renX to xs[j]) = renMid to xs (j + 1) := by
  apply List.ext_getElem?
  intro i
  rw [List.getElem?_set, renMid_length (by omega)]
  unfold renMid
  by_cases e : j = i
  · subst e
    rw [if_pos rfl, if_pos h, List.getElem?_append_left (by simp; omega), List.getElem?_map, List.getElem?_take, if_pos (by omega), List.getElem?_eq_getElem h]
    rfl
  · rw [if_neg e]
    by_cases hi : i < j
    · rw [List.getElem?_append_left (by simp; omega), List.getElem?_append_left (by simp; omega), List.getElem?_map, List.getElem?_map, List.getElem?_take, List.getElem?_take, if_pos hi, if_pos (by omega)]
    · rw [List.getElem?_append_right (by simp; omega), List.getElem?_append_right (by simp; omega), List.getElem?_drop, List.getElem?_drop]
      simp only [List.length_map, List.length_take]
      congr 1
      omega
theorem renMid_same {to xs : List Int} {j : Nat} (h : j < xs.length) (hx : ¬ 0 ≤ xs[j]) : renMid to xs (j + 1) = renMid to xs j := by
  rw [← renMid_step h, renX_tok hx]
  apply List.ext_getElem
  · simp
  · intro i h1 h2
    rw [List.getElem_set]
    split
    · rename_i e
      subst e
      rw [renMid_at h]
    · rfl

set_option maxHeartbeats 1000000 in
theorem renamedRule_any (l : Nat) (A B : Option Addr) (xs to : List Int) (c d : Nat) (w : World) (hx : Ints w w.heap.size A xs) (hy : Ints w w.heap.size B to) (h1 : xs.length ≤ 1048576) (hl : l < to.length) (hs : ∀ (j : Nat) (hj : j < xs.length), xs[j] < to.length) :
    Calls Tryd.prog 55 #[.agg #[.int .i64 (l : Int), .slice A xs.length c], .slice B to.length d] w (GaveU w (renX to (l : Int)) (xs.map (renX to))) := by
  have HX := Lib.hid hx; clear hx
  have HY := Lib.hid hy; clear hy
  have HS := Lib.hid hs; clear hs
  go_enter Tryd.func55, Tryd.ntmps55
  go_wp2_with fail
  have hBA : Below w.heap.size w ((w.alloc (.cells #[.int .i64 (l : Int), .slice A xs.length c] 52)).alloc (.cells #[.int .i64 0, .slice none 0 0] 52)) := by go_grown
  have B0 : Box2 ((w.alloc (.cells #[.int .i64 (l : Int), .slice A xs.length c] 52)).alloc (.cells #[.int .i64 0, .slice none 0 0] 52)) w.heap.size (.int .i64 (l : Int)) (.slice A xs.length c) := ⟨by simp; omega, by simp [go_sem], by simp [go_sem]⟩
  have R0 : Row ((w.alloc (.cells #[.int .i64 (l : Int), .slice A xs.length c] 52)).alloc (.cells #[.int .i64 0, .slice none 0 0] 52)) (w.heap.size + 1) 52 #[.int .i64 0, .slice none 0 0] := by
    have h := Row.new (w.alloc (.cells #[.int .i64 (l : Int), .slice A xs.length c] 52)) 52 #[.int .i64 0, .slice none 0 0]
    rwa [World.size_alloc] at h
  generalize ((w.alloc (.cells #[.int .i64 (l : Int), .slice A xs.length c] 52)).alloc (.cells #[.int .i64 0, .slice none 0 0] 52)) = W at hBA B0 R0 ⊢
  have HBA := Lib.hid hBA; clear hBA
  have HB0 := Lib.hid B0; clear B0
  have HR0 := Lib.hid R0; clear R0
  refine (copyList_any _ _ _ _ ((HX.out.keep HBA.out).more HBA.out.size) h1).mono ?_
  rintro e w1 ⟨A1, c1, rfl, hcap, hO1, hB1⟩
  have HO1 := Lib.hid hO1; clear hO1
  have HSZ := Lib.hid HR0.out.lt
  have HB1 := Lib.hid (HB0.out.keep hB1 HB0.out.1)
  have HR1 := Lib.hid (HR0.out.below hB1 HR0.out.lt)
  have HW1 := Lib.hid (HBA.out.trans (hB1.mono HBA.out.size)); clear hB1
  clear HB0 HR0
  go_wp2
  go_loopw [13] (fun i wr => ∃ (j : Nat), j ≤ xs.length ∧ i = .int .i64 j ∧ Hid (Below w.heap.size w wr) ∧ Hid (OwnI wr W.heap.size A1 (renMid to xs j)) ∧ Hid (Box2 wr w.heap.size (.int .i64 (l : Int)) (.slice A xs.length c)) ∧ Hid (Row wr (w.heap.size + 1) 52 #[.int .i64 0, .slice none 0 0])) (fun i _ => xs.length - (intOf i).toNat)
  case atStart => exact ⟨0, by omega, rfl, HW1.out, by show OwnI _ _ _ _; rw [renMid_zero]; exact HO1.out, HB1.out, HR1.out⟩
  case round =>
    obtain ⟨j, hj, rfl, HB, HO, HBX, HRR⟩ := hrel
    by_cases hlt : j < xs.length
    · obtain ⟨g, rfl, hgl, _, k1, f1⟩ := HO.out.at_ (i := j) (by rw [renMid_length hj]; exact hlt)
      rw [renMid_at hlt] at k1
      have hsj := HS.out j hlt
      by_cases h0 : 0 ≤ xs[j]
      · obtain ⟨m, hm⟩ : ∃ m : Nat, xs[j] = (m : Int) := ⟨xs[j].toNat, by omega⟩
        have hml : m < to.length := by omega
        obtain ⟨b, o, rfl, hb, t1⟩ := (HY.out.keep HB.out).at_ hml
        have HST : Hid ((renMid to xs j).set j to[m] = renMid to xs (j + 1)) := by
          show _ = _
          rw [← renMid_step hlt, hm, renX_at hml]
        rw [hm] at k1
        have HM := Lib.hid hm
        clear h0 hsj hm
        go_wp2
        go_roundw
        case rel =>
          refine ⟨j + 1, by omega, by go_num, HB.out.setCell (by have := HBA.out.size; simp; omega) _, ?_, ?_, ?_⟩
          · show OwnI _ _ _ _
            rw [← HST.out]
            exact HO.out.set (by rw [renMid_length hj]; exact hlt) _
          · obtain ⟨p0, p1, p2⟩ := HBX.out
            have := HSZ.out
            exact ⟨by simp; exact p0, by rw [World.cell?_setCell_far _ _ _ _ (by simp; omega)]; exact p1, by rw [World.cell?_setCell_far _ _ _ _ (by simp; omega)]; exact p2⟩
          · have := HSZ.out
            exact HRR.out.far (by simp; omega) _
        case measure => simp [intOf]; omega
      · have HST := Lib.hid (renMid_same (to := to) hlt h0)
        go_wp2
        go_roundw
        case rel => exact ⟨j + 1, by omega, by go_num, HB.out, by show OwnI _ _ _ _; rw [HST.out]; exact HO.out, HBX.out, HRR.out⟩
        case measure => simp [intOf]; omega
    · have HD := Lib.hid (renMid_all (to := to) hlt)
      obtain ⟨b, o, rfl, hb, t1⟩ := (HY.out.keep HB.out).at_ hl
      have HXL := Lib.hid (renX_at hl)
      obtain ⟨_, p0, p1⟩ := HBX.out
      have d0 := HRR.out.cell 0
      have d1 := HRR.out.cell 1
      have g0 := HRR.out.frozen 0
      have g1 := HRR.out.frozen 1
      simp at d0 d1
      have hsz := HSZ.out
      go_wp2
      refine bodyPost_ret (v := .agg #[.int .i64 to[l], .slice A1 xs.length c1]) (by simp [results, Tryd.results55, go_sem, d0, d1]) rfl ⟨A1, c1, by rw [HXL.out, List.length_map], by rw [List.length_map]; exact hcap, ?_, ?_⟩
      · rw [← HD.out]
        exact ((HO.out.low (by simp; omega) _).low (by simp; omega) _).lower HBA.out.size
      · exact (HB.out.setCell (by simp) _).setCell (by simp) _

end Go.Proofs.YtpaccjfabclikaaDoor
