/- What GoodWord answers, the program's and the reference's. -/
import Derived.Test.YtkghblgiojidgaaDoorSpecGood2
namespace Go.Proofs.YtkghblgiojidgaaDoor
open Go.RowKit

/-- All numbers lie within bounds. -/
def allB (lo hi : Int) (xs : List Int) : Bool := xs.all fun x => inB lo hi x
theorem allB_iff {lo hi : Int} {xs : List Int} : allB lo hi xs = true ↔ ∀ (k : Nat) (x : Int), xs[k]? = some x → inB lo hi x = true := by
  unfold allB
  rw [List.all_eq_true]
  constructor
  · intro h k x hx
    exact h x (List.mem_of_getElem? hx)
  · intro h x hx
    obtain ⟨k, hk⟩ := List.mem_iff_getElem?.1 hx
    exact h k x hk
theorem allB_not {lo hi : Int} {xs : List Int} {k : Nat} (hk : k < xs.length) (h : inB lo hi xs[k] = false) : allB lo hi xs = false := by
  cases e : allB lo hi xs
  · rfl
  · rw [allB_iff.1 e k _ (List.getElem?_eq_getElem hk)] at h; cases h
theorem allB_of {lo hi : Int} {xs : List Int} {k : Nat} (hk : ¬ k < xs.length) (h : ∀ (j : Nat) (x : Int), j < k → xs[j]? = some x → inB lo hi x = true) : allB lo hi xs = true :=
  allB_iff.2 fun j x hx => h j x (by have := (List.getElem?_eq_some_iff.1 hx).1; omega) hx
theorem all_step {lo hi : Int} {xs : List Int} {k : Nat} (hk : k < xs.length) (h : inB lo hi xs[k] = true) (H : ∀ (j : Nat) (x : Int), j < k → xs[j]? = some x → inB lo hi x = true) :
    ∀ (j : Nat) (x : Int), j < k + 1 → xs[j]? = some x → inB lo hi x = true := by
  intro j x hj hx
  by_cases e : j = k
  · subst e; rw [List.getElem?_eq_getElem hk] at hx; injection hx with hx; subst hx; exact h
  · exact H j x (by omega) hx

def wordB (t : Int) (xs : List Int) : Bool := decide (xs.length ≤ 10) && allB 0 (t - 1) xs
def goodW (n t : Int) (ss : List (Int × List Int)) (xs : List Int) : Bool := goodG n t ss && wordB t xs
theorem goodW_no {n t : Int} {ss : List (Int × List Int)} {xs : List Int} (h : goodG n t ss = false) : goodW n t ss xs = false := by unfold goodW; rw [h]; rfl
theorem goodW_yes {n t : Int} {ss : List (Int × List Int)} {xs : List Int} (h : goodG n t ss = true) : goodW n t ss xs = wordB t xs := by unfold goodW; rw [h]; rfl
theorem wordB_long {t : Int} {xs : List Int} (h : ¬ xs.length ≤ 10) : wordB t xs = false := by unfold wordB; rw [decide_eq_false h]; rfl
theorem wordB_all {t : Int} {xs : List Int} (h : xs.length ≤ 10) : wordB t xs = allB 0 (t - 1) xs := by unfold wordB; rw [decide_eq_true h]; rfl

set_option maxHeartbeats 400000 in
theorem l1All_any (A : Option Addr) (xs : List Int) (c : Nat) (lo hi : Int) (w : World) (hx : Ints w w.heap.size A xs) (h1 : xs.length ≤ 1048576) :
    Calls Tryd.prog 109 #[.slice A xs.length c, .int .i64 lo, .int .i64 hi] w fun e w' => e = .returned (.bool (allB lo hi xs)) ∧ Below w.heap.size w w' := by
  have HX := Lib.hid hx; clear hx
  go_enter Tryd.func109, Tryd.ntmps109
  go_wp2
  go_loopw [11] (fun i wr => ∃ (k : Nat), k ≤ xs.length ∧ i = .int .i64 k ∧ Below w.heap.size w wr ∧ Hid (∀ (j : Nat) (x : Int), j < k → xs[j]? = some x → inB lo hi x = true)) (fun i _ => xs.length - (intOf i).toNat)
  case atStart => exact ⟨0, by omega, rfl, Below.refl _ _, fun j x h => absurd h (by omega)⟩
  case round =>
    obtain ⟨k, hk, rfl, hB, H⟩ := hrel
    by_cases hlt : k < xs.length
    · obtain ⟨b, o, rfl, hb, c1⟩ := (HX.out.keep hB).at_ hlt
      cases hs : inB lo hi xs[k]
      all_goals
        have HS := Lib.hid hs; clear hs
        go_wp2_with fail
        refine (l1In_any _ _ _ _).mono ?_
        rintro e w1 ⟨rfl, rfl⟩
        rw [HS.out]
        go_wp2
      · have HE : Hid (allB lo hi xs = false) := allB_not hlt HS.out
        go_ret
        exact ⟨ret_bool HE.out.symm, hB⟩
      · go_roundw
        case rel => exact ⟨k + 1, by omega, by go_num, hB, all_step hlt HS.out H.out⟩
        case measure => simp [intOf]; omega
    · have HE : Hid (allB lo hi xs = true) := allB_of hlt H.out
      go_wp2
      go_ret
      exact ⟨ret_bool HE.out.symm, hB⟩

set_option maxHeartbeats 400000 in
theorem l1Word_any (n t : Int) (v : Value) (A : Option Addr) (xs : List Int) (c : Nat) (w : World) (hx : Ints w w.heap.size A xs) (h1 : xs.length ≤ 1048576) (ht : 1 ≤ t) (ht' : t ≤ 4) :
    Calls Tryd.prog 102 #[.agg #[.int .i64 n, .int .i64 t, v], .slice A xs.length c] w fun e w' => e = .returned (.bool (wordB t xs)) ∧ Below w.heap.size w w' := by
  have HX := Lib.hid hx; clear hx
  by_cases hl : xs.length ≤ 10
  · have HE := Lib.hid (wordB_all (t := t) hl)
    go_enter Tryd.func102, Tryd.ntmps102
    go_wp2_with fail
    refine (l1All_any _ _ _ _ _ _ ?_ h1).mono ?_
    · exact (HX.out.keep (by go_grown)).more (by go_size)
    rintro e w1 ⟨rfl, hB⟩
    go_wp2
    go_ret
    exact ⟨ret_bool HE.out.symm, Below.trans (by go_grown) (hB.mono (by go_size))⟩
  · have HE := Lib.hid (wordB_long (t := t) hl)
    have hl' : ((xs.length : Int) ≤ 10) = False := by simp; omega
    go_enter Tryd.func102, Tryd.ntmps102
    go_wp2
    go_ret
    exact ⟨ret_bool HE.out.symm, by go_grown⟩

set_option maxHeartbeats 400000 in
theorem specWord_any (n t : Int) (A A' : Option Addr) (c c' : Nat) (rs : List Ru) (xs : List Int) (w : World) (hx : Rls w w.heap.size A rs) (hy : Ints w w.heap.size A' xs) (hc : rs.length ≤ c) (h1 : rs.length ≤ 1048576) (h2 : ∀ u ∈ rs, u.r.length ≤ 1048576) (h3 : xs.length ≤ 1048576) :
    Calls Tryd.prog 55 #[.agg #[.int .i64 n, .int .i64 t, .slice A rs.length c], .slice A' xs.length c'] w fun e w' => e = .returned (.bool (goodW n t (rs.map Ru.abs) xs)) ∧ Below w.heap.size w w' := by
  have HX := Lib.hid hx; clear hx
  have HY := Lib.hid hy; clear hy
  have H2 := Lib.hid h2; clear h2
  have HB0 : Hid (Below w.heap.size w (w.alloc (.cells #[.int .i64 n, .int .i64 t, .slice A rs.length c] 30))) := by show Below _ _ _; go_grown
  have B0 : Hid (Box3 (w.alloc (.cells #[.int .i64 n, .int .i64 t, .slice A rs.length c] 30)) w.heap.size (.int .i64 n) (.int .i64 t) (.slice A rs.length c)) := ⟨by simp, by simp [go_sem], by simp [go_sem], by simp [go_sem]⟩
  cases hg : goodG n t (rs.map Ru.abs)
  · have HE := Lib.hid (goodW_no (xs := xs) hg)
    have HG := Lib.hid hg; clear hg
    go_enter Tryd.func55, Tryd.ntmps55
    go_wp2_with fail
    refine (specGood_any _ _ _ _ _ _ ((HX.out.keep HB0.out).more HB0.out.size) hc h1 H2.out).mono ?_
    rintro e w1 ⟨rfl, hB1⟩
    rw [HG.out]
    go_wp2
    go_ret
    exact ⟨ret_bool HE.out.symm, HB0.out.trans (hB1.mono HB0.out.size)⟩
  have HE := Lib.hid (goodW_yes (xs := xs) hg)
  have ht := (goodG_is hg).2.1
  obtain ⟨t1, t2⟩ := ht
  have HG := Lib.hid hg; clear hg
  go_enter Tryd.func55, Tryd.ntmps55
  go_wp2_with fail
  refine (specGood_any _ _ _ _ _ _ ((HX.out.keep HB0.out).more HB0.out.size) hc h1 H2.out).mono ?_
  rintro e w1 ⟨rfl, hB1⟩
  rw [HG.out]
  obtain ⟨_, b0, b1, b2⟩ := B0.out.keep hB1 (by simp)
  have HB1 := Lib.hid (HB0.out.trans (hB1.mono HB0.out.size)); clear hB1
  go_wp2_with fail
  refine (l1Word_any _ _ _ _ _ _ _ ((HY.out.keep HB1.out).more HB1.out.size) h3 t1 t2).mono ?_
  rintro e w2 ⟨rfl, hB2⟩
  go_wp2
  go_ret
  exact ⟨ret_bool HE.out.symm, HB1.out.trans (hB2.mono HB1.out.size)⟩

set_option maxHeartbeats 400000 in
theorem implWord_any (n t : Int) (A A' : Option Addr) (c c' : Nat) (rs : List Ru) (xs : List Int) (w : World) (hx : Rls w w.heap.size A rs) (hy : Ints w w.heap.size A' xs) (hL : Lims w) (hc : rs.length ≤ c) (h1 : rs.length ≤ 1048576) (h2 : ∀ u ∈ rs, u.r.length ≤ 1048576) (hf : FitR rs) (h3 : xs.length ≤ 1048576) :
    Calls Tryd.prog 58 #[.agg #[.int .i64 n, .int .i64 t, .slice A rs.length c], .slice A' xs.length c'] w fun e w' => e = .returned (.bool (goodW n t (rs.map Ru.abs) xs)) ∧ Below w.heap.size w w' := by
  have HX := Lib.hid hx; clear hx
  have HY := Lib.hid hy; clear hy
  have HL := Lib.hid hL; clear hL
  have HF := Lib.hid hf; clear hf
  have H2 := Lib.hid h2; clear h2
  have HB0 : Hid (Below w.heap.size w (w.alloc (.cells #[.int .i64 n, .int .i64 t, .slice A rs.length c] 30))) := by show Below _ _ _; go_grown
  have B0 : Hid (Box3 (w.alloc (.cells #[.int .i64 n, .int .i64 t, .slice A rs.length c] 30)) w.heap.size (.int .i64 n) (.int .i64 t) (.slice A rs.length c)) := ⟨by simp, by simp [go_sem], by simp [go_sem], by simp [go_sem]⟩
  cases hg : goodG n t (rs.map Ru.abs)
  · have HE := Lib.hid (goodW_no (xs := xs) hg)
    have HG := Lib.hid hg; clear hg
    go_enter Tryd.func58, Tryd.ntmps58
    go_wp2_with fail
    refine (goodGrammar_any _ _ _ _ _ _ ((HX.out.keep HB0.out).more HB0.out.size) (HL.out.keep HB0.out (Nat.le_refl _)) hc h1 H2.out HF.out).mono ?_
    rintro e w1 ⟨rfl, hB1⟩
    rw [HG.out]
    go_wp2
    go_ret
    exact ⟨ret_bool HE.out.symm, HB0.out.trans (hB1.mono HB0.out.size)⟩
  have HE := Lib.hid (goodW_yes (xs := xs) hg)
  have HG := Lib.hid hg; clear hg
  cases hi : inB 0 10 (xs.length : Int)
  · have HE2 : Hid (wordB t xs = false) := wordB_long (by have := inB_no hi; omega)
    have HI := Lib.hid hi; clear hi
    go_enter Tryd.func58, Tryd.ntmps58
    go_wp2_with fail
    refine (goodGrammar_any _ _ _ _ _ _ ((HX.out.keep HB0.out).more HB0.out.size) (HL.out.keep HB0.out (Nat.le_refl _)) hc h1 H2.out HF.out).mono ?_
    rintro e w1 ⟨rfl, hB1⟩
    rw [HG.out]
    have HB1 := Lib.hid (HB0.out.trans (hB1.mono HB0.out.size)); clear hB1
    go_wp2_with fail
    refine (within4 _ _ (HL.out.keep HB1.out (Nat.le_refl _))).mono ?_
    rintro e w2 ⟨rfl, hB2⟩
    rw [HI.out]
    go_wp2
    go_ret
    exact ⟨ret_bool (HE.out.trans HE2.out).symm, HB1.out.trans (hB2.mono HB1.out.size)⟩
  have HW : Hid (wordB t xs = allB 0 (t - 1) xs) := wordB_all (by have := inB_hi hi; omega)
  have HI := Lib.hid hi; clear hi
  go_enter Tryd.func58, Tryd.ntmps58
  go_wp2_with fail
  refine (goodGrammar_any _ _ _ _ _ _ ((HX.out.keep HB0.out).more HB0.out.size) (HL.out.keep HB0.out (Nat.le_refl _)) hc h1 H2.out HF.out).mono ?_
  rintro e w1 ⟨rfl, hB1⟩
  rw [HG.out]
  have B1 := Lib.hid (B0.out.keep hB1 (by simp))
  have HB1 := Lib.hid (HB0.out.trans (hB1.mono HB0.out.size)); clear hB1
  go_wp2_with fail
  refine (within4 _ _ (HL.out.keep HB1.out (Nat.le_refl _))).mono ?_
  rintro e w2 ⟨rfl, hB2⟩
  rw [HI.out]
  have B2 := Lib.hid (B1.out.keep hB2 B1.out.1)
  have HB2 := Lib.hid (HB1.out.trans (hB2.mono HB1.out.size)); clear hB2
  go_wp2
  go_loopw [18] (fun i wr => ∃ (k : Nat), k ≤ xs.length ∧ i = .int .i64 k ∧ Below w2.heap.size w2 wr ∧ Hid (∀ (j : Nat) (x : Int), j < k → xs[j]? = some x → inB 0 (t - 1) x = true)) (fun i _ => xs.length - (intOf i).toNat)
  case atStart => exact ⟨0, by omega, rfl, Below.refl _ _, fun j x h => absurd h (by omega)⟩
  case round =>
    obtain ⟨k, hk, rfl, hB, H⟩ := hrel
    have HB := Lib.hid hB; clear hB
    have HBw := Lib.hid (HB2.out.trans (HB.out.mono HB2.out.size))
    by_cases hlt : k < xs.length
    · obtain ⟨b, o, rfl, hb, c1⟩ := (HY.out.keep HBw.out).at_ hlt
      obtain ⟨_, b0, b1, b2⟩ := B2.out.keep HB.out B2.out.1
      cases hs : nonB t xs[k]
      all_goals
        have HS := Lib.hid hs; clear hs
        go_wp2_with fail
        refine (isToken_any _ _ _ _ _).mono ?_
        rintro e w3 ⟨rfl, hB3⟩
        rw [HS.out]
        have HB4 := Lib.hid (HB.out.trans (hB3.mono HB.out.size)); clear hB3
        go_wp2
      · have HE2 : Hid (allB 0 (t - 1) xs = false) := allB_not hlt (by rw [non_in]; exact HS.out)
        go_ret
        exact ⟨ret_bool (HE.out.trans (HW.out.trans HE2.out)).symm, HB2.out.trans (HB4.out.mono HB2.out.size)⟩
      · go_roundw
        case rel => exact ⟨k + 1, by omega, by go_num, HB4.out, all_step hlt (by rw [non_in]; exact HS.out) H.out⟩
        case measure => simp [intOf]; omega
    · have HE2 : Hid (allB 0 (t - 1) xs = true) := allB_of hlt H.out
      go_wp2
      go_ret
      exact ⟨ret_bool (HE.out.trans (HW.out.trans HE2.out)).symm, HBw.out⟩

end Go.Proofs.YtkghblgiojidgaaDoor
