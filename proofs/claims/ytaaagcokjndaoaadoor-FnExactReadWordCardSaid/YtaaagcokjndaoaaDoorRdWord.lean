/- What ReadWord answers, the program's and the reference's. -/
import Derived.Test.YtaaagcokjndaoaaDoorTry
namespace Go.Proofs.YtaaagcokjndaoaaDoor
open Go.RowKit

def rdOk (n t : Int) (ss : List (Int × List Int)) (s : ByteArray) : Bool := goodG n t ss && decide (s.size ≤ 10)
def rdL (n t : Int) (ss : List (Int × List Int)) (s : ByteArray) : List Int := if rdOk n t ss s then rwL t s else []
def rdP (n t : Int) (ss : List (Int × List Int)) (s : ByteArray) : Int := if rdOk n t ss s then (rwP t s : Int) else 0
def rdB (n t : Int) (ss : List (Int × List Int)) (s : ByteArray) : Bool := rdOk n t ss s && rwB t s

/-- A new slice of numbers, a number and a bool. -/
def GaveIIB (w : World) (ys : List Int) (p : Int) (b : Bool) (e : Ending) (w' : World) : Prop :=
  ∃ A c, e = .returned (.tuple #[.slice A ys.length c, .int .i64 p, .bool b]) ∧ OwnI w' w.heap.size A ys ∧ Below w.heap.size w w'

theorem rd_no {n t : Int} {ss : List (Int × List Int)} {s : ByteArray} (h : rdOk n t ss s = false) : rdL n t ss s = [] ∧ rdP n t ss s = 0 ∧ rdB n t ss s = false := by
  unfold rdL rdP rdB; rw [h]; exact ⟨rfl, rfl, rfl⟩
theorem rd_good {n t : Int} {ss : List (Int × List Int)} {s : ByteArray} (h : rdOk n t ss s = true) (hb : badW t s = none) : rdL n t ss s = rwL t s ∧ rdP n t ss s = 0 ∧ rdB n t ss s = true := by
  unfold rdL rdP rdB rwB rwP; rw [h, hb]; exact ⟨rfl, rfl, rfl⟩
theorem rd_bad {n t : Int} {ss : List (Int × List Int)} {s : ByteArray} {k : Nat} (h : rdOk n t ss s = true) (hb : badW t s = some k) : rdL n t ss s = [] ∧ rdP n t ss s = k ∧ rdB n t ss s = false := by
  unfold rdL rdP rdB rwL rwB rwP; rw [h, hb]; exact ⟨rfl, rfl, rfl⟩
theorem rdOk_g {n t : Int} {ss : List (Int × List Int)} {s : ByteArray} (h : goodG n t ss = false) : rdOk n t ss s = false := by unfold rdOk; rw [h]; rfl
theorem rdOk_s {n t : Int} {ss : List (Int × List Int)} {s : ByteArray} (h : goodG n t ss = true) : rdOk n t ss s = decide (s.size ≤ 10) := by unfold rdOk; rw [h]; rfl
theorem rdL_len {n t : Int} {ss : List (Int × List Int)} {s : ByteArray} : (rdL n t ss s).length ≤ 10 := by
  unfold rdL
  split
  · rename_i h
    unfold rdOk at h
    rw [Bool.and_eq_true, decide_eq_true_eq] at h
    unfold rwL
    split
    · simp
    · simpa using h.2
  · simp

theorem symG0_none {t c : Int} (h : tokO t c = none) : symG 0 t c = none := by
  unfold tokO at h
  unfold symG
  cases e : symN c with
  | none => rfl
  | some x =>
    rw [e] at h
    simp only [Option.bind_some] at h
    split at h
    · cases h
    · rename_i hp
      rw [Option.filter_some, if_neg]
      intro hs
      have := of_decide_eq_true hs
      exact hp (nonB_t (by omega) (by omega))
theorem symG0_some {t c y : Int} (h : tokO t c = some y) : symG 0 t c = some (-1 - y) ∧ 0 ≤ y ∧ y < 4 := by
  unfold tokO at h
  unfold symG
  cases e : symN c with
  | none => rw [e] at h; cases h
  | some x =>
    rw [e] at h
    simp only [Option.bind_some] at h
    split at h
    · rename_i hp
      injection h with h
      subst h
      have hb := nonB_is hp
      have hx := symN_bd e
      refine ⟨?_, by omega, by omega⟩
      rw [Option.filter_some, if_pos]
      · congr 1; omega
      · exact decide_eq_true (.inr ⟨by omega, by omega⟩)
    · cases h

theorem symG0_is {t c y : Int} (h : tokO t c = some y) : ∃ x, symG 0 t c = some x ∧ y = -1 - x ∧ -4 ≤ x ∧ x < 0 := by
  have key : symG 0 t c = some (-1 - y) ∧ 0 ≤ y ∧ y < 4 := symG0_some h
  exact ⟨-1 - y, key.1, by omega, by omega, by omega⟩

set_option maxRecDepth 20000 in
set_option maxHeartbeats 2000000 in
theorem specRW_any (n t : Int) (A : Option Addr) (c : Nat) (rs : List Ru) (s : ByteArray) (w : World) (hx : Rls w w.heap.size A rs) (hc : rs.length ≤ c) (h1 : rs.length ≤ 1048576) (h2 : ∀ u ∈ rs, u.r.length ≤ 1048576) (h3 : s.size ≤ 1048576) :
    Calls Tryd.prog 22 #[.agg #[.int .i64 n, .int .i64 t, .slice A rs.length c], .string s] w (GaveIIB w (rdL n t (rs.map Ru.abs) s) (rdP n t (rs.map Ru.abs) s) (rdB n t (rs.map Ru.abs) s)) := by
  obtain ⟨i0, hi0, hz0, hz1, hz2⟩ := info_of Tryd.infoInt
  have HX := Lib.hid hx; clear hx
  have H2 := Lib.hid h2; clear h2
  have HB0 : Hid (Below w.heap.size w (w.alloc (.cells #[.int .i64 n, .int .i64 t, .slice A rs.length c] 26))) := by show Below _ _ _; go_grown
  have B0 : Hid (Box3 (w.alloc (.cells #[.int .i64 n, .int .i64 t, .slice A rs.length c] 26)) w.heap.size (.int .i64 n) (.int .i64 t) (.slice A rs.length c)) := ⟨by simp, by simp [go_sem], by simp [go_sem], by simp [go_sem]⟩
  cases hg : goodG n t (rs.map Ru.abs)
  · obtain ⟨e1, e2, e3⟩ := rd_no (rdOk_g (s := s) hg)
    have HE1 := Lib.hid e1; clear e1
    have HE2 := Lib.hid e2; clear e2
    have HE3 := Lib.hid e3; clear e3
    have HG := Lib.hid hg; clear hg
    go_enter Tryd.func22, Tryd.ntmps22
    go_wp2_with fail
    refine (specGood_any _ _ _ _ _ _ ((HX.out.keep HB0.out).more HB0.out.size) hc h1 H2.out).mono ?_
    rintro e w1 ⟨rfl, hB1⟩
    rw [HG.out]
    go_wp2
    go_ret3
    exact ⟨none, 0, by rw [HE1.out, HE2.out, HE3.out]; rfl, by rw [HE1.out]; exact .inl rfl, HB0.out.trans (hB1.mono HB0.out.size)⟩
  have hi := goodG_is hg
  have t1 := hi.2.1.1
  have t2 := hi.2.1.2
  clear hi
  by_cases hl : s.size ≤ 10
  · have hok : rdOk n t (rs.map Ru.abs) s = true := (rdOk_s hg).trans (decide_eq_true hl)
    have HOK := Lib.hid hok; clear hok
    have HG := Lib.hid hg; clear hg
    go_enter Tryd.func22, Tryd.ntmps22
    go_wp2_with fail
    refine (specGood_any _ _ _ _ _ _ ((HX.out.keep HB0.out).more HB0.out.size) hc h1 H2.out).mono ?_
    rintro e w1 ⟨rfl, hB1⟩
    rw [HG.out]
    have BX1 := Lib.hid (B0.out.keep hB1 (by simp))
    have HB1 := Lib.hid (HB0.out.trans (hB1.mono HB0.out.size)); clear hB1 B0 HB0
    go_wp2
    have hw1 := BX1.out.1
    go_loopw [7, 8] (fun v i wr => ∃ (k : Nat) (xs : List Int), k ≤ s.size ∧ i = .int .i64 k ∧ xs.length ≤ k ∧ Below (w.heap.size + 1) w1 wr ∧ Hid (wr.ownsRow (w.heap.size + 1) 3 1 v xs.length (xs.map fun y => Value.int .i64 y)) ∧ Hid (WordTo t s k xs)) (fun _ i _ => s.size - (intOf i).toNat)
    case atStart => exact ⟨0, [], by omega, rfl, by simp, Below.refl _ _, ⟨rfl, .inl ⟨rfl, rfl⟩⟩, WordTo.zero _ _⟩
    case round =>
      obtain ⟨k, xs, hk, rfl, hxl, hB, HO, HW⟩ := hrel
      have hsz := hB.size
      have HBw := Lib.hid (HB1.out.trans (hB.mono (by omega)))
      by_cases hlt : k < s.size
      · obtain ⟨_, b0, b1, b2⟩ := BX1.out.keep hB (by omega)
        cases ho : tokO t (chr s k) with
        | none =>
          obtain ⟨e1, e2, e3⟩ := rd_bad HOK.out (HW.out.stops hlt ho)
          have HE1 := Lib.hid e1; clear e1
          have HE2 := Lib.hid e2; clear e2
          have HE3 := Lib.hid e3; clear e3
          have HSG : Hid (symG 0 t (s[k].toNat : Int) = none) := by show _ = _; rw [← chr_at hlt]; exact symG0_none ho
          clear ho
          go_wp2
          go_quiet (exact (l2Symbol_any 0 t _ _ (by omega) (by omega) (by omega) t2).mono fun _ _ h => ⟨h.1, _, h.2.symm⟩)
          rw [HSG.out]
          go_wp2
          go_ret3
          exact ⟨none, 0, by rw [HE1.out, HE2.out, HE3.out]; rfl, by rw [HE1.out]; exact .inl rfl, below_drewN HBw.out _⟩
        | some y =>
          obtain ⟨x, q1, rfl, y0, y4⟩ := symG0_is ho
          have HWS := Lib.hid (HW.out.step ho)
          have HSG : Hid (symG 0 t (s[k].toNat : Int) = some x) := by show _ = _; rw [← chr_at hlt]; exact q1
          clear ho q1
          go_wp2
          go_quiet (exact (l2Symbol_any 0 t _ _ (by omega) (by omega) (by omega) t2).mono fun _ _ h => ⟨h.1, _, h.2.symm⟩)
          rw [HSG.out]
          have hOd : (wr.drewN nq).ownsRow (w.heap.size + 1) 3 1 _ xs.length (xs.map fun y => Value.int .i64 y) := HO.out
          have hBd : Below (w.heap.size + 1) w1 (wr.drewN nq) := below_drewN hB _
          have hsd : (wr.drewN nq).heap.size = wr.heap.size := rfl
          generalize wr.drewN nq = W at hOd hBd hsd ⊢
          have hown := hOd.alloc (.cells #[.int .i64 (-1 - x)] 3)
          have HWn := Lib.hid hown; clear hown
          have hnew := cell_one_new W (.int .i64 (-1 - x)) 3
          have HNW := Lib.hid hnew; clear hnew
          have HOd := Lib.hid hOd; clear hOd
          have HBd := Lib.hid hBd; clear hBd
          have hsW : w.heap.size + 1 ≤ W.heap.size := by omega
          clear hsd b0 b1 b2
          go_wp2_with (at_builtin
                       refine wpList_append_own _ rfl (.tmp 37) (.tmp 40) _ rfl (w.heap.size + 1) 3 i0 _ 1 8 Tryd.underlying34 hi0 hz0 hz1 hz2 rfl (by omega) _ _ _ rfl HWn.out ⟨W.heap.size, 0, none⟩ 1 1 [.int .i64 (-1 - x)] rfl rfl HNW.out (by intro u hu; simp at hu; subst hu; rfl) (by unfold maxLen; omega) (by omega) (by simp; omega) ?_
                       intro v' w' h1 h2 h3
                       have HO1 := Lib.hid h1
                       have HG1 := Lib.hid h2
                       clear h1 h2 h3)
          go_roundw
          case rel =>
            refine ⟨k + 1, xs ++ [-1 - x], by omega, by go_num, by simp; omega, (HBd.out.alloc (by omega) _).grown HG1.out (by simp; omega) fun j hj => (HOd.out.lt j hj).1, ?_, HWS.out⟩
            show World.ownsRow _ _ _ _ _ _ _
            simpa using HO1.out
          case measure => simp [intOf]; omega
      · obtain rfl : k = s.size := by omega
        obtain ⟨e1, e2, e3⟩ := rd_good HOK.out HW.out.all
        have HE1 := Lib.hid (e1.trans HW.out.rwL); clear e1
        have HE2 := Lib.hid e2; clear e2
        have HE3 := Lib.hid e3; clear e3
        obtain ⟨Av, cv, rfl, hOI⟩ := ownI_of_row HO.out
        have HOI := Lib.hid hOI; clear hOI
        go_wp2
        go_ret3
        exact ⟨Av, cv, by rw [HE1.out, HE2.out, HE3.out]; rfl, by rw [HE1.out]; exact HOI.out.lower (by omega), HBw.out⟩
  · obtain ⟨e1, e2, e3⟩ := rd_no ((rdOk_s hg).trans (decide_eq_false hl))
    have HE1 := Lib.hid e1; clear e1
    have HE2 := Lib.hid e2; clear e2
    have HE3 := Lib.hid e3; clear e3
    have HG := Lib.hid hg; clear hg
    have hl' : (10 : Int) < (s.size : Int) := by omega
    go_enter Tryd.func22, Tryd.ntmps22
    go_wp2_with fail
    refine (specGood_any _ _ _ _ _ _ ((HX.out.keep HB0.out).more HB0.out.size) hc h1 H2.out).mono ?_
    rintro e w1 ⟨rfl, hB1⟩
    rw [HG.out]
    go_wp2
    go_ret3
    exact ⟨none, 0, by rw [HE1.out, HE2.out, HE3.out]; rfl, by rw [HE1.out]; exact .inl rfl, HB0.out.trans (hB1.mono HB0.out.size)⟩

end Go.Proofs.YtaaagcokjndaoaaDoor
