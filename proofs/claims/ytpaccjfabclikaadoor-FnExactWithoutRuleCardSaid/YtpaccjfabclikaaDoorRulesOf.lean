/- What RulesOf answers, the program's and the reference's. -/
import Derived.Test.YtpaccjfabclikaaDoorSpecGood2
import Derived.Test.YtpaccjfabclikaaDoorTo
import Derived.Maps.AppendAt
namespace Go.Proofs.YtpaccjfabclikaaDoor
open Go.RowKit

/-- The numbers, below k, of the rules with x as their left side. -/
def rulesTo (ss : List (Int × List Int)) (x : Int) (k : Nat) : List Int := ((List.range k).filter fun i => decide ((ss.getD i (0, [])).1 = x)).map fun (i : Nat) => (i : Int)
theorem rulesTo_zero (ss : List (Int × List Int)) (x : Int) : rulesTo ss x 0 = [] := rfl
theorem rulesTo_len (ss : List (Int × List Int)) (x : Int) (k : Nat) : (rulesTo ss x k).length ≤ k := by
  unfold rulesTo
  have := List.length_filter_le (fun i => decide ((ss.getD i (0, [])).1 = x)) (List.range k)
  simpa using this
theorem rulesTo_yes {rs : List Ru} {x : Int} {k : Nat} (hk : k < rs.length) (h : rs[k].l = x) : rulesTo (rs.map Ru.abs) x (k + 1) = rulesTo (rs.map Ru.abs) x k ++ [(k : Int)] := by
  unfold rulesTo
  rw [List.range_succ, List.filter_append, List.map_append]
  congr 1
  simp [List.getD_eq_getElem?_getD, hk, Ru.abs, h]
theorem rulesTo_no {rs : List Ru} {x : Int} {k : Nat} (hk : k < rs.length) (h : rs[k].l ≠ x) : rulesTo (rs.map Ru.abs) x (k + 1) = rulesTo (rs.map Ru.abs) x k := by
  unfold rulesTo
  rw [List.range_succ, List.filter_append, List.map_append]
  simp [List.getD_eq_getElem?_getD, hk, Ru.abs, h]

def okN (n t : Int) (ss : List (Int × List Int)) (x : Int) : Bool := goodG n t ss && nonB n x
def rulesV (n t : Int) (ss : List (Int × List Int)) (x : Int) : List Int := if okN n t ss x then rulesTo ss x ss.length else []
theorem okN_no {n t : Int} {ss : List (Int × List Int)} {x : Int} (h : goodG n t ss = false) : okN n t ss x = false := by unfold okN; rw [h]; rfl
theorem okN_yes {n t : Int} {ss : List (Int × List Int)} {x : Int} (h : goodG n t ss = true) : okN n t ss x = nonB n x := by unfold okN; rw [h]; rfl
theorem rulesV_no {n t : Int} {ss : List (Int × List Int)} {x : Int} (h : okN n t ss x = false) : rulesV n t ss x = [] := by unfold rulesV; rw [h]; rfl
theorem rulesV_yes {n t : Int} {ss : List (Int × List Int)} {x : Int} (h : okN n t ss x = true) : rulesV n t ss x = rulesTo ss x ss.length := by unfold rulesV; rw [h]; rfl

/-- A new slice of numbers, and a bool. -/
def GaveIB (w : World) (ys : List Int) (b : Bool) (e : Ending) (w' : World) : Prop :=
  ∃ A c, e = .returned (.tuple #[.slice A ys.length c, .bool b]) ∧ OwnI w' w.heap.size A ys ∧ Below w.heap.size w w'

theorem ownI_of_row {w : World} {lo : Nat} {v : Value} {n : Nat} {ys : List Int} (h : w.ownsRow lo 3 1 v n (ys.map fun y => Value.int .i64 y)) : ∃ A c, v = .slice A ys.length c ∧ OwnI w lo A ys := by
  obtain ⟨hl, h⟩ := h
  have hn : n = ys.length := by simpa using hl.symm
  subst hn
  rcases h with ⟨rfl, h0⟩ | ⟨g, cap, cur, rfl, hlo, hg, _, _, _, hx⟩
  · have : ys = [] := List.eq_nil_of_length_eq_zero h0
    subst this
    exact ⟨none, 0, rfl, .inl rfl⟩
  · refine ⟨_, cap, rfl, .inr ⟨g, cur, rfl, hlo, hg, fun k x hk => ?_⟩⟩
    have hk' := (List.getElem?_eq_some_iff.1 hk).1
    have e := congrArg (fun l => l[k]?) hx
    simp only [List.getElem?_map, hk, Option.map_some] at e
    rw [List.getElem?_take, if_pos (by omega)] at e
    simpa using e

def GaveI' (w : World) (ys : List Int) (e : Ending) (w' : World) : Prop := ∃ A c, e = .returned (.slice A ys.length c) ∧ OwnI w' w.heap.size A ys ∧ Below w.heap.size w w'

set_option maxHeartbeats 400000 in
theorem l1Rules_any (n t x : Int) (A : Option Addr) (c : Nat) (rs : List Ru) (w : World) (hx : Rls w w.heap.size A rs) (h1 : rs.length ≤ 16) :
    Calls Tryd.prog 44 #[.agg #[.int .i64 n, .int .i64 t, .slice A rs.length c], .int .i64 x] w (GaveI' w (rulesTo (rs.map Ru.abs) x rs.length)) := by
  obtain ⟨i0, hi0, hz0, hz1, hz2⟩ := info_of Tryd.infoInt
  have HX := Lib.hid hx; clear hx
  have HB1 : Hid (Below w.heap.size w (w.alloc (.cells #[.int .i64 n, .int .i64 t, .slice A rs.length c] 29))) := by show Below _ _ _; go_grown
  go_enter Tryd.func44, Tryd.ntmps44
  go_wp2
  go_loopw [5, 11] (fun v i wr => ∃ (k : Nat), k ≤ rs.length ∧ i = .int .i64 k ∧ Hid (wr.ownsRow w.heap.size 3 1 v (rulesTo (rs.map Ru.abs) x k).length ((rulesTo (rs.map Ru.abs) x k).map fun y => Value.int .i64 y)) ∧ Below w.heap.size w wr) (fun _ i _ => rs.length - (intOf i).toNat)
  case atStart => exact ⟨0, by omega, rfl, ⟨by simp [rulesTo_zero], .inl ⟨rfl, rfl⟩⟩, HB1.out⟩
  case round =>
    obtain ⟨k, hk, rfl, HO, hB⟩ := hrel
    have hrl := rulesTo_len (rs.map Ru.abs) x k
    by_cases hlt : k < rs.length
    · obtain ⟨b, o, rfl, hb, c1, c2, c3⟩ := (HX.out.keep hB).at_ hlt
      clear c3
      by_cases hl : rs[k].l = x
      · have HS := Lib.hid (rulesTo_yes hlt hl)
        have ht := beq_t hl
        clear hl
        have hown := (HO.out.alloc (.cells #[.int .i64 rs[k].l, .slice rs[k].a rs[k].r.length rs[k].c] 52)).alloc (.cells #[.int .i64 (k : Int)] 3)
        have HW := Lib.hid hown; clear hown
        have hnew := cell_one_new (wr.alloc (.cells #[.int .i64 rs[k].l, .slice rs[k].a rs[k].r.length rs[k].c] 52)) (.int .i64 (k : Int)) 3
        rw [World.size_alloc] at hnew
        have HNW := Lib.hid hnew; clear hnew
        have hsz := hB.size
        go_wp2_with (at_builtin
                     refine wpList_append_own _ rfl (.tmp 20) (.tmp 22) _ rfl w.heap.size 3 i0 _ 1 8 Tryd.underlying33 hi0 hz0 hz1 hz2 rfl (by omega) _ _ _ rfl HW.out ⟨wr.heap.size + 1, 0, none⟩ 1 1 [.int .i64 (k : Int)] rfl rfl HNW.out (by intro u hu; simp at hu; subst hu; rfl) (by unfold maxLen; omega) (by omega) (by simp; omega) ?_
                     intro v' w' h1 h2 h3
                     have HO1 := Lib.hid h1
                     have HG1 := Lib.hid h2
                     clear h1 h2 h3)
        go_roundw
        case rel =>
          refine ⟨k + 1, by omega, by go_num, ?_, ?_⟩
          · show World.ownsRow _ _ _ _ _ _ _
            rw [HS.out]
            simpa using HO1.out
          · refine ((hB.alloc hB.size _).alloc (by simp; omega) _).grown HG1.out (by simp; omega) fun j hj => (HO.out.lt j hj).1
        case measure => simp [intOf]; omega
      · have HS := Lib.hid (rulesTo_no hlt hl)
        have ht := beq_f hl
        clear hl
        go_wp2
        go_roundw
        case rel => exact ⟨k + 1, by omega, by go_num, by show World.ownsRow _ _ _ _ _ _ _; rw [HS.out]; exact HO.out.alloc _, hB.alloc hB.size _⟩
        case measure => simp [intOf]; omega
    · obtain rfl : k = rs.length := by omega
      obtain ⟨A', c', rfl, hO⟩ := ownI_of_row HO.out
      have HO' := Lib.hid hO; clear hO
      go_wp2
      go_ret
      exact ⟨A', c', rfl, HO'.out, hB⟩

set_option maxHeartbeats 400000 in
theorem specRules_any (n t x : Int) (A : Option Addr) (c : Nat) (rs : List Ru) (w : World) (hx : Rls w w.heap.size A rs) (hc : rs.length ≤ c) (h1 : rs.length ≤ 1048576) (h2 : ∀ u ∈ rs, u.r.length ≤ 1048576) :
    Calls Tryd.prog 19 #[.agg #[.int .i64 n, .int .i64 t, .slice A rs.length c], .int .i64 x] w (GaveIB w (rulesV n t (rs.map Ru.abs) x) (okN n t (rs.map Ru.abs) x)) := by
  have HX := Lib.hid hx; clear hx
  have H2 := Lib.hid h2; clear h2
  have HB0 : Hid (Below w.heap.size w (w.alloc (.cells #[.int .i64 n, .int .i64 t, .slice A rs.length c] 29))) := by show Below _ _ _; go_grown
  have B0 : Hid (Box3 (w.alloc (.cells #[.int .i64 n, .int .i64 t, .slice A rs.length c] 29)) w.heap.size (.int .i64 n) (.int .i64 t) (.slice A rs.length c)) := ⟨by simp, by simp [go_sem], by simp [go_sem], by simp [go_sem]⟩
  cases hg : goodG n t (rs.map Ru.abs)
  · have HE := Lib.hid (okN_no (x := x) hg)
    have HG := Lib.hid hg; clear hg
    go_enter Tryd.func19, Tryd.ntmps19
    go_wp2_with fail
    refine (specGood_any _ _ _ _ _ _ ((HX.out.keep HB0.out).more HB0.out.size) hc h1 H2.out).mono ?_
    rintro e w1 ⟨rfl, hB1⟩
    rw [HG.out]
    have HB1 := Lib.hid (HB0.out.trans (hB1.mono HB0.out.size)); clear hB1
    go_wp2
    go_ret2
    exact ⟨none, 0, by rw [rulesV_no HE.out, HE.out]; rfl, .inl (rulesV_no HE.out), HB1.out⟩
  have hgi := goodG_is hg
  have n1 := hgi.1.1
  have n2 := hgi.1.2
  have hl16 : rs.length ≤ 16 := by simpa using hgi.2.2.1
  clear hgi
  cases hq : nonB n x
  · have HE : Hid (okN n t (rs.map Ru.abs) x = false) := (okN_yes hg).trans hq
    have HG := Lib.hid hg; clear hg
    have HQ := Lib.hid hq; clear hq
    go_enter Tryd.func19, Tryd.ntmps19
    go_wp2_with fail
    refine (specGood_any _ _ _ _ _ _ ((HX.out.keep HB0.out).more HB0.out.size) hc h1 H2.out).mono ?_
    rintro e w1 ⟨rfl, hB1⟩
    rw [HG.out]
    obtain ⟨_, b0, b1, b2⟩ := B0.out.keep hB1 (by simp)
    have HB1 := Lib.hid (HB0.out.trans (hB1.mono HB0.out.size)); clear hB1
    go_wp2_with fail
    refine (l1In_any _ _ _ _).mono ?_
    rintro e w2 ⟨rfl, rfl⟩
    rw [non_in, HQ.out]
    go_wp2
    go_ret2
    exact ⟨none, 0, by rw [rulesV_no HE.out, HE.out]; rfl, .inl (rulesV_no HE.out), HB1.out⟩
  have HE : Hid (okN n t (rs.map Ru.abs) x = true) := (okN_yes hg).trans hq
  have HG := Lib.hid hg; clear hg
  have HQ := Lib.hid hq; clear hq
  go_enter Tryd.func19, Tryd.ntmps19
  go_wp2_with fail
  refine (specGood_any _ _ _ _ _ _ ((HX.out.keep HB0.out).more HB0.out.size) hc h1 H2.out).mono ?_
  rintro e w1 ⟨rfl, hB1⟩
  rw [HG.out]
  obtain ⟨_, b0, b1, b2⟩ := B0.out.keep hB1 (by simp)
  have HB1 := Lib.hid (HB0.out.trans (hB1.mono HB0.out.size)); clear hB1
  go_wp2_with fail
  refine (l1In_any _ _ _ _).mono ?_
  rintro e w2 ⟨rfl, rfl⟩
  rw [non_in, HQ.out]
  go_wp2_with fail
  refine (l1Rules_any _ _ _ _ _ _ _ ((HX.out.keep HB1.out).more HB1.out.size) hl16).mono ?_
  rintro e w3 ⟨A', c', rfl, hO, hB3⟩
  have HO := Lib.hid hO; clear hO
  have HB3 := Lib.hid hB3; clear hB3
  go_wp2
  go_ret2
  have hV : rulesV n t (rs.map Ru.abs) x = rulesTo (rs.map Ru.abs) x rs.length := by rw [rulesV_yes HE.out, List.length_map]
  exact ⟨A', c', by rw [hV, HE.out]; rfl, by rw [hV]; exact HO.out.lower HB1.out.size, HB1.out.trans (HB3.out.mono HB1.out.size)⟩

set_option maxHeartbeats 400000 in
theorem implRules_any (n t x : Int) (A : Option Addr) (c : Nat) (rs : List Ru) (w : World) (hx : Rls w w.heap.size A rs) (hL : Lims w) (hc : rs.length ≤ c) (h1 : rs.length ≤ 1048576) (h2 : ∀ u ∈ rs, u.r.length ≤ 1048576) (hf : FitR rs) :
    Calls Tryd.prog 20 #[.agg #[.int .i64 n, .int .i64 t, .slice A rs.length c], .int .i64 x] w (GaveIB w (rulesV n t (rs.map Ru.abs) x) (okN n t (rs.map Ru.abs) x)) := by
  obtain ⟨i0, hi0, hz0, hz1, hz2⟩ := info_of Tryd.infoInt
  have HX := Lib.hid hx; clear hx
  have HL := Lib.hid hL; clear hL
  have HF := Lib.hid hf; clear hf
  have H2 := Lib.hid h2; clear h2
  have HB0 : Hid (Below w.heap.size w (w.alloc (.cells #[.int .i64 n, .int .i64 t, .slice A rs.length c] 29))) := by show Below _ _ _; go_grown
  have B0 : Hid (Box3 (w.alloc (.cells #[.int .i64 n, .int .i64 t, .slice A rs.length c] 29)) w.heap.size (.int .i64 n) (.int .i64 t) (.slice A rs.length c)) := ⟨by simp, by simp [go_sem], by simp [go_sem], by simp [go_sem]⟩
  cases hg : goodG n t (rs.map Ru.abs)
  · have HE := Lib.hid (okN_no (x := x) hg)
    have HG := Lib.hid hg; clear hg
    go_enter Tryd.func20, Tryd.ntmps20
    go_wp2_with fail
    refine (goodGrammar_any _ _ _ _ _ _ ((HX.out.keep HB0.out).more HB0.out.size) (HL.out.keep HB0.out (Nat.le_refl _)) hc h1 H2.out HF.out).mono ?_
    rintro e w1 ⟨rfl, hB1⟩
    rw [HG.out]
    have HB1 := Lib.hid (HB0.out.trans (hB1.mono HB0.out.size)); clear hB1
    go_wp2
    go_ret2
    exact ⟨none, 0, by rw [rulesV_no HE.out, HE.out]; rfl, .inl (rulesV_no HE.out), HB1.out⟩
  have hl16 : rs.length ≤ 16 := by simpa using (goodG_is hg).2.2.1
  cases hq : nonB n x
  · have HE : Hid (okN n t (rs.map Ru.abs) x = false) := (okN_yes hg).trans hq
    have HG := Lib.hid hg; clear hg
    have HQ := Lib.hid hq; clear hq
    go_enter Tryd.func20, Tryd.ntmps20
    go_wp2_with fail
    refine (goodGrammar_any _ _ _ _ _ _ ((HX.out.keep HB0.out).more HB0.out.size) (HL.out.keep HB0.out (Nat.le_refl _)) hc h1 H2.out HF.out).mono ?_
    rintro e w1 ⟨rfl, hB1⟩
    rw [HG.out]
    obtain ⟨_, b0, b1, b2⟩ := B0.out.keep hB1 (by simp)
    have HB1 := Lib.hid (HB0.out.trans (hB1.mono HB0.out.size)); clear hB1
    go_wp2_with fail
    refine (isNon_any _ _ _ _ _).mono ?_
    rintro e w2 ⟨rfl, hB2⟩
    rw [HQ.out]
    have HB2 := Lib.hid (HB1.out.trans (hB2.mono HB1.out.size)); clear hB2
    go_wp2
    go_ret2
    exact ⟨none, 0, by rw [rulesV_no HE.out, HE.out]; rfl, .inl (rulesV_no HE.out), HB2.out⟩
  have HE : Hid (okN n t (rs.map Ru.abs) x = true) := (okN_yes hg).trans hq
  have HV : Hid (rulesV n t (rs.map Ru.abs) x = rulesTo (rs.map Ru.abs) x rs.length) := by show rulesV n t (rs.map Ru.abs) x = _; rw [rulesV_yes HE.out, List.length_map]
  have HG := Lib.hid hg; clear hg
  have HQ := Lib.hid hq; clear hq
  go_enter Tryd.func20, Tryd.ntmps20
  go_wp2_with fail
  refine (goodGrammar_any _ _ _ _ _ _ ((HX.out.keep HB0.out).more HB0.out.size) (HL.out.keep HB0.out (Nat.le_refl _)) hc h1 H2.out HF.out).mono ?_
  rintro e w1 ⟨rfl, hB1⟩
  rw [HG.out]
  have B1 := Lib.hid (B0.out.keep hB1 (by simp))
  obtain ⟨_, b0, b1, b2⟩ := B1.out
  have HB0' := Lib.hid (HB0.out.trans (hB1.mono HB0.out.size)); clear hB1
  go_wp2_with fail
  refine (isNon_any _ _ _ _ _).mono ?_
  rintro e w2 ⟨rfl, hB2⟩
  rw [HQ.out]
  clear b0 b1 b2
  obtain ⟨_, b0, b1, b2⟩ := B1.out.keep hB2 B1.out.1
  have HB1 := Lib.hid (HB0'.out.trans (hB2.mono HB0'.out.size)); clear hB2
  go_wp2
  go_loopw [6, 21] (fun v i wr => ∃ (k : Nat), k ≤ rs.length ∧ i = .int .i64 k ∧ Hid (wr.ownsRow w.heap.size 3 1 v (rulesTo (rs.map Ru.abs) x k).length ((rulesTo (rs.map Ru.abs) x k).map fun y => Value.int .i64 y)) ∧ Below w.heap.size w wr) (fun _ i _ => rs.length - (intOf i).toNat)
  case atStart => exact ⟨0, by omega, rfl, ⟨by simp [rulesTo_zero], .inl ⟨rfl, rfl⟩⟩, HB1.out⟩
  case round =>
    clear b0 b1 b2
    obtain ⟨k, hk, rfl, HO, hB⟩ := hrel
    have hrl := rulesTo_len (rs.map Ru.abs) x k
    by_cases hlt : k < rs.length
    · obtain ⟨b, o, rfl, hb, c1, c2, c3⟩ := (HX.out.keep hB).at_ hlt
      clear c3
      by_cases hl : rs[k].l = x
      · have HS := Lib.hid (rulesTo_yes hlt hl)
        have ht := beq_t hl
        clear hl
        have hown := (HO.out.alloc (.cells #[.int .i64 rs[k].l, .slice rs[k].a rs[k].r.length rs[k].c] 52)).alloc (.cells #[.int .i64 (k : Int)] 3)
        have HW := Lib.hid hown; clear hown
        have hnew := cell_one_new (wr.alloc (.cells #[.int .i64 rs[k].l, .slice rs[k].a rs[k].r.length rs[k].c] 52)) (.int .i64 (k : Int)) 3
        rw [World.size_alloc] at hnew
        have HNW := Lib.hid hnew; clear hnew
        have hsz := hB.size
        go_wp2_with (at_builtin
                     refine wpList_append_own _ rfl (.tmp 30) (.tmp 32) _ rfl w.heap.size 3 i0 _ 1 8 Tryd.underlying33 hi0 hz0 hz1 hz2 rfl (by omega) _ _ _ rfl HW.out ⟨wr.heap.size + 1, 0, none⟩ 1 1 [.int .i64 (k : Int)] rfl rfl HNW.out (by intro u hu; simp at hu; subst hu; rfl) (by unfold maxLen; omega) (by omega) (by simp; omega) ?_
                     intro v' w' h1 h2 h3
                     have HO1 := Lib.hid h1
                     have HG1 := Lib.hid h2
                     clear h1 h2 h3)
        go_roundw
        case rel =>
          refine ⟨k + 1, by omega, by go_num, ?_, ?_⟩
          · show World.ownsRow _ _ _ _ _ _ _
            rw [HS.out]
            simpa using HO1.out
          · refine ((hB.alloc hB.size _).alloc (by simp; omega) _).grown HG1.out (by simp; omega) fun j hj => (HO.out.lt j hj).1
        case measure => simp [intOf]; omega
      · have HS := Lib.hid (rulesTo_no hlt hl)
        have ht := beq_f hl
        clear hl
        go_wp2
        go_roundw
        case rel => exact ⟨k + 1, by omega, by go_num, by show World.ownsRow _ _ _ _ _ _ _; rw [HS.out]; exact HO.out.alloc _, hB.alloc hB.size _⟩
        case measure => simp [intOf]; omega
    · obtain rfl : k = rs.length := by omega
      obtain ⟨A', c', rfl, hO⟩ := ownI_of_row HO.out
      have HO' := Lib.hid hO; clear hO
      go_wp2
      go_ret2
      exact ⟨A', c', by rw [HV.out, HE.out]; rfl, by rw [HV.out]; exact HO'.out, hB⟩

end Go.Proofs.YtpaccjfabclikaaDoor
