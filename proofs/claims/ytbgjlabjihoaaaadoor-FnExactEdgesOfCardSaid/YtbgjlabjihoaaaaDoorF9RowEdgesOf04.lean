/- The law of EdgesOf holds of every forest and number: the call returns true, and what was handed in reads afterwards as it read before. Conditions: the package's table of limits is as the program's text lays it (tied by the given tie). -/
import Derived.Test.YtbgjlabjihoaaaaDoorF901
import Derived.Maps.AppendAt
import Derived.Test.YtbgjlabjihoaaaaDoorF902
import Derived.Test.YtbgjlabjihoaaaaDoorF903
import Derived.Deep.RegionHeld3
import Derived.Test.YtbgjlabjihoaaaaDoorCards

namespace Go.Proofs.YtbgjlabjihoaaaaDoor
open Go.RowKit

/-- A new slice of numbers, and a bool. -/
def GaveIB (w : World) (ys : List Int) (b : Bool) (e : Ending) (w' : World) : Prop :=
  ∃ A c, e = .returned (.tuple #[.slice A ys.length c, .bool b]) ∧ OwnI w' w.heap.size A ys ∧ Below w.heap.size w w'

theorem ownI_of_row {w : World} {lo : Nat} {v : Value} {n : Nat} {ys : List Int} (h : w.ownsRow lo 3 1 v n (ys.map fun y => Value.int .i64 y)) : ∃ A c, v = .slice A ys.length c ∧ OwnI w lo A ys := by
  obtain ⟨hl, h⟩ := h
  have hn : n = ys.length := by simpa using hl.symm
  subst hn
  rcases h with ⟨rfl, h0⟩ | ⟨g, cap, cur, rfl, hlo, hg, _, _, _, hx⟩
  · have : ys = [] := List.eq_nil_of_length_eq_zero h0
    subst this
    exact ⟨none, 0, rfl, .inl rfl⟩
  · refine ⟨_, cap, rfl, .inr ⟨g, cur, rfl, hlo, hg, fun k x hk => ?_⟩⟩
    have hk' := (List.getElem?_eq_some_iff.1 hk).1
    have e := congrArg (fun l => l[k]?) hx
    simp only [List.getElem?_map, hk, Option.map_some] at e
    rw [List.getElem?_take, if_pos (by omega)] at e
    simpa using e

def GaveI' (w : World) (ys : List Int) (e : Ending) (w' : World) : Prop := ∃ A c, e = .returned (.slice A ys.length c) ∧ OwnI w' w.heap.size A ys ∧ Below w.heap.size w w'

end Go.Proofs.YtbgjlabjihoaaaaDoor

/- What EdgesOf answers, the program's and the reference's. -/

namespace Go.Proofs.YtbgjlabjihoaaaaDoor
open Go.RowKit

/-- The numbers, below k, of the edges of node x. -/
def edgesTo (ss : List Es) (x : Int) (k : Nat) : List Int := ((List.range k).filter fun i => decide ((ss.getD i ⟨0, 0, []⟩).n = x)).map fun (i : Nat) => (i : Int)
theorem edgesTo_zero (ss : List Es) (x : Int) : edgesTo ss x 0 = [] := rfl
theorem edgesTo_len (ss : List Es) (x : Int) (k : Nat) : (edgesTo ss x k).length ≤ k := by
  unfold edgesTo
  have := List.length_filter_le (fun i => decide ((ss.getD i ⟨0, 0, []⟩).n = x)) (List.range k)
  simpa using this
theorem edgesTo_yes {rs : List Eg} {x : Int} {k : Nat} (hk : k < rs.length) (h : rs[k].n = x) : edgesTo (rs.map Eg.abs) x (k + 1) = edgesTo (rs.map Eg.abs) x k ++ [(k : Int)] := by
  unfold edgesTo
  rw [List.range_succ, List.filter_append, List.map_append]
  congr 1
  simp [List.getD_eq_getElem?_getD, hk, Eg.abs, h]
theorem edgesTo_no {rs : List Eg} {x : Int} {k : Nat} (hk : k < rs.length) (h : rs[k].n ≠ x) : edgesTo (rs.map Eg.abs) x (k + 1) = edgesTo (rs.map Eg.abs) x k := by
  unfold edgesTo
  rw [List.range_succ, List.filter_append, List.map_append]
  simp [List.getD_eq_getElem?_getD, hk, Eg.abs, h]
theorem edgesTo_mem {ss : List Es} {x : Int} {k : Nat} {i : Int} : i ∈ edgesTo ss x k ↔ ∃ j : Nat, i = (j : Int) ∧ j < k ∧ (ss.getD j ⟨0, 0, []⟩).n = x := by
  unfold edgesTo
  simp only [List.mem_map, List.mem_filter, List.mem_range, decide_eq_true_eq]
  constructor
  · rintro ⟨j, ⟨h1, h2⟩, rfl⟩; exact ⟨j, rfl, h1, h2⟩
  · rintro ⟨j, rfl, h1, h2⟩; exact ⟨j, ⟨h1, h2⟩, rfl⟩

/-- Whether x is the number of a node. -/
def nodB (f : Fs) (x : Int) : Bool := decide (0 ≤ x ∧ x < f.ns.length)
def okEd (f : Fs) (x : Int) : Bool := smF f && nodB f x
def edV (f : Fs) (x : Int) : List Int := if okEd f x then edgesTo f.es x f.es.length else []
theorem edV_no {f : Fs} {x : Int} (h : okEd f x = false) : edV f x = [] := by unfold edV; rw [h]; rfl
theorem edV_yes {f : Fs} {x : Int} (h : okEd f x = true) : edV f x = edgesTo f.es x f.es.length := by unfold edV; rw [h]; rfl
theorem edV_len {f : Fs} {x : Int} : (edV f x).length ≤ 600 := by
  unfold edV
  split
  · rename_i h
    have := edgesTo_len f.es x f.es.length
    have := (smF_is (Bool.and_eq_true_iff.1 h).1).2
    omega
  · simp

set_option maxHeartbeats 1000000 in
theorem l9Edges_any (f : Fo) (x : Int) (w : World) (hx : ReadF w w.heap.size f) (h1 : f.es.length ≤ 600) :
    Calls Tryd.prog 30 #[(.agg #[.slice f.a f.ns.length f.c, .slice f.b f.es.length f.d]), .int .i64 x] w (GaveI' w (edgesTo f.say.es x f.es.length)) := by
  obtain ⟨i0, hi0, hz0, hz1, hz2⟩ := info_of Tryd.infoInt
  obtain ⟨FA, ns, fc, A, rs, c⟩ := f
  replace hx : Egs w w.heap.size A rs := hx.2
  show Calls Tryd.prog 30 #[.agg #[.slice FA ns.length fc, .slice A rs.length c], .int .i64 x] w (GaveI' w (edgesTo (rs.map Eg.abs) x rs.length))
  replace h1 : rs.length ≤ 600 := h1
  have HX := Lib.hid hx; clear hx
  have HB1 : Hid (Below w.heap.size w (w.alloc (.cells #[.slice FA ns.length fc, .slice A rs.length c] 33))) := by show Below _ _ _; go_grown
  go_enter Tryd.func30, Tryd.ntmps30
  go_wp2
  go_loopw [5, 11] (fun v i wr => ∃ (k : Nat), k ≤ rs.length ∧ i = .int .i64 k ∧ Hid (wr.ownsRow w.heap.size 3 1 v (edgesTo (rs.map Eg.abs) x k).length ((edgesTo (rs.map Eg.abs) x k).map fun y => Value.int .i64 y)) ∧ Below w.heap.size w wr) (fun _ i _ => rs.length - (intOf i).toNat)
  case atStart => exact ⟨0, by omega, rfl, ⟨by simp [edgesTo_zero], .inl ⟨rfl, rfl⟩⟩, HB1.out⟩
  case round =>
    obtain ⟨k, hk, rfl, HO, hB⟩ := hrel
    have hrl := edgesTo_len (rs.map Eg.abs) x k
    by_cases hlt : k < rs.length
    · obtain ⟨b, o, rfl, hb, c1, c2, c3, c4⟩ := (HX.out.keep hB).at_ hlt
      clear c4
      by_cases hl : rs[k].n = x
      · have HS := Lib.hid (edgesTo_yes hlt hl)
        have ht := beq_t hl
        clear hl
        have hown := (HO.out.alloc (.cells #[.int .i64 rs[k].n, .int .i64 rs[k].e, .slice rs[k].a rs[k].r.length rs[k].c] 67)).alloc (.cells #[.int .i64 (k : Int)] 3)
        have HW := Lib.hid hown; clear hown
        have hnew := cell_one_new (wr.alloc (.cells #[.int .i64 rs[k].n, .int .i64 rs[k].e, .slice rs[k].a rs[k].r.length rs[k].c] 67)) (.int .i64 (k : Int)) 3
        rw [World.size_alloc] at hnew
        have HNW := Lib.hid hnew; clear hnew
        have hsz := hB.size
        go_wp2_with (at_builtin
                     refine wpList_append_own _ rfl (.tmp 20) (.tmp 22) _ rfl w.heap.size 3 i0 _ 1 8 Tryd.underlying27 hi0 hz0 hz1 hz2 rfl (by omega) _ _ _ rfl HW.out ⟨wr.heap.size + 1, 0, none⟩ 1 1 [.int .i64 (k : Int)] rfl rfl HNW.out (by intro u hu; simp at hu; subst hu; rfl) (by unfold maxLen; omega) (by omega) (by simp; omega) ?_
                     intro v' w' h1 h2 h3
                     have HO1 := Lib.hid h1
                     have HG1 := Lib.hid h2
                     clear h1 h2 h3)
        go_roundw
        case rel =>
          refine ⟨k + 1, by omega, by go_num, ?_, ?_⟩
          · show World.ownsRow _ _ _ _ _ _ _
            rw [HS.out]
            simpa using HO1.out
          · refine ((hB.alloc hB.size _).alloc (by simp; omega) _).grown HG1.out (by simp; omega) fun j hj => (HO.out.lt j hj).1
        case measure => simp [intOf]; omega
      · have HS := Lib.hid (edgesTo_no hlt hl)
        have ht := beq_f hl
        clear hl
        go_wp2
        go_roundw
        case rel => exact ⟨k + 1, by omega, by go_num, by show World.ownsRow _ _ _ _ _ _ _; rw [HS.out]; exact HO.out.alloc _, hB.alloc hB.size _⟩
        case measure => simp [intOf]; omega
    · obtain rfl : k = rs.length := by omega
      obtain ⟨A', c', rfl, hO⟩ := ownI_of_row HO.out
      have HO' := Lib.hid hO; clear hO
      go_wp2
      go_ret
      exact ⟨A', c', rfl, HO'.out, hB⟩

set_option maxHeartbeats 1000000 in
theorem specEdgesOf_any (f : Fo) (x : Int) (w : World) (hx : ReadF w w.heap.size f) (hm : LenF 1048576 f) :
    Calls Tryd.prog 8 #[(.agg #[.slice f.a f.ns.length f.c, .slice f.b f.es.length f.d]), .int .i64 x] w (GaveIB w (edV f.say x) (okEd f.say x)) := by
  have HX := Lib.hid hx; clear hx
  have hn := hm.n
  have HB0 : Hid (Below w.heap.size w (w.alloc (.cells #[.slice f.a f.ns.length f.c, .slice f.b f.es.length f.d] 33))) := by show Below _ _ _; go_grown
  have B0 := Lib.hid (BoxF.new w f 33)
  have HC := Lib.hid (l9Sized_any f (w.alloc (.cells #[.slice f.a f.ns.length f.c, .slice f.b f.es.length f.d] 33)) hm)
  have HIN : Hid (∀ v, Calls Tryd.prog 29 #[.int .i64 x, .int .i64 0, .int .i64 ((f.ns.length : Int) - 1)] v fun e v' => e = .returned (.bool (nodB f.say x)) ∧ v = v') := fun v => by
    refine (l1In_any x 0 ((f.ns.length : Int) - 1) v).mono ?_
    rintro e v' ⟨rfl, rfl⟩
    refine ⟨ret_b ?_, rfl⟩
    unfold inB nodB
    exact decide_eq_decide.2 ⟨fun h => ⟨h.1, by show x < (f.ns.length : Int); omega⟩, fun h => ⟨h.1, by have h2 : x < (f.ns.length : Int) := h.2; omega⟩⟩
  cases hg : smF f.say
  · have HE : Hid (okEd f.say x = false) := by show _ = _; unfold okEd; rw [hg]; rfl
    have HG := Lib.hid hg; clear hg
    go_enter Tryd.func8, Tryd.ntmps8
    go_wp2_with fail
    refine HC.out.mono ?_
    rintro e w1 ⟨rfl, hB1⟩
    rw [HG.out]
    have HB1 := Lib.hid (HB0.out.trans (hB1.mono HB0.out.size)); clear hB1
    go_wp2
    go_ret2
    exact ⟨none, 0, by rw [edV_no HE.out, HE.out]; rfl, .inl (edV_no HE.out), HB1.out⟩
  have he600 : f.es.length ≤ 600 := by have := (smF_is hg).2; rw [f.say_es] at this; exact this
  cases hq : nodB f.say x
  all_goals
    have HE : Hid (okEd f.say x = nodB f.say x) := by show _ = _; unfold okEd; rw [hg]; rfl
    have HG := Lib.hid hg; clear hg
    have HQ := Lib.hid hq; clear hq
    go_enter Tryd.func8, Tryd.ntmps8
    go_wp2_with fail
    refine HC.out.mono ?_
    rintro e w1 ⟨rfl, hB1⟩
    rw [HG.out]
    obtain ⟨_, b0, b1⟩ := B0.out.keep hB1 B0.out.1
    have HB1 := Lib.hid (HB0.out.trans (hB1.mono HB0.out.size)); clear hB1
    go_wp2_with fail
    refine (HIN.out _).mono ?_
    rintro e w2 ⟨rfl, rfl⟩
    rw [HQ.out]
  · have HE' : Hid (okEd f.say x = false) := HE.out.trans HQ.out
    go_wp2
    go_ret2
    exact ⟨none, 0, by rw [edV_no HE'.out, HE'.out]; rfl, .inl (edV_no HE'.out), HB1.out⟩
  · have HE' : Hid (okEd f.say x = true) := HE.out.trans HQ.out
    go_wp2_with fail
    refine (l9Edges_any _ _ _ ((HX.out.keep HB1.out).more HB1.out.size) he600).mono ?_
    rintro e w3 ⟨A3, c3, rfl, hO3, hB3⟩
    have HO3 := Lib.hid (hO3.lower HB1.out.size); clear hO3
    have HB3 := Lib.hid (HB1.out.trans (hB3.mono HB1.out.size)); clear hB3
    have HV : Hid (edV f.say x = edgesTo f.say.es x f.es.length) := by show _ = _; rw [edV_yes HE'.out, f.say_es]
    go_wp2
    go_ret2
    exact ⟨A3, c3, by rw [HV.out, HE'.out]; rfl, by rw [HV.out]; exact HO3.out, HB3.out⟩

set_option maxHeartbeats 1000000 in
theorem hasNode_any (f : Fo) (x : Int) (w : World) (hm : LenF 1048576 f) :
    Calls Tryd.prog 34 #[(.agg #[.slice f.a f.ns.length f.c, .slice f.b f.es.length f.d]), .int .i64 x] w fun e w' => e = .returned (.bool (nodB f.say x)) ∧ Below w.heap.size w w' := by
  have hn := hm.n
  have HB0 : Hid (Below w.heap.size w (w.alloc (.cells #[.slice f.a f.ns.length f.c, .slice f.b f.es.length f.d] 33))) := by show Below _ _ _; go_grown
  clear hm
  by_cases h1 : 0 ≤ x
  · by_cases h2 : x < f.ns.length
    · have HE : Hid (nodB f.say x = true) := decide_eq_true ⟨h1, h2⟩
      go_enter Tryd.func34, Tryd.ntmps34
      go_wp2
      go_ret
      exact ⟨ret_b HE.out.symm, HB0.out⟩
    · have HE : Hid (nodB f.say x = false) := decide_eq_false fun h => h2 h.2
      go_enter Tryd.func34, Tryd.ntmps34
      go_wp2
      go_ret
      exact ⟨ret_b HE.out.symm, HB0.out⟩
  · have HE : Hid (nodB f.say x = false) := decide_eq_false fun h => h1 h.1
    go_enter Tryd.func34, Tryd.ntmps34
    go_wp2
    go_ret
    exact ⟨ret_b HE.out.symm, HB0.out⟩

set_option maxHeartbeats 1000000 in
theorem implEdgesOf_any (f : Fo) (x : Int) (w : World) (hx : ReadF w w.heap.size f) (hL : Lims w) (hm : LenF 1048576 f) :
    Calls Tryd.prog 10 #[(.agg #[.slice f.a f.ns.length f.c, .slice f.b f.es.length f.d]), .int .i64 x] w (GaveIB w (edV f.say x) (okEd f.say x)) := by
  obtain ⟨i0, hi0, hz0, hz1, hz2⟩ := info_of Tryd.infoInt
  have hn := hm.n
  have HB0 : Hid (Below w.heap.size w (w.alloc (.cells #[.slice f.a f.ns.length f.c, .slice f.b f.es.length f.d] 33))) := by show Below _ _ _; go_grown
  have B0 := Lib.hid (BoxF.new w f 33)
  have HC := Lib.hid (isSmall_any f (w.alloc (.cells #[.slice f.a f.ns.length f.c, .slice f.b f.es.length f.d] 33)) (hL.keep HB0.out (Nat.le_refl _)) hm)
  clear hL
  cases hg : smF f.say
  · have HE : Hid (okEd f.say x = false) := by show _ = _; unfold okEd; rw [hg]; rfl
    have HG := Lib.hid hg; clear hg
    go_enter Tryd.func10, Tryd.ntmps10
    go_wp2_with fail
    refine HC.out.mono ?_
    rintro e w1 ⟨rfl, hB1⟩
    rw [HG.out]
    have HB1 := Lib.hid (HB0.out.trans (hB1.mono HB0.out.size)); clear hB1
    go_wp2
    go_ret2
    exact ⟨none, 0, by rw [edV_no HE.out, HE.out]; rfl, .inl (edV_no HE.out), HB1.out⟩
  have he600 : f.es.length ≤ 600 := by have := (smF_is hg).2; rw [f.say_es] at this; exact this
  cases hq : nodB f.say x
  · have HE : Hid (okEd f.say x = false) := by show _ = _; unfold okEd; rw [hg, hq]; rfl
    have HG := Lib.hid hg; clear hg
    have HQ := Lib.hid hq; clear hq
    go_enter Tryd.func10, Tryd.ntmps10
    go_wp2_with fail
    refine HC.out.mono ?_
    rintro e w1 ⟨rfl, hB1⟩
    rw [HG.out]
    obtain ⟨_, b0, b1⟩ := B0.out.keep hB1 B0.out.1
    have HB1 := Lib.hid (HB0.out.trans (hB1.mono HB0.out.size)); clear hB1
    go_wp2_with fail
    refine (hasNode_any f x _ hm).mono ?_
    rintro e w2 ⟨rfl, hB2⟩
    rw [HQ.out]
    have HB2 := Lib.hid (HB1.out.trans (hB2.mono HB1.out.size)); clear hB2
    go_wp2
    go_ret2
    exact ⟨none, 0, by rw [edV_no HE.out, HE.out]; rfl, .inl (edV_no HE.out), HB2.out⟩
  have HE : Hid (okEd f.say x = true) := by show _ = _; unfold okEd; rw [hg, hq]; rfl
  have HG := Lib.hid hg; clear hg
  have HQ := Lib.hid hq; clear hq
  have HM := Lib.hid hm; clear hm
  obtain ⟨FA, ns, fc, A, rs, c⟩ := f
  replace hx : Egs w w.heap.size A rs := hx.2
  have HX := Lib.hid hx; clear hx
  replace he600 : rs.length ≤ 600 := he600
  have HV : Hid (edV (Fo.mk FA ns fc A rs c).say x = edgesTo (rs.map Eg.abs) x rs.length) := by show _ = _; rw [edV_yes HE.out, Fo.say_es]; rfl
  go_enter Tryd.func10, Tryd.ntmps10
  go_wp2_with fail
  refine HC.out.mono ?_
  rintro e w1 ⟨rfl, hB1⟩
  rw [HG.out]
  have K1 := Lib.hid (B0.out.keep hB1 B0.out.1)
  obtain ⟨_, b0, b1⟩ := K1.out
  dsimp only at b0 b1
  have HB1 := Lib.hid (HB0.out.trans (hB1.mono HB0.out.size)); clear hB1 B0 HB0 HC
  go_wp2_with fail
  refine (hasNode_any (Fo.mk FA ns fc A rs c) x _ HM.out).mono ?_
  rintro e w2 ⟨rfl, hB2⟩
  rw [HQ.out]
  clear b0 b1
  obtain ⟨_, b0, b1⟩ := K1.out.keep hB2 K1.out.1
  dsimp only at b0 b1
  have HB2 := Lib.hid (HB1.out.trans (hB2.mono HB1.out.size)); clear hB2 K1 HB1
  go_wp2
  go_loopw [6, 21] (fun v i wr => ∃ (k : Nat), k ≤ rs.length ∧ i = .int .i64 k ∧ Hid (wr.ownsRow w.heap.size 3 1 v (edgesTo (rs.map Eg.abs) x k).length ((edgesTo (rs.map Eg.abs) x k).map fun y => Value.int .i64 y)) ∧ Below w.heap.size w wr) (fun _ i _ => rs.length - (intOf i).toNat)
  case atStart => exact ⟨0, by omega, rfl, ⟨by simp [edgesTo_zero], .inl ⟨rfl, rfl⟩⟩, HB2.out⟩
  case round =>
    clear b0 b1
    obtain ⟨k, hk, rfl, HO, hB⟩ := hrel
    have hrl := edgesTo_len (rs.map Eg.abs) x k
    by_cases hlt : k < rs.length
    · obtain ⟨b, o, rfl, hb, c1, c2, c3, c4⟩ := (HX.out.keep hB).at_ hlt
      clear c4
      by_cases hl : rs[k].n = x
      · have HS := Lib.hid (edgesTo_yes hlt hl)
        have ht := beq_t hl
        clear hl
        have hown := (HO.out.alloc (.cells #[.int .i64 rs[k].n, .int .i64 rs[k].e, .slice rs[k].a rs[k].r.length rs[k].c] 67)).alloc (.cells #[.int .i64 (k : Int)] 3)
        have HW := Lib.hid hown; clear hown
        have hnew := cell_one_new (wr.alloc (.cells #[.int .i64 rs[k].n, .int .i64 rs[k].e, .slice rs[k].a rs[k].r.length rs[k].c] 67)) (.int .i64 (k : Int)) 3
        rw [World.size_alloc] at hnew
        have HNW := Lib.hid hnew; clear hnew
        have hsz := hB.size
        go_wp2_with (at_builtin
                     refine wpList_append_own _ rfl (.tmp 30) (.tmp 32) _ rfl w.heap.size 3 i0 _ 1 8 Tryd.underlying27 hi0 hz0 hz1 hz2 rfl (by omega) _ _ _ rfl HW.out ⟨wr.heap.size + 1, 0, none⟩ 1 1 [.int .i64 (k : Int)] rfl rfl HNW.out (by intro u hu; simp at hu; subst hu; rfl) (by unfold maxLen; omega) (by omega) (by simp; omega) ?_
                     intro v' w' h1 h2 h3
                     have HO1 := Lib.hid h1
                     have HG1 := Lib.hid h2
                     clear h1 h2 h3)
        go_roundw
        case rel =>
          refine ⟨k + 1, by omega, by go_num, ?_, ?_⟩
          · show World.ownsRow _ _ _ _ _ _ _
            rw [HS.out]
            simpa using HO1.out
          · refine ((hB.alloc hB.size _).alloc (by simp; omega) _).grown HG1.out (by simp; omega) fun j hj => (HO.out.lt j hj).1
        case measure => simp [intOf]; omega
      · have HS := Lib.hid (edgesTo_no hlt hl)
        have ht := beq_f hl
        clear hl
        go_wp2
        go_roundw
        case rel => exact ⟨k + 1, by omega, by go_num, by show World.ownsRow _ _ _ _ _ _ _; rw [HS.out]; exact HO.out.alloc _, hB.alloc hB.size _⟩
        case measure => simp [intOf]; omega
    · obtain rfl : k = rs.length := by omega
      obtain ⟨A', c', rfl, hO⟩ := ownI_of_row HO.out
      have HO' := Lib.hid hO; clear hO
      go_wp2
      go_ret2
      exact ⟨A', c', by rw [HV.out, HE.out]; rfl, by rw [HV.out]; exact HO'.out, hB⟩

end Go.Proofs.YtbgjlabjihoaaaaDoor

/- The law of EdgesOf: its walk. -/

namespace Go.Proofs.YtbgjlabjihoaaaaDoor
open Go.RowKit

set_option maxRecDepth 20000 in
set_option maxHeartbeats 2000000 in
theorem law_EdgesOf (f : Fo) (x : Int) (w : World) (hx : ReadF w w.heap.size f) (hm : LenF maxLen f) (_ : FitE f.es) (_ : F64 x) (hL : Lims w) :
    Calls Tryd.prog 3 #[(.agg #[.slice f.a f.ns.length f.c, .slice f.b f.es.length f.d]), .int .i64 x] w (LawEnds w) := by
  have HX := Lib.hid hx; clear hx
  have HL := Lib.hid hL; clear hL
  have HM := Lib.hid hm; clear hm
  go_enter Tryd.func3, Tryd.ntmps3
  go_wp2_with fail
  have hBA : Below w.heap.size w (w.alloc (.cells #[.slice f.a f.ns.length f.c, .slice f.b f.es.length f.d] 25)) := by go_grown
  have B0 := BoxF.new w f 25
  generalize (w.alloc (.cells #[.slice f.a f.ns.length f.c, .slice f.b f.es.length f.d] 25)) = W at hBA B0 ⊢
  have HBA := Lib.hid hBA; clear hBA
  have HB0 := Lib.hid B0; clear B0
  refine (szForest_any _ _ _ ((HX.out.keep HBA.out).more HBA.out.size) HM.out (by omega) (by omega)).mono ?_
  rintro e w1 ⟨rfl, hB1⟩
  have HB1 := Lib.hid hB1; clear hB1
  by_cases hneg : szFo f.ns.length f.es 1048576 < 0
  · go_wp2
    go_ret
    exact ⟨rfl, HBA.out.trans (HB1.out.mono HBA.out.size)⟩
  have HLN : Hid (LenF 1048576 f) := (szFo_bound (f := f) (L := 1048576) (by omega) (by omega) (by omega)).1
  have HW1 := Lib.hid (HBA.out.trans (HB1.out.mono HBA.out.size))
  have KA1 := Lib.hid (HB0.out.keep HB1.out HB0.out.1)
  obtain ⟨_, a0, a1⟩ := KA1.out
  clear HB1 HB0 HBA
  have HTO : Hid (∀ v, Below w.heap.size w v → Calls Tryd.prog 9 #[(.agg #[.slice f.a f.ns.length f.c, .slice f.b f.es.length f.d])] v (GaveF v f.say)) := fun v hv => toForest_any f v ((HX.out.keep hv).more hv.size) HLN.out
  have hyl : (edV f.say x).length ≤ 1048576 := Nat.le_trans edV_len (by omega)
  have HSPE : Hid (∀ (f' : Fo) (lo : Nat) (v : World), OwnF v lo f' → f'.say = f.say → Calls Tryd.prog 8 #[(.agg #[.slice f'.a f'.ns.length f'.c, .slice f'.b f'.es.length f'.d]), .int .i64 x] v (GaveIB v (edV f.say x) (okEd f.say x))) := fun f' lo v h1 h2 => by
    have h6 := specEdgesOf_any f' x v h1.read (HLN.out.of_say h2)
    rw [h2] at h6
    exact h6
  have HIMP : Hid (∀ (f' : Fo) (lo : Nat) (v : World), OwnF v lo f' → f'.say = f.say → Below w.heap.size w v → Calls Tryd.prog 10 #[(.agg #[.slice f'.a f'.ns.length f'.c, .slice f'.b f'.es.length f'.d]), .int .i64 x] v (GaveIB v (edV f.say x) (okEd f.say x))) := fun f' lo v h1 h2 h3 => by
    have h6 := implEdgesOf_any f' x v h1.read (HL.out.keep h3 (Nat.le_refl _)) (HLN.out.of_say h2)
    rw [h2] at h6
    exact h6
  generalize edV f.say x = ys at hyl HIMP HSPE
  generalize okEd f.say x = ok at HIMP HSPE
  have HEI : Hid (∀ (A A' : Option Addr) (c c' lo lo' : Nat) (v : World), OwnI v lo A ys → OwnI v lo' A' ys → Calls Tryd.prog 11 #[.slice A ys.length c, .slice A' ys.length c'] v fun e v' => e = .returned (.bool true) ∧ Below v.heap.size v v') := fun A A' c c' lo lo' v h1 h2 => by
    have h := eqIntS_any A A' ys ys c c' v h1.ints h2.ints hyl
    rw [eqL_refl] at h
    exact h
  -- the reference's answer
  go_wp2_with fail
  refine (HTO.out _ HW1.out).mono ?_
  rintro e w2 ⟨f2, rfl, hs2, hO2, _, hB2⟩
  have HO2 := Lib.hid hO2; clear hO2
  have HS2 := Lib.hid hs2; clear hs2
  have HB2 := Lib.hid hB2; clear hB2
  go_wp2_with fail
  refine (HSPE.out _ _ _ HO2.out HS2.out).mono ?_
  rintro e w3 ⟨A3, c3, rfl, hO3, hB3⟩
  have HB3 := Lib.hid (HB2.out.trans (hB3.mono HB2.out.size)); clear hB3
  have HO3 := Lib.hid hO3; clear hO3
  have HI3 : Hid (∀ b, Its A3 ys b → w.heap.size + 1 ≤ b ∧ b < w3.heap.size) := fun b hb => ⟨by have := (HO3.out.its hb).1; have := HB2.out.size; have := KA1.out.1; omega, (HO3.out.its hb).2⟩
  clear a0 a1 HO2 HS2 HSPE
  have KA3 := Lib.hid (KA1.out.keep HB3.out KA1.out.1)
  have HW3 := Lib.hid (HW1.out.trans (HB3.out.mono HW1.out.size))
  have HWS3 : Hid (w.heap.size + 1 ≤ w3.heap.size) := KA3.out.1
  clear KA1 HW1 HB3 HB2
  obtain ⟨_, a0, a1⟩ := KA3.out
  -- the program's argument, a copy
  go_wp2_with fail
  refine (HTO.out _ HW3.out).mono ?_
  rintro e w4 ⟨f4, rfl, hs4, hO4, _, hB4⟩
  have HLN4 := Lib.hid (HLN.out.of_say hs4)
  have HA4 := Lib.hid hs4; clear hs4
  have HI4 : Hid (∀ b, ItsF f4 b → w3.heap.size ≤ b ∧ b < w4.heap.size) := fun b hb => hO4.its hb
  have HS4 := Lib.hid hB4.size
  clear a0 a1
  go_wp2_with fail
  have hBX : Below w4.heap.size w4 (w4.alloc (.cells #[.slice f4.a f4.ns.length f4.c, .slice f4.b f4.es.length f4.d] 33)) := by go_grown
  have B4 := BoxF.new w4 f4 33
  generalize (w4.alloc (.cells #[.slice f4.a f4.ns.length f4.c, .slice f4.b f4.es.length f4.d] 33)) = X at hBX B4 ⊢
  have HOX := Lib.hid (hO4.below hBX (Nat.le_refl _)); clear hO4
  have HSX := Lib.hid hBX.size
  have HBX := Lib.hid (hB4.trans (hBX.mono hB4.size)); clear hBX hB4
  have HB4 := Lib.hid B4; clear B4
  have HWX := Lib.hid (HW3.out.trans (HBX.out.mono HW3.out.size))
  have HO3X := Lib.hid (HO3.out.below HBX.out (Nat.le_refl _))
  have KAX := Lib.hid (KA3.out.keep HBX.out KA3.out.1)
  clear HO3 KA3 HW3
  -- the program's answer
  refine (HIMP.out _ _ _ HOX.out HA4.out HWX.out).mono ?_
  rintro e w5 ⟨A5, c5, rfl, hO5, hB5⟩
  have KX5 := Lib.hid (HB4.out.keep hB5 HB4.out.1)
  have KA5 := Lib.hid (KAX.out.keep hB5 KAX.out.1)
  have HO4 := Lib.hid (HOX.out.below hB5 (Nat.le_refl _))
  have HO3 := Lib.hid (HO3X.out.below hB5 (Nat.le_refl _))
  have HW5 := Lib.hid (HWX.out.trans (hB5.mono HWX.out.size))
  have HI5 : Hid (∀ b, Its A5 ys b → w4.heap.size ≤ b) := fun b hb => by have := (hO5.its hb).1; have := HSX.out; omega
  have HO5 := Lib.hid hO5; clear hO5
  clear hB5 HOX HB4 HWX KAX HO3X
  -- they say the same
  go_wp2_with fail
  refine (HEI.out _ _ _ _ _ _ _ HO5.out HO3.out).mono ?_
  rintro e w6 ⟨rfl, hB6⟩
  have hok : (ok != ok) = false := by simp
  have KX := Lib.hid (KX5.out.keep hB6 KX5.out.1)
  have KA := Lib.hid (KA5.out.keep hB6 KA5.out.1)
  have HO46 := Lib.hid (HO4.out.below hB6 (Nat.le_refl _))
  have HO36 := Lib.hid (HO3.out.below hB6 (Nat.le_refl _))
  have HO56 := Lib.hid (HO5.out.below hB6 (Nat.le_refl _))
  have HW6 := Lib.hid (HW5.out.trans (hB6.mono HW5.out.size))
  clear hB6 KX5 KA5 HO4 HO3 HO5 HW5
  obtain ⟨_, x0, x1⟩ := KX.out
  obtain ⟨_, a0, a1⟩ := KA.out
  have HT6 : Hid (∀ v, Below w6.heap.size w6 v → Calls Tryd.prog 9 #[(.agg #[.slice f.a f.ns.length f.c, .slice f.b f.es.length f.d])] v (GaveF v f.say)) := fun v hv => HTO.out v (HW6.out.trans (hv.mono HW6.out.size))
  have HEQ7 : Hid (∀ g v, Below w6.heap.size w6 v → ReadF v v.heap.size g → g.say = f.say → Calls Tryd.prog 12 #[(.agg #[.slice f4.a f4.ns.length f4.c, .slice f4.b f4.es.length f4.d]), (.agg #[.slice g.a g.ns.length g.c, .slice g.b g.es.length g.d])] v fun e v' => e = .returned (.bool true) ∧ Below v.heap.size v v') := fun g v hv h1 h2 =>
    eqForest_same f4 g v ((HO46.out.read.keep hv).more hv.size) h1 HLN4.out (HA4.out.trans h2.symm)
  go_wp2_with fail
  go_region_held3 (fun w' => w'.cell? ⟨w4.heap.size, 0, none⟩ = some (.slice f4.a f4.ns.length f4.c) ∧ w'.cell? ⟨w4.heap.size, 1, none⟩ = some (.slice f4.b f4.es.length f4.d) ∧ w'.cell? ⟨w.heap.size, 0, none⟩ = some (.slice f.a f.ns.length f.c) ∧ w'.cell? ⟨w.heap.size, 1, none⟩ = some (.slice f.b f.es.length f.d))
    (first | exact ⟨v0, v1, v2, v3⟩ | exact ⟨y0, y1, y2, y3⟩ | exact ⟨x0, x1, a0, a1⟩)
    (first
    | (go_at_call 9
       with_reducible refine (HT6.out _ ?_).mono ?_
       · go_grown
       rintro e w7 ⟨f7, rfl, hs7, hO7, _, hB7'⟩
       have hB7 : Below w6.heap.size w6 w7 := Below.trans (by go_grown) hB7'
       obtain ⟨_, y0, y1⟩ := KX.out.keep hB7 KX.out.1
       obtain ⟨_, y2, y3⟩ := KA.out.keep hB7 KA.out.1
       have HO7 := Lib.hid hO7.read
       have HS7 := Lib.hid hs7
       have HB7 := Lib.hid hB7
       clear hO7 hs7 hB7 hB7')
    | (go_at_call 12
       with_reducible refine (HEQ7.out _ _ HB7.out HO7.out HS7.out).mono ?_
       rintro e w8 ⟨rfl, hB8'⟩
       have hB8 : Below w6.heap.size w6 w8 := HB7.out.trans (hB8'.mono HB7.out.size)
       obtain ⟨_, v0, v1⟩ := KX.out.keep hB8 KX.out.1
       obtain ⟨_, v2, v3⟩ := KA.out.keep hB8 KA.out.1
       have HB8 := Lib.hid hB8
       clear hB8 hB8'))
  rename_i hHeld
  clear hHeld x0 x1 a0 a1 y0 y1 y2 y3 HO7 HS7 HB7 HT6 HEQ7
  have HW8 := Lib.hid (HW6.out.trans (HB8.out.mono HW6.out.size))
  have HO48 := Lib.hid (HO46.out.below HB8.out (Nat.le_refl _))
  have HO38 := Lib.hid (HO36.out.below HB8.out (Nat.le_refl _))
  have HO58 := Lib.hid (HO56.out.below HB8.out (Nat.le_refl _))
  have KA8 := Lib.hid (KA.out.keep HB8.out KA.out.1)
  have HS34 : Hid (w.heap.size + 1 ≤ w3.heap.size) := HWS3.out
  clear HO46 HO36 HO56 KX KA HW6 HB8
  -- the argument is marked
  go_wp2_with fail
  refine (markForest_any _ _ _ _ HO48.out HLN4.out (by omega) (by omega)).mono ?_
  rintro e w9 ⟨rfl, _, hS9⟩
  have HB9 : Hid (Below (w.heap.size + 1) w8 w9) := hS9.below (by have := KA8.out.1; omega) fun i hi hI => by have := (HI4.out i hI).1; have := HS34.out; omega
  have HW9 := Lib.hid (HW8.out.trans (HB9.out.mono (by omega)))
  have KA9 := Lib.hid (KA8.out.keep HB9.out (by omega))
  have HO39 := Lib.hid (HO38.out.kept hS9 fun b hb hI => by have := (HI3.out b hb).2; have := (HI4.out b hI).1; omega)
  have HO59 := Lib.hid (HO58.out.kept hS9 fun b hb hI => by have := HI5.out b hb; have := (HI4.out b hI).2; omega)
  clear v0 v1 v2 v3 hS9 HO48 HO38 HO58 KA8 HW8
  have hcnt : 0 ≤ (1 : Int) + (cntF f4 : Int) := by omega
  generalize (cntF f4 : Int) = cf at hcnt ⊢
  go_wp2_with fail
  refine (HEI.out _ _ _ _ _ _ _ HO59.out HO39.out).mono ?_
  rintro e w10 ⟨rfl, hB10⟩
  have HW10 := Lib.hid (HW9.out.trans (hB10.mono HW9.out.size))
  have KA10 := Lib.hid (KA9.out.keep hB10 KA9.out.1)
  have HO310 := Lib.hid (HO39.out.below hB10 (Nat.le_refl _))
  have HO510 := Lib.hid (HO59.out.below hB10 (Nat.le_refl _))
  clear hB10 HW9 KA9 HO39 HO59 HB9
  -- the answer is marked, and found again
  go_wp2_with fail
  refine (markIntS_any _ _ _ _ _ _ HO510.out hyl (by omega) (by omega)).mono ?_
  rintro e w11 ⟨rfl, hO11, hS11⟩
  have HB11 : Hid (Below (w.heap.size + 1) w10 w11) := hS11.below (by have := KA10.out.1; omega) fun i hi hI => by have := HI5.out i hI; have := HS34.out; have := HSX.out; have := HS4.out; omega
  have HW11 := Lib.hid (HW10.out.trans (HB11.out.mono (by omega)))
  have KA11 := Lib.hid (KA10.out.keep HB11.out (by omega))
  have HO311 := Lib.hid (HO310.out.kept hS11 fun b hb hI => by have := (HI3.out b hb).2; have := HI5.out b hI; have := HS4.out; omega)
  have HO511 := Lib.hid hO11
  clear hO11 hS11 HW10 KA10 HO310 HO510 HB11
  go_wp2_with fail
  refine (heldIntS_any _ _ _ _ _ HO511.out.ints hyl (by omega) (by omega)).mono ?_
  rintro e w12 ⟨rfl, hB12⟩
  have hne : ((1 + (ys.length : Int)) != (1 + (ys.length : Int))) = false := by simp
  have HW12 := Lib.hid (HW11.out.trans (hB12.mono HW11.out.size))
  have KA12 := Lib.hid (KA11.out.keep hB12 KA11.out.1)
  have HO312 := Lib.hid (HO311.out.below hB12 (Nat.le_refl _))
  have HO512 := Lib.hid (HO511.out.below hB12 (Nat.le_refl _))
  obtain ⟨_, a0, a1⟩ := KA12.out
  clear hB12 HW11 KA11 HO311 HO511
  -- the program once more
  go_wp2_with fail
  refine (HTO.out _ HW12.out).mono ?_
  rintro e w13 ⟨f13, rfl, hs13, hO13, _, hB13⟩
  have HA13 := Lib.hid hs13; clear hs13
  have HO13 := Lib.hid hO13; clear hO13
  have HB13 := Lib.hid hB13; clear hB13
  have HW13 := Lib.hid (HW12.out.trans (HB13.out.mono HW12.out.size))
  clear a0 a1
  go_wp2_with fail
  refine (HIMP.out _ _ _ HO13.out HA13.out HW13.out).mono ?_
  rintro e w14 ⟨A14, c14, rfl, hO14, hB14⟩
  have HB14 := Lib.hid (HB13.out.trans (hB14.mono HB13.out.size)); clear hB14
  have HO14 := Lib.hid hO14; clear hO14
  have HO314 := Lib.hid (HO312.out.below HB14.out (Nat.le_refl _))
  have HO514 := Lib.hid (HO512.out.below HB14.out (Nat.le_refl _))
  have HW14 := Lib.hid (HW12.out.trans (HB14.out.mono HW12.out.size))
  go_wp2_with fail
  refine (HEI.out _ _ _ _ _ _ _ HO14.out HO314.out).mono ?_
  rintro e w15 ⟨rfl, hB15⟩
  have HO515 := Lib.hid (HO514.out.below hB15 (Nat.le_refl _))
  have HW15 := Lib.hid (HW14.out.trans (hB15.mono HW14.out.size))
  clear hB15
  go_wp2_with fail
  refine (heldIntS_any _ _ _ _ _ HO515.out.ints hyl (by omega) (by omega)).mono ?_
  rintro e w16 ⟨rfl, hB16⟩
  have HW16 := Lib.hid (HW15.out.trans (hB16.mono HW15.out.size))
  clear hB16
  go_wp2
  go_ret
  exact ⟨rfl, HW16.out⟩

end Go.Proofs.YtbgjlabjihoaaaaDoor

/- The law of EdgesOf holds of every forest and number: the call returns true, and what was handed in reads afterwards as it read before. Conditions: the package's table of limits is as the program's text lays it (tied by the given tie). -/

namespace Go.Proofs.YtbgjlabjihoaaaaDoor
open Go.ChangeShapes Go.WideShapes Go.ChangeAt Go.RowKit

set_option maxRecDepth 100000 in
theorem edgesOf_lifted (os : Os) (started : os.Started) (H : Type) (enc : TypeId × Value → H) :
    ReturnsInHanded {} Tryd.checked os 3 .any (fun w args => (Rows.fnExactEdgesOfSpec.pre enc Tryd.prog Tryd.f3 [] false w args ∧ laidMetH Tryd.prog laid1 w) ∧ sizedMet enc Tryd.prog Tryd.f3 (OpenSpec.ofChange Rows.fnExactEdgesOfSpec) false w args)
      (Rows.fnExactEdgesOfSpec.post enc Tryd.prog Tryd.f3 false true false false) := by
  refine returnsInHanded_of_change_and (C := Tryd.checked) (X := fun w _ => laidMetH Tryd.prog laid1 w) (fun _ _ _ hh h => h.of_heap hh) Tryd.own started (by kernel_rfl) Tryd.func3
    (ChangeSpec.witness_shaped (enc := enc) (C := Tryd.checked) (os := os) (X := fun w _ => laidMetH Tryd.prog laid1 w) false (World.doorLaid Tryd.prog 400 os) #[.agg #[.slice none 0 0, .slice none 0 0], .int .i64 0] 8 rfl (World.shaped_of_RefB (by kernel_rfl) (by kernel_rfl)) (by kernel_rfl) (by kernel_rfl) (by kernel_rfl) (door_met os _)) ?_
  intro W base args ds gs before hval0 hW _ _ hL _
  have hval : ∀ (j : Nat) t v, Tryd.f3.params[j]? = some t → args[j]? = some v → Value.okWide Tryd.prog W .any base t v := hval0
  have hW' := hW
  obtain ⟨p, q, hA0, hV0, rfl, hfz, hnd⟩ := hW
  have hA : DataW.TrodAll enc Tryd.prog W 0 (fun _ => true) true Tryd.f3.params.toList args.toList ds p := hA0
  have hV : DataW.TrodVars enc Tryd.prog W (fun _ => true) ["loop.example/g00758/impl.limits"] gs q := hV0
  rw [Tryd.params3] at hA hval
  obtain ⟨v0, v1, d0, d1, p0, p1, rfl, rfl, rfl, h0, h1⟩ := trodAll_two hA
  obtain ⟨g, tg, cs, fuel, dg, pg, rfl, _⟩ := trodVars_one hV
  obtain ⟨f0, rfl, _, hR0, hM0, hF0⟩ := open_forest (hval 0 25 v0 rfl rfl) h0
  obtain ⟨x1, rfl, rfl, rfl, w1⟩ := open_int Tryd.underlying3 (hval 1 3 v1 rfl rfl) h1
  refine (law_EdgesOf f0 x1 W hR0 hM0 hF0 (bounds_i64 w1) (lims_of_laid hL)).mono fun e W' ⟨he, hb⟩ => ?_
  subst he
  exact ⟨_, rfl, ends_two hW' Tryd.params3 rfl rfl (by kernel_rfl) (of_decide_eq_true (by kernel_rfl)) (by kernel_rfl) (of_decide_eq_true (by kernel_rfl)) (by kernel_rfl) hb⟩

theorem edgesOf_holds : Rows.FnExactEdgesOfSaid :=
  OpenClaim.holds_of_wide 3 Tryd.f3 rfl rfl rfl rfl rfl rfl rfl ⟨rfl, rfl, rfl, rfl, rfl⟩ rfl rfl rfl rfl rfl (by kernel_rfl) Tryd.func3 (by kernel_rfl)
    (of_decide_eq_true (by kernel_rfl)) (by unfold Func.isWrapper; first | (rw [if_pos (by decide +kernel)]; kernel_rfl) | (rw [if_neg (by decide +kernel)]; exact ⟨rfl, rfl⟩))
    (fun os started H enc _ => edgesOf_lifted os started H enc)

theorem edgesOf_card : Rows.FnExactEdgesOfCardSaid :=
  Claim7.holds_tied_plain_at .later [] [.data] true (true, "0708bc447225853a1ae87032d251b7168e6f47bb1f3e94d606ee5a28467e1d1b") false
    edgesOf_holds (fun _ h => by cases h) (by kernel_rfl) (fun _ h => by cases h) fnExactEdgesOf_row_tie rfl ⟨rfl, rfl⟩ (by kernel_rfl) rfl
    (fun f fn hf hfn => by
      obtain rfl : f = 3 := Option.some.inj ((show Tryd.prog.funcNamed "loop.example/g00758/laws.FnExactEdgesOf" = some 3 by kernel_rfl).symm.trans hf) |>.symm
      obtain rfl : fn = Tryd.f3 := (Option.some.inj (Tryd.func3.symm.trans hfn)).symm
      exact ⟨by kernel_rfl, fun j t ht => by
        rw [Tryd.params3] at ht
        have hm : t ∈ [25, 3] := by simpa using Array.mem_of_getElem? ht
        have hall : ([25, 3].all fun u => !Tryd.prog.wantsStandIn u) = true := by kernel_rfl
        exact (show Tryd.prog.wantsStandIn t = false by simpa using List.all_eq_true.1 hall t hm)⟩)
    (by kernel_rfl)

#print axioms edgesOf_card
end Go.Proofs.YtbgjlabjihoaaaaDoor
