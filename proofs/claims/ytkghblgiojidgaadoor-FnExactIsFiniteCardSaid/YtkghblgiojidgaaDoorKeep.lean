/- The program's keepRules. -/
import Derived.Test.YtkghblgiojidgaaDoorSets
import Derived.Test.YtkghblgiojidgaaDoorRowR
namespace Go.Proofs.YtkghblgiojidgaaDoor
open Go.RowKit

/-- What a call of 'keep' tells, in every world in which E holds. -/
def KeepOK (p : Ru → Bool) (rs : List Ru) (E : World → Prop) (fid : Nat) (caps : Array Value) : Prop :=
  ∀ (v : World) (u : Ru), E v → Ints v v.heap.size u.a u.r → u ∈ rs →
    Calls Tryd.prog fid (#[.agg #[.int .i64 u.l, .slice u.a u.r.length u.c]] ++ caps) v fun e v' => e = .returned (.bool (p u)) ∧ Below v.heap.size v v'

/-- Rules that can be read; their right sides lie where they lay. -/
def GaveRs (w : World) (ks : List Ru) (e : Ending) (w' : World) : Prop :=
  ∃ A c, e = .returned (.slice A ks.length c) ∧ ks.length ≤ c ∧ Rls w' w'.heap.size A ks ∧ Below w.heap.size w w'

theorem rls_of_row {w : World} {lo : Nat} {v : Value} {ds : List Ru} (h : w.ownsRow lo 61 2 v ds.length (ds.flatMap cellsU)) (hI : ∀ u ∈ ds, Ints w w.heap.size u.a u.r) : ∃ A c, v = .slice A ds.length c ∧ ds.length ≤ c ∧ Rls w w.heap.size A ds := by
  obtain ⟨_, ⟨rfl, h0⟩ | ⟨g, cap, cur, rfl, hlo, hg, hcap, _, _, hx⟩⟩ := h
  · have : ds = [] := List.eq_nil_of_length_eq_zero h0
    subst this
    exact ⟨none, 0, rfl, Nat.le_refl _, fun h => by simp at h⟩
  · refine ⟨_, cap, rfl, hcap, fun _ => ⟨g, 0, rfl, (Array.getElem?_eq_some_iff.1 hg).1, fun k u hu => ?_⟩⟩
    have hk := (List.getElem?_eq_some_iff.1 hu).1
    obtain ⟨f1, f2⟩ := flat_get hu
    rw [← hx] at f1 f2
    rw [List.getElem?_take, if_pos (by omega)] at f1 f2
    have hr : Row w g 61 cur := hg
    exact ⟨by rw [hr.cell, Nat.zero_add]; simpa using f1, by rw [hr.cell, Nat.zero_add]; simpa using f2, hI u (List.mem_of_getElem? hu)⟩

theorem filter_yes {p : Ru → Bool} {rs : List Ru} {k : Nat} (hk : k < rs.length) (h : p rs[k] = true) : (rs.take (k + 1)).filter p = (rs.take k).filter p ++ [rs[k]] := by
  rw [List.take_succ_eq_append_getElem hk, List.filter_append]
  simp [h]
theorem filter_no {p : Ru → Bool} {rs : List Ru} {k : Nat} (hk : k < rs.length) (h : p rs[k] = false) : (rs.take (k + 1)).filter p = (rs.take k).filter p := by
  rw [List.take_succ_eq_append_getElem hk, List.filter_append]
  simp [h]
theorem filter_len (p : Ru → Bool) (rs : List Ru) (k : Nat) : ((rs.take k).filter p).length ≤ rs.length := by
  have h1 := List.length_filter_le p (rs.take k)
  have h2 := List.length_take_le k rs
  have h3 : (rs.take k).length ≤ rs.length := by rw [List.length_take]; omega
  omega

set_option maxRecDepth 20000 in
set_option maxHeartbeats 1000000 in
theorem keepRules_any (p : Ru → Bool) (A : Option Addr) (c : Nat) (rs : List Ru) (fid : Nat) (caps : Array Value) (E : World → Prop) (w : World) (hx : Rls w w.heap.size A rs) (h16 : rs.length ≤ 16)
    (hcf : ∀ (xs : Array Value) (v : World), Sem.run Tryd.prog (callFunc fid xs) v = .ok (.enter fid xs) v) (hE : E w) (hk : ∀ v v', E v → Below w.heap.size v v' → E v') (hF : KeepOK p rs E fid caps) :
    Calls Tryd.prog 92 #[.slice A rs.length c, .func (.func fid) #[] caps] w (GaveRs w (rs.filter p)) := by
  obtain ⟨i0, hi0, hz0, hz1, hz2⟩ := info_of Tryd.infoRule
  have HX := Lib.hid hx; clear hx
  have HE := Lib.hid hE; clear hE
  have HK := Lib.hid hk; clear hk
  have HF := Lib.hid hF; clear hF
  go_enter Tryd.func92, Tryd.ntmps92
  go_wp2
  go_loopw [5, 10] (fun v i wr => ∃ (k : Nat), k ≤ rs.length ∧ i = .int .i64 k ∧ Hid (wr.ownsRow w.heap.size 61 2 v ((rs.take k).filter p).length (((rs.take k).filter p).flatMap cellsU)) ∧ Hid (Below w.heap.size w wr)) (fun _ i _ => rs.length - (intOf i).toNat)
  case atStart => exact ⟨0, by omega, rfl, ⟨by simp, .inl ⟨rfl, by simp⟩⟩, Below.refl _ _⟩
  case round =>
    obtain ⟨k, hk, rfl, HO, HB⟩ := hrel
    by_cases hlt : k < rs.length
    · obtain ⟨q, o, hA, hq, c1, c2, c3⟩ := ((HX.out.keep HB.out).more HB.out.size).at_ hlt
      have HBR : Hid (Below wr.heap.size wr (wr.alloc (.cells #[.int .i64 rs[k].l, .slice rs[k].a rs[k].r.length rs[k].c] 61))) := (Below.refl _ _).alloc (Nat.le_refl _) _
      have BXR : Hid (Box2 (wr.alloc (.cells #[.int .i64 rs[k].l, .slice rs[k].a rs[k].r.length rs[k].c] 61)) wr.heap.size (.int .i64 rs[k].l) (.slice rs[k].a rs[k].r.length rs[k].c)) := ⟨by simp, by simp [go_sem], by simp [go_sem]⟩
      have HBW : Hid (Below w.heap.size w (wr.alloc (.cells #[.int .i64 rs[k].l, .slice rs[k].a rs[k].r.length rs[k].c] 61))) := HB.out.trans (HBR.out.mono HB.out.size)
      have HC := Lib.hid (HF.out _ rs[k] (HK.out _ _ HE.out HBW.out) ((c3.keep HBR.out).more HBR.out.size) (List.getElem_mem hlt))
      have HOW := Lib.hid (own_below HO.out HBR.out)
      have hfl := filter_len p rs k
      have hws : w.heap.size ≤ wr.heap.size := HB.out.size
      clear c3
      rw [hA]
      cases hp : p rs[k]
      · rw [hp] at HC
        have HP := Lib.hid (filter_no hlt hp); clear hp
        go_wp2_with fail
        refine HC.out.mono ?_
        rintro e w1 ⟨rfl, hB1⟩
        have HB1 : Hid (Below w.heap.size w w1) := HBW.out.trans (hB1.mono HBW.out.size)
        have HO1 := Lib.hid (own_below HOW.out hB1)
        clear hB1
        go_wp2
        go_roundw
        case rel => exact ⟨k + 1, by omega, by go_num, by show World.ownsRow _ _ _ _ _ _ _; rw [HP.out]; exact HO1.out, HB1.out⟩
        case measure => simp [intOf]; omega
      · rw [hp] at HC
        have HP := Lib.hid (filter_yes hlt hp); clear hp
        go_wp2_with fail
        refine HC.out.mono ?_
        rintro e w1 ⟨rfl, hB1⟩
        have HB1 : Hid (Below w.heap.size w w1) := HBW.out.trans (hB1.mono HBW.out.size)
        have HO1 := Lib.hid ((own_below HOW.out hB1).alloc (.cells #[.int .i64 rs[k].l, .slice rs[k].a rs[k].r.length rs[k].c] 61))
        have HN1 := Lib.hid (two_new w1 (.int .i64 rs[k].l) (.slice rs[k].a rs[k].r.length rs[k].c) 61)
        obtain ⟨_, b0, b1⟩ := BXR.out.keep hB1 (by simp)
        have hw1 : w.heap.size ≤ w1.heap.size := HB1.out.size
        clear hB1 c1 c2
        go_wp2_with (at_builtin
                     refine wpList_append_own _ rfl _ _ _ rfl w.heap.size 61 i0 _ 2 32 Tryd.underlying28 hi0 hz0 hz1 hz2 rfl (by omega) _ _ _ rfl HO1.out ⟨w1.heap.size, 0, none⟩ 1 1 [.int .i64 rs[k].l, .slice rs[k].a rs[k].r.length rs[k].c] rfl rfl HN1.out (by simp [Value.oneCell']) (by unfold maxLen; omega) (by omega) (by simp; omega) ?_
                     intro v' w' h1 h2 h3
                     have HO2 := Lib.hid h1
                     have HB2 : Hid (Below w.heap.size w w') := (HB1.out.alloc HB1.out.size _).grown h2 (by simp; omega) fun j hj => (HO1.out.lt j hj).1
                     clear h1 h2 h3)
        go_roundw
        case rel =>
          refine ⟨k + 1, by omega, by go_num, ?_, HB2.out⟩
          show World.ownsRow _ _ _ _ _ _ _
          rw [HP.out, List.length_append, List.flatMap_append]
          simpa [cellsU] using HO2.out
        case measure => simp [intOf]; omega
    · obtain rfl : k = rs.length := by omega
      have hO := HO.out
      rw [List.take_length] at hO
      obtain ⟨A', c', hv, hc', hR⟩ := rls_of_row hO fun u hu => by
        obtain ⟨j, hj⟩ := List.mem_iff_getElem?.1 (List.mem_filter.1 hu).1
        have hjl := (List.getElem?_eq_some_iff.1 hj).1
        obtain ⟨_, _, _, _, _, _, h⟩ := ((HX.out.keep HB.out).more HB.out.size).at_ hjl
        have e2 : rs[j] = u := Option.some.inj ((List.getElem?_eq_getElem hjl).symm.trans hj)
        rw [e2] at h
        exact h
      subst hv
      have HR := Lib.hid hR; clear hR hO
      go_wp2
      go_ret
      exact ⟨A', c', rfl, hc', HR.out, HB.out⟩

end Go.Proofs.YtkghblgiojidgaaDoor
