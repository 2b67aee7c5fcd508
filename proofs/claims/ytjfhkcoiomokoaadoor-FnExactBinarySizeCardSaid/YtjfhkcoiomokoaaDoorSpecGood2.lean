/- What the reference's GoodGrammar answers. -/
import Derived.Test.YtjfhkcoiomokoaaDoorSpecGood
namespace Go.Proofs.YtjfhkcoiomokoaaDoor
open Go.RowKit

theorem has_take {rs : List Ru} {k : Nat} (i : Nat) (h : i < k) : (rs.take k)[i]? = rs[i]? := by
  rw [List.getElem?_take, if_pos h]

theorem dup_step {rs : List Ru} {k i : Nat} (hk : k < rs.length) (hi : i < k) (h : eqU rs[k].abs (rs[i]'(by omega)).abs = false) (H : ∀ j : Nat, j < i → ((rs.take k).map Ru.abs)[j]? ≠ some rs[k].abs) :
    ∀ j : Nat, j < i + 1 → ((rs.take k).map Ru.abs)[j]? ≠ some rs[k].abs := by
  intro j hj
  by_cases e : j = i
  · subst e
    rw [List.getElem?_map, has_take j hi, List.getElem?_eq_getElem (by omega)]
    intro h'
    rw [eqU_t (by simpa using h'.symm)] at h
    cases h
  · exact H j (by omega)
theorem dup_t {rs : List Ru} {k i : Nat} (hk : k < rs.length) (hi : i < k) (h : eqU rs[k].abs (rs[i]'(by omega)).abs = true) : hasU ((rs.take k).map Ru.abs) rs[k].abs = true :=
  decide_eq_true (by
    rw [of_decide_eq_true h]
    exact List.mem_map.2 ⟨_, List.mem_iff_getElem?.2 ⟨i, by rw [has_take i hi, List.getElem?_eq_getElem]⟩, rfl⟩)
theorem dup_f {rs : List Ru} {k i : Nat} (hk : k < rs.length) (hi : ¬ i < k) (H : ∀ j : Nat, j < i → ((rs.take k).map Ru.abs)[j]? ≠ some rs[k].abs) : hasU ((rs.take k).map Ru.abs) rs[k].abs = false :=
  decide_eq_false fun h => by
    obtain ⟨j, hj⟩ := List.mem_iff_getElem?.1 h
    have := (List.getElem?_eq_some_iff.1 hj).1
    simp at this
    exact H j (by omega) hj

set_option maxHeartbeats 1000000 in
theorem specGood_any (n t : Int) (A : Option Addr) (c : Nat) (rs : List Ru) (w : World) (hx : Rls w w.heap.size A rs) (hc : rs.length ≤ c) (h1 : rs.length ≤ 1048576) (h2 : ∀ u ∈ rs, u.r.length ≤ 1048576) :
    Calls Tryd.prog 53 #[.agg #[.int .i64 n, .int .i64 t, .slice A rs.length c]] w fun e w' => e = .returned (.bool (goodG n t (rs.map Ru.abs))) ∧ Below w.heap.size w w' := by
  have HX := Lib.hid hx; clear hx
  have H2 := Lib.hid h2; clear h2
  cases hn : inB 1 6 n
  · have HE : Hid (goodG n t (rs.map Ru.abs) = false) := goodG_n (inB_not hn)
    have HN := Lib.hid hn; clear hn
    go_enter Tryd.func53, Tryd.ntmps53
    go_wp2_with fail
    refine (l1In_any _ _ _ _).mono ?_
    rintro e w1 ⟨rfl, rfl⟩
    rw [HN.out]
    go_wp2
    go_ret
    exact ⟨ret_bool HE.out.symm, by go_grown⟩
  have HN := Lib.hid hn; clear hn
  cases ht : inB 1 4 t
  · have HE : Hid (goodG n t (rs.map Ru.abs) = false) := goodG_t (inB_not ht)
    have HT := Lib.hid ht; clear ht
    go_enter Tryd.func53, Tryd.ntmps53
    go_wp2_with fail
    refine (l1In_any _ _ _ _).mono ?_
    rintro e w1 ⟨rfl, rfl⟩
    rw [HN.out]
    go_wp2_with fail
    refine (l1In_any _ _ _ _).mono ?_
    rintro e w1 ⟨rfl, rfl⟩
    rw [HT.out]
    go_wp2
    go_ret
    exact ⟨ret_bool HE.out.symm, by go_grown⟩
  have HT := Lib.hid ht; clear ht
  by_cases hl : rs.length ≤ 16
  case neg =>
    have HE : Hid (goodG n t (rs.map Ru.abs) = false) := goodG_len (by simpa using hl)
    have hl' : ((16 : Int) < (rs.length : Int)) := by omega
    clear hl
    go_enter Tryd.func53, Tryd.ntmps53
    go_wp2_with fail
    refine (l1In_any _ _ _ _).mono ?_
    rintro e w1 ⟨rfl, rfl⟩
    rw [HN.out]
    go_wp2_with fail
    refine (l1In_any _ _ _ _).mono ?_
    rintro e w1 ⟨rfl, rfl⟩
    rw [HT.out]
    go_wp2
    go_ret
    exact ⟨ret_bool HE.out.symm, by go_grown⟩
  have HA : Hid (goodG n t (rs.map Ru.abs) = goodAll n t (rs.map Ru.abs)) := goodG_all (inB_and HN.out) (inB_and HT.out) (by simpa using hl)
  have n1 := inB_lo HN.out
  have n2 := inB_hi HN.out
  have t1 := inB_lo HT.out
  have t2 := inB_hi HT.out
  go_enter Tryd.func53, Tryd.ntmps53
  go_wp2_with fail
  refine (l1In_any _ _ _ _).mono ?_
  rintro e w1 ⟨rfl, rfl⟩
  rw [HN.out]
  go_wp2_with fail
  refine (l1In_any _ _ _ _).mono ?_
  rintro e w1 ⟨rfl, rfl⟩
  rw [HT.out]
  go_wp2
  go_loopw [28] (fun i wr => ∃ (k : Nat), k ≤ rs.length ∧ i = .int .i64 k ∧ Below w.heap.size w wr ∧ Box3 wr w.heap.size (.int .i64 n) (.int .i64 t) (.slice A rs.length c) ∧ Hid (goodTo n t (rs.map Ru.abs) k)) (fun i _ => rs.length - (intOf i).toNat)
  case atStart => exact ⟨0, by omega, rfl, by go_grown, ⟨by simp, by simp [go_sem], by simp [go_sem], by simp [go_sem]⟩, fun j x h => absurd h (by omega)⟩
  case round =>
    obtain ⟨k, hk, rfl, hB, hbox, H⟩ := hrel
    by_cases hlt : k < rs.length
    case neg =>
      have HE : Hid (goodG n t (rs.map Ru.abs) = true) := HA.out.trans (goodAll_of (k := k) (by simpa using hlt) H.out)
      clear hbox
      go_wp2
      go_ret
      exact ⟨ret_bool HE.out.symm, hB⟩
    obtain ⟨b, o, rfl, hb, c1, c2, c3⟩ := (HX.out.keep hB).at_ hlt
    obtain ⟨g0, g1, g2, g3⟩ := id hbox
    have HBX := Lib.hid hbox; clear hbox
    have C3 := Lib.hid (c3.more hB.size); clear c3
    have hlen2 := H2.out rs[k] (List.getElem_mem hlt)
    go_wp2_with fail
    refine (l1In_any _ _ _ _).mono ?_
    rintro e w1 ⟨rfl, rfl⟩
    rw [non_in]
    cases hq : nonB n rs[k].l
    · have HE : Hid (goodG n t (rs.map Ru.abs) = false) := HA.out.trans (goodAll_bad (k := k) (by simpa using hlt) (.inl (by simpa [Ru.abs] using goodU_left hq)))
      have HQ := Lib.hid hq; clear hq
      go_wp2
      go_ret
      exact ⟨ret_bool HE.out.symm, hB.trans (Below.mono (B := wr.heap.size) (by go_grown) hB.size)⟩
    have HQ := Lib.hid hq; clear hq
    by_cases hl4 : rs[k].r.length ≤ 4
    case neg =>
      have HE : Hid (goodG n t (rs.map Ru.abs) = false) := HA.out.trans (goodAll_bad (k := k) (by simpa using hlt) (.inl (by simpa [Ru.abs] using goodU_long (n := n) (t := t) (l := rs[k].l) hl4)))
      have hl4' : ((4 : Int) < (rs[k].r.length : Int)) := by omega
      clear hl4
      go_wp2
      go_ret
      exact ⟨ret_bool HE.out.symm, hB.trans (Below.mono (B := wr.heap.size) (by go_grown) hB.size)⟩
    have HS : Hid (goodU n t rs[k].abs = symsB n t rs[k].r) := goodU_syms HQ.out hl4
    have hBA : Below wr.heap.size wr (wr.alloc (.cells #[.int .i64 rs[k].l, .slice rs[k].a rs[k].r.length rs[k].c] 83)) := by go_grown
    have BU : Box2 (wr.alloc (.cells #[.int .i64 rs[k].l, .slice rs[k].a rs[k].r.length rs[k].c] 83)) wr.heap.size (.int .i64 rs[k].l) (.slice rs[k].a rs[k].r.length rs[k].c) := ⟨by simp, by simp [go_sem], by simp [go_sem]⟩
    generalize (wr.alloc (.cells #[.int .i64 rs[k].l, .slice rs[k].a rs[k].r.length rs[k].c] 83)) = W at hBA BU ⊢
    have HBX2 := Lib.hid (HBX.out.keep hBA g0)
    have C3' := Lib.hid ((C3.out.keep hBA).more hBA.size)
    have HBW := Lib.hid (hB.trans (hBA.mono hB.size))
    obtain ⟨y0, y1, y2⟩ := id BU
    have HBU := Lib.hid BU; clear BU
    clear c1 c2 g1 g2 g3 hBA C3 HBX
    go_wp2
    go_loopw [49] (fun i wr1 => ∃ (j : Nat), j ≤ rs[k].r.length ∧ i = .int .i64 j ∧ Below W.heap.size W wr1 ∧ Hid (∀ (m : Nat) (x : Int), m < j → rs[k].r[m]? = some x → symB n t x = true)) (fun i _ => rs[k].r.length - (intOf i).toNat)
    case atStart => exact ⟨0, by omega, rfl, Below.refl _ _, fun j x h => absurd h (by omega)⟩
    case round =>
      obtain ⟨j, hj, rfl, hB1, H1⟩ := hrel
      have HB1 := Lib.hid hB1; clear hB1
      obtain ⟨_, z0, z1, z2⟩ := HBX2.out.keep HB1.out HBX2.out.1
      clear y1 y2
      by_cases hjl : j < rs[k].r.length
      · obtain ⟨b', o', ha, hb', c1⟩ := (C3'.out.keep HB1.out).at_ hjl
        have HA' := Lib.hid ha; clear ha
        cases hs : symB n t rs[k].r[j]
        all_goals
          have HSY := Lib.hid hs; clear hs
          rw [HA'.out]
          go_wp2_with fail
          refine (l1Symbol_any _ _ _ _ _ n1 n2 t1 t2).mono ?_
          rintro e w3 ⟨rfl, hB3⟩
          rw [HSY.out]
          have HB4 := Lib.hid (HB1.out.trans (hB3.mono HB1.out.size)); clear hB3
          clear z0 z1 z2 c1
        · have HE : Hid (goodG n t (rs.map Ru.abs) = false) := HA.out.trans (goodAll_bad (k := k) (by simpa using hlt) (.inl (by simpa using HS.out.trans (symsB_not hjl HSY.out))))
          go_wp2
          go_ret
          exact ⟨ret_bool HE.out.symm, HBW.out.trans (HB4.out.mono HBW.out.size)⟩
        · go_wp2
          go_roundw
          case rel => exact ⟨j + 1, by omega, by go_num, HB4.out, syms_step hjl HSY.out H1.out⟩
          case measure => simp [intOf]; omega
      · have HG : Hid (goodU n t rs[k].abs = true) := HS.out.trans (symsB_of hjl H1.out)
        have HRW := Lib.hid (((HX.out.keep HBW.out).more HBW.out.size).keep HB1.out)
        obtain ⟨_, v0, v1⟩ := HBU.out.keep HB1.out HBU.out.1
        go_wp2
        go_loopw [63] (fun i wr2 => ∃ (j : Nat), j ≤ k ∧ i = .int .i64 j ∧ Below W.heap.size W wr2 ∧ Hid (∀ m : Nat, m < j → ((rs.take k).map Ru.abs)[m]? ≠ some rs[k].abs)) (fun i _ => k - (intOf i).toNat)
        case atStart => exact ⟨0, by omega, rfl, HB1.out, fun j h => absurd h (by omega)⟩
        case round =>
          clear v0 v1 z0 z1 z2 HB1 HRW
          obtain ⟨i, hi, rfl, hB2, H3⟩ := hrel
          have HB2 := Lib.hid hB2; clear hB2
          by_cases hik : i < k
          · have hil : i < rs.length := by omega
            obtain ⟨v0, v1, v2⟩ := HBU.out.keep HB2.out HBU.out.1
            have hRW := ((HX.out.keep HBW.out).more HBW.out.size).keep HB2.out
            obtain ⟨b', o', ha, hb', d1, d2, d3⟩ := hRW.at_ hil
            injection ha with ha
            injection ha with ha1 ha2
            subst ha1 ha2
            have HD3 := Lib.hid (d3.more HB2.out.size); clear d3
            have HC3 := Lib.hid ((C3'.out.keep HB2.out).more HB2.out.size)
            clear hRW
            cases hq : eqU rs[k].abs rs[i].abs
            all_goals
              have HQ2 := Lib.hid hq; clear hq
              go_wp2_with fail
              refine (l1SameRule_any _ _ _ _ _ _ _ _ _ ?_ ?_ hlen2).mono ?_
              · exact (HC3.out.keep (by go_grown)).more (by go_size)
              · exact (HD3.out.keep (by go_grown)).more (by go_size)
              rintro e w3 ⟨rfl, hB3⟩
              have HB4 : Hid (Below W.heap.size W w3) := HB2.out.trans (Below.trans (Below.mono (B := wr.heap.size) (by go_grown) HB2.out.size) (hB3.mono (by have := HB2.out.size; simp; omega)))
              clear hB3
              rw [show eqU (rs[k].l, rs[k].r) (rs[i].l, rs[i].r) = _ from HQ2.out]
            · go_wp2
              go_roundw
              case rel => exact ⟨i + 1, by omega, by go_num, HB4.out, dup_step hlt hik HQ2.out H3.out⟩
              case measure => simp [intOf]; omega
            · have HE : Hid (goodG n t (rs.map Ru.abs) = false) := HA.out.trans (goodAll_bad (k := k) (by simpa using hlt) (.inr (by rw [← List.map_take]; simpa using dup_t hlt hik HQ2.out)))
              go_wp2
              go_ret
              exact ⟨ret_bool HE.out.symm, HBW.out.trans (HB4.out.mono HBW.out.size)⟩
          · go_wp2
            go_roundw
            case rel => exact ⟨k + 1, by omega, by go_num, HBW.out.trans (HB2.out.mono HBW.out.size), HBX2.out.keep HB2.out HBX2.out.1, goodTo_step (by simpa using hlt) (by simpa using HG.out) (by rw [← List.map_take]; simpa using dup_f hlt hik H3.out) H.out⟩
            case measure => simp [intOf]; omega

end Go.Proofs.YtjfhkcoiomokoaaDoor
