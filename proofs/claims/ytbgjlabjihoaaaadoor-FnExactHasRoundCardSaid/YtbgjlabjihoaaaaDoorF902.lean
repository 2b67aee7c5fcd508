/- What the reference's checks of chapter 1 answer. -/
import Derived.Test.YtbgjlabjihoaaaaDoorF901
import Derived.Test.YtbgjlabjihoaaaaDoorRows
import Derived.ProofKit
import Derived.OpenShut
import Derived.Deep.Slices
import Derived.Lib.SmallJoins
import Derived.OpenVars
import Derived.Test.YtbgjlabjihoaaaaDoorTie
import Derived.LaidMore
import Derived.Stop.Joined
import Derived.SevenTiedAt

namespace Go.Proofs.YtbgjlabjihoaaaaDoor
open Go.RowKit
open Go.Sort (grow)

set_option maxHeartbeats 400000 in
theorem l1In_any (n lo hi : Int) (w : World) :
    Calls Tryd.prog 29 #[.int .i64 n, .int .i64 lo, .int .i64 hi] w fun e w' => e = .returned (.bool (inB lo hi n)) ∧ w = w' := by
  by_cases h1 : lo ≤ n
  · by_cases h2 : n ≤ hi
    · have HE : Hid (inB lo hi n = true) := inB_t h1 h2
      go_enter Tryd.func29, Tryd.ntmps29
      go_wp2
      go_ret
      exact ⟨ret_b HE.out.symm, rfl⟩
    · have HE : Hid (inB lo hi n = false) := inB_f (by omega)
      go_enter Tryd.func29, Tryd.ntmps29
      go_wp2
      go_ret
      exact ⟨ret_b HE.out.symm, rfl⟩
  · have HE : Hid (inB lo hi n = false) := inB_f (by omega)
    go_enter Tryd.func29, Tryd.ntmps29
    go_wp2
    go_ret
    exact ⟨ret_b HE.out.symm, rfl⟩

theorem sym_in {n t x : Int} (hn : 1 ≤ n) (ht : 1 ≤ t) : inB (-t) (n - 1) x = symB n t x := by
  unfold inB symB
  rw [Bool.eq_iff_iff]
  simp only [decide_eq_true_eq]
  omega
theorem non_in {n x : Int} : inB 0 (n - 1) x = nonB n x := by
  unfold inB nonB
  rw [Bool.eq_iff_iff]
  simp only [decide_eq_true_eq]
  omega

set_option maxHeartbeats 400000 in
theorem l1Symbol_any (n t x : Int) (v : Value) (w : World) (hn : 1 ≤ n) (hn' : n ≤ 6) (ht : 1 ≤ t) (ht' : t ≤ 4) :
    Calls Tryd.prog 56 #[.agg #[.int .i64 n, .int .i64 t, v], .int .i64 x] w fun e w' => e = .returned (.bool (symB n t x)) ∧ Below w.heap.size w w' := by
  have HS := Lib.hid (sym_in (x := x) hn ht)
  go_enter Tryd.func56, Tryd.ntmps56
  go_wp2_with fail
  refine (l1In_any _ _ _ _).mono ?_
  rintro e w1 ⟨rfl, rfl⟩
  go_wp2
  go_ret
  exact ⟨ret_b HS.out, by go_grown⟩

set_option maxHeartbeats 400000 in
theorem l1Same_any (A A' : Option Addr) (xs ys : List Int) (c c' : Nat) (w : World) (hx : Ints w w.heap.size A xs) (hy : Ints w w.heap.size A' ys) (h1 : xs.length ≤ 1048576) :
    Calls Tryd.prog 69 #[.slice A xs.length c, .slice A' ys.length c'] w fun e w' => e = .returned (.bool (eqL xs ys)) ∧ Below w.heap.size w w' := by
  have HX := Lib.hid hx; clear hx
  have HY := Lib.hid hy; clear hy
  by_cases hl : xs.length = ys.length
  · have hd : ((xs.length : Int) != (ys.length : Int)) = false := bne_f (by omega)
    have hlen : xs.length ≤ ys.length := by omega
    have hlen' : ys.length ≤ xs.length := by omega
    have HL := Lib.hid hl; clear hl
    go_enter Tryd.func69, Tryd.ntmps69
    go_wp2
    go_loopw [13] (fun i wr => ∃ (k : Nat), k ≤ xs.length ∧ i = .int .i64 k ∧ Below w.heap.size w wr ∧ Hid (∀ j : Nat, j < k → xs[j]? = ys[j]?)) (fun i _ => xs.length - (intOf i).toNat)
    case atStart => exact ⟨0, by omega, rfl, Below.refl _ _, fun j h => absurd h (by omega)⟩
    case round =>
      obtain ⟨k, hk, rfl, hB, H⟩ := hrel
      by_cases hlt : k < xs.length
      · have hlt' : k < ys.length := by omega
        obtain ⟨b, o, rfl, hb, c1⟩ := (HX.out.keep hB).at_ hlt
        obtain ⟨b', o', rfl, hb', c2⟩ := (HY.out.keep hB).at_ hlt'
        by_cases hne : xs[k] = ys[k]
        · have ht := bne_f hne
          have HE := Lib.hid hne; clear hne
          go_wp2
          go_quiet (fail)
          go_wp2
          go_roundw
          case rel => exact ⟨k + 1, by omega, by go_num, below_drewN hB _, step_eq hlt hlt' HE.out H.out⟩
          case measure => simp [intOf]; omega
        · have ht := bne_t hne
          have HE : Hid (eqL xs ys = false) := eqL_not hlt hlt' hne
          clear hne
          go_wp2
          go_quiet (fail)
          go_wp2
          go_ret
          exact ⟨ret_bool HE.out.symm, below_drewN hB _⟩
      · have HE : Hid (eqL xs ys = true) := eqL_of HL.out hlt H.out
        go_wp2
        go_ret
        exact ⟨ret_bool HE.out.symm, hB⟩
  · have hd : ((xs.length : Int) != (ys.length : Int)) = true := bne_t (by omega)
    have HE : Hid (eqL xs ys = false) := eqL_f fun e => hl (by rw [e])
    clear hl
    go_enter Tryd.func69, Tryd.ntmps69
    go_wp2
    go_ret
    exact ⟨ret_bool HE.out.symm, Below.refl _ _⟩

set_option maxHeartbeats 400000 in
theorem l1SameRule_any (l l' : Int) (A A' : Option Addr) (xs ys : List Int) (c c' : Nat) (w : World) (hx : Ints w w.heap.size A xs) (hy : Ints w w.heap.size A' ys) (h1 : xs.length ≤ 1048576) :
    Calls Tryd.prog 57 #[.agg #[.int .i64 l, .slice A xs.length c], .agg #[.int .i64 l', .slice A' ys.length c']] w fun e w' => e = .returned (.bool (eqU (l, xs) (l', ys))) ∧ Below w.heap.size w w' := by
  have HX := Lib.hid hx; clear hx
  have HY := Lib.hid hy; clear hy
  by_cases hl : l = l'
  · have hd := beq_t hl
    have HL := Lib.hid hl; clear hl
    cases hq : eqL xs ys
    all_goals
      have HQ := Lib.hid hq; clear hq
      go_enter Tryd.func57, Tryd.ntmps57
      go_wp2_with fail
      refine (l1Same_any _ _ _ _ _ _ _ ?_ ?_ h1).mono ?_
      · exact (HX.out.keep (by go_grown)).more (by go_size)
      · exact (HY.out.keep (by go_grown)).more (by go_size)
      rintro e w1 ⟨rfl, hB⟩
      rw [HQ.out]
      go_wp2
      go_ret
      refine ⟨ret_bool ?_, Below.trans (by go_grown) (hB.mono (by go_size))⟩
    · exact (eqU_f fun e => by have h : xs = ys := congrArg Prod.snd e; rw [eqL_t h] at HQ; cases HQ.out).symm
    · exact (eqU_t (by rw [HL.out, of_decide_eq_true HQ.out])).symm
  · have hd := beq_f hl
    have HE : Hid (eqU (l, xs) (l', ys) = false) := eqU_f fun e => hl (congrArg Prod.fst e)
    clear hl
    go_enter Tryd.func57, Tryd.ntmps57
    go_wp2
    go_ret
    exact ⟨ret_bool HE.out.symm, by go_grown⟩

end Go.Proofs.YtbgjlabjihoaaaaDoor

/- What the reference's GoodGrammar answers. -/

namespace Go.Proofs.YtbgjlabjihoaaaaDoor
open Go.RowKit

theorem has_take {rs : List Ru} {k : Nat} (i : Nat) (h : i < k) : (rs.take k)[i]? = rs[i]? := by
  rw [List.getElem?_take, if_pos h]

theorem dup_step {rs : List Ru} {k i : Nat} (hk : k < rs.length) (hi : i < k) (h : eqU rs[k].abs (rs[i]'(by omega)).abs = false) (H : ∀ j : Nat, j < i → ((rs.take k).map Ru.abs)[j]? ≠ some rs[k].abs) :
    ∀ j : Nat, j < i + 1 → ((rs.take k).map Ru.abs)[j]? ≠ some rs[k].abs := by
  intro j hj
  by_cases e : j = i
  · subst e
    rw [List.getElem?_map, has_take j hi, List.getElem?_eq_getElem (by omega)]
    intro h'
    rw [eqU_t (by simpa using h'.symm)] at h
    cases h
  · exact H j (by omega)
theorem dup_t {rs : List Ru} {k i : Nat} (hk : k < rs.length) (hi : i < k) (h : eqU rs[k].abs (rs[i]'(by omega)).abs = true) : hasU ((rs.take k).map Ru.abs) rs[k].abs = true :=
  decide_eq_true (by
    rw [of_decide_eq_true h]
    exact List.mem_map.2 ⟨_, List.mem_iff_getElem?.2 ⟨i, by rw [has_take i hi, List.getElem?_eq_getElem]⟩, rfl⟩)
theorem dup_f {rs : List Ru} {k i : Nat} (hk : k < rs.length) (hi : ¬ i < k) (H : ∀ j : Nat, j < i → ((rs.take k).map Ru.abs)[j]? ≠ some rs[k].abs) : hasU ((rs.take k).map Ru.abs) rs[k].abs = false :=
  decide_eq_false fun h => by
    obtain ⟨j, hj⟩ := List.mem_iff_getElem?.1 h
    have := (List.getElem?_eq_some_iff.1 hj).1
    simp at this
    exact H j (by omega) hj

set_option maxHeartbeats 1000000 in
theorem specGood_any (n t : Int) (A : Option Addr) (c : Nat) (rs : List Ru) (w : World) (hx : Rls w w.heap.size A rs) (hc : rs.length ≤ c) (h1 : rs.length ≤ 1048576) (h2 : ∀ u ∈ rs, u.r.length ≤ 1048576) :
    Calls Tryd.prog 40 #[.agg #[.int .i64 n, .int .i64 t, .slice A rs.length c]] w fun e w' => e = .returned (.bool (goodG n t (rs.map Ru.abs))) ∧ Below w.heap.size w w' := by
  have HX := Lib.hid hx; clear hx
  have H2 := Lib.hid h2; clear h2
  cases hn : inB 1 6 n
  · have HE : Hid (goodG n t (rs.map Ru.abs) = false) := goodG_n (inB_not hn)
    have HN := Lib.hid hn; clear hn
    go_enter Tryd.func40, Tryd.ntmps40
    go_wp2_with fail
    refine (l1In_any _ _ _ _).mono ?_
    rintro e w1 ⟨rfl, rfl⟩
    rw [HN.out]
    go_wp2
    go_ret
    exact ⟨ret_bool HE.out.symm, by go_grown⟩
  have HN := Lib.hid hn; clear hn
  cases ht : inB 1 4 t
  · have HE : Hid (goodG n t (rs.map Ru.abs) = false) := goodG_t (inB_not ht)
    have HT := Lib.hid ht; clear ht
    go_enter Tryd.func40, Tryd.ntmps40
    go_wp2_with fail
    refine (l1In_any _ _ _ _).mono ?_
    rintro e w1 ⟨rfl, rfl⟩
    rw [HN.out]
    go_wp2_with fail
    refine (l1In_any _ _ _ _).mono ?_
    rintro e w1 ⟨rfl, rfl⟩
    rw [HT.out]
    go_wp2
    go_ret
    exact ⟨ret_bool HE.out.symm, by go_grown⟩
  have HT := Lib.hid ht; clear ht
  by_cases hl : rs.length ≤ 16
  case neg =>
    have HE : Hid (goodG n t (rs.map Ru.abs) = false) := goodG_len (by simpa using hl)
    have hl' : ((16 : Int) < (rs.length : Int)) := by omega
    clear hl
    go_enter Tryd.func40, Tryd.ntmps40
    go_wp2_with fail
    refine (l1In_any _ _ _ _).mono ?_
    rintro e w1 ⟨rfl, rfl⟩
    rw [HN.out]
    go_wp2_with fail
    refine (l1In_any _ _ _ _).mono ?_
    rintro e w1 ⟨rfl, rfl⟩
    rw [HT.out]
    go_wp2
    go_ret
    exact ⟨ret_bool HE.out.symm, by go_grown⟩
  have HA : Hid (goodG n t (rs.map Ru.abs) = goodAll n t (rs.map Ru.abs)) := goodG_all (inB_and HN.out) (inB_and HT.out) (by simpa using hl)
  have n1 := inB_lo HN.out
  have n2 := inB_hi HN.out
  have t1 := inB_lo HT.out
  have t2 := inB_hi HT.out
  go_enter Tryd.func40, Tryd.ntmps40
  go_wp2_with fail
  refine (l1In_any _ _ _ _).mono ?_
  rintro e w1 ⟨rfl, rfl⟩
  rw [HN.out]
  go_wp2_with fail
  refine (l1In_any _ _ _ _).mono ?_
  rintro e w1 ⟨rfl, rfl⟩
  rw [HT.out]
  go_wp2
  go_loopw [28] (fun i wr => ∃ (k : Nat), k ≤ rs.length ∧ i = .int .i64 k ∧ Below w.heap.size w wr ∧ Box3 wr w.heap.size (.int .i64 n) (.int .i64 t) (.slice A rs.length c) ∧ Hid (goodTo n t (rs.map Ru.abs) k)) (fun i _ => rs.length - (intOf i).toNat)
  case atStart => exact ⟨0, by omega, rfl, by go_grown, ⟨by simp, by simp [go_sem], by simp [go_sem], by simp [go_sem]⟩, fun j x h => absurd h (by omega)⟩
  case round =>
    obtain ⟨k, hk, rfl, hB, hbox, H⟩ := hrel
    by_cases hlt : k < rs.length
    case neg =>
      have HE : Hid (goodG n t (rs.map Ru.abs) = true) := HA.out.trans (goodAll_of (k := k) (by simpa using hlt) H.out)
      clear hbox
      go_wp2
      go_ret
      exact ⟨ret_bool HE.out.symm, hB⟩
    obtain ⟨b, o, rfl, hb, c1, c2, c3⟩ := (HX.out.keep hB).at_ hlt
    obtain ⟨g0, g1, g2, g3⟩ := id hbox
    have HBX := Lib.hid hbox; clear hbox
    have C3 := Lib.hid (c3.more hB.size); clear c3
    have hlen2 := H2.out rs[k] (List.getElem_mem hlt)
    go_wp2_with fail
    refine (l1In_any _ _ _ _).mono ?_
    rintro e w1 ⟨rfl, rfl⟩
    rw [non_in]
    cases hq : nonB n rs[k].l
    · have HE : Hid (goodG n t (rs.map Ru.abs) = false) := HA.out.trans (goodAll_bad (k := k) (by simpa using hlt) (.inl (by simpa [Ru.abs] using goodU_left hq)))
      have HQ := Lib.hid hq; clear hq
      go_wp2
      go_ret
      exact ⟨ret_bool HE.out.symm, hB.trans (Below.mono (B := wr.heap.size) (by go_grown) hB.size)⟩
    have HQ := Lib.hid hq; clear hq
    by_cases hl4 : rs[k].r.length ≤ 4
    case neg =>
      have HE : Hid (goodG n t (rs.map Ru.abs) = false) := HA.out.trans (goodAll_bad (k := k) (by simpa using hlt) (.inl (by simpa [Ru.abs] using goodU_long (n := n) (t := t) (l := rs[k].l) hl4)))
      have hl4' : ((4 : Int) < (rs[k].r.length : Int)) := by omega
      clear hl4
      go_wp2
      go_ret
      exact ⟨ret_bool HE.out.symm, hB.trans (Below.mono (B := wr.heap.size) (by go_grown) hB.size)⟩
    have HS : Hid (goodU n t rs[k].abs = symsB n t rs[k].r) := goodU_syms HQ.out hl4
    have hBA : Below wr.heap.size wr (wr.alloc (.cells #[.int .i64 rs[k].l, .slice rs[k].a rs[k].r.length rs[k].c] 96)) := by go_grown
    have BU : Box2 (wr.alloc (.cells #[.int .i64 rs[k].l, .slice rs[k].a rs[k].r.length rs[k].c] 96)) wr.heap.size (.int .i64 rs[k].l) (.slice rs[k].a rs[k].r.length rs[k].c) := ⟨by simp, by simp [go_sem], by simp [go_sem]⟩
    generalize (wr.alloc (.cells #[.int .i64 rs[k].l, .slice rs[k].a rs[k].r.length rs[k].c] 96)) = W at hBA BU ⊢
    have HBX2 := Lib.hid (HBX.out.keep hBA g0)
    have C3' := Lib.hid ((C3.out.keep hBA).more hBA.size)
    have HBW := Lib.hid (hB.trans (hBA.mono hB.size))
    obtain ⟨y0, y1, y2⟩ := id BU
    have HBU := Lib.hid BU; clear BU
    clear c1 c2 g1 g2 g3 hBA C3 HBX
    go_wp2
    go_loopw [49] (fun i wr1 => ∃ (j : Nat), j ≤ rs[k].r.length ∧ i = .int .i64 j ∧ Below W.heap.size W wr1 ∧ Hid (∀ (m : Nat) (x : Int), m < j → rs[k].r[m]? = some x → symB n t x = true)) (fun i _ => rs[k].r.length - (intOf i).toNat)
    case atStart => exact ⟨0, by omega, rfl, Below.refl _ _, fun j x h => absurd h (by omega)⟩
    case round =>
      obtain ⟨j, hj, rfl, hB1, H1⟩ := hrel
      have HB1 := Lib.hid hB1; clear hB1
      obtain ⟨_, z0, z1, z2⟩ := HBX2.out.keep HB1.out HBX2.out.1
      clear y1 y2
      by_cases hjl : j < rs[k].r.length
      · obtain ⟨b', o', ha, hb', c1⟩ := (C3'.out.keep HB1.out).at_ hjl
        have HA' := Lib.hid ha; clear ha
        cases hs : symB n t rs[k].r[j]
        all_goals
          have HSY := Lib.hid hs; clear hs
          rw [HA'.out]
          go_wp2_with fail
          refine (l1Symbol_any _ _ _ _ _ n1 n2 t1 t2).mono ?_
          rintro e w3 ⟨rfl, hB3⟩
          rw [HSY.out]
          have HB4 := Lib.hid (HB1.out.trans (hB3.mono HB1.out.size)); clear hB3
          clear z0 z1 z2 c1
        · have HE : Hid (goodG n t (rs.map Ru.abs) = false) := HA.out.trans (goodAll_bad (k := k) (by simpa using hlt) (.inl (by simpa using HS.out.trans (symsB_not hjl HSY.out))))
          go_wp2
          go_ret
          exact ⟨ret_bool HE.out.symm, HBW.out.trans (HB4.out.mono HBW.out.size)⟩
        · go_wp2
          go_roundw
          case rel => exact ⟨j + 1, by omega, by go_num, HB4.out, syms_step hjl HSY.out H1.out⟩
          case measure => simp [intOf]; omega
      · have HG : Hid (goodU n t rs[k].abs = true) := HS.out.trans (symsB_of hjl H1.out)
        have HRW := Lib.hid (((HX.out.keep HBW.out).more HBW.out.size).keep HB1.out)
        obtain ⟨_, v0, v1⟩ := HBU.out.keep HB1.out HBU.out.1
        go_wp2
        go_loopw [63] (fun i wr2 => ∃ (j : Nat), j ≤ k ∧ i = .int .i64 j ∧ Below W.heap.size W wr2 ∧ Hid (∀ m : Nat, m < j → ((rs.take k).map Ru.abs)[m]? ≠ some rs[k].abs)) (fun i _ => k - (intOf i).toNat)
        case atStart => exact ⟨0, by omega, rfl, HB1.out, fun j h => absurd h (by omega)⟩
        case round =>
          clear v0 v1 z0 z1 z2 HB1 HRW
          obtain ⟨i, hi, rfl, hB2, H3⟩ := hrel
          have HB2 := Lib.hid hB2; clear hB2
          by_cases hik : i < k
          · have hil : i < rs.length := by omega
            obtain ⟨v0, v1, v2⟩ := HBU.out.keep HB2.out HBU.out.1
            have hRW := ((HX.out.keep HBW.out).more HBW.out.size).keep HB2.out
            obtain ⟨b', o', ha, hb', d1, d2, d3⟩ := hRW.at_ hil
            injection ha with ha
            injection ha with ha1 ha2
            subst ha1 ha2
            have HD3 := Lib.hid (d3.more HB2.out.size); clear d3
            have HC3 := Lib.hid ((C3'.out.keep HB2.out).more HB2.out.size)
            clear hRW
            cases hq : eqU rs[k].abs rs[i].abs
            all_goals
              have HQ2 := Lib.hid hq; clear hq
              go_wp2_with fail
              refine (l1SameRule_any _ _ _ _ _ _ _ _ _ ?_ ?_ hlen2).mono ?_
              · exact (HC3.out.keep (by go_grown)).more (by go_size)
              · exact (HD3.out.keep (by go_grown)).more (by go_size)
              rintro e w3 ⟨rfl, hB3⟩
              have HB4 : Hid (Below W.heap.size W w3) := HB2.out.trans (Below.trans (Below.mono (B := wr.heap.size) (by go_grown) HB2.out.size) (hB3.mono (by have := HB2.out.size; simp; omega)))
              clear hB3
              rw [show eqU (rs[k].l, rs[k].r) (rs[i].l, rs[i].r) = _ from HQ2.out]
            · go_wp2
              go_roundw
              case rel => exact ⟨i + 1, by omega, by go_num, HB4.out, dup_step hlt hik HQ2.out H3.out⟩
              case measure => simp [intOf]; omega
            · have HE : Hid (goodG n t (rs.map Ru.abs) = false) := HA.out.trans (goodAll_bad (k := k) (by simpa using hlt) (.inr (by rw [← List.map_take]; simpa using dup_t hlt hik HQ2.out)))
              go_wp2
              go_ret
              exact ⟨ret_bool HE.out.symm, HBW.out.trans (HB4.out.mono HBW.out.size)⟩
          · go_wp2
            go_roundw
            case rel => exact ⟨k + 1, by omega, by go_num, HBW.out.trans (HB2.out.mono HBW.out.size), HBX2.out.keep HB2.out HBX2.out.1, goodTo_step (by simpa using hlt) (by simpa using HG.out) (by rw [← List.map_take]; simpa using dup_f hlt hik H3.out) H.out⟩
            case measure => simp [intOf]; omega

end Go.Proofs.YtbgjlabjihoaaaaDoor

/- What two readings of the same rules share; what a law's call has to end in. -/

namespace Go.Proofs.YtbgjlabjihoaaaaDoor
open Go.RowKit
open Go.Sort (grow)

theorem abs_mem {rs ss : List Ru} (h : ss.map Ru.abs = rs.map Ru.abs) {u : Ru} (hu : u ∈ ss) : ∃ v ∈ rs, v.l = u.l ∧ v.r = u.r := by
  have : u.abs ∈ rs.map Ru.abs := h ▸ List.mem_map.2 ⟨u, hu, rfl⟩
  obtain ⟨v, hv, e⟩ := List.mem_map.1 this
  exact ⟨v, hv, congrArg Prod.fst e, congrArg Prod.snd e⟩
theorem abs_len {rs ss : List Ru} (h : ss.map Ru.abs = rs.map Ru.abs) : ss.length = rs.length := by simpa using congrArg List.length h
theorem abs_lens {rs ss : List Ru} (h : ss.map Ru.abs = rs.map Ru.abs) {m : Nat} (hu : ∀ u ∈ rs, u.r.length ≤ m) : ∀ u ∈ ss, u.r.length ≤ m := fun u hm => by
  obtain ⟨v, hv, _, e⟩ := abs_mem h hm
  rw [← e]; exact hu v hv
theorem abs_fit {rs ss : List Ru} (h : ss.map Ru.abs = rs.map Ru.abs) (hf : FitR rs) : FitR ss := fun u hm => by
  obtain ⟨v, hv, _, e⟩ := abs_mem h hm
  rw [← e]; exact hf v hv
theorem eqG_t {n t : Int} {rs ss : List (Int × List Int)} (h : rs = ss) : eqG n t rs n t ss = true := decide_eq_true ⟨rfl, rfl, h⟩

/-- What a law's call has to end in. -/
def LawEnds (w : World) (e : Ending) (w' : World) : Prop := e = .returned (.bool true) ∧ Below w.heap.size w w'

end Go.Proofs.YtbgjlabjihoaaaaDoor

/- From the reading of an argument to its cells: a slice of numbers, a grammar. -/

namespace Go.Proofs.YtbgjlabjihoaaaaDoor
open Go.ChangeShapes Go.WideShapes Go.ChangeAt Go.RowKit Go.Deep Go.Joins

theorem Tryd.cellsInt : Tryd.prog.cellsOf 3 = 1 := by kernel_rfl
theorem Tryd.cellsIntS : Tryd.prog.cellsOf 27 = 1 := by kernel_rfl
theorem Tryd.cellsRuleL : Tryd.prog.cellsOf 95 = 2 := by kernel_rfl
theorem Tryd.cellsGramL : Tryd.prog.cellsOf 42 = 3 := by kernel_rfl

theorem lt_of_cell {w : World} {b o : Nat} {v : Value} (h : w.cell? ⟨b, o, none⟩ = some v) : b < w.heap.size := by
  by_cases hg : b < w.heap.size
  · exact hg
  · simp only [World.cell?] at h
    rw [Array.getElem?_eq_none (by omega)] at h
    cases h

section
variable {H : Type} {enc : TypeId × Value → H} {W : World} {spare : Nat → Bool} {held : Bool}

theorem open_intS {fuel : Nat} {v : Value} {y : DataW H × List MemPlace} (h : DataW.trod enc Tryd.prog W 0 spare held fuel 27 [v] = some y) :
    ∃ (A : Option Addr) (xs : List Int) (c : Nat), v = .slice A xs.length c ∧ xs.length ≤ c ∧ Ints W W.heap.size A xs ∧ xs.length ≤ maxLen ∧ ∀ x ∈ xs, F64 x := by
  rcases open_ints Tryd.underlying27 Tryd.underlying3 Tryd.cellsInt h with ⟨hcs, _⟩ | ⟨a, len, cap, zs, hcs, _, hl, hm, hz, _, hcell, hwf⟩
  · injection hcs with hcs
    subst hcs
    exact ⟨none, [], 0, rfl, Nat.le_refl _, fun h => by simp at h, by simp [maxLen], fun x hx => by simp at hx⟩
  · injection hcs with hcs
    subst hcs
    have hlz : len ≤ zs.length := by rw [hz]; split <;> omega
    have hlen : (zs.take len).length = len := by rw [List.length_take]; omega
    refine ⟨some a, zs.take len, cap, by rw [hlen], by omega, fun hp => ?_, by omega, fun x hx => ?_⟩
    · obtain ⟨b, off, rfl, hc⟩ := ints_at hcell (by omega)
      refine ⟨b, off, rfl, lt_of_cell (hc 0 (by omega)), fun k x hx => ?_⟩
      have hk := (List.getElem?_eq_some_iff.1 hx).1
      rw [List.getElem?_take] at hx
      split at hx
      · rw [hc k (by omega), List.getD_eq_getElem?_getD, hx]; rfl
      · cases hx
    · have := hwf x (List.mem_of_mem_take hx)
      exact bounds_i64 this

instance : Inhabited Ru := ⟨⟨0, none, [], 0⟩⟩

set_option maxRecDepth 100000 in
theorem open_ruleS {fuel : Nat} {v : Value} {y : DataW H × List MemPlace} (h : DataW.trod enc Tryd.prog W 0 spare held fuel 40 [v] = some y) :
    ∃ (A : Option Addr) (rs : List Ru) (c : Nat), v = .slice A rs.length c ∧ rs.length ≤ c ∧ Rls W W.heap.size A rs ∧ rs.length ≤ maxLen ∧ (∀ u ∈ rs, u.r.length ≤ maxLen) ∧ FitR rs := by
  rcases open_slice Tryd.underlying40 h with ⟨hcs, _⟩ | ⟨a, len, cap, m, n, D, Pl, hcs, _, hl, hm, hz, _, hel⟩
  · injection hcs with hcs
    subst hcs
    exact ⟨none, [], 0, rfl, Nat.le_refl _, fun h => by simp at h, by simp [maxLen], fun x hx => by simp at hx, fun x hx => by simp at hx⟩
  · injection hcs with hcs
    subst hcs
    have hlm : len ≤ m := by rw [hz]; split <;> omega
    have each : ∀ i, i < len → ∃ u : Ru, W.cell? (a.add (i * 2)) = some (.int .i64 u.l) ∧ W.cell? ((a.add (i * 2)).add 1) = some (.slice u.a u.r.length u.c) ∧ Ints W W.heap.size u.a u.r ∧ u.r.length ≤ maxLen ∧ ∀ x ∈ u.r, F64 x := by
      intro i hi
      obtain ⟨cs', hc, ht⟩ := hel i (by omega)
      rw [Tryd.cellsRuleL] at hc
      obtain ⟨_, hcl, hat⟩ := World.cells?_some hc
      obtain ⟨y0, y1, n', _, _, h0, h1⟩ := trod_struct2 Tryd.underlying95 ht
      match cs', hcl with
      | [q0, q1], _ =>
        have e0 : DataW.trod enc Tryd.prog W 0 spare held n' 3 [q0] = some y0 := h0
        have e1 : DataW.trod enc Tryd.prog W 0 spare held n' 27 [q1] = some y1 := h1
        obtain ⟨l, el, _, _⟩ := DataW.trod_int Tryd.underlying3 e0
        injection el with el
        subst el
        obtain ⟨A', xs, c', rfl, _, hI, hml, hF⟩ := open_intS e1
        exact ⟨⟨l, A', xs, c'⟩, by simpa [Addr.add] using hat 0 (by omega), by simpa using hat 1 (by omega), hI, hml, hF⟩
    obtain ⟨f, hf⟩ := choose_lt each
    have hlen : ((List.range len).map f).length = len := by simp
    refine ⟨some a, (List.range len).map f, cap, by rw [hlen], by omega, fun hp => ?_, by omega, fun u hu => ?_, fun u hu => ?_⟩
    · obtain ⟨b, off, spot⟩ := a
      have hspot : spot = none := by simpa [Addr.add] using World.cell?_spot (hf 0 (by omega)).1
      subst hspot
      refine ⟨b, off, rfl, ?_, fun k u hu => ?_⟩
      · have := (hf 0 (by omega)).1
        exact lt_of_cell (b := b) (o := off) (by simpa [Addr.add] using this)
      · have hk := (List.getElem?_eq_some_iff.1 hu).1
        rw [hlen] at hk
        have hu' : f k = u := by simpa [hk] using hu
        subst hu'
        obtain ⟨h1, h2, h3, _, _⟩ := hf k hk
        rw [Go.WideShapes.add_plain] at h1 h2
        rw [Go.WideShapes.add_plain] at h2
        exact ⟨h1, h2, h3⟩
    · obtain ⟨i, hi, rfl⟩ := List.mem_map.1 hu
      exact (hf i (List.mem_range.1 hi)).2.2.2.1
    · obtain ⟨i, hi, rfl⟩ := List.mem_map.1 hu
      exact (hf i (List.mem_range.1 hi)).2.2.2.2

set_option maxRecDepth 100000 in
theorem open_grammar {r : Reach} {b0 : Nat} {v : Value} {d : DataW H} {p : List MemPlace} (hv : Value.okWide Tryd.prog W r b0 42 v) (h : DataW.Trod enc Tryd.prog W 0 spare held 42 v d p) :
    ∃ (n t : Int) (A : Option Addr) (rs : List Ru) (c : Nat), v = .agg #[.int .i64 n, .int .i64 t, .slice A rs.length c] ∧ rs.length ≤ c ∧ Rls W W.heap.size A rs ∧ rs.length ≤ maxLen ∧ (∀ u ∈ rs, u.r.length ≤ maxLen) ∧ FitR rs ∧ F64 n ∧ F64 t := by
  obtain ⟨v0, v1, v2, y0, y1, y2, m, rfl, _, _, h0, h1, h2⟩ := open_agg3 Tryd.underlying42 (by kernel_rfl) Tryd.cellsGramL hv h
  obtain ⟨n, e0, _, w0⟩ := DataW.trod_int Tryd.underlying3 h0
  obtain ⟨t, e1, _, w1⟩ := DataW.trod_int Tryd.underlying3 h1
  injection e0 with e0
  injection e1 with e1
  subst e0 e1
  obtain ⟨A, rs, c, rfl, a1, a2, a3, a4, a5⟩ := open_ruleS h2
  exact ⟨n, t, A, rs, c, rfl, a1, a2, a3, a4, a5, bounds_i64 w0, bounds_i64 w1⟩
end

end Go.Proofs.YtbgjlabjihoaaaaDoor

/- A law's end: it returned true, and nothing that was there has turned. -/

namespace Go.Proofs.YtbgjlabjihoaaaaDoor
open Go.ChangeShapes Go.WideShapes Go.ChangeAt Go.RowKit
set_option maxRecDepth 100000

theorem Tryd.own : ownKnob Tryd.prog.godebug = none := by kernel_rfl
theorem Tryd.laidOut : laidOutB Tryd.prog = true := by kernel_rfl

/-- A law's end, one argument: it returned true, and nothing that was there has turned. -/
theorem ends_one {H : Type} {enc : TypeId × Value → H} {f : Func} {s : ChangeSpec} {W W' : World} {v0 : Value} {d0 : DataW H} {gs : List (DataW H)} {before : List MemPlace} {t0 : TypeId}
    (hW : DataW.Whole enc Tryd.prog f.params.toList s.vars false W [v0] [d0] gs before) (hp : f.params = #[t0]) (hr : f.resultTypes = #[4])
    (hfn : s.fn H ([d0] ++ gs) = { results := [.lit (.bool true)], args := [d0], vars := gs })
    (ht : Tryd.prog.readableRec t0 = true) (hs : t0 < Tryd.prog.types.size) (hv : varsRowed Tryd.prog s.vars = true) (hb : Below W.heap.size W W') :
    s.post enc Tryd.prog f false true false false W #[v0] (.bool true) W' := by
  have hlt : ∀ x ∈ before, x.block < W.heap.size := fun x hx => hW.lt x hx
  have hW' := hW
  obtain ⟨p, q, hA, hV, rfl, _, _⟩ := hW
  rw [hp] at hA
  obtain ⟨v, d, e1, e2, h0⟩ := trodAll_one hA
  have ev : v0 = v := by simpa using e1
  have ed : d0 = d := by simpa using e2
  subst ev ed
  refine ⟨[d0], gs, p ++ q, [], p, q, hW', ?_, ?_, ?_, hb.frame _, fun h => by cases h⟩
  · rw [hfn, hr]
    exact trodAll_mk1 (shut_bool Tryd.underlying4 true)
  · rw [hfn, hp]
    exact trodAll_mk1 (hb.trod Tryd.laidOut ht hs h0 (fun x hx => hlt x (List.mem_append_left _ hx)))
  · rw [hfn]
    exact hb.trodVars Tryd.laidOut hv hV

theorem open_intS' {H : Type} {enc : TypeId × Value → H} {W : World} {spare : Nat → Bool} {held : Bool} {r : Reach} {b0 : Nat} {v : Value} {d : DataW H} {p : List MemPlace} (hv : Value.okWide Tryd.prog W r b0 27 v) (h : DataW.Trod enc Tryd.prog W 0 spare held 27 v d p) :
    ∃ (A : Option Addr) (xs : List Int) (c : Nat), v = .slice A xs.length c ∧ xs.length ≤ c ∧ Ints W W.heap.size A xs ∧ xs.length ≤ maxLen ∧ ∀ x ∈ xs, F64 x := by
  obtain ⟨a0, len, cap, rfl⟩ := okWide_slice Tryd.underlying27 hv
  obtain ⟨fuel, hf⟩ := h
  exact open_intS (by simpa [Value.cells] using hf)

/-- A law's end, two arguments: it returned true, and nothing that was there has turned. -/
theorem ends_two {H : Type} {enc : TypeId × Value → H} {f : Func} {s : ChangeSpec} {W W' : World} {v0 v1 : Value} {d0 d1 : DataW H} {gs : List (DataW H)} {before : List MemPlace} {t0 t1 : TypeId}
    (hW : DataW.Whole enc Tryd.prog f.params.toList s.vars false W [v0, v1] [d0, d1] gs before) (hp : f.params = #[t0, t1]) (hr : f.resultTypes = #[4])
    (hfn : s.fn H ([d0, d1] ++ gs) = { results := [.lit (.bool true)], args := [d0, d1], vars := gs })
    (ht : Tryd.prog.readableRec t0 = true) (hs : t0 < Tryd.prog.types.size) (ht1 : Tryd.prog.readableRec t1 = true) (hs1 : t1 < Tryd.prog.types.size) (hv : varsRowed Tryd.prog s.vars = true) (hb : Below W.heap.size W W') :
    s.post enc Tryd.prog f false true false false W #[v0, v1] (.bool true) W' := by
  have hlt : ∀ x ∈ before, x.block < W.heap.size := fun x hx => hW.lt x hx
  have hW' := hW
  obtain ⟨p, q, hA, hV, rfl, _, _⟩ := hW
  rw [hp] at hA
  obtain ⟨v, v', d, d', p0, p1, e1, e2, e3, h0, h1⟩ := trodAll_two hA
  have ev : v0 = v ∧ v1 = v' := by simpa using e1
  have ed : d0 = d ∧ d1 = d' := by simpa using e2
  obtain ⟨rfl, rfl⟩ := ev
  obtain ⟨rfl, rfl⟩ := ed
  subst e3
  refine ⟨[d0, d1], gs, p0 ++ p1 ++ q, [], p0 ++ p1, q, hW', ?_, ?_, ?_, hb.frame _, fun h => by cases h⟩
  · rw [hfn, hr]
    exact trodAll_mk1 (shut_bool Tryd.underlying4 true)
  · rw [hfn, hp]
    exact trodAll_mk2 (hb.trod Tryd.laidOut ht hs h0 (fun x hx => hlt x (by simp [hx]))) (hb.trod Tryd.laidOut ht1 hs1 h1 (fun x hx => hlt x (by simp [hx])))
  · rw [hfn]
    exact hb.trodVars Tryd.laidOut hv hV

end Go.Proofs.YtbgjlabjihoaaaaDoor

/- What the rows of this seat share: the table of limits out of the row's condition, and a law's end. -/

namespace Go.Proofs.YtbgjlabjihoaaaaDoor
open Go.ChangeShapes Go.WideShapes Go.ChangeAt Go.RowKit
set_option maxRecDepth 100000

theorem Tryd.gLim : Tryd.prog.globalNamed "loop.example/g00758/impl.limits" = some 0 := by kernel_rfl
theorem Tryd.tLim : (Tryd.prog.globals[0]?).map (·.type) = some 111 := by kernel_rfl
theorem Tryd.cLim : Tryd.prog.cellsOf 110 = 2 := by kernel_rfl
theorem Tryd.cLims : Tryd.prog.cellsOf 111 = 20 := by kernel_rfl

def laid1 : List (String × DataW Unit) := [("loop.example/g00758/impl.limits", Rows.laid_loop_example_g00758_impl_limits)]

/-- The door's own heap meets the condition. -/
theorem door_met (os : Os) (args : Array Value) : laidMetH Tryd.prog laid1 ((World.doorLaid Tryd.prog 400 os).forCall (fun _ _ => 0) ⟨#[], args, []⟩).memory :=
  laidMetH_of_parts3 (fuel := 8) (laidMet_of_run' 8 (by kernel_rfl) (by kernel_rfl)) (by kernel_rfl) (by kernel_rfl)

theorem pair_cells {H : Type} {enc : TypeId × Value → H} {W : World} {base : Nat} {sp : Nat → Bool} {held : Bool} {m : Nat} {q0 q1 : Value} {a b : Int} {ps : List MemPlace}
    (h : DataW.trod enc Tryd.prog W base sp held m 110 [q0, q1] = some (.agg [.lit (.int .i64 a), .lit (.int .i64 b)], ps)) : q0 = .int .i64 a ∧ q1 = .int .i64 b := by
  obtain ⟨y0, y1, n', hx, _, h0, h1⟩ := trod_struct2 Tryd.underlying110 h
  have e0 : DataW.trod enc Tryd.prog W base sp held n' 3 [q0] = some y0 := h0
  have e1 : DataW.trod enc Tryd.prog W base sp held n' 3 [q1] = some y1 := h1
  obtain ⟨l, el, ey, _⟩ := DataW.trod_int Tryd.underlying3 e0
  obtain ⟨l', el', ey', _⟩ := DataW.trod_int Tryd.underlying3 e1
  subst ey ey'
  simp only [Prod.mk.injEq, DataW.agg.injEq, List.cons.injEq, DataW.lit.injEq, Lit.int.injEq] at hx
  injection el with el
  injection el' with el'
  exact ⟨by rw [el, hx.1.1.2], by rw [el', hx.1.2.1.2]⟩

theorem lims_of_laid {W : World} (h : laidMetH Tryd.prog laid1 W) : Lims W := by
  rw [MakeChecks.laidMetH_plain _ _ _ (by kernel_rfl)] at h
  obtain ⟨ps, ⟨g, t, cs, f0, p0, q0, hg, ht, hv, hd, _, _⟩, _, _⟩ := h
  obtain rfl := Option.some.inj (Tryd.gLim.symm.trans hg)
  obtain rfl := Option.some.inj (Tryd.tLim.symm.trans ht)
  obtain ⟨xs, m, _, hx, hlen, hn, hel⟩ := DataW.trod_array Tryd.underlying111 hd
  rw [Tryd.cLims] at hlen
  rw [Tryd.cLim] at hel
  obtain ⟨l⟩ := cs
  match l, hlen, xs, hn with
  | [c0, c1, c2, c3, c4, c5, c6, c7, c8, c9, c10, c11, c12, c13, c14, c15, c16, c17, c18, c19], _, [x0, x1, x2, x3, x4, x5, x6, x7, x8, x9], _ =>
    simp only [Rows.laid_loop_example_g00758_impl_limits, Prod.mk.injEq, DataW.agg.injEq, List.map_cons, List.map_nil, List.cons.injEq] at hx
    obtain ⟨⟨e0, e1, e2, e3, e4, e5, e6, e7, e8, e9, _⟩, _⟩ := hx
    obtain ⟨x0, _⟩ := x0
    obtain ⟨x1, _⟩ := x1
    obtain ⟨x2, _⟩ := x2
    obtain ⟨x3, _⟩ := x3
    obtain ⟨x4, _⟩ := x4
    obtain ⟨x5, _⟩ := x5
    obtain ⟨x6, _⟩ := x6
    obtain ⟨x7, _⟩ := x7
    obtain ⟨x8, _⟩ := x8
    obtain ⟨x9, _⟩ := x9
    simp only at e0 e1 e2 e3 e4 e5 e6 e7 e8 e9
    subst e0 e1 e2 e3 e4 e5 e6 e7 e8 e9
    obtain ⟨rfl, rfl⟩ := pair_cells (hel 0 (by omega))
    obtain ⟨rfl, rfl⟩ := pair_cells (hel 1 (by omega))
    obtain ⟨rfl, rfl⟩ := pair_cells (hel 2 (by omega))
    obtain ⟨rfl, rfl⟩ := pair_cells (hel 3 (by omega))
    obtain ⟨rfl, rfl⟩ := pair_cells (hel 4 (by omega))
    obtain ⟨rfl, rfl⟩ := pair_cells (hel 5 (by omega))
    obtain ⟨rfl, rfl⟩ := pair_cells (hel 6 (by omega))
    obtain ⟨rfl, rfl⟩ := pair_cells (hel 7 (by omega))
    obtain ⟨rfl, rfl⟩ := pair_cells (hel 8 (by omega))
    obtain ⟨rfl, rfl⟩ := pair_cells (hel 9 (by omega))
    intro k v hk
    have hc := World.var?_cell hg hv k
    rw [hc]
    match k, hk with
    | 0, hk => simp [limL] at hk ⊢; exact hk
    | 1, hk => simp [limL] at hk ⊢; exact hk
    | 2, hk => simp [limL] at hk ⊢; exact hk
    | 3, hk => simp [limL] at hk ⊢; exact hk
    | 4, hk => simp [limL] at hk ⊢; exact hk
    | 5, hk => simp [limL] at hk ⊢; exact hk
    | 6, hk => simp [limL] at hk ⊢; exact hk
    | 7, hk => simp [limL] at hk ⊢; exact hk
    | 8, hk => simp [limL] at hk ⊢; exact hk
    | 9, hk => simp [limL] at hk ⊢; exact hk
    | 10, hk => simp [limL] at hk ⊢; exact hk
    | 11, hk => simp [limL] at hk ⊢; exact hk
    | 12, hk => simp [limL] at hk ⊢; exact hk
    | 13, hk => simp [limL] at hk ⊢; exact hk
    | 14, hk => simp [limL] at hk ⊢; exact hk
    | 15, hk => simp [limL] at hk ⊢; exact hk
    | 16, hk => simp [limL] at hk ⊢; exact hk
    | 17, hk => simp [limL] at hk ⊢; exact hk
    | 18, hk => simp [limL] at hk ⊢; exact hk
    | 19, hk => simp [limL] at hk ⊢; exact hk
    | k + 20, hk => simp [limL] at hk

end Go.Proofs.YtbgjlabjihoaaaaDoor

/- What rows of two arguments share (all of it lies in Ends now). -/



/- What the laws' marks write, and what they find again. -/

namespace Go.Proofs.YtbgjlabjihoaaaaDoor
open Go.RowKit

/-- Only blocks of S have turned; new blocks may have come. -/
structure Save (S : Nat → Prop) (w w' : World) : Prop where
  os : w'.os = w.os
  tape : w'.tape = w.tape
  output : w'.output = w.output
  size : w.heap.size ≤ w'.heap.size
  block : ∀ b, b < w.heap.size → ¬ S b → w'.heap[b]? = w.heap[b]?

theorem Save.refl (S : Nat → Prop) (w : World) : Save S w w := ⟨rfl, rfl, rfl, Nat.le_refl _, fun _ _ _ => rfl⟩
theorem Save.trans {S : Nat → Prop} {a b c : World} (h : Save S a b) (k : Save S b c) : Save S a c :=
  ⟨k.os.trans h.os, k.tape.trans h.tape, k.output.trans h.output, Nat.le_trans h.size k.size, fun i hi hs => (k.block i (by have := h.size; omega) hs).trans (h.block i hi hs)⟩
theorem Save.wider {S T : Nat → Prop} {a b : World} (h : Save S a b) (hT : ∀ i, S i → T i) : Save T a b :=
  ⟨h.os, h.tape, h.output, h.size, fun i hi hs => h.block i hi fun hS => hs (hT i hS)⟩
theorem Save.of_below {S : Nat → Prop} {a b : World} (h : Below a.heap.size a b) : Save S a b := ⟨h.os, h.tape, h.output, h.size, fun i hi _ => h.block i hi⟩
theorem Save.below {S : Nat → Prop} {a b : World} {B : Nat} (h : Save S a b) (hB : B ≤ a.heap.size) (hS : ∀ i, i < B → ¬ S i) : Below B a b :=
  ⟨h.os, h.tape, h.output, h.size, fun i hi => h.block i (by omega) (hS i hi)⟩
theorem Save.setCell {S : Nat → Prop} {a w : World} (h : Save S a w) {p : Addr} (hp : S p.block) (u : Value) : Save S a (w.setCell p u) :=
  h.trans ⟨rfl, rfl, rfl, by simp [World.setCell], fun k _ hs => Below.heap_setCell _ _ _ _ (fun e => hs (e ▸ hp))⟩

theorem Row.save {S : Nat → Prop} {w w' : World} {g : Nat} {t : TypeId} {cs : Array Value} (h : Row w g t cs) (hs : Save S w w') (hg : ¬ S g) : Row w' g t cs := (hs.block g h.lt hg).trans h

theorem OwnI.save {S : Nat → Prop} {w w' : World} {lo : Nat} {A : Option Addr} {xs : List Int} (h : OwnI w lo A xs) (hs : Save S w w') (hA : ∀ g, A = some ⟨g, 0, none⟩ → xs ≠ [] → ¬ S g) : OwnI w' lo A xs := by
  by_cases e : xs = []
  · exact .inl e
  · rcases h with h | ⟨g, cs, ea, hl, hr, hc⟩
    · exact .inl h
    · exact .inr ⟨g, cs, ea, hl, hr.save hs (hA g ea e), hc⟩

theorem OwnI.at_ {w : World} {lo : Nat} {A : Option Addr} {xs : List Int} (h : OwnI w lo A xs) {i : Nat} (hi : i < xs.length) :
    ∃ g, A = some ⟨g, 0, none⟩ ∧ lo ≤ g ∧ g < w.heap.size ∧ w.cell? ⟨g, i, none⟩ = some (.int .i64 xs[i]) ∧ w.frozen? ⟨g, i, none⟩ = false := by
  rcases h with h | ⟨g, cs, ea, hl, hr, hc⟩
  · subst h; simp at hi
  · exact ⟨g, ea, hl, hr.lt, by rw [hr.cell]; exact hc i _ (List.getElem?_eq_getElem hi), hr.frozen i⟩

theorem OwnI.set {w : World} {lo g : Nat} {xs : List Int} (h : OwnI w lo (some ⟨g, 0, none⟩) xs) {i : Nat} (hi : i < xs.length) (x : Int) :
    OwnI (w.setCell ⟨g, i, none⟩ (.int .i64 x)) lo (some ⟨g, 0, none⟩) (xs.set i x) := by
  rcases h with h | ⟨g', cs, ea, hl, hr, hc⟩
  · subst h; simp at hi
  · injection ea with ea
    injection ea with ea
    subst ea
    have hlt : i < cs.size := (Array.getElem?_eq_some_iff.1 (hc i _ (List.getElem?_eq_getElem hi))).1
    refine .inr ⟨g, cs.setIfInBounds i (.int .i64 x), rfl, hl, hr.set i _, fun k y hy => ?_⟩
    rw [List.getElem?_set] at hy
    rw [Array.getElem?_setIfInBounds]
    by_cases e : i = k
    · subst e
      rw [if_pos rfl, if_pos hi] at hy
      rw [if_pos rfl, if_pos hlt]
      simpa using hy
    · rw [if_neg e] at hy ⊢
      exact hc k y hy

/-- k, k + 1, .. : n numbers. -/
def seqL (k : Int) (n : Nat) : List Int := (List.range n).map fun (i : Nat) => k + (i : Int)
theorem seqL_length (k : Int) (n : Nat) : (seqL k n).length = n := by simp [seqL]
theorem seqL_get {k : Int} {n i : Nat} (h : i < n) : (seqL k n)[i]? = some (k + (i : Int)) := by simp [seqL, h]
theorem seqL_at {k : Int} {n i : Nat} (h : i < (seqL k n).length) : (seqL k n)[i] = k + (i : Int) := by simp [seqL]
theorem seqL_ne {k : Int} {n : Nat} (h : n ≠ 0) : seqL k n ≠ [] := fun e => h (by have := congrArg List.length e; rwa [seqL_length] at this)

def midL (k : Int) (xs : List Int) (j : Nat) : List Int := seqL k j ++ xs.drop j
theorem midL_length {k : Int} {xs : List Int} {j : Nat} (h : j ≤ xs.length) : (midL k xs j).length = xs.length := by simp [midL, seqL_length]; omega
theorem midL_zero (k : Int) (xs : List Int) : midL k xs 0 = xs := by simp [midL, seqL]
theorem midL_all (k : Int) (xs : List Int) : midL k xs xs.length = seqL k xs.length := by simp [midL]
theorem midL_step {k : Int} {xs : List Int} {j : Nat} (h : j < xs.length) : (midL k xs j).set j (k + (j : Int)) = midL k xs (j + 1) := by
  apply List.ext_getElem?
  intro i
  simp only [midL, List.getElem?_set, List.length_append, seqL_length, List.length_drop]
  by_cases e : j = i
  · subst e
    rw [if_pos rfl, if_pos (by omega), List.getElem?_append_left (by rw [seqL_length]; omega), seqL_get (by omega)]
  · rw [if_neg e]
    by_cases hi : i < j
    · rw [List.getElem?_append_left (by rw [seqL_length]; omega), List.getElem?_append_left (by rw [seqL_length]; omega), seqL_get hi, seqL_get (by omega)]
    · rw [List.getElem?_append_right (by rw [seqL_length]; omega), List.getElem?_append_right (by rw [seqL_length]; omega), seqL_length, seqL_length, List.getElem?_drop, List.getElem?_drop]
      congr 1
      omega

/-- The blocks of one slice that is not empty. -/
def Its (A : Option Addr) (xs : List Int) (b : Nat) : Prop := A = some ⟨b, 0, none⟩ ∧ xs ≠ []

def MarkedI (w : World) (lo : Nat) (A : Option Addr) (xs : List Int) (k : Int) (e : Ending) (w' : World) : Prop :=
  e = .returned (.int .i64 (k + xs.length)) ∧ OwnI w' lo A (seqL k xs.length) ∧ Save (Its A xs) w w'

set_option maxHeartbeats 400000 in
theorem markIntS_any (A : Option Addr) (xs : List Int) (c lo : Nat) (k : Int) (w : World) (h : OwnI w lo A xs) (hn : xs.length ≤ 1048576) (hk : 0 ≤ k) (hk' : k ≤ 4398046511104) :
    Calls Tryd.prog 14 #[.slice A xs.length c, .int .i64 k] w (MarkedI w lo A xs k) := by
  have HO := Lib.hid h; clear h
  go_enter Tryd.func14, Tryd.ntmps14
  go_wp2
  go_loopw [1, 5] (fun v i wr => ∃ (j : Nat), j ≤ xs.length ∧ i = .int .i64 j ∧ v = .int .i64 (k + j) ∧ Hid (OwnI wr lo A (midL k xs j)) ∧ Hid (Save (Its A xs) w wr)) (fun _ i _ => xs.length - (intOf i).toNat)
  case atStart => exact ⟨0, by omega, rfl, by simp, by show OwnI _ _ _ _; rw [midL_zero]; exact HO.out, Save.refl _ _⟩
  case round =>
    obtain ⟨j, hj, rfl, rfl, H, HS⟩ := hrel
    by_cases hlt : j < xs.length
    · obtain ⟨g, rfl, _, _, c1, f1⟩ := H.out.at_ (i := j) (by rw [midL_length hj]; exact hlt)
      have hne : xs ≠ [] := fun e => by subst e; simp at hlt
      have HNE := Lib.hid hne; clear hne
      go_wp2
      go_roundw
      case rel => exact ⟨j + 1, by omega, by go_num, by go_num, by show OwnI _ _ _ _; rw [← midL_step hlt]; exact H.out.set (by rw [midL_length hj]; exact hlt) _, HS.out.setCell ⟨rfl, HNE.out⟩ _⟩
      case measure => simp [intOf]; omega
    · obtain rfl : j = xs.length := by omega
      go_wp2
      go_ret
      exact ⟨rfl, by rw [← midL_all]; exact H.out, HS.out⟩

set_option maxHeartbeats 400000 in
theorem heldIntS_any (A : Option Addr) (n c : Nat) (k : Int) (w : World) (h : Ints w w.heap.size A (seqL k n)) (hn : n ≤ 1048576) (hk : 0 ≤ k) (hk' : k ≤ 4398046511104) :
    Calls Tryd.prog 15 #[.slice A n c, .int .i64 k] w fun e w' => e = .returned (.int .i64 (k + n)) ∧ Below w.heap.size w w' := by
  have HO := Lib.hid h; clear h
  go_enter Tryd.func15, Tryd.ntmps15
  go_wp2
  go_loopw [1, 5] (fun v i wr => ∃ (j : Nat), j ≤ n ∧ i = .int .i64 j ∧ v = .int .i64 (k + j) ∧ Below w.heap.size w wr) (fun _ i _ => n - (intOf i).toNat)
  case atStart => exact ⟨0, by omega, rfl, by simp, Below.refl _ _⟩
  case round =>
    obtain ⟨j, hj, rfl, rfl, hB⟩ := hrel
    by_cases hlt : j < n
    · obtain ⟨b, o, rfl, hb, c1⟩ := (HO.out.keep hB).at_ (k := j) (by rw [seqL_length]; exact hlt)
      rw [seqL_at] at c1
      have hne : ((k + (j : Int)) != (k + (j : Int))) = false := by simp
      go_wp2
      go_roundw
      case rel => exact ⟨j + 1, by omega, by go_num, by go_num, hB⟩
      case measure => simp [intOf]; omega
    · obtain rfl : j = n := by omega
      go_wp2
      go_ret
      exact ⟨rfl, hB⟩

end Go.Proofs.YtbgjlabjihoaaaaDoor

/- What the laws' marks write into a grammar, and what they find again. -/

namespace Go.Proofs.YtbgjlabjihoaaaaDoor
open Go.RowKit

theorem OwnR.at_ {w : World} {lo : Nat} {A : Option Addr} {rs : List Ru} (h : OwnR w lo A rs) {i : Nat} (hi : i < rs.length) :
    ∃ g, A = some ⟨g, 0, none⟩ ∧ lo ≤ g ∧ g < w.heap.size ∧ w.cell? ⟨g, i * 2, none⟩ = some (.int .i64 rs[i].l) ∧ w.cell? ⟨g, i * 2 + 1, none⟩ = some (.slice rs[i].a rs[i].r.length rs[i].c) ∧ w.frozen? ⟨g, i * 2, none⟩ = false ∧ w.frozen? ⟨g, i * 2 + 1, none⟩ = false ∧ OwnI w lo rs[i].a rs[i].r := by
  rcases h with h | ⟨g, cs, ea, hl, hr, hc, _⟩
  · subst h; simp at hi
  · obtain ⟨h1, h2, h3⟩ := hc i _ (List.getElem?_eq_getElem hi)
    exact ⟨g, ea, hl, hr.lt, by rw [hr.cell]; exact h1, by rw [hr.cell]; exact h2, hr.frozen _, hr.frozen _, h3⟩

theorem OwnR.setLeft {w : World} {lo g : Nat} {rs : List Ru} (h : OwnR w lo (some ⟨g, 0, none⟩) rs) {i : Nat} (hi : i < rs.length) (x : Int) :
    OwnR (w.setCell ⟨g, i * 2, none⟩ (.int .i64 x)) lo (some ⟨g, 0, none⟩) (rs.set i { rs[i] with l := x }) := by
  rcases h with h | ⟨g', cs, ea, hl, hr, hc, hd⟩
  · subst h; simp at hi
  · injection ea with ea
    injection ea with ea
    subst ea
    have hlt : i * 2 < cs.size := (Array.getElem?_eq_some_iff.1 (hc i _ (List.getElem?_eq_getElem hi)).1).1
    have keep : ∀ {A' : Option Addr} {xs : List Int}, OwnI w lo A' xs → OwnI (w.setCell ⟨g, i * 2, none⟩ (.int .i64 x)) lo A' xs := by
      intro A' xs h
      rcases h with h | ⟨g', cs', e, hl', hr', hc'⟩
      · exact .inl h
      · exact .inr ⟨g', cs', e, hl', hr'.far (hr'.ne hr (by decide)) _, hc'⟩
    refine .inr ⟨g, cs.setIfInBounds (i * 2) (.int .i64 x), rfl, hl, hr.set _ _, fun k u hu => ?_, fun a b u v hu hv hab hun hvn => ?_⟩
    · rw [List.getElem?_set] at hu
      by_cases e : i = k
      · subst e
        rw [if_pos rfl, if_pos hi] at hu
        injection hu with hu
        subst hu
        obtain ⟨_, h2, h3⟩ := hc i _ (List.getElem?_eq_getElem hi)
        refine ⟨by rw [Array.getElem?_setIfInBounds, if_pos rfl, if_pos hlt], ?_, keep h3⟩
        rw [Array.getElem?_setIfInBounds, if_neg (by omega)]; exact h2
      · rw [if_neg e] at hu
        obtain ⟨h1, h2, h3⟩ := hc k u hu
        refine ⟨?_, ?_, keep h3⟩
        · rw [Array.getElem?_setIfInBounds, if_neg (by omega)]; exact h1
        · rw [Array.getElem?_setIfInBounds, if_neg (by omega)]; exact h2
    · have old : ∀ (j : Nat) (y : Ru), (rs.set i { rs[i] with l := x })[j]? = some y → ∃ z, rs[j]? = some z ∧ z.a = y.a ∧ z.r = y.r := by
        intro j y hy
        rw [List.getElem?_set] at hy
        by_cases e : i = j
        · subst e
          rw [if_pos rfl, if_pos hi] at hy
          injection hy with hy
          subst hy
          exact ⟨rs[i], List.getElem?_eq_getElem hi, rfl, rfl⟩
        · rw [if_neg e] at hy
          exact ⟨y, hy, rfl, rfl⟩
      obtain ⟨u', hu', e1, e2⟩ := old a u hu
      obtain ⟨v', hv', e3, e4⟩ := old b v hv
      rw [← e1, ← e3]
      exact hd a b u' v' hu' hv' hab (by rw [e2]; exact hun) (by rw [e4]; exact hvn)

theorem OwnR.setRight {w w' : World} {lo : Nat} {A : Option Addr} {rs : List Ru} (h : OwnR w lo A rs) {i : Nat} (hi : i < rs.length) {ys : List Int} (hy : ys.length = rs[i].r.length)
    (hO : OwnI w' lo rs[i].a ys) (hs : Save (Its rs[i].a rs[i].r) w w') : OwnR w' lo A (rs.set i { rs[i] with r := ys }) := by
  rcases h with h | ⟨g, cs, ea, hl, hr, hc, hd⟩
  · subst h; simp at hi
  · have hgi : ¬ Its rs[i].a rs[i].r g := by
      rintro ⟨e1, e2⟩
      rcases (hc i _ (List.getElem?_eq_getElem hi)).2.2 with h3 | ⟨g', cs', e3, _, hr', _⟩
      · exact e2 h3
      · rw [e1] at e3
        injection e3 with e3
        injection e3 with e3
        exact hr'.ne hr (by decide) e3.symm
    refine .inr ⟨g, cs, ea, hl, hr.save hs hgi, fun k u hu => ?_, fun a b u v hu hv hab hun hvn => ?_⟩
    · rw [List.getElem?_set] at hu
      by_cases e : i = k
      · subst e
        rw [if_pos rfl, if_pos hi] at hu
        injection hu with hu
        subst hu
        obtain ⟨h1, h2, _⟩ := hc i _ (List.getElem?_eq_getElem hi)
        exact ⟨h1, by rw [hy]; exact h2, hO⟩
      · rw [if_neg e] at hu
        obtain ⟨h1, h2, h3⟩ := hc k u hu
        refine ⟨h1, h2, h3.save hs fun g' e1 e2 hI => ?_⟩
        exact hd k i u rs[i] hu (List.getElem?_eq_getElem hi) (Ne.symm e) e2 hI.2 (e1.trans hI.1.symm)
    · have old : ∀ (j : Nat) (y : Ru), (rs.set i { rs[i] with r := ys })[j]? = some y → ∃ z, rs[j]? = some z ∧ z.a = y.a ∧ (y.r ≠ [] → z.r ≠ []) := by
        intro j y hy'
        rw [List.getElem?_set] at hy'
        by_cases e : i = j
        · subst e
          rw [if_pos rfl, if_pos hi] at hy'
          injection hy' with hy'
          subst hy'
          refine ⟨rs[i], List.getElem?_eq_getElem hi, rfl, fun hn e => hn ?_⟩
          have : ys.length = 0 := by rw [hy, e]; rfl
          exact List.eq_nil_of_length_eq_zero this
        · rw [if_neg e] at hy'
          exact ⟨y, hy', rfl, id⟩
      obtain ⟨u', hu', e1, e2⟩ := old a u hu
      obtain ⟨v', hv', e3, e4⟩ := old b v hv
      rw [← e1, ← e3]
      exact hd a b u' v' hu' hv' hab (e2 hun) (e4 hvn)

/-- How many numbers the first i rules hold. -/
def cntTo (rs : List Ru) (i : Nat) : Nat := ((rs.take i).map fun u => 1 + u.r.length).sum
theorem cntTo_succ {rs : List Ru} {i : Nat} (hi : i < rs.length) : cntTo rs (i + 1) = cntTo rs i + (1 + rs[i].r.length) := by
  unfold cntTo
  rw [List.take_succ_eq_append_getElem hi, List.map_append, List.sum_append]
  simp
theorem cntTo_zero (rs : List Ru) : cntTo rs 0 = 0 := by simp [cntTo]

def markU (k : Int) (u : Ru) : Ru := { u with l := k, r := seqL (k + 1) u.r.length }
/-- The rules with the first i of them marked from k on. -/
def markL (k : Int) (rs : List Ru) (i : Nat) : List Ru := rs.mapIdx fun j u => if j < i then markU (k + (cntTo rs j : Int)) u else u
theorem markL_length (k : Int) (rs : List Ru) (i : Nat) : (markL k rs i).length = rs.length := by simp [markL]
theorem markL_at {k : Int} {rs : List Ru} {i j : Nat} (h : j < rs.length) (hj : j < (markL k rs i).length) : (markL k rs i)[j] = if j < i then markU (k + (cntTo rs j : Int)) rs[j] else rs[j] := by simp [markL]
theorem markL_zero (k : Int) (rs : List Ru) : markL k rs 0 = rs := by
  apply List.ext_getElem?
  intro j
  simp [markL]
theorem markL_step {k : Int} {rs : List Ru} {i : Nat} (h : i < rs.length) : (markL k rs i).set i (markU (k + (cntTo rs i : Int)) rs[i]) = markL k rs (i + 1) := by
  apply List.ext_getElem?
  intro j
  rw [List.getElem?_set, markL_length]
  by_cases e : i = j
  · subst e
    rw [if_pos rfl, if_pos h]
    simp [markL, h]
  · rw [if_neg e]
    simp only [markL, List.getElem?_mapIdx]
    by_cases hj : j < rs.length
    · rw [List.getElem?_eq_getElem hj]
      simp only [Option.map_some]
      congr 1
      by_cases hji : j < i
      · rw [if_pos hji, if_pos (by omega)]
      · rw [if_neg hji, if_neg (by omega)]
    · rw [List.getElem?_eq_none (by omega)]
      rfl

/-- The blocks of a slice of rules and of their right sides. -/
def ItsR (A : Option Addr) (rs : List Ru) (b : Nat) : Prop := (A = some ⟨b, 0, none⟩ ∧ rs ≠ []) ∨ ∃ (i : Nat) (u : Ru), rs[i]? = some u ∧ Its u.a u.r b

def MarkedR (w : World) (lo : Nat) (A : Option Addr) (rs : List Ru) (k : Int) (e : Ending) (w' : World) : Prop :=
  e = .returned (.int .i64 (k + (cntTo rs rs.length : Int))) ∧ OwnR w' lo A (markL k rs rs.length) ∧ Save (ItsR A rs) w w'

theorem set_left_right {rs : List Ru} {i : Nat} (h : i < rs.length) (x : Int) (ys : List Int) :
    ((rs.set i { rs[i] with l := x }).set i { (rs.set i { rs[i] with l := x })[i]'(by simpa using h) with r := ys }) = rs.set i { rs[i] with l := x, r := ys } := by
  rw [List.set_set]
  congr 1
  simp

theorem mark_right {wr : World} {lo g j : Nat} {rs : List Ru} {k : Int} (H : OwnR wr lo (some ⟨g, 0, none⟩) (markL k rs j)) (hlt : j < rs.length) (x : Int) : OwnI (wr.setCell ⟨g, j * 2, none⟩ (.int .i64 x)) lo rs[j].a rs[j].r := by
  have hlt' : j < (markL k rs j).length := by rw [markL_length]; exact hlt
  have hat : (markL k rs j)[j] = rs[j] := by rw [markL_at hlt, if_neg (by omega)]
  obtain ⟨_, _, _, _, _, _, _, _, h3⟩ := (H.setLeft hlt' x).at_ (i := j) (by simpa using hlt')
  simpa [hat] using h3

theorem mark_next {wr w1 : World} {lo g j : Nat} {rs : List Ru} {k : Int} (H : OwnR wr lo (some ⟨g, 0, none⟩) (markL k rs j)) (hlt : j < rs.length)
    (hO : OwnI w1 lo rs[j].a (seqL (k + (cntTo rs j : Int) + 1) rs[j].r.length)) (hS : Save (Its rs[j].a rs[j].r) (wr.setCell ⟨g, j * 2, none⟩ (.int .i64 (k + (cntTo rs j : Int)))) w1) :
    OwnR w1 lo (some ⟨g, 0, none⟩) (markL k rs (j + 1)) := by
  have hlt' : j < (markL k rs j).length := by rw [markL_length]; exact hlt
  have hat : (markL k rs j)[j] = rs[j] := by rw [markL_at hlt, if_neg (by omega)]
  have h2 := (H.setLeft hlt' (k + (cntTo rs j : Int))).setRight (i := j) (w' := w1) (ys := seqL (k + (cntTo rs j : Int) + 1) rs[j].r.length) (by simpa using hlt') (by simp [hat, seqL_length]) (by simpa [hat] using hO) (by simpa [hat] using hS)
  rw [set_left_right] at h2
  rw [← markL_step hlt]
  simpa [hat, markU] using h2

set_option maxHeartbeats 400000 in
theorem markRuleS_any (A : Option Addr) (rs : List Ru) (c lo : Nat) (k : Int) (w : World) (h : OwnR w lo A rs) (hn : rs.length ≤ 1048576) (hu : ∀ u ∈ rs, u.r.length ≤ 1048576) (hk : 0 ≤ k) (hk' : k ≤ 16) :
    Calls Tryd.prog 46 #[.slice A rs.length c, .int .i64 k] w (MarkedR w lo A rs k) := by
  have HO := Lib.hid h; clear h
  have HU := Lib.hid hu; clear hu
  go_enter Tryd.func46, Tryd.ntmps46
  go_wp2
  go_loopw [1, 5] (fun v i wr => ∃ (j : Nat), j ≤ rs.length ∧ i = .int .i64 j ∧ v = .int .i64 (k + (cntTo rs j : Int)) ∧ cntTo rs j ≤ j * 1048577 ∧ Hid (OwnR wr lo A (markL k rs j)) ∧ Hid (Save (ItsR A rs) w wr)) (fun _ i _ => rs.length - (intOf i).toNat)
  case atStart => exact ⟨0, by omega, rfl, by simp [cntTo_zero], by simp [cntTo_zero], by show OwnR _ _ _ _; rw [markL_zero]; exact HO.out, Save.refl _ _⟩
  case round =>
    obtain ⟨j, hj, rfl, rfl, hcn, H, HS⟩ := hrel
    by_cases hlt : j < rs.length
    · have hlt' : j < (markL k rs j).length := by rw [markL_length]; exact hlt
      have hat : (markL k rs j)[j] = rs[j] := by rw [markL_at hlt, if_neg (by omega)]
      obtain ⟨g, rfl, _, _, c1, c2, f1, f2, c3⟩ := H.out.at_ hlt'
      rw [hat] at c1 c2
      have hul := HU.out rs[j] (List.getElem_mem hlt)
      have HCS := Lib.hid (cntTo_succ hlt)
      clear c3 hat hlt'
      go_wp2_with fail
      refine (markIntS_any _ _ _ lo _ _ (mark_right H.out hlt _) hul (by omega) (by omega)).mono ?_
      rintro e w1 ⟨rfl, hO1, hS1⟩
      have HO1 := Lib.hid hO1; clear hO1
      have HS1 := Lib.hid hS1; clear hS1
      go_wp2
      go_roundw
      case rel => exact ⟨j + 1, by omega, by go_num, by rw [HCS.out]; go_num, by rw [HCS.out]; omega, mark_next H.out hlt HO1.out HS1.out, (HS.out.setCell (.inl ⟨rfl, fun e => by subst e; simp at hlt⟩) _).trans (HS1.out.wider fun i hi => .inr ⟨j, rs[j], List.getElem?_eq_getElem hlt, hi⟩)⟩
      case measure => simp [intOf]; omega
    · obtain rfl : j = rs.length := by omega
      go_wp2
      go_ret
      exact ⟨rfl, H.out, HS.out⟩

theorem cntTo_le {rs : List Ru} (hu : ∀ u ∈ rs, u.r.length ≤ 1048576) (i : Nat) : cntTo rs i ≤ i * 1048577 := by
  induction i with
  | zero => simp [cntTo_zero]
  | succ i ih =>
    by_cases h : i < rs.length
    · have := hu rs[i] (List.getElem_mem h)
      rw [cntTo_succ h]; omega
    · have e : cntTo rs (i + 1) = cntTo rs i := by unfold cntTo; rw [List.take_of_length_le (by omega), List.take_of_length_le (by omega)]
      omega

set_option maxHeartbeats 400000 in
theorem markGrammar_any (n t : Int) (A : Option Addr) (rs : List Ru) (c lo : Nat) (k : Int) (w : World) (h : OwnR w lo A rs) (hn : rs.length ≤ 1048576) (hu : ∀ u ∈ rs, u.r.length ≤ 1048576) (hk : 0 ≤ k) (hk' : k ≤ 16) :
    Calls Tryd.prog 21 #[.agg #[.int .i64 n, .int .i64 t, .slice A rs.length c], .int .i64 k] w (MarkedR w lo A rs k) := by
  have HB0 : Hid (Below w.heap.size w (w.alloc (.cells #[.int .i64 n, .int .i64 t, .slice A rs.length c] 47))) := by show Below _ _ _; go_grown
  have HO := Lib.hid (h.below HB0.out (Nat.le_refl _)); clear h
  have HU := Lib.hid hu; clear hu
  go_enter Tryd.func21, Tryd.ntmps21
  go_wp2_with fail
  refine (markRuleS_any _ _ _ lo _ _ HO.out hn HU.out hk hk').mono ?_
  rintro e w1 ⟨rfl, hO1, hS1⟩
  have HO1 := Lib.hid hO1; clear hO1
  have HS1 := Lib.hid hS1; clear hS1
  go_wp2
  go_ret
  exact ⟨rfl, HO1.out, (Save.of_below HB0.out).trans HS1.out⟩



end Go.Proofs.YtbgjlabjihoaaaaDoor

/- What it means that slices in memory read as a forest's nodes and edges. No condition. -/

namespace Go.Proofs.YtbgjlabjihoaaaaDoor
open Go.RowKit

/-- A node: its nonterminal, from, to. -/
structure Nd where
  n : Int
  f : Int
  t : Int
deriving DecidableEq

/-- The nodes' numbers, one behind the other. -/
def flatN : List Nd → List Int
  | [] => []
  | d :: r => d.n :: d.f :: d.t :: flatN r
theorem flatN_len : ∀ ds : List Nd, (flatN ds).length = 3 * ds.length
  | [] => rfl
  | d :: r => by simp only [flatN, List.length_cons, flatN_len r]; omega
theorem flatN_at : ∀ {ds : List Nd} {i : Nat} (h : i < ds.length), (flatN ds)[i * 3]? = some ds[i].n ∧ (flatN ds)[i * 3 + 1]? = some ds[i].f ∧ (flatN ds)[i * 3 + 2]? = some ds[i].t
  | d :: r, 0, _ => ⟨rfl, rfl, rfl⟩
  | d :: r, i + 1, h => by
    have ih := flatN_at (ds := r) (i := i) (by simpa using h)
    rw [show (i + 1) * 3 = i * 3 + 1 + 1 + 1 by omega]
    simp only [flatN, List.getElem?_cons_succ, List.getElem_cons_succ]
    exact ih
theorem flatN_nil {ds : List Nd} : flatN ds = [] ↔ ds = [] := by cases ds <;> simp [flatN]
theorem flatN_app (ds es : List Nd) : flatN (ds ++ es) = flatN ds ++ flatN es := by
  induction ds with
  | nil => rfl
  | cons d r ih => simp [flatN, ih]

/-- The cells from A on read as the nodes ds, below block B. -/
def Nds (w : World) (B : Nat) (A : Option Addr) (ds : List Nd) : Prop := Ints w B A (flatN ds)
theorem Nds.keep {w w' : World} {B : Nat} {A : Option Addr} {ds : List Nd} (h : Nds w B A ds) (hk : Below B w w') : Nds w' B A ds := Ints.keep h hk
theorem Nds.more {w : World} {B B' : Nat} {A : Option Addr} {ds : List Nd} (h : Nds w B A ds) (hB : B ≤ B') : Nds w B' A ds := Ints.more h hB
theorem Nds.at_ {w : World} {B : Nat} {A : Option Addr} {ds : List Nd} (h : Nds w B A ds) {i : Nat} (hi : i < ds.length) :
    ∃ b o, A = some ⟨b, o, none⟩ ∧ b < B ∧ w.cell? ⟨b, o + i * 3, none⟩ = some (.int .i64 ds[i].n) ∧ w.cell? ⟨b, o + i * 3 + 1, none⟩ = some (.int .i64 ds[i].f) ∧
      w.cell? ⟨b, o + i * 3 + 2, none⟩ = some (.int .i64 ds[i].t) := by
  obtain ⟨b, o, e, hb, hc⟩ := h (by rw [flatN_len]; omega)
  obtain ⟨h0, h1, h2⟩ := flatN_at hi
  exact ⟨b, o, e, hb, hc _ _ h0, hc _ _ h1, hc _ _ h2⟩

/-- The slice that begins at A is the call's own and reads as the numbers xs, in a row of things of type t. -/
def OwnTy (w : World) (lo : Nat) (t : TypeId) (A : Option Addr) (xs : List Int) : Prop :=
  xs = [] ∨ ∃ (g : Nat) (cs : Array Value), A = some ⟨g, 0, none⟩ ∧ lo ≤ g ∧ Row w g t cs ∧ ∀ (k : Nat) (x : Int), xs[k]? = some x → cs[k]? = some (.int .i64 x)
theorem OwnTy.ints {w : World} {lo : Nat} {t : TypeId} {A : Option Addr} {xs : List Int} (h : OwnTy w lo t A xs) : Ints w w.heap.size A xs := by
  intro hn
  rcases h with rfl | ⟨g, cs, rfl, _, hr, hc⟩
  · simp at hn
  · exact ⟨g, 0, rfl, hr.lt, fun k x hx => by rw [hr.cell, Nat.zero_add]; exact hc k x hx⟩
theorem OwnTy.below {w w' : World} {lo B : Nat} {t : TypeId} {A : Option Addr} {xs : List Int} (h : OwnTy w lo t A xs) (hb : Below B w w') (hB : w.heap.size ≤ B) : OwnTy w' lo t A xs := by
  rcases h with h | ⟨g, cs, e, hl, hr, hc⟩
  · exact .inl h
  · exact .inr ⟨g, cs, e, hl, hr.below hb (by have := hr.lt; omega), hc⟩
theorem OwnTy.lower {w : World} {lo lo' : Nat} {t : TypeId} {A : Option Addr} {xs : List Int} (h : OwnTy w lo t A xs) (hl : lo' ≤ lo) : OwnTy w lo' t A xs := by
  rcases h with h | ⟨g, cs, e, h1, hr, hc⟩
  · exact .inl h
  · exact .inr ⟨g, cs, e, by omega, hr, hc⟩
theorem OwnTy.low {w : World} {lo : Nat} {t : TypeId} {A : Option Addr} {xs : List Int} (h : OwnTy w lo t A xs) {p : Addr} (hp : p.block < lo) (u : Value) : OwnTy (w.setCell p u) lo t A xs := by
  rcases h with h | ⟨g, cs, e, hl, hr, hc⟩
  · exact .inl h
  · exact .inr ⟨g, cs, e, hl, hr.far (by omega) u, hc⟩
theorem OwnTy.far {w : World} {lo : Nat} {t : TypeId} {A : Option Addr} {xs : List Int} (h : OwnTy w lo t A xs) {p : Addr} (hp : ∀ g cs, Row w g t cs → g ≠ p.block) (u : Value) : OwnTy (w.setCell p u) lo t A xs := by
  rcases h with h | ⟨g, cs, e, hl, hr, hc⟩
  · exact .inl h
  · exact .inr ⟨g, cs, e, hl, hr.far (hp g cs hr) u, hc⟩
theorem OwnTy.save {S : Nat → Prop} {w w' : World} {lo : Nat} {t : TypeId} {A : Option Addr} {xs : List Int} (h : OwnTy w lo t A xs) (hs : Save S w w') (hA : ∀ g, A = some ⟨g, 0, none⟩ → xs ≠ [] → ¬ S g) : OwnTy w' lo t A xs := by
  by_cases e : xs = []
  · exact .inl e
  · rcases h with h | ⟨g, cs, ea, hl, hr, hc⟩
    · exact .inl h
    · exact .inr ⟨g, cs, ea, hl, hr.save hs (hA g ea e), hc⟩
theorem OwnTy.at_ {w : World} {lo : Nat} {t : TypeId} {A : Option Addr} {xs : List Int} (h : OwnTy w lo t A xs) {i : Nat} (hi : i < xs.length) :
    ∃ g, A = some ⟨g, 0, none⟩ ∧ lo ≤ g ∧ g < w.heap.size ∧ w.cell? ⟨g, i, none⟩ = some (.int .i64 xs[i]) ∧ w.frozen? ⟨g, i, none⟩ = false := by
  rcases h with h | ⟨g, cs, ea, hl, hr, hc⟩
  · subst h; simp at hi
  · exact ⟨g, ea, hl, hr.lt, by rw [hr.cell]; exact hc i _ (List.getElem?_eq_getElem hi), hr.frozen i⟩
theorem OwnTy.set {w : World} {lo g : Nat} {t : TypeId} {xs : List Int} (h : OwnTy w lo t (some ⟨g, 0, none⟩) xs) {i : Nat} (hi : i < xs.length) (x : Int) :
    OwnTy (w.setCell ⟨g, i, none⟩ (.int .i64 x)) lo t (some ⟨g, 0, none⟩) (xs.set i x) := by
  rcases h with h | ⟨g', cs, ea, hl, hr, hc⟩
  · subst h; simp at hi
  · injection ea with ea
    injection ea with ea
    subst ea
    have hlt : i < cs.size := (Array.getElem?_eq_some_iff.1 (hc i _ (List.getElem?_eq_getElem hi))).1
    refine .inr ⟨g, cs.setIfInBounds i (.int .i64 x), rfl, hl, hr.set i _, fun k y hy => ?_⟩
    rw [List.getElem?_set] at hy
    rw [Array.getElem?_setIfInBounds]
    by_cases e : i = k
    · subst e
      rw [if_pos rfl, if_pos hi] at hy
      rw [if_pos rfl, if_pos hlt]
      simpa using hy
    · rw [if_neg e] at hy ⊢
      exact hc k y hy

/-- The slice of nodes that begins at A is the call's own and reads as ds. -/
def OwnNd (w : World) (lo : Nat) (A : Option Addr) (ds : List Nd) : Prop := OwnTy w lo 86 A (flatN ds)
theorem OwnNd.nds {w : World} {lo : Nat} {A : Option Addr} {ds : List Nd} (h : OwnNd w lo A ds) : Nds w w.heap.size A ds := OwnTy.ints h
theorem OwnNd.below {w w' : World} {lo B : Nat} {A : Option Addr} {ds : List Nd} (h : OwnNd w lo A ds) (hb : Below B w w') (hB : w.heap.size ≤ B) : OwnNd w' lo A ds := OwnTy.below h hb hB
theorem OwnNd.lower {w : World} {lo lo' : Nat} {A : Option Addr} {ds : List Nd} (h : OwnNd w lo A ds) (hl : lo' ≤ lo) : OwnNd w lo' A ds := OwnTy.lower h hl
theorem OwnNd.low {w : World} {lo : Nat} {A : Option Addr} {ds : List Nd} (h : OwnNd w lo A ds) {p : Addr} (hp : p.block < lo) (u : Value) : OwnNd (w.setCell p u) lo A ds := OwnTy.low h hp u

/-- An edge as it lies in memory: its node, its rule, its cuts: where they lie, what they read as, their capacity. -/
structure Eg where
  n : Int
  e : Int
  a : Option Addr
  r : List Int
  c : Nat

/-- What an edge says, wherever it lies. -/
structure Es where
  n : Int
  e : Int
  r : List Int
deriving DecidableEq
def Eg.abs (u : Eg) : Es := ⟨u.n, u.e, u.r⟩

/-- The cells from A on read as the edges es, below block B. -/
def Egs (w : World) (B : Nat) (A : Option Addr) (es : List Eg) : Prop :=
  0 < es.length → ∃ b o, A = some ⟨b, o, none⟩ ∧ b < B ∧ ∀ k u, es[k]? = some u →
    w.cell? ⟨b, o + k * 3, none⟩ = some (.int .i64 u.n) ∧ w.cell? ⟨b, o + k * 3 + 1, none⟩ = some (.int .i64 u.e) ∧ w.cell? ⟨b, o + k * 3 + 2, none⟩ = some (.slice u.a u.r.length u.c) ∧ Ints w B u.a u.r
theorem Egs.keep {w w' : World} {B : Nat} {A : Option Addr} {es : List Eg} (h : Egs w B A es) (hk : Below B w w') : Egs w' B A es := by
  intro hn
  obtain ⟨b, o, e, hb, hc⟩ := h hn
  refine ⟨b, o, e, hb, fun k u hu => ?_⟩
  obtain ⟨h1, h2, h3, h4⟩ := hc k u hu
  exact ⟨(hk.cell (p := ⟨b, o + k * 3, none⟩) hb).trans h1, (hk.cell (p := ⟨b, o + k * 3 + 1, none⟩) hb).trans h2, (hk.cell (p := ⟨b, o + k * 3 + 2, none⟩) hb).trans h3, h4.keep hk⟩
theorem Egs.more {w : World} {B B' : Nat} {A : Option Addr} {es : List Eg} (h : Egs w B A es) (hB : B ≤ B') : Egs w B' A es := by
  intro hn
  obtain ⟨b, o, e, hb, hc⟩ := h hn
  refine ⟨b, o, e, by omega, fun k u hu => ?_⟩
  obtain ⟨h1, h2, h3, h4⟩ := hc k u hu
  exact ⟨h1, h2, h3, h4.more hB⟩
theorem Egs.at_ {w : World} {B : Nat} {A : Option Addr} {es : List Eg} (h : Egs w B A es) {k : Nat} (hk : k < es.length) :
    ∃ b o, A = some ⟨b, o, none⟩ ∧ b < B ∧ w.cell? ⟨b, o + k * 3, none⟩ = some (.int .i64 es[k].n) ∧ w.cell? ⟨b, o + k * 3 + 1, none⟩ = some (.int .i64 es[k].e) ∧ w.cell? ⟨b, o + k * 3 + 2, none⟩ = some (.slice es[k].a es[k].r.length es[k].c) ∧ Ints w B es[k].a es[k].r := by
  obtain ⟨b, o, e, hb, hc⟩ := h (by omega)
  exact ⟨b, o, e, hb, hc k _ (List.getElem?_eq_getElem hk)⟩

/-- The slice of edges that begins at A, and each of their cuts, are the call's own and read as es; no two cuts lie in one block. -/
def OwnEg (w : World) (lo : Nat) (A : Option Addr) (es : List Eg) : Prop :=
  es = [] ∨ ∃ (g : Nat) (cs : Array Value), A = some ⟨g, 0, none⟩ ∧ lo ≤ g ∧ Row w g 67 cs ∧
    (∀ (k : Nat) (u : Eg), es[k]? = some u → cs[k * 3]? = some (.int .i64 u.n) ∧ cs[k * 3 + 1]? = some (.int .i64 u.e) ∧ cs[k * 3 + 2]? = some (.slice u.a u.r.length u.c) ∧ OwnI w lo u.a u.r) ∧
    ∀ (i j : Nat) (u v : Eg), es[i]? = some u → es[j]? = some v → i ≠ j → u.r ≠ [] → v.r ≠ [] → u.a ≠ v.a
theorem OwnEg.egs {w : World} {lo : Nat} {A : Option Addr} {es : List Eg} (h : OwnEg w lo A es) : Egs w w.heap.size A es := by
  intro hn
  rcases h with rfl | ⟨g, cs, rfl, _, hr, hc, _⟩
  · simp at hn
  · refine ⟨g, 0, rfl, hr.lt, fun k u hu => ?_⟩
    obtain ⟨h1, h2, h3, h4⟩ := hc k u hu
    exact ⟨by rw [hr.cell, Nat.zero_add]; exact h1, by rw [hr.cell, Nat.zero_add]; exact h2, by rw [hr.cell, Nat.zero_add]; exact h3, h4.ints⟩
theorem OwnEg.below {w w' : World} {lo B : Nat} {A : Option Addr} {es : List Eg} (h : OwnEg w lo A es) (hb : Below B w w') (hB : w.heap.size ≤ B) : OwnEg w' lo A es := by
  rcases h with h | ⟨g, cs, e, hl, hr, hc, hd⟩
  · exact .inl h
  · refine .inr ⟨g, cs, e, hl, hr.below hb (by have := hr.lt; omega), fun k u hu => ?_, hd⟩
    obtain ⟨h1, h2, h3, h4⟩ := hc k u hu
    exact ⟨h1, h2, h3, h4.below hb hB⟩
theorem OwnEg.lower {w : World} {lo lo' : Nat} {A : Option Addr} {es : List Eg} (h : OwnEg w lo A es) (hl : lo' ≤ lo) : OwnEg w lo' A es := by
  rcases h with h | ⟨g, cs, e, h1, hr, hc, hd⟩
  · exact .inl h
  · refine .inr ⟨g, cs, e, by omega, hr, fun k u hu => ?_, hd⟩
    obtain ⟨a, b, c, d⟩ := hc k u hu
    exact ⟨a, b, c, d.lower hl⟩
theorem OwnEg.low {w : World} {lo : Nat} {A : Option Addr} {es : List Eg} (h : OwnEg w lo A es) {p : Addr} (hp : p.block < lo) (u : Value) : OwnEg (w.setCell p u) lo A es := by
  rcases h with h | ⟨g, cs, e, hl, hr, hc, hd⟩
  · exact .inl h
  · refine .inr ⟨g, cs, e, hl, hr.far (by omega) u, fun k v hv => ?_, hd⟩
    obtain ⟨h1, h2, h3, h4⟩ := hc k v hv
    exact ⟨h1, h2, h3, h4.low hp u⟩
theorem OwnEg.at_ {w : World} {lo : Nat} {A : Option Addr} {es : List Eg} (h : OwnEg w lo A es) {i : Nat} (hi : i < es.length) :
    ∃ g, A = some ⟨g, 0, none⟩ ∧ lo ≤ g ∧ g < w.heap.size ∧ w.cell? ⟨g, i * 3, none⟩ = some (.int .i64 es[i].n) ∧ w.cell? ⟨g, i * 3 + 1, none⟩ = some (.int .i64 es[i].e) ∧ w.cell? ⟨g, i * 3 + 2, none⟩ = some (.slice es[i].a es[i].r.length es[i].c) ∧
      w.frozen? ⟨g, i * 3, none⟩ = false ∧ w.frozen? ⟨g, i * 3 + 1, none⟩ = false ∧ w.frozen? ⟨g, i * 3 + 2, none⟩ = false ∧ OwnI w lo es[i].a es[i].r := by
  rcases h with h | ⟨g, cs, ea, hl, hr, hc, _⟩
  · subst h; simp at hi
  · obtain ⟨h1, h2, h3, h4⟩ := hc i _ (List.getElem?_eq_getElem hi)
    exact ⟨g, ea, hl, hr.lt, by rw [hr.cell]; exact h1, by rw [hr.cell]; exact h2, by rw [hr.cell]; exact h3, hr.frozen _, hr.frozen _, hr.frozen _, h4⟩

/-- A forest as it lies in memory: its nodes, its edges. -/
structure Fo where
  a : Option Addr
  ns : List Nd
  c : Nat
  b : Option Addr
  es : List Eg
  d : Nat
/-- What a forest says, wherever it lies. -/
structure Fs where
  ns : List Nd
  es : List Es
deriving DecidableEq
def Fo.say (f : Fo) : Fs := ⟨f.ns, f.es.map Eg.abs⟩
def ReadF (w : World) (B : Nat) (f : Fo) : Prop := Nds w B f.a f.ns ∧ Egs w B f.b f.es
theorem ReadF.keep {w w' : World} {B : Nat} {f : Fo} (h : ReadF w B f) (hk : Below B w w') : ReadF w' B f := ⟨h.1.keep hk, h.2.keep hk⟩
theorem ReadF.more {w : World} {B B' : Nat} {f : Fo} (h : ReadF w B f) (hB : B ≤ B') : ReadF w B' f := ⟨h.1.more hB, h.2.more hB⟩
/-- None of its lists is longer than m. -/
structure LenF (m : Nat) (f : Fo) : Prop where
  n : f.ns.length ≤ m
  e : f.es.length ≤ m
  r : ∀ u ∈ f.es, u.r.length ≤ m
/-- Its lists have room for what they hold. -/
structure CapF (f : Fo) : Prop where
  n : f.ns.length ≤ f.c
  e : f.es.length ≤ f.d
def OwnF (w : World) (lo : Nat) (f : Fo) : Prop := OwnNd w lo f.a f.ns ∧ OwnEg w lo f.b f.es
theorem OwnF.read {w : World} {lo : Nat} {f : Fo} (h : OwnF w lo f) : ReadF w w.heap.size f := ⟨h.1.nds, h.2.egs⟩
theorem OwnF.below {w w' : World} {lo B : Nat} {f : Fo} (h : OwnF w lo f) (hb : Below B w w') (hB : w.heap.size ≤ B) : OwnF w' lo f := ⟨h.1.below hb hB, h.2.below hb hB⟩
theorem OwnF.lower {w : World} {lo lo' : Nat} {f : Fo} (h : OwnF w lo f) (hl : lo' ≤ lo) : OwnF w lo' f := ⟨h.1.lower hl, h.2.lower hl⟩
theorem OwnF.low {w : World} {lo : Nat} {f : Fo} (h : OwnF w lo f) {p : Addr} (hp : p.block < lo) (u : Value) : OwnF (w.setCell p u) lo f := ⟨h.1.low hp u, h.2.low hp u⟩
theorem LenF.of_say {m : Nat} {f f' : Fo} (h : LenF m f) (e : f'.say = f.say) : LenF m f' := by
  have e1 : f'.ns = f.ns := congrArg Fs.ns e
  have e2 : f'.es.map Eg.abs = f.es.map Eg.abs := congrArg Fs.es e
  refine ⟨by rw [e1]; exact h.n, by have := congrArg List.length e2; simp only [List.length_map] at this; rw [this]; exact h.e, fun u hu => ?_⟩
  have : u.abs ∈ f.es.map Eg.abs := e2 ▸ List.mem_map_of_mem hu
  obtain ⟨v, hv, e'⟩ := List.mem_map.1 this
  rw [show u.r = v.r from (congrArg Es.r e').symm]
  exact h.r v hv

end Go.Proofs.YtbgjlabjihoaaaaDoor

/- From the reading of an argument to its cells: a forest. -/

namespace Go.Proofs.YtbgjlabjihoaaaaDoor
open Go.ChangeShapes Go.WideShapes Go.ChangeAt Go.RowKit Go.Deep Go.Joins

theorem Tryd.cellsNodeL : Tryd.prog.cellsOf 88 = 3 := by kernel_rfl
theorem Tryd.cellsEdgeL : Tryd.prog.cellsOf 84 = 3 := by kernel_rfl
theorem Tryd.cellsForestL : Tryd.prog.cellsOf 25 = 2 := by kernel_rfl
theorem Tryd.cellsNodeSL : Tryd.prog.cellsOf 22 = 1 := by kernel_rfl
instance inhNd : Inhabited Nd := ⟨⟨0, 0, 0⟩⟩
instance inhEg : Inhabited Eg := ⟨⟨0, 0, none, [], 0⟩⟩

theorem nds_of {w : World} {B b o : Nat} {ds : List Nd} (hb : b < B) (h : ∀ (i : Nat) (u : Nd), ds[i]? = some u → w.cell? ⟨b, o + i * 3, none⟩ = some (.int .i64 u.n) ∧ w.cell? ⟨b, o + i * 3 + 1, none⟩ = some (.int .i64 u.f) ∧ w.cell? ⟨b, o + i * 3 + 2, none⟩ = some (.int .i64 u.t)) : Nds w B (some ⟨b, o, none⟩) ds := by
  intro _
  refine ⟨b, o, rfl, hb, fun k x hx => ?_⟩
  have hk := (List.getElem?_eq_some_iff.1 hx).1
  rw [flatN_len] at hk
  have hi : k / 3 < ds.length := by omega
  obtain ⟨f0, f1, f2⟩ := flatN_at hi
  obtain ⟨c0, c1, c2⟩ := h (k / 3) _ (List.getElem?_eq_getElem hi)
  rcases (show k = k / 3 * 3 ∨ k = k / 3 * 3 + 1 ∨ k = k / 3 * 3 + 2 by omega) with e | e | e
  · rw [e] at hx ⊢; rw [f0] at hx; injection hx with hx; subst hx; exact c0
  · rw [e] at hx ⊢; rw [f1] at hx; injection hx with hx; subst hx; rw [← Nat.add_assoc]; exact c1
  · rw [e] at hx ⊢; rw [f2] at hx; injection hx with hx; subst hx; rw [← Nat.add_assoc]; exact c2

section
variable {H : Type} {enc : TypeId × Value → H} {W : World} {spare : Nat → Bool} {held : Bool}

set_option maxRecDepth 100000 in
theorem open_nodeS {fuel : Nat} {v : Value} {y : DataW H × List MemPlace} (h : DataW.trod enc Tryd.prog W 0 spare held fuel 22 [v] = some y) :
    ∃ (A : Option Addr) (ds : List Nd) (c : Nat), v = .slice A ds.length c ∧ ds.length ≤ c ∧ Nds W W.heap.size A ds ∧ ds.length ≤ maxLen := by
  rcases open_slice Tryd.underlying22 h with ⟨hcs, _⟩ | ⟨a, len, cap, m, n, D, Pl, hcs, _, hl, hm, hz, _, hel⟩
  · injection hcs with hcs
    subst hcs
    exact ⟨none, [], 0, rfl, Nat.le_refl _, fun h => by simp [flatN] at h, by simp [maxLen]⟩
  · injection hcs with hcs
    subst hcs
    have hlm : len ≤ m := by rw [hz]; split <;> omega
    have each : ∀ i, i < len → ∃ u : Nd, W.cell? (a.add (i * 3)) = some (.int .i64 u.n) ∧ W.cell? ((a.add (i * 3)).add 1) = some (.int .i64 u.f) ∧ W.cell? ((a.add (i * 3)).add 2) = some (.int .i64 u.t) := by
      intro i hi
      obtain ⟨cs', hc, ht⟩ := hel i (by omega)
      rw [Tryd.cellsNodeL] at hc
      obtain ⟨_, hcl, hat⟩ := World.cells?_some hc
      obtain ⟨xs, n', _, _, _, hlen, hfs⟩ := DataW.trod_struct Tryd.underlying88 ht
      match cs', hcl, xs, hlen with
      | [q0, q1, q2], _, [y0, y1, y2], _ =>
        have e0 : DataW.trod enc Tryd.prog W 0 spare held n' 3 [q0] = some y0 := by simpa [Value.cells, Tryd.cellsInt] using hfs 0 _ rfl
        have e1 : DataW.trod enc Tryd.prog W 0 spare held n' 3 [q1] = some y1 := by simpa [Value.cells, Tryd.cellsInt] using hfs 1 _ rfl
        have e2 : DataW.trod enc Tryd.prog W 0 spare held n' 3 [q2] = some y2 := by simpa [Value.cells, Tryd.cellsInt] using hfs 2 _ rfl
        obtain ⟨l0, el0, _, _⟩ := DataW.trod_int Tryd.underlying3 e0
        obtain ⟨l1, el1, _, _⟩ := DataW.trod_int Tryd.underlying3 e1
        obtain ⟨l2, el2, _, _⟩ := DataW.trod_int Tryd.underlying3 e2
        injection el0 with el0
        injection el1 with el1
        injection el2 with el2
        subst el0 el1 el2
        exact ⟨⟨l0, l1, l2⟩, by simpa [Addr.add] using hat 0 (by omega), by simpa using hat 1 (by omega), by simpa using hat 2 (by omega)⟩
    obtain ⟨f, hf⟩ := choose_lt each
    have hlen : ((List.range len).map f).length = len := by simp
    by_cases h0 : len = 0
    · exact ⟨some a, (List.range len).map f, cap, by rw [hlen], by omega, fun hp => by rw [flatN_len, hlen] at hp; omega, by omega⟩
    · obtain ⟨b, off, spot⟩ := a
      have hspot : spot = none := by simpa [Addr.add] using World.cell?_spot (hf 0 (by omega)).1
      subst hspot
      refine ⟨_, (List.range len).map f, cap, by rw [hlen], by omega, nds_of ?_ fun i u hu => ?_, by omega⟩
      · have := (hf 0 (by omega)).1
        exact lt_of_cell (b := b) (o := off) (by simpa [Addr.add] using this)
      · have hk := (List.getElem?_eq_some_iff.1 hu).1
        rw [hlen] at hk
        have hu' : f i = u := by simpa [hk] using hu
        subst hu'
        obtain ⟨h1, h2, h3⟩ := hf i hk
        rw [Go.WideShapes.add_plain] at h1 h2 h3
        rw [Go.WideShapes.add_plain] at h2 h3
        exact ⟨h1, h2, h3⟩

/-- All cuts are numbers of 64 bits. -/
def FitE (es : List Eg) : Prop := ∀ u ∈ es, F64 u.n ∧ F64 u.e ∧ ∀ x ∈ u.r, F64 x

set_option maxRecDepth 100000 in
theorem open_edgeS {fuel : Nat} {v : Value} {y : DataW H × List MemPlace} (h : DataW.trod enc Tryd.prog W 0 spare held fuel 23 [v] = some y) :
    ∃ (A : Option Addr) (es : List Eg) (c : Nat), v = .slice A es.length c ∧ es.length ≤ c ∧ Egs W W.heap.size A es ∧ es.length ≤ maxLen ∧ (∀ u ∈ es, u.r.length ≤ maxLen) ∧ FitE es := by
  rcases open_slice Tryd.underlying23 h with ⟨hcs, _⟩ | ⟨a, len, cap, m, n, D, Pl, hcs, _, hl, hm, hz, _, hel⟩
  · injection hcs with hcs
    subst hcs
    exact ⟨none, [], 0, rfl, Nat.le_refl _, fun h => by simp at h, by simp [maxLen], fun x hx => by simp at hx, fun x hx => by simp at hx⟩
  · injection hcs with hcs
    subst hcs
    have hlm : len ≤ m := by rw [hz]; split <;> omega
    have each : ∀ i, i < len → ∃ u : Eg, W.cell? (a.add (i * 3)) = some (.int .i64 u.n) ∧ W.cell? ((a.add (i * 3)).add 1) = some (.int .i64 u.e) ∧ W.cell? ((a.add (i * 3)).add 2) = some (.slice u.a u.r.length u.c) ∧ Ints W W.heap.size u.a u.r ∧ u.r.length ≤ maxLen ∧ F64 u.n ∧ F64 u.e ∧ ∀ x ∈ u.r, F64 x := by
      intro i hi
      obtain ⟨cs', hc, ht⟩ := hel i (by omega)
      rw [Tryd.cellsEdgeL] at hc
      obtain ⟨_, hcl, hat⟩ := World.cells?_some hc
      obtain ⟨xs, n', _, _, _, hlen, hfs⟩ := DataW.trod_struct Tryd.underlying84 ht
      match cs', hcl, xs, hlen with
      | [q0, q1, q2], _, [y0, y1, y2], _ =>
        have e0 : DataW.trod enc Tryd.prog W 0 spare held n' 3 [q0] = some y0 := by simpa [Value.cells, Tryd.cellsInt] using hfs 0 _ rfl
        have e1 : DataW.trod enc Tryd.prog W 0 spare held n' 3 [q1] = some y1 := by simpa [Value.cells, Tryd.cellsInt] using hfs 1 _ rfl
        have e2 : DataW.trod enc Tryd.prog W 0 spare held n' 27 [q2] = some y2 := by simpa [Value.cells, Tryd.cellsInt, Tryd.cellsIntS] using hfs 2 _ rfl
        obtain ⟨l0, el0, _, w0⟩ := DataW.trod_int Tryd.underlying3 e0
        obtain ⟨l1, el1, _, w1⟩ := DataW.trod_int Tryd.underlying3 e1
        injection el0 with el0
        injection el1 with el1
        subst el0 el1
        obtain ⟨A', xs', c', rfl, _, hI, hml, hF⟩ := open_intS e2
        exact ⟨⟨l0, l1, A', xs', c'⟩, by simpa [Addr.add] using hat 0 (by omega), by simpa using hat 1 (by omega), by simpa using hat 2 (by omega), hI, hml, bounds_i64 w0, bounds_i64 w1, hF⟩
    obtain ⟨f, hf⟩ := choose_lt each
    have hlen : ((List.range len).map f).length = len := by simp
    refine ⟨some a, (List.range len).map f, cap, by rw [hlen], by omega, fun hp => ?_, by omega, fun u hu => ?_, fun u hu => ?_⟩
    · obtain ⟨b, off, spot⟩ := a
      have hspot : spot = none := by simpa [Addr.add] using World.cell?_spot (hf 0 (by omega)).1
      subst hspot
      refine ⟨b, off, rfl, ?_, fun k u hu => ?_⟩
      · have := (hf 0 (by omega)).1
        exact lt_of_cell (b := b) (o := off) (by simpa [Addr.add] using this)
      · have hk := (List.getElem?_eq_some_iff.1 hu).1
        rw [hlen] at hk
        have hu' : f k = u := by simpa [hk] using hu
        subst hu'
        obtain ⟨h1, h2, h3, h4, _, _⟩ := hf k hk
        rw [Go.WideShapes.add_plain] at h1 h2 h3
        rw [Go.WideShapes.add_plain] at h2 h3
        exact ⟨h1, h2, h3, h4⟩
    · obtain ⟨i, hi, rfl⟩ := List.mem_map.1 hu
      exact (hf i (List.mem_range.1 hi)).2.2.2.2.1
    · obtain ⟨i, hi, rfl⟩ := List.mem_map.1 hu
      exact (hf i (List.mem_range.1 hi)).2.2.2.2.2

set_option maxRecDepth 100000 in
theorem open_forest {r : Reach} {b0 : Nat} {v : Value} {d : DataW H} {p : List MemPlace} (hv : Value.okWide Tryd.prog W r b0 25 v) (h : DataW.Trod enc Tryd.prog W 0 spare held 25 v d p) :
    ∃ f : Fo, v = (.agg #[.slice f.a f.ns.length f.c, .slice f.b f.es.length f.d]) ∧ CapF f ∧ ReadF W W.heap.size f ∧ LenF maxLen f ∧ FitE f.es := by
  obtain ⟨v0, v1, y0, y1, m, rfl, _, _, h0, h1⟩ := open_agg2 Tryd.underlying25 (by kernel_rfl) Tryd.cellsForestL hv h
  obtain ⟨A, ns, c, rfl, a1, a2, a3⟩ := open_nodeS h0
  obtain ⟨B, es, d, rfl, b1, b2, b3, b4, b5⟩ := open_edgeS h1
  exact ⟨⟨A, ns, c, B, es, d⟩, rfl, ⟨a1, b1⟩, ⟨a2, b2⟩, ⟨a3, b3, b4⟩, b5⟩
end

end Go.Proofs.YtbgjlabjihoaaaaDoor

/- A law's end, three arguments. -/

namespace Go.Proofs.YtbgjlabjihoaaaaDoor
open Go.ChangeShapes Go.WideShapes Go.ChangeAt Go.RowKit

theorem ends_three {H : Type} {enc : TypeId × Value → H} {f : Func} {s : ChangeSpec} {W W' : World} {v0 v1 v2 : Value} {d0 d1 d2 : DataW H} {gs : List (DataW H)} {before : List MemPlace} {t0 t1 t2 : TypeId}
    (hW : DataW.Whole enc Tryd.prog f.params.toList s.vars false W [v0, v1, v2] [d0, d1, d2] gs before) (hp : f.params = #[t0, t1, t2]) (hr : f.resultTypes = #[4])
    (hfn : s.fn H ([d0, d1, d2] ++ gs) = { results := [.lit (.bool true)], args := [d0, d1, d2], vars := gs })
    (ht : Tryd.prog.readableRec t0 = true) (hs : t0 < Tryd.prog.types.size) (ht1 : Tryd.prog.readableRec t1 = true) (hs1 : t1 < Tryd.prog.types.size) (ht2 : Tryd.prog.readableRec t2 = true) (hs2 : t2 < Tryd.prog.types.size) (hv : varsRowed Tryd.prog s.vars = true) (hb : Below W.heap.size W W') :
    s.post enc Tryd.prog f false true false false W #[v0, v1, v2] (.bool true) W' := by
  have hlt : ∀ x ∈ before, x.block < W.heap.size := fun x hx => hW.lt x hx
  have hW' := hW
  obtain ⟨p, q, hA, hV, rfl, _, _⟩ := hW
  rw [hp] at hA
  obtain ⟨v, v', v'', d, d', d'', p0, p1, p2, e1, e2, e3, h0, h1, h2⟩ := trodAll_three hA
  have ev : v0 = v ∧ v1 = v' ∧ v2 = v'' := by simpa using e1
  have ed : d0 = d ∧ d1 = d' ∧ d2 = d'' := by simpa using e2
  obtain ⟨rfl, rfl, rfl⟩ := ev
  obtain ⟨rfl, rfl, rfl⟩ := ed
  subst e3
  refine ⟨[d0, d1, d2], gs, p0 ++ p1 ++ p2 ++ q, [], p0 ++ (p1 ++ p2), q, hW', ?_, ?_, ?_, hb.frame _, fun h => by cases h⟩
  · rw [hfn, hr]
    exact trodAll_mk1 (shut_bool Tryd.underlying4 true)
  · rw [hfn, hp]
    exact trodAll_mk3 (hb.trod Tryd.laidOut ht hs h0 (fun x hx => hlt x (by simp [hx]))) (hb.trod Tryd.laidOut ht1 hs1 h1 (fun x hx => hlt x (by simp [hx]))) (hb.trod Tryd.laidOut ht2 hs2 h2 (fun x hx => hlt x (by simp [hx])))
  · rw [hfn]
    exact hb.trodVars Tryd.laidOut hv hV

end Go.Proofs.YtbgjlabjihoaaaaDoor

/- Which blocks an owned list or an owned list of rules takes. -/

namespace Go.Proofs.YtbgjlabjihoaaaaDoor
open Go.RowKit

theorem OwnI.its {w : World} {lo : Nat} {A : Option Addr} {xs : List Int} (h : OwnI w lo A xs) {b : Nat} (hb : Its A xs b) : lo ≤ b ∧ b < w.heap.size := by
  rcases h with h | ⟨g, cs, e, hl, hr, _⟩
  · exact absurd h hb.2
  · have := hb.1.symm.trans e
    injection this with this
    injection this with this
    subst this
    exact ⟨hl, hr.lt⟩

theorem OwnR.its {w : World} {lo : Nat} {A : Option Addr} {rs : List Ru} (h : OwnR w lo A rs) {b : Nat} (hb : ItsR A rs b) : lo ≤ b ∧ b < w.heap.size := by
  rcases h with h | ⟨g, cs, e, hl, hr, hc, _⟩
  · subst h
    rcases hb with hb | ⟨i, u, hu, _⟩
    · exact absurd rfl hb.2
    · simp at hu
  · rcases hb with ⟨hb, _⟩ | ⟨i, u, hu, hI⟩
    · have := hb.symm.trans e
      injection this with this
      injection this with this
      subst this
      exact ⟨hl, hr.lt⟩
    · exact (hc i u hu).2.2.its hI

theorem OwnI.kept {S : Nat → Prop} {w w' : World} {lo : Nat} {A : Option Addr} {xs : List Int} (h : OwnI w lo A xs) (hs : Save S w w') (hd : ∀ b, Its A xs b → ¬ S b) : OwnI w' lo A xs :=
  h.save hs fun g e hn => hd g ⟨e, hn⟩

theorem eqL_refl (xs : List Int) : eqL xs xs = true := eqL_t rfl

end Go.Proofs.YtbgjlabjihoaaaaDoor
