/- What the reference's checks of chapter 1 answer. -/
import Derived.Test.YtaobkanliiiapaaDoorC701
import Derived.Test.YtaobkanliiiapaaDoorRows
import Derived.ProofKit
import Derived.OpenShut
import Derived.Deep.Slices
import Derived.Lib.SmallJoins
import Derived.OpenVars
import Derived.Test.YtaobkanliiiapaaDoorTie
import Derived.LaidMore
import Derived.Stop.Joined
import Derived.SevenTiedAt

namespace Go.Proofs.YtaobkanliiiapaaDoor
open Go.RowKit
open Go.Sort (grow)

set_option maxHeartbeats 400000 in
theorem l1In_any (n lo hi : Int) (w : World) :
    Calls Tryd.prog 59 #[.int .i64 n, .int .i64 lo, .int .i64 hi] w fun e w' => e = .returned (.bool (inB lo hi n)) ∧ w = w' := by
  by_cases h1 : lo ≤ n
  · by_cases h2 : n ≤ hi
    · have HE : Hid (inB lo hi n = true) := inB_t h1 h2
      go_enter Tryd.func59, Tryd.ntmps59
      go_wp2
      go_ret
      exact ⟨ret_b HE.out.symm, rfl⟩
    · have HE : Hid (inB lo hi n = false) := inB_f (by omega)
      go_enter Tryd.func59, Tryd.ntmps59
      go_wp2
      go_ret
      exact ⟨ret_b HE.out.symm, rfl⟩
  · have HE : Hid (inB lo hi n = false) := inB_f (by omega)
    go_enter Tryd.func59, Tryd.ntmps59
    go_wp2
    go_ret
    exact ⟨ret_b HE.out.symm, rfl⟩

theorem sym_in {n t x : Int} (hn : 1 ≤ n) (ht : 1 ≤ t) : inB (-t) (n - 1) x = symB n t x := by
  unfold inB symB
  rw [Bool.eq_iff_iff]
  simp only [decide_eq_true_eq]
  omega
theorem non_in {n x : Int} : inB 0 (n - 1) x = nonB n x := by
  unfold inB nonB
  rw [Bool.eq_iff_iff]
  simp only [decide_eq_true_eq]
  omega

set_option maxHeartbeats 400000 in
theorem l1Symbol_any (n t x : Int) (v : Value) (w : World) (hn : 1 ≤ n) (hn' : n ≤ 6) (ht : 1 ≤ t) (ht' : t ≤ 4) :
    Calls Tryd.prog 117 #[.agg #[.int .i64 n, .int .i64 t, v], .int .i64 x] w fun e w' => e = .returned (.bool (symB n t x)) ∧ Below w.heap.size w w' := by
  have HS := Lib.hid (sym_in (x := x) hn ht)
  go_enter Tryd.func117, Tryd.ntmps117
  go_wp2_with fail
  refine (l1In_any _ _ _ _).mono ?_
  rintro e w1 ⟨rfl, rfl⟩
  go_wp2
  go_ret
  exact ⟨ret_b HS.out, by go_grown⟩

set_option maxHeartbeats 400000 in
theorem l1Same_any (A A' : Option Addr) (xs ys : List Int) (c c' : Nat) (w : World) (hx : Ints w w.heap.size A xs) (hy : Ints w w.heap.size A' ys) (h1 : xs.length ≤ 1048576) :
    Calls Tryd.prog 158 #[.slice A xs.length c, .slice A' ys.length c'] w fun e w' => e = .returned (.bool (eqL xs ys)) ∧ Below w.heap.size w w' := by
  have HX := Lib.hid hx; clear hx
  have HY := Lib.hid hy; clear hy
  by_cases hl : xs.length = ys.length
  · have hd : ((xs.length : Int) != (ys.length : Int)) = false := bne_f (by omega)
    have hlen : xs.length ≤ ys.length := by omega
    have hlen' : ys.length ≤ xs.length := by omega
    have HL := Lib.hid hl; clear hl
    go_enter Tryd.func158, Tryd.ntmps158
    go_wp2
    go_loopw [13] (fun i wr => ∃ (k : Nat), k ≤ xs.length ∧ i = .int .i64 k ∧ Below w.heap.size w wr ∧ Hid (∀ j : Nat, j < k → xs[j]? = ys[j]?)) (fun i _ => xs.length - (intOf i).toNat)
    case atStart => exact ⟨0, by omega, rfl, Below.refl _ _, fun j h => absurd h (by omega)⟩
    case round =>
      obtain ⟨k, hk, rfl, hB, H⟩ := hrel
      by_cases hlt : k < xs.length
      · have hlt' : k < ys.length := by omega
        obtain ⟨b, o, rfl, hb, c1⟩ := (HX.out.keep hB).at_ hlt
        obtain ⟨b', o', rfl, hb', c2⟩ := (HY.out.keep hB).at_ hlt'
        by_cases hne : xs[k] = ys[k]
        · have ht := bne_f hne
          have HE := Lib.hid hne; clear hne
          go_wp2
          go_quiet (fail)
          go_wp2
          go_roundw
          case rel => exact ⟨k + 1, by omega, by go_num, below_drewN hB _, step_eq hlt hlt' HE.out H.out⟩
          case measure => simp [intOf]; omega
        · have ht := bne_t hne
          have HE : Hid (eqL xs ys = false) := eqL_not hlt hlt' hne
          clear hne
          go_wp2
          go_quiet (fail)
          go_wp2
          go_ret
          exact ⟨ret_bool HE.out.symm, below_drewN hB _⟩
      · have HE : Hid (eqL xs ys = true) := eqL_of HL.out hlt H.out
        go_wp2
        go_ret
        exact ⟨ret_bool HE.out.symm, hB⟩
  · have hd : ((xs.length : Int) != (ys.length : Int)) = true := bne_t (by omega)
    have HE : Hid (eqL xs ys = false) := eqL_f fun e => hl (by rw [e])
    clear hl
    go_enter Tryd.func158, Tryd.ntmps158
    go_wp2
    go_ret
    exact ⟨ret_bool HE.out.symm, Below.refl _ _⟩

set_option maxHeartbeats 400000 in
theorem l1SameRule_any (l l' : Int) (A A' : Option Addr) (xs ys : List Int) (c c' : Nat) (w : World) (hx : Ints w w.heap.size A xs) (hy : Ints w w.heap.size A' ys) (h1 : xs.length ≤ 1048576) :
    Calls Tryd.prog 118 #[.agg #[.int .i64 l, .slice A xs.length c], .agg #[.int .i64 l', .slice A' ys.length c']] w fun e w' => e = .returned (.bool (eqU (l, xs) (l', ys))) ∧ Below w.heap.size w w' := by
  have HX := Lib.hid hx; clear hx
  have HY := Lib.hid hy; clear hy
  by_cases hl : l = l'
  · have hd := beq_t hl
    have HL := Lib.hid hl; clear hl
    cases hq : eqL xs ys
    all_goals
      have HQ := Lib.hid hq; clear hq
      go_enter Tryd.func118, Tryd.ntmps118
      go_wp2_with fail
      refine (l1Same_any _ _ _ _ _ _ _ ?_ ?_ h1).mono ?_
      · exact (HX.out.keep (by go_grown)).more (by go_size)
      · exact (HY.out.keep (by go_grown)).more (by go_size)
      rintro e w1 ⟨rfl, hB⟩
      rw [HQ.out]
      go_wp2
      go_ret
      refine ⟨ret_bool ?_, Below.trans (by go_grown) (hB.mono (by go_size))⟩
    · exact (eqU_f fun e => by have h : xs = ys := congrArg Prod.snd e; rw [eqL_t h] at HQ; cases HQ.out).symm
    · exact (eqU_t (by rw [HL.out, of_decide_eq_true HQ.out])).symm
  · have hd := beq_f hl
    have HE : Hid (eqU (l, xs) (l', ys) = false) := eqU_f fun e => hl (congrArg Prod.fst e)
    clear hl
    go_enter Tryd.func118, Tryd.ntmps118
    go_wp2
    go_ret
    exact ⟨ret_bool HE.out.symm, by go_grown⟩

end Go.Proofs.YtaobkanliiiapaaDoor

/- What the reference's GoodGrammar answers. -/

namespace Go.Proofs.YtaobkanliiiapaaDoor
open Go.RowKit

theorem has_take {rs : List Ru} {k : Nat} (i : Nat) (h : i < k) : (rs.take k)[i]? = rs[i]? := by
  rw [List.getElem?_take, if_pos h]

theorem dup_step {rs : List Ru} {k i : Nat} (hk : k < rs.length) (hi : i < k) (h : eqU rs[k].abs (rs[i]'(by omega)).abs = false) (H : ∀ j : Nat, j < i → ((rs.take k).map Ru.abs)[j]? ≠ some rs[k].abs) :
    ∀ j : Nat, j < i + 1 → ((rs.take k).map Ru.abs)[j]? ≠ some rs[k].abs := by
  intro j hj
  by_cases e : j = i
  · subst e
    rw [List.getElem?_map, has_take j hi, List.getElem?_eq_getElem (by omega)]
    intro h'
    rw [eqU_t (by simpa using h'.symm)] at h
    cases h
  · exact H j (by omega)
theorem dup_t {rs : List Ru} {k i : Nat} (hk : k < rs.length) (hi : i < k) (h : eqU rs[k].abs (rs[i]'(by omega)).abs = true) : hasU ((rs.take k).map Ru.abs) rs[k].abs = true :=
  decide_eq_true (by
    rw [of_decide_eq_true h]
    exact List.mem_map.2 ⟨_, List.mem_iff_getElem?.2 ⟨i, by rw [has_take i hi, List.getElem?_eq_getElem]⟩, rfl⟩)
theorem dup_f {rs : List Ru} {k i : Nat} (hk : k < rs.length) (hi : ¬ i < k) (H : ∀ j : Nat, j < i → ((rs.take k).map Ru.abs)[j]? ≠ some rs[k].abs) : hasU ((rs.take k).map Ru.abs) rs[k].abs = false :=
  decide_eq_false fun h => by
    obtain ⟨j, hj⟩ := List.mem_iff_getElem?.1 h
    have := (List.getElem?_eq_some_iff.1 hj).1
    simp at this
    exact H j (by omega) hj

set_option maxHeartbeats 1000000 in
theorem specGood_any (n t : Int) (A : Option Addr) (c : Nat) (rs : List Ru) (w : World) (hx : Rls w w.heap.size A rs) (hc : rs.length ≤ c) (h1 : rs.length ≤ 1048576) (h2 : ∀ u ∈ rs, u.r.length ≤ 1048576) :
    Calls Tryd.prog 78 #[.agg #[.int .i64 n, .int .i64 t, .slice A rs.length c]] w fun e w' => e = .returned (.bool (goodG n t (rs.map Ru.abs))) ∧ Below w.heap.size w w' := by
  have HX := Lib.hid hx; clear hx
  have H2 := Lib.hid h2; clear h2
  cases hn : inB 1 6 n
  · have HE : Hid (goodG n t (rs.map Ru.abs) = false) := goodG_n (inB_not hn)
    have HN := Lib.hid hn; clear hn
    go_enter Tryd.func78, Tryd.ntmps78
    go_wp2_with fail
    refine (l1In_any _ _ _ _).mono ?_
    rintro e w1 ⟨rfl, rfl⟩
    rw [HN.out]
    go_wp2
    go_ret
    exact ⟨ret_bool HE.out.symm, by go_grown⟩
  have HN := Lib.hid hn; clear hn
  cases ht : inB 1 4 t
  · have HE : Hid (goodG n t (rs.map Ru.abs) = false) := goodG_t (inB_not ht)
    have HT := Lib.hid ht; clear ht
    go_enter Tryd.func78, Tryd.ntmps78
    go_wp2_with fail
    refine (l1In_any _ _ _ _).mono ?_
    rintro e w1 ⟨rfl, rfl⟩
    rw [HN.out]
    go_wp2_with fail
    refine (l1In_any _ _ _ _).mono ?_
    rintro e w1 ⟨rfl, rfl⟩
    rw [HT.out]
    go_wp2
    go_ret
    exact ⟨ret_bool HE.out.symm, by go_grown⟩
  have HT := Lib.hid ht; clear ht
  by_cases hl : rs.length ≤ 16
  case neg =>
    have HE : Hid (goodG n t (rs.map Ru.abs) = false) := goodG_len (by simpa using hl)
    have hl' : ((16 : Int) < (rs.length : Int)) := by omega
    clear hl
    go_enter Tryd.func78, Tryd.ntmps78
    go_wp2_with fail
    refine (l1In_any _ _ _ _).mono ?_
    rintro e w1 ⟨rfl, rfl⟩
    rw [HN.out]
    go_wp2_with fail
    refine (l1In_any _ _ _ _).mono ?_
    rintro e w1 ⟨rfl, rfl⟩
    rw [HT.out]
    go_wp2
    go_ret
    exact ⟨ret_bool HE.out.symm, by go_grown⟩
  have HA : Hid (goodG n t (rs.map Ru.abs) = goodAll n t (rs.map Ru.abs)) := goodG_all (inB_and HN.out) (inB_and HT.out) (by simpa using hl)
  have n1 := inB_lo HN.out
  have n2 := inB_hi HN.out
  have t1 := inB_lo HT.out
  have t2 := inB_hi HT.out
  go_enter Tryd.func78, Tryd.ntmps78
  go_wp2_with fail
  refine (l1In_any _ _ _ _).mono ?_
  rintro e w1 ⟨rfl, rfl⟩
  rw [HN.out]
  go_wp2_with fail
  refine (l1In_any _ _ _ _).mono ?_
  rintro e w1 ⟨rfl, rfl⟩
  rw [HT.out]
  go_wp2
  go_loopw [28] (fun i wr => ∃ (k : Nat), k ≤ rs.length ∧ i = .int .i64 k ∧ Below w.heap.size w wr ∧ Box3 wr w.heap.size (.int .i64 n) (.int .i64 t) (.slice A rs.length c) ∧ Hid (goodTo n t (rs.map Ru.abs) k)) (fun i _ => rs.length - (intOf i).toNat)
  case atStart => exact ⟨0, by omega, rfl, by go_grown, ⟨by simp, by simp [go_sem], by simp [go_sem], by simp [go_sem]⟩, fun j x h => absurd h (by omega)⟩
  case round =>
    obtain ⟨k, hk, rfl, hB, hbox, H⟩ := hrel
    by_cases hlt : k < rs.length
    case neg =>
      have HE : Hid (goodG n t (rs.map Ru.abs) = true) := HA.out.trans (goodAll_of (k := k) (by simpa using hlt) H.out)
      clear hbox
      go_wp2
      go_ret
      exact ⟨ret_bool HE.out.symm, hB⟩
    obtain ⟨b, o, rfl, hb, c1, c2, c3⟩ := (HX.out.keep hB).at_ hlt
    obtain ⟨g0, g1, g2, g3⟩ := id hbox
    have HBX := Lib.hid hbox; clear hbox
    have C3 := Lib.hid (c3.more hB.size); clear c3
    have hlen2 := H2.out rs[k] (List.getElem_mem hlt)
    go_wp2_with fail
    refine (l1In_any _ _ _ _).mono ?_
    rintro e w1 ⟨rfl, rfl⟩
    rw [non_in]
    cases hq : nonB n rs[k].l
    · have HE : Hid (goodG n t (rs.map Ru.abs) = false) := HA.out.trans (goodAll_bad (k := k) (by simpa using hlt) (.inl (by simpa [Ru.abs] using goodU_left hq)))
      have HQ := Lib.hid hq; clear hq
      go_wp2
      go_ret
      exact ⟨ret_bool HE.out.symm, hB.trans (Below.mono (B := wr.heap.size) (by go_grown) hB.size)⟩
    have HQ := Lib.hid hq; clear hq
    by_cases hl4 : rs[k].r.length ≤ 4
    case neg =>
      have HE : Hid (goodG n t (rs.map Ru.abs) = false) := HA.out.trans (goodAll_bad (k := k) (by simpa using hlt) (.inl (by simpa [Ru.abs] using goodU_long (n := n) (t := t) (l := rs[k].l) hl4)))
      have hl4' : ((4 : Int) < (rs[k].r.length : Int)) := by omega
      clear hl4
      go_wp2
      go_ret
      exact ⟨ret_bool HE.out.symm, hB.trans (Below.mono (B := wr.heap.size) (by go_grown) hB.size)⟩
    have HS : Hid (goodU n t rs[k].abs = symsB n t rs[k].r) := goodU_syms HQ.out hl4
    have hBA : Below wr.heap.size wr (wr.alloc (.cells #[.int .i64 rs[k].l, .slice rs[k].a rs[k].r.length rs[k].c] 106)) := by go_grown
    have BU : Box2 (wr.alloc (.cells #[.int .i64 rs[k].l, .slice rs[k].a rs[k].r.length rs[k].c] 106)) wr.heap.size (.int .i64 rs[k].l) (.slice rs[k].a rs[k].r.length rs[k].c) := ⟨by simp, by simp [go_sem], by simp [go_sem]⟩
    generalize (wr.alloc (.cells #[.int .i64 rs[k].l, .slice rs[k].a rs[k].r.length rs[k].c] 106)) = W at hBA BU ⊢
    have HBX2 := Lib.hid (HBX.out.keep hBA g0)
    have C3' := Lib.hid ((C3.out.keep hBA).more hBA.size)
    have HBW := Lib.hid (hB.trans (hBA.mono hB.size))
    obtain ⟨y0, y1, y2⟩ := id BU
    have HBU := Lib.hid BU; clear BU
    clear c1 c2 g1 g2 g3 hBA C3 HBX
    go_wp2
    go_loopw [49] (fun i wr1 => ∃ (j : Nat), j ≤ rs[k].r.length ∧ i = .int .i64 j ∧ Below W.heap.size W wr1 ∧ Hid (∀ (m : Nat) (x : Int), m < j → rs[k].r[m]? = some x → symB n t x = true)) (fun i _ => rs[k].r.length - (intOf i).toNat)
    case atStart => exact ⟨0, by omega, rfl, Below.refl _ _, fun j x h => absurd h (by omega)⟩
    case round =>
      obtain ⟨j, hj, rfl, hB1, H1⟩ := hrel
      have HB1 := Lib.hid hB1; clear hB1
      obtain ⟨_, z0, z1, z2⟩ := HBX2.out.keep HB1.out HBX2.out.1
      clear y1 y2
      by_cases hjl : j < rs[k].r.length
      · obtain ⟨b', o', ha, hb', c1⟩ := (C3'.out.keep HB1.out).at_ hjl
        have HA' := Lib.hid ha; clear ha
        cases hs : symB n t rs[k].r[j]
        all_goals
          have HSY := Lib.hid hs; clear hs
          rw [HA'.out]
          go_wp2_with fail
          refine (l1Symbol_any _ _ _ _ _ n1 n2 t1 t2).mono ?_
          rintro e w3 ⟨rfl, hB3⟩
          rw [HSY.out]
          have HB4 := Lib.hid (HB1.out.trans (hB3.mono HB1.out.size)); clear hB3
          clear z0 z1 z2 c1
        · have HE : Hid (goodG n t (rs.map Ru.abs) = false) := HA.out.trans (goodAll_bad (k := k) (by simpa using hlt) (.inl (by simpa using HS.out.trans (symsB_not hjl HSY.out))))
          go_wp2
          go_ret
          exact ⟨ret_bool HE.out.symm, HBW.out.trans (HB4.out.mono HBW.out.size)⟩
        · go_wp2
          go_roundw
          case rel => exact ⟨j + 1, by omega, by go_num, HB4.out, syms_step hjl HSY.out H1.out⟩
          case measure => simp [intOf]; omega
      · have HG : Hid (goodU n t rs[k].abs = true) := HS.out.trans (symsB_of hjl H1.out)
        have HRW := Lib.hid (((HX.out.keep HBW.out).more HBW.out.size).keep HB1.out)
        obtain ⟨_, v0, v1⟩ := HBU.out.keep HB1.out HBU.out.1
        go_wp2
        go_loopw [63] (fun i wr2 => ∃ (j : Nat), j ≤ k ∧ i = .int .i64 j ∧ Below W.heap.size W wr2 ∧ Hid (∀ m : Nat, m < j → ((rs.take k).map Ru.abs)[m]? ≠ some rs[k].abs)) (fun i _ => k - (intOf i).toNat)
        case atStart => exact ⟨0, by omega, rfl, HB1.out, fun j h => absurd h (by omega)⟩
        case round =>
          clear v0 v1 z0 z1 z2 HB1 HRW
          obtain ⟨i, hi, rfl, hB2, H3⟩ := hrel
          have HB2 := Lib.hid hB2; clear hB2
          by_cases hik : i < k
          · have hil : i < rs.length := by omega
            obtain ⟨v0, v1, v2⟩ := HBU.out.keep HB2.out HBU.out.1
            have hRW := ((HX.out.keep HBW.out).more HBW.out.size).keep HB2.out
            obtain ⟨b', o', ha, hb', d1, d2, d3⟩ := hRW.at_ hil
            injection ha with ha
            injection ha with ha1 ha2
            subst ha1 ha2
            have HD3 := Lib.hid (d3.more HB2.out.size); clear d3
            have HC3 := Lib.hid ((C3'.out.keep HB2.out).more HB2.out.size)
            clear hRW
            cases hq : eqU rs[k].abs rs[i].abs
            all_goals
              have HQ2 := Lib.hid hq; clear hq
              go_wp2_with fail
              refine (l1SameRule_any _ _ _ _ _ _ _ _ _ ?_ ?_ hlen2).mono ?_
              · exact (HC3.out.keep (by go_grown)).more (by go_size)
              · exact (HD3.out.keep (by go_grown)).more (by go_size)
              rintro e w3 ⟨rfl, hB3⟩
              have HB4 : Hid (Below W.heap.size W w3) := HB2.out.trans (Below.trans (Below.mono (B := wr.heap.size) (by go_grown) HB2.out.size) (hB3.mono (by have := HB2.out.size; simp; omega)))
              clear hB3
              rw [show eqU (rs[k].l, rs[k].r) (rs[i].l, rs[i].r) = _ from HQ2.out]
            · go_wp2
              go_roundw
              case rel => exact ⟨i + 1, by omega, by go_num, HB4.out, dup_step hlt hik HQ2.out H3.out⟩
              case measure => simp [intOf]; omega
            · have HE : Hid (goodG n t (rs.map Ru.abs) = false) := HA.out.trans (goodAll_bad (k := k) (by simpa using hlt) (.inr (by rw [← List.map_take]; simpa using dup_t hlt hik HQ2.out)))
              go_wp2
              go_ret
              exact ⟨ret_bool HE.out.symm, HBW.out.trans (HB4.out.mono HBW.out.size)⟩
          · go_wp2
            go_roundw
            case rel => exact ⟨k + 1, by omega, by go_num, HBW.out.trans (HB2.out.mono HBW.out.size), HBX2.out.keep HB2.out HBX2.out.1, goodTo_step (by simpa using hlt) (by simpa using HG.out) (by rw [← List.map_take]; simpa using dup_f hlt hik H3.out) H.out⟩
            case measure => simp [intOf]; omega

end Go.Proofs.YtaobkanliiiapaaDoor

/- What two readings of the same rules share; what a law's call has to end in. -/

namespace Go.Proofs.YtaobkanliiiapaaDoor
open Go.RowKit
open Go.Sort (grow)

theorem abs_mem {rs ss : List Ru} (h : ss.map Ru.abs = rs.map Ru.abs) {u : Ru} (hu : u ∈ ss) : ∃ v ∈ rs, v.l = u.l ∧ v.r = u.r := by
  have : u.abs ∈ rs.map Ru.abs := h ▸ List.mem_map.2 ⟨u, hu, rfl⟩
  obtain ⟨v, hv, e⟩ := List.mem_map.1 this
  exact ⟨v, hv, congrArg Prod.fst e, congrArg Prod.snd e⟩
theorem abs_len {rs ss : List Ru} (h : ss.map Ru.abs = rs.map Ru.abs) : ss.length = rs.length := by simpa using congrArg List.length h
theorem abs_lens {rs ss : List Ru} (h : ss.map Ru.abs = rs.map Ru.abs) {m : Nat} (hu : ∀ u ∈ rs, u.r.length ≤ m) : ∀ u ∈ ss, u.r.length ≤ m := fun u hm => by
  obtain ⟨v, hv, _, e⟩ := abs_mem h hm
  rw [← e]; exact hu v hv
theorem abs_fit {rs ss : List Ru} (h : ss.map Ru.abs = rs.map Ru.abs) (hf : FitR rs) : FitR ss := fun u hm => by
  obtain ⟨v, hv, _, e⟩ := abs_mem h hm
  rw [← e]; exact hf v hv
theorem eqG_t {n t : Int} {rs ss : List (Int × List Int)} (h : rs = ss) : eqG n t rs n t ss = true := decide_eq_true ⟨rfl, rfl, h⟩

/-- What a law's call has to end in. -/
def LawEnds (w : World) (e : Ending) (w' : World) : Prop := e = .returned (.bool true) ∧ Below w.heap.size w w'

end Go.Proofs.YtaobkanliiiapaaDoor

/- From the reading of an argument to its cells: a slice of numbers, a grammar. -/

namespace Go.Proofs.YtaobkanliiiapaaDoor
open Go.ChangeShapes Go.WideShapes Go.ChangeAt Go.RowKit Go.Deep Go.Joins

theorem Tryd.cellsInt : Tryd.prog.cellsOf 3 = 1 := by kernel_rfl
theorem Tryd.cellsIntS : Tryd.prog.cellsOf 37 = 1 := by kernel_rfl
theorem Tryd.cellsRuleL : Tryd.prog.cellsOf 141 = 2 := by kernel_rfl
theorem Tryd.cellsGramL : Tryd.prog.cellsOf 48 = 3 := by kernel_rfl

theorem lt_of_cell {w : World} {b o : Nat} {v : Value} (h : w.cell? ⟨b, o, none⟩ = some v) : b < w.heap.size := by
  by_cases hg : b < w.heap.size
  · exact hg
  · simp only [World.cell?] at h
    rw [Array.getElem?_eq_none (by omega)] at h
    cases h

section
variable {H : Type} {enc : TypeId × Value → H} {W : World} {spare : Nat → Bool} {held : Bool}

theorem open_intS {fuel : Nat} {v : Value} {y : DataW H × List MemPlace} (h : DataW.trod enc Tryd.prog W 0 spare held fuel 37 [v] = some y) :
    ∃ (A : Option Addr) (xs : List Int) (c : Nat), v = .slice A xs.length c ∧ xs.length ≤ c ∧ Ints W W.heap.size A xs ∧ xs.length ≤ maxLen ∧ ∀ x ∈ xs, F64 x := by
  rcases open_ints Tryd.underlying37 Tryd.underlying3 Tryd.cellsInt h with ⟨hcs, _⟩ | ⟨a, len, cap, zs, hcs, _, hl, hm, hz, _, hcell, hwf⟩
  · injection hcs with hcs
    subst hcs
    exact ⟨none, [], 0, rfl, Nat.le_refl _, fun h => by simp at h, by simp [maxLen], fun x hx => by simp at hx⟩
  · injection hcs with hcs
    subst hcs
    have hlz : len ≤ zs.length := by rw [hz]; split <;> omega
    have hlen : (zs.take len).length = len := by rw [List.length_take]; omega
    refine ⟨some a, zs.take len, cap, by rw [hlen], by omega, fun hp => ?_, by omega, fun x hx => ?_⟩
    · obtain ⟨b, off, rfl, hc⟩ := ints_at hcell (by omega)
      refine ⟨b, off, rfl, lt_of_cell (hc 0 (by omega)), fun k x hx => ?_⟩
      have hk := (List.getElem?_eq_some_iff.1 hx).1
      rw [List.getElem?_take] at hx
      split at hx
      · rw [hc k (by omega), List.getD_eq_getElem?_getD, hx]; rfl
      · cases hx
    · have := hwf x (List.mem_of_mem_take hx)
      exact bounds_i64 this

instance : Inhabited Ru := ⟨⟨0, none, [], 0⟩⟩

set_option maxRecDepth 100000 in
theorem open_ruleS {fuel : Nat} {v : Value} {y : DataW H × List MemPlace} (h : DataW.trod enc Tryd.prog W 0 spare held fuel 46 [v] = some y) :
    ∃ (A : Option Addr) (rs : List Ru) (c : Nat), v = .slice A rs.length c ∧ rs.length ≤ c ∧ Rls W W.heap.size A rs ∧ rs.length ≤ maxLen ∧ (∀ u ∈ rs, u.r.length ≤ maxLen) ∧ FitR rs := by
  rcases open_slice Tryd.underlying46 h with ⟨hcs, _⟩ | ⟨a, len, cap, m, n, D, Pl, hcs, _, hl, hm, hz, _, hel⟩
  · injection hcs with hcs
    subst hcs
    exact ⟨none, [], 0, rfl, Nat.le_refl _, fun h => by simp at h, by simp [maxLen], fun x hx => by simp at hx, fun x hx => by simp at hx⟩
  · injection hcs with hcs
    subst hcs
    have hlm : len ≤ m := by rw [hz]; split <;> omega
    have each : ∀ i, i < len → ∃ u : Ru, W.cell? (a.add (i * 2)) = some (.int .i64 u.l) ∧ W.cell? ((a.add (i * 2)).add 1) = some (.slice u.a u.r.length u.c) ∧ Ints W W.heap.size u.a u.r ∧ u.r.length ≤ maxLen ∧ ∀ x ∈ u.r, F64 x := by
      intro i hi
      obtain ⟨cs', hc, ht⟩ := hel i (by omega)
      rw [Tryd.cellsRuleL] at hc
      obtain ⟨_, hcl, hat⟩ := World.cells?_some hc
      obtain ⟨y0, y1, n', _, _, h0, h1⟩ := trod_struct2 Tryd.underlying141 ht
      match cs', hcl with
      | [q0, q1], _ =>
        have e0 : DataW.trod enc Tryd.prog W 0 spare held n' 3 [q0] = some y0 := h0
        have e1 : DataW.trod enc Tryd.prog W 0 spare held n' 37 [q1] = some y1 := h1
        obtain ⟨l, el, _, _⟩ := DataW.trod_int Tryd.underlying3 e0
        injection el with el
        subst el
        obtain ⟨A', xs, c', rfl, _, hI, hml, hF⟩ := open_intS e1
        exact ⟨⟨l, A', xs, c'⟩, by simpa [Addr.add] using hat 0 (by omega), by simpa using hat 1 (by omega), hI, hml, hF⟩
    obtain ⟨f, hf⟩ := choose_lt each
    have hlen : ((List.range len).map f).length = len := by simp
    refine ⟨some a, (List.range len).map f, cap, by rw [hlen], by omega, fun hp => ?_, by omega, fun u hu => ?_, fun u hu => ?_⟩
    · obtain ⟨b, off, spot⟩ := a
      have hspot : spot = none := by simpa [Addr.add] using World.cell?_spot (hf 0 (by omega)).1
      subst hspot
      refine ⟨b, off, rfl, ?_, fun k u hu => ?_⟩
      · have := (hf 0 (by omega)).1
        exact lt_of_cell (b := b) (o := off) (by simpa [Addr.add] using this)
      · have hk := (List.getElem?_eq_some_iff.1 hu).1
        rw [hlen] at hk
        have hu' : f k = u := by simpa [hk] using hu
        subst hu'
        obtain ⟨h1, h2, h3, _, _⟩ := hf k hk
        rw [Go.WideShapes.add_plain] at h1 h2
        rw [Go.WideShapes.add_plain] at h2
        exact ⟨h1, h2, h3⟩
    · obtain ⟨i, hi, rfl⟩ := List.mem_map.1 hu
      exact (hf i (List.mem_range.1 hi)).2.2.2.1
    · obtain ⟨i, hi, rfl⟩ := List.mem_map.1 hu
      exact (hf i (List.mem_range.1 hi)).2.2.2.2

set_option maxRecDepth 100000 in
theorem open_grammar {r : Reach} {b0 : Nat} {v : Value} {d : DataW H} {p : List MemPlace} (hv : Value.okWide Tryd.prog W r b0 48 v) (h : DataW.Trod enc Tryd.prog W 0 spare held 48 v d p) :
    ∃ (n t : Int) (A : Option Addr) (rs : List Ru) (c : Nat), v = .agg #[.int .i64 n, .int .i64 t, .slice A rs.length c] ∧ rs.length ≤ c ∧ Rls W W.heap.size A rs ∧ rs.length ≤ maxLen ∧ (∀ u ∈ rs, u.r.length ≤ maxLen) ∧ FitR rs ∧ F64 n ∧ F64 t := by
  obtain ⟨v0, v1, v2, y0, y1, y2, m, rfl, _, _, h0, h1, h2⟩ := open_agg3 Tryd.underlying48 (by kernel_rfl) Tryd.cellsGramL hv h
  obtain ⟨n, e0, _, w0⟩ := DataW.trod_int Tryd.underlying3 h0
  obtain ⟨t, e1, _, w1⟩ := DataW.trod_int Tryd.underlying3 h1
  injection e0 with e0
  injection e1 with e1
  subst e0 e1
  obtain ⟨A, rs, c, rfl, a1, a2, a3, a4, a5⟩ := open_ruleS h2
  exact ⟨n, t, A, rs, c, rfl, a1, a2, a3, a4, a5, bounds_i64 w0, bounds_i64 w1⟩
end

end Go.Proofs.YtaobkanliiiapaaDoor

/- A law's end: it returned true, and nothing that was there has turned. -/

namespace Go.Proofs.YtaobkanliiiapaaDoor
open Go.ChangeShapes Go.WideShapes Go.ChangeAt Go.RowKit
set_option maxRecDepth 100000

theorem Tryd.own : ownKnob Tryd.prog.godebug = none := by kernel_rfl
theorem Tryd.laidOut : laidOutB Tryd.prog = true := by kernel_rfl

/-- A law's end, one argument: it returned true, and nothing that was there has turned. -/
theorem ends_one {H : Type} {enc : TypeId × Value → H} {f : Func} {s : ChangeSpec} {W W' : World} {v0 : Value} {d0 : DataW H} {gs : List (DataW H)} {before : List MemPlace} {t0 : TypeId}
    (hW : DataW.Whole enc Tryd.prog f.params.toList s.vars false W [v0] [d0] gs before) (hp : f.params = #[t0]) (hr : f.resultTypes = #[4])
    (hfn : s.fn H ([d0] ++ gs) = { results := [.lit (.bool true)], args := [d0], vars := gs })
    (ht : Tryd.prog.readableRec t0 = true) (hs : t0 < Tryd.prog.types.size) (hv : varsRowed Tryd.prog s.vars = true) (hb : Below W.heap.size W W') :
    s.post enc Tryd.prog f false true false false W #[v0] (.bool true) W' := by
  have hlt : ∀ x ∈ before, x.block < W.heap.size := fun x hx => hW.lt x hx
  have hW' := hW
  obtain ⟨p, q, hA, hV, rfl, _, _⟩ := hW
  rw [hp] at hA
  obtain ⟨v, d, e1, e2, h0⟩ := trodAll_one hA
  have ev : v0 = v := by simpa using e1
  have ed : d0 = d := by simpa using e2
  subst ev ed
  refine ⟨[d0], gs, p ++ q, [], p, q, hW', ?_, ?_, ?_, hb.frame _, fun h => by cases h⟩
  · rw [hfn, hr]
    exact trodAll_mk1 (shut_bool Tryd.underlying4 true)
  · rw [hfn, hp]
    exact trodAll_mk1 (hb.trod Tryd.laidOut ht hs h0 (fun x hx => hlt x (List.mem_append_left _ hx)))
  · rw [hfn]
    exact hb.trodVars Tryd.laidOut hv hV

theorem open_intS' {H : Type} {enc : TypeId × Value → H} {W : World} {spare : Nat → Bool} {held : Bool} {r : Reach} {b0 : Nat} {v : Value} {d : DataW H} {p : List MemPlace} (hv : Value.okWide Tryd.prog W r b0 37 v) (h : DataW.Trod enc Tryd.prog W 0 spare held 37 v d p) :
    ∃ (A : Option Addr) (xs : List Int) (c : Nat), v = .slice A xs.length c ∧ xs.length ≤ c ∧ Ints W W.heap.size A xs ∧ xs.length ≤ maxLen ∧ ∀ x ∈ xs, F64 x := by
  obtain ⟨a0, len, cap, rfl⟩ := okWide_slice Tryd.underlying37 hv
  obtain ⟨fuel, hf⟩ := h
  exact open_intS (by simpa [Value.cells] using hf)

/-- A law's end, two arguments: it returned true, and nothing that was there has turned. -/
theorem ends_two {H : Type} {enc : TypeId × Value → H} {f : Func} {s : ChangeSpec} {W W' : World} {v0 v1 : Value} {d0 d1 : DataW H} {gs : List (DataW H)} {before : List MemPlace} {t0 t1 : TypeId}
    (hW : DataW.Whole enc Tryd.prog f.params.toList s.vars false W [v0, v1] [d0, d1] gs before) (hp : f.params = #[t0, t1]) (hr : f.resultTypes = #[4])
    (hfn : s.fn H ([d0, d1] ++ gs) = { results := [.lit (.bool true)], args := [d0, d1], vars := gs })
    (ht : Tryd.prog.readableRec t0 = true) (hs : t0 < Tryd.prog.types.size) (ht1 : Tryd.prog.readableRec t1 = true) (hs1 : t1 < Tryd.prog.types.size) (hv : varsRowed Tryd.prog s.vars = true) (hb : Below W.heap.size W W') :
    s.post enc Tryd.prog f false true false false W #[v0, v1] (.bool true) W' := by
  have hlt : ∀ x ∈ before, x.block < W.heap.size := fun x hx => hW.lt x hx
  have hW' := hW
  obtain ⟨p, q, hA, hV, rfl, _, _⟩ := hW
  rw [hp] at hA
  obtain ⟨v, v', d, d', p0, p1, e1, e2, e3, h0, h1⟩ := trodAll_two hA
  have ev : v0 = v ∧ v1 = v' := by simpa using e1
  have ed : d0 = d ∧ d1 = d' := by simpa using e2
  obtain ⟨rfl, rfl⟩ := ev
  obtain ⟨rfl, rfl⟩ := ed
  subst e3
  refine ⟨[d0, d1], gs, p0 ++ p1 ++ q, [], p0 ++ p1, q, hW', ?_, ?_, ?_, hb.frame _, fun h => by cases h⟩
  · rw [hfn, hr]
    exact trodAll_mk1 (shut_bool Tryd.underlying4 true)
  · rw [hfn, hp]
    exact trodAll_mk2 (hb.trod Tryd.laidOut ht hs h0 (fun x hx => hlt x (by simp [hx]))) (hb.trod Tryd.laidOut ht1 hs1 h1 (fun x hx => hlt x (by simp [hx])))
  · rw [hfn]
    exact hb.trodVars Tryd.laidOut hv hV

end Go.Proofs.YtaobkanliiiapaaDoor

/- What the rows of this seat share: the table of limits out of the row's condition, and a law's end. -/

namespace Go.Proofs.YtaobkanliiiapaaDoor
open Go.ChangeShapes Go.WideShapes Go.ChangeAt Go.RowKit
set_option maxRecDepth 100000

theorem Tryd.gLim : Tryd.prog.globalNamed "loop.example/g00758/impl.limits" = some 0 := by kernel_rfl
theorem Tryd.tLim : (Tryd.prog.globals[0]?).map (·.type) = some 131 := by kernel_rfl
theorem Tryd.cLim : Tryd.prog.cellsOf 130 = 2 := by kernel_rfl
theorem Tryd.cLims : Tryd.prog.cellsOf 131 = 12 := by kernel_rfl

def laid1 : List (String × DataW Unit) := [("loop.example/g00758/impl.limits", Rows.laid_loop_example_g00758_impl_limits)]

/-- The door's own heap meets the condition. -/
theorem door_met (os : Os) (args : Array Value) : laidMetH Tryd.prog laid1 ((World.doorLaid Tryd.prog 400 os).forCall (fun _ _ => 0) ⟨#[], args, []⟩).memory :=
  laidMetH_of_parts3 (fuel := 8) (laidMet_of_run' 8 (by kernel_rfl) (by kernel_rfl)) (by kernel_rfl) (by kernel_rfl)

theorem pair_cells {H : Type} {enc : TypeId × Value → H} {W : World} {base : Nat} {sp : Nat → Bool} {held : Bool} {m : Nat} {q0 q1 : Value} {a b : Int} {ps : List MemPlace}
    (h : DataW.trod enc Tryd.prog W base sp held m 130 [q0, q1] = some (.agg [.lit (.int .i64 a), .lit (.int .i64 b)], ps)) : q0 = .int .i64 a ∧ q1 = .int .i64 b := by
  obtain ⟨y0, y1, n', hx, _, h0, h1⟩ := trod_struct2 Tryd.underlying130 h
  have e0 : DataW.trod enc Tryd.prog W base sp held n' 3 [q0] = some y0 := h0
  have e1 : DataW.trod enc Tryd.prog W base sp held n' 3 [q1] = some y1 := h1
  obtain ⟨l, el, ey, _⟩ := DataW.trod_int Tryd.underlying3 e0
  obtain ⟨l', el', ey', _⟩ := DataW.trod_int Tryd.underlying3 e1
  subst ey ey'
  simp only [Prod.mk.injEq, DataW.agg.injEq, List.cons.injEq, DataW.lit.injEq, Lit.int.injEq] at hx
  injection el with el
  injection el' with el'
  exact ⟨by rw [el, hx.1.1.2], by rw [el', hx.1.2.1.2]⟩

theorem lims_of_laid {W : World} (h : laidMetH Tryd.prog laid1 W) : Lims W := by
  rw [MakeChecks.laidMetH_plain _ _ _ (by kernel_rfl)] at h
  obtain ⟨ps, ⟨g, t, cs, f0, p0, q0, hg, ht, hv, hd, _, _⟩, _, _⟩ := h
  obtain rfl := Option.some.inj (Tryd.gLim.symm.trans hg)
  obtain rfl := Option.some.inj (Tryd.tLim.symm.trans ht)
  obtain ⟨xs, m, _, hx, hlen, hn, hel⟩ := DataW.trod_array Tryd.underlying131 hd
  rw [Tryd.cLims] at hlen
  rw [Tryd.cLim] at hel
  obtain ⟨l⟩ := cs
  match l, hlen, xs, hn with
  | [c0, c1, c2, c3, c4, c5, c6, c7, c8, c9, c10, c11], _, [x0, x1, x2, x3, x4, x5], _ =>
    simp only [Rows.laid_loop_example_g00758_impl_limits, Prod.mk.injEq, DataW.agg.injEq, List.map_cons, List.map_nil, List.cons.injEq] at hx
    obtain ⟨⟨e0, e1, e2, e3, e4, e5, _⟩, _⟩ := hx
    obtain ⟨x0, _⟩ := x0
    obtain ⟨x1, _⟩ := x1
    obtain ⟨x2, _⟩ := x2
    obtain ⟨x3, _⟩ := x3
    obtain ⟨x4, _⟩ := x4
    obtain ⟨x5, _⟩ := x5
    simp only at e0 e1 e2 e3 e4 e5
    subst e0 e1 e2 e3 e4 e5
    obtain ⟨rfl, rfl⟩ := pair_cells (hel 0 (by omega))
    obtain ⟨rfl, rfl⟩ := pair_cells (hel 1 (by omega))
    obtain ⟨rfl, rfl⟩ := pair_cells (hel 2 (by omega))
    obtain ⟨rfl, rfl⟩ := pair_cells (hel 3 (by omega))
    obtain ⟨rfl, rfl⟩ := pair_cells (hel 4 (by omega))
    obtain ⟨rfl, rfl⟩ := pair_cells (hel 5 (by omega))
    intro k v hk
    have hc := World.var?_cell hg hv k
    rw [hc]
    match k, hk with
    | 0, hk => simp [limL] at hk ⊢; exact hk
    | 1, hk => simp [limL] at hk ⊢; exact hk
    | 2, hk => simp [limL] at hk ⊢; exact hk
    | 3, hk => simp [limL] at hk ⊢; exact hk
    | 4, hk => simp [limL] at hk ⊢; exact hk
    | 5, hk => simp [limL] at hk ⊢; exact hk
    | 6, hk => simp [limL] at hk ⊢; exact hk
    | 7, hk => simp [limL] at hk ⊢; exact hk
    | 8, hk => simp [limL] at hk ⊢; exact hk
    | 9, hk => simp [limL] at hk ⊢; exact hk
    | 10, hk => simp [limL] at hk ⊢; exact hk
    | 11, hk => simp [limL] at hk ⊢; exact hk
    | k + 12, hk => simp [limL] at hk

end Go.Proofs.YtaobkanliiiapaaDoor

/- What rows of two arguments share (all of it lies in Ends now). -/



/- What it means that a slice in memory reads as a list of lists of numbers, and that this is kept while only newer memory is written. No condition. -/

namespace Go.Proofs.YtaobkanliiiapaaDoor
open Go.RowKit

/-- A list as it lies in memory: where it lies, what it reads as, its capacity. -/
structure Li where
  a : Option Addr
  r : List Int
  c : Nat

/-- The cells from A on read as the lists ls, below block B. -/
def Lls (w : World) (B : Nat) (A : Option Addr) (ls : List Li) : Prop :=
  0 < ls.length → ∃ b o, A = some ⟨b, o, none⟩ ∧ b < B ∧ ∀ k u, ls[k]? = some u →
    w.cell? ⟨b, o + k, none⟩ = some (.slice u.a u.r.length u.c) ∧ u.r.length ≤ u.c ∧ Ints w B u.a u.r

theorem Lls.keep {w w' : World} {B : Nat} {A : Option Addr} {ls : List Li} (h : Lls w B A ls) (hk : Below B w w') : Lls w' B A ls := by
  intro hn
  obtain ⟨b, o, e, hb, hc⟩ := h hn
  refine ⟨b, o, e, hb, fun k u hu => ?_⟩
  obtain ⟨h1, h2, h3⟩ := hc k u hu
  exact ⟨(hk.cell (p := ⟨b, o + k, none⟩) hb).trans h1, h2, h3.keep hk⟩

theorem Lls.more {w : World} {B B' : Nat} {A : Option Addr} {ls : List Li} (h : Lls w B A ls) (hB : B ≤ B') : Lls w B' A ls := by
  intro hn
  obtain ⟨b, o, e, hb, hc⟩ := h hn
  refine ⟨b, o, e, by omega, fun k u hu => ?_⟩
  obtain ⟨h1, h2, h3⟩ := hc k u hu
  exact ⟨h1, h2, h3.more hB⟩

theorem Lls.at_ {w : World} {B : Nat} {A : Option Addr} {ls : List Li} (h : Lls w B A ls) {k : Nat} (hk : k < ls.length) :
    ∃ b o, A = some ⟨b, o, none⟩ ∧ b < B ∧ w.cell? ⟨b, o + k, none⟩ = some (.slice ls[k].a ls[k].r.length ls[k].c) ∧ ls[k].r.length ≤ ls[k].c ∧ Ints w B ls[k].a ls[k].r := by
  obtain ⟨b, o, e, hb, hc⟩ := h (by omega)
  exact ⟨b, o, e, hb, hc k _ (List.getElem?_eq_getElem hk)⟩

/-- What lists say, wherever they lie. -/
def sayL (ls : List Li) : List (List Int) := ls.map Li.r

theorem sayL_len {ls : List Li} : (sayL ls).length = ls.length := List.length_map _
theorem sayL_len' {ls : List Li} {xs : List (List Int)} (h : sayL ls = xs) : ls.length = xs.length := by rw [← h, sayL_len]
theorem sayL_at {ls : List Li} {k : Nat} (hk : k < ls.length) : (sayL ls)[k]? = some ls[k].r := by simp [sayL, List.getElem?_eq_getElem hk]
theorem sayL_mem {ls : List Li} {u : Li} (hu : u ∈ ls) : u.r ∈ sayL ls := List.mem_map.2 ⟨u, hu, rfl⟩

/-- No list is longer than m. -/
def ShortL (m : Nat) (xs : List (List Int)) : Prop := ∀ x ∈ xs, x.length ≤ m

/-- The slice of lists that begins at A, and each of the lists, are the call's own and read as ls; no two lists lie in one block. -/
def OwnL (w : World) (lo : Nat) (A : Option Addr) (ls : List Li) : Prop :=
  ls = [] ∨ ∃ (g : Nat) (cs : Array Value), A = some ⟨g, 0, none⟩ ∧ lo ≤ g ∧ Row w g 37 cs ∧
    (∀ (k : Nat) (u : Li), ls[k]? = some u → cs[k]? = some (.slice u.a u.r.length u.c) ∧ u.r.length ≤ u.c ∧ OwnI w lo u.a u.r) ∧
    ∀ (i j : Nat) (u v : Li), ls[i]? = some u → ls[j]? = some v → i ≠ j → u.r ≠ [] → v.r ≠ [] → u.a ≠ v.a

theorem OwnL.lls {w : World} {lo : Nat} {A : Option Addr} {ls : List Li} (h : OwnL w lo A ls) : Lls w w.heap.size A ls := by
  intro hn
  rcases h with rfl | ⟨g, cs, rfl, _, hr, hc, _⟩
  · simp at hn
  · refine ⟨g, 0, rfl, hr.lt, fun k u hu => ?_⟩
    obtain ⟨h1, h2, h3⟩ := hc k u hu
    exact ⟨by rw [hr.cell, Nat.zero_add]; exact h1, h2, h3.ints⟩

theorem OwnL.below {w w' : World} {lo B : Nat} {A : Option Addr} {ls : List Li} (h : OwnL w lo A ls) (hb : Below B w w') (hB : w.heap.size ≤ B) : OwnL w' lo A ls := by
  rcases h with h | ⟨g, cs, e, hl, hr, hc, hd⟩
  · exact .inl h
  · refine .inr ⟨g, cs, e, hl, hr.below hb (by have := hr.lt; omega), fun k u hu => ?_, hd⟩
    obtain ⟨h1, h2, h3⟩ := hc k u hu
    exact ⟨h1, h2, h3.below hb hB⟩

theorem OwnL.lower {w : World} {lo lo' : Nat} {A : Option Addr} {ls : List Li} (h : OwnL w lo A ls) (hl : lo' ≤ lo) : OwnL w lo' A ls := by
  rcases h with h | ⟨g, cs, e, h1, hr, hc, hd⟩
  · exact .inl h
  · refine .inr ⟨g, cs, e, by omega, hr, fun k u hu => ?_, hd⟩
    obtain ⟨a, b, c⟩ := hc k u hu
    exact ⟨a, b, c.lower hl⟩

theorem OwnL.low {w : World} {lo : Nat} {A : Option Addr} {ls : List Li} (h : OwnL w lo A ls) {p : Addr} (hp : p.block < lo) (u : Value) : OwnL (w.setCell p u) lo A ls := by
  rcases h with h | ⟨g, cs, e, hl, hr, hc, hd⟩
  · exact .inl h
  · refine .inr ⟨g, cs, e, hl, hr.far (by omega) u, fun k v hv => ?_, hd⟩
    obtain ⟨h1, h2, h3⟩ := hc k v hv
    exact ⟨h1, h2, h3.low hp u⟩

end Go.Proofs.YtaobkanliiiapaaDoor

/- What the laws' size counters answer of lists of lists, and of a binary grammar. -/

namespace Go.Proofs.YtaobkanliiiapaaDoor
open Go.RowKit

/-- The lists, one after the other. -/
def szL : List (List Int) → Int → Int
  | [], L => L
  | u :: r, L => if szI u.length L < 0 then -1 else szL r (szI u.length L)

def szLs (xs : List (List Int)) (L : Int) : Int := if L - xs.length < 0 then -1 else szL xs (L - xs.length)

theorem szL_ge : ∀ (rs : List (List Int)) {L : Int}, 0 ≤ L → -1 ≤ szL rs L ∧ (0 ≤ szL rs L → szL rs L ≤ L ∧ ∀ u ∈ rs, (u.length : Int) ≤ L)
  | [], L, _h => by simp [szL]; omega
  | u :: r, L, _h => by
    simp only [szL]
    split
    · simp
    · rename_i hn
      have h1 : szI u.length L = L - u.length := by unfold szI at hn ⊢; split <;> simp_all
      have ih := szL_ge r (L := szI u.length L) (by omega)
      refine ⟨ih.1, fun hp => ?_⟩
      obtain ⟨a, b⟩ := ih.2 hp
      refine ⟨by omega, fun v hv => ?_⟩
      rcases List.mem_cons.1 hv with rfl | hv
      · omega
      · have := b v hv; omega

theorem szLs_ge (rs : List (List Int)) {L : Int} (_h : 0 ≤ L) : -1 ≤ szLs rs L ∧ szLs rs L ≤ L := by
  unfold szLs; split
  · omega
  · have h := szL_ge rs (L := L - rs.length) (by omega)
    refine ⟨h.1, ?_⟩
    by_cases hp : 0 ≤ szL rs (L - rs.length)
    · have := (h.2 hp).1; omega
    · omega

/-- Where the count is not negative, the lists and each of them are no more than it began with. -/
theorem szLs_bound {rs : List (List Int)} {L : Int} (_h : 0 ≤ L) (hp : 0 ≤ szLs rs L) : (rs.length : Int) ≤ L ∧ ∀ u ∈ rs, (u.length : Int) ≤ L := by
  unfold szLs at hp
  split at hp
  · omega
  · obtain ⟨_, b⟩ := (szL_ge rs (L := L - rs.length) (by omega)).2 hp
    exact ⟨by omega, fun u hu => by have := b u hu; omega⟩

theorem szL_drop {ls : List Li} {k : Nat} (hk : k < ls.length) (L : Int) : szL (sayL (ls.drop k)) L = if szI ls[k].r.length L < 0 then -1 else szL (sayL (ls.drop (k + 1))) (szI ls[k].r.length L) := by
  rw [List.drop_eq_getElem_cons hk]; rfl

set_option maxHeartbeats 400000 in
theorem szIntSS_any (A : Option Addr) (ls : List Li) (c : Nat) (L : Int) (w : World) (hr : Lls w w.heap.size A ls) (hn : ls.length ≤ maxLen) (hu : ∀ u ∈ ls, u.r.length ≤ maxLen) (h0 : 0 ≤ L) (h1 : L ≤ 1048576) :
    Calls Tryd.prog 93 #[.slice A ls.length c, .int .i64 L] w fun e w' => e = .returned (.int .i64 (szLs (sayL ls) L)) ∧ Below w.heap.size w w' := by
  unfold maxLen at hn
  by_cases h : L - ls.length < 0
  · have hs : Hid (szLs (sayL ls) L = -1) := by show szLs (sayL ls) L = -1; unfold szLs; rw [sayL_len, if_pos h]
    have HU := Lib.hid hu; clear hu
    have HR := Lib.hid hr; clear hr
    go_enter Tryd.func93, Tryd.ntmps93
    go_wp2
    go_ret
    exact ⟨by rw [hs.out]; rfl, Below.refl _ _⟩
  · have hs : Hid (szLs (sayL ls) L = szL (sayL ls) (L - ls.length)) := by show szLs (sayL ls) L = _; unfold szLs; rw [sayL_len, if_neg h]
    have HU := Lib.hid hu; clear hu
    have HR := Lib.hid hr; clear hr
    go_enter Tryd.func93, Tryd.ntmps93
    go_wp2
    go_loopw [1, 5] (fun l i wr => ∃ (k : Nat) (M : Int), k ≤ ls.length ∧ i = .int .i64 k ∧ l = .int .i64 M ∧ 0 ≤ M ∧ M ≤ 1048576 ∧ Hid (szLs (sayL ls) L = szL (sayL (ls.drop k)) M) ∧ Below w.heap.size w wr) (fun _ i _ => ls.length - (intOf i).toNat)
    case atStart => exact ⟨0, L - ls.length, by omega, rfl, rfl, by omega, by omega, hs, Below.refl _ _⟩
    case round =>
      obtain ⟨k, M, hk, rfl, rfl, hM0, hM1, hS, hB⟩ := hrel
      by_cases hlt : k < ls.length
      · obtain ⟨b, o, rfl, hb, c1, c2, c3⟩ := (HR.out.keep hB).at_ hlt
        have hl := szI_le (n := ls[k].r.length) hM0
        have hlen := HU.out ls[k] (List.getElem_mem hlt)
        have HS : Hid (szLs (sayL ls) L = if szI ls[k].r.length M < 0 then -1 else szL (sayL (ls.drop (k + 1))) (szI ls[k].r.length M)) := by show _ = _; rw [hS.out, szL_drop hlt]
        clear hS c3
        by_cases hneg : szI ls[k].r.length M < 0
        · go_wp2_with (go_at_call 94; refine (szIntS_any _ _ _ _ _ hlen hM0 hM1).mono ?_; rintro e w' ⟨rfl, rfl⟩)
          go_ret
          exact ⟨ret_int (by rw [HS.out, if_pos hneg]), hB⟩
        · go_wp2_with (go_at_call 94; refine (szIntS_any _ _ _ _ _ hlen hM0 hM1).mono ?_; rintro e w' ⟨rfl, rfl⟩)
          go_roundw
          case rel => exact ⟨k + 1, _, by omega, by go_num, rfl, by omega, by omega, by show _ = _; rw [HS.out, if_neg (by omega)], hB⟩
          case measure => simp [intOf]; omega
      · go_wp2
        go_ret
        exact ⟨ret_int (by rw [hS.out, List.drop_of_length_le (by omega)]; rfl), hB⟩

end Go.Proofs.YtaobkanliiiapaaDoor

/- What the laws' copy of lists of lists makes: new memory that reads as what was copied. -/

namespace Go.Proofs.YtaobkanliiiapaaDoor
open Go.RowKit

theorem Tryd.infoIntS : (Tryd.prog.info? 37).map (fun i => (i.zero, i.size, i.bytes)) = some (some (.slice none 0 0), 1, 24) := by kernel_rfl

def zL (n : Nat) : Array Value := madeCells #[.slice none 0 0] n
theorem zL_size (n : Nat) : (zL n).size = n := size_madeCells _ _

theorem make_lists (n : Nat) (hn : n ≤ 1048576) (w : World) :
    (Instr.makeSlice 25 (.int .i64 (n : Int)) (.int .i64 (n : Int))).run Tryd.prog w = .ok (.slice (some ⟨w.heap.size, 0, none⟩) n n) (w.alloc (.cells (zL n) 37)) := by
  obtain ⟨i, hi, hz, hs, hb⟩ := info_of Tryd.infoIntS
  have h := run_make (P := Tryd.prog) w 25 37 i _ Tryd.underlying25 hi hz .i64 .i64 n n (by omega) (by omega) (by rw [hb]; omega) (by omega)
  rw [hs] at h
  simpa [zL, Value.cells] using h

/-- A new slice of lists that says what xs say; nothing older has turned. -/
def GaveL (w : World) (xs : List (List Int)) (e : Ending) (w' : World) : Prop :=
  ∃ A c ls, e = .returned (.slice A ls.length c) ∧ ls.length ≤ c ∧ OwnL w' w.heap.size A ls ∧ sayL ls = xs ∧ Below w.heap.size w w'

/-- The first k of n lists have been put into block g; they read as done. -/
def FillL (w : World) (lo g n : Nat) (done : List Li) : Prop :=
  ∃ (cs : Array Value), Row w g 37 cs ∧ cs.size = n ∧
    (∀ (j : Nat) (u : Li), done[j]? = some u → cs[j]? = some (.slice u.a u.r.length u.c) ∧ u.r.length ≤ u.c ∧ OwnI w lo u.a u.r) ∧
    ∀ (i j : Nat) (u v : Li), done[i]? = some u → done[j]? = some v → i ≠ j → u.r ≠ [] → v.r ≠ [] → u.a ≠ v.a

theorem getElem?_snoc {α : Type} {xs : List α} {y u : α} {i : Nat} (h : (xs ++ [y])[i]? = some u) : (i < xs.length ∧ xs[i]? = some u) ∨ (i = xs.length ∧ u = y) := by
  by_cases e : i < xs.length
  · rw [List.getElem?_append_left e] at h; exact .inl ⟨e, h⟩
  · rw [List.getElem?_append_right (by omega)] at h
    have hj : i - xs.length = 0 := by
      rcases Nat.eq_zero_or_pos (i - xs.length) with h0 | h0
      · exact h0
      · rw [List.getElem?_eq_none (by simp; omega)] at h; cases h
    rw [hj] at h
    simp at h
    exact .inr ⟨by omega, h.symm⟩

/-- Lists that lie apart stay so with one more in newer memory. -/
theorem apart_snoc {w : World} {lo : Nat} {done : List Li} {v : Li} {w1 : World}
    (hd : ∀ (i j : Nat) (u v : Li), done[i]? = some u → done[j]? = some v → i ≠ j → u.r ≠ [] → v.r ≠ [] → u.a ≠ v.a)
    (hc : ∀ (j : Nat) (u : Li), done[j]? = some u → OwnI w lo u.a u.r) (hO : OwnI w1 w.heap.size v.a v.r) :
    ∀ (i j : Nat) (u x : Li), (done ++ [v])[i]? = some u → (done ++ [v])[j]? = some x → i ≠ j → u.r ≠ [] → x.r ≠ [] → u.a ≠ x.a := by
  have old : ∀ (i : Nat) (u : Li), done[i]? = some u → u.r ≠ [] → v.r ≠ [] → u.a ≠ v.a := by
    intro i u hu hne hne' he
    rcases hc i u hu with h3 | ⟨g1, _, e1, _, r1, _⟩
    · exact hne h3
    · rcases hO with h4 | ⟨g2, _, e2, l2, _, _⟩
      · exact hne' h4
      · rw [e1, e2] at he
        have := r1.lt
        injection he with he
        injection he with he
        omega
  intro i j u x hu hx hij hun hxn
  rcases getElem?_snoc hu with ⟨_, hu'⟩ | ⟨hi, ei⟩ <;> rcases getElem?_snoc hx with ⟨_, hx'⟩ | ⟨hj, ej⟩
  · exact hd i j u x hu' hx' hij hun hxn
  · rw [ej]; exact old i u hu' hun (ej ▸ hxn)
  · rw [ei]; exact fun e => old j x hx' hxn (ei ▸ hun) e.symm
  · omega

theorem OwnI.farL {w : World} {lo g : Nat} {A : Option Addr} {xs : List Int} {cs : Array Value} (h : OwnI w lo A xs) (hr : Row w g 37 cs) (i : Nat) (v : Value) : OwnI (w.setCell ⟨g, i, none⟩ v) lo A xs := by
  rcases h with h | ⟨g', cs', e, hl', hr', hc'⟩
  · exact .inl h
  · have hne : g' ≠ g := hr'.ne hr (by decide)
    exact .inr ⟨g', cs', e, hl', hr'.far hne _, hc'⟩

theorem FillL.step {w w1 : World} {lo g n : Nat} {done : List Li} (h : FillL w lo g n done) (hlo : lo ≤ w.heap.size) (hk : done.length < n) (hb : Below w.heap.size w w1) {A : Option Addr} {xs : List Int} {c : Nat} (hcap : xs.length ≤ c) (hO : OwnI w1 w.heap.size A xs) :
    FillL (w1.setCell ⟨g, done.length, none⟩ (.slice A xs.length c)) lo g n (done ++ [⟨A, xs, c⟩]) := by
  obtain ⟨cs, hr, hs, hc, hd⟩ := h
  have hg : g < w.heap.size := hr.lt
  have hr1 : Row w1 g 37 cs := hr.below hb hg
  refine ⟨cs.setIfInBounds done.length (.slice A xs.length c), hr1.set _ _, by simp [hs], ?_, apart_snoc hd (fun j u hu => (hc j u hu).2.2) (v := ⟨A, xs, c⟩) hO⟩
  intro j u hu
  rcases getElem?_snoc hu with ⟨hj, hu⟩ | ⟨rfl, rfl⟩
  · obtain ⟨h1, h2, h3⟩ := hc j u hu
    refine ⟨?_, h2, (h3.below hb (Nat.le_refl _)).farL hr1 _ _⟩
    rw [Array.getElem?_setIfInBounds, if_neg (by omega)]; exact h1
  · refine ⟨?_, hcap, (hO.lower hlo).farL hr1 _ _⟩
    rw [Array.getElem?_setIfInBounds, if_pos rfl, if_pos (by omega)]

theorem FillL.row {w : World} {lo g n : Nat} {done : List Li} (h : FillL w lo g n done) : ∃ cs, Row w g 37 cs ∧ cs.size = n := by
  obtain ⟨cs, hr, hs, _⟩ := h
  exact ⟨cs, hr, hs⟩

theorem FillL.own {w : World} {lo g n : Nat} {done : List Li} (h : FillL w lo g n done) (hg : lo ≤ g) : OwnL w lo (some ⟨g, 0, none⟩) done := by
  obtain ⟨cs, hr, _, hc, hd⟩ := h
  exact .inr ⟨g, cs, rfl, hg, hr, hc, hd⟩

theorem say_step {ls : List Li} {done : List Li} {k : Nat} (hk : k < ls.length) (h : sayL done = sayL (ls.take k)) {A : Option Addr} {c : Nat} : sayL (done ++ [⟨A, ls[k].r, c⟩]) = sayL (ls.take (k + 1)) := by
  unfold sayL at h ⊢
  rw [List.map_append, h, List.take_succ_eq_append_getElem hk, List.map_append]; rfl
theorem say_take_len {ls done : List Li} {k : Nat} (hk : k ≤ ls.length) (h : sayL done = sayL (ls.take k)) : done.length = k := by
  rw [sayL_len' h, sayL_len, List.length_take]; omega

set_option maxHeartbeats 400000 in
theorem toIntSS_any (A : Option Addr) (ls : List Li) (c : Nat) (w : World) (hr : Lls w w.heap.size A ls) (hn : ls.length ≤ 1048576) (hu : ∀ u ∈ ls, u.r.length ≤ 1048576) :
    Calls Tryd.prog 97 #[.slice A ls.length c] w (GaveL w (sayL ls)) := by
  have hmk := make_lists ls.length hn
  have HR := Lib.hid hr; clear hr
  have HU := Lib.hid hu; clear hu
  go_enter Tryd.func97, Tryd.ntmps97
  go_wp2
  go_loopw [4] (fun i wr => ∃ (k : Nat) (done : List Li), k ≤ ls.length ∧ i = .int .i64 k ∧ w.heap.size < wr.heap.size ∧ Below w.heap.size w wr ∧ Hid (sayL done = sayL (ls.take k)) ∧ Hid (FillL wr w.heap.size w.heap.size ls.length done)) (fun i _ => ls.length - (intOf i).toNat)
  case atStart => exact ⟨0, [], by omega, rfl, by simp, (Below.refl _ _).alloc (Nat.le_refl _) _, by simp [sayL, Hid], zL ls.length, Row.new _ _ _, zL_size _, fun j u h => by simp at h, fun i j u v h => by simp at h⟩
  case round =>
    obtain ⟨k, done, hk, rfl, hsz, hB, HT, H⟩ := hrel
    clear hmk
    by_cases hlt : k < ls.length
    · obtain ⟨b, o, rfl, hb, c1, c2, c3⟩ := (HR.out.keep hB).at_ hlt
      have C3 := Lib.hid (c3.more hB.size); clear c3
      have hlen := HU.out ls[k] (List.getElem_mem hlt)
      go_wp2_with fail
      refine (toIntS_any _ _ _ _ C3.out hlen).mono ?_
      rintro e w1 ⟨A1, k1, rfl, hcap, hO, hB1⟩
      obtain ⟨cs, hcs, hcz⟩ := H.out.row
      have hr1 := hcs.below hB1 hsz
      obtain ⟨x0, d0⟩ : ∃ x0, w1.cell? ⟨w.heap.size, k, none⟩ = some x0 := ⟨_, (hr1.cell k).trans (Array.getElem?_eq_getElem (by omega))⟩
      have f0 := hr1.frozen k
      have HO := Lib.hid hO; clear hO
      have HB1 := Lib.hid hB1; clear hB1
      have HC := Lib.hid hcap; clear hcap
      clear hr1 hcs hcz
      go_wp2
      go_roundw
      case rel =>
        obtain rfl : done.length = k := say_take_len hk HT.out
        exact ⟨done.length + 1, done ++ [⟨A1, ls[done.length].r, k1⟩], by omega, by go_num, by have := HB1.out.size; simp; omega, ((hB.trans (HB1.out.mono hB.size)).setCell (Nat.le_refl _) _), Lib.hid (say_step hlt HT.out), Lib.hid (H.out.step hB.size hlt HB1.out HC.out HO.out)⟩
      case measure => simp [intOf]; omega
    · go_wp2
      go_ret
      obtain rfl : k = ls.length := by omega
      have hl := say_take_len hk HT.out
      have ht := HT.out
      rw [List.take_length] at ht
      exact ⟨some ⟨w.heap.size, 0, none⟩, ls.length, done, by rw [hl]; rfl, by omega, H.out.own (Nat.le_refl _), ht, hB⟩

end Go.Proofs.YtaobkanliiiapaaDoor

/- What the laws' comparison of lists of lists answers. -/

namespace Go.Proofs.YtaobkanliiiapaaDoor
open Go.RowKit

def eqLs (xs ys : List (List Int)) : Bool := decide (xs = ys)
theorem eqLs_t {u v : List (List Int)} (h : u = v) : eqLs u v = true := decide_eq_true h
theorem eqLs_f {u v : List (List Int)} (h : u ≠ v) : eqLs u v = false := decide_eq_false h

theorem step_eqLs {rs ss : List Li} {k : Nat} (hx : k < rs.length) (hy : k < ss.length) (he : eqL rs[k].r ss[k].r = true) (h : ∀ j : Nat, j < k → (sayL rs)[j]? = (sayL ss)[j]?) :
    ∀ j : Nat, j < k + 1 → (sayL rs)[j]? = (sayL ss)[j]? := by
  intro j hj
  by_cases e : j = k
  · subst e; rw [sayL_at hx, sayL_at hy, of_decide_eq_true he]
  · exact h j (by omega)
theorem eqLs_of {rs ss : List Li} {k : Nat} (hl : rs.length = ss.length) (hk : ¬ k < rs.length) (h : ∀ j : Nat, j < k → (sayL rs)[j]? = (sayL ss)[j]?) : eqLs (sayL rs) (sayL ss) = true := by
  refine eqLs_t (List.ext_getElem? fun j => ?_)
  by_cases hj : j < k
  · exact h j hj
  · rw [List.getElem?_eq_none (by rw [sayL_len]; omega), List.getElem?_eq_none (by rw [sayL_len]; omega)]
theorem eqLs_not {rs ss : List Li} {k : Nat} (hx : k < rs.length) (hy : k < ss.length) (h : eqL rs[k].r ss[k].r = false) : eqLs (sayL rs) (sayL ss) = false := by
  refine eqLs_f fun e => ?_
  have e' := congrArg (fun l => l[k]?) e
  simp only [sayL_at hx, sayL_at hy, Option.some.injEq] at e'
  rw [eqL_t e'] at h
  cases h

set_option maxRecDepth 10000 in
set_option maxHeartbeats 400000 in
theorem eqIntSS_any (A A' : Option Addr) (rs ss : List Li) (c c' : Nat) (w : World) (hx : Lls w w.heap.size A rs) (hy : Lls w w.heap.size A' ss) (h1 : rs.length ≤ 1048576) (h2 : ∀ u ∈ rs, u.r.length ≤ 1048576) :
    Calls Tryd.prog 86 #[.slice A rs.length c, .slice A' ss.length c'] w fun e w' => e = .returned (.bool (eqLs (sayL rs) (sayL ss))) ∧ Below w.heap.size w w' := by
  have HX := Lib.hid hx; clear hx
  have HY := Lib.hid hy; clear hy
  have H2 := Lib.hid h2; clear h2
  by_cases hl : rs.length = ss.length
  · have hd : ((rs.length : Int) != (ss.length : Int)) = false := bne_f (by omega)
    have hlen : rs.length ≤ ss.length := by omega
    have hlen' : ss.length ≤ rs.length := by omega
    have HL := Lib.hid hl; clear hl
    go_enter Tryd.func86, Tryd.ntmps86
    go_wp2
    go_loopw [5] (fun i wr => ∃ (k : Nat), k ≤ rs.length ∧ i = .int .i64 k ∧ Below w.heap.size w wr ∧ Hid (∀ j : Nat, j < k → (sayL rs)[j]? = (sayL ss)[j]?)) (fun i _ => rs.length - (intOf i).toNat)
    case atStart => exact ⟨0, by omega, rfl, Below.refl _ _, fun j h => absurd h (by omega)⟩
    case round =>
      obtain ⟨k, hk, rfl, hB, H⟩ := hrel
      by_cases hlt : k < rs.length
      · have hlt' : k < ss.length := by omega
        obtain ⟨b, o, rfl, hb, c1, c2, c3⟩ := (HX.out.keep hB).at_ hlt
        obtain ⟨b', o', rfl, hb', d1, d2, d3⟩ := (HY.out.keep hB).at_ hlt'
        have C3 := Lib.hid (c3.more hB.size); clear c3
        have D3 := Lib.hid (d3.more hB.size); clear d3
        have hlen2 := H2.out rs[k] (List.getElem_mem hlt)
        cases hq : eqL rs[k].r ss[k].r
        all_goals
          have HQ := Lib.hid hq; clear hq
          go_wp2
          go_still_tail 8, (by kernel_rfl)
          change wpList _ _ _ _ _ wr.drew
          go_wp2_with fail
          refine (eqIntS_any _ _ _ _ _ _ _ ?_ ?_ hlen2).mono ?_
          · exact C3.out.keep (by go_grown)
          · exact D3.out.keep (by go_grown)
          rintro e w1 ⟨rfl, hB1⟩
          have hB2 : Below w.heap.size w w1 := hB.trans (Below.trans (by go_grown) (hB1.mono hB.size))
          clear hB1
          rw [HQ.out]
        · have HE : Hid (eqLs (sayL rs) (sayL ss) = false) := eqLs_not hlt hlt' HQ.out
          go_wp2
          go_ret
          exact ⟨ret_bool HE.out.symm, hB2⟩
        · go_wp2
          go_roundw
          case rel => exact ⟨k + 1, by omega, by go_num, hB2, step_eqLs hlt hlt' HQ.out H.out⟩
          case measure => simp [intOf]; omega
      · have HE : Hid (eqLs (sayL rs) (sayL ss) = true) := eqLs_of HL.out hlt H.out
        go_wp2
        go_ret
        exact ⟨ret_bool HE.out.symm, hB⟩
  · have hd : ((rs.length : Int) != (ss.length : Int)) = true := bne_t (by omega)
    have HE : Hid (eqLs (sayL rs) (sayL ss) = false) := eqLs_f fun e => hl (by rw [← sayL_len, e, sayL_len])
    clear hl
    go_enter Tryd.func86, Tryd.ntmps86
    go_wp2
    go_ret
    exact ⟨ret_bool HE.out.symm, Below.refl _ _⟩

end Go.Proofs.YtaobkanliiiapaaDoor

/- A binary grammar as it lies in memory; what the laws' size counter, copy and comparison answer of it. -/

namespace Go.Proofs.YtaobkanliiiapaaDoor
open Go.RowKit

/-- A binary grammar as it lies in memory. -/
structure Bi where
  n : Int
  t : Int
  Ap : Option Addr
  P : List Li
  cp : Nat
  Ao : Option Addr
  O : List Li
  co : Nat
  Ae : Option Addr
  E : List Int
  ce : Nat
  Af : Option Addr
  F : List Li
  cf : Nat

/-- What a binary grammar says, wherever it lies. -/
structure Bs where
  n : Int
  t : Int
  P : List (List Int)
  O : List (List Int)
  E : List Int
  F : List (List Int)
deriving DecidableEq

def Bi.say (b : Bi) : Bs := ⟨b.n, b.t, sayL b.P, sayL b.O, b.E, sayL b.F⟩

/-- Its lists can be read, all of them below block B. -/
def ReadB (w : World) (B : Nat) (b : Bi) : Prop := Lls w B b.Ap b.P ∧ Lls w B b.Ao b.O ∧ Ints w B b.Ae b.E ∧ Lls w B b.Af b.F

theorem ReadB.keep {w w' : World} {B : Nat} {b : Bi} (h : ReadB w B b) (hk : Below B w w') : ReadB w' B b := ⟨h.1.keep hk, h.2.1.keep hk, h.2.2.1.keep hk, h.2.2.2.keep hk⟩
theorem ReadB.more {w : World} {B B' : Nat} {b : Bi} (h : ReadB w B b) (hB : B ≤ B') : ReadB w B' b := ⟨h.1.more hB, h.2.1.more hB, h.2.2.1.more hB, h.2.2.2.more hB⟩

/-- None of its lists is longer than m. -/
structure LenB (m : Nat) (b : Bi) : Prop where
  p : b.P.length ≤ m
  ps : ∀ u ∈ b.P, u.r.length ≤ m
  o : b.O.length ≤ m
  os : ∀ u ∈ b.O, u.r.length ≤ m
  e : b.E.length ≤ m
  f : b.F.length ≤ m
  fs : ∀ u ∈ b.F, u.r.length ≤ m

/-- Its lists have room for what they hold. -/
structure CapB (b : Bi) : Prop where
  p : b.P.length ≤ b.cp
  o : b.O.length ≤ b.co
  e : b.E.length ≤ b.ce
  f : b.F.length ≤ b.cf

def szB (P O : List (List Int)) (E : List Int) (F : List (List Int)) (L : Int) : Int :=
  if szLs P L < 0 then -1 else if szLs O (szLs P L) < 0 then -1 else if szI E.length (szLs O (szLs P L)) < 0 then -1 else
  if szLs F (szI E.length (szLs O (szLs P L))) < 0 then -1 else szLs F (szI E.length (szLs O (szLs P L)))

theorem szB_bound {b : Bi} (hp : 0 ≤ szB (sayL b.P) (sayL b.O) b.E (sayL b.F) 1048576) : LenB 1048576 b := by
  unfold szB at hp
  split at hp
  · omega
  rename_i h1
  split at hp
  · omega
  rename_i h2
  split at hp
  · omega
  rename_i h3
  split at hp
  · omega
  rename_i h4
  have a1 := szLs_ge (sayL b.P) (L := 1048576) (by omega)
  have b1 := szLs_bound (rs := sayL b.P) (L := 1048576) (by omega) (by omega)
  have a2 := szLs_ge (sayL b.O) (L := szLs (sayL b.P) 1048576) (by omega)
  have b2 := szLs_bound (rs := sayL b.O) (L := szLs (sayL b.P) 1048576) (by omega) (by omega)
  have a3 := szI_le (n := b.E.length) (L := szLs (sayL b.O) (szLs (sayL b.P) 1048576)) (by omega)
  have e3 : szI b.E.length (szLs (sayL b.O) (szLs (sayL b.P) 1048576)) = szLs (sayL b.O) (szLs (sayL b.P) 1048576) - b.E.length := by
    unfold szI at h3 ⊢; split <;> simp_all
  have b4 := szLs_bound (rs := sayL b.F) (L := szI b.E.length (szLs (sayL b.O) (szLs (sayL b.P) 1048576))) (by omega) (by omega)
  have say : ∀ {ls : List Li} {L : Int}, L ≤ 1048576 → ((sayL ls).length : Int) ≤ L ∧ (∀ u ∈ sayL ls, (u.length : Int) ≤ L) → ls.length ≤ 1048576 ∧ ∀ u ∈ ls, u.r.length ≤ 1048576 := by
    intro ls L hL h
    refine ⟨by have := h.1; rw [sayL_len] at this; omega, fun u hu => ?_⟩
    have := h.2 u.r (sayL_mem hu)
    omega
  obtain ⟨p1, p2⟩ := say (by omega) b1
  obtain ⟨o1, o2⟩ := say (by omega) b2
  obtain ⟨f1, f2⟩ := say (by omega) b4
  exact ⟨p1, p2, o1, o2, by omega, f1, f2⟩

theorem LenB.of_say {m : Nat} {b b' : Bi} (h : LenB m b) (e : b'.say = b.say) : LenB m b' := by
  have one : ∀ {ls ls' : List Li}, sayL ls' = sayL ls → ls.length ≤ m → (∀ u ∈ ls, u.r.length ≤ m) → ls'.length ≤ m ∧ ∀ u ∈ ls', u.r.length ≤ m := by
    intro ls ls' e h1 h2
    refine ⟨by rw [sayL_len' e, sayL_len]; exact h1, fun u hu => ?_⟩
    have := sayL_mem hu
    rw [e] at this
    obtain ⟨v, hv, e'⟩ := List.mem_map.1 this
    rw [← e']; exact h2 v hv
  obtain ⟨a1, a2⟩ := one (congrArg Bs.P e) h.p h.ps
  obtain ⟨b1, b2⟩ := one (congrArg Bs.O e) h.o h.os
  obtain ⟨c1, c2⟩ := one (congrArg Bs.F e) h.f h.fs
  exact ⟨a1, a2, b1, b2, by rw [show b'.E = b.E from congrArg Bs.E e]; exact h.e, c1, c2⟩

set_option maxHeartbeats 1000000 in
theorem szBinary_any (b : Bi) (w : World) (hr : ReadB w w.heap.size b) (hm : LenB maxLen b) :
    Calls Tryd.prog 45 #[(.agg #[.int .i64 b.n, .int .i64 b.t, .slice b.Ap b.P.length b.cp, .slice b.Ao b.O.length b.co, .slice b.Ae b.E.length b.ce, .slice b.Af b.F.length b.cf]), .int .i64 1048576] w fun e w' => e = .returned (.int .i64 (szB (sayL b.P) (sayL b.O) b.E (sayL b.F) 1048576)) ∧ Below w.heap.size w w' := by
  have HR := Lib.hid hr; clear hr
  have HM := Lib.hid hm; clear hm
  go_enter Tryd.func45, Tryd.ntmps45
  go_wp2_with fail
  have hB0 : Below w.heap.size w (w.alloc (.cells #[.int .i64 b.n, .int .i64 b.t, .slice b.Ap b.P.length b.cp, .slice b.Ao b.O.length b.co, .slice b.Ae b.E.length b.ce, .slice b.Af b.F.length b.cf] 67)) := by go_grown
  have R0 : Row (w.alloc (.cells #[.int .i64 b.n, .int .i64 b.t, .slice b.Ap b.P.length b.cp, .slice b.Ao b.O.length b.co, .slice b.Ae b.E.length b.ce, .slice b.Af b.F.length b.cf] 67)) w.heap.size 67 #[.int .i64 b.n, .int .i64 b.t, .slice b.Ap b.P.length b.cp, .slice b.Ao b.O.length b.co, .slice b.Ae b.E.length b.ce, .slice b.Af b.F.length b.cf] := Row.new _ _ _
  generalize (w.alloc (.cells #[.int .i64 b.n, .int .i64 b.t, .slice b.Ap b.P.length b.cp, .slice b.Ao b.O.length b.co, .slice b.Ae b.E.length b.ce, .slice b.Af b.F.length b.cf] 67)) = W at hB0 R0 ⊢
  have HB0 := Lib.hid hB0; clear hB0
  have HR0 := Lib.hid R0; clear R0
  have g1 := szLs_ge (sayL b.P) (L := 1048576) (by omega)
  refine (szIntSS_any _ _ _ _ _ ((HR.out.1.keep HB0.out).more HB0.out.size) HM.out.p HM.out.ps (by omega) (by omega)).mono ?_
  rintro e w1 ⟨rfl, hB1⟩
  have HR1 := Lib.hid (HR0.out.below hB1 HR0.out.lt)
  have HB1 := Lib.hid (HB0.out.trans (hB1.mono HB0.out.size)); clear hB1 HR0 HB0
  have a3 := HR1.out.cell 3
  have a4 := HR1.out.cell 4
  have a5 := HR1.out.cell 5
  simp only [List.getElem?_toArray, List.getElem?_cons_succ, List.getElem?_cons_zero] at a3 a4 a5
  by_cases h1 : szLs (sayL b.P) 1048576 < 0
  · have HE : Hid (szB (sayL b.P) (sayL b.O) b.E (sayL b.F) 1048576 = -1) := by show _ = _; unfold szB; rw [if_pos h1]
    go_wp2
    go_ret
    exact ⟨ret_int HE.out.symm, HB1.out⟩
  have g2 := szLs_ge (sayL b.O) (L := szLs (sayL b.P) 1048576) (by omega)
  go_wp2_with fail
  refine (szIntSS_any _ _ _ _ _ ((HR.out.2.1.keep HB1.out).more HB1.out.size) HM.out.o HM.out.os (by omega) (by omega)).mono ?_
  rintro e w2 ⟨rfl, hB2⟩
  have HR2 := Lib.hid (HR1.out.below hB2 HR1.out.lt)
  have HB2 := Lib.hid (HB1.out.trans (hB2.mono HB1.out.size)); clear hB2 HR1 HB1 a3 a4 a5
  have a4 := HR2.out.cell 4
  have a5 := HR2.out.cell 5
  simp only [List.getElem?_toArray, List.getElem?_cons_succ, List.getElem?_cons_zero] at a4 a5
  by_cases h2 : szLs (sayL b.O) (szLs (sayL b.P) 1048576) < 0
  · have HE : Hid (szB (sayL b.P) (sayL b.O) b.E (sayL b.F) 1048576 = -1) := by show _ = _; unfold szB; rw [if_neg (by omega), if_pos h2]
    go_wp2
    go_ret
    exact ⟨ret_int HE.out.symm, HB2.out⟩
  have g3 := szI_le (n := b.E.length) (L := szLs (sayL b.O) (szLs (sayL b.P) 1048576)) (by omega)
  go_wp2_with fail
  refine (szIntS_any _ _ _ _ _ HM.out.e (by omega) (by omega)).mono ?_
  rintro e w3 ⟨rfl, rfl⟩
  by_cases h3 : szI b.E.length (szLs (sayL b.O) (szLs (sayL b.P) 1048576)) < 0
  · have HE : Hid (szB (sayL b.P) (sayL b.O) b.E (sayL b.F) 1048576 = -1) := by show _ = _; unfold szB; rw [if_neg (by omega), if_neg (by omega), if_pos h3]
    go_wp2
    go_ret
    exact ⟨ret_int HE.out.symm, HB2.out⟩
  have g4 := szLs_ge (sayL b.F) (L := szI b.E.length (szLs (sayL b.O) (szLs (sayL b.P) 1048576))) (by omega)
  go_wp2_with fail
  refine (szIntSS_any _ _ _ _ _ ((HR.out.2.2.2.keep HB2.out).more HB2.out.size) HM.out.f HM.out.fs (by omega) (by omega)).mono ?_
  rintro e w4 ⟨rfl, hB4⟩
  have HB4 := Lib.hid (HB2.out.trans (hB4.mono HB2.out.size)); clear hB4 HR2 HB2 a4 a5
  by_cases h4 : szLs (sayL b.F) (szI b.E.length (szLs (sayL b.O) (szLs (sayL b.P) 1048576))) < 0
  · have HE : Hid (szB (sayL b.P) (sayL b.O) b.E (sayL b.F) 1048576 = -1) := by show _ = _; unfold szB; rw [if_neg (by omega), if_neg (by omega), if_neg (by omega), if_pos h4]
    go_wp2
    go_ret
    exact ⟨ret_int HE.out.symm, HB4.out⟩
  · have HE : Hid (szB (sayL b.P) (sayL b.O) b.E (sayL b.F) 1048576 = szLs (sayL b.F) (szI b.E.length (szLs (sayL b.O) (szLs (sayL b.P) 1048576)))) := by show _ = _; unfold szB; rw [if_neg (by omega), if_neg (by omega), if_neg (by omega), if_neg (by omega)]
    go_wp2
    go_ret
    exact ⟨ret_int HE.out.symm, HB4.out⟩

/-- Two binary grammars say the same. -/
def eqB (s s' : Bs) : Bool := decide (s = s')
theorem eqB_t {s s' : Bs} (h : s = s') : eqB s s' = true := decide_eq_true h

set_option maxHeartbeats 1000000 in
theorem eqBinary_any (b b' : Bi) (w : World) (hx : ReadB w w.heap.size b) (hy : ReadB w w.heap.size b') (hm : LenB 1048576 b) (heq : b.say = b'.say) :
    Calls Tryd.prog 32 #[(.agg #[.int .i64 b.n, .int .i64 b.t, .slice b.Ap b.P.length b.cp, .slice b.Ao b.O.length b.co, .slice b.Ae b.E.length b.ce, .slice b.Af b.F.length b.cf]), (.agg #[.int .i64 b'.n, .int .i64 b'.t, .slice b'.Ap b'.P.length b'.cp, .slice b'.Ao b'.O.length b'.co, .slice b'.Ae b'.E.length b'.ce, .slice b'.Af b'.F.length b'.cf])] w fun e w' => e = .returned (.bool true) ∧ Below w.heap.size w w' := by
  have HX := Lib.hid hx; clear hx
  have HY := Lib.hid hy; clear hy
  have HM := Lib.hid hm; clear hm
  have e1 : (b.n != b'.n) = false := bne_f (congrArg Bs.n heq)
  have e2 : (b.t != b'.t) = false := bne_f (congrArg Bs.t heq)
  have E3 : Hid (eqLs (sayL b.P) (sayL b'.P) = true) := eqLs_t (congrArg Bs.P heq)
  have E4 : Hid (eqLs (sayL b.O) (sayL b'.O) = true) := eqLs_t (congrArg Bs.O heq)
  have E5 : Hid (eqL b.E b'.E = true) := eqL_t (congrArg Bs.E heq)
  have E6 : Hid (eqLs (sayL b.F) (sayL b'.F) = true) := eqLs_t (congrArg Bs.F heq)
  clear heq
  go_enter Tryd.func32, Tryd.ntmps32
  go_wp2_with fail
  have hB0 : Below w.heap.size w ((w.alloc (.cells #[.int .i64 b.n, .int .i64 b.t, .slice b.Ap b.P.length b.cp, .slice b.Ao b.O.length b.co, .slice b.Ae b.E.length b.ce, .slice b.Af b.F.length b.cf] 41)).alloc (.cells #[.int .i64 b'.n, .int .i64 b'.t, .slice b'.Ap b'.P.length b'.cp, .slice b'.Ao b'.O.length b'.co, .slice b'.Ae b'.E.length b'.ce, .slice b'.Af b'.F.length b'.cf] 41)) := by go_grown
  have Ra : Row ((w.alloc (.cells #[.int .i64 b.n, .int .i64 b.t, .slice b.Ap b.P.length b.cp, .slice b.Ao b.O.length b.co, .slice b.Ae b.E.length b.ce, .slice b.Af b.F.length b.cf] 41)).alloc (.cells #[.int .i64 b'.n, .int .i64 b'.t, .slice b'.Ap b'.P.length b'.cp, .slice b'.Ao b'.O.length b'.co, .slice b'.Ae b'.E.length b'.ce, .slice b'.Af b'.F.length b'.cf] 41)) w.heap.size 41 #[.int .i64 b.n, .int .i64 b.t, .slice b.Ap b.P.length b.cp, .slice b.Ao b.O.length b.co, .slice b.Ae b.E.length b.ce, .slice b.Af b.F.length b.cf] := (Row.new _ _ _).alloc _
  have Rb : Row ((w.alloc (.cells #[.int .i64 b.n, .int .i64 b.t, .slice b.Ap b.P.length b.cp, .slice b.Ao b.O.length b.co, .slice b.Ae b.E.length b.ce, .slice b.Af b.F.length b.cf] 41)).alloc (.cells #[.int .i64 b'.n, .int .i64 b'.t, .slice b'.Ap b'.P.length b'.cp, .slice b'.Ao b'.O.length b'.co, .slice b'.Ae b'.E.length b'.ce, .slice b'.Af b'.F.length b'.cf] 41)) (w.heap.size + 1) 41 #[.int .i64 b'.n, .int .i64 b'.t, .slice b'.Ap b'.P.length b'.cp, .slice b'.Ao b'.O.length b'.co, .slice b'.Ae b'.E.length b'.ce, .slice b'.Af b'.F.length b'.cf] := by have h := Row.new (w.alloc (.cells #[.int .i64 b.n, .int .i64 b.t, .slice b.Ap b.P.length b.cp, .slice b.Ao b.O.length b.co, .slice b.Ae b.E.length b.ce, .slice b.Af b.F.length b.cf] 41)) 41 #[.int .i64 b'.n, .int .i64 b'.t, .slice b'.Ap b'.P.length b'.cp, .slice b'.Ao b'.O.length b'.co, .slice b'.Ae b'.E.length b'.ce, .slice b'.Af b'.F.length b'.cf]; rw [World.size_alloc] at h; exact h
  generalize ((w.alloc (.cells #[.int .i64 b.n, .int .i64 b.t, .slice b.Ap b.P.length b.cp, .slice b.Ao b.O.length b.co, .slice b.Ae b.E.length b.ce, .slice b.Af b.F.length b.cf] 41)).alloc (.cells #[.int .i64 b'.n, .int .i64 b'.t, .slice b'.Ap b'.P.length b'.cp, .slice b'.Ao b'.O.length b'.co, .slice b'.Ae b'.E.length b'.ce, .slice b'.Af b'.F.length b'.cf] 41)) = W at hB0 Ra Rb ⊢
  have HB0 := Lib.hid hB0; clear hB0
  have HRa0 := Lib.hid Ra; clear Ra
  have HRb0 := Lib.hid Rb; clear Rb
  refine (eqIntSS_any _ _ _ _ _ _ _ ((HX.out.1.keep HB0.out).more HB0.out.size) ((HY.out.1.keep HB0.out).more HB0.out.size) HM.out.p HM.out.ps).mono ?_
  rintro e w1 ⟨rfl, hB1⟩
  rw [E3.out]
  have HRa1 := Lib.hid (HRa0.out.below hB1 HRa0.out.lt)
  have HRb1 := Lib.hid (HRb0.out.below hB1 HRb0.out.lt)
  have HB1 := Lib.hid (HB0.out.trans (hB1.mono HB0.out.size)); clear hB1 HRa0 HRb0 HB0
  have a3 := HRa1.out.cell 3
  have b3 := HRb1.out.cell 3
  simp only [List.getElem?_toArray, List.getElem?_cons_succ, List.getElem?_cons_zero] at a3 b3
  go_wp2_with fail
  refine (eqIntSS_any _ _ _ _ _ _ _ ((HX.out.2.1.keep HB1.out).more HB1.out.size) ((HY.out.2.1.keep HB1.out).more HB1.out.size) HM.out.o HM.out.os).mono ?_
  rintro e w2 ⟨rfl, hB2⟩
  rw [E4.out]
  have HRa2 := Lib.hid (HRa1.out.below hB2 HRa1.out.lt)
  have HRb2 := Lib.hid (HRb1.out.below hB2 HRb1.out.lt)
  have HB2 := Lib.hid (HB1.out.trans (hB2.mono HB1.out.size)); clear hB2 HRa1 HRb1 HB1 a3 b3
  have a4 := HRa2.out.cell 4
  have b4 := HRb2.out.cell 4
  simp only [List.getElem?_toArray, List.getElem?_cons_succ, List.getElem?_cons_zero] at a4 b4
  go_wp2_with fail
  refine (eqIntS_any _ _ _ _ _ _ _ ((HX.out.2.2.1.keep HB2.out).more HB2.out.size) ((HY.out.2.2.1.keep HB2.out).more HB2.out.size) HM.out.e).mono ?_
  rintro e w3 ⟨rfl, hB3⟩
  rw [E5.out]
  have HRa3 := Lib.hid (HRa2.out.below hB3 HRa2.out.lt)
  have HRb3 := Lib.hid (HRb2.out.below hB3 HRb2.out.lt)
  have HB3 := Lib.hid (HB2.out.trans (hB3.mono HB2.out.size)); clear hB3 HRa2 HRb2 HB2 a4 b4
  have a5 := HRa3.out.cell 5
  have b5 := HRb3.out.cell 5
  simp only [List.getElem?_toArray, List.getElem?_cons_succ, List.getElem?_cons_zero] at a5 b5
  go_wp2_with fail
  refine (eqIntSS_any _ _ _ _ _ _ _ ((HX.out.2.2.2.keep HB3.out).more HB3.out.size) ((HY.out.2.2.2.keep HB3.out).more HB3.out.size) HM.out.f HM.out.fs).mono ?_
  rintro e w4 ⟨rfl, hB4⟩
  rw [E6.out]
  have HB4 := Lib.hid (HB3.out.trans (hB4.mono HB3.out.size)); clear hB4 HRa3 HRb3 HB3 a5 b5
  go_wp2
  go_ret
  exact ⟨rfl, HB4.out⟩

/-- Its lists are the call's own, those of each field apart. -/
def OwnB (w : World) (lo : Nat) (b : Bi) : Prop := OwnL w lo b.Ap b.P ∧ OwnL w lo b.Ao b.O ∧ OwnI w lo b.Ae b.E ∧ OwnL w lo b.Af b.F

theorem OwnB.read {w : World} {lo : Nat} {b : Bi} (h : OwnB w lo b) : ReadB w w.heap.size b := ⟨h.1.lls, h.2.1.lls, h.2.2.1.ints, h.2.2.2.lls⟩
theorem OwnB.below {w w' : World} {lo B : Nat} {b : Bi} (h : OwnB w lo b) (hb : Below B w w') (hB : w.heap.size ≤ B) : OwnB w' lo b := ⟨h.1.below hb hB, h.2.1.below hb hB, h.2.2.1.below hb hB, h.2.2.2.below hb hB⟩

/-- A binary grammar's copy: it says the same; nothing older has turned. -/
def GaveB (w : World) (s : Bs) (e : Ending) (w' : World) : Prop :=
  ∃ b : Bi, e = .returned (.agg #[.int .i64 b.n, .int .i64 b.t, .slice b.Ap b.P.length b.cp, .slice b.Ao b.O.length b.co, .slice b.Ae b.E.length b.ce, .slice b.Af b.F.length b.cf]) ∧ b.say = s ∧ OwnB w' w.heap.size b ∧ CapB b ∧ Below w.heap.size w w'

set_option maxHeartbeats 1000000 in
theorem toBinary_any (b : Bi) (w : World) (hr : ReadB w w.heap.size b) (hm : LenB 1048576 b) :
    Calls Tryd.prog 48 #[(.agg #[.int .i64 b.n, .int .i64 b.t, .slice b.Ap b.P.length b.cp, .slice b.Ao b.O.length b.co, .slice b.Ae b.E.length b.ce, .slice b.Af b.F.length b.cf])] w (GaveB w b.say) := by
  have HR := Lib.hid hr; clear hr
  have HM := Lib.hid hm; clear hm
  go_enter Tryd.func48, Tryd.ntmps48
  go_wp2_with fail
  have hB0 : Below w.heap.size w (((w.alloc (.cells #[.int .i64 b.n, .int .i64 b.t, .slice b.Ap b.P.length b.cp, .slice b.Ao b.O.length b.co, .slice b.Ae b.E.length b.ce, .slice b.Af b.F.length b.cf] 67)).alloc (.cells #[.int .i64 0, .int .i64 0, .slice none 0 0, .slice none 0 0, .slice none 0 0, .slice none 0 0] 41)).alloc (.cells #[.int .i64 b.n, .int .i64 b.t, .slice none 0 0, .slice none 0 0, .slice none 0 0, .slice none 0 0] 41)) := by go_grown
  have hz0 : (((w.alloc (.cells #[.int .i64 b.n, .int .i64 b.t, .slice b.Ap b.P.length b.cp, .slice b.Ao b.O.length b.co, .slice b.Ae b.E.length b.ce, .slice b.Af b.F.length b.cf] 67)).alloc (.cells #[.int .i64 0, .int .i64 0, .slice none 0 0, .slice none 0 0, .slice none 0 0, .slice none 0 0] 41)).alloc (.cells #[.int .i64 b.n, .int .i64 b.t, .slice none 0 0, .slice none 0 0, .slice none 0 0, .slice none 0 0] 41)).heap.size = w.heap.size + 3 := by simp
  have Ra : Row (((w.alloc (.cells #[.int .i64 b.n, .int .i64 b.t, .slice b.Ap b.P.length b.cp, .slice b.Ao b.O.length b.co, .slice b.Ae b.E.length b.ce, .slice b.Af b.F.length b.cf] 67)).alloc (.cells #[.int .i64 0, .int .i64 0, .slice none 0 0, .slice none 0 0, .slice none 0 0, .slice none 0 0] 41)).alloc (.cells #[.int .i64 b.n, .int .i64 b.t, .slice none 0 0, .slice none 0 0, .slice none 0 0, .slice none 0 0] 41)) w.heap.size 67 #[.int .i64 b.n, .int .i64 b.t, .slice b.Ap b.P.length b.cp, .slice b.Ao b.O.length b.co, .slice b.Ae b.E.length b.ce, .slice b.Af b.F.length b.cf] := ((Row.new _ _ _).alloc _).alloc _
  have Rr : Row (((w.alloc (.cells #[.int .i64 b.n, .int .i64 b.t, .slice b.Ap b.P.length b.cp, .slice b.Ao b.O.length b.co, .slice b.Ae b.E.length b.ce, .slice b.Af b.F.length b.cf] 67)).alloc (.cells #[.int .i64 0, .int .i64 0, .slice none 0 0, .slice none 0 0, .slice none 0 0, .slice none 0 0] 41)).alloc (.cells #[.int .i64 b.n, .int .i64 b.t, .slice none 0 0, .slice none 0 0, .slice none 0 0, .slice none 0 0] 41)) (w.heap.size + 1) 41 #[.int .i64 0, .int .i64 0, .slice none 0 0, .slice none 0 0, .slice none 0 0, .slice none 0 0] := by
    have h := Row.new (w.alloc (.cells #[.int .i64 b.n, .int .i64 b.t, .slice b.Ap b.P.length b.cp, .slice b.Ao b.O.length b.co, .slice b.Ae b.E.length b.ce, .slice b.Af b.F.length b.cf] 67)) 41 #[.int .i64 0, .int .i64 0, .slice none 0 0, .slice none 0 0, .slice none 0 0, .slice none 0 0]
    rw [World.size_alloc] at h; exact h.alloc _
  have Ro : Row (((w.alloc (.cells #[.int .i64 b.n, .int .i64 b.t, .slice b.Ap b.P.length b.cp, .slice b.Ao b.O.length b.co, .slice b.Ae b.E.length b.ce, .slice b.Af b.F.length b.cf] 67)).alloc (.cells #[.int .i64 0, .int .i64 0, .slice none 0 0, .slice none 0 0, .slice none 0 0, .slice none 0 0] 41)).alloc (.cells #[.int .i64 b.n, .int .i64 b.t, .slice none 0 0, .slice none 0 0, .slice none 0 0, .slice none 0 0] 41)) (w.heap.size + 1 + 1) 41 #[.int .i64 b.n, .int .i64 b.t, .slice none 0 0, .slice none 0 0, .slice none 0 0, .slice none 0 0] := by
    have h := Row.new ((w.alloc (.cells #[.int .i64 b.n, .int .i64 b.t, .slice b.Ap b.P.length b.cp, .slice b.Ao b.O.length b.co, .slice b.Ae b.E.length b.ce, .slice b.Af b.F.length b.cf] 67)).alloc (.cells #[.int .i64 0, .int .i64 0, .slice none 0 0, .slice none 0 0, .slice none 0 0, .slice none 0 0] 41)) 41 #[.int .i64 b.n, .int .i64 b.t, .slice none 0 0, .slice none 0 0, .slice none 0 0, .slice none 0 0]
    rw [World.size_alloc, World.size_alloc] at h; exact h
  generalize (((w.alloc (.cells #[.int .i64 b.n, .int .i64 b.t, .slice b.Ap b.P.length b.cp, .slice b.Ao b.O.length b.co, .slice b.Ae b.E.length b.ce, .slice b.Af b.F.length b.cf] 67)).alloc (.cells #[.int .i64 0, .int .i64 0, .slice none 0 0, .slice none 0 0, .slice none 0 0, .slice none 0 0] 41)).alloc (.cells #[.int .i64 b.n, .int .i64 b.t, .slice none 0 0, .slice none 0 0, .slice none 0 0, .slice none 0 0] 41)) = W at hB0 hz0 Ra Rr Ro ⊢
  have HB0 := Lib.hid hB0; clear hB0
  have HZ0 : Hid (w.heap.size + 3 ≤ W.heap.size) := by show _ ≤ _; omega
  clear hz0
  have HRa0 := Lib.hid Ra; clear Ra
  have HRr0 := Lib.hid Rr; clear Rr
  have HRo0 := Lib.hid Ro; clear Ro
  refine (toIntSS_any _ _ _ _ ((HR.out.1.keep HB0.out).more HB0.out.size) HM.out.p HM.out.ps).mono ?_
  rintro e w1 ⟨A1, c1, l1, rfl, k1, o1, s1, hB1⟩
  have HO1 : Hid (OwnL w1 (w.heap.size + 3) A1 l1) := o1.lower HZ0.out
  have HZ1' : Hid (w.heap.size + 3 ≤ w1.heap.size) := Nat.le_trans HZ0.out hB1.size
  have HRa1' := Lib.hid (HRa0.out.below hB1 HRa0.out.lt)
  have HRr1' := Lib.hid (HRr0.out.below hB1 HRr0.out.lt)
  have HRo1' := Lib.hid (HRo0.out.below hB1 HRo0.out.lt)
  have HB1' := Lib.hid (HB0.out.trans (hB1.mono HB0.out.size)); clear hB1 HRa0 HRr0 HRo0 HB0 HZ0 o1
  have K1 := Lib.hid k1; clear k1
  have S1 := Lib.hid s1; clear s1
  have av := HRa1'.out.cell 3
  have xv := HRo1'.out.cell 2
  have yv := HRo1'.out.frozen 2
  simp only [List.getElem?_toArray, List.getElem?_cons_succ, List.getElem?_cons_zero] at av xv
  go_wp2_with fail
  have HRa1 := Lib.hid (HRa1'.out.far (p := ⟨w.heap.size + 1 + 1, 2, none⟩) (by simp; omega) (.slice A1 l1.length c1))
  have HRr1 := Lib.hid (HRr1'.out.far (p := ⟨w.heap.size + 1 + 1, 2, none⟩) (by simp) (.slice A1 l1.length c1))
  have HRo1 : Hid (Row (w1.setCell ⟨w.heap.size + 1 + 1, 2, none⟩ (.slice A1 l1.length c1)) (w.heap.size + 1 + 1) 41 #[.int .i64 b.n, .int .i64 b.t, .slice A1 l1.length c1, .slice none 0 0, .slice none 0 0, .slice none 0 0]) := HRo1'.out.set 2 (.slice A1 l1.length c1)
  have HQ1 := Lib.hid (HO1.out.low (p := ⟨w.heap.size + 1 + 1, 2, none⟩) (by simp) (.slice A1 l1.length c1)); clear HO1
  have HB1 : Hid (Below w.heap.size w (w1.setCell ⟨w.heap.size + 1 + 1, 2, none⟩ (.slice A1 l1.length c1))) := HB1'.out.setCell (by simp; omega) _
  have HZ1 : Hid (w.heap.size + 3 ≤ (w1.setCell ⟨w.heap.size + 1 + 1, 2, none⟩ (.slice A1 l1.length c1)).heap.size) := by have := HZ1'.out; show _ ≤ _; simpa using this
  clear xv yv av HRa1' HRr1' HRo1' HB1' HZ1'
  generalize (w1.setCell ⟨w.heap.size + 1 + 1, 2, none⟩ (.slice A1 l1.length c1)) = W1 at HRa1 HRr1 HRo1 HB1 HZ1 HQ1 ⊢
  have HO1 := HQ1; clear HQ1
  refine (toIntSS_any _ _ _ _ ((HR.out.2.1.keep HB1.out).more HB1.out.size) HM.out.o HM.out.os).mono ?_
  rintro e w2 ⟨A2, c2, l2, rfl, k2, o2, s2, hB2⟩
  have HO2 : Hid (OwnL w2 (w.heap.size + 3) A2 l2) := o2.lower HZ1.out
  have HZ2' : Hid (w.heap.size + 3 ≤ w2.heap.size) := Nat.le_trans HZ1.out hB2.size
  have HRa2' := Lib.hid (HRa1.out.below hB2 HRa1.out.lt)
  have HRr2' := Lib.hid (HRr1.out.below hB2 HRr1.out.lt)
  have HRo2' := Lib.hid (HRo1.out.below hB2 HRo1.out.lt)
  have HP1 := Lib.hid (HO1.out.below hB2 (Nat.le_refl _)); clear HO1
  have HB2' := Lib.hid (HB1.out.trans (hB2.mono HB1.out.size)); clear hB2 HRa1 HRr1 HRo1 HB1 HZ1 o2
  have K2 := Lib.hid k2; clear k2
  have S2 := Lib.hid s2; clear s2
  have av := HRa2'.out.cell 4
  have xv := HRo2'.out.cell 3
  have yv := HRo2'.out.frozen 3
  simp only [List.getElem?_toArray, List.getElem?_cons_succ, List.getElem?_cons_zero] at av xv
  go_wp2_with fail
  have HRa2 := Lib.hid (HRa2'.out.far (p := ⟨w.heap.size + 1 + 1, 3, none⟩) (by simp; omega) (.slice A2 l2.length c2))
  have HRr2 := Lib.hid (HRr2'.out.far (p := ⟨w.heap.size + 1 + 1, 3, none⟩) (by simp) (.slice A2 l2.length c2))
  have HRo2 : Hid (Row (w2.setCell ⟨w.heap.size + 1 + 1, 3, none⟩ (.slice A2 l2.length c2)) (w.heap.size + 1 + 1) 41 #[.int .i64 b.n, .int .i64 b.t, .slice A1 l1.length c1, .slice A2 l2.length c2, .slice none 0 0, .slice none 0 0]) := HRo2'.out.set 3 (.slice A2 l2.length c2)
  have HQ1 := Lib.hid (HP1.out.low (p := ⟨w.heap.size + 1 + 1, 3, none⟩) (by simp) (.slice A2 l2.length c2)); clear HP1
  have HQ2 := Lib.hid (HO2.out.low (p := ⟨w.heap.size + 1 + 1, 3, none⟩) (by simp) (.slice A2 l2.length c2)); clear HO2
  have HB2 : Hid (Below w.heap.size w (w2.setCell ⟨w.heap.size + 1 + 1, 3, none⟩ (.slice A2 l2.length c2))) := HB2'.out.setCell (by simp; omega) _
  have HZ2 : Hid (w.heap.size + 3 ≤ (w2.setCell ⟨w.heap.size + 1 + 1, 3, none⟩ (.slice A2 l2.length c2)).heap.size) := by have := HZ2'.out; show _ ≤ _; simpa using this
  clear xv yv av HRa2' HRr2' HRo2' HB2' HZ2'
  generalize (w2.setCell ⟨w.heap.size + 1 + 1, 3, none⟩ (.slice A2 l2.length c2)) = W2 at HRa2 HRr2 HRo2 HB2 HZ2 HQ1 HQ2 ⊢
  have HO1 := HQ1; clear HQ1
  have HO2 := HQ2; clear HQ2
  refine (toIntS_any _ _ _ _ ((HR.out.2.2.1.keep HB2.out).more HB2.out.size) HM.out.e).mono ?_
  rintro e w3 ⟨A3, c3, rfl, k3, o3, hB3⟩
  have HO3 : Hid (OwnI w3 (w.heap.size + 3) A3 b.E) := o3.lower HZ2.out
  have HZ3' : Hid (w.heap.size + 3 ≤ w3.heap.size) := Nat.le_trans HZ2.out hB3.size
  have HRa3' := Lib.hid (HRa2.out.below hB3 HRa2.out.lt)
  have HRr3' := Lib.hid (HRr2.out.below hB3 HRr2.out.lt)
  have HRo3' := Lib.hid (HRo2.out.below hB3 HRo2.out.lt)
  have HP1 := Lib.hid (HO1.out.below hB3 (Nat.le_refl _)); clear HO1
  have HP2 := Lib.hid (HO2.out.below hB3 (Nat.le_refl _)); clear HO2
  have HB3' := Lib.hid (HB2.out.trans (hB3.mono HB2.out.size)); clear hB3 HRa2 HRr2 HRo2 HB2 HZ2 o3
  have K3 := Lib.hid k3; clear k3
  have av := HRa3'.out.cell 5
  have xv := HRo3'.out.cell 4
  have yv := HRo3'.out.frozen 4
  simp only [List.getElem?_toArray, List.getElem?_cons_succ, List.getElem?_cons_zero] at av xv
  go_wp2_with fail
  have HRa3 := Lib.hid (HRa3'.out.far (p := ⟨w.heap.size + 1 + 1, 4, none⟩) (by simp; omega) (.slice A3 b.E.length c3))
  have HRr3 := Lib.hid (HRr3'.out.far (p := ⟨w.heap.size + 1 + 1, 4, none⟩) (by simp) (.slice A3 b.E.length c3))
  have HRo3 : Hid (Row (w3.setCell ⟨w.heap.size + 1 + 1, 4, none⟩ (.slice A3 b.E.length c3)) (w.heap.size + 1 + 1) 41 #[.int .i64 b.n, .int .i64 b.t, .slice A1 l1.length c1, .slice A2 l2.length c2, .slice A3 b.E.length c3, .slice none 0 0]) := HRo3'.out.set 4 (.slice A3 b.E.length c3)
  have HQ1 := Lib.hid (HP1.out.low (p := ⟨w.heap.size + 1 + 1, 4, none⟩) (by simp) (.slice A3 b.E.length c3)); clear HP1
  have HQ2 := Lib.hid (HP2.out.low (p := ⟨w.heap.size + 1 + 1, 4, none⟩) (by simp) (.slice A3 b.E.length c3)); clear HP2
  have HQ3 := Lib.hid (HO3.out.low (p := ⟨w.heap.size + 1 + 1, 4, none⟩) (by simp) (.slice A3 b.E.length c3)); clear HO3
  have HB3 : Hid (Below w.heap.size w (w3.setCell ⟨w.heap.size + 1 + 1, 4, none⟩ (.slice A3 b.E.length c3))) := HB3'.out.setCell (by simp; omega) _
  have HZ3 : Hid (w.heap.size + 3 ≤ (w3.setCell ⟨w.heap.size + 1 + 1, 4, none⟩ (.slice A3 b.E.length c3)).heap.size) := by have := HZ3'.out; show _ ≤ _; simpa using this
  clear xv yv av HRa3' HRr3' HRo3' HB3' HZ3'
  generalize (w3.setCell ⟨w.heap.size + 1 + 1, 4, none⟩ (.slice A3 b.E.length c3)) = W3 at HRa3 HRr3 HRo3 HB3 HZ3 HQ1 HQ2 HQ3 ⊢
  have HO1 := HQ1; clear HQ1
  have HO2 := HQ2; clear HQ2
  have HO3 := HQ3; clear HQ3
  refine (toIntSS_any _ _ _ _ ((HR.out.2.2.2.keep HB3.out).more HB3.out.size) HM.out.f HM.out.fs).mono ?_
  rintro e w4 ⟨A4, c4, l4, rfl, k4, o4, s4, hB4⟩
  have HO4 : Hid (OwnL w4 (w.heap.size + 3) A4 l4) := o4.lower HZ3.out
  have HZ4' : Hid (w.heap.size + 3 ≤ w4.heap.size) := Nat.le_trans HZ3.out hB4.size
  have HRa4' := Lib.hid (HRa3.out.below hB4 HRa3.out.lt)
  have HRr4' := Lib.hid (HRr3.out.below hB4 HRr3.out.lt)
  have HRo4' := Lib.hid (HRo3.out.below hB4 HRo3.out.lt)
  have HP1 := Lib.hid (HO1.out.below hB4 (Nat.le_refl _)); clear HO1
  have HP2 := Lib.hid (HO2.out.below hB4 (Nat.le_refl _)); clear HO2
  have HP3 := Lib.hid (HO3.out.below hB4 (Nat.le_refl _)); clear HO3
  have HB4' := Lib.hid (HB3.out.trans (hB4.mono HB3.out.size)); clear hB4 HRa3 HRr3 HRo3 HB3 HZ3 o4
  have K4 := Lib.hid k4; clear k4
  have S4 := Lib.hid s4; clear s4
  have x0 := HRo4'.out.cell 0
  have x1 := HRo4'.out.cell 1
  have x2 := HRo4'.out.cell 2
  have x3 := HRo4'.out.cell 3
  have x4 := HRo4'.out.cell 4
  have x5 := HRo4'.out.cell 5
  have y5 := HRo4'.out.frozen 5
  have r0 := HRr4'.out.cell 0
  have r1 := HRr4'.out.cell 1
  have r2 := HRr4'.out.cell 2
  have r3 := HRr4'.out.cell 3
  have r4 := HRr4'.out.cell 4
  have r5 := HRr4'.out.cell 5
  have q0 := HRr4'.out.frozen 0
  have q1 := HRr4'.out.frozen 1
  have q2 := HRr4'.out.frozen 2
  have q3 := HRr4'.out.frozen 3
  have q4 := HRr4'.out.frozen 4
  have q5 := HRr4'.out.frozen 5
  simp only [List.getElem?_toArray, List.getElem?_cons_succ, List.getElem?_cons_zero] at x0 x1 x2 x3 x4 x5 r0 r1 r2 r3 r4 r5
  go_wp2_with fail
  refine bodyPost_ret (v := .agg #[.int .i64 b.n, .int .i64 b.t, .slice A1 l1.length c1, .slice A2 l2.length c2, .slice A3 b.E.length c3, .slice A4 l4.length c4]) (by simp [results, Tryd.results48, go_sem, r0, r1, r2, r3, r4, r5]) rfl ⟨⟨b.n, b.t, A1, l1, c1, A2, l2, c2, A3, b.E, c3, A4, l4, c4⟩, rfl, ?_, ?_, ⟨K1.out, K2.out, K3.out, K4.out⟩, ?_⟩
  · show Bs.mk _ _ _ _ _ _ = Bs.mk _ _ _ _ _ _
    rw [S1.out, S2.out, S4.out]
  · refine ⟨?_, ?_, ?_, ?_⟩
    · exact (((((((HP1.out.low (by simp) _).low (by simp) _).low (by simp) _).low (by simp) _).low (by simp) _).low (by simp) _).low (by simp) _).lower (by omega)
    · exact (((((((HP2.out.low (by simp) _).low (by simp) _).low (by simp) _).low (by simp) _).low (by simp) _).low (by simp) _).low (by simp) _).lower (by omega)
    · exact (((((((HP3.out.low (by simp) _).low (by simp) _).low (by simp) _).low (by simp) _).low (by simp) _).low (by simp) _).low (by simp) _).lower (by omega)
    · exact (((((((HO4.out.low (by simp) _).low (by simp) _).low (by simp) _).low (by simp) _).low (by simp) _).low (by simp) _).low (by simp) _).lower (by omega)
  · exact ((((((HB4'.out.setCell (by simp; omega) _).setCell (by simp) _).setCell (by simp) _).setCell (by simp) _).setCell (by simp) _).setCell (by simp) _).setCell (by simp) _

end Go.Proofs.YtaobkanliiiapaaDoor
