/- What the program's checks of chapter 1 answer. -/
import Derived.Test.YtjfhkcoiomokoaaDoorRows
import Derived.Test.YtjfhkcoiomokoaaDoorMem
import Derived.Test.YtjfhkcoiomokoaaDoorAbs
import Derived.Test.YtjfhkcoiomokoaaDoorLim
import Derived.Test.YtjfhkcoiomokoaaDoorEq
namespace Go.Proofs.YtjfhkcoiomokoaaDoor
open Go.RowKit

set_option maxHeartbeats 400000 in
theorem isNon_any (n t x : Int) (v : Value) (w : World) :
    Calls Tryd.prog 75 #[.agg #[.int .i64 n, .int .i64 t, v], .int .i64 x] w fun e w' => e = .returned (.bool (nonB n x)) ∧ Below w.heap.size w w' := by
  by_cases h1 : 0 ≤ x
  · by_cases h2 : x < n
    · have HE : Hid (nonB n x = true) := nonB_t h1 h2
      go_enter Tryd.func75, Tryd.ntmps75
      go_wp2
      go_ret
      exact ⟨ret_bool HE.out.symm, by go_grown⟩
    · have HE : Hid (nonB n x = false) := nonB_f (by omega)
      go_enter Tryd.func75, Tryd.ntmps75
      go_wp2
      go_ret
      exact ⟨ret_bool HE.out.symm, by go_grown⟩
  · have HE : Hid (nonB n x = false) := nonB_f (by omega)
    go_enter Tryd.func75, Tryd.ntmps75
    go_wp2
    go_ret
    exact ⟨ret_bool HE.out.symm, by go_grown⟩

set_option maxHeartbeats 400000 in
theorem isToken_any (n t x : Int) (v : Value) (w : World) :
    Calls Tryd.prog 87 #[.agg #[.int .i64 n, .int .i64 t, v], .int .i64 x] w fun e w' => e = .returned (.bool (nonB t x)) ∧ Below w.heap.size w w' := by
  by_cases h1 : 0 ≤ x
  · by_cases h2 : x < t
    · have HE : Hid (nonB t x = true) := nonB_t h1 h2
      go_enter Tryd.func87, Tryd.ntmps87
      go_wp2
      go_ret
      exact ⟨ret_bool HE.out.symm, by go_grown⟩
    · have HE : Hid (nonB t x = false) := nonB_f (by omega)
      go_enter Tryd.func87, Tryd.ntmps87
      go_wp2
      go_ret
      exact ⟨ret_bool HE.out.symm, by go_grown⟩
  · have HE : Hid (nonB t x = false) := nonB_f (by omega)
    go_enter Tryd.func87, Tryd.ntmps87
    go_wp2
    go_ret
    exact ⟨ret_bool HE.out.symm, by go_grown⟩

set_option maxHeartbeats 400000 in
theorem isSymbol_any (n t x : Int) (A : Option Addr) (m c : Nat) (w : World) (h0 : -9223372036854775808 ≤ x) (h1 : x ≤ 9223372036854775807) :
    Calls Tryd.prog 143 #[.agg #[.int .i64 n, .int .i64 t, .slice A m c], .int .i64 x] w fun e w' => e = .returned (.bool (symB n t x)) ∧ Below w.heap.size w w' := by
  cases hq : nonB n x
  · have HQ := Lib.hid hq; clear hq
    go_enter Tryd.func143, Tryd.ntmps143
    go_wp2_with fail
    refine (isNon_any _ _ _ _ _).mono ?_
    rintro e w1 ⟨rfl, hB⟩
    rw [HQ.out]
    have hz := hB.size
    have c0 := (hB.cell (p := ⟨w.heap.size, 0, none⟩) (by simp)).trans (show _ = some (.int .i64 n) from by simp [go_sem])
    have c1 := (hB.cell (p := ⟨w.heap.size, 1, none⟩) (by simp)).trans (show _ = some (.int .i64 t) from by simp [go_sem])
    have c2 := (hB.cell (p := ⟨w.heap.size, 2, none⟩) (by simp)).trans (show _ = some (.slice A m c) from by simp [go_sem])
    have HB := Lib.hid hB; clear hB
    go_wp2_with fail
    refine (isToken_any _ _ _ _ _).mono ?_
    rintro e w2 ⟨rfl, hB2⟩
    go_wp2
    go_ret
    exact ⟨ret_bool (symB_tok HQ.out).symm, (Below.trans (by go_grown) (HB.out.mono (by go_size))).trans (hB2.mono (by simp at hz; omega))⟩
  · have HE : Hid (symB n t x = true) := symB_non hq
    have HQ := Lib.hid hq; clear hq
    go_enter Tryd.func143, Tryd.ntmps143
    go_wp2_with fail
    refine (isNon_any _ _ _ _ _).mono ?_
    rintro e w1 ⟨rfl, hB⟩
    rw [HQ.out]
    go_wp2
    go_ret
    exact ⟨ret_bool HE.out.symm, Below.trans (by go_grown) (hB.mono (by go_size))⟩

set_option maxHeartbeats 400000 in
theorem equal_any (A A' : Option Addr) (xs ys : List Int) (c c' : Nat) (w : World) (hx : Ints w w.heap.size A xs) (hy : Ints w w.heap.size A' ys) (h1 : xs.length ≤ 1048576) :
    Calls Tryd.prog 147 #[.slice A xs.length c, .slice A' ys.length c'] w fun e w' => e = .returned (.bool (eqL xs ys)) ∧ Below w.heap.size w w' := by
  have HX := Lib.hid hx; clear hx
  have HY := Lib.hid hy; clear hy
  by_cases hl : xs.length = ys.length
  · have hd : ((xs.length : Int) != (ys.length : Int)) = false := bne_f (by omega)
    have hlen : xs.length ≤ ys.length := by omega
    have hlen' : ys.length ≤ xs.length := by omega
    have HL := Lib.hid hl; clear hl
    go_enter Tryd.func147, Tryd.ntmps147
    go_wp2
    go_loopw [13] (fun i wr => ∃ (k : Nat), k ≤ xs.length ∧ i = .int .i64 k ∧ Below w.heap.size w wr ∧ Hid (∀ j : Nat, j < k → xs[j]? = ys[j]?)) (fun i _ => xs.length - (intOf i).toNat)
    case atStart => exact ⟨0, by omega, rfl, Below.refl _ _, fun j h => absurd h (by omega)⟩
    case round =>
      obtain ⟨k, hk, rfl, hB, H⟩ := hrel
      by_cases hlt : k < xs.length
      · have hlt' : k < ys.length := by omega
        obtain ⟨b, o, rfl, hb, c1⟩ := (HX.out.keep hB).at_ hlt
        obtain ⟨b', o', rfl, hb', c2⟩ := (HY.out.keep hB).at_ hlt'
        by_cases hne : xs[k] = ys[k]
        · have ht := bne_f hne
          have HE := Lib.hid hne; clear hne
          go_wp2
          go_quiet (fail)
          go_wp2
          go_roundw
          case rel => exact ⟨k + 1, by omega, by go_num, below_drewN hB _, step_eq hlt hlt' HE.out H.out⟩
          case measure => simp [intOf]; omega
        · have ht := bne_t hne
          have HE : Hid (eqL xs ys = false) := eqL_not hlt hlt' hne
          clear hne
          go_wp2
          go_quiet (fail)
          go_wp2
          go_ret
          exact ⟨ret_bool HE.out.symm, below_drewN hB _⟩
      · have HE : Hid (eqL xs ys = true) := eqL_of HL.out hlt H.out
        go_wp2
        go_ret
        exact ⟨ret_bool HE.out.symm, hB⟩
  · have hd : ((xs.length : Int) != (ys.length : Int)) = true := bne_t (by omega)
    have HE : Hid (eqL xs ys = false) := eqL_f fun e => hl (by rw [e])
    clear hl
    go_enter Tryd.func147, Tryd.ntmps147
    go_wp2
    go_ret
    exact ⟨ret_bool HE.out.symm, Below.refl _ _⟩

set_option maxHeartbeats 400000 in
theorem sameRule_any (l l' : Int) (A A' : Option Addr) (xs ys : List Int) (c c' : Nat) (w : World) (hx : Ints w w.heap.size A xs) (hy : Ints w w.heap.size A' ys) (h1 : xs.length ≤ 1048576) :
    Calls Tryd.prog 121 #[.agg #[.int .i64 l, .slice A xs.length c], .agg #[.int .i64 l', .slice A' ys.length c']] w fun e w' => e = .returned (.bool (eqU (l, xs) (l', ys))) ∧ Below w.heap.size w w' := by
  have HX := Lib.hid hx; clear hx
  have HY := Lib.hid hy; clear hy
  by_cases hl : l = l'
  · have hd := beq_t hl
    have HL := Lib.hid hl; clear hl
    cases hq : eqL xs ys
    all_goals
      have HQ := Lib.hid hq; clear hq
      go_enter Tryd.func121, Tryd.ntmps121
      go_wp2_with fail
      refine (equal_any _ _ _ _ _ _ _ ?_ ?_ h1).mono ?_
      · exact (HX.out.keep (by go_grown)).more (by go_size)
      · exact (HY.out.keep (by go_grown)).more (by go_size)
      rintro e w1 ⟨rfl, hB⟩
      rw [HQ.out]
      go_wp2
      go_ret
      refine ⟨ret_bool ?_, Below.trans (by go_grown) (hB.mono (by go_size))⟩
    · exact (eqU_f fun e => by have h : xs = ys := congrArg Prod.snd e; rw [eqL_t h] at HQ; cases HQ.out).symm
    · exact (eqU_t (by rw [HL.out, of_decide_eq_true HQ.out])).symm
  · have hd := beq_f hl
    have HE : Hid (eqU (l, xs) (l', ys) = false) := eqU_f fun e => hl (congrArg Prod.fst e)
    clear hl
    go_enter Tryd.func121, Tryd.ntmps121
    go_wp2
    go_ret
    exact ⟨ret_bool HE.out.symm, by go_grown⟩

theorem hasU_step {rs : List Ru} {k : Nat} {u : Int × List Int} (hk : k < rs.length) (h : eqU rs[k].abs u = false) (H : ∀ j : Nat, j < k → (rs.map Ru.abs)[j]? ≠ some u) : ∀ j : Nat, j < k + 1 → (rs.map Ru.abs)[j]? ≠ some u := by
  intro j hj
  by_cases e : j = k
  · subst e
    rw [List.getElem?_map, List.getElem?_eq_getElem hk]
    intro h'
    rw [eqU_t (by simpa using h')] at h
    cases h
  · exact H j (by omega)
theorem hasU_t {rs : List Ru} {k : Nat} {u : Int × List Int} (hk : k < rs.length) (h : eqU rs[k].abs u = true) : hasU (rs.map Ru.abs) u = true :=
  decide_eq_true (by rw [← of_decide_eq_true h]; exact List.mem_map.2 ⟨_, List.getElem_mem hk, rfl⟩)
theorem hasU_f {rs : List Ru} {k : Nat} {u : Int × List Int} (hk : ¬ k < rs.length) (H : ∀ j : Nat, j < k → (rs.map Ru.abs)[j]? ≠ some u) : hasU (rs.map Ru.abs) u = false :=
  decide_eq_false fun h => by
    obtain ⟨j, hj⟩ := List.mem_iff_getElem?.1 h
    have := (List.getElem?_eq_some_iff.1 hj).1
    simp at this
    exact H j (by omega) hj

set_option maxHeartbeats 400000 in
theorem hasRule_any (A A' : Option Addr) (rs : List Ru) (l : Int) (ys : List Int) (c c' : Nat) (w : World) (hx : Rls w w.heap.size A rs) (hy : Ints w w.heap.size A' ys) (h1 : rs.length ≤ 1048576) (h2 : ∀ u ∈ rs, u.r.length ≤ 1048576) :
    Calls Tryd.prog 96 #[.slice A rs.length c, .agg #[.int .i64 l, .slice A' ys.length c']] w fun e w' => e = .returned (.bool (hasU (rs.map Ru.abs) (l, ys))) ∧ Below w.heap.size w w' := by
  have hB0 : Below w.heap.size w (w.alloc (.cells #[.int .i64 l, .slice A' ys.length c'] 83)) := by go_grown
  have HX := Lib.hid hx; clear hx
  have HY := Lib.hid hy; clear hy
  have H2 := Lib.hid h2; clear h2
  go_enter Tryd.func96, Tryd.ntmps96
  go_wp2
  go_loopw [9] (fun i wr => ∃ (k : Nat), k ≤ rs.length ∧ i = .int .i64 k ∧ w.heap.size < wr.heap.size ∧ Below w.heap.size w wr ∧ wr.cell? ⟨w.heap.size, 0, none⟩ = some (.int .i64 l) ∧ wr.cell? ⟨w.heap.size, 1, none⟩ = some (.slice A' ys.length c') ∧ Hid (∀ j : Nat, j < k → (rs.map Ru.abs)[j]? ≠ some (l, ys))) (fun i _ => rs.length - (intOf i).toNat)
  case atStart => exact ⟨0, by omega, rfl, by simp, hB0, by simp [go_sem], by simp [go_sem], fun j h => absurd h (by omega)⟩
  case round =>
    obtain ⟨k, hk, rfl, hsz, hB, e0, e1, H⟩ := hrel
    by_cases hlt : k < rs.length
    · obtain ⟨b, o, rfl, hb, c1, c2, c3⟩ := (HX.out.keep hB).at_ hlt
      have C3 := Lib.hid (c3.more hB.size); clear c3
      have HY' := Lib.hid ((HY.out.keep hB).more hB.size)
      have hlen2 := H2.out rs[k] (List.getElem_mem hlt)
      cases hq : eqU rs[k].abs (l, ys)
      all_goals
        have HQ := Lib.hid hq; clear hq
        go_wp2_with fail
        refine (sameRule_any _ _ _ _ _ _ _ _ _ ?_ ?_ hlen2).mono ?_
        · exact (C3.out.keep (by go_grown)).more (by go_size)
        · exact (HY'.out.keep (by go_grown)).more (by go_size)
        rintro e w1 ⟨rfl, hB1⟩
        have hz := hB1.size
        have hB2 : Below wr.heap.size wr w1 := Below.trans (by go_grown) (hB1.mono (by go_size))
        have hB3 : Below w.heap.size w w1 := hB.trans (hB2.mono hB.size)
        have d0 := (hB2.cell (p := ⟨w.heap.size, 0, none⟩) (by simp; omega)).trans e0
        have d1 := (hB2.cell (p := ⟨w.heap.size, 1, none⟩) (by simp; omega)).trans e1
        clear hB1
        rw [show eqU (rs[k].l, rs[k].r) (l, ys) = _ from HQ.out]
      · go_wp2
        go_roundw
        case rel => exact ⟨k + 1, by omega, by go_num, by simp at hz; omega, hB3, d0, d1, hasU_step hlt HQ.out H.out⟩
        case measure => simp [intOf]; omega
      · have HE : Hid (hasU (rs.map Ru.abs) (l, ys) = true) := hasU_t hlt HQ.out
        go_wp2
        go_ret
        exact ⟨ret_bool HE.out.symm, hB3⟩
    · have HE : Hid (hasU (rs.map Ru.abs) (l, ys) = false) := hasU_f hlt H.out
      go_wp2
      go_ret
      exact ⟨ret_bool HE.out.symm, hB⟩

end Go.Proofs.YtjfhkcoiomokoaaDoor
