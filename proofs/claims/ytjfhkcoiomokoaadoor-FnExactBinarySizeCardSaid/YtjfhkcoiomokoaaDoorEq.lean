/- What the laws' comparisons answer. -/
import Derived.Test.YtjfhkcoiomokoaaDoorRows
import Derived.Test.YtjfhkcoiomokoaaDoorMem
import Derived.BigQuiet
import Derived.Deep.QuietTactic
import Derived.Deep.RegionWith
import Derived.StillTailTactics
namespace Go.Proofs.YtjfhkcoiomokoaaDoor
open Go.RowKit

theorem ret_bool {a b : Bool} (h : a = b) : Ending.returned (.bool a) = .returned (.bool b) := by rw [h]
theorem bne_t {a b : Int} (h : a ≠ b) : (a != b) = true := by simpa using h
theorem bne_f {a b : Int} (h : a = b) : (a != b) = false := by simpa using h
theorem beq_t {a b : Int} (h : a = b) : (a == b) = true := by simpa using h
theorem beq_f {a b : Int} (h : a ≠ b) : (a == b) = false := by simpa using h

def eqL (xs ys : List Int) : Bool := decide (xs = ys)
theorem eqL_t {xs ys : List Int} (h : xs = ys) : eqL xs ys = true := decide_eq_true h
theorem eqL_f {xs ys : List Int} (h : xs ≠ ys) : eqL xs ys = false := decide_eq_false h
theorem eqL_of {xs ys : List Int} {k : Nat} (hl : xs.length = ys.length) (hk : ¬ k < xs.length) (h : ∀ j : Nat, j < k → xs[j]? = ys[j]?) : eqL xs ys = true := by
  refine eqL_t (List.ext_getElem? fun j => ?_)
  by_cases hj : j < k
  · exact h j hj
  · rw [List.getElem?_eq_none (by omega), List.getElem?_eq_none (by omega)]
theorem eqL_not {xs ys : List Int} {k : Nat} (hx : k < xs.length) (hy : k < ys.length) (h : xs[k] ≠ ys[k]) : eqL xs ys = false := by
  refine eqL_f fun e => h ?_
  subst e; rfl

theorem step_eq {xs ys : List Int} {k : Nat} (hx : k < xs.length) (hy : k < ys.length) (he : xs[k] = ys[k]) (h : ∀ j : Nat, j < k → xs[j]? = ys[j]?) : ∀ j : Nat, j < k + 1 → xs[j]? = ys[j]? := by
  intro j hj
  by_cases e : j = k
  · subst e; rw [List.getElem?_eq_getElem hx, List.getElem?_eq_getElem hy, he]
  · exact h j (by omega)

set_option maxHeartbeats 400000 in
theorem eqIntS_any (A A' : Option Addr) (xs ys : List Int) (c c' : Nat) (w : World) (hx : Ints w w.heap.size A xs) (hy : Ints w w.heap.size A' ys) (h1 : xs.length ≤ 1048576) :
    Calls Tryd.prog 18 #[.slice A xs.length c, .slice A' ys.length c'] w fun e w' => e = .returned (.bool (eqL xs ys)) ∧ Below w.heap.size w w' := by
  have HX := Lib.hid hx; clear hx
  have HY := Lib.hid hy; clear hy
  by_cases hl : xs.length = ys.length
  · have hd : ((xs.length : Int) != (ys.length : Int)) = false := bne_f (by omega)
    have hlen : xs.length ≤ ys.length := by omega
    have hlen' : ys.length ≤ xs.length := by omega
    have HL := Lib.hid hl; clear hl
    go_enter Tryd.func18, Tryd.ntmps18
    go_wp2
    go_loopw [5] (fun i wr => ∃ (k : Nat), k ≤ xs.length ∧ i = .int .i64 k ∧ Below w.heap.size w wr ∧ Hid (∀ j : Nat, j < k → xs[j]? = ys[j]?)) (fun i _ => xs.length - (intOf i).toNat)
    case atStart => exact ⟨0, by omega, rfl, Below.refl _ _, fun j h => absurd h (by omega)⟩
    case round =>
      obtain ⟨k, hk, rfl, hB, H⟩ := hrel
      by_cases hlt : k < xs.length
      · have hlt' : k < ys.length := by omega
        obtain ⟨b, o, rfl, hb, c1⟩ := (HX.out.keep hB).at_ hlt
        obtain ⟨b', o', rfl, hb', c2⟩ := (HY.out.keep hB).at_ hlt'
        by_cases hne : xs[k] = ys[k]
        · have ht := bne_f hne
          have HE := Lib.hid hne; clear hne
          go_wp2
          go_quiet (fail)
          go_wp2
          go_roundw
          case rel => exact ⟨k + 1, by omega, by go_num, below_drewN hB _, step_eq hlt hlt' HE.out H.out⟩
          case measure => simp [intOf]; omega
        · have ht := bne_t hne
          have HE : Hid (eqL xs ys = false) := eqL_not hlt hlt' hne
          clear hne
          go_wp2
          go_quiet (fail)
          go_wp2
          go_ret
          exact ⟨ret_bool HE.out.symm, below_drewN hB _⟩
      · have HE : Hid (eqL xs ys = true) := eqL_of HL.out hlt H.out
        go_wp2
        go_ret
        exact ⟨ret_bool HE.out.symm, hB⟩
  · have hd : ((xs.length : Int) != (ys.length : Int)) = true := bne_t (by omega)
    have HE : Hid (eqL xs ys = false) := eqL_f fun e => hl (by rw [e])
    clear hl
    go_enter Tryd.func18, Tryd.ntmps18
    go_wp2
    go_ret
    exact ⟨ret_bool HE.out.symm, Below.refl _ _⟩

def eqU (u v : Int × List Int) : Bool := decide (u = v)
theorem eqU_t {u v : Int × List Int} (h : u = v) : eqU u v = true := decide_eq_true h
theorem eqU_f {u v : Int × List Int} (h : u ≠ v) : eqU u v = false := decide_eq_false h

set_option maxHeartbeats 400000 in
theorem eqRule_any (l l' : Int) (A A' : Option Addr) (xs ys : List Int) (c c' : Nat) (w : World) (hx : Ints w w.heap.size A xs) (hy : Ints w w.heap.size A' ys) (h1 : xs.length ≤ 1048576) :
    Calls Tryd.prog 92 #[.agg #[.int .i64 l, .slice A xs.length c], .agg #[.int .i64 l', .slice A' ys.length c']] w fun e w' => e = .returned (.bool (eqU (l, xs) (l', ys))) ∧ Below w.heap.size w w' := by
  have HX := Lib.hid hx; clear hx
  have HY := Lib.hid hy; clear hy
  by_cases hl : l = l'
  · have hd := bne_f hl
    have HL := Lib.hid hl; clear hl
    cases hq : eqL xs ys
    all_goals
      have HQ := Lib.hid hq; clear hq
      go_enter Tryd.func92, Tryd.ntmps92
      go_wp2_with fail
      refine (eqIntS_any _ _ _ _ _ _ _ ?_ ?_ h1).mono ?_
      · exact (HX.out.keep (by go_grown)).more (by go_size)
      · exact (HY.out.keep (by go_grown)).more (by go_size)
      rintro e w1 ⟨rfl, hB⟩
      rw [HQ.out]
      go_wp2
      go_ret
      refine ⟨ret_bool ?_, Below.trans (by go_grown) (hB.mono (by go_size))⟩
    · exact (eqU_f fun e => by have h : xs = ys := congrArg Prod.snd e; rw [eqL_t h] at HQ; cases HQ.out).symm
    · exact (eqU_t (by rw [HL.out, of_decide_eq_true HQ.out])).symm
  · have hd := bne_t hl
    have HE : Hid (eqU (l, xs) (l', ys) = false) := eqU_f fun e => hl (congrArg Prod.fst e)
    clear hl
    go_enter Tryd.func92, Tryd.ntmps92
    go_wp2
    go_ret
    exact ⟨ret_bool HE.out.symm, by go_grown⟩

def eqRs (rs ss : List (Int × List Int)) : Bool := decide (rs = ss)
theorem eqRs_t {u v : List (Int × List Int)} (h : u = v) : eqRs u v = true := decide_eq_true h
theorem eqRs_f {u v : List (Int × List Int)} (h : u ≠ v) : eqRs u v = false := decide_eq_false h

theorem step_eqR {rs ss : List Ru} {k : Nat} (hx : k < rs.length) (hy : k < ss.length) (he : eqU rs[k].abs ss[k].abs = true) (h : ∀ j : Nat, j < k → (rs.map Ru.abs)[j]? = (ss.map Ru.abs)[j]?) :
    ∀ j : Nat, j < k + 1 → (rs.map Ru.abs)[j]? = (ss.map Ru.abs)[j]? := by
  intro j hj
  by_cases e : j = k
  · subst e; rw [List.getElem?_map, List.getElem?_map, List.getElem?_eq_getElem hx, List.getElem?_eq_getElem hy]; simp [of_decide_eq_true he]
  · exact h j (by omega)
theorem eqRs_of {rs ss : List Ru} {k : Nat} (hl : rs.length = ss.length) (hk : ¬ k < rs.length) (h : ∀ j : Nat, j < k → (rs.map Ru.abs)[j]? = (ss.map Ru.abs)[j]?) : eqRs (rs.map Ru.abs) (ss.map Ru.abs) = true := by
  refine eqRs_t (List.ext_getElem? fun j => ?_)
  by_cases hj : j < k
  · exact h j hj
  · rw [List.getElem?_eq_none (by simp; omega), List.getElem?_eq_none (by simp; omega)]
theorem eqRs_not {rs ss : List Ru} {k : Nat} (hx : k < rs.length) (hy : k < ss.length) (h : eqU rs[k].abs ss[k].abs = false) : eqRs (rs.map Ru.abs) (ss.map Ru.abs) = false := by
  refine eqRs_f fun e => ?_
  have e' := congrArg (fun l => l[k]?) e
  simp [List.getElem?_eq_getElem hx, List.getElem?_eq_getElem hy] at e'
  rw [eqU_t e'] at h
  cases h

set_option maxRecDepth 10000 in
set_option maxHeartbeats 400000 in
theorem eqRuleS_any (A A' : Option Addr) (rs ss : List Ru) (c c' : Nat) (w : World) (hx : Rls w w.heap.size A rs) (hy : Rls w w.heap.size A' ss) (h1 : rs.length ≤ 1048576) (h2 : ∀ u ∈ rs, u.r.length ≤ 1048576) :
    Calls Tryd.prog 51 #[.slice A rs.length c, .slice A' ss.length c'] w fun e w' => e = .returned (.bool (eqRs (rs.map Ru.abs) (ss.map Ru.abs))) ∧ Below w.heap.size w w' := by
  have HX := Lib.hid hx; clear hx
  have HY := Lib.hid hy; clear hy
  have H2 := Lib.hid h2; clear h2
  by_cases hl : rs.length = ss.length
  · have hd : ((rs.length : Int) != (ss.length : Int)) = false := bne_f (by omega)
    have hlen : rs.length ≤ ss.length := by omega
    have hlen' : ss.length ≤ rs.length := by omega
    have HL := Lib.hid hl; clear hl
    go_enter Tryd.func51, Tryd.ntmps51
    go_wp2
    go_loopw [5] (fun i wr => ∃ (k : Nat), k ≤ rs.length ∧ i = .int .i64 k ∧ Below w.heap.size w wr ∧ Hid (∀ j : Nat, j < k → (rs.map Ru.abs)[j]? = (ss.map Ru.abs)[j]?)) (fun i _ => rs.length - (intOf i).toNat)
    case atStart => exact ⟨0, by omega, rfl, Below.refl _ _, fun j h => absurd h (by omega)⟩
    case round =>
      obtain ⟨k, hk, rfl, hB, H⟩ := hrel
      by_cases hlt : k < rs.length
      · have hlt' : k < ss.length := by omega
        obtain ⟨b, o, rfl, hb, c1, c2, c3⟩ := (HX.out.keep hB).at_ hlt
        obtain ⟨b', o', rfl, hb', d1, d2, d3⟩ := (HY.out.keep hB).at_ hlt'
        have C3 := Lib.hid (c3.more hB.size); clear c3
        have D3 := Lib.hid (d3.more hB.size); clear d3
        have hlen2 := H2.out rs[k] (List.getElem_mem hlt)
        cases hq : eqU rs[k].abs ss[k].abs
        all_goals
          have HQ := Lib.hid hq; clear hq
          go_wp2
          go_still_tail 8, (by kernel_rfl)
          change wpList _ _ _ _ _ wr.drew
          go_wp2_with fail
          refine (eqRule_any _ _ _ _ _ _ _ _ _ ?_ ?_ hlen2).mono ?_
          · exact C3.out.keep (by go_grown)
          · exact D3.out.keep (by go_grown)
          rintro e w1 ⟨rfl, hB1⟩
          have hB2 : Below w.heap.size w w1 := hB.trans (Below.trans (by go_grown) (hB1.mono hB.size))
          clear hB1
          rw [show eqU (rs[k].l, rs[k].r) (ss[k].l, ss[k].r) = _ from HQ.out]
        · have HE : Hid (eqRs (rs.map Ru.abs) (ss.map Ru.abs) = false) := eqRs_not hlt hlt' HQ.out
          go_wp2
          go_ret
          exact ⟨ret_bool HE.out.symm, hB2⟩
        · go_wp2
          go_roundw
          case rel => exact ⟨k + 1, by omega, by go_num, hB2, step_eqR hlt hlt' HQ.out H.out⟩
          case measure => simp [intOf]; omega
      · have HE : Hid (eqRs (rs.map Ru.abs) (ss.map Ru.abs) = true) := eqRs_of HL.out hlt H.out
        go_wp2
        go_ret
        exact ⟨ret_bool HE.out.symm, hB⟩
  · have hd : ((rs.length : Int) != (ss.length : Int)) = true := bne_t (by omega)
    have HE : Hid (eqRs (rs.map Ru.abs) (ss.map Ru.abs) = false) := eqRs_f fun e => hl (by simpa using congrArg List.length e)
    clear hl
    go_enter Tryd.func51, Tryd.ntmps51
    go_wp2
    go_ret
    exact ⟨ret_bool HE.out.symm, Below.refl _ _⟩

/-- What a grammar says. -/
def eqG (n t : Int) (rs : List (Int × List Int)) (n' t' : Int) (ss : List (Int × List Int)) : Bool := decide (n = n' ∧ t = t' ∧ rs = ss)

set_option maxHeartbeats 400000 in
theorem eqGrammar_any (n t n' t' : Int) (A A' : Option Addr) (rs ss : List Ru) (c c' : Nat) (w : World) (hx : Rls w w.heap.size A rs) (hy : Rls w w.heap.size A' ss) (h1 : rs.length ≤ 1048576) (h2 : ∀ u ∈ rs, u.r.length ≤ 1048576) :
    Calls Tryd.prog 17 #[.agg #[.int .i64 n, .int .i64 t, .slice A rs.length c], .agg #[.int .i64 n', .int .i64 t', .slice A' ss.length c']] w fun e w' => e = .returned (.bool (eqG n t (rs.map Ru.abs) n' t' (ss.map Ru.abs))) ∧ Below w.heap.size w w' := by
  have HX := Lib.hid hx; clear hx
  have HY := Lib.hid hy; clear hy
  have H2 := Lib.hid h2; clear h2
  by_cases hn : n = n'
  · have e1 := bne_f hn
    have HN := Lib.hid hn; clear hn
    by_cases ht : t = t'
    · have e2 := bne_f ht
      have HT := Lib.hid ht; clear ht
      cases hq : eqRs (rs.map Ru.abs) (ss.map Ru.abs)
      all_goals
        have HQ := Lib.hid hq; clear hq
        go_enter Tryd.func17, Tryd.ntmps17
        go_wp2_with fail
        refine (eqRuleS_any _ _ _ _ _ _ _ ?_ ?_ h1 H2.out).mono ?_
        · exact (HX.out.keep (by go_grown)).more (by go_size)
        · exact (HY.out.keep (by go_grown)).more (by go_size)
        rintro e w1 ⟨rfl, hB⟩
        rw [HQ.out]
        go_wp2
        go_ret
        refine ⟨ret_bool ?_, Below.trans (by go_grown) (hB.mono (by go_size))⟩
      · exact (decide_eq_false fun e => by rw [eqRs_t e.2.2] at HQ; cases HQ.out).symm
      · exact (decide_eq_true ⟨HN.out, HT.out, of_decide_eq_true HQ.out⟩).symm
    · have e2 := bne_t ht
      have HE : Hid (eqG n t (rs.map Ru.abs) n' t' (ss.map Ru.abs) = false) := decide_eq_false fun e => ht e.2.1
      clear ht
      go_enter Tryd.func17, Tryd.ntmps17
      go_wp2
      go_ret
      exact ⟨ret_bool HE.out.symm, by go_grown⟩
  · have e1 := bne_t hn
    have HE : Hid (eqG n t (rs.map Ru.abs) n' t' (ss.map Ru.abs) = false) := decide_eq_false fun e => hn e.1
    clear hn
    go_enter Tryd.func17, Tryd.ntmps17
    go_wp2
    go_ret
    exact ⟨ret_bool HE.out.symm, by go_grown⟩

end Go.Proofs.YtjfhkcoiomokoaaDoor
