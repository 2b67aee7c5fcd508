/- What the reference's checks of chapter 1 answer. -/
import Derived.Test.YtjfhkcoiomokoaaDoorImplGood3
namespace Go.Proofs.YtjfhkcoiomokoaaDoor
open Go.RowKit
open Go.Sort (grow)

set_option maxHeartbeats 400000 in
theorem l1In_any (n lo hi : Int) (w : World) :
    Calls Tryd.prog 54 #[.int .i64 n, .int .i64 lo, .int .i64 hi] w fun e w' => e = .returned (.bool (inB lo hi n)) ∧ w = w' := by
  by_cases h1 : lo ≤ n
  · by_cases h2 : n ≤ hi
    · have HE : Hid (inB lo hi n = true) := inB_t h1 h2
      go_enter Tryd.func54, Tryd.ntmps54
      go_wp2
      go_ret
      exact ⟨ret_b HE.out.symm, rfl⟩
    · have HE : Hid (inB lo hi n = false) := inB_f (by omega)
      go_enter Tryd.func54, Tryd.ntmps54
      go_wp2
      go_ret
      exact ⟨ret_b HE.out.symm, rfl⟩
  · have HE : Hid (inB lo hi n = false) := inB_f (by omega)
    go_enter Tryd.func54, Tryd.ntmps54
    go_wp2
    go_ret
    exact ⟨ret_b HE.out.symm, rfl⟩

theorem sym_in {n t x : Int} (hn : 1 ≤ n) (ht : 1 ≤ t) : inB (-t) (n - 1) x = symB n t x := by
  unfold inB symB
  rw [Bool.eq_iff_iff]
  simp only [decide_eq_true_eq]
  omega
theorem non_in {n x : Int} : inB 0 (n - 1) x = nonB n x := by
  unfold inB nonB
  rw [Bool.eq_iff_iff]
  simp only [decide_eq_true_eq]
  omega

set_option maxHeartbeats 400000 in
theorem l1Symbol_any (n t x : Int) (v : Value) (w : World) (hn : 1 ≤ n) (hn' : n ≤ 6) (ht : 1 ≤ t) (ht' : t ≤ 4) :
    Calls Tryd.prog 93 #[.agg #[.int .i64 n, .int .i64 t, v], .int .i64 x] w fun e w' => e = .returned (.bool (symB n t x)) ∧ Below w.heap.size w w' := by
  have HS := Lib.hid (sym_in (x := x) hn ht)
  go_enter Tryd.func93, Tryd.ntmps93
  go_wp2_with fail
  refine (l1In_any _ _ _ _).mono ?_
  rintro e w1 ⟨rfl, rfl⟩
  go_wp2
  go_ret
  exact ⟨ret_b HS.out, by go_grown⟩

set_option maxHeartbeats 400000 in
theorem l1Same_any (A A' : Option Addr) (xs ys : List Int) (c c' : Nat) (w : World) (hx : Ints w w.heap.size A xs) (hy : Ints w w.heap.size A' ys) (h1 : xs.length ≤ 1048576) :
    Calls Tryd.prog 119 #[.slice A xs.length c, .slice A' ys.length c'] w fun e w' => e = .returned (.bool (eqL xs ys)) ∧ Below w.heap.size w w' := by
  have HX := Lib.hid hx; clear hx
  have HY := Lib.hid hy; clear hy
  by_cases hl : xs.length = ys.length
  · have hd : ((xs.length : Int) != (ys.length : Int)) = false := bne_f (by omega)
    have hlen : xs.length ≤ ys.length := by omega
    have hlen' : ys.length ≤ xs.length := by omega
    have HL := Lib.hid hl; clear hl
    go_enter Tryd.func119, Tryd.ntmps119
    go_wp2
    go_loopw [13] (fun i wr => ∃ (k : Nat), k ≤ xs.length ∧ i = .int .i64 k ∧ Below w.heap.size w wr ∧ Hid (∀ j : Nat, j < k → xs[j]? = ys[j]?)) (fun i _ => xs.length - (intOf i).toNat)
    case atStart => exact ⟨0, by omega, rfl, Below.refl _ _, fun j h => absurd h (by omega)⟩
    case round =>
      obtain ⟨k, hk, rfl, hB, H⟩ := hrel
      by_cases hlt : k < xs.length
      · have hlt' : k < ys.length := by omega
        obtain ⟨b, o, rfl, hb, c1⟩ := (HX.out.keep hB).at_ hlt
        obtain ⟨b', o', rfl, hb', c2⟩ := (HY.out.keep hB).at_ hlt'
        by_cases hne : xs[k] = ys[k]
        · have ht := bne_f hne
          have HE := Lib.hid hne; clear hne
          go_wp2
          go_quiet (fail)
          go_wp2
          go_roundw
          case rel => exact ⟨k + 1, by omega, by go_num, below_drewN hB _, step_eq hlt hlt' HE.out H.out⟩
          case measure => simp [intOf]; omega
        · have ht := bne_t hne
          have HE : Hid (eqL xs ys = false) := eqL_not hlt hlt' hne
          clear hne
          go_wp2
          go_quiet (fail)
          go_wp2
          go_ret
          exact ⟨ret_bool HE.out.symm, below_drewN hB _⟩
      · have HE : Hid (eqL xs ys = true) := eqL_of HL.out hlt H.out
        go_wp2
        go_ret
        exact ⟨ret_bool HE.out.symm, hB⟩
  · have hd : ((xs.length : Int) != (ys.length : Int)) = true := bne_t (by omega)
    have HE : Hid (eqL xs ys = false) := eqL_f fun e => hl (by rw [e])
    clear hl
    go_enter Tryd.func119, Tryd.ntmps119
    go_wp2
    go_ret
    exact ⟨ret_bool HE.out.symm, Below.refl _ _⟩

set_option maxHeartbeats 400000 in
theorem l1SameRule_any (l l' : Int) (A A' : Option Addr) (xs ys : List Int) (c c' : Nat) (w : World) (hx : Ints w w.heap.size A xs) (hy : Ints w w.heap.size A' ys) (h1 : xs.length ≤ 1048576) :
    Calls Tryd.prog 94 #[.agg #[.int .i64 l, .slice A xs.length c], .agg #[.int .i64 l', .slice A' ys.length c']] w fun e w' => e = .returned (.bool (eqU (l, xs) (l', ys))) ∧ Below w.heap.size w w' := by
  have HX := Lib.hid hx; clear hx
  have HY := Lib.hid hy; clear hy
  by_cases hl : l = l'
  · have hd := beq_t hl
    have HL := Lib.hid hl; clear hl
    cases hq : eqL xs ys
    all_goals
      have HQ := Lib.hid hq; clear hq
      go_enter Tryd.func94, Tryd.ntmps94
      go_wp2_with fail
      refine (l1Same_any _ _ _ _ _ _ _ ?_ ?_ h1).mono ?_
      · exact (HX.out.keep (by go_grown)).more (by go_size)
      · exact (HY.out.keep (by go_grown)).more (by go_size)
      rintro e w1 ⟨rfl, hB⟩
      rw [HQ.out]
      go_wp2
      go_ret
      refine ⟨ret_bool ?_, Below.trans (by go_grown) (hB.mono (by go_size))⟩
    · exact (eqU_f fun e => by have h : xs = ys := congrArg Prod.snd e; rw [eqL_t h] at HQ; cases HQ.out).symm
    · exact (eqU_t (by rw [HL.out, of_decide_eq_true HQ.out])).symm
  · have hd := beq_f hl
    have HE : Hid (eqU (l, xs) (l', ys) = false) := eqU_f fun e => hl (congrArg Prod.fst e)
    clear hl
    go_enter Tryd.func94, Tryd.ntmps94
    go_wp2
    go_ret
    exact ⟨ret_bool HE.out.symm, by go_grown⟩

end Go.Proofs.YtjfhkcoiomokoaaDoor
