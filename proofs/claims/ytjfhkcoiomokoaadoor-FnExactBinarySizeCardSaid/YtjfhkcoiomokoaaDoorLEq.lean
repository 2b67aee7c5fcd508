/- What the laws' comparison of lists of lists answers. -/
import Derived.Test.YtjfhkcoiomokoaaDoorEq
import Derived.Test.YtjfhkcoiomokoaaDoorLMem
namespace Go.Proofs.YtjfhkcoiomokoaaDoor
open Go.RowKit

def eqLs (xs ys : List (List Int)) : Bool := decide (xs = ys)
theorem eqLs_t {u v : List (List Int)} (h : u = v) : eqLs u v = true := decide_eq_true h
theorem eqLs_f {u v : List (List Int)} (h : u ≠ v) : eqLs u v = false := decide_eq_false h

theorem step_eqLs {rs ss : List Li} {k : Nat} (hx : k < rs.length) (hy : k < ss.length) (he : eqL rs[k].r ss[k].r = true) (h : ∀ j : Nat, j < k → (sayL rs)[j]? = (sayL ss)[j]?) :
    ∀ j : Nat, j < k + 1 → (sayL rs)[j]? = (sayL ss)[j]? := by
  intro j hj
  by_cases e : j = k
  · subst e; rw [sayL_at hx, sayL_at hy, of_decide_eq_true he]
  · exact h j (by omega)
theorem eqLs_of {rs ss : List Li} {k : Nat} (hl : rs.length = ss.length) (hk : ¬ k < rs.length) (h : ∀ j : Nat, j < k → (sayL rs)[j]? = (sayL ss)[j]?) : eqLs (sayL rs) (sayL ss) = true := by
  refine eqLs_t (List.ext_getElem? fun j => ?_)
  by_cases hj : j < k
  · exact h j hj
  · rw [List.getElem?_eq_none (by rw [sayL_len]; omega), List.getElem?_eq_none (by rw [sayL_len]; omega)]
theorem eqLs_not {rs ss : List Li} {k : Nat} (hx : k < rs.length) (hy : k < ss.length) (h : eqL rs[k].r ss[k].r = false) : eqLs (sayL rs) (sayL ss) = false := by
  refine eqLs_f fun e => ?_
  have e' := congrArg (fun l => l[k]?) e
  simp only [sayL_at hx, sayL_at hy, Option.some.injEq] at e'
  rw [eqL_t e'] at h
  cases h

set_option maxRecDepth 10000 in
set_option maxHeartbeats 400000 in
theorem eqIntSS_any (A A' : Option Addr) (rs ss : List Li) (c c' : Nat) (w : World) (hx : Lls w w.heap.size A rs) (hy : Lls w w.heap.size A' ss) (h1 : rs.length ≤ 1048576) (h2 : ∀ u ∈ rs, u.r.length ≤ 1048576) :
    Calls Tryd.prog 16 #[.slice A rs.length c, .slice A' ss.length c'] w fun e w' => e = .returned (.bool (eqLs (sayL rs) (sayL ss))) ∧ Below w.heap.size w w' := by
  have HX := Lib.hid hx; clear hx
  have HY := Lib.hid hy; clear hy
  have H2 := Lib.hid h2; clear h2
  by_cases hl : rs.length = ss.length
  · have hd : ((rs.length : Int) != (ss.length : Int)) = false := bne_f (by omega)
    have hlen : rs.length ≤ ss.length := by omega
    have hlen' : ss.length ≤ rs.length := by omega
    have HL := Lib.hid hl; clear hl
    go_enter Tryd.func16, Tryd.ntmps16
    go_wp2
    go_loopw [5] (fun i wr => ∃ (k : Nat), k ≤ rs.length ∧ i = .int .i64 k ∧ Below w.heap.size w wr ∧ Hid (∀ j : Nat, j < k → (sayL rs)[j]? = (sayL ss)[j]?)) (fun i _ => rs.length - (intOf i).toNat)
    case atStart => exact ⟨0, by omega, rfl, Below.refl _ _, fun j h => absurd h (by omega)⟩
    case round =>
      obtain ⟨k, hk, rfl, hB, H⟩ := hrel
      by_cases hlt : k < rs.length
      · have hlt' : k < ss.length := by omega
        obtain ⟨b, o, rfl, hb, c1, c2, c3⟩ := (HX.out.keep hB).at_ hlt
        obtain ⟨b', o', rfl, hb', d1, d2, d3⟩ := (HY.out.keep hB).at_ hlt'
        have C3 := Lib.hid (c3.more hB.size); clear c3
        have D3 := Lib.hid (d3.more hB.size); clear d3
        have hlen2 := H2.out rs[k] (List.getElem_mem hlt)
        cases hq : eqL rs[k].r ss[k].r
        all_goals
          have HQ := Lib.hid hq; clear hq
          go_wp2
          go_still_tail 8, (by kernel_rfl)
          change wpList _ _ _ _ _ wr.drew
          go_wp2_with fail
          refine (eqIntS_any _ _ _ _ _ _ _ ?_ ?_ hlen2).mono ?_
          · exact C3.out.keep (by go_grown)
          · exact D3.out.keep (by go_grown)
          rintro e w1 ⟨rfl, hB1⟩
          have hB2 : Below w.heap.size w w1 := hB.trans (Below.trans (by go_grown) (hB1.mono hB.size))
          clear hB1
          rw [HQ.out]
        · have HE : Hid (eqLs (sayL rs) (sayL ss) = false) := eqLs_not hlt hlt' HQ.out
          go_wp2
          go_ret
          exact ⟨ret_bool HE.out.symm, hB2⟩
        · go_wp2
          go_roundw
          case rel => exact ⟨k + 1, by omega, by go_num, hB2, step_eqLs hlt hlt' HQ.out H.out⟩
          case measure => simp [intOf]; omega
      · have HE : Hid (eqLs (sayL rs) (sayL ss) = true) := eqLs_of HL.out hlt H.out
        go_wp2
        go_ret
        exact ⟨ret_bool HE.out.symm, hB⟩
  · have hd : ((rs.length : Int) != (ss.length : Int)) = true := bne_t (by omega)
    have HE : Hid (eqLs (sayL rs) (sayL ss) = false) := eqLs_f fun e => hl (by rw [← sayL_len, e, sayL_len])
    clear hl
    go_enter Tryd.func16, Tryd.ntmps16
    go_wp2
    go_ret
    exact ⟨ret_bool HE.out.symm, Below.refl _ _⟩

end Go.Proofs.YtjfhkcoiomokoaaDoor
