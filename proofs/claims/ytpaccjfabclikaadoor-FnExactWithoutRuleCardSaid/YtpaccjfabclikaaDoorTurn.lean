/- Lists of numbers turned round, the program's way (in place) and the reference's (a new one). -/
import Derived.Test.YtpaccjfabclikaaDoorCopy
namespace Go.Proofs.YtpaccjfabclikaaDoor
open Go.RowKit

theorem Save.drew {S : Nat → Prop} {a w : World} (h : Save S a w) : Save S a w.drew := ⟨h.os, h.tape, h.output, h.size, h.block⟩

theorem val_int {a b : Int} (h : a = b) : Value.int .i64 a = .int .i64 b := by rw [h]

theorem rev_step {xs : List Int} {m : Nat} (h : m < xs.length) : (xs.drop m).reverse = (xs.drop (m + 1)).reverse ++ [xs[m]] := by
  rw [List.drop_eq_getElem_cons h, List.reverse_cons]

set_option maxHeartbeats 400000 in
theorem l1Turned_any (A : Option Addr) (xs : List Int) (c : Nat) (w : World) (hr : Ints w w.heap.size A xs) (hn : xs.length ≤ 1048576) :
    Calls Tryd.prog 48 #[.slice A xs.length c] w (GaveI' w xs.reverse) := by
  obtain ⟨i0, hi0, hz0, hz1, hz2⟩ := info_of Tryd.infoInt
  have HR := Lib.hid hr; clear hr
  go_enter Tryd.func48, Tryd.ntmps48
  go_wp2
  go_loopw [3, 4] (fun v i wr => ∃ (m : Nat), m ≤ xs.length ∧ i = .int .i64 ((m : Int) - 1) ∧ Hid (wr.ownsRow w.heap.size 3 1 v ((xs.drop m).reverse).length (vals (xs.drop m).reverse)) ∧ Below w.heap.size w wr) (fun _ i _ => (intOf i + 1).toNat)
  case atStart => exact ⟨xs.length, Nat.le_refl _, rfl, ⟨by simp [vals], .inl ⟨rfl, by simp⟩⟩, Below.refl _ _⟩
  case round =>
    obtain ⟨m, hm, rfl, HO, hB⟩ := hrel
    rcases m with _ | m
    · rw [show (((0 : Nat) : Int) - 1) = -1 from rfl]
      obtain ⟨A', c', hv, hO⟩ := ownI_of_row (ys := (xs.drop 0).reverse) HO.out
      rw [List.drop_zero] at hv hO
      have HO' := Lib.hid hO; clear hO
      subst hv
      go_wp2
      go_ret
      exact ⟨A', c', rfl, HO'.out, hB⟩
    · rw [show (((m + 1 : Nat) : Int) - 1) = (m : Int) from by omega]
      have hlt : m < xs.length := by omega
      obtain ⟨b, o, rfl, hb, c1⟩ := (HR.out.keep hB).at_ hlt
      have HS := Lib.hid (rev_step hlt)
      have hown := HO.out.alloc (.cells #[.int .i64 xs[m]] 3)
      have HW := Lib.hid hown; clear hown
      have hsz := hB.size
      have hdl : ((xs.drop (m + 1)).reverse).length ≤ 1048576 := by simp; omega
      go_wp2_with (at_builtin
                   refine wpList_append_own _ rfl (.tmp 12) (.tmp 17) _ rfl w.heap.size 3 i0 _ 1 8 Tryd.underlying33 hi0 hz0 hz1 hz2 rfl (by omega) _ _ _ rfl HW.out ⟨wr.heap.size, 0, none⟩ 1 1 [.int .i64 xs[m]] rfl rfl (cell_one_new _ _ _) (by intro u hu; simp at hu; subst hu; rfl) (by unfold maxLen; omega) (by omega) (by simp; omega) ?_
                   intro v' w' h1 h2 h3
                   have HO1 := Lib.hid h1
                   have HG1 := Lib.hid h2
                   clear h1 h2 h3)
      go_roundw
      case rel =>
        refine ⟨m, by omega, rfl, ?_, ((hB.alloc hB.size _).grown HG1.out (by simp; omega) fun j hj => (HO.out.lt j hj).1)⟩
        show World.ownsRow _ _ _ _ _ _ _
        rw [HS.out]
        have h1 := HO1.out
        simpa [vals] using h1
      case measure => simp [intOf]

/-- The list with its first k and its last k members changed about. -/
def revTo (xs : List Int) (k : Nat) : List Int := (List.range xs.length).map fun p => if p < k ∨ xs.length - k ≤ p then xs.getD (xs.length - 1 - p) 0 else xs.getD p 0
theorem revTo_length (xs : List Int) (k : Nat) : (revTo xs k).length = xs.length := by simp [revTo]
theorem revTo_at {xs : List Int} {k p : Nat} (_h : p < xs.length) (hp : p < (revTo xs k).length) : (revTo xs k)[p] = if p < k ∨ xs.length - k ≤ p then xs.getD (xs.length - 1 - p) 0 else xs.getD p 0 := by simp [revTo]
theorem revTo_zero (xs : List Int) : revTo xs 0 = xs := by
  apply List.ext_getElem
  · rw [revTo_length]
  · intro p h1 h2
    rw [revTo_at h2, if_neg (by omega), List.getD_eq_getElem?_getD, List.getElem?_eq_getElem h2]
    rfl
theorem revTo_done {xs : List Int} {k : Nat} (h : ¬ (k : Int) < (xs.length : Int) - 1 - k) : revTo xs k = xs.reverse := by
  apply List.ext_getElem
  · rw [revTo_length, List.length_reverse]
  · intro p h1 h2
    rw [List.length_reverse] at h2
    rw [revTo_at h2, List.getElem_reverse]
    split
    · rw [List.getD_eq_getElem?_getD, List.getElem?_eq_getElem (by omega)]; rfl
    · have : p = xs.length - 1 - p := by omega
      rw [List.getD_eq_getElem?_getD, List.getElem?_eq_getElem h2]
      simp only [Option.getD_some]
      congr 1
theorem revTo_step {xs : List Int} {k m : Nat} (hm : (xs.length : Int) - 1 - k = m) (h : k < m) (x y : Int) (hx : x = (revTo xs k)[m]'(by rw [revTo_length]; omega)) (hy : y = (revTo xs k)[k]'(by rw [revTo_length]; omega)) :
    ((revTo xs k).set k x).set m y = revTo xs (k + 1) := by
  apply List.ext_getElem
  · simp [revTo_length]
  · intro p h1 h2
    rw [revTo_length] at h2
    rw [revTo_at (k := k + 1) h2, List.getElem_set, List.getElem_set]
    by_cases e1 : m = p
    · rw [if_pos e1, hy, revTo_at (by omega), if_neg (by omega), if_pos (by omega)]
      congr 1
      omega
    · rw [if_neg e1]
      by_cases e2 : k = p
      · rw [if_pos e2, hx, revTo_at (by omega), if_neg (by omega), if_pos (by omega)]
        congr 1
        omega
      · rw [if_neg e2, revTo_at h2]
        by_cases e3 : p < k ∨ xs.length - k ≤ p
        · rw [if_pos e3, if_pos (by omega)]
        · rw [if_neg e3, if_neg (by omega)]

/-- Turned round in place. -/
def TurnedI (w : World) (lo : Nat) (A : Option Addr) (xs : List Int) (e : Ending) (w' : World) : Prop :=
  e = .returned (.tuple #[]) ∧ OwnI w' lo A xs.reverse ∧ Save (Its A xs) w w'

set_option maxHeartbeats 1000000 in
theorem reverse_any (A : Option Addr) (xs : List Int) (c lo : Nat) (w : World) (h : OwnI w lo A xs) (hn : xs.length ≤ 1048576) :
    Calls Tryd.prog 50 #[.slice A xs.length c] w (TurnedI w lo A xs) := by
  have HO := Lib.hid h; clear h
  go_enter Tryd.func50, Tryd.ntmps50
  go_wp2
  go_loopw [2, 3] (fun i j wr => ∃ (k : Nat), k ≤ xs.length ∧ i = .int .i64 k ∧ j = .int .i64 ((xs.length : Int) - 1 - k) ∧ Hid (OwnI wr lo A (revTo xs k)) ∧ Hid (Save (Its A xs) w wr)) (fun i _ _ => xs.length - (intOf i).toNat)
  case atStart => exact ⟨0, by omega, rfl, by simp, by show OwnI _ _ _ _; rw [revTo_zero]; exact HO.out, Save.refl _ _⟩
  case round =>
    obtain ⟨k, hk, rfl, rfl, H, HS⟩ := hrel
    by_cases hlt : (k : Int) < (xs.length : Int) - 1 - k
    · obtain ⟨m, hm⟩ : ∃ m : Nat, (xs.length : Int) - 1 - k = m := ⟨xs.length - 1 - k, by omega⟩
      have hkm : k < m := by omega
      have hml : m < xs.length := by omega
      rw [hm]
      have HM := Lib.hid hm
      clear hlt hm
      obtain ⟨g, rfl, _, _, c1, f1⟩ := H.out.at_ (i := k) (by rw [revTo_length]; omega)
      obtain ⟨g', e, _, _, c2, f2⟩ := H.out.at_ (i := m) (by rw [revTo_length]; omega)
      injection e with e
      injection e with e
      subst e
      have hne : xs ≠ [] := fun e => by subst e; simp at hml
      have HNE := Lib.hid hne; clear hne
      generalize hx : (revTo xs k)[m]'(by rw [revTo_length]; omega) = x at c2
      generalize hy : (revTo xs k)[k]'(by rw [revTo_length]; omega) = y at c1
      have HXX := Lib.hid hx; clear hx
      have HYY := Lib.hid hy; clear hy
      go_wp2
      go_region
      all_goals
        go_wp2
        go_roundw
        case rel => exact ⟨k + 1, by omega, by go_num, val_int (by have := HM.out; omega), by show OwnI _ _ _ _; rw [← revTo_step HM.out hkm x y HXX.out.symm HYY.out.symm]; exact (H.out.set (i := k) (by rw [revTo_length]; omega) x).set (i := m) (by simp [revTo_length]; omega) y, (show Save _ _ _ from (HS.out.drew.setCell (p := ⟨g, k, none⟩) ⟨rfl, HNE.out⟩ _).setCell (p := ⟨g, m, none⟩) ⟨rfl, HNE.out⟩ _)⟩
        case measure => simp [intOf]; omega
    · have HD := Lib.hid (revTo_done hlt)
      go_wp2
      go_end0
      exact ⟨rfl, by rw [← HD.out]; exact H.out, HS.out⟩

end Go.Proofs.YtpaccjfabclikaaDoor
