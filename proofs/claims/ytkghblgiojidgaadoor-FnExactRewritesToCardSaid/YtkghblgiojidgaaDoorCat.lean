/- slices.Grow of nothing, and slices.Concat, at lists of numbers. -/
import Derived.Test.YtkghblgiojidgaaDoorCopy
import Derived.Lib.AppendZerosOnto
import Derived.Lib.AppendZeros
namespace Go.Proofs.YtkghblgiojidgaaDoor
open Go.RowKit

set_option maxRecDepth 20000 in
set_option maxHeartbeats 1000000 in
theorem growNil_any (n : Nat) (hn : n ≤ 1048576) (w : World) :
    Calls Tryd.prog 129 #[.slice none 0 0, .int .i64 (n : Int)] w fun e w' => ∃ v, e = .returned v ∧ w'.ownsRow w.heap.size 3 1 v 0 [] ∧ Below w.heap.size w w' := by
  obtain ⟨i0, hi0, hz0, hz1, hz2⟩ := info_of Tryd.infoInt
  by_cases h0 : n = 0
  · subst h0
    go_enter Tryd.func129, Tryd.ntmps129
    go_wp2
    go_ret
    exact ⟨_, rfl, ⟨rfl, .inl ⟨rfl, rfl⟩⟩, Below.refl _ _⟩
  · have hrz : ∀ ty, (Builtin.append_ #[34, 3] ty #[.slice none 0 0, .int .i64 (n : Int)]).run Tryd.prog w =
        .ok (.slice (some ⟨w.heap.size, 0, none⟩) n (grownCap w n 0 3)) (w.drew.alloc (.cells (([] : List Value).toArray ++ Builtin.zeroCells (Value.int .i64 0).cells n ++ Builtin.zeroCells (Value.int .i64 0).cells (grownCap w n 0 3 - n)) 3)) := fun ty => by
      have h := Lib.run_append_grow_zeros (P := Tryd.prog) w 34 3 ty 3 i0 (.int .i64 0) .i64 .i64 Tryd.underlying34 Tryd.underlying3 hi0 hz0 none 0 0 [] (run_firstCells_none w.drew i0.size 0 0 0) n (by omega) (by rw [hz1]; omega) (by omega) (by omega) (by rw [hz2]; omega) (growslice_fits (by omega) (by rw [hz2]; omega))
      rw [Nat.zero_add] at h
      exact h
    have hge : n ≤ grownCap w n 0 3 := grownCap_ge w _ _ _
    have hle := grownCap_le_maxLen w n 0 3 (by unfold maxLen; omega)
    unfold maxLen at hle
    have HO : Hid (∀ G, n ≤ G → G ≤ maxLen → (w.drew.alloc (.cells (([] : List Value).toArray ++ Builtin.zeroCells (Value.int .i64 0).cells n ++ Builtin.zeroCells (Value.int .i64 0).cells (G - n)) 3)).ownsRow w.heap.size 3 1 (.slice (some ⟨w.heap.size, 0, none⟩) 0 G) 0 []) := fun G h1 h2 =>
      ⟨rfl, .inr ⟨w.heap.size, G, _, rfl, Nat.le_refl _, heap_alloc_new w.drew _, by omega, h2, by simp [Builtin.zeroCells, Value.cells]; omega, by simp⟩⟩
    have HB : Hid (∀ G, Below w.heap.size w (w.drew.alloc (.cells (([] : List Value).toArray ++ Builtin.zeroCells (Value.int .i64 0).cells n ++ Builtin.zeroCells (Value.int .i64 0).cells (G - n)) 3))) := fun G => by go_grown
    generalize grownCap w n 0 3 = G at *
    have HOG := Lib.hid (HO.out G hge (by unfold maxLen; exact hle))
    have HBG := Lib.hid (HB.out G)
    clear HO HB
    generalize w.drew.alloc (.cells (([] : List Value).toArray ++ Builtin.zeroCells (Value.int .i64 0).cells n ++ Builtin.zeroCells (Value.int .i64 0).cells (G - n)) 3) = w2 at *
    go_enter Tryd.func129, Tryd.ntmps129
    go_wp2_with (at_builtin; refine Lib.wpList_append_run _ rfl _ _ _ _ rfl _ _ rfl rfl _ _ (hrz _) ?_)
    all_goals
      go_ret
      exact ⟨_, rfl, HOG.out, HBG.out⟩

/-- A list as a slice in memory: where it lies, what it reads as, its capacity. -/
structure Pt where
  a : Option Addr
  r : List Int
  c : Nat
/-- The cells of block B are the slices ps. -/
def PtsAt (w : World) (B : Nat) (ps : List Pt) : Prop := B < w.heap.size ∧ ∀ (k : Nat) (p : Pt), ps[k]? = some p → w.cell? ⟨B, k, none⟩ = some (.slice p.a p.r.length p.c) ∧ Ints w w.heap.size p.a p.r
theorem PtsAt.keep {w w' : World} {B : Nat} {ps : List Pt} (h : PtsAt w B ps) (hb : Below w.heap.size w w') : PtsAt w' B ps :=
  ⟨Nat.lt_of_lt_of_le h.1 hb.size, fun k p hk => ⟨(hb.cell (p := ⟨B, k, none⟩) h.1).trans (h.2 k p hk).1, ((h.2 k p hk).2.keep hb).more hb.size⟩⟩
def catL (ps : List Pt) : List Int := ps.flatMap Pt.r
theorem catL_take {ps : List Pt} {k : Nat} (h : k < ps.length) : catL (ps.take (k + 1)) = catL (ps.take k) ++ ps[k].r := by
  unfold catL
  rw [List.take_add_one, List.getElem?_eq_getElem h, List.flatMap_append]
  simp
theorem catL_le {ps : List Pt} (k : Nat) : (catL (ps.take k)).length ≤ (catL ps).length := by
  have h : catL ps = catL (ps.take k) ++ catL (ps.drop k) := by unfold catL; rw [← List.flatMap_append, List.take_append_drop]
  rw [h, List.length_append]
  omega

set_option maxRecDepth 20000 in
set_option maxHeartbeats 1000000 in
theorem concat_any (B : Nat) (ps : List Pt) (c : Nat) (w : World) (hP : PtsAt w B ps) (hn : (catL ps).length ≤ 1048576) (hl : ps.length ≤ 1048576) :
    Calls Tryd.prog 108 #[.slice (some ⟨B, 0, none⟩) ps.length c] w fun e w' => ∃ v, e = .returned v ∧ w'.ownsRow w.heap.size 3 1 v (catL ps).length (vals (catL ps)) ∧ Below w.heap.size w w' := by
  obtain ⟨i0, hi0, hz0, hz1, hz2⟩ := info_of Tryd.infoInt
  have HP := Lib.hid hP; clear hP
  go_enter Tryd.func108, Tryd.ntmps108
  go_wp2
  go_loopw [3, 11] (fun z i wr => ∃ (k m : Nat), k ≤ ps.length ∧ i = .int .i64 k ∧ z = .int .i64 m ∧ Hid (m = (catL (ps.take k)).length) ∧ wr = w) (fun _ i _ => ps.length - (intOf i).toNat)
  case atStart => exact ⟨0, 0, by omega, rfl, rfl, rfl, rfl⟩
  case round =>
    obtain ⟨k, m, hk, rfl, rfl, HM, hwr⟩ := hrel
    subst hwr
    by_cases hlt : k < ps.length
    · obtain ⟨c1, _⟩ := HP.out.2 k ps[k] (List.getElem?_eq_getElem hlt)
      have HN : Hid (m + ps[k].r.length = (catL (ps.take (k + 1))).length) := by show _ = _; rw [catL_take hlt, List.length_append, HM.out]
      have hm : m + ps[k].r.length ≤ 1048576 := by have := HN.out; have := catL_le (ps := ps) (k + 1); omega
      go_wp2
      go_roundw
      case rel => exact ⟨k + 1, m + ps[k].r.length, by omega, by go_num, by go_num, HN.out, trivial⟩
      case measure => simp [intOf]; omega
    · obtain rfl : k = ps.length := by omega
      have hm : m = (catL ps).length := by have := HM.out; rw [List.take_length] at this; exact this
      have hml : m ≤ 1048576 := by omega
      have HMM := Lib.hid hm; clear hm HM
      obtain ⟨wO, hwO⟩ : ∃ x, x = wr := ⟨_, rfl⟩
      subst hwO
      go_wp2_with fail
      refine (growNil_any m hml _).mono ?_
      rintro e w1 ⟨v1, rfl, hO1, hB1⟩
      have HO1 : Hid (w1.ownsRow wO.heap.size 3 1 v1 (catL (ps.take 0)).length (vals (catL (ps.take 0)))) := hO1
      have HB1 := Lib.hid hB1
      clear hO1 hB1
      go_wp2
      go_loopw [6, 27] (fun v i wr => ∃ (k : Nat), k ≤ ps.length ∧ i = .int .i64 k ∧ Hid (wr.ownsRow wO.heap.size 3 1 v (catL (ps.take k)).length (vals (catL (ps.take k)))) ∧ Hid (Below wO.heap.size wO wr)) (fun _ i _ => ps.length - (intOf i).toNat)
      case atStart => exact ⟨0, by omega, rfl, HO1.out, HB1.out⟩
      case round =>
        obtain ⟨k, hk, rfl, HO, HB⟩ := hrel
        clear HO1 HB1
        by_cases hlt : k < ps.length
        · have hPk := HP.out.keep HB.out
          obtain ⟨c1, c2⟩ := hPk.2 k ps[k] (List.getElem?_eq_getElem hlt)
          have HC := Lib.hid (catL_take hlt)
          have hlk : (catL (ps.take k)).length + ps[k].r.length ≤ 1048576 := by have h1 := catL_le (ps := ps) (k + 1); rw [HC.out, List.length_append] at h1; omega
          clear hPk
          generalize ps[k] = p at c1 c2 HC hlk
          obtain ⟨pa, pr, pc⟩ := p
          dsimp only at c1 c2 HC hlk
          have HC2 := Lib.hid c2; clear c2
          rcases pa with _ | ad
          · have hx : pr = [] := by
              rcases pr with _ | ⟨x, xs⟩
              · rfl
              · obtain ⟨_, _, e, _⟩ := HC2.out (by simp)
                cases e
            subst hx
            have HON : Hid (wr.ownsRow wO.heap.size 3 1 u6 (catL (ps.take (k + 1))).length (vals (catL (ps.take (k + 1))))) := by have h := HO.out; show World.ownsRow _ _ _ _ _ _ _; rw [HC.out, List.append_nil]; exact h
            go_wp2_with (at_builtin
                         refine append_nil_at rfl (.tmp 31) (.tmp 32) _ rfl wO.heap.size 3 i0 1 Tryd.underlying34 hi0 _ _ _ rfl HO.out pc rfl ?_)
            go_roundw
            case rel => exact ⟨k + 1, by omega, by go_num, HON.out, HB.out⟩
            case measure => simp [intOf]; omega
          · have HN : Hid (∀ (j : Nat) (v : Value), (vals pr)[j]? = some v → wr.cell? (ad.add j) = some v) := fun j v hv => by
              have hp : 0 < pr.length := by have := (List.getElem?_eq_some_iff.1 hv).1; rw [vals_length] at this; omega
              obtain ⟨ad', e, h⟩ := HC2.out.src hp
              injection e with e
              subst e
              exact h j v hv
            have hws : wO.heap.size ≤ wr.heap.size := HB.out.size
            have hvl : (vals (catL (ps.take k))).length = (catL (ps.take k)).length := vals_length _
            go_wp2_with (at_builtin
                         refine wpList_append_own _ rfl (.tmp 31) (.tmp 32) _ rfl wO.heap.size 3 i0 _ 1 8 Tryd.underlying34 hi0 hz0 hz1 hz2 rfl (by omega) _ _ _ rfl HO.out ad pr.length pc (vals pr) rfl (by rw [vals_length]; omega) HN.out (vals_one pr) (by unfold maxLen; omega) (by omega) (by omega) ?_
                         intro v' w' h1 h2 h3
                         have HO1 := Lib.hid h1
                         have HB2 : Hid (Below wO.heap.size wO w') := HB.out.grown h2 HB.out.size fun j hj => (HO.out.lt j hj).1
                         clear h1 h2 h3)
            go_roundw
            case rel =>
              refine ⟨k + 1, by omega, by go_num, ?_, HB2.out⟩
              show World.ownsRow _ _ _ _ _ _ _
              rw [HC.out, List.length_append]
              have h := HO1.out
              unfold vals at h ⊢
              rw [List.map_append]
              exact h
            case measure => simp [intOf]; omega
        · obtain rfl : k = ps.length := by omega
          have HOE : Hid (wr.ownsRow wO.heap.size 3 1 u6 (catL ps).length (vals (catL ps))) := by have h := HO.out; rw [List.take_length] at h; exact h
          go_wp2
          go_ret
          exact ⟨_, rfl, HOE.out, HB.out⟩

end Go.Proofs.YtkghblgiojidgaaDoor
