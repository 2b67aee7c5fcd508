/- The law of JoinRows holds of every two lists of numbers that can be read: the call returns true, and what was handed in reads afterwards as it read before. No condition. -/
import Derived.Test.YtaobkanliiiapaaJ102
import Derived.Lib.SlicesCompact
import Derived.Test.YtaobkanliiiapaaJ101
import Derived.Lib.AppendZerosOnto
import Derived.Lib.AppendZeros

namespace Go.Proofs.Ytaobkanliiiapaa
open Go.RowKit

theorem riseI_pair {xs : List Int} (h : RiseI xs xs.length) : Rises xs := by
  have key : ∀ (i j : Nat) (hi : i < xs.length) (hj : j < xs.length), i < j → xs[i] < xs[j] := by
    intro i j hi hj hij
    induction j with
    | zero => omega
    | succ j ih =>
      have h1 := h j xs[j] xs[j + 1] hj (List.getElem?_eq_getElem (by omega)) (List.getElem?_eq_getElem hj)
      by_cases e : i = j
      · subst e; exact h1
      · have := ih (by omega) (by omega); omega
  exact List.pairwise_iff_getElem.2 fun i j hi hj hij => key i j hi hj hij

/-- A list is short and rises. -/
noncomputable def okR (xs : List Int) : Bool := decide (xs.length ≤ 40) && bP (RiseI xs xs.length)
noncomputable def okJR (a b : List Int) : Bool := okR a && okR b
def PJ (a b ys : List Int) : Prop := Rises ys ∧ ∀ x, x ∈ ys ↔ x ∈ a ∨ x ∈ b
noncomputable def jrV (a b : List Int) : List Int := if okJR a b then Classical.epsilon (PJ a b) else []
theorem PJ.eq {a b ys : List Int} (hg : okJR a b = true) (h : PJ a b ys) : ys = jrV a b := by
  unfold jrV
  rw [if_pos hg]
  have k : PJ a b (Classical.epsilon (PJ a b)) := Classical.epsilon_spec ⟨ys, h⟩
  exact rises_unique h.1 k.1 fun x => (h.2 x).trans (k.2 x).symm

/-- What is kept of a sorted list rises, and has its members. -/
theorem compact_upto {zs : List Int} (h : zs.Pairwise (· ≤ ·)) : ∀ m : Nat, m ≤ zs.length → Rises (Lib.compactUpTo zs.toArray m) ∧ (∀ x, x ∈ Lib.compactUpTo zs.toArray m ↔ ∃ j, j < m ∧ zs[j]? = some x)
  | 0, _ => ⟨by simp [Lib.compactUpTo, Rises], fun x => by simp [Lib.compactUpTo]⟩
  | m + 1, hm => by
    obtain ⟨ih1, ih2⟩ := compact_upto h m (by omega)
    have hmz : zs[m]? = some zs[m] := List.getElem?_eq_getElem (by omega)
    have ea : zs.toArray[m]! = zs[m] := by simp [getElem!_pos, show m < zs.length by omega]
    rw [Lib.compactUpTo_succ, ea]
    cases hk : Lib.keeps zs.toArray m
    · have hz : m ≠ 0 ∧ zs.toArray[m]! = zs.toArray[m - 1]! := by simpa [Lib.keeps] using hk
      have eb : zs.toArray[m - 1]! = zs[m - 1] := by simp [getElem!_pos, show m - 1 < zs.length by omega]
      have e : zs[m] = zs[m - 1] := by rw [← ea, ← eb]; exact hz.2
      simp only [Bool.false_eq_true, if_false, List.append_nil]
      refine ⟨ih1, fun x => (ih2 x).trans ⟨fun ⟨j, hj, hx⟩ => ⟨j, by omega, hx⟩, fun ⟨j, hj, hx⟩ => ?_⟩⟩
      by_cases e2 : j = m
      · subst e2
        refine ⟨j - 1, by omega, ?_⟩
        rw [hmz] at hx
        injection hx with hx
        rw [List.getElem?_eq_getElem (by omega), ← e, hx]
      · exact ⟨j, by omega, hx⟩
    · simp only [if_true]
      refine ⟨List.pairwise_append.2 ⟨ih1, by simp, fun x hx y hy => ?_⟩, fun x => ?_⟩
      · rw [List.mem_singleton] at hy
        subst hy
        obtain ⟨j, hj, hx⟩ := (ih2 x).1 hx
        obtain ⟨hj2, hx⟩ := List.getElem?_eq_some_iff.1 hx
        subst hx
        have h1 : zs[j] ≤ zs[m] := List.pairwise_iff_getElem.1 h j m hj2 (by omega) hj
        have hkk : m = 0 ∨ zs.toArray[m]! ≠ zs.toArray[m - 1]! := of_decide_eq_true hk
        rcases hkk with h0 | hne
        · omega
        · have eb : zs.toArray[m - 1]! = zs[m - 1] := by simp [getElem!_pos, show m - 1 < zs.length by omega]
          rw [ea, eb] at hne
          have h2 : zs[m - 1] ≤ zs[m] := List.pairwise_iff_getElem.1 h (m - 1) m (by omega) (by omega) (by omega)
          have h3 : zs[j] ≤ zs[m - 1] := by
            by_cases e : j = m - 1
            · subst e; exact Int.le_refl _
            · exact List.pairwise_iff_getElem.1 h j (m - 1) hj2 (by omega) (by omega)
          omega
      · rw [List.mem_append, ih2, List.mem_singleton]
        constructor
        · rintro (⟨j, hj, hx⟩ | rfl)
          · exact ⟨j, by omega, hx⟩
          · exact ⟨m, by omega, hmz⟩
        · rintro ⟨j, hj, hx⟩
          by_cases e : j = m
          · subst e
            rw [hmz] at hx
            injection hx with hx
            exact .inr hx.symm
          · exact .inl ⟨j, by omega, hx⟩
theorem compact_PJ (a b : List Int) : PJ a b (Lib.compact (sortI (a ++ b))) := by
  obtain ⟨h1, h2⟩ := compact_upto (sortI_le (a ++ b)) (sortI (a ++ b)).length (Nat.le_refl _)
  refine ⟨h1, fun x => (h2 x).trans ⟨fun ⟨j, _, hx⟩ => ?_, fun h => ?_⟩⟩
  · have := (sortI_perm (a ++ b)).mem_iff.1 (List.mem_of_getElem? hx)
    exact List.mem_append.1 this
  · obtain ⟨j, hj⟩ := List.mem_iff_getElem?.1 ((sortI_perm (a ++ b)).mem_iff.2 (List.mem_append.2 h))
    exact ⟨j, (List.getElem?_eq_some_iff.1 hj).1, hj⟩

end Go.Proofs.Ytaobkanliiiapaa

/- What the program's checks of lists answer: slices.Compare, isRising, allLong, goodLists, goodEmpty. -/

namespace Go.Proofs.Ytaobkanliiiapaa
open Go.RowKit

/-- Two numbers compared. -/
def cmpI (x y : Int) : Int := if x < y then -1 else if y < x then 1 else 0

theorem cmpI_lt {x y : Int} : cmpI x y < 0 ↔ x < y := by
  unfold cmpI
  split
  · simp_all
  · split <;> simp_all

set_option maxHeartbeats 400000 in
theorem isNaN_any (x : Int) (w : World) : Calls Try.prog 21 #[.int .i64 x] w fun e w' => e = .returned (.bool false) ∧ w' = w := by
  have hd : (x != x) = false := by simp
  go_enter Try.func21, Try.ntmps21
  go_wp2
  go_ret
  exact ⟨rfl, rfl⟩

set_option maxHeartbeats 400000 in
theorem compareI_any (x y : Int) (w : World) : Calls Try.prog 17 #[.int .i64 x, .int .i64 y] w fun e w' => e = .returned (.int .i64 (cmpI x y)) ∧ w' = w := by
  rcases Int.lt_trichotomy x y with h | h | h
  · have HE : Hid (cmpI x y = -1) := by show _ = _; unfold cmpI; rw [if_pos h]
    go_enter Try.func17, Try.ntmps17
    go_wp2_with (go_at_call 21; refine (isNaN_any _ _).mono ?_; rintro e w' ⟨rfl, rfl⟩)
    go_ret
    exact ⟨by rw [HE.out]; rfl, rfl⟩
  · have HE : Hid (cmpI x y = 0) := by show _ = _; unfold cmpI; rw [if_neg (by omega), if_neg (by omega)]
    have h1 : ¬ x < y := by omega
    have h2 : ¬ y < x := by omega
    clear h
    go_enter Try.func17, Try.ntmps17
    go_wp2_with (go_at_call 21; refine (isNaN_any _ _).mono ?_; rintro e w' ⟨rfl, rfl⟩)
    go_ret
    exact ⟨by rw [HE.out]; rfl, rfl⟩
  · have HE : Hid (cmpI x y = 1) := by show _ = _; unfold cmpI; rw [if_neg (by omega), if_pos h]
    have h1 : ¬ x < y := by omega
    go_enter Try.func17, Try.ntmps17
    go_wp2_with (go_at_call 21; refine (isNaN_any _ _).mono ?_; rintro e w' ⟨rfl, rfl⟩)
    go_ret
    exact ⟨by rw [HE.out]; rfl, rfl⟩

set_option maxRecDepth 100000 in
theorem cmpI_enter (xs : Array Value) (v : World) : Sem.run Try.prog (callFunc 17 xs) v = .ok (.enter 17 xs) v := rfl

set_option maxRecDepth 20000 in
set_option maxHeartbeats 400000 in
theorem isRisingI_any (A : Option Addr) (xs : List Int) (c : Nat) (w : World) (hx : Ints w w.heap.size A xs) (h1 : xs.length ≤ 1048576) :
    Calls Try.prog 16 #[.slice A xs.length c, .func (.func 17) #[] #[]] w fun e w' => e = .returned (.bool (bP (RiseI xs xs.length))) ∧ Below w.heap.size w w' := by
  have HX := Lib.hid hx; clear hx
  have HCF := cmpI_enter
  go_enter Try.func16, Try.ntmps16
  go_wp2
  go_loopw [5] (fun i wr => ∃ (j : Nat), i = .int .i64 ((j + 1 : Nat) : Int) ∧ j ≤ xs.length ∧ Below w.heap.size w wr ∧ Hid (RiseI xs (j + 1))) (fun i _ => xs.length + 1 - (intOf i).toNat)
  case atStart => exact ⟨0, rfl, by omega, Below.refl _ _, RiseI.none _⟩
  case round =>
    obtain ⟨k, rfl, hk, hB, H⟩ := hrel
    by_cases hlt' : k + 1 < xs.length
    · have hlt : k < xs.length := by omega
      obtain ⟨b, o, rfl, hb, c1⟩ := (HX.out.keep hB).at_ hlt
      obtain ⟨b', o', e', hb', d1⟩ := (HX.out.keep hB).at_ hlt'
      injection e' with e'
      injection e' with e1 e2
      subst e1 e2
      by_cases hq : cmpI xs[k] xs[k + 1] < 0
      all_goals
        have HQ := Lib.hid hq
        have hwk : IntKind.i64.wrap (k : Int) = (k : Int) := by rw [IntKind.wrap_i64]; omega
        have hI1 : (k : Int) + 1 < (xs.length : Int) := by omega
        have hI0 : (0 : Int) ≤ (k : Int) + 1 := by omega
        have hT : ((k : Int) + 1).toNat = k + 1 := by omega
        go_wp2
        go_still_tail 10, (by kernel_rfl)
        change wpList _ _ _ _ _ wr.drew
        go_wp2_with fail
        refine (compareI_any _ _ _).mono ?_
        rintro e w1 ⟨rfl, rfl⟩
        have hB2 : Below w.heap.size w wr.drew := hB.trans (Below.trans (by go_grown) (Below.refl _ _))
      · have HN : Hid (RiseI xs (k + 1 + 1)) := H.out.step (List.getElem?_eq_getElem hlt) (List.getElem?_eq_getElem hlt') (cmpI_lt.1 HQ.out)
        go_wp2
        go_roundw
        case rel => exact ⟨k + 1, by go_num, by omega, hB2, HN.out⟩
        case measure => simp [intOf]; omega
      · have HE : Hid (bP (RiseI xs xs.length) = false) := bP_f fun h => by have h1 := cmpI_lt.2 (h k _ _ hlt' (List.getElem?_eq_getElem hlt) (List.getElem?_eq_getElem hlt')); have h2 := HQ.out; omega
        go_wp2
        go_ret
        exact ⟨ret_b HE.out.symm, hB2⟩
    · have HE : Hid (bP (RiseI xs xs.length) = true) := bP_t (H.out.mono (by omega))
      go_wp2
      go_ret
      exact ⟨ret_b HE.out.symm, hB⟩

end Go.Proofs.Ytaobkanliiiapaa

/- slices.Grow of nothing, and slices.Concat, at lists of numbers. -/

namespace Go.Proofs.Ytaobkanliiiapaa
open Go.RowKit

set_option maxRecDepth 20000 in
set_option maxHeartbeats 1000000 in
theorem growNil_any (n : Nat) (hn : n ≤ 1048576) (w : World) :
    Calls Try.prog 18 #[.slice none 0 0, .int .i64 (n : Int)] w fun e w' => ∃ v, e = .returned v ∧ w'.ownsRow w.heap.size 3 1 v 0 [] ∧ Below w.heap.size w w' := by
  obtain ⟨i0, hi0, hz0, hz1, hz2⟩ := info_of Try.infoInt
  by_cases h0 : n = 0
  · subst h0
    go_enter Try.func18, Try.ntmps18
    go_wp2
    go_ret
    exact ⟨_, rfl, ⟨rfl, .inl ⟨rfl, rfl⟩⟩, Below.refl _ _⟩
  · have hrz : ∀ ty, (Builtin.append_ #[22, 3] ty #[.slice none 0 0, .int .i64 (n : Int)]).run Try.prog w =
        .ok (.slice (some ⟨w.heap.size, 0, none⟩) n (grownCap w n 0 3)) (w.drew.alloc (.cells (([] : List Value).toArray ++ Builtin.zeroCells (Value.int .i64 0).cells n ++ Builtin.zeroCells (Value.int .i64 0).cells (grownCap w n 0 3 - n)) 3)) := fun ty => by
      have h := Lib.run_append_grow_zeros (P := Try.prog) w 22 3 ty 3 i0 (.int .i64 0) .i64 .i64 Try.underlying22 Try.underlying3 hi0 hz0 none 0 0 [] (run_firstCells_none w.drew i0.size 0 0 0) n (by omega) (by rw [hz1]; omega) (by omega) (by omega) (by rw [hz2]; omega) (growslice_fits (by omega) (by rw [hz2]; omega))
      rw [Nat.zero_add] at h
      exact h
    have hge : n ≤ grownCap w n 0 3 := grownCap_ge w _ _ _
    have hle := grownCap_le_maxLen w n 0 3 (by unfold maxLen; omega)
    unfold maxLen at hle
    have HO : Hid (∀ G, n ≤ G → G ≤ maxLen → (w.drew.alloc (.cells (([] : List Value).toArray ++ Builtin.zeroCells (Value.int .i64 0).cells n ++ Builtin.zeroCells (Value.int .i64 0).cells (G - n)) 3)).ownsRow w.heap.size 3 1 (.slice (some ⟨w.heap.size, 0, none⟩) 0 G) 0 []) := fun G h1 h2 =>
      ⟨rfl, .inr ⟨w.heap.size, G, _, rfl, Nat.le_refl _, heap_alloc_new w.drew _, by omega, h2, by simp [Builtin.zeroCells, Value.cells]; omega, by simp⟩⟩
    have HB : Hid (∀ G, Below w.heap.size w (w.drew.alloc (.cells (([] : List Value).toArray ++ Builtin.zeroCells (Value.int .i64 0).cells n ++ Builtin.zeroCells (Value.int .i64 0).cells (G - n)) 3))) := fun G => by go_grown
    generalize grownCap w n 0 3 = G at *
    have HOG := Lib.hid (HO.out G hge (by unfold maxLen; exact hle))
    have HBG := Lib.hid (HB.out G)
    clear HO HB
    generalize w.drew.alloc (.cells (([] : List Value).toArray ++ Builtin.zeroCells (Value.int .i64 0).cells n ++ Builtin.zeroCells (Value.int .i64 0).cells (G - n)) 3) = w2 at *
    go_enter Try.func18, Try.ntmps18
    go_wp2_with (at_builtin; refine Lib.wpList_append_run _ rfl _ _ _ _ rfl _ _ rfl rfl _ _ (hrz _) ?_)
    all_goals
      go_ret
      exact ⟨_, rfl, HOG.out, HBG.out⟩

/-- A list as a slice in memory: where it lies, what it reads as, its capacity. -/
structure Pt where
  a : Option Addr
  r : List Int
  c : Nat
/-- The cells of block B are the slices ps. -/
def PtsAt (w : World) (B : Nat) (ps : List Pt) : Prop := B < w.heap.size ∧ ∀ (k : Nat) (p : Pt), ps[k]? = some p → w.cell? ⟨B, k, none⟩ = some (.slice p.a p.r.length p.c) ∧ Ints w w.heap.size p.a p.r
theorem PtsAt.keep {w w' : World} {B : Nat} {ps : List Pt} (h : PtsAt w B ps) (hb : Below w.heap.size w w') : PtsAt w' B ps :=
  ⟨Nat.lt_of_lt_of_le h.1 hb.size, fun k p hk => ⟨(hb.cell (p := ⟨B, k, none⟩) h.1).trans (h.2 k p hk).1, ((h.2 k p hk).2.keep hb).more hb.size⟩⟩
def catL (ps : List Pt) : List Int := ps.flatMap Pt.r
theorem catL_take {ps : List Pt} {k : Nat} (h : k < ps.length) : catL (ps.take (k + 1)) = catL (ps.take k) ++ ps[k].r := by
  unfold catL
  rw [List.take_add_one, List.getElem?_eq_getElem h, List.flatMap_append]
  simp
theorem catL_le {ps : List Pt} (k : Nat) : (catL (ps.take k)).length ≤ (catL ps).length := by
  have h : catL ps = catL (ps.take k) ++ catL (ps.drop k) := by unfold catL; rw [← List.flatMap_append, List.take_append_drop]
  rw [h, List.length_append]
  omega

set_option maxRecDepth 20000 in
set_option maxHeartbeats 1000000 in
theorem concat_any (B : Nat) (ps : List Pt) (c : Nat) (w : World) (hP : PtsAt w B ps) (hn : (catL ps).length ≤ 1048576) (hl : ps.length ≤ 1048576) :
    Calls Try.prog 13 #[.slice (some ⟨B, 0, none⟩) ps.length c] w fun e w' => ∃ v, e = .returned v ∧ w'.ownsRow w.heap.size 3 1 v (catL ps).length (vals (catL ps)) ∧ Below w.heap.size w w' := by
  obtain ⟨i0, hi0, hz0, hz1, hz2⟩ := info_of Try.infoInt
  have HP := Lib.hid hP; clear hP
  go_enter Try.func13, Try.ntmps13
  go_wp2
  go_loopw [3, 11] (fun z i wr => ∃ (k m : Nat), k ≤ ps.length ∧ i = .int .i64 k ∧ z = .int .i64 m ∧ Hid (m = (catL (ps.take k)).length) ∧ wr = w) (fun _ i _ => ps.length - (intOf i).toNat)
  case atStart => exact ⟨0, 0, by omega, rfl, rfl, rfl, rfl⟩
  case round =>
    obtain ⟨k, m, hk, rfl, rfl, HM, hwr⟩ := hrel
    subst hwr
    by_cases hlt : k < ps.length
    · obtain ⟨c1, _⟩ := HP.out.2 k ps[k] (List.getElem?_eq_getElem hlt)
      have HN : Hid (m + ps[k].r.length = (catL (ps.take (k + 1))).length) := by show _ = _; rw [catL_take hlt, List.length_append, HM.out]
      have hm : m + ps[k].r.length ≤ 1048576 := by have := HN.out; have := catL_le (ps := ps) (k + 1); omega
      go_wp2
      go_roundw
      case rel => exact ⟨k + 1, m + ps[k].r.length, by omega, by go_num, by go_num, HN.out, trivial⟩
      case measure => simp [intOf]; omega
    · obtain rfl : k = ps.length := by omega
      have hm : m = (catL ps).length := by have := HM.out; rw [List.take_length] at this; exact this
      have hml : m ≤ 1048576 := by omega
      have HMM := Lib.hid hm; clear hm HM
      obtain ⟨wO, hwO⟩ : ∃ x, x = wr := ⟨_, rfl⟩
      subst hwO
      go_wp2_with fail
      refine (growNil_any m hml _).mono ?_
      rintro e w1 ⟨v1, rfl, hO1, hB1⟩
      have HO1 : Hid (w1.ownsRow wO.heap.size 3 1 v1 (catL (ps.take 0)).length (vals (catL (ps.take 0)))) := hO1
      have HB1 := Lib.hid hB1
      clear hO1 hB1
      go_wp2
      go_loopw [6, 27] (fun v i wr => ∃ (k : Nat), k ≤ ps.length ∧ i = .int .i64 k ∧ Hid (wr.ownsRow wO.heap.size 3 1 v (catL (ps.take k)).length (vals (catL (ps.take k)))) ∧ Hid (Below wO.heap.size wO wr)) (fun _ i _ => ps.length - (intOf i).toNat)
      case atStart => exact ⟨0, by omega, rfl, HO1.out, HB1.out⟩
      case round =>
        obtain ⟨k, hk, rfl, HO, HB⟩ := hrel
        clear HO1 HB1
        by_cases hlt : k < ps.length
        · have hPk := HP.out.keep HB.out
          obtain ⟨c1, c2⟩ := hPk.2 k ps[k] (List.getElem?_eq_getElem hlt)
          have HC := Lib.hid (catL_take hlt)
          have hlk : (catL (ps.take k)).length + ps[k].r.length ≤ 1048576 := by have h1 := catL_le (ps := ps) (k + 1); rw [HC.out, List.length_append] at h1; omega
          clear hPk
          generalize ps[k] = p at c1 c2 HC hlk
          obtain ⟨pa, pr, pc⟩ := p
          dsimp only at c1 c2 HC hlk
          have HC2 := Lib.hid c2; clear c2
          rcases pa with _ | ad
          · have hx : pr = [] := by
              rcases pr with _ | ⟨x, xs⟩
              · rfl
              · obtain ⟨_, _, e, _⟩ := HC2.out (by simp)
                cases e
            subst hx
            have HON : Hid (wr.ownsRow wO.heap.size 3 1 u6 (catL (ps.take (k + 1))).length (vals (catL (ps.take (k + 1))))) := by have h := HO.out; show World.ownsRow _ _ _ _ _ _ _; rw [HC.out, List.append_nil]; exact h
            go_wp2_with (at_builtin
                         refine append_nil_at rfl (.tmp 31) (.tmp 32) _ rfl wO.heap.size 3 i0 1 Try.underlying22 hi0 _ _ _ rfl HO.out pc rfl ?_)
            go_roundw
            case rel => exact ⟨k + 1, by omega, by go_num, HON.out, HB.out⟩
            case measure => simp [intOf]; omega
          · have HN : Hid (∀ (j : Nat) (v : Value), (vals pr)[j]? = some v → wr.cell? (ad.add j) = some v) := fun j v hv => by
              have hp : 0 < pr.length := by have := (List.getElem?_eq_some_iff.1 hv).1; rw [vals_length] at this; omega
              obtain ⟨ad', e, h⟩ := HC2.out.src hp
              injection e with e
              subst e
              exact h j v hv
            have hws : wO.heap.size ≤ wr.heap.size := HB.out.size
            have hvl : (vals (catL (ps.take k))).length = (catL (ps.take k)).length := vals_length _
            go_wp2_with (at_builtin
                         refine wpList_append_own _ rfl (.tmp 31) (.tmp 32) _ rfl wO.heap.size 3 i0 _ 1 8 Try.underlying22 hi0 hz0 hz1 hz2 rfl (by omega) _ _ _ rfl HO.out ad pr.length pc (vals pr) rfl (by rw [vals_length]; omega) HN.out (vals_one pr) (by unfold maxLen; omega) (by omega) (by omega) ?_
                         intro v' w' h1 h2 h3
                         have HO1 := Lib.hid h1
                         have HB2 : Hid (Below wO.heap.size wO w') := HB.out.grown h2 HB.out.size fun j hj => (HO.out.lt j hj).1
                         clear h1 h2 h3)
            go_roundw
            case rel =>
              refine ⟨k + 1, by omega, by go_num, ?_, HB2.out⟩
              show World.ownsRow _ _ _ _ _ _ _
              rw [HC.out, List.length_append]
              have h := HO1.out
              unfold vals at h ⊢
              rw [List.map_append]
              exact h
            case measure => simp [intOf]; omega
        · obtain rfl : k = ps.length := by omega
          have HOE : Hid (wr.ownsRow wO.heap.size 3 1 u6 (catL ps).length (vals (catL ps))) := by have h := HO.out; rw [List.take_length] at h; exact h
          go_wp2
          go_ret
          exact ⟨_, rfl, HOE.out, HB.out⟩

theorem own_slice {w : World} {lo : Nat} {v : Value} {ys : List Int} (h : w.ownsRow lo 3 1 v ys.length (vals ys)) : ∃ A c, v = .slice A ys.length c ∧ OwnI w lo A ys ∧ ys.length ≤ c := by
  obtain ⟨A, c, e, hO⟩ := ownI_of_row (ys := ys) h
  refine ⟨A, c, e, hO, ?_⟩
  obtain ⟨_, ⟨e2, h0⟩ | ⟨g, cap, cur, e2, _, _, hc, _⟩⟩ := h
  · omega
  · rw [e] at e2
    injection e2 with _ _ e3
    omega

end Go.Proofs.Ytaobkanliiiapaa

/- The program's JoinRows. -/

namespace Go.Proofs.Ytaobkanliiiapaa
open Go.RowKit
open Go.Sort

theorem isShortRising_any (A : Option Addr) (xs : List Int) (c : Nat) (w : World) (hx : Ints w w.heap.size A xs) (h1 : xs.length ≤ 1048576) :
    Calls Try.prog 12 #[.slice A xs.length c] w fun e w' => e = .returned (.bool (okR xs)) ∧ Below w.heap.size w w' := by
  have HC := Lib.hid (isRisingI_any A xs c w hx h1)
  by_cases hl : xs.length ≤ 40
  · have HE : Hid (okR xs = bP (RiseI xs xs.length)) := by show _ = _; unfold okR; rw [decide_eq_true hl]; rfl
    have hl2 : (xs.length : Int) ≤ 40 := by omega
    go_enter Try.func12, Try.ntmps12
    go_wp2_with (go_at_call 16; refine HC.out.mono ?_; rintro e w1 ⟨rfl, hB⟩; have HB := Lib.hid hB; clear hB)
    go_ret
    exact ⟨by rw [HE.out]; rfl, HB.out⟩
  · have HE : Hid (okR xs = false) := by show _ = _; unfold okR; rw [decide_eq_false hl]; rfl
    have hl2 : ¬ (xs.length : Int) ≤ 40 := by omega
    go_enter Try.func12, Try.ntmps12
    go_wp2
    go_ret
    exact ⟨by rw [HE.out]; rfl, Below.refl _ _⟩

/-- slices.Compact of a slice that is the call's own. -/
theorem compact_any (lo : Nat) (v : Value) (zs : List Int) (w : World) (hv : OwnV w lo v zs) (hl : zs.length ≤ 1048576) (hlo : lo ≤ w.heap.size) :
    Calls Try.prog 15 #[v] w fun e w' => (∃ A c, e = .returned (.slice A (Lib.compact zs).length c) ∧ OwnI w' lo A (Lib.compact zs)) ∧ Below lo w w' := by
  rcases hv.2 with ⟨rfl, h0⟩ | ⟨g, cap, cur, rfl, hlog, hg, hcap, hmax, hsz, hx⟩
  · have e : zs = [] := List.eq_nil_of_length_eq_zero h0
    subst e
    refine (Try.slices_Compact_int_empty none 0 w).mono fun e w' ⟨h1, h2⟩ => ⟨⟨none, 0, h1, .inl rfl⟩, h2 ▸ Below.refl _ _⟩
  · have hH : Holds (Value.int .i64) w g 0 zs.toArray := holdsI hg (by rw [← Nat.mul_one zs.length]; exact hx)
    have hC := Try.slices_Compact_int g 0 cap zs w hH (by omega) hcap
    have hcl := Lib.compact_length_le zs
    refine hC.mono fun e w' ⟨he, q, hw⟩ => ?_
    generalize hd : Lib.compact zs ++ List.replicate (zs.length - (Lib.compact zs).length) 0 = ds at hw
    have hdl : ds.length = zs.length := by rw [← hd]; simp; omega
    have hw2 : w' = grow (putRow (Value.int .i64) (Sort.ahead w q) g 0 ds.toArray) #[] := by rw [hw, grow_empty]
    have hR : w'.heap[g]? = some (.cells (putCells (Value.int .i64) 0 ds.toArray cur) 3 (0, 0)) := by rw [hw2]; exact heap_sortedI _ hg
    have hS : Save (· = g) w w' := by rw [hw2]; exact save_sortedI _
    refine ⟨⟨some ⟨g, 0, none⟩, cap, he, .inr ⟨g, _, rfl, hlog, hR, fun k x hk => ?_⟩⟩, hS.below hlo fun i hi e => by omega⟩
    have hkl := (List.getElem?_eq_some_iff.1 hk).1
    have ht := take_putI cur ds (by rw [hdl]; have h := congrArg List.length hx; rw [List.length_take, vals_length] at h; simp at h; omega)
    have h1 : ((putCells (Value.int .i64) 0 ds.toArray cur).toList.take ds.length)[k]? = some (.int .i64 x) := by
      rw [ht, List.getElem?_map, ← hd, List.getElem?_append_left hkl, hk]; rfl
    rw [List.getElem?_take, if_pos (by omega)] at h1
    simpa using h1

set_option maxRecDepth 20000 in
set_option maxHeartbeats 1000000 in
theorem implJoinRows_any (A A' : Option Addr) (a b : List Int) (c c' : Nat) (w : World) (hx : Ints w w.heap.size A a) (hy : Ints w w.heap.size A' b) (h1 : a.length ≤ 1048576) (h2 : b.length ≤ 1048576) :
    Calls Try.prog 6 #[.slice A a.length c, .slice A' b.length c'] w (GaveIB w (jrV a b) (okJR a b)) := by
  have HX := Lib.hid hx; clear hx
  have HY := Lib.hid hy; clear hy
  go_enter Try.func6, Try.ntmps6
  go_wp2_with fail
  refine (isShortRising_any A a c w HX.out h1).mono ?_
  rintro e w1 ⟨rfl, hB1⟩
  have HB1 := Lib.hid hB1; clear hB1
  cases ha : okR a
  · have HV : Hid (okJR a b = false) := by show _ = _; unfold okJR; rw [ha]; rfl
    have HV2 : Hid (jrV a b = []) := by show _ = _; unfold jrV; rw [HV.out]; rfl
    clear ha
    go_wp2
    go_ret2
    exact ⟨none, 0, by rw [HV.out, HV2.out]; rfl, by rw [HV2.out]; exact .inl rfl, HB1.out⟩
  go_wp2_with fail
  refine (isShortRising_any A' b c' w1 ((HY.out.keep HB1.out).more HB1.out.size) h2).mono ?_
  rintro e w2 ⟨rfl, hB2⟩
  have HB2 := Lib.hid (HB1.out.trans (hB2.mono HB1.out.size)); clear hB2 HB1
  cases hb : okR b
  · have HV : Hid (okJR a b = false) := by show _ = _; unfold okJR; rw [ha, hb]; rfl
    have HV2 : Hid (jrV a b = []) := by show _ = _; unfold jrV; rw [HV.out]; rfl
    clear ha hb
    go_wp2
    go_ret2
    exact ⟨none, 0, by rw [HV.out, HV2.out]; rfl, by rw [HV2.out]; exact .inl rfl, HB2.out⟩
  have HV : Hid (okJR a b = true) := by show _ = _; unfold okJR; rw [ha, hb]; rfl
  have hla : a.length ≤ 40 := of_decide_eq_true (Bool.and_eq_true_iff.1 ha).1
  have hlb : b.length ≤ 40 := of_decide_eq_true (Bool.and_eq_true_iff.1 hb).1
  have hs2 := HB2.out.size
  have HBA : Hid (Below w2.heap.size w2 (w2.alloc (.cells #[.slice A a.length c, .slice A' b.length c'] 22))) := (Below.refl _ _).alloc (Nat.le_refl _) _
  have HPT : Hid (PtsAt (w2.alloc (.cells #[.slice A a.length c, .slice A' b.length c'] 22)) w2.heap.size [⟨A, a, c⟩, ⟨A', b, c'⟩]) := by
    refine ⟨by simp, fun k p hk => ?_⟩
    rcases k with _ | _ | k
    · simp at hk; subst hk
      exact ⟨by simp [go_sem], (((HX.out.keep HB2.out).more hs2).keep HBA.out).more HBA.out.size⟩
    · simp at hk; subst hk
      exact ⟨by simp [go_sem], (((HY.out.keep HB2.out).more hs2).keep HBA.out).more HBA.out.size⟩
    · simp at hk
  have HCAT := Lib.hid (concat_any w2.heap.size [⟨A, a, c⟩, ⟨A', b, c'⟩] 2 _ HPT.out (by simp [catL]; omega) (by simp))
  clear ha hb
  go_wp2_with fail
  refine HCAT.out.mono ?_
  rintro e w3 ⟨v3, rfl, hO3, hB3⟩
  have hcl : catL [⟨A, a, c⟩, ⟨A', b, c'⟩] = a ++ b := by simp [catL]
  rw [hcl] at hO3
  have HO3 : Hid (OwnV w3 w2.heap.size v3 (a ++ b)) := OwnV.lower hO3 (by simp)
  have HB3 := Lib.hid (HB2.out.trans ((HBA.out.trans (hB3.mono HBA.out.size)).mono hs2))
  have hs3 : w2.heap.size ≤ w3.heap.size := by have := hB3.size; simp at this; omega
  clear hO3 hB3 hcl HCAT HPT HBA
  go_wp2_with fail
  refine (sortI_any w2.heap.size v3 (a ++ b) w3 HO3.out (by simp; omega)).mono ?_
  rintro e w4 ⟨rfl, hS4⟩
  have HO4 := Lib.hid hS4.1
  have HB4 : Hid (Below w2.heap.size w3 w4) := hS4.2.below hs3 fun i hi e => by have := (HO3.out.lt i e).1; omega
  clear hS4
  go_wp2_with fail
  refine (compact_any w2.heap.size v3 (sortI (a ++ b)) w4 HO4.out (by rw [sortI_len]; simp; omega) (Nat.le_trans hs3 HB4.out.size)).mono ?_
  rintro e w5 ⟨⟨A5, c5, rfl, hO5⟩, hB5⟩
  have HO5 := Lib.hid hO5
  have HB5 := Lib.hid (HB3.out.trans ((HB4.out.trans hB5).mono hs2))
  have HJ := Lib.hid (PJ.eq HV.out (compact_PJ a b))
  clear hO5 hB5
  go_wp2
  go_ret2
  exact ⟨A5, c5, by rw [HV.out, ← HJ.out]; rfl, by rw [← HJ.out]; exact HO5.out.lower hs2, HB5.out⟩

end Go.Proofs.Ytaobkanliiiapaa

/- The reference's l1Has and l1Put at lists of up to a thousand numbers. -/

namespace Go.Proofs.Ytaobkanliiiapaa
open Go.RowKit

set_option maxRecDepth 20000 in
set_option maxHeartbeats 1000000 in
theorem l1PutW_any (lo : Nat) (v : Value) (xs : List Int) (n : Int) (w : World) (hv : OwnV w lo v xs) (hr : Rises xs) (hn : n ∉ xs) (h1 : xs.length ≤ 1000) :
    Calls Try.prog 11 #[v, .int .i64 n] w (PutOne w xs n) := by
  obtain ⟨i0, hi0, hz0, hz1, hz2⟩ := info_of Try.infoInt
  rcases hv.2 with ⟨rfl, h0⟩ | ⟨g, c, cur, rfl, hlo, hb, hc, hm, h3, h4⟩
  · have e : xs = [] := List.eq_nil_of_length_eq_zero h0
    subst e
    clear hv hr hn h0 h1
    have HE0 := Lib.hid (own_empty w)
    have HB0 : Hid (Below w.heap.size w (w.alloc (.cells #[] 3))) := (Below.refl w.heap.size w).alloc (Nat.le_refl _) _
    go_enter Try.func11, Try.ntmps11
    go_wp2
    refine wp_loop_rounds 1 ?_
    rw [rounds_succ]
    have HA1 := Lib.hid (HE0.out.alloc (.cells #[.int .i64 n] 3))
    have hnew := cell_one_new (w.alloc (.cells #[] 3)) (.int .i64 n) 3
    rw [World.size_alloc] at hnew
    have HN2 := Lib.hid hnew; clear hnew
    go_wp2_with (first
      | (at_builtin
         refine append_nil_at rfl (.tmp 34) (.tmp 37) _ rfl w.heap.size 3 i0 1 Try.underlying22 hi0 _ _ _ rfl HE0.out 0 rfl ?_)
      | (at_builtin
         refine wpList_append_own _ rfl (.tmp 39) (.tmp 41) _ rfl w.heap.size 3 i0 _ 1 8 Try.underlying22 hi0 hz0 hz1 hz2 rfl (by omega) _ _ _ rfl HA1.out ⟨w.heap.size + 1, 0, none⟩ 1 1 [.int .i64 n] rfl rfl HN2.out (by intro u hu; simp at hu; subst hu; rfl) (by unfold maxLen; omega) (by omega) (by simp; omega) ?_
         intro v2 w2 h1 h2 h3
         have HB2 : Hid (Below w.heap.size w w2) := (HB0.out.alloc HB0.out.size _).grown h2 (by simp; omega) fun j hj => (HE0.out.lt j hj).1
         have HO2 := Lib.hid h1
         clear h1 h2 h3)
      | (at_builtin
         refine append_nil_at rfl (.tmp 43) (.tmp 46) _ rfl w.heap.size 3 i0 1 Try.underlying22 hi0 _ _ _ rfl HO2.out 0 rfl ?_))
    go_ret
    refine ⟨v2, [n], rfl, by simp [Rises], fun x => by simp, rfl, HO2.out, HB2.out⟩
  obtain ⟨A, c', e', hc', hx⟩ := hv.shape
  injection e' with e1 _ e3
  subst e1 e3
  obtain ⟨p, o, hpo⟩ : ∃ p o, (⟨g, 0, none⟩ : Addr) = ⟨p, o, none⟩ := ⟨_, _, rfl⟩
  rw [hpo] at hx ⊢
  clear hv hlo hb h3 h4 hc' hpo
  unfold maxLen at hm
  have HX := Lib.hid hx; clear hx
  have HR := Lib.hid hr; clear hr
  have HN := Lib.hid hn; clear hn
  go_enter Try.func11, Try.ntmps11
  go_wp2
  go_loopw [5] (fun i wr => ∃ (k : Nat), k ≤ xs.length ∧ i = .int .i64 k ∧ wr = w ∧ Hid (∀ (j : Nat) (x : Int), j < k → xs[j]? = some x → x < n)) (fun i _ => xs.length - (intOf i).toNat)
  case atStart => exact ⟨0, by omega, rfl, rfl, fun j x h => absurd h (by omega)⟩
  case round =>
    obtain ⟨k, hk, rfl, rfl, H⟩ := hrel
    by_cases hlt : k < xs.length
    · have c1 : wr.cell? ⟨p, o + k, none⟩ = some (.int .i64 xs[k]) := by
        obtain ⟨p', o', e, _, h⟩ := HX.out.at_ hlt
        injection e with e
        injection e with e1 e2
        subst e1 e2
        exact h
      by_cases hl : xs[k] < n
      · have HE := Lib.hid (upto_step (Q := fun x => x < n) hlt hl H.out)
        go_wp2
        go_roundw
        case rel => exact ⟨k + 1, by omega, by go_num, by simp, HE.out⟩
        case measure => simp [intOf]; omega
      · have hne : xs[k] ≠ n := fun e => HN.out (e ▸ List.getElem_mem hlt)
        have hq := beq_f hne
        have HP := Lib.hid (rises_put (k := k) HR.out H.out fun x hx => by
          rw [List.getElem?_eq_getElem hlt] at hx
          injection hx with hx
          omega)
        clear hne
        have HN1 : Hid (∀ (j : Nat) (u : Value), (vals (xs.take k))[j]? = some u → (wr.alloc (.cells #[] 3)).cell? ((⟨p, o, none⟩ : Addr).add j) = some u) := (((HX.out.take k).keep ((Below.refl wr.heap.size wr).alloc (Nat.le_refl _) _))).src2
        have HE0 := Lib.hid (own_empty wr)
        have HD := Lib.hid (HX.out.drop k)
        have hkl : (xs.take k).length = k := by rw [List.length_take]; omega
        have hdl : (xs.drop k).length = xs.length - k := List.length_drop
        have HKL := Lib.hid hkl; clear hkl
        have HDL := Lib.hid hdl; clear hdl
        go_wp2_with (first
          | (at_builtin
             refine wpList_append_own _ rfl (.tmp 34) (.tmp 37) _ rfl wr.heap.size 3 i0 _ 1 8 Try.underlying22 hi0 hz0 hz1 hz2 rfl (by omega) _ _ _ rfl HE0.out ⟨p, o, none⟩ k c (vals (xs.take k)) rfl (by rw [vals_length, HKL.out]; omega) HN1.out (vals_one _) (by unfold maxLen; omega) (by omega) (by simp) ?_
             intro v1 w1 h1 h2 h3
             have HO1 := Lib.hid h1
             have HB1 : Hid (Below wr.heap.size wr w1) := (((Below.refl wr.heap.size wr).alloc (Nat.le_refl _) _)).grown h2 (by simp) fun j hj => (HE0.out.lt j hj).1
             have hs1 : wr.heap.size ≤ w1.heap.size := HB1.out.size
             have HA1 := Lib.hid (h1.alloc (.cells #[.int .i64 n] 3))
             have HN2 := Lib.hid (cell_one_new w1 (.int .i64 n) 3)
             clear h1 h2 h3)
          | (at_builtin
             refine wpList_append_own _ rfl (.tmp 39) (.tmp 41) _ rfl wr.heap.size 3 i0 _ 1 8 Try.underlying22 hi0 hz0 hz1 hz2 rfl (by omega) _ _ _ rfl HA1.out ⟨w1.heap.size, 0, none⟩ 1 1 [.int .i64 n] rfl rfl HN2.out (by intro u hu; simp at hu; subst hu; rfl) (by unfold maxLen; omega) (by omega) (by simp; omega) ?_
             intro v2 w2 h1 h2 h3
             have HB2 : Hid (Below wr.heap.size wr w2) := (HB1.out.alloc HB1.out.size _).grown h2 (by simp; omega) fun j hj => (HO1.out.lt j hj).1
             have HO2 := Lib.hid h1
             have hs2 : wr.heap.size ≤ w2.heap.size := HB2.out.size
             have HN3 : Hid (∀ (j : Nat) (u : Value), (vals (xs.drop k))[j]? = some u → w2.cell? ((⟨p, o + k, none⟩ : Addr).add j) = some u) := (HD.out.keep HB2.out).src2
             clear h1 h2 h3)
          | (at_builtin
             refine wpList_append_own _ rfl (.tmp 43) (.tmp 46) _ rfl wr.heap.size 3 i0 _ 1 8 Try.underlying22 hi0 hz0 hz1 hz2 rfl (by omega) _ _ _ rfl HO2.out ⟨p, o + k, none⟩ (xs.length - k) (c - k) (vals (xs.drop k)) rfl (by rw [vals_length, HDL.out]; omega) HN3.out (vals_one _) (by unfold maxLen; omega) (by omega) hs2 ?_
             intro v3 w3 h1 h2 h3
             have HB3 : Hid (Below wr.heap.size wr w3) := HB2.out.grown h2 (by omega) fun j hj => (HO2.out.lt j hj).1
             have HO3 := Lib.hid h1
             clear h1 h2 h3))
        go_ret
        refine ⟨v3, xs.take k ++ [n] ++ xs.drop k, rfl, HP.out.1, HP.out.2, by simp; omega, ?_, HB3.out⟩
        show World.ownsRow _ _ _ _ _ _ _
        have e1 : (xs.take k ++ [n] ++ xs.drop k).length = 0 + k + 1 + (xs.length - k) := by simp; omega
        have e2 : vals (xs.take k ++ [n] ++ xs.drop k) = [] ++ vals (xs.take k) ++ [.int .i64 n] ++ vals (xs.drop k) := by simp [vals]
        rw [e1, e2]
        exact HO3.out
    · obtain rfl : k = xs.length := by omega
      have HP := Lib.hid (rises_put (k := xs.length) HR.out H.out fun x hx => by simp at hx)
      have HN1 : Hid (∀ (j : Nat) (u : Value), (vals xs)[j]? = some u → (wr.alloc (.cells #[] 3)).cell? ((⟨p, o, none⟩ : Addr).add j) = some u) := ((HX.out.keep ((Below.refl wr.heap.size wr).alloc (Nat.le_refl _) _))).src2
      have HE0 := Lib.hid (own_empty wr)
      by_cases hcx : c = xs.length
      · subst hcx
        go_wp2_with (first
          | (at_builtin
             refine wpList_append_own _ rfl (.tmp 34) (.tmp 37) _ rfl wr.heap.size 3 i0 _ 1 8 Try.underlying22 hi0 hz0 hz1 hz2 rfl (by omega) _ _ _ rfl HE0.out ⟨p, o, none⟩ xs.length xs.length (vals xs) rfl (by rw [vals_length]; omega) HN1.out (vals_one _) (by unfold maxLen; omega) (by omega) (by simp) ?_
             intro v1 w1 h1 h2 h3
             have HO1 := Lib.hid h1
             have HB1 : Hid (Below wr.heap.size wr w1) := (((Below.refl wr.heap.size wr).alloc (Nat.le_refl _) _)).grown h2 (by simp) fun j hj => (HE0.out.lt j hj).1
             have hs1 : wr.heap.size ≤ w1.heap.size := HB1.out.size
             have HA1 := Lib.hid (h1.alloc (.cells #[.int .i64 n] 3))
             have HN2 := Lib.hid (cell_one_new w1 (.int .i64 n) 3)
             clear h1 h2 h3)
          | (at_builtin
             refine wpList_append_own _ rfl (.tmp 39) (.tmp 41) _ rfl wr.heap.size 3 i0 _ 1 8 Try.underlying22 hi0 hz0 hz1 hz2 rfl (by omega) _ _ _ rfl HA1.out ⟨w1.heap.size, 0, none⟩ 1 1 [.int .i64 n] rfl rfl HN2.out (by intro u hu; simp at hu; subst hu; rfl) (by unfold maxLen; omega) (by omega) (by simp; omega) ?_
             intro v2 w2 h1 h2 h3
             have HB2 : Hid (Below wr.heap.size wr w2) := (HB1.out.alloc HB1.out.size _).grown h2 (by simp; omega) fun j hj => (HO1.out.lt j hj).1
             have HO2 := Lib.hid h1
             have hs2 : wr.heap.size ≤ w2.heap.size := HB2.out.size
             clear h1 h2 h3)
          | (at_builtin
             refine wpList_append_own _ rfl (.tmp 43) (.tmp 46) _ rfl wr.heap.size 3 i0 _ 1 8 Try.underlying22 hi0 hz0 hz1 hz2 rfl (by omega) _ _ _ rfl HO2.out ⟨p, o, none⟩ 0 0 [] rfl rfl (fun j u h => by simp at h) (by simp) (by unfold maxLen; omega) (by omega) hs2 ?_
             intro v3 w3 h1 h2 h3
             have HB3 : Hid (Below wr.heap.size wr w3) := HB2.out.grown h2 (by omega) fun j hj => (HO2.out.lt j hj).1
             have HO3 := Lib.hid h1
             clear h1 h2 h3))
        go_ret
        refine ⟨v3, xs.take xs.length ++ [n] ++ xs.drop xs.length, rfl, HP.out.1, HP.out.2, by simp, ?_, HB3.out⟩
        show World.ownsRow _ _ _ _ _ _ _
        have e1 : (xs.take xs.length ++ [n] ++ xs.drop xs.length).length = 0 + xs.length + 1 + 0 := by simp
        have e2 : vals (xs.take xs.length ++ [n] ++ xs.drop xs.length) = [] ++ vals xs ++ [.int .i64 n] ++ [] := by simp [vals]
        rw [e1, e2]
        exact HO3.out

      · have hcp : ¬ c - xs.length = 0 := by omega
        go_wp2_with (first
          | (at_builtin
             refine wpList_append_own _ rfl (.tmp 34) (.tmp 37) _ rfl wr.heap.size 3 i0 _ 1 8 Try.underlying22 hi0 hz0 hz1 hz2 rfl (by omega) _ _ _ rfl HE0.out ⟨p, o, none⟩ xs.length c (vals xs) rfl (by rw [vals_length]; omega) HN1.out (vals_one _) (by unfold maxLen; omega) (by omega) (by simp) ?_
             intro v1 w1 h1 h2 h3
             have HO1 := Lib.hid h1
             have HB1 : Hid (Below wr.heap.size wr w1) := (((Below.refl wr.heap.size wr).alloc (Nat.le_refl _) _)).grown h2 (by simp) fun j hj => (HE0.out.lt j hj).1
             have hs1 : wr.heap.size ≤ w1.heap.size := HB1.out.size
             have HA1 := Lib.hid (h1.alloc (.cells #[.int .i64 n] 3))
             have HN2 := Lib.hid (cell_one_new w1 (.int .i64 n) 3)
             clear h1 h2 h3)
          | (at_builtin
             refine wpList_append_own _ rfl (.tmp 39) (.tmp 41) _ rfl wr.heap.size 3 i0 _ 1 8 Try.underlying22 hi0 hz0 hz1 hz2 rfl (by omega) _ _ _ rfl HA1.out ⟨w1.heap.size, 0, none⟩ 1 1 [.int .i64 n] rfl rfl HN2.out (by intro u hu; simp at hu; subst hu; rfl) (by unfold maxLen; omega) (by omega) (by simp; omega) ?_
             intro v2 w2 h1 h2 h3
             have HB2 : Hid (Below wr.heap.size wr w2) := (HB1.out.alloc HB1.out.size _).grown h2 (by simp; omega) fun j hj => (HO1.out.lt j hj).1
             have HO2 := Lib.hid h1
             have hs2 : wr.heap.size ≤ w2.heap.size := HB2.out.size
             clear h1 h2 h3)
          | (at_builtin
             refine wpList_append_own _ rfl (.tmp 43) (.tmp 46) _ rfl wr.heap.size 3 i0 _ 1 8 Try.underlying22 hi0 hz0 hz1 hz2 rfl (by omega) _ _ _ rfl HO2.out ⟨p, o + xs.length, none⟩ 0 (c - xs.length) [] rfl rfl (fun j u h => by simp at h) (by simp) (by unfold maxLen; omega) (by omega) hs2 ?_
             intro v3 w3 h1 h2 h3
             have HB3 : Hid (Below wr.heap.size wr w3) := HB2.out.grown h2 (by omega) fun j hj => (HO2.out.lt j hj).1
             have HO3 := Lib.hid h1
             clear h1 h2 h3))
        go_ret
        refine ⟨v3, xs.take xs.length ++ [n] ++ xs.drop xs.length, rfl, HP.out.1, HP.out.2, by simp, ?_, HB3.out⟩
        show World.ownsRow _ _ _ _ _ _ _
        have e1 : (xs.take xs.length ++ [n] ++ xs.drop xs.length).length = 0 + xs.length + 1 + 0 := by simp
        have e2 : vals (xs.take xs.length ++ [n] ++ xs.drop xs.length) = [] ++ vals xs ++ [.int .i64 n] ++ [] := by simp [vals]
        rw [e1, e2]
        exact HO3.out

end Go.Proofs.Ytaobkanliiiapaa

/- The reference's copy of a list, as a row that can be appended to. -/

namespace Go.Proofs.Ytaobkanliiiapaa
open Go.RowKit

set_option maxRecDepth 20000 in
set_option maxHeartbeats 400000 in
theorem l1OwnW_any (A : Option Addr) (xs : List Int) (c : Nat) (w : World) (hr : Ints w w.heap.size A xs) (hn : xs.length ≤ 1048576) :
    Calls Try.prog 10 #[.slice A xs.length c] w fun e w' => ∃ v, e = .returned v ∧ w'.ownsRow w.heap.size 3 1 v xs.length (vals xs) ∧ Below w.heap.size w w' := by
  obtain ⟨i0, hi0, hz0, hz1, hz2⟩ := info_of Try.infoInt
  have hB0 : Below w.heap.size w (w.alloc (.cells #[] 3)) := by go_grown
  have HB0 := Lib.hid hB0; clear hB0
  have HR := Lib.hid (hr.keep HB0.out); clear hr
  have HE := Lib.hid (own_empty w)
  rcases A with _ | ad
  · have hx : xs = [] := by
      rcases xs with _ | ⟨x, xs⟩
      · rfl
      · obtain ⟨_, _, e, _⟩ := HR.out (by simp)
        cases e
    subst hx
    go_enter Try.func10, Try.ntmps10
    go_wp2_with (at_builtin
                 refine append_nil_at rfl (.tmp 3) (.tmp 4) _ rfl w.heap.size 3 i0 1 Try.underlying22 hi0 _ _ _ rfl HE.out c rfl ?_)
    go_ret
    exact ⟨_, rfl, HE.out, HB0.out⟩
  · have HN : Hid (∀ (j : Nat) (v : Value), (vals xs)[j]? = some v → (w.alloc (.cells #[] 3)).cell? (ad.add j) = some v) := fun j v hv => by
      have hp : 0 < xs.length := by have := (List.getElem?_eq_some_iff.1 hv).1; rw [vals_length] at this; omega
      obtain ⟨ad', e, h⟩ := HR.out.src hp
      injection e with e
      subst e
      exact h j v hv
    go_enter Try.func10, Try.ntmps10
    go_wp2_with (at_builtin
                 refine wpList_append_own _ rfl (.tmp 3) (.tmp 4) _ rfl w.heap.size 3 i0 _ 1 8 Try.underlying22 hi0 hz0 hz1 hz2 rfl (by omega) _ _ _ rfl HE.out ad xs.length c (vals xs) rfl (by rw [vals_length]; omega) HN.out (vals_one xs) (by unfold maxLen; omega) (by omega) (by simp) ?_
                 intro v' w' h1 h2 h3
                 have HO1 := Lib.hid h1
                 have HG1 := Lib.hid h2
                 clear h1 h2 h3)
    have HO2 : Hid (w'.ownsRow w.heap.size 3 1 v' xs.length (vals xs)) := by have h1 := HO1.out; rw [List.nil_append, Nat.zero_add] at h1; exact h1
    go_ret
    exact ⟨_, rfl, HO2.out, HB0.out.grown HG1.out HB0.out.size fun k hk => (HE.out.lt k hk).1⟩

end Go.Proofs.Ytaobkanliiiapaa

/- The reference's JoinRows. -/

namespace Go.Proofs.Ytaobkanliiiapaa
open Go.RowKit

/-- A number is put into a rising list of the call's own; it may be there already. -/
def PutB (w : World) (lo : Nat) (xs : List Int) (n : Int) (e : Ending) (w' : World) : Prop :=
  ∃ v ys, e = .returned v ∧ Rises ys ∧ (∀ x, x ∈ ys ↔ x = n ∨ x ∈ xs) ∧ ys.length ≤ xs.length + 1 ∧ OwnV w' lo v ys ∧ Below w.heap.size w w'

set_option maxRecDepth 20000 in
theorem l1PutB_any (lo : Nat) (v : Value) (xs : List Int) (n : Int) (w : World) (hv : OwnV w lo v xs) (hr : Rises xs) (h1 : xs.length ≤ 1000) (hlo : lo ≤ w.heap.size) :
    Calls Try.prog 11 #[v, .int .i64 n] w (PutB w lo xs n) := by
  by_cases hn : n ∈ xs
  · obtain ⟨A, c, rfl, hc, hx⟩ := hv.shape
    have HX := Lib.hid hx; clear hx
    have HV := Lib.hid hv; clear hv
    have HR := Lib.hid hr; clear hr
    have HN := Lib.hid hn; clear hn
    go_enter Try.func11, Try.ntmps11
    go_wp2
    go_loopw [5] (fun i wr => ∃ (k : Nat), k ≤ xs.length ∧ i = .int .i64 k ∧ wr = w ∧ Hid (∀ (j : Nat) (x : Int), j < k → xs[j]? = some x → x < n)) (fun i _ => xs.length - (intOf i).toNat)
    case atStart => exact ⟨0, by omega, rfl, rfl, fun j x h => absurd h (by omega)⟩
    case round =>
      obtain ⟨k, hk, rfl, rfl, H⟩ := hrel
      by_cases hlt : k < xs.length
      · obtain ⟨p, o, rfl, _, c1⟩ := HX.out.at_ hlt
        by_cases hl : xs[k] < n
        · have HE := Lib.hid (upto_step (Q := fun x => x < n) hlt hl H.out)
          go_wp2
          go_roundw
          case rel => exact ⟨k + 1, by omega, by go_num, by simp, HE.out⟩
          case measure => simp [intOf]; omega
        · have he : xs[k] = n := by
            obtain ⟨j, hj⟩ := List.mem_iff_getElem?.1 HN.out
            obtain ⟨hjl, hj2⟩ := List.getElem?_eq_some_iff.1 hj
            have h1 : ¬ j < k := fun h => by have := H.out j n h hj; omega
            by_cases e : j = k
            · subst e; exact hj2
            · have := List.pairwise_iff_getElem.1 HR.out k j hlt hjl (by omega)
              omega
          have ht := beq_t he
          clear hl
          go_wp2
          go_ret
          exact ⟨_, xs, rfl, HR.out, fun x => ⟨.inr, fun h => h.elim (fun e => e ▸ HN.out) id⟩, by omega, HV.out, Below.refl _ _⟩
      · exfalso
        obtain ⟨j, hj⟩ := List.mem_iff_getElem?.1 HN.out
        have := H.out j n (by have := (List.getElem?_eq_some_iff.1 hj).1; omega) hj
        omega
  · refine (l1PutW_any lo v xs n w hv hr hn h1).mono fun e w' ⟨v', ys, e1, e2, e3, e4, e5, e6⟩ => ⟨v', ys, e1, e2, e3, by omega, e5.lower hlo, e6⟩

set_option maxRecDepth 20000 in
set_option maxHeartbeats 1000000 in
theorem specJoinRows_any (A A' : Option Addr) (a b : List Int) (c c' : Nat) (w : World) (hx : Ints w w.heap.size A a) (hy : Ints w w.heap.size A' b) (h1 : a.length ≤ 1048576) (h2 : b.length ≤ 1048576) :
    Calls Try.prog 4 #[.slice A a.length c, .slice A' b.length c'] w (GaveIB w (jrV a b) (okJR a b)) := by
  have HX := Lib.hid hx; clear hx
  have HY := Lib.hid hy; clear hy
  have none_ : ∀ w' : World, okJR a b = false → Below w.heap.size w w' → GaveIB w (jrV a b) (okJR a b) (.returned (.tuple #[.slice none 0 0, .bool false])) w' := fun w' h hB => by
    have hv : jrV a b = [] := by unfold jrV; rw [h]; rfl
    rw [h, hv]
    exact ⟨none, 0, rfl, .inl rfl, hB⟩
  have HNO := Lib.hid none_
  clear none_
  by_cases hla : 40 < a.length
  · have HV : Hid (okJR a b = false) := by show _ = _; unfold okJR okR; rw [decide_eq_false (by omega : ¬ a.length ≤ 40)]; rfl
    have hl2 : (40 : Int) < (a.length : Int) := by omega
    go_enter Try.func4, Try.ntmps4
    go_wp2
    go_ret2
    exact HNO.out _ HV.out (Below.refl _ _)
  have hla2 : ¬ (40 : Int) < (a.length : Int) := by omega
  by_cases hlb : 40 < b.length
  · have HV : Hid (okJR a b = false) := by show _ = _; unfold okJR okR; rw [decide_eq_false (by omega : ¬ b.length ≤ 40), Bool.false_and, Bool.and_false]
    have hl2 : (40 : Int) < (b.length : Int) := by omega
    go_enter Try.func4, Try.ntmps4
    go_wp2
    go_ret2
    exact HNO.out _ HV.out (Below.refl _ _)
  have hlb2 : ¬ (40 : Int) < (b.length : Int) := by omega
  go_enter Try.func4, Try.ntmps4
  go_wp2_with fail
  refine (l1OwnW_any A a c w HX.out h1).mono ?_
  rintro e w1 ⟨v1, rfl, hO1, hB1⟩
  have HO1 : Hid (OwnV w1 w.heap.size v1 a) := hO1
  have HB1 := Lib.hid hB1
  have hs1 := hB1.size
  clear hO1 hB1
  go_wp2
  go_loopw [23] (fun i wr => ∃ (k : Nat), k ≤ a.length ∧ i = .int .i64 k ∧ wr = w1 ∧ Hid (RiseI a k)) (fun i _ => a.length - (intOf i).toNat)
  case atStart => exact ⟨0, Nat.zero_le _, rfl, rfl, RiseI.zero a⟩
  case round =>
    obtain ⟨k, hk, rfl, rfl, H⟩ := hrel
    by_cases hlt : k < a.length
    · obtain ⟨p, o, eA, hp, c1⟩ := (HX.out.keep HB1.out).at_ hlt
      by_cases hk0 : 0 < k
      · obtain ⟨p', o', eA', hp', c0⟩ := (HX.out.keep HB1.out).at_ (show k - 1 < a.length by omega)
        rw [eA] at eA'
        injection eA' with eA'
        injection eA' with e1 e2
        subst e1 e2 eA
        have hkm : ((k : Int) - 1) = ((k - 1 : Nat) : Int) := by omega
        have hk1 : (0 : Int) < (k : Int) := by omega
        by_cases hge : a[k] ≤ a[k - 1]
        · have HV : Hid (okJR a b = false) := by
            show _ = _
            unfold okJR okR
            rw [bP_f fun h => by have := h (k - 1) a[k - 1] a[k] (by omega) (List.getElem?_eq_getElem (by omega)) (by rw [show k - 1 + 1 = k by omega]; exact List.getElem?_eq_getElem hlt); omega, Bool.and_false, Bool.false_and]
          go_wp2
          go_ret2
          exact HNO.out _ HV.out HB1.out
        · have HH : Hid (RiseI a (k + 1)) := by
            have h := H.out
            rw [show k = k - 1 + 1 by omega] at h
            have h2 := h.step (a := a[k - 1]) (b := a[k]) (List.getElem?_eq_getElem (by omega)) (by rw [show k - 1 + 1 = k by omega]; exact List.getElem?_eq_getElem hlt) (by omega)
            rw [show k - 1 + 2 = k + 1 by omega] at h2
            exact h2
          go_wp2
          go_roundw
          case rel => exact ⟨k + 1, by omega, by go_num, by simp, HH.out⟩
          case measure => simp [intOf]; omega
      · obtain rfl : k = 0 := by omega
        subst eA
        have c9 : wr.cell? ⟨p, o, none⟩ = some (.int .i64 a[0]) := c1
        clear c1
        go_wp2
        go_roundw
        case rel => exact ⟨1, by omega, by go_num, by simp, RiseI.none a⟩
        case measure => simp [intOf]; omega
    · obtain rfl : k = a.length := by omega
      have HRA : Hid (Rises a) := riseI_pair H.out
      have HRA2 := H
      obtain ⟨A1, c1', hv1, _, _⟩ := HO1.out.shape
      subst hv1
      go_wp2
      go_loopw [6, 42] (fun v i wr => ∃ (k : Nat) (ys : List Int), k ≤ b.length ∧ i = .int .i64 k ∧ Hid (Below w.heap.size w wr) ∧ Hid (OwnV wr w.heap.size v ys) ∧ Hid (RiseI b k) ∧ Hid (Rises ys ∧ ∀ x, x ∈ ys ↔ x ∈ a ∨ x ∈ b.take k) ∧ ys.length ≤ a.length + k) (fun _ i _ => b.length - (intOf i).toNat)
      case atStart => exact ⟨0, a, Nat.zero_le _, rfl, HB1.out, HO1.out, RiseI.zero b, ⟨HRA.out, fun x => by simp⟩, by omega⟩
      case round =>
        clear HO1
        obtain ⟨k, ys, hk, rfl, HB, HO, HR, HM, hyl⟩ := hrel
        have hws := HB.out.size
        by_cases hlt : k < b.length
        · obtain ⟨p, o, eA, hp, c1⟩ := (HY.out.keep HB.out).at_ hlt
          have HPUT := Lib.hid (l1PutB_any w.heap.size _ ys b[k] _ HO.out HM.out.1 (by omega) hws)
          by_cases hk0 : 0 < k
          · obtain ⟨p', o', eA', hp', c0⟩ := (HY.out.keep HB.out).at_ (show k - 1 < b.length by omega)
            rw [eA] at eA'
            injection eA' with eA'
            injection eA' with e1 e2
            subst e1 e2 eA
            have hkm : ((k : Int) - 1) = ((k - 1 : Nat) : Int) := by omega
            have hk1 : (0 : Int) < (k : Int) := by omega
            by_cases hge : b[k] ≤ b[k - 1]
            · have HV : Hid (okJR a b = false) := by
                show _ = _
                unfold okJR okR
                rw [bP_f (P := RiseI b b.length) fun h => by have := h (k - 1) b[k - 1] b[k] (by omega) (List.getElem?_eq_getElem (by omega)) (by rw [show k - 1 + 1 = k by omega]; exact List.getElem?_eq_getElem hlt); omega, Bool.and_false, Bool.and_false]
              go_wp2
              go_ret2
              exact HNO.out _ HV.out HB.out
            · have HH : Hid (RiseI b (k + 1)) := by
                have h := HR.out
                rw [show k = k - 1 + 1 by omega] at h
                have h2 := h.step (a := b[k - 1]) (b := b[k]) (List.getElem?_eq_getElem (by omega)) (by rw [show k - 1 + 1 = k by omega]; exact List.getElem?_eq_getElem hlt) (by omega)
                rw [show k - 1 + 2 = k + 1 by omega] at h2
                exact h2
              go_wp2_with (go_at_call 11
                           refine HPUT.out.mono ?_
                           rintro e w4 ⟨v4, ys4, rfl, hr4, hm4, hl4, hO4, hB4⟩
                           have HO4 := Lib.hid hO4
                           have HB4 := Lib.hid (HB.out.trans (hB4.mono hws))
                           have HM4 : Hid (Rises ys4 ∧ ∀ x, x ∈ ys4 ↔ x ∈ a ∨ x ∈ b.take (k + 1)) := ⟨hr4, fun x => by
                             rw [hm4, HM.out.2, List.take_succ_eq_append_getElem hlt, List.mem_append, List.mem_singleton]
                             constructor
                             · rintro (h | h | h)
                               · exact .inr (.inr h)
                               · exact .inl h
                               · exact .inr (.inl h)
                             · rintro (h | h | h)
                               · exact .inr (.inl h)
                               · exact .inr (.inr h)
                               · exact .inl h⟩
                           clear hr4 hm4 hO4 hB4)
              go_roundw
              case rel => exact ⟨k + 1, ys4, by omega, by go_num, HB4.out, HO4.out, HH.out, HM4.out, by omega⟩
              case measure => simp [intOf]; omega
          · obtain rfl : k = 0 := by omega
            subst eA
            have c9 : wr.cell? ⟨p, o, none⟩ = some (.int .i64 b[0]) := c1
            clear c1
            go_wp2_with (go_at_call 11
                         refine HPUT.out.mono ?_
                         rintro e w4 ⟨v4, ys4, rfl, hr4, hm4, hl4, hO4, hB4⟩
                         have HO4 := Lib.hid hO4
                         have HB4 := Lib.hid (HB.out.trans (hB4.mono hws))
                         have HM4 : Hid (Rises ys4 ∧ ∀ x, x ∈ ys4 ↔ x ∈ a ∨ x ∈ b.take 1) := ⟨hr4, fun x => by
                           rw [hm4, HM.out.2, List.take_succ_eq_append_getElem hlt, List.mem_append, List.mem_singleton]
                           constructor
                           · rintro (h | h | h)
                             · exact .inr (.inr h)
                             · exact .inl h
                             · exact .inr (.inl h)
                           · rintro (h | h | h)
                             · exact .inr (.inl h)
                             · exact .inr (.inr h)
                             · exact .inl h⟩
                         clear hr4 hm4 hO4 hB4)
            go_roundw
            case rel => exact ⟨1, ys4, by omega, by go_num, HB4.out, HO4.out, RiseI.none b, HM4.out, by omega⟩
            case measure => simp [intOf]; omega
        · obtain rfl : k = b.length := by omega
          have HV : Hid (okJR a b = true) := by
            show _ = _
            unfold okJR okR
            rw [bP_t (P := RiseI a a.length) HRA2.out, bP_t (P := RiseI b b.length) HR.out, decide_eq_true (by omega), decide_eq_true (by omega)]; rfl
          have HJ : Hid (ys = jrV a b) := PJ.eq HV.out ⟨HM.out.1, fun x => by rw [HM.out.2, List.take_length]⟩
          obtain ⟨Ay, cy, hvy, hOy⟩ := HO.out.own
          subst hvy
          have HOY := Lib.hid hOy
          clear hOy
          go_wp2
          go_ret2
          exact ⟨Ay, cy, by rw [HV.out, ← HJ.out]; rfl, by rw [← HJ.out]; exact HOY.out, HB.out⟩

end Go.Proofs.Ytaobkanliiiapaa

/- The law of JoinRows: its walk. -/

namespace Go.Proofs.Ytaobkanliiiapaa
open Go.RowKit

theorem jrV_len (a b : List Int) : (jrV a b).length ≤ 1048576 := by
  by_cases h : okJR a b = true
  · have e := PJ.eq h (compact_PJ a b)
    rw [← e]
    have h1 := Lib.compact_length_le (sortI (a ++ b))
    rw [sortI_len, List.length_append] at h1
    have h2 := Bool.and_eq_true_iff.1 h
    have h3 : a.length ≤ 40 := of_decide_eq_true (Bool.and_eq_true_iff.1 h2.1).1
    have h4 : b.length ≤ 40 := of_decide_eq_true (Bool.and_eq_true_iff.1 h2.2).1
    omega
  · unfold jrV; rw [if_neg h]; simp

set_option maxRecDepth 20000 in
set_option maxHeartbeats 2000000 in
theorem law_JoinRows (A A' : Option Addr) (a bs : List Int) (c c' : Nat) (w : World) (hx : Ints w w.heap.size A a) (hxm : a.length ≤ maxLen) (hy : Ints w w.heap.size A' bs) (hym : bs.length ≤ maxLen) :
    Calls Try.prog 3 #[.slice A a.length c, .slice A' bs.length c'] w (LawEnds w) := by
  have HX := Lib.hid hx; clear hx
  have HY := Lib.hid hy; clear hy
  have hxm2 := hxm
  have hym2 := hym
  unfold maxLen at hxm2 hym2
  by_cases hla : 1048576 < a.length
  · have hl : (1048576 : Int) < (a.length : Int) := by omega
    go_enter Try.func3, Try.ntmps3
    go_wp2
    go_ret
    exact ⟨rfl, Below.refl _ _⟩
  have hla2 : ¬ (1048576 : Int) < (a.length : Int) := by omega
  by_cases hlb : 1048576 < bs.length
  · have hl : (1048576 : Int) < (bs.length : Int) := by omega
    go_enter Try.func3, Try.ntmps3
    go_wp2
    go_ret
    exact ⟨rfl, Below.refl _ _⟩
  have hlb2 : ¬ (1048576 : Int) < (bs.length : Int) := by omega
  have h1 : a.length ≤ 1048576 := by omega
  have h2 : bs.length ≤ 1048576 := by omega
  have HSP : Hid (∀ (B B' : Option Addr) (d d' : Nat) (v : World), Ints v v.heap.size B a → Ints v v.heap.size B' bs → Calls Try.prog 4 #[.slice B a.length d, .slice B' bs.length d'] v (GaveIB v (jrV a bs) (okJR a bs))) := fun B B' d d' v k1 k2 => specJoinRows_any B B' a bs d d' v k1 k2 h1 h2
  have HIM : Hid (∀ (B B' : Option Addr) (d d' : Nat) (v : World), Ints v v.heap.size B a → Ints v v.heap.size B' bs → Calls Try.prog 6 #[.slice B a.length d, .slice B' bs.length d'] v (GaveIB v (jrV a bs) (okJR a bs))) := fun B B' d d' v k1 k2 => implJoinRows_any B B' a bs d d' v k1 k2 h1 h2
  have hyl := jrV_len a bs
  generalize jrV a bs = ys at HSP HIM hyl
  generalize okJR a bs = ok at HSP HIM
  have hok : (ok != ok) = false := by simp
  go_enter Try.func3, Try.ntmps3
  -- the reference's answer
  go_wp2_with fail
  refine (toIntS_any _ _ _ _ HX.out h1).mono ?_
  rintro e w1 ⟨A1, c1, rfl, _, hO1, hB1⟩
  have HO1 := Lib.hid hO1
  have HB1 := Lib.hid hB1
  clear hO1 hB1
  go_wp2_with fail
  refine (toIntS_any _ _ _ _ ((HY.out.keep HB1.out).more HB1.out.size) h2).mono ?_
  rintro e w2 ⟨A2, c2, rfl, _, hO2, hB2⟩
  have HO1' := Lib.hid (HO1.out.below hB2 (Nat.le_refl _))
  have HO2 := Lib.hid hO2
  have HB2 := Lib.hid (HB1.out.trans (hB2.mono HB1.out.size))
  clear hO2 hB2 HO1 HB1
  go_wp2_with fail
  refine (HSP.out _ _ _ _ _ HO1'.out.ints HO2.out.ints).mono ?_
  rintro e w3 ⟨A3, c3, rfl, hO3, hB3⟩
  have HI3 : Hid (∀ b, Its A3 ys b → b < w3.heap.size) := fun b hb => (hO3.its hb).2
  have HO3 := Lib.hid (hO3.lower HB2.out.size)
  have HB3 := Lib.hid (HB2.out.trans (hB3.mono HB2.out.size))
  clear hO3 hB3 HB2 HO1' HO2
  -- the arguments, copies
  go_wp2_with fail
  refine (toIntS_any _ _ _ _ ((HX.out.keep HB3.out).more HB3.out.size) h1).mono ?_
  rintro e w4 ⟨A4, c4, rfl, _, hO4, hB4⟩
  have HI4 : Hid (∀ b, Its A4 a b → w3.heap.size ≤ b ∧ b < w4.heap.size) := fun b hb => hO4.its hb
  have HO4 := Lib.hid hO4
  have HO34 := Lib.hid (HO3.out.below hB4 (Nat.le_refl _))
  have HB4 := Lib.hid (HB3.out.trans (hB4.mono HB3.out.size))
  have HS4 := Lib.hid hB4.size
  have HS3 := Lib.hid HB3.out.size
  clear hO4 hB4 HO3 HB3
  go_wp2_with fail
  refine (toIntS_any _ _ _ _ ((HY.out.keep HB4.out).more HB4.out.size) h2).mono ?_
  rintro e w5 ⟨A5, c5, rfl, _, hO5, hB5⟩
  have HI5 : Hid (∀ b, Its A5 bs b → w4.heap.size ≤ b ∧ b < w5.heap.size) := fun b hb => hO5.its hb
  have HO5 := Lib.hid hO5
  have HO45 := Lib.hid (HO4.out.below hB5 (Nat.le_refl _))
  have HO35 := Lib.hid (HO34.out.below hB5 (Nat.le_refl _))
  have HB5 := Lib.hid (HB4.out.trans (hB5.mono HB4.out.size))
  have HS5 := Lib.hid hB5.size
  clear hO5 hB5 HO4 HO34 HB4
  -- the program's answer
  go_wp2_with fail
  refine (HIM.out _ _ _ _ _ HO45.out.ints HO5.out.ints).mono ?_
  rintro e w6 ⟨A6, c6, rfl, hO6, hB6⟩
  have HI6 : Hid (∀ b, Its A6 ys b → w5.heap.size ≤ b) := fun b hb => (hO6.its hb).1
  have HO6 := Lib.hid hO6
  have HO46 := Lib.hid (HO45.out.below hB6 (Nat.le_refl _))
  have HO56 := Lib.hid (HO5.out.below hB6 (Nat.le_refl _))
  have HO36 := Lib.hid (HO35.out.below hB6 (Nat.le_refl _))
  have HB6 := Lib.hid (HB5.out.trans (hB6.mono HB5.out.size))
  clear hO6 hB6 HO45 HO5 HO35 HB5
  go_wp2_with fail
  refine (eqIntS_any _ _ _ _ _ _ _ HO6.out.ints HO36.out.ints hyl).mono ?_
  rintro e w7 ⟨rfl, hB7⟩
  rw [eqL_refl]
  have HO67 := Lib.hid (HO6.out.below hB7 (Nat.le_refl _))
  have HO47 := Lib.hid (HO46.out.below hB7 (Nat.le_refl _))
  have HO57 := Lib.hid (HO56.out.below hB7 (Nat.le_refl _))
  have HO37 := Lib.hid (HO36.out.below hB7 (Nat.le_refl _))
  have HB7 := Lib.hid (HB6.out.trans (hB7.mono HB6.out.size))
  clear hB7 HO6 HO46 HO56 HO36 HB6
  -- the arguments are as they were
  go_wp2_with fail
  refine (toIntS_any _ _ _ _ ((HX.out.keep HB7.out).more HB7.out.size) h1).mono ?_
  rintro e w8 ⟨A8, c8, rfl, _, hO8, hB8⟩
  have HO8 := Lib.hid hO8
  have HO68 := Lib.hid (HO67.out.below hB8 (Nat.le_refl _))
  have HO48 := Lib.hid (HO47.out.below hB8 (Nat.le_refl _))
  have HO58 := Lib.hid (HO57.out.below hB8 (Nat.le_refl _))
  have HO38 := Lib.hid (HO37.out.below hB8 (Nat.le_refl _))
  have HB8 := Lib.hid (HB7.out.trans (hB8.mono HB7.out.size))
  clear hO8 hB8 HO67 HO47 HO57 HO37 HB7
  go_wp2_with fail
  refine (eqIntS_any _ _ _ _ _ _ _ HO48.out.ints HO8.out.ints h1).mono ?_
  rintro e w9 ⟨rfl, hB9⟩
  rw [eqL_refl]
  have HO69 := Lib.hid (HO68.out.below hB9 (Nat.le_refl _))
  have HO49 := Lib.hid (HO48.out.below hB9 (Nat.le_refl _))
  have HO59 := Lib.hid (HO58.out.below hB9 (Nat.le_refl _))
  have HO39 := Lib.hid (HO38.out.below hB9 (Nat.le_refl _))
  have HB9 := Lib.hid (HB8.out.trans (hB9.mono HB8.out.size))
  clear hB9 HO68 HO48 HO58 HO38 HB8 HO8
  go_wp2_with fail
  refine (toIntS_any _ _ _ _ ((HY.out.keep HB9.out).more HB9.out.size) h2).mono ?_
  rintro e w10 ⟨A10, c10, rfl, _, hO10, hB10⟩
  have HO10 := Lib.hid hO10
  have HO610 := Lib.hid (HO69.out.below hB10 (Nat.le_refl _))
  have HO410 := Lib.hid (HO49.out.below hB10 (Nat.le_refl _))
  have HO510 := Lib.hid (HO59.out.below hB10 (Nat.le_refl _))
  have HO310 := Lib.hid (HO39.out.below hB10 (Nat.le_refl _))
  have HB10 := Lib.hid (HB9.out.trans (hB10.mono HB9.out.size))
  clear hO10 hB10 HO69 HO49 HO59 HO39 HB9
  go_wp2_with fail
  refine (eqIntS_any _ _ _ _ _ _ _ HO510.out.ints HO10.out.ints h2).mono ?_
  rintro e w11 ⟨rfl, hB11⟩
  rw [eqL_refl]
  have HO611 := Lib.hid (HO610.out.below hB11 (Nat.le_refl _))
  have HO411 := Lib.hid (HO410.out.below hB11 (Nat.le_refl _))
  have HO511 := Lib.hid (HO510.out.below hB11 (Nat.le_refl _))
  have HO311 := Lib.hid (HO310.out.below hB11 (Nat.le_refl _))
  have HB11 := Lib.hid (HB10.out.trans (hB11.mono HB10.out.size))
  clear hB11 HO610 HO410 HO510 HO310 HB10 HO10
  -- the arguments are marked
  go_wp2_with fail
  refine (markIntS_any _ _ _ _ _ _ HO411.out h1 (by omega) (by omega)).mono ?_
  rintro e w12 ⟨rfl, _, hS12⟩
  have HO612 := Lib.hid (HO611.out.kept hS12 fun b hb hI => by have := HI6.out b hb; have := (HI4.out b hI).2; have := HS5.out; omega)
  have HO512 := Lib.hid (HO511.out.kept hS12 fun b hb hI => by have := (HI5.out b hb).1; have := (HI4.out b hI).2; omega)
  have HO312 := Lib.hid (HO311.out.kept hS12 fun b hb hI => by have := HI3.out b hb; have := (HI4.out b hI).1; omega)
  have HB12 : Hid (Below w.heap.size w w12) := HB11.out.trans (hS12.below HB11.out.size fun i hi hI => by have := (HI4.out i hI).1; have := HS3.out; omega)
  clear hS12 HO611 HO411 HO511 HO311 HB11
  go_wp2_with fail
  refine (markIntS_any _ _ _ _ _ _ HO512.out h2 (by omega) (by omega)).mono ?_
  rintro e w13 ⟨rfl, _, hS13⟩
  have HO613 := Lib.hid (HO612.out.kept hS13 fun b hb hI => by have := HI6.out b hb; have := (HI5.out b hI).2; omega)
  have HO313 := Lib.hid (HO312.out.kept hS13 fun b hb hI => by have := HI3.out b hb; have := (HI5.out b hI).1; have := HS4.out; omega)
  have HB13 : Hid (Below w.heap.size w w13) := HB12.out.trans (hS13.below HB12.out.size fun i hi hI => by have := (HI5.out i hI).1; have := HS3.out; have := HS4.out; omega)
  clear hS13 HO612 HO512 HO312 HB12
  go_wp2_with fail
  refine (eqIntS_any _ _ _ _ _ _ _ HO613.out.ints HO313.out.ints hyl).mono ?_
  rintro e w14 ⟨rfl, hB14⟩
  rw [eqL_refl]
  have HO614 := Lib.hid (HO613.out.below hB14 (Nat.le_refl _))
  have HO314 := Lib.hid (HO313.out.below hB14 (Nat.le_refl _))
  have HB14 := Lib.hid (HB13.out.trans (hB14.mono HB13.out.size))
  clear hB14 HO613 HO313 HB13
  -- the answer is marked, and found again
  go_wp2_with fail
  refine (markIntS_any _ _ _ _ _ _ HO614.out hyl (by omega) (by omega)).mono ?_
  rintro e w15 ⟨rfl, hO15, hS15⟩
  have HO315 := Lib.hid (HO314.out.kept hS15 fun b hb hI => by have := HI3.out b hb; have := HI6.out b hI; have := HS4.out; have := HS5.out; omega)
  have HB15 : Hid (Below w.heap.size w w15) := HB14.out.trans (hS15.below HB14.out.size fun i hi hI => by have := HI6.out i hI; have := HS3.out; have := HS4.out; have := HS5.out; omega)
  have HO15 := Lib.hid hO15
  clear hO15 hS15 HO614 HO314 HB14
  go_wp2_with fail
  refine (heldIntS_any _ _ _ _ _ HO15.out.ints hyl (by omega) (by omega)).mono ?_
  rintro e w16 ⟨rfl, hB16⟩
  have hne : ((1 + (ys.length : Int)) != (1 + (ys.length : Int))) = false := by simp
  have HO316 := Lib.hid (HO315.out.below hB16 (Nat.le_refl _))
  have HO16 := Lib.hid (HO15.out.below hB16 (Nat.le_refl _))
  have HB16 := Lib.hid (HB15.out.trans (hB16.mono HB15.out.size))
  clear hB16 HO315 HO15 HB15
  -- the program once more
  go_wp2_with fail
  refine (toIntS_any _ _ _ _ ((HX.out.keep HB16.out).more HB16.out.size) h1).mono ?_
  rintro e w17 ⟨A17, c17, rfl, _, hO17, hB17⟩
  have HO17 := Lib.hid hO17
  have HO317 := Lib.hid (HO316.out.below hB17 (Nat.le_refl _))
  have HO617 := Lib.hid (HO16.out.below hB17 (Nat.le_refl _))
  have HB17 := Lib.hid (HB16.out.trans (hB17.mono HB16.out.size))
  clear hO17 hB17 HO316 HO16 HB16
  go_wp2_with fail
  refine (toIntS_any _ _ _ _ ((HY.out.keep HB17.out).more HB17.out.size) h2).mono ?_
  rintro e w18 ⟨A18, c18, rfl, _, hO18, hB18⟩
  have HO18 := Lib.hid hO18
  have HO1718 := Lib.hid (HO17.out.below hB18 (Nat.le_refl _))
  have HO318 := Lib.hid (HO317.out.below hB18 (Nat.le_refl _))
  have HO618 := Lib.hid (HO617.out.below hB18 (Nat.le_refl _))
  have HB18 := Lib.hid (HB17.out.trans (hB18.mono HB17.out.size))
  clear hO18 hB18 HO317 HO617 HB17 HO17
  go_wp2_with fail
  refine (HIM.out _ _ _ _ _ HO1718.out.ints HO18.out.ints).mono ?_
  rintro e w19 ⟨A19, c19, rfl, hO19, hB19⟩
  have HO19 := Lib.hid hO19
  have HO319 := Lib.hid (HO318.out.below hB19 (Nat.le_refl _))
  have HO619 := Lib.hid (HO618.out.below hB19 (Nat.le_refl _))
  have HB19 := Lib.hid (HB18.out.trans (hB19.mono HB18.out.size))
  clear hO19 hB19 HO318 HO618 HB18 HO18 HO1718
  go_wp2_with fail
  refine (eqIntS_any _ _ _ _ _ _ _ HO19.out.ints HO319.out.ints hyl).mono ?_
  rintro e w20 ⟨rfl, hB20⟩
  rw [eqL_refl]
  have HO620 := Lib.hid (HO619.out.below hB20 (Nat.le_refl _))
  have HB20 := Lib.hid (HB19.out.trans (hB20.mono HB19.out.size))
  clear hB20 HO619 HB19 HO19 HO319
  go_wp2_with fail
  refine (heldIntS_any _ _ _ _ _ HO620.out.ints hyl (by omega) (by omega)).mono ?_
  rintro e w21 ⟨rfl, hB21⟩
  have HB21 := Lib.hid (HB20.out.trans (hB21.mono HB20.out.size))
  clear hB21
  go_wp2
  go_ret
  exact ⟨rfl, HB21.out⟩

end Go.Proofs.Ytaobkanliiiapaa

/- The law of JoinRows holds of every two lists of numbers that can be read: the call returns true, and what was handed in reads afterwards as it read before. No condition. -/

namespace Go.Proofs.Ytaobkanliiiapaa
open Go.ChangeShapes Go.WideShapes Go.ChangeAt Go.RowKit

set_option maxRecDepth 100000 in
theorem joinRows_lifted (os : Os) (started : os.Started) (H : Type) (enc : TypeId × Value → H) :
    ReturnsInHanded {} Try.checked os 3 .any (Rows.fnExactJoinRowsSpec.pre6 enc Try.prog Try.f3 Rows.fnExactJoinRowsRow.domain false)
      (Rows.fnExactJoinRowsSpec.post enc Try.prog Try.f3 false true false false) := by
  refine returnsInHanded_of_change (C := Try.checked) Try.own started (by kernel_rfl) Try.func3
    (ChangeSpec.witness6 (enc := enc) (C := Try.checked) false ⟨#[], #[.slice none 0 0, .slice none 0 0], []⟩ 8 (by kernel_rfl) (by kernel_rfl) (by kernel_rfl) (by kernel_rfl)) ?_
  intro W base args ds gs before hval0 hW hcnd _
  have hval : ∀ (j : Nat) t v, Try.f3.params[j]? = some t → args[j]? = some v → Value.okWide Try.prog W .any base t v := hval0
  have hW' := hW
  obtain ⟨p, q, hA0, hV, rfl, hfz, hnd⟩ := hW
  have hA : DataW.TrodAll enc Try.prog W 0 (fun _ => true) true Try.f3.params.toList args.toList ds p := hA0
  rw [Try.params3] at hA hval
  obtain ⟨v0, v1, d0, d1, p0, p1, rfl, rfl, rfl, h0, h1⟩ := trodAll_two hA
  obtain ⟨rfl, rfl⟩ := trodVars_none hV
  obtain ⟨A0, xs0, c0, rfl, _, hR0, hN0, _⟩ := open_intS' (hval 0 22 v0 rfl rfl) h0
  obtain ⟨A1, xs1, c1, rfl, _, hR1, hN1, _⟩ := open_intS' (hval 1 22 v1 rfl rfl) h1
  refine (law_JoinRows A0 A1 xs0 xs1 c0 c1 W hR0 hN0 hR1 hN1).mono fun e W' ⟨he, hb⟩ => ?_
  subst he
  exact ⟨_, rfl, ends_two hW' Try.params3 rfl rfl (by kernel_rfl) (of_decide_eq_true (by kernel_rfl)) (by kernel_rfl) (of_decide_eq_true (by kernel_rfl)) (by kernel_rfl) hb⟩

theorem joinRows_holds : Rows.FnExactJoinRowsSaid :=
  OpenClaim.holds_of_wide 3 Try.f3 rfl rfl rfl rfl rfl rfl rfl ⟨rfl, rfl, rfl, rfl, rfl⟩ rfl rfl rfl rfl rfl (by kernel_rfl) Try.func3 (by kernel_rfl)
    (of_decide_eq_true (by kernel_rfl)) (by unfold Func.isWrapper; first | (rw [if_pos (by decide +kernel)]; kernel_rfl) | (rw [if_neg (by decide +kernel)]; exact ⟨rfl, rfl⟩))
    (fun os started H enc _ => joinRows_lifted os started H enc)

#print axioms joinRows_holds
end Go.Proofs.Ytaobkanliiiapaa
