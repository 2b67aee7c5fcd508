/- What the reference's checks of a binary grammar answer: l5Less, l5Symbol, l5Rising, l1Rising, GoodBinary. -/
import Derived.Test.YtaobkanliiiapaaDoorB505
import Derived.Test.YtaobkanliiiapaaDoorB502
import Derived.Test.YtaobkanliiiapaaDoorB503
import Derived.Lib.AppendZerosOnto
import Derived.Lib.AppendZeros
import Derived.Deep.AppendLies
import Derived.Deep.RegionLaw

namespace Go.Proofs.YtaobkanliiiapaaDoor
open Go.RowKit
open Go.Sort (grow)

set_option maxHeartbeats 400000 in
theorem l5Symbol_any (b : Bi) (x : Int) (w : World) (hn : 1 ≤ b.n) (hn' : b.n ≤ 40) (ht : 1 ≤ b.t) (ht' : b.t ≤ 4) :
    Calls Tryd.prog 157 #[(.agg #[.int .i64 b.n, .int .i64 b.t, .slice b.Ap b.P.length b.cp, .slice b.Ao b.O.length b.co, .slice b.Ae b.E.length b.ce, .slice b.Af b.F.length b.cf]), .int .i64 x] w fun e w' => e = .returned (.bool (symB b.n b.t x)) ∧ Below w.heap.size w w' := by
  have HS := Lib.hid (sym_in (x := x) hn ht)
  go_enter Tryd.func157, Tryd.ntmps157
  go_wp2_with fail
  refine (l1In_any _ _ _ _).mono ?_
  rintro e w1 ⟨rfl, rfl⟩
  go_wp2
  go_ret
  exact ⟨ret_b HS.out, by go_grown⟩

set_option maxHeartbeats 400000 in
theorem l5Less_any (A A' : Option Addr) (xs ys : List Int) (c c' : Nat) (w : World) (hx : Ints w w.heap.size A xs) (hy : Ints w w.heap.size A' ys) (h1 : xs.length ≤ 1048576) (hl1 : xs.length ≤ ys.length) (hl2 : ys.length ≤ xs.length) :
    Calls Tryd.prog 156 #[.slice A xs.length c, .slice A' ys.length c'] w fun e w' => e = .returned (.bool (bP (cmpL xs ys < 0))) ∧ Below w.heap.size w w' := by
  have HX := Lib.hid hx; clear hx
  have HY := Lib.hid hy; clear hy
  go_enter Tryd.func156, Tryd.ntmps156
  go_wp2
  go_loopw [8] (fun i wr => ∃ (k : Nat), k ≤ xs.length ∧ i = .int .i64 k ∧ Below w.heap.size w wr ∧ Hid (cmpL xs ys = cmpL (xs.drop k) (ys.drop k))) (fun i _ => xs.length - (intOf i).toNat)
  case atStart => exact ⟨0, by omega, rfl, Below.refl _ _, rfl⟩
  case round =>
    obtain ⟨k, hk, rfl, hB, H⟩ := hrel
    by_cases hlt : k < xs.length
    · have hlt' : k < ys.length := by omega
      obtain ⟨b, o, rfl, hb, c1⟩ := (HX.out.keep hB).at_ hlt
      obtain ⟨b', o', rfl, hb', c2⟩ := (HY.out.keep hB).at_ hlt'
      have HD := Lib.hid (cmpL_drop hlt hlt')
      rcases Int.lt_trichotomy xs[k] ys[k] with h | h | h
      · have HN : Hid (bP (cmpL xs ys < 0) = true) := bP_t (by rw [H.out, HD.out, if_pos h]; omega)
        have ht : (xs[k] != ys[k]) = true := bne_t (by omega)
        go_wp2
        go_quiet (fail)
        go_wp2
        go_quiet (fail)
        go_wp2
        go_ret
        exact ⟨ret_b HN.out.symm, below_drewN (below_drewN hB _) _⟩
      · have HN : Hid (cmpL xs ys = cmpL (xs.drop (k + 1)) (ys.drop (k + 1))) := by
          show _ = _
          rw [H.out, HD.out, if_neg (by omega), if_neg (by omega)]
        have ht : (xs[k] != ys[k]) = false := bne_f h
        clear h
        go_wp2
        go_quiet (fail)
        go_wp2
        go_roundw
        case rel => exact ⟨k + 1, by omega, by go_num, below_drewN hB _, HN.out⟩
        case measure => simp [intOf]; omega
      · have HN : Hid (bP (cmpL xs ys < 0) = false) := bP_f (by rw [H.out, HD.out, if_neg (by omega), if_pos h]; omega)
        have ht : (xs[k] != ys[k]) = true := bne_t (by omega)
        have hlt2 : ¬ xs[k] < ys[k] := by omega
        have HD2 : Hid (decide (xs[k] < ys[k]) = bP (cmpL xs ys < 0)) := (decide_eq_false hlt2).trans HN.out.symm
        clear h
        go_wp2
        go_quiet (fail)
        go_wp2
        go_quiet (fail)
        go_wp2
        go_ret
        exact ⟨ret_b HD2.out, below_drewN (below_drewN hB _) _⟩
    · have HN : Hid (bP (cmpL xs ys < 0) = false) := bP_f (by rw [H.out, cmpL_end hlt (by omega)]; omega)
      go_wp2
      go_ret
      exact ⟨ret_b HN.out.symm, hB⟩

set_option maxRecDepth 20000 in
set_option maxHeartbeats 400000 in
theorem l1Rising_any (A : Option Addr) (xs : List Int) (c : Nat) (n : Int) (w : World) (hx : Ints w w.heap.size A xs) (h1 : xs.length ≤ 1048576) :
    Calls Tryd.prog 111 #[.slice A xs.length c, .int .i64 0, .int .i64 (n - 1)] w fun e w' => e = .returned (.bool (bP (GoodE n xs))) ∧ Below w.heap.size w w' := by
  have HX := Lib.hid hx; clear hx
  go_enter Tryd.func111, Tryd.ntmps111
  go_wp2
  go_loopw [11] (fun i wr => ∃ (k : Nat), k ≤ xs.length ∧ i = .int .i64 k ∧ Below w.heap.size w wr ∧ Hid (NonTo n xs k ∧ RiseI xs k)) (fun i _ => xs.length - (intOf i).toNat)
  case atStart => exact ⟨0, by omega, rfl, Below.refl _ _, fun j x h => absurd h (by omega), RiseI.zero _⟩
  case round =>
    obtain ⟨k, hk, rfl, hB, H⟩ := hrel
    by_cases hlt : k < xs.length
    · obtain ⟨b, o, rfl, hb, c1⟩ := (HX.out.keep hB).at_ hlt
      cases hu : nonB n xs[k]
      · have HU := Lib.hid hu; clear hu
        have HE : Hid (bP (GoodE n xs) = false) := bP_f fun h => by
          have := h.1 k _ hlt (List.getElem?_eq_getElem hlt)
          rw [HU.out] at this; cases this
        go_wp2_with fail
        refine (l1In_any _ _ _ _).mono ?_
        rintro e w' ⟨rfl, rfl⟩
        rw [non_in, HU.out]
        go_wp2
        go_ret
        exact ⟨ret_b HE.out.symm, hB⟩
      · have HU := Lib.hid hu; clear hu
        have HNX : Hid (NonTo n xs (k + 1)) := upto_next (Q := fun x => nonB n x = true) (List.getElem?_eq_getElem hlt) HU.out H.out.1
        rcases k with _ | j
        · simp only [Nat.add_zero] at c1
          go_wp2_with fail
          refine (l1In_any _ _ _ _).mono ?_
          rintro e w' ⟨rfl, rfl⟩
          rw [non_in, HU.out]
          go_wp2
          go_roundw
          case rel => exact ⟨0 + 1, by omega, by go_num, hB, HNX.out, RiseI.none _⟩
          case measure => simp [intOf]; omega
        · have hltj : j < xs.length := by omega
          obtain ⟨b', o', e', hb', d1⟩ := (HX.out.keep hB).at_ hltj
          injection e' with e'
          injection e' with e1 e2
          subst e1 e2
          have hwk : IntKind.i64.wrap (j : Int) = (j : Int) := by rw [IntKind.wrap_i64]; omega
          have hI1 : (j : Int) < (xs.length : Int) := by omega
          have hpos : (0 : Int) < (j : Int) + 1 := by omega
          by_cases hq : xs[j] < xs[j + 1]
          · have HQ := Lib.hid hq
            have HNR : Hid (RiseI xs (j + 1 + 1)) := H.out.2.step (List.getElem?_eq_getElem hltj) (List.getElem?_eq_getElem hlt) hq
            go_wp2_with fail
            refine (l1In_any _ _ _ _).mono ?_
            rintro e w' ⟨rfl, rfl⟩
            rw [non_in, HU.out]
            go_wp2
            go_roundw
            case rel => exact ⟨j + 1 + 1, by omega, by go_num, hB, HNX.out, HNR.out⟩
            case measure => simp [intOf]; omega
          · have HE : Hid (bP (GoodE n xs) = false) := bP_f fun h => hq (h.2 j _ _ hlt (List.getElem?_eq_getElem hltj) (List.getElem?_eq_getElem hlt))
            have hq2 : xs[j + 1] ≤ xs[j] := by omega
            clear hq
            go_wp2_with fail
            refine (l1In_any _ _ _ _).mono ?_
            rintro e w' ⟨rfl, rfl⟩
            rw [non_in, HU.out]
            go_wp2
            go_ret
            exact ⟨ret_b HE.out.symm, hB⟩
    · have HE : Hid (bP (GoodE n xs) = true) := bP_t ⟨upto_end (Q := fun x => nonB n x = true) hlt H.out.1, H.out.2.mono (by omega)⟩
      go_wp2
      go_ret
      exact ⟨ret_b HE.out.symm, hB⟩

end Go.Proofs.YtaobkanliiiapaaDoor

/- slices.Grow of nothing, and slices.Concat, at lists of lists. -/

namespace Go.Proofs.YtaobkanliiiapaaDoor
open Go.RowKit

set_option maxRecDepth 20000 in
set_option maxHeartbeats 1000000 in
theorem growNilL_any (n : Nat) (hn : n ≤ 4194304) (w : World) :
    Calls Tryd.prog 189 #[.slice none 0 0, .int .i64 (n : Int)] w fun e w' => ∃ v, e = .returned v ∧ w'.ownsRow w.heap.size 37 1 v 0 [] ∧ Below w.heap.size w w' := by
  obtain ⟨i0, hi0, hz0, hz1, hz2⟩ := info_of Tryd.infoIntS
  by_cases h0 : n = 0
  · subst h0
    go_enter Tryd.func189, Tryd.ntmps189
    go_wp2
    go_ret
    exact ⟨_, rfl, ⟨rfl, .inl ⟨rfl, rfl⟩⟩, Below.refl _ _⟩
  · have hrz : ∀ ty, (Builtin.append_ #[25, 3] ty #[.slice none 0 0, .int .i64 (n : Int)]).run Tryd.prog w =
        .ok (.slice (some ⟨w.heap.size, 0, none⟩) n (grownCap w n 0 37)) (w.drew.alloc (.cells (([] : List Value).toArray ++ Builtin.zeroCells (Value.slice none 0 0).cells n ++ Builtin.zeroCells (Value.slice none 0 0).cells (grownCap w n 0 37 - n)) 37)) := fun ty => by
      have h := Lib.run_append_grow_zeros (P := Tryd.prog) w 25 3 ty 37 i0 (.slice none 0 0) .i64 .i64 Tryd.underlying25 Tryd.underlying3 hi0 hz0 none 0 0 [] (run_firstCells_none w.drew i0.size 0 0 0) n (by omega) (by rw [hz1]; omega) (by omega) (by omega) (by rw [hz2]; omega) (growslice_fits (by omega) (by rw [hz2]; omega))
      rw [Nat.zero_add] at h
      exact h
    have hge : n ≤ grownCap w n 0 37 := grownCap_ge w _ _ _
    have hle := grownCap_le_maxLen w n 0 37 (by unfold maxLen; omega)
    unfold maxLen at hle
    have HO : Hid (∀ G, n ≤ G → G ≤ maxLen → (w.drew.alloc (.cells (([] : List Value).toArray ++ Builtin.zeroCells (Value.slice none 0 0).cells n ++ Builtin.zeroCells (Value.slice none 0 0).cells (G - n)) 37)).ownsRow w.heap.size 37 1 (.slice (some ⟨w.heap.size, 0, none⟩) 0 G) 0 []) := fun G h1 h2 =>
      ⟨rfl, .inr ⟨w.heap.size, G, _, rfl, Nat.le_refl _, heap_alloc_new w.drew _, by omega, h2, by simp [Builtin.zeroCells, Value.cells]; omega, by simp⟩⟩
    have HB : Hid (∀ G, Below w.heap.size w (w.drew.alloc (.cells (([] : List Value).toArray ++ Builtin.zeroCells (Value.slice none 0 0).cells n ++ Builtin.zeroCells (Value.slice none 0 0).cells (G - n)) 37))) := fun G => by go_grown
    generalize grownCap w n 0 37 = G at *
    have HOG := Lib.hid (HO.out G hge (by unfold maxLen; exact hle))
    have HBG := Lib.hid (HB.out G)
    clear HO HB
    generalize w.drew.alloc (.cells (([] : List Value).toArray ++ Builtin.zeroCells (Value.slice none 0 0).cells n ++ Builtin.zeroCells (Value.slice none 0 0).cells (G - n)) 37) = w2 at *
    go_enter Tryd.func189, Tryd.ntmps189
    go_wp2_with (at_builtin; refine Lib.wpList_append_run _ rfl _ _ _ _ rfl _ _ rfl rfl _ _ (hrz _) ?_)
    all_goals
      go_ret
      exact ⟨_, rfl, HOG.out, HBG.out⟩

/-- The cells from A on read as the values xs, below block B; each takes one cell. -/
def VRead (w : World) (B : Nat) (A : Option Addr) (xs : List Value) : Prop :=
  (0 < xs.length → ∃ b o, A = some ⟨b, o, none⟩ ∧ b < B ∧ ∀ (k : Nat) (x : Value), xs[k]? = some x → w.cell? ⟨b, o + k, none⟩ = some x) ∧ ∀ u ∈ xs, u.oneCell' = true
theorem VRead.keep {w w' : World} {B : Nat} {A : Option Addr} {xs : List Value} (h : VRead w B A xs) (hk : Below B w w') : VRead w' B A xs := by
  refine ⟨fun hn => ?_, h.2⟩
  obtain ⟨b, o, e, hb, hc⟩ := h.1 hn
  exact ⟨b, o, e, hb, fun k x hx => (hk.cell (p := ⟨b, o + k, none⟩) hb).trans (hc k x hx)⟩
theorem VRead.more {w : World} {B B' : Nat} {A : Option Addr} {xs : List Value} (h : VRead w B A xs) (hB : B ≤ B') : VRead w B' A xs := by
  refine ⟨fun hn => ?_, h.2⟩
  obtain ⟨b, o, e, hb, hc⟩ := h.1 hn
  exact ⟨b, o, e, by omega, hc⟩
theorem VRead.src {w : World} {B : Nat} {A : Option Addr} {xs : List Value} (h : VRead w B A xs) (hn : 0 < xs.length) : ∃ ad, A = some ad ∧ ∀ (j : Nat) (v : Value), xs[j]? = some v → w.cell? (ad.add j) = some v := by
  obtain ⟨b, o, e, _, hc⟩ := h.1 hn
  exact ⟨_, e, fun j v hv => by rw [Go.WideShapes.add_plain]; exact hc j v hv⟩
theorem Lls.vread {w : World} {B : Nat} {A : Option Addr} {ls : List Li} (h : Lls w B A ls) : VRead w B A (ls.map fun u => .slice u.a u.r.length u.c) := by
  refine ⟨fun hn => ?_, fun u hu => ?_⟩
  · obtain ⟨b, o, e, hb, hc⟩ := h (by simpa using hn)
    refine ⟨b, o, e, hb, fun k x hx => ?_⟩
    rw [List.getElem?_map] at hx
    cases e' : ls[k]? with
    | none => rw [e'] at hx; cases hx
    | some u => rw [e'] at hx; injection hx with hx; subst hx; exact (hc k u e').1
  · obtain ⟨v, _, rfl⟩ := List.mem_map.1 hu
    rfl

/-- A list as a slice in memory: where it lies, what it reads as, its capacity. -/
structure PtV where
  a : Option Addr
  r : List Value
  c : Nat
/-- The cells of block B are the slices ps. -/
def PtsV (w : World) (B : Nat) (ps : List PtV) : Prop := B < w.heap.size ∧ ∀ (k : Nat) (p : PtV), ps[k]? = some p → w.cell? ⟨B, k, none⟩ = some (.slice p.a p.r.length p.c) ∧ VRead w w.heap.size p.a p.r
theorem PtsV.keep {w w' : World} {B : Nat} {ps : List PtV} (h : PtsV w B ps) (hb : Below w.heap.size w w') : PtsV w' B ps :=
  ⟨Nat.lt_of_lt_of_le h.1 hb.size, fun k p hk => ⟨(hb.cell (p := ⟨B, k, none⟩) h.1).trans (h.2 k p hk).1, ((h.2 k p hk).2.keep hb).more hb.size⟩⟩
def catV (ps : List PtV) : List Value := ps.flatMap PtV.r
theorem catV_take {ps : List PtV} {k : Nat} (h : k < ps.length) : catV (ps.take (k + 1)) = catV (ps.take k) ++ ps[k].r := by
  unfold catV
  rw [List.take_add_one, List.getElem?_eq_getElem h, List.flatMap_append]
  simp
theorem catV_le {ps : List PtV} (k : Nat) : (catV (ps.take k)).length ≤ (catV ps).length := by
  have h : catV ps = catV (ps.take k) ++ catV (ps.drop k) := by unfold catV; rw [← List.flatMap_append, List.take_append_drop]
  rw [h, List.length_append]
  omega

set_option maxRecDepth 20000 in
set_option maxHeartbeats 1000000 in
theorem concatV_any (B : Nat) (ps : List PtV) (c : Nat) (w : World) (hP : PtsV w B ps) (hn : (catV ps).length ≤ 4194304) (hl : ps.length ≤ 4194304) :
    Calls Tryd.prog 147 #[.slice (some ⟨B, 0, none⟩) ps.length c] w fun e w' => ∃ v, e = .returned v ∧ w'.ownsRow w.heap.size 37 1 v (catV ps).length ((catV ps)) ∧ Below w.heap.size w w' := by
  obtain ⟨i0, hi0, hz0, hz1, hz2⟩ := info_of Tryd.infoIntS
  have HP := Lib.hid hP; clear hP
  go_enter Tryd.func147, Tryd.ntmps147
  go_wp2
  go_loopw [3, 11] (fun z i wr => ∃ (k m : Nat), k ≤ ps.length ∧ i = .int .i64 k ∧ z = .int .i64 m ∧ Hid (m = (catV (ps.take k)).length) ∧ wr = w) (fun _ i _ => ps.length - (intOf i).toNat)
  case atStart => exact ⟨0, 0, by omega, rfl, rfl, rfl, rfl⟩
  case round =>
    obtain ⟨k, m, hk, rfl, rfl, HM, hwr⟩ := hrel
    subst hwr
    by_cases hlt : k < ps.length
    · obtain ⟨c1, _⟩ := HP.out.2 k ps[k] (List.getElem?_eq_getElem hlt)
      have HN : Hid (m + ps[k].r.length = (catV (ps.take (k + 1))).length) := by show _ = _; rw [catV_take hlt, List.length_append, HM.out]
      have hm : m + ps[k].r.length ≤ 4194304 := by have := HN.out; have := catV_le (ps := ps) (k + 1); omega
      go_wp2
      go_roundw
      case rel => exact ⟨k + 1, m + ps[k].r.length, by omega, by go_num, by go_num, HN.out, trivial⟩
      case measure => simp [intOf]; omega
    · obtain rfl : k = ps.length := by omega
      have hm : m = (catV ps).length := by have := HM.out; rw [List.take_length] at this; exact this
      have hml : m ≤ 4194304 := by omega
      have HMM := Lib.hid hm; clear hm HM
      obtain ⟨wO, hwO⟩ : ∃ x, x = wr := ⟨_, rfl⟩
      subst hwO
      go_wp2_with fail
      refine (growNilL_any m hml _).mono ?_
      rintro e w1 ⟨v1, rfl, hO1, hB1⟩
      have HO1 : Hid (w1.ownsRow wO.heap.size 37 1 v1 (catV (ps.take 0)).length ((catV (ps.take 0)))) := hO1
      have HB1 := Lib.hid hB1
      clear hO1 hB1
      go_wp2
      go_loopw [6, 27] (fun v i wr => ∃ (k : Nat), k ≤ ps.length ∧ i = .int .i64 k ∧ Hid (wr.ownsRow wO.heap.size 37 1 v (catV (ps.take k)).length ((catV (ps.take k)))) ∧ Hid (Below wO.heap.size wO wr)) (fun _ i _ => ps.length - (intOf i).toNat)
      case atStart => exact ⟨0, by omega, rfl, HO1.out, HB1.out⟩
      case round =>
        obtain ⟨k, hk, rfl, HO, HB⟩ := hrel
        clear HO1 HB1
        by_cases hlt : k < ps.length
        · have hPk := HP.out.keep HB.out
          obtain ⟨c1, c2⟩ := hPk.2 k ps[k] (List.getElem?_eq_getElem hlt)
          have HC := Lib.hid (catV_take hlt)
          have hlk : (catV (ps.take k)).length + ps[k].r.length ≤ 4194304 := by have h1 := catV_le (ps := ps) (k + 1); rw [HC.out, List.length_append] at h1; omega
          clear hPk
          generalize ps[k] = p at c1 c2 HC hlk
          obtain ⟨pa, pr, pc⟩ := p
          dsimp only at c1 c2 HC hlk
          have HC2 := Lib.hid c2; clear c2
          rcases pa with _ | ad
          · have hx : pr = [] := by
              rcases pr with _ | ⟨x, xs⟩
              · rfl
              · obtain ⟨_, _, e, _⟩ := HC2.out.1 (by simp)
                cases e
            subst hx
            have HON : Hid (wr.ownsRow wO.heap.size 37 1 u6 (catV (ps.take (k + 1))).length ((catV (ps.take (k + 1))))) := by have h := HO.out; show World.ownsRow _ _ _ _ _ _ _; rw [HC.out, List.append_nil]; exact h
            go_wp2_with (at_builtin
                         refine append_nil_at rfl (.tmp 31) (.tmp 32) _ rfl wO.heap.size 37 i0 1 Tryd.underlying25 hi0 _ _ _ rfl HO.out pc rfl ?_)
            go_roundw
            case rel => exact ⟨k + 1, by omega, by go_num, HON.out, HB.out⟩
            case measure => simp [intOf]; omega
          · have HV1 := Lib.hid HC2.out.2
            have HN : Hid (∀ (j : Nat) (v : Value), (pr)[j]? = some v → wr.cell? (ad.add j) = some v) := fun j v hv => by
              have hp : 0 < pr.length := by have := (List.getElem?_eq_some_iff.1 hv).1; omega
              obtain ⟨ad', e, h⟩ := HC2.out.src hp
              injection e with e
              subst e
              exact h j v hv
            have hws : wO.heap.size ≤ wr.heap.size := HB.out.size
            go_wp2_with (at_builtin
                         refine wpList_append_own _ rfl (.tmp 31) (.tmp 32) _ rfl wO.heap.size 37 i0 _ 1 24 Tryd.underlying25 hi0 hz0 hz1 hz2 rfl (by omega) _ _ _ rfl HO.out ad pr.length pc (pr) rfl (by omega) HN.out HV1.out (by unfold maxLen; omega) (by omega) (by omega) ?_
                         intro v' w' h1 h2 h3
                         have HO1 := Lib.hid h1
                         have HB2 : Hid (Below wO.heap.size wO w') := HB.out.grown h2 HB.out.size fun j hj => (HO.out.lt j hj).1
                         clear h1 h2 h3)
            go_roundw
            case rel =>
              refine ⟨k + 1, by omega, by go_num, ?_, HB2.out⟩
              show World.ownsRow _ _ _ _ _ _ _
              rw [HC.out, List.length_append]
              have h := HO1.out
              exact h
            case measure => simp [intOf]; omega
        · obtain rfl : k = ps.length := by omega
          have HOE : Hid (wr.ownsRow wO.heap.size 37 1 u6 (catV ps).length ((catV ps))) := by have h := HO.out; rw [List.take_length] at h; exact h
          go_wp2
          go_ret
          exact ⟨_, rfl, HOE.out, HB.out⟩

end Go.Proofs.YtaobkanliiiapaaDoor

/- The program's binaryRules: the rules of a binary grammar. -/

namespace Go.Proofs.YtaobkanliiiapaaDoor
open Go.RowKit

def ruleOf (x : List Int) : Int × List Int := (x.headD 0, x.tail)
/-- The rules of a binary grammar. -/
def bRules (P O : List (List Int)) (E : List Int) : List (Int × List Int) := (P ++ O).map ruleOf ++ E.map fun e => (e, [])

theorem own_cells {w : World} {lo : Nat} {e : TypeId} {v : Value} {xs : List Value} (h : w.ownsRow lo e 1 v xs.length xs) :
    ∃ A c, v = .slice A xs.length c ∧ xs.length ≤ c ∧ ∀ (k : Nat) (x : Value), xs[k]? = some x → ∃ g, A = some ⟨g, 0, none⟩ ∧ lo ≤ g ∧ g < w.heap.size ∧ w.cell? ⟨g, k, none⟩ = some x := by
  obtain ⟨_, ⟨rfl, h0⟩ | ⟨g, cap, cur, rfl, hlo, hg, hcap, _, _, hx⟩⟩ := h
  · have : xs = [] := List.eq_nil_of_length_eq_zero h0
    subst this
    exact ⟨none, 0, rfl, Nat.le_refl _, fun k x hk => by simp at hk⟩
  · refine ⟨_, cap, rfl, hcap, fun k x hk => ⟨g, rfl, hlo, Row.lt (t := e) hg, ?_⟩⟩
    rw [Row.cell (t := e) hg]
    have hl := (List.getElem?_eq_some_iff.1 hk).1
    rw [← hx, List.getElem?_take, if_pos (by omega)] at hk
    simpa using hk

/-- The rules ds say ss, and their right sides can be read in w, below block B. -/
structure RulD (w : World) (B : Nat) (ds : List Ru) (ss : List (Int × List Int)) : Prop where
  say : ds.map Ru.abs = ss
  read : ∀ u ∈ ds, Ints w B u.a u.r
  caps : ∀ u ∈ ds, u.r.length ≤ u.c
theorem RulD.start (w : World) (B : Nat) : RulD w B [] [] := ⟨rfl, fun u h => by simp at h, fun u h => by simp at h⟩
theorem RulD.snoc {w : World} {B : Nat} {ds : List Ru} {ss : List (Int × List Int)} (h : RulD w B ds ss) {u : Ru} (hu : Ints w B u.a u.r) (hc : u.r.length ≤ u.c) : RulD w B (ds ++ [u]) (ss ++ [u.abs]) :=
  ⟨by rw [List.map_append, h.say]; rfl, fun v hv => (List.mem_append.1 hv).elim (h.read v) fun e => by rw [List.mem_singleton.1 e]; exact hu, fun v hv => (List.mem_append.1 hv).elim (h.caps v) fun e => by rw [List.mem_singleton.1 e]; exact hc⟩
theorem RulD.len {w : World} {B : Nat} {ds : List Ru} {ss : List (Int × List Int)} (h : RulD w B ds ss) : ds.length = ss.length := by rw [← h.say, List.length_map]

/-- A new slice of rules that say ss, with right sides that were there before; nothing older has turned. -/
def GaveRul (w : World) (B : Nat) (ss : List (Int × List Int)) (e : Ending) (w' : World) : Prop :=
  ∃ v rs, e = .returned v ∧ w'.ownsRow w.heap.size 106 2 v rs.length (rs.flatMap cellsU) ∧ RulD w B rs ss ∧ Below w.heap.size w w'

theorem rls_of {w w' : World} {B lo k : Nat} {v : Value} {ds : List Ru} {ss : List (Int × List Int)} (h : RulD w B ds ss) (h1 : ds.length = k) (h2 : w'.ownsRow lo 106 2 v k (ds.flatMap cellsU)) (hB : Below B w w') (hB2 : B ≤ w'.heap.size) : ∃ A c, v = .slice A ds.length c ∧ ds.length ≤ c ∧ Rls w' w'.heap.size A ds := by
  subst h1
  obtain ⟨_, ⟨rfl, h0⟩ | ⟨g, cap, cur, rfl, hlo, hg, hcap, _, _, hx⟩⟩ := h2
  · have : ds = [] := List.eq_nil_of_length_eq_zero h0
    subst this
    exact ⟨none, 0, rfl, Nat.le_refl _, fun hn => by simp at hn⟩
  · refine ⟨_, cap, rfl, hcap, fun _ => ⟨g, 0, rfl, Row.lt (t := 106) hg, fun k u hu => ?_⟩⟩
    have hk := (List.getElem?_eq_some_iff.1 hu).1
    obtain ⟨f1, f2⟩ := flat_get hu
    rw [← hx] at f1 f2
    rw [List.getElem?_take, if_pos (by omega)] at f1 f2
    rw [Nat.zero_add, Row.cell (t := 106) hg, Row.cell (t := 106) hg]
    exact ⟨by simpa using f1, by simpa using f2, ((h.read u (List.mem_of_getElem? hu)).keep hB).more hB2⟩

theorem own_lower {w : World} {lo lo' : Nat} {e : TypeId} {size n : Nat} {v : Value} {xs : List Value} (h : w.ownsRow lo e size v n xs) (hl : lo' ≤ lo) : w.ownsRow lo' e size v n xs := by
  obtain ⟨h1, h2 | ⟨g, cap, cur, e1, h3, h4⟩⟩ := h
  · exact ⟨h1, .inl h2⟩
  · exact ⟨h1, .inr ⟨g, cap, cur, e1, by omega, h4⟩⟩
theorem own_snocR {w : World} {lo k : Nat} {v : Value} {ds : List Ru} (u : Ru) (h : w.ownsRow lo 106 2 v k (ds.flatMap cellsU ++ [.int .i64 u.l, .slice u.a u.r.length u.c])) : w.ownsRow lo 106 2 v k ((ds ++ [u]).flatMap cellsU) := by
  rw [List.flatMap_append]
  simpa [cellsU] using h

set_option maxRecDepth 20000 in
set_option maxHeartbeats 1000000 in
theorem binaryRules_any (b : Bi) (B : Nat) (w : World) (hBB : B ≤ w.heap.size) (hr : ReadB w B b) (hm : LenB 1048576 b) (hp : ∀ u ∈ b.P ++ b.O, 2 ≤ u.r.length ∧ u.r.length ≤ 3) :
    Calls Tryd.prog 103 #[(.agg #[.int .i64 b.n, .int .i64 b.t, .slice b.Ap b.P.length b.cp, .slice b.Ao b.O.length b.co, .slice b.Ae b.E.length b.ce, .slice b.Af b.F.length b.cf])] w (GaveRul w B (bRules (sayL b.P) (sayL b.O) b.E)) := by
  have HR := Lib.hid hr; clear hr
  have HP := Lib.hid hp; clear hp
  have h1 := hm.p
  have h2 := hm.o
  have h3 := hm.e
  clear hm
  obtain ⟨i0, hi0, hz0, hz1, hz2⟩ := info_of Tryd.infoRule
  have HB0 : Hid (Below w.heap.size w ((w.alloc (.cells #[.int .i64 b.n, .int .i64 b.t, .slice b.Ap b.P.length b.cp, .slice b.Ao b.O.length b.co, .slice b.Ae b.E.length b.ce, .slice b.Af b.F.length b.cf] 41)).alloc (.cells #[.slice b.Ap b.P.length b.cp, .slice b.Ao b.O.length b.co] 25))) := by show Below _ _ _; go_grown
  have HR0 : Hid (Row ((w.alloc (.cells #[.int .i64 b.n, .int .i64 b.t, .slice b.Ap b.P.length b.cp, .slice b.Ao b.O.length b.co, .slice b.Ae b.E.length b.ce, .slice b.Af b.F.length b.cf] 41)).alloc (.cells #[.slice b.Ap b.P.length b.cp, .slice b.Ao b.O.length b.co] 25)) w.heap.size 41 #[.int .i64 b.n, .int .i64 b.t, .slice b.Ap b.P.length b.cp, .slice b.Ao b.O.length b.co, .slice b.Ae b.E.length b.ce, .slice b.Af b.F.length b.cf]) := (Row.new _ _ _).alloc _
  have HPT : Hid (PtsV ((w.alloc (.cells #[.int .i64 b.n, .int .i64 b.t, .slice b.Ap b.P.length b.cp, .slice b.Ao b.O.length b.co, .slice b.Ae b.E.length b.ce, .slice b.Af b.F.length b.cf] 41)).alloc (.cells #[.slice b.Ap b.P.length b.cp, .slice b.Ao b.O.length b.co] 25)) (w.heap.size + 1) [⟨b.Ap, b.P.map fun u => .slice u.a u.r.length u.c, b.cp⟩, ⟨b.Ao, b.O.map fun u => .slice u.a u.r.length u.c, b.co⟩]) := by
    refine ⟨by simp, fun k p hk => ?_⟩
    rcases k with _ | _ | k
    · simp at hk
      subst hk
      exact ⟨by simp [go_sem], ((HR.out.1.vread).keep (HB0.out.mono hBB)).more (Nat.le_trans hBB HB0.out.size)⟩
    · simp at hk
      subst hk
      exact ⟨by simp [go_sem], ((HR.out.2.1.vread).keep (HB0.out.mono hBB)).more (Nat.le_trans hBB HB0.out.size)⟩
    · simp at hk
  have HC := Lib.hid (concatV_any (w.heap.size + 1) _ 2 _ HPT.out (by simp [catV]; omega) (by simp))
  have hcat : catV [⟨b.Ap, b.P.map fun u => .slice u.a u.r.length u.c, b.cp⟩, ⟨b.Ao, b.O.map fun u => .slice u.a u.r.length u.c, b.co⟩] = (b.P ++ b.O).map fun u => (.slice u.a u.r.length u.c : Value) := by simp [catV]
  rw [hcat] at HC
  clear hcat HPT
  go_enter Tryd.func103, Tryd.ntmps103
  go_wp2_with fail
  refine HC.out.mono ?_
  rintro e w1 ⟨v, rfl, hO1, hB1⟩
  rw [show ((b.P ++ b.O).map fun u => (.slice u.a u.r.length u.c : Value)).length = ((b.P ++ b.O).map fun u => (.slice u.a u.r.length u.c : Value)).length from rfl] at hO1
  obtain ⟨A1, c1, rfl, hc1, hv1⟩ := own_cells hO1
  have HR1 := Lib.hid (HR0.out.below hB1 HR0.out.lt)
  have HB1 : Hid (Below w.heap.size w w1) := HB0.out.trans (hB1.mono HB0.out.size)
  have HZ1 : Hid (w.heap.size + 2 ≤ w1.heap.size) := by have h := hB1.size; rw [World.size_alloc, World.size_alloc] at h; exact h
  have HRD : Hid (∀ u ∈ b.P ++ b.O, u.r.length ≤ u.c ∧ Ints w B u.a u.r) := fun u hu => by
    rcases List.mem_append.1 hu with hu | hu
    · obtain ⟨k, hk, e⟩ := List.getElem_of_mem hu
      obtain ⟨_, _, _, _, _, h, h'⟩ := HR.out.1.at_ hk
      rw [e] at h h'; exact ⟨h, h'⟩
    · obtain ⟨k, hk, e⟩ := List.getElem_of_mem hu
      obtain ⟨_, _, _, _, _, h, h'⟩ := HR.out.2.1.at_ hk
      rw [e] at h h'; exact ⟨h, h'⟩
  have hLl : (b.P ++ b.O).length ≤ 2097152 := by rw [List.length_append]; omega
  have HSL : Hid ((b.P ++ b.O).map Li.r = sayL b.P ++ sayL b.O) := by show _ = _; rw [List.map_append]; rfl
  rw [List.length_map] at hc1 ⊢
  have HV1 : Hid (∀ (k : Nat) (u : Li), (b.P ++ b.O)[k]? = some u → ∃ g, A1 = some ⟨g, 0, none⟩ ∧ g < w1.heap.size ∧ w1.cell? ⟨g, k, none⟩ = some (.slice u.a u.r.length u.c)) := fun k u hu => by
    obtain ⟨g, e, _, hg, h⟩ := hv1 k (.slice u.a u.r.length u.c) (by rw [List.getElem?_map, hu]; rfl)
    exact ⟨g, e, hg, h⟩
  clear hO1 hB1 hv1 HC HB0 HR0
  generalize b.P ++ b.O = L at *
  go_wp2
  go_loopw [3, 15] (fun v y wr => ∃ (k : Nat) (ds : List Ru), k ≤ L.length ∧ y = .int .i64 k ∧ Hid (ds.length = k) ∧ Hid (Below w1.heap.size w1 wr) ∧ Hid (wr.ownsRow w1.heap.size 106 2 v k (ds.flatMap cellsU)) ∧ Hid (RulD w B ds (((L.take k).map Li.r).map ruleOf))) (fun _ y _ => L.length - (intOf y).toNat)
  case atStart => exact ⟨0, [], by omega, rfl, rfl, Below.refl _ _, ⟨rfl, .inl ⟨rfl, rfl⟩⟩, RulD.start _ _⟩
  case round =>
    obtain ⟨k, ds, hk, rfl, HDL, HB, HOW, HD⟩ := hrel
    by_cases hlt : k < L.length
    · obtain ⟨g, rfl, hg, d1⟩ := HV1.out k L[k] (List.getElem?_eq_getElem hlt)
      have d1' := (HB.out.cell (p := ⟨g, k, none⟩) hg).trans d1
      have hl2 := HP.out L[k] (List.getElem_mem hlt)
      have HI := Lib.hid (HRD.out L[k] (List.getElem_mem hlt)).2
      have huc := (HRD.out L[k] (List.getElem_mem hlt)).1
      have HTK : Hid (((L.take (k + 1)).map Li.r).map ruleOf = ((L.take k).map Li.r).map ruleOf ++ [ruleOf L[k].r]) := by show _ = _; rw [List.take_succ_eq_append_getElem hlt, List.map_append, List.map_append]; rfl
      clear d1
      generalize L[k] = u at d1' hl2 HI HTK huc
      obtain ⟨ua, ur, uc⟩ := u
      dsimp only at d1' hl2 HI HTK huc
      obtain ⟨bb, oo, rfl, hbb, hcc⟩ := HI.out (by omega)
      rcases ur with _ | ⟨y, ur⟩
      · simp at hl2
      have HBW := Lib.hid (HB1.out.trans (HB.out.mono HB1.out.size))
      have e0 := (HBW.out.cell (p := ⟨bb, oo, none⟩) (Nat.lt_of_lt_of_le hbb hBB)).trans (hcc 0 y rfl)
      have HIT : Hid (Ints w B (some ⟨bb, oo + 1, none⟩) ur) := fun _ => ⟨bb, oo + 1, rfl, hbb, fun k x hx => by rw [Nat.add_assoc, Nat.add_comm 1 k]; exact hcc (k + 1) x (by simpa using hx)⟩
      clear hcc HI
      have hul : 1 ≤ ur.length := by simp at hl2; omega
      have hul2 : ur.length ≤ 2 := by simp at hl2; omega
      have hlc : (y :: ur).length = ur.length + 1 := rfl
      rw [hlc] at d1' huc
      clear hlc hl2
      have hs := HB.out.size
      go_wp2_with fail
      have hI1 : (0 : Int) ≤ (ur.length : Int) + 1 := by omega
      have hI2 : (ur.length : Int) + 1 ≤ (uc : Int) := by omega
      have hI3 : (1 : Int) ≤ (ur.length : Int) + 1 := by omega
      have hne : ur ≠ [] := fun e => by subst e; simp at hul
      have HVB : Hid (∀ b, u3.ownBlock = some b → w1.heap.size ≤ b ∧ b < wr.heap.size) := fun b e => HOW.out.lt b e
      go_region_law (first
        | (refine step_append_lies _ rfl _ _ _ rfl w1.heap.size 106 i0 _ 2 32 Tryd.underlying52 hi0 hz0 hz1 hz2 rfl (by omega) u3 k (ds.flatMap cellsU) (by simp [Act.eval]) ((own_below HOW.out (by go_grown)).alloc _)
             ⟨wr.heap.size, 0, none⟩ 1 1 [.int .i64 y, .slice (some ⟨bb, oo + 1, none⟩) ur.length ur.length] (by simp [Act.eval]) rfl (two_new _ _ _ _) (by simp [Value.oneCell'])
             (by omega) (by unfold maxLen; omega) (by omega) (by simp; omega) (wr.heap.size + 1) (by simp) ?_
           intro gg cap w' p1 p2 p3 p4
           have HON : Hid (w'.ownsRow w1.heap.size 106 2 (.slice (some ⟨gg, 0, none⟩) (k + 1) cap) (k + 1) ((ds ++ [(⟨y, some ⟨bb, oo + 1, none⟩, ur, ur.length⟩ : Ru)]).flatMap cellsU)) := own_snocR ⟨y, some ⟨bb, oo + 1, none⟩, ur, ur.length⟩ p1
           have hBn : Below w1.heap.size wr w' := Below.grown (by go_grown) p2 (by simp; omega) fun j hj => (HOW.out.lt j hj).1
           have HBn := Lib.hid (HB.out.trans hBn)
           clear p1 p2 p3 p4 hBn)
        | fail)
      all_goals
        clear hI1 hI2 hI3
        go_wp2
        go_roundw
        case rel => exact ⟨k + 1, _, by omega, by go_num, by show _ = _; rw [List.length_append, HDL.out]; rfl, HBn.out, HON.out, by show RulD _ _ _ _; rw [HTK.out]; exact HD.out.snoc HIT.out (Nat.le_refl _)⟩
        case measure => simp [intOf]; omega
    · obtain rfl : k = L.length := by omega
      have HDA : Hid (RulD w B ds ((sayL b.P ++ sayL b.O).map ruleOf)) := by have h := HD.out; rw [List.take_length, HSL.out] at h; exact h
      have HBW := Lib.hid (HB1.out.trans (HB.out.mono HB1.out.size))
      have HR2 := Lib.hid (HR1.out.below HB.out HR1.out.lt)
      have hs := HB.out.size
      have hdl : ds.length ≤ 2097152 := by have := HDL.out; omega
      have HOW2 : Hid (wr.ownsRow w1.heap.size 106 2 u3 ds.length (ds.flatMap cellsU)) := by have h := HOW.out; rw [← HDL.out] at h; exact h
      clear HD HR1 HOW HDL HV1 HRD HSL HP
      have x4 := HR2.out.cell 4
      simp only [List.getElem?_toArray, List.getElem?_cons_succ, List.getElem?_cons_zero] at x4
      obtain ⟨wA, hwA⟩ : ∃ x, x = wr := ⟨wr, rfl⟩
      subst hwA
      obtain ⟨fs, hfs⟩ : ∃ x, x = ds := ⟨_, rfl⟩
      subst hfs
      go_wp2
      clear x4
      go_loopw [3, 36] (fun v y wr => ∃ (k : Nat) (ds : List Ru), k ≤ b.E.length ∧ y = .int .i64 k ∧ Hid (ds.length = fs.length + k) ∧ Hid (Below w1.heap.size w1 wr) ∧ Hid (wr.ownsRow w1.heap.size 106 2 v ds.length (ds.flatMap cellsU)) ∧ Hid (RulD w B ds ((sayL b.P ++ sayL b.O).map ruleOf ++ (b.E.take k).map fun e => (e, [])))) (fun _ y _ => b.E.length - (intOf y).toNat)
      case atStart => exact ⟨0, fs, by omega, rfl, rfl, HB.out, HOW2.out, by show RulD _ _ _ _; rw [List.take_zero, List.map_nil, List.append_nil]; exact HDA.out⟩
      case round =>
        clear HB HDA HOW2
        obtain ⟨k, ds, hk, rfl, HDL, HB, HOW, HD⟩ := hrel
        by_cases hlt2 : k < b.E.length
        · have hsz := HB.out.size
          have HBX := Lib.hid (HB1.out.trans (HB.out.mono HB1.out.size))
          obtain ⟨bb, oo, ea, hbb, e0⟩ := (HR.out.2.2.1.keep (HBX.out.mono hBB)).at_ hlt2
          have hdd : ds.length ≤ 4194304 := by have := HDL.out; omega
          have HTK : Hid ((b.E.take (k + 1)).map (fun e => ((e, []) : Int × List Int)) = (b.E.take k).map (fun e => (e, [])) ++ [(b.E[k], [])]) := by show _ = _; rw [List.take_succ_eq_append_getElem hlt2, List.map_append]; rfl
          rw [ea]
          have HOD : Hid ((wr.alloc (.cells #[.int .i64 b.E[k], .slice none 0 0] 106)).ownsRow w1.heap.size 106 2 u3 ds.length (ds.flatMap cellsU)) := HOW.out.alloc _
          have HND := Lib.hid (two_new wr (.int .i64 b.E[k]) (.slice none 0 0) 106)
          go_wp2_with (at_builtin
                       refine wpList_append_own _ rfl (.tmp 40) (.tmp 43) _ rfl w1.heap.size 106 i0 _ 2 32 Tryd.underlying52 hi0 hz0 hz1 hz2 rfl (by omega) _ _ _ rfl HOD.out ⟨wr.heap.size, 0, none⟩ 1 1 [.int .i64 b.E[k], .slice none 0 0] rfl rfl HND.out (by simp [Value.oneCell']) (by unfold maxLen; omega) (by omega) (by simp; omega) ?_
                       intro v' w' p1 p2 p3
                       have HON : Hid (w'.ownsRow w1.heap.size 106 2 v' (ds ++ [(⟨b.E[k], none, [], 0⟩ : Ru)]).length ((ds ++ [(⟨b.E[k], none, [], 0⟩ : Ru)]).flatMap cellsU)) := by show World.ownsRow _ _ _ _ _ _ _; rw [List.length_append]; exact own_snocR ⟨b.E[k], none, [], 0⟩ p1
                       have hBn : Below w1.heap.size wr w' := ((Below.refl _ _).alloc (by omega) _).grown p2 (by simp; omega) fun j hj => (HOW.out.lt j hj).1
                       have HBn := Lib.hid (HB.out.trans hBn)
                       clear p1 p2 p3 hBn)
          go_roundw
          case rel => exact ⟨k + 1, _, by omega, by go_num, by have := HDL.out; show _ = _; rw [List.length_append]; simp; omega, HBn.out, HON.out, by show RulD _ _ _ _; rw [HTK.out, ← List.append_assoc]; exact HD.out.snoc (u := ⟨b.E[k], none, [], 0⟩) (fun h => by simp at h) (Nat.le_refl _)⟩
          case measure => simp [intOf]; omega
        · obtain rfl : k = b.E.length := by omega
          have HBX := Lib.hid (HB1.out.trans (HB.out.mono HB1.out.size))
          have HSY : Hid (RulD w B ds (bRules (sayL b.P) (sayL b.O) b.E)) := by have h := HD.out; rw [List.take_length] at h; exact h
          have HOW2 : Hid (wr.ownsRow w.heap.size 106 2 u3 ds.length (ds.flatMap cellsU)) := own_lower HOW.out HB1.out.size
          go_wp2
          go_ret
          exact ⟨_, ds, rfl, HOW2.out, HSY.out, HBX.out⟩

end Go.Proofs.YtaobkanliiiapaaDoor

/- The reference's l5Insert: a list put into its place among rising lists. -/

namespace Go.Proofs.YtaobkanliiiapaaDoor
open Go.RowKit

/-- A slice of lists that is the call's own; the lists can be read. -/
structure LsR (w : World) (lo : Nat) (v : Value) (ds : List Li) : Prop where
  row : w.ownsRow lo 37 1 v ds.length (ds.map cellsL)
  caps : ∀ u ∈ ds, u.r.length ≤ u.c
  own : ∀ u ∈ ds, OwnI w lo u.a u.r
  far : ds.Pairwise fun u v => u.r ≠ [] → v.r ≠ [] → u.a ≠ v.a
theorem LsR.start (w : World) (lo : Nat) : LsR w lo (.slice none 0 0) [] := ⟨⟨rfl, .inl ⟨rfl, rfl⟩⟩, fun u h => by simp at h, fun u h => by simp at h, List.Pairwise.nil⟩
/-- A list that was made later lies apart. -/
theorem LsR.apart {w w1 : World} {lo : Nat} {v : Value} {ds : List Li} {A : Option Addr} {xs : List Int} (h : LsR w lo v ds) (hO : OwnI w1 w.heap.size A xs) : ∀ u ∈ ds, u.r ≠ [] → xs ≠ [] → u.a ≠ A := by
  intro u hu hne hne' he
  rcases h.own u hu with h6 | ⟨g1, _, e1, _, r1, _⟩
  · exact hne h6
  · rcases hO with h7 | ⟨g2, _, e2, l2, _, _⟩
    · exact hne' h7
    · rw [e1, e2] at he
      have := r1.lt
      injection he with he
      injection he with he
      omega
theorem LsR.keep {w w' : World} {lo : Nat} {v : Value} {ds : List Li} (h : LsR w lo v ds) (hb : Below w.heap.size w w') : LsR w' lo v ds :=
  ⟨own_below h.row hb, h.caps, fun u hu => (h.own u hu).below hb (Nat.le_refl _), h.far⟩
theorem LsR.shape {w : World} {lo : Nat} {v : Value} {ds : List Li} (h : LsR w lo v ds) : ∃ A c, v = .slice A ds.length c ∧ ds.length ≤ c ∧ Lls w w.heap.size A ds ∧ (A = none ∨ ∃ b q, A = some ⟨b, q, none⟩) := by
  rcases h.row.2 with ⟨rfl, h0⟩ | ⟨g, cap, cur, rfl, hlo, hg, hcap, _, _, hx⟩
  · exact ⟨none, 0, by rw [h0], by omega, fun h => by omega, .inl rfl⟩
  · refine ⟨_, cap, rfl, hcap, fun _ => ⟨g, 0, rfl, Row.lt (t := 37) hg, fun k u hu => ?_⟩, .inr ⟨g, 0, rfl⟩⟩
    have hk := (List.getElem?_eq_some_iff.1 hu).1
    have f1 : (ds.map cellsL)[k]? = some (cellsL u) := by rw [List.getElem?_map, hu]; rfl
    rw [← hx, List.getElem?_take, if_pos (by omega)] at f1
    refine ⟨?_, h.caps u (List.mem_of_getElem? hu), (h.own u (List.mem_of_getElem? hu)).ints⟩
    rw [Nat.zero_add, Row.cell (t := 37) hg]
    simpa [cellsL] using f1

theorem far_put {ds : List Li} {k : Nat} {A : Option Addr} {xs : List Int} {c : Nat} (h : ds.Pairwise fun u v => u.r ≠ [] → v.r ≠ [] → u.a ≠ v.a) (hap : ∀ u ∈ ds, u.r ≠ [] → xs ≠ [] → u.a ≠ A) : (ds.take k ++ [(⟨A, xs, c⟩ : Li)] ++ ds.drop k).Pairwise fun u v => u.r ≠ [] → v.r ≠ [] → u.a ≠ v.a := by
  have hsp : (ds.take k ++ ds.drop k).Pairwise (fun u v => u.r ≠ [] → v.r ≠ [] → u.a ≠ v.a) := by rw [List.take_append_drop]; exact h
  obtain ⟨p1, p2, p3⟩ := List.pairwise_append.1 hsp
  rw [List.append_assoc]
  refine List.pairwise_append.2 ⟨p1, List.pairwise_append.2 ⟨by simp, p2, fun a h b hb => ?_⟩, fun a h b hb => ?_⟩
  · rw [List.mem_singleton] at h
    subst h
    exact fun h1 h2 e => hap b (List.mem_of_mem_drop hb) h2 h1 e.symm
  · rcases List.mem_append.1 hb with h' | h'
    · rw [List.mem_singleton] at h'
      subst h'
      exact fun h1 h2 => hap a (List.mem_of_mem_take h) h1 h2
    · exact p3 a h b h'
theorem LsR.ownL {w : World} {lo : Nat} {v : Value} {ds : List Li} (h : LsR w lo v ds) : ∃ A c, v = .slice A ds.length c ∧ ds.length ≤ c ∧ OwnL w lo A ds := by
  obtain ⟨_, ⟨rfl, h0⟩ | ⟨g, cap, cur, rfl, hlo, hg, hcap, _, _, hx⟩⟩ := h.row
  · have : ds = [] := List.eq_nil_of_length_eq_zero h0
    subst this
    exact ⟨none, 0, rfl, Nat.le_refl _, .inl rfl⟩
  · refine ⟨_, cap, rfl, hcap, .inr ⟨g, cur, rfl, hlo, hg, fun k u hu => ?_, fun i j u v hu hv hij => ?_⟩⟩
    · have hk := (List.getElem?_eq_some_iff.1 hu).1
      have f1 : (ds.map cellsL)[k]? = some (cellsL u) := by rw [List.getElem?_map, hu]; rfl
      rw [← hx, List.getElem?_take, if_pos (by omega)] at f1
      exact ⟨by simpa [cellsL] using f1, h.caps u (List.mem_of_getElem? hu), h.own u (List.mem_of_getElem? hu)⟩
    · obtain ⟨hi, eu⟩ := List.getElem?_eq_some_iff.1 hu
      obtain ⟨hj, ev⟩ := List.getElem?_eq_some_iff.1 hv
      subst eu ev
      rcases Nat.lt_or_gt_of_ne hij with h1 | h1
      · exact List.pairwise_iff_getElem.1 h.far i j hi hj h1
      · exact fun a b e => List.pairwise_iff_getElem.1 h.far j i hj hi h1 b a e.symm

theorem own_emptyL (w : World) : (w.alloc (.cells #[] 37)).ownsRow w.heap.size 37 1 (.slice (some ⟨w.heap.size, 0, none⟩) 0 0) 0 [] :=
  ⟨rfl, .inr ⟨w.heap.size, 0, #[], rfl, Nat.le_refl _, heap_alloc_new w _, Nat.le_refl _, by unfold maxLen; omega, rfl, rfl⟩⟩
theorem cellsL_one (ds : List Li) : ∀ u ∈ ds.map cellsL, u.oneCell' = true := fun u hu => by
  obtain ⟨x, _, rfl⟩ := List.mem_map.1 hu
  rfl
/-- What an owned row of lists looks like, and its cells. -/
theorem own_cellsL {w : World} {lo n : Nat} {v : Value} {xs : List Value} (h : w.ownsRow lo 37 1 v n xs) : ∃ ao c, v = .slice ao n c ∧ (0 < n → ∃ ad : Addr, ao = some ad ∧ ad.block < w.heap.size ∧ ∀ (j : Nat) (u : Value), xs[j]? = some u → w.cell? (ad.add j) = some u) := by
  obtain ⟨hl, ⟨rfl, h0⟩ | ⟨g, cap, cur, rfl, hlo, hg, hcap, _, _, hx⟩⟩ := h
  · exact ⟨none, 0, by rw [h0], fun h => by omega⟩
  · refine ⟨_, cap, rfl, fun _ => ⟨⟨g, 0, none⟩, rfl, Row.lt (t := 37) hg, fun j u hu => ?_⟩⟩
    have hj := (List.getElem?_eq_some_iff.1 hu).1
    rw [Go.WideShapes.add_plain, Nat.zero_add, Row.cell (t := 37) hg]
    rw [← hx, List.getElem?_take] at hu
    split at hu
    · simpa using hu
    · cases hu

/-- What l5Insert ends in. -/
def InsOK (w : World) (lo : Nat) (ds : List Li) (xs : List Int) (e : Ending) (w' : World) : Prop :=
  ∃ v' ds', e = .returned v' ∧ LsR w' lo v' ds' ∧ RisesL (sayL ds') ∧ (∀ z, z ∈ sayL ds' ↔ z = xs ∨ z ∈ sayL ds) ∧ ds'.length ≤ ds.length + 1 ∧ Below w.heap.size w w'

theorem sayL_take (ds : List Li) (k : Nat) : sayL (ds.take k) = (sayL ds).take k := by simp [sayL, List.map_take]
theorem sayL_drop (ds : List Li) (k : Nat) : sayL (ds.drop k) = (sayL ds).drop k := by simp [sayL, List.map_drop]

set_option maxRecDepth 20000 in
set_option maxHeartbeats 2000000 in
theorem l5Insert_any (lo : Nat) (v : Value) (ds : List Li) (Ax : Option Addr) (xs : List Int) (cx : Nat) (w : World) (hv : LsR w lo v ds) (hr : RisesL (sayL ds)) (hxo : OwnI w lo Ax xs) (hap : ∀ u ∈ ds, u.r ≠ [] → xs ≠ [] → u.a ≠ Ax) (hcx : xs.length ≤ cx) (hlen : ∀ u ∈ ds, u.r.length = xs.length) (hxl : xs.length ≤ 1000) (hdl : ds.length ≤ 4000) (hlo : lo ≤ w.heap.size) :
    Calls Tryd.prog 119 #[v, .slice Ax xs.length cx] w (InsOK w lo ds xs) := by
  obtain ⟨i0, hi0, hz0, hz1, hz2⟩ := info_of Tryd.infoIntS
  have HI1 : Hid ((Tryd.prog.info? 37).map (·.size) = some 1) := by show _ = _; kernel_rfl
  obtain ⟨A, c, rfl, hc, hLl, hAf⟩ := hv.shape
  have HV := Lib.hid hv; clear hv
  have HLL := Lib.hid hLl; clear hLl
  have HX := Lib.hid hxo.ints
  have HXO := Lib.hid hxo; clear hxo
  have HAP := Lib.hid hap; clear hap
  have HR := Lib.hid hr; clear hr
  have HLN := Lib.hid hlen; clear hlen
  have HAF := Lib.hid hAf; clear hAf
  go_enter Tryd.func119, Tryd.ntmps119
  go_wp2
  go_loopw [5] (fun i wr => ∃ (k : Nat), k ≤ ds.length ∧ i = .int .i64 k ∧ Hid (Below w.heap.size w wr) ∧ Hid (∀ (j : Nat) (y : List Int), k ≤ j → (sayL ds)[j]? = some y → cmpL xs y < 0)) (fun i _ => (intOf i).toNat)
  case atStart => exact ⟨ds.length, Nat.le_refl _, rfl, Below.refl _ _, fun j y h hy => by have := (List.getElem?_eq_some_iff.1 hy).1; rw [sayL_len] at this; omega⟩
  case round =>
    obtain ⟨k, hk, rfl, HB, H⟩ := hrel
    by_cases hlt : 0 < k
    · have hk1 : k - 1 < ds.length := by omega
      obtain ⟨b, q, eA, hb, d1, _, hI⟩ := (HLL.out.keep HB.out).at_ hk1
      subst eA
      have HSAY := Lib.hid (sayL_at hk1)
      have HLK := Lib.hid (HLN.out _ (List.getElem_mem hk1))
      have hws0 := HB.out.size
      have HIK := Lib.hid (hI.more hws0)
      clear hI
      generalize ds[k - 1] = u at d1 HSAY HLK HIK
      obtain ⟨ua, ur, uc⟩ := u
      dsimp only at d1 HSAY HLK HIK
      have HXK := Lib.hid ((HX.out.keep HB.out).more hws0)
      have hkm : ((k : Int) - 1) = ((k - 1 : Nat) : Int) := by omega
      have HC := Lib.hid (l5Less_any Ax ua xs ur cx uc wr HXK.out HIK.out (by omega) (by have := HLK.out; omega) (by have := HLK.out; omega))
      go_wp2_with fail
      refine HC.out.mono ?_
      rintro e w1 ⟨rfl, hB1⟩
      have hb1 : b < wr.heap.size := by omega
      have d2 := (hB1.cell (p := ⟨b, q + (k - 1), none⟩) hb1).trans d1
      have HB1 := Lib.hid (HB.out.trans (hB1.mono hws0))
      have hws1 := HB1.out.size
      have HI1' := Lib.hid ((HIK.out.keep hB1).more hB1.size)
      have HX1 := Lib.hid ((HXK.out.keep hB1).more hB1.size)
      clear hB1 HC HIK HXK d1
      cases hq : bP (cmpL xs ur < 0)
      · have HNL : Hid (¬ cmpL xs ur < 0) := bP_no hq
        clear hq
        have HC := Lib.hid (l1Same_any ua Ax ur xs uc cx w1 HI1'.out HX1.out (by have := HLK.out; omega))
        go_wp2_with fail
        refine HC.out.mono ?_
        rintro e w2 ⟨rfl, hB2⟩
        have HB2x := Lib.hid (HB1.out.trans (hB2.mono hws1))
        clear hB2 HC HI1' HX1 d2
        cases he : eqL ur xs
        · have H2 : Hid (∀ (j : Nat) (y : List Int), j + 1 = k → (sayL ds)[j]? = some y → cmpL y xs < 0) := fun j y h hy => by
            have hs := HSAY.out
            rw [show k - 1 = j by omega, hy] at hs
            injection hs with hs
            subst hs
            have hn : y ≠ xs := fun e => by subst e; rw [eqL_t rfl] at he; cases he
            have h1 := HNL.out
            have h3 := cmpL_anti xs y
            have h4 : cmpL xs y ≠ 0 := fun e => hn (cmpL_eq e).symm
            omega
          clear he HNL HSAY HLK hkm
          have HPUT := Lib.hid (risesL_put (k := k) (by rw [sayL_len]; exact hk) HR.out H.out H2.out)
          have hws := HB2x.out.size
          have HXW := Lib.hid ((HX.out.keep HB2x.out).more HB2x.out.size)
          have HLW := Lib.hid (HLL.out.keep HB2x.out)
          have HE0 := Lib.hid (own_emptyL w2)
          have hdr : (ds.drop k).length = ds.length - k := List.length_drop
          have hta : (ds.take k).length = k := by rw [List.length_take]; omega
          have HDR := Lib.hid hdr; clear hdr
          have HTA := Lib.hid hta; clear hta
          have HN1 : Hid (∀ A' : Option Addr, (∀ bb qq, (some ⟨b, q, none⟩ : Option Addr) = some ⟨bb, qq, none⟩ → k < c → A' = some ⟨bb, qq + k, none⟩) → 0 < ds.length - k → ∃ ad : Addr, A' = some ad ∧ ∀ (j : Nat) (u : Value), ((ds.drop k).map cellsL)[j]? = some u → (w2.alloc (.cells #[] 37)).cell? (ad.add j) = some u) := fun A' h1 h2 => by
            obtain ⟨bb, qq, e, hb, hcc⟩ := HLW.out (by omega)
            refine ⟨⟨bb, qq + k, none⟩, h1 bb qq e (by omega), fun j u hu => ?_⟩
            rw [List.getElem?_map, List.getElem?_drop] at hu
            cases hd : ds[k + j]? with
            | none => rw [hd] at hu; cases hu
            | some z =>
              rw [hd] at hu
              injection hu with hu
              subst hu
              have hb' : bb < w2.heap.size := Nat.lt_of_lt_of_le hb hws
              rw [Go.WideShapes.add_plain, Nat.add_assoc]
              exact (((Below.refl w2.heap.size w2).alloc (Nat.le_refl _) _).cell (p := ⟨bb, qq + (k + j), none⟩) hb').trans (hcc (k + j) z hd).1
          go_wp2_with (first
            | (with_reducible refine wpList_from rfl 25 (.tmp 36) (.tmp 37) rfl 37 Tryd.underlying25 HI1.out (some ⟨b, q, none⟩) ds.length c k rfl rfl hk ?_
               intro A' hA1 hA2
               have HN1' := Lib.hid (HN1.out A' hA1)
               clear hA1 hA2)
            | (at_builtin
               refine wpList_app rfl (.tmp 35) (.tmp 38) _ rfl w2.heap.size 37 i0 _ 1 24 Tryd.underlying25 hi0 hz0 hz1 hz2 rfl (by omega) _ _ _ rfl HE0.out _ (ds.length - k) (c - k) ((ds.drop k).map cellsL) rfl (by rw [List.length_map, HDR.out]; omega) HN1'.out (cellsL_one _) (by unfold maxLen; omega) (by omega) (by simp) ?_
               intro v1 w1 p1 p2
               have HO1 := Lib.hid p1
               have HB1 : Hid (Below w2.heap.size w2 w1) := (((Below.refl w2.heap.size w2).alloc (Nat.le_refl _) _)).grown p2 (by simp) fun j hj => (HE0.out.lt j hj).1
               have hs1 : w2.heap.size ≤ w1.heap.size := HB1.out.size
               have HE1 := Lib.hid (own_emptyL w1)
               have HN2 : Hid (0 < k → ∃ ad : Addr, (some ⟨b, q, none⟩) = some ad ∧ ∀ (j : Nat) (u : Value), ((ds.take k).map cellsL)[j]? = some u → (w1.alloc (.cells #[] 37)).cell? (ad.add j) = some u) := fun h2 => by
                 obtain ⟨bb, qq, e, hb, hcc⟩ := HLW.out (by omega)
                 refine ⟨⟨bb, qq, none⟩, e, fun j u hu => ?_⟩
                 rw [List.getElem?_map, List.getElem?_take] at hu
                 split at hu
                 · cases hd : ds[j]? with
                   | none => rw [hd] at hu; cases hu
                   | some z =>
                     rw [hd] at hu
                     injection hu with hu
                     subst hu
                     have hb' : bb < w2.heap.size := Nat.lt_of_lt_of_le hb hws
                     rw [Go.WideShapes.add_plain]
                     exact ((HB1.out.alloc hs1 _).cell (p := ⟨bb, qq + j, none⟩) hb').trans (hcc j z hd).1
                 · cases hu
               clear p1 p2)
            | with_reducible refine wpList_upto rfl 25 (.tmp 41) (.tmp 42) rfl 37 Tryd.underlying25 HI1.out (some ⟨b, q, none⟩) HAF.out ds.length c k rfl rfl (by omega) ?_
            | (at_builtin
               refine wpList_app rfl (.tmp 40) (.tmp 43) _ rfl w1.heap.size 37 i0 _ 1 24 Tryd.underlying25 hi0 hz0 hz1 hz2 rfl (by omega) _ _ _ rfl HE1.out (some ⟨b, q, none⟩) k c ((ds.take k).map cellsL) rfl (by rw [List.length_map, HTA.out]; omega) HN2.out (cellsL_one _) (by unfold maxLen; omega) (by omega) (by simp) ?_
               intro v2 w2 p1 p2
               have HB2 : Hid (Below w1.heap.size w1 w2) := (((Below.refl w1.heap.size w1).alloc (Nat.le_refl _) _)).grown p2 (by simp) fun j hj => (HE1.out.lt j hj).1
               have hs2 : w1.heap.size ≤ w2.heap.size := HB2.out.size
               have HA2 := Lib.hid (p1.alloc (.cells #[.slice Ax xs.length cx] 37))
               have HN3 := Lib.hid (one_new w2 (.slice Ax xs.length cx) 37)
               have HO2 := Lib.hid p1
               clear p1 p2)
            | (at_builtin
               refine wpList_append_own _ rfl (.tmp 44) (.tmp 46) _ rfl w1.heap.size 37 i0 _ 1 24 Tryd.underlying25 hi0 hz0 hz1 hz2 rfl (by omega) _ _ _ rfl HA2.out ⟨w2.heap.size, 0, none⟩ 1 1 [.slice Ax xs.length cx] rfl rfl HN3.out (by intro u hu; simp at hu; subst hu; rfl) (by unfold maxLen; omega) (by omega) (by simp; omega) ?_
               intro v3 w3 p1 p2 _
               have HB3 : Hid (Below w1.heap.size w1 w3) := (HB2.out.alloc hs2 _).grown p2 (by simp; omega) fun j hj => (HO2.out.lt j hj).1
               have hs3 : w1.heap.size ≤ w3.heap.size := HB3.out.size
               have HO3 := Lib.hid p1
               obtain ⟨ao, c4, hv1, hc4⟩ := own_cellsL (own_below HO1.out HB3.out)
               rw [show 0 + (ds.length - k) = ds.length - k by omega] at hv1 hc4
               subst hv1
               have HN4 := Lib.hid hc4
               clear p1 p2 hc4)
            | (at_builtin
               refine wpList_app rfl (.tmp 48) (.tmp 49) _ rfl w1.heap.size 37 i0 _ 1 24 Tryd.underlying25 hi0 hz0 hz1 hz2 rfl (by omega) _ _ _ rfl HO3.out ao (ds.length - k) c4 ([] ++ (ds.drop k).map cellsL) rfl (by rw [List.nil_append, List.length_map, HDR.out]; omega) (fun h => by obtain ⟨ad, e1, _, e2⟩ := HN4.out h; exact ⟨ad, e1, e2⟩) (by rw [List.nil_append]; exact cellsL_one _) (by unfold maxLen; omega) (by omega) (by omega) ?_
               intro v4 w4 p1 p2
               have HB4 : Hid (Below w1.heap.size w1 w4) := HB3.out.grown p2 hs3 fun j hj => (HO3.out.lt j hj).1
               have HO4 := Lib.hid p1
               clear p1 p2))
          go_ret
          have HBF := Lib.hid (HB1.out.trans (HB4.out.mono hs1))
          have HFIN := Lib.hid (HB2x.out.trans (HBF.out.mono hws))
          refine ⟨v4, ds.take k ++ [⟨Ax, xs, cx⟩] ++ ds.drop k, rfl, ⟨?_, ?_, ?_, ?_⟩, ?_, ?_, ?_, HFIN.out⟩
          · have e1 : (ds.take k ++ [(⟨Ax, xs, cx⟩ : Li)] ++ ds.drop k).length = 0 + k + 1 + (ds.length - k) := by simp; omega
            have e2 : (ds.take k ++ [(⟨Ax, xs, cx⟩ : Li)] ++ ds.drop k).map cellsL = [] ++ (ds.take k).map cellsL ++ [.slice Ax xs.length cx] ++ ([] ++ (ds.drop k).map cellsL) := by simp [cellsL]
            rw [e1, e2]
            exact own_lower HO4.out (by omega)
          · intro u hu
            rcases List.mem_append.1 hu with hu | hu
            · rcases List.mem_append.1 hu with hu | hu
              · exact HV.out.caps u (List.mem_of_mem_take hu)
              · rw [List.mem_singleton.1 hu]; exact hcx
            · exact HV.out.caps u (List.mem_of_mem_drop hu)
          · intro u hu
            rcases List.mem_append.1 hu with hu | hu
            · rcases List.mem_append.1 hu with hu | hu
              · exact (HV.out.own u (List.mem_of_mem_take hu)).below HFIN.out (Nat.le_refl _)
              · rw [List.mem_singleton.1 hu]; exact HXO.out.below HFIN.out (Nat.le_refl _)
            · exact (HV.out.own u (List.mem_of_mem_drop hu)).below HFIN.out (Nat.le_refl _)
          · exact far_put HV.out.far HAP.out
          · have e : sayL (ds.take k ++ [(⟨Ax, xs, cx⟩ : Li)] ++ ds.drop k) = (sayL ds).take k ++ [xs] ++ (sayL ds).drop k := by simp [sayL, List.map_take, List.map_drop]
            rw [e]; exact HPUT.out.1
          · have e : sayL (ds.take k ++ [(⟨Ax, xs, cx⟩ : Li)] ++ ds.drop k) = (sayL ds).take k ++ [xs] ++ (sayL ds).drop k := by simp [sayL, List.map_take, List.map_drop]
            rw [e]; exact HPUT.out.2
          · simp; omega
        · have HEQ : Hid (ur = xs) := by show _ = _; simpa [eqL] using he
          clear he
          go_wp2
          go_ret
          have HM : xs ∈ sayL ds := by have h := List.mem_of_getElem? HSAY.out; rw [HEQ.out] at h; exact h
          exact ⟨_, ds, rfl, HV.out.keep (HB2x.out.mono (Nat.le_refl _)), HR.out, fun z => ⟨fun h => .inr h, fun h => h.elim (fun e => e ▸ HM) id⟩, by omega, HB2x.out⟩
      · have HL1 : Hid (cmpL xs ur < 0) := bP_is hq
        clear hq
        have HH : Hid (∀ (j : Nat) (y : List Int), k - 1 ≤ j → (sayL ds)[j]? = some y → cmpL xs y < 0) := fun j y h hy => by
          by_cases e : j = k - 1
          · have hs := HSAY.out
            rw [← e, hy] at hs
            injection hs with hs
            rw [hs]; exact HL1.out
          · exact H.out j y (by omega) hy
        go_wp2
        go_roundw
        case rel => exact ⟨k - 1, by omega, by go_num, HB1.out, HH.out⟩
        case measure => simp [intOf]; omega
    · have H2 : Hid (∀ (j : Nat) (y : List Int), j + 1 = k → (sayL ds)[j]? = some y → cmpL y xs < 0) := fun j y h => by omega
      have HPUT := Lib.hid (risesL_put (k := k) (by rw [sayL_len]; exact hk) HR.out H.out H2.out)
      have hws := HB.out.size
      have HXW := Lib.hid ((HX.out.keep HB.out).more HB.out.size)
      have HLW := Lib.hid (HLL.out.keep HB.out)
      have HE0 := Lib.hid (own_emptyL wr)
      have hdr : (ds.drop k).length = ds.length - k := List.length_drop
      have hta : (ds.take k).length = k := by rw [List.length_take]; omega
      have HDR := Lib.hid hdr; clear hdr
      have HTA := Lib.hid hta; clear hta
      have HN1 : Hid (∀ A' : Option Addr, (∀ b q, A = some ⟨b, q, none⟩ → k < c → A' = some ⟨b, q + k, none⟩) → 0 < ds.length - k → ∃ ad : Addr, A' = some ad ∧ ∀ (j : Nat) (u : Value), ((ds.drop k).map cellsL)[j]? = some u → (wr.alloc (.cells #[] 37)).cell? (ad.add j) = some u) := fun A' h1 h2 => by
        obtain ⟨bb, qq, e, hb, hcc⟩ := HLW.out (by omega)
        refine ⟨⟨bb, qq + k, none⟩, h1 bb qq e (by omega), fun j u hu => ?_⟩
        rw [List.getElem?_map, List.getElem?_drop] at hu
        cases hd : ds[k + j]? with
        | none => rw [hd] at hu; cases hu
        | some z =>
          rw [hd] at hu
          injection hu with hu
          subst hu
          have hb' : bb < wr.heap.size := Nat.lt_of_lt_of_le hb hws
          rw [Go.WideShapes.add_plain, Nat.add_assoc]
          exact (((Below.refl wr.heap.size wr).alloc (Nat.le_refl _) _).cell (p := ⟨bb, qq + (k + j), none⟩) hb').trans (hcc (k + j) z hd).1
      go_wp2_with (first
        | (with_reducible refine wpList_from rfl 25 (.tmp 36) (.tmp 37) rfl 37 Tryd.underlying25 HI1.out A ds.length c k rfl rfl hk ?_
           intro A' hA1 hA2
           have HN1' := Lib.hid (HN1.out A' hA1)
           clear hA1 hA2)
        | (at_builtin
           refine wpList_app rfl (.tmp 35) (.tmp 38) _ rfl wr.heap.size 37 i0 _ 1 24 Tryd.underlying25 hi0 hz0 hz1 hz2 rfl (by omega) _ _ _ rfl HE0.out _ (ds.length - k) (c - k) ((ds.drop k).map cellsL) rfl (by rw [List.length_map, HDR.out]; omega) HN1'.out (cellsL_one _) (by unfold maxLen; omega) (by omega) (by simp) ?_
           intro v1 w1 p1 p2
           have HO1 := Lib.hid p1
           have HB1 : Hid (Below wr.heap.size wr w1) := (((Below.refl wr.heap.size wr).alloc (Nat.le_refl _) _)).grown p2 (by simp) fun j hj => (HE0.out.lt j hj).1
           have hs1 : wr.heap.size ≤ w1.heap.size := HB1.out.size
           have HE1 := Lib.hid (own_emptyL w1)
           have HN2 : Hid (0 < k → ∃ ad : Addr, A = some ad ∧ ∀ (j : Nat) (u : Value), ((ds.take k).map cellsL)[j]? = some u → (w1.alloc (.cells #[] 37)).cell? (ad.add j) = some u) := fun h2 => by
             obtain ⟨bb, qq, e, hb, hcc⟩ := HLW.out (by omega)
             refine ⟨⟨bb, qq, none⟩, e, fun j u hu => ?_⟩
             rw [List.getElem?_map, List.getElem?_take] at hu
             split at hu
             · cases hd : ds[j]? with
               | none => rw [hd] at hu; cases hu
               | some z =>
                 rw [hd] at hu
                 injection hu with hu
                 subst hu
                 have hb' : bb < wr.heap.size := Nat.lt_of_lt_of_le hb hws
                 rw [Go.WideShapes.add_plain]
                 exact ((HB1.out.alloc hs1 _).cell (p := ⟨bb, qq + j, none⟩) hb').trans (hcc j z hd).1
             · cases hu
           clear p1 p2)
        | with_reducible refine wpList_upto rfl 25 (.tmp 41) (.tmp 42) rfl 37 Tryd.underlying25 HI1.out A HAF.out ds.length c k rfl rfl (by omega) ?_
        | (at_builtin
           refine wpList_app rfl (.tmp 40) (.tmp 43) _ rfl w1.heap.size 37 i0 _ 1 24 Tryd.underlying25 hi0 hz0 hz1 hz2 rfl (by omega) _ _ _ rfl HE1.out A k c ((ds.take k).map cellsL) rfl (by rw [List.length_map, HTA.out]; omega) HN2.out (cellsL_one _) (by unfold maxLen; omega) (by omega) (by simp) ?_
           intro v2 w2 p1 p2
           have HB2 : Hid (Below w1.heap.size w1 w2) := (((Below.refl w1.heap.size w1).alloc (Nat.le_refl _) _)).grown p2 (by simp) fun j hj => (HE1.out.lt j hj).1
           have hs2 : w1.heap.size ≤ w2.heap.size := HB2.out.size
           have HA2 := Lib.hid (p1.alloc (.cells #[.slice Ax xs.length cx] 37))
           have HN3 := Lib.hid (one_new w2 (.slice Ax xs.length cx) 37)
           have HO2 := Lib.hid p1
           clear p1 p2)
        | (at_builtin
           refine wpList_append_own _ rfl (.tmp 44) (.tmp 46) _ rfl w1.heap.size 37 i0 _ 1 24 Tryd.underlying25 hi0 hz0 hz1 hz2 rfl (by omega) _ _ _ rfl HA2.out ⟨w2.heap.size, 0, none⟩ 1 1 [.slice Ax xs.length cx] rfl rfl HN3.out (by intro u hu; simp at hu; subst hu; rfl) (by unfold maxLen; omega) (by omega) (by simp; omega) ?_
           intro v3 w3 p1 p2 _
           have HB3 : Hid (Below w1.heap.size w1 w3) := (HB2.out.alloc hs2 _).grown p2 (by simp; omega) fun j hj => (HO2.out.lt j hj).1
           have hs3 : w1.heap.size ≤ w3.heap.size := HB3.out.size
           have HO3 := Lib.hid p1
           obtain ⟨ao, c4, hv1, hc4⟩ := own_cellsL (own_below HO1.out HB3.out)
           rw [show 0 + (ds.length - k) = ds.length - k by omega] at hv1 hc4
           subst hv1
           have HN4 := Lib.hid hc4
           clear p1 p2 hc4)
        | (at_builtin
           refine wpList_app rfl (.tmp 48) (.tmp 49) _ rfl w1.heap.size 37 i0 _ 1 24 Tryd.underlying25 hi0 hz0 hz1 hz2 rfl (by omega) _ _ _ rfl HO3.out ao (ds.length - k) c4 ([] ++ (ds.drop k).map cellsL) rfl (by rw [List.nil_append, List.length_map, HDR.out]; omega) (fun h => by obtain ⟨ad, e1, _, e2⟩ := HN4.out h; exact ⟨ad, e1, e2⟩) (by rw [List.nil_append]; exact cellsL_one _) (by unfold maxLen; omega) (by omega) (by omega) ?_
           intro v4 w4 p1 p2
           have HB4 : Hid (Below w1.heap.size w1 w4) := HB3.out.grown p2 hs3 fun j hj => (HO3.out.lt j hj).1
           have HO4 := Lib.hid p1
           clear p1 p2))
      go_ret
      have HBF := Lib.hid (HB1.out.trans (HB4.out.mono hs1))
      have HFIN := Lib.hid (HB.out.trans (HBF.out.mono hws))
      refine ⟨v4, ds.take k ++ [⟨Ax, xs, cx⟩] ++ ds.drop k, rfl, ⟨?_, ?_, ?_, ?_⟩, ?_, ?_, ?_, HFIN.out⟩
      · have e1 : (ds.take k ++ [(⟨Ax, xs, cx⟩ : Li)] ++ ds.drop k).length = 0 + k + 1 + (ds.length - k) := by simp; omega
        have e2 : (ds.take k ++ [(⟨Ax, xs, cx⟩ : Li)] ++ ds.drop k).map cellsL = [] ++ (ds.take k).map cellsL ++ [.slice Ax xs.length cx] ++ ([] ++ (ds.drop k).map cellsL) := by simp [cellsL]
        rw [e1, e2]
        exact own_lower HO4.out (by omega)
      · intro u hu
        rcases List.mem_append.1 hu with hu | hu
        · rcases List.mem_append.1 hu with hu | hu
          · exact HV.out.caps u (List.mem_of_mem_take hu)
          · rw [List.mem_singleton.1 hu]; exact hcx
        · exact HV.out.caps u (List.mem_of_mem_drop hu)
      · intro u hu
        rcases List.mem_append.1 hu with hu | hu
        · rcases List.mem_append.1 hu with hu | hu
          · exact (HV.out.own u (List.mem_of_mem_take hu)).below HFIN.out (Nat.le_refl _)
          · rw [List.mem_singleton.1 hu]; exact HXO.out.below HFIN.out (Nat.le_refl _)
        · exact (HV.out.own u (List.mem_of_mem_drop hu)).below HFIN.out (Nat.le_refl _)
      · exact far_put HV.out.far HAP.out
      · have e : sayL (ds.take k ++ [(⟨Ax, xs, cx⟩ : Li)] ++ ds.drop k) = (sayL ds).take k ++ [xs] ++ (sayL ds).drop k := by simp [sayL, List.map_take, List.map_drop]
        rw [e]; exact HPUT.out.1
      · have e : sayL (ds.take k ++ [(⟨Ax, xs, cx⟩ : Li)] ++ ds.drop k) = (sayL ds).take k ++ [xs] ++ (sayL ds).drop k := by simp [sayL, List.map_take, List.map_drop]
        rw [e]; exact HPUT.out.2
      · simp; omega

end Go.Proofs.YtaobkanliiiapaaDoor

/- As InsS's l5Insert, and that the answer is the list that was given or lies in a block of its own. Made by a script out of InsS. -/

namespace Go.Proofs.YtaobkanliiiapaaDoor
open Go.RowKit

def InsON (w : World) (lo : Nat) (v : Value) (ds : List Li) (xs : List Int) (e : Ending) (w' : World) : Prop :=
  ∃ v' ds', e = .returned v' ∧ LsR w' lo v' ds' ∧ RisesL (sayL ds') ∧ (∀ z, z ∈ sayL ds' ↔ z = xs ∨ z ∈ sayL ds) ∧ ds'.length ≤ ds.length + 1 ∧ Below w.heap.size w w' ∧ (v' = v ∨ ∀ b, v'.ownBlock = some b → w.heap.size ≤ b)

set_option maxRecDepth 20000 in
set_option maxHeartbeats 2000000 in
theorem l5InsertN_any (lo : Nat) (v : Value) (ds : List Li) (Ax : Option Addr) (xs : List Int) (cx : Nat) (w : World) (hv : LsR w lo v ds) (hr : RisesL (sayL ds)) (hxo : OwnI w lo Ax xs) (hap : ∀ u ∈ ds, u.r ≠ [] → xs ≠ [] → u.a ≠ Ax) (hcx : xs.length ≤ cx) (hlen : ∀ u ∈ ds, u.r.length = xs.length) (hxl : xs.length ≤ 1000) (hdl : ds.length ≤ 4000) (hlo : lo ≤ w.heap.size) :
    Calls Tryd.prog 119 #[v, .slice Ax xs.length cx] w (InsON w lo v ds xs) := by
  obtain ⟨i0, hi0, hz0, hz1, hz2⟩ := info_of Tryd.infoIntS
  have HI1 : Hid ((Tryd.prog.info? 37).map (·.size) = some 1) := by show _ = _; kernel_rfl
  obtain ⟨A, c, rfl, hc, hLl, hAf⟩ := hv.shape
  have HV := Lib.hid hv; clear hv
  have HLL := Lib.hid hLl; clear hLl
  have HX := Lib.hid hxo.ints
  have HXO := Lib.hid hxo; clear hxo
  have HAP := Lib.hid hap; clear hap
  have HR := Lib.hid hr; clear hr
  have HLN := Lib.hid hlen; clear hlen
  have HAF := Lib.hid hAf; clear hAf
  go_enter Tryd.func119, Tryd.ntmps119
  go_wp2
  go_loopw [5] (fun i wr => ∃ (k : Nat), k ≤ ds.length ∧ i = .int .i64 k ∧ Hid (Below w.heap.size w wr) ∧ Hid (∀ (j : Nat) (y : List Int), k ≤ j → (sayL ds)[j]? = some y → cmpL xs y < 0)) (fun i _ => (intOf i).toNat)
  case atStart => exact ⟨ds.length, Nat.le_refl _, rfl, Below.refl _ _, fun j y h hy => by have := (List.getElem?_eq_some_iff.1 hy).1; rw [sayL_len] at this; omega⟩
  case round =>
    obtain ⟨k, hk, rfl, HB, H⟩ := hrel
    by_cases hlt : 0 < k
    · have hk1 : k - 1 < ds.length := by omega
      obtain ⟨b, q, eA, hb, d1, _, hI⟩ := (HLL.out.keep HB.out).at_ hk1
      subst eA
      have HSAY := Lib.hid (sayL_at hk1)
      have HLK := Lib.hid (HLN.out _ (List.getElem_mem hk1))
      have hws0 := HB.out.size
      have HIK := Lib.hid (hI.more hws0)
      clear hI
      generalize ds[k - 1] = u at d1 HSAY HLK HIK
      obtain ⟨ua, ur, uc⟩ := u
      dsimp only at d1 HSAY HLK HIK
      have HXK := Lib.hid ((HX.out.keep HB.out).more hws0)
      have hkm : ((k : Int) - 1) = ((k - 1 : Nat) : Int) := by omega
      have HC := Lib.hid (l5Less_any Ax ua xs ur cx uc wr HXK.out HIK.out (by omega) (by have := HLK.out; omega) (by have := HLK.out; omega))
      go_wp2_with fail
      refine HC.out.mono ?_
      rintro e w1 ⟨rfl, hB1⟩
      have hb1 : b < wr.heap.size := by omega
      have d2 := (hB1.cell (p := ⟨b, q + (k - 1), none⟩) hb1).trans d1
      have HB1 := Lib.hid (HB.out.trans (hB1.mono hws0))
      have hws1 := HB1.out.size
      have HI1' := Lib.hid ((HIK.out.keep hB1).more hB1.size)
      have HX1 := Lib.hid ((HXK.out.keep hB1).more hB1.size)
      clear hB1 HC HIK HXK d1
      cases hq : bP (cmpL xs ur < 0)
      · have HNL : Hid (¬ cmpL xs ur < 0) := bP_no hq
        clear hq
        have HC := Lib.hid (l1Same_any ua Ax ur xs uc cx w1 HI1'.out HX1.out (by have := HLK.out; omega))
        go_wp2_with fail
        refine HC.out.mono ?_
        rintro e w2 ⟨rfl, hB2⟩
        have HB2x := Lib.hid (HB1.out.trans (hB2.mono hws1))
        clear hB2 HC HI1' HX1 d2
        cases he : eqL ur xs
        · have H2 : Hid (∀ (j : Nat) (y : List Int), j + 1 = k → (sayL ds)[j]? = some y → cmpL y xs < 0) := fun j y h hy => by
            have hs := HSAY.out
            rw [show k - 1 = j by omega, hy] at hs
            injection hs with hs
            subst hs
            have hn : y ≠ xs := fun e => by subst e; rw [eqL_t rfl] at he; cases he
            have h1 := HNL.out
            have h3 := cmpL_anti xs y
            have h4 : cmpL xs y ≠ 0 := fun e => hn (cmpL_eq e).symm
            omega
          clear he HNL HSAY HLK hkm
          have HPUT := Lib.hid (risesL_put (k := k) (by rw [sayL_len]; exact hk) HR.out H.out H2.out)
          have hws := HB2x.out.size
          have HXW := Lib.hid ((HX.out.keep HB2x.out).more HB2x.out.size)
          have HLW := Lib.hid (HLL.out.keep HB2x.out)
          have HE0 := Lib.hid (own_emptyL w2)
          have hdr : (ds.drop k).length = ds.length - k := List.length_drop
          have hta : (ds.take k).length = k := by rw [List.length_take]; omega
          have HDR := Lib.hid hdr; clear hdr
          have HTA := Lib.hid hta; clear hta
          have HN1 : Hid (∀ A' : Option Addr, (∀ bb qq, (some ⟨b, q, none⟩ : Option Addr) = some ⟨bb, qq, none⟩ → k < c → A' = some ⟨bb, qq + k, none⟩) → 0 < ds.length - k → ∃ ad : Addr, A' = some ad ∧ ∀ (j : Nat) (u : Value), ((ds.drop k).map cellsL)[j]? = some u → (w2.alloc (.cells #[] 37)).cell? (ad.add j) = some u) := fun A' h1 h2 => by
            obtain ⟨bb, qq, e, hb, hcc⟩ := HLW.out (by omega)
            refine ⟨⟨bb, qq + k, none⟩, h1 bb qq e (by omega), fun j u hu => ?_⟩
            rw [List.getElem?_map, List.getElem?_drop] at hu
            cases hd : ds[k + j]? with
            | none => rw [hd] at hu; cases hu
            | some z =>
              rw [hd] at hu
              injection hu with hu
              subst hu
              have hb' : bb < w2.heap.size := Nat.lt_of_lt_of_le hb hws
              rw [Go.WideShapes.add_plain, Nat.add_assoc]
              exact (((Below.refl w2.heap.size w2).alloc (Nat.le_refl _) _).cell (p := ⟨bb, qq + (k + j), none⟩) hb').trans (hcc (k + j) z hd).1
          go_wp2_with (first
            | (with_reducible refine wpList_from rfl 25 (.tmp 36) (.tmp 37) rfl 37 Tryd.underlying25 HI1.out (some ⟨b, q, none⟩) ds.length c k rfl rfl hk ?_
               intro A' hA1 hA2
               have HN1' := Lib.hid (HN1.out A' hA1)
               clear hA1 hA2)
            | (at_builtin
               refine wpList_app rfl (.tmp 35) (.tmp 38) _ rfl w2.heap.size 37 i0 _ 1 24 Tryd.underlying25 hi0 hz0 hz1 hz2 rfl (by omega) _ _ _ rfl HE0.out _ (ds.length - k) (c - k) ((ds.drop k).map cellsL) rfl (by rw [List.length_map, HDR.out]; omega) HN1'.out (cellsL_one _) (by unfold maxLen; omega) (by omega) (by simp) ?_
               intro v1 w1 p1 p2
               have HO1 := Lib.hid p1
               have HB1 : Hid (Below w2.heap.size w2 w1) := (((Below.refl w2.heap.size w2).alloc (Nat.le_refl _) _)).grown p2 (by simp) fun j hj => (HE0.out.lt j hj).1
               have hs1 : w2.heap.size ≤ w1.heap.size := HB1.out.size
               have HE1 := Lib.hid (own_emptyL w1)
               have HN2 : Hid (0 < k → ∃ ad : Addr, (some ⟨b, q, none⟩) = some ad ∧ ∀ (j : Nat) (u : Value), ((ds.take k).map cellsL)[j]? = some u → (w1.alloc (.cells #[] 37)).cell? (ad.add j) = some u) := fun h2 => by
                 obtain ⟨bb, qq, e, hb, hcc⟩ := HLW.out (by omega)
                 refine ⟨⟨bb, qq, none⟩, e, fun j u hu => ?_⟩
                 rw [List.getElem?_map, List.getElem?_take] at hu
                 split at hu
                 · cases hd : ds[j]? with
                   | none => rw [hd] at hu; cases hu
                   | some z =>
                     rw [hd] at hu
                     injection hu with hu
                     subst hu
                     have hb' : bb < w2.heap.size := Nat.lt_of_lt_of_le hb hws
                     rw [Go.WideShapes.add_plain]
                     exact ((HB1.out.alloc hs1 _).cell (p := ⟨bb, qq + j, none⟩) hb').trans (hcc j z hd).1
                 · cases hu
               clear p1 p2)
            | with_reducible refine wpList_upto rfl 25 (.tmp 41) (.tmp 42) rfl 37 Tryd.underlying25 HI1.out (some ⟨b, q, none⟩) HAF.out ds.length c k rfl rfl (by omega) ?_
            | (at_builtin
               refine wpList_app rfl (.tmp 40) (.tmp 43) _ rfl w1.heap.size 37 i0 _ 1 24 Tryd.underlying25 hi0 hz0 hz1 hz2 rfl (by omega) _ _ _ rfl HE1.out (some ⟨b, q, none⟩) k c ((ds.take k).map cellsL) rfl (by rw [List.length_map, HTA.out]; omega) HN2.out (cellsL_one _) (by unfold maxLen; omega) (by omega) (by simp) ?_
               intro v2 w2 p1 p2
               have HB2 : Hid (Below w1.heap.size w1 w2) := (((Below.refl w1.heap.size w1).alloc (Nat.le_refl _) _)).grown p2 (by simp) fun j hj => (HE1.out.lt j hj).1
               have hs2 : w1.heap.size ≤ w2.heap.size := HB2.out.size
               have HA2 := Lib.hid (p1.alloc (.cells #[.slice Ax xs.length cx] 37))
               have HN3 := Lib.hid (one_new w2 (.slice Ax xs.length cx) 37)
               have HO2 := Lib.hid p1
               clear p1 p2)
            | (at_builtin
               refine wpList_append_own _ rfl (.tmp 44) (.tmp 46) _ rfl w1.heap.size 37 i0 _ 1 24 Tryd.underlying25 hi0 hz0 hz1 hz2 rfl (by omega) _ _ _ rfl HA2.out ⟨w2.heap.size, 0, none⟩ 1 1 [.slice Ax xs.length cx] rfl rfl HN3.out (by intro u hu; simp at hu; subst hu; rfl) (by unfold maxLen; omega) (by omega) (by simp; omega) ?_
               intro v3 w3 p1 p2 _
               have HB3 : Hid (Below w1.heap.size w1 w3) := (HB2.out.alloc hs2 _).grown p2 (by simp; omega) fun j hj => (HO2.out.lt j hj).1
               have hs3 : w1.heap.size ≤ w3.heap.size := HB3.out.size
               have HO3 := Lib.hid p1
               obtain ⟨ao, c4, hv1, hc4⟩ := own_cellsL (own_below HO1.out HB3.out)
               rw [show 0 + (ds.length - k) = ds.length - k by omega] at hv1 hc4
               subst hv1
               have HN4 := Lib.hid hc4
               clear p1 p2 hc4)
            | (at_builtin
               refine wpList_app rfl (.tmp 48) (.tmp 49) _ rfl w1.heap.size 37 i0 _ 1 24 Tryd.underlying25 hi0 hz0 hz1 hz2 rfl (by omega) _ _ _ rfl HO3.out ao (ds.length - k) c4 ([] ++ (ds.drop k).map cellsL) rfl (by rw [List.nil_append, List.length_map, HDR.out]; omega) (fun h => by obtain ⟨ad, e1, _, e2⟩ := HN4.out h; exact ⟨ad, e1, e2⟩) (by rw [List.nil_append]; exact cellsL_one _) (by unfold maxLen; omega) (by omega) (by omega) ?_
               intro v4 w4 p1 p2
               have HB4 : Hid (Below w1.heap.size w1 w4) := HB3.out.grown p2 hs3 fun j hj => (HO3.out.lt j hj).1
               have HO4 := Lib.hid p1
               clear p1 p2))
          go_ret
          have HBF := Lib.hid (HB1.out.trans (HB4.out.mono hs1))
          have HFIN := Lib.hid (HB2x.out.trans (HBF.out.mono hws))
          refine ⟨v4, ds.take k ++ [⟨Ax, xs, cx⟩] ++ ds.drop k, rfl, ⟨?_, ?_, ?_, ?_⟩, ?_, ?_, ?_, HFIN.out, .inr fun b hb => by have := (HO4.out.lt b hb).1; omega⟩
          · have e1 : (ds.take k ++ [(⟨Ax, xs, cx⟩ : Li)] ++ ds.drop k).length = 0 + k + 1 + (ds.length - k) := by simp; omega
            have e2 : (ds.take k ++ [(⟨Ax, xs, cx⟩ : Li)] ++ ds.drop k).map cellsL = [] ++ (ds.take k).map cellsL ++ [.slice Ax xs.length cx] ++ ([] ++ (ds.drop k).map cellsL) := by simp [cellsL]
            rw [e1, e2]
            exact own_lower HO4.out (by omega)
          · intro u hu
            rcases List.mem_append.1 hu with hu | hu
            · rcases List.mem_append.1 hu with hu | hu
              · exact HV.out.caps u (List.mem_of_mem_take hu)
              · rw [List.mem_singleton.1 hu]; exact hcx
            · exact HV.out.caps u (List.mem_of_mem_drop hu)
          · intro u hu
            rcases List.mem_append.1 hu with hu | hu
            · rcases List.mem_append.1 hu with hu | hu
              · exact (HV.out.own u (List.mem_of_mem_take hu)).below HFIN.out (Nat.le_refl _)
              · rw [List.mem_singleton.1 hu]; exact HXO.out.below HFIN.out (Nat.le_refl _)
            · exact (HV.out.own u (List.mem_of_mem_drop hu)).below HFIN.out (Nat.le_refl _)
          · exact far_put HV.out.far HAP.out
          · have e : sayL (ds.take k ++ [(⟨Ax, xs, cx⟩ : Li)] ++ ds.drop k) = (sayL ds).take k ++ [xs] ++ (sayL ds).drop k := by simp [sayL, List.map_take, List.map_drop]
            rw [e]; exact HPUT.out.1
          · have e : sayL (ds.take k ++ [(⟨Ax, xs, cx⟩ : Li)] ++ ds.drop k) = (sayL ds).take k ++ [xs] ++ (sayL ds).drop k := by simp [sayL, List.map_take, List.map_drop]
            rw [e]; exact HPUT.out.2
          · simp; omega
        · have HEQ : Hid (ur = xs) := by show _ = _; simpa [eqL] using he
          clear he
          go_wp2
          go_ret
          have HM : xs ∈ sayL ds := by have h := List.mem_of_getElem? HSAY.out; rw [HEQ.out] at h; exact h
          exact ⟨_, ds, rfl, HV.out.keep (HB2x.out.mono (Nat.le_refl _)), HR.out, fun z => ⟨fun h => .inr h, fun h => h.elim (fun e => e ▸ HM) id⟩, by omega, HB2x.out, .inl rfl⟩
      · have HL1 : Hid (cmpL xs ur < 0) := bP_is hq
        clear hq
        have HH : Hid (∀ (j : Nat) (y : List Int), k - 1 ≤ j → (sayL ds)[j]? = some y → cmpL xs y < 0) := fun j y h hy => by
          by_cases e : j = k - 1
          · have hs := HSAY.out
            rw [← e, hy] at hs
            injection hs with hs
            rw [hs]; exact HL1.out
          · exact H.out j y (by omega) hy
        go_wp2
        go_roundw
        case rel => exact ⟨k - 1, by omega, by go_num, HB1.out, HH.out⟩
        case measure => simp [intOf]; omega
    · have H2 : Hid (∀ (j : Nat) (y : List Int), j + 1 = k → (sayL ds)[j]? = some y → cmpL y xs < 0) := fun j y h => by omega
      have HPUT := Lib.hid (risesL_put (k := k) (by rw [sayL_len]; exact hk) HR.out H.out H2.out)
      have hws := HB.out.size
      have HXW := Lib.hid ((HX.out.keep HB.out).more HB.out.size)
      have HLW := Lib.hid (HLL.out.keep HB.out)
      have HE0 := Lib.hid (own_emptyL wr)
      have hdr : (ds.drop k).length = ds.length - k := List.length_drop
      have hta : (ds.take k).length = k := by rw [List.length_take]; omega
      have HDR := Lib.hid hdr; clear hdr
      have HTA := Lib.hid hta; clear hta
      have HN1 : Hid (∀ A' : Option Addr, (∀ b q, A = some ⟨b, q, none⟩ → k < c → A' = some ⟨b, q + k, none⟩) → 0 < ds.length - k → ∃ ad : Addr, A' = some ad ∧ ∀ (j : Nat) (u : Value), ((ds.drop k).map cellsL)[j]? = some u → (wr.alloc (.cells #[] 37)).cell? (ad.add j) = some u) := fun A' h1 h2 => by
        obtain ⟨bb, qq, e, hb, hcc⟩ := HLW.out (by omega)
        refine ⟨⟨bb, qq + k, none⟩, h1 bb qq e (by omega), fun j u hu => ?_⟩
        rw [List.getElem?_map, List.getElem?_drop] at hu
        cases hd : ds[k + j]? with
        | none => rw [hd] at hu; cases hu
        | some z =>
          rw [hd] at hu
          injection hu with hu
          subst hu
          have hb' : bb < wr.heap.size := Nat.lt_of_lt_of_le hb hws
          rw [Go.WideShapes.add_plain, Nat.add_assoc]
          exact (((Below.refl wr.heap.size wr).alloc (Nat.le_refl _) _).cell (p := ⟨bb, qq + (k + j), none⟩) hb').trans (hcc (k + j) z hd).1
      go_wp2_with (first
        | (with_reducible refine wpList_from rfl 25 (.tmp 36) (.tmp 37) rfl 37 Tryd.underlying25 HI1.out A ds.length c k rfl rfl hk ?_
           intro A' hA1 hA2
           have HN1' := Lib.hid (HN1.out A' hA1)
           clear hA1 hA2)
        | (at_builtin
           refine wpList_app rfl (.tmp 35) (.tmp 38) _ rfl wr.heap.size 37 i0 _ 1 24 Tryd.underlying25 hi0 hz0 hz1 hz2 rfl (by omega) _ _ _ rfl HE0.out _ (ds.length - k) (c - k) ((ds.drop k).map cellsL) rfl (by rw [List.length_map, HDR.out]; omega) HN1'.out (cellsL_one _) (by unfold maxLen; omega) (by omega) (by simp) ?_
           intro v1 w1 p1 p2
           have HO1 := Lib.hid p1
           have HB1 : Hid (Below wr.heap.size wr w1) := (((Below.refl wr.heap.size wr).alloc (Nat.le_refl _) _)).grown p2 (by simp) fun j hj => (HE0.out.lt j hj).1
           have hs1 : wr.heap.size ≤ w1.heap.size := HB1.out.size
           have HE1 := Lib.hid (own_emptyL w1)
           have HN2 : Hid (0 < k → ∃ ad : Addr, A = some ad ∧ ∀ (j : Nat) (u : Value), ((ds.take k).map cellsL)[j]? = some u → (w1.alloc (.cells #[] 37)).cell? (ad.add j) = some u) := fun h2 => by
             obtain ⟨bb, qq, e, hb, hcc⟩ := HLW.out (by omega)
             refine ⟨⟨bb, qq, none⟩, e, fun j u hu => ?_⟩
             rw [List.getElem?_map, List.getElem?_take] at hu
             split at hu
             · cases hd : ds[j]? with
               | none => rw [hd] at hu; cases hu
               | some z =>
                 rw [hd] at hu
                 injection hu with hu
                 subst hu
                 have hb' : bb < wr.heap.size := Nat.lt_of_lt_of_le hb hws
                 rw [Go.WideShapes.add_plain]
                 exact ((HB1.out.alloc hs1 _).cell (p := ⟨bb, qq + j, none⟩) hb').trans (hcc j z hd).1
             · cases hu
           clear p1 p2)
        | with_reducible refine wpList_upto rfl 25 (.tmp 41) (.tmp 42) rfl 37 Tryd.underlying25 HI1.out A HAF.out ds.length c k rfl rfl (by omega) ?_
        | (at_builtin
           refine wpList_app rfl (.tmp 40) (.tmp 43) _ rfl w1.heap.size 37 i0 _ 1 24 Tryd.underlying25 hi0 hz0 hz1 hz2 rfl (by omega) _ _ _ rfl HE1.out A k c ((ds.take k).map cellsL) rfl (by rw [List.length_map, HTA.out]; omega) HN2.out (cellsL_one _) (by unfold maxLen; omega) (by omega) (by simp) ?_
           intro v2 w2 p1 p2
           have HB2 : Hid (Below w1.heap.size w1 w2) := (((Below.refl w1.heap.size w1).alloc (Nat.le_refl _) _)).grown p2 (by simp) fun j hj => (HE1.out.lt j hj).1
           have hs2 : w1.heap.size ≤ w2.heap.size := HB2.out.size
           have HA2 := Lib.hid (p1.alloc (.cells #[.slice Ax xs.length cx] 37))
           have HN3 := Lib.hid (one_new w2 (.slice Ax xs.length cx) 37)
           have HO2 := Lib.hid p1
           clear p1 p2)
        | (at_builtin
           refine wpList_append_own _ rfl (.tmp 44) (.tmp 46) _ rfl w1.heap.size 37 i0 _ 1 24 Tryd.underlying25 hi0 hz0 hz1 hz2 rfl (by omega) _ _ _ rfl HA2.out ⟨w2.heap.size, 0, none⟩ 1 1 [.slice Ax xs.length cx] rfl rfl HN3.out (by intro u hu; simp at hu; subst hu; rfl) (by unfold maxLen; omega) (by omega) (by simp; omega) ?_
           intro v3 w3 p1 p2 _
           have HB3 : Hid (Below w1.heap.size w1 w3) := (HB2.out.alloc hs2 _).grown p2 (by simp; omega) fun j hj => (HO2.out.lt j hj).1
           have hs3 : w1.heap.size ≤ w3.heap.size := HB3.out.size
           have HO3 := Lib.hid p1
           obtain ⟨ao, c4, hv1, hc4⟩ := own_cellsL (own_below HO1.out HB3.out)
           rw [show 0 + (ds.length - k) = ds.length - k by omega] at hv1 hc4
           subst hv1
           have HN4 := Lib.hid hc4
           clear p1 p2 hc4)
        | (at_builtin
           refine wpList_app rfl (.tmp 48) (.tmp 49) _ rfl w1.heap.size 37 i0 _ 1 24 Tryd.underlying25 hi0 hz0 hz1 hz2 rfl (by omega) _ _ _ rfl HO3.out ao (ds.length - k) c4 ([] ++ (ds.drop k).map cellsL) rfl (by rw [List.nil_append, List.length_map, HDR.out]; omega) (fun h => by obtain ⟨ad, e1, _, e2⟩ := HN4.out h; exact ⟨ad, e1, e2⟩) (by rw [List.nil_append]; exact cellsL_one _) (by unfold maxLen; omega) (by omega) (by omega) ?_
           intro v4 w4 p1 p2
           have HB4 : Hid (Below w1.heap.size w1 w4) := HB3.out.grown p2 hs3 fun j hj => (HO3.out.lt j hj).1
           have HO4 := Lib.hid p1
           clear p1 p2))
      go_ret
      have HBF := Lib.hid (HB1.out.trans (HB4.out.mono hs1))
      have HFIN := Lib.hid (HB.out.trans (HBF.out.mono hws))
      refine ⟨v4, ds.take k ++ [⟨Ax, xs, cx⟩] ++ ds.drop k, rfl, ⟨?_, ?_, ?_, ?_⟩, ?_, ?_, ?_, HFIN.out, .inr fun b hb => by have := (HO4.out.lt b hb).1; omega⟩
      · have e1 : (ds.take k ++ [(⟨Ax, xs, cx⟩ : Li)] ++ ds.drop k).length = 0 + k + 1 + (ds.length - k) := by simp; omega
        have e2 : (ds.take k ++ [(⟨Ax, xs, cx⟩ : Li)] ++ ds.drop k).map cellsL = [] ++ (ds.take k).map cellsL ++ [.slice Ax xs.length cx] ++ ([] ++ (ds.drop k).map cellsL) := by simp [cellsL]
        rw [e1, e2]
        exact own_lower HO4.out (by omega)
      · intro u hu
        rcases List.mem_append.1 hu with hu | hu
        · rcases List.mem_append.1 hu with hu | hu
          · exact HV.out.caps u (List.mem_of_mem_take hu)
          · rw [List.mem_singleton.1 hu]; exact hcx
        · exact HV.out.caps u (List.mem_of_mem_drop hu)
      · intro u hu
        rcases List.mem_append.1 hu with hu | hu
        · rcases List.mem_append.1 hu with hu | hu
          · exact (HV.out.own u (List.mem_of_mem_take hu)).below HFIN.out (Nat.le_refl _)
          · rw [List.mem_singleton.1 hu]; exact HXO.out.below HFIN.out (Nat.le_refl _)
        · exact (HV.out.own u (List.mem_of_mem_drop hu)).below HFIN.out (Nat.le_refl _)
      · exact far_put HV.out.far HAP.out
      · have e : sayL (ds.take k ++ [(⟨Ax, xs, cx⟩ : Li)] ++ ds.drop k) = (sayL ds).take k ++ [xs] ++ (sayL ds).drop k := by simp [sayL, List.map_take, List.map_drop]
        rw [e]; exact HPUT.out.1
      · have e : sayL (ds.take k ++ [(⟨Ax, xs, cx⟩ : Li)] ++ ds.drop k) = (sayL ds).take k ++ [xs] ++ (sayL ds).drop k := by simp [sayL, List.map_take, List.map_drop]
        rw [e]; exact HPUT.out.2
      · simp; omega

end Go.Proofs.YtaobkanliiiapaaDoor

/- slices.Grow of nothing, and slices.Concat, at lists of numbers. -/

namespace Go.Proofs.YtaobkanliiiapaaDoor
open Go.RowKit

/-- A list as a slice in memory: where it lies, what it reads as, its capacity. -/
structure Pt where
  a : Option Addr
  r : List Int
  c : Nat
/-- The cells of block B are the slices ps. -/
def PtsAt (w : World) (B : Nat) (ps : List Pt) : Prop := B < w.heap.size ∧ ∀ (k : Nat) (p : Pt), ps[k]? = some p → w.cell? ⟨B, k, none⟩ = some (.slice p.a p.r.length p.c) ∧ Ints w w.heap.size p.a p.r
theorem PtsAt.keep {w w' : World} {B : Nat} {ps : List Pt} (h : PtsAt w B ps) (hb : Below w.heap.size w w') : PtsAt w' B ps :=
  ⟨Nat.lt_of_lt_of_le h.1 hb.size, fun k p hk => ⟨(hb.cell (p := ⟨B, k, none⟩) h.1).trans (h.2 k p hk).1, ((h.2 k p hk).2.keep hb).more hb.size⟩⟩
def catL (ps : List Pt) : List Int := ps.flatMap Pt.r
theorem catL_take {ps : List Pt} {k : Nat} (h : k < ps.length) : catL (ps.take (k + 1)) = catL (ps.take k) ++ ps[k].r := by
  unfold catL
  rw [List.take_add_one, List.getElem?_eq_getElem h, List.flatMap_append]
  simp
theorem catL_le {ps : List Pt} (k : Nat) : (catL (ps.take k)).length ≤ (catL ps).length := by
  have h : catL ps = catL (ps.take k) ++ catL (ps.drop k) := by unfold catL; rw [← List.flatMap_append, List.take_append_drop]
  rw [h, List.length_append]
  omega

theorem own_slice {w : World} {lo : Nat} {v : Value} {ys : List Int} (h : w.ownsRow lo 3 1 v ys.length (vals ys)) : ∃ A c, v = .slice A ys.length c ∧ OwnI w lo A ys ∧ ys.length ≤ c := by
  obtain ⟨A, c, e, hO⟩ := ownI_of_row (ys := ys) h
  refine ⟨A, c, e, hO, ?_⟩
  obtain ⟨_, ⟨e2, h0⟩ | ⟨g, cap, cur, e2, _, _, hc, _⟩⟩ := h
  · omega
  · rw [e] at e2
    injection e2 with _ _ e3
    omega

end Go.Proofs.YtaobkanliiiapaaDoor
