/- The law of ShortWords holds of every grammar and every number: the call returns true, and what was handed in reads afterwards as it read before. Conditions: the package's table of limits is as the program's text lays it (tied by the given tie). -/
import Derived.Test.YtjfhkcoiomokoaaDoorSw04
import Derived.Lib.AppendZerosOnto
import Derived.Lib.AppendZeros
import Derived.Test.YtjfhkcoiomokoaaDoorSw02
import Derived.Deep.AppendLies
import Derived.Test.YtjfhkcoiomokoaaDoorSw01
import Derived.Deep.RegionHeld3
import Derived.Test.YtjfhkcoiomokoaaDoorCards

namespace Go.Proofs.YtjfhkcoiomokoaaDoor
open Go.RowKit

set_option maxRecDepth 20000 in
set_option maxHeartbeats 1000000 in
theorem growNil_any (n : Nat) (hn : n ≤ 1048576) (w : World) :
    Calls Tryd.prog 122 #[.slice none 0 0, .int .i64 (n : Int)] w fun e w' => ∃ v, e = .returned v ∧ w'.ownsRow w.heap.size 3 1 v 0 [] ∧ Below w.heap.size w w' := by
  obtain ⟨i0, hi0, hz0, hz1, hz2⟩ := info_of Tryd.infoInt
  by_cases h0 : n = 0
  · subst h0
    go_enter Tryd.func122, Tryd.ntmps122
    go_wp2
    go_ret
    exact ⟨_, rfl, ⟨rfl, .inl ⟨rfl, rfl⟩⟩, Below.refl _ _⟩
  · have hrz : ∀ ty, (Builtin.append_ #[25, 3] ty #[.slice none 0 0, .int .i64 (n : Int)]).run Tryd.prog w =
        .ok (.slice (some ⟨w.heap.size, 0, none⟩) n (grownCap w n 0 3)) (w.drew.alloc (.cells (([] : List Value).toArray ++ Builtin.zeroCells (Value.int .i64 0).cells n ++ Builtin.zeroCells (Value.int .i64 0).cells (grownCap w n 0 3 - n)) 3)) := fun ty => by
      have h := Lib.run_append_grow_zeros (P := Tryd.prog) w 25 3 ty 3 i0 (.int .i64 0) .i64 .i64 Tryd.underlying25 Tryd.underlying3 hi0 hz0 none 0 0 [] (run_firstCells_none w.drew i0.size 0 0 0) n (by omega) (by rw [hz1]; omega) (by omega) (by omega) (by rw [hz2]; omega) (growslice_fits (by omega) (by rw [hz2]; omega))
      rw [Nat.zero_add] at h
      exact h
    have hge : n ≤ grownCap w n 0 3 := grownCap_ge w _ _ _
    have hle := grownCap_le_maxLen w n 0 3 (by unfold maxLen; omega)
    unfold maxLen at hle
    have HO : Hid (∀ G, n ≤ G → G ≤ maxLen → (w.drew.alloc (.cells (([] : List Value).toArray ++ Builtin.zeroCells (Value.int .i64 0).cells n ++ Builtin.zeroCells (Value.int .i64 0).cells (G - n)) 3)).ownsRow w.heap.size 3 1 (.slice (some ⟨w.heap.size, 0, none⟩) 0 G) 0 []) := fun G h1 h2 =>
      ⟨rfl, .inr ⟨w.heap.size, G, _, rfl, Nat.le_refl _, heap_alloc_new w.drew _, by omega, h2, by simp [Builtin.zeroCells, Value.cells]; omega, by simp⟩⟩
    have HB : Hid (∀ G, Below w.heap.size w (w.drew.alloc (.cells (([] : List Value).toArray ++ Builtin.zeroCells (Value.int .i64 0).cells n ++ Builtin.zeroCells (Value.int .i64 0).cells (G - n)) 3))) := fun G => by go_grown
    generalize grownCap w n 0 3 = G at *
    have HOG := Lib.hid (HO.out G hge (by unfold maxLen; exact hle))
    have HBG := Lib.hid (HB.out G)
    clear HO HB
    generalize w.drew.alloc (.cells (([] : List Value).toArray ++ Builtin.zeroCells (Value.int .i64 0).cells n ++ Builtin.zeroCells (Value.int .i64 0).cells (G - n)) 3) = w2 at *
    go_enter Tryd.func122, Tryd.ntmps122
    go_wp2_with (at_builtin; refine Lib.wpList_append_run _ rfl _ _ _ _ rfl _ _ rfl rfl _ _ (hrz _) ?_)
    all_goals
      go_ret
      exact ⟨_, rfl, HOG.out, HBG.out⟩

/-- A list as a slice in memory: where it lies, what it reads as, its capacity. -/
structure Pt where
  a : Option Addr
  r : List Int
  c : Nat
/-- The cells of block B are the slices ps. -/
def PtsAt (w : World) (B : Nat) (ps : List Pt) : Prop := B < w.heap.size ∧ ∀ (k : Nat) (p : Pt), ps[k]? = some p → w.cell? ⟨B, k, none⟩ = some (.slice p.a p.r.length p.c) ∧ Ints w w.heap.size p.a p.r
theorem PtsAt.keep {w w' : World} {B : Nat} {ps : List Pt} (h : PtsAt w B ps) (hb : Below w.heap.size w w') : PtsAt w' B ps :=
  ⟨Nat.lt_of_lt_of_le h.1 hb.size, fun k p hk => ⟨(hb.cell (p := ⟨B, k, none⟩) h.1).trans (h.2 k p hk).1, ((h.2 k p hk).2.keep hb).more hb.size⟩⟩
def catL (ps : List Pt) : List Int := ps.flatMap Pt.r
theorem catL_take {ps : List Pt} {k : Nat} (h : k < ps.length) : catL (ps.take (k + 1)) = catL (ps.take k) ++ ps[k].r := by
  unfold catL
  rw [List.take_add_one, List.getElem?_eq_getElem h, List.flatMap_append]
  simp
theorem catL_le {ps : List Pt} (k : Nat) : (catL (ps.take k)).length ≤ (catL ps).length := by
  have h : catL ps = catL (ps.take k) ++ catL (ps.drop k) := by unfold catL; rw [← List.flatMap_append, List.take_append_drop]
  rw [h, List.length_append]
  omega

set_option maxRecDepth 20000 in
set_option maxHeartbeats 1000000 in
theorem concat_any (B : Nat) (ps : List Pt) (c : Nat) (w : World) (hP : PtsAt w B ps) (hn : (catL ps).length ≤ 1048576) (hl : ps.length ≤ 1048576) :
    Calls Tryd.prog 97 #[.slice (some ⟨B, 0, none⟩) ps.length c] w fun e w' => ∃ v, e = .returned v ∧ w'.ownsRow w.heap.size 3 1 v (catL ps).length (vals (catL ps)) ∧ Below w.heap.size w w' := by
  obtain ⟨i0, hi0, hz0, hz1, hz2⟩ := info_of Tryd.infoInt
  have HP := Lib.hid hP; clear hP
  go_enter Tryd.func97, Tryd.ntmps97
  go_wp2
  go_loopw [3, 11] (fun z i wr => ∃ (k m : Nat), k ≤ ps.length ∧ i = .int .i64 k ∧ z = .int .i64 m ∧ Hid (m = (catL (ps.take k)).length) ∧ wr = w) (fun _ i _ => ps.length - (intOf i).toNat)
  case atStart => exact ⟨0, 0, by omega, rfl, rfl, rfl, rfl⟩
  case round =>
    obtain ⟨k, m, hk, rfl, rfl, HM, hwr⟩ := hrel
    subst hwr
    by_cases hlt : k < ps.length
    · obtain ⟨c1, _⟩ := HP.out.2 k ps[k] (List.getElem?_eq_getElem hlt)
      have HN : Hid (m + ps[k].r.length = (catL (ps.take (k + 1))).length) := by show _ = _; rw [catL_take hlt, List.length_append, HM.out]
      have hm : m + ps[k].r.length ≤ 1048576 := by have := HN.out; have := catL_le (ps := ps) (k + 1); omega
      go_wp2
      go_roundw
      case rel => exact ⟨k + 1, m + ps[k].r.length, by omega, by go_num, by go_num, HN.out, trivial⟩
      case measure => simp [intOf]; omega
    · obtain rfl : k = ps.length := by omega
      have hm : m = (catL ps).length := by have := HM.out; rw [List.take_length] at this; exact this
      have hml : m ≤ 1048576 := by omega
      have HMM := Lib.hid hm; clear hm HM
      obtain ⟨wO, hwO⟩ : ∃ x, x = wr := ⟨_, rfl⟩
      subst hwO
      go_wp2_with fail
      refine (growNil_any m hml _).mono ?_
      rintro e w1 ⟨v1, rfl, hO1, hB1⟩
      have HO1 : Hid (w1.ownsRow wO.heap.size 3 1 v1 (catL (ps.take 0)).length (vals (catL (ps.take 0)))) := hO1
      have HB1 := Lib.hid hB1
      clear hO1 hB1
      go_wp2
      go_loopw [6, 27] (fun v i wr => ∃ (k : Nat), k ≤ ps.length ∧ i = .int .i64 k ∧ Hid (wr.ownsRow wO.heap.size 3 1 v (catL (ps.take k)).length (vals (catL (ps.take k)))) ∧ Hid (Below wO.heap.size wO wr)) (fun _ i _ => ps.length - (intOf i).toNat)
      case atStart => exact ⟨0, by omega, rfl, HO1.out, HB1.out⟩
      case round =>
        obtain ⟨k, hk, rfl, HO, HB⟩ := hrel
        clear HO1 HB1
        by_cases hlt : k < ps.length
        · have hPk := HP.out.keep HB.out
          obtain ⟨c1, c2⟩ := hPk.2 k ps[k] (List.getElem?_eq_getElem hlt)
          have HC := Lib.hid (catL_take hlt)
          have hlk : (catL (ps.take k)).length + ps[k].r.length ≤ 1048576 := by have h1 := catL_le (ps := ps) (k + 1); rw [HC.out, List.length_append] at h1; omega
          clear hPk
          generalize ps[k] = p at c1 c2 HC hlk
          obtain ⟨pa, pr, pc⟩ := p
          dsimp only at c1 c2 HC hlk
          have HC2 := Lib.hid c2; clear c2
          rcases pa with _ | ad
          · have hx : pr = [] := by
              rcases pr with _ | ⟨x, xs⟩
              · rfl
              · obtain ⟨_, _, e, _⟩ := HC2.out (by simp)
                cases e
            subst hx
            have HON : Hid (wr.ownsRow wO.heap.size 3 1 u6 (catL (ps.take (k + 1))).length (vals (catL (ps.take (k + 1))))) := by have h := HO.out; show World.ownsRow _ _ _ _ _ _ _; rw [HC.out, List.append_nil]; exact h
            go_wp2_with (at_builtin
                         refine append_nil_at rfl (.tmp 31) (.tmp 32) _ rfl wO.heap.size 3 i0 1 Tryd.underlying25 hi0 _ _ _ rfl HO.out pc rfl ?_)
            go_roundw
            case rel => exact ⟨k + 1, by omega, by go_num, HON.out, HB.out⟩
            case measure => simp [intOf]; omega
          · have HN : Hid (∀ (j : Nat) (v : Value), (vals pr)[j]? = some v → wr.cell? (ad.add j) = some v) := fun j v hv => by
              have hp : 0 < pr.length := by have := (List.getElem?_eq_some_iff.1 hv).1; rw [vals_length] at this; omega
              obtain ⟨ad', e, h⟩ := HC2.out.src hp
              injection e with e
              subst e
              exact h j v hv
            have hws : wO.heap.size ≤ wr.heap.size := HB.out.size
            have hvl : (vals (catL (ps.take k))).length = (catL (ps.take k)).length := vals_length _
            go_wp2_with (at_builtin
                         refine wpList_append_own _ rfl (.tmp 31) (.tmp 32) _ rfl wO.heap.size 3 i0 _ 1 8 Tryd.underlying25 hi0 hz0 hz1 hz2 rfl (by omega) _ _ _ rfl HO.out ad pr.length pc (vals pr) rfl (by rw [vals_length]; omega) HN.out (vals_one pr) (by unfold maxLen; omega) (by omega) (by omega) ?_
                         intro v' w' h1 h2 h3
                         have HO1 := Lib.hid h1
                         have HB2 : Hid (Below wO.heap.size wO w') := HB.out.grown h2 HB.out.size fun j hj => (HO.out.lt j hj).1
                         clear h1 h2 h3)
            go_roundw
            case rel =>
              refine ⟨k + 1, by omega, by go_num, ?_, HB2.out⟩
              show World.ownsRow _ _ _ _ _ _ _
              rw [HC.out, List.length_append]
              have h := HO1.out
              unfold vals at h ⊢
              rw [List.map_append]
              exact h
            case measure => simp [intOf]; omega
        · obtain rfl : k = ps.length := by omega
          have HOE : Hid (wr.ownsRow wO.heap.size 3 1 u6 (catL ps).length (vals (catL ps))) := by have h := HO.out; rw [List.take_length] at h; exact h
          go_wp2
          go_ret
          exact ⟨_, rfl, HOE.out, HB.out⟩

theorem own_slice {w : World} {lo : Nat} {v : Value} {ys : List Int} (h : w.ownsRow lo 3 1 v ys.length (vals ys)) : ∃ A c, v = .slice A ys.length c ∧ OwnI w lo A ys ∧ ys.length ≤ c := by
  obtain ⟨A, c, e, hO⟩ := ownI_of_row (ys := ys) h
  refine ⟨A, c, e, hO, ?_⟩
  obtain ⟨_, ⟨e2, h0⟩ | ⟨g, cap, cur, e2, _, _, hc, _⟩⟩ := h
  · omega
  · rw [e] at e2
    injection e2 with _ _ e3
    omega

end Go.Proofs.YtjfhkcoiomokoaaDoor

/- What the laws' marks write into lists of lists, and what they find again. -/

namespace Go.Proofs.YtjfhkcoiomokoaaDoor
open Go.RowKit

theorem OwnL.at_ {w : World} {lo : Nat} {A : Option Addr} {ls : List Li} (h : OwnL w lo A ls) {i : Nat} (hi : i < ls.length) :
    ∃ g, A = some ⟨g, 0, none⟩ ∧ lo ≤ g ∧ g < w.heap.size ∧ w.cell? ⟨g, i, none⟩ = some (.slice ls[i].a ls[i].r.length ls[i].c) ∧ OwnI w lo ls[i].a ls[i].r := by
  rcases h with h | ⟨g, cs, ea, hl, hr, hc, _⟩
  · subst h; simp at hi
  · obtain ⟨h1, _, h3⟩ := hc i _ (List.getElem?_eq_getElem hi)
    exact ⟨g, ea, hl, hr.lt, by rw [hr.cell]; exact h1, h3⟩

theorem OwnL.setList {w w' : World} {lo : Nat} {A : Option Addr} {ls : List Li} (h : OwnL w lo A ls) {i : Nat} (hi : i < ls.length) {ys : List Int} (hy : ys.length = ls[i].r.length)
    (hO : OwnI w' lo ls[i].a ys) (hs : Save (Its ls[i].a ls[i].r) w w') : OwnL w' lo A (ls.set i { ls[i] with r := ys }) := by
  rcases h with h | ⟨g, cs, ea, hl, hr, hc, hd⟩
  · subst h; simp at hi
  · have hgi : ¬ Its ls[i].a ls[i].r g := by
      rintro ⟨e1, e2⟩
      rcases (hc i _ (List.getElem?_eq_getElem hi)).2.2 with h3 | ⟨g', cs', e3, _, hr', _⟩
      · exact e2 h3
      · rw [e1] at e3
        injection e3 with e3
        injection e3 with e3
        exact hr'.ne hr (by decide) e3.symm
    refine .inr ⟨g, cs, ea, hl, hr.save hs hgi, fun k u hu => ?_, fun a b u v hu hv hab hun hvn => ?_⟩
    · rw [List.getElem?_set] at hu
      by_cases e : i = k
      · subst e
        rw [if_pos rfl, if_pos hi] at hu
        injection hu with hu
        subst hu
        obtain ⟨h1, h2, _⟩ := hc i _ (List.getElem?_eq_getElem hi)
        exact ⟨by rw [hy]; exact h1, by rw [hy]; exact h2, hO⟩
      · rw [if_neg e] at hu
        obtain ⟨h1, h2, h3⟩ := hc k u hu
        refine ⟨h1, h2, h3.save hs fun g' e1 e2 hI => ?_⟩
        exact hd k i u ls[i] hu (List.getElem?_eq_getElem hi) (Ne.symm e) e2 hI.2 (e1.trans hI.1.symm)
    · have old : ∀ (j : Nat) (y : Li), (ls.set i { ls[i] with r := ys })[j]? = some y → ∃ z, ls[j]? = some z ∧ z.a = y.a ∧ (y.r ≠ [] → z.r ≠ []) := by
        intro j y hy'
        rw [List.getElem?_set] at hy'
        by_cases e : i = j
        · subst e
          rw [if_pos rfl, if_pos hi] at hy'
          injection hy' with hy'
          subst hy'
          refine ⟨ls[i], List.getElem?_eq_getElem hi, rfl, fun hn e => hn ?_⟩
          have : ys.length = 0 := by rw [hy, e]; rfl
          exact List.eq_nil_of_length_eq_zero this
        · rw [if_neg e] at hy'
          exact ⟨y, hy', rfl, id⟩
      obtain ⟨u', hu', e1, e2⟩ := old a u hu
      obtain ⟨v', hv', e3, e4⟩ := old b v hv
      rw [← e1, ← e3]
      exact hd a b u' v' hu' hv' hab (e2 hun) (e4 hvn)

/-- How many numbers the first i lists hold. -/
def lcnt (ls : List Li) (i : Nat) : Nat := ((ls.take i).map fun u => u.r.length).sum
theorem lcnt_succ {ls : List Li} {i : Nat} (hi : i < ls.length) : lcnt ls (i + 1) = lcnt ls i + ls[i].r.length := by
  unfold lcnt
  rw [List.take_succ_eq_append_getElem hi, List.map_append, List.sum_append]
  simp
theorem lcnt_zero (ls : List Li) : lcnt ls 0 = 0 := by simp [lcnt]

def markV (k : Int) (u : Li) : Li := { u with r := seqL k u.r.length }
/-- The lists with the first i of them marked from k on. -/
def markM (k : Int) (ls : List Li) (i : Nat) : List Li := ls.mapIdx fun j u => if j < i then markV (k + (lcnt ls j : Int)) u else u
theorem markM_length (k : Int) (ls : List Li) (i : Nat) : (markM k ls i).length = ls.length := by simp [markM]
theorem markM_at {k : Int} {ls : List Li} {i j : Nat} (h : j < ls.length) (hj : j < (markM k ls i).length) : (markM k ls i)[j] = if j < i then markV (k + (lcnt ls j : Int)) ls[j] else ls[j] := by simp [markM]
theorem markM_zero (k : Int) (ls : List Li) : markM k ls 0 = ls := by
  apply List.ext_getElem?
  intro j
  simp [markM]
theorem markM_step {k : Int} {ls : List Li} {i : Nat} (h : i < ls.length) : (markM k ls i).set i (markV (k + (lcnt ls i : Int)) ls[i]) = markM k ls (i + 1) := by
  apply List.ext_getElem?
  intro j
  rw [List.getElem?_set, markM_length]
  by_cases e : i = j
  · subst e
    rw [if_pos rfl, if_pos h]
    simp [markM, h]
  · rw [if_neg e]
    simp only [markM, List.getElem?_mapIdx]
    by_cases hj : j < ls.length
    · rw [List.getElem?_eq_getElem hj]
      simp only [Option.map_some]
      congr 1
      by_cases hji : j < i
      · rw [if_pos hji, if_pos (by omega)]
      · rw [if_neg hji, if_neg (by omega)]
    · rw [List.getElem?_eq_none (by omega)]
      rfl

/-- The blocks of a slice of lists and of the lists. -/
def ItsL (A : Option Addr) (ls : List Li) (b : Nat) : Prop := (A = some ⟨b, 0, none⟩ ∧ ls ≠ []) ∨ ∃ (i : Nat) (u : Li), ls[i]? = some u ∧ Its u.a u.r b

theorem OwnL.its {w : World} {lo : Nat} {A : Option Addr} {ls : List Li} (h : OwnL w lo A ls) {b : Nat} (hb : ItsL A ls b) : lo ≤ b ∧ b < w.heap.size := by
  rcases h with h | ⟨g, cs, ea, hl, hr, hc, _⟩
  · subst h
    rcases hb with ⟨_, h⟩ | ⟨i, u, h, _⟩
    · exact absurd rfl h
    · simp at h
  · rcases hb with ⟨e, _⟩ | ⟨i, u, hu, e, hn⟩
    · rw [ea] at e; injection e with e; injection e with e; subst e; exact ⟨hl, hr.lt⟩
    · rcases (hc i u hu).2.2 with h3 | ⟨g', cs', e3, l3, hr', _⟩
      · exact absurd h3 hn
      · rw [e] at e3; injection e3 with e3; injection e3 with e3; subst e3; exact ⟨l3, hr'.lt⟩

def MarkedL (w : World) (lo : Nat) (A : Option Addr) (ls : List Li) (k : Int) (e : Ending) (w' : World) : Prop :=
  e = .returned (.int .i64 (k + (lcnt ls ls.length : Int))) ∧ OwnL w' lo A (markM k ls ls.length) ∧ Save (ItsL A ls) w w'

theorem mark_nextL {wr w1 : World} {lo : Nat} {A : Option Addr} {j : Nat} {ls : List Li} {k : Int} (H : OwnL wr lo A (markM k ls j)) (hlt : j < ls.length)
    (hO : OwnI w1 lo ls[j].a (seqL (k + (lcnt ls j : Int)) ls[j].r.length)) (hS : Save (Its ls[j].a ls[j].r) wr w1) : OwnL w1 lo A (markM k ls (j + 1)) := by
  have hlt' : j < (markM k ls j).length := by rw [markM_length]; exact hlt
  have hat : (markM k ls j)[j] = ls[j] := by rw [markM_at hlt, if_neg (by omega)]
  have h2 := H.setList (i := j) (w' := w1) (ys := seqL (k + (lcnt ls j : Int)) ls[j].r.length) hlt' (by simp [hat, seqL_length]) (by simpa [hat] using hO) (by simpa [hat] using hS)
  rw [← markM_step hlt]
  simpa [hat, markV] using h2

set_option maxHeartbeats 400000 in
theorem markIntSS_any (A : Option Addr) (ls : List Li) (c lo : Nat) (k : Int) (w : World) (h : OwnL w lo A ls) (hn : ls.length ≤ 1048576) (hu : ∀ u ∈ ls, u.r.length ≤ 1048576) (hk : 0 ≤ k) (hk' : k ≤ 16) :
    Calls Tryd.prog 21 #[.slice A ls.length c, .int .i64 k] w (MarkedL w lo A ls k) := by
  have HO := Lib.hid h; clear h
  have HU := Lib.hid hu; clear hu
  go_enter Tryd.func21, Tryd.ntmps21
  go_wp2
  go_loopw [1, 5] (fun v i wr => ∃ (j : Nat), j ≤ ls.length ∧ i = .int .i64 j ∧ v = .int .i64 (k + (lcnt ls j : Int)) ∧ lcnt ls j ≤ j * 1048577 ∧ Hid (OwnL wr lo A (markM k ls j)) ∧ Hid (Save (ItsL A ls) w wr)) (fun _ i _ => ls.length - (intOf i).toNat)
  case atStart => exact ⟨0, by omega, rfl, by simp [lcnt_zero], by simp [lcnt_zero], by show OwnL _ _ _ _; rw [markM_zero]; exact HO.out, Save.refl _ _⟩
  case round =>
    obtain ⟨j, hj, rfl, rfl, hcn, H, HS⟩ := hrel
    by_cases hlt : j < ls.length
    · have hlt' : j < (markM k ls j).length := by rw [markM_length]; exact hlt
      have hat : (markM k ls j)[j] = ls[j] := by rw [markM_at hlt, if_neg (by omega)]
      obtain ⟨g, rfl, _, _, c1, c3⟩ := H.out.at_ hlt'
      rw [hat] at c1 c3
      have C3 := Lib.hid c3
      have hul := HU.out ls[j] (List.getElem_mem hlt)
      have HCS := Lib.hid (lcnt_succ hlt)
      clear c3 hat hlt'
      go_wp2_with fail
      refine (markIntS_any _ _ _ lo _ _ C3.out hul (by omega) (by omega)).mono ?_
      rintro e w1 ⟨rfl, hO1, hS1⟩
      have HO1 := Lib.hid hO1; clear hO1
      have HS1 := Lib.hid hS1; clear hS1
      go_wp2
      go_roundw
      case rel => exact ⟨j + 1, by omega, by go_num, by rw [HCS.out]; go_num, by rw [HCS.out]; omega, mark_nextL H.out hlt HO1.out HS1.out, HS.out.trans (HS1.out.wider fun i hi => .inr ⟨j, ls[j], List.getElem?_eq_getElem hlt, hi⟩)⟩
      case measure => simp [intOf]; omega
    · obtain rfl : j = ls.length := by omega
      go_wp2
      go_ret
      exact ⟨rfl, H.out, HS.out⟩

set_option maxHeartbeats 400000 in
theorem heldIntSS_any (A : Option Addr) (ls : List Li) (c : Nat) (k : Int) (w : World) (h : Lls w w.heap.size A (markM k ls ls.length)) (hn : ls.length ≤ 1048576) (hu : ∀ u ∈ ls, u.r.length ≤ 1048576) (hk : 0 ≤ k) (hk' : k ≤ 16) :
    Calls Tryd.prog 22 #[.slice A ls.length c, .int .i64 k] w fun e w' => e = .returned (.int .i64 (k + (lcnt ls ls.length : Int))) ∧ Below w.heap.size w w' := by
  have HO := Lib.hid h; clear h
  have HU := Lib.hid hu; clear hu
  go_enter Tryd.func22, Tryd.ntmps22
  go_wp2
  go_loopw [1, 5] (fun v i wr => ∃ (j : Nat), j ≤ ls.length ∧ i = .int .i64 j ∧ v = .int .i64 (k + (lcnt ls j : Int)) ∧ lcnt ls j ≤ j * 1048577 ∧ Below w.heap.size w wr) (fun _ i _ => ls.length - (intOf i).toNat)
  case atStart => exact ⟨0, by omega, rfl, by simp [lcnt_zero], by simp [lcnt_zero], Below.refl _ _⟩
  case round =>
    obtain ⟨j, hj, rfl, rfl, hcn, hB⟩ := hrel
    by_cases hlt : j < ls.length
    · have hat : (markM k ls ls.length)[j]'(by rw [markM_length]; exact hlt) = markV (k + (lcnt ls j : Int)) ls[j] := by rw [markM_at hlt, if_pos hlt]
      obtain ⟨b, o, rfl, hb, c1, _, c3⟩ := (HO.out.keep hB).at_ (k := j) (by rw [markM_length]; exact hlt)
      rw [hat] at c1 c3
      simp only [markV, seqL_length] at c1 c3
      have C3 := Lib.hid (c3.more hB.size)
      have hul := HU.out ls[j] (List.getElem_mem hlt)
      have HCS := Lib.hid (lcnt_succ hlt)
      clear c3 hat
      go_wp2_with fail
      refine (heldIntS_any _ _ _ _ _ C3.out hul (by omega) (by omega)).mono ?_
      rintro e w1 ⟨rfl, hB1⟩
      have HB1 := Lib.hid (hB.trans (hB1.mono hB.size)); clear hB1
      go_wp2
      go_roundw
      case rel => exact ⟨j + 1, by omega, by go_num, by rw [HCS.out]; go_num, by rw [HCS.out]; omega, HB1.out⟩
      case measure => simp [intOf]; omega
    · obtain rfl : j = ls.length := by omega
      go_wp2
      go_ret
      exact ⟨rfl, hB⟩

end Go.Proofs.YtjfhkcoiomokoaaDoor

/- The program's words up to a length. -/

namespace Go.Proofs.YtjfhkcoiomokoaaDoor
open Go.RowKit

theorem catL_two (a b : Pt) : catL [a, b] = a.r ++ b.r := by simp [catL]
theorem pts_two {w : World} {A : Option Addr} {x : List Int} {c : Nat} {t : Int} (h : Ints w w.heap.size A x) :
    PtsAt ((w.alloc (.cells #[.int .i64 t] 3)).alloc (.cells #[.slice A x.length c, .slice (some ⟨w.heap.size, 0, none⟩) 1 1] 25)) (w.heap.size + 1) [⟨A, x, c⟩, ⟨some ⟨w.heap.size, 0, none⟩, [t], 1⟩] := by
  refine ⟨by simp, fun k p hk => ?_⟩
  rcases k with _ | _ | k
  · simp at hk
    subst hk
    refine ⟨by simp [go_sem], (h.keep ?_).more (by simp; omega)⟩
    go_grown
  · simp at hk
    subst hk
    refine ⟨by simp [go_sem], ?_⟩
    have h1 := ints_one w t
    have h2 : Below (w.heap.size + 1) (w.alloc (.cells #[.int .i64 t] 3)) ((w.alloc (.cells #[.int .i64 t] 3)).alloc (.cells #[.slice A x.length c, .slice (some ⟨w.heap.size, 0, none⟩) 1 1] 25)) := (Below.refl _ _).alloc (by simp) _
    exact (h1.keep h2).more (by simp)
  · simp at hk

set_option maxRecDepth 20000 in
set_option maxHeartbeats 1000000 in
theorem wordsUpTo_any (T M : Nat) (hT1 : 1 ≤ T) (hT4 : T ≤ 4) (hM : M ≤ 4) (w : World) :
    Calls Tryd.prog 58 #[.int .i64 (T : Int), .int .i64 (M : Int)] w fun e w' => ∃ v ds, e = .returned v ∧ ListsW w' w.heap.size v ds ∧ sayL ds = upTo T (M + 1) ∧ Below w.heap.size w w' := by
  obtain ⟨i0, hi0, hz0, hz1, hz2⟩ := info_of Tryd.infoIntS
  have HB0 : Hid (Below w.heap.size w ((w.alloc (.cells #[] 3)).alloc (.cells #[.slice (some ⟨w.heap.size, 0, none⟩) 0 0] 25))) := by show Below _ _ _; go_grown
  have HL0 : Hid (ListsW ((w.alloc (.cells #[] 3)).alloc (.cells #[.slice (some ⟨w.heap.size, 0, none⟩) 0 0] 25)) w.heap.size (.slice (some ⟨w.heap.size + 1, 0, none⟩) 1 1) [⟨some ⟨w.heap.size, 0, none⟩, [], 0⟩]) := by
    have h := Row.new (w.alloc (.cells #[] 3)) 25 #[.slice (some ⟨w.heap.size, 0, none⟩) 0 0]
    rw [World.size_alloc] at h
    exact ListsW.one h (by omega) (.inl rfl) (Nat.le_refl _)
  generalize hLL : (upTo T M).length = L
  have HLL := Lib.hid hLL; clear hLL
  have hL5 : L ≤ 1280 := by have := HLL.out; have := upTo_le hT4 M (by omega); omega
  go_enter Tryd.func58, Tryd.ntmps58
  go_wp2
  go_loopw [5, 6] (fun v x wr => ∃ (a : Nat) (ds : List Li), a ≤ L ∧ x = .int .i64 a ∧ Hid (Below w.heap.size w wr) ∧ Hid (ListsW wr w.heap.size v ds) ∧ Hid (sayL ds = que T M a)) (fun _ x _ => L - (intOf x).toNat)
  case atStart => exact ⟨0, _, by omega, rfl, HB0.out, HL0.out, (que_start _ _).symm⟩
  case round =>
    clear HB0 HL0
    obtain ⟨a, ds, ha, rfl, HB, HL, HSY⟩ := hrel
    by_cases hlt : a < L
    · obtain ⟨x, hx⟩ : ∃ x, (upTo T M)[a]? = some x := ⟨_, List.getElem?_eq_getElem (by have := HLL.out; omega)⟩
      have hxM : x.length < M := upTo_word hx
      have HX := Lib.hid hx; clear hx
      have hq := que_word (q := []) hT1 HX.out (by have := que_mid (j := 0) HX.out (by omega); rw [kidsTo_zero] at this; exact this)
      rw [List.append_nil] at hq
      obtain ⟨u, hu, hur⟩ := sayL_get HSY.out hq
      obtain ⟨hul, hue⟩ := List.getElem?_eq_some_iff.1 hu
      obtain ⟨A', c', rfl, hcap', hO⟩ := HL.out.slice
      obtain ⟨g, rfl, _, _, c1, c2⟩ := hO.at_ hul
      rw [hue, hur] at c1
      clear c2 hq hO hu hur hue
      obtain ⟨wA, hwA⟩ : ∃ x, x = wr := ⟨wr, rfl⟩
      subst hwA
      go_wp2
      clear c1 hul
      go_loopw [5, 20] (fun v y wr => ∃ (j : Nat) (ds : List Li), j ≤ T ∧ y = .int .i64 j ∧ Hid (Below w.heap.size w wr) ∧ Hid (ListsW wr w.heap.size v ds) ∧ Hid (sayL ds = que T M a ++ kidsTo j x)) (fun _ y _ => T - (intOf y).toNat)
      case atStart => exact ⟨0, ds, by omega, rfl, HB.out, HL.out, by show _ = _; rw [kidsTo_zero, List.append_nil]; exact HSY.out⟩
      case round =>
        clear HB HL HSY
        obtain ⟨j, es, hj, rfl, HB, HL, HSY⟩ := hrel
        by_cases hlt2 : j < T
        · obtain ⟨⟨ua, ur, uc⟩, hu, hur⟩ := sayL_get HSY.out (que_word hT1 HX.out (que_mid HX.out hj))
          dsimp only at hur
          subst hur
          obtain ⟨hul, hue⟩ := List.getElem?_eq_some_iff.1 hu
          obtain ⟨A', c2', rfl, hcap2', hO⟩ := HL.out.slice
          obtain ⟨g2, rfl, _, _, c1, c2⟩ := hO.at_ hul
          rw [hue] at c1 c2
          have hsz := HB.out.size
          have HP := Lib.hid (pts_two (t := (j : Int)) (c := uc) c2.ints)
          have hdl : es.length ≤ 1280 := by
            rw [sayL_len' HSY.out]
            obtain ⟨r, hr⟩ := que_mid HX.out hj
            have h1 := upTo_le hT4 (M + 1) (by omega)
            rw [← hr, List.length_append] at h1
            omega
          clear hO hu hue c2
          have HB1 : Hid (Below wr.heap.size wr ((wr.alloc (.cells #[.int .i64 (j : Int)] 3)).alloc (.cells #[.slice ua ur.length uc, .slice (some ⟨wr.heap.size, 0, none⟩) 1 1] 25))) := by show Below _ _ _; go_grown
          have HC := Lib.hid (concat_any (wr.heap.size + 1) _ 2 _ HP.out (by rw [catL_two]; simp; omega) (by simp))
          rw [catL_two] at HC
          clear HP
          have HNX : Hid (∀ A c, sayL (es ++ [⟨A, ur ++ [(j : Int)], c⟩]) = que T M a ++ kidsTo (j + 1) ur) := fun A c => by rw [sayL_snoc, HSY.out, kidsTo_succ, List.append_assoc]
          have hxl : (ur ++ [(j : Int)]).length ≤ 5 := by simp; omega
          go_wp2_with fail
          refine HC.out.mono ?_
          clear HC
          rintro e w1 ⟨v, rfl, hOv, hBv⟩
          obtain ⟨A1, cv, rfl, hO1, hcv⟩ := own_slice (ys := ur ++ [(j : Int)]) hOv
          have HB2 := Lib.hid (HB1.out.trans (hBv.mono HB1.out.size))
          have HO1 := Lib.hid (hO1.lower (lo' := wr.heap.size) HB1.out.size)
          clear hOv hO1 hBv HB1
          generalize ur ++ [(j : Int)] = xs at *
          have hs1 := HB2.out.size
          have HWn : Hid ((w1.alloc (.cells #[.slice A1 xs.length cv] 25)).ownsRow w.heap.size 25 1 _ es.length (es.map cellsL)) := (own_below HL.out.row HB2.out).alloc _
          have HNW := Lib.hid (one_new w1 (.slice A1 xs.length cv) 25)
          go_wp2_with (at_builtin
                       refine wpList_append_own _ rfl (.tmp 23) (.tmp 32) _ rfl w.heap.size 25 i0 _ 1 24 Tryd.underlying27 hi0 hz0 hz1 hz2 rfl (by omega) _ _ _ rfl HWn.out ⟨w1.heap.size, 0, none⟩ 1 1 [.slice A1 xs.length cv] rfl rfl HNW.out (by intro u hu; simp at hu; subst hu; rfl) (by unfold maxLen; omega) (by omega) (by simp; omega) ?_
                       intro v' w' p1 p2 p3
                       have HLN := Lib.hid (HL.out.pushI HB2.out hsz HO1.out hcv p1 p2)
                       have hBn : Below w.heap.size w1 w' := ((Below.refl _ _).alloc (by omega) _).grown p2 (by simp; omega) fun j hj => (HL.out.lt j hj).1
                       have HBn := Lib.hid ((HB.out.trans (HB2.out.mono hsz)).trans hBn)
                       clear p1 p2 p3 hBn)
          go_roundw
          case rel => exact ⟨j + 1, _, by omega, by go_num, HBn.out, HLN.out, HNX.out _ _⟩
          case measure => simp [intOf]; omega
        · obtain rfl : j = T := by omega
          have HNX : Hid (sayL es = que j M (a + 1)) := by show _ = _; rw [que_step HX.out]; exact HSY.out
          go_wp2
          go_roundw
          case rel => exact ⟨a + 1, es, by omega, by go_num, HB.out, HL.out, HNX.out⟩
          case measure => simp [intOf]; omega
    · obtain rfl : a = L := by omega
      obtain ⟨x, hx, hxl⟩ := que_last (m := T) (n := M) hT1
      rw [HLL.out] at hx
      obtain ⟨u, hu, hur⟩ := sayL_get HSY.out hx
      obtain ⟨hul, hue⟩ := List.getElem?_eq_some_iff.1 hu
      obtain ⟨A', c', e', hcap', hO⟩ := HL.out.slice
      subst e'
      obtain ⟨g, rfl, _, _, c1, c2⟩ := hO.at_ hul
      rw [hue, hur, hxl] at c1
      have HE : Hid (sayL ds = upTo T (M + 1)) := by show _ = _; rw [HSY.out, ← HLL.out, que_end]
      clear hx hu hO c2 hur hue
      go_wp2
      go_ret
      exact ⟨_, ds, rfl, HL.out, HE.out, HB.out⟩

end Go.Proofs.YtjfhkcoiomokoaaDoor

/- The program's ShortWords. -/

namespace Go.Proofs.YtjfhkcoiomokoaaDoor
open Go.RowKit

theorem sel_yes {P : List Int → Bool} {ds : List Li} {k : Nat} (hk : k < ds.length) (h : P ds[k].r = true) : ((sayL ds).take (k + 1)).filter P = ((sayL ds).take k).filter P ++ [ds[k].r] := by
  have e : (sayL ds)[k]'(by rw [sayL_len]; exact hk) = ds[k].r := by simp [sayL]
  rw [filter_yes (l := sayL ds) (by rw [sayL_len]; exact hk) (by rw [e]; exact h), e]
theorem sel_no {P : List Int → Bool} {ds : List Li} {k : Nat} (hk : k < ds.length) (h : P ds[k].r = false) : ((sayL ds).take (k + 1)).filter P = ((sayL ds).take k).filter P := by
  have e : (sayL ds)[k]'(by rw [sayL_len]; exact hk) = ds[k].r := by simp [sayL]
  rw [filter_no (l := sayL ds) (by rw [sayL_len]; exact hk) (by rw [e]; exact h)]
theorem shortV_no {n t : Int} {ss : List (Int × List Int)} {x : Int} (h : okS n t ss x = false) : shortV n t ss x = [] := by
  unfold shortV
  rw [if_neg]
  rintro ⟨h1, h2⟩
  unfold okS at h
  rw [h1, decide_eq_true h2] at h
  cases h
theorem okS_no {n t : Int} {ss : List (Int × List Int)} {x : Int} (h : ¬ (0 ≤ x ∧ x ≤ 4)) : okS n t ss x = false := by
  unfold okS
  rw [decide_eq_false h, Bool.and_false]

set_option maxRecDepth 20000 in
set_option maxHeartbeats 1000000 in
theorem implShort_any (n t x : Int) (A : Option Addr) (c : Nat) (rs : List Ru) (w : World) (hx : Rls w w.heap.size A rs) (hL : Lims w) (hc : rs.length ≤ c) (h1 : rs.length ≤ 1048576) (h2 : ∀ u ∈ rs, u.r.length ≤ 1048576) (hf : FitR rs) :
    Calls Tryd.prog 24 #[.agg #[.int .i64 n, .int .i64 t, .slice A rs.length c], .int .i64 x] w (GaveLB w (shortV n t (rs.map Ru.abs) x) (okS n t (rs.map Ru.abs) x)) := by
  have HX := Lib.hid hx; clear hx
  have HB0 : Hid (Below w.heap.size w (w.alloc (.cells #[.int .i64 n, .int .i64 t, .slice A rs.length c] 32))) := by show Below _ _ _; go_grown
  have HX0 : Hid (Box3 (w.alloc (.cells #[.int .i64 n, .int .i64 t, .slice A rs.length c] 32)) w.heap.size (.int .i64 n) (.int .i64 t) (.slice A rs.length c)) := ⟨by simp, by simp [go_sem], by simp [go_sem], by simp [go_sem]⟩
  have HC := Lib.hid (goodGrammar_any n t A c rs _ ((HX.out.keep HB0.out).more HB0.out.size) (hL.keep HB0.out (Nat.le_refl _)) hc h1 h2 hf)
  cases hq : goodG n t (rs.map Ru.abs)
  · have HK : Hid (okS n t (rs.map Ru.abs) x = false) := by show _ = _; unfold okS; rw [hq]; rfl
    rw [hq] at HC
    clear hq
    go_enter Tryd.func24, Tryd.ntmps24
    go_wp2_with fail
    refine HC.out.mono ?_
    rintro e w1 ⟨rfl, hB1⟩
    have HB1 : Hid (Below w.heap.size w w1) := HB0.out.trans (hB1.mono HB0.out.size)
    clear hB1
    go_wp2
    go_ret2
    exact ⟨none, 0, [], by rw [HK.out]; rfl, Nat.le_refl _, .inl rfl, (shortV_no HK.out).symm, HB1.out⟩
  · rw [hq] at HC
    by_cases hx4 : 0 ≤ x ∧ x ≤ 4
    · obtain ⟨M, rfl⟩ : ∃ M : Nat, x = (M : Int) := ⟨x.toNat, by omega⟩
      have hM : M ≤ 4 := by omega
      obtain ⟨T, rfl⟩ : ∃ T : Nat, t = (T : Int) := ⟨t.toNat, by have := goodG_is hq; omega⟩
      have hT1 : 1 ≤ T := by have := goodG_is hq; omega
      have hT4 : T ≤ 4 := by have := goodG_is hq; omega
      have HK : Hid (okS n (T : Int) (rs.map Ru.abs) (M : Int) = true) := by show _ = _; unfold okS; rw [hq, decide_eq_true hx4]; rfl
      have HV : Hid (shortV n (T : Int) (rs.map Ru.abs) (M : Int) = (upTo T (M + 1)).filter (langB (rs.map Ru.abs))) := by show _ = _; unfold shortV; rw [if_pos ⟨hq, hx4⟩]; simp
      have HG := Lib.hid hq
      clear hq hx4
      obtain ⟨i0, hi0, hz0, hz1, hz2⟩ := info_of Tryd.infoIntS
      go_enter Tryd.func24, Tryd.ntmps24
      go_wp2_with fail
      refine HC.out.mono ?_
      rintro e w1 ⟨rfl, hB1⟩
      have HB1 : Hid (Below w.heap.size w w1) := HB0.out.trans (hB1.mono HB0.out.size)
      have HX1 := Lib.hid (HX0.out.keep hB1 (by simp))
      obtain ⟨_, b0, b1, b2⟩ := HX1.out
      clear hB1
      go_wp2_with fail
      refine (wordsUpTo_any T M hT1 hT4 hM w1).mono ?_
      rintro e w2 ⟨v, ds, rfl, hLd, hsd, hB2⟩
      obtain ⟨A2, c2, rfl, hcap2, hO2⟩ := hLd.slice
      have HO2 := Lib.hid (hO2.lower HB1.out.size)
      have HCD := Lib.hid hLd.caps
      have HFD := Lib.hid hLd.far
      have HSD := Lib.hid hsd
      have HX2 := Lib.hid (HX1.out.keep hB2 HX1.out.1)
      have HB2 : Hid (Below w.heap.size w w2) := HB1.out.trans (hB2.mono HB1.out.size)
      have hdl : ds.length ≤ 1280 := by rw [sayL_len' hsd]; have := upTo_le hT4 (M + 1) (by omega); omega
      have HXL : Hid (w.heap.size < w2.heap.size) := HX2.out.1
      clear hLd hsd hB2 b0 b1 b2 HX1 hO2 HB1 HX0 HC HB0
      go_wp2
      go_loopw [6, 25] (fun v y wr => ∃ (k : Nat) (es : List Li), k ≤ ds.length ∧ y = .int .i64 k ∧ es.length ≤ k ∧ Hid (Below w2.heap.size w2 wr) ∧ Hid (ListsV wr w.heap.size w2.heap.size v es) ∧ Hid (SomeOf es ds k) ∧ Hid (sayL es = ((sayL ds).take k).filter (langB (rs.map Ru.abs)))) (fun _ y _ => ds.length - (intOf y).toNat)
      case atStart => exact ⟨0, [], by omega, rfl, by simp, Below.refl _ _, ListsV.start _ _ _, SomeOf.start _, by show _ = _; simp [sayL]⟩
      case round =>
        obtain ⟨k, es, hk, rfl, hel, HB, HL, HS, HSY⟩ := hrel
        by_cases hlt : k < ds.length
        · have hO := HO2.out.below HB.out (Nat.le_refl _)
          obtain ⟨g, rfl, _, _, d1, d2⟩ := hO.at_ hlt
          have HD2 := Lib.hid d2
          have hul : ds[k].r.length ≤ 4 := by
            have h := upTo_len_mem T (M + 1) ds[k].r (by rw [← HSD.out]; exact sayL_mem (List.getElem_mem hlt))
            omega
          clear hO d2
          have hs2 := HB.out.size
          obtain ⟨_, b0, b1, b2⟩ := HX2.out.keep HB.out HXL.out
          have HB3 : Hid (Below w2.heap.size w2 (wr.alloc (.cells #[.int .i64 0] 3))) := HB.out.alloc hs2 _
          have HBW : Hid (Below w.heap.size w (wr.alloc (.cells #[.int .i64 0] 3))) := HB2.out.trans (HB3.out.mono HB2.out.size)
          have HBr : Hid (Below wr.heap.size wr (wr.alloc (.cells #[.int .i64 0] 3))) := (Below.refl _ _).alloc (Nat.le_refl _) _
          have HD := Lib.hid (deriveWhole_any n T A c rs (some ⟨wr.heap.size, 0, none⟩) 1 [0] ds[k].a ds[k].c ds[k].r (wr.alloc (.cells #[.int .i64 0] 3)) ((HX.out.keep HBW.out).more HBW.out.size) HG.out (by omega) ((HD2.out.below HBr.out (Nat.le_refl _)).ints) (by rw [World.size_alloc]; exact ints_one wr 0) (fun y hy => by simp at hy; omega) (by simp))
          go_wp2_with fail
          refine HD.out.mono ?_
          clear HD
          rintro e w3 ⟨b, rfl, hb, hB3⟩
          have HB4 := Lib.hid (HBr.out.trans (hB3.mono HBr.out.size))
          have HB5 := Lib.hid (HB.out.trans (HB4.out.mono hs2))
          have HBB : Hid (langB (rs.map Ru.abs) ds[k].r = b) := bP_eq (hb.trans (seqD_one (by omega)))
          clear hb hB3 b0 b1 b2 HBr HBW HB3
          cases b
          · have HNX : Hid (sayL es = ((sayL ds).take (k + 1)).filter (langB (rs.map Ru.abs))) := by show _ = _; rw [sel_no hlt HBB.out]; exact HSY.out
            go_wp2
            go_roundw
            case rel => exact ⟨k + 1, es, by omega, by go_num, by omega, HB5.out, HL.out.keep HB4.out, HS.out.more, HNX.out⟩
            case measure => simp [intOf]; omega
          · have HNX : Hid (sayL (es ++ [ds[k]]) = ((sayL ds).take (k + 1)).filter (langB (rs.map Ru.abs))) := by show _ = _; rw [sel_yes hlt HBB.out, sayL_snoc, HSY.out]
            have hs3 := HB4.out.size
            have HWn : Hid ((w3.alloc (.cells #[.slice ds[k].a ds[k].r.length ds[k].c] 25)).ownsRow w2.heap.size 25 1 _ es.length (es.map cellsL)) := (own_below HL.out.row HB4.out).alloc _
            have HNW := Lib.hid (one_new w3 (.slice ds[k].a ds[k].r.length ds[k].c) 25)
            go_wp2_with (at_builtin
                         refine wpList_append_own _ rfl (.tmp 33) (.tmp 35) _ rfl w2.heap.size 25 i0 _ 1 24 Tryd.underlying27 hi0 hz0 hz1 hz2 rfl (by omega) _ _ _ rfl HWn.out ⟨w3.heap.size, 0, none⟩ 1 1 [.slice ds[k].a ds[k].r.length ds[k].c] rfl rfl HNW.out (by intro u hu; simp at hu; subst hu; rfl) (by unfold maxLen; omega) (by omega) (by simp; omega) ?_
                         intro v' w' p1 p2 p3
                         have HLN := Lib.hid (HL.out.pushU HB4.out HS.out (List.getElem?_eq_getElem hlt) (HD2.out.below HB4.out (Nat.le_refl _)) (HCD.out k _ (List.getElem?_eq_getElem hlt)) HFD.out p1 p2)
                         have hBn : Below w2.heap.size w3 w' := ((Below.refl _ _).alloc (by omega) _).grown p2 (by simp; omega) fun j hj => (HL.out.lt j hj).1
                         have HBn := Lib.hid (HB5.out.trans hBn)
                         clear p1 p2 p3 hBn)
            go_roundw
            case rel => exact ⟨k + 1, _, by omega, by go_num, by simp; omega, HBn.out, HLN.out, HS.out.snoc (List.getElem?_eq_getElem hlt), HNX.out⟩
            case measure => simp [intOf]; omega
        · obtain rfl : k = ds.length := by omega
          obtain ⟨A', c', rfl, hcap', hO⟩ := HL.out.slice (by have := HXL.out; omega)
          have HO := Lib.hid hO; clear hO
          have HNX : Hid (sayL es = (upTo T (M + 1)).filter (langB (rs.map Ru.abs))) := by show _ = _; rw [HSY.out, ← HSD.out, ← sayL_len, List.take_length]
          go_wp2
          go_ret2
          exact ⟨A', c', es, by rw [HK.out]; rfl, hcap', HO.out, HNX.out.trans HV.out.symm, HB2.out.trans (HB.out.mono HB2.out.size)⟩
    · have HK : Hid (okS n t (rs.map Ru.abs) x = false) := okS_no hx4
      clear hq
      go_enter Tryd.func24, Tryd.ntmps24
      go_wp2_with fail
      refine HC.out.mono ?_
      rintro e w1 ⟨rfl, hB1⟩
      have HB1 : Hid (Below w.heap.size w w1) := HB0.out.trans (hB1.mono HB0.out.size)
      clear hB1
      by_cases hx0 : x < 0
      · clear hx4
        go_wp2
        go_ret2
        exact ⟨none, 0, [], by rw [HK.out]; rfl, Nat.le_refl _, .inl rfl, (shortV_no HK.out).symm, HB1.out⟩
      · have hx5 : 4 < x := by omega
        clear hx4
        go_wp2
        go_ret2
        exact ⟨none, 0, [], by rw [HK.out]; rfl, Nat.le_refl _, .inl rfl, (shortV_no HK.out).symm, HB1.out⟩

end Go.Proofs.YtjfhkcoiomokoaaDoor

/- Three slices of lists beside each other, of which one is appended to; the reference's copy of a list, xa a row that can be appended to. -/

namespace Go.Proofs.YtjfhkcoiomokoaaDoor
open Go.RowKit

set_option maxRecDepth 20000 in
set_option maxHeartbeats 400000 in
theorem l1OwnW_any (A : Option Addr) (xs : List Int) (c : Nat) (w : World) (hr : Ints w w.heap.size A xs) (hn : xs.length ≤ 1048576) :
    Calls Tryd.prog 56 #[.slice A xs.length c] w fun e w' => ∃ v, e = .returned v ∧ w'.ownsRow w.heap.size 3 1 v xs.length (vals xs) ∧ Below w.heap.size w w' := by
  obtain ⟨i0, hi0, hz0, hz1, hz2⟩ := info_of Tryd.infoInt
  have hB0 : Below w.heap.size w (w.alloc (.cells #[] 3)) := by go_grown
  have HB0 := Lib.hid hB0; clear hB0
  have HR := Lib.hid (hr.keep HB0.out); clear hr
  have HE := Lib.hid (own_empty w)
  rcases A with _ | ad
  · have hx : xs = [] := by
      rcases xs with _ | ⟨x, xs⟩
      · rfl
      · obtain ⟨_, _, e, _⟩ := HR.out (by simp)
        cases e
    subst hx
    go_enter Tryd.func56, Tryd.ntmps56
    go_wp2_with (at_builtin
                 refine append_nil_at rfl (.tmp 3) (.tmp 4) _ rfl w.heap.size 3 i0 1 Tryd.underlying25 hi0 _ _ _ rfl HE.out c rfl ?_)
    go_ret
    exact ⟨_, rfl, HE.out, HB0.out⟩
  · have HN : Hid (∀ (j : Nat) (v : Value), (vals xs)[j]? = some v → (w.alloc (.cells #[] 3)).cell? (ad.add j) = some v) := fun j v hv => by
      have hp : 0 < xs.length := by have := (List.getElem?_eq_some_iff.1 hv).1; rw [vals_length] at this; omega
      obtain ⟨ad', e, h⟩ := HR.out.src hp
      injection e with e
      subst e
      exact h j v hv
    go_enter Tryd.func56, Tryd.ntmps56
    go_wp2_with (at_builtin
                 refine wpList_append_own _ rfl (.tmp 3) (.tmp 4) _ rfl w.heap.size 3 i0 _ 1 8 Tryd.underlying25 hi0 hz0 hz1 hz2 rfl (by omega) _ _ _ rfl HE.out ad xs.length c (vals xs) rfl (by rw [vals_length]; omega) HN.out (vals_one xs) (by unfold maxLen; omega) (by omega) (by simp) ?_
                 intro v' w' h1 h2 h3
                 have HO1 := Lib.hid h1
                 have HG1 := Lib.hid h2
                 clear h1 h2 h3)
    have HO2 : Hid (w'.ownsRow w.heap.size 3 1 v' xs.length (vals xs)) := by have h1 := HO1.out; rw [List.nil_append, Nat.zero_add] at h1; exact h1
    go_ret
    exact ⟨_, rfl, HO2.out, HB0.out.grown HG1.out HB0.out.size fun k hk => (HE.out.lt k hk).1⟩

/-- Two slices do not lie in one block. -/
def Sep (v v' : Value) : Prop := ∀ b, v.ownBlock = some b → v'.ownBlock ≠ some b
theorem Sep.symm {v v' : Value} (h : Sep v v') : Sep v' v := fun b e e' => h b e' e
theorem Sep.nil (v : Value) : Sep v (.slice none 0 0) := fun b _ e => by cases e

/-- A slice of lists is xa it was where another one was appended to. -/
theorem ListsW.other {w w2 : World} {lo lo' : Nat} {v v' : Value} {ds ds' : List Li} (h : ListsW w lo v ds) (h' : ListsW w lo' v' ds') (hg : w.grownBy w2 v'.ownBlock) (hs : Sep v v') : ListsW w2 lo v ds := by
  refine ⟨?_, h.caps, fun j u hu => (h.rts j u hu).grownL h'.row hg, h.far⟩
  obtain ⟨h1, h2 | ⟨g, cap, cur, e, h4, h5, h6⟩⟩ := h.row
  · exact ⟨h1, .inl h2⟩
  · refine ⟨h1, .inr ⟨g, cap, cur, e, h4, (hg.block g (Row.lt (t := 25) h5) fun e' => ?_).trans h5, h6⟩⟩
    subst e
    exact hs g rfl e'.symm

structure Tri (w : World) (lo : Nat) (a : Value) (xa : List Li) (b : Value) (xb : List Li) (c : Value) (xc : List Li) : Prop where
  la : ListsW w lo a xa
  lb : ListsW w lo b xb
  lc : ListsW w lo c xc
  ab : Sep a b
  ac : Sep a c
  bc : Sep b c
theorem Tri.swap {w : World} {lo : Nat} {a b c : Value} {xa xb xc : List Li} (h : Tri w lo a xa b xb c xc) : Tri w lo c xc b xb a xa := ⟨h.lc, h.lb, h.la, h.bc.symm, h.ac.symm, h.ab.symm⟩
theorem Tri.keep {w w' : World} {lo : Nat} {a b c : Value} {xa xb xc : List Li} (h : Tri w lo a xa b xb c xc) (hb : Below w.heap.size w w') : Tri w' lo a xa b xb c xc := ⟨h.la.keep hb, h.lb.keep hb, h.lc.keep hb, h.ab, h.ac, h.bc⟩
theorem Tri.shift {w : World} {lo : Nat} {a b c : Value} {xa xb xc : List Li} (h : Tri w lo a xa b xb c xc) : Tri w lo a xa c xc (.slice none 0 0) [] := ⟨h.la, h.lc, ListsW.start _ _, h.ac, Sep.nil _, Sep.nil _⟩
theorem Tri.push {w w1 w2 : World} {lo g k cap : Nat} {a b c : Value} {xa xb xc : List Li} {A : Option Addr} {xs : List Int} {cx : Nat} {o : Obj} (h : Tri w lo a xa b xb c xc) (hb : Below w.heap.size w w1) (hlo : lo ≤ w.heap.size) (hO : OwnI w1 w.heap.size A xs) (hcap : xs.length ≤ cx)
    (ho : w2.ownsRow lo 25 1 (.slice (some ⟨g, 0, none⟩) k cap) (xa.length + 1) (xa.map cellsL ++ [.slice A xs.length cx])) (hg : (w1.alloc o).grownBy w2 a.ownBlock) (hl : a.ownBlock = some g ∨ g = (w1.alloc o).heap.size) :
    Tri w2 lo (.slice (some ⟨g, 0, none⟩) k cap) (xa ++ [⟨A, xs, cx⟩]) b xb c xc := by
  have hB2 : Below w1.heap.size w1 (w1.alloc o) := (Below.refl _ _).alloc (Nat.le_refl _) _
  have h2 := (h.keep hb).keep hB2
  have sep : ∀ {v : Value} {ds : List Li}, ListsW (w1.alloc o) lo v ds → Sep a v → Sep (.slice (some ⟨g, 0, none⟩) k cap) v := by
    intro v ds hv hs q e e'
    injection e with e
    subst e
    rcases hl with hl | hl
    · exact hs g hl e'
    · have := (hv.lt g e').2; omega
  exact ⟨h.la.pushI hb hlo hO hcap ho hg, h2.lb.other h2.la hg h2.ab.symm, h2.lc.other h2.la hg h2.ac.symm, sep h2.lb h2.ab, sep h2.lc h2.ac, h2.bc⟩

end Go.Proofs.YtjfhkcoiomokoaaDoor

/- The reference's ShortWords. -/

namespace Go.Proofs.YtjfhkcoiomokoaaDoor
open Go.RowKit

theorem okS_yes {n t : Int} {ss : List (Int × List Int)} {x : Int} (h : goodG n t ss = true) : okS n t ss x = inB 0 4 x := by
  unfold okS
  rw [h, Bool.true_and]
  by_cases e : 0 ≤ x ∧ x ≤ 4
  · rw [decide_eq_true e, inB_t e.1 e.2]
  · rw [decide_eq_false e, inB_f (by omega)]

theorem takeW_snoc {l : List (List Int)} {k : Nat} {x : List Int} (h : l[k]? = some x) : l.take (k + 1) = l.take k ++ [x] := by rw [List.take_add_one, h]; rfl
theorem fil_yes {P : List Int → Bool} {a l : List (List Int)} {k : Nat} {x : List Int} (h : l[k]? = some x) (hp : P x = true) : (a ++ l.take (k + 1)).filter P = (a ++ l.take k).filter P ++ [x] := by
  rw [takeW_snoc h, ← List.append_assoc, List.filter_append]
  simp [hp]
theorem fil_no {P : List Int → Bool} {a l : List (List Int)} {k : Nat} {x : List Int} (h : l[k]? = some x) (hp : P x = false) : (a ++ l.take (k + 1)).filter P = (a ++ l.take k).filter P := by
  rw [takeW_snoc h, ← List.append_assoc, List.filter_append]
  simp [hp]
theorem sayL_at' {ds : List Li} {xs : List (List Int)} {k : Nat} (h : sayL ds = xs) (hk : k < ds.length) : xs[k]? = some ds[k].r := by rw [← h]; exact sayL_at hk

set_option maxRecDepth 20000 in
set_option maxHeartbeats 1000000 in
theorem specShort_any (n t x : Int) (A : Option Addr) (c : Nat) (rs : List Ru) (w : World) (hx : Rls w w.heap.size A rs) (hc : rs.length ≤ c) (hcap : ∀ u ∈ rs, u.r.length ≤ u.c) (h1 : rs.length ≤ 1048576) (h2 : ∀ u ∈ rs, u.r.length ≤ 1048576) :
    Calls Tryd.prog 23 #[.agg #[.int .i64 n, .int .i64 t, .slice A rs.length c], .int .i64 x] w (GaveLB w (shortV n t (rs.map Ru.abs) x) (okS n t (rs.map Ru.abs) x)) := by
  have HX := Lib.hid hx; clear hx
  have HCP := Lib.hid hcap; clear hcap
  have HB0 : Hid (Below w.heap.size w (w.alloc (.cells #[.int .i64 n, .int .i64 t, .slice A rs.length c] 32))) := by show Below _ _ _; go_grown
  have HX0 : Hid (Box3 (w.alloc (.cells #[.int .i64 n, .int .i64 t, .slice A rs.length c] 32)) w.heap.size (.int .i64 n) (.int .i64 t) (.slice A rs.length c)) := ⟨by simp, by simp [go_sem], by simp [go_sem], by simp [go_sem]⟩
  have HC := Lib.hid (specGood_any n t A c rs _ ((HX.out.keep HB0.out).more HB0.out.size) hc h1 h2)
  cases hq : goodG n t (rs.map Ru.abs)
  · have HK : Hid (okS n t (rs.map Ru.abs) x = false) := by show _ = _; unfold okS; rw [hq]; rfl
    rw [hq] at HC
    clear hq
    go_enter Tryd.func23, Tryd.ntmps23
    go_wp2_with fail
    refine HC.out.mono ?_
    rintro e w1 ⟨rfl, hB1⟩
    have HB1 : Hid (Below w.heap.size w w1) := HB0.out.trans (hB1.mono HB0.out.size)
    clear hB1
    go_wp2
    go_ret2
    exact ⟨none, 0, [], by rw [HK.out]; rfl, Nat.le_refl _, .inl rfl, (shortV_no HK.out).symm, HB1.out⟩
  · rw [hq] at HC
    cases hi : inB 0 4 x
    · have HK : Hid (okS n t (rs.map Ru.abs) x = false) := (okS_yes hq).trans hi
      have HI := Lib.hid hi
      clear hq hi
      go_enter Tryd.func23, Tryd.ntmps23
      go_wp2_with fail
      refine HC.out.mono ?_
      rintro e w1 ⟨rfl, hB1⟩
      have HB1 : Hid (Below w.heap.size w w1) := HB0.out.trans (hB1.mono HB0.out.size)
      clear hB1
      go_wp2_with fail
      refine (l1In_any _ _ _ _).mono ?_
      rintro e w2 ⟨rfl, rfl⟩
      rw [HI.out]
      go_wp2
      go_ret2
      exact ⟨none, 0, [], by rw [HK.out]; rfl, Nat.le_refl _, .inl rfl, (shortV_no HK.out).symm, HB1.out⟩
    · have HK : Hid (okS n t (rs.map Ru.abs) x = true) := (okS_yes hq).trans hi
      have hx4 : 0 ≤ x ∧ x ≤ 4 := by
        by_cases e : 0 ≤ x ∧ x ≤ 4
        · exact e
        · rw [inB_f (by omega)] at hi; cases hi
      obtain ⟨M, rfl⟩ : ∃ M : Nat, x = (M : Int) := ⟨x.toNat, by omega⟩
      have hM : M ≤ 4 := by omega
      obtain ⟨T, rfl⟩ : ∃ T : Nat, t = (T : Int) := ⟨t.toNat, by have := goodG_is hq; omega⟩
      obtain ⟨N, rfl⟩ : ∃ N : Nat, n = (N : Int) := ⟨n.toNat, by have := goodG_is hq; omega⟩
      have hN1 : 0 < N := by have := goodG_is hq; omega
      have hT4 : T ≤ 4 := by have := goodG_is hq; omega
      have HV : Hid (shortV N (T : Int) (rs.map Ru.abs) (M : Int) = (upTo T (M + 1)).filter (langB (rs.map Ru.abs))) := by show _ = _; unfold shortV; rw [if_pos ⟨hq, hx4⟩]; simp
      have HG := Lib.hid hq
      have HI := Lib.hid hi
      clear hq hx4 hi
      obtain ⟨i0, hi0, hz0, hz1, hz2⟩ := info_of Tryd.infoIntS
      obtain ⟨i3, hi3, hy0, hy1, hy2⟩ := info_of Tryd.infoInt
      go_enter Tryd.func23, Tryd.ntmps23
      go_wp2_with fail
      refine HC.out.mono ?_
      rintro e w1 ⟨rfl, hB1⟩
      have HB1 : Hid (Below w.heap.size w w1) := HB0.out.trans (hB1.mono HB0.out.size)
      have HX1 := Lib.hid (HX0.out.keep hB1 (by simp))
      clear hB1
      go_wp2_with fail
      refine (l1In_any _ _ _ _).mono ?_
      rintro e w2 ⟨rfl, rfl⟩
      rw [HI.out]
      have HBL : Hid (Below w1.heap.size w1 (w1.alloc (.cells #[.slice none 0 0] 25))) := (Below.refl _ _).alloc (Nat.le_refl _) _
      have HT0 : Hid (Tri (w1.alloc (.cells #[.slice none 0 0] 25)) w1.heap.size (.slice none 0 0) [] (.slice (some ⟨w1.heap.size, 0, none⟩) 1 1) [⟨none, [], 0⟩] (.slice none 0 0) []) :=
        ⟨ListsW.start _ _, ListsW.one (Row.new _ _ _) (Nat.le_refl _) (.inl rfl) (Nat.le_refl _), ListsW.start _ _, (Sep.nil _).symm, Sep.nil _, Sep.nil _⟩
      have HXL : Hid (w.heap.size < w1.heap.size) := HX1.out.1
      clear HX0 HC HB0
      go_wp2
      go_loopw [6, 7, 8] (fun v6 v7 y wr => ∃ (m : Nat) (os ws : List Li), m ≤ M + 1 ∧ y = .int .i64 m ∧ Hid (Below w1.heap.size w1 wr) ∧ Hid (Tri wr w1.heap.size v6 os v7 ws (.slice none 0 0) []) ∧ Hid (sayL os = (upTo T m).filter (langB (rs.map Ru.abs))) ∧ Hid (sayL ws = lev T m)) (fun _ _ y _ => M + 1 - (intOf y).toNat)
      case atStart => exact ⟨0, _, _, by omega, rfl, HBL.out, HT0.out, rfl, rfl⟩
      case round =>
        clear HBL HT0
        obtain ⟨m, os, ws, hm, rfl, HB, HT, HSO, HSW⟩ := hrel
        by_cases hlt : m ≤ M
        · obtain ⟨A7, c7, rfl, hcap7, hO7⟩ := HT.out.lb.slice
          have hwl : ws.length ≤ 256 := by rw [sayL_len' HSW.out]; exact lev_le hT4 (by omega)
          clear hO7
          obtain ⟨wA, hwA⟩ : ∃ x, x = wr := ⟨wr, rfl⟩
          subst hwA
          go_wp2
          go_loopw [6, 9, 29] (fun v6 v9 y wr => ∃ (k : Nat) (os ns : List Li), k ≤ ws.length ∧ y = .int .i64 k ∧ Hid (Below w1.heap.size w1 wr) ∧ Hid (Tri wr w1.heap.size v6 os (.slice A7 ws.length c7) ws v9 ns) ∧ Hid (sayL os = (upTo T m ++ (lev T m).take k).filter (langB (rs.map Ru.abs))) ∧ Hid (sayL ns = kids T ((lev T m).take k))) (fun _ _ y _ => ws.length - (intOf y).toNat)
          case atStart => exact ⟨0, os, [], by omega, rfl, HB.out, HT.out, by show _ = _; rw [List.take_zero, List.append_nil]; exact HSO.out, rfl⟩
          case round =>
            clear HB HT HSO
            obtain ⟨k, ps, ns, hk, rfl, HB, HT, HSO, HSN⟩ := hrel
            by_cases hlt2 : k < ws.length
            · obtain ⟨A', c', e', _, hO⟩ := HT.out.lb.slice
              injection e' with e1 _ e2
              subst e1 e2
              obtain ⟨g, rfl, _, _, d1, d2⟩ := hO.at_ hlt2
              have HWK := Lib.hid (sayL_at' HSW.out hlt2)
              have hul : ws[k].r.length ≤ 4 := by have h := lev_len_mem T m ws[k].r (List.mem_of_getElem? HWK.out); omega
              have HD2 := Lib.hid d2
              clear hO d2
              obtain ⟨_, b0, b1, b2⟩ := HX1.out.keep HB.out HXL.out
              have hs1 := HB.out.size
              have HBW := Lib.hid (HB1.out.trans (HB.out.mono HB1.out.size))
              have HD := Lib.hid (l4In_any N T A c rs 0 ws[k].a ws[k].c ws[k].r wr ((HX.out.keep HBW.out).more HBW.out.size) HG.out HCP.out (by omega) HD2.out.ints hN1)
              have hpl : ps.length ≤ 1280 := by
                rw [sayL_len' HSO.out]
                refine Nat.le_trans (List.length_filter_le _ _) ?_
                rw [List.length_append]
                have h1 := upTo_le hT4 m (by omega)
                have h2 := lev_le (m := T) (n := m) hT4 (by omega)
                have h3 : ((lev T m).take k).length ≤ (lev T m).length := by rw [List.length_take]; omega
                omega
              go_wp2_with fail
              refine HD.out.mono ?_
              clear HD HBW
              rintro e w3 ⟨b, rfl, hb, hB3⟩
              have HB3 := Lib.hid hB3
              have HB4 := Lib.hid (HB.out.trans (hB3.mono hs1))
              have HT4 := Lib.hid (HT.out.keep hB3)
              have HBB : Hid (langB (rs.map Ru.abs) ws[k].r = b) := bP_eq hb
              have HD3 := Lib.hid (HD2.out.below hB3 (Nat.le_refl _))
              have hs3 := HB4.out.size
              clear hb hB3 b0 b1 b2 HT HB HD2
              cases b
              case' false =>
                have HSX : Hid (sayL ps = (upTo T m ++ (lev T m).take (k + 1)).filter (langB (rs.map Ru.abs))) := by show _ = _; rw [fil_no HWK.out HBB.out]; exact HSO.out
                have HBX := HB4
                have HTX := HT4
                clear HB4 HT4 HSO HB3 HD3
                go_wp2
                obtain ⟨wq, hwq⟩ : ∃ x, x = w3 := ⟨_, rfl⟩
                subst hwq
                obtain ⟨vq, hvq⟩ : ∃ x, x = u6 := ⟨_, rfl⟩
                subst hvq
                obtain ⟨qs, hqs⟩ : ∃ x, x = ps := ⟨_, rfl⟩
                subst hqs
              case' true =>
                go_wp2_with fail
                refine (l1OwnW_any _ _ _ _ HD3.out.ints (by omega)).mono ?_
                rintro e w4 ⟨v, rfl, hOv, hBv⟩
                obtain ⟨A1, cv, rfl, hO1, hcv⟩ := own_slice (ys := ws[k].r) hOv
                have HSX : Hid (sayL (ps ++ [⟨A1, ws[k].r, cv⟩]) = (upTo T m ++ (lev T m).take (k + 1)).filter (langB (rs.map Ru.abs))) := by show _ = _; rw [fil_yes HWK.out HBB.out, sayL_snoc, HSO.out]
                have HO1 := Lib.hid hO1
                have HBv := Lib.hid hBv
                have hs4 := hBv.size
                have HWn : Hid ((w4.alloc (.cells #[.slice A1 ws[k].r.length cv] 25)).ownsRow w1.heap.size 25 1 _ ps.length (ps.map cellsL)) := (own_below HT4.out.la.row hBv).alloc _
                have HNW := Lib.hid (one_new w4 (.slice A1 ws[k].r.length cv) 25)
                clear hOv hO1 hBv
                go_wp2_with (at_builtin
                             refine wpList_append_lies _ rfl (.tmp 36) (.tmp 39) _ rfl w1.heap.size 25 i0 _ 1 24 Tryd.underlying27 hi0 hz0 hz1 hz2 rfl (by omega) _ _ _ rfl HWn.out ⟨w4.heap.size, 0, none⟩ 1 1 [.slice A1 ws[k].r.length cv] rfl rfl HNW.out (by intro u hu; simp at hu; subst hu; rfl) (by omega) (by unfold maxLen; omega) (by omega) (by simp; omega) _ rfl ?_
                             intro g5 cap5 w5 p1 p2 p3 p4
                             have HTX := Lib.hid (HT4.out.push HBv.out hs3 HO1.out hcv p1 p2 p3)
                             have hBn : Below w1.heap.size w4 w5 := ((Below.refl _ _).alloc (by omega) _).grown p2 (by simp; omega) fun j hj => (HT4.out.la.lt j hj).1
                             have HBX := Lib.hid ((HB4.out.trans (HBv.out.mono hs3)).trans hBn)
                             clear p1 p2 p3 p4 hBn)
                clear HB4 HT4 HSO HB3 HD3 HO1 HBv HWn HNW
                generalize (ps ++ [⟨A1, ws[k].r, cv⟩] : List Li) = qs at HSX HTX
                generalize Value.slice (some ⟨g5, 0, none⟩) (ps.length + 1) cap5 = vq at HTX ⊢
                obtain ⟨wq, hwq⟩ : ∃ x, x = w5 := ⟨_, rfl⟩
                subst hwq
              all_goals
                go_loopw [9, 12] (fun v9 y wr => ∃ (j : Nat) (ns2 : List Li), j ≤ T ∧ y = .int .i64 j ∧ Hid (Below w1.heap.size w1 wr) ∧ Hid (Tri wr w1.heap.size vq qs (.slice (some ⟨g, 0, none⟩) ws.length c7) ws v9 ns2) ∧ Hid (sayL ns2 = kids T ((lev T m).take k) ++ kidsTo j ws[k].r)) (fun _ y _ => T - (intOf y).toNat)
                case atStart => exact ⟨0, ns, by omega, rfl, HBX.out, HTX.out, by show _ = _; rw [kidsTo_zero, List.append_nil]; exact HSN.out⟩
                case round =>
                  clear HBX HTX
                  obtain ⟨j, ns2, hj, rfl, HB, HT, HSN2⟩ := hrel
                  obtain ⟨_, b0, b1, b2⟩ := HX1.out.keep HB.out HXL.out
                  by_cases hlt3 : j < T
                  · have hs := HB.out.size
                    have HI3 := Lib.hid ((HT.out.lb.rts k _ (List.getElem?_eq_getElem hlt2)).ints)
                    have hnl : ns2.length ≤ 2000 := by
                      rw [sayL_len' HSN2.out, List.length_append, kids_len, kidsTo_len]
                      have h2 := lev_le (m := T) (n := m) hT4 (by omega)
                      have h3 : ((lev T m).take k).length ≤ 256 := by rw [List.length_take]; omega
                      have h4 : ((lev T m).take k).length * T ≤ 256 * 4 := Nat.mul_le_mul h3 hT4
                      omega
                    have HNX : Hid (∀ A c, sayL (ns2 ++ [⟨A, ws[k].r ++ [(j : Int)], c⟩]) = kids T ((lev T m).take k) ++ kidsTo (j + 1) ws[k].r) := fun A c => by rw [sayL_snoc, HSN2.out, kidsTo_succ, List.append_assoc]
                    go_wp2_with fail
                    refine (l1OwnW_any _ _ _ _ HI3.out (by omega)).mono ?_
                    rintro e w4 ⟨v, rfl, hOv, hBv⟩
                    have HBv := Lib.hid hBv
                    have hs4 := hBv.size
                    have HOa : Hid ((w4.alloc (.cells #[.int .i64 (j : Int)] 3)).ownsRow wr.heap.size 3 1 v ws[k].r.length (vals ws[k].r)) := hOv.alloc _
                    have HNI := Lib.hid (one_new w4 (.int .i64 (j : Int)) 3)
                    have hvl : (vals ws[k].r).length = ws[k].r.length := vals_length _
                    clear hOv hBv b0 b1 b2
                    go_wp2_with (first
                      | (at_builtin
                         refine wpList_append_own _ rfl (.tmp 49) (.tmp 51) _ rfl wr.heap.size 3 i3 _ 1 8 Tryd.underlying25 hi3 hy0 hy1 hy2 rfl (by omega) _ _ _ rfl HOa.out ⟨w4.heap.size, 0, none⟩ 1 1 [.int .i64 (j : Int)] rfl rfl HNI.out (by intro u hu; simp at hu; subst hu; rfl) (by unfold maxLen; omega) (by omega) (by simp; omega) ?_
                         intro v5 w5 p1 p2 p3
                         obtain ⟨A1, cv, rfl, hO1, hcv⟩ := own_slice (ys := ws[k].r ++ [(j : Int)]) (by simpa [vals] using p1)
                         have hB5 : Below wr.heap.size w4 w5 := ((Below.refl _ _).alloc (by omega) _).grown p2 (by simp; omega) fun j hj => (HOa.out.lt j hj).1
                         have HB5 := Lib.hid (HBv.out.trans hB5)
                         have hs5 := HB5.out.size
                         have HO1 := Lib.hid hO1
                         have hxl : (ws[k].r ++ [(j : Int)]).length ≤ 5 := by simp; omega
                         clear p1 p2 p3 hB5 hO1 HOa HNI HBv
                         generalize ws[k].r ++ [(j : Int)] = xs at HNX hcv HO1 hxl ⊢
                         have HWn : Hid ((w5.alloc (.cells #[.slice A1 xs.length cv] 25)).ownsRow w1.heap.size 25 1 _ ns2.length (ns2.map cellsL)) := (own_below HT.out.lc.row HB5.out).alloc _
                         have HNW := Lib.hid (one_new w5 (.slice A1 xs.length cv) 25))
                      | (at_builtin
                         refine wpList_append_lies _ rfl (.tmp 47) (.tmp 53) _ rfl w1.heap.size 25 i0 _ 1 24 Tryd.underlying27 hi0 hz0 hz1 hz2 rfl (by omega) _ _ _ rfl HWn.out ⟨w5.heap.size, 0, none⟩ 1 1 [.slice A1 xs.length cv] rfl rfl HNW.out (by intro u hu; simp at hu; subst hu; rfl) (by omega) (by unfold maxLen; omega) (by omega) (by simp; omega) _ rfl ?_
                         intro g6 cap6 w6 p1 p2 p3 p4
                         have HTN := Lib.hid (HT.out.swap.push HB5.out hs HO1.out hcv p1 p2 p3).swap
                         have hBn : Below w1.heap.size w5 w6 := ((Below.refl _ _).alloc (by omega) _).grown p2 (by simp; omega) fun j hj => (HT.out.lc.lt j hj).1
                         have HBn := Lib.hid ((HB.out.trans (HB5.out.mono hs)).trans hBn)
                         clear p1 p2 p3 p4 hBn))
                    go_roundw
                    case rel => exact ⟨j + 1, _, by omega, by go_num, HBn.out, HTN.out, HNX.out _ _⟩
                    case measure => simp [intOf]; omega
                  · obtain rfl : j = T := by omega
                    have HNX : Hid (sayL ns2 = kids j ((lev j m).take (k + 1))) := by show _ = _; rw [takeW_snoc HWK.out, kids_snoc]; exact HSN2.out
                    go_wp2
                    go_roundw
                    case rel => exact ⟨k + 1, qs, ns2, by omega, by go_num, HB.out, HT.out, HSX.out, HNX.out⟩
                    case measure => simp [intOf]; omega
            · obtain rfl : k = ws.length := by omega
              have HWL : Hid (ws.length = (lev T m).length) := sayL_len' HSW.out
              have HSX : Hid (sayL ps = (upTo T (m + 1)).filter (langB (rs.map Ru.abs))) := by show _ = _; rw [HSO.out, HWL.out, List.take_length]; rfl
              have HSY : Hid (sayL ns = lev T (m + 1)) := by show _ = _; rw [HSN.out, HWL.out, List.take_length]; rfl
              go_wp2
              go_roundw
              case rel => exact ⟨m + 1, ps, ns, by omega, by go_num, HB.out, HT.out.shift, HSX.out, HSY.out⟩
              case measure => simp [intOf]; omega
        · obtain rfl : m = M + 1 := by omega
          obtain ⟨A', c', rfl, hcap', hO⟩ := HT.out.la.slice
          have HO := Lib.hid hO; clear hO
          go_wp2
          go_ret2
          exact ⟨A', c', os, by rw [HK.out]; rfl, hcap', HO.out.lower HB1.out.size, HSO.out.trans HV.out.symm, HB1.out.trans (HB.out.mono HB1.out.size)⟩

end Go.Proofs.YtjfhkcoiomokoaaDoor

/- As To, with the capacities of the right sides. Made by mk_toc.py. -/

namespace Go.Proofs.YtjfhkcoiomokoaaDoor
open Go.RowKit

/-- A new slice of rules that says what rs say; nothing older has turned. -/
def GaveRC (w : World) (ss : List (Int × List Int)) (e : Ending) (w' : World) : Prop :=
  ∃ A c rs, e = .returned (.slice A rs.length c) ∧ rs.length ≤ c ∧ OwnR w' w.heap.size A rs ∧ rs.map Ru.abs = ss ∧ (∀ u ∈ rs, u.r.length ≤ u.c) ∧ Below w.heap.size w w'

/-- The first k rules of rs are copied into block g. -/
def CopyingC (w : World) (lo g : Nat) (rs : List Ru) (k : Nat) : Prop :=
  ∃ (cs : Array Value) (done : List Ru), Row w g 83 cs ∧ cs.size = rs.length * 2 ∧ done.length = k ∧ done.map Ru.abs = (rs.take k).map Ru.abs ∧
    (∀ (j : Nat) (u : Ru), done[j]? = some u → cs[j * 2]? = some (.int .i64 u.l) ∧ cs[j * 2 + 1]? = some (.slice u.a u.r.length u.c) ∧ OwnI w lo u.a u.r) ∧
    (∀ (i j : Nat) (u v : Ru), done[i]? = some u → done[j]? = some v → i ≠ j → u.r ≠ [] → v.r ≠ [] → u.a ≠ v.a) ∧ ∀ u ∈ done, u.r.length ≤ u.c

theorem CopyingC.step {w w1 : World} {lo g k : Nat} {rs : List Ru} (h : CopyingC w lo g rs k) (hlo : lo ≤ w.heap.size) (hk : k < rs.length) (hb : Below w.heap.size w w1) {A : Option Addr} {c : Nat} (hO : OwnI w1 w.heap.size A rs[k].r) (hcap : rs[k].r.length ≤ c) :
    CopyingC ((w1.setCell ⟨g, k * 2, none⟩ (.int .i64 rs[k].l)).setCell ⟨g, k * 2 + 1, none⟩ (.slice A rs[k].r.length c)) lo g rs (k + 1) := by
  obtain ⟨cs, done, hr, hs, hl, ha, hc, hd, hcs⟩ := h
  have hg : g < w.heap.size := hr.lt
  have hr1 : Row w1 g 83 cs := hr.below hb hg
  have keep : ∀ {A' : Option Addr} {xs : List Int}, OwnI w1 lo A' xs → OwnI ((w1.setCell ⟨g, k * 2, none⟩ (.int .i64 rs[k].l)).setCell ⟨g, k * 2 + 1, none⟩ (.slice A rs[k].r.length c)) lo A' xs := by
    intro A' xs h
    rcases h with h | ⟨g', cs', e, hl', hr', hc'⟩
    · exact .inl h
    · have hne : g' ≠ g := hr'.ne hr1 (by decide)
      exact .inr ⟨g', cs', e, hl', (hr'.far hne _).far hne _, hc'⟩
  refine ⟨(cs.setIfInBounds (k * 2) (.int .i64 rs[k].l)).setIfInBounds (k * 2 + 1) (.slice A rs[k].r.length c), done ++ [⟨rs[k].l, A, rs[k].r, c⟩], (hr1.set _ _).set _ _, by simp [hs], by simp [hl], ?_, ?_, ?_, fun u hu => (List.mem_append.1 hu).elim (fun h => hcs u h) (fun h => by rw [List.mem_singleton.1 h]; exact hcap)⟩
  · rw [List.map_append, ha, List.take_succ_eq_append_getElem hk, List.map_append]; rfl
  · intro j u hu
    by_cases e : j < k
    · rw [List.getElem?_append_left (by omega)] at hu
      obtain ⟨h1, h2, h3⟩ := hc j u hu
      refine ⟨?_, ?_, keep (h3.below hb (Nat.le_refl _))⟩
      · rw [Array.getElem?_setIfInBounds, if_neg (by omega), Array.getElem?_setIfInBounds, if_neg (by omega)]; exact h1
      · rw [Array.getElem?_setIfInBounds, if_neg (by omega), Array.getElem?_setIfInBounds, if_neg (by omega)]; exact h2
    · rw [List.getElem?_append_right (by omega)] at hu
      have hj : j - done.length = 0 := by
        rcases Nat.eq_zero_or_pos (j - done.length) with h0 | h0
        · exact h0
        · rw [List.getElem?_eq_none (by simp; omega)] at hu; cases hu
      rw [hj] at hu
      simp at hu
      subst hu
      have : j = k := by omega
      subst this
      refine ⟨?_, ?_, keep (hO.lower hlo)⟩
      · rw [Array.getElem?_setIfInBounds, if_neg (by omega), Array.getElem?_setIfInBounds, if_pos rfl, if_pos (by omega)]
      · rw [Array.getElem?_setIfInBounds, if_pos rfl, if_pos (by simp; omega)]
  · have old : ∀ (i : Nat) (u : Ru), i < k → (done ++ [⟨rs[k].l, A, rs[k].r, c⟩])[i]? = some u → u.r ≠ [] → rs[k].r ≠ [] → u.a ≠ A := by
      intro i u hi hu hne hne' he
      rw [List.getElem?_append_left (by omega)] at hu
      obtain ⟨_, _, h3⟩ := hc i u hu
      rcases h3 with h3 | ⟨g1, _, e1, _, r1, _⟩
      · exact hne h3
      · rcases hO with h4 | ⟨g2, _, e2, l2, _, _⟩
        · exact hne' h4
        · rw [e1, e2] at he
          have := r1.lt
          injection he with he
          injection he with he
          omega
    have last : ∀ (i : Nat) (u : Ru), ¬ i < k → (done ++ [⟨rs[k].l, A, rs[k].r, c⟩])[i]? = some u → i = k ∧ u = ⟨rs[k].l, A, rs[k].r, c⟩ := by
      intro i u hi hu
      rw [List.getElem?_append_right (by omega)] at hu
      have hj : i - done.length = 0 := by
        rcases Nat.eq_zero_or_pos (i - done.length) with h0 | h0
        · exact h0
        · rw [List.getElem?_eq_none (by simp; omega)] at hu; cases hu
      rw [hj] at hu
      simp at hu
      exact ⟨by omega, hu.symm⟩
    intro i j u v hu hv hij hun hvn
    by_cases hi : i < k <;> by_cases hj : j < k
    · rw [List.getElem?_append_left (by omega)] at hu hv
      exact hd i j u v hu hv hij hun hvn
    · obtain ⟨rfl, rfl⟩ := last j v hj hv
      exact old i u hi hu hun hvn
    · obtain ⟨rfl, rfl⟩ := last i u hi hu
      exact fun e => old j v hj hv hvn hun e.symm
    · have := (last i u hi hu).1; have := (last j v hj hv).1; omega

theorem CopyingC.row {w : World} {lo g k : Nat} {rs : List Ru} (h : CopyingC w lo g rs k) : ∃ cs, Row w g 83 cs ∧ cs.size = rs.length * 2 := by
  obtain ⟨cs, _, hr, hs, _⟩ := h
  exact ⟨cs, hr, hs⟩

theorem CopyingC.done {w : World} {lo g : Nat} {rs : List Ru} (h : CopyingC w lo g rs rs.length) (hg : lo ≤ g) : ∃ ds : List Ru, OwnR w lo (some ⟨g, 0, none⟩) ds ∧ ds.length = rs.length ∧ ds.map Ru.abs = rs.map Ru.abs ∧ ∀ u ∈ ds, u.r.length ≤ u.c := by
  obtain ⟨cs, ds, hr, _, hl, ha, hc, hd, hcp⟩ := h
  exact ⟨ds, .inr ⟨g, cs, rfl, hg, hr, hc, hd⟩, hl, by rw [ha, List.take_length], hcp⟩

set_option maxHeartbeats 400000 in
theorem toRuleSC_any (A : Option Addr) (rs : List Ru) (c : Nat) (w : World) (hr : Rls w w.heap.size A rs) (hn : rs.length ≤ 1048576) (hu : ∀ u ∈ rs, u.r.length ≤ 1048576) :
    Calls Tryd.prog 47 #[.slice A rs.length c] w (GaveRC w (rs.map Ru.abs)) := by
  have hmk := make_rules rs.length hn
  have HR := Lib.hid hr; clear hr
  have HU := Lib.hid hu; clear hu
  go_enter Tryd.func47, Tryd.ntmps47
  go_wp2
  go_loopw [4] (fun i wr => ∃ (k : Nat), k ≤ rs.length ∧ i = .int .i64 k ∧ w.heap.size < wr.heap.size ∧ Below w.heap.size w wr ∧ Hid (CopyingC wr w.heap.size w.heap.size rs k)) (fun i _ => rs.length - (intOf i).toNat)
  case atStart => exact ⟨0, by omega, rfl, by simp, (Below.refl _ _).alloc (Nat.le_refl _) _, zR rs.length, [], Row.new _ _ _, zR_size _, rfl, rfl, fun j u h => by simp at h, fun i j u v h => (by simp at h), fun u h => by simp at h⟩
  case round =>
    obtain ⟨k, hk, rfl, hsz, hB, H⟩ := hrel
    clear hmk
    by_cases hlt : k < rs.length
    · obtain ⟨b, o, rfl, hb, c1, c2, c3⟩ := (HR.out.keep hB).at_ hlt
      have C3 := Lib.hid (c3.more hB.size); clear c3
      have hlen := HU.out rs[k] (List.getElem_mem hlt)
      go_wp2_with fail
      refine (toRule_any _ _ _ _ _ C3.out hlen).mono ?_
      rintro e w1 ⟨A1, k1, rfl, hcap1, hO, hB1⟩
      obtain ⟨cs, hcs, hcz⟩ := H.out.row
      have hr1 := hcs.below hB1 hsz
      obtain ⟨x0, d0⟩ : ∃ x0, w1.cell? ⟨w.heap.size, k * 2, none⟩ = some x0 := ⟨_, (hr1.cell (k * 2)).trans (Array.getElem?_eq_getElem (by omega))⟩
      obtain ⟨x1, d1⟩ : ∃ x1, w1.cell? ⟨w.heap.size, k * 2 + 1, none⟩ = some x1 := ⟨_, (hr1.cell (k * 2 + 1)).trans (Array.getElem?_eq_getElem (by omega))⟩
      have f0 := hr1.frozen (k * 2)
      have f1 := hr1.frozen (k * 2 + 1)
      have HO := Lib.hid hO; clear hO
      have HB1 := Lib.hid hB1; clear hB1
      clear hr1 hcs hcz
      go_wp2
      go_roundw
      case rel => exact ⟨k + 1, by omega, by go_num, by have := HB1.out.size; simp; omega, ((hB.trans (HB1.out.mono hB.size)).setCell (Nat.le_refl _) _).setCell (Nat.le_refl _) _, H.out.step hB.size hlt HB1.out HO.out hcap1⟩
      case measure => simp [intOf]; omega
    · go_wp2
      go_ret
      obtain rfl : k = rs.length := by omega
      obtain ⟨ds, hO, hl, ha, hcp⟩ := H.out.done (Nat.le_refl _)
      exact ⟨some ⟨w.heap.size, 0, none⟩, rs.length, ds, by rw [hl]; rfl, by omega, hO, ha, hcp, hB⟩

/-- A grammar's copy: it says the same; nothing older has turned. -/
def GaveGC (w : World) (n t : Int) (ss : List (Int × List Int)) (e : Ending) (w' : World) : Prop :=
  ∃ A c rs, e = .returned (.agg #[.int .i64 n, .int .i64 t, .slice A rs.length c]) ∧ rs.length ≤ c ∧ OwnR w' w.heap.size A rs ∧ rs.map Ru.abs = ss ∧ (∀ u ∈ rs, u.r.length ≤ u.c) ∧ Below w.heap.size w w'

set_option maxHeartbeats 400000 in
theorem toGrammarC_any (n t : Int) (A : Option Addr) (rs : List Ru) (c : Nat) (w : World) (hr : Rls w w.heap.size A rs) (hn : rs.length ≤ 1048576) (hu : ∀ u ∈ rs, u.r.length ≤ 1048576) :
    Calls Tryd.prog 13 #[.agg #[.int .i64 n, .int .i64 t, .slice A rs.length c]] w (GaveGC w n t (rs.map Ru.abs)) := by
  have HR := Lib.hid hr; clear hr
  have HU := Lib.hid hu; clear hu
  go_enter Tryd.func13, Tryd.ntmps13
  go_wp2_with fail
  refine (toRuleSC_any _ _ _ _ ?_ hn HU.out).mono ?_
  · exact (HR.out.keep (by go_grown)).more (by go_size)
  · rintro e w1 ⟨A', c', ss, rfl, hcap, hO, ha, hcp, hB⟩
    have HCP := Lib.hid hcp; clear hcp
    have hz := hB.size
    have c0 := (hB.cell (p := ⟨w.heap.size + 1 + 1, 0, none⟩) (by simp)).trans (show _ = some (.int .i64 n) from by simp [go_sem])
    have c1 := (hB.cell (p := ⟨w.heap.size + 1 + 1, 1, none⟩) (by simp)).trans (show _ = some (.int .i64 t) from by simp [go_sem])
    have c2 := (hB.cell (p := ⟨w.heap.size + 1 + 1, 2, none⟩) (by simp)).trans (show _ = some (.slice none 0 0) from by simp [go_sem])
    have f0 := (hB.frozen (p := ⟨w.heap.size + 1 + 1, 2, none⟩) (by simp)).trans (show _ = false from by simp [go_sem])
    have d0 := (hB.cell (p := ⟨w.heap.size + 1, 0, none⟩) (by simp)).trans (show _ = some (.int .i64 0) from by simp [go_sem])
    have d1 := (hB.cell (p := ⟨w.heap.size + 1, 1, none⟩) (by simp)).trans (show _ = some (.int .i64 0) from by simp [go_sem])
    have d2 := (hB.cell (p := ⟨w.heap.size + 1, 2, none⟩) (by simp)).trans (show _ = some (.slice none 0 0) from by simp [go_sem])
    have g0 := (hB.frozen (p := ⟨w.heap.size + 1, 0, none⟩) (by simp)).trans (show _ = false from by simp [go_sem])
    have g1 := (hB.frozen (p := ⟨w.heap.size + 1, 1, none⟩) (by simp)).trans (show _ = false from by simp [go_sem])
    have g2 := (hB.frozen (p := ⟨w.heap.size + 1, 2, none⟩) (by simp)).trans (show _ = false from by simp [go_sem])
    have HO := Lib.hid hO; clear hO
    have HB := Lib.hid hB; clear hB
    have HA := Lib.hid ha; clear ha
    go_wp2_with fail
    simp only [World.size_alloc] at hz
    refine bodyPost_ret (v := .agg #[.int .i64 n, .int .i64 t, .slice A' ss.length c']) (by simp [results, Tryd.results13, go_sem, d0, d1, d2]) rfl ⟨A', c', ss, rfl, hcap, ?_, HA.out, HCP.out, ?_⟩
    · have h := HO.out
      simp only [World.size_alloc] at h
      exact ((((h.low (by simp) _).low (by simp) _).low (by simp) _).low (by simp) _).lower (by omega)
    · have h := HB.out
      simp only [World.size_alloc] at h
      have hB0 : Below w.heap.size w w1 := Below.trans (by go_grown) (h.mono (by omega))
      exact (((hB0.setCell (by simp; omega) _).setCell (by simp) _).setCell (by simp) _).setCell (by simp) _

end Go.Proofs.YtjfhkcoiomokoaaDoor

/- What the walks of the laws with a list of lists as their answer share. -/

namespace Go.Proofs.YtjfhkcoiomokoaaDoor
open Go.RowKit

theorem OwnL.kept {S : Nat → Prop} {w w' : World} {lo : Nat} {A : Option Addr} {ls : List Li} (h : OwnL w lo A ls) (hs : Save S w w') (hd : ∀ b, ItsL A ls b → ¬ S b) : OwnL w' lo A ls := by
  by_cases e : ls = []
  · exact .inl e
  · rcases h with h | ⟨g, cs, ea, hl, hr, hc, hdd⟩
    · exact .inl h
    · refine .inr ⟨g, cs, ea, hl, hr.save hs (hd g (.inl ⟨ea, e⟩)), fun k u hu => ?_, hdd⟩
      obtain ⟨h1, h2, h3⟩ := hc k u hu
      exact ⟨h1, h2, h3.kept hs fun b hb => hd b (.inr ⟨k, u, hu, hb⟩)⟩

theorem say_len {ls : List Li} {xs : List (List Int)} {m : Nat} (h : sayL ls = xs) (hx : xs.length ≤ m) : ls.length ≤ m := by rw [sayL_len' h]; exact hx
theorem say_lens {ls : List Li} {xs : List (List Int)} {m : Nat} (h : sayL ls = xs) (hx : ∀ x ∈ xs, x.length ≤ m) : ∀ u ∈ ls, u.r.length ≤ m := fun u hu => hx u.r (h ▸ sayL_mem hu)

end Go.Proofs.YtjfhkcoiomokoaaDoor

/- The law of ShortWords: its walk. -/

namespace Go.Proofs.YtjfhkcoiomokoaaDoor
open Go.RowKit

set_option maxHeartbeats 1000000 in
theorem law_ShortWords (n t x : Int) (A : Option Addr) (c : Nat) (rs : List Ru) (w : World) (hx : Rls w w.heap.size A rs) (hL : Lims w) (hn : rs.length ≤ maxLen) (hu : ∀ u ∈ rs, u.r.length ≤ maxLen) (hf : FitR rs) :
    Calls Tryd.prog 4 #[.agg #[.int .i64 n, .int .i64 t, .slice A rs.length c], .int .i64 x] w (LawEnds w) := by
  have HX := Lib.hid hx; clear hx
  have HL := Lib.hid hL; clear hL
  have HN := Lib.hid hn; clear hn
  have HU := Lib.hid hu; clear hu
  have HF := Lib.hid hf; clear hf
  go_enter Tryd.func4, Tryd.ntmps4
  go_wp2_with fail
  have hBA : Below w.heap.size w (w.alloc (.cells #[.int .i64 n, .int .i64 t, .slice A rs.length c] 24)) := by go_grown
  have B0 : Box3 (w.alloc (.cells #[.int .i64 n, .int .i64 t, .slice A rs.length c] 24)) w.heap.size (.int .i64 n) (.int .i64 t) (.slice A rs.length c) := ⟨by simp, by simp [go_sem], by simp [go_sem], by simp [go_sem]⟩
  generalize (w.alloc (.cells #[.int .i64 n, .int .i64 t, .slice A rs.length c] 24)) = W at hBA B0 ⊢
  have HBA := Lib.hid hBA; clear hBA
  have HB0 := Lib.hid B0; clear B0
  refine (szGrammar_any _ _ _ _ _ _ _ ((HX.out.keep HBA.out).more HBA.out.size) HN.out HU.out (by omega) (by omega)).mono ?_
  rintro e w1 ⟨rfl, hB1⟩
  have HB1 := Lib.hid hB1; clear hB1
  by_cases hneg : szRs rs 1048576 < 0
  · go_wp2
    go_ret
    exact ⟨rfl, HBA.out.trans (HB1.out.mono HBA.out.size)⟩
  obtain ⟨hlen0, hlens0⟩ := szRs_bound (L := 1048576) (by omega) (by omega : 0 ≤ szRs rs 1048576)
  have hlen : rs.length ≤ 1048576 := by omega
  have HLN : Hid (∀ u ∈ rs, u.r.length ≤ 1048576) := fun u hu => by have := hlens0 u hu; omega
  clear hlen0 hlens0
  have HW1 := Lib.hid (HBA.out.trans (HB1.out.mono HBA.out.size))
  have KA1 := Lib.hid (HB0.out.keep HB1.out HB0.out.1)
  have HR1 := Lib.hid ((HX.out.keep HW1.out).more HW1.out.size)
  obtain ⟨_, a0, a1, a2⟩ := KA1.out
  clear HB1 HB0 HBA
  -- the reference's answer
  go_wp2_with fail
  refine (toGrammarC_any _ _ _ _ _ _ HR1.out hlen HLN.out).mono ?_
  rintro e w2 ⟨A2, c2, rs2, rfl, hcap2, hO2, ha2, hcc2, hB2⟩
  have HCC2 := Lib.hid hcc2; clear hcc2
  have hl2 := abs_len ha2
  have hlen2 : rs2.length ≤ 1048576 := by omega
  have HLN2 := Lib.hid (abs_lens ha2 HLN.out)
  have HO2 := Lib.hid hO2; clear hO2
  have HA2 := Lib.hid ha2; clear ha2
  have HB2 := Lib.hid hB2; clear hB2
  clear hl2
  go_wp2_with fail
  refine (specShort_any _ _ _ _ _ _ _ HO2.out.rls hcap2 HCC2.out hlen2 HLN2.out).mono ?_
  rw [HA2.out]
  clear HCC2
  have hyl : (shortV n t (rs.map Ru.abs) x).length ≤ 1048576 := (Nat.le_trans (shortV_len fun h => (goodG_is h).2.1.2) (by decide))
  have HYU : Hid (∀ z ∈ (shortV n t (rs.map Ru.abs) x), z.length ≤ 1048576) := fun y hy => Nat.le_trans (shortV_lens hy) (by decide)
  have HIMP : Hid (∀ (A' : Option Addr) (c' : Nat) (rs' : List Ru) (v : World), Rls v v.heap.size A' rs' → Lims v → rs'.length ≤ c' → rs'.map Ru.abs = rs.map Ru.abs →
      Calls Tryd.prog 24 #[.agg #[.int .i64 n, .int .i64 t, .slice A' rs'.length c'], .int .i64 x] v (GaveLB v (shortV n t (rs.map Ru.abs) x) (okS n t (rs.map Ru.abs) x))) := fun A' c' rs' v h1 h2 h3 h4 => by
    have h5 := abs_len h4
    have h6 := implShort_any n t x A' c' rs' v h1 h2 h3 (by omega) (abs_lens h4 HLN.out) (abs_fit h4 HF.out)
    rw [h4] at h6
    exact h6
  generalize shortV n t (rs.map Ru.abs) x = ys at hyl HYU HIMP ⊢
  generalize okS n t (rs.map Ru.abs) x = ok at HIMP ⊢
  rintro e w3 ⟨A3, c3, ls3, rfl, _, hO3, hY3, hB3⟩
  have HY3 := Lib.hid hY3; clear hY3
  have HB3 := Lib.hid (HB2.out.trans (hB3.mono HB2.out.size)); clear hB3
  have HO3 := Lib.hid hO3; clear hO3
  have HI3 : Hid (∀ b, ItsL A3 ls3 b → w.heap.size + 1 ≤ b ∧ b < w3.heap.size) := fun b hb => ⟨by have := (HO3.out.its hb).1; have := HB2.out.size; have := KA1.out.1; omega, (HO3.out.its hb).2⟩
  clear a0 a1 a2 HO2 HA2 HLN2 hlen2 hcap2
  have KA3 := Lib.hid (KA1.out.keep HB3.out KA1.out.1)
  have HW3 := Lib.hid (HW1.out.trans (HB3.out.mono HW1.out.size))
  have HR3 := Lib.hid ((HX.out.keep HW3.out).more HW3.out.size)
  have HWS3 : Hid (w.heap.size + 1 ≤ w3.heap.size) := KA3.out.1
  clear KA1 HR1 HW1 HB3 HB2
  obtain ⟨_, a0, a1, a2⟩ := KA3.out
  -- the program's argument, a copy
  go_wp2_with fail
  refine (toGrammar_any _ _ _ _ _ _ HR3.out hlen HLN.out).mono ?_
  rintro e w4 ⟨A4, c4, rs4, rfl, hcap4, hO4, ha4, hB4⟩
  have hl4 := abs_len ha4
  have hlen4 : rs4.length ≤ 1048576 := by omega
  have HLN4 := Lib.hid (abs_lens ha4 HLN.out)
  have HA4 := Lib.hid ha4; clear ha4
  have HI4 : Hid (∀ b, ItsR A4 rs4 b → w3.heap.size ≤ b ∧ b < w4.heap.size) := fun b hb => hO4.its hb
  have HS4 := Lib.hid hB4.size
  clear hl4 a0 a1 a2
  go_wp2_with fail
  have hBX : Below w4.heap.size w4 (w4.alloc (.cells #[.int .i64 n, .int .i64 t, .slice A4 rs4.length c4] 32)) := by go_grown
  have B4 : Box3 (w4.alloc (.cells #[.int .i64 n, .int .i64 t, .slice A4 rs4.length c4] 32)) w4.heap.size (.int .i64 n) (.int .i64 t) (.slice A4 rs4.length c4) := ⟨by simp, by simp [go_sem], by simp [go_sem], by simp [go_sem]⟩
  generalize (w4.alloc (.cells #[.int .i64 n, .int .i64 t, .slice A4 rs4.length c4] 32)) = X at hBX B4 ⊢
  have HOX := Lib.hid (hO4.below hBX (Nat.le_refl _)); clear hO4
  have HSX := Lib.hid hBX.size
  have HBX := Lib.hid (hB4.trans (hBX.mono hB4.size)); clear hBX hB4
  have HB4 := Lib.hid B4; clear B4
  have HWX := Lib.hid (HW3.out.trans (HBX.out.mono HW3.out.size))
  have HO3X := Lib.hid (HO3.out.below HBX.out (Nat.le_refl _))
  have KAX := Lib.hid (KA3.out.keep HBX.out KA3.out.1)
  clear HO3 KA3 HW3 HR3
  -- the program's answer
  refine (HIMP.out _ _ _ _ HOX.out.rls (HL.out.keep HWX.out (Nat.le_refl _)) hcap4 HA4.out).mono ?_
  rintro e w5 ⟨A5, c5, ls5, rfl, _, hO5, hY5, hB5⟩
  have hl5 := say_len hY5 hyl
  have HU5 := Lib.hid (say_lens hY5 HYU.out)
  have HE5 := Lib.hid (eqLs_t (hY5.trans HY3.out.symm)); clear hY5
  have KX5 := Lib.hid (HB4.out.keep hB5 HB4.out.1)
  have KA5 := Lib.hid (KAX.out.keep hB5 KAX.out.1)
  have HO4 := Lib.hid (HOX.out.below hB5 (Nat.le_refl _))
  have HO3 := Lib.hid (HO3X.out.below hB5 (Nat.le_refl _))
  have HW5 := Lib.hid (HWX.out.trans (hB5.mono HWX.out.size))
  have HI5 : Hid (∀ b, ItsL A5 ls5 b → w4.heap.size ≤ b) := fun b hb => by have := (hO5.its hb).1; have := HSX.out; omega
  have HO5 := Lib.hid hO5; clear hO5
  clear hB5 HOX HB4 HWX KAX HO3X
  -- they say the same
  go_wp2_with fail
  refine (eqIntSS_any _ _ _ _ _ _ _ HO5.out.lls HO3.out.lls hl5 HU5.out).mono ?_
  rintro e w6 ⟨rfl, hB6⟩
  rw [HE5.out]
  have hok : (ok != ok) = false := by simp
  have KX := Lib.hid (KX5.out.keep hB6 KX5.out.1)
  have KA := Lib.hid (KA5.out.keep hB6 KA5.out.1)
  have HO46 := Lib.hid (HO4.out.below hB6 (Nat.le_refl _))
  have HO36 := Lib.hid (HO3.out.below hB6 (Nat.le_refl _))
  have HO56 := Lib.hid (HO5.out.below hB6 (Nat.le_refl _))
  have HW6 := Lib.hid (HW5.out.trans (hB6.mono HW5.out.size))
  have HR6 := Lib.hid ((HX.out.keep HW6.out).more HW6.out.size)
  clear hB6 KX5 KA5 HO4 HO3 HO5 HW5
  obtain ⟨_, x0, x1, x2⟩ := KX.out
  obtain ⟨_, a0, a1, a2⟩ := KA.out
  go_wp2_with fail
  go_region_held3 (fun w' => w'.cell? ⟨w4.heap.size, 0, none⟩ = some (.int .i64 n) ∧ w'.cell? ⟨w4.heap.size, 1, none⟩ = some (.int .i64 t) ∧ w'.cell? ⟨w4.heap.size, 2, none⟩ = some (.slice A4 rs4.length c4) ∧ w'.cell? ⟨w.heap.size, 0, none⟩ = some (.int .i64 n) ∧ w'.cell? ⟨w.heap.size, 1, none⟩ = some (.int .i64 t) ∧ w'.cell? ⟨w.heap.size, 2, none⟩ = some (.slice A rs.length c))
    (first | exact ⟨v0, v1, v2, u0, u1, u2⟩ | exact ⟨y0, y1, y2, z0, z1, z2⟩ | exact ⟨x0, x1, x2, a0, a1, a2⟩)
    (first
    | (go_at_call 13
       refine (toGrammar_any _ _ _ _ _ _ ?_ hlen HLN.out).mono ?_
       · exact HR6.out.keep (by go_grown)
       rintro e w7 ⟨A7, c7, rs7, rfl, hcap7, hO7, ha7, hB7'⟩
       have hB7 : Below w6.heap.size w6 w7 := Below.trans (by go_grown) hB7'
       obtain ⟨_, y0, y1, y2⟩ := KX.out.keep hB7 KX.out.1
       obtain ⟨_, z0, z1, z2⟩ := KA.out.keep hB7 KA.out.1
       have HO7 := Lib.hid hO7
       have HA7 := Lib.hid ha7
       have HB7 := Lib.hid hB7
       clear hO7 ha7 hB7 hB7')
    | (go_at_call 17
       refine (eqGrammar_any _ _ _ _ _ _ _ _ _ _ _ ?_ ?_ hlen4 HLN4.out).mono ?_
       · exact (HO46.out.rls.keep HB7.out).more HB7.out.size
       · exact HO7.out.rls
       rintro e w8 ⟨rfl, hB8'⟩
       rw [eqG_t (HA4.out.trans HA7.out.symm)]
       have hB8 : Below w6.heap.size w6 w8 := HB7.out.trans (hB8'.mono HB7.out.size)
       obtain ⟨_, v0, v1, v2⟩ := KX.out.keep hB8 KX.out.1
       obtain ⟨_, u0, u1, u2⟩ := KA.out.keep hB8 KA.out.1
       have HB8 := Lib.hid hB8
       clear hB8 hB8'))
  rename_i hHeld
  clear hHeld x0 x1 x2 a0 a1 a2 y0 y1 y2 z0 z1 z2 u0 u1 u2
  have HW8 := Lib.hid (HW6.out.trans (HB8.out.mono HW6.out.size))
  have HO48 := Lib.hid (HO46.out.below HB8.out (Nat.le_refl _))
  have HO38 := Lib.hid (HO36.out.below HB8.out (Nat.le_refl _))
  have HO58 := Lib.hid (HO56.out.below HB8.out (Nat.le_refl _))
  have KA8 := Lib.hid (KA.out.keep HB8.out KA.out.1)
  have HS34 : Hid (w.heap.size + 1 ≤ w3.heap.size) := HWS3.out
  clear HO46 HO36 HO56 KX KA HW6 HR6 HB8
  -- the argument is marked
  go_wp2_with fail
  refine (markGrammar_any _ _ _ _ _ _ _ _ HO48.out hlen4 HLN4.out (by omega) (by omega)).mono ?_
  rintro e w9 ⟨rfl, _, hS9⟩
  have HB9 : Hid (Below (w.heap.size + 1) w8 w9) := hS9.below (by have := KA8.out.1; omega) fun i hi hI => by have := (HI4.out i hI).1; have := HS34.out; omega
  have HW9 := Lib.hid (HW8.out.trans (HB9.out.mono (by omega)))
  have KA9 := Lib.hid (KA8.out.keep HB9.out (by omega))
  have HO39 := Lib.hid (HO38.out.kept hS9 fun b hb hI => by have := (HI3.out b hb).2; have := (HI4.out b hI).1; omega)
  have HO59 := Lib.hid (HO58.out.kept hS9 fun b hb hI => by have := HI5.out b hb; have := (HI4.out b hI).2; omega)
  have hcn : cntTo rs4 rs4.length ≤ rs4.length * 1048577 := cntTo_le HLN4.out _
  clear v0 v1 v2 hS9 HO48 HO38 HO58 KA8 HW8
  go_wp2_with fail
  refine (eqIntSS_any _ _ _ _ _ _ _ HO59.out.lls HO39.out.lls hl5 HU5.out).mono ?_
  rintro e w10 ⟨rfl, hB10⟩
  rw [HE5.out]
  have HW10 := Lib.hid (HW9.out.trans (hB10.mono HW9.out.size))
  have KA10 := Lib.hid (KA9.out.keep hB10 KA9.out.1)
  have HO310 := Lib.hid (HO39.out.below hB10 (Nat.le_refl _))
  have HO510 := Lib.hid (HO59.out.below hB10 (Nat.le_refl _))
  clear hB10 HW9 KA9 HO39 HO59 HB9
  -- the answer is marked, and found again
  go_wp2_with fail
  refine (markIntSS_any _ _ _ _ _ _ HO510.out hl5 HU5.out (by omega) (by omega)).mono ?_
  rintro e w11 ⟨rfl, hO11, hS11⟩
  have HB11 : Hid (Below (w.heap.size + 1) w10 w11) := hS11.below (by have := KA10.out.1; omega) fun i hi hI => by have := HI5.out i hI; have := HS34.out; have := HSX.out; have := HS4.out; omega
  have HW11 := Lib.hid (HW10.out.trans (HB11.out.mono (by omega)))
  have KA11 := Lib.hid (KA10.out.keep HB11.out (by omega))
  have HO311 := Lib.hid (HO310.out.kept hS11 fun b hb hI => by have := (HI3.out b hb).2; have := HI5.out b hI; have := HS4.out; omega)
  have HO511 := Lib.hid hO11
  clear hO11 hS11 HW10 KA10 HO310 HO510 HB11
  go_wp2_with fail
  refine (heldIntSS_any _ _ _ _ _ HO511.out.lls hl5 HU5.out (by omega) (by omega)).mono ?_
  rintro e w12 ⟨rfl, hB12⟩
  have hne : ((1 + (lcnt ls5 ls5.length : Int)) != (1 + (lcnt ls5 ls5.length : Int))) = false := by simp
  have HW12 := Lib.hid (HW11.out.trans (hB12.mono HW11.out.size))
  have KA12 := Lib.hid (KA11.out.keep hB12 KA11.out.1)
  have HO312 := Lib.hid (HO311.out.below hB12 (Nat.le_refl _))
  have HO512 := Lib.hid (HO511.out.below hB12 (Nat.le_refl _))
  have HR12 := Lib.hid ((HX.out.keep HW12.out).more HW12.out.size)
  obtain ⟨_, a0, a1, a2⟩ := KA12.out
  clear hB12 HW11 KA11 HO311 HO511
  -- the program once more
  go_wp2_with fail
  refine (toGrammar_any _ _ _ _ _ _ HR12.out hlen HLN.out).mono ?_
  rintro e w13 ⟨A13, c13, rs13, rfl, hcap13, hO13, ha13, hB13⟩
  have HA13 := Lib.hid ha13; clear ha13
  have HO13 := Lib.hid hO13; clear hO13
  have HB13 := Lib.hid hB13; clear hB13
  have HW13 := Lib.hid (HW12.out.trans (HB13.out.mono HW12.out.size))
  clear a0 a1 a2
  go_wp2_with fail
  refine (HIMP.out _ _ _ _ HO13.out.rls (HL.out.keep HW13.out (Nat.le_refl _)) hcap13 HA13.out).mono ?_
  rintro e w14 ⟨A14, c14, ls14, rfl, _, hO14, hY14, hB14⟩
  have hl14 := say_len hY14 hyl
  have HU14 := Lib.hid (say_lens hY14 HYU.out)
  have HE14 := Lib.hid (eqLs_t (hY14.trans HY3.out.symm)); clear hY14
  have HB14 := Lib.hid (HB13.out.trans (hB14.mono HB13.out.size)); clear hB14
  have HO14 := Lib.hid hO14; clear hO14
  have HO314 := Lib.hid (HO312.out.below HB14.out (Nat.le_refl _))
  have HO514 := Lib.hid (HO512.out.below HB14.out (Nat.le_refl _))
  have HW14 := Lib.hid (HW12.out.trans (HB14.out.mono HW12.out.size))
  go_wp2_with fail
  refine (eqIntSS_any _ _ _ _ _ _ _ HO14.out.lls HO314.out.lls hl14 HU14.out).mono ?_
  rintro e w15 ⟨rfl, hB15⟩
  rw [HE14.out]
  have HO515 := Lib.hid (HO514.out.below hB15 (Nat.le_refl _))
  have HW15 := Lib.hid (HW14.out.trans (hB15.mono HW14.out.size))
  clear hB15
  go_wp2_with fail
  refine (heldIntSS_any _ _ _ _ _ HO515.out.lls hl5 HU5.out (by omega) (by omega)).mono ?_
  rintro e w16 ⟨rfl, hB16⟩
  have HW16 := Lib.hid (HW15.out.trans (hB16.mono HW15.out.size))
  clear hB16
  go_wp2
  go_ret
  exact ⟨rfl, HW16.out⟩

end Go.Proofs.YtjfhkcoiomokoaaDoor

/- The law of ShortWords holds of every grammar and every number: the call returns true, and what was handed in reads afterwards as it read before. Conditions: the package's table of limits is as the program's text lays it (tied by the given tie). -/

namespace Go.Proofs.YtjfhkcoiomokoaaDoor
open Go.ChangeShapes Go.WideShapes Go.ChangeAt Go.RowKit

set_option maxRecDepth 100000 in
theorem shortWords_lifted (os : Os) (started : os.Started) (H : Type) (enc : TypeId × Value → H) :
    ReturnsInHanded {} Tryd.checked os 4 .any (fun w args => (Rows.fnExactShortWordsSpec.pre enc Tryd.prog Tryd.f4 [] false w args ∧ laidMetH Tryd.prog laid1 w) ∧ sizedMet enc Tryd.prog Tryd.f4 (OpenSpec.ofChange Rows.fnExactShortWordsSpec) false w args)
      (Rows.fnExactShortWordsSpec.post enc Tryd.prog Tryd.f4 false true false false) := by
  refine returnsInHanded_of_change_and (C := Tryd.checked) (X := fun w _ => laidMetH Tryd.prog laid1 w) (fun _ _ _ hh h => h.of_heap hh) Tryd.own started (by kernel_rfl) Tryd.func4
    (ChangeSpec.witness_shaped (enc := enc) (C := Tryd.checked) (os := os) (X := fun w _ => laidMetH Tryd.prog laid1 w) false (World.doorLaid Tryd.prog 400 os) #[.agg #[.int .i64 0, .int .i64 0, .slice none 0 0], .int .i64 0] 8 rfl (World.shaped_of_RefB (by kernel_rfl) (by kernel_rfl)) (by kernel_rfl) (by kernel_rfl) (by kernel_rfl) (door_met os _)) ?_
  intro W base args ds gs before hval0 hW _ _ hL _
  have hval : ∀ (j : Nat) t v, Tryd.f4.params[j]? = some t → args[j]? = some v → Value.okWide Tryd.prog W .any base t v := hval0
  have hW' := hW
  obtain ⟨p, q, hA0, hV0, rfl, hfz, hnd⟩ := hW
  have hA : DataW.TrodAll enc Tryd.prog W 0 (fun _ => true) true Tryd.f4.params.toList args.toList ds p := hA0
  have hV : DataW.TrodVars enc Tryd.prog W (fun _ => true) ["loop.example/g00758/impl.limits"] gs q := hV0
  rw [Tryd.params4] at hA hval
  obtain ⟨v0, v1, d0, d1, p0, p1, rfl, rfl, rfl, h0, h1⟩ := trodAll_two hA
  obtain ⟨g, tg, cs, fuel, dg, pg, rfl, _⟩ := trodVars_one hV
  obtain ⟨n, t, A, rs, c, rfl, _, hR, hlen, hlens, hF, _, _⟩ := open_grammar (hval 0 24 v0 rfl rfl) h0
  obtain ⟨x, rfl, rfl, rfl, wx⟩ := open_int Tryd.underlying3 (hval 1 3 v1 rfl rfl) h1
  refine (law_ShortWords n t x A c rs W hR (lims_of_laid hL) hlen hlens hF).mono fun e W' ⟨he, hb⟩ => ?_
  subst he
  exact ⟨_, rfl, ends_two hW' Tryd.params4 rfl rfl (by kernel_rfl) (of_decide_eq_true (by kernel_rfl)) (by kernel_rfl) (of_decide_eq_true (by kernel_rfl)) (by kernel_rfl) hb⟩

theorem shortWords_holds : Rows.FnExactShortWordsSaid :=
  OpenClaim.holds_of_wide 4 Tryd.f4 rfl rfl rfl rfl rfl rfl rfl ⟨rfl, rfl, rfl, rfl, rfl⟩ rfl rfl rfl rfl rfl (by kernel_rfl) Tryd.func4 (by kernel_rfl)
    (of_decide_eq_true (by kernel_rfl)) (by unfold Func.isWrapper; first | (rw [if_pos (by decide +kernel)]; kernel_rfl) | (rw [if_neg (by decide +kernel)]; exact ⟨rfl, rfl⟩))
    (fun os started H enc _ => shortWords_lifted os started H enc)

theorem shortWords_card : Rows.FnExactShortWordsCardSaid :=
  Claim7.holds_tied_plain_at .later [] [.data] true (true, "541ab252535a64f61b383d981b2006ce37062e3785817d7f4eac89880f20ffa6") false
    shortWords_holds (fun _ h => by cases h) (by kernel_rfl) (fun _ h => by cases h) fnExactShortWords_row_tie rfl ⟨rfl, rfl⟩ (by kernel_rfl) rfl
    (fun f fn hf hfn => by
      obtain rfl : f = 4 := Option.some.inj ((show Tryd.prog.funcNamed "loop.example/g00758/laws.FnExactShortWords" = some 4 by kernel_rfl).symm.trans hf) |>.symm
      obtain rfl : fn = Tryd.f4 := (Option.some.inj (Tryd.func4.symm.trans hfn)).symm
      exact ⟨by kernel_rfl, fun j t ht => by
        rw [Tryd.params4] at ht
        have hm : t ∈ [24, 3] := by simpa using Array.mem_of_getElem? ht
        have hall : ([24, 3].all fun u => !Tryd.prog.wantsStandIn u) = true := by kernel_rfl
        exact (show Tryd.prog.wantsStandIn t = false by simpa using List.all_eq_true.1 hall t hm)⟩)
    (by kernel_rfl)

#print axioms shortWords_card
end Go.Proofs.YtjfhkcoiomokoaaDoor
