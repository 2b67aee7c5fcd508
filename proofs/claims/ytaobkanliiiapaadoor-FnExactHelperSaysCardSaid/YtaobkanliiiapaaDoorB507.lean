/- What the laws' marks write into lists of lists, and what they find again. -/
import Derived.Test.YtaobkanliiiapaaDoorB503
import Derived.Test.YtaobkanliiiapaaDoorB501
import Derived.Test.YtaobkanliiiapaaDoorB505
import Derived.Test.YtaobkanliiiapaaDoorB506
import Derived.Deep.AppendLies
import Derived.Test.YtaobkanliiiapaaDoorB504
import Derived.Test.YtaobkanliiiapaaDoorB502
import Derived.Deep.LoopGhost
import Derived.Sort.Grow
import Derived.Sort.OwnSorted
import Derived.OwnWalk
import Derived.LoopN
import Derived.Lib.AppendZerosOnto
import Derived.Lib.AppendZeros
import Derived.Deep.RegionLawGrows

namespace Go.Proofs.YtaobkanliiiapaaDoor
open Go.RowKit

theorem OwnL.at_ {w : World} {lo : Nat} {A : Option Addr} {ls : List Li} (h : OwnL w lo A ls) {i : Nat} (hi : i < ls.length) :
    ∃ g, A = some ⟨g, 0, none⟩ ∧ lo ≤ g ∧ g < w.heap.size ∧ w.cell? ⟨g, i, none⟩ = some (.slice ls[i].a ls[i].r.length ls[i].c) ∧ OwnI w lo ls[i].a ls[i].r := by
  rcases h with h | ⟨g, cs, ea, hl, hr, hc, _⟩
  · subst h; simp at hi
  · obtain ⟨h1, _, h3⟩ := hc i _ (List.getElem?_eq_getElem hi)
    exact ⟨g, ea, hl, hr.lt, by rw [hr.cell]; exact h1, h3⟩

theorem OwnL.setList {w w' : World} {lo : Nat} {A : Option Addr} {ls : List Li} (h : OwnL w lo A ls) {i : Nat} (hi : i < ls.length) {ys : List Int} (hy : ys.length = ls[i].r.length)
    (hO : OwnI w' lo ls[i].a ys) (hs : Save (Its ls[i].a ls[i].r) w w') : OwnL w' lo A (ls.set i { ls[i] with r := ys }) := by
  rcases h with h | ⟨g, cs, ea, hl, hr, hc, hd⟩
  · subst h; simp at hi
  · have hgi : ¬ Its ls[i].a ls[i].r g := by
      rintro ⟨e1, e2⟩
      rcases (hc i _ (List.getElem?_eq_getElem hi)).2.2 with h3 | ⟨g', cs', e3, _, hr', _⟩
      · exact e2 h3
      · rw [e1] at e3
        injection e3 with e3
        injection e3 with e3
        exact hr'.ne hr (by decide) e3.symm
    refine .inr ⟨g, cs, ea, hl, hr.save hs hgi, fun k u hu => ?_, fun a b u v hu hv hab hun hvn => ?_⟩
    · rw [List.getElem?_set] at hu
      by_cases e : i = k
      · subst e
        rw [if_pos rfl, if_pos hi] at hu
        injection hu with hu
        subst hu
        obtain ⟨h1, h2, _⟩ := hc i _ (List.getElem?_eq_getElem hi)
        exact ⟨by rw [hy]; exact h1, by rw [hy]; exact h2, hO⟩
      · rw [if_neg e] at hu
        obtain ⟨h1, h2, h3⟩ := hc k u hu
        refine ⟨h1, h2, h3.save hs fun g' e1 e2 hI => ?_⟩
        exact hd k i u ls[i] hu (List.getElem?_eq_getElem hi) (Ne.symm e) e2 hI.2 (e1.trans hI.1.symm)
    · have old : ∀ (j : Nat) (y : Li), (ls.set i { ls[i] with r := ys })[j]? = some y → ∃ z, ls[j]? = some z ∧ z.a = y.a ∧ (y.r ≠ [] → z.r ≠ []) := by
        intro j y hy'
        rw [List.getElem?_set] at hy'
        by_cases e : i = j
        · subst e
          rw [if_pos rfl, if_pos hi] at hy'
          injection hy' with hy'
          subst hy'
          refine ⟨ls[i], List.getElem?_eq_getElem hi, rfl, fun hn e => hn ?_⟩
          have : ys.length = 0 := by rw [hy, e]; rfl
          exact List.eq_nil_of_length_eq_zero this
        · rw [if_neg e] at hy'
          exact ⟨y, hy', rfl, id⟩
      obtain ⟨u', hu', e1, e2⟩ := old a u hu
      obtain ⟨v', hv', e3, e4⟩ := old b v hv
      rw [← e1, ← e3]
      exact hd a b u' v' hu' hv' hab (e2 hun) (e4 hvn)

/-- How many numbers the first i lists hold. -/
def lcnt (ls : List Li) (i : Nat) : Nat := ((ls.take i).map fun u => u.r.length).sum
theorem lcnt_succ {ls : List Li} {i : Nat} (hi : i < ls.length) : lcnt ls (i + 1) = lcnt ls i + ls[i].r.length := by
  unfold lcnt
  rw [List.take_succ_eq_append_getElem hi, List.map_append, List.sum_append]
  simp
theorem lcnt_zero (ls : List Li) : lcnt ls 0 = 0 := by simp [lcnt]

def markV (k : Int) (u : Li) : Li := { u with r := seqL k u.r.length }
/-- The lists with the first i of them marked from k on. -/
def markM (k : Int) (ls : List Li) (i : Nat) : List Li := ls.mapIdx fun j u => if j < i then markV (k + (lcnt ls j : Int)) u else u
theorem markM_length (k : Int) (ls : List Li) (i : Nat) : (markM k ls i).length = ls.length := by simp [markM]
theorem markM_at {k : Int} {ls : List Li} {i j : Nat} (h : j < ls.length) (hj : j < (markM k ls i).length) : (markM k ls i)[j] = if j < i then markV (k + (lcnt ls j : Int)) ls[j] else ls[j] := by simp [markM]
theorem markM_zero (k : Int) (ls : List Li) : markM k ls 0 = ls := by
  apply List.ext_getElem?
  intro j
  simp [markM]
theorem markM_step {k : Int} {ls : List Li} {i : Nat} (h : i < ls.length) : (markM k ls i).set i (markV (k + (lcnt ls i : Int)) ls[i]) = markM k ls (i + 1) := by
  apply List.ext_getElem?
  intro j
  rw [List.getElem?_set, markM_length]
  by_cases e : i = j
  · subst e
    rw [if_pos rfl, if_pos h]
    simp [markM, h]
  · rw [if_neg e]
    simp only [markM, List.getElem?_mapIdx]
    by_cases hj : j < ls.length
    · rw [List.getElem?_eq_getElem hj]
      simp only [Option.map_some]
      congr 1
      by_cases hji : j < i
      · rw [if_pos hji, if_pos (by omega)]
      · rw [if_neg hji, if_neg (by omega)]
    · rw [List.getElem?_eq_none (by omega)]
      rfl

/-- The blocks of a slice of lists and of the lists. -/
def ItsL (A : Option Addr) (ls : List Li) (b : Nat) : Prop := (A = some ⟨b, 0, none⟩ ∧ ls ≠ []) ∨ ∃ (i : Nat) (u : Li), ls[i]? = some u ∧ Its u.a u.r b

theorem OwnL.its {w : World} {lo : Nat} {A : Option Addr} {ls : List Li} (h : OwnL w lo A ls) {b : Nat} (hb : ItsL A ls b) : lo ≤ b ∧ b < w.heap.size := by
  rcases h with h | ⟨g, cs, ea, hl, hr, hc, _⟩
  · subst h
    rcases hb with ⟨_, h⟩ | ⟨i, u, h, _⟩
    · exact absurd rfl h
    · simp at h
  · rcases hb with ⟨e, _⟩ | ⟨i, u, hu, e, hn⟩
    · rw [ea] at e; injection e with e; injection e with e; subst e; exact ⟨hl, hr.lt⟩
    · rcases (hc i u hu).2.2 with h3 | ⟨g', cs', e3, l3, hr', _⟩
      · exact absurd h3 hn
      · rw [e] at e3; injection e3 with e3; injection e3 with e3; subst e3; exact ⟨l3, hr'.lt⟩

def MarkedL (w : World) (lo : Nat) (A : Option Addr) (ls : List Li) (k : Int) (e : Ending) (w' : World) : Prop :=
  e = .returned (.int .i64 (k + (lcnt ls ls.length : Int))) ∧ OwnL w' lo A (markM k ls ls.length) ∧ Save (ItsL A ls) w w'

theorem mark_nextL {wr w1 : World} {lo : Nat} {A : Option Addr} {j : Nat} {ls : List Li} {k : Int} (H : OwnL wr lo A (markM k ls j)) (hlt : j < ls.length)
    (hO : OwnI w1 lo ls[j].a (seqL (k + (lcnt ls j : Int)) ls[j].r.length)) (hS : Save (Its ls[j].a ls[j].r) wr w1) : OwnL w1 lo A (markM k ls (j + 1)) := by
  have hlt' : j < (markM k ls j).length := by rw [markM_length]; exact hlt
  have hat : (markM k ls j)[j] = ls[j] := by rw [markM_at hlt, if_neg (by omega)]
  have h2 := H.setList (i := j) (w' := w1) (ys := seqL (k + (lcnt ls j : Int)) ls[j].r.length) hlt' (by simp [hat, seqL_length]) (by simpa [hat] using hO) (by simpa [hat] using hS)
  rw [← markM_step hlt]
  simpa [hat, markV] using h2

set_option maxHeartbeats 400000 in
theorem markIntSS_any (A : Option Addr) (ls : List Li) (c lo : Nat) (k : Int) (w : World) (h : OwnL w lo A ls) (hn : ls.length ≤ 1048576) (hu : ∀ u ∈ ls, u.r.length ≤ 1048576) (hk : 0 ≤ k) (hk' : k ≤ 2199030000000) :
    Calls Tryd.prog 89 #[.slice A ls.length c, .int .i64 k] w (MarkedL w lo A ls k) := by
  have HO := Lib.hid h; clear h
  have HU := Lib.hid hu; clear hu
  go_enter Tryd.func89, Tryd.ntmps89
  go_wp2
  go_loopw [1, 5] (fun v i wr => ∃ (j : Nat), j ≤ ls.length ∧ i = .int .i64 j ∧ v = .int .i64 (k + (lcnt ls j : Int)) ∧ lcnt ls j ≤ j * 1048577 ∧ Hid (OwnL wr lo A (markM k ls j)) ∧ Hid (Save (ItsL A ls) w wr)) (fun _ i _ => ls.length - (intOf i).toNat)
  case atStart => exact ⟨0, by omega, rfl, by simp [lcnt_zero], by simp [lcnt_zero], by show OwnL _ _ _ _; rw [markM_zero]; exact HO.out, Save.refl _ _⟩
  case round =>
    obtain ⟨j, hj, rfl, rfl, hcn, H, HS⟩ := hrel
    by_cases hlt : j < ls.length
    · have hlt' : j < (markM k ls j).length := by rw [markM_length]; exact hlt
      have hat : (markM k ls j)[j] = ls[j] := by rw [markM_at hlt, if_neg (by omega)]
      obtain ⟨g, rfl, _, _, c1, c3⟩ := H.out.at_ hlt'
      rw [hat] at c1 c3
      have C3 := Lib.hid c3
      have hul := HU.out ls[j] (List.getElem_mem hlt)
      have HCS := Lib.hid (lcnt_succ hlt)
      clear c3 hat hlt'
      go_wp2_with fail
      refine (markIntS_any _ _ _ lo _ _ C3.out hul (by omega) (by omega)).mono ?_
      rintro e w1 ⟨rfl, hO1, hS1⟩
      have HO1 := Lib.hid hO1; clear hO1
      have HS1 := Lib.hid hS1; clear hS1
      go_wp2
      go_roundw
      case rel => exact ⟨j + 1, by omega, by go_num, by rw [HCS.out]; go_num, by rw [HCS.out]; omega, mark_nextL H.out hlt HO1.out HS1.out, HS.out.trans (HS1.out.wider fun i hi => .inr ⟨j, ls[j], List.getElem?_eq_getElem hlt, hi⟩)⟩
      case measure => simp [intOf]; omega
    · obtain rfl : j = ls.length := by omega
      go_wp2
      go_ret
      exact ⟨rfl, H.out, HS.out⟩

set_option maxHeartbeats 400000 in
theorem heldIntSS_any (A : Option Addr) (ls : List Li) (c : Nat) (k : Int) (w : World) (h : Lls w w.heap.size A (markM k ls ls.length)) (hn : ls.length ≤ 1048576) (hu : ∀ u ∈ ls, u.r.length ≤ 1048576) (hk : 0 ≤ k) (hk' : k ≤ 2199030000000) :
    Calls Tryd.prog 90 #[.slice A ls.length c, .int .i64 k] w fun e w' => e = .returned (.int .i64 (k + (lcnt ls ls.length : Int))) ∧ Below w.heap.size w w' := by
  have HO := Lib.hid h; clear h
  have HU := Lib.hid hu; clear hu
  go_enter Tryd.func90, Tryd.ntmps90
  go_wp2
  go_loopw [1, 5] (fun v i wr => ∃ (j : Nat), j ≤ ls.length ∧ i = .int .i64 j ∧ v = .int .i64 (k + (lcnt ls j : Int)) ∧ lcnt ls j ≤ j * 1048577 ∧ Below w.heap.size w wr) (fun _ i _ => ls.length - (intOf i).toNat)
  case atStart => exact ⟨0, by omega, rfl, by simp [lcnt_zero], by simp [lcnt_zero], Below.refl _ _⟩
  case round =>
    obtain ⟨j, hj, rfl, rfl, hcn, hB⟩ := hrel
    by_cases hlt : j < ls.length
    · have hat : (markM k ls ls.length)[j]'(by rw [markM_length]; exact hlt) = markV (k + (lcnt ls j : Int)) ls[j] := by rw [markM_at hlt, if_pos hlt]
      obtain ⟨b, o, rfl, hb, c1, _, c3⟩ := (HO.out.keep hB).at_ (k := j) (by rw [markM_length]; exact hlt)
      rw [hat] at c1 c3
      simp only [markV, seqL_length] at c1 c3
      have C3 := Lib.hid (c3.more hB.size)
      have hul := HU.out ls[j] (List.getElem_mem hlt)
      have HCS := Lib.hid (lcnt_succ hlt)
      clear c3 hat
      go_wp2_with fail
      refine (heldIntS_any _ _ _ _ _ C3.out hul (by omega) (by omega)).mono ?_
      rintro e w1 ⟨rfl, hB1⟩
      have HB1 := Lib.hid (hB.trans (hB1.mono hB.size)); clear hB1
      go_wp2
      go_roundw
      case rel => exact ⟨j + 1, by omega, by go_num, by rw [HCS.out]; go_num, by rw [HCS.out]; omega, HB1.out⟩
      case measure => simp [intOf]; omega
    · obtain rfl : j = ls.length := by omega
      go_wp2
      go_ret
      exact ⟨rfl, hB⟩

end Go.Proofs.YtaobkanliiiapaaDoor

/- The program's words up to a length. -/

namespace Go.Proofs.YtaobkanliiiapaaDoor
open Go.RowKit

theorem catL_two (a b : Pt) : catL [a, b] = a.r ++ b.r := by simp [catL]
theorem pts_two {w : World} {A : Option Addr} {x : List Int} {c : Nat} {t : Int} (h : Ints w w.heap.size A x) :
    PtsAt ((w.alloc (.cells #[.int .i64 t] 3)).alloc (.cells #[.slice A x.length c, .slice (some ⟨w.heap.size, 0, none⟩) 1 1] 37)) (w.heap.size + 1) [⟨A, x, c⟩, ⟨some ⟨w.heap.size, 0, none⟩, [t], 1⟩] := by
  refine ⟨by simp, fun k p hk => ?_⟩
  rcases k with _ | _ | k
  · simp at hk
    subst hk
    refine ⟨by simp [go_sem], (h.keep ?_).more (by simp; omega)⟩
    go_grown
  · simp at hk
    subst hk
    refine ⟨by simp [go_sem], ?_⟩
    have h1 := ints_one w t
    have h2 : Below (w.heap.size + 1) (w.alloc (.cells #[.int .i64 t] 3)) ((w.alloc (.cells #[.int .i64 t] 3)).alloc (.cells #[.slice A x.length c, .slice (some ⟨w.heap.size, 0, none⟩) 1 1] 37)) := (Below.refl _ _).alloc (by simp) _
    exact (h1.keep h2).more (by simp)
  · simp at hk

end Go.Proofs.YtaobkanliiiapaaDoor

/- The program's ShortWords. -/

namespace Go.Proofs.YtaobkanliiiapaaDoor
open Go.RowKit

theorem sel_yes {P : List Int → Bool} {ds : List Li} {k : Nat} (hk : k < ds.length) (h : P ds[k].r = true) : ((sayL ds).take (k + 1)).filter P = ((sayL ds).take k).filter P ++ [ds[k].r] := by
  have e : (sayL ds)[k]'(by rw [sayL_len]; exact hk) = ds[k].r := by simp [sayL]
  rw [filter_yes (l := sayL ds) (by rw [sayL_len]; exact hk) (by rw [e]; exact h), e]
theorem sel_no {P : List Int → Bool} {ds : List Li} {k : Nat} (hk : k < ds.length) (h : P ds[k].r = false) : ((sayL ds).take (k + 1)).filter P = ((sayL ds).take k).filter P := by
  have e : (sayL ds)[k]'(by rw [sayL_len]; exact hk) = ds[k].r := by simp [sayL]
  rw [filter_no (l := sayL ds) (by rw [sayL_len]; exact hk) (by rw [e]; exact h)]
theorem shortV_no {n t : Int} {ss : List (Int × List Int)} {x : Int} (h : okS n t ss x = false) : shortV n t ss x = [] := by
  unfold shortV
  rw [if_neg]
  rintro ⟨h1, h2⟩
  unfold okS at h
  rw [h1, decide_eq_true h2] at h
  cases h
theorem okS_no {n t : Int} {ss : List (Int × List Int)} {x : Int} (h : ¬ (0 ≤ x ∧ x ≤ 4)) : okS n t ss x = false := by
  unfold okS
  rw [decide_eq_false h, Bool.and_false]

end Go.Proofs.YtaobkanliiiapaaDoor

/- The reference's copy of a list, as a row that can be appended to. -/

namespace Go.Proofs.YtaobkanliiiapaaDoor
open Go.RowKit

set_option maxRecDepth 20000 in
set_option maxHeartbeats 400000 in
theorem l1OwnW_any (A : Option Addr) (xs : List Int) (c : Nat) (w : World) (hr : Ints w w.heap.size A xs) (hn : xs.length ≤ 1048576) :
    Calls Tryd.prog 72 #[.slice A xs.length c] w fun e w' => ∃ v, e = .returned v ∧ w'.ownsRow w.heap.size 3 1 v xs.length (vals xs) ∧ Below w.heap.size w w' := by
  obtain ⟨i0, hi0, hz0, hz1, hz2⟩ := info_of Tryd.infoInt
  have hB0 : Below w.heap.size w (w.alloc (.cells #[] 3)) := by go_grown
  have HB0 := Lib.hid hB0; clear hB0
  have HR := Lib.hid (hr.keep HB0.out); clear hr
  have HE := Lib.hid (own_empty w)
  rcases A with _ | ad
  · have hx : xs = [] := by
      rcases xs with _ | ⟨x, xs⟩
      · rfl
      · obtain ⟨_, _, e, _⟩ := HR.out (by simp)
        cases e
    subst hx
    go_enter Tryd.func72, Tryd.ntmps72
    go_wp2_with (at_builtin
                 refine append_nil_at rfl (.tmp 3) (.tmp 4) _ rfl w.heap.size 3 i0 1 Tryd.underlying37 hi0 _ _ _ rfl HE.out c rfl ?_)
    go_ret
    exact ⟨_, rfl, HE.out, HB0.out⟩
  · have HN : Hid (∀ (j : Nat) (v : Value), (vals xs)[j]? = some v → (w.alloc (.cells #[] 3)).cell? (ad.add j) = some v) := fun j v hv => by
      have hp : 0 < xs.length := by have := (List.getElem?_eq_some_iff.1 hv).1; rw [vals_length] at this; omega
      obtain ⟨ad', e, h⟩ := HR.out.src hp
      injection e with e
      subst e
      exact h j v hv
    go_enter Tryd.func72, Tryd.ntmps72
    go_wp2_with (at_builtin
                 refine wpList_append_own _ rfl (.tmp 3) (.tmp 4) _ rfl w.heap.size 3 i0 _ 1 8 Tryd.underlying37 hi0 hz0 hz1 hz2 rfl (by omega) _ _ _ rfl HE.out ad xs.length c (vals xs) rfl (by rw [vals_length]; omega) HN.out (vals_one xs) (by unfold maxLen; omega) (by omega) (by simp) ?_
                 intro v' w' h1 h2 h3
                 have HO1 := Lib.hid h1
                 have HG1 := Lib.hid h2
                 clear h1 h2 h3)
    have HO2 : Hid (w'.ownsRow w.heap.size 3 1 v' xs.length (vals xs)) := by have h1 := HO1.out; rw [List.nil_append, Nat.zero_add] at h1; exact h1
    go_ret
    exact ⟨_, rfl, HO2.out, HB0.out.grown HG1.out HB0.out.size fun k hk => (HE.out.lt k hk).1⟩

end Go.Proofs.YtaobkanliiiapaaDoor

/- Three slices of lists beside each other, of which one is appended to; the reference's copy of a list, xa a row that can be appended to. -/

namespace Go.Proofs.YtaobkanliiiapaaDoor
open Go.RowKit

/-- Two slices do not lie in one block. -/
def Sep (v v' : Value) : Prop := ∀ b, v.ownBlock = some b → v'.ownBlock ≠ some b
theorem Sep.symm {v v' : Value} (h : Sep v v') : Sep v' v := fun b e e' => h b e' e
theorem Sep.nil (v : Value) : Sep v (.slice none 0 0) := fun b _ e => by cases e

/-- A slice of lists is xa it was where another one was appended to. -/
theorem ListsW.other {w w2 : World} {lo lo' : Nat} {v v' : Value} {ds ds' : List Li} (h : ListsW w lo v ds) (h' : ListsW w lo' v' ds') (hg : w.grownBy w2 v'.ownBlock) (hs : Sep v v') : ListsW w2 lo v ds := by
  refine ⟨?_, h.caps, fun j u hu => (h.rts j u hu).grownL h'.row hg, h.far⟩
  obtain ⟨h1, h2 | ⟨g, cap, cur, e, h4, h5, h6⟩⟩ := h.row
  · exact ⟨h1, .inl h2⟩
  · refine ⟨h1, .inr ⟨g, cap, cur, e, h4, (hg.block g (Row.lt (t := 37) h5) fun e' => ?_).trans h5, h6⟩⟩
    subst e
    exact hs g rfl e'.symm

structure Tri (w : World) (lo : Nat) (a : Value) (xa : List Li) (b : Value) (xb : List Li) (c : Value) (xc : List Li) : Prop where
  la : ListsW w lo a xa
  lb : ListsW w lo b xb
  lc : ListsW w lo c xc
  ab : Sep a b
  ac : Sep a c
  bc : Sep b c
theorem Tri.swap {w : World} {lo : Nat} {a b c : Value} {xa xb xc : List Li} (h : Tri w lo a xa b xb c xc) : Tri w lo c xc b xb a xa := ⟨h.lc, h.lb, h.la, h.bc.symm, h.ac.symm, h.ab.symm⟩
theorem Tri.keep {w w' : World} {lo : Nat} {a b c : Value} {xa xb xc : List Li} (h : Tri w lo a xa b xb c xc) (hb : Below w.heap.size w w') : Tri w' lo a xa b xb c xc := ⟨h.la.keep hb, h.lb.keep hb, h.lc.keep hb, h.ab, h.ac, h.bc⟩
theorem Tri.shift {w : World} {lo : Nat} {a b c : Value} {xa xb xc : List Li} (h : Tri w lo a xa b xb c xc) : Tri w lo a xa c xc (.slice none 0 0) [] := ⟨h.la, h.lc, ListsW.start _ _, h.ac, Sep.nil _, Sep.nil _⟩
theorem Tri.push {w w1 w2 : World} {lo g k cap : Nat} {a b c : Value} {xa xb xc : List Li} {A : Option Addr} {xs : List Int} {cx : Nat} {o : Obj} (h : Tri w lo a xa b xb c xc) (hb : Below w.heap.size w w1) (hlo : lo ≤ w.heap.size) (hO : OwnI w1 w.heap.size A xs) (hcap : xs.length ≤ cx)
    (ho : w2.ownsRow lo 37 1 (.slice (some ⟨g, 0, none⟩) k cap) (xa.length + 1) (xa.map cellsL ++ [.slice A xs.length cx])) (hg : (w1.alloc o).grownBy w2 a.ownBlock) (hl : a.ownBlock = some g ∨ g = (w1.alloc o).heap.size) :
    Tri w2 lo (.slice (some ⟨g, 0, none⟩) k cap) (xa ++ [⟨A, xs, cx⟩]) b xb c xc := by
  have hB2 : Below w1.heap.size w1 (w1.alloc o) := (Below.refl _ _).alloc (Nat.le_refl _) _
  have h2 := (h.keep hb).keep hB2
  have sep : ∀ {v : Value} {ds : List Li}, ListsW (w1.alloc o) lo v ds → Sep a v → Sep (.slice (some ⟨g, 0, none⟩) k cap) v := by
    intro v ds hv hs q e e'
    injection e with e
    subst e
    rcases hl with hl | hl
    · exact hs g hl e'
    · have := (hv.lt g e').2; omega
  exact ⟨h.la.pushI hb hlo hO hcap ho hg, h2.lb.other h2.la hg h2.ab.symm, h2.lc.other h2.la hg h2.ac.symm, sep h2.lb h2.ab, sep h2.lc h2.ac, h2.bc⟩

end Go.Proofs.YtaobkanliiiapaaDoor

/- Rising lists, and what sorting leaves of the memory. -/

namespace Go.Proofs.YtaobkanliiiapaaDoor
open Go.RowKit
open Go.Sort (Holds putRow putCells grow)

theorem holdsI {w : World} {g : Nat} {cur : Array Value} {e : TypeId} {ss : List Int} (hb : w.heap[g]? = some (.cells cur e (0, 0))) (ht : cur.toList.take ss.length = ss.map (Value.int .i64)) : Holds (Value.int .i64) w g 0 ss.toArray := by
  intro j hj
  have hj' : j < ss.length := by simpa using hj
  refine ⟨?_, by simp [World.frozen?, hb]⟩
  have h1 : (cur.toList.take ss.length)[j]? = (ss.map (Value.int .i64))[j]? := by rw [ht]
  rw [List.getElem?_take_of_lt hj'] at h1
  simp only [World.cell?, hb, Nat.zero_add]
  simp only [Option.isSome_none, Bool.false_eq_true, if_false]
  rw [← Array.getElem?_toList, h1]
  simp [hj']
theorem heap_sortedI {w : World} {g n : Nat} {os : Array Obj} {cur : Array Value} {e : TypeId} {fr : Nat × Nat} (d : Array Int) (hb : w.heap[g]? = some (.cells cur e fr)) :
    (grow (putRow (Value.int .i64) (Sort.ahead w n) g 0 d) os).heap[g]? = some (.cells (putCells (Value.int .i64) 0 d cur) e fr) := by
  have hg : g < w.heap.size := (Array.getElem?_eq_some_iff.1 hb).1
  rw [Sort.heap_grow_old _ _ (by simpa using hg)]
  simp [putRow, Sort.mapBlock, Sort.ahead, Array.getElem?_modify, hb, Sort.onCells]
theorem save_sortedI {w : World} {g n : Nat} {os : Array Obj} (d : Array Int) : Save (· = g) w (grow (putRow (Value.int .i64) (Sort.ahead w n) g 0 d) os) := by
  refine ⟨rfl, rfl, rfl, by simp, fun k hk hne => ?_⟩
  rw [Sort.heap_grow_old _ _ (by simpa using hk)]
  have : g ≠ k := fun e => hne e.symm
  simp [putRow, Sort.mapBlock, Sort.ahead, Array.getElem?_modify, this]
theorem take_putI (cur : Array Value) (ts : List Int) (h : ts.length ≤ cur.size) : (putCells (Value.int .i64) 0 ts.toArray cur).toList.take ts.length = ts.map (Value.int .i64) := by
  apply List.ext_getElem?
  intro j
  by_cases hj : j < ts.length
  · rw [List.getElem?_take_of_lt hj, Array.getElem?_toList]
    simp [putCells, hj, show j < cur.size by omega]
  · rw [List.getElem?_take_eq_none (by omega), List.getElem?_eq_none (by simp; omega)]

/-- A list is rising. -/
def Rises (xs : List Int) : Prop := xs.Pairwise (· < ·)
/-- Two rising lists with the same members are one. -/
theorem rises_unique : ∀ {xs ys : List Int}, Rises xs → Rises ys → (∀ x, x ∈ xs ↔ x ∈ ys) → xs = ys := fun {xs ys} hx hy h => by
  refine List.Perm.eq_of_pairwise (le := fun a b => a < b) (fun a b _ _ h1 h2 => absurd h1 (by omega)) hx hy ((List.perm_ext_iff_of_nodup (hx.imp fun h => by omega) (hy.imp fun h => by omega)).2 h)
theorem rises_sort {xs : List Int} (hn : xs.Nodup) : Rises (xs.mergeSort fun x y => decide (x ≤ y)) := by
  have hs := List.pairwise_mergeSort (le := fun x y : Int => decide (x ≤ y)) (fun a b c h1 h2 => by simp at *; omega) (fun a b => by simp; omega) xs
  have hd : (xs.mergeSort fun x y => decide (x ≤ y)).Nodup := ((List.mergeSort_perm xs _).nodup_iff).2 hn
  exact (hs.and hd).imp fun h => by
    have h1 := of_decide_eq_true h.1
    have h2 := h.2
    omega

/-- A new rising list of just the members of S. -/
def GaveS (w : World) (S : Int → Bool) (e : Ending) (w' : World) : Prop :=
  ∃ ys, Rises ys ∧ (∀ x, x ∈ ys ↔ S x = true) ∧ GaveI' w ys e w'

theorem len6 {ys : List Int} {S : Int → Bool} (hn : ys.Nodup) (hm : ∀ x ∈ ys, S x = true) (hf : ∀ x, S x = true → 0 ≤ x ∧ x < 40) : ys.length ≤ 40 := by
  have := nodup_le ys ((List.range 40).map fun (k : Nat) => (k : Int)) hn fun x hx => by
    have h := hf x (hm x hx)
    exact List.mem_map.2 ⟨x.toNat, List.mem_range.2 (by omega), by omega⟩
  simpa using this

theorem own_saveB {S : Nat → Prop} {w w' : World} {base : Nat} {e : TypeId} {size n : Nat} {v : Value} {xs : List Value} (h : w.ownsRow base e size v n xs) (hs : Save S w w') (hv : ∀ g, v.ownBlock = some g → ¬ S g) : w'.ownsRow base e size v n xs := by
  refine ⟨h.1, ?_⟩
  rcases h.2 with hn | ⟨g, cap, cur, rfl, hb, hgg, rest⟩
  · exact .inl hn
  · exact .inr ⟨g, cap, cur, rfl, hb, (hs.block g (Array.getElem?_eq_some_iff.1 hgg).1 (hv g rfl)).trans hgg, rest⟩
theorem own_ne_rng {w : World} {q r n cnt base : Nat} {f : Int → Option Value} {left : Int → Bool} {e : TypeId} {size m : Nat} {v : Value} {xs : List Value} (h : w.ownsRow base e size v m xs) (hr : Rng w q r n f left cnt) : some r ≠ v.ownBlock := by
  obtain ⟨_, _, h1, _⟩ := hr
  exact row_ne_iter h h1
theorem save_row {w w' : World} {row : Option Nat} (h : w.grownBy w' row) : Save (fun i => some i = row) w w' := ⟨h.os, h.tape, h.output, h.size, fun i hi hs => h.block i hi hs⟩

end Go.Proofs.YtaobkanliiiapaaDoor

/- The reference's l1Has and l1Put: members of a rising list. -/

namespace Go.Proofs.YtaobkanliiiapaaDoor
open Go.RowKit

/-- A slice that owns numbers, new since block lo. -/
def OwnV (w : World) (lo : Nat) (v : Value) (xs : List Int) : Prop := w.ownsRow lo 3 1 v xs.length (vals xs)
theorem OwnV.shape {w : World} {lo : Nat} {v : Value} {xs : List Int} (h : OwnV w lo v xs) : ∃ A c, v = .slice A xs.length c ∧ xs.length ≤ c ∧ Ints w w.heap.size A xs := by
  rcases h.2 with ⟨rfl, h0⟩ | ⟨g, cap, cur, rfl, hlo, hb, h1, h2, h3, h4⟩
  · refine ⟨none, 0, by rw [h0], by omega, fun h => by omega⟩
  · refine ⟨_, cap, rfl, h1, fun hn => ⟨g, 0, rfl, (Array.getElem?_eq_some_iff.1 hb).1, fun k x hx => ?_⟩⟩
    rw [cell_of_row w g (0 + k) cur _ _ hb, Nat.zero_add]
    have hk := (List.getElem?_eq_some_iff.1 hx).1
    have e := congrArg (fun l => l[k]?) h4
    simp only [vals, List.getElem?_map, hx, Option.map_some] at e
    rw [List.getElem?_take, if_pos (by omega)] at e
    simpa using e
theorem OwnV.nil (w : World) (lo : Nat) : OwnV w lo (.slice none 0 0) [] := ⟨rfl, .inl ⟨rfl, rfl⟩⟩
theorem OwnV.keep {w w' : World} {lo : Nat} {v : Value} {xs : List Int} (h : OwnV w lo v xs) (hb : Below w.heap.size w w') : OwnV w' lo v xs := own_below h hb
theorem OwnV.lower {w : World} {lo lo' : Nat} {v : Value} {xs : List Int} (h : OwnV w lo v xs) (hl : lo' ≤ lo) : OwnV w lo' v xs := by
  refine ⟨h.1, ?_⟩
  rcases h.2 with h | ⟨g, cap, cur, e, hlo, r⟩
  · exact .inl h
  · exact .inr ⟨g, cap, cur, e, by omega, r⟩
theorem OwnV.own {w : World} {lo : Nat} {v : Value} {xs : List Int} (h : OwnV w lo v xs) : ∃ A c, v = .slice A xs.length c ∧ OwnI w lo A xs := ownI_of_row h

set_option maxRecDepth 20000 in
set_option maxHeartbeats 400000 in
theorem l1Has6_any (A : Option Addr) (xs : List Int) (c : Nat) (n : Int) (w : World) (hx : Ints w w.heap.size A xs) (h1 : xs.length ≤ 40) :
    Calls Tryd.prog 143 #[.slice A xs.length c, .int .i64 n] w fun e w' => e = .returned (.bool (xs.contains n)) ∧ w' = w := by
  have HX := Lib.hid hx; clear hx
  go_enter Tryd.func143, Tryd.ntmps143
  go_wp2
  go_loopw [9] (fun i wr => ∃ (k : Nat), k ≤ xs.length ∧ i = .int .i64 k ∧ wr = w ∧ Hid (∀ (j : Nat) (x : Int), j < k → xs[j]? = some x → x ≠ n)) (fun i _ => xs.length - (intOf i).toNat)
  case atStart => exact ⟨0, by omega, rfl, rfl, fun j x h => absurd h (by omega)⟩
  case round =>
    obtain ⟨k, hk, rfl, rfl, H⟩ := hrel
    by_cases hlt : k < xs.length
    · obtain ⟨p, o, rfl, hb, c1⟩ := HX.out.at_ hlt
      by_cases he : xs[k] = n
      · have HE : Hid (xs.contains n = true) := by
          show _ = _
          rw [List.contains_iff_mem]
          exact he ▸ List.getElem_mem hlt
        have ht := beq_t he
        clear he
        go_wp2
        go_ret
        exact ⟨ret_bool HE.out.symm, rfl⟩
      · have HE := Lib.hid (upto_step (Q := fun x => x ≠ n) hlt he H.out)
        have ht := beq_f he
        clear he
        go_wp2
        go_roundw
        case rel => exact ⟨k + 1, by omega, by go_num, by simp, HE.out⟩
        case measure => simp [intOf]; omega
    · have HE : Hid (xs.contains n = false) := by
        show _ = _
        cases h : xs.contains n
        · rfl
        · rw [List.contains_iff_mem] at h
          obtain ⟨j, hj⟩ := List.mem_iff_getElem?.1 h
          exact absurd rfl (H.out j n (by have := (List.getElem?_eq_some_iff.1 hj).1; omega) hj)
      go_wp2
      go_ret
      exact ⟨ret_bool HE.out.symm, rfl⟩

theorem rises_put {xs : List Int} {n : Int} {k : Nat} (hx : Rises xs) (h1 : ∀ (j : Nat) (x : Int), j < k → xs[j]? = some x → x < n) (h2 : ∀ x, xs[k]? = some x → n < x) :
    Rises (xs.take k ++ [n] ++ xs.drop k) ∧ (∀ x, x ∈ xs.take k ++ [n] ++ xs.drop k ↔ x = n ∨ x ∈ xs) := by
  have ha : ∀ x ∈ xs.take k, x < n := fun x hm => by
    obtain ⟨j, hj⟩ := List.mem_iff_getElem?.1 hm
    rw [List.getElem?_take] at hj
    split at hj
    · exact h1 j x (by assumption) hj
    · cases hj
  have hsp : (xs.take k ++ xs.drop k).Pairwise (· < ·) := by rw [List.take_append_drop]; exact hx
  obtain ⟨p1, p2, p3⟩ := List.pairwise_append.1 hsp
  have hb : ∀ x ∈ xs.drop k, n < x := fun x hm => by
    cases hd : xs.drop k with
    | nil => rw [hd] at hm; cases hm
    | cons y l =>
      have h0 : xs[k]? = some y := by
        have := congrArg (fun l => l[0]?) hd
        simpa using this
      have hy := h2 y h0
      rw [hd] at hm p2
      rcases List.mem_cons.1 hm with rfl | hm
      · exact hy
      · have := (List.pairwise_cons.1 p2).1 x hm
        omega
  refine ⟨?_, fun x => ?_⟩
  · show List.Pairwise _ _
    rw [List.append_assoc]
    refine List.pairwise_append.2 ⟨p1, List.pairwise_append.2 ⟨by simp, p2, fun a h b hb' => by simp at h; subst h; exact hb b hb'⟩, fun a h b hb' => ?_⟩
    rcases List.mem_append.1 hb' with h' | h'
    · simp at h'; subst h'; exact ha a h
    · exact p3 a h b h'
  · have e : x ∈ xs ↔ x ∈ xs.take k ∨ x ∈ xs.drop k := by rw [← List.mem_append, List.take_append_drop]
    simp only [List.mem_append, List.mem_singleton, e]
    constructor
    · rintro ((h | h) | h)
      · exact .inr (.inl h)
      · exact .inl h
      · exact .inr (.inr h)
    · rintro (h | h | h)
      · exact .inl (.inr h)
      · exact .inl (.inl h)
      · exact .inr h

/-- What l1Put ends in: a new rising list with one member more. -/
def PutOne (w : World) (xs : List Int) (n : Int) (e : Ending) (w' : World) : Prop :=
  ∃ v ys, e = .returned v ∧ Rises ys ∧ (∀ x, x ∈ ys ↔ x = n ∨ x ∈ xs) ∧ ys.length = xs.length + 1 ∧ OwnV w' w.heap.size v ys ∧ Below w.heap.size w w'

theorem Ints.src2 {w : World} {B : Nat} {ad : Addr} {xs : List Int} (h : Ints w B (some ad) xs) : ∀ (j : Nat) (v : Value), (vals xs)[j]? = some v → w.cell? (ad.add j) = some v := fun j v hv => by
  have hp : 0 < xs.length := by have := (List.getElem?_eq_some_iff.1 hv).1; rw [vals_length] at this; omega
  obtain ⟨ad', e, h⟩ := h.src hp
  injection e with e
  subst e
  exact h j v hv
theorem Ints.take {w : World} {B : Nat} {A : Option Addr} {xs : List Int} (h : Ints w B A xs) (k : Nat) : Ints w B A (xs.take k) := by
  intro hn
  obtain ⟨b, o, e, hb, hc⟩ := h (by rw [List.length_take] at hn; omega)
  refine ⟨b, o, e, hb, fun j x hx => hc j x ?_⟩
  rw [List.getElem?_take] at hx
  split at hx
  · exact hx
  · cases hx
theorem Ints.drop {w : World} {B p o : Nat} {xs : List Int} (h : Ints w B (some ⟨p, o, none⟩) xs) (k : Nat) : Ints w B (some ⟨p, o + k, none⟩) (xs.drop k) := by
  intro hn
  obtain ⟨b, o', e, hb, hc⟩ := h (by rw [List.length_drop] at hn; omega)
  injection e with e
  injection e with e1 e2
  subst e1 e2
  refine ⟨p, o + k, rfl, hb, fun j x hx => ?_⟩
  rw [List.getElem?_drop] at hx
  rw [Nat.add_assoc]
  exact hc (k + j) x hx

set_option maxRecDepth 20000 in
set_option maxHeartbeats 1000000 in
theorem l1Put_any (lo : Nat) (v : Value) (xs : List Int) (n : Int) (w : World) (hv : OwnV w lo v xs) (hr : Rises xs) (hn : n ∉ xs) (h1 : xs.length ≤ 40) :
    Calls Tryd.prog 120 #[v, .int .i64 n] w (PutOne w xs n) := by
  obtain ⟨i0, hi0, hz0, hz1, hz2⟩ := info_of Tryd.infoInt
  rcases hv.2 with ⟨rfl, h0⟩ | ⟨g, c, cur, rfl, hlo, hb, hc, hm, h3, h4⟩
  · have e : xs = [] := List.eq_nil_of_length_eq_zero h0
    subst e
    clear hv hr hn h0 h1
    have HE0 := Lib.hid (own_empty w)
    have HB0 : Hid (Below w.heap.size w (w.alloc (.cells #[] 3))) := (Below.refl w.heap.size w).alloc (Nat.le_refl _) _
    go_enter Tryd.func120, Tryd.ntmps120
    go_wp2
    refine wp_loop_rounds 1 ?_
    rw [rounds_succ]
    have HA1 := Lib.hid (HE0.out.alloc (.cells #[.int .i64 n] 3))
    have hnew := cell_one_new (w.alloc (.cells #[] 3)) (.int .i64 n) 3
    rw [World.size_alloc] at hnew
    have HN2 := Lib.hid hnew; clear hnew
    go_wp2_with (first
      | (at_builtin
         refine append_nil_at rfl (.tmp 34) (.tmp 37) _ rfl w.heap.size 3 i0 1 Tryd.underlying37 hi0 _ _ _ rfl HE0.out 0 rfl ?_)
      | (at_builtin
         refine wpList_append_own _ rfl (.tmp 39) (.tmp 41) _ rfl w.heap.size 3 i0 _ 1 8 Tryd.underlying37 hi0 hz0 hz1 hz2 rfl (by omega) _ _ _ rfl HA1.out ⟨w.heap.size + 1, 0, none⟩ 1 1 [.int .i64 n] rfl rfl HN2.out (by intro u hu; simp at hu; subst hu; rfl) (by unfold maxLen; omega) (by omega) (by simp; omega) ?_
         intro v2 w2 h1 h2 h3
         have HB2 : Hid (Below w.heap.size w w2) := (HB0.out.alloc HB0.out.size _).grown h2 (by simp; omega) fun j hj => (HE0.out.lt j hj).1
         have HO2 := Lib.hid h1
         clear h1 h2 h3)
      | (at_builtin
         refine append_nil_at rfl (.tmp 43) (.tmp 46) _ rfl w.heap.size 3 i0 1 Tryd.underlying37 hi0 _ _ _ rfl HO2.out 0 rfl ?_))
    go_ret
    refine ⟨v2, [n], rfl, by simp [Rises], fun x => by simp, rfl, HO2.out, HB2.out⟩
  obtain ⟨A, c', e', hc', hx⟩ := hv.shape
  injection e' with e1 _ e3
  subst e1 e3
  obtain ⟨p, o, hpo⟩ : ∃ p o, (⟨g, 0, none⟩ : Addr) = ⟨p, o, none⟩ := ⟨_, _, rfl⟩
  rw [hpo] at hx ⊢
  clear hv hlo hb h3 h4 hc' hpo
  unfold maxLen at hm
  have HX := Lib.hid hx; clear hx
  have HR := Lib.hid hr; clear hr
  have HN := Lib.hid hn; clear hn
  go_enter Tryd.func120, Tryd.ntmps120
  go_wp2
  go_loopw [5] (fun i wr => ∃ (k : Nat), k ≤ xs.length ∧ i = .int .i64 k ∧ wr = w ∧ Hid (∀ (j : Nat) (x : Int), j < k → xs[j]? = some x → x < n)) (fun i _ => xs.length - (intOf i).toNat)
  case atStart => exact ⟨0, by omega, rfl, rfl, fun j x h => absurd h (by omega)⟩
  case round =>
    obtain ⟨k, hk, rfl, rfl, H⟩ := hrel
    by_cases hlt : k < xs.length
    · have c1 : wr.cell? ⟨p, o + k, none⟩ = some (.int .i64 xs[k]) := by
        obtain ⟨p', o', e, _, h⟩ := HX.out.at_ hlt
        injection e with e
        injection e with e1 e2
        subst e1 e2
        exact h
      by_cases hl : xs[k] < n
      · have HE := Lib.hid (upto_step (Q := fun x => x < n) hlt hl H.out)
        go_wp2
        go_roundw
        case rel => exact ⟨k + 1, by omega, by go_num, by simp, HE.out⟩
        case measure => simp [intOf]; omega
      · have hne : xs[k] ≠ n := fun e => HN.out (e ▸ List.getElem_mem hlt)
        have hq := beq_f hne
        have HP := Lib.hid (rises_put (k := k) HR.out H.out fun x hx => by
          rw [List.getElem?_eq_getElem hlt] at hx
          injection hx with hx
          omega)
        clear hne
        have HN1 : Hid (∀ (j : Nat) (u : Value), (vals (xs.take k))[j]? = some u → (wr.alloc (.cells #[] 3)).cell? ((⟨p, o, none⟩ : Addr).add j) = some u) := (((HX.out.take k).keep ((Below.refl wr.heap.size wr).alloc (Nat.le_refl _) _))).src2
        have HE0 := Lib.hid (own_empty wr)
        have HD := Lib.hid (HX.out.drop k)
        have hkl : (xs.take k).length = k := by rw [List.length_take]; omega
        have hdl : (xs.drop k).length = xs.length - k := List.length_drop
        have HKL := Lib.hid hkl; clear hkl
        have HDL := Lib.hid hdl; clear hdl
        go_wp2_with (first
          | (at_builtin
             refine wpList_append_own _ rfl (.tmp 34) (.tmp 37) _ rfl wr.heap.size 3 i0 _ 1 8 Tryd.underlying37 hi0 hz0 hz1 hz2 rfl (by omega) _ _ _ rfl HE0.out ⟨p, o, none⟩ k c (vals (xs.take k)) rfl (by rw [vals_length, HKL.out]; omega) HN1.out (vals_one _) (by unfold maxLen; omega) (by omega) (by simp) ?_
             intro v1 w1 h1 h2 h3
             have HO1 := Lib.hid h1
             have HB1 : Hid (Below wr.heap.size wr w1) := (((Below.refl wr.heap.size wr).alloc (Nat.le_refl _) _)).grown h2 (by simp) fun j hj => (HE0.out.lt j hj).1
             have hs1 : wr.heap.size ≤ w1.heap.size := HB1.out.size
             have HA1 := Lib.hid (h1.alloc (.cells #[.int .i64 n] 3))
             have HN2 := Lib.hid (cell_one_new w1 (.int .i64 n) 3)
             clear h1 h2 h3)
          | (at_builtin
             refine wpList_append_own _ rfl (.tmp 39) (.tmp 41) _ rfl wr.heap.size 3 i0 _ 1 8 Tryd.underlying37 hi0 hz0 hz1 hz2 rfl (by omega) _ _ _ rfl HA1.out ⟨w1.heap.size, 0, none⟩ 1 1 [.int .i64 n] rfl rfl HN2.out (by intro u hu; simp at hu; subst hu; rfl) (by unfold maxLen; omega) (by omega) (by simp; omega) ?_
             intro v2 w2 h1 h2 h3
             have HB2 : Hid (Below wr.heap.size wr w2) := (HB1.out.alloc HB1.out.size _).grown h2 (by simp; omega) fun j hj => (HO1.out.lt j hj).1
             have HO2 := Lib.hid h1
             have hs2 : wr.heap.size ≤ w2.heap.size := HB2.out.size
             have HN3 : Hid (∀ (j : Nat) (u : Value), (vals (xs.drop k))[j]? = some u → w2.cell? ((⟨p, o + k, none⟩ : Addr).add j) = some u) := (HD.out.keep HB2.out).src2
             clear h1 h2 h3)
          | (at_builtin
             refine wpList_append_own _ rfl (.tmp 43) (.tmp 46) _ rfl wr.heap.size 3 i0 _ 1 8 Tryd.underlying37 hi0 hz0 hz1 hz2 rfl (by omega) _ _ _ rfl HO2.out ⟨p, o + k, none⟩ (xs.length - k) (c - k) (vals (xs.drop k)) rfl (by rw [vals_length, HDL.out]; omega) HN3.out (vals_one _) (by unfold maxLen; omega) (by omega) hs2 ?_
             intro v3 w3 h1 h2 h3
             have HB3 : Hid (Below wr.heap.size wr w3) := HB2.out.grown h2 (by omega) fun j hj => (HO2.out.lt j hj).1
             have HO3 := Lib.hid h1
             clear h1 h2 h3))
        go_ret
        refine ⟨v3, xs.take k ++ [n] ++ xs.drop k, rfl, HP.out.1, HP.out.2, by simp; omega, ?_, HB3.out⟩
        show World.ownsRow _ _ _ _ _ _ _
        have e1 : (xs.take k ++ [n] ++ xs.drop k).length = 0 + k + 1 + (xs.length - k) := by simp; omega
        have e2 : vals (xs.take k ++ [n] ++ xs.drop k) = [] ++ vals (xs.take k) ++ [.int .i64 n] ++ vals (xs.drop k) := by simp [vals]
        rw [e1, e2]
        exact HO3.out
    · obtain rfl : k = xs.length := by omega
      have HP := Lib.hid (rises_put (k := xs.length) HR.out H.out fun x hx => by simp at hx)
      have HN1 : Hid (∀ (j : Nat) (u : Value), (vals xs)[j]? = some u → (wr.alloc (.cells #[] 3)).cell? ((⟨p, o, none⟩ : Addr).add j) = some u) := ((HX.out.keep ((Below.refl wr.heap.size wr).alloc (Nat.le_refl _) _))).src2
      have HE0 := Lib.hid (own_empty wr)
      by_cases hcx : c = xs.length
      · subst hcx
        go_wp2_with (first
          | (at_builtin
             refine wpList_append_own _ rfl (.tmp 34) (.tmp 37) _ rfl wr.heap.size 3 i0 _ 1 8 Tryd.underlying37 hi0 hz0 hz1 hz2 rfl (by omega) _ _ _ rfl HE0.out ⟨p, o, none⟩ xs.length xs.length (vals xs) rfl (by rw [vals_length]; omega) HN1.out (vals_one _) (by unfold maxLen; omega) (by omega) (by simp) ?_
             intro v1 w1 h1 h2 h3
             have HO1 := Lib.hid h1
             have HB1 : Hid (Below wr.heap.size wr w1) := (((Below.refl wr.heap.size wr).alloc (Nat.le_refl _) _)).grown h2 (by simp) fun j hj => (HE0.out.lt j hj).1
             have hs1 : wr.heap.size ≤ w1.heap.size := HB1.out.size
             have HA1 := Lib.hid (h1.alloc (.cells #[.int .i64 n] 3))
             have HN2 := Lib.hid (cell_one_new w1 (.int .i64 n) 3)
             clear h1 h2 h3)
          | (at_builtin
             refine wpList_append_own _ rfl (.tmp 39) (.tmp 41) _ rfl wr.heap.size 3 i0 _ 1 8 Tryd.underlying37 hi0 hz0 hz1 hz2 rfl (by omega) _ _ _ rfl HA1.out ⟨w1.heap.size, 0, none⟩ 1 1 [.int .i64 n] rfl rfl HN2.out (by intro u hu; simp at hu; subst hu; rfl) (by unfold maxLen; omega) (by omega) (by simp; omega) ?_
             intro v2 w2 h1 h2 h3
             have HB2 : Hid (Below wr.heap.size wr w2) := (HB1.out.alloc HB1.out.size _).grown h2 (by simp; omega) fun j hj => (HO1.out.lt j hj).1
             have HO2 := Lib.hid h1
             have hs2 : wr.heap.size ≤ w2.heap.size := HB2.out.size
             clear h1 h2 h3)
          | (at_builtin
             refine wpList_append_own _ rfl (.tmp 43) (.tmp 46) _ rfl wr.heap.size 3 i0 _ 1 8 Tryd.underlying37 hi0 hz0 hz1 hz2 rfl (by omega) _ _ _ rfl HO2.out ⟨p, o, none⟩ 0 0 [] rfl rfl (fun j u h => by simp at h) (by simp) (by unfold maxLen; omega) (by omega) hs2 ?_
             intro v3 w3 h1 h2 h3
             have HB3 : Hid (Below wr.heap.size wr w3) := HB2.out.grown h2 (by omega) fun j hj => (HO2.out.lt j hj).1
             have HO3 := Lib.hid h1
             clear h1 h2 h3))
        go_ret
        refine ⟨v3, xs.take xs.length ++ [n] ++ xs.drop xs.length, rfl, HP.out.1, HP.out.2, by simp, ?_, HB3.out⟩
        show World.ownsRow _ _ _ _ _ _ _
        have e1 : (xs.take xs.length ++ [n] ++ xs.drop xs.length).length = 0 + xs.length + 1 + 0 := by simp
        have e2 : vals (xs.take xs.length ++ [n] ++ xs.drop xs.length) = [] ++ vals xs ++ [.int .i64 n] ++ [] := by simp [vals]
        rw [e1, e2]
        exact HO3.out

      · have hcp : ¬ c - xs.length = 0 := by omega
        go_wp2_with (first
          | (at_builtin
             refine wpList_append_own _ rfl (.tmp 34) (.tmp 37) _ rfl wr.heap.size 3 i0 _ 1 8 Tryd.underlying37 hi0 hz0 hz1 hz2 rfl (by omega) _ _ _ rfl HE0.out ⟨p, o, none⟩ xs.length c (vals xs) rfl (by rw [vals_length]; omega) HN1.out (vals_one _) (by unfold maxLen; omega) (by omega) (by simp) ?_
             intro v1 w1 h1 h2 h3
             have HO1 := Lib.hid h1
             have HB1 : Hid (Below wr.heap.size wr w1) := (((Below.refl wr.heap.size wr).alloc (Nat.le_refl _) _)).grown h2 (by simp) fun j hj => (HE0.out.lt j hj).1
             have hs1 : wr.heap.size ≤ w1.heap.size := HB1.out.size
             have HA1 := Lib.hid (h1.alloc (.cells #[.int .i64 n] 3))
             have HN2 := Lib.hid (cell_one_new w1 (.int .i64 n) 3)
             clear h1 h2 h3)
          | (at_builtin
             refine wpList_append_own _ rfl (.tmp 39) (.tmp 41) _ rfl wr.heap.size 3 i0 _ 1 8 Tryd.underlying37 hi0 hz0 hz1 hz2 rfl (by omega) _ _ _ rfl HA1.out ⟨w1.heap.size, 0, none⟩ 1 1 [.int .i64 n] rfl rfl HN2.out (by intro u hu; simp at hu; subst hu; rfl) (by unfold maxLen; omega) (by omega) (by simp; omega) ?_
             intro v2 w2 h1 h2 h3
             have HB2 : Hid (Below wr.heap.size wr w2) := (HB1.out.alloc HB1.out.size _).grown h2 (by simp; omega) fun j hj => (HO1.out.lt j hj).1
             have HO2 := Lib.hid h1
             have hs2 : wr.heap.size ≤ w2.heap.size := HB2.out.size
             clear h1 h2 h3)
          | (at_builtin
             refine wpList_append_own _ rfl (.tmp 43) (.tmp 46) _ rfl wr.heap.size 3 i0 _ 1 8 Tryd.underlying37 hi0 hz0 hz1 hz2 rfl (by omega) _ _ _ rfl HO2.out ⟨p, o + xs.length, none⟩ 0 (c - xs.length) [] rfl rfl (fun j u h => by simp at h) (by simp) (by unfold maxLen; omega) (by omega) hs2 ?_
             intro v3 w3 h1 h2 h3
             have HB3 : Hid (Below wr.heap.size wr w3) := HB2.out.grown h2 (by omega) fun j hj => (HO2.out.lt j hj).1
             have HO3 := Lib.hid h1
             clear h1 h2 h3))
        go_ret
        refine ⟨v3, xs.take xs.length ++ [n] ++ xs.drop xs.length, rfl, HP.out.1, HP.out.2, by simp, ?_, HB3.out⟩
        show World.ownsRow _ _ _ _ _ _ _
        have e1 : (xs.take xs.length ++ [n] ++ xs.drop xs.length).length = 0 + xs.length + 1 + 0 := by simp
        have e2 : vals (xs.take xs.length ++ [n] ++ xs.drop xs.length) = [] ++ vals xs ++ [.int .i64 n] ++ [] := by simp [vals]
        rw [e1, e2]
        exact HO3.out

end Go.Proofs.YtaobkanliiiapaaDoor

/- The program's leftAnd and addHelper. -/

namespace Go.Proofs.YtaobkanliiiapaaDoor
open Go.RowKit

set_option maxRecDepth 20000 in
set_option maxHeartbeats 400000 in
theorem leftAnd1_any (l x : Int) (A : Option Addr) (c : Nat) (w : World) (hr : Ints w w.heap.size A [x]) :
    Calls Tryd.prog 125 #[.int .i64 l, .slice A 1 c] w (GaveI w [l, x]) := by
  have hmk : ∀ w, (Instr.makeSlice 37 (.int .i64 2) (.int .i64 2)).run Tryd.prog w = .ok (.slice (some ⟨w.heap.size, 0, none⟩) 2 2) (w.alloc (.cells #[.int .i64 0, .int .i64 0] 3)) := fun w => by have h := make_ints 2 (by omega) w; rw [show zI 2 = #[.int .i64 0, .int .i64 0] by kernel_rfl] at h; exact h
  have HB0 : Hid (Below w.heap.size w (w.alloc (.cells #[.int .i64 l, .int .i64 0] 3))) := by show Below _ _ _; go_grown
  have HR := Lib.hid ((hr.keep HB0.out).src (by simp)); clear hr
  have HG : Hid ((w.alloc (.cells #[.int .i64 l, .int .i64 0] 3)).heap[w.heap.size]? = some (.cells [.int .i64 l, .int .i64 0].toArray 3 (0, 0))) := heap_alloc_new w _
  go_enter Tryd.func125, Tryd.ntmps125
  go_wp2_with (with_reducible refine wpList_copy_splice rfl (.tmp 14) (.tmp 15) 37 37 rfl 3 Tryd.underlying37 (by kernel_rfl) (some ⟨w.heap.size, 1, none⟩) A 1 1 1 c rfl rfl w.heap.size 1 [.int .i64 l, .int .i64 0] 3 HG.out (vals [x]) (by simp [vals]) (fun hp => ⟨rfl, HR.out⟩) (by simp [vals]) (vals_one _) w.heap.size w HB0.out (Nat.le_refl _) ?_)
  intro w1 HG1 hB1
  go_wp2
  go_ret
  refine ⟨some ⟨w.heap.size, 0, none⟩, 2, rfl, Nat.le_refl _, .inr ⟨w.heap.size, _, rfl, Nat.le_refl _, HG1.out, fun k y hy => ?_⟩, hB1⟩
  rcases k with _ | _ | k
  · simpa [splice, vals] using hy
  · simpa [splice, vals] using hy
  · simp at hy

set_option maxRecDepth 20000 in
set_option maxHeartbeats 400000 in
theorem leftAnd2_any (l x y : Int) (A : Option Addr) (c : Nat) (w : World) (hr : Ints w w.heap.size A [x, y]) :
    Calls Tryd.prog 125 #[.int .i64 l, .slice A 2 c] w (GaveI w [l, x, y]) := by
  have hmk : ∀ w, (Instr.makeSlice 37 (.int .i64 3) (.int .i64 3)).run Tryd.prog w = .ok (.slice (some ⟨w.heap.size, 0, none⟩) 3 3) (w.alloc (.cells #[.int .i64 0, .int .i64 0, .int .i64 0] 3)) := fun w => by have h := make_ints 3 (by omega) w; rw [show zI 3 = #[.int .i64 0, .int .i64 0, .int .i64 0] by kernel_rfl] at h; exact h
  have HB0 : Hid (Below w.heap.size w (w.alloc (.cells #[.int .i64 l, .int .i64 0, .int .i64 0] 3))) := by show Below _ _ _; go_grown
  have HR := Lib.hid ((hr.keep HB0.out).src (by simp)); clear hr
  have HG : Hid ((w.alloc (.cells #[.int .i64 l, .int .i64 0, .int .i64 0] 3)).heap[w.heap.size]? = some (.cells [.int .i64 l, .int .i64 0, .int .i64 0].toArray 3 (0, 0))) := heap_alloc_new w _
  go_enter Tryd.func125, Tryd.ntmps125
  go_wp2_with (with_reducible refine wpList_copy_splice rfl (.tmp 14) (.tmp 15) 37 37 rfl 3 Tryd.underlying37 (by kernel_rfl) (some ⟨w.heap.size, 1, none⟩) A 2 2 2 c rfl rfl w.heap.size 1 [.int .i64 l, .int .i64 0, .int .i64 0] 3 HG.out (vals [x, y]) (by simp [vals]) (fun hp => ⟨rfl, HR.out⟩) (by simp [vals]) (vals_one _) w.heap.size w HB0.out (Nat.le_refl _) ?_)
  intro w1 HG1 hB1
  go_wp2
  go_ret
  refine ⟨some ⟨w.heap.size, 0, none⟩, 3, rfl, Nat.le_refl _, .inr ⟨w.heap.size, _, rfl, Nat.le_refl _, HG1.out, fun k z hz => ?_⟩, hB1⟩
  rcases k with _ | _ | _ | k
  · simpa [splice, vals] using hz
  · simpa [splice, vals] using hz
  · simpa [splice, vals] using hz
  · simp at hz

end Go.Proofs.YtaobkanliiiapaaDoor

/- An append whose run is known, at a step of a region that draws its order. -/

namespace Go.Proofs.YtaobkanliiiapaaDoor
open Go.RowKit

theorem step_append_run {P : Program} {w : World} {ops : Array Oper} {o : Oper} {a : Act} {K : Act → World → Prop} {Q : Exit → Act → World → Prop} {E : Prop} (hgd : o.guard = none) (s x : Operand) (t tn : TypeId)
    (ho : o.op = .call { callee := .builtin .append, args := #[s, x], argTypes := #[t, tn] }) (vs vx : Value) (hs : a.eval s = vs) (hx : a.eval x = vx) (v' : Value) (w' : World) (hr : (Builtin.append_ #[t, tn] o.type #[vs, vx]).run P w = .ok v' w') (h : K (a.put o.dst v') w') :
    if Region.wanted o (yielded ops a.tmps) = true then Oper.wp P o a w K Q else E := by
  have hw : Region.wanted o (yielded ops a.tmps) = true := by simp [Region.wanted, hgd]
  rw [if_pos hw]
  exact Lib.wp_append_run w s x t tn ho vs vx hs hx v' w' hr h

/-- A row of another type is as it was where a row was appended to. -/
theorem own_other {w w2 : World} {lo lo' n n' s s' : Nat} {t t' : TypeId} {v v' : Value} {xs xs' : List Value} (h : w.ownsRow lo t s v n xs) (h' : w.ownsRow lo' t' s' v' n' xs') (hne : t ≠ t') (hg : w.grownBy w2 v'.ownBlock) : w2.ownsRow lo t s v n xs := by
  obtain ⟨h1, h2 | ⟨g, cap, cur, e, h4, h5, h6⟩⟩ := h
  · exact ⟨h1, .inl h2⟩
  · refine ⟨h1, .inr ⟨g, cap, cur, e, h4, (hg.block g (Row.lt (t := t) h5) fun e' => ?_).trans h5, h6⟩⟩
    obtain ⟨_, ⟨rfl, _⟩ | ⟨g', cap', cur', rfl, _, k5, _⟩⟩ := h'
    · cases e'
    · injection e' with e'
      exact Row.ne (t := t) (t' := t') (cs := cur) (cs' := cur') h5 k5 hne e'

end Go.Proofs.YtaobkanliiiapaaDoor

/- A binary grammar that is being made: its four slices, each appended to, lie apart. -/

namespace Go.Proofs.YtaobkanliiiapaaDoor
open Go.RowKit

/-- No list of the one lies where a list of the other lies. -/
def Far (xa xb : List Li) : Prop := ∀ (i j : Nat) (u v : Li), xa[i]? = some u → xb[j]? = some v → u.r ≠ [] → v.r ≠ [] → u.a ≠ v.a
theorem Far.symm {xa xb : List Li} (h : Far xa xb) : Far xb xa := fun i j u v hu hv h1 h2 e => h j i v u hv hu h2 h1 e.symm
theorem Far.nil (xa : List Li) : Far xa [] := fun i j u v _ hv => by simp at hv
theorem Far.snoc {xa xb : List Li} {x : Li} (h : Far xa xb) (hx : ∀ (j : Nat) (v : Li), xb[j]? = some v → x.r ≠ [] → v.r ≠ [] → x.a ≠ v.a) : Far (xa ++ [x]) xb := fun i j u v hu hv h1 h2 => by
  rcases getElem?_snoc hu with ⟨_, hu⟩ | ⟨_, rfl⟩
  · exact h i j u v hu hv h1 h2
  · exact hx j v hv h1 h2

/-- No list lies in the block of the slice v. -/
def Off (v : Value) (xa : List Li) : Prop := ∀ (i : Nat) (u : Li), xa[i]? = some u → u.r ≠ [] → ∀ b, v.ownBlock = some b → u.a ≠ some ⟨b, 0, none⟩
theorem Off.nil (v : Value) : Off v [] := fun i u hu => by simp at hu

/-- A list made just now lies apart from what was there. -/
theorem ListsW.newFar {w w1 : World} {lo : Nat} {v : Value} {ds : List Li} {A : Option Addr} {xs : List Int} (h : ListsW w lo v ds) (hO : OwnI w1 w.heap.size A xs) : ∀ (j : Nat) (u : Li), ds[j]? = some u → xs ≠ [] → u.r ≠ [] → A ≠ u.a :=
  fun j u hu h1 h2 e => h.apart hO j u hu h2 h1 e.symm
theorem own_newOff {w1 : World} {lo : Nat} {A : Option Addr} {xs : List Int} (hO : OwnI w1 lo A xs) (hn : xs ≠ []) {b : Nat} (hb : b < lo) : A ≠ some ⟨b, 0, none⟩ := by
  rcases hO with h | ⟨g, _, e, hl, _⟩
  · exact absurd h hn
  · rw [e]
    intro e'
    injection e' with e'
    injection e' with e'
    omega

/-- A list is as it was where a row of numbers was appended to that does not lie in its block. -/
theorem OwnI.grownI {w w2 : World} {lo : Nat} {A : Option Addr} {xs : List Int} {v : Value} (h : OwnI w lo A xs) (hg : w.grownBy w2 v.ownBlock) (hne : xs ≠ [] → ∀ b, v.ownBlock = some b → A ≠ some ⟨b, 0, none⟩) : OwnI w2 lo A xs := by
  by_cases hx : xs = []
  · exact .inl hx
  rcases h with h | ⟨g, rc, e, hl, hr, hc⟩
  · exact .inl h
  · exact .inr ⟨g, rc, e, hl, (hg.block g hr.lt fun hb => hne hx g hb.symm e).trans hr, hc⟩
theorem ListsW.otherI {w w2 : World} {lo lo' n : Nat} {v v' : Value} {ds : List Li} {xs : List Value} (h : ListsW w lo v ds) (h' : w.ownsRow lo' 3 1 v' n xs) (hg : w.grownBy w2 v'.ownBlock) (ho : Off v' ds) : ListsW w2 lo v ds :=
  ⟨own_other h.row h' (by decide) hg, h.caps, fun j u hu => (h.rts j u hu).grownI hg fun hn b hb => ho j u hu hn b hb, h.far⟩
theorem Tri.rot {w : World} {lo : Nat} {a b c : Value} {xa xb xc : List Li} (h : Tri w lo a xa b xb c xc) : Tri w lo b xb a xa c xc := ⟨h.lb, h.la, h.lc, h.ab.symm, h.bc, h.ac⟩

/-- Three slices of lists and one of numbers, all of them the call's own and apart. -/
structure BinN (w : World) (lo : Nat) (vp : Value) (ps : List Li) (vo : Value) (os : List Li) (ve : Value) (es : List Int) (vf : Value) (fs : List Li) : Prop where
  tri : Tri w lo vp ps vo os vf fs
  e : OwnV w lo ve es
  po : Far ps os
  pf : Far ps fs
  of : Far os fs
  ep : Off ve ps
  eo : Off ve os
  ef : Off ve fs
theorem BinN.start (w : World) (lo : Nat) : BinN w lo (.slice none 0 0) [] (.slice none 0 0) [] (.slice none 0 0) [] (.slice none 0 0) [] :=
  ⟨⟨ListsW.start _ _, ListsW.start _ _, ListsW.start _ _, Sep.nil _, Sep.nil _, Sep.nil _⟩, OwnV.nil _ _, Far.nil _, Far.nil _, Far.nil _, Off.nil _, Off.nil _, Off.nil _⟩
theorem BinN.keep {w w' : World} {lo : Nat} {vp vo ve vf : Value} {ps os fs : List Li} {es : List Int} (h : BinN w lo vp ps vo os ve es vf fs) (hb : Below w.heap.size w w') : BinN w' lo vp ps vo os ve es vf fs :=
  ⟨h.tri.keep hb, h.e.keep hb, h.po, h.pf, h.of, h.ep, h.eo, h.ef⟩
theorem BinN.swapPF {w : World} {lo : Nat} {vp vo ve vf : Value} {ps os fs : List Li} {es : List Int} (h : BinN w lo vp ps vo os ve es vf fs) : BinN w lo vf fs vo os ve es vp ps :=
  ⟨h.tri.swap, h.e, h.of.symm, h.pf.symm, h.po.symm, h.ef, h.eo, h.ep⟩
theorem BinN.swapPO {w : World} {lo : Nat} {vp vo ve vf : Value} {ps os fs : List Li} {es : List Int} (h : BinN w lo vp ps vo os ve es vf fs) : BinN w lo vo os vp ps ve es vf fs :=
  ⟨h.tri.rot, h.e, h.po.symm, h.of, h.pf, h.eo, h.ep, h.ef⟩
theorem BinN.lowCell {w : World} {lo : Nat} {vp vo ve vf : Value} {ps os fs : List Li} {es : List Int} (h : BinN w lo vp ps vo os ve es vf fs) {p : Addr} (hp : p.block < lo) (u : Value) : BinN (w.setCell p u) lo vp ps vo os ve es vf fs :=
  ⟨⟨h.tri.la.low hp u, h.tri.lb.low hp u, h.tri.lc.low hp u, h.tri.ab, h.tri.ac, h.tri.bc⟩, ownsRow_setCell_below h.e hp u, h.po, h.pf, h.of, h.ep, h.eo, h.ef⟩

/-- A list made just now is appended to the first slice. -/
theorem BinN.push {w w1 w2 : World} {lo g k cap : Nat} {vp vo ve vf : Value} {ps os fs : List Li} {es : List Int} {A : Option Addr} {xs : List Int} {cx : Nat} {o : Obj} (h : BinN w lo vp ps vo os ve es vf fs) (hb : Below w.heap.size w w1) (hlo : lo ≤ w.heap.size) (hO : OwnI w1 w.heap.size A xs) (hcap : xs.length ≤ cx)
    (ho : w2.ownsRow lo 37 1 (.slice (some ⟨g, 0, none⟩) k cap) (ps.length + 1) (ps.map cellsL ++ [.slice A xs.length cx])) (hg : (w1.alloc o).grownBy w2 vp.ownBlock) (hl : vp.ownBlock = some g ∨ g = (w1.alloc o).heap.size) :
    BinN w2 lo (.slice (some ⟨g, 0, none⟩) k cap) (ps ++ [⟨A, xs, cx⟩]) vo os ve es vf fs := by
  refine ⟨h.tri.push hb hlo hO hcap ho hg hl, own_other ((own_below h.e hb).alloc o) ((own_below h.tri.la.row hb).alloc o) (by decide) hg, h.po.snoc (h.tri.lb.newFar hO), h.pf.snoc (h.tri.lc.newFar hO), h.of, ?_, h.eo, h.ef⟩
  intro i u hu hn b hb'
  rcases getElem?_snoc hu with ⟨_, hu⟩ | ⟨_, rfl⟩
  · exact h.ep i u hu hn b hb'
  · exact own_newOff hO hn (h.e.lt b hb').2

/-- A number is appended to the slice of numbers. -/
theorem BinN.pushE {w w2 : World} {lo g k cap : Nat} {vp vo ve vf : Value} {ps os fs : List Li} {es : List Int} {x : Int} {o : Obj} (h : BinN w lo vp ps vo os ve es vf fs)
    (ho : w2.ownsRow lo 3 1 (.slice (some ⟨g, 0, none⟩) k cap) (es.length + 1) (vals es ++ [.int .i64 x])) (hg : (w.alloc o).grownBy w2 ve.ownBlock) (hl : ve.ownBlock = some g ∨ g = (w.alloc o).heap.size) :
    BinN w2 lo vp ps vo os (.slice (some ⟨g, 0, none⟩) k cap) (es ++ [x]) vf fs := by
  have hB : Below w.heap.size w (w.alloc o) := (Below.refl _ _).alloc (Nat.le_refl _) _
  have h2 := h.keep hB
  have off : ∀ {v : Value} {ds : List Li}, ListsW (w.alloc o) lo v ds → Off ve ds → Off (.slice (some ⟨g, 0, none⟩) k cap) ds := by
    intro v ds hd ho i u hu hn b hb e
    injection hb with hb
    subst hb
    rcases hl with hl | hl
    · exact ho i u hu hn g hl e
    · rcases hd.rts i u hu with h3 | ⟨g', _, e', _, hr, _⟩
      · exact hn h3
      · rw [e] at e'
        have e2 : g = g' := by simpa using e'
        have h4 : g' < (w.alloc o).heap.size := hr.lt
        omega
  refine ⟨⟨h2.tri.la.otherI h2.e hg h.ep, h2.tri.lb.otherI h2.e hg h.eo, h2.tri.lc.otherI h2.e hg h.ef, h.tri.ab, h.tri.ac, h.tri.bc⟩, ?_, h.po, h.pf, h.of, off h2.tri.la h.ep, off h2.tri.lb h.eo, off h2.tri.lc h.ef⟩
  show World.ownsRow _ _ _ _ _ _ _
  rw [List.length_append]
  have e : vals (es ++ [x]) = vals es ++ [.int .i64 x] := by simp [vals]
  rw [e]
  exact ho

end Go.Proofs.YtaobkanliiiapaaDoor

/- The program's addHelper. -/

namespace Go.Proofs.YtaobkanliiiapaaDoor
open Go.RowKit

theorem own_new2 (w : World) (a b : Int) : OwnI (w.alloc (.cells #[.int .i64 a, .int .i64 b] 3)) w.heap.size (some ⟨w.heap.size, 0, none⟩) [a, b] := by
  refine .inr ⟨w.heap.size, _, rfl, Nat.le_refl _, Row.new _ _ _, fun k x hx => ?_⟩
  rcases k with _ | _ | k
  · simpa using hx
  · simpa using hx
  · simp at hx

/-- The box of a binary grammar that is being made. -/
def BoxW (w : World) (K : Nat) (n t : Int) (vp vo ve vf : Value) : Prop := Row w K 41 #[.int .i64 n, .int .i64 t, vp, vo, ve, vf]
theorem BoxW.six {w : World} {K : Nat} {n t : Int} {vp vo ve vf : Value} (h : BoxW w K n t vp vo ve vf) : w.cell? ⟨K, 0, none⟩ = some (.int .i64 n) ∧ w.cell? ⟨K, 1, none⟩ = some (.int .i64 t) ∧ w.cell? ⟨K, 2, none⟩ = some vp ∧ w.cell? ⟨K, 3, none⟩ = some vo ∧ w.cell? ⟨K, 4, none⟩ = some ve ∧ w.cell? ⟨K, 5, none⟩ = some vf :=
  ⟨h.cell 0, h.cell 1, h.cell 2, h.cell 3, h.cell 4, h.cell 5⟩
theorem BoxW.grown {w w2 : World} {K lo : Nat} {n t : Int} {vp vo ve vf v : Value} (h : BoxW w K n t vp vo ve vf) (hg : w.grownBy w2 v.ownBlock) (hv : ∀ b, v.ownBlock = some b → lo ≤ b) (hK : K < lo) : BoxW w2 K n t vp vo ve vf :=
  (hg.block K h.lt fun e => by have := hv K e.symm; omega).trans h

theorem boxw_set0 {w : World} {K : Nat} {n t m : Int} {vp vo ve vf : Value} (h : BoxW w K n t vp vo ve vf) : BoxW (w.setCell ⟨K, 0, none⟩ (.int .i64 m)) K m t vp vo ve vf := by
  have h2 := Row.set (show Row w K 41 #[.int .i64 n, .int .i64 t, vp, vo, ve, vf] from h) 0 (.int .i64 m)
  exact h2
theorem boxw_set {w : World} {K : Nat} {n t : Int} {vp vo ve vf v : Value} (h : BoxW w K n t vp vo ve vf) : BoxW (w.setCell ⟨K, 5, none⟩ v) K n t vp vo ve v := by
  have h2 := Row.set (show Row w K 41 #[.int .i64 n, .int .i64 t, vp, vo, ve, vf] from h) 5 v
  exact h2

set_option maxRecDepth 20000 in
set_option maxHeartbeats 1000000 in
theorem addHelper_any (K lo : Nat) (n t : Int) (vp vo ve vf : Value) (ps os fs : List Li) (es : List Int) (k p : Int) (w : World) (hbox : BoxW w K n t vp vo ve vf) (hN : BinN w lo vp ps vo os ve es vf fs) (hK : K < lo) (hlo : lo ≤ w.heap.size) (hn : 0 ≤ n ∧ n ≤ 1000) (hfl : fs.length ≤ 1000) :
    Calls Tryd.prog 124 #[.pointer (some ⟨K, 0, none⟩), .int .i64 k, .int .i64 p] w fun e w' => ∃ vf' fs', e = .returned (.int .i64 n) ∧ BoxW w' K (n + 1) t vp vo ve vf' ∧ BinN w' lo vp ps vo os ve es vf' fs' ∧ sayL fs' = sayL fs ++ [[k, p]] ∧ Below K w w' := by
  obtain ⟨i0, hi0, hz0, hz1, hz2⟩ := info_of Tryd.infoIntS
  have HBX := Lib.hid hbox; clear hbox
  have HN := Lib.hid hN; clear hN
  obtain ⟨b0, b1, b2, b3, b4, b5⟩ := HBX.out.six
  have f0 := Row.frozen HBX.out 0
  have hKs : K < w.heap.size := by omega
  have HX1 : Hid (BoxW (w.setCell ⟨K, 0, none⟩ (.int .i64 (n + 1))) K (n + 1) t vp vo ve vf) := boxw_set0 HBX.out
  have HN1 : Hid (BinN (w.setCell ⟨K, 0, none⟩ (.int .i64 (n + 1))) lo vp ps vo os ve es vf fs) := HN.out.lowCell hK _
  have HB1 : Hid (Below K w (w.setCell ⟨K, 0, none⟩ (.int .i64 (n + 1)))) := (Below.refl K w).setCell (p := ⟨K, 0, none⟩) (Nat.le_refl K) _
  have HZ1 : Hid ((w.setCell ⟨K, 0, none⟩ (.int .i64 (n + 1))).heap.size = w.heap.size) := by show _ = _; simp [World.setCell]
  go_enter Tryd.func124, Tryd.ntmps124
  have HLr : Hid (((w.setCell ⟨K, 0, none⟩ (.int .i64 (n + 1))).alloc (.cells #[.int .i64 k, .int .i64 p] 3)).ownsRow lo 37 1 vf fs.length (fs.map cellsL)) := HN1.out.tri.lc.row.alloc _
  have HNW := Lib.hid (one_new ((w.setCell ⟨K, 0, none⟩ (.int .i64 (n + 1))).alloc (.cells #[.int .i64 k, .int .i64 p] 3)) (.slice (some ⟨w.heap.size, 0, none⟩) 2 2) 37)
  have HOL : Hid (OwnI ((w.setCell ⟨K, 0, none⟩ (.int .i64 (n + 1))).alloc (.cells #[.int .i64 k, .int .i64 p] 3)) (w.setCell ⟨K, 0, none⟩ (.int .i64 (n + 1))).heap.size (some ⟨w.heap.size, 0, none⟩) [k, p]) := by have h := own_new2 (w.setCell ⟨K, 0, none⟩ (.int .i64 (n + 1))) k p; rw [HZ1.out] at h ⊢; exact h
  have HBL : Hid (Below (w.setCell ⟨K, 0, none⟩ (.int .i64 (n + 1))).heap.size (w.setCell ⟨K, 0, none⟩ (.int .i64 (n + 1))) ((w.setCell ⟨K, 0, none⟩ (.int .i64 (n + 1))).alloc (.cells #[.int .i64 k, .int .i64 p] 3))) := (Below.refl _ _).alloc (Nat.le_refl _) _
  have HZ2 : Hid (((w.setCell ⟨K, 0, none⟩ (.int .i64 (n + 1))).alloc (.cells #[.int .i64 k, .int .i64 p] 3)).heap.size = w.heap.size + 1) := by show _ = _; rw [World.size_alloc, HZ1.out]
  go_wp2_with (at_builtin
               refine wpList_append_lies _ rfl (.tmp 23) (.tmp 27) _ rfl lo 37 i0 _ 1 24 Tryd.underlying25 hi0 hz0 hz1 hz2 rfl (by omega) _ _ _ rfl (HLr.out.alloc _) ⟨w.heap.size + 1, 0, none⟩ 1 1 [.slice (some ⟨w.heap.size, 0, none⟩) 2 2] rfl rfl (by have h := HNW.out; rw [HZ2.out] at h; exact h) (by intro u hu; simp at hu; subst hu; rfl) (by omega) (by unfold maxLen; omega) (by omega) (by have := HZ2.out; rw [World.size_alloc]; omega) _ rfl ?_
               intro g cap w3 p1 p2 p3 p4
               have HN3 := Lib.hid (HN1.out.swapPF.push HBL.out (by rw [HZ1.out]; exact hlo) HOL.out (Nat.le_refl _) p1 p2 p3).swapPF
               have HX3 : Hid (BoxW w3 K (n + 1) t vp vo ve vf) := BoxW.grown (lo := lo) ((Row.alloc (Row.alloc HX1.out _) _) : BoxW _ _ _ _ _ _ _ _) p2 (fun b hb => (HN.out.tri.lc.lt b hb).1) hK
               have HB3 : Hid (Below K w w3) := ((HB1.out.alloc (by rw [HZ1.out]; omega) _).alloc (by rw [HZ2.out]; omega) _).grown p2 (by have := HZ2.out; rw [World.size_alloc]; omega) fun b hb => by have := (HN.out.tri.lc.lt b hb).1; omega
               have c5 := HX3.out.six.2.2.2.2.2
               have f5 := Row.frozen HX3.out 5
               clear p1 p2 p3 p4)
  have HX4 : Hid (BoxW (w3.setCell ⟨K, 5, none⟩ (.slice (some ⟨g, 0, none⟩) (fs.length + 1) cap)) K (n + 1) t vp vo ve (.slice (some ⟨g, 0, none⟩) (fs.length + 1) cap)) := boxw_set HX3.out
  go_ret
  exact ⟨_, _, rfl, HX4.out, HN3.out.lowCell hK _, sayL_snoc _ _, HB3.out.setCell (Nat.le_refl _) _⟩

end Go.Proofs.YtaobkanliiiapaaDoor

/- The program's addRule: a rule cut into pairs. -/

namespace Go.Proofs.YtaobkanliiiapaaDoor
open Go.RowKit

/-- What comes of a rule that is cut: pairs, ones, empties, whence the helpers come, and the next nonterminal. -/
structure Cut where
  P : List (List Int)
  O : List (List Int)
  F : List (List Int)
  E : List Int
  n : Int

def cutR (k : Int) : Int → List Int → Int → Int → Cut
  | l, a :: b :: c :: r, p, n =>
    let q := cutR k n (b :: c :: r) (p + 1) (n + 1)
    ⟨[l, a, n] :: q.P, q.O, [k, p] :: q.F, q.E, q.n⟩
  | l, [a, b], _, n => ⟨[[l, a, b]], [], [], [], n⟩
  | l, [a], _, n => ⟨[], [[l, a]], [], [], n⟩
  | l, [], _, n => ⟨[], [], [], [l], n⟩

theorem cutR_more (k l a b c p n : Int) (r : List Int) : cutR k l (a :: b :: c :: r) p n = ⟨[l, a, n] :: (cutR k n (b :: c :: r) (p + 1) (n + 1)).P, (cutR k n (b :: c :: r) (p + 1) (n + 1)).O, [k, p] :: (cutR k n (b :: c :: r) (p + 1) (n + 1)).F, (cutR k n (b :: c :: r) (p + 1) (n + 1)).E, (cutR k n (b :: c :: r) (p + 1) (n + 1)).n⟩ := rfl
theorem cutR_le (k : Int) : ∀ (r : List Int) (l p n : Int), n ≤ (cutR k l r p n).n
  | [], l, p, n => Int.le_refl _
  | [a], l, p, n => Int.le_refl _
  | [a, b], l, p, n => Int.le_refl _
  | a :: b :: c :: r, l, p, n => by
    rw [cutR_more]
    have := cutR_le k (b :: c :: r) n (p + 1) (n + 1)
    show n ≤ (cutR k n (b :: c :: r) (p + 1) (n + 1)).n
    omega

/-- The state so far, with what is still to come of the rule, makes up C and what was there. -/
structure CutTo (k : Int) (C : Cut) (l : Int) (r : List Int) (p n : Int) (ps os fs : List Li) (es : List Int) : Prop where
  P : sayL ps ++ (cutR k l r p n).P = C.P
  O : sayL os ++ (cutR k l r p n).O = C.O
  F : sayL fs ++ (cutR k l r p n).F = C.F
  E : es ++ (cutR k l r p n).E = C.E
  n : (cutR k l r p n).n = C.n
theorem CutTo.step {k : Int} {C : Cut} {l a b c p n : Int} {r : List Int} {ps os fs ps' fs' : List Li} {es : List Int} (h : CutTo k C l (a :: b :: c :: r) p n ps os fs es) (hp : sayL ps' = sayL ps ++ [[l, a, n]]) (hf : sayL fs' = sayL fs ++ [[k, p]]) : CutTo k C n (b :: c :: r) (p + 1) (n + 1) ps' os fs' es := by
  obtain ⟨h1, h2, h3, h4, h5⟩ := h
  rw [cutR_more] at h1 h2 h3 h4 h5
  exact ⟨by rw [hp, List.append_assoc]; exact h1, h2, by rw [hf, List.append_assoc]; exact h3, h4, h5⟩

/-- What a call makes of a binary grammar in the making. -/
def MadeB (w : World) (K lo : Nat) (t : Int) (C : Cut) (w' : World) : Prop :=
  ∃ vp ps vo os ve es vf fs, BoxW w' K C.n t vp vo ve vf ∧ BinN w' lo vp ps vo os ve es vf fs ∧ sayL ps = C.P ∧ sayL os = C.O ∧ sayL fs = C.F ∧ es = C.E ∧ Below K w w'

theorem boxw_set2 {w : World} {K : Nat} {n t : Int} {vp vo ve vf v : Value} (h : BoxW w K n t vp vo ve vf) : BoxW (w.setCell ⟨K, 2, none⟩ v) K n t v vo ve vf := by
  have h2 := Row.set (show Row w K 41 #[.int .i64 n, .int .i64 t, vp, vo, ve, vf] from h) 2 v
  exact h2
theorem boxw_set3 {w : World} {K : Nat} {n t : Int} {vp vo ve vf v : Value} (h : BoxW w K n t vp vo ve vf) : BoxW (w.setCell ⟨K, 3, none⟩ v) K n t vp v ve vf := by
  have h2 := Row.set (show Row w K 41 #[.int .i64 n, .int .i64 t, vp, vo, ve, vf] from h) 3 v
  exact h2
theorem boxw_set4 {w : World} {K : Nat} {n t : Int} {vp vo ve vf v : Value} (h : BoxW w K n t vp vo ve vf) : BoxW (w.setCell ⟨K, 4, none⟩ v) K n t vp vo v vf := by
  have h2 := Row.set (show Row w K 41 #[.int .i64 n, .int .i64 t, vp, vo, ve, vf] from h) 4 v
  exact h2
def lenS : Value → Nat
  | .slice _ n _ => n
  | _ => 0

set_option maxRecDepth 20000 in
set_option maxHeartbeats 2000000 in
theorem addRule_any (K lo : Nat) (t k : Int) (l : Int) (A : Option Addr) (r : List Int) (c : Nat) (n : Int) (vp vo ve vf : Value) (ps os fs : List Li) (es : List Int) (C : Cut) (w : World) (hbox : BoxW w K n t vp vo ve vf) (hN : BinN w lo vp ps vo os ve es vf fs) (hK : K < lo) (hlo : lo ≤ w.heap.size)
    (hr : Ints w K A r) (hrc : r.length ≤ c) (hr4 : r.length ≤ 4) (hC : CutTo k C l r 1 n ps os fs es) (hn : 0 ≤ n) (hn2 : C.n ≤ 1000) (hP : C.P.length ≤ 1000) (hO : C.O.length ≤ 1000) (hF : C.F.length ≤ 1000) (hE : C.E.length ≤ 1000) :
    Calls Tryd.prog 82 #[.pointer (some ⟨K, 0, none⟩), .int .i64 k, .agg #[.int .i64 l, .slice A r.length c]] w fun e w' => e = .returned (.tuple #[]) ∧ MadeB w K lo t C w' := by
  obtain ⟨i0, hi0, hz0, hz1, hz2⟩ := info_of Tryd.infoIntS
  obtain ⟨i3, hi3, hy0, hy1, hy2⟩ := info_of Tryd.infoInt
  have HR := Lib.hid hr; clear hr
  have HBW : Hid (Below w.heap.size w (w.alloc (.cells #[.int .i64 l, .slice A r.length c] 106))) := by show Below _ _ _; go_grown
  have HX1 : Hid (BoxW (w.alloc (.cells #[.int .i64 l, .slice A r.length c] 106)) K n t vp vo ve vf) := Row.alloc hbox _
  have HN1 := Lib.hid (hN.keep HBW.out)
  have HC := Lib.hid hC
  clear hbox hN hC
  have HBK : Hid (Below K w (w.alloc (.cells #[.int .i64 l, .slice A r.length c] 106))) := HBW.out.mono (by omega)
  have HSZ : Hid (lo ≤ (w.alloc (.cells #[.int .i64 l, .slice A r.length c] 106)).heap.size) := by show _ ≤ _; rw [World.size_alloc]; omega
  go_enter Tryd.func82, Tryd.ntmps82
  go_wp2_with fail
  have b0 : (w.alloc (.cells #[.int .i64 l, .slice A r.length c] 106)).cell? ⟨w.heap.size, 0, none⟩ = some (.int .i64 l) := by simp [go_sem]
  have b1 : (w.alloc (.cells #[.int .i64 l, .slice A r.length c] 106)).cell? ⟨w.heap.size, 1, none⟩ = some (.slice A r.length c) := by simp [go_sem]
  generalize (w.alloc (.cells #[.int .i64 l, .slice A r.length c] 106)) = W at *
  go_region
  clear b0 b1
  have HBD : Hid (Below W.heap.size W W.drew) := by show Below _ _ _; go_grown
  have HX2 : Hid (BoxW W.drew K n t vp vo ve vf) := HX1.out
  have HN2 := Lib.hid (HN1.out.keep HBD.out)
  have HB2 : Hid (Below K w W.drew) := HBK.out.trans (HBD.out.mono (by have := HSZ.out; omega))
  have HS2 : Hid (lo ≤ W.drew.heap.size) := HSZ.out
  go_wp2
  generalize W.drew = V at HBD HX2 HN2 HB2 HS2 ⊢
  clear HX1 HN1 HBK HSZ HBW HBD
  go_loopw [6, 7, 8] (fun v6 v7 v8 wr => ∃ (l : Int) (A : Option Addr) (r : List Int) (c p : Nat) (n : Int) (vp : Value) (ps : List Li) (vo : Value) (os : List Li) (ve : Value) (es : List Int) (vf : Value) (fs : List Li), v6 = .int .i64 l ∧ v7 = .slice A r.length c ∧ v8 = .int .i64 p ∧ r.length ≤ c ∧ p + r.length ≤ 5 ∧ 0 ≤ n ∧ Hid (Ints w K A r) ∧ Hid (BoxW wr K n t vp vo ve vf) ∧ Hid (BinN wr lo vp ps vo os ve es vf fs) ∧ Hid (Below K w wr) ∧ Hid (lo ≤ wr.heap.size) ∧ Hid (CutTo k C l r (p : Int) n ps os fs es)) (fun _ v7 _ _ => lenS v7)
  case atStart => exact ⟨l, A, r, c, 1, n, vp, ps, vo, os, ve, es, vf, fs, rfl, rfl, rfl, hrc, by omega, hn, HR.out, HX2.out, HN2.out, HB2.out, HS2.out, HC.out⟩
  case round =>
    clear HX2 HN2 HB2 HS2 HC HR
    obtain ⟨l, A, r, c, p, n, vp, ps, vo, os, ve, es, vf, fs, rfl, rfl, rfl, hrc, hpr, hn, HR, HX, HN, HB, HS, HC⟩ := hrel
    have hnl : n ≤ 1000 := by have h1 := cutR_le k r l p n; rw [HC.out.n] at h1; omega
    have hpl : ps.length ≤ 1000 := by have h := congrArg List.length HC.out.P; rw [List.length_append, sayL_len] at h; omega
    have hol : os.length ≤ 1000 := by have h := congrArg List.length HC.out.O; rw [List.length_append, sayL_len] at h; omega
    have hfl : fs.length ≤ 1000 := by have h := congrArg List.length HC.out.F; rw [List.length_append, sayL_len] at h; omega
    have hel : es.length ≤ 1000 := by have h := congrArg List.length HC.out.E; rw [List.length_append] at h; omega
    have hsz := HS.out
    by_cases h3 : 2 < r.length
    · obtain ⟨a, b, c', r', rfl⟩ : ∃ a b c' r', r = a :: b :: c' :: r' := by
        rcases r with _ | ⟨a, _ | ⟨b, _ | ⟨c', r'⟩⟩⟩
        · simp at h3
        · simp at h3
        · simp at h3
        · exact ⟨a, b, c', r', rfl⟩
      obtain ⟨bb, oo, rfl, hbb, hcc⟩ := HR.out (by simp)
      have HRT : Hid (Ints w K (some ⟨bb, oo + 1, none⟩) (b :: c' :: r')) := fun _ => ⟨bb, oo + 1, rfl, hbb, fun k x hx => by rw [Nat.add_assoc, Nat.add_comm 1 k]; exact hcc (k + 1) x (by simpa using hx)⟩
      have e0 := hcc 0 a rfl
      clear hcc
      have hlr : (a :: b :: c' :: r').length = r'.length + 3 := rfl
      rw [hlr] at hrc hpr ⊢
      clear hlr h3
      have hI0 : (2 : Int) < (r'.length : Int) + 3 := by omega
      go_wp2_with fail
      refine (addHelper_any K lo n t vp vo ve vf ps os fs es k (p : Int) wr HX.out HN.out hK HS.out ⟨hn, hnl⟩ hfl).mono ?_
      rintro e w1 ⟨vf1, fs1, rfl, hX1, hN1, hf1, hB1⟩
      have HX1 := Lib.hid hX1
      have HN1 := Lib.hid hN1
      have HF1 := Lib.hid hf1
      have HB1 := Lib.hid (HB.out.trans hB1)
      have hs1 : lo ≤ w1.heap.size := Nat.le_trans hsz hB1.size
      clear hX1 hN1 hf1 hB1
      obtain ⟨_, _, x2, _, _, _⟩ := HX1.out.six
      have e1 := (HB1.out.cell (p := ⟨bb, oo, none⟩) hbb).trans e0
      have hKs : K < w1.heap.size := by omega
      have hbs : bb < w1.heap.size := by omega
      have hI1 : (1 : Int) ≤ (c : Int) := by omega
      go_wp2_with fail
      go_region_law (first
        | (refine step_append_grows rfl (.tmp 30) (.tmp 32) 37 rfl 3 i3 _ 1 8 Tryd.underlying37 hi3 hy0 hy1 hy2 rfl (by omega) (some ⟨bb, oo, none⟩) 1 1 [.int .i64 a] (by simp [Act.eval]) (fun h => by cases h) rfl
             (fun b hb j u hj => by
               injection hb with hb
               subst hb
               rcases j with _ | j
               · simp at hj
                 subst hj
                 rw [Go.WideShapes.add_plain]
                 exact (Below.cell (B := w1.heap.size) (p := ⟨bb, oo, none⟩) (by go_grown) hbs).trans e1
               · simp at hj)
             ⟨w1.heap.size, 0, none⟩ 1 1 [.int .i64 n] (by simp [Act.eval]) rfl (one_new _ _ _) (by simp [Value.oneCell']) (by omega) (by unfold maxLen; omega) (by omega) ?_
           intro v5 w5 p1 p2
           obtain ⟨A5, c5, rfl, hO5, hc5⟩ := own_slice (ys := [a, n]) p1
           have hB5 : Below w1.heap.size w1 w5 := Below.grown (by go_grown) p2 (by simp) fun j hj => by cases hj
           have y2 := (hB5.cell (p := ⟨K, 2, none⟩) hKs).trans x2
           have hs5 := hB5.size
           have hs5' : K < w5.heap.size := by omega
           have HI5 := Lib.hid hO5.ints
           have HB5 := Lib.hid hB5
           clear p1 p2 hO5 hB5)
        | (go_simp
           go_at_call 125
           refine (leftAnd2_any l a n A5 c5 _ ?_).mono ?_
           · exact HI5.out.keep (by go_grown)
           rintro e w6 ⟨A6, c6, rfl, hc6, hO6, hB6'⟩
           have hB6 : Below w1.heap.size w1 w6 := HB5.out.trans (Below.trans (by go_grown) (hB6'.mono hs5))
           have z2 := (hB6.cell (p := ⟨K, 2, none⟩) hKs).trans x2
           have hs6 := hB6.size
           have hs6' : K < w6.heap.size := by omega
           have HO6 := Lib.hid (hO6.lower (lo' := w1.heap.size) hs5)
           have HB6 := Lib.hid hB6
           clear hO6 hB6 hB6')
        | (refine step_append_lies _ rfl _ _ _ rfl lo 37 i0 _ 1 24 Tryd.underlying25 hi0 hz0 hz1 hz2 rfl (by omega) vp ps.length (ps.map cellsL) (by simp [Act.eval]) ((own_below HN1.out.tri.la.row HB6.out).alloc _)
             ⟨w6.heap.size, 0, none⟩ 1 1 [.slice A6 3 c6] (by simp [Act.eval]) rfl (one_new _ _ _) (by simp [Value.oneCell'])
             (by omega) (by unfold maxLen; omega) (by omega) (by simp; omega) (w6.heap.size + 1) (by simp) ?_
           intro g7 cap7 w7 p1 p2 p3 p4
           have HN7 := Lib.hid (HN1.out.push HB6.out hs1 HO6.out hc6 p1 p2 (p3.imp id fun h => by rw [h, World.size_alloc]))
           have HX7 : Hid (BoxW w7 K (n + 1) t vp vo ve vf1) := BoxW.grown (lo := lo) ((Row.alloc (Row.below HX1.out HB6.out hKs) _) : BoxW _ _ _ _ _ _ _ _) p2 (fun b hb => (HN1.out.tri.la.lt b hb).1) hK
           have hB7 : Below K w1 w7 := ((HB6.out.mono (by omega)).alloc (by omega) _).grown p2 (by simp; omega) fun b hb => by have := (HN1.out.tri.la.lt b hb).1; omega
           have q2 := HX7.out.six.2.2.1
           have f2 := Row.frozen HX7.out 2
           have HB7 := Lib.hid (HB1.out.trans hB7)
           have hs7 := hB7.size
           clear p1 p2 p3 p4 hB7))
      all_goals
        have HX8 := Lib.hid (boxw_set2 (v := .slice (some ⟨g7, 0, none⟩) (ps.length + 1) cap7) HX7.out)
        have HN8 := Lib.hid (HN7.out.lowCell (p := ⟨K, 2, none⟩) hK (.slice (some ⟨g7, 0, none⟩) (ps.length + 1) cap7))
        have HB8 : Hid (Below K w (w7.setCell ⟨K, 2, none⟩ (.slice (some ⟨g7, 0, none⟩) (ps.length + 1) cap7))) := HB7.out.setCell (Nat.le_refl _) _
        have HS8 : Hid (lo ≤ (w7.setCell ⟨K, 2, none⟩ (.slice (some ⟨g7, 0, none⟩) (ps.length + 1) cap7)).heap.size) := by show _ ≤ _; simp [World.setCell]; omega
        have HC8 := Lib.hid (HC.out.step (ps' := ps ++ [⟨A6, [l, a, n], c6⟩]) (fs' := fs1) (by rw [sayL_snoc]) HF1.out)
        generalize (w7.setCell ⟨K, 2, none⟩ (.slice (some ⟨g7, 0, none⟩) (ps.length + 1) cap7)) = w8 at HX8 HN8 HB8 HS8 ⊢
        generalize (Value.slice (some ⟨g7, 0, none⟩) (ps.length + 1) cap7) = v8 at HX8 HN8 ⊢
        clear HX7 HN7 HB7 q2 f2 HO6 HB6 z2 HI5 HB5 y2 x2 e1 e0 HX1 HN1 HF1 HB1 HX HN HB HC hI1
        have hI2 : (1 : Int) ≤ (r'.length : Int) + 3 := by omega
        have hI3 : (r'.length : Int) + 3 ≤ (c : Int) := by omega
        have hI4 : ¬ c = 1 := by omega
        have HD8 : Hid (Below w8.heap.size w8 w8.drew) := by show Below _ _ _; go_grown
        have HN9 := Lib.hid (HN8.out.keep HD8.out)
        have HB9 : Hid (Below K w w8.drew) := HB8.out.trans (HD8.out.mono (by have := HS8.out; omega))
        go_wp2_with fail
        go_region
        go_wp2
        go_roundw
        case rel => exact ⟨n, some ⟨bb, oo + 1, none⟩, b :: c' :: r', c - 1, p + 1, n + 1, _, _, _, _, _, _, _, _, rfl, rfl, by go_num, by simp; omega, by simp; omega, by omega, HRT.out, HX8.out, HN9.out, HB9.out, HS8.out, HC8.out⟩
        case measure => simp [lenS]
    · have hKs : K < wr.heap.size := by omega
      rcases r with _ | ⟨a, _ | ⟨b, _ | ⟨d, r'⟩⟩⟩
      · have HM : Hid (sayL ps = C.P ∧ sayL os = C.O ∧ sayL fs = C.F ∧ es ++ [l] = C.E ∧ n = C.n) := ⟨by have h := HC.out.P; rw [show (cutR k l [] p n).P = [] from rfl, List.append_nil] at h; exact h, by have h := HC.out.O; rw [show (cutR k l [] p n).O = [] from rfl, List.append_nil] at h; exact h, by have h := HC.out.F; rw [show (cutR k l [] p n).F = [] from rfl, List.append_nil] at h; exact h, HC.out.E, HC.out.n⟩
        have hl0 : ([] : List Int).length = 0 := rfl
        rw [hl0]
        obtain ⟨_, _, _, _, x4, _⟩ := HX.out.six
        have HOr : Hid ((wr.alloc (.cells #[.int .i64 l] 3)).ownsRow lo 3 1 ve es.length (vals es)) := World.ownsRow.alloc HN.out.e _
        have HNW := Lib.hid (one_new wr (.int .i64 l) 3)
        clear h3
        go_wp2_with (at_builtin
                     refine wpList_append_lies _ rfl (.tmp 48) (.tmp 50) _ rfl lo 3 i3 _ 1 8 Tryd.underlying37 hi3 hy0 hy1 hy2 rfl (by omega) _ _ _ rfl HOr.out ⟨wr.heap.size, 0, none⟩ 1 1 [.int .i64 l] rfl rfl HNW.out (by simp [Value.oneCell']) (by omega) (by unfold maxLen; omega) (by omega) (by simp; omega) _ rfl ?_
                     intro g7 cap7 w7 p1 p2 p3 p4
                     have HN7 := Lib.hid (HN.out.pushE p1 p2 p3)
                     have HX7 : Hid (BoxW w7 K n t vp vo ve vf) := BoxW.grown (lo := lo) ((Row.alloc HX.out _) : BoxW _ _ _ _ _ _ _ _) p2 (fun b hb => (HN.out.e.lt b hb).1) hK
                     have hB7 : Below K wr w7 := ((Below.refl _ _).alloc (by omega) _).grown p2 (by simp; omega) fun b hb => by have := (HN.out.e.lt b hb).1; omega
                     have q4 := HX7.out.six.2.2.2.2.1
                     have f4 := Row.frozen HX7.out 4
                     have HB7 := Lib.hid (HB.out.trans hB7)
                     clear p1 p2 p3 p4 hB7)
        have HX8 := Lib.hid (boxw_set4 (v := .slice (some ⟨g7, 0, none⟩) (es.length + 1) cap7) HX7.out)
        have HN8 := Lib.hid (HN7.out.lowCell (p := ⟨K, 4, none⟩) hK (.slice (some ⟨g7, 0, none⟩) (es.length + 1) cap7))
        go_end0
        exact ⟨rfl, vp, ps, vo, os, _, _, vf, fs, HM.out.2.2.2.2 ▸ HX8.out, HN8.out, HM.out.1, HM.out.2.1, HM.out.2.2.1, HM.out.2.2.2.1, HB7.out.setCell (Nat.le_refl _) _⟩
      · have HM : Hid (sayL ps = C.P ∧ sayL os ++ [[l, a]] = C.O ∧ sayL fs = C.F ∧ es = C.E ∧ n = C.n) := ⟨by have h := HC.out.P; rw [show (cutR k l [a] p n).P = [] from rfl, List.append_nil] at h; exact h, HC.out.O, by have h := HC.out.F; rw [show (cutR k l [a] p n).F = [] from rfl, List.append_nil] at h; exact h, by have h := HC.out.E; rw [show (cutR k l [a] p n).E = [] from rfl, List.append_nil] at h; exact h, HC.out.n⟩
        have hl0 : ([a] : List Int).length = 1 := rfl
        rw [hl0]
        obtain ⟨_, _, _, x3, _, _⟩ := HX.out.six
        have HI := Lib.hid ((HR.out.keep HB.out).more (Nat.le_of_lt hKs))
        clear h3
        go_wp2_with fail
        go_region_law (first
          | (go_simp
             go_at_call 125
             refine (leftAnd1_any l a A c _ ?_).mono ?_
             · exact HI.out.keep (by go_grown)
             rintro e w6 ⟨A6, c6, rfl, hc6, hO6, hB6'⟩
             have hB6 : Below wr.heap.size wr w6 := Below.trans (by go_grown) hB6'
             have z3 := (hB6.cell (p := ⟨K, 3, none⟩) hKs).trans x3
             have hs6 := hB6.size
             have hs6' : K < w6.heap.size := by omega
             have HO6 := Lib.hid hO6
             have HB6 := Lib.hid hB6
             clear hO6 hB6 hB6')
          | (refine step_append_lies _ rfl _ _ _ rfl lo 37 i0 _ 1 24 Tryd.underlying25 hi0 hz0 hz1 hz2 rfl (by omega) vo os.length (os.map cellsL) (by simp [Act.eval]) ((own_below HN.out.tri.lb.row HB6.out).alloc _)
               ⟨w6.heap.size, 0, none⟩ 1 1 [.slice A6 2 c6] (by simp [Act.eval]) rfl (one_new _ _ _) (by simp [Value.oneCell'])
               (by omega) (by unfold maxLen; omega) (by omega) (by simp; omega) (w6.heap.size + 1) (by simp) ?_
             intro g7 cap7 w7 p1 p2 p3 p4
             have HN7 := Lib.hid (HN.out.swapPO.push HB6.out hsz HO6.out hc6 p1 p2 (p3.imp id fun h => by rw [h, World.size_alloc])).swapPO
             have HX7 : Hid (BoxW w7 K n t vp vo ve vf) := BoxW.grown (lo := lo) ((Row.alloc (Row.below HX.out HB6.out hKs) _) : BoxW _ _ _ _ _ _ _ _) p2 (fun b hb => (HN.out.tri.lb.lt b hb).1) hK
             have hB7 : Below K wr w7 := ((HB6.out.mono (by omega)).alloc (by omega) _).grown p2 (by simp; omega) fun b hb => by have := (HN.out.tri.lb.lt b hb).1; omega
             have q3 := HX7.out.six.2.2.2.1
             have f3 := Row.frozen HX7.out 3
             have HB7 := Lib.hid (HB.out.trans hB7)
             clear p1 p2 p3 p4 hB7))
        all_goals
          have HX8 := Lib.hid (boxw_set3 (v := .slice (some ⟨g7, 0, none⟩) (os.length + 1) cap7) HX7.out)
          have HN8 := Lib.hid (HN7.out.lowCell (p := ⟨K, 3, none⟩) hK (.slice (some ⟨g7, 0, none⟩) (os.length + 1) cap7))
          go_wp2
          go_end0
          exact ⟨rfl, vp, ps, _, _, ve, es, vf, fs, HM.out.2.2.2.2 ▸ HX8.out, HN8.out, HM.out.1, (sayL_snoc _ _).trans HM.out.2.1, HM.out.2.2.1, HM.out.2.2.2.1, HB7.out.setCell (Nat.le_refl _) _⟩
      · have HM : Hid (sayL ps ++ [[l, a, b]] = C.P ∧ sayL os = C.O ∧ sayL fs = C.F ∧ es = C.E ∧ n = C.n) := ⟨HC.out.P, by have h := HC.out.O; rw [show (cutR k l [a, b] p n).O = [] from rfl, List.append_nil] at h; exact h, by have h := HC.out.F; rw [show (cutR k l [a, b] p n).F = [] from rfl, List.append_nil] at h; exact h, by have h := HC.out.E; rw [show (cutR k l [a, b] p n).E = [] from rfl, List.append_nil] at h; exact h, HC.out.n⟩
        have hl0 : ([a, b] : List Int).length = 2 := rfl
        rw [hl0]
        obtain ⟨_, _, x2, _, _, _⟩ := HX.out.six
        have HI := Lib.hid ((HR.out.keep HB.out).more (Nat.le_of_lt hKs))
        clear h3
        go_wp2_with fail
        go_region_law (first
          | (go_simp
             go_at_call 125
             refine (leftAnd2_any l a b A c _ ?_).mono ?_
             · exact HI.out.keep (by go_grown)
             rintro e w6 ⟨A6, c6, rfl, hc6, hO6, hB6'⟩
             have hB6 : Below wr.heap.size wr w6 := Below.trans (by go_grown) hB6'
             have z2 := (hB6.cell (p := ⟨K, 2, none⟩) hKs).trans x2
             have hs6 := hB6.size
             have hs6' : K < w6.heap.size := by omega
             have HO6 := Lib.hid hO6
             have HB6 := Lib.hid hB6
             clear hO6 hB6 hB6')
          | (refine step_append_lies _ rfl _ _ _ rfl lo 37 i0 _ 1 24 Tryd.underlying25 hi0 hz0 hz1 hz2 rfl (by omega) vp ps.length (ps.map cellsL) (by simp [Act.eval]) ((own_below HN.out.tri.la.row HB6.out).alloc _)
               ⟨w6.heap.size, 0, none⟩ 1 1 [.slice A6 3 c6] (by simp [Act.eval]) rfl (one_new _ _ _) (by simp [Value.oneCell'])
               (by omega) (by unfold maxLen; omega) (by omega) (by simp; omega) (w6.heap.size + 1) (by simp) ?_
             intro g7 cap7 w7 p1 p2 p3 p4
             have HN7 := Lib.hid (HN.out.push HB6.out hsz HO6.out hc6 p1 p2 (p3.imp id fun h => by rw [h, World.size_alloc]))
             have HX7 : Hid (BoxW w7 K n t vp vo ve vf) := BoxW.grown (lo := lo) ((Row.alloc (Row.below HX.out HB6.out hKs) _) : BoxW _ _ _ _ _ _ _ _) p2 (fun b hb => (HN.out.tri.la.lt b hb).1) hK
             have hB7 : Below K wr w7 := ((HB6.out.mono (by omega)).alloc (by omega) _).grown p2 (by simp; omega) fun b hb => by have := (HN.out.tri.la.lt b hb).1; omega
             have q2 := HX7.out.six.2.2.1
             have f2 := Row.frozen HX7.out 2
             have HB7 := Lib.hid (HB.out.trans hB7)
             clear p1 p2 p3 p4 hB7))
        all_goals
          have HX8 := Lib.hid (boxw_set2 (v := .slice (some ⟨g7, 0, none⟩) (ps.length + 1) cap7) HX7.out)
          have HN8 := Lib.hid (HN7.out.lowCell (p := ⟨K, 2, none⟩) hK (.slice (some ⟨g7, 0, none⟩) (ps.length + 1) cap7))
          go_wp2
          go_end0
          exact ⟨rfl, _, _, vo, os, ve, es, vf, fs, HM.out.2.2.2.2 ▸ HX8.out, HN8.out, (sayL_snoc _ _).trans HM.out.1, HM.out.2.1, HM.out.2.2.1, HM.out.2.2.2.1, HB7.out.setCell (Nat.le_refl _) _⟩
      · exact absurd h3 (by simp)

end Go.Proofs.YtaobkanliiiapaaDoor
