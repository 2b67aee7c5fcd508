/- A binary grammar in the making: what sorting one of its slices leaves. -/
import Derived.Test.YtaobkanliiiapaaDoorB508
import Derived.Test.YtaobkanliiiapaaDoorB501
import Derived.Test.YtaobkanliiiapaaDoorB502
import Derived.Test.YtaobkanliiiapaaDoorB503
import Derived.Test.YtaobkanliiiapaaDoorB505
import Derived.Test.YtaobkanliiiapaaDoorB507
import Derived.Test.YtaobkanliiiapaaDoorB506
import Derived.Deep.RegionHeld3

namespace Go.Proofs.YtaobkanliiiapaaDoor
open Go.RowKit

theorem Far.perm {xa xb xc : List Li} (h : Far xa xb) (hp : xc.Perm xa) : Far xc xb := fun i j u v hu hv h1 h2 => by
  obtain ⟨k, hk⟩ := List.getElem?_of_mem (hp.mem_iff.1 (List.mem_of_getElem? hu))
  exact h k j u v hk hv h1 h2
theorem Off.perm {v : Value} {xa xc : List Li} (h : Off v xa) (hp : xc.Perm xa) : Off v xc := fun i u hu => by
  obtain ⟨k, hk⟩ := List.getElem?_of_mem (hp.mem_iff.1 (List.mem_of_getElem? hu))
  exact h k u hk
theorem row_notList {w : World} {lo n : Nat} {v : Value} {xs : List Value} (h : w.ownsRow lo 37 1 v n xs) {b : Nat} (e : v.ownBlock = some b) : ∃ cur, Row w b 37 cur := by
  rcases h.2 with ⟨rfl, _⟩ | ⟨g, cap, cur, rfl, _, hg, _⟩
  · cases e
  · cases e; exact ⟨cur, hg⟩
theorem row_notInt {w : World} {lo n : Nat} {v : Value} {xs : List Value} (h : w.ownsRow lo 3 1 v n xs) {b : Nat} (e : v.ownBlock = some b) : ∃ cur, Row w b 3 cur := by
  rcases h.2 with ⟨rfl, _⟩ | ⟨g, cap, cur, rfl, _, hg, _⟩
  · cases e
  · cases e; exact ⟨cur, hg⟩

/-- A slice of lists stays where another slice of lists is sorted. -/
theorem ListsW.sorted {w w' : World} {lo lo' n : Nat} {v v' : Value} {ds : List Li} {xs : List Value} (h : ListsW w lo v ds) (h' : w.ownsRow lo' 37 1 v' n xs) (hs : Sep v v') (hS : Save (fun g => v'.ownBlock = some g) w w') : ListsW w' lo v ds := by
  refine ⟨own_saveB h.row hS fun g e e' => hs g e e', h.caps, fun j u hu => (h.rts j u hu).save hS fun g e hn e' => ?_, h.far⟩
  obtain ⟨cur, hr⟩ := row_notList h' e'
  rcases h.rts j u hu with h1 | ⟨g2, rc, e2, _, hr2, _⟩
  · exact hn h1
  · rw [e] at e2; cases e2
    exact hr2.ne (t' := 37) hr (by decide) rfl
/-- A slice of lists stays where a slice of numbers that is none of them is sorted. -/
theorem ListsW.sortedI {w w' : World} {lo lo' n : Nat} {v v' : Value} {ds : List Li} {xs : List Value} (h : ListsW w lo v ds) (h' : w.ownsRow lo' 3 1 v' n xs) (ho : Off v' ds) (hS : Save (fun g => v'.ownBlock = some g) w w') : ListsW w' lo v ds := by
  refine ⟨own_saveB h.row hS fun g e e' => ?_, h.caps, fun j u hu => (h.rts j u hu).save hS fun g e hn e' => ho j u hu hn g e' e, h.far⟩
  obtain ⟨cur, hr⟩ := row_notInt h' e'
  obtain ⟨cur2, hr2⟩ := row_notList h.row e
  exact hr.ne (t' := 37) hr2 (by decide) rfl

theorem BinN.sortP {w w' : World} {lo : Nat} {vp vo ve vf : Value} {ps os fs : List Li} {es : List Int} (h : BinN w lo vp ps vo os ve es vf fs) (hs : Srt w lo vp ps w') :
    ∃ ps', ps'.Perm ps ∧ ps'.Pairwise (fun a b => ¬ cmpL b.r a.r < 0) ∧ BinN w' lo vp ps' vo os ve es vf fs := by
  obtain ⟨ps', hp, hq, hl, hS⟩ := hs
  refine ⟨ps', hp, hq, ⟨⟨hl, h.tri.lb.sorted h.tri.la.row h.tri.ab.symm hS, h.tri.lc.sorted h.tri.la.row h.tri.ac.symm hS, h.tri.ab, h.tri.ac, h.tri.bc⟩, ?_, h.po.perm hp, h.pf.perm hp, h.of, h.ep.perm hp, h.eo, h.ef⟩⟩
  refine own_saveB h.e hS fun g e e' => ?_
  obtain ⟨cur, hr⟩ := row_notInt h.e e
  obtain ⟨cur2, hr2⟩ := row_notList h.tri.la.row e'
  exact hr.ne (t' := 37) hr2 (by decide) rfl
theorem BinN.sortO {w w' : World} {lo : Nat} {vp vo ve vf : Value} {ps os fs : List Li} {es : List Int} (h : BinN w lo vp ps vo os ve es vf fs) (hs : Srt w lo vo os w') :
    ∃ os', os'.Perm os ∧ os'.Pairwise (fun a b => ¬ cmpL b.r a.r < 0) ∧ BinN w' lo vp ps vo os' ve es vf fs := by
  obtain ⟨os', h1, h2, h3⟩ := h.swapPO.sortP hs
  exact ⟨os', h1, h2, h3.swapPO⟩
theorem BinN.sortE {w w' : World} {lo : Nat} {vp vo ve vf : Value} {ps os fs : List Li} {es : List Int} (h : BinN w lo vp ps vo os ve es vf fs) (hs : SrtI w lo ve es w') : BinN w' lo vp ps vo os ve (sortI es) vf fs :=
  ⟨⟨h.tri.la.sortedI h.e h.ep hs.2, h.tri.lb.sortedI h.e h.eo hs.2, h.tri.lc.sortedI h.e h.ef hs.2, h.tri.ab, h.tri.ac, h.tri.bc⟩, hs.1, h.po, h.pf, h.of, h.ep, h.eo, h.ef⟩

/-- What is sorted and holds nothing twice rises. -/
theorem rises_of_sorted {xs : List (List Int)} (h : xs.Pairwise fun a b => ¬ cmpL b a < 0) (hn : xs.Nodup) : xs.Pairwise fun a b => cmpL a b < 0 := by
  refine (h.and hn).imp fun {a b} ⟨h1, h2⟩ => ?_
  have h3 := cmpL_anti a b
  have h4 : cmpL a b ≠ 0 := fun e => h2 (cmpL_eq e)
  omega
theorem rises_sortI {es : List Int} (hn : es.Nodup) : (sortI es).Pairwise (· < ·) := by
  refine ((sortI_le es).and ((sortI_perm es).nodup_iff.2 hn)).imp fun {a b} ⟨h1, h2⟩ => ?_
  have h1 : a ≤ b := h1
  have h2 : a ≠ b := h2
  show a < b
  omega

end Go.Proofs.YtaobkanliiiapaaDoor

/- A grammar and a bool as an answer. -/

namespace Go.Proofs.YtaobkanliiiapaaDoor
open Go.RowKit

/-- A grammar's answer: its numbers and its rules; zero where there is none. -/
def ansN (b : Bool) (n : Int) : Int := if b then n else 0
def ansR (b : Bool) (ss : List (Int × List Int)) : List (Int × List Int) := if b then ss else []

/-- A new grammar, and a bool. -/
def GaveGB (w : World) (n t : Int) (ss : List (Int × List Int)) (b : Bool) (e : Ending) (w' : World) : Prop :=
  ∃ A c, ∃ rs : List Ru, e = .returned (.tuple #[.agg #[.int .i64 (ansN b n), .int .i64 (ansN b t), .slice A rs.length c], .bool b]) ∧ OwnR w' w.heap.size A rs ∧ rs.map Ru.abs = ansR b ss ∧ Below w.heap.size w w'

theorem gave_none {w w' : World} {n t : Int} {ss : List (Int × List Int)} (hb : Below w.heap.size w w') : GaveGB w n t ss false (.returned (.tuple #[.agg #[.int .i64 0, .int .i64 0, .slice none 0 0], .bool false])) w' :=
  ⟨none, 0, [], rfl, .inl rfl, rfl, hb⟩

end Go.Proofs.YtaobkanliiiapaaDoor

/- What two readings of the same rules share; what a law's call has to end in. -/

namespace Go.Proofs.YtaobkanliiiapaaDoor
open Go.RowKit
open Go.Sort (grow)

theorem abs_mem {rs ss : List Ru} (h : ss.map Ru.abs = rs.map Ru.abs) {u : Ru} (hu : u ∈ ss) : ∃ v ∈ rs, v.l = u.l ∧ v.r = u.r := by
  have : u.abs ∈ rs.map Ru.abs := h ▸ List.mem_map.2 ⟨u, hu, rfl⟩
  obtain ⟨v, hv, e⟩ := List.mem_map.1 this
  exact ⟨v, hv, congrArg Prod.fst e, congrArg Prod.snd e⟩
theorem abs_len {rs ss : List Ru} (h : ss.map Ru.abs = rs.map Ru.abs) : ss.length = rs.length := by simpa using congrArg List.length h
theorem abs_lens {rs ss : List Ru} (h : ss.map Ru.abs = rs.map Ru.abs) {m : Nat} (hu : ∀ u ∈ rs, u.r.length ≤ m) : ∀ u ∈ ss, u.r.length ≤ m := fun u hm => by
  obtain ⟨v, hv, _, e⟩ := abs_mem h hm
  rw [← e]; exact hu v hv
theorem abs_fit {rs ss : List Ru} (h : ss.map Ru.abs = rs.map Ru.abs) (hf : FitR rs) : FitR ss := fun u hm => by
  obtain ⟨v, hv, _, e⟩ := abs_mem h hm
  rw [← e]; exact hf v hv
theorem eqG_t {n t : Int} {rs ss : List (Int × List Int)} (h : rs = ss) : eqG n t rs n t ss = true := decide_eq_true ⟨rfl, rfl, h⟩

/-- What a law's call has to end in. -/
def LawEnds (w : World) (e : Ending) (w' : World) : Prop := e = .returned (.bool true) ∧ Below w.heap.size w w'

end Go.Proofs.YtaobkanliiiapaaDoor

/- What the laws' marks write into a grammar, and what they find again. -/

namespace Go.Proofs.YtaobkanliiiapaaDoor
open Go.RowKit

theorem OwnR.at_ {w : World} {lo : Nat} {A : Option Addr} {rs : List Ru} (h : OwnR w lo A rs) {i : Nat} (hi : i < rs.length) :
    ∃ g, A = some ⟨g, 0, none⟩ ∧ lo ≤ g ∧ g < w.heap.size ∧ w.cell? ⟨g, i * 2, none⟩ = some (.int .i64 rs[i].l) ∧ w.cell? ⟨g, i * 2 + 1, none⟩ = some (.slice rs[i].a rs[i].r.length rs[i].c) ∧ w.frozen? ⟨g, i * 2, none⟩ = false ∧ w.frozen? ⟨g, i * 2 + 1, none⟩ = false ∧ OwnI w lo rs[i].a rs[i].r := by
  rcases h with h | ⟨g, cs, ea, hl, hr, hc, _⟩
  · subst h; simp at hi
  · obtain ⟨h1, h2, h3⟩ := hc i _ (List.getElem?_eq_getElem hi)
    exact ⟨g, ea, hl, hr.lt, by rw [hr.cell]; exact h1, by rw [hr.cell]; exact h2, hr.frozen _, hr.frozen _, h3⟩

theorem OwnR.setLeft {w : World} {lo g : Nat} {rs : List Ru} (h : OwnR w lo (some ⟨g, 0, none⟩) rs) {i : Nat} (hi : i < rs.length) (x : Int) :
    OwnR (w.setCell ⟨g, i * 2, none⟩ (.int .i64 x)) lo (some ⟨g, 0, none⟩) (rs.set i { rs[i] with l := x }) := by
  rcases h with h | ⟨g', cs, ea, hl, hr, hc, hd⟩
  · subst h; simp at hi
  · injection ea with ea
    injection ea with ea
    subst ea
    have hlt : i * 2 < cs.size := (Array.getElem?_eq_some_iff.1 (hc i _ (List.getElem?_eq_getElem hi)).1).1
    have keep : ∀ {A' : Option Addr} {xs : List Int}, OwnI w lo A' xs → OwnI (w.setCell ⟨g, i * 2, none⟩ (.int .i64 x)) lo A' xs := by
      intro A' xs h
      rcases h with h | ⟨g', cs', e, hl', hr', hc'⟩
      · exact .inl h
      · exact .inr ⟨g', cs', e, hl', hr'.far (hr'.ne hr (by decide)) _, hc'⟩
    refine .inr ⟨g, cs.setIfInBounds (i * 2) (.int .i64 x), rfl, hl, hr.set _ _, fun k u hu => ?_, fun a b u v hu hv hab hun hvn => ?_⟩
    · rw [List.getElem?_set] at hu
      by_cases e : i = k
      · subst e
        rw [if_pos rfl, if_pos hi] at hu
        injection hu with hu
        subst hu
        obtain ⟨_, h2, h3⟩ := hc i _ (List.getElem?_eq_getElem hi)
        refine ⟨by rw [Array.getElem?_setIfInBounds, if_pos rfl, if_pos hlt], ?_, keep h3⟩
        rw [Array.getElem?_setIfInBounds, if_neg (by omega)]; exact h2
      · rw [if_neg e] at hu
        obtain ⟨h1, h2, h3⟩ := hc k u hu
        refine ⟨?_, ?_, keep h3⟩
        · rw [Array.getElem?_setIfInBounds, if_neg (by omega)]; exact h1
        · rw [Array.getElem?_setIfInBounds, if_neg (by omega)]; exact h2
    · have old : ∀ (j : Nat) (y : Ru), (rs.set i { rs[i] with l := x })[j]? = some y → ∃ z, rs[j]? = some z ∧ z.a = y.a ∧ z.r = y.r := by
        intro j y hy
        rw [List.getElem?_set] at hy
        by_cases e : i = j
        · subst e
          rw [if_pos rfl, if_pos hi] at hy
          injection hy with hy
          subst hy
          exact ⟨rs[i], List.getElem?_eq_getElem hi, rfl, rfl⟩
        · rw [if_neg e] at hy
          exact ⟨y, hy, rfl, rfl⟩
      obtain ⟨u', hu', e1, e2⟩ := old a u hu
      obtain ⟨v', hv', e3, e4⟩ := old b v hv
      rw [← e1, ← e3]
      exact hd a b u' v' hu' hv' hab (by rw [e2]; exact hun) (by rw [e4]; exact hvn)

theorem OwnR.setRight {w w' : World} {lo : Nat} {A : Option Addr} {rs : List Ru} (h : OwnR w lo A rs) {i : Nat} (hi : i < rs.length) {ys : List Int} (hy : ys.length = rs[i].r.length)
    (hO : OwnI w' lo rs[i].a ys) (hs : Save (Its rs[i].a rs[i].r) w w') : OwnR w' lo A (rs.set i { rs[i] with r := ys }) := by
  rcases h with h | ⟨g, cs, ea, hl, hr, hc, hd⟩
  · subst h; simp at hi
  · have hgi : ¬ Its rs[i].a rs[i].r g := by
      rintro ⟨e1, e2⟩
      rcases (hc i _ (List.getElem?_eq_getElem hi)).2.2 with h3 | ⟨g', cs', e3, _, hr', _⟩
      · exact e2 h3
      · rw [e1] at e3
        injection e3 with e3
        injection e3 with e3
        exact hr'.ne hr (by decide) e3.symm
    refine .inr ⟨g, cs, ea, hl, hr.save hs hgi, fun k u hu => ?_, fun a b u v hu hv hab hun hvn => ?_⟩
    · rw [List.getElem?_set] at hu
      by_cases e : i = k
      · subst e
        rw [if_pos rfl, if_pos hi] at hu
        injection hu with hu
        subst hu
        obtain ⟨h1, h2, _⟩ := hc i _ (List.getElem?_eq_getElem hi)
        exact ⟨h1, by rw [hy]; exact h2, hO⟩
      · rw [if_neg e] at hu
        obtain ⟨h1, h2, h3⟩ := hc k u hu
        refine ⟨h1, h2, h3.save hs fun g' e1 e2 hI => ?_⟩
        exact hd k i u rs[i] hu (List.getElem?_eq_getElem hi) (Ne.symm e) e2 hI.2 (e1.trans hI.1.symm)
    · have old : ∀ (j : Nat) (y : Ru), (rs.set i { rs[i] with r := ys })[j]? = some y → ∃ z, rs[j]? = some z ∧ z.a = y.a ∧ (y.r ≠ [] → z.r ≠ []) := by
        intro j y hy'
        rw [List.getElem?_set] at hy'
        by_cases e : i = j
        · subst e
          rw [if_pos rfl, if_pos hi] at hy'
          injection hy' with hy'
          subst hy'
          refine ⟨rs[i], List.getElem?_eq_getElem hi, rfl, fun hn e => hn ?_⟩
          have : ys.length = 0 := by rw [hy, e]; rfl
          exact List.eq_nil_of_length_eq_zero this
        · rw [if_neg e] at hy'
          exact ⟨y, hy', rfl, id⟩
      obtain ⟨u', hu', e1, e2⟩ := old a u hu
      obtain ⟨v', hv', e3, e4⟩ := old b v hv
      rw [← e1, ← e3]
      exact hd a b u' v' hu' hv' hab (e2 hun) (e4 hvn)

/-- How many numbers the first i rules hold. -/
def cntTo (rs : List Ru) (i : Nat) : Nat := ((rs.take i).map fun u => 1 + u.r.length).sum
theorem cntTo_succ {rs : List Ru} {i : Nat} (hi : i < rs.length) : cntTo rs (i + 1) = cntTo rs i + (1 + rs[i].r.length) := by
  unfold cntTo
  rw [List.take_succ_eq_append_getElem hi, List.map_append, List.sum_append]
  simp
theorem cntTo_zero (rs : List Ru) : cntTo rs 0 = 0 := by simp [cntTo]

def markU (k : Int) (u : Ru) : Ru := { u with l := k, r := seqL (k + 1) u.r.length }
/-- The rules with the first i of them marked from k on. -/
def markL (k : Int) (rs : List Ru) (i : Nat) : List Ru := rs.mapIdx fun j u => if j < i then markU (k + (cntTo rs j : Int)) u else u
theorem markL_length (k : Int) (rs : List Ru) (i : Nat) : (markL k rs i).length = rs.length := by simp [markL]
theorem markL_at {k : Int} {rs : List Ru} {i j : Nat} (h : j < rs.length) (hj : j < (markL k rs i).length) : (markL k rs i)[j] = if j < i then markU (k + (cntTo rs j : Int)) rs[j] else rs[j] := by simp [markL]
theorem markL_zero (k : Int) (rs : List Ru) : markL k rs 0 = rs := by
  apply List.ext_getElem?
  intro j
  simp [markL]
theorem markL_step {k : Int} {rs : List Ru} {i : Nat} (h : i < rs.length) : (markL k rs i).set i (markU (k + (cntTo rs i : Int)) rs[i]) = markL k rs (i + 1) := by
  apply List.ext_getElem?
  intro j
  rw [List.getElem?_set, markL_length]
  by_cases e : i = j
  · subst e
    rw [if_pos rfl, if_pos h]
    simp [markL, h]
  · rw [if_neg e]
    simp only [markL, List.getElem?_mapIdx]
    by_cases hj : j < rs.length
    · rw [List.getElem?_eq_getElem hj]
      simp only [Option.map_some]
      congr 1
      by_cases hji : j < i
      · rw [if_pos hji, if_pos (by omega)]
      · rw [if_neg hji, if_neg (by omega)]
    · rw [List.getElem?_eq_none (by omega)]
      rfl

/-- The blocks of a slice of rules and of their right sides. -/
def ItsR (A : Option Addr) (rs : List Ru) (b : Nat) : Prop := (A = some ⟨b, 0, none⟩ ∧ rs ≠ []) ∨ ∃ (i : Nat) (u : Ru), rs[i]? = some u ∧ Its u.a u.r b

def MarkedR (w : World) (lo : Nat) (A : Option Addr) (rs : List Ru) (k : Int) (e : Ending) (w' : World) : Prop :=
  e = .returned (.int .i64 (k + (cntTo rs rs.length : Int))) ∧ OwnR w' lo A (markL k rs rs.length) ∧ Save (ItsR A rs) w w'

theorem set_left_right {rs : List Ru} {i : Nat} (h : i < rs.length) (x : Int) (ys : List Int) :
    ((rs.set i { rs[i] with l := x }).set i { (rs.set i { rs[i] with l := x })[i]'(by simpa using h) with r := ys }) = rs.set i { rs[i] with l := x, r := ys } := by
  rw [List.set_set]
  congr 1
  simp

theorem mark_right {wr : World} {lo g j : Nat} {rs : List Ru} {k : Int} (H : OwnR wr lo (some ⟨g, 0, none⟩) (markL k rs j)) (hlt : j < rs.length) (x : Int) : OwnI (wr.setCell ⟨g, j * 2, none⟩ (.int .i64 x)) lo rs[j].a rs[j].r := by
  have hlt' : j < (markL k rs j).length := by rw [markL_length]; exact hlt
  have hat : (markL k rs j)[j] = rs[j] := by rw [markL_at hlt, if_neg (by omega)]
  obtain ⟨_, _, _, _, _, _, _, _, h3⟩ := (H.setLeft hlt' x).at_ (i := j) (by simpa using hlt')
  simpa [hat] using h3

theorem mark_next {wr w1 : World} {lo g j : Nat} {rs : List Ru} {k : Int} (H : OwnR wr lo (some ⟨g, 0, none⟩) (markL k rs j)) (hlt : j < rs.length)
    (hO : OwnI w1 lo rs[j].a (seqL (k + (cntTo rs j : Int) + 1) rs[j].r.length)) (hS : Save (Its rs[j].a rs[j].r) (wr.setCell ⟨g, j * 2, none⟩ (.int .i64 (k + (cntTo rs j : Int)))) w1) :
    OwnR w1 lo (some ⟨g, 0, none⟩) (markL k rs (j + 1)) := by
  have hlt' : j < (markL k rs j).length := by rw [markL_length]; exact hlt
  have hat : (markL k rs j)[j] = rs[j] := by rw [markL_at hlt, if_neg (by omega)]
  have h2 := (H.setLeft hlt' (k + (cntTo rs j : Int))).setRight (i := j) (w' := w1) (ys := seqL (k + (cntTo rs j : Int) + 1) rs[j].r.length) (by simpa using hlt') (by simp [hat, seqL_length]) (by simpa [hat] using hO) (by simpa [hat] using hS)
  rw [set_left_right] at h2
  rw [← markL_step hlt]
  simpa [hat, markU] using h2

set_option maxHeartbeats 400000 in
theorem markRuleS_any (A : Option Addr) (rs : List Ru) (c lo : Nat) (k : Int) (w : World) (h : OwnR w lo A rs) (hn : rs.length ≤ 1048576) (hu : ∀ u ∈ rs, u.r.length ≤ 1048576) (hk : 0 ≤ k) (hk' : k ≤ 16) :
    Calls Tryd.prog 88 #[.slice A rs.length c, .int .i64 k] w (MarkedR w lo A rs k) := by
  have HO := Lib.hid h; clear h
  have HU := Lib.hid hu; clear hu
  go_enter Tryd.func88, Tryd.ntmps88
  go_wp2
  go_loopw [1, 5] (fun v i wr => ∃ (j : Nat), j ≤ rs.length ∧ i = .int .i64 j ∧ v = .int .i64 (k + (cntTo rs j : Int)) ∧ cntTo rs j ≤ j * 1048577 ∧ Hid (OwnR wr lo A (markL k rs j)) ∧ Hid (Save (ItsR A rs) w wr)) (fun _ i _ => rs.length - (intOf i).toNat)
  case atStart => exact ⟨0, by omega, rfl, by simp [cntTo_zero], by simp [cntTo_zero], by show OwnR _ _ _ _; rw [markL_zero]; exact HO.out, Save.refl _ _⟩
  case round =>
    obtain ⟨j, hj, rfl, rfl, hcn, H, HS⟩ := hrel
    by_cases hlt : j < rs.length
    · have hlt' : j < (markL k rs j).length := by rw [markL_length]; exact hlt
      have hat : (markL k rs j)[j] = rs[j] := by rw [markL_at hlt, if_neg (by omega)]
      obtain ⟨g, rfl, _, _, c1, c2, f1, f2, c3⟩ := H.out.at_ hlt'
      rw [hat] at c1 c2
      have hul := HU.out rs[j] (List.getElem_mem hlt)
      have HCS := Lib.hid (cntTo_succ hlt)
      clear c3 hat hlt'
      go_wp2_with fail
      refine (markIntS_any _ _ _ lo _ _ (mark_right H.out hlt _) hul (by omega) (by omega)).mono ?_
      rintro e w1 ⟨rfl, hO1, hS1⟩
      have HO1 := Lib.hid hO1; clear hO1
      have HS1 := Lib.hid hS1; clear hS1
      go_wp2
      go_roundw
      case rel => exact ⟨j + 1, by omega, by go_num, by rw [HCS.out]; go_num, by rw [HCS.out]; omega, mark_next H.out hlt HO1.out HS1.out, (HS.out.setCell (.inl ⟨rfl, fun e => by subst e; simp at hlt⟩) _).trans (HS1.out.wider fun i hi => .inr ⟨j, rs[j], List.getElem?_eq_getElem hlt, hi⟩)⟩
      case measure => simp [intOf]; omega
    · obtain rfl : j = rs.length := by omega
      go_wp2
      go_ret
      exact ⟨rfl, H.out, HS.out⟩

theorem cntTo_le {rs : List Ru} (hu : ∀ u ∈ rs, u.r.length ≤ 1048576) (i : Nat) : cntTo rs i ≤ i * 1048577 := by
  induction i with
  | zero => simp [cntTo_zero]
  | succ i ih =>
    by_cases h : i < rs.length
    · have := hu rs[i] (List.getElem_mem h)
      rw [cntTo_succ h]; omega
    · have e : cntTo rs (i + 1) = cntTo rs i := by unfold cntTo; rw [List.take_of_length_le (by omega), List.take_of_length_le (by omega)]
      omega

set_option maxHeartbeats 400000 in
theorem markGrammar_any (n t : Int) (A : Option Addr) (rs : List Ru) (c lo : Nat) (k : Int) (w : World) (h : OwnR w lo A rs) (hn : rs.length ≤ 1048576) (hu : ∀ u ∈ rs, u.r.length ≤ 1048576) (hk : 0 ≤ k) (hk' : k ≤ 16) :
    Calls Tryd.prog 34 #[.agg #[.int .i64 n, .int .i64 t, .slice A rs.length c], .int .i64 k] w (MarkedR w lo A rs k) := by
  have HB0 : Hid (Below w.heap.size w (w.alloc (.cells #[.int .i64 n, .int .i64 t, .slice A rs.length c] 54))) := by show Below _ _ _; go_grown
  have HO := Lib.hid (h.below HB0.out (Nat.le_refl _)); clear h
  have HU := Lib.hid hu; clear hu
  go_enter Tryd.func34, Tryd.ntmps34
  go_wp2_with fail
  refine (markRuleS_any _ _ _ lo _ _ HO.out hn HU.out hk hk').mono ?_
  rintro e w1 ⟨rfl, hO1, hS1⟩
  have HO1 := Lib.hid hO1; clear hO1
  have HS1 := Lib.hid hS1; clear hS1
  go_wp2
  go_ret
  exact ⟨rfl, HO1.out, (Save.of_below HB0.out).trans HS1.out⟩



end Go.Proofs.YtaobkanliiiapaaDoor

/- Which blocks an owned list or an owned list of rules takes. -/

namespace Go.Proofs.YtaobkanliiiapaaDoor
open Go.RowKit

theorem OwnI.its {w : World} {lo : Nat} {A : Option Addr} {xs : List Int} (h : OwnI w lo A xs) {b : Nat} (hb : Its A xs b) : lo ≤ b ∧ b < w.heap.size := by
  rcases h with h | ⟨g, cs, e, hl, hr, _⟩
  · exact absurd h hb.2
  · have := hb.1.symm.trans e
    injection this with this
    injection this with this
    subst this
    exact ⟨hl, hr.lt⟩

theorem OwnR.its {w : World} {lo : Nat} {A : Option Addr} {rs : List Ru} (h : OwnR w lo A rs) {b : Nat} (hb : ItsR A rs b) : lo ≤ b ∧ b < w.heap.size := by
  rcases h with h | ⟨g, cs, e, hl, hr, hc, _⟩
  · subst h
    rcases hb with hb | ⟨i, u, hu, _⟩
    · exact absurd rfl hb.2
    · simp at hu
  · rcases hb with ⟨hb, _⟩ | ⟨i, u, hu, hI⟩
    · have := hb.symm.trans e
      injection this with this
      injection this with this
      subst this
      exact ⟨hl, hr.lt⟩
    · exact (hc i u hu).2.2.its hI

theorem OwnI.kept {S : Nat → Prop} {w w' : World} {lo : Nat} {A : Option Addr} {xs : List Int} (h : OwnI w lo A xs) (hs : Save S w w') (hd : ∀ b, Its A xs b → ¬ S b) : OwnI w' lo A xs :=
  h.save hs fun g e hn => hd g ⟨e, hn⟩

theorem eqL_refl (xs : List Int) : eqL xs xs = true := eqL_t rfl

end Go.Proofs.YtaobkanliiiapaaDoor

/- What the walks of the laws with a grammar as their answer share, in any seat. -/

namespace Go.Proofs.YtaobkanliiiapaaDoor
open Go.RowKit

theorem OwnR.kept {S : Nat → Prop} {w w' : World} {lo : Nat} {A : Option Addr} {rs : List Ru} (h : OwnR w lo A rs) (hs : Save S w w') (hd : ∀ b, ItsR A rs b → ¬ S b) : OwnR w' lo A rs := by
  by_cases e : rs = []
  · exact .inl e
  · rcases h with h | ⟨g, cs, ea, hl, hr, hc, hdd⟩
    · exact .inl h
    · refine .inr ⟨g, cs, ea, hl, hr.save hs (hd g (.inl ⟨ea, e⟩)), fun k u hu => ?_, hdd⟩
      obtain ⟨h1, h2, h3⟩ := hc k u hu
      exact ⟨h1, h2, h3.kept hs fun b hb => hd b (.inr ⟨k, u, hu, hb⟩)⟩

theorem says_len {rs : List Ru} {ss : List (Int × List Int)} (h : rs.map Ru.abs = ss) (hs : ss.length ≤ 1048576) : rs.length ≤ 1048576 := by rw [← h, List.length_map] at hs; exact hs
theorem says_lens {rs : List Ru} {ss : List (Int × List Int)} (h : rs.map Ru.abs = ss) (hs : ∀ u ∈ ss, u.2.length ≤ 1048576) : ∀ u ∈ rs, u.r.length ≤ 1048576 := fun u hu => hs u.abs (h ▸ List.mem_map.2 ⟨u, hu, rfl⟩)

theorem box_new (w : World) (a b c : Value) (t : TypeId) : Box3 (w.alloc (.cells #[a, b, c] t)) w.heap.size a b c := ⟨by simp, by simp [go_sem], by simp [go_sem], by simp [go_sem]⟩
theorem below_new (w : World) (o : Obj) : Below w.heap.size w (w.alloc o) := (Below.refl _ _).alloc (Nat.le_refl _) _

end Go.Proofs.YtaobkanliiiapaaDoor

/- What the walks of the laws with a list of lists as their answer share. -/

namespace Go.Proofs.YtaobkanliiiapaaDoor
open Go.RowKit

theorem OwnL.kept {S : Nat → Prop} {w w' : World} {lo : Nat} {A : Option Addr} {ls : List Li} (h : OwnL w lo A ls) (hs : Save S w w') (hd : ∀ b, ItsL A ls b → ¬ S b) : OwnL w' lo A ls := by
  by_cases e : ls = []
  · exact .inl e
  · rcases h with h | ⟨g, cs, ea, hl, hr, hc, hdd⟩
    · exact .inl h
    · refine .inr ⟨g, cs, ea, hl, hr.save hs (hd g (.inl ⟨ea, e⟩)), fun k u hu => ?_, hdd⟩
      obtain ⟨h1, h2, h3⟩ := hc k u hu
      exact ⟨h1, h2, h3.kept hs fun b hb => hd b (.inr ⟨k, u, hu, hb⟩)⟩

theorem say_len {ls : List Li} {xs : List (List Int)} {m : Nat} (h : sayL ls = xs) (hx : xs.length ≤ m) : ls.length ≤ m := by rw [sayL_len' h]; exact hx
theorem say_lens {ls : List Li} {xs : List (List Int)} {m : Nat} (h : sayL ls = xs) (hx : ∀ x ∈ xs, x.length ≤ m) : ∀ u ∈ ls, u.r.length ≤ m := fun u hu => hx u.r (h ▸ sayL_mem hu)

end Go.Proofs.YtaobkanliiiapaaDoor

/- A copy of a binary grammar, whose four lists lie apart; what the laws' marks write into a binary grammar, and what they find again. -/

namespace Go.Proofs.YtaobkanliiiapaaDoor
open Go.RowKit

/-- The four lists of a binary grammar lie in blocks of their own. -/
structure ApartB (b : Bi) : Prop where
  po : ∀ q, ItsL b.Ap b.P q → ¬ ItsL b.Ao b.O q
  pe : ∀ q, ItsL b.Ap b.P q → ¬ Its b.Ae b.E q
  pf : ∀ q, ItsL b.Ap b.P q → ¬ ItsL b.Af b.F q
  oe : ∀ q, ItsL b.Ao b.O q → ¬ Its b.Ae b.E q
  of : ∀ q, ItsL b.Ao b.O q → ¬ ItsL b.Af b.F q
  ef : ∀ q, Its b.Ae b.E q → ¬ ItsL b.Af b.F q

/-- A binary grammar's copy: it says the same, its lists lie apart; nothing older has turned. -/
def GaveBA (w : World) (s : Bs) (e : Ending) (w' : World) : Prop :=
  ∃ b : Bi, e = .returned (.agg #[.int .i64 b.n, .int .i64 b.t, .slice b.Ap b.P.length b.cp, .slice b.Ao b.O.length b.co, .slice b.Ae b.E.length b.ce, .slice b.Af b.F.length b.cf]) ∧ b.say = s ∧ OwnB w' w.heap.size b ∧ CapB b ∧ Below w.heap.size w w' ∧ ApartB b

set_option maxHeartbeats 1000000 in
theorem toBinaryA_any (b : Bi) (w : World) (hr : ReadB w w.heap.size b) (hm : LenB 1048576 b) :
    Calls Tryd.prog 48 #[(.agg #[.int .i64 b.n, .int .i64 b.t, .slice b.Ap b.P.length b.cp, .slice b.Ao b.O.length b.co, .slice b.Ae b.E.length b.ce, .slice b.Af b.F.length b.cf])] w (GaveBA w b.say) := by
  have HR := Lib.hid hr; clear hr
  have HM := Lib.hid hm; clear hm
  go_enter Tryd.func48, Tryd.ntmps48
  go_wp2_with fail
  have hB0 : Below w.heap.size w (((w.alloc (.cells #[.int .i64 b.n, .int .i64 b.t, .slice b.Ap b.P.length b.cp, .slice b.Ao b.O.length b.co, .slice b.Ae b.E.length b.ce, .slice b.Af b.F.length b.cf] 67)).alloc (.cells #[.int .i64 0, .int .i64 0, .slice none 0 0, .slice none 0 0, .slice none 0 0, .slice none 0 0] 41)).alloc (.cells #[.int .i64 b.n, .int .i64 b.t, .slice none 0 0, .slice none 0 0, .slice none 0 0, .slice none 0 0] 41)) := by go_grown
  have hz0 : (((w.alloc (.cells #[.int .i64 b.n, .int .i64 b.t, .slice b.Ap b.P.length b.cp, .slice b.Ao b.O.length b.co, .slice b.Ae b.E.length b.ce, .slice b.Af b.F.length b.cf] 67)).alloc (.cells #[.int .i64 0, .int .i64 0, .slice none 0 0, .slice none 0 0, .slice none 0 0, .slice none 0 0] 41)).alloc (.cells #[.int .i64 b.n, .int .i64 b.t, .slice none 0 0, .slice none 0 0, .slice none 0 0, .slice none 0 0] 41)).heap.size = w.heap.size + 3 := by simp
  have Ra : Row (((w.alloc (.cells #[.int .i64 b.n, .int .i64 b.t, .slice b.Ap b.P.length b.cp, .slice b.Ao b.O.length b.co, .slice b.Ae b.E.length b.ce, .slice b.Af b.F.length b.cf] 67)).alloc (.cells #[.int .i64 0, .int .i64 0, .slice none 0 0, .slice none 0 0, .slice none 0 0, .slice none 0 0] 41)).alloc (.cells #[.int .i64 b.n, .int .i64 b.t, .slice none 0 0, .slice none 0 0, .slice none 0 0, .slice none 0 0] 41)) w.heap.size 67 #[.int .i64 b.n, .int .i64 b.t, .slice b.Ap b.P.length b.cp, .slice b.Ao b.O.length b.co, .slice b.Ae b.E.length b.ce, .slice b.Af b.F.length b.cf] := ((Row.new _ _ _).alloc _).alloc _
  have Rr : Row (((w.alloc (.cells #[.int .i64 b.n, .int .i64 b.t, .slice b.Ap b.P.length b.cp, .slice b.Ao b.O.length b.co, .slice b.Ae b.E.length b.ce, .slice b.Af b.F.length b.cf] 67)).alloc (.cells #[.int .i64 0, .int .i64 0, .slice none 0 0, .slice none 0 0, .slice none 0 0, .slice none 0 0] 41)).alloc (.cells #[.int .i64 b.n, .int .i64 b.t, .slice none 0 0, .slice none 0 0, .slice none 0 0, .slice none 0 0] 41)) (w.heap.size + 1) 41 #[.int .i64 0, .int .i64 0, .slice none 0 0, .slice none 0 0, .slice none 0 0, .slice none 0 0] := by
    have h := Row.new (w.alloc (.cells #[.int .i64 b.n, .int .i64 b.t, .slice b.Ap b.P.length b.cp, .slice b.Ao b.O.length b.co, .slice b.Ae b.E.length b.ce, .slice b.Af b.F.length b.cf] 67)) 41 #[.int .i64 0, .int .i64 0, .slice none 0 0, .slice none 0 0, .slice none 0 0, .slice none 0 0]
    rw [World.size_alloc] at h; exact h.alloc _
  have Ro : Row (((w.alloc (.cells #[.int .i64 b.n, .int .i64 b.t, .slice b.Ap b.P.length b.cp, .slice b.Ao b.O.length b.co, .slice b.Ae b.E.length b.ce, .slice b.Af b.F.length b.cf] 67)).alloc (.cells #[.int .i64 0, .int .i64 0, .slice none 0 0, .slice none 0 0, .slice none 0 0, .slice none 0 0] 41)).alloc (.cells #[.int .i64 b.n, .int .i64 b.t, .slice none 0 0, .slice none 0 0, .slice none 0 0, .slice none 0 0] 41)) (w.heap.size + 1 + 1) 41 #[.int .i64 b.n, .int .i64 b.t, .slice none 0 0, .slice none 0 0, .slice none 0 0, .slice none 0 0] := by
    have h := Row.new ((w.alloc (.cells #[.int .i64 b.n, .int .i64 b.t, .slice b.Ap b.P.length b.cp, .slice b.Ao b.O.length b.co, .slice b.Ae b.E.length b.ce, .slice b.Af b.F.length b.cf] 67)).alloc (.cells #[.int .i64 0, .int .i64 0, .slice none 0 0, .slice none 0 0, .slice none 0 0, .slice none 0 0] 41)) 41 #[.int .i64 b.n, .int .i64 b.t, .slice none 0 0, .slice none 0 0, .slice none 0 0, .slice none 0 0]
    rw [World.size_alloc, World.size_alloc] at h; exact h
  generalize (((w.alloc (.cells #[.int .i64 b.n, .int .i64 b.t, .slice b.Ap b.P.length b.cp, .slice b.Ao b.O.length b.co, .slice b.Ae b.E.length b.ce, .slice b.Af b.F.length b.cf] 67)).alloc (.cells #[.int .i64 0, .int .i64 0, .slice none 0 0, .slice none 0 0, .slice none 0 0, .slice none 0 0] 41)).alloc (.cells #[.int .i64 b.n, .int .i64 b.t, .slice none 0 0, .slice none 0 0, .slice none 0 0, .slice none 0 0] 41)) = W at hB0 hz0 Ra Rr Ro ⊢
  have HB0 := Lib.hid hB0; clear hB0
  have HZ0 : Hid (w.heap.size + 3 ≤ W.heap.size) := by show _ ≤ _; omega
  clear hz0
  have HRa0 := Lib.hid Ra; clear Ra
  have HRr0 := Lib.hid Rr; clear Rr
  have HRo0 := Lib.hid Ro; clear Ro
  refine (toIntSS_any _ _ _ _ ((HR.out.1.keep HB0.out).more HB0.out.size) HM.out.p HM.out.ps).mono ?_
  rintro e w1 ⟨A1, c1, l1, rfl, k1, o1, s1, hB1⟩
  have HU1 : Hid (∀ q, ItsL A1 l1 q → q < w1.heap.size) := fun q hq => (o1.its hq).2
  have HO1 : Hid (OwnL w1 (w.heap.size + 3) A1 l1) := o1.lower HZ0.out
  have HZ1' : Hid (w.heap.size + 3 ≤ w1.heap.size) := Nat.le_trans HZ0.out hB1.size
  have HRa1' := Lib.hid (HRa0.out.below hB1 HRa0.out.lt)
  have HRr1' := Lib.hid (HRr0.out.below hB1 HRr0.out.lt)
  have HRo1' := Lib.hid (HRo0.out.below hB1 HRo0.out.lt)
  have HB1' := Lib.hid (HB0.out.trans (hB1.mono HB0.out.size)); clear hB1 HRa0 HRr0 HRo0 HB0 HZ0 o1
  have K1 := Lib.hid k1; clear k1
  have S1 := Lib.hid s1; clear s1
  have av := HRa1'.out.cell 3
  have xv := HRo1'.out.cell 2
  have yv := HRo1'.out.frozen 2
  simp only [List.getElem?_toArray, List.getElem?_cons_succ, List.getElem?_cons_zero] at av xv
  go_wp2_with fail
  have HRa1 := Lib.hid (HRa1'.out.far (p := ⟨w.heap.size + 1 + 1, 2, none⟩) (by simp; omega) (.slice A1 l1.length c1))
  have HRr1 := Lib.hid (HRr1'.out.far (p := ⟨w.heap.size + 1 + 1, 2, none⟩) (by simp) (.slice A1 l1.length c1))
  have HRo1 : Hid (Row (w1.setCell ⟨w.heap.size + 1 + 1, 2, none⟩ (.slice A1 l1.length c1)) (w.heap.size + 1 + 1) 41 #[.int .i64 b.n, .int .i64 b.t, .slice A1 l1.length c1, .slice none 0 0, .slice none 0 0, .slice none 0 0]) := HRo1'.out.set 2 (.slice A1 l1.length c1)
  have HQ1 := Lib.hid (HO1.out.low (p := ⟨w.heap.size + 1 + 1, 2, none⟩) (by simp) (.slice A1 l1.length c1)); clear HO1
  have HB1 : Hid (Below w.heap.size w (w1.setCell ⟨w.heap.size + 1 + 1, 2, none⟩ (.slice A1 l1.length c1))) := HB1'.out.setCell (by simp; omega) _
  have HZ1 : Hid (w.heap.size + 3 ≤ (w1.setCell ⟨w.heap.size + 1 + 1, 2, none⟩ (.slice A1 l1.length c1)).heap.size) := by have := HZ1'.out; show _ ≤ _; simpa using this
  clear xv yv av HRa1' HRr1' HRo1' HB1' HZ1'
  have HN1 : Hid (w1.heap.size ≤ (w1.setCell ⟨w.heap.size + 1 + 1, 2, none⟩ (.slice A1 l1.length c1)).heap.size) := by show _ ≤ _; simp
  generalize (w1.setCell ⟨w.heap.size + 1 + 1, 2, none⟩ (.slice A1 l1.length c1)) = W1 at HN1 HRa1 HRr1 HRo1 HB1 HZ1 HQ1 ⊢
  have HO1 := HQ1; clear HQ1
  refine (toIntSS_any _ _ _ _ ((HR.out.2.1.keep HB1.out).more HB1.out.size) HM.out.o HM.out.os).mono ?_
  rintro e w2 ⟨A2, c2, l2, rfl, k2, o2, s2, hB2⟩
  have HV2 : Hid (∀ q, ItsL A2 l2 q → w1.heap.size ≤ q ∧ q < w2.heap.size) := fun q hq => ⟨Nat.le_trans HN1.out (o2.its hq).1, (o2.its hq).2⟩
  have HM2 : Hid (w1.heap.size ≤ w2.heap.size) := Nat.le_trans HN1.out hB2.size
  have HO2 : Hid (OwnL w2 (w.heap.size + 3) A2 l2) := o2.lower HZ1.out
  have HZ2' : Hid (w.heap.size + 3 ≤ w2.heap.size) := Nat.le_trans HZ1.out hB2.size
  have HRa2' := Lib.hid (HRa1.out.below hB2 HRa1.out.lt)
  have HRr2' := Lib.hid (HRr1.out.below hB2 HRr1.out.lt)
  have HRo2' := Lib.hid (HRo1.out.below hB2 HRo1.out.lt)
  have HP1 := Lib.hid (HO1.out.below hB2 (Nat.le_refl _)); clear HO1
  have HB2' := Lib.hid (HB1.out.trans (hB2.mono HB1.out.size)); clear hB2 HRa1 HRr1 HRo1 HB1 HZ1 o2
  have K2 := Lib.hid k2; clear k2
  have S2 := Lib.hid s2; clear s2
  have av := HRa2'.out.cell 4
  have xv := HRo2'.out.cell 3
  have yv := HRo2'.out.frozen 3
  simp only [List.getElem?_toArray, List.getElem?_cons_succ, List.getElem?_cons_zero] at av xv
  go_wp2_with fail
  have HRa2 := Lib.hid (HRa2'.out.far (p := ⟨w.heap.size + 1 + 1, 3, none⟩) (by simp; omega) (.slice A2 l2.length c2))
  have HRr2 := Lib.hid (HRr2'.out.far (p := ⟨w.heap.size + 1 + 1, 3, none⟩) (by simp) (.slice A2 l2.length c2))
  have HRo2 : Hid (Row (w2.setCell ⟨w.heap.size + 1 + 1, 3, none⟩ (.slice A2 l2.length c2)) (w.heap.size + 1 + 1) 41 #[.int .i64 b.n, .int .i64 b.t, .slice A1 l1.length c1, .slice A2 l2.length c2, .slice none 0 0, .slice none 0 0]) := HRo2'.out.set 3 (.slice A2 l2.length c2)
  have HQ1 := Lib.hid (HP1.out.low (p := ⟨w.heap.size + 1 + 1, 3, none⟩) (by simp) (.slice A2 l2.length c2)); clear HP1
  have HQ2 := Lib.hid (HO2.out.low (p := ⟨w.heap.size + 1 + 1, 3, none⟩) (by simp) (.slice A2 l2.length c2)); clear HO2
  have HB2 : Hid (Below w.heap.size w (w2.setCell ⟨w.heap.size + 1 + 1, 3, none⟩ (.slice A2 l2.length c2))) := HB2'.out.setCell (by simp; omega) _
  have HZ2 : Hid (w.heap.size + 3 ≤ (w2.setCell ⟨w.heap.size + 1 + 1, 3, none⟩ (.slice A2 l2.length c2)).heap.size) := by have := HZ2'.out; show _ ≤ _; simpa using this
  clear xv yv av HRa2' HRr2' HRo2' HB2' HZ2'
  have HN2 : Hid (w2.heap.size ≤ (w2.setCell ⟨w.heap.size + 1 + 1, 3, none⟩ (.slice A2 l2.length c2)).heap.size) := by show _ ≤ _; simp
  generalize (w2.setCell ⟨w.heap.size + 1 + 1, 3, none⟩ (.slice A2 l2.length c2)) = W2 at HN2 HRa2 HRr2 HRo2 HB2 HZ2 HQ1 HQ2 ⊢
  have HO1 := HQ1; clear HQ1
  have HO2 := HQ2; clear HQ2
  refine (toIntS_any _ _ _ _ ((HR.out.2.2.1.keep HB2.out).more HB2.out.size) HM.out.e).mono ?_
  rintro e w3 ⟨A3, c3, rfl, k3, o3, hB3⟩
  have HV3 : Hid (∀ q, Its A3 b.E q → w2.heap.size ≤ q ∧ q < w3.heap.size) := fun q hq => ⟨Nat.le_trans HN2.out (o3.its hq).1, (o3.its hq).2⟩
  have HM3 : Hid (w2.heap.size ≤ w3.heap.size) := Nat.le_trans HN2.out hB3.size
  have HO3 : Hid (OwnI w3 (w.heap.size + 3) A3 b.E) := o3.lower HZ2.out
  have HZ3' : Hid (w.heap.size + 3 ≤ w3.heap.size) := Nat.le_trans HZ2.out hB3.size
  have HRa3' := Lib.hid (HRa2.out.below hB3 HRa2.out.lt)
  have HRr3' := Lib.hid (HRr2.out.below hB3 HRr2.out.lt)
  have HRo3' := Lib.hid (HRo2.out.below hB3 HRo2.out.lt)
  have HP1 := Lib.hid (HO1.out.below hB3 (Nat.le_refl _)); clear HO1
  have HP2 := Lib.hid (HO2.out.below hB3 (Nat.le_refl _)); clear HO2
  have HB3' := Lib.hid (HB2.out.trans (hB3.mono HB2.out.size)); clear hB3 HRa2 HRr2 HRo2 HB2 HZ2 o3
  have K3 := Lib.hid k3; clear k3
  have av := HRa3'.out.cell 5
  have xv := HRo3'.out.cell 4
  have yv := HRo3'.out.frozen 4
  simp only [List.getElem?_toArray, List.getElem?_cons_succ, List.getElem?_cons_zero] at av xv
  go_wp2_with fail
  have HRa3 := Lib.hid (HRa3'.out.far (p := ⟨w.heap.size + 1 + 1, 4, none⟩) (by simp; omega) (.slice A3 b.E.length c3))
  have HRr3 := Lib.hid (HRr3'.out.far (p := ⟨w.heap.size + 1 + 1, 4, none⟩) (by simp) (.slice A3 b.E.length c3))
  have HRo3 : Hid (Row (w3.setCell ⟨w.heap.size + 1 + 1, 4, none⟩ (.slice A3 b.E.length c3)) (w.heap.size + 1 + 1) 41 #[.int .i64 b.n, .int .i64 b.t, .slice A1 l1.length c1, .slice A2 l2.length c2, .slice A3 b.E.length c3, .slice none 0 0]) := HRo3'.out.set 4 (.slice A3 b.E.length c3)
  have HQ1 := Lib.hid (HP1.out.low (p := ⟨w.heap.size + 1 + 1, 4, none⟩) (by simp) (.slice A3 b.E.length c3)); clear HP1
  have HQ2 := Lib.hid (HP2.out.low (p := ⟨w.heap.size + 1 + 1, 4, none⟩) (by simp) (.slice A3 b.E.length c3)); clear HP2
  have HQ3 := Lib.hid (HO3.out.low (p := ⟨w.heap.size + 1 + 1, 4, none⟩) (by simp) (.slice A3 b.E.length c3)); clear HO3
  have HB3 : Hid (Below w.heap.size w (w3.setCell ⟨w.heap.size + 1 + 1, 4, none⟩ (.slice A3 b.E.length c3))) := HB3'.out.setCell (by simp; omega) _
  have HZ3 : Hid (w.heap.size + 3 ≤ (w3.setCell ⟨w.heap.size + 1 + 1, 4, none⟩ (.slice A3 b.E.length c3)).heap.size) := by have := HZ3'.out; show _ ≤ _; simpa using this
  clear xv yv av HRa3' HRr3' HRo3' HB3' HZ3'
  have HN3 : Hid (w3.heap.size ≤ (w3.setCell ⟨w.heap.size + 1 + 1, 4, none⟩ (.slice A3 b.E.length c3)).heap.size) := by show _ ≤ _; simp
  generalize (w3.setCell ⟨w.heap.size + 1 + 1, 4, none⟩ (.slice A3 b.E.length c3)) = W3 at HN3 HRa3 HRr3 HRo3 HB3 HZ3 HQ1 HQ2 HQ3 ⊢
  have HO1 := HQ1; clear HQ1
  have HO2 := HQ2; clear HQ2
  have HO3 := HQ3; clear HQ3
  refine (toIntSS_any _ _ _ _ ((HR.out.2.2.2.keep HB3.out).more HB3.out.size) HM.out.f HM.out.fs).mono ?_
  rintro e w4 ⟨A4, c4, l4, rfl, k4, o4, s4, hB4⟩
  have HV4 : Hid (∀ q, ItsL A4 l4 q → w3.heap.size ≤ q) := fun q hq => Nat.le_trans HN3.out (o4.its hq).1
  have HO4 : Hid (OwnL w4 (w.heap.size + 3) A4 l4) := o4.lower HZ3.out
  have HZ4' : Hid (w.heap.size + 3 ≤ w4.heap.size) := Nat.le_trans HZ3.out hB4.size
  have HRa4' := Lib.hid (HRa3.out.below hB4 HRa3.out.lt)
  have HRr4' := Lib.hid (HRr3.out.below hB4 HRr3.out.lt)
  have HRo4' := Lib.hid (HRo3.out.below hB4 HRo3.out.lt)
  have HP1 := Lib.hid (HO1.out.below hB4 (Nat.le_refl _)); clear HO1
  have HP2 := Lib.hid (HO2.out.below hB4 (Nat.le_refl _)); clear HO2
  have HP3 := Lib.hid (HO3.out.below hB4 (Nat.le_refl _)); clear HO3
  have HB4' := Lib.hid (HB3.out.trans (hB4.mono HB3.out.size)); clear hB4 HRa3 HRr3 HRo3 HB3 HZ3 o4
  have K4 := Lib.hid k4; clear k4
  have S4 := Lib.hid s4; clear s4
  have x0 := HRo4'.out.cell 0
  have x1 := HRo4'.out.cell 1
  have x2 := HRo4'.out.cell 2
  have x3 := HRo4'.out.cell 3
  have x4 := HRo4'.out.cell 4
  have x5 := HRo4'.out.cell 5
  have y5 := HRo4'.out.frozen 5
  have r0 := HRr4'.out.cell 0
  have r1 := HRr4'.out.cell 1
  have r2 := HRr4'.out.cell 2
  have r3 := HRr4'.out.cell 3
  have r4 := HRr4'.out.cell 4
  have r5 := HRr4'.out.cell 5
  have q0 := HRr4'.out.frozen 0
  have q1 := HRr4'.out.frozen 1
  have q2 := HRr4'.out.frozen 2
  have q3 := HRr4'.out.frozen 3
  have q4 := HRr4'.out.frozen 4
  have q5 := HRr4'.out.frozen 5
  simp only [List.getElem?_toArray, List.getElem?_cons_succ, List.getElem?_cons_zero] at x0 x1 x2 x3 x4 x5 r0 r1 r2 r3 r4 r5
  go_wp2_with fail
  refine bodyPost_ret (v := .agg #[.int .i64 b.n, .int .i64 b.t, .slice A1 l1.length c1, .slice A2 l2.length c2, .slice A3 b.E.length c3, .slice A4 l4.length c4]) (by simp [results, Tryd.results48, go_sem, r0, r1, r2, r3, r4, r5]) rfl ⟨⟨b.n, b.t, A1, l1, c1, A2, l2, c2, A3, b.E, c3, A4, l4, c4⟩, rfl, ?_, ?_, ⟨K1.out, K2.out, K3.out, K4.out⟩, ?_, ⟨?_, ?_, ?_, ?_, ?_, ?_⟩⟩
  · show Bs.mk _ _ _ _ _ _ = Bs.mk _ _ _ _ _ _
    rw [S1.out, S2.out, S4.out]
  · refine ⟨?_, ?_, ?_, ?_⟩
    · exact (((((((HP1.out.low (by simp) _).low (by simp) _).low (by simp) _).low (by simp) _).low (by simp) _).low (by simp) _).low (by simp) _).lower (by omega)
    · exact (((((((HP2.out.low (by simp) _).low (by simp) _).low (by simp) _).low (by simp) _).low (by simp) _).low (by simp) _).low (by simp) _).lower (by omega)
    · exact (((((((HP3.out.low (by simp) _).low (by simp) _).low (by simp) _).low (by simp) _).low (by simp) _).low (by simp) _).low (by simp) _).lower (by omega)
    · exact (((((((HO4.out.low (by simp) _).low (by simp) _).low (by simp) _).low (by simp) _).low (by simp) _).low (by simp) _).low (by simp) _).lower (by omega)
  · exact ((((((HB4'.out.setCell (by simp; omega) _).setCell (by simp) _).setCell (by simp) _).setCell (by simp) _).setCell (by simp) _).setCell (by simp) _).setCell (by simp) _
  · exact fun q h k => by have := HU1.out q h; have := HV2.out q k; omega
  · exact fun q h k => by have := HU1.out q h; have := HV3.out q k; have := HM2.out; omega
  · exact fun q h k => by have := HU1.out q h; have := HV4.out q k; have := HM2.out; have := HM3.out; omega
  · exact fun q h k => by have := HV2.out q h; have := HV3.out q k; omega
  · exact fun q h k => by have := HV2.out q h; have := HV4.out q k; have := HM3.out; omega
  · exact fun q h k => by have := HV3.out q h; have := HV4.out q k; omega

theorem markM_ne {k : Int} {ls : List Li} {n : Nat} (h : markM k ls n ≠ []) : ls ≠ [] := fun e => h (by subst e; rfl)
theorem OwnL.save' {S : Nat → Prop} {w w' : World} {lo : Nat} {A : Option Addr} {ls : List Li} {k : Int} {n : Nat} (h : OwnL w lo A (markM k ls n)) (hs : Save S w w') (hd : ∀ b, ItsL A ls b → ¬ S b) : OwnL w' lo A (markM k ls n) := by
  refine h.kept hs fun b hb => hd b ?_
  rcases hb with ⟨e, hn⟩ | ⟨i, u, hu, he, hr⟩
  · exact .inl ⟨e, markM_ne hn⟩
  · have hi := (List.getElem?_eq_some_iff.1 hu).1
    have hi' : i < ls.length := by rw [markM_length] at hi; exact hi
    have hat := markM_at (k := k) (i := n) hi' hi
    rw [List.getElem?_eq_getElem hi, hat] at hu
    injection hu with hu
    refine .inr ⟨i, ls[i], List.getElem?_eq_getElem hi', ?_⟩
    split at hu
    · subst hu
      exact ⟨he, fun e => hr (by show seqL _ _ = []; rw [e]; rfl)⟩
    · subst hu
      exact ⟨he, hr⟩
theorem OwnI.save' {S : Nat → Prop} {w w' : World} {lo : Nat} {A : Option Addr} {xs : List Int} {k : Int} (h : OwnI w lo A (seqL k xs.length)) (hs : Save S w w') (hd : ∀ b, Its A xs b → ¬ S b) : OwnI w' lo A (seqL k xs.length) :=
  h.kept hs fun b hb => hd b ⟨hb.1, fun e => hb.2 (by rw [e]; rfl)⟩


/-- The blocks of a binary grammar. -/
def ItsB (b : Bi) (q : Nat) : Prop := ItsL b.Ap b.P q ∨ ItsL b.Ao b.O q ∨ Its b.Ae b.E q ∨ ItsL b.Af b.F q
theorem OwnB.its {w : World} {lo : Nat} {b : Bi} (h : OwnB w lo b) {q : Nat} (hq : ItsB b q) : lo ≤ q ∧ q < w.heap.size := by
  rcases hq with hq | hq | hq | hq
  · exact h.1.its hq
  · exact h.2.1.its hq
  · exact h.2.2.1.its hq
  · exact h.2.2.2.its hq
theorem OwnB.kept {S : Nat → Prop} {w w' : World} {lo : Nat} {b : Bi} (h : OwnB w lo b) (hs : Save S w w') (hd : ∀ q, ItsB b q → ¬ S q) : OwnB w' lo b :=
  ⟨h.1.kept hs fun q hq => hd q (.inl hq), h.2.1.kept hs fun q hq => hd q (.inr (.inl hq)), h.2.2.1.kept hs fun q hq => hd q (.inr (.inr (.inl hq))), h.2.2.2.kept hs fun q hq => hd q (.inr (.inr (.inr hq)))⟩

/-- How many numbers lists hold. -/
def lcn (ls : List Li) : Nat := lcnt ls ls.length
theorem lcnt_le {ls : List Li} (h : ∀ u ∈ ls, u.r.length ≤ 1048576) : ∀ i, i ≤ ls.length → lcnt ls i ≤ i * 1048577
  | 0, _ => by simp [lcnt_zero]
  | i + 1, hi => by
    have h1 := lcnt_le h i (by omega)
    rw [lcnt_succ (by omega)]
    have := h ls[i] (List.getElem_mem (by omega))
    omega
theorem lcn_le {ls : List Li} (h1 : ls.length ≤ 1048576) (h : ∀ u ∈ ls, u.r.length ≤ 1048576) : lcn ls ≤ 1099512676352 := by
  have := lcnt_le h ls.length (Nat.le_refl _)
  have h2 : ls.length * 1048577 ≤ 1048576 * 1048577 := Nat.mul_le_mul_right _ h1
  unfold lcn
  omega
/-- A binary grammar with all its numbers marked from k on. -/
def markB (k : Int) (b : Bi) : Bi := { b with
  P := markM k b.P b.P.length
  O := markM (k + (lcn b.P : Int)) b.O b.O.length
  E := seqL (k + (lcn b.P : Int) + (lcn b.O : Int)) b.E.length
  F := markM (k + (lcn b.P : Int) + (lcn b.O : Int) + (b.E.length : Int)) b.F b.F.length }
def cntBi (b : Bi) : Nat := lcn b.P + lcn b.O + b.E.length + lcn b.F

def MarkedB (w : World) (lo : Nat) (b : Bi) (k : Int) (e : Ending) (w' : World) : Prop :=
  e = .returned (.int .i64 (k + (cntBi b : Int))) ∧ OwnB w' lo (markB k b) ∧ Save (ItsB b) w w'

set_option maxHeartbeats 1000000 in
theorem markBinary_any (b : Bi) (lo : Nat) (k : Int) (w : World) (h : OwnB w lo b) (ha : ApartB b) (hm : LenB 1048576 b) (hk : 0 ≤ k) (hk' : k ≤ 16) :
    Calls Tryd.prog 35 #[(.agg #[.int .i64 b.n, .int .i64 b.t, .slice b.Ap b.P.length b.cp, .slice b.Ao b.O.length b.co, .slice b.Ae b.E.length b.ce, .slice b.Af b.F.length b.cf]), .int .i64 k] w (MarkedB w lo b k) := by
  have HO := Lib.hid h; clear h
  have HA := Lib.hid ha; clear ha
  have HM := Lib.hid hm; clear hm
  have hlp := lcn_le HM.out.p HM.out.ps
  have hlo := lcn_le HM.out.o HM.out.os
  have hle := HM.out.e
  have HBX : Hid (Below w.heap.size w (w.alloc (.cells #[.int .i64 b.n, .int .i64 b.t, .slice b.Ap b.P.length b.cp, .slice b.Ao b.O.length b.co, .slice b.Ae b.E.length b.ce, .slice b.Af b.F.length b.cf] 41))) := by show Below _ _ _; go_grown
  have HR0 : Hid (Row (w.alloc (.cells #[.int .i64 b.n, .int .i64 b.t, .slice b.Ap b.P.length b.cp, .slice b.Ao b.O.length b.co, .slice b.Ae b.E.length b.ce, .slice b.Af b.F.length b.cf] 41)) w.heap.size 41 #[.int .i64 b.n, .int .i64 b.t, .slice b.Ap b.P.length b.cp, .slice b.Ao b.O.length b.co, .slice b.Ae b.E.length b.ce, .slice b.Af b.F.length b.cf]) := Row.new _ _ _
  have HO0 := Lib.hid (HO.out.below HBX.out (Nat.le_refl _))
  go_enter Tryd.func35, Tryd.ntmps35
  go_wp2_with fail
  generalize (w.alloc (.cells #[.int .i64 b.n, .int .i64 b.t, .slice b.Ap b.P.length b.cp, .slice b.Ao b.O.length b.co, .slice b.Ae b.E.length b.ce, .slice b.Af b.F.length b.cf] 41)) = W at HBX HR0 HO0 ⊢
  have HNI : Hid (∀ q, ItsB b q → q < w.heap.size) := fun q hq => (HO.out.its hq).2
  refine (markIntSS_any _ _ _ lo _ _ HO0.out.1 HM.out.p HM.out.ps hk (by omega)).mono ?_
  rintro e w1 ⟨rfl, hP, hS1⟩
  have HP := Lib.hid hP; clear hP
  have HO1 := Lib.hid (HO0.out.2.1.kept hS1 fun q h h' => HA.out.po q h' h)
  have HE1 := Lib.hid (HO0.out.2.2.1.kept hS1 fun q h h' => HA.out.pe q h' h)
  have HF1 := Lib.hid (HO0.out.2.2.2.kept hS1 fun q h h' => HA.out.pf q h' h)
  have HR1 := Lib.hid (HR0.out.save hS1 fun h => by have := HNI.out _ (.inl h); omega)
  have HS1 : Hid (Save (ItsB b) W w1) := hS1.wider fun q h => .inl h
  clear hS1 HO0 HR0
  have a3 := HR1.out.cell 3
  simp only [List.getElem?_toArray, List.getElem?_cons_succ, List.getElem?_cons_zero] at a3
  have e1 : k + ((lcnt b.P b.P.length : Nat) : Int) = k + (lcn b.P : Int) := rfl
  rw [e1]
  clear e1
  go_wp2_with fail
  refine (markIntSS_any _ _ _ lo _ _ HO1.out HM.out.o HM.out.os (by omega) (by omega)).mono ?_
  rintro e w2 ⟨rfl, hO, hS2⟩
  have HQO := Lib.hid hO; clear hO
  have HP2 := Lib.hid (HP.out.save' hS2 fun q h h' => HA.out.po q h h')
  have HE2 := Lib.hid (HE1.out.kept hS2 fun q h h' => HA.out.oe q h' h)
  have HF2 := Lib.hid (HF1.out.kept hS2 fun q h h' => HA.out.of q h' h)
  have HR2 := Lib.hid (HR1.out.save hS2 fun h => by have := HNI.out _ (.inr (.inl h)); omega)
  have HS2 : Hid (Save (ItsB b) W w2) := HS1.out.trans (hS2.wider fun q h => .inr (.inl h))
  clear hS2 HP HE1 HF1 HR1 HO1 HS1 a3
  have a4 := HR2.out.cell 4
  simp only [List.getElem?_toArray, List.getElem?_cons_succ, List.getElem?_cons_zero] at a4
  have e1 : k + (lcn b.P : Int) + ((lcnt b.O b.O.length : Nat) : Int) = k + (lcn b.P : Int) + (lcn b.O : Int) := rfl
  rw [e1]
  clear e1
  go_wp2_with fail
  refine (markIntS_any _ _ _ lo _ _ HE2.out HM.out.e (by omega) (by omega)).mono ?_
  rintro e w3 ⟨rfl, hE, hS3⟩
  have HQE := Lib.hid hE; clear hE
  have HP3 := Lib.hid (HP2.out.save' hS3 fun q h h' => HA.out.pe q h h')
  have HO3 := Lib.hid (HQO.out.save' hS3 fun q h h' => HA.out.oe q h h')
  have HF3 := Lib.hid (HF2.out.kept hS3 fun q h h' => HA.out.ef q h' h)
  have HR3 := Lib.hid (HR2.out.save hS3 fun h => by have := HNI.out _ (.inr (.inr (.inl h))); omega)
  have HS3 : Hid (Save (ItsB b) W w3) := HS2.out.trans (hS3.wider fun q h => .inr (.inr (.inl h)))
  clear hS3 HP2 HE2 HF2 HR2 HQO HS2 a4
  have a5 := HR3.out.cell 5
  simp only [List.getElem?_toArray, List.getElem?_cons_succ, List.getElem?_cons_zero] at a5
  go_wp2_with fail
  refine (markIntSS_any _ _ _ lo _ _ HF3.out HM.out.f HM.out.fs (by omega) (by omega)).mono ?_
  rintro e w4 ⟨rfl, hF, hS4⟩
  have HQF := Lib.hid hF; clear hF
  have HP4 := Lib.hid (HP3.out.save' hS4 fun q h h' => HA.out.pf q h h')
  have HO4 := Lib.hid (HO3.out.save' hS4 fun q h h' => HA.out.of q h h')
  have HE4 := Lib.hid (HQE.out.save' hS4 fun q h h' => HA.out.ef q h h')
  have HS4 : Hid (Save (ItsB b) W w4) := HS3.out.trans (hS4.wider fun q h => .inr (.inr (.inr h)))
  clear hS4 HP3 HO3 HQE HR3 HF3 HS3 a5
  have HV : Hid (k + (lcn b.P : Int) + (lcn b.O : Int) + (b.E.length : Int) + ((lcnt b.F b.F.length : Nat) : Int) = k + (cntBi b : Int)) := by
    show _ = _
    have : (lcnt b.F b.F.length : Nat) = lcn b.F := rfl
    unfold cntBi
    omega
  go_wp2
  go_ret
  exact ⟨ret_int HV.out, ⟨HP4.out, HO4.out, HE4.out, HQF.out⟩, (Save.of_below HBX.out).trans HS4.out⟩

end Go.Proofs.YtaobkanliiiapaaDoor

/- The program's BinaryGrammar. -/

namespace Go.Proofs.YtaobkanliiiapaaDoor
open Go.RowKit

/-- Whether a binary grammar is good and its rules are a good grammar. -/
noncomputable def okBG (s : Bs) : Bool := bP (GoodBs s) && goodG s.n s.t (bRules s.P s.O s.E)

theorem long_mem {long : Int} {xs : List (List Int)} (h : LongTo long xs xs.length) {x : List Int} (hx : x ∈ xs) : (x.length : Int) = long := by
  obtain ⟨k, hk, e⟩ := List.getElem_of_mem hx
  exact h k x hk (by rw [← e]; exact List.getElem?_eq_getElem hk)
theorem goodB_long {b : Bi} (h : GoodBs b.say) : ∀ u ∈ b.P ++ b.O, 2 ≤ u.r.length ∧ u.r.length ≤ 3 := by
  intro u hu
  rcases List.mem_append.1 hu with hu | hu
  · have := long_mem h.2.2.1.1 (sayL_mem hu); omega
  · have := long_mem h.2.2.2.1.1 (sayL_mem hu); omega
theorem bRules_fit {b : Bi} {rs : List Ru} (hf : FitB b.say) (h : rs.map Ru.abs = bRules (sayL b.P) (sayL b.O) b.E) : FitR rs := by
  intro u hu x hx
  have hm : u.abs ∈ bRules (sayL b.P) (sayL b.O) b.E := h ▸ List.mem_map.2 ⟨u, hu, rfl⟩
  unfold bRules at hm
  rcases List.mem_append.1 hm with hm | hm
  · obtain ⟨y, hy, e⟩ := List.mem_map.1 hm
    have er : y.tail = u.r := congrArg Prod.snd e
    have hx' : x ∈ y := List.mem_of_mem_tail (er ▸ hx)
    rcases List.mem_append.1 hy with hy | hy
    · exact hf.1 y hy x hx'
    · exact hf.2.1 y hy x hx'
  · obtain ⟨y, _, e⟩ := List.mem_map.1 hm
    have er : [] = u.r := congrArg Prod.snd e
    rw [← er] at hx
    cases hx
theorem bRules_len {P O : List (List Int)} {E : List Int} : (bRules P O E).length = P.length + O.length + E.length := by unfold bRules; simp; omega
theorem bRules_lens {b : Bi} (hm : LenB 1048576 b) : ∀ u ∈ bRules (sayL b.P) (sayL b.O) b.E, u.2.length ≤ 1048576 := by
  intro u hu
  unfold bRules at hu
  rcases List.mem_append.1 hu with hu | hu
  · obtain ⟨y, hy, rfl⟩ := List.mem_map.1 hu
    have : y.tail.length ≤ y.length := by rw [List.length_tail]; omega
    rcases List.mem_append.1 hy with hy | hy
    · obtain ⟨v, hv, rfl⟩ := List.mem_map.1 hy; have := hm.ps v hv; show (v.r.tail).length ≤ _; omega
    · obtain ⟨v, hv, rfl⟩ := List.mem_map.1 hy; have := hm.os v hv; show (v.r.tail).length ≤ _; omega
  · obtain ⟨y, _, rfl⟩ := List.mem_map.1 hu
    simp

theorem rls_at {w w' : World} {B lo c : Nat} {A : Option Addr} {ds : List Ru} {ss : List (Int × List Int)} (h : RulD w B ds ss) (h2 : w'.ownsRow lo 106 2 (.slice A ds.length c) ds.length (ds.flatMap cellsU)) (hB : Below B w w') (hB2 : B ≤ w'.heap.size) : Rls w' w'.heap.size A ds := by
  obtain ⟨A', c', e, _, hR⟩ := rls_of h rfl h2 hB hB2
  injection e with e1
  rw [e1]; exact hR


end Go.Proofs.YtaobkanliiiapaaDoor

/- The program's BinaryOf. -/

namespace Go.Proofs.YtaobkanliiiapaaDoor
open Go.RowKit

theorem cutA_snoc (r : Int × List Int) : ∀ (rs : List (Int × List Int)) (k n : Int), cutA (rs ++ [r]) k n = ⟨(cutA rs k n).P ++ (cutR (k + rs.length) r.1 r.2 1 (cutA rs k n).n).P, (cutA rs k n).O ++ (cutR (k + rs.length) r.1 r.2 1 (cutA rs k n).n).O, (cutA rs k n).F ++ (cutR (k + rs.length) r.1 r.2 1 (cutA rs k n).n).F, (cutA rs k n).E ++ (cutR (k + rs.length) r.1 r.2 1 (cutA rs k n).n).E, (cutR (k + rs.length) r.1 r.2 1 (cutA rs k n).n).n⟩
  | [], k, n => by
    show cutA [r] k n = _
    rw [cutA_cons]
    simp [cutA]
  | s :: rs, k, n => by
    show cutA (s :: (rs ++ [r])) k n = _
    rw [cutA_cons, cutA_snoc r rs, cutA_cons, show k + ((s :: rs).length : Nat) = k + 1 + (rs.length : Nat) by rw [List.length_cons]; omega]
    simp only [List.append_assoc]
theorem cutR_big (k : Int) : ∀ (r : List Int) (l p n : Int), (cutR k l r p n).P.length ≤ r.length ∧ (cutR k l r p n).O.length ≤ 1 ∧ (cutR k l r p n).F.length ≤ r.length ∧ (cutR k l r p n).E.length ≤ 1 ∧ (cutR k l r p n).n ≤ n + r.length
  | [], l, p, n => by simp [cutR]
  | [a], l, p, n => by simp [cutR]; omega
  | [a, b], l, p, n => by simp [cutR]; omega
  | a :: b :: c :: r, l, p, n => by
    rw [cutR_more]
    have := cutR_big k (b :: c :: r) n (p + 1) (n + 1)
    simp only [List.length_cons] at this ⊢
    omega
theorem cutA_big : ∀ (rs : List (Int × List Int)) (k n : Int), (∀ r ∈ rs, r.2.length ≤ 4) → (cutA rs k n).P.length ≤ 4 * rs.length ∧ (cutA rs k n).O.length ≤ rs.length ∧ (cutA rs k n).F.length ≤ 4 * rs.length ∧ (cutA rs k n).E.length ≤ rs.length ∧ (cutA rs k n).n ≤ n + 4 * rs.length
  | [], k, n, _ => by simp [cutA]
  | r :: rs, k, n, h => by
    have h1 := cutR_big k r.2 r.1 1 n
    have h2 := cutA_big rs (k + 1) (cutR k r.1 r.2 1 n).n fun x hx => h x (by simp [hx])
    have h3 := h r (by simp)
    rw [cutA_cons]
    simp only [List.length_append, List.length_cons]
    omega

/-- What the first k rules have made. -/
structure BoK (rs : List (Int × List Int)) (n : Int) (k : Nat) (m : Int) (ps os fs : List Li) (es : List Int) : Prop where
  nx : m = (cutA (rs.take k) 0 n).n
  P : sayL ps = (cutA (rs.take k) 0 n).P
  O : sayL os = (cutA (rs.take k) 0 n).O
  F : sayL fs = (cutA (rs.take k) 0 n).F
  E : es = (cutA (rs.take k) 0 n).E
theorem BoK.start (rs : List (Int × List Int)) (n : Int) : BoK rs n 0 n [] [] [] [] := ⟨rfl, rfl, rfl, rfl, rfl⟩
theorem BoK.cut {rs : List (Int × List Int)} {n m : Int} {k : Nat} {ps os fs : List Li} {es : List Int} (h : BoK rs n k m ps os fs es) {l : Int} {r : List Int} (hr : rs[k]? = some (l, r)) : CutTo k (cutA (rs.take (k + 1)) 0 n) l r 1 m ps os fs es := by
  obtain ⟨hk, e⟩ := List.getElem?_eq_some_iff.1 hr
  have h1 : rs.take (k + 1) = rs.take k ++ [(l, r)] := by rw [List.take_add_one, hr]; rfl
  have h2 : ((rs.take k).length : Int) = k := by rw [List.length_take]; omega
  rw [h1, cutA_snoc, h2, Int.zero_add]
  obtain ⟨a, b, c, d, f⟩ := h
  subst a
  exact ⟨by rw [b], by rw [c], by rw [d], by rw [f], rfl⟩

/-- What BinaryOf's call gives: a new binary grammar that says what the cut rules say, or none. -/
def GaveBo (w : World) (n t : Int) (rs : List (Int × List Int)) (ok : Bool) (e : Ending) (w' : World) : Prop :=
  Below w.heap.size w w' ∧ ((ok = false ∧ e = .returned (.tuple #[.agg #[.int .i64 0, .int .i64 0, .slice none 0 0, .slice none 0 0, .slice none 0 0, .slice none 0 0], .bool false])) ∨
  (ok = true ∧ ∃ lo vp ps vo os ve es vf fs, w.heap.size ≤ lo ∧ e = .returned (.tuple #[.agg #[.int .i64 (cutA rs 0 n).n, .int .i64 t, vp, vo, ve, vf], .bool true]) ∧ BinN w' lo vp ps vo os ve es vf fs ∧
    (sayL ps).Perm (cutA rs 0 n).P ∧ (sayL ps).Pairwise (fun a b => cmpL a b < 0) ∧ (sayL os).Perm (cutA rs 0 n).O ∧ (sayL os).Pairwise (fun a b => cmpL a b < 0) ∧ es.Perm (cutA rs 0 n).E ∧ es.Pairwise (· < ·) ∧ sayL fs = (cutA rs 0 n).F))

set_option maxRecDepth 20000 in
set_option maxHeartbeats 1000000 in
theorem implBinaryOf_any (n t : Int) (A : Option Addr) (c : Nat) (rs : List Ru) (w : World) (hx : Rls w w.heap.size A rs) (hL : Lims w) (hc : rs.length ≤ c) (h1 : rs.length ≤ 1048576) (h2 : ∀ u ∈ rs, u.r.length ≤ 1048576) (hcp : ∀ u ∈ rs, u.r.length ≤ u.c) (hf : FitR rs) :
    Calls Tryd.prog 31 #[.agg #[.int .i64 n, .int .i64 t, .slice A rs.length c]] w (GaveBo w n t (rs.map Ru.abs) (goodG n t (rs.map Ru.abs))) := by
  have HX := Lib.hid hx; clear hx
  have HL := Lib.hid hL; clear hL
  have HF := Lib.hid hf; clear hf
  have H2 := Lib.hid h2; clear h2
  have HCP := Lib.hid hcp; clear hcp
  generalize hW : ((w.alloc (.cells #[.int .i64 n, .int .i64 t, .slice A rs.length c] 54)).alloc (.cells #[.int .i64 0, .int .i64 0, .slice none 0 0, .slice none 0 0, .slice none 0 0, .slice none 0 0] 41)) = W
  have HB0 : Hid (Below w.heap.size w W) := by subst hW; show Below _ _ _; go_grown
  have B0 : Hid (Row W w.heap.size 54 #[.int .i64 n, .int .i64 t, .slice A rs.length c]) := by
    subst hW
    exact Row.alloc (Row.new w 54 #[.int .i64 n, .int .i64 t, .slice A rs.length c]) _
  have R0 : Hid (Row W (w.heap.size + 1) 41 #[.int .i64 0, .int .i64 0, .slice none 0 0, .slice none 0 0, .slice none 0 0, .slice none 0 0]) := by
    subst hW
    have h := Row.new (w.alloc (.cells #[.int .i64 n, .int .i64 t, .slice A rs.length c] 54)) 41 #[.int .i64 0, .int .i64 0, .slice none 0 0, .slice none 0 0, .slice none 0 0, .slice none 0 0]
    rwa [World.size_alloc] at h
  have HWE := Lib.hid hW; clear hW
  have b0 := B0.out.cell 0
  have b1 := B0.out.cell 1
  have b2 := B0.out.cell 2
  simp at b0 b1 b2
  go_enter Tryd.func31, Tryd.ntmps31
  go_wp2_with fail
  rw [HWE.out]
  refine (goodGrammar_any _ _ _ _ _ W ((HX.out.keep HB0.out).more HB0.out.size) (HL.out.keep HB0.out (Nat.le_refl _)) hc h1 H2.out HF.out).mono ?_
  rintro e w1 ⟨rfl, hB1⟩
  have B1 := Lib.hid (B0.out.below hB1 B0.out.lt)
  have R1 := Lib.hid (R0.out.below hB1 R0.out.lt)
  have HB1 := Lib.hid (HB0.out.trans (hB1.mono HB0.out.size)); clear hB1
  clear HWE B0 R0 HB0 b0 b1 b2
  cases hg : goodG n t (rs.map Ru.abs)
  · have d0 := R1.out.cell 0
    have d1 := R1.out.cell 1
    have d2 := R1.out.cell 2
    have d3 := R1.out.cell 3
    have d4 := R1.out.cell 4
    have d5 := R1.out.cell 5
    have g0 := R1.out.frozen 0
    have g1 := R1.out.frozen 1
    have g2 := R1.out.frozen 2
    have g3 := R1.out.frozen 3
    have g4 := R1.out.frozen 4
    have g5 := R1.out.frozen 5
    simp at d0 d1 d2 d3 d4 d5
    have HG := Lib.hid hg; clear hg
    go_wp2
    refine bodyPost_ret (v := .tuple #[.agg #[.int .i64 0, .int .i64 0, .slice none 0 0, .slice none 0 0, .slice none 0 0, .slice none 0 0], .bool false]) (by simp [results, Tryd.results31, go_sem, d0, d1, d2, d3, d4, d5]) rfl ⟨?_, .inl ⟨HG.out, rfl⟩⟩
    exact (((((HB1.out.setCell (by simp) _).setCell (by simp) _).setCell (by simp) _).setCell (by simp) _).setCell (by simp) _).setCell (by simp) _
  have HG := Lib.hid hg; clear hg
  have b0 := B1.out.cell 0
  have b1 := B1.out.cell 1
  have b2 := B1.out.cell 2
  simp at b0 b1 b2
  generalize hV : w1.alloc (.cells #[.int .i64 n, .int .i64 t, .slice none 0 0, .slice none 0 0, .slice none 0 0, .slice none 0 0] 41) = V
  have hsz1 := HB1.out.size
  have B2 : Hid (Row V w.heap.size 54 #[.int .i64 n, .int .i64 t, .slice A rs.length c]) := by subst hV; exact Row.alloc B1.out _
  have R2 : Hid (Row V (w.heap.size + 1) 41 #[.int .i64 0, .int .i64 0, .slice none 0 0, .slice none 0 0, .slice none 0 0, .slice none 0 0]) := by subst hV; exact Row.alloc R1.out _
  have X2 : Hid (BoxW V w1.heap.size n t (.slice none 0 0) (.slice none 0 0) (.slice none 0 0) (.slice none 0 0)) := by subst hV; exact Row.new w1 _ _
  have HB2 : Hid (Below w.heap.size w V) := by subst hV; exact HB1.out.alloc hsz1 _
  have HVS : Hid (V.heap.size = w1.heap.size + 1) := by subst hV; exact World.size_alloc _ _
  have HVE := Lib.hid hV
  have c2 := B2.out.cell 2
  simp at c2
  rw [← hV] at c2
  clear hV
  go_wp2_with fail
  rw [HVE.out]
  have HL1 : Hid (w.heap.size + 1 < w1.heap.size) := R1.out.lt
  clear HVE b0 b1 b2 c2 B1 R1 HB1
  go_loopw [19] (fun i wr => ∃ (k : Nat) (m : Int) (vp : Value) (ps : List Li) (vo : Value) (os : List Li) (ve : Value) (es : List Int) (vf : Value) (fs : List Li), k ≤ rs.length ∧ i = .int .i64 k ∧ 0 ≤ m ∧ Hid (BoxW wr w1.heap.size m t vp vo ve vf) ∧ Hid (BinN wr (w1.heap.size + 1) vp ps vo os ve es vf fs) ∧ Hid (Below w1.heap.size V wr) ∧ Hid (BoK (rs.map Ru.abs) n k m ps os fs es)) (fun i _ => rs.length - (intOf i).toNat)
  case atStart => exact ⟨0, n, _, [], _, [], _, [], _, [], Nat.zero_le _, rfl, by have := (goodG_is HG.out).1; omega, X2.out, BinN.start _ _, Below.refl _ _, BoK.start _ _⟩
  case round =>
    clear X2
    obtain ⟨k, m, vp, ps, vo, os, ve, es, vf, fs, hk, rfl, hm, HX2, HN, HB, HK⟩ := hrel
    have hvs := HVS.out
    have hws := HB.out.size
    by_cases hlt : k < rs.length
    · have HBW := Lib.hid (HB2.out.trans (HB.out.mono hsz1))
      have hat := HX.out.at_ hlt
      have hat := (HX.out.keep HBW.out).at_ hlt
      have hrc := HCP.out rs[k] (List.getElem_mem hlt)
      have hr4 : rs[k].r.length ≤ 4 := (goodG_mem HG.out (u := rs[k].abs) (List.mem_map.2 ⟨_, List.getElem_mem hlt, rfl⟩)).2.1
      have HGT := Lib.hid ((List.getElem?_map (f := Ru.abs) (l := rs) (i := k)).trans (by rw [List.getElem?_eq_getElem hlt]; rfl : Option.map Ru.abs rs[k]? = some (rs[k].l, rs[k].r)))
      generalize rs[k] = u at hat hrc hr4 HGT
      obtain ⟨l, a, r, cc⟩ := u
      obtain ⟨b, o, rfl, hb, c1, c2, c3⟩ := hat
      dsimp only at c1 c2 c3 hrc hr4 HGT
      have HCT := Lib.hid (HK.out.cut HGT.out)
      have HBG := Lib.hid (cutA_big ((rs.map Ru.abs).take (k + 1)) 0 n fun z hz => by
        obtain ⟨u, hu, rfl⟩ := List.mem_map.1 (List.mem_of_mem_take hz)
        exact (goodG_mem HG.out (List.mem_map.2 ⟨_, hu, rfl⟩)).2.1)
      have HGI := Lib.hid (goodG_is HG.out)
      generalize hY : wr.alloc (.cells #[.int .i64 l, .slice a r.length cc] 106) = Y
      have HBY : Hid (Below wr.heap.size wr Y) := by subst hY; show Below _ _ _; go_grown
      have y0 : Y.cell? ⟨wr.heap.size, 0, none⟩ = some (.int .i64 l) := by subst hY; simp [go_sem]
      have y1 : Y.cell? ⟨wr.heap.size, 1, none⟩ = some (.slice a r.length cc) := by subst hY; simp [go_sem]
      have HXY : Hid (BoxW Y w1.heap.size m t vp vo ve vf) := by subst hY; exact Row.alloc HX2.out _
      have HNY := Lib.hid (HN.out.keep HBY.out)
      have C3 := Lib.hid ((c3.keep (HBY.out.mono (by omega : w.heap.size ≤ wr.heap.size))).more (by omega : w.heap.size ≤ w1.heap.size)); clear c3
      have hys := HBY.out.size
      have HYE := Lib.hid hY
      rw [← hY] at y0 y1
      clear hY
      go_wp2_with fail
      rw [HYE.out]
      have hl16 : ((rs.map Ru.abs).take (k + 1)).length ≤ 16 := Nat.le_trans (by rw [List.length_take]; omega) HGI.out.2.2.1
      have hbg := HBG.out
      have hn6 := HGI.out.1
      refine (addRule_any w1.heap.size (w1.heap.size + 1) t (k : Int) l a r cc m vp vo ve vf ps os fs es (cutA ((rs.map Ru.abs).take (k + 1)) 0 n) Y HXY.out HNY.out (Nat.lt_succ_self _) (by omega) C3.out hrc hr4 HCT.out hm (by omega) (by omega) (by omega) (by omega) (by omega)).mono ?_
      rintro e w3 ⟨rfl, vp3, ps3, vo3, os3, ve3, es3, vf3, fs3, hX3, hN3, e1, e2, e3, e4, hB3⟩
      have HX3 := Lib.hid hX3
      have HN3 := Lib.hid hN3
      have HB3 : Hid (Below w1.heap.size V w3) := HB.out.trans ((HBY.out.mono (by omega)).trans hB3)
      have HK3 : Hid (BoK (rs.map Ru.abs) n (k + 1) (cutA ((rs.map Ru.abs).take (k + 1)) 0 n).n ps3 os3 fs3 es3) := ⟨rfl, e1, e2, e3, e4⟩
      have HM3 : Hid (0 ≤ (cutA ((rs.map Ru.abs).take (k + 1)) 0 n).n) := by have h := cutA_le ((rs.map Ru.abs).take (k + 1)) 0 n; show _ ≤ _; omega
      clear hX3 hN3 e1 e2 e3 e4 hB3 HYE y0 y1 c1 c2 hbg hl16 hn6 hws hvs hys hat
      go_wp2
      go_roundw
      case rel => exact ⟨k + 1, _, vp3, ps3, vo3, os3, ve3, es3, vf3, fs3, by omega, by go_num, HM3.out, HX3.out, HN3.out, HB3.out, HK3.out⟩
      case measure => simp [intOf]; omega
    · have hke : k = rs.length := by omega
      subst hke
      rw [show BoK (rs.map Ru.abs) n rs.length m ps os fs es = BoK (rs.map Ru.abs) n (rs.map Ru.abs).length m ps os fs es by rw [List.length_map]] at HK
      have HKE := Lib.hid HK.out.nx
      have hl1 := HL1.out
      have HR3 := Lib.hid (R2.out.below (HB.out.mono (by omega : w.heap.size + 1 + 1 ≤ w1.heap.size)) (by omega))
      have HBW := Lib.hid (HB2.out.trans (HB.out.mono hsz1))
      have hbg := cutA_big (rs.map Ru.abs) 0 n fun z hz => (goodG_mem HG.out hz).2.1
      have hg16 := (goodG_is HG.out).2.2.1
      rw [List.length_map] at hbg hg16
      have hK := HK.out
      rw [show BoK (rs.map Ru.abs) n (rs.map Ru.abs).length m ps os fs es = _ from rfl] at hK
      have HKP := Lib.hid hK.P
      have HKO := Lib.hid hK.O
      have HKF := Lib.hid hK.F
      have HKN := Lib.hid hK.E
      clear hK
      rw [List.take_length] at HKP HKO HKF HKN HKE
      have hlp : ps.length ≤ 1000 := by have h := congrArg List.length HKP.out; rw [sayL_len] at h; omega
      have hlo : os.length ≤ 1000 := by have h := congrArg List.length HKO.out; rw [sayL_len] at h; omega
      have hle : es.length ≤ 1000 := by have h := congrArg List.length HKN.out; omega
      clear hbg hg16 HK
      have HSM : Hid (∀ r ∈ rs.map Ru.abs, r.1 < n ∧ ∀ x ∈ r.2, x < n) := fun r hr => by
        have h := goodG_mem HG.out hr
        refine ⟨h.1.2, fun x hx => ?_⟩
        have h2 := (goodG_is HG.out).1
        rcases h.2.2 x hx with h3 | h3 <;> omega
      have HLP : Hid (∀ u ∈ ps, u.r.length ≤ 1000) := fun u hu => by
        have h : u.r ∈ (cutA (rs.map Ru.abs) 0 n).P := by rw [← HKP.out]; exact List.mem_map.2 ⟨u, hu, rfl⟩
        obtain ⟨r, _, m1, m2, _, _, x, y, z, e, _⟩ := cutA_pairs n (rs.map Ru.abs) 0 n (fun r hr => (HSM.out r hr).2) _ h
        rw [e]; simp
      have HLO : Hid (∀ u ∈ os, u.r.length ≤ 1000) := fun u hu => by
        have h : u.r ∈ (cutA (rs.map Ru.abs) 0 n).O := by rw [← HKO.out]; exact List.mem_map.2 ⟨u, hu, rfl⟩
        obtain ⟨l, a, _, e⟩ := (cutA_ones (rs.map Ru.abs) 0 n u.r).1 h
        rw [e]; simp
      have hl : w1.heap.size + 1 ≤ wr.heap.size := by omega
      obtain ⟨b0, b1, b2, b3, b4, b5⟩ := HX2.out.six
      go_wp2_with fail
      refine (sortLs_any (w1.heap.size + 1) vp ps wr HN.out.tri.la hlp HLP.out).mono ?_
      rintro e wA ⟨rfl, hsA⟩
      have BA : Below (w1.heap.size + 1) wr wA := by
        obtain ⟨_, _, _, _, h⟩ := hsA
        exact h.below hl fun i hi e => by have := (HN.out.tri.la.lt i e).1; omega
      obtain ⟨psA, hpA, hqA, hNA⟩ := HN.out.sortP hsA
      have HXA := Lib.hid (Row.below HX2.out BA (by omega))
      have HRA := Lib.hid (HR3.out.below BA (by omega))
      have HBA := Lib.hid (HBW.out.trans (BA.mono (by omega)))
      have HNA := Lib.hid hNA
      have HPA := Lib.hid hpA
      have HQA := Lib.hid hqA
      have hlA : w1.heap.size + 1 ≤ wA.heap.size := Nat.le_trans hl BA.size
      clear hsA BA hNA hpA hqA b0 b1 b2 b3 b4 b5 HX2 HR3 HBW HN
      obtain ⟨b0, b1, b2, b3, b4, b5⟩ := BoxW.six HXA.out
      go_wp2_with fail
      refine (sortLs_any (w1.heap.size + 1) vo os wA HNA.out.tri.lb hlo HLO.out).mono ?_
      rintro e wB ⟨rfl, hsB⟩
      have BB : Below (w1.heap.size + 1) wA wB := by
        obtain ⟨_, _, _, _, h⟩ := hsB
        exact h.below hlA fun i hi e => by have := (HNA.out.tri.lb.lt i e).1; omega
      obtain ⟨osB, hpB, hqB, hNB⟩ := HNA.out.sortO hsB
      have HXB := Lib.hid (Row.below HXA.out BB (by omega))
      have HRB := Lib.hid (HRA.out.below BB (by omega))
      have HBB := Lib.hid (HBA.out.trans (BB.mono (by omega)))
      have HNB := Lib.hid hNB
      have HPB := Lib.hid hpB
      have HQB := Lib.hid hqB
      have hlB : w1.heap.size + 1 ≤ wB.heap.size := Nat.le_trans hlA BB.size
      clear hsB BB hNB hpB hqB b0 b1 b2 b3 b4 b5 HXA HRA HBA HNA
      obtain ⟨b0, b1, b2, b3, b4, b5⟩ := BoxW.six HXB.out
      go_wp2_with fail
      refine (sortI_any (w1.heap.size + 1) ve es wB HNB.out.e (by omega)).mono ?_
      rintro e wC ⟨rfl, hsC⟩
      have BC : Below (w1.heap.size + 1) wB wC := hsC.2.below hlB fun i hi e => by have := (HNB.out.e.lt i e).1; omega
      have HNC := Lib.hid (HNB.out.sortE hsC)
      have HXC := Lib.hid (Row.below HXB.out BC (by omega))
      have HRC := Lib.hid (HRB.out.below BC (by omega))
      have HBC := Lib.hid (HBB.out.trans (BC.mono (by omega)))
      have hlC : w1.heap.size + 1 ≤ wC.heap.size := Nat.le_trans hlB BC.size
      clear hsC BC b0 b1 b2 b3 b4 b5 HXB HRB HBB HNB
      obtain ⟨Ap, cp, rfl, _, _⟩ := HNC.out.tri.la.slice
      obtain ⟨Ao, co, rfl, _, _⟩ := HNC.out.tri.lb.slice
      obtain ⟨Ae, ce, rfl, _, _⟩ := HNC.out.e.shape
      obtain ⟨Af, cf, rfl, _, _⟩ := HNC.out.tri.lc.slice
      obtain ⟨b0, b1, b2, b3, b4, b5⟩ := BoxW.six HXC.out
      have d0 := HRC.out.cell 0
      have d1 := HRC.out.cell 1
      have d2 := HRC.out.cell 2
      have d3 := HRC.out.cell 3
      have d4 := HRC.out.cell 4
      have d5 := HRC.out.cell 5
      have g0 := HRC.out.frozen 0
      have g1 := HRC.out.frozen 1
      have g2 := HRC.out.frozen 2
      have g3 := HRC.out.frozen 3
      have g4 := HRC.out.frozen 4
      have g5 := HRC.out.frozen 5
      simp at d0 d1 d2 d3 d4 d5
      have HND := goodG_nodup HG.out
      have HP1 : (sayL psA).Perm (cutA (rs.map Ru.abs) 0 n).P := by rw [← HKP.out]; exact HPA.out.map Li.r
      have HP2 : (sayL osB).Perm (cutA (rs.map Ru.abs) 0 n).O := by rw [← HKO.out]; exact HPB.out.map Li.r
      go_wp2
      refine bodyPost_ret (v := .tuple #[.agg #[.int .i64 m, .int .i64 t, .slice Ap psA.length cp, .slice Ao osB.length co, .slice Ae (sortI es).length ce, .slice Af fs.length cf], .bool true]) (by simp [results, Tryd.results31, go_sem, d0, d1, d2, d3, d4, d5]) rfl ⟨?_, .inr ⟨HG.out, w1.heap.size + 1, .slice Ap psA.length cp, psA, .slice Ao osB.length co, osB, .slice Ae (sortI es).length ce, sortI es, .slice Af fs.length cf, fs, by omega, by rw [HKE.out], ?_, HP1, rises_of_sorted (List.pairwise_map.2 (HQA.out.imp fun h => Int.not_lt.2 h)) (HP1.nodup_iff.2 (cutA_nodupP n _ 0 n HSM.out (Int.le_refl _) HND)), HP2, rises_of_sorted (List.pairwise_map.2 (HQB.out.imp fun h => Int.not_lt.2 h)) (HP2.nodup_iff.2 (cutA_nodupO _ 0 n HND)), (sortI_perm es).trans (by rw [HKN.out]), rises_sortI (by rw [HKN.out]; exact cutA_nodupE _ 0 n HND), HKF.out⟩⟩
      · exact (((((HBC.out.setCell (by simp) _).setCell (by simp) _).setCell (by simp) _).setCell (by simp) _).setCell (by simp) _).setCell (by simp) _
      · exact (((((HNC.out.lowCell (by simp; omega) _).lowCell (by simp; omega) _).lowCell (by simp; omega) _).lowCell (by simp; omega) _).lowCell (by simp; omega) _).lowCell (by simp; omega) _

end Go.Proofs.YtaobkanliiiapaaDoor

/- The reference's l5Binary. -/

namespace Go.Proofs.YtaobkanliiiapaaDoor
open Go.RowKit

/-- The lists of a cut have their lengths. -/
structure CutOK (C : Cut) : Prop where
  p3 : ∀ z ∈ C.P, z.length = 3
  o2 : ∀ z ∈ C.O, z.length = 2
  pl : C.P.length ≤ 1000
  ol : C.O.length ≤ 1000
  el : C.E.length ≤ 1000
  fl : C.F.length ≤ 1000
  nl : C.n ≤ 1000
theorem MemTo.lens {k : Int} {C : Cut} {l : Int} {r : List Int} {p n : Int} {ps os fs : List Li} {es : List Int} (h : MemTo k C l r p n (sayL ps) (sayL os) es (sayL fs)) (hc : CutOK C) :
    (∀ u ∈ ps, u.r.length = 3) ∧ (∀ u ∈ os, u.r.length = 2) ∧ ps.length ≤ 1000 ∧ os.length ≤ 1000 ∧ es.length ≤ 1000 ∧ fs.length ≤ 1000 ∧ n ≤ 1000 := by
  have nd : ∀ {zs : List (List Int)}, RisesL zs → zs.Nodup := fun hz => hz.imp fun h e => by subst e; rw [cmpL_self] at h; omega
  refine ⟨fun u hu => hc.p3 _ ((h.P _).1 (.inl (sayL_mem hu))), fun u hu => hc.o2 _ ((h.O _).1 (.inl (sayL_mem hu))), ?_, ?_, ?_, ?_, ?_⟩
  · have := nodup_le (sayL ps) C.P (nd h.rp) fun z hz => (h.P z).1 (.inl hz)
    rw [sayL_len] at this; have := hc.pl; omega
  · have := nodup_le (sayL os) C.O (nd h.ro) fun z hz => (h.O z).1 (.inl hz)
    rw [sayL_len] at this; have := hc.ol; omega
  · have := nodup_le es C.E (h.re.imp fun h e => by subst e; omega) fun z hz => (h.E z).1 (.inl hz)
    have := hc.el; omega
  · have := congrArg List.length h.F
    rw [List.length_append, sayL_len] at this; have := hc.fl; omega
  · have h1 := cutR_le k r l p n
    rw [h.n] at h1; have := hc.nl; omega

/-- What is made of the first k rules. -/
structure BoM (rs : List (Int × List Int)) (n : Int) (k : Nat) (m : Int) (ps os : List (List Int)) (es : List Int) (fs : List (List Int)) : Prop where
  nx : m = (cutA (rs.take k) 0 n).n
  P : ∀ z, z ∈ ps ↔ z ∈ (cutA (rs.take k) 0 n).P
  O : ∀ z, z ∈ os ↔ z ∈ (cutA (rs.take k) 0 n).O
  E : ∀ z, z ∈ es ↔ z ∈ (cutA (rs.take k) 0 n).E
  F : fs = (cutA (rs.take k) 0 n).F
  rp : RisesL ps
  ro : RisesL os
  re : Rises es
theorem BoM.start (rs : List (Int × List Int)) (n : Int) : BoM rs n 0 n [] [] [] [] := ⟨rfl, fun _ => Iff.rfl, fun _ => Iff.rfl, fun _ => Iff.rfl, rfl, RisesL.nil, RisesL.nil, List.Pairwise.nil⟩
theorem BoM.cut {rs : List (Int × List Int)} {n m : Int} {k : Nat} {ps os fs : List (List Int)} {es : List Int} (h : BoM rs n k m ps os es fs) {l : Int} {r : List Int} (hr : rs[k]? = some (l, r)) (hnd : rs.Nodup) : MemTo k (cutA (rs.take (k + 1)) 0 n) l r 1 m ps os es fs := by
  have hk := (List.getElem?_eq_some_iff.1 hr).1
  have hkl : (rs.take k).length = k := by rw [List.length_take]; omega
  have e : rs.take (k + 1) = rs.take k ++ [(l, r)] := by
    rw [List.take_succ_eq_append_getElem hk, (List.getElem?_eq_some_iff.1 hr).2]
  have hs := cutA_snoc (l, r) (rs.take k) 0 n
  rw [hkl, Int.zero_add, ← e, ← h.nx] at hs
  refine ⟨fun z => ?_, fun z => ?_, fun z => ?_, ?_, ?_, fun hre hm => ?_, h.rp, h.ro, h.re⟩
  · rw [hs, h.P]; exact List.mem_append.symm
  · rw [hs, h.O]; exact List.mem_append.symm
  · rw [hs, h.E]; exact List.mem_append.symm
  · rw [hs, h.F]
  · rw [hs]
  · subst hre
    rw [h.E, cutA_emps] at hm
    have h1 : (rs.take (k + 1)).Nodup := hnd.sublist (List.take_sublist _ _)
    rw [e] at h1
    exact (List.nodup_append.1 h1).2.2 _ hm _ (List.mem_singleton.2 rfl) rfl

end Go.Proofs.YtaobkanliiiapaaDoor
