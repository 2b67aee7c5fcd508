/- What the walks of the laws with a grammar as their answer share, in any seat. -/
import Derived.Test.YtgnpgehekfhedaaDoorUR02
import Derived.Test.YtgnpgehekfhedaaDoorUR03
import Derived.Test.YtgnpgehekfhedaaDoorUR05
import Derived.Deep.RegionHeld3
import Derived.Test.YtgnpgehekfhedaaDoorUR04
import Derived.Test.YtgnpgehekfhedaaDoorUR01
import Derived.Deep.LoopGhost
import Derived.Deep.RegionLaw

namespace Go.Proofs.YtgnpgehekfhedaaDoor
open Go.RowKit

theorem Box3.save {S : Nat → Prop} {w w' : World} {g : Nat} {a b c : Value} (h : Box3 w g a b c) (hs : Save S w w') (hg : ¬ S g) : Box3 w' g a b c := by
  obtain ⟨h0, h1, h2, h3⟩ := h
  have hb := hs.block g h0 hg
  exact ⟨by have := hs.size; omega, (World.cell?_of_block (a := ⟨g, 0, none⟩) hb).trans h1, (World.cell?_of_block (a := ⟨g, 1, none⟩) hb).trans h2, (World.cell?_of_block (a := ⟨g, 2, none⟩) hb).trans h3⟩

theorem OwnR.kept {S : Nat → Prop} {w w' : World} {lo : Nat} {A : Option Addr} {rs : List Ru} (h : OwnR w lo A rs) (hs : Save S w w') (hd : ∀ b, ItsR A rs b → ¬ S b) : OwnR w' lo A rs := by
  by_cases e : rs = []
  · exact .inl e
  · rcases h with h | ⟨g, cs, ea, hl, hr, hc, hdd⟩
    · exact .inl h
    · refine .inr ⟨g, cs, ea, hl, hr.save hs (hd g (.inl ⟨ea, e⟩)), fun k u hu => ?_, hdd⟩
      obtain ⟨h1, h2, h3⟩ := hc k u hu
      exact ⟨h1, h2, h3.kept hs fun b hb => hd b (.inr ⟨k, u, hu, hb⟩)⟩

theorem says_len {rs : List Ru} {ss : List (Int × List Int)} (h : rs.map Ru.abs = ss) (hs : ss.length ≤ 1048576) : rs.length ≤ 1048576 := by rw [← h, List.length_map] at hs; exact hs
theorem says_lens {rs : List Ru} {ss : List (Int × List Int)} (h : rs.map Ru.abs = ss) (hs : ∀ u ∈ ss, u.2.length ≤ 1048576) : ∀ u ∈ rs, u.r.length ≤ 1048576 := fun u hu => hs u.abs (h ▸ List.mem_map.2 ⟨u, hu, rfl⟩)

theorem box_new (w : World) (a b c : Value) (t : TypeId) : Box3 (w.alloc (.cells #[a, b, c] t)) w.heap.size a b c := ⟨by simp, by simp [go_sem], by simp [go_sem], by simp [go_sem]⟩
theorem below_new (w : World) (o : Obj) : Below w.heap.size w (w.alloc o) := (Below.refl _ _).alloc (Nat.le_refl _) _

end Go.Proofs.YtgnpgehekfhedaaDoor

/- What the laws' marks write into lists of lists, and what they find again. -/

namespace Go.Proofs.YtgnpgehekfhedaaDoor
open Go.RowKit

theorem OwnL.at_ {w : World} {lo : Nat} {A : Option Addr} {ls : List Li} (h : OwnL w lo A ls) {i : Nat} (hi : i < ls.length) :
    ∃ g, A = some ⟨g, 0, none⟩ ∧ lo ≤ g ∧ g < w.heap.size ∧ w.cell? ⟨g, i, none⟩ = some (.slice ls[i].a ls[i].r.length ls[i].c) ∧ OwnI w lo ls[i].a ls[i].r := by
  rcases h with h | ⟨g, cs, ea, hl, hr, hc, _⟩
  · subst h; simp at hi
  · obtain ⟨h1, _, h3⟩ := hc i _ (List.getElem?_eq_getElem hi)
    exact ⟨g, ea, hl, hr.lt, by rw [hr.cell]; exact h1, h3⟩

theorem OwnL.setList {w w' : World} {lo : Nat} {A : Option Addr} {ls : List Li} (h : OwnL w lo A ls) {i : Nat} (hi : i < ls.length) {ys : List Int} (hy : ys.length = ls[i].r.length)
    (hO : OwnI w' lo ls[i].a ys) (hs : Save (Its ls[i].a ls[i].r) w w') : OwnL w' lo A (ls.set i { ls[i] with r := ys }) := by
  rcases h with h | ⟨g, cs, ea, hl, hr, hc, hd⟩
  · subst h; simp at hi
  · have hgi : ¬ Its ls[i].a ls[i].r g := by
      rintro ⟨e1, e2⟩
      rcases (hc i _ (List.getElem?_eq_getElem hi)).2.2 with h3 | ⟨g', cs', e3, _, hr', _⟩
      · exact e2 h3
      · rw [e1] at e3
        injection e3 with e3
        injection e3 with e3
        exact hr'.ne hr (by decide) e3.symm
    refine .inr ⟨g, cs, ea, hl, hr.save hs hgi, fun k u hu => ?_, fun a b u v hu hv hab hun hvn => ?_⟩
    · rw [List.getElem?_set] at hu
      by_cases e : i = k
      · subst e
        rw [if_pos rfl, if_pos hi] at hu
        injection hu with hu
        subst hu
        obtain ⟨h1, h2, _⟩ := hc i _ (List.getElem?_eq_getElem hi)
        exact ⟨by rw [hy]; exact h1, by rw [hy]; exact h2, hO⟩
      · rw [if_neg e] at hu
        obtain ⟨h1, h2, h3⟩ := hc k u hu
        refine ⟨h1, h2, h3.save hs fun g' e1 e2 hI => ?_⟩
        exact hd k i u ls[i] hu (List.getElem?_eq_getElem hi) (Ne.symm e) e2 hI.2 (e1.trans hI.1.symm)
    · have old : ∀ (j : Nat) (y : Li), (ls.set i { ls[i] with r := ys })[j]? = some y → ∃ z, ls[j]? = some z ∧ z.a = y.a ∧ (y.r ≠ [] → z.r ≠ []) := by
        intro j y hy'
        rw [List.getElem?_set] at hy'
        by_cases e : i = j
        · subst e
          rw [if_pos rfl, if_pos hi] at hy'
          injection hy' with hy'
          subst hy'
          refine ⟨ls[i], List.getElem?_eq_getElem hi, rfl, fun hn e => hn ?_⟩
          have : ys.length = 0 := by rw [hy, e]; rfl
          exact List.eq_nil_of_length_eq_zero this
        · rw [if_neg e] at hy'
          exact ⟨y, hy', rfl, id⟩
      obtain ⟨u', hu', e1, e2⟩ := old a u hu
      obtain ⟨v', hv', e3, e4⟩ := old b v hv
      rw [← e1, ← e3]
      exact hd a b u' v' hu' hv' hab (e2 hun) (e4 hvn)

/-- How many numbers the first i lists hold. -/
def lcnt (ls : List Li) (i : Nat) : Nat := ((ls.take i).map fun u => u.r.length).sum
theorem lcnt_succ {ls : List Li} {i : Nat} (hi : i < ls.length) : lcnt ls (i + 1) = lcnt ls i + ls[i].r.length := by
  unfold lcnt
  rw [List.take_succ_eq_append_getElem hi, List.map_append, List.sum_append]
  simp
theorem lcnt_zero (ls : List Li) : lcnt ls 0 = 0 := by simp [lcnt]

def markV (k : Int) (u : Li) : Li := { u with r := seqL k u.r.length }
/-- The lists with the first i of them marked from k on. -/
def markM (k : Int) (ls : List Li) (i : Nat) : List Li := ls.mapIdx fun j u => if j < i then markV (k + (lcnt ls j : Int)) u else u
theorem markM_length (k : Int) (ls : List Li) (i : Nat) : (markM k ls i).length = ls.length := by simp [markM]
theorem markM_at {k : Int} {ls : List Li} {i j : Nat} (h : j < ls.length) (hj : j < (markM k ls i).length) : (markM k ls i)[j] = if j < i then markV (k + (lcnt ls j : Int)) ls[j] else ls[j] := by simp [markM]
theorem markM_zero (k : Int) (ls : List Li) : markM k ls 0 = ls := by
  apply List.ext_getElem?
  intro j
  simp [markM]
theorem markM_step {k : Int} {ls : List Li} {i : Nat} (h : i < ls.length) : (markM k ls i).set i (markV (k + (lcnt ls i : Int)) ls[i]) = markM k ls (i + 1) := by
  apply List.ext_getElem?
  intro j
  rw [List.getElem?_set, markM_length]
  by_cases e : i = j
  · subst e
    rw [if_pos rfl, if_pos h]
    simp [markM, h]
  · rw [if_neg e]
    simp only [markM, List.getElem?_mapIdx]
    by_cases hj : j < ls.length
    · rw [List.getElem?_eq_getElem hj]
      simp only [Option.map_some]
      congr 1
      by_cases hji : j < i
      · rw [if_pos hji, if_pos (by omega)]
      · rw [if_neg hji, if_neg (by omega)]
    · rw [List.getElem?_eq_none (by omega)]
      rfl

/-- The blocks of a slice of lists and of the lists. -/
def ItsL (A : Option Addr) (ls : List Li) (b : Nat) : Prop := (A = some ⟨b, 0, none⟩ ∧ ls ≠ []) ∨ ∃ (i : Nat) (u : Li), ls[i]? = some u ∧ Its u.a u.r b

theorem OwnL.its {w : World} {lo : Nat} {A : Option Addr} {ls : List Li} (h : OwnL w lo A ls) {b : Nat} (hb : ItsL A ls b) : lo ≤ b ∧ b < w.heap.size := by
  rcases h with h | ⟨g, cs, ea, hl, hr, hc, _⟩
  · subst h
    rcases hb with ⟨_, h⟩ | ⟨i, u, h, _⟩
    · exact absurd rfl h
    · simp at h
  · rcases hb with ⟨e, _⟩ | ⟨i, u, hu, e, hn⟩
    · rw [ea] at e; injection e with e; injection e with e; subst e; exact ⟨hl, hr.lt⟩
    · rcases (hc i u hu).2.2 with h3 | ⟨g', cs', e3, l3, hr', _⟩
      · exact absurd h3 hn
      · rw [e] at e3; injection e3 with e3; injection e3 with e3; subst e3; exact ⟨l3, hr'.lt⟩

def MarkedL (w : World) (lo : Nat) (A : Option Addr) (ls : List Li) (k : Int) (e : Ending) (w' : World) : Prop :=
  e = .returned (.int .i64 (k + (lcnt ls ls.length : Int))) ∧ OwnL w' lo A (markM k ls ls.length) ∧ Save (ItsL A ls) w w'

theorem mark_nextL {wr w1 : World} {lo : Nat} {A : Option Addr} {j : Nat} {ls : List Li} {k : Int} (H : OwnL wr lo A (markM k ls j)) (hlt : j < ls.length)
    (hO : OwnI w1 lo ls[j].a (seqL (k + (lcnt ls j : Int)) ls[j].r.length)) (hS : Save (Its ls[j].a ls[j].r) wr w1) : OwnL w1 lo A (markM k ls (j + 1)) := by
  have hlt' : j < (markM k ls j).length := by rw [markM_length]; exact hlt
  have hat : (markM k ls j)[j] = ls[j] := by rw [markM_at hlt, if_neg (by omega)]
  have h2 := H.setList (i := j) (w' := w1) (ys := seqL (k + (lcnt ls j : Int)) ls[j].r.length) hlt' (by simp [hat, seqL_length]) (by simpa [hat] using hO) (by simpa [hat] using hS)
  rw [← markM_step hlt]
  simpa [hat, markV] using h2

set_option maxHeartbeats 400000 in
theorem markIntSS_any (A : Option Addr) (ls : List Li) (c lo : Nat) (k : Int) (w : World) (h : OwnL w lo A ls) (hn : ls.length ≤ 1048576) (hu : ∀ u ∈ ls, u.r.length ≤ 1048576) (hk : 0 ≤ k) (hk' : k ≤ 2199030000000) :
    Calls Tryd.prog 30 #[.slice A ls.length c, .int .i64 k] w (MarkedL w lo A ls k) := by
  have HO := Lib.hid h; clear h
  have HU := Lib.hid hu; clear hu
  go_enter Tryd.func30, Tryd.ntmps30
  go_wp2
  go_loopw [1, 5] (fun v i wr => ∃ (j : Nat), j ≤ ls.length ∧ i = .int .i64 j ∧ v = .int .i64 (k + (lcnt ls j : Int)) ∧ lcnt ls j ≤ j * 1048577 ∧ Hid (OwnL wr lo A (markM k ls j)) ∧ Hid (Save (ItsL A ls) w wr)) (fun _ i _ => ls.length - (intOf i).toNat)
  case atStart => exact ⟨0, by omega, rfl, by simp [lcnt_zero], by simp [lcnt_zero], by show OwnL _ _ _ _; rw [markM_zero]; exact HO.out, Save.refl _ _⟩
  case round =>
    obtain ⟨j, hj, rfl, rfl, hcn, H, HS⟩ := hrel
    by_cases hlt : j < ls.length
    · have hlt' : j < (markM k ls j).length := by rw [markM_length]; exact hlt
      have hat : (markM k ls j)[j] = ls[j] := by rw [markM_at hlt, if_neg (by omega)]
      obtain ⟨g, rfl, _, _, c1, c3⟩ := H.out.at_ hlt'
      rw [hat] at c1 c3
      have C3 := Lib.hid c3
      have hul := HU.out ls[j] (List.getElem_mem hlt)
      have HCS := Lib.hid (lcnt_succ hlt)
      clear c3 hat hlt'
      go_wp2_with fail
      refine (markIntS_any _ _ _ lo _ _ C3.out hul (by omega) (by omega)).mono ?_
      rintro e w1 ⟨rfl, hO1, hS1⟩
      have HO1 := Lib.hid hO1; clear hO1
      have HS1 := Lib.hid hS1; clear hS1
      go_wp2
      go_roundw
      case rel => exact ⟨j + 1, by omega, by go_num, by rw [HCS.out]; go_num, by rw [HCS.out]; omega, mark_nextL H.out hlt HO1.out HS1.out, HS.out.trans (HS1.out.wider fun i hi => .inr ⟨j, ls[j], List.getElem?_eq_getElem hlt, hi⟩)⟩
      case measure => simp [intOf]; omega
    · obtain rfl : j = ls.length := by omega
      go_wp2
      go_ret
      exact ⟨rfl, H.out, HS.out⟩

set_option maxHeartbeats 400000 in
theorem heldIntSS_any (A : Option Addr) (ls : List Li) (c : Nat) (k : Int) (w : World) (h : Lls w w.heap.size A (markM k ls ls.length)) (hn : ls.length ≤ 1048576) (hu : ∀ u ∈ ls, u.r.length ≤ 1048576) (hk : 0 ≤ k) (hk' : k ≤ 2199030000000) :
    Calls Tryd.prog 31 #[.slice A ls.length c, .int .i64 k] w fun e w' => e = .returned (.int .i64 (k + (lcnt ls ls.length : Int))) ∧ Below w.heap.size w w' := by
  have HO := Lib.hid h; clear h
  have HU := Lib.hid hu; clear hu
  go_enter Tryd.func31, Tryd.ntmps31
  go_wp2
  go_loopw [1, 5] (fun v i wr => ∃ (j : Nat), j ≤ ls.length ∧ i = .int .i64 j ∧ v = .int .i64 (k + (lcnt ls j : Int)) ∧ lcnt ls j ≤ j * 1048577 ∧ Below w.heap.size w wr) (fun _ i _ => ls.length - (intOf i).toNat)
  case atStart => exact ⟨0, by omega, rfl, by simp [lcnt_zero], by simp [lcnt_zero], Below.refl _ _⟩
  case round =>
    obtain ⟨j, hj, rfl, rfl, hcn, hB⟩ := hrel
    by_cases hlt : j < ls.length
    · have hat : (markM k ls ls.length)[j]'(by rw [markM_length]; exact hlt) = markV (k + (lcnt ls j : Int)) ls[j] := by rw [markM_at hlt, if_pos hlt]
      obtain ⟨b, o, rfl, hb, c1, _, c3⟩ := (HO.out.keep hB).at_ (k := j) (by rw [markM_length]; exact hlt)
      rw [hat] at c1 c3
      simp only [markV, seqL_length] at c1 c3
      have C3 := Lib.hid (c3.more hB.size)
      have hul := HU.out ls[j] (List.getElem_mem hlt)
      have HCS := Lib.hid (lcnt_succ hlt)
      clear c3 hat
      go_wp2_with fail
      refine (heldIntS_any _ _ _ _ _ C3.out hul (by omega) (by omega)).mono ?_
      rintro e w1 ⟨rfl, hB1⟩
      have HB1 := Lib.hid (hB.trans (hB1.mono hB.size)); clear hB1
      go_wp2
      go_roundw
      case rel => exact ⟨j + 1, by omega, by go_num, by rw [HCS.out]; go_num, by rw [HCS.out]; omega, HB1.out⟩
      case measure => simp [intOf]; omega
    · obtain rfl : j = ls.length := by omega
      go_wp2
      go_ret
      exact ⟨rfl, hB⟩

end Go.Proofs.YtgnpgehekfhedaaDoor

/- What the walks of the laws with a list of lists as their answer share. -/

namespace Go.Proofs.YtgnpgehekfhedaaDoor
open Go.RowKit

theorem OwnL.kept {S : Nat → Prop} {w w' : World} {lo : Nat} {A : Option Addr} {ls : List Li} (h : OwnL w lo A ls) (hs : Save S w w') (hd : ∀ b, ItsL A ls b → ¬ S b) : OwnL w' lo A ls := by
  by_cases e : ls = []
  · exact .inl e
  · rcases h with h | ⟨g, cs, ea, hl, hr, hc, hdd⟩
    · exact .inl h
    · refine .inr ⟨g, cs, ea, hl, hr.save hs (hd g (.inl ⟨ea, e⟩)), fun k u hu => ?_, hdd⟩
      obtain ⟨h1, h2, h3⟩ := hc k u hu
      exact ⟨h1, h2, h3.kept hs fun b hb => hd b (.inr ⟨k, u, hu, hb⟩)⟩

theorem say_len {ls : List Li} {xs : List (List Int)} {m : Nat} (h : sayL ls = xs) (hx : xs.length ≤ m) : ls.length ≤ m := by rw [sayL_len' h]; exact hx
theorem say_lens {ls : List Li} {xs : List (List Int)} {m : Nat} (h : sayL ls = xs) (hx : ∀ x ∈ xs, x.length ≤ m) : ∀ u ∈ ls, u.r.length ≤ m := fun u hu => hx u.r (h ▸ sayL_mem hu)

end Go.Proofs.YtgnpgehekfhedaaDoor

/- A copy of a binary grammar, whose four lists lie apart; what the laws' marks write into a binary grammar, and what they find again. -/

namespace Go.Proofs.YtgnpgehekfhedaaDoor
open Go.RowKit

/-- The four lists of a binary grammar lie in blocks of their own. -/
structure ApartB (b : Bi) : Prop where
  po : ∀ q, ItsL b.Ap b.P q → ¬ ItsL b.Ao b.O q
  pe : ∀ q, ItsL b.Ap b.P q → ¬ Its b.Ae b.E q
  pf : ∀ q, ItsL b.Ap b.P q → ¬ ItsL b.Af b.F q
  oe : ∀ q, ItsL b.Ao b.O q → ¬ Its b.Ae b.E q
  of : ∀ q, ItsL b.Ao b.O q → ¬ ItsL b.Af b.F q
  ef : ∀ q, Its b.Ae b.E q → ¬ ItsL b.Af b.F q

/-- A binary grammar's copy: it says the same, its lists lie apart; nothing older has turned. -/
def GaveBA (w : World) (s : Bs) (e : Ending) (w' : World) : Prop :=
  ∃ b : Bi, e = .returned (.agg #[.int .i64 b.n, .int .i64 b.t, .slice b.Ap b.P.length b.cp, .slice b.Ao b.O.length b.co, .slice b.Ae b.E.length b.ce, .slice b.Af b.F.length b.cf]) ∧ b.say = s ∧ OwnB w' w.heap.size b ∧ CapB b ∧ Below w.heap.size w w' ∧ ApartB b

set_option maxHeartbeats 1000000 in
theorem toBinaryA_any (b : Bi) (w : World) (hr : ReadB w w.heap.size b) (hm : LenB 1048576 b) :
    Calls Tryd.prog 27 #[(.agg #[.int .i64 b.n, .int .i64 b.t, .slice b.Ap b.P.length b.cp, .slice b.Ao b.O.length b.co, .slice b.Ae b.E.length b.ce, .slice b.Af b.F.length b.cf])] w (GaveBA w b.say) := by
  have HR := Lib.hid hr; clear hr
  have HM := Lib.hid hm; clear hm
  go_enter Tryd.func27, Tryd.ntmps27
  go_wp2_with fail
  have hB0 : Below w.heap.size w (((w.alloc (.cells #[.int .i64 b.n, .int .i64 b.t, .slice b.Ap b.P.length b.cp, .slice b.Ao b.O.length b.co, .slice b.Ae b.E.length b.ce, .slice b.Af b.F.length b.cf] 46)).alloc (.cells #[.int .i64 0, .int .i64 0, .slice none 0 0, .slice none 0 0, .slice none 0 0, .slice none 0 0] 29)).alloc (.cells #[.int .i64 b.n, .int .i64 b.t, .slice none 0 0, .slice none 0 0, .slice none 0 0, .slice none 0 0] 29)) := by go_grown
  have hz0 : (((w.alloc (.cells #[.int .i64 b.n, .int .i64 b.t, .slice b.Ap b.P.length b.cp, .slice b.Ao b.O.length b.co, .slice b.Ae b.E.length b.ce, .slice b.Af b.F.length b.cf] 46)).alloc (.cells #[.int .i64 0, .int .i64 0, .slice none 0 0, .slice none 0 0, .slice none 0 0, .slice none 0 0] 29)).alloc (.cells #[.int .i64 b.n, .int .i64 b.t, .slice none 0 0, .slice none 0 0, .slice none 0 0, .slice none 0 0] 29)).heap.size = w.heap.size + 3 := by simp
  have Ra : Row (((w.alloc (.cells #[.int .i64 b.n, .int .i64 b.t, .slice b.Ap b.P.length b.cp, .slice b.Ao b.O.length b.co, .slice b.Ae b.E.length b.ce, .slice b.Af b.F.length b.cf] 46)).alloc (.cells #[.int .i64 0, .int .i64 0, .slice none 0 0, .slice none 0 0, .slice none 0 0, .slice none 0 0] 29)).alloc (.cells #[.int .i64 b.n, .int .i64 b.t, .slice none 0 0, .slice none 0 0, .slice none 0 0, .slice none 0 0] 29)) w.heap.size 46 #[.int .i64 b.n, .int .i64 b.t, .slice b.Ap b.P.length b.cp, .slice b.Ao b.O.length b.co, .slice b.Ae b.E.length b.ce, .slice b.Af b.F.length b.cf] := ((Row.new _ _ _).alloc _).alloc _
  have Rr : Row (((w.alloc (.cells #[.int .i64 b.n, .int .i64 b.t, .slice b.Ap b.P.length b.cp, .slice b.Ao b.O.length b.co, .slice b.Ae b.E.length b.ce, .slice b.Af b.F.length b.cf] 46)).alloc (.cells #[.int .i64 0, .int .i64 0, .slice none 0 0, .slice none 0 0, .slice none 0 0, .slice none 0 0] 29)).alloc (.cells #[.int .i64 b.n, .int .i64 b.t, .slice none 0 0, .slice none 0 0, .slice none 0 0, .slice none 0 0] 29)) (w.heap.size + 1) 29 #[.int .i64 0, .int .i64 0, .slice none 0 0, .slice none 0 0, .slice none 0 0, .slice none 0 0] := by
    have h := Row.new (w.alloc (.cells #[.int .i64 b.n, .int .i64 b.t, .slice b.Ap b.P.length b.cp, .slice b.Ao b.O.length b.co, .slice b.Ae b.E.length b.ce, .slice b.Af b.F.length b.cf] 46)) 29 #[.int .i64 0, .int .i64 0, .slice none 0 0, .slice none 0 0, .slice none 0 0, .slice none 0 0]
    rw [World.size_alloc] at h; exact h.alloc _
  have Ro : Row (((w.alloc (.cells #[.int .i64 b.n, .int .i64 b.t, .slice b.Ap b.P.length b.cp, .slice b.Ao b.O.length b.co, .slice b.Ae b.E.length b.ce, .slice b.Af b.F.length b.cf] 46)).alloc (.cells #[.int .i64 0, .int .i64 0, .slice none 0 0, .slice none 0 0, .slice none 0 0, .slice none 0 0] 29)).alloc (.cells #[.int .i64 b.n, .int .i64 b.t, .slice none 0 0, .slice none 0 0, .slice none 0 0, .slice none 0 0] 29)) (w.heap.size + 1 + 1) 29 #[.int .i64 b.n, .int .i64 b.t, .slice none 0 0, .slice none 0 0, .slice none 0 0, .slice none 0 0] := by
    have h := Row.new ((w.alloc (.cells #[.int .i64 b.n, .int .i64 b.t, .slice b.Ap b.P.length b.cp, .slice b.Ao b.O.length b.co, .slice b.Ae b.E.length b.ce, .slice b.Af b.F.length b.cf] 46)).alloc (.cells #[.int .i64 0, .int .i64 0, .slice none 0 0, .slice none 0 0, .slice none 0 0, .slice none 0 0] 29)) 29 #[.int .i64 b.n, .int .i64 b.t, .slice none 0 0, .slice none 0 0, .slice none 0 0, .slice none 0 0]
    rw [World.size_alloc, World.size_alloc] at h; exact h
  generalize (((w.alloc (.cells #[.int .i64 b.n, .int .i64 b.t, .slice b.Ap b.P.length b.cp, .slice b.Ao b.O.length b.co, .slice b.Ae b.E.length b.ce, .slice b.Af b.F.length b.cf] 46)).alloc (.cells #[.int .i64 0, .int .i64 0, .slice none 0 0, .slice none 0 0, .slice none 0 0, .slice none 0 0] 29)).alloc (.cells #[.int .i64 b.n, .int .i64 b.t, .slice none 0 0, .slice none 0 0, .slice none 0 0, .slice none 0 0] 29)) = W at hB0 hz0 Ra Rr Ro ⊢
  have HB0 := Lib.hid hB0; clear hB0
  have HZ0 : Hid (w.heap.size + 3 ≤ W.heap.size) := by show _ ≤ _; omega
  clear hz0
  have HRa0 := Lib.hid Ra; clear Ra
  have HRr0 := Lib.hid Rr; clear Rr
  have HRo0 := Lib.hid Ro; clear Ro
  refine (toIntSS_any _ _ _ _ ((HR.out.1.keep HB0.out).more HB0.out.size) HM.out.p HM.out.ps).mono ?_
  rintro e w1 ⟨A1, c1, l1, rfl, k1, o1, s1, hB1⟩
  have HU1 : Hid (∀ q, ItsL A1 l1 q → q < w1.heap.size) := fun q hq => (o1.its hq).2
  have HO1 : Hid (OwnL w1 (w.heap.size + 3) A1 l1) := o1.lower HZ0.out
  have HZ1' : Hid (w.heap.size + 3 ≤ w1.heap.size) := Nat.le_trans HZ0.out hB1.size
  have HRa1' := Lib.hid (HRa0.out.below hB1 HRa0.out.lt)
  have HRr1' := Lib.hid (HRr0.out.below hB1 HRr0.out.lt)
  have HRo1' := Lib.hid (HRo0.out.below hB1 HRo0.out.lt)
  have HB1' := Lib.hid (HB0.out.trans (hB1.mono HB0.out.size)); clear hB1 HRa0 HRr0 HRo0 HB0 HZ0 o1
  have K1 := Lib.hid k1; clear k1
  have S1 := Lib.hid s1; clear s1
  have av := HRa1'.out.cell 3
  have xv := HRo1'.out.cell 2
  have yv := HRo1'.out.frozen 2
  simp only [List.getElem?_toArray, List.getElem?_cons_succ, List.getElem?_cons_zero] at av xv
  go_wp2_with fail
  have HRa1 := Lib.hid (HRa1'.out.far (p := ⟨w.heap.size + 1 + 1, 2, none⟩) (by simp; omega) (.slice A1 l1.length c1))
  have HRr1 := Lib.hid (HRr1'.out.far (p := ⟨w.heap.size + 1 + 1, 2, none⟩) (by simp) (.slice A1 l1.length c1))
  have HRo1 : Hid (Row (w1.setCell ⟨w.heap.size + 1 + 1, 2, none⟩ (.slice A1 l1.length c1)) (w.heap.size + 1 + 1) 29 #[.int .i64 b.n, .int .i64 b.t, .slice A1 l1.length c1, .slice none 0 0, .slice none 0 0, .slice none 0 0]) := HRo1'.out.set 2 (.slice A1 l1.length c1)
  have HQ1 := Lib.hid (HO1.out.low (p := ⟨w.heap.size + 1 + 1, 2, none⟩) (by simp) (.slice A1 l1.length c1)); clear HO1
  have HB1 : Hid (Below w.heap.size w (w1.setCell ⟨w.heap.size + 1 + 1, 2, none⟩ (.slice A1 l1.length c1))) := HB1'.out.setCell (by simp; omega) _
  have HZ1 : Hid (w.heap.size + 3 ≤ (w1.setCell ⟨w.heap.size + 1 + 1, 2, none⟩ (.slice A1 l1.length c1)).heap.size) := by have := HZ1'.out; show _ ≤ _; simpa using this
  clear xv yv av HRa1' HRr1' HRo1' HB1' HZ1'
  have HN1 : Hid (w1.heap.size ≤ (w1.setCell ⟨w.heap.size + 1 + 1, 2, none⟩ (.slice A1 l1.length c1)).heap.size) := by show _ ≤ _; simp
  generalize (w1.setCell ⟨w.heap.size + 1 + 1, 2, none⟩ (.slice A1 l1.length c1)) = W1 at HN1 HRa1 HRr1 HRo1 HB1 HZ1 HQ1 ⊢
  have HO1 := HQ1; clear HQ1
  refine (toIntSS_any _ _ _ _ ((HR.out.2.1.keep HB1.out).more HB1.out.size) HM.out.o HM.out.os).mono ?_
  rintro e w2 ⟨A2, c2, l2, rfl, k2, o2, s2, hB2⟩
  have HV2 : Hid (∀ q, ItsL A2 l2 q → w1.heap.size ≤ q ∧ q < w2.heap.size) := fun q hq => ⟨Nat.le_trans HN1.out (o2.its hq).1, (o2.its hq).2⟩
  have HM2 : Hid (w1.heap.size ≤ w2.heap.size) := Nat.le_trans HN1.out hB2.size
  have HO2 : Hid (OwnL w2 (w.heap.size + 3) A2 l2) := o2.lower HZ1.out
  have HZ2' : Hid (w.heap.size + 3 ≤ w2.heap.size) := Nat.le_trans HZ1.out hB2.size
  have HRa2' := Lib.hid (HRa1.out.below hB2 HRa1.out.lt)
  have HRr2' := Lib.hid (HRr1.out.below hB2 HRr1.out.lt)
  have HRo2' := Lib.hid (HRo1.out.below hB2 HRo1.out.lt)
  have HP1 := Lib.hid (HO1.out.below hB2 (Nat.le_refl _)); clear HO1
  have HB2' := Lib.hid (HB1.out.trans (hB2.mono HB1.out.size)); clear hB2 HRa1 HRr1 HRo1 HB1 HZ1 o2
  have K2 := Lib.hid k2; clear k2
  have S2 := Lib.hid s2; clear s2
  have av := HRa2'.out.cell 4
  have xv := HRo2'.out.cell 3
  have yv := HRo2'.out.frozen 3
  simp only [List.getElem?_toArray, List.getElem?_cons_succ, List.getElem?_cons_zero] at av xv
  go_wp2_with fail
  have HRa2 := Lib.hid (HRa2'.out.far (p := ⟨w.heap.size + 1 + 1, 3, none⟩) (by simp; omega) (.slice A2 l2.length c2))
  have HRr2 := Lib.hid (HRr2'.out.far (p := ⟨w.heap.size + 1 + 1, 3, none⟩) (by simp) (.slice A2 l2.length c2))
  have HRo2 : Hid (Row (w2.setCell ⟨w.heap.size + 1 + 1, 3, none⟩ (.slice A2 l2.length c2)) (w.heap.size + 1 + 1) 29 #[.int .i64 b.n, .int .i64 b.t, .slice A1 l1.length c1, .slice A2 l2.length c2, .slice none 0 0, .slice none 0 0]) := HRo2'.out.set 3 (.slice A2 l2.length c2)
  have HQ1 := Lib.hid (HP1.out.low (p := ⟨w.heap.size + 1 + 1, 3, none⟩) (by simp) (.slice A2 l2.length c2)); clear HP1
  have HQ2 := Lib.hid (HO2.out.low (p := ⟨w.heap.size + 1 + 1, 3, none⟩) (by simp) (.slice A2 l2.length c2)); clear HO2
  have HB2 : Hid (Below w.heap.size w (w2.setCell ⟨w.heap.size + 1 + 1, 3, none⟩ (.slice A2 l2.length c2))) := HB2'.out.setCell (by simp; omega) _
  have HZ2 : Hid (w.heap.size + 3 ≤ (w2.setCell ⟨w.heap.size + 1 + 1, 3, none⟩ (.slice A2 l2.length c2)).heap.size) := by have := HZ2'.out; show _ ≤ _; simpa using this
  clear xv yv av HRa2' HRr2' HRo2' HB2' HZ2'
  have HN2 : Hid (w2.heap.size ≤ (w2.setCell ⟨w.heap.size + 1 + 1, 3, none⟩ (.slice A2 l2.length c2)).heap.size) := by show _ ≤ _; simp
  generalize (w2.setCell ⟨w.heap.size + 1 + 1, 3, none⟩ (.slice A2 l2.length c2)) = W2 at HN2 HRa2 HRr2 HRo2 HB2 HZ2 HQ1 HQ2 ⊢
  have HO1 := HQ1; clear HQ1
  have HO2 := HQ2; clear HQ2
  refine (toIntS_any _ _ _ _ ((HR.out.2.2.1.keep HB2.out).more HB2.out.size) HM.out.e).mono ?_
  rintro e w3 ⟨A3, c3, rfl, k3, o3, hB3⟩
  have HV3 : Hid (∀ q, Its A3 b.E q → w2.heap.size ≤ q ∧ q < w3.heap.size) := fun q hq => ⟨Nat.le_trans HN2.out (o3.its hq).1, (o3.its hq).2⟩
  have HM3 : Hid (w2.heap.size ≤ w3.heap.size) := Nat.le_trans HN2.out hB3.size
  have HO3 : Hid (OwnI w3 (w.heap.size + 3) A3 b.E) := o3.lower HZ2.out
  have HZ3' : Hid (w.heap.size + 3 ≤ w3.heap.size) := Nat.le_trans HZ2.out hB3.size
  have HRa3' := Lib.hid (HRa2.out.below hB3 HRa2.out.lt)
  have HRr3' := Lib.hid (HRr2.out.below hB3 HRr2.out.lt)
  have HRo3' := Lib.hid (HRo2.out.below hB3 HRo2.out.lt)
  have HP1 := Lib.hid (HO1.out.below hB3 (Nat.le_refl _)); clear HO1
  have HP2 := Lib.hid (HO2.out.below hB3 (Nat.le_refl _)); clear HO2
  have HB3' := Lib.hid (HB2.out.trans (hB3.mono HB2.out.size)); clear hB3 HRa2 HRr2 HRo2 HB2 HZ2 o3
  have K3 := Lib.hid k3; clear k3
  have av := HRa3'.out.cell 5
  have xv := HRo3'.out.cell 4
  have yv := HRo3'.out.frozen 4
  simp only [List.getElem?_toArray, List.getElem?_cons_succ, List.getElem?_cons_zero] at av xv
  go_wp2_with fail
  have HRa3 := Lib.hid (HRa3'.out.far (p := ⟨w.heap.size + 1 + 1, 4, none⟩) (by simp; omega) (.slice A3 b.E.length c3))
  have HRr3 := Lib.hid (HRr3'.out.far (p := ⟨w.heap.size + 1 + 1, 4, none⟩) (by simp) (.slice A3 b.E.length c3))
  have HRo3 : Hid (Row (w3.setCell ⟨w.heap.size + 1 + 1, 4, none⟩ (.slice A3 b.E.length c3)) (w.heap.size + 1 + 1) 29 #[.int .i64 b.n, .int .i64 b.t, .slice A1 l1.length c1, .slice A2 l2.length c2, .slice A3 b.E.length c3, .slice none 0 0]) := HRo3'.out.set 4 (.slice A3 b.E.length c3)
  have HQ1 := Lib.hid (HP1.out.low (p := ⟨w.heap.size + 1 + 1, 4, none⟩) (by simp) (.slice A3 b.E.length c3)); clear HP1
  have HQ2 := Lib.hid (HP2.out.low (p := ⟨w.heap.size + 1 + 1, 4, none⟩) (by simp) (.slice A3 b.E.length c3)); clear HP2
  have HQ3 := Lib.hid (HO3.out.low (p := ⟨w.heap.size + 1 + 1, 4, none⟩) (by simp) (.slice A3 b.E.length c3)); clear HO3
  have HB3 : Hid (Below w.heap.size w (w3.setCell ⟨w.heap.size + 1 + 1, 4, none⟩ (.slice A3 b.E.length c3))) := HB3'.out.setCell (by simp; omega) _
  have HZ3 : Hid (w.heap.size + 3 ≤ (w3.setCell ⟨w.heap.size + 1 + 1, 4, none⟩ (.slice A3 b.E.length c3)).heap.size) := by have := HZ3'.out; show _ ≤ _; simpa using this
  clear xv yv av HRa3' HRr3' HRo3' HB3' HZ3'
  have HN3 : Hid (w3.heap.size ≤ (w3.setCell ⟨w.heap.size + 1 + 1, 4, none⟩ (.slice A3 b.E.length c3)).heap.size) := by show _ ≤ _; simp
  generalize (w3.setCell ⟨w.heap.size + 1 + 1, 4, none⟩ (.slice A3 b.E.length c3)) = W3 at HN3 HRa3 HRr3 HRo3 HB3 HZ3 HQ1 HQ2 HQ3 ⊢
  have HO1 := HQ1; clear HQ1
  have HO2 := HQ2; clear HQ2
  have HO3 := HQ3; clear HQ3
  refine (toIntSS_any _ _ _ _ ((HR.out.2.2.2.keep HB3.out).more HB3.out.size) HM.out.f HM.out.fs).mono ?_
  rintro e w4 ⟨A4, c4, l4, rfl, k4, o4, s4, hB4⟩
  have HV4 : Hid (∀ q, ItsL A4 l4 q → w3.heap.size ≤ q) := fun q hq => Nat.le_trans HN3.out (o4.its hq).1
  have HO4 : Hid (OwnL w4 (w.heap.size + 3) A4 l4) := o4.lower HZ3.out
  have HZ4' : Hid (w.heap.size + 3 ≤ w4.heap.size) := Nat.le_trans HZ3.out hB4.size
  have HRa4' := Lib.hid (HRa3.out.below hB4 HRa3.out.lt)
  have HRr4' := Lib.hid (HRr3.out.below hB4 HRr3.out.lt)
  have HRo4' := Lib.hid (HRo3.out.below hB4 HRo3.out.lt)
  have HP1 := Lib.hid (HO1.out.below hB4 (Nat.le_refl _)); clear HO1
  have HP2 := Lib.hid (HO2.out.below hB4 (Nat.le_refl _)); clear HO2
  have HP3 := Lib.hid (HO3.out.below hB4 (Nat.le_refl _)); clear HO3
  have HB4' := Lib.hid (HB3.out.trans (hB4.mono HB3.out.size)); clear hB4 HRa3 HRr3 HRo3 HB3 HZ3 o4
  have K4 := Lib.hid k4; clear k4
  have S4 := Lib.hid s4; clear s4
  have x0 := HRo4'.out.cell 0
  have x1 := HRo4'.out.cell 1
  have x2 := HRo4'.out.cell 2
  have x3 := HRo4'.out.cell 3
  have x4 := HRo4'.out.cell 4
  have x5 := HRo4'.out.cell 5
  have y5 := HRo4'.out.frozen 5
  have r0 := HRr4'.out.cell 0
  have r1 := HRr4'.out.cell 1
  have r2 := HRr4'.out.cell 2
  have r3 := HRr4'.out.cell 3
  have r4 := HRr4'.out.cell 4
  have r5 := HRr4'.out.cell 5
  have q0 := HRr4'.out.frozen 0
  have q1 := HRr4'.out.frozen 1
  have q2 := HRr4'.out.frozen 2
  have q3 := HRr4'.out.frozen 3
  have q4 := HRr4'.out.frozen 4
  have q5 := HRr4'.out.frozen 5
  simp only [List.getElem?_toArray, List.getElem?_cons_succ, List.getElem?_cons_zero] at x0 x1 x2 x3 x4 x5 r0 r1 r2 r3 r4 r5
  go_wp2_with fail
  refine bodyPost_ret (v := .agg #[.int .i64 b.n, .int .i64 b.t, .slice A1 l1.length c1, .slice A2 l2.length c2, .slice A3 b.E.length c3, .slice A4 l4.length c4]) (by simp [results, Tryd.results27, go_sem, r0, r1, r2, r3, r4, r5]) rfl ⟨⟨b.n, b.t, A1, l1, c1, A2, l2, c2, A3, b.E, c3, A4, l4, c4⟩, rfl, ?_, ?_, ⟨K1.out, K2.out, K3.out, K4.out⟩, ?_, ⟨?_, ?_, ?_, ?_, ?_, ?_⟩⟩
  · show Bs.mk _ _ _ _ _ _ = Bs.mk _ _ _ _ _ _
    rw [S1.out, S2.out, S4.out]
  · refine ⟨?_, ?_, ?_, ?_⟩
    · exact (((((((HP1.out.low (by simp) _).low (by simp) _).low (by simp) _).low (by simp) _).low (by simp) _).low (by simp) _).low (by simp) _).lower (by omega)
    · exact (((((((HP2.out.low (by simp) _).low (by simp) _).low (by simp) _).low (by simp) _).low (by simp) _).low (by simp) _).low (by simp) _).lower (by omega)
    · exact (((((((HP3.out.low (by simp) _).low (by simp) _).low (by simp) _).low (by simp) _).low (by simp) _).low (by simp) _).low (by simp) _).lower (by omega)
    · exact (((((((HO4.out.low (by simp) _).low (by simp) _).low (by simp) _).low (by simp) _).low (by simp) _).low (by simp) _).low (by simp) _).lower (by omega)
  · exact ((((((HB4'.out.setCell (by simp; omega) _).setCell (by simp) _).setCell (by simp) _).setCell (by simp) _).setCell (by simp) _).setCell (by simp) _).setCell (by simp) _
  · exact fun q h k => by have := HU1.out q h; have := HV2.out q k; omega
  · exact fun q h k => by have := HU1.out q h; have := HV3.out q k; have := HM2.out; omega
  · exact fun q h k => by have := HU1.out q h; have := HV4.out q k; have := HM2.out; have := HM3.out; omega
  · exact fun q h k => by have := HV2.out q h; have := HV3.out q k; omega
  · exact fun q h k => by have := HV2.out q h; have := HV4.out q k; have := HM3.out; omega
  · exact fun q h k => by have := HV3.out q h; have := HV4.out q k; omega

theorem markM_ne {k : Int} {ls : List Li} {n : Nat} (h : markM k ls n ≠ []) : ls ≠ [] := fun e => h (by subst e; rfl)
theorem OwnL.save' {S : Nat → Prop} {w w' : World} {lo : Nat} {A : Option Addr} {ls : List Li} {k : Int} {n : Nat} (h : OwnL w lo A (markM k ls n)) (hs : Save S w w') (hd : ∀ b, ItsL A ls b → ¬ S b) : OwnL w' lo A (markM k ls n) := by
  refine h.kept hs fun b hb => hd b ?_
  rcases hb with ⟨e, hn⟩ | ⟨i, u, hu, he, hr⟩
  · exact .inl ⟨e, markM_ne hn⟩
  · have hi := (List.getElem?_eq_some_iff.1 hu).1
    have hi' : i < ls.length := by rw [markM_length] at hi; exact hi
    have hat := markM_at (k := k) (i := n) hi' hi
    rw [List.getElem?_eq_getElem hi, hat] at hu
    injection hu with hu
    refine .inr ⟨i, ls[i], List.getElem?_eq_getElem hi', ?_⟩
    split at hu
    · subst hu
      exact ⟨he, fun e => hr (by show seqL _ _ = []; rw [e]; rfl)⟩
    · subst hu
      exact ⟨he, hr⟩
theorem OwnI.save' {S : Nat → Prop} {w w' : World} {lo : Nat} {A : Option Addr} {xs : List Int} {k : Int} (h : OwnI w lo A (seqL k xs.length)) (hs : Save S w w') (hd : ∀ b, Its A xs b → ¬ S b) : OwnI w' lo A (seqL k xs.length) :=
  h.kept hs fun b hb => hd b ⟨hb.1, fun e => hb.2 (by rw [e]; rfl)⟩


/-- The blocks of a binary grammar. -/
def ItsB (b : Bi) (q : Nat) : Prop := ItsL b.Ap b.P q ∨ ItsL b.Ao b.O q ∨ Its b.Ae b.E q ∨ ItsL b.Af b.F q
theorem OwnB.its {w : World} {lo : Nat} {b : Bi} (h : OwnB w lo b) {q : Nat} (hq : ItsB b q) : lo ≤ q ∧ q < w.heap.size := by
  rcases hq with hq | hq | hq | hq
  · exact h.1.its hq
  · exact h.2.1.its hq
  · exact h.2.2.1.its hq
  · exact h.2.2.2.its hq
theorem OwnB.kept {S : Nat → Prop} {w w' : World} {lo : Nat} {b : Bi} (h : OwnB w lo b) (hs : Save S w w') (hd : ∀ q, ItsB b q → ¬ S q) : OwnB w' lo b :=
  ⟨h.1.kept hs fun q hq => hd q (.inl hq), h.2.1.kept hs fun q hq => hd q (.inr (.inl hq)), h.2.2.1.kept hs fun q hq => hd q (.inr (.inr (.inl hq))), h.2.2.2.kept hs fun q hq => hd q (.inr (.inr (.inr hq)))⟩

/-- How many numbers lists hold. -/
def lcn (ls : List Li) : Nat := lcnt ls ls.length
theorem lcnt_le {ls : List Li} (h : ∀ u ∈ ls, u.r.length ≤ 1048576) : ∀ i, i ≤ ls.length → lcnt ls i ≤ i * 1048577
  | 0, _ => by simp [lcnt_zero]
  | i + 1, hi => by
    have h1 := lcnt_le h i (by omega)
    rw [lcnt_succ (by omega)]
    have := h ls[i] (List.getElem_mem (by omega))
    omega
theorem lcn_le {ls : List Li} (h1 : ls.length ≤ 1048576) (h : ∀ u ∈ ls, u.r.length ≤ 1048576) : lcn ls ≤ 1099512676352 := by
  have := lcnt_le h ls.length (Nat.le_refl _)
  have h2 : ls.length * 1048577 ≤ 1048576 * 1048577 := Nat.mul_le_mul_right _ h1
  unfold lcn
  omega
/-- A binary grammar with all its numbers marked from k on. -/
def markB (k : Int) (b : Bi) : Bi := { b with
  P := markM k b.P b.P.length
  O := markM (k + (lcn b.P : Int)) b.O b.O.length
  E := seqL (k + (lcn b.P : Int) + (lcn b.O : Int)) b.E.length
  F := markM (k + (lcn b.P : Int) + (lcn b.O : Int) + (b.E.length : Int)) b.F b.F.length }
def cntBi (b : Bi) : Nat := lcn b.P + lcn b.O + b.E.length + lcn b.F

def MarkedB (w : World) (lo : Nat) (b : Bi) (k : Int) (e : Ending) (w' : World) : Prop :=
  e = .returned (.int .i64 (k + (cntBi b : Int))) ∧ OwnB w' lo (markB k b) ∧ Save (ItsB b) w w'

set_option maxHeartbeats 1000000 in
theorem markBinary_any (b : Bi) (lo : Nat) (k : Int) (w : World) (h : OwnB w lo b) (ha : ApartB b) (hm : LenB 1048576 b) (hk : 0 ≤ k) (hk' : k ≤ 16) :
    Calls Tryd.prog 18 #[(.agg #[.int .i64 b.n, .int .i64 b.t, .slice b.Ap b.P.length b.cp, .slice b.Ao b.O.length b.co, .slice b.Ae b.E.length b.ce, .slice b.Af b.F.length b.cf]), .int .i64 k] w (MarkedB w lo b k) := by
  have HO := Lib.hid h; clear h
  have HA := Lib.hid ha; clear ha
  have HM := Lib.hid hm; clear hm
  have hlp := lcn_le HM.out.p HM.out.ps
  have hlo := lcn_le HM.out.o HM.out.os
  have hle := HM.out.e
  have HBX : Hid (Below w.heap.size w (w.alloc (.cells #[.int .i64 b.n, .int .i64 b.t, .slice b.Ap b.P.length b.cp, .slice b.Ao b.O.length b.co, .slice b.Ae b.E.length b.ce, .slice b.Af b.F.length b.cf] 29))) := by show Below _ _ _; go_grown
  have HR0 : Hid (Row (w.alloc (.cells #[.int .i64 b.n, .int .i64 b.t, .slice b.Ap b.P.length b.cp, .slice b.Ao b.O.length b.co, .slice b.Ae b.E.length b.ce, .slice b.Af b.F.length b.cf] 29)) w.heap.size 29 #[.int .i64 b.n, .int .i64 b.t, .slice b.Ap b.P.length b.cp, .slice b.Ao b.O.length b.co, .slice b.Ae b.E.length b.ce, .slice b.Af b.F.length b.cf]) := Row.new _ _ _
  have HO0 := Lib.hid (HO.out.below HBX.out (Nat.le_refl _))
  go_enter Tryd.func18, Tryd.ntmps18
  go_wp2_with fail
  generalize (w.alloc (.cells #[.int .i64 b.n, .int .i64 b.t, .slice b.Ap b.P.length b.cp, .slice b.Ao b.O.length b.co, .slice b.Ae b.E.length b.ce, .slice b.Af b.F.length b.cf] 29)) = W at HBX HR0 HO0 ⊢
  have HNI : Hid (∀ q, ItsB b q → q < w.heap.size) := fun q hq => (HO.out.its hq).2
  refine (markIntSS_any _ _ _ lo _ _ HO0.out.1 HM.out.p HM.out.ps hk (by omega)).mono ?_
  rintro e w1 ⟨rfl, hP, hS1⟩
  have HP := Lib.hid hP; clear hP
  have HO1 := Lib.hid (HO0.out.2.1.kept hS1 fun q h h' => HA.out.po q h' h)
  have HE1 := Lib.hid (HO0.out.2.2.1.kept hS1 fun q h h' => HA.out.pe q h' h)
  have HF1 := Lib.hid (HO0.out.2.2.2.kept hS1 fun q h h' => HA.out.pf q h' h)
  have HR1 := Lib.hid (HR0.out.save hS1 fun h => by have := HNI.out _ (.inl h); omega)
  have HS1 : Hid (Save (ItsB b) W w1) := hS1.wider fun q h => .inl h
  clear hS1 HO0 HR0
  have a3 := HR1.out.cell 3
  simp only [List.getElem?_toArray, List.getElem?_cons_succ, List.getElem?_cons_zero] at a3
  have e1 : k + ((lcnt b.P b.P.length : Nat) : Int) = k + (lcn b.P : Int) := rfl
  rw [e1]
  clear e1
  go_wp2_with fail
  refine (markIntSS_any _ _ _ lo _ _ HO1.out HM.out.o HM.out.os (by omega) (by omega)).mono ?_
  rintro e w2 ⟨rfl, hO, hS2⟩
  have HQO := Lib.hid hO; clear hO
  have HP2 := Lib.hid (HP.out.save' hS2 fun q h h' => HA.out.po q h h')
  have HE2 := Lib.hid (HE1.out.kept hS2 fun q h h' => HA.out.oe q h' h)
  have HF2 := Lib.hid (HF1.out.kept hS2 fun q h h' => HA.out.of q h' h)
  have HR2 := Lib.hid (HR1.out.save hS2 fun h => by have := HNI.out _ (.inr (.inl h)); omega)
  have HS2 : Hid (Save (ItsB b) W w2) := HS1.out.trans (hS2.wider fun q h => .inr (.inl h))
  clear hS2 HP HE1 HF1 HR1 HO1 HS1 a3
  have a4 := HR2.out.cell 4
  simp only [List.getElem?_toArray, List.getElem?_cons_succ, List.getElem?_cons_zero] at a4
  have e1 : k + (lcn b.P : Int) + ((lcnt b.O b.O.length : Nat) : Int) = k + (lcn b.P : Int) + (lcn b.O : Int) := rfl
  rw [e1]
  clear e1
  go_wp2_with fail
  refine (markIntS_any _ _ _ lo _ _ HE2.out HM.out.e (by omega) (by omega)).mono ?_
  rintro e w3 ⟨rfl, hE, hS3⟩
  have HQE := Lib.hid hE; clear hE
  have HP3 := Lib.hid (HP2.out.save' hS3 fun q h h' => HA.out.pe q h h')
  have HO3 := Lib.hid (HQO.out.save' hS3 fun q h h' => HA.out.oe q h h')
  have HF3 := Lib.hid (HF2.out.kept hS3 fun q h h' => HA.out.ef q h' h)
  have HR3 := Lib.hid (HR2.out.save hS3 fun h => by have := HNI.out _ (.inr (.inr (.inl h))); omega)
  have HS3 : Hid (Save (ItsB b) W w3) := HS2.out.trans (hS3.wider fun q h => .inr (.inr (.inl h)))
  clear hS3 HP2 HE2 HF2 HR2 HQO HS2 a4
  have a5 := HR3.out.cell 5
  simp only [List.getElem?_toArray, List.getElem?_cons_succ, List.getElem?_cons_zero] at a5
  go_wp2_with fail
  refine (markIntSS_any _ _ _ lo _ _ HF3.out HM.out.f HM.out.fs (by omega) (by omega)).mono ?_
  rintro e w4 ⟨rfl, hF, hS4⟩
  have HQF := Lib.hid hF; clear hF
  have HP4 := Lib.hid (HP3.out.save' hS4 fun q h h' => HA.out.pf q h h')
  have HO4 := Lib.hid (HO3.out.save' hS4 fun q h h' => HA.out.of q h h')
  have HE4 := Lib.hid (HQE.out.save' hS4 fun q h h' => HA.out.ef q h h')
  have HS4 : Hid (Save (ItsB b) W w4) := HS3.out.trans (hS4.wider fun q h => .inr (.inr (.inr h)))
  clear hS4 HP3 HO3 HQE HR3 HF3 HS3 a5
  have HV : Hid (k + (lcn b.P : Int) + (lcn b.O : Int) + (b.E.length : Int) + ((lcnt b.F b.F.length : Nat) : Int) = k + (cntBi b : Int)) := by
    show _ = _
    have : (lcnt b.F b.F.length : Nat) = lcn b.F := rfl
    unfold cntBi
    omega
  go_wp2
  go_ret
  exact ⟨ret_int HV.out, ⟨HP4.out, HO4.out, HE4.out, HQF.out⟩, (Save.of_below HBX.out).trans HS4.out⟩

end Go.Proofs.YtgnpgehekfhedaaDoor

/- The program's BinaryGrammar. -/

namespace Go.Proofs.YtgnpgehekfhedaaDoor
open Go.RowKit

/-- Whether a binary grammar is good and its rules are a good grammar. -/
noncomputable def okBG (s : Bs) : Bool := bP (GoodBs s) && goodG s.n s.t (bRules s.P s.O s.E)

theorem long_mem {long : Int} {xs : List (List Int)} (h : LongTo long xs xs.length) {x : List Int} (hx : x ∈ xs) : (x.length : Int) = long := by
  obtain ⟨k, hk, e⟩ := List.getElem_of_mem hx
  exact h k x hk (by rw [← e]; exact List.getElem?_eq_getElem hk)
theorem goodB_long {b : Bi} (h : GoodBs b.say) : ∀ u ∈ b.P ++ b.O, 2 ≤ u.r.length ∧ u.r.length ≤ 3 := by
  intro u hu
  rcases List.mem_append.1 hu with hu | hu
  · have := long_mem h.2.2.1.1 (sayL_mem hu); omega
  · have := long_mem h.2.2.2.1.1 (sayL_mem hu); omega
theorem bRules_fit {b : Bi} {rs : List Ru} (hf : FitB b.say) (h : rs.map Ru.abs = bRules (sayL b.P) (sayL b.O) b.E) : FitR rs := by
  intro u hu x hx
  have hm : u.abs ∈ bRules (sayL b.P) (sayL b.O) b.E := h ▸ List.mem_map.2 ⟨u, hu, rfl⟩
  unfold bRules at hm
  rcases List.mem_append.1 hm with hm | hm
  · obtain ⟨y, hy, e⟩ := List.mem_map.1 hm
    have er : y.tail = u.r := congrArg Prod.snd e
    have hx' : x ∈ y := List.mem_of_mem_tail (er ▸ hx)
    rcases List.mem_append.1 hy with hy | hy
    · exact hf.1 y hy x hx'
    · exact hf.2.1 y hy x hx'
  · obtain ⟨y, _, e⟩ := List.mem_map.1 hm
    have er : [] = u.r := congrArg Prod.snd e
    rw [← er] at hx
    cases hx
theorem bRules_len {P O : List (List Int)} {E : List Int} : (bRules P O E).length = P.length + O.length + E.length := by unfold bRules; simp; omega
theorem bRules_lens {b : Bi} (hm : LenB 1048576 b) : ∀ u ∈ bRules (sayL b.P) (sayL b.O) b.E, u.2.length ≤ 1048576 := by
  intro u hu
  unfold bRules at hu
  rcases List.mem_append.1 hu with hu | hu
  · obtain ⟨y, hy, rfl⟩ := List.mem_map.1 hu
    have : y.tail.length ≤ y.length := by rw [List.length_tail]; omega
    rcases List.mem_append.1 hy with hy | hy
    · obtain ⟨v, hv, rfl⟩ := List.mem_map.1 hy; have := hm.ps v hv; show (v.r.tail).length ≤ _; omega
    · obtain ⟨v, hv, rfl⟩ := List.mem_map.1 hy; have := hm.os v hv; show (v.r.tail).length ≤ _; omega
  · obtain ⟨y, _, rfl⟩ := List.mem_map.1 hu
    simp

theorem rls_at {w w' : World} {B lo c : Nat} {A : Option Addr} {ds : List Ru} {ss : List (Int × List Int)} (h : RulD w B ds ss) (h2 : w'.ownsRow lo 67 2 (.slice A ds.length c) ds.length (ds.flatMap cellsU)) (hB : Below B w w') (hB2 : B ≤ w'.heap.size) : Rls w' w'.heap.size A ds := by
  obtain ⟨A', c', e, _, hR⟩ := rls_of h rfl h2 hB hB2
  injection e with e1
  rw [e1]; exact hR


end Go.Proofs.YtgnpgehekfhedaaDoor

/- What the functions that tell the members of a set answer. -/

namespace Go.Proofs.YtgnpgehekfhedaaDoor
open Go.RowKit

/-- Where g, a new rising list of just the members of a set of which P holds; else none. -/
def GaveP (w : World) (g : Bool) (P : (Int → Bool) → Prop) (e : Ending) (w' : World) : Prop :=
  ∃ ys, (g = true → ∃ S, P S ∧ Rises ys ∧ ∀ x, x ∈ ys ↔ S x = true) ∧ (g = false → ys = []) ∧ ys.length ≤ 40 ∧ GaveIB w ys g e w'

theorem same_list {g : Bool} {P : (Int → Bool) → Prop} {ys zs : List Int} (uniq : ∀ S T, P S → P T → S = T) (h1 : g = true → ∃ S, P S ∧ Rises ys ∧ ∀ x, x ∈ ys ↔ S x = true) (h2 : g = false → ys = [])
    (k1 : g = true → ∃ S, P S ∧ Rises zs ∧ ∀ x, x ∈ zs ↔ S x = true) (k2 : g = false → zs = []) : ys = zs := by
  cases g
  · rw [h2 rfl, k2 rfl]
  · obtain ⟨S, a1, a2, a3⟩ := h1 rfl
    obtain ⟨T, b1, b2, b3⟩ := k1 rfl
    have e := uniq S T a1 b1
    subst e
    exact rises_unique a2 b2 fun x => (a3 x).trans (b3 x).symm

/-- S are the growing ones. -/
def IsGrow (ss : List (Int × List Int)) (S : Int → Bool) : Prop := ∃ P, IsLeast wayProd noS ss P ∧ IsLeast (wayGrow P) noS ss S
theorem isGrow_unique {ss : List (Int × List Int)} {S T : Int → Bool} (h : IsGrow ss S) (k : IsGrow ss T) : S = T := by
  obtain ⟨P, h1, h2⟩ := h
  obtain ⟨Q, k1, k2⟩ := k
  have e := h1.unique k1
  subst e
  exact h2.unique k2

end Go.Proofs.YtgnpgehekfhedaaDoor

/- The program's BinaryNull. -/

namespace Go.Proofs.YtgnpgehekfhedaaDoor
open Go.RowKit

/-- Rules whose least set of nonterminals that derive nothing can be told: not too many, of small numbers. -/
structure SmallR (ss : List (Int × List Int)) : Prop where
  len : ss.length ≤ 1048576
  left : ∀ r ∈ ss, 0 ≤ r.1 ∧ r.1 < 40
  fit : ∀ r ∈ ss, ∀ x ∈ r.2, F64 x
  short : ∀ r ∈ ss, r.2.length ≤ 4

set_option maxRecDepth 20000 in
set_option maxHeartbeats 1000000 in
theorem nullB_any (A : Option Addr) (c : Nat) (rs : List Ru) (w : World) (hx : Rls w w.heap.size A rs) (hs : SmallR (rs.map Ru.abs)) :
    Calls Tryd.prog 130 #[.slice A rs.length c] w (GaveSet w (IsLeast wayNull noS (rs.map Ru.abs))) := by
  have hA : AddsFit wayNull (rs.map Ru.abs) := fun r hr y hy => by
    have e : y = r.1 := by simpa [wayNull] using hy
    subst e
    exact hs.left r hr
  have HC := Lib.hid (closeLefts_any wayNull (fun _ => rfl) A c rs hA 173 #[] (fun _ => True) w hx (by have h := hs.len; rw [List.length_map] at h; exact h) enter_null trivial (fun _ _ _ _ => trivial) fun b _ v S u _ hS hI hm => by
    have h := allNull_any b S u.a u.r u.c v hS hI (hs.fit _ hm) (hs.short _ hm)
    exact h.mono fun e v' ⟨h1, h2⟩ => ⟨h1, by subst h2; exact Below.refl _ _⟩)
  clear hx hs hA
  go_enter Tryd.func130, Tryd.ntmps130
  go_wp2_with fail
  refine HC.out.mono ?_
  rintro e w1 ⟨b, S, rfl, h1, h2, h3, h4⟩
  have H1 := Lib.hid h1; have H2 := Lib.hid h2; have H3 := Lib.hid h3; have H4 := Lib.hid h4
  clear h1 h2 h3 h4
  go_wp2
  go_ret
  exact ⟨b, S, rfl, H1.out, H2.out, H3.out, H4.out⟩

theorem nonB_small {n x : Int} (h : nonB n x = true) (hn : n ≤ 40) : 0 ≤ x ∧ x < 40 := by have := nonB_is h; omega
theorem goodB_lefts {s : Bs} (h : GoodBs s) : ∀ r ∈ bRules s.P s.O s.E, 0 ≤ r.1 ∧ r.1 < 40 := by
  have hn := h.1.2
  have one : ∀ {n t long : Int} {xs : List (List Int)}, GoodLs n t long xs → n ≤ 40 → 2 ≤ long → ∀ x ∈ xs, 0 ≤ (ruleOf x).1 ∧ (ruleOf x).1 < 40 := by
    intro n t long xs hg hn hl x hx
    obtain ⟨k, hk, e⟩ := List.getElem_of_mem hx
    have h1 := hg.2.1 k x hk (by rw [← e]; exact List.getElem?_eq_getElem hk)
    have h2 := long_mem hg.1 hx
    rcases x with _ | ⟨y, x⟩
    · simp at h2; omega
    · exact nonB_small h1.1 hn
  intro r hr
  unfold bRules at hr
  rcases List.mem_append.1 hr with hr | hr
  · obtain ⟨x, hx, rfl⟩ := List.mem_map.1 hr
    rcases List.mem_append.1 hx with hx | hx
    · exact one h.2.2.1 hn (by omega) x hx
    · exact one h.2.2.2.1 hn (by omega) x hx
  · obtain ⟨x, hx, rfl⟩ := List.mem_map.1 hr
    obtain ⟨k, hk, e⟩ := List.getElem_of_mem hx
    exact nonB_small (h.2.2.2.2.1.1 k x hk (by rw [← e]; exact List.getElem?_eq_getElem hk)) hn
theorem smallB {b : Bi} (h : GoodBs b.say) (ht : b.P.length + b.O.length + b.E.length ≤ 1048576) (hf : FitB b.say) : SmallR (bRules (sayL b.P) (sayL b.O) b.E) := by
  refine ⟨by rw [bRules_len, sayL_len, sayL_len]; exact ht, goodB_lefts h, fun r hr x hx => ?_, fun r hr => ?_⟩
  · unfold bRules at hr
    rcases List.mem_append.1 hr with hr | hr
    · obtain ⟨y, hy, rfl⟩ := List.mem_map.1 hr
      have hx' : x ∈ y := List.mem_of_mem_tail hx
      rcases List.mem_append.1 hy with hy | hy
      · exact hf.1 y hy x hx'
      · exact hf.2.1 y hy x hx'
    · obtain ⟨y, _, rfl⟩ := List.mem_map.1 hr
      cases hx
  · unfold bRules at hr
    rcases List.mem_append.1 hr with hr | hr
    · obtain ⟨y, hy, rfl⟩ := List.mem_map.1 hr
      show y.tail.length ≤ 4
      rw [List.length_tail]
      rcases List.mem_append.1 hy with hy | hy
      · have := long_mem h.2.2.1.1 hy; omega
      · have := long_mem h.2.2.2.1.1 hy; omega
    · obtain ⟨y, _, rfl⟩ := List.mem_map.1 hr
      simp


end Go.Proofs.YtgnpgehekfhedaaDoor

/- Plain mathematics of chapter 6: what stands for what. No program, no memory. -/

namespace Go.Proofs.YtgnpgehekfhedaaDoor

/-- The left number l stands directly for x, where N derive nothing. -/
def DirB (N : Int → Bool) (P O : List (List Int)) (l x : Int) : Prop := [l, x] ∈ O ∨ (∃ y, [l, x, y] ∈ P ∧ N y = true) ∨ (∃ y, [l, y, x] ∈ P ∧ N y = true)

/-- S is the least set that holds S0 and whatever stands directly for one of it. -/
structure IsUp (D : Int → Int → Prop) (S0 S : Int → Bool) : Prop where
  base : ∀ x, S0 x = true → S x = true
  up : ∀ l x, D l x → S x = true → S l = true
  least : ∀ S' : Int → Bool, (∀ x, S0 x = true → S' x = true) → (∀ l x, D l x → S' x = true → S' l = true) → ∀ x, S x = true → S' x = true

theorem IsUp.unique {D : Int → Int → Prop} {S0 S T : Int → Bool} (h : IsUp D S0 S) (k : IsUp D S0 T) : S = T := by
  funext x
  have h1 := h.least T k.base k.up x
  have h2 := k.least S h.base h.up x
  cases e : S x <;> cases e' : T x <;> simp_all

/-- What stands for x, in steps. -/
def Ups (D : Int → Int → Prop) (x y : Int) : Prop := ∀ S : Int → Prop, S x → (∀ l z, D l z → S z → S l) → S y
theorem Ups.refl (D : Int → Int → Prop) (x : Int) : Ups D x x := fun _ h _ => h
theorem Ups.step {D : Int → Int → Prop} {x y l : Int} (h : Ups D x y) (hd : D l y) : Ups D x l := fun S h0 hs => hs l y hd (h S h0 hs)
theorem Ups.trans {D : Int → Int → Prop} {x y z : Int} (h : Ups D x y) (k : Ups D y z) : Ups D x z := fun S h0 hs => k S (h S h0 hs) hs
theorem Ups.first {D : Int → Int → Prop} {x y : Int} (h : Ups D x y) : y = x ∨ ∃ l, D l x ∧ Ups D l y := by
  have := h (fun y => y = x ∨ ∃ l, D l x ∧ Ups D l y) (.inl rfl) fun l z hd hz => by
    rcases hz with rfl | ⟨m, h1, h2⟩
    · exact .inr ⟨l, hd, Ups.refl D l⟩
    · exact .inr ⟨m, h1, h2.step hd⟩
  exact this
theorem IsUp.of {D : Int → Int → Prop} {S0 S : Int → Bool} (h : ∀ y, S y = true ↔ ∃ x, S0 x = true ∧ Ups D x y) : IsUp D S0 S :=
  ⟨fun x hx => (h x).2 ⟨x, hx, Ups.refl D x⟩, fun l x hd hx => by
    obtain ⟨z, h1, h2⟩ := (h x).1 hx
    exact (h l).2 ⟨z, h1, h2.step hd⟩, fun S' h0 hs x hx => by
    obtain ⟨z, h1, h2⟩ := (h x).1 hx
    exact h2 (fun y => S' y = true) (h0 z h1) hs⟩
theorem IsUp.ups {D : Int → Int → Prop} {S0 S : Int → Bool} (h : IsUp D S0 S) (y : Int) : S y = true ↔ ∃ x, S0 x = true ∧ Ups D x y := by
  have k : IsUp D S0 (fun y => bP (∃ x, S0 x = true ∧ Ups D x y)) := IsUp.of fun y => ⟨bP_is, bP_t⟩
  rw [h.unique k]
  exact ⟨bP_is, bP_t⟩

/-- What a symbol's row begins with. -/
noncomputable def rowOf (D : Int → Int → Prop) (x : Int) : Int → Bool := fun l => bP (if x < 0 then D l x else l = x)

/-- A row out of all that stands for a symbol: those of it that are no tokens. -/
theorem isUp_row {D : Int → Int → Prop} (hD : ∀ l x, D l x → 0 ≤ l) {x : Int} {S T : Int → Bool} (h : IsUp D (fun y => decide (y = x)) S) (hT : ∀ y, T y = true ↔ S y = true ∧ 0 ≤ y) : IsUp D (rowOf D x) T := by
  refine IsUp.of fun y => ?_
  rw [hT, h.ups]
  have nn : ∀ {l y}, 0 ≤ l → Ups D l y → 0 ≤ y := fun {l y} hl hu => hu (fun y => 0 ≤ y) hl fun l z hd _ => hD l z hd
  constructor
  · rintro ⟨⟨z, hz, hu⟩, hy⟩
    have e : z = x := of_decide_eq_true hz
    subst e
    by_cases hx : z < 0
    · rcases hu.first with rfl | ⟨l, h1, h2⟩
      · omega
      · exact ⟨l, bP_t (by rw [if_pos hx]; exact h1), h2⟩
    · exact ⟨z, bP_t (by rw [if_neg hx]), hu⟩
  · rintro ⟨l, hl, hu⟩
    have hl := bP_is hl
    by_cases hx : x < 0
    · rw [if_pos hx] at hl
      exact ⟨⟨x, decide_eq_true rfl, Ups.trans ((Ups.refl D x).step hl) hu⟩, nn (hD l x hl) hu⟩
    · rw [if_neg hx] at hl
      subst hl
      exact ⟨⟨l, decide_eq_true rfl, hu⟩, nn (by omega) hu⟩

/-- Some nonterminal stands for itself by a step or more. -/
def RoundD (D : Int → Int → Prop) : Prop := ∃ l x, D l x ∧ 0 ≤ x ∧ Ups D l x
theorem round_up {D : Int → Int → Prop} {x : Int} {S : Int → Bool} (h : IsUp D (fun l => bP (D l x)) S) : S x = true ↔ ∃ l, D l x ∧ Ups D l x := by
  rw [h.ups]
  exact ⟨fun ⟨l, h1, h2⟩ => ⟨l, bP_is h1, h2⟩, fun ⟨l, h1, h2⟩ => ⟨l, bP_t h1, h2⟩⟩

end Go.Proofs.YtgnpgehekfhedaaDoor

/- The program's closed: a row, and all that stands for one of it in steps. -/

namespace Go.Proofs.YtgnpgehekfhedaaDoor
open Go.RowKit

def Fit40 (S : Int → Bool) : Prop := ∀ x, S x = true → 0 ≤ x ∧ x < 40
/-- What the table says stands directly for what. -/
def DT6 (T : Int → Int → Bool) : Int → Int → Prop := fun l x => T x l = true

theorem stepR_is (T : Int → Int → Bool) (R : Int → Bool) (x : Int) : stepR T R x = true ↔ R x = true ∨ ∃ y, R y = true ∧ 0 ≤ y ∧ y < 40 ∧ T y x = true := by
  unfold stepR anyR
  rw [List.any_cons, Bool.or_eq_true, List.any_map, List.any_eq_true]
  constructor
  · rintro (h | ⟨y, hy, h⟩)
    · exact .inl h
    · have := (upK_mem R 40 y).1 hy
      exact .inr ⟨y, this.1, this.2.1, this.2.2, h⟩
  · rintro (h | ⟨y, h1, h2, h3, h4⟩)
    · exact .inl h
    · exact .inr ⟨y, (upK_mem R 40 y).2 ⟨h1, h2, h3⟩, h4⟩
theorem stepR_fit {T : Int → Int → Bool} {R : Int → Bool} (hT : ∀ x, Fit40 (T x)) (hR : Fit40 R) : Fit40 (stepR T R) := fun x hx => by
  rcases (stepR_is T R x).1 hx with h | ⟨y, _, _, _, h⟩
  · exact hR x h
  · exact hT y x h
theorem fit_eq {S R : Int → Bool} (hS : Fit40 S) (hR : Fit40 R) (h : rowA S = rowA R) : S = R := by
  funext x
  by_cases hx : 0 ≤ x ∧ x < 40
  · have := rowA_inj h x.toNat (by omega)
    rwa [show ((x.toNat : Nat) : Int) = x by omega] at this
  · have h1 : ∀ {Z : Int → Bool}, Fit40 Z → Z x = false := fun {Z} hZ => by
      cases e : Z x
      · rfl
      · exact absurd (hZ x e) hx
    rw [h1 hS, h1 hR]
theorem upK_sub {S R : Int → Bool} (h : ∀ x, S x = true → R x = true) : ∀ k, (upK S k).Sublist (upK R k)
  | 0 => List.Sublist.slnil
  | k + 1 => by
    have ih := upK_sub h k
    unfold upK
    by_cases h1 : S k = true
    · rw [if_pos h1, if_pos (h _ h1)]
      exact ih.append (List.Sublist.refl _)
    · rw [if_neg h1]
      split
      · exact ih.trans (List.sublist_append_left _ _)
      · exact ih
theorem upK_less {S R : Int → Bool} (h : ∀ x, S x = true → R x = true) (hne : rowA R ≠ rowA S) : (upK S 40).length < (upK R 40).length := by
  have h1 := upK_sub h 40
  have h2 := h1.length_le
  apply Classical.byContradiction
  intro hc
  have h3 := h1.eq_of_length (by omega)
  refine hne (rowA_ext fun k hk => ?_)
  have h4 := upK_mem S 40 k
  have h5 := upK_mem R 40 k
  rw [h3, h5] at h4
  cases e : S k <;> cases e' : R k
  · rfl
  · rw [e, e'] at h4; simp at h4; omega
  · rw [e, e'] at h4; simp at h4; omega
  · rfl

/-- On the way to the least set. -/
structure OnUp (T : Int → Int → Bool) (S0 R : Int → Bool) : Prop where
  fit : Fit40 R
  base : ∀ x, S0 x = true → R x = true
  sound : ∀ S' : Int → Bool, (∀ x, S0 x = true → S' x = true) → (∀ l x, DT6 T l x → S' x = true → S' l = true) → ∀ x, R x = true → S' x = true
theorem OnUp.start {T : Int → Int → Bool} {S0 : Int → Bool} (h : Fit40 S0) : OnUp T S0 S0 := ⟨h, fun _ h => h, fun _ h0 _ x hx => h0 x hx⟩
theorem OnUp.step {T : Int → Int → Bool} {S0 R : Int → Bool} (hT : ∀ x, Fit40 (T x)) (h : OnUp T S0 R) : OnUp T S0 (stepR T R) :=
  ⟨stepR_fit hT h.fit, fun x hx => (stepR_is T R x).2 (.inl (h.base x hx)), fun S' h0 hs x hx => by
    rcases (stepR_is T R x).1 hx with h1 | ⟨y, h1, _, _, h2⟩
    · exact h.sound S' h0 hs x h1
    · exact hs x y h2 (h.sound S' h0 hs y h1)⟩
theorem OnUp.end_ {T : Int → Int → Bool} {S0 R : Int → Bool} (hT : ∀ x, Fit40 (T x)) (h : OnUp T S0 R) (he : rowA (stepR T R) = rowA R) : IsUp (DT6 T) S0 R := by
  have e := fit_eq (stepR_fit hT h.fit) h.fit he
  refine ⟨h.base, fun l x hd hx => ?_, h.sound⟩
  rw [← e]
  have := h.fit x hx
  exact (stepR_is T R l).2 (.inr ⟨x, hx, this.1, this.2, hd⟩)

/-- A row of all that stands for one of S0. -/
def GaveUps (w : World) (T : Int → Int → Bool) (S0 : Int → Bool) (e : Ending) (w' : World) : Prop :=
  ∃ S, e = .returned (.agg (rowA S)) ∧ Fit40 S ∧ IsUp (DT6 T) S0 S ∧ Below w.heap.size w w'

set_option maxRecDepth 20000 in
set_option maxHeartbeats 1000000 in
theorem closed_any (K : Nat) (T : Int → Int → Bool) (S0 : Int → Bool) (w : World) (hT : TabC w K T) (hfT : ∀ x, Fit40 (T x)) (hf : Fit40 S0) :
    Calls Tryd.prog 84 #[.pointer (some ⟨K, 0, none⟩), .agg (rowA S0)] w (GaveUps w T S0) := by
  have HZ := Lib.hid info_row
  have HS := Lib.hid size_row
  have HT := Lib.hid hT; clear hT
  have HFT := Lib.hid hfT; clear hfT
  have HO := Lib.hid (OnUp.start (T := T) hf); clear hf
  go_enter Tryd.func84, Tryd.ntmps84
  have HB0 : Hid (Below w.heap.size w ((w.alloc (.cells (rowA S0) 97)).alloc (.cells (rowA noS) 97))) := by show Below _ _ _; go_grown
  have HR0 : Hid (Row ((w.alloc (.cells (rowA S0) 97)).alloc (.cells (rowA noS) 97)) w.heap.size 97 (rowA S0)) := (Row.new _ _ _).alloc _
  have HR1 : Hid (Row ((w.alloc (.cells (rowA S0) 97)).alloc (.cells (rowA noS) 97)) (w.heap.size + 1) 97 (rowA noS)) := by
    have h := Row.new (w.alloc (.cells (rowA S0) 97)) 97 (rowA noS)
    rw [World.size_alloc] at h
    exact h
  go_wp2_with (first
    | with_reducible refine wpList_boxA rfl 97 (.tmp 1) rfl (rowA S0) rfl ?_
    | with_reducible refine wpList_allocA rfl 97 rfl (rowA noS) 40 HZ.out ?_
    | with_reducible refine wpList_loadA rfl 97 (.tmp 3) rfl w.heap.size 0 rfl (rowA S0) 40 4 Tryd.underlying97 (HS.out _) HR0.out.rowCells ?_)
  refine (step_any K T S0 _ (HT.out.keep HB0.out HT.out.1)).mono ?_
  have hW2 : w.heap.size + 2 = ((w.alloc (.cells (rowA S0) 97)).alloc (.cells (rowA noS) 97)).heap.size := by simp
  generalize (w.alloc (.cells (rowA S0) 97)).alloc (.cells (rowA noS) 97) = W at HB0 HR0 HR1 hW2 ⊢
  rintro e w1 ⟨rfl, hB1⟩
  have hs1 := hB1.size
  have HB1 := Lib.hid (HB0.out.trans (hB1.mono (by omega)))
  have HR01 := Lib.hid (HR0.out.below hB1 HR0.out.lt)
  have HR11 := Lib.hid (HR1.out.below hB1 HR1.out.lt)
  clear HB0 HR0 HR1 hB1
  have hKN : w.heap.size + 2 ≤ w1.heap.size := by omega
  have HRN : Hid (Row (w1.alloc (.cells (rowA noS) 97)) w1.heap.size 97 (rowA noS)) := Row.new _ _ _
  have HB2 : Hid (Below w.heap.size w ((w1.alloc (.cells (rowA noS) 97)).setRow w1.heap.size (rowA (stepR T S0)))) := below_setRow (HB1.out.alloc (by omega) _) (by omega) _
  have HR02 : Hid (Row ((w1.alloc (.cells (rowA noS) 97)).setRow w1.heap.size (rowA (stepR T S0))) w.heap.size 97 (rowA S0)) := (HR01.out.alloc _).setRow_far (by omega) _
  have HR12 : Hid (Row ((w1.alloc (.cells (rowA noS) 97)).setRow w1.heap.size (rowA (stepR T S0))) (w.heap.size + 1) 97 (rowA noS)) := (HR11.out.alloc _).setRow_far (by omega) _
  have HR22 : Hid (Row ((w1.alloc (.cells (rowA noS) 97)).setRow w1.heap.size (rowA (stepR T S0))) w1.heap.size 97 (rowA (stepR T S0))) := HRN.out.setRow _
  go_wp2_with (first
    | with_reducible refine wpList_allocA rfl 97 rfl (rowA noS) 40 HZ.out ?_
    | with_reducible refine wpList_storeA rfl 97 (.tmp 5) (.tmp 8) rfl w1.heap.size (rowA (stepR T S0)) rfl rfl 97 (rowA noS) HRN.out (HS.out _) (by rw [rowA_size, rowA_size]) (rowA_all _) ?_)
  clear HB1 HR01 HR11 HRN
  generalize (w1.alloc (.cells (rowA noS) 97)).setRow w1.heap.size (rowA (stepR T S0)) = W2 at HB2 HR02 HR12 HR22 ⊢
  generalize w1.heap.size = KN at hKN HR22 ⊢
  go_simp
  go_loopg [] (40 - (upK S0 40).length) (fun g wr => ∃ R, g = 40 - (upK R 40).length ∧ Hid (OnUp T S0 R) ∧ Hid (Below w.heap.size w wr) ∧ Hid (Row wr w.heap.size 97 (rowA R)) ∧ Hid (Row wr (w.heap.size + 1) 97 (rowA noS)) ∧ Hid (Row wr KN 97 (rowA (stepR T R))))
  case atStart => exact ⟨S0, rfl, HO.out, HB2.out, HR02.out, HR12.out, HR22.out⟩
  case round =>
    clear HO HB2 HR02 HR12 HR22
    obtain ⟨R, hgk, HO, HB, HR0, HR1, HRN⟩ := hrel
    go_wp2_with (first
      | with_reducible refine wpList_loadA rfl 97 (.tmp 3) rfl w.heap.size 0 rfl (rowA R) 40 4 Tryd.underlying97 (HS.out _) HR0.out.rowCells ?_
      | with_reducible refine wpList_loadA rfl 97 (.tmp 5) rfl KN 0 rfl (rowA (stepR T R)) 40 4 Tryd.underlying97 (HS.out _) HRN.out.rowCells ?_
      | with_reducible refine wpList_neqA rfl 97 (.tmp 9) (.tmp 10) _ rfl (stepR T R) R rfl rfl 4 Tryd.underlying97 Tryd.underlying4 (by kernel_rfl) (by kernel_rfl) ?_
      | with_reducible refine wpList_storeA rfl 97 (.tmp 4) (.tmp 16) rfl (w.heap.size + 1) (rowA R) rfl rfl 97 (rowA noS) HR1.out (HS.out _) (by rw [rowA_size, rowA_size]) (rowA_all _) ?_)
    · rename_i hne
      have hneq : ¬ rowA (stepR T R) = rowA R := bP_no (by simpa using hne)
      have hless := upK_less (fun x hx => (stepR_is T R x).2 (.inl hx)) hneq
      have hmax := upK_len (stepR T R) 40
      clear hne hneq
      go_simp
      have HD : Hid (Below wr.heap.size wr wr.drew) := by show Below _ _ _; go_grown
      have hws := HB.out.size
      have hws2 := HR1.out.lt
      have HON := Lib.hid (HO.out.step HFT.out)
      have HRD := Lib.hid (HRN.out.below HD.out HRN.out.lt)
      have HCALL : Hid (Calls Tryd.prog 133 #[.pointer (some ⟨K, 0, none⟩), .agg (rowA (stepR T R))] wr.drew fun e w' => e = .returned (.agg (rowA (stepR T (stepR T R)))) ∧ Below wr.drew.heap.size wr.drew w') := step_any K T (stepR T R) _ ((HT.out.keep HB.out HT.out.1).keep HD.out (Nat.lt_of_lt_of_le HT.out.1 hws))
      refine wp_region_any (by kernel_rfl) ?_
      change wpAny _ _ _ _ _ _ _ (World.drew _)
      refine wpAny_take (i := 1) (v := .pointer (some ⟨K, 0, none⟩)) rfl (by kernel_rfl) (by kernel_rfl) (by kernel_rfl) (fun _ _ _ h => h) (Or.inl ⟨by rfl, fun _ => by rfl⟩) ?_
      refine wpAny_ready (rs := [0, 2]) (by kernel_rfl) (by simp) ?_
      refine AllReady.cons rfl (fun K1 hK1 => step_loadA rfl 97 (.tmp 5) rfl KN 0 rfl (rowA (stepR T R)) 40 4 Tryd.underlying97 (HS.out _) HRD.out.rowCells (hK1 _ _ ?_)) (AllReady.cons rfl (fun K1 hK1 => step_loadA rfl 97 (.tmp 5) rfl KN 0 rfl (rowA (stepR T R)) 40 4 Tryd.underlying97 (HS.out _) HRD.out.rowCells (hK1 _ _ ?_)) AllReady.nil)
      · refine wpAny_ready (rs := [2]) (by kernel_rfl) (by simp) (AllReady.cons rfl (fun K2 hK2 => step_loadA rfl 97 (.tmp 5) rfl KN 0 rfl (rowA (stepR T R)) 40 4 Tryd.underlying97 (HS.out _) HRD.out.rowCells (hK2 _ _ ?_)) AllReady.nil)
        refine wpAny_ready (rs := [3]) (by kernel_rfl) (by simp) (AllReady.cons rfl (fun K3 hK3 => ?_) AllReady.nil)
        go_simp
        refine HCALL.out.mono ?_
        rintro e w2 ⟨rfl, hB2⟩
        refine hK3 _ _ ?_
        have hB2' : Below wr.heap.size wr w2 := HD.out.trans (hB2.mono HD.out.size)
        have HQ0 := Lib.hid (HR0.out.below hB2' HR0.out.lt)
        have HQ1 := Lib.hid (HR1.out.below hB2' HR1.out.lt)
        have HQN := Lib.hid (HRN.out.below hB2' HRN.out.lt)
        have HBQ := Lib.hid (HB.out.trans (hB2'.mono hws))
        have HX0 := Lib.hid (HQ0.out.setRow (rowA (stepR T R)))
        have HX1 := Lib.hid (HQ1.out.setRow_far (k := w.heap.size) (by omega) (rowA (stepR T R)))
        have HXN := Lib.hid (HQN.out.setRow_far (k := w.heap.size) (by omega) (rowA (stepR T R)))
        have HY0 := Lib.hid (HX0.out.setRow_far (k := KN) (by omega) (rowA (stepR T (stepR T R))))
        have HY1 := Lib.hid (HX1.out.setRow_far (k := KN) (by omega) (rowA (stepR T (stepR T R))))
        have HYN := Lib.hid (HXN.out.setRow (rowA (stepR T (stepR T R))))
        have HBY := Lib.hid (below_setRow (below_setRow HBQ.out (Nat.le_refl w.heap.size) (rowA (stepR T R))) (g := KN) (by omega) (rowA (stepR T (stepR T R))))
        clear hB2 hB2'
        refine wpAny_ready (rs := [4]) (by kernel_rfl) (by simp) (AllReady.cons rfl (fun K4 hK4 => step_storeA rfl 97 (.tmp 3) (.tmp 12) rfl w.heap.size (rowA (stepR T R)) rfl rfl 97 (rowA R) HQ0.out (HS.out _) (by rw [rowA_size, rowA_size]) (rowA_all _) (hK4 _ _ ?_)) AllReady.nil)
        refine wpAny_ready (rs := [5]) (by kernel_rfl) (by simp) (AllReady.cons rfl (fun K5 hK5 => step_storeA rfl 97 (.tmp 5) (.tmp 15) rfl KN (rowA (stepR T (stepR T R))) rfl rfl 97 (rowA (stepR T R)) HXN.out (HS.out _) (by rw [rowA_size, rowA_size]) (rowA_all _) (hK5 _ _ ?_)) AllReady.nil)
        refine wpAny_done (by kernel_rfl) ?_ _
        go_simp
        go_wp2
        go_roundg (40 - (upK (stepR T R) 40).length)
        case measure => omega
        case rel => exact ⟨stepR T R, rfl, HON.out, HBY.out, HY0.out, HY1.out, HYN.out⟩
      · refine wpAny_ready (rs := [0, 3]) (by kernel_rfl) (by simp) (AllReady.cons rfl (fun K2 hK2 => step_loadA rfl 97 (.tmp 5) rfl KN 0 rfl (rowA (stepR T R)) 40 4 Tryd.underlying97 (HS.out _) HRD.out.rowCells (hK2 _ _ ?_)) (AllReady.cons rfl (fun K3 hK3 => ?_) AllReady.nil))
        · refine wpAny_ready (rs := [3]) (by kernel_rfl) (by simp) (AllReady.cons rfl (fun K3 hK3 => ?_) AllReady.nil)
          go_simp
          refine HCALL.out.mono ?_
          rintro e w2 ⟨rfl, hB2⟩
          refine hK3 _ _ ?_
          have hB2' : Below wr.heap.size wr w2 := HD.out.trans (hB2.mono HD.out.size)
          have HQ0 := Lib.hid (HR0.out.below hB2' HR0.out.lt)
          have HQ1 := Lib.hid (HR1.out.below hB2' HR1.out.lt)
          have HQN := Lib.hid (HRN.out.below hB2' HRN.out.lt)
          have HBQ := Lib.hid (HB.out.trans (hB2'.mono hws))
          have HX0 := Lib.hid (HQ0.out.setRow (rowA (stepR T R)))
          have HX1 := Lib.hid (HQ1.out.setRow_far (k := w.heap.size) (by omega) (rowA (stepR T R)))
          have HXN := Lib.hid (HQN.out.setRow_far (k := w.heap.size) (by omega) (rowA (stepR T R)))
          have HY0 := Lib.hid (HX0.out.setRow_far (k := KN) (by omega) (rowA (stepR T (stepR T R))))
          have HY1 := Lib.hid (HX1.out.setRow_far (k := KN) (by omega) (rowA (stepR T (stepR T R))))
          have HYN := Lib.hid (HXN.out.setRow (rowA (stepR T (stepR T R))))
          have HBY := Lib.hid (below_setRow (below_setRow HBQ.out (Nat.le_refl w.heap.size) (rowA (stepR T R))) (g := KN) (by omega) (rowA (stepR T (stepR T R))))
          clear hB2 hB2'
          refine wpAny_ready (rs := [4]) (by kernel_rfl) (by simp) (AllReady.cons rfl (fun K4 hK4 => step_storeA rfl 97 (.tmp 3) (.tmp 12) rfl w.heap.size (rowA (stepR T R)) rfl rfl 97 (rowA R) HQ0.out (HS.out _) (by rw [rowA_size, rowA_size]) (rowA_all _) (hK4 _ _ ?_)) AllReady.nil)
          refine wpAny_ready (rs := [5]) (by kernel_rfl) (by simp) (AllReady.cons rfl (fun K5 hK5 => step_storeA rfl 97 (.tmp 5) (.tmp 15) rfl KN (rowA (stepR T (stepR T R))) rfl rfl 97 (rowA (stepR T R)) HXN.out (HS.out _) (by rw [rowA_size, rowA_size]) (rowA_all _) (hK5 _ _ ?_)) AllReady.nil)
          refine wpAny_done (by kernel_rfl) ?_ _
          go_simp
          go_wp2
          go_roundg (40 - (upK (stepR T R) 40).length)
          case measure => omega
          case rel => exact ⟨stepR T R, rfl, HON.out, HBY.out, HY0.out, HY1.out, HYN.out⟩
        · go_simp
          refine HCALL.out.mono ?_
          rintro e w2 ⟨rfl, hB2⟩
          refine hK3 _ _ ?_
          have hB2' : Below wr.heap.size wr w2 := HD.out.trans (hB2.mono HD.out.size)
          have HQ0 := Lib.hid (HR0.out.below hB2' HR0.out.lt)
          have HQ1 := Lib.hid (HR1.out.below hB2' HR1.out.lt)
          have HQN := Lib.hid (HRN.out.below hB2' HRN.out.lt)
          have HBQ := Lib.hid (HB.out.trans (hB2'.mono hws))
          have HX0 := Lib.hid (HQ0.out.setRow (rowA (stepR T R)))
          have HX1 := Lib.hid (HQ1.out.setRow_far (k := w.heap.size) (by omega) (rowA (stepR T R)))
          have HXN := Lib.hid (HQN.out.setRow_far (k := w.heap.size) (by omega) (rowA (stepR T R)))
          have HY0 := Lib.hid (HX0.out.setRow_far (k := KN) (by omega) (rowA (stepR T (stepR T R))))
          have HY1 := Lib.hid (HX1.out.setRow_far (k := KN) (by omega) (rowA (stepR T (stepR T R))))
          have HYN := Lib.hid (HXN.out.setRow (rowA (stepR T (stepR T R))))
          have HBY := Lib.hid (below_setRow (below_setRow HBQ.out (Nat.le_refl w.heap.size) (rowA (stepR T R))) (g := KN) (by omega) (rowA (stepR T (stepR T R))))
          clear hB2 hB2'
          refine wpAny_ready (rs := [0]) (by kernel_rfl) (by simp) (AllReady.cons rfl (fun K2 hK2 => step_loadA rfl 97 (.tmp 5) rfl KN 0 rfl (rowA (stepR T R)) 40 4 Tryd.underlying97 (HS.out _) HQN.out.rowCells (hK2 _ _ ?_)) AllReady.nil)
          refine wpAny_ready (rs := [4]) (by kernel_rfl) (by simp) (AllReady.cons rfl (fun K4 hK4 => step_storeA rfl 97 (.tmp 3) (.tmp 12) rfl w.heap.size (rowA (stepR T R)) rfl rfl 97 (rowA R) HQ0.out (HS.out _) (by rw [rowA_size, rowA_size]) (rowA_all _) (hK4 _ _ ?_)) AllReady.nil)
          refine wpAny_ready (rs := [5]) (by kernel_rfl) (by simp) (AllReady.cons rfl (fun K5 hK5 => step_storeA rfl 97 (.tmp 5) (.tmp 15) rfl KN (rowA (stepR T (stepR T R))) rfl rfl 97 (rowA (stepR T R)) HXN.out (HS.out _) (by rw [rowA_size, rowA_size]) (rowA_all _) (hK5 _ _ ?_)) AllReady.nil)
          refine wpAny_done (by kernel_rfl) ?_ _
          go_simp
          go_wp2
          go_roundg (40 - (upK (stepR T R) 40).length)
          case measure => omega
          case rel => exact ⟨stepR T R, rfl, HON.out, HBY.out, HY0.out, HY1.out, HYN.out⟩
    · rename_i he
      have heq : rowA (stepR T R) = rowA R := bP_is (by simpa using he)
      have HU := Lib.hid (HO.out.end_ HFT.out heq)
      clear he heq
      have HX1 := Lib.hid (HR1.out.setRow (rowA R))
      have HBX := Lib.hid (below_setRow HB.out (Nat.le_succ w.heap.size) (rowA R))
      refine bodyPost_ret (v := .agg (rowA R)) ?_ rfl ⟨R, rfl, HO.out.fit, HU.out, HBX.out⟩
      exact results_cell_row Tryd.results84 _ _ (w.heap.size + 1) 97 (rowA R) (0, 0) _ rfl HX1.out Tryd.underlying97 rfl (HS.out _)

end Go.Proofs.YtgnpgehekfhedaaDoor

/- What the reference's checks of a binary grammar answer: l5Less, l5Symbol, l5Rising, l1Rising, GoodBinary. -/

namespace Go.Proofs.YtgnpgehekfhedaaDoor
open Go.RowKit
open Go.Sort (grow)

set_option maxHeartbeats 400000 in
theorem l5Symbol_any (b : Bi) (x : Int) (w : World) (hn : 1 ≤ b.n) (hn' : b.n ≤ 40) (ht : 1 ≤ b.t) (ht' : b.t ≤ 4) :
    Calls Tryd.prog 87 #[(.agg #[.int .i64 b.n, .int .i64 b.t, .slice b.Ap b.P.length b.cp, .slice b.Ao b.O.length b.co, .slice b.Ae b.E.length b.ce, .slice b.Af b.F.length b.cf]), .int .i64 x] w fun e w' => e = .returned (.bool (symB b.n b.t x)) ∧ Below w.heap.size w w' := by
  have HS := Lib.hid (sym_in (x := x) hn ht)
  go_enter Tryd.func87, Tryd.ntmps87
  go_wp2_with fail
  refine (l1In_any _ _ _ _).mono ?_
  rintro e w1 ⟨rfl, rfl⟩
  go_wp2
  go_ret
  exact ⟨ret_b HS.out, by go_grown⟩

set_option maxHeartbeats 400000 in
theorem l5Less_any (A A' : Option Addr) (xs ys : List Int) (c c' : Nat) (w : World) (hx : Ints w w.heap.size A xs) (hy : Ints w w.heap.size A' ys) (h1 : xs.length ≤ 1048576) (hl1 : xs.length ≤ ys.length) (hl2 : ys.length ≤ xs.length) :
    Calls Tryd.prog 149 #[.slice A xs.length c, .slice A' ys.length c'] w fun e w' => e = .returned (.bool (bP (cmpL xs ys < 0))) ∧ Below w.heap.size w w' := by
  have HX := Lib.hid hx; clear hx
  have HY := Lib.hid hy; clear hy
  go_enter Tryd.func149, Tryd.ntmps149
  go_wp2
  go_loopw [8] (fun i wr => ∃ (k : Nat), k ≤ xs.length ∧ i = .int .i64 k ∧ Below w.heap.size w wr ∧ Hid (cmpL xs ys = cmpL (xs.drop k) (ys.drop k))) (fun i _ => xs.length - (intOf i).toNat)
  case atStart => exact ⟨0, by omega, rfl, Below.refl _ _, rfl⟩
  case round =>
    obtain ⟨k, hk, rfl, hB, H⟩ := hrel
    by_cases hlt : k < xs.length
    · have hlt' : k < ys.length := by omega
      obtain ⟨b, o, rfl, hb, c1⟩ := (HX.out.keep hB).at_ hlt
      obtain ⟨b', o', rfl, hb', c2⟩ := (HY.out.keep hB).at_ hlt'
      have HD := Lib.hid (cmpL_drop hlt hlt')
      rcases Int.lt_trichotomy xs[k] ys[k] with h | h | h
      · have HN : Hid (bP (cmpL xs ys < 0) = true) := bP_t (by rw [H.out, HD.out, if_pos h]; omega)
        have ht : (xs[k] != ys[k]) = true := bne_t (by omega)
        go_wp2
        go_quiet (fail)
        go_wp2
        go_quiet (fail)
        go_wp2
        go_ret
        exact ⟨ret_b HN.out.symm, below_drewN (below_drewN hB _) _⟩
      · have HN : Hid (cmpL xs ys = cmpL (xs.drop (k + 1)) (ys.drop (k + 1))) := by
          show _ = _
          rw [H.out, HD.out, if_neg (by omega), if_neg (by omega)]
        have ht : (xs[k] != ys[k]) = false := bne_f h
        clear h
        go_wp2
        go_quiet (fail)
        go_wp2
        go_roundw
        case rel => exact ⟨k + 1, by omega, by go_num, below_drewN hB _, HN.out⟩
        case measure => simp [intOf]; omega
      · have HN : Hid (bP (cmpL xs ys < 0) = false) := bP_f (by rw [H.out, HD.out, if_neg (by omega), if_pos h]; omega)
        have ht : (xs[k] != ys[k]) = true := bne_t (by omega)
        have hlt2 : ¬ xs[k] < ys[k] := by omega
        have HD2 : Hid (decide (xs[k] < ys[k]) = bP (cmpL xs ys < 0)) := (decide_eq_false hlt2).trans HN.out.symm
        clear h
        go_wp2
        go_quiet (fail)
        go_wp2
        go_quiet (fail)
        go_wp2
        go_ret
        exact ⟨ret_b HD2.out, below_drewN (below_drewN hB _) _⟩
    · have HN : Hid (bP (cmpL xs ys < 0) = false) := bP_f (by rw [H.out, cmpL_end hlt (by omega)]; omega)
      go_wp2
      go_ret
      exact ⟨ret_b HN.out.symm, hB⟩

set_option maxRecDepth 20000 in
set_option maxHeartbeats 400000 in
theorem l1Rising_any (A : Option Addr) (xs : List Int) (c : Nat) (n : Int) (w : World) (hx : Ints w w.heap.size A xs) (h1 : xs.length ≤ 1048576) :
    Calls Tryd.prog 81 #[.slice A xs.length c, .int .i64 0, .int .i64 (n - 1)] w fun e w' => e = .returned (.bool (bP (GoodE n xs))) ∧ Below w.heap.size w w' := by
  have HX := Lib.hid hx; clear hx
  go_enter Tryd.func81, Tryd.ntmps81
  go_wp2
  go_loopw [11] (fun i wr => ∃ (k : Nat), k ≤ xs.length ∧ i = .int .i64 k ∧ Below w.heap.size w wr ∧ Hid (NonTo n xs k ∧ RiseI xs k)) (fun i _ => xs.length - (intOf i).toNat)
  case atStart => exact ⟨0, by omega, rfl, Below.refl _ _, fun j x h => absurd h (by omega), RiseI.zero _⟩
  case round =>
    obtain ⟨k, hk, rfl, hB, H⟩ := hrel
    by_cases hlt : k < xs.length
    · obtain ⟨b, o, rfl, hb, c1⟩ := (HX.out.keep hB).at_ hlt
      cases hu : nonB n xs[k]
      · have HU := Lib.hid hu; clear hu
        have HE : Hid (bP (GoodE n xs) = false) := bP_f fun h => by
          have := h.1 k _ hlt (List.getElem?_eq_getElem hlt)
          rw [HU.out] at this; cases this
        go_wp2_with fail
        refine (l1In_any _ _ _ _).mono ?_
        rintro e w' ⟨rfl, rfl⟩
        rw [non_in, HU.out]
        go_wp2
        go_ret
        exact ⟨ret_b HE.out.symm, hB⟩
      · have HU := Lib.hid hu; clear hu
        have HNX : Hid (NonTo n xs (k + 1)) := upto_next (Q := fun x => nonB n x = true) (List.getElem?_eq_getElem hlt) HU.out H.out.1
        rcases k with _ | j
        · simp only [Nat.add_zero] at c1
          go_wp2_with fail
          refine (l1In_any _ _ _ _).mono ?_
          rintro e w' ⟨rfl, rfl⟩
          rw [non_in, HU.out]
          go_wp2
          go_roundw
          case rel => exact ⟨0 + 1, by omega, by go_num, hB, HNX.out, RiseI.none _⟩
          case measure => simp [intOf]; omega
        · have hltj : j < xs.length := by omega
          obtain ⟨b', o', e', hb', d1⟩ := (HX.out.keep hB).at_ hltj
          injection e' with e'
          injection e' with e1 e2
          subst e1 e2
          have hwk : IntKind.i64.wrap (j : Int) = (j : Int) := by rw [IntKind.wrap_i64]; omega
          have hI1 : (j : Int) < (xs.length : Int) := by omega
          have hpos : (0 : Int) < (j : Int) + 1 := by omega
          by_cases hq : xs[j] < xs[j + 1]
          · have HQ := Lib.hid hq
            have HNR : Hid (RiseI xs (j + 1 + 1)) := H.out.2.step (List.getElem?_eq_getElem hltj) (List.getElem?_eq_getElem hlt) hq
            go_wp2_with fail
            refine (l1In_any _ _ _ _).mono ?_
            rintro e w' ⟨rfl, rfl⟩
            rw [non_in, HU.out]
            go_wp2
            go_roundw
            case rel => exact ⟨j + 1 + 1, by omega, by go_num, hB, HNX.out, HNR.out⟩
            case measure => simp [intOf]; omega
          · have HE : Hid (bP (GoodE n xs) = false) := bP_f fun h => hq (h.2 j _ _ hlt (List.getElem?_eq_getElem hltj) (List.getElem?_eq_getElem hlt))
            have hq2 : xs[j + 1] ≤ xs[j] := by omega
            clear hq
            go_wp2_with fail
            refine (l1In_any _ _ _ _).mono ?_
            rintro e w' ⟨rfl, rfl⟩
            rw [non_in, HU.out]
            go_wp2
            go_ret
            exact ⟨ret_b HE.out.symm, hB⟩
    · have HE : Hid (bP (GoodE n xs) = true) := bP_t ⟨upto_end (Q := fun x => nonB n x = true) hlt H.out.1, H.out.2.mono (by omega)⟩
      go_wp2
      go_ret
      exact ⟨ret_b HE.out.symm, hB⟩

end Go.Proofs.YtgnpgehekfhedaaDoor
