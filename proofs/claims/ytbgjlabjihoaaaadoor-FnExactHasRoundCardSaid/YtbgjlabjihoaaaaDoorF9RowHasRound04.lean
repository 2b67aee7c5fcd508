/- Rounds: the plain side. -/
import Derived.Test.YtbgjlabjihoaaaaDoorF901
import Derived.Maps.AppendAt
import Derived.Test.YtbgjlabjihoaaaaDoorF902
import Derived.Deep.OwnRows
import Derived.Test.YtbgjlabjihoaaaaDoorF903
import Derived.Deep.RegionLaw
import Derived.Deep.AppendLies
import Derived.Laws.StructEq
import Derived.KernelRfl

namespace Go.Proofs.YtbgjlabjihoaaaaDoor
open Go.RowKit

/-- A set of numbers below N that is not empty and in which each leads to one of it. -/
def HasCyc (N : Nat) (R : Nat → Nat → Prop) : Prop := ∃ S : Nat → Prop, (∃ k, S k) ∧ (∀ k, S k → k < N) ∧ ∀ k, S k → ∃ m, S m ∧ R k m

/-- How many numbers below N a set holds. -/
noncomputable def cntS (S : Nat → Prop) : Nat → Nat
  | 0 => 0
  | N + 1 => cntS S N + @ite _ (S N) (Classical.propDecidable _) 1 0
theorem cntS_mono {S T : Nat → Prop} (h : ∀ k, T k → S k) : ∀ N, cntS T N ≤ cntS S N
  | 0 => Nat.le_refl _
  | N + 1 => by
    have ih := cntS_mono h N
    unfold cntS
    by_cases hT : T N
    · rw [if_pos hT, if_pos (h N hT)]; omega
    · rw [if_neg hT]; split <;> omega
theorem cntS_lt {S T : Nat → Prop} (h : ∀ k, T k → S k) {m : Nat} (hS : S m) (hT : ¬ T m) : ∀ {N : Nat}, m < N → cntS T N < cntS S N
  | 0, hm => absurd hm (by omega)
  | N + 1, hm => by
    unfold cntS
    by_cases e : m = N
    · subst e
      rw [if_neg hT, if_pos hS]
      have := cntS_mono h m
      omega
    · have ih := cntS_lt h hS hT (N := N) (by omega)
      by_cases hTN : T N
      · rw [if_pos hTN, if_pos (h N hTN)]; omega
      · rw [if_neg hTN]; split <;> omega

theorem HasCyc.back {N : Nat} {R : Nat → Nat → Prop} (h : HasCyc N R) : HasCyc N fun a b => R b a := by
  have key : ∀ (c : Nat) (S : Nat → Prop), cntS S N = c → (∃ k, S k) → (∀ k, S k → k < N) → (∀ k, S k → ∃ m, S m ∧ R k m) → HasCyc N fun a b => R b a := by
    intro c
    induction c using Nat.strongRecOn with
    | _ c ih =>
      intro S hc hne hlt hs
      let T : Nat → Prop := fun m => S m ∧ ∃ k, S k ∧ R k m
      by_cases hall : ∀ m, S m → T m
      · exact ⟨S, hne, hlt, fun m hm => by obtain ⟨_, k, hk, hR⟩ := hall m hm; exact ⟨k, hk, hR⟩⟩
      · have ⟨m0, hm0⟩ := Classical.not_forall.1 hall
        have hS0 : S m0 := Classical.byContradiction fun h => hm0 fun h' => absurd h' h
        have hT0 : ¬ T m0 := fun h => hm0 fun _ => h
        refine ih (cntS T N) (hc ▸ cntS_lt (fun k hk => hk.1) hS0 hT0 (hlt m0 hS0)) T rfl ?_ (fun k hk => hlt k hk.1) ?_
        · obtain ⟨k, hk⟩ := hne
          obtain ⟨m, hm, hR⟩ := hs k hk
          exact ⟨m, hm, k, hk, hR⟩
        · intro k hk
          obtain ⟨m, hm, hR⟩ := hs k hk.1
          exact ⟨m, ⟨hm, k, hk.1, hR⟩, hR⟩
  obtain ⟨S, h1, h2, h3⟩ := h
  exact key _ S rfl h1 h2 h3

/-- How often x is in all lists. -/
def cntAll (x : Int) : List (List Int) → Nat
  | [] => 0
  | l :: r => l.count x + cntAll x r
theorem cntAll_app (x : Int) (a b : List (List Int)) : cntAll x (a ++ b) = cntAll x a + cntAll x b := by
  induction a with
  | nil => simp [cntAll]
  | cons l r ih => simp only [List.cons_append, cntAll, ih]; omega

/-- How often x is in the lists that P names. -/
def cntP (ds : List (List Int)) (x : Int) : List Nat → Nat
  | [] => 0
  | k :: r => (ds.getD k []).count x + cntP ds x r
theorem cntP_app (ds : List (List Int)) (x : Int) (a b : List Nat) : cntP ds x (a ++ b) = cntP ds x a + cntP ds x b := by
  induction a with
  | nil => simp [cntP]
  | cons l r ih => simp only [List.cons_append, cntP, ih]; omega
theorem cntP_erase {ds : List (List Int)} {x : Int} {a : Nat} : ∀ {L : List Nat}, a ∈ L → cntP ds x L = (ds.getD a []).count x + cntP ds x (L.erase a)
  | b :: r, h => by
    by_cases e : b = a
    · subst e; simp [cntP]
    · have h' : a ∈ r := by
        rcases List.mem_cons.1 h with rfl | h'
        · exact absurd rfl e
        · exact h'
      have ih := cntP_erase (ds := ds) (x := x) h'
      rw [List.erase_cons_tail (by simpa using e)]
      simp only [cntP, ih]; omega
theorem cntP_le {ds : List (List Int)} {x : Int} : ∀ {P L : List Nat}, P.Nodup → (∀ k ∈ P, k ∈ L) → cntP ds x P ≤ cntP ds x L
  | [], _, _, _ => Nat.zero_le _
  | a :: r, L, hn, hs => by
    have ha : a ∈ L := hs a (by simp)
    have hnd := List.nodup_cons.1 hn
    have ih := cntP_le (ds := ds) (x := x) (P := r) (L := L.erase a) hnd.2 fun k hk => by
      have hka : k ≠ a := fun e => hnd.1 (e ▸ hk)
      exact (List.mem_erase_of_ne hka).2 (hs k (by simp [hk]))
    rw [cntP_erase ha]
    simp only [cntP]; omega
theorem cntP_range (ds : List (List Int)) (x : Int) : cntP ds x (List.range ds.length) = cntAll x ds := by
  have key : ∀ k, k ≤ ds.length → cntP ds x (List.range k) = cntAll x (ds.take k) := by
    intro k
    induction k with
    | zero => intro _; rfl
    | succ k ih =>
      intro hk
      rw [List.range_succ, cntP_app, ih (by omega), List.take_succ_eq_append_getElem (by omega), cntAll_app]
      simp [cntP, cntAll, List.getD_eq_getElem?_getD, show k < ds.length by omega]
  have := key ds.length (Nat.le_refl _)
  rwa [List.take_length] at this
/-- Where only lists that P names hold x, those hold it as often as all do. -/
theorem cntP_ge {ds : List (List Int)} {x : Int} {P : List Nat} (h : ∀ k, k < ds.length → x ∈ ds.getD k [] → k ∈ P) : cntAll x ds ≤ cntP ds x P := by
  rw [← cntP_range]
  have h0 : cntP ds x (List.range ds.length) = cntP ds x ((List.range ds.length).filter fun k => decide (x ∈ ds.getD k [])) := by
    generalize List.range ds.length = L
    induction L with
    | nil => rfl
    | cons a r ih =>
      by_cases e : x ∈ ds.getD a []
      · rw [List.filter_cons_of_pos (by simpa using e)]
        simp only [cntP, ih]
      · rw [List.filter_cons_of_neg (by simpa using e)]
        simp only [cntP, ih, List.count_eq_zero.2 e, Nat.zero_add]
  rw [h0]
  refine cntP_le ((List.nodup_range).filter _) fun k hk => ?_
  obtain ⟨h1, h2⟩ := List.mem_filter.1 hk
  exact h k (List.mem_range.1 h1) (of_decide_eq_true h2)

/-- Node k leads to m, by the lists of what each leads to. -/
def LeadsTo (ds : List (List Int)) (k m : Nat) : Prop := (m : Int) ∈ ds.getD k []

/-- What stands when at numbers of off have been done, and j of the next one's list. -/
structure Peel (ds : List (List Int)) (off : List Nat) (at_ j : Nat) (into : Nat → Int) : Prop where
  nodup : off.Nodup
  low : ∀ k ∈ off, k < ds.length
  room : at_ ≤ off.length
  cnt : ∀ m, m < ds.length → into m = (cntAll (m : Int) ds : Int) - (cntP ds (m : Int) (off.take at_) : Int) - (((ds.getD (off.getD at_ 0) []).take j).count (m : Int) : Int)
  zero : ∀ m, m < ds.length → (m ∈ off ↔ into m = 0)
  sound : ∀ k ∈ off, ∀ T : Nat → Prop, (∀ m, T m → m < ds.length) → (∀ m, T m → ∃ i, T i ∧ LeadsTo ds i m) → ¬ T k

theorem Peel.next {ds : List (List Int)} {off : List Nat} {at_ : Nat} {into : Nat → Int} (h : Peel ds off at_ (ds.getD (off.getD at_ 0) []).length into) (hk : at_ < off.length) : Peel ds off (at_ + 1) 0 into := by
  refine ⟨h.nodup, h.low, by omega, fun m hm => ?_, h.zero, h.sound⟩
  rw [h.cnt m hm, List.take_length, List.take_succ_eq_append_getElem hk, cntP_app]
  have e : off.getD at_ 0 = off[at_] := by simp [List.getD_eq_getElem?_getD, hk]
  rw [e]
  simp [cntP]
  omega

theorem count_take_succ {l : List Int} {j : Nat} (hj : j < l.length) (m : Int) : (l.take (j + 1)).count m = (l.take j).count m + if l[j] = m then 1 else 0 := by
  rw [List.take_succ_eq_append_getElem hj, List.count_append]
  by_cases e : l[j] = m
  · rw [if_pos e, e]; simp
  · rw [if_neg e]; simp [e]

/-- There is one more to come off: it is not there yet, and after it as often as before less one. -/
theorem Peel.more {ds : List (List Int)} {off : List Nat} {at_ j : Nat} {into : Nat → Int} (h : Peel ds off at_ j into) (hk : at_ < off.length) (hj : j < (ds.getD (off.getD at_ 0) []).length) {x : Nat} (hx : (ds.getD (off.getD at_ 0) [])[j] = (x : Int)) (hxl : x < ds.length) :
    0 < into x ∧ into x ≤ (cntAll (x : Int) ds : Int) ∧ x ∉ off := by
  have e : off.getD at_ 0 = off[at_] := by simp [List.getD_eq_getElem?_getD, hk]
  have h1 : cntP ds (x : Int) (off.take (at_ + 1)) ≤ cntAll (x : Int) ds := by
    rw [← cntP_range]
    exact cntP_le (h.nodup.sublist (List.take_sublist _ _)) fun k hk' => List.mem_range.2 (h.low k (List.mem_of_mem_take hk'))
  rw [List.take_succ_eq_append_getElem hk, cntP_app] at h1
  simp only [cntP, Nat.add_zero] at h1
  have h2 := count_take_succ hj (x : Int)
  rw [if_pos hx] at h2
  have h3 : ((ds.getD (off.getD at_ 0) []).take (j + 1)).count (x : Int) ≤ (ds.getD (off.getD at_ 0) []).count (x : Int) := (List.take_sublist _ _).count_le _
  rw [e] at h2 h3
  have h4 := h.cnt x hxl
  rw [e] at h4
  have h5 : 0 < into x := by omega
  exact ⟨h5, by omega, fun hm => by have := (h.zero x hxl).1 hm; omega⟩

/-- One more of a list is taken: where it has become 0, the number comes off. -/
theorem Peel.step {ds : List (List Int)} {off : List Nat} {at_ j : Nat} {into : Nat → Int} (h : Peel ds off at_ j into) (hk : at_ < off.length) (hj : j < (ds.getD (off.getD at_ 0) []).length) {x : Nat} (hx : (ds.getD (off.getD at_ 0) [])[j] = (x : Int)) (hxl : x < ds.length) :
    Peel ds (if into x - 1 = 0 then off ++ [x] else off) at_ (j + 1) (fun m => if m = x then into x - 1 else into m) := by
  obtain ⟨h0, _, hno⟩ := h.more hk hj hx hxl
  have e : off.getD at_ 0 = off[at_] := by simp [List.getD_eq_getElem?_getD, hk]
  have hcnt : ∀ m, m < ds.length → (if m = x then into x - 1 else into m) = (cntAll (m : Int) ds : Int) - (cntP ds (m : Int) (off.take at_) : Int) - (((ds.getD (off.getD at_ 0) []).take (j + 1)).count (m : Int) : Int) := by
    intro m hm
    rw [count_take_succ hj]
    by_cases em : m = x
    · subst em
      rw [if_pos rfl, if_pos hx, h.cnt m hm]
      omega
    · rw [if_neg em, if_neg (by rw [hx]; omega), h.cnt m hm]
      omega
  by_cases hz : into x - 1 = 0
  · rw [if_pos hz]
    have hget : (off ++ [x]).getD at_ 0 = off.getD at_ 0 := by
      simp [List.getD_eq_getElem?_getD, List.getElem?_append_left hk]
    refine ⟨?_, ?_, by simp; omega, ?_, ?_, ?_⟩
    · rw [List.nodup_append]
      exact ⟨h.nodup, by simp, fun a ha b hb => by simp at hb; subst hb; exact fun e => hno (e ▸ ha)⟩
    · intro k hk'
      rcases List.mem_append.1 hk' with hk' | hk'
      · exact h.low k hk'
      · simp at hk'; omega
    · intro m hm
      rw [hget, List.take_append_of_le_length (by omega)]
      exact hcnt m hm
    · intro m hm
      by_cases em : m = x
      · subst em; simp [hz]
      · rw [if_neg em, List.mem_append]
        simp only [List.mem_singleton, em, or_false]
        exact h.zero m hm
    · intro k hk' T hT1 hT2
      rcases List.mem_append.1 hk' with hk' | hk'
      · exact h.sound k hk' T hT1 hT2
      · simp at hk'
        subst hk'
        intro hTx
        obtain ⟨i, hTi, hi⟩ := hT2 k hTx
        by_cases hio : i ∈ off
        · exact h.sound i hio T hT1 hT2 hTi
        · -- one that is not off leads there: then more than 0 are left
          have hil := hT1 i hTi
          have hn : (off.take (at_ + 1) ++ [i]).Nodup := by
            rw [List.nodup_append]
            refine ⟨h.nodup.sublist (List.take_sublist _ _), by simp, fun a ha b hb => ?_⟩
            simp at hb
            subst hb
            exact fun e' => hio (e' ▸ List.mem_of_mem_take ha)
          have h1 : cntP ds (k : Int) (off.take (at_ + 1) ++ [i]) ≤ cntAll (k : Int) ds := by
            rw [← cntP_range]
            refine cntP_le hn fun a ha => List.mem_range.2 ?_
            rcases List.mem_append.1 ha with ha | ha
            · exact h.low a (List.mem_of_mem_take ha)
            · simp at ha; omega
          rw [cntP_app, List.take_succ_eq_append_getElem hk, cntP_app] at h1
          simp only [cntP, Nat.add_zero] at h1
          have h2 : 0 < (ds.getD i []).count (k : Int) := List.count_pos_iff.2 hi
          have h3 : ((ds.getD (off.getD at_ 0) []).take (j + 1)).count (k : Int) ≤ (ds.getD (off.getD at_ 0) []).count (k : Int) := (List.take_sublist _ _).count_le _
          have h4 := hcnt k hxl
          rw [if_pos rfl] at h4
          rw [e] at h3 h4
          omega
  · rw [if_neg hz]
    refine ⟨h.nodup, h.low, h.room, hcnt, fun m hm => ?_, h.sound⟩
    by_cases em : m = x
    · subst em
      rw [if_pos rfl]
      exact ⟨fun hm' => absurd hm' hno, fun hz' => absurd hz' hz⟩
    · rw [if_neg em]; exact h.zero m hm

theorem full_of_len : ∀ {N : Nat} {off : List Nat}, off.Nodup → (∀ k ∈ off, k < N) → N ≤ off.length → ∀ m, m < N → m ∈ off := by
  intro N off hn hl hN m hm
  apply Classical.byContradiction
  intro hno
  have h1 : (m :: off).Nodup := List.nodup_cons.2 ⟨hno, hn⟩
  have h2 : ∀ k ∈ m :: off, k ∈ List.range N := fun k hk => by
    rcases List.mem_cons.1 hk with rfl | hk
    · exact List.mem_range.2 hm
    · exact List.mem_range.2 (hl k hk)
  have key : ∀ {P L : List Nat}, P.Nodup → (∀ k ∈ P, k ∈ L) → P.length ≤ L.length := by
    intro P
    induction P with
    | nil => intro L _ _; exact Nat.zero_le _
    | cons a r ih =>
      intro L hn hs
      have hnd := List.nodup_cons.1 hn
      have ha : a ∈ L := hs a (by simp)
      have := ih (L := L.erase a) hnd.2 fun k hk => (List.mem_erase_of_ne (fun (e : k = a) => hnd.1 (e ▸ hk))).2 (hs k (by simp [hk]))
      rw [List.length_erase_of_mem ha] at this
      have : 0 < L.length := List.length_pos_of_mem ha
      simp only [List.length_cons]; omega
  have := key h1 h2
  simp at this
  omega
theorem len_le_of {N : Nat} {off : List Nat} (hn : off.Nodup) (hl : ∀ k ∈ off, k < N) : off.length ≤ N := by
  apply Classical.byContradiction
  intro h
  have hp : 0 < off.length := by omega
  have hm := full_of_len (N := N) (off := off.tail) (hn.sublist (List.tail_sublist _)) (fun k hk => hl k (List.mem_of_mem_tail hk)) (by simp; omega)
  cases off with
  | nil => simp at hp
  | cons a r => exact (List.nodup_cons.1 hn).1 (hm a (hl a (by simp)))

/-- When all that came off has been done, fewer than all are off just where there is a round. -/
theorem Peel.done {ds : List (List Int)} {off : List Nat} {into : Nat → Int} (h : Peel ds off off.length 0 into) : off.length < ds.length ↔ HasCyc ds.length (LeadsTo ds) := by
  constructor
  · intro hl
    refine HasCyc.back (R := fun a b => LeadsTo ds b a) ⟨fun m => m < ds.length ∧ m ∉ off, ?_, fun k hk => hk.1, fun m hm => ?_⟩
    · apply Classical.byContradiction
      intro hno
      have hall : ∀ m, m < ds.length → m ∈ off := fun m hm => Classical.byContradiction fun h' => hno ⟨m, hm, h'⟩
      have h1 : (List.range ds.length).Nodup := List.nodup_range
      have h2 := len_le_of (N := off.length) (off := List.range 0) (by simp) (by simp)
      have key : ∀ {P L : List Nat}, P.Nodup → (∀ k ∈ P, k ∈ L) → P.length ≤ L.length := by
        intro P
        induction P with
        | nil => intro L _ _; exact Nat.zero_le _
        | cons a r ih =>
          intro L hn hs
          have hnd := List.nodup_cons.1 hn
          have ha : a ∈ L := hs a (by simp)
          have := ih (L := L.erase a) hnd.2 fun k hk => (List.mem_erase_of_ne (fun (e : k = a) => hnd.1 (e ▸ hk))).2 (hs k (by simp [hk]))
          rw [List.length_erase_of_mem ha] at this
          have : 0 < L.length := List.length_pos_of_mem ha
          simp only [List.length_cons]; omega
      have := key h1 fun k hk => hall k (List.mem_range.1 hk)
      simp at this
      omega
    · have h1 := h.cnt m hm.1
      have h2 : into m ≠ 0 := fun e => hm.2 ((h.zero m hm.1).2 e)
      apply Classical.byContradiction
      intro hno
      have h3 : cntAll (m : Int) ds ≤ cntP ds (m : Int) off := cntP_ge fun k hk hmem => Classical.byContradiction fun hko => hno ⟨k, ⟨hk, hko⟩, hmem⟩
      have h4 : cntP ds (m : Int) off ≤ cntAll (m : Int) ds := by
        rw [← cntP_range]; exact cntP_le h.nodup fun k hk => List.mem_range.2 (h.low k hk)
      rw [List.take_length] at h1
      simp at h1
      omega
  · intro hc
    obtain ⟨T, ⟨k, hk⟩, hT1, hT2⟩ := hc.back
    apply Classical.byContradiction
    intro hl
    exact h.sound k (full_of_len h.nodup h.low (by omega) k (hT1 k hk)) T hT1 (fun m hm => by obtain ⟨i, hi, hR⟩ := hT2 m hm; exact ⟨i, hi, hR⟩) hk

end Go.Proofs.YtbgjlabjihoaaaaDoor

/- What it means that a slice in memory reads as a list of lists of numbers, and that this is kept while only newer memory is written. No condition. -/

namespace Go.Proofs.YtbgjlabjihoaaaaDoor
open Go.RowKit

/-- A list as it lies in memory: where it lies, what it reads as, its capacity. -/
structure Li where
  a : Option Addr
  r : List Int
  c : Nat

/-- The cells from A on read as the lists ls, below block B. -/
def Lls (w : World) (B : Nat) (A : Option Addr) (ls : List Li) : Prop :=
  0 < ls.length → ∃ b o, A = some ⟨b, o, none⟩ ∧ b < B ∧ ∀ k u, ls[k]? = some u →
    w.cell? ⟨b, o + k, none⟩ = some (.slice u.a u.r.length u.c) ∧ u.r.length ≤ u.c ∧ Ints w B u.a u.r

theorem Lls.keep {w w' : World} {B : Nat} {A : Option Addr} {ls : List Li} (h : Lls w B A ls) (hk : Below B w w') : Lls w' B A ls := by
  intro hn
  obtain ⟨b, o, e, hb, hc⟩ := h hn
  refine ⟨b, o, e, hb, fun k u hu => ?_⟩
  obtain ⟨h1, h2, h3⟩ := hc k u hu
  exact ⟨(hk.cell (p := ⟨b, o + k, none⟩) hb).trans h1, h2, h3.keep hk⟩

theorem Lls.more {w : World} {B B' : Nat} {A : Option Addr} {ls : List Li} (h : Lls w B A ls) (hB : B ≤ B') : Lls w B' A ls := by
  intro hn
  obtain ⟨b, o, e, hb, hc⟩ := h hn
  refine ⟨b, o, e, by omega, fun k u hu => ?_⟩
  obtain ⟨h1, h2, h3⟩ := hc k u hu
  exact ⟨h1, h2, h3.more hB⟩

theorem Lls.at_ {w : World} {B : Nat} {A : Option Addr} {ls : List Li} (h : Lls w B A ls) {k : Nat} (hk : k < ls.length) :
    ∃ b o, A = some ⟨b, o, none⟩ ∧ b < B ∧ w.cell? ⟨b, o + k, none⟩ = some (.slice ls[k].a ls[k].r.length ls[k].c) ∧ ls[k].r.length ≤ ls[k].c ∧ Ints w B ls[k].a ls[k].r := by
  obtain ⟨b, o, e, hb, hc⟩ := h (by omega)
  exact ⟨b, o, e, hb, hc k _ (List.getElem?_eq_getElem hk)⟩

/-- What lists say, wherever they lie. -/
def sayL (ls : List Li) : List (List Int) := ls.map Li.r

theorem sayL_len {ls : List Li} : (sayL ls).length = ls.length := List.length_map _
theorem sayL_len' {ls : List Li} {xs : List (List Int)} (h : sayL ls = xs) : ls.length = xs.length := by rw [← h, sayL_len]
theorem sayL_at {ls : List Li} {k : Nat} (hk : k < ls.length) : (sayL ls)[k]? = some ls[k].r := by simp [sayL, List.getElem?_eq_getElem hk]
theorem sayL_mem {ls : List Li} {u : Li} (hu : u ∈ ls) : u.r ∈ sayL ls := List.mem_map.2 ⟨u, hu, rfl⟩

/-- No list is longer than m. -/
def ShortL (m : Nat) (xs : List (List Int)) : Prop := ∀ x ∈ xs, x.length ≤ m

/-- The slice of lists that begins at A, and each of the lists, are the call's own and read as ls; no two lists lie in one block. -/
def OwnL (w : World) (lo : Nat) (A : Option Addr) (ls : List Li) : Prop :=
  ls = [] ∨ ∃ (g : Nat) (cs : Array Value), A = some ⟨g, 0, none⟩ ∧ lo ≤ g ∧ Row w g 27 cs ∧
    (∀ (k : Nat) (u : Li), ls[k]? = some u → cs[k]? = some (.slice u.a u.r.length u.c) ∧ u.r.length ≤ u.c ∧ OwnI w lo u.a u.r) ∧
    ∀ (i j : Nat) (u v : Li), ls[i]? = some u → ls[j]? = some v → i ≠ j → u.r ≠ [] → v.r ≠ [] → u.a ≠ v.a

theorem OwnL.lls {w : World} {lo : Nat} {A : Option Addr} {ls : List Li} (h : OwnL w lo A ls) : Lls w w.heap.size A ls := by
  intro hn
  rcases h with rfl | ⟨g, cs, rfl, _, hr, hc, _⟩
  · simp at hn
  · refine ⟨g, 0, rfl, hr.lt, fun k u hu => ?_⟩
    obtain ⟨h1, h2, h3⟩ := hc k u hu
    exact ⟨by rw [hr.cell, Nat.zero_add]; exact h1, h2, h3.ints⟩

theorem OwnL.below {w w' : World} {lo B : Nat} {A : Option Addr} {ls : List Li} (h : OwnL w lo A ls) (hb : Below B w w') (hB : w.heap.size ≤ B) : OwnL w' lo A ls := by
  rcases h with h | ⟨g, cs, e, hl, hr, hc, hd⟩
  · exact .inl h
  · refine .inr ⟨g, cs, e, hl, hr.below hb (by have := hr.lt; omega), fun k u hu => ?_, hd⟩
    obtain ⟨h1, h2, h3⟩ := hc k u hu
    exact ⟨h1, h2, h3.below hb hB⟩

theorem OwnL.lower {w : World} {lo lo' : Nat} {A : Option Addr} {ls : List Li} (h : OwnL w lo A ls) (hl : lo' ≤ lo) : OwnL w lo' A ls := by
  rcases h with h | ⟨g, cs, e, h1, hr, hc, hd⟩
  · exact .inl h
  · refine .inr ⟨g, cs, e, by omega, hr, fun k u hu => ?_, hd⟩
    obtain ⟨a, b, c⟩ := hc k u hu
    exact ⟨a, b, c.lower hl⟩

theorem OwnL.low {w : World} {lo : Nat} {A : Option Addr} {ls : List Li} (h : OwnL w lo A ls) {p : Addr} (hp : p.block < lo) (u : Value) : OwnL (w.setCell p u) lo A ls := by
  rcases h with h | ⟨g, cs, e, hl, hr, hc, hd⟩
  · exact .inl h
  · refine .inr ⟨g, cs, e, hl, hr.far (by omega) u, fun k v hv => ?_, hd⟩
    obtain ⟨h1, h2, h3⟩ := hc k v hv
    exact ⟨h1, h2, h3.low hp u⟩

end Go.Proofs.YtbgjlabjihoaaaaDoor

/- What the laws' size counters answer of lists of lists, and of a binary grammar. -/

namespace Go.Proofs.YtbgjlabjihoaaaaDoor
open Go.RowKit

/-- The lists, one after the other. -/
def szL : List (List Int) → Int → Int
  | [], L => L
  | u :: r, L => if szI u.length L < 0 then -1 else szL r (szI u.length L)

def szLs (xs : List (List Int)) (L : Int) : Int := if L - xs.length < 0 then -1 else szL xs (L - xs.length)

theorem szL_ge : ∀ (rs : List (List Int)) {L : Int}, 0 ≤ L → -1 ≤ szL rs L ∧ (0 ≤ szL rs L → szL rs L ≤ L ∧ ∀ u ∈ rs, (u.length : Int) ≤ L)
  | [], L, _h => by simp [szL]; omega
  | u :: r, L, _h => by
    simp only [szL]
    split
    · simp
    · rename_i hn
      have h1 : szI u.length L = L - u.length := by unfold szI at hn ⊢; split <;> simp_all
      have ih := szL_ge r (L := szI u.length L) (by omega)
      refine ⟨ih.1, fun hp => ?_⟩
      obtain ⟨a, b⟩ := ih.2 hp
      refine ⟨by omega, fun v hv => ?_⟩
      rcases List.mem_cons.1 hv with rfl | hv
      · omega
      · have := b v hv; omega

theorem szLs_ge (rs : List (List Int)) {L : Int} (_h : 0 ≤ L) : -1 ≤ szLs rs L ∧ szLs rs L ≤ L := by
  unfold szLs; split
  · omega
  · have h := szL_ge rs (L := L - rs.length) (by omega)
    refine ⟨h.1, ?_⟩
    by_cases hp : 0 ≤ szL rs (L - rs.length)
    · have := (h.2 hp).1; omega
    · omega

/-- Where the count is not negative, the lists and each of them are no more than it began with. -/
theorem szLs_bound {rs : List (List Int)} {L : Int} (_h : 0 ≤ L) (hp : 0 ≤ szLs rs L) : (rs.length : Int) ≤ L ∧ ∀ u ∈ rs, (u.length : Int) ≤ L := by
  unfold szLs at hp
  split at hp
  · omega
  · obtain ⟨_, b⟩ := (szL_ge rs (L := L - rs.length) (by omega)).2 hp
    exact ⟨by omega, fun u hu => by have := b u hu; omega⟩

theorem szL_drop {ls : List Li} {k : Nat} (hk : k < ls.length) (L : Int) : szL (sayL (ls.drop k)) L = if szI ls[k].r.length L < 0 then -1 else szL (sayL (ls.drop (k + 1))) (szI ls[k].r.length L) := by
  rw [List.drop_eq_getElem_cons hk]; rfl

end Go.Proofs.YtbgjlabjihoaaaaDoor

/- What the laws' copy of lists of lists makes: new memory that reads as what was copied. -/

namespace Go.Proofs.YtbgjlabjihoaaaaDoor
open Go.RowKit

theorem Tryd.infoIntS : (Tryd.prog.info? 27).map (fun i => (i.zero, i.size, i.bytes)) = some (some (.slice none 0 0), 1, 24) := by kernel_rfl

def zL (n : Nat) : Array Value := madeCells #[.slice none 0 0] n
theorem zL_size (n : Nat) : (zL n).size = n := size_madeCells _ _

theorem make_lists (n : Nat) (hn : n ≤ 1048576) (w : World) :
    (Instr.makeSlice 81 (.int .i64 (n : Int)) (.int .i64 (n : Int))).run Tryd.prog w = .ok (.slice (some ⟨w.heap.size, 0, none⟩) n n) (w.alloc (.cells (zL n) 27)) := by
  obtain ⟨i, hi, hz, hs, hb⟩ := info_of Tryd.infoIntS
  have h := run_make (P := Tryd.prog) w 81 27 i _ Tryd.underlying81 hi hz .i64 .i64 n n (by omega) (by omega) (by rw [hb]; omega) (by omega)
  rw [hs] at h
  simpa [zL, Value.cells] using h

/-- A new slice of lists that says what xs say; nothing older has turned. -/
def GaveL (w : World) (xs : List (List Int)) (e : Ending) (w' : World) : Prop :=
  ∃ A c ls, e = .returned (.slice A ls.length c) ∧ ls.length ≤ c ∧ OwnL w' w.heap.size A ls ∧ sayL ls = xs ∧ Below w.heap.size w w'

/-- The first k of n lists have been put into block g; they read as done. -/
def FillL (w : World) (lo g n : Nat) (done : List Li) : Prop :=
  ∃ (cs : Array Value), Row w g 27 cs ∧ cs.size = n ∧
    (∀ (j : Nat) (u : Li), done[j]? = some u → cs[j]? = some (.slice u.a u.r.length u.c) ∧ u.r.length ≤ u.c ∧ OwnI w lo u.a u.r) ∧
    ∀ (i j : Nat) (u v : Li), done[i]? = some u → done[j]? = some v → i ≠ j → u.r ≠ [] → v.r ≠ [] → u.a ≠ v.a

theorem getElem?_snoc {α : Type} {xs : List α} {y u : α} {i : Nat} (h : (xs ++ [y])[i]? = some u) : (i < xs.length ∧ xs[i]? = some u) ∨ (i = xs.length ∧ u = y) := by
  by_cases e : i < xs.length
  · rw [List.getElem?_append_left e] at h; exact .inl ⟨e, h⟩
  · rw [List.getElem?_append_right (by omega)] at h
    have hj : i - xs.length = 0 := by
      rcases Nat.eq_zero_or_pos (i - xs.length) with h0 | h0
      · exact h0
      · rw [List.getElem?_eq_none (by simp; omega)] at h; cases h
    rw [hj] at h
    simp at h
    exact .inr ⟨by omega, h.symm⟩

/-- Lists that lie apart stay so with one more in newer memory. -/
theorem apart_snoc {w : World} {lo : Nat} {done : List Li} {v : Li} {w1 : World}
    (hd : ∀ (i j : Nat) (u v : Li), done[i]? = some u → done[j]? = some v → i ≠ j → u.r ≠ [] → v.r ≠ [] → u.a ≠ v.a)
    (hc : ∀ (j : Nat) (u : Li), done[j]? = some u → OwnI w lo u.a u.r) (hO : OwnI w1 w.heap.size v.a v.r) :
    ∀ (i j : Nat) (u x : Li), (done ++ [v])[i]? = some u → (done ++ [v])[j]? = some x → i ≠ j → u.r ≠ [] → x.r ≠ [] → u.a ≠ x.a := by
  have old : ∀ (i : Nat) (u : Li), done[i]? = some u → u.r ≠ [] → v.r ≠ [] → u.a ≠ v.a := by
    intro i u hu hne hne' he
    rcases hc i u hu with h3 | ⟨g1, _, e1, _, r1, _⟩
    · exact hne h3
    · rcases hO with h4 | ⟨g2, _, e2, l2, _, _⟩
      · exact hne' h4
      · rw [e1, e2] at he
        have := r1.lt
        injection he with he
        injection he with he
        omega
  intro i j u x hu hx hij hun hxn
  rcases getElem?_snoc hu with ⟨_, hu'⟩ | ⟨hi, ei⟩ <;> rcases getElem?_snoc hx with ⟨_, hx'⟩ | ⟨hj, ej⟩
  · exact hd i j u x hu' hx' hij hun hxn
  · rw [ej]; exact old i u hu' hun (ej ▸ hxn)
  · rw [ei]; exact fun e => old j x hx' hxn (ei ▸ hun) e.symm
  · omega

theorem OwnI.farL {w : World} {lo g : Nat} {A : Option Addr} {xs : List Int} {cs : Array Value} (h : OwnI w lo A xs) (hr : Row w g 27 cs) (i : Nat) (v : Value) : OwnI (w.setCell ⟨g, i, none⟩ v) lo A xs := by
  rcases h with h | ⟨g', cs', e, hl', hr', hc'⟩
  · exact .inl h
  · have hne : g' ≠ g := hr'.ne hr (by decide)
    exact .inr ⟨g', cs', e, hl', hr'.far hne _, hc'⟩

theorem FillL.step {w w1 : World} {lo g n : Nat} {done : List Li} (h : FillL w lo g n done) (hlo : lo ≤ w.heap.size) (hk : done.length < n) (hb : Below w.heap.size w w1) {A : Option Addr} {xs : List Int} {c : Nat} (hcap : xs.length ≤ c) (hO : OwnI w1 w.heap.size A xs) :
    FillL (w1.setCell ⟨g, done.length, none⟩ (.slice A xs.length c)) lo g n (done ++ [⟨A, xs, c⟩]) := by
  obtain ⟨cs, hr, hs, hc, hd⟩ := h
  have hg : g < w.heap.size := hr.lt
  have hr1 : Row w1 g 27 cs := hr.below hb hg
  refine ⟨cs.setIfInBounds done.length (.slice A xs.length c), hr1.set _ _, by simp [hs], ?_, apart_snoc hd (fun j u hu => (hc j u hu).2.2) (v := ⟨A, xs, c⟩) hO⟩
  intro j u hu
  rcases getElem?_snoc hu with ⟨hj, hu⟩ | ⟨rfl, rfl⟩
  · obtain ⟨h1, h2, h3⟩ := hc j u hu
    refine ⟨?_, h2, (h3.below hb (Nat.le_refl _)).farL hr1 _ _⟩
    rw [Array.getElem?_setIfInBounds, if_neg (by omega)]; exact h1
  · refine ⟨?_, hcap, (hO.lower hlo).farL hr1 _ _⟩
    rw [Array.getElem?_setIfInBounds, if_pos rfl, if_pos (by omega)]

theorem FillL.row {w : World} {lo g n : Nat} {done : List Li} (h : FillL w lo g n done) : ∃ cs, Row w g 27 cs ∧ cs.size = n := by
  obtain ⟨cs, hr, hs, _⟩ := h
  exact ⟨cs, hr, hs⟩

theorem FillL.own {w : World} {lo g n : Nat} {done : List Li} (h : FillL w lo g n done) (hg : lo ≤ g) : OwnL w lo (some ⟨g, 0, none⟩) done := by
  obtain ⟨cs, hr, _, hc, hd⟩ := h
  exact .inr ⟨g, cs, rfl, hg, hr, hc, hd⟩

theorem say_step {ls : List Li} {done : List Li} {k : Nat} (hk : k < ls.length) (h : sayL done = sayL (ls.take k)) {A : Option Addr} {c : Nat} : sayL (done ++ [⟨A, ls[k].r, c⟩]) = sayL (ls.take (k + 1)) := by
  unfold sayL at h ⊢
  rw [List.map_append, h, List.take_succ_eq_append_getElem hk, List.map_append]; rfl
theorem say_take_len {ls done : List Li} {k : Nat} (hk : k ≤ ls.length) (h : sayL done = sayL (ls.take k)) : done.length = k := by
  rw [sayL_len' h, sayL_len, List.length_take]; omega

end Go.Proofs.YtbgjlabjihoaaaaDoor

/- What the laws' comparison of lists of lists answers. -/

namespace Go.Proofs.YtbgjlabjihoaaaaDoor
open Go.RowKit

def eqLs (xs ys : List (List Int)) : Bool := decide (xs = ys)
theorem eqLs_t {u v : List (List Int)} (h : u = v) : eqLs u v = true := decide_eq_true h
theorem eqLs_f {u v : List (List Int)} (h : u ≠ v) : eqLs u v = false := decide_eq_false h

theorem step_eqLs {rs ss : List Li} {k : Nat} (hx : k < rs.length) (hy : k < ss.length) (he : eqL rs[k].r ss[k].r = true) (h : ∀ j : Nat, j < k → (sayL rs)[j]? = (sayL ss)[j]?) :
    ∀ j : Nat, j < k + 1 → (sayL rs)[j]? = (sayL ss)[j]? := by
  intro j hj
  by_cases e : j = k
  · subst e; rw [sayL_at hx, sayL_at hy, of_decide_eq_true he]
  · exact h j (by omega)
theorem eqLs_of {rs ss : List Li} {k : Nat} (hl : rs.length = ss.length) (hk : ¬ k < rs.length) (h : ∀ j : Nat, j < k → (sayL rs)[j]? = (sayL ss)[j]?) : eqLs (sayL rs) (sayL ss) = true := by
  refine eqLs_t (List.ext_getElem? fun j => ?_)
  by_cases hj : j < k
  · exact h j hj
  · rw [List.getElem?_eq_none (by rw [sayL_len]; omega), List.getElem?_eq_none (by rw [sayL_len]; omega)]
theorem eqLs_not {rs ss : List Li} {k : Nat} (hx : k < rs.length) (hy : k < ss.length) (h : eqL rs[k].r ss[k].r = false) : eqLs (sayL rs) (sayL ss) = false := by
  refine eqLs_f fun e => ?_
  have e' := congrArg (fun l => l[k]?) e
  simp only [sayL_at hx, sayL_at hy, Option.some.injEq] at e'
  rw [eqL_t e'] at h
  cases h

end Go.Proofs.YtbgjlabjihoaaaaDoor

/- A binary grammar as it lies in memory; what the laws' size counter, copy and comparison answer of it. -/

namespace Go.Proofs.YtbgjlabjihoaaaaDoor
open Go.RowKit

/-- A binary grammar as it lies in memory. -/
structure Bi where
  n : Int
  t : Int
  Ap : Option Addr
  P : List Li
  cp : Nat
  Ao : Option Addr
  O : List Li
  co : Nat
  Ae : Option Addr
  E : List Int
  ce : Nat
  Af : Option Addr
  F : List Li
  cf : Nat

/-- What a binary grammar says, wherever it lies. -/
structure Bs where
  n : Int
  t : Int
  P : List (List Int)
  O : List (List Int)
  E : List Int
  F : List (List Int)
deriving DecidableEq

def Bi.say (b : Bi) : Bs := ⟨b.n, b.t, sayL b.P, sayL b.O, b.E, sayL b.F⟩

/-- Its lists can be read, all of them below block B. -/
def ReadB (w : World) (B : Nat) (b : Bi) : Prop := Lls w B b.Ap b.P ∧ Lls w B b.Ao b.O ∧ Ints w B b.Ae b.E ∧ Lls w B b.Af b.F

theorem ReadB.keep {w w' : World} {B : Nat} {b : Bi} (h : ReadB w B b) (hk : Below B w w') : ReadB w' B b := ⟨h.1.keep hk, h.2.1.keep hk, h.2.2.1.keep hk, h.2.2.2.keep hk⟩
theorem ReadB.more {w : World} {B B' : Nat} {b : Bi} (h : ReadB w B b) (hB : B ≤ B') : ReadB w B' b := ⟨h.1.more hB, h.2.1.more hB, h.2.2.1.more hB, h.2.2.2.more hB⟩

/-- None of its lists is longer than m. -/
structure LenB (m : Nat) (b : Bi) : Prop where
  p : b.P.length ≤ m
  ps : ∀ u ∈ b.P, u.r.length ≤ m
  o : b.O.length ≤ m
  os : ∀ u ∈ b.O, u.r.length ≤ m
  e : b.E.length ≤ m
  f : b.F.length ≤ m
  fs : ∀ u ∈ b.F, u.r.length ≤ m

/-- Its lists have room for what they hold. -/
structure CapB (b : Bi) : Prop where
  p : b.P.length ≤ b.cp
  o : b.O.length ≤ b.co
  e : b.E.length ≤ b.ce
  f : b.F.length ≤ b.cf

def szB (P O : List (List Int)) (E : List Int) (F : List (List Int)) (L : Int) : Int :=
  if szLs P L < 0 then -1 else if szLs O (szLs P L) < 0 then -1 else if szI E.length (szLs O (szLs P L)) < 0 then -1 else
  if szLs F (szI E.length (szLs O (szLs P L))) < 0 then -1 else szLs F (szI E.length (szLs O (szLs P L)))

theorem szB_bound {b : Bi} (hp : 0 ≤ szB (sayL b.P) (sayL b.O) b.E (sayL b.F) 1048576) : LenB 1048576 b := by
  unfold szB at hp
  split at hp
  · omega
  rename_i h1
  split at hp
  · omega
  rename_i h2
  split at hp
  · omega
  rename_i h3
  split at hp
  · omega
  rename_i h4
  have a1 := szLs_ge (sayL b.P) (L := 1048576) (by omega)
  have b1 := szLs_bound (rs := sayL b.P) (L := 1048576) (by omega) (by omega)
  have a2 := szLs_ge (sayL b.O) (L := szLs (sayL b.P) 1048576) (by omega)
  have b2 := szLs_bound (rs := sayL b.O) (L := szLs (sayL b.P) 1048576) (by omega) (by omega)
  have a3 := szI_le (n := b.E.length) (L := szLs (sayL b.O) (szLs (sayL b.P) 1048576)) (by omega)
  have e3 : szI b.E.length (szLs (sayL b.O) (szLs (sayL b.P) 1048576)) = szLs (sayL b.O) (szLs (sayL b.P) 1048576) - b.E.length := by
    unfold szI at h3 ⊢; split <;> simp_all
  have b4 := szLs_bound (rs := sayL b.F) (L := szI b.E.length (szLs (sayL b.O) (szLs (sayL b.P) 1048576))) (by omega) (by omega)
  have say : ∀ {ls : List Li} {L : Int}, L ≤ 1048576 → ((sayL ls).length : Int) ≤ L ∧ (∀ u ∈ sayL ls, (u.length : Int) ≤ L) → ls.length ≤ 1048576 ∧ ∀ u ∈ ls, u.r.length ≤ 1048576 := by
    intro ls L hL h
    refine ⟨by have := h.1; rw [sayL_len] at this; omega, fun u hu => ?_⟩
    have := h.2 u.r (sayL_mem hu)
    omega
  obtain ⟨p1, p2⟩ := say (by omega) b1
  obtain ⟨o1, o2⟩ := say (by omega) b2
  obtain ⟨f1, f2⟩ := say (by omega) b4
  exact ⟨p1, p2, o1, o2, by omega, f1, f2⟩

theorem LenB.of_say {m : Nat} {b b' : Bi} (h : LenB m b) (e : b'.say = b.say) : LenB m b' := by
  have one : ∀ {ls ls' : List Li}, sayL ls' = sayL ls → ls.length ≤ m → (∀ u ∈ ls, u.r.length ≤ m) → ls'.length ≤ m ∧ ∀ u ∈ ls', u.r.length ≤ m := by
    intro ls ls' e h1 h2
    refine ⟨by rw [sayL_len' e, sayL_len]; exact h1, fun u hu => ?_⟩
    have := sayL_mem hu
    rw [e] at this
    obtain ⟨v, hv, e'⟩ := List.mem_map.1 this
    rw [← e']; exact h2 v hv
  obtain ⟨a1, a2⟩ := one (congrArg Bs.P e) h.p h.ps
  obtain ⟨b1, b2⟩ := one (congrArg Bs.O e) h.o h.os
  obtain ⟨c1, c2⟩ := one (congrArg Bs.F e) h.f h.fs
  exact ⟨a1, a2, b1, b2, by rw [show b'.E = b.E from congrArg Bs.E e]; exact h.e, c1, c2⟩

/-- Two binary grammars say the same. -/
def eqB (s s' : Bs) : Bool := decide (s = s')
theorem eqB_t {s s' : Bs} (h : s = s') : eqB s s' = true := decide_eq_true h

/-- Its lists are the call's own, those of each field apart. -/
def OwnB (w : World) (lo : Nat) (b : Bi) : Prop := OwnL w lo b.Ap b.P ∧ OwnL w lo b.Ao b.O ∧ OwnI w lo b.Ae b.E ∧ OwnL w lo b.Af b.F

theorem OwnB.read {w : World} {lo : Nat} {b : Bi} (h : OwnB w lo b) : ReadB w w.heap.size b := ⟨h.1.lls, h.2.1.lls, h.2.2.1.ints, h.2.2.2.lls⟩
theorem OwnB.below {w w' : World} {lo B : Nat} {b : Bi} (h : OwnB w lo b) (hb : Below B w w') (hB : w.heap.size ≤ B) : OwnB w' lo b := ⟨h.1.below hb hB, h.2.1.below hb hB, h.2.2.1.below hb hB, h.2.2.2.below hb hB⟩

/-- A binary grammar's copy: it says the same; nothing older has turned. -/
def GaveB (w : World) (s : Bs) (e : Ending) (w' : World) : Prop :=
  ∃ b : Bi, e = .returned (.agg #[.int .i64 b.n, .int .i64 b.t, .slice b.Ap b.P.length b.cp, .slice b.Ao b.O.length b.co, .slice b.Ae b.E.length b.ce, .slice b.Af b.F.length b.cf]) ∧ b.say = s ∧ OwnB w' w.heap.size b ∧ CapB b ∧ Below w.heap.size w w'

end Go.Proofs.YtbgjlabjihoaaaaDoor

/- Plain mathematics of chapter 5: which lists rise, which binary grammars are good. No program, no memory. -/

namespace Go.Proofs.YtbgjlabjihoaaaaDoor

noncomputable def bP (P : Prop) : Bool := @decide P (Classical.propDecidable P)
theorem bP_t {P : Prop} (h : P) : bP P = true := @decide_eq_true P (Classical.propDecidable P) h
theorem bP_f {P : Prop} (h : ¬ P) : bP P = false := @decide_eq_false P (Classical.propDecidable P) h
theorem bP_is {P : Prop} (h : bP P = true) : P := @of_decide_eq_true P (Classical.propDecidable P) h
theorem bP_no {P : Prop} (h : bP P = false) : ¬ P := @of_decide_eq_false P (Classical.propDecidable P) h
theorem bP_congr {P Q : Prop} (h : P ↔ Q) : bP P = bP Q := by rw [propext h]

/-- Two lists compared: the first unlike number decides. -/
def cmpL : List Int → List Int → Int
  | [], [] => 0
  | [], _ :: _ => -1
  | _ :: _, [] => 1
  | x :: a, y :: b => if x < y then -1 else if y < x then 1 else cmpL a b

theorem cmpL_range : ∀ (a b : List Int), cmpL a b = -1 ∨ cmpL a b = 0 ∨ cmpL a b = 1
  | [], [] => by simp [cmpL]
  | [], _ :: _ => by simp [cmpL]
  | _ :: _, [] => by simp [cmpL]
  | x :: a, y :: b => by
    simp only [cmpL]
    split
    · simp
    · split
      · simp
      · exact cmpL_range a b

theorem cmpL_drop {a b : List Int} {k : Nat} (ha : k < a.length) (hb : k < b.length) : cmpL (a.drop k) (b.drop k) = if a[k] < b[k] then -1 else if b[k] < a[k] then 1 else cmpL (a.drop (k + 1)) (b.drop (k + 1)) := by
  rw [List.drop_eq_getElem_cons ha, List.drop_eq_getElem_cons hb]; rfl
theorem cmpL_left {a b : List Int} {k : Nat} (ha : k < a.length) (hb : ¬ k < b.length) : cmpL (a.drop k) (b.drop k) = 1 := by
  rw [List.drop_of_length_le (l := b) (by omega), List.drop_eq_getElem_cons ha]; rfl
theorem cmpL_right {a b : List Int} {k : Nat} (ha : ¬ k < a.length) (hb : k < b.length) : cmpL (a.drop k) (b.drop k) = -1 := by
  rw [List.drop_of_length_le (l := a) (by omega), List.drop_eq_getElem_cons hb]; rfl
theorem cmpL_end {a b : List Int} {k : Nat} (ha : ¬ k < a.length) (hb : ¬ k < b.length) : cmpL (a.drop k) (b.drop k) = 0 := by
  rw [List.drop_of_length_le (by omega), List.drop_of_length_le (by omega)]; rfl

/-- The first k lists rise. -/
def RiseTo (xs : List (List Int)) (k : Nat) : Prop := ∀ (j : Nat) (a b : List Int), j + 1 < k → xs[j]? = some a → xs[j + 1]? = some b → cmpL a b < 0
theorem RiseTo.none (xs : List (List Int)) : RiseTo xs 1 := fun j a b h => absurd h (by omega)
theorem RiseTo.zero (xs : List (List Int)) : RiseTo xs 0 := fun j a b h => absurd h (by omega)
theorem RiseTo.step {xs : List (List Int)} {k : Nat} (h : RiseTo xs (k + 1)) {a b : List Int} (ha : xs[k]? = some a) (hb : xs[k + 1]? = some b) (hc : cmpL a b < 0) : RiseTo xs (k + 2) := by
  intro j a' b' hj ha' hb'
  by_cases e : j = k
  · subst e
    rw [ha] at ha'; rw [hb] at hb'
    injection ha' with ha'; injection hb' with hb'
    rw [← ha', ← hb']; exact hc
  · exact h j a' b' (by omega) ha' hb'
theorem RiseTo.mono {xs : List (List Int)} {k m : Nat} (h : RiseTo xs k) (hm : m ≤ k ∨ xs.length ≤ k) : RiseTo xs m := by
  intro j a b hj ha hb
  have := (List.getElem?_eq_some_iff.1 hb).1
  exact h j a b (by omega) ha hb

/-- Numbers rise. -/
def RiseI (xs : List Int) (k : Nat) : Prop := ∀ (j : Nat) (a b : Int), j + 1 < k → xs[j]? = some a → xs[j + 1]? = some b → a < b
theorem RiseI.none (xs : List Int) : RiseI xs 1 := fun j a b h => absurd h (by omega)
theorem RiseI.zero (xs : List Int) : RiseI xs 0 := fun j a b h => absurd h (by omega)
theorem RiseI.step {xs : List Int} {k : Nat} (h : RiseI xs (k + 1)) {a b : Int} (ha : xs[k]? = some a) (hb : xs[k + 1]? = some b) (hc : a < b) : RiseI xs (k + 2) := by
  intro j a' b' hj ha' hb'
  by_cases e : j = k
  · subst e
    rw [ha] at ha'; rw [hb] at hb'
    injection ha' with ha'; injection hb' with hb'
    rw [← ha', ← hb']; exact hc
  · exact h j a' b' (by omega) ha' hb'
theorem RiseI.mono {xs : List Int} {k m : Nat} (h : RiseI xs k) (hm : m ≤ k ∨ xs.length ≤ k) : RiseI xs m := by
  intro j a b hj ha hb
  have := (List.getElem?_eq_some_iff.1 hb).1
  exact h j a b (by omega) ha hb

/-- All lists are of one length. -/
def LongTo (long : Int) (xs : List (List Int)) (k : Nat) : Prop := ∀ (j : Nat) (x : List Int), j < k → xs[j]? = some x → (x.length : Int) = long
/-- A list is a nonterminal and symbols. -/
def symL (n t : Int) (x : List Int) : Prop := nonB n (x.getD 0 0) = true ∧ symsB n t (x.drop 1) = true
def SymTo (n t : Int) (xs : List (List Int)) (k : Nat) : Prop := ∀ (j : Nat) (x : List Int), j < k → xs[j]? = some x → symL n t x
def NonTo (n : Int) (xs : List Int) (k : Nat) : Prop := ∀ (j : Nat) (x : Int), j < k → xs[j]? = some x → nonB n x = true

def GoodLs (n t long : Int) (xs : List (List Int)) : Prop := LongTo long xs xs.length ∧ SymTo n t xs xs.length ∧ RiseTo xs xs.length
def GoodE (n : Int) (xs : List Int) : Prop := NonTo n xs xs.length ∧ RiseI xs xs.length

/-- A binary grammar is good. -/
def GoodBs (s : Bs) : Prop := (1 ≤ s.n ∧ s.n ≤ 40) ∧ (1 ≤ s.t ∧ s.t ≤ 4) ∧ GoodLs s.n s.t 3 s.P ∧ GoodLs s.n s.t 2 s.O ∧ GoodE s.n s.E ∧ (s.F.length : Int) ≤ s.n ∧ LongTo 2 s.F s.F.length

theorem upto_next {α : Type} {Q : α → Prop} {xs : List α} {k : Nat} {y : α} (hy : xs[k]? = some y) (h : Q y) (H : ∀ (j : Nat) (x : α), j < k → xs[j]? = some x → Q x) : ∀ (j : Nat) (x : α), j < k + 1 → xs[j]? = some x → Q x := by
  intro j x hj hx
  by_cases e : j = k
  · subst e; rw [hy] at hx; injection hx with hx; rw [← hx]; exact h
  · exact H j x (by omega) hx
theorem upto_end {α : Type} {Q : α → Prop} {xs : List α} {k m : Nat} (hk : ¬ k < xs.length) (H : ∀ (j : Nat) (x : α), j < k → xs[j]? = some x → Q x) : ∀ (j : Nat) (x : α), j < m → xs[j]? = some x → Q x :=
  fun j x _ hx => H j x (by have := (List.getElem?_eq_some_iff.1 hx).1; omega) hx

def FitL (xs : List (List Int)) : Prop := ∀ x ∈ xs, ∀ y ∈ x, F64 y
def FitB (s : Bs) : Prop := FitL s.P ∧ FitL s.O ∧ (∀ y ∈ s.E, F64 y) ∧ FitL s.F

end Go.Proofs.YtbgjlabjihoaaaaDoor

/- A new slice of numbers as an answer. -/

namespace Go.Proofs.YtbgjlabjihoaaaaDoor
open Go.RowKit

/-- A new slice of numbers, and a bool. -/
def GaveIB (w : World) (ys : List Int) (b : Bool) (e : Ending) (w' : World) : Prop :=
  ∃ A c, e = .returned (.tuple #[.slice A ys.length c, .bool b]) ∧ OwnI w' w.heap.size A ys ∧ Below w.heap.size w w'

theorem ownI_of_row {w : World} {lo : Nat} {v : Value} {n : Nat} {ys : List Int} (h : w.ownsRow lo 3 1 v n (ys.map fun y => Value.int .i64 y)) : ∃ A c, v = .slice A ys.length c ∧ OwnI w lo A ys := by
  obtain ⟨hl, h⟩ := h
  have hn : n = ys.length := by simpa using hl.symm
  subst hn
  rcases h with ⟨rfl, h0⟩ | ⟨g, cap, cur, rfl, hlo, hg, _, _, _, hx⟩
  · have : ys = [] := List.eq_nil_of_length_eq_zero h0
    subst this
    exact ⟨none, 0, rfl, .inl rfl⟩
  · refine ⟨_, cap, rfl, .inr ⟨g, cur, rfl, hlo, hg, fun k x hk => ?_⟩⟩
    have hk' := (List.getElem?_eq_some_iff.1 hk).1
    have e := congrArg (fun l => l[k]?) hx
    simp only [List.getElem?_map, hk, Option.map_some] at e
    rw [List.getElem?_take, if_pos (by omega)] at e
    simpa using e

def GaveI' (w : World) (ys : List Int) (e : Ending) (w' : World) : Prop := ∃ A c, e = .returned (.slice A ys.length c) ∧ OwnI w' w.heap.size A ys ∧ Below w.heap.size w w'

end Go.Proofs.YtbgjlabjihoaaaaDoor

/- Rows of rules that the call itself makes: owned, read as a list, appended to. -/

namespace Go.Proofs.YtbgjlabjihoaaaaDoor
open Go.RowKit

def cellsU (u : Ru) : List Value := [.int .i64 u.l, .slice u.a u.r.length u.c]

theorem flat_get : ∀ {ds : List Ru} {k : Nat} {u : Ru}, ds[k]? = some u → (ds.flatMap cellsU)[k * 2]? = some (.int .i64 u.l) ∧ (ds.flatMap cellsU)[k * 2 + 1]? = some (.slice u.a u.r.length u.c)
  | [], k, u, h => by simp at h
  | d :: ds, 0, u, h => by
    simp at h
    subst h
    simp [cellsU]
  | d :: ds, k + 1, u, h => by
    have ih := flat_get (ds := ds) (k := k) (u := u) (by simpa using h)
    have e1 : (k + 1) * 2 = k * 2 + 1 + 1 := by omega
    have e2 : (k + 1) * 2 + 1 = k * 2 + 1 + 1 + 1 := by omega
    rw [e1]
    simpa [cellsU] using ih

theorem flat_length (ds : List Ru) : (ds.flatMap cellsU).length = ds.length * 2 := by
  induction ds with
  | nil => rfl
  | cons d ds ih => rw [List.flatMap_cons, List.length_append, ih]; simp [cellsU]; omega

theorem own_below {w w' : World} {base : Nat} {e : TypeId} {size n : Nat} {v : Value} {xs : List Value} (h : w.ownsRow base e size v n xs) (hb : Below w.heap.size w w') : w'.ownsRow base e size v n xs := by
  obtain ⟨h1, h2 | ⟨g, cap, cur, h3, h4, h5, h6⟩⟩ := h
  · exact ⟨h1, .inl h2⟩
  · exact ⟨h1, .inr ⟨g, cap, cur, h3, h4, (hb.block g (Row.lt (t := e) h5)).trans h5, h6⟩⟩

/-- A right side lies apart from a row of rules that is appended to. -/
theorem OwnI.grown {w w' : World} {lo base n : Nat} {A : Option Addr} {xs : List Int} {v : Value} {cs : List Value} (h : OwnI w lo A xs) (hv : w.ownsRow base 96 2 v n cs) (hg : w.grownBy w' v.ownBlock) : OwnI w' lo A xs := by
  rcases h with h | ⟨g, rc, e, hl, hr, hc⟩
  · exact .inl h
  · refine .inr ⟨g, rc, e, hl, (hg.block g hr.lt fun hb => ?_).trans hr, hc⟩
    obtain ⟨_, ⟨rfl, _⟩ | ⟨g', cap, cur, rfl, _, h5, _⟩⟩ := hv
    · cases hb
    · injection hb with hb
      subst hb
      exact hr.ne (t' := 96) (cs' := cur) h5 (by decide) rfl

theorem ownR_of_row {w : World} {lo k : Nat} {v : Value} {ds : List Ru} (h1 : ds.length = k) (h2 : w.ownsRow lo 96 2 v k (ds.flatMap cellsU)) (h4 : ∀ (j : Nat) (u : Ru), ds[j]? = some u → OwnI w lo u.a u.r)
    (h5 : ∀ (i j : Nat) (u v : Ru), ds[i]? = some u → ds[j]? = some v → i ≠ j → u.r ≠ [] → v.r ≠ [] → u.a ≠ v.a) : ∃ A c, v = .slice A ds.length c ∧ ds.length ≤ c ∧ OwnR w lo A ds := by
  subst h1
  obtain ⟨_, ⟨rfl, h0⟩ | ⟨g, cap, cur, rfl, hlo, hg, hcap, _, _, hx⟩⟩ := h2
  · have : ds = [] := List.eq_nil_of_length_eq_zero h0
    subst this
    exact ⟨none, 0, rfl, Nat.le_refl _, .inl rfl⟩
  · refine ⟨_, cap, rfl, hcap, .inr ⟨g, cur, rfl, hlo, hg, fun k u hu => ?_, h5⟩⟩
    have hk := (List.getElem?_eq_some_iff.1 hu).1
    obtain ⟨f1, f2⟩ := flat_get hu
    rw [← hx] at f1 f2
    rw [List.getElem?_take, if_pos (by omega)] at f1 f2
    exact ⟨by simpa using f1, by simpa using f2, h4 k u hu⟩

theorem two_new (w : World) (x y : Value) (t : TypeId) : ∀ j u, [x, y][j]? = some u → (w.alloc (.cells #[x, y] t)).cell? ((⟨w.heap.size, 0, none⟩ : Addr).add j) = some u := by
  intro j u h
  rw [Go.WideShapes.add_plain, Nat.zero_add]
  rcases j with _ | _ | j
  · simpa [go_sem] using h
  · simpa [go_sem] using h
  · simp at h

/-- The slice v of rules is the call's own and reads as ds; each right side is the call's own, and no two lie in one block. -/
structure RulesW (w : World) (lo : Nat) (v : Value) (ds : List Ru) : Prop where
  row : w.ownsRow lo 96 2 v ds.length (ds.flatMap cellsU)
  rts : ∀ (j : Nat) (u : Ru), ds[j]? = some u → OwnI w lo u.a u.r
  far : ∀ (i j : Nat) (u v : Ru), ds[i]? = some u → ds[j]? = some v → i ≠ j → u.r ≠ [] → v.r ≠ [] → u.a ≠ v.a

theorem RulesW.start (w : World) (lo : Nat) : RulesW w lo (.slice none 0 0) [] := ⟨⟨rfl, .inl ⟨rfl, rfl⟩⟩, fun j u h => by simp at h, fun i j u v h => by simp at h⟩
theorem RulesW.keep {w w' : World} {lo : Nat} {v : Value} {ds : List Ru} (h : RulesW w lo v ds) (hb : Below w.heap.size w w') : RulesW w' lo v ds :=
  ⟨own_below h.row hb, fun j x hx => (h.rts j x hx).below hb (Nat.le_refl _), h.far⟩
theorem RulesW.low {w : World} {lo : Nat} {v : Value} {ds : List Ru} (h : RulesW w lo v ds) {p : Addr} (hp : p.block < lo) (u : Value) : RulesW (w.setCell p u) lo v ds :=
  ⟨ownsRow_setCell_below h.row hp u, fun j x hx => (h.rts j x hx).low hp u, h.far⟩
theorem RulesW.slice {w : World} {lo : Nat} {v : Value} {ds : List Ru} (h : RulesW w lo v ds) : ∃ A c, v = .slice A ds.length c ∧ ds.length ≤ c ∧ OwnR w lo A ds := ownR_of_row rfl h.row h.rts h.far
/-- Blocks below lo may turn. -/
theorem RulesW.save {S : Nat → Prop} {w w' : World} {lo : Nat} {v : Value} {ds : List Ru} (h : RulesW w lo v ds) (hs : Save S w w') (hS : ∀ b, lo ≤ b → ¬ S b) : RulesW w' lo v ds := by
  refine ⟨?_, fun j x hx => (h.rts j x hx).save hs fun g e hn => ?_, h.far⟩
  · obtain ⟨hl, h1 | ⟨g, cap, cur, e1, hlo, hg, e2, e3, e4, e5⟩⟩ := h.row
    · exact ⟨hl, .inl h1⟩
    · exact ⟨hl, .inr ⟨g, cap, cur, e1, hlo, (hs.block g (Row.lt hg) (hS g hlo)).trans hg, e2, e3, e4, e5⟩⟩
  · rcases h.rts j x hx with h6 | ⟨g1, _, e1, hl, _⟩
    · exact absurd h6 hn
    · have := e.symm.trans e1
      injection this with this
      injection this with this
      subst this
      exact hS g hl

theorem last_of {ds : List Ru} {x : Ru} {i : Nat} {u : Ru} (hi : ¬ i < ds.length) (hu : (ds ++ [x])[i]? = some u) : i = ds.length ∧ u = x := by
  rw [List.getElem?_append_right (by omega)] at hu
  have hj : i - ds.length = 0 := by
    rcases Nat.eq_zero_or_pos (i - ds.length) with h0 | h0
    · exact h0
    · rw [List.getElem?_eq_none (by simp; omega)] at hu; cases hu
  rw [hj] at hu
  simp at hu
  exact ⟨by omega, hu.symm⟩

/-- A rule is appended: its right side lies apart from all that are there. -/
theorem RulesW.step {w w2 : World} {lo : Nat} {v v' : Value} {ds : List Ru} {l : Int} {A : Option Addr} {xs : List Int} {c : Nat} (h : RulesW w lo v ds) (hO : OwnI w lo A xs)
    (hap : ∀ (j : Nat) (u : Ru), ds[j]? = some u → u.r ≠ [] → xs ≠ [] → u.a ≠ A)
    (ho : w2.ownsRow lo 96 2 v' (ds.length + 1) (ds.flatMap cellsU ++ [.int .i64 l, .slice A xs.length c])) (hg : w.grownBy w2 v.ownBlock) : RulesW w2 lo v' (ds ++ [⟨l, A, xs, c⟩]) := by
  refine ⟨?_, ?_, ?_⟩
  · rw [List.length_append, List.flatMap_append]
    simpa [cellsU] using ho
  · intro j u hu
    by_cases e : j < ds.length
    · rw [List.getElem?_append_left (by omega)] at hu
      exact (h.rts j u hu).grown h.row hg
    · obtain ⟨_, rfl⟩ := last_of e hu
      exact hO.grown h.row hg
  · intro i j u v hu hv hij hun hvn
    by_cases hi : i < ds.length <;> by_cases hj : j < ds.length
    · rw [List.getElem?_append_left (by omega)] at hu hv
      exact h.far i j u v hu hv hij hun hvn
    · obtain ⟨rfl, rfl⟩ := last_of hj hv
      rw [List.getElem?_append_left (by omega)] at hu
      exact hap i u hu hun hvn
    · obtain ⟨rfl, rfl⟩ := last_of hi hu
      rw [List.getElem?_append_left (by omega)] at hv
      exact fun e => hap j v hv hvn hun e.symm
    · have := (last_of hi hu).1; have := (last_of hj hv).1; omega

/-- A right side that was made later lies apart. -/
theorem RulesW.apart {w w1 : World} {lo : Nat} {v : Value} {ds : List Ru} {A : Option Addr} {xs : List Int} (h : RulesW w lo v ds) (hO : OwnI w1 w.heap.size A xs) : ∀ (j : Nat) (u : Ru), ds[j]? = some u → u.r ≠ [] → xs ≠ [] → u.a ≠ A := by
  intro j u hu hne hne' he
  rcases h.rts j u hu with h6 | ⟨g1, _, e1, _, r1, _⟩
  · exact hne h6
  · rcases hO with h7 | ⟨g2, _, e2, l2, _, _⟩
    · exact hne' h7
    · rw [e1, e2] at he
      have := r1.lt
      injection he with he
      injection he with he
      omega

end Go.Proofs.YtbgjlabjihoaaaaDoor

/- The program's goesRound. -/

namespace Go.Proofs.YtbgjlabjihoaaaaDoor
open Go.RowKit

/-- Block g is a row of N numbers, the m-th being what f says. -/
def IntoW (w : World) (g N : Nat) (f : Nat → Int) : Prop := ∃ cs : Array Value, Row w g 3 cs ∧ cs.size = N ∧ ∀ m, m < N → cs[m]? = some (.int .i64 (f m))
theorem IntoW.at_ {w : World} {g N : Nat} {f : Nat → Int} (h : IntoW w g N f) {m : Nat} (hm : m < N) : w.cell? ⟨g, m, none⟩ = some (.int .i64 (f m)) ∧ w.frozen? ⟨g, m, none⟩ = false ∧ g < w.heap.size := by
  obtain ⟨cs, h1, _, h3⟩ := h
  exact ⟨(h1.cell m).trans (h3 m hm), h1.frozen m, h1.lt⟩
theorem IntoW.set {w : World} {g N : Nat} {f : Nat → Int} (h : IntoW w g N f) {m : Nat} (hm : m < N) (v : Int) : IntoW (w.setCell ⟨g, m, none⟩ (.int .i64 v)) g N (fun k => if k = m then v else f k) := by
  obtain ⟨cs, h1, h2, h3⟩ := h
  refine ⟨cs.setIfInBounds m (.int .i64 v), h1.set m _, by simp [h2], fun k hk => ?_⟩
  show _ = some (Value.int .i64 (if k = m then v else f k))
  rw [Array.getElem?_setIfInBounds]
  by_cases e : m = k
  · subst e; rw [if_pos rfl, if_pos (by omega), if_pos rfl]
  · rw [if_neg e, if_neg (fun (h : k = m) => e h.symm)]; exact h3 k hk
theorem IntoW.move {w w' : World} {g N : Nat} {f : Nat → Int} (h : IntoW w g N f) (hb : w'.heap[g]? = w.heap[g]?) : IntoW w' g N f := by
  obtain ⟨cs, h1, h2, h3⟩ := h
  exact ⟨cs, hb.trans h1, h2, h3⟩
theorem IntoW.alloc {w : World} {g N : Nat} {f : Nat → Int} (h : IntoW w g N f) (o : Obj) : IntoW (w.alloc o) g N f := by
  obtain ⟨cs, h1, h2, h3⟩ := h
  exact ⟨cs, h1.alloc o, h2, h3⟩
theorem IntoW.congr {w : World} {g N : Nat} {f f' : Nat → Int} (h : IntoW w g N f) (he : ∀ m, m < N → f' m = f m) : IntoW w g N f' := by
  obtain ⟨cs, h1, h2, h3⟩ := h
  exact ⟨cs, h1, h2, fun m hm => by rw [he m hm]; exact h3 m hm⟩

/-- The numbers of off, as values. -/
def offC (off : List Nat) : List Value := off.map fun (k : Nat) => Value.int .i64 (k : Int)
theorem offC_len (off : List Nat) : (offC off).length = off.length := by simp [offC]
theorem off_at {w : World} {lo : Nat} {v : Value} {off : List Nat} (h : w.ownsRow lo 3 1 v off.length (offC off)) {k : Nat} (hk : k < off.length) : ∃ g cap, v = .slice (some ⟨g, 0, none⟩) off.length cap ∧ lo ≤ g ∧ w.cell? ⟨g, k, none⟩ = some (.int .i64 (off[k] : Int)) := by
  obtain ⟨_, h⟩ := h
  rcases h with ⟨_, h0⟩ | ⟨g, cap, cur, rfl, hlo, hg, _, _, _, hx⟩
  · omega
  · refine ⟨g, cap, rfl, hlo, ?_⟩
    have hR : Row w g 3 cur := hg
    rw [hR.cell]
    have e := congrArg (fun l => l[k]?) hx
    simp only [offC, List.getElem?_map, List.getElem?_eq_getElem hk, Option.map_some] at e
    rw [List.getElem?_take, if_pos (by omega)] at e
    simpa using e
theorem off_shape {w : World} {lo : Nat} {v : Value} {off : List Nat} (h : w.ownsRow lo 3 1 v off.length (offC off)) : ∃ A cap, v = .slice A off.length cap := by
  obtain ⟨_, h⟩ := h
  rcases h with ⟨rfl, h0⟩ | ⟨g, cap, cur, rfl, _⟩
  · exact ⟨none, 0, by rw [h0]⟩
  · exact ⟨_, cap, rfl⟩

theorem cntAll_le {m : Int} {M : Nat} : ∀ {ds : List (List Int)}, (∀ d ∈ ds, d.length ≤ M) → cntAll m ds ≤ ds.length * M
  | [], _ => by simp [cntAll]
  | d :: r, h => by
    have ih := cntAll_le (m := m) (M := M) (ds := r) fun d hd => h d (by simp [hd])
    have h1 : d.count m ≤ d.length := List.count_le_length
    have h2 := h d (by simp)
    simp only [cntAll, List.length_cons, Nat.succ_mul]
    omega

/-- The numbers below k into which none leads. -/
def zeros (f : Nat → Int) (k : Nat) : List Nat := (List.range k).filter fun m => decide (f m = 0)
theorem zeros_succ (f : Nat → Int) (k : Nat) : zeros f (k + 1) = zeros f k ++ if f k = 0 then [k] else [] := by
  unfold zeros
  rw [List.range_succ, List.filter_append]
  by_cases h : f k = 0 <;> simp [h]
theorem Peel.start (ds : List (List Int)) : Peel ds (zeros (fun m => (cntAll (m : Int) ds : Int)) ds.length) 0 0 (fun m => (cntAll (m : Int) ds : Int)) := by
  refine ⟨List.nodup_range.filter _, fun k hk => List.mem_range.1 (List.mem_filter.1 hk).1, Nat.zero_le _, fun m _ => by simp [cntP], fun m hm => ?_, fun k hk T _ hT2 hTk => ?_⟩
  · unfold zeros
    rw [List.mem_filter]
    simp [hm]
  · have h0 : (cntAll (k : Int) ds : Int) = 0 := by simpa using (List.mem_filter.1 hk).2
    obtain ⟨i, _, hi⟩ := hT2 k hTk
    have hpos : 0 < (ds.getD i []).count (k : Int) := List.count_pos_iff.2 hi
    have hil : i < ds.length := by
      apply Classical.byContradiction
      intro h
      unfold LeadsTo at hi
      rw [List.getD_eq_getElem?_getD, List.getElem?_eq_none (by omega)] at hi
      simp at hi
    have h1 : cntP ds (k : Int) [i] ≤ cntAll (k : Int) ds := by
      rw [← cntP_range]; exact cntP_le (by simp) fun a ha => by simp at ha; subst ha; exact List.mem_range.2 hil
    simp only [cntP, Nat.add_zero] at h1
    omega

theorem cntAll_take {x : Int} {ds : List (List Int)} {k : Nat} (h : k < ds.length) : cntAll x (ds.take (k + 1)) = cntAll x (ds.take k) + (ds.getD k []).count x := by
  rw [List.take_succ_eq_append_getElem h, cntAll_app]
  simp [cntAll, List.getD_eq_getElem?_getD, h]
theorem cntAll_take_le {x : Int} {ds : List (List Int)} (k : Nat) : cntAll x (ds.take k) ≤ cntAll x ds := by
  have h := cntAll_app x (ds.take k) (ds.drop k)
  rw [List.take_append_drop] at h
  omega

theorem Peel.more' {ds : List (List Int)} {off : List Nat} {at_ j : Nat} {into : Nat → Int} (h : Peel ds off at_ j into) (hk : at_ < off.length) {rr : List Int} (hr : ds.getD (off.getD at_ 0) [] = rr) (hj : j < rr.length) {x : Nat} (hx : rr[j] = (x : Int)) (hxl : x < ds.length) :
    0 < into x ∧ into x ≤ (cntAll (x : Int) ds : Int) ∧ x ∉ off := by
  subst hr; exact h.more hk hj hx hxl
theorem Peel.step' {ds : List (List Int)} {off : List Nat} {at_ j : Nat} {into : Nat → Int} (h : Peel ds off at_ j into) (hk : at_ < off.length) {rr : List Int} (hr : ds.getD (off.getD at_ 0) [] = rr) (hj : j < rr.length) {x : Nat} (hx : rr[j] = (x : Int)) (hxl : x < ds.length) :
    Peel ds (if into x - 1 = 0 then off ++ [x] else off) at_ (j + 1) (fun m => if m = x then into x - 1 else into m) := by
  subst hr; exact h.step hk hj hx hxl
theorem Peel.next' {ds : List (List Int)} {off : List Nat} {at_ : Nat} {into : Nat → Int} {rr : List Int} (h : Peel ds off at_ rr.length into) (hr : ds.getD (off.getD at_ 0) [] = rr) (hk : at_ < off.length) : Peel ds off (at_ + 1) 0 into := by
  subst hr; exact h.next hk
theorem own_far {w : World} {base : Nat} {e : TypeId} {size n : Nat} {v : Value} {xs : List Value} (h : w.ownsRow base e size v n xs) {p : Addr} (hp : p.block < base) (u : Value) : (w.setCell p u).ownsRow base e size v n xs := by
  obtain ⟨h1, h2 | ⟨g, cap, cur, h3, h4, h5, h6⟩⟩ := h
  · exact ⟨h1, .inl h2⟩
  · exact ⟨h1, .inr ⟨g, cap, cur, h3, h4, (Below.heap_setCell w p u g (by omega)).trans h5, h6⟩⟩

set_option maxRecDepth 20000 in
set_option maxHeartbeats 4000000 in
theorem goesRound_any (A : Option Addr) (ls : List Li) (c : Nat) (w : World) (hx : Lls w w.heap.size A ls) (hl : ls.length ≤ 1048576) (hlu : ∀ u ∈ ls, u.r.length ≤ 1048576) (hel : ∀ u ∈ ls, ∀ x ∈ u.r, 0 ≤ x ∧ x < (ls.length : Int)) :
    Calls Tryd.prog 48 #[.slice A ls.length c] w fun e w' => e = .returned (.bool (bP (HasCyc ls.length (LeadsTo (sayL ls))))) ∧ Below w.heap.size w w' := by
  obtain ⟨i0, hi0, hz0, hz1, hz2⟩ := info_of Tryd.infoInt
  have hmk := make_ints ls.length hl
  have HX := Lib.hid hx; clear hx
  have HU := Lib.hid hlu; clear hlu
  have HE := Lib.hid hel; clear hel
  have HSL : Hid ((sayL ls).length = ls.length) := sayL_len
  have HD : Hid (∀ k (h : k < ls.length), (sayL ls).getD k [] = ls[k].r) := fun k h => by simp [sayL, List.getD_eq_getElem?_getD, h]
  have HCB : Hid (∀ m : Nat, (cntAll (m : Int) (sayL ls) : Int) ≤ 1099511627776) := fun m => by
    have h := cntAll_le (m := (m : Int)) (M := 1048576) (ds := sayL ls) fun d hd => by
      obtain ⟨u, hu, rfl⟩ := List.mem_map.1 hd
      exact HU.out u hu
    have h2 : (sayL ls).length ≤ 1048576 := by rw [HSL.out]; exact hl
    have := Nat.mul_le_mul_right 1048576 h2
    omega
  go_enter Tryd.func48, Tryd.ntmps48
  go_wp2
  go_loopw [19] (fun i wr => ∃ (k : Nat), k ≤ ls.length ∧ i = .int .i64 k ∧ wr.heap.size = w.heap.size + 1 ∧ Below w.heap.size w wr ∧ Hid (IntoW wr w.heap.size ls.length fun m => (cntAll (m : Int) ((sayL ls).take k) : Int))) (fun i _ => ls.length - (intOf i).toNat)
  case atStart =>
    refine ⟨0, by omega, rfl, by simp, (Below.refl _ _).alloc (Nat.le_refl _) _, zI ls.length, Row.new _ _ _, zI_size _, fun m hm => ?_⟩
    simp [zI, madeCells, hm, Nat.mod_one, cntAll]
  case round =>
    obtain ⟨k, hk, rfl, hsz, hB, H⟩ := hrel
    clear hmk
    by_cases hlt : k < ls.length
    · obtain ⟨b, o, eA, hb, c1, _, HRI⟩ := HX.out.at_ hlt
      subst eA
      replace c1 := (hB.cell (p := ⟨b, o + k, none⟩) hb).trans c1
      have HEL := Lib.hid (HE.out ls[k] (List.getElem_mem hlt))
      have hul := HU.out ls[k] (List.getElem_mem hlt)
      have HTK : Hid (∀ m : Nat, cntAll (m : Int) ((sayL ls).take (k + 1)) = cntAll (m : Int) ((sayL ls).take k) + ls[k].r.count (m : Int)) := fun m => by
        rw [cntAll_take (by rw [HSL.out]; exact hlt), HD.out k hlt]
      have HTB : Hid (∀ m : Nat, (cntAll (m : Int) ((sayL ls).take (k + 1)) : Int) ≤ 1099511627776) := fun m => by
        have h1 := HCB.out m
        have h2 := cntAll_take_le (x := (m : Int)) (ds := sayL ls) (k + 1)
        omega
      generalize ls[k].a = ra at c1 HRI
      generalize ls[k].c = rc at c1
      generalize ls[k].r = rr at c1 HRI HTK HEL hul
      have HRI := Lib.hid HRI
      obtain ⟨wA, hA⟩ : ∃ x, x = wr := ⟨_, rfl⟩
      subst hA
      go_wp2
      go_loopw [25] (fun i wr => ∃ (j : Nat), j ≤ rr.length ∧ i = .int .i64 j ∧ wr.heap.size = w.heap.size + 1 ∧ Below w.heap.size w wr ∧ Hid (IntoW wr w.heap.size ls.length fun m => ((cntAll (m : Int) ((sayL ls).take k) + (rr.take j).count (m : Int) : Nat) : Int))) (fun i _ => rr.length - (intOf i).toNat)
      case atStart => exact ⟨0, by omega, rfl, hsz, hB, H.out.congr fun m _ => by simp⟩
      case round =>
        clear hB H c1 hsz
        obtain ⟨j, hj, rfl, hsz, hB, H⟩ := hrel
        by_cases hjl : j < rr.length
        · obtain ⟨b2, o2, rfl, hb2, d1⟩ := (HRI.out.keep hB).at_ hjl
          obtain ⟨h0, h1⟩ := HEL.out _ (List.getElem_mem hjl)
          obtain ⟨x, hx⟩ : ∃ x : Nat, rr[j] = (x : Int) := ⟨_, (Int.toNat_of_nonneg h0).symm⟩
          have hxl : x < ls.length := by omega
          clear h0 h1
          rw [hx] at d1
          obtain ⟨i1, i2, i3⟩ := H.out.at_ hxl
          have HCS : Hid (∀ m : Nat, (rr.take (j + 1)).count (m : Int) = (rr.take j).count (m : Int) + if m = x then 1 else 0) := fun m => by
            rw [count_take_succ hjl, hx]
            by_cases e : m = x
            · subst e; simp
            · rw [if_neg e, if_neg (by omega)]
          have hwr : ((cntAll (x : Int) ((sayL ls).take k) + (rr.take j).count (x : Int) : Nat) : Int) ≤ 1099511627776 := by
            have h1 := HTB.out x
            have h2 := HTK.out x
            have h3 : (rr.take j).count (x : Int) ≤ rr.count (x : Int) := (List.take_sublist _ _).count_le _
            omega
          clear hx
          have HN := Lib.hid (H.out.set hxl (((cntAll (x : Int) ((sayL ls).take k) + (rr.take j).count (x : Int) : Nat) : Int) + 1))
          generalize hvv : ((cntAll (x : Int) ((sayL ls).take k) + (rr.take j).count (x : Int) : Nat) : Int) = vv at i1 hwr HN
          have hv0 : 0 ≤ vv := by rw [← hvv]; omega
          have HVV := Lib.hid hvv; clear hvv
          go_wp2
          go_roundw
          case rel =>
            refine ⟨j + 1, by omega, by go_num, by simpa [World.setCell] using hsz, hB.setCell (Nat.le_refl _) _, HN.out.congr fun m hm => ?_⟩
            rw [HCS.out m]
            by_cases e : m = x
            · subst e; have := HVV.out; simp only [if_true]; omega
            · rw [if_neg e, if_neg e, Nat.add_zero]
          case measure => simp [intOf]; omega
        · obtain rfl : j = rr.length := by omega
          have HNX : Hid (IntoW wr w.heap.size ls.length fun m => (cntAll (m : Int) ((sayL ls).take (k + 1)) : Int)) := H.out.congr fun m _ => by rw [HTK.out m, List.take_length]
          go_wp2
          go_roundw
          case rel => exact ⟨k + 1, by omega, by go_num, hsz, hB, HNX⟩
          case measure => simp [intOf]; omega
    · obtain rfl : k = ls.length := by omega
      have HI : Hid (IntoW wr w.heap.size ls.length fun m => (cntAll (m : Int) (sayL ls) : Int)) := H.out.congr fun m _ => by
        rw [show (sayL ls).take ls.length = sayL ls from List.take_of_length_le (by rw [HSL.out]; exact Nat.le_refl _)]
      obtain ⟨wA, hA⟩ : ∃ x, x = wr := ⟨_, rfl⟩
      subst hA
      clear H
      have HBA := Lib.hid hB
      go_wp2
      go_loopw [8, 39] (fun v i wr => ∃ (k : Nat), k ≤ ls.length ∧ i = .int .i64 k ∧ Hid (wr.ownsRow (w.heap.size + 1) 3 1 v (zeros (fun m => (cntAll (m : Int) (sayL ls) : Int)) k).length (offC (zeros (fun m => (cntAll (m : Int) (sayL ls) : Int)) k))) ∧ w.heap.size + 1 ≤ wr.heap.size ∧ Below w.heap.size w wr ∧ Hid (IntoW wr w.heap.size ls.length fun m => (cntAll (m : Int) (sayL ls) : Int))) (fun _ i _ => ls.length - (intOf i).toNat)
      case atStart => exact ⟨0, by omega, rfl, ⟨by simp [offC, zeros], .inl ⟨rfl, rfl⟩⟩, by omega, hB, HI⟩
      case round =>
        clear hB hsz HI
        obtain ⟨k, hk, rfl, HO, hsz, hB, HI⟩ := hrel
        by_cases hlt : k < ls.length
        · obtain ⟨i1, i2, i3⟩ := HI.out.at_ hlt
          have HS := Lib.hid (zeros_succ (fun m => (cntAll (m : Int) (sayL ls) : Int)) k)
          have hzl : (zeros (fun m => (cntAll (m : Int) (sayL ls) : Int)) k).length ≤ k := by
            have h := List.length_filter_le (fun (m : Nat) => decide ((cntAll (m : Int) (sayL ls) : Int) = 0)) (List.range k)
            rw [List.length_range] at h
            exact h
          generalize hzz : zeros (fun m => (cntAll (m : Int) (sayL ls) : Int)) k = zz at HO HS hzl
          by_cases h0 : (cntAll (k : Int) (sayL ls) : Int) = 0
          · have ht := beq_t h0
            rw [if_pos h0] at HS
            have HH0 := Lib.hid h0; clear h0
            generalize (cntAll (k : Int) (sayL ls) : Int) = vv at ht i1
            have hown := HO.out.alloc (.cells #[.int .i64 (k : Int)] 3)
            have HW := Lib.hid hown; clear hown
            have HNW := Lib.hid (cell_one_new wr (.int .i64 (k : Int)) 3)
            go_wp2_with (at_builtin
                         refine wpList_append_own _ rfl (.tmp 46) (.tmp 48) _ rfl (w.heap.size + 1) 3 i0 _ 1 8 Tryd.underlying27 hi0 hz0 hz1 hz2 rfl (by omega) _ _ _ rfl HW.out ⟨wr.heap.size, 0, none⟩ 1 1 [.int .i64 (k : Int)] rfl rfl HNW.out (by intro u hu; simp at hu; subst hu; rfl) (by unfold maxLen; omega) (by omega) (by simp; omega) ?_
                         intro v' w' h1 h2 h3
                         have HO1 := Lib.hid h1
                         have HG1 := Lib.hid h2
                         clear h1 h2 h3)
            go_roundw
            case rel =>
              have hgs := HG1.out.size
              rw [World.size_alloc] at hgs
              refine ⟨k + 1, by omega, by go_num, ?_, by omega, ((hB.alloc (by omega) _).grown HG1.out (by simp; omega) fun j hj => by have := (HO.out.lt j hj).1; omega), (HI.out.alloc _).move (HG1.out.block _ (by simp; omega) fun e => by have := (HO.out.lt _ e.symm).1; omega)⟩
              show World.ownsRow _ _ _ _ _ _ _
              rw [HS.out]
              simpa [offC] using HO1.out
            case measure => simp [intOf]; omega
          · have ht := beq_f h0
            rw [if_neg h0, List.append_nil] at HS
            clear h0
            generalize (cntAll (k : Int) (sayL ls) : Int) = vv at ht i1
            go_wp2
            go_roundw
            case rel => exact ⟨k + 1, by omega, by go_num, by show World.ownsRow _ _ _ _ _ _ _; rw [HS.out]; exact HO.out, hsz, hB, HI⟩
            case measure => simp [intOf]; omega
        · obtain rfl : k = ls.length := by omega
          have HPS : Hid (Peel (sayL ls) (zeros (fun m => (cntAll (m : Int) (sayL ls) : Int)) ls.length) 0 0 (fun m => (cntAll (m : Int) (sayL ls) : Int))) := by
            have h := Peel.start (sayL ls)
            rw [HSL.out] at h
            exact h
          have HLE : Hid (∀ (off : List Nat) (at_ j : Nat) (into : Nat → Int), Peel (sayL ls) off at_ j into → off.length ≤ ls.length) := fun off at_ j into h => len_le_of h.nodup fun k hk => by have := h.low k hk; rw [HSL.out] at this; exact this
          generalize zeros (fun m => (cntAll (m : Int) (sayL ls) : Int)) ls.length = zz at HO HPS
          obtain ⟨ZA, zc, hzv⟩ := off_shape HO.out
          obtain ⟨wC, hC⟩ : ∃ x, x = wr := ⟨_, rfl⟩
          subst hC
          have HOC := Lib.hid HO.out
          have HIC := Lib.hid HI.out
          have HBC := Lib.hid hB
          have hszC := hsz
          clear HO HI hB hsz
          go_wp2
          go_loopw [8, 11] (fun v a wr => ∃ (off : List Nat) (at_ : Nat) (into : Nat → Int), a = .int .i64 at_ ∧ at_ ≤ ls.length ∧ Hid (Peel (sayL ls) off at_ 0 into) ∧ Hid (wr.ownsRow (w.heap.size + 1) 3 1 v off.length (offC off)) ∧ w.heap.size + 1 ≤ wr.heap.size ∧ Below w.heap.size w wr ∧ Hid (IntoW wr w.heap.size ls.length into)) (fun _ a _ => ls.length - (intOf a).toNat)
          case atStart => exact ⟨zz, 0, _, rfl, by omega, HPS, HOC, hszC, HBC.out, HIC⟩
          case round =>
            obtain ⟨off, at_, into, rfl, hal, HP, HO, hsz, hB, HI⟩ := hrel
            have hol := HLE.out _ _ _ _ HP.out
            by_cases hk : at_ < off.length
            · have hk' : ((at_ : Int) < (off.length : Int)) := by omega
              obtain ⟨gg, cap, rfl, hgg, q1⟩ := off_at HO.out hk
              have hkl : off[at_] < ls.length := by have := HP.out.low off[at_] (List.getElem_mem hk); rw [HSL.out] at this; exact this
              have HG0 : Hid (off.getD at_ 0 = off[at_]) := by show _ = _; simp [List.getD_eq_getElem?_getD, hk]
              generalize off[at_] = k0 at q1 hkl HG0
              obtain ⟨b, o, eA, hb, c1, _, HRI⟩ := HX.out.at_ hkl
              subst eA
              replace c1 := (hB.cell (p := ⟨b, o + k0, none⟩) hb).trans c1
              have HEL := Lib.hid (HE.out ls[k0] (List.getElem_mem hkl))
              have hul := HU.out ls[k0] (List.getElem_mem hkl)
              have HDK := Lib.hid (HD.out k0 hkl)
              generalize ls[k0].a = ra at c1 HRI
              generalize ls[k0].c = rc at c1
              generalize ls[k0].r = rr at c1 HRI HDK HEL hul
              have HRI := Lib.hid HRI
              obtain ⟨wD, hD⟩ : ∃ x, x = wr := ⟨_, rfl⟩
              subst hD
              go_wp2
              go_loopw [8, 65] (fun v i wr => ∃ (off : List Nat) (j : Nat) (into : Nat → Int), i = .int .i64 j ∧ j ≤ rr.length ∧ at_ < off.length ∧ off.getD at_ 0 = k0 ∧ Hid (Peel (sayL ls) off at_ j into) ∧ Hid (wr.ownsRow (w.heap.size + 1) 3 1 v off.length (offC off)) ∧ w.heap.size + 1 ≤ wr.heap.size ∧ Below w.heap.size w wr ∧ Hid (IntoW wr w.heap.size ls.length into)) (fun _ i _ => rr.length - (intOf i).toNat)
              case atStart => exact ⟨off, 0, into, rfl, by omega, hk, HG0.out, HP, HO, hsz, hB, HI⟩
              case round =>
                clear HP HO hsz hB HI hk HG0 q1 c1 hol hk' hgg
                obtain ⟨off, j, into, rfl, hj, hk, hg0, HP, HO, hsz, hB, HI⟩ := hrel
                have HG0 := Lib.hid hg0; clear hg0
                have hol := HLE.out _ _ _ _ HP.out
                have HRR : Hid ((sayL ls).getD (off.getD at_ 0) [] = rr) := by show _ = _; rw [HG0.out, HDK.out]
                by_cases hjl : j < rr.length
                · obtain ⟨b2, o2, rfl, hb2, d1⟩ := (HRI.out.keep hB).at_ hjl
                  obtain ⟨h0, h1⟩ := HEL.out _ (List.getElem_mem hjl)
                  obtain ⟨x, hx⟩ : ∃ x : Nat, rr[j] = (x : Int) := ⟨_, (Int.toNat_of_nonneg h0).symm⟩
                  have hxl : x < ls.length := by omega
                  clear h0 h1
                  rw [hx] at d1
                  have HXL : Hid (x < (sayL ls).length) := by show _ < _; rw [HSL.out]; exact hxl
                  obtain ⟨p1, p2, _⟩ := HP.out.more' hk HRR.out hjl hx HXL.out
                  have p3 := HCB.out x
                  have HPN := Lib.hid (HP.out.step' hk HRR.out hjl hx HXL.out)
                  clear hx
                  obtain ⟨i1, i2, i3⟩ := HI.out.at_ hxl
                  have HIN := Lib.hid (HI.out.set hxl (into x - 1))
                  have HOS := Lib.hid (own_far HO.out (p := ⟨w.heap.size, x, none⟩) (by simp) (.int .i64 (into x - 1)))
                  have p2' : into x ≤ 1099511627776 := by omega
                  clear p2 p3
                  generalize hvv : into x = vv at i1 p1 p2' HIN HPN HOS
                  by_cases hz : vv - 1 = 0
                  · have ht := beq_t hz
                    rw [if_pos hz] at HPN
                    have HZ := Lib.hid hz; clear hz
                    have hown := HOS.out.alloc (.cells #[.int .i64 (x : Int)] 3)
                    have HW := Lib.hid hown; clear hown
                    have hnew := cell_one_new (wr.setCell ⟨w.heap.size, x, none⟩ (.int .i64 (vv - 1))) (.int .i64 (x : Int)) 3
                    rw [World.size_setCell] at hnew
                    have HNW := Lib.hid hnew; clear hnew
                    go_wp2_with (at_builtin
                                 refine wpList_append_own _ rfl (.tmp 80) (.tmp 82) _ rfl (w.heap.size + 1) 3 i0 _ 1 8 Tryd.underlying27 hi0 hz0 hz1 hz2 rfl (by omega) _ _ _ rfl HW.out ⟨wr.heap.size, 0, none⟩ 1 1 [.int .i64 (x : Int)] rfl rfl HNW.out (by intro u hu; simp at hu; subst hu; rfl) (by unfold maxLen; omega) (by omega) (by simp; omega) ?_
                                 intro v' w' h1 h2 h3
                                 have HO1 := Lib.hid h1
                                 have HG1 := Lib.hid h2
                                 clear h1 h2 h3)
                    go_roundw
                    case rel =>
                      have hgs := HG1.out.size
                      rw [World.size_alloc, World.size_setCell] at hgs
                      refine ⟨off ++ [x], j + 1, _, by go_num, by omega, by simp; omega, ?_, HPN, ?_, by omega, (((hB.setCell (Nat.le_refl _) _).alloc (by simp; omega) _).grown HG1.out (by simp; omega) fun j hj => by have := (HO.out.lt j hj).1; omega), (HIN.out.alloc _).move (HG1.out.block _ (by simp; omega) fun e => by have := (HO.out.lt _ e.symm).1; omega)⟩
                      · have := HG0.out
                        rw [← this]
                        simp [List.getD_eq_getElem?_getD, List.getElem?_append_left hk]
                      · show World.ownsRow _ _ _ _ _ _ _
                        simpa [offC] using HO1.out
                    case measure => simp [intOf]; omega
                  · have ht := beq_f hz
                    rw [if_neg hz] at HPN
                    clear hz
                    go_wp2
                    go_roundw
                    case rel => exact ⟨off, j + 1, _, by go_num, by omega, hk, HG0.out, HPN, HOS, by simpa [World.setCell] using hsz, hB.setCell (Nat.le_refl _) _, HIN⟩
                    case measure => simp [intOf]; omega
                · obtain rfl : j = rr.length := by omega
                  have HPN := Lib.hid (HP.out.next' HRR.out hk)
                  go_wp2
                  go_roundw
                  case rel => exact ⟨off, at_ + 1, into, by go_num, by omega, HPN, HO, hsz, hB, HI⟩
                  case measure => simp [intOf]; omega
            · have hroom := HP.out.room
              obtain rfl : at_ = off.length := by omega
              obtain ⟨OA, oc, rfl⟩ := off_shape HO.out
              have hne : ¬ ((off.length : Int) < (off.length : Int)) := by omega
              have HE1 : Hid (decide (off.length < ls.length) = bP (HasCyc ls.length (LeadsTo (sayL ls)))) := by
                show _ = _
                have h := HP.out.done
                rw [HSL.out] at h
                by_cases hc : HasCyc ls.length (LeadsTo (sayL ls))
                · rw [bP_t hc]; have := h.2 hc; exact decide_eq_true (by omega)
                · rw [bP_f hc]; exact decide_eq_false fun h' => hc (h.1 (by omega))
              go_wp2
              go_ret
              exact ⟨ret_bool HE1.out, hB⟩

end Go.Proofs.YtbgjlabjihoaaaaDoor

/- The nodes to which an edge leads, by the program and by the reference. -/

namespace Go.Proofs.YtbgjlabjihoaaaaDoor
open Go.RowKit

/-- The i-th symbol's node, where that is a nonterminal. -/
def kidAt (xs ys : List Int) (i : Nat) : Option Nd := if 0 ≤ xs.getD i 0 then some ⟨xs.getD i 0, ys.getD i 0, ys.getD (i + 1) 0⟩ else none
/-- The nodes to which the first k symbols lead. -/
def kidsTo (xs ys : List Int) (k : Nat) : List Nd := (List.range k).filterMap (kidAt xs ys)
def kidsV (xs ys : List Int) : List Nd := kidsTo xs ys xs.length
theorem kidsTo_zero (xs ys : List Int) : kidsTo xs ys 0 = [] := rfl
theorem kidsTo_succ (xs ys : List Int) (k : Nat) : kidsTo xs ys (k + 1) = kidsTo xs ys k ++ (kidAt xs ys k).toList := by
  unfold kidsTo
  rw [List.range_succ, List.filterMap_append]
  cases h : kidAt xs ys k <;> simp [h]
theorem kidsTo_len (xs ys : List Int) (k : Nat) : (kidsTo xs ys k).length ≤ k := by
  have := List.length_filterMap_le (kidAt xs ys) (List.range k)
  simpa [kidsTo] using this
theorem kidAt_yes {xs ys : List Int} {k : Nat} (h : k < xs.length) (hy : xs.length + 1 ≤ ys.length) (h0 : 0 ≤ xs[k]) : kidAt xs ys k = some ⟨xs[k], ys[k], ys[k + 1]⟩ := by
  have e1 : xs.getD k 0 = xs[k] := by simp [List.getD_eq_getElem?_getD, h]
  have e2 : ys.getD k 0 = ys[k] := by simp [List.getD_eq_getElem?_getD, show k < ys.length by omega]
  have e3 : ys.getD (k + 1) 0 = ys[k + 1] := by simp [List.getD_eq_getElem?_getD, show k + 1 < ys.length by omega]
  unfold kidAt
  rw [e1, e2, e3, if_pos h0]
theorem kidAt_no {xs ys : List Int} {k : Nat} (h : k < xs.length) (h0 : xs[k] < 0) : kidAt xs ys k = none := by
  have e1 : xs.getD k 0 = xs[k] := by simp [List.getD_eq_getElem?_getD, h]
  unfold kidAt
  rw [e1, if_neg (by omega)]

/-- The slice v of nodes is the call's own and reads as ds. -/
def NodRow (w : World) (lo : Nat) (v : Value) (ds : List Nd) : Prop := w.ownsRow lo 86 3 v ds.length ((flatN ds).map fun y => Value.int .i64 y)
theorem NodRow.start (w : World) (lo : Nat) : NodRow w lo (.slice none 0 0) [] := ⟨by simp [flatN], .inl ⟨rfl, rfl⟩⟩
theorem NodRow.own {w : World} {lo : Nat} {v : Value} {ds : List Nd} (h : NodRow w lo v ds) : ∃ A c, v = .slice A ds.length c ∧ OwnNd w lo A ds := by
  obtain ⟨hl, h⟩ := h
  rcases h with ⟨rfl, h0⟩ | ⟨g, cap, cur, rfl, hlo, hg, _, _, _, hx⟩
  · have : ds = [] := List.eq_nil_of_length_eq_zero h0
    subst this
    exact ⟨none, 0, rfl, .inl rfl⟩
  · refine ⟨_, cap, rfl, .inr ⟨g, cur, rfl, hlo, hg, fun k x hk => ?_⟩⟩
    have hk' := (List.getElem?_eq_some_iff.1 hk).1
    rw [flatN_len] at hk'
    have e := congrArg (fun l => l[k]?) hx
    simp only [List.getElem?_map, hk, Option.map_some] at e
    rw [List.getElem?_take, if_pos (by omega)] at e
    simpa using e
theorem three_new (w : World) (x y z : Value) (t : TypeId) : ∀ j u, [x, y, z][j]? = some u → (w.alloc (.cells #[x, y, z] t)).cell? ((⟨w.heap.size, 0, none⟩ : Addr).add j) = some u := by
  intro j u h
  rw [Go.WideShapes.add_plain, Nat.zero_add]
  rcases j with _ | _ | _ | j
  · simpa [go_sem] using h
  · simpa [go_sem] using h
  · simpa [go_sem] using h
  · simp at h

theorem build_node (x y z : Int) (w : World) : (Instr.build 86 #[(0, .int .i64 x), (1, .int .i64 y), (2, .int .i64 z)]).run Tryd.prog w = .ok (.agg #[.int .i64 x, .int .i64 y, .int .i64 z]) w := run_build w 86 _ _ (by kernel_rfl)

set_option maxHeartbeats 1000000 in
theorem childNodes_any (A B : Option Addr) (xs ys : List Int) (c d : Nat) (w : World) (hx : Ints w w.heap.size A xs) (hy : Ints w w.heap.size B ys) (hl : xs.length + 1 ≤ ys.length) (h1 : xs.length ≤ 1000) (h2 : ys.length ≤ 1048576) :
    Calls Tryd.prog 64 #[.slice A xs.length c, .slice B ys.length d] w fun e w' => ∃ A' c', e = .returned (.slice A' (kidsV xs ys).length c') ∧ OwnNd w' w.heap.size A' (kidsV xs ys) ∧ Below w.heap.size w w' := by
  obtain ⟨i0, hi0, hz0, hz1, hz2⟩ := info_of Tryd.infoNode
  have HX := Lib.hid hx; clear hx
  have HY := Lib.hid hy; clear hy
  go_enter Tryd.func64, Tryd.ntmps64
  go_wp2
  go_loopw [5, 10] (fun v i wr => ∃ (k : Nat), k ≤ xs.length ∧ i = .int .i64 k ∧ Hid (NodRow wr w.heap.size v (kidsTo xs ys k)) ∧ Below w.heap.size w wr) (fun _ i _ => xs.length - (intOf i).toNat)
  case atStart => exact ⟨0, by omega, rfl, NodRow.start _ _, Below.refl _ _⟩
  case round =>
    obtain ⟨k, hk, rfl, HO, hB⟩ := hrel
    have hrl := kidsTo_len xs ys k
    by_cases hlt : k < xs.length
    · obtain ⟨b, o, rfl, hb, c1⟩ := (HX.out.keep hB).at_ hlt
      obtain ⟨b', o', rfl, hb', d1⟩ := (HY.out.keep hB).at_ (k := k) (by omega)
      obtain ⟨b2, o2, eb, _, d2⟩ := (HY.out.keep hB).at_ (k := k + 1) (by omega)
      cases eb
      by_cases h0 : 0 ≤ xs[k]
      · have HS : Hid (kidsTo xs ys (k + 1) = kidsTo xs ys k ++ [⟨xs[k], ys[k], ys[k + 1]⟩]) := by show _ = _; rw [kidsTo_succ, kidAt_yes hlt hl h0]; rfl
        have hsz := hB.size
        have hky : k < ys.length := by omega
        have hky1 : k + 1 < ys.length := by omega
        have hw1 : IntKind.i64.wrap ((k : Int) + 1) = ((k + 1 : Nat) : Int) := by rw [IntKind.wrap_i64]; omega
        have hi0' : (0 : Int) ≤ (k : Int) + 1 := by omega
        have hi1' : (k : Int) + 1 < (ys.length : Int) := by omega
        have hbd := build_node
        go_wp2
        go_region_law (first
          | (refine step_append_lies _ rfl _ _ _ rfl w.heap.size 86 i0 _ 3 24 Tryd.underlying30 hi0 hz0 hz1 hz2 rfl (by omega) _ (kidsTo xs ys k).length ((flatN (kidsTo xs ys k)).map fun y => Value.int .i64 y) (by simp [Act.eval]) (own_below HO.out (by go_grown))
                ⟨wr.heap.size, 0, none⟩ 1 1 [.int .i64 xs[k], .int .i64 ys[k], .int .i64 ys[k + 1]] (by simp [Act.eval]) rfl (three_new wr _ _ _ _) (by simp [Value.oneCell'])
                (by omega) (by unfold maxLen; omega) (by omega) (by simp; omega) (wr.heap.size + 1) (by simp) ?_
             intro gg cap w2 hown hgrow hat hgl
             have HOW := Lib.hid hown
             have HGR := Lib.hid hgrow
             clear hown hgrow hat))
        all_goals
          go_wp2
          go_roundw
          case rel =>
            refine ⟨k + 1, by omega, by go_num, ?_, ?_⟩
            · show World.ownsRow _ _ _ _ _ _ _
              rw [HS.out, flatN_app, List.map_append, List.length_append]
              exact HOW.out
            · refine (hB.trans (Below.mono (B := wr.heap.size) (by go_grown) hB.size)).grown HGR.out (by simp; omega) fun j hj => (HO.out.lt j hj).1
          case measure => simp [intOf]; omega
      · have HS : Hid (kidsTo xs ys (k + 1) = kidsTo xs ys k) := by show _ = _; rw [kidsTo_succ, kidAt_no hlt (by omega)]; simp
        go_wp2
        go_roundw
        case rel => exact ⟨k + 1, by omega, by go_num, by rw [HS.out]; exact HO, hB⟩
        case measure => simp [intOf]; omega
    · obtain rfl : k = xs.length := by omega
      obtain ⟨A', c', rfl, hO⟩ := HO.out.own
      have HO' := Lib.hid hO; clear hO
      go_wp2
      go_ret
      exact ⟨A', c', rfl, HO'.out, hB⟩

end Go.Proofs.YtbgjlabjihoaaaaDoor

/- Two nodes compared. -/

namespace Go.Proofs.YtbgjlabjihoaaaaDoor
open Go.RowKit

theorem eqNd_run (a b c a' b' c' : Int) (w : World) : (Op.equalIn 10000 86 (.agg #[.int .i64 a, .int .i64 b, .int .i64 c]) (.agg #[.int .i64 a', .int .i64 b', .int .i64 c'])).run Tryd.prog w = .ok (a == a' && (b == b' && c == c')) w := by
  have u3 := Tryd.underlying3
  have a3 := Tryd.isAgg3
  have z3 := Tryd.sizeOf3
  have hS : Tryd.prog.underlying 86 = some (.struct (Tryd.prog.fieldsOf 86)) := by kernel_rfl
  rw [show (10000 : Nat) = 9999 + 1 from rfl, run_equalIn_agg w 9999 86 _ _ hS (by kernel_rfl)]
  simp only [Program.fieldsOf, Tryd.underlying86]
  go_simp
  by_cases h1 : a = a' <;> by_cases h2 : b = b' <;> by_cases h3 : c = c' <;> simp [h1, h2, h3]

theorem eqNd_guard (op : BinOp) (x y : Operand) (xs ys : Array Value) (w : World) : (eqGuard op 86 x y (.agg xs) (.agg ys)).run Tryd.prog w = .ok () w :=
  run_eqGuard_agg w op 86 x y xs ys (by kernel_rfl)

/-- A node as a value. -/
def Nd.val (u : Nd) : Value := .agg #[.int .i64 u.n, .int .i64 u.f, .int .i64 u.t]

theorem eqNd_b (u v : Nd) : (u.n == v.n && (u.f == v.f && u.t == v.t)) = decide (u = v) := by
  obtain ⟨a, b, c⟩ := u
  obtain ⟨a', b', c'⟩ := v
  simp only [Nd.mk.injEq]
  by_cases h1 : a = a' <;> by_cases h2 : b = b' <;> by_cases h3 : c = c' <;> simp [h1, h2, h3]

section
variable {a : Act} {w : World} {o : Oper} {ops rest : List Oper} {Q : Act → World → Prop}
end

theorem neqNd (u v : Nd) (w : World) : (binOp .neq 86 (.agg #[.int .i64 u.n, .int .i64 u.f, .int .i64 u.t]) (.agg #[.int .i64 v.n, .int .i64 v.f, .int .i64 v.t])).run Tryd.prog w = .ok (.bool (!decide (u = v))) w := by
  rw [run_neq_struct, eqNd_run, eqNd_b]; rfl
theorem eqlNd (u v : Nd) (w : World) : (binOp .eql 86 (.agg #[.int .i64 u.n, .int .i64 u.f, .int .i64 u.t]) (.agg #[.int .i64 v.n, .int .i64 v.f, .int .i64 v.t])).run Tryd.prog w = .ok (.bool (decide (u = v))) w := by
  rw [run_eql_struct, eqNd_run, eqNd_b]; rfl

end Go.Proofs.YtbgjlabjihoaaaaDoor
