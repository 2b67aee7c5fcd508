/- Plain mathematics: some of a good grammar's rules are a good grammar; the useful rules. -/
import Derived.Test.YtaobkanliiiapaaDoorB503
import Derived.Test.YtaobkanliiiapaaDoorB501
import Derived.Test.YtaobkanliiiapaaDoorB502
import Derived.Deep.LoopGhost

namespace Go.Proofs.YtaobkanliiiapaaDoor

theorem goodG_nodup {n t : Int} {ss : List (Int × List Int)} (h : goodG n t ss = true) : ss.Nodup := by
  obtain ⟨_, _, _, hg⟩ := goodG_is h
  refine List.pairwise_iff_getElem.2 fun i j hi hj hij e => ?_
  have h2 := (hg j ss[j] hj (List.getElem?_eq_getElem hj)).2
  have h3 := of_decide_eq_false h2
  refine h3 ?_
  rw [← e]
  exact List.mem_iff_getElem?.2 ⟨i, by rw [List.getElem?_take, if_pos hij, List.getElem?_eq_getElem hi]⟩
theorem goodG_mk {n t : Int} {ss : List (Int × List Int)} (h1 : 1 ≤ n ∧ n ≤ 6) (h2 : 1 ≤ t ∧ t ≤ 4) (h3 : ss.length ≤ 16) (h4 : ∀ u ∈ ss, goodU n t u = true) (h5 : ss.Nodup) : goodG n t ss = true := by
  unfold goodG
  simp only [Bool.and_eq_true, decide_eq_true_eq]
  refine ⟨h1, h2, h3, goodAll_iff.2 fun j u hj hu => ⟨h4 u (List.mem_of_getElem? hu), decide_eq_false fun hm => ?_⟩⟩
  obtain ⟨i, hi⟩ := List.mem_iff_getElem?.1 hm
  rw [List.getElem?_take] at hi
  split at hi
  · rename_i hij
    have a1 := List.getElem?_eq_some_iff.1 hi
    have a2 := List.getElem?_eq_some_iff.1 hu
    obtain ⟨b1, c1⟩ := a1
    obtain ⟨b2, c2⟩ := a2
    exact List.pairwise_iff_getElem.1 h5 i j b1 b2 hij (c1.trans c2.symm)
  · cases hi
theorem goodG_filter {n t : Int} {ss : List (Int × List Int)} (h : goodG n t ss = true) (p : Int × List Int → Bool) : goodG n t (ss.filter p) = true := by
  obtain ⟨h1, h2, h3, hg⟩ := goodG_is h
  refine goodG_mk h1 h2 (by have := List.length_filter_le p ss; omega) (fun u hu => ?_) ((goodG_nodup h).filter p)
  obtain ⟨k, hk⟩ := List.mem_iff_getElem?.1 (List.mem_filter.1 hu).1
  exact (hg k u (List.getElem?_eq_some_iff.1 hk).1 hk).1

theorem map_filter (p : Int × List Int → Bool) (rs : List Ru) : (rs.filter fun u => p u.abs).map Ru.abs = (rs.map Ru.abs).filter p := by
  rw [List.filter_map]
  rfl

/-- The rules that can end in words, by the productive ones. -/
def soundA (P : Int → Bool) (r : Int × List Int) : Bool := r.2.all (tokS P)
/-- us are the useful rules of ss. -/
def IsUse (ss us : List (Int × List Int)) : Prop := ∃ P R, IsLeast wayProd noS ss P ∧ IsLeast wayReach (oneS 0) (ss.filter (soundA P)) R ∧ us = (ss.filter (soundA P)).filter fun r => R r.1
theorem isUse_unique {ss us vs : List (Int × List Int)} (h : IsUse ss us) (k : IsUse ss vs) : us = vs := by
  obtain ⟨P, R, h1, h2, h3⟩ := h
  obtain ⟨Q, T, k1, k2, k3⟩ := k
  have e := h1.unique k1
  subst e
  have e := h2.unique k2
  subst e
  rw [h3, k3]
theorem isUse_good {n t : Int} {ss us : List (Int × List Int)} (hg : goodG n t ss = true) (h : IsUse ss us) : goodG n t us = true := by
  obtain ⟨P, R, _, _, rfl⟩ := h
  exact goodG_filter (goodG_filter hg _) _
/-- Of a rule all of whose right side is productive the left side is, too. -/
theorem sound_left {ss : List (Int × List Int)} {P : Int → Bool} (h : IsLeast wayProd noS ss P) {r : Int × List Int} (hr : r ∈ ss) (hs : soundA P r = true) : P r.1 = true := by
  refine (h r.1).2 ?_
  exact Least.step (S := P) (fun x hx => (h x).1 hx) hr hs (List.mem_singleton.2 rfl)

end Go.Proofs.YtaobkanliiiapaaDoor

/- Plain mathematics of chapter 3: rounds in a graph of which some steps grow; a table that is closed by way of each vertex. -/

namespace Go.Proofs.YtaobkanliiiapaaDoor

section
variable (E M : Int → Int → Prop)

/-- A way from a to b, by the vertices of l. -/
def walkE : Int → List Int → Int → Prop
  | a, [], b => E a b
  | a, c :: l, b => E a c ∧ walkE c l b
/-- .. some step of which grows. -/
def walkM : Int → List Int → Int → Prop
  | a, [], b => M a b
  | a, c :: l, b => (M a c ∧ walkE E c l b) ∨ (E a c ∧ walkM c l b)
end

variable {E M : Int → Int → Prop}

theorem walkE_join : ∀ {l : List Int} {a k b : Int} {l2 : List Int}, walkE E a l k → walkE E k l2 b → walkE E a (l ++ k :: l2) b
  | [], _, _, _, _, h1, h2 => ⟨h1, h2⟩
  | _ :: _, _, _, _, _, h1, h2 => ⟨h1.1, walkE_join h1.2 h2⟩
theorem walkE_part : ∀ {l : List Int} {a k b : Int} {l2 : List Int}, walkE E a (l ++ k :: l2) b → walkE E a l k ∧ walkE E k l2 b
  | [], _, _, _, _, h => h
  | _ :: _, _, _, _, _, h => by
    obtain ⟨h1, h2⟩ := walkE_part h.2
    exact ⟨⟨h.1, h1⟩, h2⟩
theorem walkM_left : ∀ {l : List Int} {a k b : Int} {l2 : List Int}, walkM E M a l k → walkE E k l2 b → walkM E M a (l ++ k :: l2) b
  | [], _, _, _, _, h1, h2 => .inl ⟨h1, h2⟩
  | _ :: _, _, _, _, _, h1, h2 => h1.imp (fun h => ⟨h.1, walkE_join h.2 h2⟩) fun h => ⟨h.1, walkM_left h.2 h2⟩
theorem walkM_right : ∀ {l : List Int} {a k b : Int} {l2 : List Int}, walkE E a l k → walkM E M k l2 b → walkM E M a (l ++ k :: l2) b
  | [], _, _, _, _, h1, h2 => .inr ⟨h1, h2⟩
  | _ :: _, _, _, _, _, h1, h2 => .inr ⟨h1.1, walkM_right h1.2 h2⟩
theorem walkM_part : ∀ {l : List Int} {a k b : Int} {l2 : List Int}, walkM E M a (l ++ k :: l2) b → (walkM E M a l k ∧ walkE E k l2 b) ∨ (walkE E a l k ∧ walkM E M k l2 b)
  | [], _, _, _, _, h => h
  | _ :: _, _, _, _, _, h => by
    rcases h with ⟨h1, h2⟩ | ⟨h1, h2⟩
    · obtain ⟨p1, p2⟩ := walkE_part h2
      exact .inl ⟨.inl ⟨h1, p1⟩, p2⟩
    · rcases walkM_part h2 with ⟨p1, p2⟩ | ⟨p1, p2⟩
      · exact .inl ⟨.inr ⟨h1, p1⟩, p2⟩
      · exact .inr ⟨⟨h1, p1⟩, p2⟩
theorem walkM_E (hM : ∀ a b, M a b → E a b) : ∀ {l : List Int} {a b : Int}, walkM E M a l b → walkE E a l b
  | [], _, _, h => hM _ _ h
  | _ :: _, _, _, h => by
    rcases h with ⟨h1, h2⟩ | ⟨h1, h2⟩
    · exact ⟨hM _ _ h1, h2⟩
    · exact ⟨h1, walkM_E hM h2⟩
/-- In a way that grows there is a step that grows. -/
theorem walkM_step : ∀ {l : List Int} {a b : Int}, walkM E M a l b → ∃ c d, M c d ∧ (c = a ∨ ∃ l1, walkE E a l1 c) ∧ (d = b ∨ ∃ l2, walkE E d l2 b)
  | [], a, b, h => ⟨a, b, h, .inl rfl, .inl rfl⟩
  | x :: l, a, b, h => by
    rcases h with ⟨h1, h2⟩ | ⟨h1, h2⟩
    · exact ⟨a, x, h1, .inl rfl, .inr ⟨l, h2⟩⟩
    · obtain ⟨c, d, hm, hc, hd⟩ := walkM_step h2
      refine ⟨c, d, hm, .inr ?_, hd⟩
      rcases hc with rfl | ⟨l1, h3⟩
      · exact ⟨[], h1⟩
      · exact ⟨x :: l1, h1, h3⟩

theorem not_nodup : ∀ {l : List Int}, ¬ l.Nodup → ∃ v l1 l2 l3, l = l1 ++ v :: (l2 ++ v :: l3)
  | [], h => absurd List.nodup_nil h
  | x :: l, h => by
    by_cases hx : x ∈ l
    · obtain ⟨l2, l3, rfl⟩ := List.append_of_mem hx
      exact ⟨x, [], l2, l3, rfl⟩
    · have hn : ¬ l.Nodup := fun hl => h (List.nodup_cons.2 ⟨hx, hl⟩)
      obtain ⟨v, l1, l2, l3, e⟩ := not_nodup hn
      exact ⟨v, x :: l1, l2, l3, by rw [e]; rfl⟩
/-- Of a round that grows there is one by vertices that are all unlike. -/
theorem round_simple (m : Nat) : ∀ (l : List Int) (k : Int), l.length ≤ m → walkM E M k l k → ∃ l' k', l'.Nodup ∧ walkM E M k' l' k' := by
  induction m with
  | zero =>
    intro l k hl h
    have : l = [] := List.eq_nil_of_length_eq_zero (by omega)
    subst this
    exact ⟨[], k, List.nodup_nil, h⟩
  | succ m ih =>
    intro l k hl h
    by_cases hn : l.Nodup
    · exact ⟨l, k, hn, h⟩
    · obtain ⟨v, l1, l2, l3, rfl⟩ := not_nodup hn
      simp only [List.length_append, List.length_cons] at hl
      rcases walkM_part h with ⟨p1, p2⟩ | ⟨p1, p2⟩
      · obtain ⟨q1, q2⟩ := walkE_part p2
        exact ih (l1 ++ v :: l3) k (by simp only [List.length_append, List.length_cons]; omega) (walkM_left p1 q2)
      · rcases walkM_part p2 with ⟨q1, q2⟩ | ⟨q1, q2⟩
        · exact ih l2 v (by omega) q1
        · exact ih (l1 ++ v :: l3) k (by simp only [List.length_append, List.length_cons]; omega) (walkM_right p1 q2)

/-- A table of bools. -/
abbrev Tab := Int → Int → Bool
/-- Both tables tell ways alone. -/
def SoundT (E M : Int → Int → Prop) (T U : Tab) : Prop := (∀ a b, T a b = true → ∃ l, walkE E a l b) ∧ ∀ a b, U a b = true → ∃ l, walkM E M a l b
/-- All ways by unlike vertices below k are told. -/
def UptoT (E M : Int → Int → Prop) (k : Int) (T U : Tab) : Prop := ∀ (a b : Int) (l : List Int), l.Nodup → (∀ x ∈ l, 0 ≤ x ∧ x < k) → (walkE E a l b → T a b = true) ∧ (walkM E M a l b → U a b = true)
/-- What the step by way of k makes of one place. -/
def byU (T U : Tab) (k a b : Int) : Bool := U a b || (T a k && U k b) || (U a k && T k b)
def byT (T : Tab) (k a b : Int) : Bool := T a b || (T a k && T k b)
def setT (T : Tab) (a b : Int) (v : Bool) : Tab := fun x y => if x = a ∧ y = b then v else T x y
theorem sound_setU {T U : Tab} (h : SoundT E M T U) (k a b : Int) : SoundT E M T (setT U a b (byU T U k a b)) := by
  refine ⟨h.1, fun x y hxy => ?_⟩
  unfold setT at hxy
  split at hxy
  · rename_i e
    obtain ⟨rfl, rfl⟩ := e
    unfold byU at hxy
    simp only [Bool.or_eq_true, Bool.and_eq_true] at hxy
    rcases hxy with (h1 | ⟨h1, h2⟩) | ⟨h1, h2⟩
    · exact h.2 _ _ h1
    · obtain ⟨l1, p1⟩ := h.1 _ _ h1
      obtain ⟨l2, p2⟩ := h.2 _ _ h2
      exact ⟨_, walkM_right p1 p2⟩
    · obtain ⟨l1, p1⟩ := h.2 _ _ h1
      obtain ⟨l2, p2⟩ := h.1 _ _ h2
      exact ⟨_, walkM_left p1 p2⟩
  · exact h.2 _ _ hxy
theorem sound_setT {T U : Tab} (h : SoundT E M T U) (k a b : Int) : SoundT E M (setT T a b (byT T k a b)) U := by
  refine ⟨fun x y hxy => ?_, h.2⟩
  unfold setT at hxy
  split at hxy
  · rename_i e
    obtain ⟨rfl, rfl⟩ := e
    unfold byT at hxy
    simp only [Bool.or_eq_true, Bool.and_eq_true] at hxy
    rcases hxy with h1 | ⟨h1, h2⟩
    · exact h.1 _ _ h1
    · obtain ⟨l1, p1⟩ := h.1 _ _ h1
      obtain ⟨l2, p2⟩ := h.1 _ _ h2
      exact ⟨_, walkE_join p1 p2⟩
  · exact h.1 _ _ hxy
/-- T holds all that S holds. -/
def LeT (S T : Tab) : Prop := ∀ a b, S a b = true → T a b = true
theorem leT_set {T : Tab} {a b : Int} {v : Bool} (h : T a b = true → v = true) : LeT T (setT T a b v) := fun x y hxy => by
  unfold setT
  split
  · rename_i e
    obtain ⟨rfl, rfl⟩ := e
    exact h hxy
  · exact hxy
/-- The step by way of k is done at (a, b). -/
def DoneAt (T0 U0 T U : Tab) (k a b : Int) : Prop := (byT T0 k a b = true → T a b = true) ∧ (byU T0 U0 k a b = true → U a b = true)
theorem DoneAt.mono {T0 U0 T U T' U' : Tab} {k a b : Int} (h : DoneAt T0 U0 T U k a b) (hT : LeT T T') (hU : LeT U U') : DoneAt T0 U0 T' U' k a b := ⟨fun e => hT _ _ (h.1 e), fun e => hU _ _ (h.2 e)⟩
/-- One step more. -/
theorem upto_step' {T0 U0 T U : Tab} {n k : Int} (h : UptoT E M k T0 U0) (hE : ∀ a b, E a b → (0 ≤ a ∧ a < n) ∧ (0 ≤ b ∧ b < n)) (hM : ∀ a b, M a b → E a b) (hT : LeT T0 T) (hU : LeT U0 U) (hd : ∀ a b, 0 ≤ a → a < n → 0 ≤ b → b < n → DoneAt T0 U0 T U k a b) : UptoT E M (k + 1) T U := by
  have hends : ∀ {l : List Int} {a b : Int}, walkE E a l b → (0 ≤ a ∧ a < n) ∧ (0 ≤ b ∧ b < n) := by
    intro l
    induction l with
    | nil => intro a b h; exact hE _ _ h
    | cons c l ih => intro a b h; exact ⟨(hE _ _ h.1).1, (ih h.2).2⟩
  intro a b l hn hl
  by_cases hk : k ∈ l
  · obtain ⟨l1, l2, rfl⟩ := List.append_of_mem hk
    obtain ⟨n1, n2, n3⟩ := List.nodup_append.1 hn
    obtain ⟨n4, n5⟩ := List.nodup_cons.1 n2
    have hk1 : k ∉ l1 := fun hm => n3 k hm k List.mem_cons_self rfl
    have b1 : ∀ x ∈ l1, 0 ≤ x ∧ x < k := fun x hx => by
      have := hl x (List.mem_append_left _ hx)
      have : x ≠ k := fun e => hk1 (e ▸ hx)
      omega
    have b2 : ∀ x ∈ l2, 0 ≤ x ∧ x < k := fun x hx => by
      have := hl x (List.mem_append_right _ (List.mem_cons_of_mem _ hx))
      have : x ≠ k := fun e => n4 (e ▸ hx)
      omega
    have f1 := h a k l1 n1 b1
    have f2 := h k b l2 n5 b2
    refine ⟨fun hw => ?_, fun hw => ?_⟩
    · obtain ⟨⟨a1, a2⟩, ⟨a3, a4⟩⟩ := hends hw
      obtain ⟨p1, p2⟩ := walkE_part hw
      refine (hd a b a1 a2 a3 a4).1 ?_
      unfold byT
      rw [f1.1 p1, f2.1 p2]
      simp
    · obtain ⟨⟨a1, a2⟩, ⟨a3, a4⟩⟩ := hends (walkM_E hM hw)
      refine (hd a b a1 a2 a3 a4).2 ?_
      unfold byU
      rcases walkM_part hw with ⟨p1, p2⟩ | ⟨p1, p2⟩
      · rw [f1.2 p1, f2.1 p2]; simp
      · rw [f1.1 p1, f2.2 p2]; simp
  · have b1 : ∀ x ∈ l, 0 ≤ x ∧ x < k := fun x hx => by
      have := hl x hx
      have : x ≠ k := fun e => hk (e ▸ hx)
      omega
    have f := h a b l hn b1
    exact ⟨fun hw => hT _ _ (f.1 hw), fun hw => hU _ _ (f.2 hw)⟩
/-- At the start the tables tell just the steps. -/
theorem upto_zero {T U : Tab} (hT : ∀ a b, E a b → T a b = true) (hU : ∀ a b, M a b → U a b = true) : UptoT E M 0 T U := fun a b l hn hl => by
  cases l with
  | nil => exact ⟨hT a b, hU a b⟩
  | cons x l => have := hl x List.mem_cons_self; omega
/-- In the end some place (k, k) is told just where a step that grows can be gone round. -/
theorem tab_round {T U : Tab} {n : Int} (hE : ∀ a b, E a b → (0 ≤ a ∧ a < n) ∧ (0 ≤ b ∧ b < n)) (hM : ∀ a b, M a b → E a b) (hs : SoundT E M T U) (hu : UptoT E M n T U) :
    (∃ k, (0 ≤ k ∧ k < n) ∧ U k k = true) ↔ ∃ a b, M a b ∧ (b = a ∨ ∃ l, walkE E b l a) := by
  constructor
  · rintro ⟨k, _, hk⟩
    obtain ⟨l, hl⟩ := hs.2 k k hk
    obtain ⟨c, d, hm, hc, hd⟩ := walkM_step hl
    refine ⟨c, d, hm, ?_⟩
    rcases hc with rfl | ⟨l1, h1⟩
    · exact hd
    · rcases hd with rfl | ⟨l2, h2⟩
      · exact .inr ⟨l1, h1⟩
      · exact .inr ⟨_, walkE_join h2 h1⟩
  · rintro ⟨a, b, hm, hr⟩
    have hw : ∃ l, walkM E M a l a := by
      rcases hr with rfl | ⟨l, hl⟩
      · exact ⟨[], hm⟩
      · exact ⟨b :: l, .inl ⟨hm, hl⟩⟩
    obtain ⟨l, hl⟩ := hw
    obtain ⟨l', k', hn, hk⟩ := round_simple l.length l a (Nat.le_refl _) hl
    have hin : ∀ {l : List Int} {a b : Int}, walkE E a l b → ((0 ≤ a ∧ a < n) ∧ (0 ≤ b ∧ b < n)) ∧ ∀ x ∈ l, 0 ≤ x ∧ x < n := by
      intro l
      induction l with
      | nil => intro a b h; exact ⟨hE _ _ h, fun x hx => by cases hx⟩
      | cons c l ih =>
        intro a b h
        have h1 := hE _ _ h.1
        have h2 := ih h.2
        refine ⟨⟨h1.1, h2.1.2⟩, fun x hx => ?_⟩
        rcases List.mem_cons.1 hx with rfl | hx
        · exact h1.2
        · exact h2.2 x hx
    have hb := hin (walkM_E hM hk)
    exact ⟨k', hb.1.1, (hu k' k' l' hn hb.2).2 hk⟩

end Go.Proofs.YtaobkanliiiapaaDoor

/- Two square tables of bools in memory, as l3Leads makes them. -/

namespace Go.Proofs.YtaobkanliiiapaaDoor
open Go.RowKit

theorem Tryd.infoBool : (Tryd.prog.info? 4).map (fun i => (i.zero, i.size, i.bytes)) = some (some (.bool false), 1, 1) := by kernel_rfl
theorem Tryd.infoBools : (Tryd.prog.info? 220).map (fun i => (i.zero, i.size, i.bytes)) = some (some (.slice none 0 0), 1, 24) := by kernel_rfl

/-- N bools. -/
def bools (N : Nat) (f : Int → Bool) : Array Value := Array.ofFn (n := N) fun b => .bool (f (b.val : Int))
theorem bools_get {N : Nat} {f : Int → Bool} {b : Nat} (hb : b < N) : (bools N f)[b]? = some (.bool (f b)) := by
  unfold bools
  rw [Array.getElem?_ofFn, dif_pos hb]
theorem bools_size {N : Nat} {f : Int → Bool} : (bools N f).size = N := by unfold bools; simp
theorem bools_set {N : Nat} {f : Int → Bool} {b : Nat} {v : Bool} : (bools N f).setIfInBounds b (.bool v) = bools N fun y => if y = b then v else f y := by
  apply Array.ext
  · simp [bools_size]
  · intro i h1 h2
    have hi : i < N := by rw [bools_size] at h2; exact h2
    have e : (bools N fun y => if y = b then v else f y)[i]? = some (.bool (if (i : Int) = b then v else f i)) := bools_get hi
    have e2 : ((bools N f).setIfInBounds b (.bool v))[i]? = some (.bool (if (i : Int) = b then v else f i)) := by
      rw [Array.getElem?_setIfInBounds]
      by_cases h : b = i
      · subst h
        rw [if_pos rfl, if_pos (by rw [bools_size]; exact hi), if_pos rfl]
      · rw [if_neg h, bools_get hi, if_neg (by omega)]
    rw [Array.getElem?_eq_getElem h1] at e2
    rw [Array.getElem?_eq_getElem h2] at e
    exact (Option.some.inj e2).trans (Option.some.inj e).symm
theorem bools_no (N : Nat) : madeCells #[.bool false] N = bools N fun _ => false := by
  apply Array.ext
  · rw [size_madeCells, bools_size]
  · intro i h1 h2
    simp [madeCells, bools, Nat.mod_one]

theorem make_bools (n : Nat) (hn : n ≤ 6) (w : World) :
    (Instr.makeSlice 220 (.int .i64 (n : Int)) (.int .i64 (n : Int))).run Tryd.prog w = .ok (.slice (some ⟨w.heap.size, 0, none⟩) n n) (w.alloc (.cells (bools n fun _ => false) 4)) := by
  obtain ⟨i, hi, hz, hs, hb⟩ := info_of Tryd.infoBool
  have h := run_make (P := Tryd.prog) w 220 4 i _ Tryd.underlying220 hi hz .i64 .i64 n n (by omega) (by omega) (by rw [hb]; omega) (by omega)
  rw [hs] at h
  rw [← bools_no]
  simpa [Value.cells] using h
def zS (n : Nat) : Array Value := madeCells #[.slice none 0 0] n
theorem zS_size (n : Nat) : (zS n).size = n := size_madeCells _ _
theorem make_rows (n : Nat) (hn : n ≤ 6) (w : World) :
    (Instr.makeSlice 221 (.int .i64 (n : Int)) (.int .i64 (n : Int))).run Tryd.prog w = .ok (.slice (some ⟨w.heap.size, 0, none⟩) n n) (w.alloc (.cells (zS n) 220)) := by
  obtain ⟨i, hi, hz, hs, hb⟩ := info_of Tryd.infoBools
  have h := run_make (P := Tryd.prog) w 221 220 i _ Tryd.underlying221 hi hz .i64 .i64 n n (by omega) (by omega) (by rw [hb]; omega) (by omega)
  rw [hs] at h
  simpa [zS, Value.cells] using h

/-- The first k rows of the two tables T and U, behind block S. -/
def Tabs2 (w : World) (S N k : Nat) (T U : Tab) : Prop :=
  (∃ cs, Row w S 220 cs ∧ cs.size = N ∧ ∀ a : Nat, a < k → cs[a]? = some (.slice (some ⟨S + 2 + 2 * a, 0, none⟩) N N)) ∧
  (∃ cs, Row w (S + 1) 220 cs ∧ cs.size = N ∧ ∀ a : Nat, a < k → cs[a]? = some (.slice (some ⟨S + 3 + 2 * a, 0, none⟩) N N)) ∧
  (∀ a : Nat, a < k → Row w (S + 2 + 2 * a) 4 (bools N (T a))) ∧
  ∀ a : Nat, a < k → Row w (S + 3 + 2 * a) 4 (bools N (U a))

theorem Tabs2.lt {w : World} {S N k : Nat} {T U : Tab} (h : Tabs2 w S N k T U) : S + 2 + 2 * k ≤ w.heap.size := by
  obtain ⟨_, ⟨_, h2, _⟩, _, h4⟩ := h
  have := h2.lt
  cases k with
  | zero => omega
  | succ k => have := (h4 k (by omega)).lt; omega
theorem Tabs2.keep {w w' : World} {S N k B : Nat} {T U : Tab} (h : Tabs2 w S N k T U) (hb : Below B w w') (hB : S + 2 + 2 * k ≤ B) : Tabs2 w' S N k T U := by
  obtain ⟨⟨cs, h1, h1'⟩, ⟨ds, h2, h2'⟩, h3, h4⟩ := h
  exact ⟨⟨cs, h1.below hb (by omega), h1'⟩, ⟨ds, h2.below hb (by omega), h2'⟩, fun a ha => (h3 a ha).below hb (by omega), fun a ha => (h4 a ha).below hb (by omega)⟩
theorem Tabs2.one {w : World} {S N k : Nat} {T U : Tab} (h : Tabs2 w S N k T U) {a : Nat} (ha : a < k) : w.cell? ⟨S, a, none⟩ = some (.slice (some ⟨S + 2 + 2 * a, 0, none⟩) N N) := by
  obtain ⟨⟨cs, h1, _, h1'⟩, _⟩ := h
  exact (h1.cell a).trans (h1' a ha)
theorem Tabs2.two {w : World} {S N k : Nat} {T U : Tab} (h : Tabs2 w S N k T U) {a : Nat} (ha : a < k) : w.cell? ⟨S + 1, a, none⟩ = some (.slice (some ⟨S + 3 + 2 * a, 0, none⟩) N N) := by
  obtain ⟨_, ⟨cs, h1, _, h1'⟩, _⟩ := h
  exact (h1.cell a).trans (h1' a ha)
theorem Tabs2.atT {w : World} {S N k : Nat} {T U : Tab} (h : Tabs2 w S N k T U) {a b : Nat} (ha : a < k) (hb : b < N) : w.cell? ⟨S + 2 + 2 * a, b, none⟩ = some (.bool (T a b)) ∧ w.frozen? ⟨S + 2 + 2 * a, b, none⟩ = false := by
  obtain ⟨_, _, h3, _⟩ := h
  exact ⟨((h3 a ha).cell b).trans (bools_get hb), (h3 a ha).frozen b⟩
theorem Tabs2.atU {w : World} {S N k : Nat} {T U : Tab} (h : Tabs2 w S N k T U) {a b : Nat} (ha : a < k) (hb : b < N) : w.cell? ⟨S + 3 + 2 * a, b, none⟩ = some (.bool (U a b)) ∧ w.frozen? ⟨S + 3 + 2 * a, b, none⟩ = false := by
  obtain ⟨_, _, _, h4⟩ := h
  exact ⟨((h4 a ha).cell b).trans (bools_get hb), (h4 a ha).frozen b⟩
theorem setT_row {T : Tab} {a b : Int} {v : Bool} : (fun y => if y = b then v else T a y) = setT T a b v a := by
  funext y
  unfold setT
  by_cases h : y = b
  · rw [if_pos h, if_pos ⟨rfl, h⟩]
  · rw [if_neg h, if_neg fun e => h e.2]
theorem setT_far {T : Tab} {a b c : Int} {v : Bool} (h : c ≠ a) : setT T a b v c = T c := by
  funext y
  unfold setT
  rw [if_neg fun e => h e.1]
theorem Tabs2.putT {w : World} {S N k : Nat} {T U : Tab} (h : Tabs2 w S N k T U) {a : Nat} (ha : a < k) (b : Nat) (v : Bool) : Tabs2 (w.setCell ⟨S + 2 + 2 * a, b, none⟩ (.bool v)) S N k (setT T a b v) U := by
  obtain ⟨⟨cs, h1, h1'⟩, ⟨ds, h2, h2'⟩, h3, h4⟩ := h
  refine ⟨⟨cs, h1.far (by simp; omega) _, h1'⟩, ⟨ds, h2.far (by simp; omega) _, h2'⟩, fun c hc => ?_, fun c hc => (h4 c hc).far (by simp; omega) _⟩
  by_cases e : c = a
  · subst e
    have h5 := (h3 c ha).set b (.bool v)
    rw [bools_set, setT_row] at h5
    exact h5
  · rw [setT_far (by omega)]
    exact (h3 c hc).far (by simp; omega) _
theorem Tabs2.putU {w : World} {S N k : Nat} {T U : Tab} (h : Tabs2 w S N k T U) {a : Nat} (ha : a < k) (b : Nat) (v : Bool) : Tabs2 (w.setCell ⟨S + 3 + 2 * a, b, none⟩ (.bool v)) S N k T (setT U a b v) := by
  obtain ⟨⟨cs, h1, h1'⟩, ⟨ds, h2, h2'⟩, h3, h4⟩ := h
  refine ⟨⟨cs, h1.far (by simp; omega) _, h1'⟩, ⟨ds, h2.far (by simp; omega) _, h2'⟩, fun c hc => (h3 c hc).far (by simp; omega) _, fun c hc => ?_⟩
  by_cases e : c = a
  · subst e
    have h5 := (h4 c ha).set b (.bool v)
    rw [bools_set, setT_row] at h5
    exact h5
  · rw [setT_far (by omega)]
    exact (h4 c hc).far (by simp; omega) _

def noT : Tab := fun _ _ => false
theorem Tabs2.made (w : World) (N : Nat) : Tabs2 ((w.alloc (.cells (zS N) 220)).alloc (.cells (zS N) 220)) w.heap.size N 0 noT noT := by
  refine ⟨⟨zS N, (Row.new w _ _).alloc _, zS_size _, fun a h => absurd h (by omega)⟩, ⟨zS N, ?_, zS_size _, fun a h => absurd h (by omega)⟩, fun a h => absurd h (by omega), fun a h => absurd h (by omega)⟩
  have h := Row.new (w.alloc (.cells (zS N) 220)) 220 (zS N)
  rw [World.size_alloc] at h
  exact h
theorem Tabs2.grow {w : World} {S N k : Nat} (h : Tabs2 w S N k noT noT) (hs : w.heap.size = S + 2 + 2 * k) (hk : k < N) :
    Tabs2 ((((w.setCell ⟨S, k, none⟩ (.slice (some ⟨w.heap.size, 0, none⟩) N N)).setCell ⟨S + 1, k, none⟩ (.slice (some ⟨w.heap.size + 1, 0, none⟩) N N)).alloc (.cells (bools N fun _ => false) 4)).alloc (.cells (bools N fun _ => false) 4)) S N (k + 1) noT noT := by
  obtain ⟨⟨cs, h1, h1s, h1'⟩, ⟨ds, h2, h2s, h2'⟩, h3, h4⟩ := h
  generalize hW : ((w.setCell ⟨S, k, none⟩ (.slice (some ⟨w.heap.size, 0, none⟩) N N)).setCell ⟨S + 1, k, none⟩ (.slice (some ⟨w.heap.size + 1, 0, none⟩) N N)) = W
  have hz : W.heap.size = w.heap.size := by subst hW; simp
  have hT : Row (W.alloc (.cells (bools N fun _ => false) 4)) w.heap.size 4 (bools N fun _ => false) := by
    have h := Row.new W 4 (bools N fun _ => false)
    rw [hz] at h
    exact h
  have hU : Row ((W.alloc (.cells (bools N fun _ => false) 4)).alloc (.cells (bools N fun _ => false) 4)) (w.heap.size + 1) 4 (bools N fun _ => false) := by
    have h := Row.new (W.alloc (.cells (bools N fun _ => false) 4)) 4 (bools N fun _ => false)
    rw [World.size_alloc, hz] at h
    exact h
  have k1 : Row W S 220 (cs.setIfInBounds k (.slice (some ⟨w.heap.size, 0, none⟩) N N)) := by subst hW; exact (h1.set k _).far (by simp) _
  have k2 : Row W (S + 1) 220 (ds.setIfInBounds k (.slice (some ⟨w.heap.size + 1, 0, none⟩) N N)) := by subst hW; exact (h2.far (by simp) _).set k _
  have k3 : ∀ {g : Nat} {t : TypeId} {es : Array Value}, Row w g t es → g ≠ S → g ≠ S + 1 → Row W g t es := fun h a b => by subst hW; exact (h.far (by simpa using a) _).far (by simpa using b) _
  refine ⟨⟨_, (k1.alloc _).alloc _, by simp [h1s], fun a ha => ?_⟩, ⟨_, (k2.alloc _).alloc _, by simp [h2s], fun a ha => ?_⟩, fun a ha => ?_, fun a ha => ?_⟩
  · rw [Array.getElem?_setIfInBounds]
    by_cases e : k = a
    · subst e
      rw [if_pos rfl, if_pos (by omega), hs]
    · rw [if_neg e]
      exact h1' a (by omega)
  · rw [Array.getElem?_setIfInBounds]
    by_cases e : k = a
    · subst e
      rw [if_pos rfl, if_pos (by omega), hs]
      have : S + 2 + 2 * k + 1 = S + 3 + 2 * k := by omega
      rw [this]
    · rw [if_neg e]
      exact h2' a (by omega)
  · by_cases e : k = a
    · subst e
      rw [← hs]
      exact hT.alloc _
    · exact ((k3 (h3 a (by omega)) (by omega) (by omega)).alloc _).alloc _
  · by_cases e : k = a
    · subst e
      have : S + 3 + 2 * k = w.heap.size + 1 := by omega
      rw [this]
      exact hU
    · exact ((k3 (h4 a (by omega)) (by omega) (by omega)).alloc _).alloc _

end Go.Proofs.YtaobkanliiiapaaDoor

/- What GoodWord answers, the program's and the reference's. -/

namespace Go.Proofs.YtaobkanliiiapaaDoor
open Go.RowKit

/-- All numbers lie within bounds. -/
def allB (lo hi : Int) (xs : List Int) : Bool := xs.all fun x => inB lo hi x
theorem allB_iff {lo hi : Int} {xs : List Int} : allB lo hi xs = true ↔ ∀ (k : Nat) (x : Int), xs[k]? = some x → inB lo hi x = true := by
  unfold allB
  rw [List.all_eq_true]
  constructor
  · intro h k x hx
    exact h x (List.mem_of_getElem? hx)
  · intro h x hx
    obtain ⟨k, hk⟩ := List.mem_iff_getElem?.1 hx
    exact h k x hk
theorem allB_not {lo hi : Int} {xs : List Int} {k : Nat} (hk : k < xs.length) (h : inB lo hi xs[k] = false) : allB lo hi xs = false := by
  cases e : allB lo hi xs
  · rfl
  · rw [allB_iff.1 e k _ (List.getElem?_eq_getElem hk)] at h; cases h
theorem allB_of {lo hi : Int} {xs : List Int} {k : Nat} (hk : ¬ k < xs.length) (h : ∀ (j : Nat) (x : Int), j < k → xs[j]? = some x → inB lo hi x = true) : allB lo hi xs = true :=
  allB_iff.2 fun j x hx => h j x (by have := (List.getElem?_eq_some_iff.1 hx).1; omega) hx
theorem all_step {lo hi : Int} {xs : List Int} {k : Nat} (hk : k < xs.length) (h : inB lo hi xs[k] = true) (H : ∀ (j : Nat) (x : Int), j < k → xs[j]? = some x → inB lo hi x = true) :
    ∀ (j : Nat) (x : Int), j < k + 1 → xs[j]? = some x → inB lo hi x = true := by
  intro j x hj hx
  by_cases e : j = k
  · subst e; rw [List.getElem?_eq_getElem hk] at hx; injection hx with hx; subst hx; exact h
  · exact H j x (by omega) hx

def wordB (t : Int) (xs : List Int) : Bool := decide (xs.length ≤ 10) && allB 0 (t - 1) xs
def goodW (n t : Int) (ss : List (Int × List Int)) (xs : List Int) : Bool := goodG n t ss && wordB t xs
theorem goodW_no {n t : Int} {ss : List (Int × List Int)} {xs : List Int} (h : goodG n t ss = false) : goodW n t ss xs = false := by unfold goodW; rw [h]; rfl
theorem goodW_yes {n t : Int} {ss : List (Int × List Int)} {xs : List Int} (h : goodG n t ss = true) : goodW n t ss xs = wordB t xs := by unfold goodW; rw [h]; rfl
theorem wordB_long {t : Int} {xs : List Int} (h : ¬ xs.length ≤ 10) : wordB t xs = false := by unfold wordB; rw [decide_eq_false h]; rfl
theorem wordB_all {t : Int} {xs : List Int} (h : xs.length ≤ 10) : wordB t xs = allB 0 (t - 1) xs := by unfold wordB; rw [decide_eq_true h]; rfl

set_option maxHeartbeats 400000 in
theorem l1All_any (A : Option Addr) (xs : List Int) (c : Nat) (lo hi : Int) (w : World) (hx : Ints w w.heap.size A xs) (h1 : xs.length ≤ 1048576) :
    Calls Tryd.prog 131 #[.slice A xs.length c, .int .i64 lo, .int .i64 hi] w fun e w' => e = .returned (.bool (allB lo hi xs)) ∧ Below w.heap.size w w' := by
  have HX := Lib.hid hx; clear hx
  go_enter Tryd.func131, Tryd.ntmps131
  go_wp2
  go_loopw [11] (fun i wr => ∃ (k : Nat), k ≤ xs.length ∧ i = .int .i64 k ∧ Below w.heap.size w wr ∧ Hid (∀ (j : Nat) (x : Int), j < k → xs[j]? = some x → inB lo hi x = true)) (fun i _ => xs.length - (intOf i).toNat)
  case atStart => exact ⟨0, by omega, rfl, Below.refl _ _, fun j x h => absurd h (by omega)⟩
  case round =>
    obtain ⟨k, hk, rfl, hB, H⟩ := hrel
    by_cases hlt : k < xs.length
    · obtain ⟨b, o, rfl, hb, c1⟩ := (HX.out.keep hB).at_ hlt
      cases hs : inB lo hi xs[k]
      all_goals
        have HS := Lib.hid hs; clear hs
        go_wp2_with fail
        refine (l1In_any _ _ _ _).mono ?_
        rintro e w1 ⟨rfl, rfl⟩
        rw [HS.out]
        go_wp2
      · have HE : Hid (allB lo hi xs = false) := allB_not hlt HS.out
        go_ret
        exact ⟨ret_bool HE.out.symm, hB⟩
      · go_roundw
        case rel => exact ⟨k + 1, by omega, by go_num, hB, all_step hlt HS.out H.out⟩
        case measure => simp [intOf]; omega
    · have HE : Hid (allB lo hi xs = true) := allB_of hlt H.out
      go_wp2
      go_ret
      exact ⟨ret_bool HE.out.symm, hB⟩

end Go.Proofs.YtaobkanliiiapaaDoor

/- The reference's table of what derives what in memory, and what it tells of symbols. -/

namespace Go.Proofs.YtaobkanliiiapaaDoor
open Go.RowKit

noncomputable def bD (P : Prop) : Bool := @decide P (Classical.propDecidable P)
theorem bD_t {P : Prop} (h : P) : bD P = true := @decide_eq_true P (Classical.propDecidable P) h
theorem bD_f {P : Prop} (h : ¬ P) : bD P = false := @decide_eq_false P (Classical.propDecidable P) h
theorem bD_iff {P : Prop} : bD P = true ↔ P := ⟨fun h => @of_decide_eq_true P (Classical.propDecidable P) h, bD_t⟩
theorem bD_eq {P : Prop} {b : Bool} (h : b = true ↔ P) : bD P = b := by
  cases b
  · exact bD_f fun k => by have := h.2 k; cases this
  · exact bD_t (h.1 rfl)

/-- The first k rows of the table T, behind block S: N of them, of M cells. -/
def TabR (w : World) (S N M k : Nat) (T : Nat → Nat → Bool) : Prop :=
  (∃ cs, Row w S 220 cs ∧ cs.size = N ∧ ∀ a : Nat, a < k → cs[a]? = some (.slice (some ⟨S + 1 + a, 0, none⟩) M M)) ∧ ∀ a : Nat, a < k → Row w (S + 1 + a) 4 (bools M fun c => T a c.toNat)
theorem TabR.lt {w : World} {S N M k : Nat} {T : Nat → Nat → Bool} (h : TabR w S N M k T) : S + 1 + k ≤ w.heap.size := by
  obtain ⟨⟨_, h2, _⟩, h4⟩ := h
  have := h2.lt
  cases k with
  | zero => omega
  | succ k => have := (h4 k (by omega)).lt; omega
theorem TabR.keep {w w' : World} {S N M k B : Nat} {T : Nat → Nat → Bool} (h : TabR w S N M k T) (hb : Below B w w') (hB : S + 1 + k ≤ B) : TabR w' S N M k T := by
  obtain ⟨⟨cs, h1, h1'⟩, h3⟩ := h
  exact ⟨⟨cs, h1.below hb (by omega), h1'⟩, fun a ha => (h3 a ha).below hb (by omega)⟩
theorem TabR.row {w : World} {S N M k : Nat} {T : Nat → Nat → Bool} (h : TabR w S N M k T) {a : Nat} (ha : a < k) : w.cell? ⟨S, a, none⟩ = some (.slice (some ⟨S + 1 + a, 0, none⟩) M M) := by
  obtain ⟨⟨cs, h1, _, h1'⟩, _⟩ := h
  exact (h1.cell a).trans (h1' a ha)
theorem TabR.at_ {w : World} {S N M k : Nat} {T : Nat → Nat → Bool} (h : TabR w S N M k T) {a c : Nat} (ha : a < k) (hc : c < M) : w.cell? ⟨S + 1 + a, c, none⟩ = some (.bool (T a c)) ∧ w.frozen? ⟨S + 1 + a, c, none⟩ = false := by
  have h3 := h.2 a ha
  refine ⟨(h3.cell c).trans ((bools_get hc).trans ?_), h3.frozen c⟩
  rw [Int.toNat_natCast]
theorem TabR.put {w : World} {S N M k : Nat} {T : Nat → Nat → Bool} (h : TabR w S N M k T) {a c : Nat} (ha : a < k) : TabR (w.setCell ⟨S + 1 + a, c, none⟩ (.bool true)) S N M k (setB T a c) := by
  obtain ⟨⟨cs, h1, h1'⟩, h3⟩ := h
  refine ⟨⟨cs, h1.far (by simp; omega) _, h1'⟩, fun b hb => ?_⟩
  by_cases e : b = a
  · subst e
    have h4 := (h3 b hb).set c (.bool true)
    rw [bools_set] at h4
    have e3 : bools M (fun y : Int => setB T b c b y.toNat) = bools M (fun y : Int => if y = (c : Int) then true else T b y.toNat) := by
      unfold bools
      congr 1
      funext i
      unfold setB
      dsimp only
      by_cases e4 : i.val = c
      · rw [if_pos ⟨rfl, by simpa using e4⟩, if_pos (by omega)]
      · rw [if_neg (fun h => e4 (by simpa using h.2)), if_neg (by omega)]
    rw [e3]
    exact h4
  · have h4 := (h3 b hb).far (p := ⟨S + 1 + a, c, none⟩) (by simp; omega) (.bool true)
    have e3 : (fun y : Int => setB T a c b y.toNat) = fun y : Int => T b y.toNat := by
      funext y
      unfold setB
      rw [if_neg (fun h => e h.1)]
    rw [e3]
    exact h4

set_option maxRecDepth 20000 in
set_option maxHeartbeats 1000000 in
theorem l4Symbol_any (S N : Nat) (T : Nat → Nat → Bool) (Aw : Option Addr) (cw : Nat) (ws : List Int) (x : Int) (i j : Nat) (v : World) (hT : TabR v S N ((ws.length + 1) * (ws.length + 1)) N T) (hW : Ints v v.heap.size Aw ws) (hw : ws.length ≤ 10) (hi : i ≤ ws.length) (hj : j ≤ ws.length) (hx : -10 ≤ x ∧ x < N) :
    Calls Tryd.prog 207 #[.slice (some ⟨S, 0, none⟩) N N, .slice Aw ws.length cw, .int .i64 x, .int .i64 (i : Int), .int .i64 (j : Int)] v fun e v' => e = .returned (.bool (bD (SymD (DT ws.length T) ws x i j))) ∧ v' = v := by
  obtain ⟨x0, x1⟩ := hx
  by_cases h0 : 0 ≤ x
  · obtain ⟨y, rfl⟩ := Int.eq_ofNat_of_zero_le h0
    have hyN : y < N := by omega
    have c1 := hT.row hyN
    obtain ⟨c2, _⟩ := hT.at_ hyN (cell_lt hi hj)
    have HV : Hid (bD (SymD (DT ws.length T) ws y i j) = T y (i * (ws.length + 1) + j)) := bD_eq ⟨fun h => .inr ⟨h0, h0, hi, hj, h⟩, fun h => by rcases h with h | h; omega; exact h.2.2.2.2⟩
    have hq : (i : Int) * ((ws.length : Int) + 1) + (j : Int) = ((i * (ws.length + 1) + j : Nat) : Int) := by simp
    have hl := cell_lt hi hj
    have h121 := cell_121 hw hl
    have hp : (i : Int) * ((ws.length : Int) + 1) = ((i * (ws.length + 1) : Nat) : Int) := by simp
    have hb0 : (i : Int) * ((ws.length : Int) + 1) ≤ 121 := by omega
    have hb1 : 0 ≤ (i : Int) * ((ws.length : Int) + 1) := by omega
    generalize hqq : i * (ws.length + 1) + j = q at *
    generalize hM : (ws.length + 1) * (ws.length + 1) = M at *
    clear hqq hM hp h0 hT hW
    go_enter Tryd.func207, Tryd.ntmps207
    go_wp2
    go_ret
    exact ⟨ret_bool HV.out.symm, rfl⟩
  · have hxn : x < 0 := by omega
    by_cases he : j = i + 1
    · subst he
      obtain ⟨p, o, rfl, hp, c1⟩ := hW.at_ (show i < ws.length by omega)
      have HV : Hid (bD (SymD (DT ws.length T) ws x i (i + 1)) = (ws[i] == -1 - x)) := bD_eq (by
        rw [beq_iff_eq]
        exact ⟨fun h => .inl ⟨hxn, rfl, by rw [List.getElem?_eq_getElem (by omega), h]⟩, fun h => by
          rcases h with h | h
          · exact (List.getElem?_eq_some_iff.1 h.2.2).2
          · omega⟩)
      have hje : (((i + 1 : Nat) : Int) == (i : Int) + 1) = true := by rw [beq_iff_eq]; omega
      clear hT hW
      go_enter Tryd.func207, Tryd.ntmps207
      go_wp2
      go_ret
      exact ⟨ret_bool HV.out.symm, rfl⟩
    · have HV : Hid (bD (SymD (DT ws.length T) ws x i j) = false) := bD_f (by rintro (h | h); exact he h.2.1; omega)
      have hje : ((j : Int) == (i : Int) + 1) = false := by rw [beq_eq_false_iff_ne]; omega
      clear hT hW
      go_enter Tryd.func207, Tryd.ntmps207
      go_wp2
      go_ret
      exact ⟨ret_bool HV.out.symm, rfl⟩

theorem Ints.tail {w : World} {B : Nat} {b o : Nat} {x : Int} {xs : List Int} (h : Ints w B (some ⟨b, o, none⟩) (x :: xs)) : Ints w B (some ⟨b, o + 1, none⟩) xs := fun _ => by
  obtain ⟨b', o', e, hb, hc⟩ := h (by simp)
  injection e with e
  injection e with e1 e2
  subst e1 e2
  refine ⟨b, o + 1, rfl, hb, fun k y hk => ?_⟩
  have := hc (k + 1) y (by simpa using hk)
  rwa [show o + 1 + k = o + (k + 1) by omega]

set_option maxRecDepth 20000 in
set_option maxHeartbeats 1000000 in
theorem l4Fits_any (S N : Nat) (T : Nat → Nat → Bool) (Aw : Option Addr) (cw : Nat) (ws : List Int) (v : World) (hT : TabR v S N ((ws.length + 1) * (ws.length + 1)) N T) (hW : Ints v v.heap.size Aw ws) (hw : ws.length ≤ 10) (hD : InD ws.length (DT ws.length T)) (j : Nat) (hj : j ≤ ws.length) :
    ∀ (xs : List Int) (Ar : Option Addr) (cr i : Nat), Ints v v.heap.size Ar xs → xs.length ≤ cr → xs.length ≤ 4 → (∀ x ∈ xs, -10 ≤ x ∧ x < N) → i ≤ ws.length →
    Calls Tryd.prog 206 #[.slice (some ⟨S, 0, none⟩) N N, .slice Aw ws.length cw, .slice Ar xs.length cr, .int .i64 (i : Int), .int .i64 (j : Int)] v fun e v' => e = .returned (.bool (bD (SeqD (DT ws.length T) ws xs i j))) ∧ v' = v := by
  have HT := Lib.hid hT; clear hT
  have HW := Lib.hid hW; clear hW
  have HD := Lib.hid hD; clear hD
  intro xs
  induction xs with
  | nil =>
    intro Ar cr i _ _ _ _ hi
    have HV : Hid (bD (SeqD (DT ws.length T) ws [] i j) = ((i : Int) == (j : Int))) := bD_eq (by rw [beq_iff_eq]; exact ⟨fun h => by show i = j; omega, fun h => by have h' : i = j := h; omega⟩)
    go_enter Tryd.func206, Tryd.ntmps206
    go_wp2
    go_ret
    exact ⟨ret_bool HV.out.symm, rfl⟩
  | cons x xs ih =>
    intro Ar cr i hr hcr hl4 hx hi
    have IH := Lib.hid ih; clear ih
    obtain ⟨b, o, hA, hb, c1⟩ := hr.at_ (k := 0) (by simp)
    subst hA
    have HR := Lib.hid hr; clear hr
    have HX := Lib.hid hx; clear hx
    simp only [List.getElem_cons_zero, Nat.add_zero] at c1
    simp only [List.length_cons] at hcr hl4 ⊢
    have HC1 := Lib.hid (fun m hm => l4Symbol_any S N T Aw cw ws x i m v HT.out HW.out hw hi hm (HX.out x (by simp)))
    have HC2 : Hid (∀ m : Nat, m ≤ ws.length → Calls Tryd.prog 206 #[.slice (some ⟨S, 0, none⟩) N N, .slice Aw ws.length cw, .slice (some ⟨b, o + 1, none⟩) xs.length (cr - 1), .int .i64 (m : Int), .int .i64 (j : Int)] v fun e v' => e = .returned (.bool (bD (SeqD (DT ws.length T) ws xs m j))) ∧ v' = v) := fun m hm => IH.out _ _ _ HR.out.tail (by omega) (by omega) (fun y hy => HX.out y (by simp [hy])) hm
    have HC3 : Hid (xs.length = 0 → ∀ m : Nat, m ≤ ws.length → Calls Tryd.prog 206 #[.slice (some ⟨S, 0, none⟩) N N, .slice Aw ws.length cw, .slice (some ⟨b, o, none⟩) xs.length 0, .int .i64 (m : Int), .int .i64 (j : Int)] v fun e v' => e = .returned (.bool (bD (SeqD (DT ws.length T) ws xs m j))) ∧ v' = v) := fun h0 m hm => IH.out _ _ _ (fun h => by omega) (by omega) (by omega) (fun y hy => HX.out y (by simp [hy])) hm
    clear HT HW IH HR HX
    obtain ⟨L, hL⟩ : ∃ L, L = xs.length + 1 := ⟨_, rfl⟩
    have hL1 : xs.length = L - 1 := by omega
    rw [← hL] at hcr hl4 ⊢
    rw [hL1] at HC2 HC3
    have hL0 : 1 ≤ L := by omega
    have hLz : ((L : Int) == 0) = false := by rw [beq_eq_false_iff_ne]; omega
    clear hL hL1
    have hcc : cr = 1 ∨ (1 < cr ∧ ¬ cr ≤ 1 ∧ ¬ cr - 1 = 0) := by omega
    rcases hcc with rfl | ⟨hc1, hc2, hc3⟩
    case' inl =>
      have HC := Lib.hid (HC3.out (by omega))
      clear HC2 HC3 hcr
    case' inr =>
      have HC := Lib.hid HC2.out
      clear HC2 HC3 hcr
    all_goals
      go_enter Tryd.func206, Tryd.ntmps206
      go_wp2
      go_loopw [11] (fun n wr => ∃ m : Nat, i ≤ m ∧ n = .int .i64 m ∧ wr = v ∧ m ≤ ws.length + 1 ∧ Hid (∀ m', i ≤ m' → m' < m → m' ≤ j → ¬ (SymD (DT ws.length T) ws x i m' ∧ SeqD (DT ws.length T) ws xs m' j))) (fun n _ => ws.length + 1 - (intOf n).toNat)
      case atStart => exact ⟨i, Nat.le_refl _, rfl, rfl, by omega, fun m' h1 h2 => absurd h1 (by omega)⟩
      case round =>
        obtain ⟨m, hm, rfl, hwr, hm2, H⟩ := hrel
        subst hwr
        by_cases hmj : m ≤ j
        · cases hs : bD (SymD (DT ws.length T) ws x i m)
          · have HN : Hid (∀ m', i ≤ m' → m' < m + 1 → m' ≤ j → ¬ (SymD (DT ws.length T) ws x i m' ∧ SeqD (DT ws.length T) ws xs m' j)) := fun m' h1 h2 h3 => by
              by_cases e : m' = m
              · subst e; exact fun h => by rw [bD_t h.1] at hs; cases hs
              · exact H.out m' h1 (by omega) h3
            have HS := Lib.hid hs; clear hs
            go_wp2_with fail
            refine (HC1.out m (by omega)).mono ?_
            rintro e w1 ⟨rfl, rfl⟩
            rw [HS.out]
            go_wp2
            go_roundw
            case rel => exact ⟨m + 1, by omega, by go_num, trivial, by omega, HN.out⟩
            case measure => simp [intOf]; omega
          · have HS := Lib.hid hs
            have hS := bD_iff.1 hs
            clear hs
            cases hq : bD (SeqD (DT ws.length T) ws xs m j)
            · have HN : Hid (∀ m', i ≤ m' → m' < m + 1 → m' ≤ j → ¬ (SymD (DT ws.length T) ws x i m' ∧ SeqD (DT ws.length T) ws xs m' j)) := fun m' h1 h2 h3 => by
                by_cases e : m' = m
                · subst e; exact fun h => by rw [bD_t h.2] at hq; cases hq
                · exact H.out m' h1 (by omega) h3
              have HQ := Lib.hid hq; clear hq hS
              go_wp2_with fail
              refine (HC1.out m (by omega)).mono ?_
              rintro e w1 ⟨rfl, rfl⟩
              rw [HS.out]
              go_wp2_with fail
              refine (HC.out m (by omega)).mono ?_
              rintro e w2 ⟨rfl, rfl⟩
              rw [HQ.out]
              go_wp2
              go_roundw
              case rel => exact ⟨m + 1, by omega, by go_num, trivial, by omega, HN.out⟩
              case measure => simp [intOf]; omega
            · have HE : Hid (bD (SeqD (DT ws.length T) ws (x :: xs) i j) = true) := bD_t ⟨m, hS, bD_iff.1 hq⟩
              have HQ := Lib.hid hq; clear hq hS
              go_wp2_with fail
              refine (HC1.out m (by omega)).mono ?_
              rintro e w1 ⟨rfl, rfl⟩
              rw [HS.out]
              go_wp2_with fail
              refine (HC.out m (by omega)).mono ?_
              rintro e w2 ⟨rfl, rfl⟩
              rw [HQ.out]
              go_wp2
              go_ret
              exact ⟨ret_bool HE.out.symm, rfl⟩
        · have HE : Hid (bD (SeqD (DT ws.length T) ws (x :: xs) i j) = false) := bD_f (seqD_cons_no HD.out fun m' h1 h2 => H.out m' h1 (by omega) h2)
          go_wp2
          go_ret
          exact ⟨ret_bool HE.out.symm, rfl⟩

end Go.Proofs.YtaobkanliiiapaaDoor

/- The laws of maps keyed by numbers, at the operations of a walk. -/

namespace Go.Proofs.YtaobkanliiiapaaDoor
open Go.RowKit

section
variable (w : World) {ops : Array Oper} {rest : List Oper} {o : Oper} {a : Act} {Q : Exit → Act → World → Prop}

theorem wpList_next_rng (hg : o.guard = none) (it : Operand) (hop : o.op = Op.next it false) (q r n : Nat) (f : Int → Option Value) (left : Int → Bool) (cnt : Nat)
    (hit : a.eval it = .pointer (some ⟨r, 0, none⟩)) (h : Rng w q r n f left cnt)
    (hDone : cnt = 0 → (∀ x, left x = false) → wpList Tryd.prog ops Q rest (a.put o.dst (.tuple #[.bool false])) w)
    (hMore : ∀ (x : Int) (v : Value) (w' : World) (cnt' : Nat), F64 x → left x = true → f x = some v → Rng w' q r n f (strike left x) cnt' → cnt' < cnt → Save (· = r) w w' → w'.heap.size = w.heap.size →
      (Instr.entry (.pointer (some ⟨r, 0, none⟩))).run Tryd.prog w' = .ok (.tuple #[.int .i64 x, v]) w' → wpList Tryd.prog ops Q rest (a.put o.dst (.tuple #[.bool true, .int .i64 x, v])) w') :
    wpList Tryd.prog ops Q (o :: rest) a w := by
  refine wpList_plain hg fun K' hK' => ?_
  unfold Oper.wp
  rcases h.next o.type with ⟨h0, hl, hrun⟩ | ⟨x, v, w', cnt', hx, hlk, hv, hrun, hrg, hlt, hs, hsz, hen⟩
  · simp [execOp, hop, hit, hrun, Result.andThen]
    exact hK' _ _ (hDone h0 hl)
  · simp [execOp, hop, hit, hrun, Result.andThen]
    exact hK' _ _ (hMore x v w' cnt' hx hlk hv hrg hlt hs hsz hen)

theorem wpList_range_map (hg : o.guard = none) (m : Operand) (t : TypeId) (hop : o.op = Op.range t m) (e : TypeId) (ht : Tryd.prog.underlying t = some (.map 3 e)) (q n : Nat) (f : Int → Option Value)
    (hm : a.eval m = .map (some q)) (h : MapI w q n f)
    (hK : ∀ w' cnt, Rng w' q w.heap.size n f (fun x => (f x).isSome) cnt → cnt ≤ n → Below w.heap.size w w' → w'.heap.size = w.heap.size + 1 → wpList Tryd.prog ops Q rest (a.put o.dst (.pointer (some ⟨w.heap.size, 0, none⟩))) w') :
    wpList Tryd.prog ops Q (o :: rest) a w := by
  refine wpList_plain hg fun K' hK' => ?_
  obtain ⟨w', cnt, hrun, r1, r2, r3, r4⟩ := h.range ht
  unfold Oper.wp
  simp [execOp, hop, hm, hrun, Result.andThen]
  exact hK' _ _ (hK w' cnt r1 r2 r3 r4)

theorem wpList_delete_rng (hg : o.guard = none) (m x : Operand) (t : TypeId) (hop : o.op = Op.call { callee := Callee.builtin Builtin.delete, args := #[m, x], argTypes := #[t, 3] })
    (e : TypeId) (ht : Tryd.prog.underlying t = some (.map 3 e)) (q r n : Nat) (f : Int → Option Value) (left : Int → Bool) (cnt : Nat) (y : Int)
    (hm : a.eval m = .map (some q)) (hx : a.eval x = .int .i64 y) (hy : F64 y) (h : Rng w q r n f left cnt)
    (hK : ∀ w' cnt', Rng w' q r n (delK f y) (strike left y) cnt' → cnt' ≤ cnt → Save (· = q) w w' → w'.heap.size = w.heap.size → wpList Tryd.prog ops Q rest (a.put o.dst (.tuple #[])) w') :
    wpList Tryd.prog ops Q (o :: rest) a w := by
  refine wpList_plain hg fun K' hK' => ?_
  obtain ⟨w', cnt', hrun, r1, r2, r3, r4⟩ := h.drop hy ht o.type
  unfold Oper.wp
  simp [execOp, hop, resolve, invoke, builtin, hm, hx, hrun, Result.andThen]
  exact hK' _ _ (hK w' cnt' r1 r2 r3 r4)

theorem wpList_store_map (hg : o.guard = none) (m x v : Operand) (t : TypeId) (hop : o.op = Op.mapUpdate t m x v) (e : TypeId) (ht : Tryd.prog.underlying t = some (.map 3 e)) (q n : Nat) (f : Int → Option Value) (y : Int) (u : Value)
    (hm : a.eval m = .map (some q)) (hx : a.eval x = .int .i64 y) (hv : a.eval v = u) (hy : F64 y) (hn : n < maxLen) (h : MapI w q n f)
    (hK : ∀ w', MapI w' q (n + 1) (putK f y u) → Save (· = q) w w' → w'.heap.size = w.heap.size → wpList Tryd.prog ops Q rest (a.put o.dst undef) w') :
    wpList Tryd.prog ops Q (o :: rest) a w := by
  refine wpList_plain hg fun K' hK' => ?_
  obtain ⟨w', hrun, r1, r2, r3⟩ := h.store hn hy ht u
  unfold Oper.wp
  simp [execOp, hop, hm, hx, hv, hrun, Result.andThen]
  exact hK' _ _ (hK w' r1 r2 r3)

theorem wpList_store_set (hg : o.guard = none) (m x v : Operand) (hop : o.op = Op.mapUpdate 125 m x v) (q : Nat) (S : Int → Bool) (y : Int)
    (hm : a.eval m = .map (some q)) (hx : a.eval x = .int .i64 y) (hv : a.eval v = .bool true) (hy : 0 ≤ y ∧ y < 40) (h : SetM w q S)
    (hK : ∀ w', SetM w' q (addS S y) → Save (· = q) w w' → w'.heap.size = w.heap.size → wpList Tryd.prog ops Q rest (a.put o.dst undef) w') :
    wpList Tryd.prog ops Q (o :: rest) a w := by
  refine wpList_plain hg fun K' hK' => ?_
  obtain ⟨w', hrun, r1, r2, r3⟩ := h.store hy
  unfold Oper.wp
  simp [execOp, hop, hm, hx, hv, hrun, Result.andThen]
  exact hK' _ _ (hK w' r1 r2 r3)

end

end Go.Proofs.YtaobkanliiiapaaDoor

/- The program's closeSet: what it makes of a set. -/

namespace Go.Proofs.YtaobkanliiiapaaDoor
open Go.RowKit

/-- Only block b and new blocks have turned. -/
def Tb (b B : Nat) (i : Nat) : Prop := i = b ∨ B ≤ i

theorem Ints.saveMap {w w' : World} {b n : Nat} {f : Int → Option Value} {A : Option Addr} {xs : List Int} (h : Ints w w.heap.size A xs) (hm : MapI w b n f) (hs : Save (Tb b w.heap.size) w w') : Ints w' w'.heap.size A xs := by
  intro hn
  obtain ⟨p, o, e, hp, hc⟩ := h hn
  have hb : p ≠ b := fun e2 => by
    obtain ⟨D, ⟨es, ck, hm1, _⟩, _⟩ := hm
    subst e2
    have h0 := hc 0 xs[0] (List.getElem?_eq_getElem hn)
    simp [World.cell?, hm1] at h0
  have hk : w'.heap[p]? = w.heap[p]? := hs.block p hp (by unfold Tb; omega)
  exact ⟨p, o, e, by have := hs.size; omega, fun k x hx => (World.cell?_of_block (a := ⟨p, o + k, none⟩) hk).trans (hc k x hx)⟩

theorem Rls.saveMap {w w' : World} {b n : Nat} {f : Int → Option Value} {A : Option Addr} {rs : List Ru} (h : Rls w w.heap.size A rs) (hm : MapI w b n f) (hs : Save (Tb b w.heap.size) w w') : Rls w' w'.heap.size A rs := by
  intro hn
  obtain ⟨p, o, e, hp, hc⟩ := h hn
  have hb : p ≠ b := fun e2 => by
    obtain ⟨D, ⟨es, ck, hm1, _⟩, _⟩ := hm
    subst e2
    have h0 := (hc 0 rs[0] (List.getElem?_eq_getElem hn)).1
    simp [World.cell?, hm1] at h0
  have hk : w'.heap[p]? = w.heap[p]? := hs.block p hp (by unfold Tb; omega)
  refine ⟨p, o, e, by have := hs.size; omega, fun k u hu => ?_⟩
  obtain ⟨h1, h2, h3⟩ := hc k u hu
  exact ⟨(World.cell?_of_block (a := ⟨p, o + k * 2, none⟩) hk).trans h1, (World.cell?_of_block (a := ⟨p, o + k * 2 + 1, none⟩) hk).trans h2, h3.saveMap hm hs⟩

/-- The value of a rule. -/
def ruV (u : Ru) : Value := .agg #[.int .i64 u.l, .slice u.a u.r.length u.c]
/-- The rules that are still marked, by their numbers. -/
def openF (rs : List Ru) (rem : Int → Bool) : Int → Option Value := fun x => if rem x then (rs[x.toNat]?).map ruV else none
/-- The first k. -/
def firstB (k : Nat) : Int → Bool := fun x => decide (0 ≤ x ∧ x < (k : Int))
theorem openF_zero (rs : List Ru) : ∀ x, (fun _ : Int => (none : Option Value)) x = openF rs (firstB 0) x := fun x => by
  unfold openF firstB
  rw [if_neg]
  simp
theorem openF_put {rs : List Ru} {k : Nat} (hk : k < rs.length) : ∀ x, putK (openF rs (firstB k)) (k : Int) (.agg #[.int .i64 rs[k].l, .slice rs[k].a rs[k].r.length rs[k].c]) x = openF rs (firstB (k + 1)) x := fun x => by
  unfold putK openF firstB
  by_cases e : x = (k : Int)
  · subst e
    have e1 : decide (0 ≤ (k : Int) ∧ (k : Int) < ((k + 1 : Nat) : Int)) = true := decide_eq_true (by omega)
    rw [if_pos rfl, e1, if_pos rfl, Int.toNat_natCast, List.getElem?_eq_getElem hk]
    rfl
  · rw [if_neg e]
    have e1 : decide (0 ≤ x ∧ x < ((k + 1 : Nat) : Int)) = decide (0 ≤ x ∧ x < (k : Int)) := by
      congr 1
      exact propext (by omega)
    rw [e1]
theorem openF_del {rs : List Ru} {rem : Int → Bool} {y : Int} : ∀ x, delK (openF rs rem) y x = openF rs (strike rem y) x := fun x => by
  unfold delK openF
  by_cases e : x = y
  · subst e
    rw [if_pos rfl, strike_same]
    rfl
  · rw [if_neg e, strike_other e]
theorem openF_some {rs : List Ru} {rem : Int → Bool} {x : Int} {v : Value} (h : openF rs rem x = some v) : rem x = true ∧ ∃ u, rs[x.toNat]? = some u ∧ v = .agg #[.int .i64 u.l, .slice u.a u.r.length u.c] := by
  unfold openF at h
  split at h
  · rename_i hr
    cases hu : rs[x.toNat]? with
    | none => rw [hu] at h; cases h
    | some u =>
      rw [hu] at h
      exact ⟨hr, u, rfl, (Option.some.inj h).symm⟩
  · cases h
theorem openF_isSome {rs : List Ru} {rem : Int → Bool} (hr : ∀ x, rem x = true → 0 ≤ x ∧ x < (rs.length : Int)) (x : Int) : (openF rs rem x).isSome = rem x := by
  unfold openF
  cases h : rem x
  · rfl
  · have := hr x h
    rw [if_pos rfl, List.getElem?_eq_getElem (by omega)]
    rfl

/-- What a call of 'use' does, in every world in which E holds. -/
def UseOK (W : Way) (ss : List (Int × List Int)) (E : World → Prop) (b : Nat) (fid : Nat) (caps : Array Value) : Prop :=
  ∀ (v : World) (S : Int → Bool) (u : Ru), E v → SetM v b S → Ints v v.heap.size u.a u.r → u.abs ∈ ss →
    Calls Tryd.prog fid (#[.map (some b), .agg #[.int .i64 u.l, .slice u.a u.r.length u.c]] ++ caps) v fun e v' => e = .returned (.bool (W.fires S u.abs)) ∧ SetM v' b (useW W S u.abs) ∧ Save (· = b) v v'

/-- What holds all the while. -/
structure Closing (W : Way) (S0 : Int → Bool) (rs : List Ru) (rem S : Int → Bool) : Prop where
  fit : ∀ x, rem x = true → 0 ≤ x ∧ x < (rs.length : Int)
  sound : ∀ x, S x = true → Least W S0 (rs.map Ru.abs) x
  start : ∀ x, S0 x = true → S x = true
  used : ∀ (k : Nat) (u : Ru), rs[k]? = some u → rem (k : Int) = false → ∀ y ∈ W.adds u.abs, S y = true

theorem Closing.begin (W : Way) (S0 : Int → Bool) (rs : List Ru) : Closing W S0 rs (firstB rs.length) S0 :=
  ⟨fun x h => of_decide_eq_true h, fun _ h => Least.start h, fun _ h => h, fun k u hu h => by
    have := (List.getElem?_eq_some_iff.1 hu).1
    have := of_decide_eq_false h
    omega⟩

theorem Closing.step {W : Way} {S0 : Int → Bool} {rs : List Ru} {rem S : Int → Bool} (h : Closing W S0 rs rem S) {x : Int} {u : Ru} (hu : rs[x.toNat]? = some u) (hf : W.fires S u.abs = true) :
    Closing W S0 rs (strike rem x) (useW W S u.abs) := by
  refine ⟨fun y hy => h.fit y (strike_le hy), fun y hy => ?_, fun y hy => useW_le (h.start y hy), fun k v hv hk y hy => ?_⟩
  · rcases useW_inv hy with hy | ⟨h1, h2⟩
    · exact h.sound y hy
    · exact Least.step h.sound (List.mem_map.2 ⟨u, List.mem_of_getElem? hu, rfl⟩) h1 h2
  · by_cases e : (k : Int) = x
    · have e2 : x.toNat = k := by omega
      rw [e2, hv] at hu
      cases hu
      exact useW_add hf hy
    · rw [strike_other e] at hk
      exact useW_le (h.used k v hv hk y hy)

theorem Closing.done {W : Way} {S0 : Int → Bool} {rs : List Ru} {rem S : Int → Bool} (h : Closing W S0 rs rem S) (hn : ∀ (k : Nat) (u : Ru), rs[k]? = some u → rem (k : Int) = true → W.fires S u.abs = false) : IsLeast W S0 (rs.map Ru.abs) S := by
  refine isLeast_of h.sound h.start fun r hr hf y hy => ?_
  obtain ⟨u, hu, rfl⟩ := List.mem_map.1 hr
  obtain ⟨k, hk⟩ := List.mem_iff_getElem?.1 hu
  cases hrem : rem (k : Int)
  · exact h.used k u hk hrem y hy
  · rw [hn k u hk hrem] at hf; cases hf

/-- What closeSet ends in. -/
def Closed (w : World) (W : Way) (S0 : Int → Bool) (ss : List (Int × List Int)) (b : Nat) (e : Ending) (w' : World) : Prop :=
  e = .returned (.map (some b)) ∧ ∃ S, SetM w' b S ∧ IsLeast W S0 ss S ∧ Save (· = b) w w'

end Go.Proofs.YtaobkanliiiapaaDoor

/- The program's closeSet: its walk. -/

namespace Go.Proofs.YtaobkanliiiapaaDoor
open Go.RowKit

theorem save_T {b B : Nat} {w w' : World} (h : Save (· = b) w w') : Save (Tb b B) w w' := h.wider fun _ e => .inl e

set_option maxRecDepth 20000 in
set_option maxHeartbeats 2000000 in
theorem closeSet_any (W : Way) (A : Option Addr) (c : Nat) (rs : List Ru) (b fid : Nat) (caps : Array Value) (S0 : Int → Bool) (E : World → Prop) (w : World) (hx : Rls w w.heap.size A rs) (h16 : rs.length ≤ 1048576) (hS : SetM w b S0) (hE : E w)
    (hk : ∀ v v', E v → Save (Tb b w.heap.size) v v' → E v') (hU : UseOK W (rs.map Ru.abs) E b fid caps) (hcf : ∀ (xs : Array Value) (v : World), Sem.run Tryd.prog (callFunc fid xs) v = .ok (.enter fid xs) v) :
    Calls Tryd.prog 187 #[.map (some b), .slice A rs.length c, .func (.func fid) #[] caps] w (Closed w W S0 (rs.map Ru.abs) b) := by
  have hmm := @run_makeMap Tryd.prog
  have hbl := hS.map.lt
  have HX := Lib.hid hx; clear hx
  have HS := Lib.hid hS; clear hS
  have HE := Lib.hid hE; clear hE
  have HEK := Lib.hid hk; clear hk
  have HU := Lib.hid hU; clear hU
  have HM0 := Lib.hid (((MapI.made w).same (openF_zero rs)))
  have HB0 : Hid (Below w.heap.size w (w.alloc (.map #[] 0))) := (Below.refl _ _).alloc (Nat.le_refl _) _
  go_enter Tryd.func187, Tryd.ntmps187
  go_wp2
  go_loopw [16] (fun i wr => ∃ (k : Nat), k ≤ rs.length ∧ i = .int .i64 k ∧ Hid (MapI wr w.heap.size k (openF rs (firstB k))) ∧ Hid (Below w.heap.size w wr)) (fun i _ => rs.length - (intOf i).toNat)
  case atStart => exact ⟨0, by omega, rfl, HM0.out, HB0.out⟩
  case round =>
    obtain ⟨k, hk, rfl, HM, HB⟩ := hrel
    by_cases hlt : k < rs.length
    · obtain ⟨p, o, rfl, hp, c1, c2, _⟩ := (HX.out.keep HB.out).at_ hlt
      have HM1 := Lib.hid (HM.out.keep ((Below.refl wr.heap.size wr).alloc (Nat.le_refl _) (.cells #[.int .i64 rs[k].l, .slice rs[k].a rs[k].r.length rs[k].c] 106)))
      have HP := Lib.hid (openF_put hlt)
      have hws : w.heap.size ≤ wr.heap.size := HB.out.size
      go_wp2_with (at_mapUpdate
                   refine wpList_store_map _ rfl _ _ _ _ rfl _ Tryd.underlying219 w.heap.size k _ (k : Int) _ rfl rfl rfl (by unfold F64; omega) (by unfold maxLen; omega) HM1.out ?_
                   intro w1 h1 h2 h3
                   have HM2 := Lib.hid h1
                   have HS2 := Lib.hid h2
                   clear h1 h2 h3)
      go_roundw
      case rel =>
        exact ⟨k + 1, by omega, by go_num, HM2.out.same HP.out, (HB.out.alloc HB.out.size _).trans (HS2.out.below (B := w.heap.size) (by simp; omega) fun i hi e => by omega)⟩
      case measure => simp [intOf]; omega
    · obtain rfl : k = rs.length := by omega
      obtain ⟨wA, hwA⟩ : ∃ x, x = wr := ⟨_, rfl⟩
      subst hwA
      clear HM0 HB0 hmm
      have HMA := Lib.hid (HM.out.mono h16)
      have HSA := Lib.hid (HS.out.keep HB.out)
      have HVA : Hid (Save (Tb b w.heap.size) w wA) := Save.of_below HB.out
      have HCA := Lib.hid (Closing.begin W S0 rs)
      go_wp2
      go_loopg [10] (2 * cntB (firstB rs.length) rs.length + 1) (fun g u wv => ∃ (used : Bool) (rem S : Int → Bool), u = .bool used ∧ g = 2 * cntB rem rs.length + (if used then 1 else 0) ∧ Hid (MapI wv w.heap.size 1048576 (openF rs rem)) ∧ Hid (SetM wv b S) ∧ Hid (Save (Tb b w.heap.size) w wv) ∧ Hid (Closing W S0 rs rem S) ∧ Hid (used = false → ∀ (k : Nat) (u : Ru), rs[k]? = some u → rem (k : Int) = true → W.fires S u.abs = false))
      case atStart => exact ⟨true, _, _, rfl, rfl, HMA.out, HSA.out, HVA.out, HCA.out, fun h => by cases h⟩
      case round =>
        obtain ⟨used, rem, S, rfl, hg, HM1, HS1, HV1, HC1, HN1⟩ := hrel
        clear HMA HSA HVA HCA HM
        cases used
        · have HL := Lib.hid (HC1.out.done (HN1.out rfl))
          have HV : Hid (Save (· = b) w wr) := ⟨HV1.out.os, HV1.out.tape, HV1.out.output, HV1.out.size, fun i hi h => HV1.out.block i hi fun e => by rcases e with e | e; exact h e; omega⟩
          go_wp2
          go_ret
          exact ⟨rfl, S, HS1.out, HL.out, HV.out⟩
        · rw [if_pos rfl] at hg
          obtain ⟨wO, hwO⟩ : ∃ x, x = wr := ⟨_, rfl⟩
          subst hwO
          have hqO : w.heap.size < wO.heap.size := HM1.out.lt
          have hbO : b < wO.heap.size := by omega
          go_wp2_with (at_range
                       refine wpList_range_map _ rfl _ _ rfl _ Tryd.underlying219 w.heap.size 1048576 _ rfl HM1.out ?_
                       intro w1 cnt h1 h2 h3 h4
                       have HR := Lib.hid h1
                       have HB1 := Lib.hid h3
                       clear h1 h2 h3 h4)
          try go_frame
          have HSr := Lib.hid (HS1.out.keep HB1.out)
          have HVr : Hid (Save (Tb b w.heap.size) w w1) := HV1.out.trans (Save.of_below HB1.out)
          have HLf : Hid (∀ x, (openF rs rem x).isSome = rem x) := openF_isSome HC1.out.fit
          go_loopg [10] cnt (fun g u wv => ∃ (used : Bool) (rem2 S2 left : Int → Bool), u = .bool used ∧ Hid (Rng wv w.heap.size wO.heap.size 1048576 (openF rs rem2) left g) ∧ Hid (SetM wv b S2) ∧ Hid (Save (Tb b w.heap.size) w wv) ∧ Hid (Closing W S0 rs rem2 S2) ∧ Hid (used = false → rem2 = rem ∧ ∀ (k : Nat) (u : Ru), rs[k]? = some u → rem2 (k : Int) = true → left (k : Int) = false → W.fires S2 u.abs = false) ∧ Hid (used = true → cntB rem2 rs.length < cntB rem rs.length))
          case atStart => exact ⟨false, rem, S, _, rfl, HR.out, HSr.out, HVr.out, HC1.out, fun _ => ⟨rfl, fun k u _ h1 h2 => by rw [HLf.out, h1] at h2; cases h2⟩, fun h => by cases h⟩
          case round =>
            obtain ⟨used, rem2, S2, left, rfl, HR2, HS2, HV2, HC2, HN2, HD2⟩ := hrel
            clear HR HB1 HSr HVr HLf
            go_wp2_with (at_next
                         refine wpList_next_rng _ rfl _ rfl w.heap.size wO.heap.size 1048576 _ _ _ rfl HR2.out ?_ ?_)
            · intro _ hl0
              have HL0 := Lib.hid hl0; clear hl0
              go_wp2
              go_roundg (2 * cntB rem2 rs.length + (if used then 1 else 0))
              case measure =>
                cases used
                · have := (HN2.out rfl).1
                  rw [this]
                  simp
                  omega
                · have := HD2.out rfl
                  simp
                  omega
              case rel => exact ⟨used, rem2, S2, rfl, rfl, HR2.out.map, HS2.out, HV2.out, HC2.out, fun h k u hu hr => (HN2.out h).2 k u hu hr (HL0.out _)⟩
            · intro x v w2 cnt2 hx hl hv hR hlt hSv hsz hen
              obtain ⟨hrem, u, hu, rfl⟩ := openF_some hv
              have hxr := HC2.out.fit x hrem
              have HV3 : Hid (Save (Tb b w.heap.size) w w2) := HV2.out.trans (hSv.wider fun i e => .inr (by omega))
              have HS3 := Lib.hid (HS2.out.save hSv (fun e : b = wO.heap.size => by omega))
              have HI3 : Hid (Ints w2 w2.heap.size u.a u.r) := by
                have hr3 := HX.out.saveMap HS.out.map HV3.out
                have hul := (List.getElem?_eq_some_iff.1 hu).1
                obtain ⟨_, _, _, _, _, _, h3⟩ := hr3.at_ hul
                have e2 : rs[x.toNat] = u := Option.some.inj ((List.getElem?_eq_getElem hul).symm.trans hu)
                rw [e2] at h3
                exact h3
              have HR3 := Lib.hid hR; clear hR hSv
              have HB3 : Hid (Below w2.heap.size w2 (w2.alloc (.cells #[.int .i64 u.l, .slice u.a u.r.length u.c] 106))) := (Below.refl _ _).alloc (Nat.le_refl _) _
              have HLX := Lib.hid hl; clear hl hv
              have HXR := Lib.hid hxr; clear hxr
              have HU0 := Lib.hid hu; clear hu
              have HRM := Lib.hid hrem; clear hrem
              have HLT := Lib.hid hlt; clear hlt
              clear HS2 HV2 HR2 hsz
              have HE3 : Hid (E (w2.alloc (.cells #[.int .i64 u.l, .slice u.a u.r.length u.c] 106))) := HEK.out _ _ HE.out (HV3.out.trans (Save.of_below HB3.out))
              have HUS := Lib.hid (HU.out _ S2 u HE3.out (HS3.out.keep HB3.out) ((HI3.out.keep HB3.out).more HB3.out.size) (List.mem_map.2 ⟨u, List.mem_of_getElem? HU0.out, rfl⟩))
              cases hf : W.fires S2 u.abs
              · rw [hf, useW_no hf] at HUS
                have HF := Lib.hid hf; clear hf
                go_wp2_with fail
                refine HUS.out.mono ?_
                rintro e w4 ⟨rfl, hS4, hV4⟩
                have HS4 := Lib.hid hS4; clear hS4
                have HV4 : Hid (Save (Tb b w.heap.size) w w4) := (HV3.out.trans (Save.of_below HB3.out)).trans (save_T hV4)
                have HR4 : Hid (Rng w4 w.heap.size wO.heap.size 1048576 (openF rs rem2) (strike left x) cnt2) := (HR3.out.keep HB3.out).save hV4 (fun e : w.heap.size = b => by omega) (fun e : wO.heap.size = b => by omega)
                clear hV4
                go_wp2
                go_roundg cnt2
                case measure => exact HLT.out
                case rel =>
                  refine ⟨used, rem2, S2, _, rfl, HR4.out, HS4.out, HV4.out, HC2.out, fun h => ⟨(HN2.out h).1, fun k v hv hr hl => ?_⟩, HD2.out⟩
                  by_cases e : (k : Int) = x
                  · have e2 : x.toNat = k := by omega
                    have e3 := HU0.out
                    rw [e2, hv] at e3
                    cases e3
                    exact HF.out
                  · rw [strike_other e] at hl
                    exact (HN2.out h).2 k v hv hr hl
              · rw [hf] at HUS
                have HC3 := Lib.hid (HC2.out.step HU0.out hf); clear hf
                have hxx : x = ((x.toNat : Nat) : Int) := by have := HXR.out.1; omega
                have HCN : Hid (cntB (strike rem2 x) rs.length < cntB rem2 rs.length) := by
                  show _ < _
                  rw [hxx]
                  exact cntB_strike (by have := HXR.out; omega) (by rw [← hxx]; exact HRM.out)
                clear hxx
                go_wp2_with fail
                refine HUS.out.mono ?_
                rintro e w4 ⟨rfl, hS4, hV4⟩
                have HR4 : Hid (Rng w4 w.heap.size wO.heap.size 1048576 (openF rs rem2) (strike left x) cnt2) := (HR3.out.keep HB3.out).save hV4 (fun e : w.heap.size = b => by omega) (fun e : wO.heap.size = b => by omega)
                have HS4 := Lib.hid hS4; clear hS4
                have HV4 : Hid (Save (Tb b w.heap.size) w w4) := (HV3.out.trans (Save.of_below HB3.out)).trans (save_T hV4)
                clear hV4
                go_wp2_with (at_delete
                             refine wpList_delete_rng _ rfl _ _ _ rfl _ Tryd.underlying219 w.heap.size wO.heap.size 1048576 _ _ _ x rfl rfl hx HR4.out ?_
                             intro w5 cnt5 h1 h2 h3 h4
                             have HR5 := Lib.hid h1
                             have HL5 := Lib.hid h2
                             have HV5 := Lib.hid h3
                             clear h1 h2 h3 h4)
                go_roundg cnt5
                case measure => have := HL5.out; have := HLT.out; omega
                case rel =>
                  have HV6 : Save (Tb b w.heap.size) w w5 := HV4.out.trans (HV5.out.wider fun i e => .inr (by omega))
                  have HS6 : SetM w5 b (useW W S2 u.abs) := HS4.out.save HV5.out (fun e : b = w.heap.size => by omega)
                  have HR6 : Rng w5 w.heap.size wO.heap.size 1048576 (openF rs (strike rem2 x)) (strike left x) cnt5 := by
                    have h := HR5.out
                    rw [strike_twice, funext (openF_del (rs := rs) (rem := rem2) (y := x))] at h
                    exact h
                  refine ⟨true, strike rem2 x, _, _, rfl, HR6, HS6, HV6, HC3.out, fun h => (by cases h), fun _ => ?_⟩
                  have h1 := HCN.out
                  cases used
                  · rw [(HN2.out rfl).1] at h1 ⊢
                    exact h1
                  · have h2 := HD2.out rfl
                    omega

end Go.Proofs.YtaobkanliiiapaaDoor

/- The program's closeLefts, nullableBy, productiveBy, growingBy, reachedFrom, reachedBy. -/

namespace Go.Proofs.YtaobkanliiiapaaDoor
open Go.RowKit

/-- What a call of 'fits' tells, in every world in which E holds. -/
def FitsOK (W : Way) (ss : List (Int × List Int)) (E : World → Prop) (b : Nat) (fid : Nat) (caps : Array Value) : Prop :=
  ∀ (v : World) (S : Int → Bool) (u : Ru), E v → SetM v b S → Ints v v.heap.size u.a u.r → u.abs ∈ ss →
    Calls Tryd.prog fid (#[.map (some b), .slice u.a u.r.length u.c] ++ caps) v fun e v' => e = .returned (.bool (W.fires S u.abs)) ∧ Below v.heap.size v v'

/-- A set was made. -/
def GaveSet (w : World) (P : (Int → Bool) → Prop) (e : Ending) (w' : World) : Prop :=
  ∃ b S, e = .returned (.map (some b)) ∧ w.heap.size ≤ b ∧ SetM w' b S ∧ P S ∧ Below w.heap.size w w'

theorem useW_left {W : Way} (hW : ∀ r, W.adds r = [r.1]) {S : Int → Bool} {u : Ru} (h : W.fires S u.abs = true) : useW W S u.abs = addS S u.l := by
  funext x
  unfold useW addS
  rw [h, hW]
  show (S x || (true && [u.l].contains x)) = _
  by_cases e : x = u.l
  · simp [e]
  · simp [e]

set_option maxRecDepth 20000 in
set_option maxHeartbeats 1000000 in
theorem fitsUse_any (W : Way) (hW : ∀ r, W.adds r = [r.1]) (ss : List (Int × List Int)) (hA : AddsFit W ss) (E : World → Prop) (b B fid : Nat) (caps : Array Value) (hcf : ∀ (xs : Array Value) (v : World), Sem.run Tryd.prog (callFunc fid xs) v = .ok (.enter fid xs) v)
    (hF : FitsOK W ss E b fid caps) (hk : ∀ v v', E v → Below v.heap.size v v' → E v') :
    UseOK W ss (fun v => E v ∧ v.cell? ⟨B, 0, none⟩ = some (.func (.func fid) #[] caps)) b 188 #[.pointer (some ⟨B, 0, none⟩)] := by
  intro v S u hE hS hI hm
  obtain ⟨hE1, hc⟩ := hE
  have hBl : B < v.heap.size := by
    by_cases hg : B < v.heap.size
    · exact hg
    · simp only [World.cell?] at hc
      rw [Array.getElem?_eq_none (by omega)] at hc
      cases hc
  have hul : 0 ≤ u.l ∧ u.l < 40 := hA _ hm _ (by rw [hW]; exact List.mem_singleton.2 rfl)
  have HB0 : Hid (Below v.heap.size v (v.alloc (.cells #[.int .i64 u.l, .slice u.a u.r.length u.c] 106))) := (Below.refl _ _).alloc (Nat.le_refl _) _
  have BX0 : Hid (Box2 (v.alloc (.cells #[.int .i64 u.l, .slice u.a u.r.length u.c] 106)) v.heap.size (.int .i64 u.l) (.slice u.a u.r.length u.c)) := ⟨by simp, by simp [go_sem], by simp [go_sem]⟩
  have hc1 : (v.alloc (.cells #[.int .i64 u.l, .slice u.a u.r.length u.c] 106)).cell? ⟨B, 0, none⟩ = some (.func (.func fid) #[] caps) := (HB0.out.cell (p := ⟨B, 0, none⟩) hBl).trans hc
  have HC := Lib.hid (hF _ S u (hk _ _ hE1 HB0.out) (hS.keep HB0.out) ((hI.keep HB0.out).more HB0.out.size) hm)
  have HS := Lib.hid hS; clear hS hF hk hE1 hI hc
  cases hf : W.fires S u.abs
  · rw [hf] at HC
    rw [useW_no hf]
    clear hf
    go_enter Tryd.func188, Tryd.ntmps188
    go_wp2_with fail
    refine HC.out.mono ?_
    rintro e w1 ⟨rfl, hB1⟩
    have HB1 := Lib.hid (HB0.out.trans (hB1.mono HB0.out.size)); clear hB1 hc1
    go_wp2
    go_ret
    exact ⟨rfl, HS.out.keep HB1.out, Save.of_below HB1.out⟩
  · rw [hf] at HC
    rw [useW_left hW hf]
    clear hf
    go_enter Tryd.func188, Tryd.ntmps188
    go_wp2_with fail
    refine HC.out.mono ?_
    rintro e w1 ⟨rfl, hB1⟩
    obtain ⟨_, b0, b1⟩ := BX0.out.keep hB1 (by simp)
    have HB1 := Lib.hid (HB0.out.trans (hB1.mono HB0.out.size)); clear hB1 hc1
    have HS1 := Lib.hid (HS.out.keep HB1.out)
    go_wp2_with (at_mapUpdate
                 refine wpList_store_set _ rfl _ _ _ rfl b S u.l rfl rfl rfl hul HS1.out ?_
                 intro w2 h1 h2 h3
                 have HS2 := Lib.hid h1
                 have HV2 := Lib.hid h2
                 clear h1 h2 h3)
    go_ret
    exact ⟨rfl, HS2.out, (Save.of_below HB1.out).trans HV2.out⟩

set_option maxRecDepth 20000 in
set_option maxHeartbeats 1000000 in
theorem closeLefts_any (W : Way) (hW : ∀ r, W.adds r = [r.1]) (A : Option Addr) (c : Nat) (rs : List Ru) (hA : AddsFit W (rs.map Ru.abs)) (fid : Nat) (caps : Array Value) (E : World → Prop) (w : World) (hx : Rls w w.heap.size A rs) (h16 : rs.length ≤ 1048576)
    (hcf : ∀ (xs : Array Value) (v : World), Sem.run Tryd.prog (callFunc fid xs) v = .ok (.enter fid xs) v) (hE : E w) (hk : ∀ v v', E v → Below w.heap.size v v' → E v') (hF : ∀ b, w.heap.size ≤ b → FitsOK W (rs.map Ru.abs) (fun v => E v ∧ w.heap.size + 1 ≤ v.heap.size) b fid caps) :
    Calls Tryd.prog 145 #[.slice A rs.length c, .func (.func fid) #[] caps] w (GaveSet w (IsLeast W noS (rs.map Ru.abs))) := by
  have hmm := @run_makeMap Tryd.prog
  have hmf : ∀ (fn : Fn) (first cap : Array Value) (w : World), (Instr.makeFunc fn first cap).run Tryd.prog w = .ok (.func fn first cap) w := fun _ _ _ _ => rfl
  have hcu : ∀ (xs : Array Value) (v : World), Sem.run Tryd.prog (callFunc 188 xs) v = .ok (.enter 188 xs) v := fun xs v => rfl
  have HB1 : Hid (Below w.heap.size w (w.alloc (.cells #[.func (.func fid) #[] caps] 173))) := (Below.refl _ _).alloc (Nat.le_refl _) _
  have hsz : (w.alloc (.cells #[.func (.func fid) #[] caps] 173)).heap.size = w.heap.size + 1 := by simp
  have hcl : (w.alloc (.cells #[.func (.func fid) #[] caps] 173)).cell? ⟨w.heap.size, 0, none⟩ = some (.func (.func fid) #[] caps) := by simp [go_sem]
  have HS2 := Lib.hid (SetM.made (w.alloc (.cells #[.func (.func fid) #[] caps] 173)))
  have HB2 : Hid (Below w.heap.size w ((w.alloc (.cells #[.func (.func fid) #[] caps] 173)).alloc (.map #[] 0))) := HB1.out.alloc HB1.out.size _
  have HX := Lib.hid ((hx.keep HB2.out).more HB2.out.size); clear hx
  have hc2 : ((w.alloc (.cells #[.func (.func fid) #[] caps] 173)).alloc (.map #[] 0)).cell? ⟨w.heap.size, 0, none⟩ = some (.func (.func fid) #[] caps) := by simp [go_sem]
  have HU := Lib.hid (fitsUse_any W hW (rs.map Ru.abs) hA (fun v => E v ∧ w.heap.size + 1 ≤ v.heap.size) (w.heap.size + 1) w.heap.size fid caps hcf (hF _ (by omega)) (fun v v' h hb => ⟨hk v v' h.1 (hb.mono (by have := h.2; omega)), by have := hb.size; have := h.2; omega⟩))
  have HEK := Lib.hid hk
  have HE2 : Hid ((E ((w.alloc (.cells #[.func (.func fid) #[] caps] 173)).alloc (.map #[] 0)) ∧ w.heap.size + 1 ≤ ((w.alloc (.cells #[.func (.func fid) #[] caps] 173)).alloc (.map #[] 0)).heap.size) ∧ ((w.alloc (.cells #[.func (.func fid) #[] caps] 173)).alloc (.map #[] 0)).cell? ⟨w.heap.size, 0, none⟩ = some (.func (.func fid) #[] caps)) := ⟨⟨hk _ _ hE HB2.out, by simp⟩, hc2⟩
  clear hcl hc2 hE hk hF
  rw [hsz] at HS2
  go_enter Tryd.func145, Tryd.ntmps145
  go_wp2_with fail
  refine (closeSet_any W _ _ rs _ _ _ noS (fun v => (E v ∧ w.heap.size + 1 ≤ v.heap.size) ∧ v.cell? ⟨w.heap.size, 0, none⟩ = some (.func (.func fid) #[] caps)) _ HX.out h16 HS2.out HE2.out ?_ HU.out hcu).mono ?_
  · intro v v' h hs
    have hb : Below (w.heap.size + 1) v v' := ⟨hs.os, hs.tape, hs.output, hs.size, fun i hi => hs.block i (by have := h.1.2; omega) (by unfold Tb; simp; omega)⟩
    exact ⟨⟨HEK.out v v' h.1.1 (hb.mono (by omega)), by have := hs.size; have := h.1.2; omega⟩, (hb.cell (p := ⟨w.heap.size, 0, none⟩) (Nat.lt_succ_self _)).trans h.2⟩
  rintro e w3 ⟨rfl, S, hS, hL, hV⟩
  have HB3 : Hid (Below w.heap.size w w3) := HB2.out.trans (hV.below HB2.out.size fun i hi e => by omega)
  have HS3 := Lib.hid hS; clear hS
  clear hV
  go_wp2
  go_ret
  exact ⟨w.heap.size + 1, S, rfl, by omega, HS3.out, hL, HB3.out⟩

end Go.Proofs.YtaobkanliiiapaaDoor

/- The program's nullableBy, productiveBy, growingBy, reachedFrom, reachedBy. -/

namespace Go.Proofs.YtaobkanliiiapaaDoor
open Go.RowKit

theorem SetM.below {w w' : World} {b B : Nat} {S : Int → Bool} (h : SetM w b S) (hb : Below B w w') (hB : b < B) : SetM w' b S :=
  h.save (T := fun i => B ≤ i) ⟨hb.os, hb.tape, hb.output, hb.size, fun i _ hs => hb.block i (by omega)⟩ (by omega)

theorem good_fit {n t : Int} {ss : List (Int × List Int)} (hg : goodG n t ss = true) {u : Ru} (hu : u.abs ∈ ss) : FitI u.r := fun x hx => by
  have h1 := goodG_is hg
  have h2 := (goodG_mem hg hu).2.2 x hx
  unfold F64
  omega
theorem good_len {n t : Int} {ss : List (Int × List Int)} (hg : goodG n t ss = true) {u : Ru} (hu : u.abs ∈ ss) : u.r.length ≤ 4 := (goodG_mem hg hu).2.1
theorem good_16 {n t : Int} {rs : List Ru} (hg : goodG n t (rs.map Ru.abs) = true) : rs.length ≤ 1048576 := by have h := (goodG_is hg).2.2.1; simp at h; omega

set_option maxRecDepth 20000 in
theorem enter_null (xs : Array Value) (v : World) : Sem.run Tryd.prog (callFunc 146 xs) v = .ok (.enter 146 xs) v := rfl
set_option maxRecDepth 20000 in
set_option maxHeartbeats 1000000 in
theorem nullableBy_any (n t : Int) (A : Option Addr) (c : Nat) (rs : List Ru) (w : World) (hx : Rls w w.heap.size A rs) (hg : goodG n t (rs.map Ru.abs) = true) :
    Calls Tryd.prog 102 #[.slice A rs.length c] w (GaveSet w (IsLeast wayNull noS (rs.map Ru.abs))) := by
  have HC := Lib.hid (closeLefts_any wayNull (fun _ => rfl) A c rs (fit_lefts hg fun _ => rfl) 146 #[] (fun _ => True) w hx (good_16 hg) enter_null trivial (fun _ _ _ _ => trivial) fun b _ v S u _ hS hI hm => by
    have h := allNull_any b S u.a u.r u.c v hS hI (good_fit hg hm) (good_len hg hm)
    exact h.mono fun e v' ⟨h1, h2⟩ => ⟨h1, by subst h2; exact Below.refl _ _⟩)
  clear hx hg
  go_enter Tryd.func102, Tryd.ntmps102
  go_wp2_with fail
  refine HC.out.mono ?_
  rintro e w1 ⟨b, S, rfl, h1, h2, h3, h4⟩
  have H1 := Lib.hid h1; have H2 := Lib.hid h2; have H3 := Lib.hid h3; have H4 := Lib.hid h4
  clear h1 h2 h3 h4
  go_wp2
  go_ret
  exact ⟨b, S, rfl, H1.out, H2.out, H3.out, H4.out⟩

/-- The first k symbols of a right side are put into a set, the tokens left out. -/
def putR (S : Int → Bool) (xs : List Int) : Int → Bool := fun x => S x || (decide (0 ≤ x) && xs.contains x)
theorem putR_nil (S : Int → Bool) : putR S [] = S := by
  funext x
  simp [putR]
theorem contains_take {xs : List Int} {k : Nat} (hk : k < xs.length) (x : Int) : (xs.take (k + 1)).contains x = ((xs.take k).contains x || decide (x = xs[k])) := by
  rw [List.take_succ_eq_append_getElem hk]
  generalize xs.take k = l
  generalize xs[k] = y
  rw [Bool.eq_iff_iff]
  simp
theorem putR_tok {S : Int → Bool} {xs : List Int} {k : Nat} (hk : k < xs.length) (h : xs[k] < 0) : putR S (xs.take (k + 1)) = putR S (xs.take k) := by
  funext x
  unfold putR
  rw [contains_take hk]
  by_cases e : x = xs[k]
  · have : decide (0 ≤ x) = false := decide_eq_false (by omega)
    rw [this]
    rfl
  · rw [decide_eq_false e, Bool.or_false]
theorem putR_non {S : Int → Bool} {xs : List Int} {k : Nat} (hk : k < xs.length) (h : ¬ xs[k] < 0) : putR S (xs.take (k + 1)) = addS (putR S (xs.take k)) xs[k] := by
  funext x
  unfold putR addS
  rw [contains_take hk]
  by_cases e : x = xs[k]
  · have h0 : decide (0 ≤ x) = true := decide_eq_true (by omega)
    rw [h0, decide_eq_true e]
    simp
  · rw [decide_eq_false e, Bool.or_false, Bool.false_or]
theorem putR_all {S : Int → Bool} {u : Ru} (h : S u.l = true) : putR S u.r = useW wayReach S u.abs := by
  funext x
  unfold putR useW
  have h1 : wayReach.fires S u.abs = true := h
  have h2 : (wayReach.adds u.abs).contains x = (decide (0 ≤ x) && u.r.contains x) := by
    show (u.r.filter fun x => decide (0 ≤ x)).contains x = _
    rw [Bool.eq_iff_iff]
    simp [and_comm]
  rw [h1, h2]
  rfl

end Go.Proofs.YtaobkanliiiapaaDoor
