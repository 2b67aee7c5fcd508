/- Plain mathematics of chapter 3: rounds in a graph of which some steps grow; a table that is closed by way of each vertex. -/
import Derived.Test.YtkghblgiojidgaaDoorUse
namespace Go.Proofs.YtkghblgiojidgaaDoor

section
variable (E M : Int → Int → Prop)

/-- A way from a to b, by the vertices of l. -/
def walkE : Int → List Int → Int → Prop
  | a, [], b => E a b
  | a, c :: l, b => E a c ∧ walkE c l b
/-- .. some step of which grows. -/
def walkM : Int → List Int → Int → Prop
  | a, [], b => M a b
  | a, c :: l, b => (M a c ∧ walkE E c l b) ∨ (E a c ∧ walkM c l b)
end

variable {E M : Int → Int → Prop}

theorem walkE_join : ∀ {l : List Int} {a k b : Int} {l2 : List Int}, walkE E a l k → walkE E k l2 b → walkE E a (l ++ k :: l2) b
  | [], _, _, _, _, h1, h2 => ⟨h1, h2⟩
  | _ :: _, _, _, _, _, h1, h2 => ⟨h1.1, walkE_join h1.2 h2⟩
theorem walkE_part : ∀ {l : List Int} {a k b : Int} {l2 : List Int}, walkE E a (l ++ k :: l2) b → walkE E a l k ∧ walkE E k l2 b
  | [], _, _, _, _, h => h
  | _ :: _, _, _, _, _, h => by
    obtain ⟨h1, h2⟩ := walkE_part h.2
    exact ⟨⟨h.1, h1⟩, h2⟩
theorem walkM_left : ∀ {l : List Int} {a k b : Int} {l2 : List Int}, walkM E M a l k → walkE E k l2 b → walkM E M a (l ++ k :: l2) b
  | [], _, _, _, _, h1, h2 => .inl ⟨h1, h2⟩
  | _ :: _, _, _, _, _, h1, h2 => h1.imp (fun h => ⟨h.1, walkE_join h.2 h2⟩) fun h => ⟨h.1, walkM_left h.2 h2⟩
theorem walkM_right : ∀ {l : List Int} {a k b : Int} {l2 : List Int}, walkE E a l k → walkM E M k l2 b → walkM E M a (l ++ k :: l2) b
  | [], _, _, _, _, h1, h2 => .inr ⟨h1, h2⟩
  | _ :: _, _, _, _, _, h1, h2 => .inr ⟨h1.1, walkM_right h1.2 h2⟩
theorem walkM_part : ∀ {l : List Int} {a k b : Int} {l2 : List Int}, walkM E M a (l ++ k :: l2) b → (walkM E M a l k ∧ walkE E k l2 b) ∨ (walkE E a l k ∧ walkM E M k l2 b)
  | [], _, _, _, _, h => h
  | _ :: _, _, _, _, _, h => by
    rcases h with ⟨h1, h2⟩ | ⟨h1, h2⟩
    · obtain ⟨p1, p2⟩ := walkE_part h2
      exact .inl ⟨.inl ⟨h1, p1⟩, p2⟩
    · rcases walkM_part h2 with ⟨p1, p2⟩ | ⟨p1, p2⟩
      · exact .inl ⟨.inr ⟨h1, p1⟩, p2⟩
      · exact .inr ⟨⟨h1, p1⟩, p2⟩
theorem walkM_E (hM : ∀ a b, M a b → E a b) : ∀ {l : List Int} {a b : Int}, walkM E M a l b → walkE E a l b
  | [], _, _, h => hM _ _ h
  | _ :: _, _, _, h => by
    rcases h with ⟨h1, h2⟩ | ⟨h1, h2⟩
    · exact ⟨hM _ _ h1, h2⟩
    · exact ⟨h1, walkM_E hM h2⟩
/-- In a way that grows there is a step that grows. -/
theorem walkM_step : ∀ {l : List Int} {a b : Int}, walkM E M a l b → ∃ c d, M c d ∧ (c = a ∨ ∃ l1, walkE E a l1 c) ∧ (d = b ∨ ∃ l2, walkE E d l2 b)
  | [], a, b, h => ⟨a, b, h, .inl rfl, .inl rfl⟩
  | x :: l, a, b, h => by
    rcases h with ⟨h1, h2⟩ | ⟨h1, h2⟩
    · exact ⟨a, x, h1, .inl rfl, .inr ⟨l, h2⟩⟩
    · obtain ⟨c, d, hm, hc, hd⟩ := walkM_step h2
      refine ⟨c, d, hm, .inr ?_, hd⟩
      rcases hc with rfl | ⟨l1, h3⟩
      · exact ⟨[], h1⟩
      · exact ⟨x :: l1, h1, h3⟩

theorem not_nodup : ∀ {l : List Int}, ¬ l.Nodup → ∃ v l1 l2 l3, l = l1 ++ v :: (l2 ++ v :: l3)
  | [], h => absurd List.nodup_nil h
  | x :: l, h => by
    by_cases hx : x ∈ l
    · obtain ⟨l2, l3, rfl⟩ := List.append_of_mem hx
      exact ⟨x, [], l2, l3, rfl⟩
    · have hn : ¬ l.Nodup := fun hl => h (List.nodup_cons.2 ⟨hx, hl⟩)
      obtain ⟨v, l1, l2, l3, e⟩ := not_nodup hn
      exact ⟨v, x :: l1, l2, l3, by rw [e]; rfl⟩
/-- Of a round that grows there is one by vertices that are all unlike. -/
theorem round_simple (m : Nat) : ∀ (l : List Int) (k : Int), l.length ≤ m → walkM E M k l k → ∃ l' k', l'.Nodup ∧ walkM E M k' l' k' := by
  induction m with
  | zero =>
    intro l k hl h
    have : l = [] := List.eq_nil_of_length_eq_zero (by omega)
    subst this
    exact ⟨[], k, List.nodup_nil, h⟩
  | succ m ih =>
    intro l k hl h
    by_cases hn : l.Nodup
    · exact ⟨l, k, hn, h⟩
    · obtain ⟨v, l1, l2, l3, rfl⟩ := not_nodup hn
      simp only [List.length_append, List.length_cons] at hl
      rcases walkM_part h with ⟨p1, p2⟩ | ⟨p1, p2⟩
      · obtain ⟨q1, q2⟩ := walkE_part p2
        exact ih (l1 ++ v :: l3) k (by simp only [List.length_append, List.length_cons]; omega) (walkM_left p1 q2)
      · rcases walkM_part p2 with ⟨q1, q2⟩ | ⟨q1, q2⟩
        · exact ih l2 v (by omega) q1
        · exact ih (l1 ++ v :: l3) k (by simp only [List.length_append, List.length_cons]; omega) (walkM_right p1 q2)

/-- A table of bools. -/
abbrev Tab := Int → Int → Bool
/-- Both tables tell ways alone. -/
def SoundT (E M : Int → Int → Prop) (T U : Tab) : Prop := (∀ a b, T a b = true → ∃ l, walkE E a l b) ∧ ∀ a b, U a b = true → ∃ l, walkM E M a l b
/-- All ways by unlike vertices below k are told. -/
def UptoT (E M : Int → Int → Prop) (k : Int) (T U : Tab) : Prop := ∀ (a b : Int) (l : List Int), l.Nodup → (∀ x ∈ l, 0 ≤ x ∧ x < k) → (walkE E a l b → T a b = true) ∧ (walkM E M a l b → U a b = true)
/-- What the step by way of k makes of one place. -/
def byU (T U : Tab) (k a b : Int) : Bool := U a b || (T a k && U k b) || (U a k && T k b)
def byT (T : Tab) (k a b : Int) : Bool := T a b || (T a k && T k b)
def setT (T : Tab) (a b : Int) (v : Bool) : Tab := fun x y => if x = a ∧ y = b then v else T x y
theorem sound_setU {T U : Tab} (h : SoundT E M T U) (k a b : Int) : SoundT E M T (setT U a b (byU T U k a b)) := by
  refine ⟨h.1, fun x y hxy => ?_⟩
  unfold setT at hxy
  split at hxy
  · rename_i e
    obtain ⟨rfl, rfl⟩ := e
    unfold byU at hxy
    simp only [Bool.or_eq_true, Bool.and_eq_true] at hxy
    rcases hxy with (h1 | ⟨h1, h2⟩) | ⟨h1, h2⟩
    · exact h.2 _ _ h1
    · obtain ⟨l1, p1⟩ := h.1 _ _ h1
      obtain ⟨l2, p2⟩ := h.2 _ _ h2
      exact ⟨_, walkM_right p1 p2⟩
    · obtain ⟨l1, p1⟩ := h.2 _ _ h1
      obtain ⟨l2, p2⟩ := h.1 _ _ h2
      exact ⟨_, walkM_left p1 p2⟩
  · exact h.2 _ _ hxy
theorem sound_setT {T U : Tab} (h : SoundT E M T U) (k a b : Int) : SoundT E M (setT T a b (byT T k a b)) U := by
  refine ⟨fun x y hxy => ?_, h.2⟩
  unfold setT at hxy
  split at hxy
  · rename_i e
    obtain ⟨rfl, rfl⟩ := e
    unfold byT at hxy
    simp only [Bool.or_eq_true, Bool.and_eq_true] at hxy
    rcases hxy with h1 | ⟨h1, h2⟩
    · exact h.1 _ _ h1
    · obtain ⟨l1, p1⟩ := h.1 _ _ h1
      obtain ⟨l2, p2⟩ := h.1 _ _ h2
      exact ⟨_, walkE_join p1 p2⟩
  · exact h.1 _ _ hxy
/-- T holds all that S holds. -/
def LeT (S T : Tab) : Prop := ∀ a b, S a b = true → T a b = true
theorem leT_set {T : Tab} {a b : Int} {v : Bool} (h : T a b = true → v = true) : LeT T (setT T a b v) := fun x y hxy => by
  unfold setT
  split
  · rename_i e
    obtain ⟨rfl, rfl⟩ := e
    exact h hxy
  · exact hxy
/-- The step by way of k is done at (a, b). -/
def DoneAt (T0 U0 T U : Tab) (k a b : Int) : Prop := (byT T0 k a b = true → T a b = true) ∧ (byU T0 U0 k a b = true → U a b = true)
theorem DoneAt.mono {T0 U0 T U T' U' : Tab} {k a b : Int} (h : DoneAt T0 U0 T U k a b) (hT : LeT T T') (hU : LeT U U') : DoneAt T0 U0 T' U' k a b := ⟨fun e => hT _ _ (h.1 e), fun e => hU _ _ (h.2 e)⟩
/-- One step more. -/
theorem upto_step' {T0 U0 T U : Tab} {n k : Int} (h : UptoT E M k T0 U0) (hE : ∀ a b, E a b → (0 ≤ a ∧ a < n) ∧ (0 ≤ b ∧ b < n)) (hM : ∀ a b, M a b → E a b) (hT : LeT T0 T) (hU : LeT U0 U) (hd : ∀ a b, 0 ≤ a → a < n → 0 ≤ b → b < n → DoneAt T0 U0 T U k a b) : UptoT E M (k + 1) T U := by
  have hends : ∀ {l : List Int} {a b : Int}, walkE E a l b → (0 ≤ a ∧ a < n) ∧ (0 ≤ b ∧ b < n) := by
    intro l
    induction l with
    | nil => intro a b h; exact hE _ _ h
    | cons c l ih => intro a b h; exact ⟨(hE _ _ h.1).1, (ih h.2).2⟩
  intro a b l hn hl
  by_cases hk : k ∈ l
  · obtain ⟨l1, l2, rfl⟩ := List.append_of_mem hk
    obtain ⟨n1, n2, n3⟩ := List.nodup_append.1 hn
    obtain ⟨n4, n5⟩ := List.nodup_cons.1 n2
    have hk1 : k ∉ l1 := fun hm => n3 k hm k List.mem_cons_self rfl
    have b1 : ∀ x ∈ l1, 0 ≤ x ∧ x < k := fun x hx => by
      have := hl x (List.mem_append_left _ hx)
      have : x ≠ k := fun e => hk1 (e ▸ hx)
      omega
    have b2 : ∀ x ∈ l2, 0 ≤ x ∧ x < k := fun x hx => by
      have := hl x (List.mem_append_right _ (List.mem_cons_of_mem _ hx))
      have : x ≠ k := fun e => n4 (e ▸ hx)
      omega
    have f1 := h a k l1 n1 b1
    have f2 := h k b l2 n5 b2
    refine ⟨fun hw => ?_, fun hw => ?_⟩
    · obtain ⟨⟨a1, a2⟩, ⟨a3, a4⟩⟩ := hends hw
      obtain ⟨p1, p2⟩ := walkE_part hw
      refine (hd a b a1 a2 a3 a4).1 ?_
      unfold byT
      rw [f1.1 p1, f2.1 p2]
      simp
    · obtain ⟨⟨a1, a2⟩, ⟨a3, a4⟩⟩ := hends (walkM_E hM hw)
      refine (hd a b a1 a2 a3 a4).2 ?_
      unfold byU
      rcases walkM_part hw with ⟨p1, p2⟩ | ⟨p1, p2⟩
      · rw [f1.2 p1, f2.1 p2]; simp
      · rw [f1.1 p1, f2.2 p2]; simp
  · have b1 : ∀ x ∈ l, 0 ≤ x ∧ x < k := fun x hx => by
      have := hl x hx
      have : x ≠ k := fun e => hk (e ▸ hx)
      omega
    have f := h a b l hn b1
    exact ⟨fun hw => hT _ _ (f.1 hw), fun hw => hU _ _ (f.2 hw)⟩
/-- At the start the tables tell just the steps. -/
theorem upto_zero {T U : Tab} (hT : ∀ a b, E a b → T a b = true) (hU : ∀ a b, M a b → U a b = true) : UptoT E M 0 T U := fun a b l hn hl => by
  cases l with
  | nil => exact ⟨hT a b, hU a b⟩
  | cons x l => have := hl x List.mem_cons_self; omega
/-- In the end some place (k, k) is told just where a step that grows can be gone round. -/
theorem tab_round {T U : Tab} {n : Int} (hE : ∀ a b, E a b → (0 ≤ a ∧ a < n) ∧ (0 ≤ b ∧ b < n)) (hM : ∀ a b, M a b → E a b) (hs : SoundT E M T U) (hu : UptoT E M n T U) :
    (∃ k, (0 ≤ k ∧ k < n) ∧ U k k = true) ↔ ∃ a b, M a b ∧ (b = a ∨ ∃ l, walkE E b l a) := by
  constructor
  · rintro ⟨k, _, hk⟩
    obtain ⟨l, hl⟩ := hs.2 k k hk
    obtain ⟨c, d, hm, hc, hd⟩ := walkM_step hl
    refine ⟨c, d, hm, ?_⟩
    rcases hc with rfl | ⟨l1, h1⟩
    · exact hd
    · rcases hd with rfl | ⟨l2, h2⟩
      · exact .inr ⟨l1, h1⟩
      · exact .inr ⟨_, walkE_join h2 h1⟩
  · rintro ⟨a, b, hm, hr⟩
    have hw : ∃ l, walkM E M a l a := by
      rcases hr with rfl | ⟨l, hl⟩
      · exact ⟨[], hm⟩
      · exact ⟨b :: l, .inl ⟨hm, hl⟩⟩
    obtain ⟨l, hl⟩ := hw
    obtain ⟨l', k', hn, hk⟩ := round_simple l.length l a (Nat.le_refl _) hl
    have hin : ∀ {l : List Int} {a b : Int}, walkE E a l b → ((0 ≤ a ∧ a < n) ∧ (0 ≤ b ∧ b < n)) ∧ ∀ x ∈ l, 0 ≤ x ∧ x < n := by
      intro l
      induction l with
      | nil => intro a b h; exact ⟨hE _ _ h, fun x hx => by cases hx⟩
      | cons c l ih =>
        intro a b h
        have h1 := hE _ _ h.1
        have h2 := ih h.2
        refine ⟨⟨h1.1, h2.1.2⟩, fun x hx => ?_⟩
        rcases List.mem_cons.1 hx with rfl | hx
        · exact h1.2
        · exact h2.2 x hx
    have hb := hin (walkM_E hM hk)
    exact ⟨k', hb.1.1, (hu k' k' l' hn hb.2).2 hk⟩

end Go.Proofs.YtkghblgiojidgaaDoor
