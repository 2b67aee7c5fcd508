/- Sets of places as masks, and the program's table of them. -/
import Derived.Test.YtkghblgiojidgaaDoorDer
namespace Go.Proofs.YtkghblgiojidgaaDoor

/-- What a table of masks tells. -/
def DK (K : Nat → Nat → Nat) : Int → Nat → Nat → Prop := fun x i j => 0 ≤ x ∧ (K x.toNat i).testBit j = true
/-- A mask has just the places of P. -/
def Msk (m : Nat) (P : Nat → Prop) : Prop := m < 2048 ∧ ∀ j, m.testBit j = true ↔ P j
theorem Msk.lt {m : Nat} {P : Nat → Prop} (h : Msk m P) {j : Nat} (k : P j) : j < 11 := by
  have h1 := (h.2 j).2 k
  by_cases e : j < 11
  · exact e
  · have : m < 2 ^ j := Nat.lt_of_lt_of_le h.1 (show 2048 ≤ 2 ^ j from (Nat.pow_le_pow_right (by decide) (by omega) : 2 ^ 11 ≤ 2 ^ j))
    rw [Nat.testBit_lt_two_pow this] at h1
    cases h1
theorem Msk.congr {m : Nat} {P Q : Nat → Prop} (h : Msk m P) (e : ∀ j, P j ↔ Q j) : Msk m Q := ⟨h.1, fun j => (h.2 j).trans (e j)⟩
theorem msk_no : Msk 0 fun _ => False := ⟨by decide, fun j => by simp⟩
theorem msk_one {a : Nat} (h : a < 11) : Msk (2 ^ a) fun j => j = a := ⟨Nat.pow_lt_pow_right (by decide) h, fun j => by rw [Nat.testBit_two_pow]; simp [eq_comm]⟩
theorem or_lt {a b : Nat} (ha : a < 2048) (hb : b < 2048) : a ||| b < 2048 := Nat.or_lt_two_pow (n := 11) ha hb
theorem Msk.or {a b : Nat} {P Q : Nat → Prop} (h : Msk a P) (k : Msk b Q) : Msk (a ||| b) fun j => P j ∨ Q j := ⟨or_lt h.1 k.1, fun j => by rw [Nat.testBit_or, Bool.or_eq_true]; exact or_congr (h.2 j) (k.2 j)⟩
theorem bit_and {m a : Nat} : m &&& 2 ^ a = 0 ↔ m.testBit a = false := by
  constructor
  · intro h
    have h1 : (m &&& 2 ^ a).testBit a = false := by rw [h]; simp
    rw [Nat.testBit_and, Nat.testBit_two_pow] at h1
    simpa using h1
  · intro h
    apply Nat.eq_of_testBit_eq
    intro i
    rw [Nat.testBit_and, Nat.testBit_two_pow]
    by_cases e : a = i
    · subst e; simp [h]
    · simp [e]
theorem le_or {a b : Nat} : a ≤ a ||| b := Nat.left_le_or
theorem or_self_of {a b : Nat} (h : ∀ j, b.testBit j = true → a.testBit j = true) : a ||| b = a := by
  apply Nat.eq_of_testBit_eq
  intro i
  rw [Nat.testBit_or]
  cases e : b.testBit i
  · simp
  · rw [h i e]; rfl

/-- A table with one mask put in. -/
def setK (K : Nat → Nat → Nat) (a b v : Nat) : Nat → Nat → Nat := fun x i => if x = a ∧ i = b then v else K x i
theorem setK_at {K : Nat → Nat → Nat} {a b v : Nat} : setK K a b v a b = v := if_pos ⟨rfl, rfl⟩
theorem setK_far {K : Nat → Nat → Nat} {a b v x i : Nat} (h : ¬ (x = a ∧ i = b)) : setK K a b v x i = K x i := if_neg h
theorem setK_same {K : Nat → Nat → Nat} {a b v : Nat} (h : v = K a b) : setK K a b v = K := by
  funext x i
  unfold setK
  split
  · rename_i e; obtain ⟨rfl, rfl⟩ := e; exact h
  · rfl
/-- How much a table holds. -/
def sumTo (f : Nat → Nat) : Nat → Nat
  | 0 => 0
  | n + 1 => sumTo f n + f n
theorem sumTo_le {f g : Nat → Nat} {n : Nat} (h : ∀ i, i < n → f i ≤ g i) : sumTo f n ≤ sumTo g n := by
  induction n with
  | zero => exact Nat.le_refl _
  | succ n ih => have := ih fun i hi => h i (by omega); have := h n (by omega); unfold sumTo; omega
theorem sumTo_lt {f g : Nat → Nat} {n k : Nat} (h : ∀ i, i < n → f i ≤ g i) (hk : k < n) (hl : f k < g k) : sumTo f n < sumTo g n := by
  induction n with
  | zero => omega
  | succ n ih =>
    unfold sumTo
    have h1 := h n (by omega)
    by_cases e : k = n
    · subst e; have := sumTo_le (n := k) fun i hi => h i (by omega); omega
    · have := ih (fun i hi => h i (by omega)) (by omega); omega
def sumK (K : Nat → Nat → Nat) : Nat := sumTo (fun x => sumTo (K x) 11) 6
theorem sumK_le {K L : Nat → Nat → Nat} (h : ∀ x i, K x i ≤ L x i) : sumK K ≤ sumK L := sumTo_le fun x _ => sumTo_le fun i _ => h x i
theorem sumK_lt {K L : Nat → Nat → Nat} (h : ∀ x i, K x i ≤ L x i) {a b : Nat} (ha : a < 6) (hb : b < 11) (hl : K a b < L a b) : sumK K < sumK L := sumTo_lt (fun x _ => sumTo_le fun i _ => h x i) ha (sumTo_lt (fun i _ => h a i) hb hl)
theorem sumTo_const {f : Nat → Nat} {n c : Nat} (h : ∀ i, f i ≤ c) : sumTo f n ≤ n * c := by
  induction n with
  | zero => exact Nat.zero_le _
  | succ n ih => have := h n; unfold sumTo; rw [Nat.succ_mul]; omega
theorem sumK_most {K : Nat → Nat → Nat} (h : ∀ x i, K x i < 2048) : sumK K ≤ 135102 := by
  have h1 : ∀ x, sumTo (K x) 11 ≤ 11 * 2047 := fun x => sumTo_const fun i => by have := h x i; omega
  have h2 := sumTo_const (f := fun x => sumTo (K x) 11) (n := 6) (c := 11 * 2047) h1
  unfold sumK; omega

/-- The table is good so far: of derived parts alone, and small. -/
def OkK (rs : List (Int × List Int)) (ws : List Int) (K : Nat → Nat → Nat) : Prop := (∀ x i, K x i < 2048) ∧ ∀ x i j, DK K x i j → Der rs ws x i j
/-- While a pass grows it: what was known at the start is K0, the first j rules are done, and of the next one the first i places. -/
def Pass (rs : List (Int × List Int)) (ws : List Int) (j i : Nat) (K0 K : Nat → Nat → Nat) (grown : Bool) : Prop :=
  OkK rs ws K ∧ (∀ x i, K0 x i ≤ K x i) ∧ (grown = true → sumK K0 < sumK K) ∧
  (grown = false → K = K0 ∧ ∀ (l : Nat) (r : Int × List Int) (from_ to_ : Nat), rs[l]? = some r → from_ ≤ ws.length → (l < j ∨ (l = j ∧ from_ < i)) → SeqD (DK K) ws r.2 from_ to_ → DK K r.1 from_ to_)
theorem Pass.start {rs : List (Int × List Int)} {ws : List Int} {K : Nat → Nat → Nat} (h : OkK rs ws K) : Pass rs ws 0 0 K K false := ⟨h, fun _ _ => Nat.le_refl _, fun h => (by cases h), fun _ => ⟨rfl, fun l r f t _ _ h => absurd h (by omega)⟩⟩
theorem Pass.line {rs : List (Int × List Int)} {ws : List Int} {j : Nat} {K0 K : Nat → Nat → Nat} {b : Bool} (h : Pass rs ws j (ws.length + 1) K0 K b) : Pass rs ws (j + 1) 0 K0 K b :=
  ⟨h.1, h.2.1, h.2.2.1, fun e => ⟨(h.2.2.2 e).1, fun l r f t hl hf hx => (h.2.2.2 e).2 l r f t hl hf (by omega)⟩⟩
theorem Pass.step {rs : List (Int × List Int)} {ws : List Int} {j i : Nat} {K0 K : Nat → Nat → Nat} {b : Bool} (h : Pass rs ws j i K0 K b) {a : Nat} {right : List Int} (hj : rs[j]? = some ((a : Int), right)) (ha : a < 6) (hi : i ≤ ws.length) (hw : ws.length ≤ 10) {m : Nat} (hm : Msk m fun t => SeqD (DK K) ws right i t) :
    Pass rs ws j (i + 1) K0 (setK K a i (K a i ||| m)) (b || decide (K a i ||| m ≠ K a i)) := by
  obtain ⟨h1, h2, h3, h4⟩ := h
  have hle : ∀ x y, K x y ≤ setK K a i (K a i ||| m) x y := fun x y => by
    unfold setK
    split
    · rename_i e; obtain ⟨rfl, rfl⟩ := e; exact le_or
    · exact Nat.le_refl _
  have hmem : ((a : Int), right) ∈ rs := List.mem_of_getElem? hj
  refine ⟨⟨fun x y => ?_, fun x y t => ?_⟩, fun x y => Nat.le_trans (h2 x y) (hle x y), fun e => ?_, fun e => ?_⟩
  · unfold setK
    split
    · exact or_lt (h1.1 _ _) hm.1
    · exact h1.1 _ _
  · unfold DK setK
    split
    · rename_i e
      obtain ⟨e1, rfl⟩ := e
      rw [Nat.testBit_or, Bool.or_eq_true]
      rintro ⟨k0, k | k⟩
      · exact h1.2 x y t ⟨k0, by rw [e1]; exact k⟩
      · have k1 := der_step h1.2 hmem hi ((hm.2 t).1 k)
        have : x = (a : Int) := by omega
        rw [this]; exact k1
    · exact h1.2 x y t
  · have hs := sumK_le hle
    cases b
    · have hne : K a i ||| m ≠ K a i := of_decide_eq_true (by simpa using e)
      have h5 : K a i < setK K a i (K a i ||| m) a i := by rw [setK_at]; have : K a i ≤ K a i ||| m := le_or; omega
      have := sumK_le h2
      have := sumK_lt hle ha (by omega : i < 11) h5
      omega
    · have := h3 rfl; omega
  · have hb : b = false := by cases b; rfl; cases e
    subst hb
    have heq : K a i ||| m = K a i := Decidable.not_not.1 (of_decide_eq_false (by simpa using e))
    obtain ⟨h5, h6⟩ := h4 rfl
    rw [setK_same heq]
    refine ⟨h5, fun l r f t hl hf hx k => ?_⟩
    by_cases e2 : l = j ∧ f = i
    · obtain ⟨rfl, rfl⟩ := e2
      rw [hj] at hl
      have e3 := Option.some.inj hl
      subst e3
      refine ⟨Int.natCast_nonneg a, ?_⟩
      have k2 := (hm.2 t).2 k
      show (K a f).testBit t = true
      rw [← heq, Nat.testBit_or, k2, Bool.or_true]
    · exact h6 l r f t hl hf (by omega) k
/-- A pass in which nothing came. -/
theorem Pass.done {rs : List (Int × List Int)} {ws : List Int} {K0 K : Nat → Nat → Nat} (h : Pass rs ws rs.length 0 K0 K false) {x : Int} {i j : Nat} : DK K x i j ↔ Der rs ws x i j :=
  der_eq h.1.2 fun r hr f t hf k => by
    obtain ⟨l, hl⟩ := List.mem_iff_getElem?.1 hr
    exact (h.2.2.2 rfl).2 l r f t hl hf (.inl (List.getElem?_eq_some_iff.1 hl).1) k

/-- One symbol from all places of a mask ahead of k. -/
def FromD (K : Nat → Nat → Nat) (ws : List Int) (x : Int) (s k : Nat) (j : Nat) : Prop := ∃ m, m < k ∧ s.testBit m = true ∧ SymD (DK K) ws x m j
theorem fromD_zero {K : Nat → Nat → Nat} {ws : List Int} {x : Int} {s j : Nat} : FromD K ws x s 0 j ↔ False := ⟨fun ⟨m, h, _⟩ => absurd h (by omega), False.elim⟩
theorem fromD_skip {K : Nat → Nat → Nat} {ws : List Int} {x : Int} {s k j : Nat} (h : s.testBit k = false) : FromD K ws x s k j ↔ FromD K ws x s (k + 1) j := by
  constructor
  · rintro ⟨m, h1, h2⟩; exact ⟨m, by omega, h2⟩
  · rintro ⟨m, h1, h2, h3⟩
    by_cases e : m = k
    · subst e; rw [h] at h2; cases h2
    · exact ⟨m, by omega, h2, h3⟩
theorem fromD_take {K : Nat → Nat → Nat} {ws : List Int} {x : Int} {s k j : Nat} (h : s.testBit k = true) : (FromD K ws x s k j ∨ SymD (DK K) ws x k j) ↔ FromD K ws x s (k + 1) j := by
  constructor
  · rintro (⟨m, h1, h2⟩ | h3)
    · exact ⟨m, by omega, h2⟩
    · exact ⟨k, by omega, h, h3⟩
  · rintro ⟨m, h1, h2, h3⟩
    by_cases e : m = k
    · subst e; exact .inr h3
    · exact .inl ⟨m, by omega, h2, h3⟩
theorem fromD_all {K : Nat → Nat → Nat} {ws : List Int} {xs : List Int} {k f : Nat} (hk : k < xs.length) {s : Nat} (hs : Msk s fun j => SeqD (DK K) ws (xs.take k) f j) {j : Nat} : FromD K ws xs[k] s 11 j ↔ SeqD (DK K) ws (xs.take (k + 1)) f j := by
  rw [seqD_take hk]
  constructor
  · rintro ⟨m, _, h2, h3⟩; exact ⟨m, (hs.2 m).1 h2, h3⟩
  · rintro ⟨m, h2, h3⟩; exact ⟨m, hs.lt h2, (hs.2 m).2 h2, h3⟩

theorem Msk.unique {a b : Nat} {P : Nat → Prop} (h : Msk a P) (k : Msk b P) : a = b := Nat.eq_of_testBit_eq fun j => by
  have h1 := h.2 j
  have h2 := k.2 j
  cases e1 : a.testBit j <;> cases e2 : b.testBit j
  · rfl
  · exact absurd (h1.2 (h2.1 e2)) (by rw [e1]; decide)
  · exact absurd (h2.2 (h1.1 e1)) (by rw [e2]; decide)
  · rfl
theorem msk_some (P : Nat → Prop) (n : Nat) (hn : n ≤ 11) : ∃ m, Msk m fun j => P j ∧ j < n := by
  induction n with
  | zero => exact ⟨0, msk_no.congr fun j => ⟨False.elim, fun h => absurd h.2 (by omega)⟩⟩
  | succ n ih =>
    obtain ⟨m, hm⟩ := ih (by omega)
    by_cases h : P n
    · refine ⟨m ||| 2 ^ n, (hm.or (msk_one (by omega))).congr fun j => ⟨?_, ?_⟩⟩
      · rintro (⟨h1, h2⟩ | rfl)
        · exact ⟨h1, by omega⟩
        · exact ⟨h, by omega⟩
      · rintro ⟨h1, h2⟩
        by_cases e : j = n
        · exact .inr e
        · exact .inl ⟨h1, by omega⟩
    · refine ⟨m, hm.congr fun j => ⟨fun ⟨h1, h2⟩ => ⟨h1, by omega⟩, fun ⟨h1, h2⟩ => ⟨h1, ?_⟩⟩⟩
      by_cases e : j = n
      · subst e; exact absurd h1 h
      · omega
/-- The mask of a set of places. -/
noncomputable def mskOf (P : Nat → Prop) : Nat := (msk_some P 11 (Nat.le_refl _)).choose
theorem mskOf_is {P : Nat → Prop} (h : ∀ j, P j → j < 11) : Msk (mskOf P) P := (msk_some P 11 (Nat.le_refl _)).choose_spec.congr fun j => ⟨fun k => k.1, fun k => ⟨k, h j k⟩⟩
theorem mskOf_eq {P : Nat → Prop} {m : Nat} (h : Msk m P) : m = mskOf P := h.unique (mskOf_is fun _ k => h.lt k)
theorem seqD_lt {K : Nat → Nat → Nat} {ws : List Int} (hK : ∀ x i, K x i < 2048) (hw : ws.length ≤ 10) {xs : List Int} {i j : Nat} (hi : i < 11) (h : SeqD (DK K) ws xs i j) : j < 11 := by
  induction xs generalizing i with
  | nil => have e : i = j := h; omega
  | cons x xs ih =>
    obtain ⟨m, k1, k2⟩ := h
    refine ih ?_ k2
    rcases k1 with ⟨_, e, k⟩ | ⟨_, _, k⟩
    · have := (List.getElem?_eq_some_iff.1 k).1; omega
    · exact Msk.lt (m := K x.toNat i) (P := fun j => (K x.toNat i).testBit j = true) ⟨hK _ _, fun _ => Iff.rfl⟩ k

end Go.Proofs.YtkghblgiojidgaaDoor
