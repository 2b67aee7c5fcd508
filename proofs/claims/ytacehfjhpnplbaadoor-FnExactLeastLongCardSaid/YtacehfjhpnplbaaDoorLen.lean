/- Plain mathematics of chapter 3: how many tokens the shortest words have. -/
import Derived.Test.YtacehfjhpnplbaaDoorSetI
import Derived.Test.YtacehfjhpnplbaaDoorGoodM
namespace Go.Proofs.YtacehfjhpnplbaaDoor

/-- The symbols derive parts of m tokens in all, D saying of nonterminals how many they derive. -/
def sumsTo (D : Int → Nat → Prop) : List Int → Nat → Prop
  | [], m => m = 0
  | x :: xs, m => ∃ a b, m = a + b ∧ (if x < 0 then a = 1 else D x a) ∧ sumsTo D xs b
/-- x derives some word of m tokens. -/
def DerL (ss : List (Int × List Int)) (x : Int) (m : Nat) : Prop := ∀ D : Int → Nat → Prop, (∀ r ∈ ss, ∀ k, sumsTo D r.2 k → D r.1 k) → D x m
theorem sumsTo_mono {D E : Int → Nat → Prop} (h : ∀ x m, D x m → E x m) : ∀ {xs : List Int} {m : Nat}, sumsTo D xs m → sumsTo E xs m
  | [], _, hs => hs
  | x :: xs, m, hs => by
    obtain ⟨a, b, e, h1, h2⟩ := hs
    refine ⟨a, b, e, ?_, sumsTo_mono h h2⟩
    split at h1
    · rename_i hx; rw [if_pos hx]; exact h1
    · rename_i hx; rw [if_neg hx]; exact h _ _ h1
theorem DerL.step {ss : List (Int × List Int)} {r : Int × List Int} (hr : r ∈ ss) {k : Nat} (h : sumsTo (DerL ss) r.2 k) : DerL ss r.1 k := fun D hD =>
  hD r hr k (sumsTo_mono (fun _ _ hx => hx D hD) h)

/-- What is known: a length for some. -/
abbrev Known := Int → Option Nat
/-- The length of a right side by what is known. -/
def lenBy (L : Known) : List Int → Option Nat
  | [] => some 0
  | x :: xs => match (if x < 0 then some 1 else L x), lenBy L xs with
    | some a, some b => some (a + b)
    | _, _ => none
theorem lenBy_sums {L : Known} {D : Int → Nat → Prop} (h : ∀ x m, L x = some m → D x m) : ∀ {xs : List Int} {m : Nat}, lenBy L xs = some m → sumsTo D xs m
  | [], m, hm => (Option.some.inj hm).symm
  | x :: xs, m, hm => by
    unfold lenBy at hm
    cases ha : (if x < 0 then some 1 else L x) with
    | none => rw [ha] at hm; cases hm
    | some a =>
      cases hb : lenBy L xs with
      | none => rw [ha, hb] at hm; cases hm
      | some b =>
        rw [ha, hb] at hm
        refine ⟨a, b, (Option.some.inj hm).symm, ?_, lenBy_sums h hb⟩
        split at ha
        · rename_i hx; rw [if_pos hx]; exact (Option.some.inj ha).symm
        · rename_i hx; rw [if_neg hx]; exact h x a ha
theorem sums_lenBy {L : Known} : ∀ {xs : List Int} {m : Nat}, sumsTo (fun x m => ∃ k, L x = some k ∧ k ≤ m) xs m → ∃ k, lenBy L xs = some k ∧ k ≤ m
  | [], m, h => ⟨0, rfl, Nat.zero_le _⟩
  | x :: xs, m, h => by
    obtain ⟨a, b, e, h1, h2⟩ := h
    obtain ⟨k, hk, hkb⟩ := sums_lenBy h2
    unfold lenBy
    split at h1
    · rename_i hx
      rw [if_pos hx, hk]
      exact ⟨_, rfl, by omega⟩
    · rename_i hx
      obtain ⟨q, hq, hqa⟩ := h1
      rw [if_neg hx, hq, hk]
      exact ⟨_, rfl, by omega⟩

/-- L tells the shortest lengths. -/
def IsMin (ss : List (Int × List Int)) (L : Known) : Prop := (∀ x m, L x = some m → DerL ss x m) ∧ ∀ x m, DerL ss x m → ∃ k, L x = some k ∧ k ≤ m
theorem isMin_of {ss : List (Int × List Int)} {L : Known} (hs : ∀ x m, L x = some m → DerL ss x m) (hc : ∀ r ∈ ss, ∀ m, lenBy L r.2 = some m → ∃ k, L r.1 = some k ∧ k ≤ m) : IsMin ss L := by
  refine ⟨hs, fun x m hd => hd (fun x m => ∃ k, L x = some k ∧ k ≤ m) fun r hr k hk => ?_⟩
  obtain ⟨q, hq, hqk⟩ := sums_lenBy hk
  obtain ⟨p, hp, hpq⟩ := hc r hr q hq
  exact ⟨p, hp, by omega⟩
theorem IsMin.unique {ss : List (Int × List Int)} {L M : Known} (h : IsMin ss L) (k : IsMin ss M) : L = M := by
  funext x
  cases hl : L x with
  | none =>
    cases hm : M x with
    | none => rfl
    | some m =>
      obtain ⟨q, hq, _⟩ := h.2 x m (k.1 x m hm)
      rw [hl] at hq; cases hq
  | some a =>
    obtain ⟨b, hb, hba⟩ := k.2 x a (h.1 x a hl)
    obtain ⟨c, hc, hcb⟩ := h.2 x b (k.1 x b hb)
    rw [hl] at hc
    have e : a = c := Option.some.inj hc
    have : a = b := by omega
    rw [hb, this]

/-- One length is put in. -/
def putL (L : Known) (x : Int) (m : Nat) : Known := fun y => if y = x then some m else L y

/-- How much there is still to gain. -/
def gain (L : Known) : Nat := (L 0).getD 5000 + (L 1).getD 5000 + (L 2).getD 5000 + (L 3).getD 5000 + (L 4).getD 5000 + (L 5).getD 5000
theorem gain_put {L : Known} {x : Int} {m : Nat} (hx : 0 ≤ x ∧ x < 6) (hm : m < (L x).getD 5000) : gain (putL L x m) < gain L := by
  obtain rfl | rfl | rfl | rfl | rfl | rfl : x = 0 ∨ x = 1 ∨ x = 2 ∨ x = 3 ∨ x = 4 ∨ x = 5 := by omega
  all_goals
    simp [gain, putL]
    omega

/-- How many are known. -/
def cntL (L : Known) : Nat := (if (L 0).isSome then 1 else 0) + (if (L 1).isSome then 1 else 0) + (if (L 2).isSome then 1 else 0) + (if (L 3).isSome then 1 else 0) + (if (L 4).isSome then 1 else 0) + (if (L 5).isSome then 1 else 0)
theorem cntL_le (L : Known) : cntL L ≤ 6 := by
  unfold cntL
  repeat' split
  all_goals omega
theorem cntL_new {L : Known} {x : Int} {m : Nat} (hx : 0 ≤ x ∧ x < 6) (hl : L x = none) : cntL (putL L x m) = cntL L + 1 := by
  obtain rfl | rfl | rfl | rfl | rfl | rfl : x = 0 ∨ x = 1 ∨ x = 2 ∨ x = 3 ∨ x = 4 ∨ x = 5 := by omega
  all_goals
    simp [cntL, putL, hl]
    try omega
theorem cntL_old {L : Known} {x : Int} {m : Nat} {a : Nat} (hx : 0 ≤ x ∧ x < 6) (hl : L x = some a) : cntL (putL L x m) = cntL L := by
  obtain rfl | rfl | rfl | rfl | rfl | rfl : x = 0 ∨ x = 1 ∨ x = 2 ∨ x = 3 ∨ x = 4 ∨ x = 5 := by omega
  all_goals simp [cntL, putL, hl]

/-- What holds all the while. -/
structure Lens (ss : List (Int × List Int)) (L : Known) : Prop where
  fit : ∀ x, L x ≠ none → 0 ≤ x ∧ x < 6
  sound : ∀ x m, L x = some m → DerL ss x m
  small : ∀ x m, L x = some m → m ≤ 4 ^ cntL L
theorem lenBy_le {L : Known} {B : Nat} (hB : 1 ≤ B) (h : ∀ x m, L x = some m → m ≤ B) : ∀ {xs : List Int} {m : Nat}, lenBy L xs = some m → m ≤ xs.length * B
  | [], m, hm => by have := Option.some.inj hm; omega
  | x :: xs, m, hm => by
    unfold lenBy at hm
    cases ha : (if x < 0 then some 1 else L x) with
    | none => rw [ha] at hm; cases hm
    | some a =>
      cases hb : lenBy L xs with
      | none => rw [ha, hb] at hm; cases hm
      | some b =>
        rw [ha, hb] at hm
        have e := Option.some.inj hm
        have h1 := lenBy_le hB h hb
        have h2 : a ≤ B := by
          split at ha
          · have := Option.some.inj ha; omega
          · exact h x a ha
        simp only [List.length_cons, Nat.add_mul]
        omega
theorem pow_pos4 (k : Nat) : 1 ≤ 4 ^ k := by
  have h : 4 ^ 0 ≤ 4 ^ k := Nat.pow_le_pow_right (by decide) (Nat.zero_le k)
  exact h
theorem pow_6 {k : Nat} (h : k ≤ 6) : 4 ^ k ≤ 4096 := Nat.pow_le_pow_right (n := 4) (by decide) h
theorem Lens.len {ss : List (Int × List Int)} {L : Known} (h : Lens ss L) {xs : List Int} (hx : xs.length ≤ 4) {m : Nat} (hm : lenBy L xs = some m) : m ≤ 4 ^ (cntL L + 1) := by
  have h1 := lenBy_le (pow_pos4 _) h.small hm
  have h2 : xs.length * 4 ^ cntL L ≤ 4 * 4 ^ cntL L := Nat.mul_le_mul_right _ hx
  rw [Nat.pow_succ]
  omega
theorem Lens.top {ss : List (Int × List Int)} {L : Known} (h : Lens ss L) {x : Int} {m : Nat} (hm : L x = some m) : m ≤ 4096 := Nat.le_trans (h.small x m hm) (pow_6 (cntL_le L))
theorem Lens.len_top {ss : List (Int × List Int)} {L : Known} (h : Lens ss L) {xs : List Int} (hx : xs.length ≤ 4) {m : Nat} (hm : lenBy L xs = some m) : m ≤ 16384 := by
  have h1 := lenBy_le (B := 4096) (by omega) (fun x m e => h.top e) hm
  have h2 : xs.length * 4096 ≤ 4 * 4096 := Nat.mul_le_mul_right _ hx
  omega
theorem Lens.start (ss : List (Int × List Int)) : Lens ss fun _ => none := ⟨fun x h => absurd rfl h, fun x m h => (by cases h), fun x m h => (by cases h)⟩
theorem Lens.put {ss : List (Int × List Int)} {L : Known} (h : Lens ss L) {r : Int × List Int} (hr : r ∈ ss) (h6 : 0 ≤ r.1 ∧ r.1 < 6) (h4 : r.2.length ≤ 4) {m : Nat} (hm : lenBy L r.2 = some m) (hl : ∀ a, L r.1 = some a → m < a) : Lens ss (putL L r.1 m) ∧ gain (putL L r.1 m) < gain L := by
  have hsum : DerL ss r.1 m := DerL.step hr (lenBy_sums h.sound hm)
  have hcase : ∀ x k, putL L r.1 m x = some k → (x = r.1 ∧ k = m) ∨ L x = some k := fun x k hk => by
    unfold putL at hk
    split at hk
    · exact .inl ⟨by assumption, (Option.some.inj hk).symm⟩
    · exact .inr hk
  have hnew := h.len h4 hm
  have hcnt : 4 ^ cntL L ≤ 4 ^ cntL (putL L r.1 m) ∧ m ≤ 4 ^ cntL (putL L r.1 m) := by
    cases hx : L r.1 with
    | none =>
      rw [cntL_new h6 hx]
      exact ⟨Nat.pow_le_pow_right (by decide) (by omega), hnew⟩
    | some a =>
      rw [cntL_old h6 hx]
      have := hl a hx
      have := h.small r.1 a hx
      exact ⟨Nat.le_refl _, by omega⟩
  refine ⟨⟨fun x hx => ?_, fun x k hk => ?_, fun x k hk => ?_⟩, gain_put h6 ?_⟩
  · by_cases e : x = r.1
    · rw [e]; exact h6
    · refine h.fit x fun hn => hx ?_
      unfold putL
      rw [if_neg e]; exact hn
  · rcases hcase x k hk with ⟨rfl, rfl⟩ | hk
    · exact hsum
    · exact h.sound x k hk
  · rcases hcase x k hk with ⟨rfl, rfl⟩ | hk
    · exact hcnt.2
    · exact Nat.le_trans (h.small x k hk) hcnt.1
  · cases hx : L r.1 with
    | none =>
      have h7 : cntL L + 1 ≤ 6 := by rw [← cntL_new (m := m) h6 hx]; exact cntL_le _
      have := pow_6 h7
      show m < 5000
      omega
    | some a => exact hl a hx

end Go.Proofs.YtacehfjhpnplbaaDoor
