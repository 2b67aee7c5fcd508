/- Plain mathematics of chapter 8: cells in touch, races; and areInTouch, l8Touch. -/
import Derived.Test.YtfbpcdmpkbjifaaDoorWBRowIsWave05
import Derived.Test.YtfbpcdmpkbjifaaDoorWB01
import Derived.Laws.ShiftsVarLaws
import Derived.Deep.RegionHeld
import Derived.Test.YtfbpcdmpkbjifaaDoorWB04
import Derived.Test.YtfbpcdmpkbjifaaDoorWB02
import Derived.StillTailTactics

namespace Go.Proofs.YtfbpcdmpkbjifaaDoor
open Go.RowKit

/-- Both are cells, and begin or end together. -/
def touchB (a b : Dn) : Bool := (a.k == 1) && ((b.k == 1) && ((a.f == b.f) || (a.t == b.t)))
/-- The pairs of i and a later place, below j, that race. -/
noncomputable def racJ (ds : List Dn) (i : Nat) : Nat → List (List Int)
  | 0 => []
  | j + 1 => if (decide (i < j) && (touchB (ds.getD i default) (ds.getD j default) && !bP (Ahead ds i j))) = true then racJ ds i j ++ [[(i : Int), (j : Int)]] else racJ ds i j
noncomputable def racA (ds : List Dn) : Nat → List (List Int)
  | 0 => []
  | i + 1 => racA ds i ++ racJ ds i ds.length
theorem racJ_start (ds : List Dn) (i : Nat) : ∀ j, j ≤ i + 1 → racJ ds i j = []
  | 0, _ => rfl
  | j + 1, h => by rw [racJ, if_neg (by rw [decide_eq_false (by omega)]; simp)]; exact racJ_start ds i j (by omega)
theorem racJ_yes {ds : List Dn} {i j : Nat} (h : i < j) (ht : touchB (ds.getD i default) (ds.getD j default) = true) (ha : bP (Ahead ds i j) = false) : racJ ds i (j + 1) = racJ ds i j ++ [[(i : Int), (j : Int)]] := by
  rw [racJ, if_pos (by rw [decide_eq_true h, ht, ha]; rfl)]
theorem racJ_no {ds : List Dn} {i j : Nat} (h : touchB (ds.getD i default) (ds.getD j default) = false ∨ bP (Ahead ds i j) = true) : racJ ds i (j + 1) = racJ ds i j := by
  rw [racJ, if_neg]
  rcases h with h | h <;> (rw [h]; simp)
theorem racJ_len (ds : List Dn) (i : Nat) : ∀ j, (racJ ds i j).length ≤ j
  | 0 => Nat.le_refl _
  | j + 1 => by
    have := racJ_len ds i j
    rw [racJ]
    split
    · simp; omega
    · omega
theorem racJ_lens (ds : List Dn) (i : Nat) : ∀ j, ∀ z ∈ racJ ds i j, z.length = 2
  | 0, z, h => by simp [racJ] at h
  | j + 1, z, h => by
    rw [racJ] at h
    split at h
    · rcases List.mem_append.1 h with h | h
      · exact racJ_lens ds i j z h
      · rw [List.mem_singleton] at h; subst h; rfl
    · exact racJ_lens ds i j z h
theorem racA_len (ds : List Dn) : ∀ i, (racA ds i).length ≤ i * ds.length
  | 0 => by simp [racA]
  | i + 1 => by
    have h1 := racA_len ds i
    have h2 := racJ_len ds i ds.length
    rw [racA, List.length_append, Nat.succ_mul]
    omega
theorem racA_lens (ds : List Dn) : ∀ i, ∀ z ∈ racA ds i, z.length = 2
  | 0, z, h => by simp [racA] at h
  | i + 1, z, h => by
    rw [racA] at h
    rcases List.mem_append.1 h with h | h
    · exact racA_lens ds i z h
    · exact racJ_lens ds i _ z h

def RacOK (n hs : Int) (ds : List Dn) : Prop := (0 ≤ n ∧ n ≤ 10) ∧ GoodW hs ds
noncomputable def racO (n hs : Int) (ds : List Dn) : Bool := bP (RacOK n hs ds)
noncomputable def racV (n hs : Int) (ds : List Dn) : List (List Int) := if racO n hs ds then racA ds ds.length else []
theorem racV_len (n hs : Int) (ds : List Dn) : (racV n hs ds).length ≤ 40000 := by
  unfold racV
  split
  · rename_i h
    have h1 := (bP_is h).2.2.1
    have h2 := racA_len ds ds.length
    have h3 : ds.length * ds.length ≤ 200 * 200 := Nat.mul_le_mul h1 h1
    omega
  · simp
theorem racV_lens (n hs : Int) (ds : List Dn) : ∀ z ∈ racV n hs ds, z.length ≤ 1048576 := by
  intro z hz
  unfold racV at hz
  split at hz
  · rw [racA_lens ds _ z hz]; omega
  · simp at hz

set_option maxHeartbeats 1000000 in
theorem areInTouch_any (a b : Dn) (w : World) :
    Calls Tryd.prog 78 #[.agg #[.int .i64 a.h, .int .i64 a.k, .int .i64 a.f, .int .i64 a.t], .agg #[.int .i64 b.h, .int .i64 b.k, .int .i64 b.f, .int .i64 b.t]] w fun e w' => e = .returned (.bool (touchB a b)) ∧ Below w.heap.size w w' := by
  cases h1 : (a.k == 1)
  · have HE : Hid (touchB a b = false) := by show _ = _; unfold touchB; rw [h1]; rfl
    go_enter Tryd.func78, Tryd.ntmps78
    go_wp2
    go_ret
    exact ⟨ret_b HE.out.symm, by go_grown⟩
  cases h2 : (b.k == 1)
  · have HE : Hid (touchB a b = false) := by show _ = _; unfold touchB; rw [h1, h2]; rfl
    go_enter Tryd.func78, Tryd.ntmps78
    go_wp2
    go_ret
    exact ⟨ret_b HE.out.symm, by go_grown⟩
  cases h3 : (a.f == b.f)
  · have HE : Hid (touchB a b = (a.t == b.t)) := by show _ = _; unfold touchB; rw [h1, h2, h3]; rfl
    go_enter Tryd.func78, Tryd.ntmps78
    go_wp2
    go_ret
    exact ⟨ret_b HE.out.symm, by go_grown⟩
  · have HE : Hid (touchB a b = true) := by show _ = _; unfold touchB; rw [h1, h2, h3]; rfl
    go_enter Tryd.func78, Tryd.ntmps78
    go_wp2
    go_ret
    exact ⟨ret_b HE.out.symm, by go_grown⟩

set_option maxHeartbeats 2000000 in
theorem l8Touch_any (a b : Dn) (hs : Int) (w : World) (ha : OkD hs a) (hb : OkD hs b) :
    Calls Tryd.prog 77 #[.agg #[.int .i64 a.h, .int .i64 a.k, .int .i64 a.f, .int .i64 a.t], .agg #[.int .i64 b.h, .int .i64 b.k, .int .i64 b.f, .int .i64 b.t]] w fun e w' => e = .returned (.bool ((a.f == b.f) || (a.t == b.t))) ∧ Below w.heap.size w w' := by
  obtain ⟨_, _, ⟨a0, a1⟩, a2, a3⟩ := ha
  obtain ⟨_, _, ⟨b0, b1⟩, b2, b3⟩ := hb
  by_cases hsw : b.t - b.f < a.t - a.f
  · go_enter Tryd.func77, Tryd.ntmps77
    go_wp2
    all_goals
      go_ret
      refine ⟨ret_b ?_, by go_grown⟩
      first
        | (rw [Bool.eq_iff_iff]; simp; omega)
        | (rw [Bool.eq_iff_iff]; simp; done)
        | (rw [Bool.eq_iff_iff]; done)
        | rfl
  · go_enter Tryd.func77, Tryd.ntmps77
    go_wp2
    all_goals
      go_ret
      refine ⟨ret_b ?_, by go_grown⟩
      first
        | (rw [Bool.eq_iff_iff]; simp; omega)
        | (rw [Bool.eq_iff_iff]; simp; done)
        | (rw [Bool.eq_iff_iff]; done)
        | rfl

end Go.Proofs.YtfbpcdmpkbjifaaDoor

/- What derives what, plainly. -/

namespace Go.Proofs.YtfbpcdmpkbjifaaDoor

/-- One symbol derives the part from i on ahead of j, where D tells it of the nonterminals. -/
def SymD (D : Int → Nat → Nat → Prop) (ws : List Int) (x : Int) (i j : Nat) : Prop := (x < 0 ∧ j = i + 1 ∧ ws[i]? = some (-1 - x)) ∨ (0 ≤ x ∧ D x i j)
/-- .. and symbols, one behind the other. -/
def SeqD (D : Int → Nat → Nat → Prop) (ws : List Int) : List Int → Nat → Nat → Prop
  | [], i, j => i = j
  | x :: xs, i, j => ∃ m, SymD D ws x i m ∧ SeqD D ws xs m j
theorem SymD.mono {D E : Int → Nat → Nat → Prop} {ws : List Int} (h : ∀ x i j, D x i j → E x i j) {x : Int} {i j : Nat} (k : SymD D ws x i j) : SymD E ws x i j := k.imp id fun k => ⟨k.1, h _ _ _ k.2⟩
theorem SeqD.mono {D E : Int → Nat → Nat → Prop} {ws : List Int} (h : ∀ x i j, D x i j → E x i j) {xs : List Int} {i j : Nat} (k : SeqD D ws xs i j) : SeqD E ws xs i j := by
  induction xs generalizing i with
  | nil => exact k
  | cons x xs ih =>
    obtain ⟨m, k1, k2⟩ := k
    exact ⟨m, k1.mono h, ih k2⟩
theorem seqD_snoc {D : Int → Nat → Nat → Prop} {ws : List Int} {xs : List Int} {x : Int} {i j : Nat} : SeqD D ws (xs ++ [x]) i j ↔ ∃ m, SeqD D ws xs i m ∧ SymD D ws x m j := by
  induction xs generalizing i with
  | nil =>
    constructor
    · rintro ⟨m, k1, k2⟩
      have k3 : m = j := k2
      subst k3
      exact ⟨i, rfl, k1⟩
    · rintro ⟨m, k1, k2⟩
      have k3 : i = m := k1
      subst k3
      exact ⟨j, k2, rfl⟩
  | cons y ys ih =>
    constructor
    · rintro ⟨m, k1, k2⟩
      obtain ⟨m', k3, k4⟩ := ih.1 k2
      exact ⟨m', ⟨m, k1, k3⟩, k4⟩
    · rintro ⟨m', ⟨m, k1, k3⟩, k4⟩
      exact ⟨m, k1, ih.2 ⟨m', k3, k4⟩⟩
theorem take_snoc {xs : List Int} {k : Nat} (h : k < xs.length) : xs.take (k + 1) = xs.take k ++ [xs[k]] := by
  rw [List.take_add_one, List.getElem?_eq_getElem h]; rfl
theorem seqD_take {D : Int → Nat → Nat → Prop} {ws : List Int} {xs : List Int} {k : Nat} (h : k < xs.length) {i j : Nat} : SeqD D ws (xs.take (k + 1)) i j ↔ ∃ m, SeqD D ws (xs.take k) i m ∧ SymD D ws xs[k] m j := by
  rw [take_snoc h]; exact seqD_snoc

/-- What D tells is closed under the rules. -/
def ClosedD (rs : List (Int × List Int)) (ws : List Int) (D : Int → Nat → Nat → Prop) : Prop := ∀ r ∈ rs, ∀ i j, i ≤ ws.length → SeqD D ws r.2 i j → D r.1 i j
/-- What is derived. -/
def Der (rs : List (Int × List Int)) (ws : List Int) (x : Int) (i j : Nat) : Prop := ∀ D, ClosedD rs ws D → D x i j
theorem der_closed (rs : List (Int × List Int)) (ws : List Int) : ClosedD rs ws (Der rs ws) := fun r hr i j hi k D hD => hD r hr i j hi (k.mono fun _ _ _ h => h D hD)
/-- What D tells lies in the word. -/
def InD (n : Nat) (D : Int → Nat → Nat → Prop) : Prop := ∀ x i j, D x i j → i ≤ j ∧ j ≤ n
theorem InD.sym {ws : List Int} {D : Int → Nat → Nat → Prop} (h : InD ws.length D) {x : Int} {i j : Nat} (k : SymD D ws x i j) : i ≤ j ∧ j ≤ ws.length := by
  rcases k with ⟨_, k2, k3⟩ | ⟨_, k⟩
  · have := (List.getElem?_eq_some_iff.1 k3).1; omega
  · exact h _ _ _ k
theorem InD.seq {ws : List Int} {D : Int → Nat → Nat → Prop} (h : InD ws.length D) {xs : List Int} {i j : Nat} (hi : i ≤ ws.length) (k : SeqD D ws xs i j) : i ≤ j ∧ j ≤ ws.length := by
  induction xs generalizing i with
  | nil => have k1 : i = j := k; omega
  | cons x xs ih =>
    obtain ⟨m, k1, k2⟩ := k
    have := h.sym k1
    have := ih this.2 k2
    omega
theorem der_in (rs : List (Int × List Int)) (ws : List Int) : InD ws.length (Der rs ws) := fun _ _ _ h => h (fun _ i j => i ≤ j ∧ j ≤ ws.length) fun _ _ _ _ hi k => InD.seq (D := fun _ i j => i ≤ j ∧ j ≤ ws.length) (fun _ _ _ h => h) hi k
/-- What is derived is derived by a rule. -/
theorem der_rule {rs : List (Int × List Int)} {ws : List Int} {x : Int} {i j : Nat} : Der rs ws x i j ↔ ∃ r ∈ rs, r.1 = x ∧ i ≤ ws.length ∧ SeqD (Der rs ws) ws r.2 i j := by
  constructor
  · intro h
    refine h (fun x i j => ∃ r ∈ rs, r.1 = x ∧ i ≤ ws.length ∧ SeqD (Der rs ws) ws r.2 i j) fun r hr i j hi k => ⟨r, hr, rfl, hi, k.mono ?_⟩
    rintro x i j ⟨r, hr, rfl, hi, k⟩
    exact der_closed rs ws r hr i j hi k
  · rintro ⟨r, hr, rfl, hi, k⟩
    exact der_closed rs ws r hr i j hi k
/-- A table that tells derived parts alone, and is closed. -/
theorem der_eq {rs : List (Int × List Int)} {ws : List Int} {D : Int → Nat → Nat → Prop} (hs : ∀ x i j, D x i j → Der rs ws x i j) (hc : ClosedD rs ws D) {x : Int} {i j : Nat} : D x i j ↔ Der rs ws x i j := ⟨hs x i j, fun h => h D hc⟩
/-- One step keeps a table sound. -/
theorem der_step {rs : List (Int × List Int)} {ws : List Int} {D : Int → Nat → Nat → Prop} (hs : ∀ x i j, D x i j → Der rs ws x i j) {r : Int × List Int} (hr : r ∈ rs) {i j : Nat} (hi : i ≤ ws.length) (k : SeqD D ws r.2 i j) : Der rs ws r.1 i j := der_closed rs ws r hr i j hi (k.mono hs)

end Go.Proofs.YtfbpcdmpkbjifaaDoor

/- Sets of places as masks, and the program's table of them. -/

namespace Go.Proofs.YtfbpcdmpkbjifaaDoor

/-- What a table of masks tells. -/
def DK (K : Nat → Nat → Nat) : Int → Nat → Nat → Prop := fun x i j => 0 ≤ x ∧ (K x.toNat i).testBit j = true
/-- A mask has just the places of P. -/
def Msk (m : Nat) (P : Nat → Prop) : Prop := m < 2048 ∧ ∀ j, m.testBit j = true ↔ P j
theorem Msk.lt {m : Nat} {P : Nat → Prop} (h : Msk m P) {j : Nat} (k : P j) : j < 11 := by
  have h1 := (h.2 j).2 k
  by_cases e : j < 11
  · exact e
  · have : m < 2 ^ j := Nat.lt_of_lt_of_le h.1 (show 2048 ≤ 2 ^ j from (Nat.pow_le_pow_right (by decide) (by omega) : 2 ^ 11 ≤ 2 ^ j))
    rw [Nat.testBit_lt_two_pow this] at h1
    cases h1
theorem Msk.congr {m : Nat} {P Q : Nat → Prop} (h : Msk m P) (e : ∀ j, P j ↔ Q j) : Msk m Q := ⟨h.1, fun j => (h.2 j).trans (e j)⟩
theorem msk_no : Msk 0 fun _ => False := ⟨by decide, fun j => by simp⟩
theorem msk_one {a : Nat} (h : a < 11) : Msk (2 ^ a) fun j => j = a := ⟨Nat.pow_lt_pow_right (by decide) h, fun j => by rw [Nat.testBit_two_pow]; simp [eq_comm]⟩
theorem or_lt {a b : Nat} (ha : a < 2048) (hb : b < 2048) : a ||| b < 2048 := Nat.or_lt_two_pow (n := 11) ha hb
theorem Msk.or {a b : Nat} {P Q : Nat → Prop} (h : Msk a P) (k : Msk b Q) : Msk (a ||| b) fun j => P j ∨ Q j := ⟨or_lt h.1 k.1, fun j => by rw [Nat.testBit_or, Bool.or_eq_true]; exact or_congr (h.2 j) (k.2 j)⟩
theorem bit_and {m a : Nat} : m &&& 2 ^ a = 0 ↔ m.testBit a = false := by
  constructor
  · intro h
    have h1 : (m &&& 2 ^ a).testBit a = false := by rw [h]; simp
    rw [Nat.testBit_and, Nat.testBit_two_pow] at h1
    simpa using h1
  · intro h
    apply Nat.eq_of_testBit_eq
    intro i
    rw [Nat.testBit_and, Nat.testBit_two_pow]
    by_cases e : a = i
    · subst e; simp [h]
    · simp [e]
theorem le_or {a b : Nat} : a ≤ a ||| b := Nat.left_le_or
theorem or_self_of {a b : Nat} (h : ∀ j, b.testBit j = true → a.testBit j = true) : a ||| b = a := by
  apply Nat.eq_of_testBit_eq
  intro i
  rw [Nat.testBit_or]
  cases e : b.testBit i
  · simp
  · rw [h i e]; rfl

/-- A table with one mask put in. -/
def setK (K : Nat → Nat → Nat) (a b v : Nat) : Nat → Nat → Nat := fun x i => if x = a ∧ i = b then v else K x i
theorem setK_at {K : Nat → Nat → Nat} {a b v : Nat} : setK K a b v a b = v := if_pos ⟨rfl, rfl⟩
theorem setK_far {K : Nat → Nat → Nat} {a b v x i : Nat} (h : ¬ (x = a ∧ i = b)) : setK K a b v x i = K x i := if_neg h
theorem setK_same {K : Nat → Nat → Nat} {a b v : Nat} (h : v = K a b) : setK K a b v = K := by
  funext x i
  unfold setK
  split
  · rename_i e; obtain ⟨rfl, rfl⟩ := e; exact h
  · rfl
/-- How much a table holds. -/
def sumTo (f : Nat → Nat) : Nat → Nat
  | 0 => 0
  | n + 1 => sumTo f n + f n
theorem sumTo_le {f g : Nat → Nat} {n : Nat} (h : ∀ i, i < n → f i ≤ g i) : sumTo f n ≤ sumTo g n := by
  induction n with
  | zero => exact Nat.le_refl _
  | succ n ih => have := ih fun i hi => h i (by omega); have := h n (by omega); unfold sumTo; omega
theorem sumTo_lt {f g : Nat → Nat} {n k : Nat} (h : ∀ i, i < n → f i ≤ g i) (hk : k < n) (hl : f k < g k) : sumTo f n < sumTo g n := by
  induction n with
  | zero => omega
  | succ n ih =>
    unfold sumTo
    have h1 := h n (by omega)
    by_cases e : k = n
    · subst e; have := sumTo_le (n := k) fun i hi => h i (by omega); omega
    · have := ih (fun i hi => h i (by omega)) (by omega); omega
def sumK (K : Nat → Nat → Nat) : Nat := sumTo (fun x => sumTo (K x) 11) 6
theorem sumK_le {K L : Nat → Nat → Nat} (h : ∀ x i, K x i ≤ L x i) : sumK K ≤ sumK L := sumTo_le fun x _ => sumTo_le fun i _ => h x i
theorem sumK_lt {K L : Nat → Nat → Nat} (h : ∀ x i, K x i ≤ L x i) {a b : Nat} (ha : a < 6) (hb : b < 11) (hl : K a b < L a b) : sumK K < sumK L := sumTo_lt (fun x _ => sumTo_le fun i _ => h x i) ha (sumTo_lt (fun i _ => h a i) hb hl)
theorem sumTo_const {f : Nat → Nat} {n c : Nat} (h : ∀ i, f i ≤ c) : sumTo f n ≤ n * c := by
  induction n with
  | zero => exact Nat.zero_le _
  | succ n ih => have := h n; unfold sumTo; rw [Nat.succ_mul]; omega
theorem sumK_most {K : Nat → Nat → Nat} (h : ∀ x i, K x i < 2048) : sumK K ≤ 135102 := by
  have h1 : ∀ x, sumTo (K x) 11 ≤ 11 * 2047 := fun x => sumTo_const fun i => by have := h x i; omega
  have h2 := sumTo_const (f := fun x => sumTo (K x) 11) (n := 6) (c := 11 * 2047) h1
  unfold sumK; omega

/-- The table is good so far: of derived parts alone, and small. -/
def OkK (rs : List (Int × List Int)) (ws : List Int) (K : Nat → Nat → Nat) : Prop := (∀ x i, K x i < 2048) ∧ ∀ x i j, DK K x i j → Der rs ws x i j
/-- While a pass grows it: what was known at the start is K0, the first j rules are done, and of the next one the first i places. -/
def Pass (rs : List (Int × List Int)) (ws : List Int) (j i : Nat) (K0 K : Nat → Nat → Nat) (grown : Bool) : Prop :=
  OkK rs ws K ∧ (∀ x i, K0 x i ≤ K x i) ∧ (grown = true → sumK K0 < sumK K) ∧
  (grown = false → K = K0 ∧ ∀ (l : Nat) (r : Int × List Int) (from_ to_ : Nat), rs[l]? = some r → from_ ≤ ws.length → (l < j ∨ (l = j ∧ from_ < i)) → SeqD (DK K) ws r.2 from_ to_ → DK K r.1 from_ to_)
theorem Pass.start {rs : List (Int × List Int)} {ws : List Int} {K : Nat → Nat → Nat} (h : OkK rs ws K) : Pass rs ws 0 0 K K false := ⟨h, fun _ _ => Nat.le_refl _, fun h => (by cases h), fun _ => ⟨rfl, fun l r f t _ _ h => absurd h (by omega)⟩⟩
theorem Pass.line {rs : List (Int × List Int)} {ws : List Int} {j : Nat} {K0 K : Nat → Nat → Nat} {b : Bool} (h : Pass rs ws j (ws.length + 1) K0 K b) : Pass rs ws (j + 1) 0 K0 K b :=
  ⟨h.1, h.2.1, h.2.2.1, fun e => ⟨(h.2.2.2 e).1, fun l r f t hl hf hx => (h.2.2.2 e).2 l r f t hl hf (by omega)⟩⟩
theorem Pass.step {rs : List (Int × List Int)} {ws : List Int} {j i : Nat} {K0 K : Nat → Nat → Nat} {b : Bool} (h : Pass rs ws j i K0 K b) {a : Nat} {right : List Int} (hj : rs[j]? = some ((a : Int), right)) (ha : a < 6) (hi : i ≤ ws.length) (hw : ws.length ≤ 10) {m : Nat} (hm : Msk m fun t => SeqD (DK K) ws right i t) :
    Pass rs ws j (i + 1) K0 (setK K a i (K a i ||| m)) (b || decide (K a i ||| m ≠ K a i)) := by
  obtain ⟨h1, h2, h3, h4⟩ := h
  have hle : ∀ x y, K x y ≤ setK K a i (K a i ||| m) x y := fun x y => by
    unfold setK
    split
    · rename_i e; obtain ⟨rfl, rfl⟩ := e; exact le_or
    · exact Nat.le_refl _
  have hmem : ((a : Int), right) ∈ rs := List.mem_of_getElem? hj
  refine ⟨⟨fun x y => ?_, fun x y t => ?_⟩, fun x y => Nat.le_trans (h2 x y) (hle x y), fun e => ?_, fun e => ?_⟩
  · unfold setK
    split
    · exact or_lt (h1.1 _ _) hm.1
    · exact h1.1 _ _
  · unfold DK setK
    split
    · rename_i e
      obtain ⟨e1, rfl⟩ := e
      rw [Nat.testBit_or, Bool.or_eq_true]
      rintro ⟨k0, k | k⟩
      · exact h1.2 x y t ⟨k0, by rw [e1]; exact k⟩
      · have k1 := der_step h1.2 hmem hi ((hm.2 t).1 k)
        have : x = (a : Int) := by omega
        rw [this]; exact k1
    · exact h1.2 x y t
  · have hs := sumK_le hle
    cases b
    · have hne : K a i ||| m ≠ K a i := of_decide_eq_true (by simpa using e)
      have h5 : K a i < setK K a i (K a i ||| m) a i := by rw [setK_at]; have : K a i ≤ K a i ||| m := le_or; omega
      have := sumK_le h2
      have := sumK_lt hle ha (by omega : i < 11) h5
      omega
    · have := h3 rfl; omega
  · have hb : b = false := by cases b; rfl; cases e
    subst hb
    have heq : K a i ||| m = K a i := Decidable.not_not.1 (of_decide_eq_false (by simpa using e))
    obtain ⟨h5, h6⟩ := h4 rfl
    rw [setK_same heq]
    refine ⟨h5, fun l r f t hl hf hx k => ?_⟩
    by_cases e2 : l = j ∧ f = i
    · obtain ⟨rfl, rfl⟩ := e2
      rw [hj] at hl
      have e3 := Option.some.inj hl
      subst e3
      refine ⟨Int.natCast_nonneg a, ?_⟩
      have k2 := (hm.2 t).2 k
      show (K a f).testBit t = true
      rw [← heq, Nat.testBit_or, k2, Bool.or_true]
    · exact h6 l r f t hl hf (by omega) k
/-- A pass in which nothing came. -/
theorem Pass.done {rs : List (Int × List Int)} {ws : List Int} {K0 K : Nat → Nat → Nat} (h : Pass rs ws rs.length 0 K0 K false) {x : Int} {i j : Nat} : DK K x i j ↔ Der rs ws x i j :=
  der_eq h.1.2 fun r hr f t hf k => by
    obtain ⟨l, hl⟩ := List.mem_iff_getElem?.1 hr
    exact (h.2.2.2 rfl).2 l r f t hl hf (.inl (List.getElem?_eq_some_iff.1 hl).1) k

/-- One symbol from all places of a mask ahead of k. -/
def FromD (K : Nat → Nat → Nat) (ws : List Int) (x : Int) (s k : Nat) (j : Nat) : Prop := ∃ m, m < k ∧ s.testBit m = true ∧ SymD (DK K) ws x m j
theorem fromD_zero {K : Nat → Nat → Nat} {ws : List Int} {x : Int} {s j : Nat} : FromD K ws x s 0 j ↔ False := ⟨fun ⟨m, h, _⟩ => absurd h (by omega), False.elim⟩
theorem fromD_skip {K : Nat → Nat → Nat} {ws : List Int} {x : Int} {s k j : Nat} (h : s.testBit k = false) : FromD K ws x s k j ↔ FromD K ws x s (k + 1) j := by
  constructor
  · rintro ⟨m, h1, h2⟩; exact ⟨m, by omega, h2⟩
  · rintro ⟨m, h1, h2, h3⟩
    by_cases e : m = k
    · subst e; rw [h] at h2; cases h2
    · exact ⟨m, by omega, h2, h3⟩
theorem fromD_take {K : Nat → Nat → Nat} {ws : List Int} {x : Int} {s k j : Nat} (h : s.testBit k = true) : (FromD K ws x s k j ∨ SymD (DK K) ws x k j) ↔ FromD K ws x s (k + 1) j := by
  constructor
  · rintro (⟨m, h1, h2⟩ | h3)
    · exact ⟨m, by omega, h2⟩
    · exact ⟨k, by omega, h, h3⟩
  · rintro ⟨m, h1, h2, h3⟩
    by_cases e : m = k
    · subst e; exact .inr h3
    · exact .inl ⟨m, by omega, h2, h3⟩
theorem fromD_all {K : Nat → Nat → Nat} {ws : List Int} {xs : List Int} {k f : Nat} (hk : k < xs.length) {s : Nat} (hs : Msk s fun j => SeqD (DK K) ws (xs.take k) f j) {j : Nat} : FromD K ws xs[k] s 11 j ↔ SeqD (DK K) ws (xs.take (k + 1)) f j := by
  rw [seqD_take hk]
  constructor
  · rintro ⟨m, _, h2, h3⟩; exact ⟨m, (hs.2 m).1 h2, h3⟩
  · rintro ⟨m, h2, h3⟩; exact ⟨m, hs.lt h2, (hs.2 m).2 h2, h3⟩

theorem Msk.unique {a b : Nat} {P : Nat → Prop} (h : Msk a P) (k : Msk b P) : a = b := Nat.eq_of_testBit_eq fun j => by
  have h1 := h.2 j
  have h2 := k.2 j
  cases e1 : a.testBit j <;> cases e2 : b.testBit j
  · rfl
  · exact absurd (h1.2 (h2.1 e2)) (by rw [e1]; decide)
  · exact absurd (h2.2 (h1.1 e1)) (by rw [e2]; decide)
  · rfl
theorem msk_some (P : Nat → Prop) (n : Nat) (hn : n ≤ 11) : ∃ m, Msk m fun j => P j ∧ j < n := by
  induction n with
  | zero => exact ⟨0, msk_no.congr fun j => ⟨False.elim, fun h => absurd h.2 (by omega)⟩⟩
  | succ n ih =>
    obtain ⟨m, hm⟩ := ih (by omega)
    by_cases h : P n
    · refine ⟨m ||| 2 ^ n, (hm.or (msk_one (by omega))).congr fun j => ⟨?_, ?_⟩⟩
      · rintro (⟨h1, h2⟩ | rfl)
        · exact ⟨h1, by omega⟩
        · exact ⟨h, by omega⟩
      · rintro ⟨h1, h2⟩
        by_cases e : j = n
        · exact .inr e
        · exact .inl ⟨h1, by omega⟩
    · refine ⟨m, hm.congr fun j => ⟨fun ⟨h1, h2⟩ => ⟨h1, by omega⟩, fun ⟨h1, h2⟩ => ⟨h1, ?_⟩⟩⟩
      by_cases e : j = n
      · subst e; exact absurd h1 h
      · omega
/-- The mask of a set of places. -/
noncomputable def mskOf (P : Nat → Prop) : Nat := (msk_some P 11 (Nat.le_refl _)).choose
theorem mskOf_is {P : Nat → Prop} (h : ∀ j, P j → j < 11) : Msk (mskOf P) P := (msk_some P 11 (Nat.le_refl _)).choose_spec.congr fun j => ⟨fun k => k.1, fun k => ⟨k, h j k⟩⟩
theorem mskOf_eq {P : Nat → Prop} {m : Nat} (h : Msk m P) : m = mskOf P := h.unique (mskOf_is fun _ k => h.lt k)
theorem seqD_lt {K : Nat → Nat → Nat} {ws : List Int} (hK : ∀ x i, K x i < 2048) (hw : ws.length ≤ 10) {xs : List Int} {i j : Nat} (hi : i < 11) (h : SeqD (DK K) ws xs i j) : j < 11 := by
  induction xs generalizing i with
  | nil => have e : i = j := h; omega
  | cons x xs ih =>
    obtain ⟨m, k1, k2⟩ := h
    refine ih ?_ k2
    rcases k1 with ⟨_, e, k⟩ | ⟨_, _, k⟩
    · have := (List.getElem?_eq_some_iff.1 k).1; omega
    · exact Msk.lt (m := K x.toNat i) (P := fun j => (K x.toNat i).testBit j = true) ⟨hK _ _, fun _ => Iff.rfl⟩ k

end Go.Proofs.YtfbpcdmpkbjifaaDoor

/- The program's places: masks. -/

namespace Go.Proofs.YtfbpcdmpkbjifaaDoor
open Go.RowKit

def pw (a : Nat) : Nat := 2 ^ a
theorem pw_lt {a : Nat} (h : a < 11) : pw a < 2048 := Nat.pow_lt_pow_right (by decide) h
theorem u16_shl {a : Nat} (h : a < 11) : IntKind.u16.wrap ((2 : Int) ^ a) = (pw a : Int) := by
  rw [IntKind.wrap_u16]
  have h1 := pw_lt h
  have h2 : ((2 : Int) ^ a) = (pw a : Int) := by unfold pw; simp
  rw [h2]
  omega
theorem ret_u16 {a b : Int} (h : a = b) : Ending.returned (.int .u16 a) = .returned (.int .u16 b) := by rw [h]
theorem has_bit {m a : Nat} (hm : m < 2048) (h : a < 11) : (bits .and .u16 (m : Int) (pw a : Int) != 0) = m.testBit a := by
  have h1 := pw_lt h
  rw [u16_and _ _ (by omega) (by omega) (by omega) (by omega)]
  cases e : m.testBit a
  · have h2 := bit_and.2 e
    rw [Int.toNat_natCast, Int.toNat_natCast, show m &&& pw a = 0 from h2]; rfl
  · have h2 : ¬ m &&& pw a = 0 := fun h => by have := bit_and.1 h; rw [e] at this; cases this
    rw [Int.toNat_natCast, Int.toNat_natCast]
    exact bne_t (by omega)

theorem cell_in {w : World} {B : Nat} {v : Value} (h : w.cell? ⟨B, 0, none⟩ = some v) : B < w.heap.size := by
  by_cases e : B < w.heap.size
  · exact e
  · simp only [World.cell?] at h
    rw [Array.getElem?_eq_none (by omega)] at h
    cases h
/-- One mask of a symbol. -/
theorem symD_tok {K : Nat → Nat → Nat} {ws : List Int} {x : Int} {i : Nat} (hx : x < 0) (hi : i < ws.length) (hw : ws.length ≤ 10) (h : ws[i] = -1 - x) : Msk (pw (i + 1)) fun j => SymD (DK K) ws x i j :=
  (msk_one (a := i + 1) (by omega)).congr fun j => ⟨fun e => .inl ⟨hx, e, by rw [List.getElem?_eq_getElem hi, h]⟩, fun e => by rcases e with e | e; exact e.2.1; omega⟩
theorem symD_none {K : Nat → Nat → Nat} {ws : List Int} {x : Int} {i : Nat} (hx : x < 0) (h : ∀ hi : i < ws.length, ws[i] ≠ -1 - x) : Msk 0 fun j => SymD (DK K) ws x i j :=
  msk_no.congr fun j => ⟨False.elim, fun e => by
    rcases e with e | e
    · obtain ⟨hi, e2⟩ := List.getElem?_eq_some_iff.1 e.2.2
      exact h hi e2
    · omega⟩
theorem symD_non {K : Nat → Nat → Nat} {ws : List Int} {x i : Nat} (hK : ∀ x i, K x i < 2048) : Msk (K x i) fun j => SymD (DK K) ws (x : Int) i j :=
  ⟨hK x i, fun j => ⟨fun e => .inr ⟨Int.natCast_nonneg x, Int.natCast_nonneg x, e⟩, fun e => by
    rcases e with e | e
    · omega
    · exact e.2.2⟩⟩

end Go.Proofs.YtfbpcdmpkbjifaaDoor

/- The program's function that tells the places behind what symbols derive. -/

namespace Go.Proofs.YtfbpcdmpkbjifaaDoor
open Go.RowKit

theorem seqD_start {D : Int → Nat → Nat → Prop} {ws xs : List Int} {i : Nat} (hi : i < 11) : Msk (pw i) fun j => SeqD D ws (xs.take 0) i j := (msk_one hi).congr fun _ => ⟨fun e => e.symm, fun e => e.symm⟩
theorem u16_orK {a b : Nat} (ha : a < 2048) (hb : b < 2048) : bits .or .u16 (a : Int) (b : Int) = ((a ||| b : Nat) : Int) := by
  rw [u16_or _ _ (by omega) (by omega) (by omega) (by omega), Int.toNat_natCast, Int.toNat_natCast]
def orK (a b : Nat) : Nat := a ||| b
theorem u16_or' {a b : Nat} (ha : a < 2048) (hb : b < 2048) : bits .or .u16 (a : Int) (b : Int) = (orK a b : Int) := u16_orK ha hb

/-- .. with its value named. -/
noncomputable def endsM (K : Nat → Nat → Nat) (ws xs : List Int) (i : Nat) : Nat := mskOf fun j => SeqD (DK K) ws xs i j
theorem endsM_is {K : Nat → Nat → Nat} {ws xs : List Int} {i : Nat} (hK : ∀ x i, K x i < 2048) (hw : ws.length ≤ 10) (hi : i < 11) : Msk (endsM K ws xs i) fun j => SeqD (DK K) ws xs i j := mskOf_is fun _ h => seqD_lt hK hw hi h
end Go.Proofs.YtfbpcdmpkbjifaaDoor

/- The program's growTable and endsIn. -/

namespace Go.Proofs.YtfbpcdmpkbjifaaDoor
open Go.RowKit

theorem Save.alloc {S : Nat → Prop} {a w : World} (h : Save S a w) (o : Obj) : Save S a (w.alloc o) := h.trans (Save.of_below ((Below.refl _ _).alloc (Nat.le_refl _) _))
theorem Box3.save {S : Nat → Prop} {w w' : World} {g : Nat} {a b c : Value} (h : Box3 w g a b c) (hs : Save S w w') (hg : ¬ S g) : Box3 w' g a b c := by
  have e := hs.block g h.1 hg
  have k : ∀ i, w'.cell? ⟨g, i, none⟩ = w.cell? ⟨g, i, none⟩ := fun i => by simp only [World.cell?, e]
  exact ⟨Nat.lt_of_lt_of_le h.1 hs.size, (k 0).trans h.2.1, (k 1).trans h.2.2.1, (k 2).trans h.2.2.2⟩
theorem Box2.save {S : Nat → Prop} {w w' : World} {g : Nat} {a b : Value} (h : Box2 w g a b) (hs : Save S w w') (hg : ¬ S g) : Box2 w' g a b := by
  have e := hs.block g h.1 hg
  have k : ∀ i, w'.cell? ⟨g, i, none⟩ = w.cell? ⟨g, i, none⟩ := fun i => by simp only [World.cell?, e]
  exact ⟨Nat.lt_of_lt_of_le h.1 hs.size, (k 0).trans h.2.1, (k 1).trans h.2.2⟩

theorem below_drew' (w : World) : Below w.heap.size w w.drew := by go_grown

end Go.Proofs.YtfbpcdmpkbjifaaDoor

/- A step is taken off what its hand has left: the program's takeStep. -/

namespace Go.Proofs.YtfbpcdmpkbjifaaDoor
open Go.RowKit
open Go.Sort (grow)

/-- What a hand has left, as it lies in memory. -/
structure Ld where
  a : Option Addr
  r : List Dn
  c : Nat
def sayD (ls : List Ld) : List (List Dn) := ls.map Ld.r
def cellE (u : Ld) : Value := .slice u.a u.r.length u.c
/-- What the hands have left lies in row g. -/
def LeftR (w : World) (g : Nat) (ls : List Ld) : Prop :=
  ∃ cs : Array Value, Row w g 35 cs ∧ (∀ (k : Nat) (u : Ld), ls[k]? = some u → cs[k]? = some (cellE u)) ∧ ∀ u ∈ ls, u.r.length ≤ u.c ∧ OwnE w u.a u.r
theorem LeftR.lt {w : World} {g : Nat} {ls : List Ld} (h : LeftR w g ls) : g < w.heap.size := by
  obtain ⟨cs, hr, _⟩ := h
  exact hr.lt
theorem LeftR.below {w w' : World} {B g : Nat} {ls : List Ld} (h : LeftR w g ls) (hb : Below B w w') (hB : w.heap.size ≤ B) : LeftR w' g ls := by
  obtain ⟨cs, hr, h1, h2⟩ := h
  exact ⟨cs, hr.below hb (by have := hr.lt; omega), h1, fun u hu => ⟨(h2 u hu).1, (h2 u hu).2.below hb hB⟩⟩
theorem LeftR.keep {w w' : World} {g : Nat} {ls : List Ld} (h : LeftR w g ls) (hb : Below w.heap.size w w') : LeftR w' g ls := h.below hb (Nat.le_refl _)
theorem LeftR.at_ {w : World} {g : Nat} {ls : List Ld} (h : LeftR w g ls) {k : Nat} (hk : k < ls.length) :
    w.cell? ⟨g, k, none⟩ = some (.slice ls[k].a ls[k].r.length ls[k].c) ∧ w.frozen? ⟨g, k, none⟩ = false ∧ ls[k].r.length ≤ ls[k].c ∧ OwnE w ls[k].a ls[k].r := by
  obtain ⟨cs, hr, h1, h2⟩ := h
  exact ⟨(hr.cell k).trans (h1 k _ (List.getElem?_eq_getElem hk)), hr.frozen k, h2 _ (List.getElem_mem hk)⟩
theorem LeftR.set {w : World} {g : Nat} {ls : List Ld} (h : LeftR w g ls) {k : Nat} (hk : k < ls.length) {u : Ld} (hc : u.r.length ≤ u.c) (ho : OwnE w u.a u.r) : LeftR (w.setCell ⟨g, k, none⟩ (.slice u.a u.r.length u.c)) g (ls.set k u) := by
  obtain ⟨cs, hr, h1, h2⟩ := h
  have hS : Save (· = g) w (w.setCell ⟨g, k, none⟩ (.slice u.a u.r.length u.c)) := Save.setCell (S := fun b => b = g) (p := ⟨g, k, none⟩) (Save.refl _ w) rfl _
  refine ⟨_, hr.set k _, fun i x hx => ?_, fun x hx => ?_⟩
  · rw [List.getElem?_set] at hx
    rw [Array.getElem?_setIfInBounds]
    have hkc : k < cs.size := (Array.getElem?_eq_some_iff.1 (h1 k _ (List.getElem?_eq_getElem hk))).1
    by_cases e : k = i
    · subst e
      rw [if_pos rfl, if_pos hk] at hx
      injection hx with hx
      subst hx
      rw [if_pos rfl, if_pos hkc]
      rfl
    · rw [if_neg e] at hx ⊢
      exact h1 i x hx
  · rcases List.mem_or_eq_of_mem_set hx with hx | rfl
    · exact ⟨(h2 x hx).1, (h2 x hx).2.aside hr (by decide) hS⟩
    · exact ⟨hc, ho.aside hr (by decide) hS⟩

theorem takeO_no {ls : List Ld} {d : Dn} (h : ¬ (0 ≤ d.h ∧ d.h < ls.length)) : takeO (sayD ls) d = none := by
  unfold takeO
  rw [if_neg (by unfold sayD; rw [List.length_map]; exact h)]
theorem takeO_at {ls : List Ld} {d : Dn} {j : Nat} (hj : d.h = (j : Int)) (hl : j < ls.length) : takeO (sayD ls) d = match ls[j].r with | [] => none | e :: r => if e = d then some ((sayD ls).set j r) else none := by
  unfold takeO
  rw [if_pos (by unfold sayD; rw [List.length_map]; omega), hj, Int.toNat_natCast, List.getD_eq_getElem?_getD]
  have : (sayD ls)[j]? = some ls[j].r := by simp [sayD, hl]
  rw [this]
  rfl

/-- What takeStep answers. -/
def GaveT (w : World) (g : Nat) (ls : List Ld) (d : Dn) (e : Ending) (w' : World) : Prop :=
  (takeO (sayD ls) d = none ∧ e = .returned (.bool false) ∧ Below w.heap.size w w') ∨ (∃ ls', takeO (sayD ls) d = some (sayD ls') ∧ ls'.length = ls.length ∧ e = .returned (.bool true) ∧ LeftR w' g ls' ∧ Save (· = g) w w')

set_option maxRecDepth 20000 in
set_option maxHeartbeats 2000000 in
theorem takeStep_any (g c : Nat) (ls : List Ld) (h k f t : Int) (w : World) (hx : LeftR w g ls) (hl1 : 1 ≤ ls.length) (hl4 : ls.length ≤ 4) (hL : Lims w) :
    Calls Tryd.prog 85 #[.slice (some ⟨g, 0, none⟩) ls.length c, .agg #[.int .i64 h, .int .i64 k, .int .i64 f, .int .i64 t]] w (GaveT w g ls ⟨h, k, f, t⟩) := by
  have HX := Lib.hid hx; clear hx
  have HL := Lib.hid hL; clear hL
  have HBW : Hid (Below w.heap.size w (w.alloc (.cells #[.int .i64 h, .int .i64 k, .int .i64 f, .int .i64 t] 88))) := (Below.refl _ _).alloc (Nat.le_refl _) _
  have HRW : Hid (Row (w.alloc (.cells #[.int .i64 h, .int .i64 k, .int .i64 f, .int .i64 t] 88)) w.heap.size 88 #[.int .i64 h, .int .i64 k, .int .i64 f, .int .i64 t]) := Row.new _ _ _
  have HGL := Lib.hid HX.out.lt
  cases hh : decide ((1 ≤ (ls.length : Int) ∧ (ls.length : Int) ≤ 4) ∧ 0 ≤ h ∧ h < (ls.length : Int))
  · have HE : Hid (takeO (sayD ls) ⟨h, k, f, t⟩ = none) := takeO_no fun hc => of_decide_eq_false hh ⟨by omega, hc⟩
    go_enter Tryd.func85, Tryd.ntmps85
    go_wp2
    have HCI : Hid (∀ d os, Calls Tryd.prog 67 #[.int .i64 (ls.length : Int), .int .i64 h] (grow (redrawn (w.alloc (.cells #[.int .i64 h, .int .i64 k, .int .i64 f, .int .i64 t] 88)) d) os) fun e w' => e = .returned (.bool false) ∧ Below (grow (redrawn (w.alloc (.cells #[.int .i64 h, .int .i64 k, .int .i64 f, .int .i64 t] 88)) d) os).heap.size (grow (redrawn (w.alloc (.cells #[.int .i64 h, .int .i64 k, .int .i64 f, .int .i64 t] 88)) d) os) w') := fun d os => by
      have h := isHand_any (ls.length : Int) h (grow (redrawn (w.alloc (.cells #[.int .i64 h, .int .i64 k, .int .i64 f, .int .i64 t] 88)) d) os) (HL.out.keep (HBW.out.trans ((below_regrown (w.alloc (.cells #[.int .i64 h, .int .i64 k, .int .i64 f, .int .i64 t] 88)) d os).mono HBW.out.size)) (Nat.le_refl _))
      rw [hh] at h
      exact h
    generalize (w.alloc (.cells #[.int .i64 h, .int .i64 k, .int .i64 f, .int .i64 t] 88)) = W at HBW HRW HCI ⊢
    have d0 := HRW.out.cell 0
    have d1 := HRW.out.cell 1
    have d2 := HRW.out.cell 2
    have d3 := HRW.out.cell 3
    simp only [List.getElem?_toArray, List.getElem?_cons_succ, List.getElem?_cons_zero] at d0 d1 d2 d3
    replace d0 := cell_regrown d0
    replace d1 := cell_regrown d1
    replace d2 := cell_regrown d2
    replace d3 := cell_regrown d3
    refine wp_region_quiet_below (by kernel_rfl) (by kernel_rfl) ?_
    repeat (first | go_big_quiet_step (first | (with_reducible exact Calls.regrown_of (HCI.out _ _))) | quiet_step (first | (with_reducible exact Calls.regrown_of (HCI.out _ _))))
    refine wpQuiet_nil ?_
    intro _ hw'
    obtain ⟨⟨dq, osq⟩, hw''⟩ := hw'
    subst hw''
    have HGW : Hid (Below W.heap.size W (grow (redrawn W dq) osq)) := below_regrown W dq osq
    have HG3 : Hid (Below w.heap.size w (grow (redrawn W dq) osq)) := HBW.out.trans (HGW.out.mono HBW.out.size)
    generalize grow (redrawn W dq) osq = W3 at HGW HG3 ⊢
    clear d0 d1 d2 d3 HCI
    go_wp2
    go_ret
    exact .inl ⟨HE.out, rfl, HG3.out⟩
  have hh2 := (of_decide_eq_true hh).2
  obtain ⟨j, rfl⟩ := Int.eq_ofNat_of_zero_le hh2.1
  have hlj : j < ls.length := by omega
  clear hh2
  have HTA := Lib.hid (takeO_at (d := ⟨(j : Int), k, f, t⟩) rfl hlj)
  obtain ⟨l0, fz, hcap, hown⟩ := HX.out.at_ hlj
  have HSET := Lib.hid (fun (V : World) (hV : LeftR V g ls) (u : Ld) (hc : u.r.length ≤ u.c) (ho : OwnE V u.a u.r) => hV.set hlj hc ho)
  have HAT := Lib.hid (fun (V : World) (hV : LeftR V g ls) => hV.at_ hlj)
  generalize ls[j] = u at l0 hcap hown HTA HAT
  obtain ⟨ua, ur, uc⟩ := u
  dsimp only at l0 hcap hown HTA HAT
  rcases ur with _ | ⟨q, r⟩
  · have HE : Hid (takeO (sayD ls) ⟨(j : Int), k, f, t⟩ = none) := HTA.out
    have l1 := (HBW.out.cell (p := ⟨g, j, none⟩) HGL.out).trans l0
    clear l0 fz hown hcap
    simp only [List.length_nil] at l1
    go_enter Tryd.func85, Tryd.ntmps85
    go_wp2
    have HCI : Hid (∀ d os, Calls Tryd.prog 67 #[.int .i64 (ls.length : Int), .int .i64 (j : Int)] (grow (redrawn (w.alloc (.cells #[.int .i64 (j : Int), .int .i64 k, .int .i64 f, .int .i64 t] 88)) d) os) fun e w' => e = .returned (.bool true) ∧ Below (grow (redrawn (w.alloc (.cells #[.int .i64 (j : Int), .int .i64 k, .int .i64 f, .int .i64 t] 88)) d) os).heap.size (grow (redrawn (w.alloc (.cells #[.int .i64 (j : Int), .int .i64 k, .int .i64 f, .int .i64 t] 88)) d) os) w') := fun d os => by
      have h := isHand_any (ls.length : Int) (j : Int) (grow (redrawn (w.alloc (.cells #[.int .i64 (j : Int), .int .i64 k, .int .i64 f, .int .i64 t] 88)) d) os) (HL.out.keep (HBW.out.trans ((below_regrown (w.alloc (.cells #[.int .i64 (j : Int), .int .i64 k, .int .i64 f, .int .i64 t] 88)) d os).mono HBW.out.size)) (Nat.le_refl _))
      rw [hh] at h
      exact h
    generalize (w.alloc (.cells #[.int .i64 (j : Int), .int .i64 k, .int .i64 f, .int .i64 t] 88)) = W at HBW HRW HCI l1 ⊢
    have d0 := HRW.out.cell 0
    have d1 := HRW.out.cell 1
    have d2 := HRW.out.cell 2
    have d3 := HRW.out.cell 3
    simp only [List.getElem?_toArray, List.getElem?_cons_succ, List.getElem?_cons_zero] at d0 d1 d2 d3
    replace d0 := cell_regrown d0
    replace d1 := cell_regrown d1
    replace d2 := cell_regrown d2
    replace d3 := cell_regrown d3
    replace l1 := cell_regrown l1
    refine wp_region_quiet_below (by kernel_rfl) (by kernel_rfl) ?_
    repeat (first | go_big_quiet_step (first | (with_reducible exact Calls.regrown_of (HCI.out _ _))) | quiet_step (first | (with_reducible exact Calls.regrown_of (HCI.out _ _))))
    refine wpQuiet_nil ?_
    intro _ hw'
    obtain ⟨⟨dq, osq⟩, hw''⟩ := hw'
    subst hw''
    have HGW : Hid (Below W.heap.size W (grow (redrawn W dq) osq)) := below_regrown W dq osq
    have HG3 : Hid (Below w.heap.size w (grow (redrawn W dq) osq)) := HBW.out.trans (HGW.out.mono HBW.out.size)
    generalize grow (redrawn W dq) osq = W3 at HGW HG3 ⊢
    clear d0 d1 d2 d3 HCI
    go_wp2
    go_ret
    exact .inl ⟨HE.out, rfl, HG3.out⟩
  obtain ⟨b, o, rfl, hb, q0, q1, q2, q3, hr⟩ := hown.at_
  have HR := Lib.hid hr
  clear hr hown
  have HQ : Hid ((q.h == (j : Int)) = true ∧ (q.k == k) = true ∧ (q.f == f) = true ∧ (q.t == t) = true → takeO (sayD ls) ⟨(j : Int), k, f, t⟩ = some ((sayD ls).set j r)) := fun ⟨h0, h1, h2, h3⟩ => by
    rw [HTA.out]
    simp only
    rw [if_pos (Dn.ext' ⟨by simpa using h0, by simpa using h1, by simpa using h2, by simpa using h3⟩)]
  have HNQ : Hid ((q.h == (j : Int)) = false ∨ (q.k == k) = false ∨ (q.f == f) = false ∨ (q.t == t) = false → takeO (sayD ls) ⟨(j : Int), k, f, t⟩ = none) := fun hne => by
    rw [HTA.out]
    simp only
    rw [if_neg (fun e => by subst e; simp at hne)]
  have l1 := (HBW.out.cell (p := ⟨g, j, none⟩) HGL.out).trans l0
  have p0 := (HBW.out.cell (p := ⟨b, o, none⟩) hb).trans q0
  have p1 := (HBW.out.cell (p := ⟨b, o + 1, none⟩) hb).trans q1
  have p2 := (HBW.out.cell (p := ⟨b, o + 2, none⟩) hb).trans q2
  have p3 := (HBW.out.cell (p := ⟨b, o + 3, none⟩) hb).trans q3
  clear l0 fz q0 q1 q2 q3 HTA
  simp only [List.length_cons] at l1 hcap
  obtain ⟨n, hn⟩ : ∃ n, n = r.length := ⟨_, rfl⟩
  have HN := Lib.hid hn
  rw [← hn] at l1 hcap
  have HAT2 : Hid (∀ V, LeftR V g ls → V.cell? ⟨g, j, none⟩ = some (.slice (some ⟨b, o, none⟩) (n + 1) uc) ∧ V.frozen? ⟨g, j, none⟩ = false) := fun V hV => by
    have h := HAT.out V hV
    rw [List.length_cons, ← hn] at h
    exact ⟨h.1, h.2.1⟩
  clear hn HAT
  cases e0 : (q.h == (j : Int))
  rotate_left
  cases e1 : (q.k == k)
  rotate_left
  cases e2 : (q.f == f)
  rotate_left
  cases e3 : (q.t == t)
  rotate_left
  · have HE := Lib.hid (HQ.out ⟨e0, e1, e2, e3⟩)
    clear HQ HNQ
    go_enter Tryd.func85, Tryd.ntmps85
    go_wp2
    have HCI : Hid (∀ d os, Calls Tryd.prog 67 #[.int .i64 (ls.length : Int), .int .i64 (j : Int)] (grow (redrawn (w.alloc (.cells #[.int .i64 (j : Int), .int .i64 k, .int .i64 f, .int .i64 t] 88)) d) os) fun e w' => e = .returned (.bool true) ∧ Below (grow (redrawn (w.alloc (.cells #[.int .i64 (j : Int), .int .i64 k, .int .i64 f, .int .i64 t] 88)) d) os).heap.size (grow (redrawn (w.alloc (.cells #[.int .i64 (j : Int), .int .i64 k, .int .i64 f, .int .i64 t] 88)) d) os) w') := fun d os => by
      have h := isHand_any (ls.length : Int) (j : Int) (grow (redrawn (w.alloc (.cells #[.int .i64 (j : Int), .int .i64 k, .int .i64 f, .int .i64 t] 88)) d) os) (HL.out.keep (HBW.out.trans ((below_regrown (w.alloc (.cells #[.int .i64 (j : Int), .int .i64 k, .int .i64 f, .int .i64 t] 88)) d os).mono HBW.out.size)) (Nat.le_refl _))
      rw [hh] at h
      exact h
    generalize (w.alloc (.cells #[.int .i64 (j : Int), .int .i64 k, .int .i64 f, .int .i64 t] 88)) = W at HBW HRW HCI l1 p0 p1 p2 p3 ⊢
    have d0 := HRW.out.cell 0
    have d1 := HRW.out.cell 1
    have d2 := HRW.out.cell 2
    have d3 := HRW.out.cell 3
    simp only [List.getElem?_toArray, List.getElem?_cons_succ, List.getElem?_cons_zero] at d0 d1 d2 d3
    replace d0 := cell_regrown d0
    replace d1 := cell_regrown d1
    replace d2 := cell_regrown d2
    replace d3 := cell_regrown d3
    replace l1 := cell_regrown l1
    replace p0 := cell_regrown p0
    replace p1 := cell_regrown p1
    replace p2 := cell_regrown p2
    replace p3 := cell_regrown p3
    refine wp_region_quiet_below (by kernel_rfl) (by kernel_rfl) ?_
    repeat (first | go_big_quiet_step (first | (with_reducible exact Calls.regrown_of (HCI.out _ _))) | quiet_step (first | (with_reducible exact Calls.regrown_of (HCI.out _ _))))
    refine wpQuiet_nil ?_
    intro _ hw'
    obtain ⟨⟨dq, osq⟩, hw''⟩ := hw'
    subst hw''
    have HGW : Hid (Below W.heap.size W (grow (redrawn W dq) osq)) := below_regrown W dq osq
    have HG3 : Hid (Below w.heap.size w (grow (redrawn W dq) osq)) := HBW.out.trans (HGW.out.mono HBW.out.size)
    generalize grow (redrawn W dq) osq = W3 at HGW HG3 ⊢
    clear d0 d1 d2 d3 HCI
    clear l1 p0 p1 p2 p3
    have HX3 := Lib.hid (HX.out.keep HG3.out)
    have HRW3 := Lib.hid (HRW.out.below HGW.out HRW.out.lt)
    have d0 := HRW3.out.cell 0
    simp only [List.getElem?_toArray, List.getElem?_cons_zero] at d0
    obtain ⟨l1, fz⟩ := HAT2.out _ HX3.out
    by_cases hu : uc = 1
    · subst hu
      obtain rfl : n = 0 := by omega
      have HR0 : r = [] := List.eq_nil_of_length_eq_zero HN.out.symm
      have HNEW := Lib.hid (HSET.out W3 HX3.out ⟨some ⟨b, o, none⟩, [], 0⟩ (Nat.zero_le _) (.inl rfl))
      go_wp2_with fail
      go_still_tail 10, (by kernel_rfl)
      change wpList _ _ _ _ _ W3.drew
      go_wp2
      go_ret
      refine .inr ⟨ls.set j ⟨some ⟨b, o, none⟩, [], 0⟩, ?_, by rw [List.length_set], rfl, HNEW.out, ((Save.of_below HG3.out).trans (Save.setCell (S := fun b => b = g) (p := ⟨g, j, none⟩) (Save.refl _ W3) rfl _)).trans (Save.of_below (by go_grown))⟩
      rw [HE.out, HR0]
      simp [sayD, List.map_set]
    · have HNEW := Lib.hid (HSET.out W3 HX3.out ⟨some ⟨b, o + 4, none⟩, r, uc - 1⟩ (by show r.length ≤ uc - 1; have := HN.out; omega) (HR.out.keep HG3.out))
      have hu2 : (1 : Int) ≤ (n : Int) + 1 := by omega
      go_wp2_with fail
      go_still_tail 10, (by kernel_rfl)
      change wpList _ _ _ _ _ W3.drew
      go_wp2
      go_ret
      have HNN := HN.out
      subst HNN
      refine .inr ⟨ls.set j ⟨some ⟨b, o + 4, none⟩, r, uc - 1⟩, ?_, by rw [List.length_set], rfl, HNEW.out, ((Save.of_below HG3.out).trans (Save.setCell (S := fun b => b = g) (p := ⟨g, j, none⟩) (Save.refl _ W3) rfl _)).trans (Save.of_below (by go_grown))⟩
      rw [HE.out]
      simp [sayD, List.map_set]
  all_goals
    have HE : Hid (takeO (sayD ls) ⟨(j : Int), k, f, t⟩ = none) := HNQ.out (by first | exact .inl e0 | exact .inr (.inl e1) | exact .inr (.inr (.inl e2)) | exact .inr (.inr (.inr e3)))
    clear HQ HNQ
    go_enter Tryd.func85, Tryd.ntmps85
    go_wp2
    have HCI : Hid (∀ d os, Calls Tryd.prog 67 #[.int .i64 (ls.length : Int), .int .i64 (j : Int)] (grow (redrawn (w.alloc (.cells #[.int .i64 (j : Int), .int .i64 k, .int .i64 f, .int .i64 t] 88)) d) os) fun e w' => e = .returned (.bool true) ∧ Below (grow (redrawn (w.alloc (.cells #[.int .i64 (j : Int), .int .i64 k, .int .i64 f, .int .i64 t] 88)) d) os).heap.size (grow (redrawn (w.alloc (.cells #[.int .i64 (j : Int), .int .i64 k, .int .i64 f, .int .i64 t] 88)) d) os) w') := fun d os => by
      have h := isHand_any (ls.length : Int) (j : Int) (grow (redrawn (w.alloc (.cells #[.int .i64 (j : Int), .int .i64 k, .int .i64 f, .int .i64 t] 88)) d) os) (HL.out.keep (HBW.out.trans ((below_regrown (w.alloc (.cells #[.int .i64 (j : Int), .int .i64 k, .int .i64 f, .int .i64 t] 88)) d os).mono HBW.out.size)) (Nat.le_refl _))
      rw [hh] at h
      exact h
    generalize (w.alloc (.cells #[.int .i64 (j : Int), .int .i64 k, .int .i64 f, .int .i64 t] 88)) = W at HBW HRW HCI l1 p0 p1 p2 p3 ⊢
    have d0 := HRW.out.cell 0
    have d1 := HRW.out.cell 1
    have d2 := HRW.out.cell 2
    have d3 := HRW.out.cell 3
    simp only [List.getElem?_toArray, List.getElem?_cons_succ, List.getElem?_cons_zero] at d0 d1 d2 d3
    replace d0 := cell_regrown d0
    replace d1 := cell_regrown d1
    replace d2 := cell_regrown d2
    replace d3 := cell_regrown d3
    replace l1 := cell_regrown l1
    replace p0 := cell_regrown p0
    replace p1 := cell_regrown p1
    replace p2 := cell_regrown p2
    replace p3 := cell_regrown p3
    refine wp_region_quiet_below (by kernel_rfl) (by kernel_rfl) ?_
    repeat (first | go_big_quiet_step (first | (with_reducible exact Calls.regrown_of (HCI.out _ _))) | quiet_step (first | (with_reducible exact Calls.regrown_of (HCI.out _ _))))
    refine wpQuiet_nil ?_
    intro _ hw'
    obtain ⟨⟨dq, osq⟩, hw''⟩ := hw'
    subst hw''
    have HGW : Hid (Below W.heap.size W (grow (redrawn W dq) osq)) := below_regrown W dq osq
    have HG3 : Hid (Below w.heap.size w (grow (redrawn W dq) osq)) := HBW.out.trans (HGW.out.mono HBW.out.size)
    generalize grow (redrawn W dq) osq = W3 at HGW HG3 ⊢
    clear d0 d1 d2 d3 HCI
    go_wp2
    go_ret
    exact .inl ⟨HE.out, rfl, HG3.out⟩

end Go.Proofs.YtfbpcdmpkbjifaaDoor

/- The reference's l1Has and l1Put at lists of up to a thousand numbers. -/

namespace Go.Proofs.YtfbpcdmpkbjifaaDoor
open Go.RowKit

set_option maxRecDepth 20000 in
set_option maxHeartbeats 400000 in
theorem l1HasW_any (A : Option Addr) (xs : List Int) (c : Nat) (n : Int) (w : World) (hx : Ints w w.heap.size A xs) (h1 : xs.length ≤ 1000) :
    Calls Tryd.prog 80 #[.slice A xs.length c, .int .i64 n] w fun e w' => e = .returned (.bool (xs.contains n)) ∧ w' = w := by
  have HX := Lib.hid hx; clear hx
  go_enter Tryd.func80, Tryd.ntmps80
  go_wp2
  go_loopw [9] (fun i wr => ∃ (k : Nat), k ≤ xs.length ∧ i = .int .i64 k ∧ wr = w ∧ Hid (∀ (j : Nat) (x : Int), j < k → xs[j]? = some x → x ≠ n)) (fun i _ => xs.length - (intOf i).toNat)
  case atStart => exact ⟨0, by omega, rfl, rfl, fun j x h => absurd h (by omega)⟩
  case round =>
    obtain ⟨k, hk, rfl, rfl, H⟩ := hrel
    by_cases hlt : k < xs.length
    · obtain ⟨p, o, rfl, hb, c1⟩ := HX.out.at_ hlt
      by_cases he : xs[k] = n
      · have HE : Hid (xs.contains n = true) := by
          show _ = _
          rw [List.contains_iff_mem]
          exact he ▸ List.getElem_mem hlt
        have ht := beq_t he
        clear he
        go_wp2
        go_ret
        exact ⟨ret_bool HE.out.symm, rfl⟩
      · have HE := Lib.hid (upto_step (Q := fun x => x ≠ n) hlt he H.out)
        have ht := beq_f he
        clear he
        go_wp2
        go_roundw
        case rel => exact ⟨k + 1, by omega, by go_num, by simp, HE.out⟩
        case measure => simp [intOf]; omega
    · have HE : Hid (xs.contains n = false) := by
        show _ = _
        cases h : xs.contains n
        · rfl
        · rw [List.contains_iff_mem] at h
          obtain ⟨j, hj⟩ := List.mem_iff_getElem?.1 h
          exact absurd rfl (H.out j n (by have := (List.getElem?_eq_some_iff.1 hj).1; omega) hj)
      go_wp2
      go_ret
      exact ⟨ret_bool HE.out.symm, rfl⟩

set_option maxRecDepth 20000 in
set_option maxHeartbeats 1000000 in
theorem l1PutW_any (lo : Nat) (v : Value) (xs : List Int) (n : Int) (w : World) (hv : OwnV w lo v xs) (hr : Rises xs) (hn : n ∉ xs) (h1 : xs.length ≤ 1000) :
    Calls Tryd.prog 123 #[v, .int .i64 n] w (PutOne w xs n) := by
  obtain ⟨i0, hi0, hz0, hz1, hz2⟩ := info_of Tryd.infoInt
  rcases hv.2 with ⟨rfl, h0⟩ | ⟨g, c, cur, rfl, hlo, hb, hc, hm, h3, h4⟩
  · have e : xs = [] := List.eq_nil_of_length_eq_zero h0
    subst e
    clear hv hr hn h0 h1
    have HE0 := Lib.hid (own_empty w)
    have HB0 : Hid (Below w.heap.size w (w.alloc (.cells #[] 3))) := (Below.refl w.heap.size w).alloc (Nat.le_refl _) _
    go_enter Tryd.func123, Tryd.ntmps123
    go_wp2
    refine wp_loop_rounds 1 ?_
    rw [rounds_succ]
    have HA1 := Lib.hid (HE0.out.alloc (.cells #[.int .i64 n] 3))
    have hnew := cell_one_new (w.alloc (.cells #[] 3)) (.int .i64 n) 3
    rw [World.size_alloc] at hnew
    have HN2 := Lib.hid hnew; clear hnew
    go_wp2_with (first
      | (at_builtin
         refine append_nil_at rfl (.tmp 34) (.tmp 37) _ rfl w.heap.size 3 i0 1 Tryd.underlying22 hi0 _ _ _ rfl HE0.out 0 rfl ?_)
      | (at_builtin
         refine wpList_append_own _ rfl (.tmp 39) (.tmp 41) _ rfl w.heap.size 3 i0 _ 1 8 Tryd.underlying22 hi0 hz0 hz1 hz2 rfl (by omega) _ _ _ rfl HA1.out ⟨w.heap.size + 1, 0, none⟩ 1 1 [.int .i64 n] rfl rfl HN2.out (by intro u hu; simp at hu; subst hu; rfl) (by unfold maxLen; omega) (by omega) (by simp; omega) ?_
         intro v2 w2 h1 h2 h3
         have HB2 : Hid (Below w.heap.size w w2) := (HB0.out.alloc HB0.out.size _).grown h2 (by simp; omega) fun j hj => (HE0.out.lt j hj).1
         have HO2 := Lib.hid h1
         clear h1 h2 h3)
      | (at_builtin
         refine append_nil_at rfl (.tmp 43) (.tmp 46) _ rfl w.heap.size 3 i0 1 Tryd.underlying22 hi0 _ _ _ rfl HO2.out 0 rfl ?_))
    go_ret
    refine ⟨v2, [n], rfl, by simp [Rises], fun x => by simp, rfl, HO2.out, HB2.out⟩
  obtain ⟨A, c', e', hc', hx⟩ := hv.shape
  injection e' with e1 _ e3
  subst e1 e3
  obtain ⟨p, o, hpo⟩ : ∃ p o, (⟨g, 0, none⟩ : Addr) = ⟨p, o, none⟩ := ⟨_, _, rfl⟩
  rw [hpo] at hx ⊢
  clear hv hlo hb h3 h4 hc' hpo
  unfold maxLen at hm
  have HX := Lib.hid hx; clear hx
  have HR := Lib.hid hr; clear hr
  have HN := Lib.hid hn; clear hn
  go_enter Tryd.func123, Tryd.ntmps123
  go_wp2
  go_loopw [5] (fun i wr => ∃ (k : Nat), k ≤ xs.length ∧ i = .int .i64 k ∧ wr = w ∧ Hid (∀ (j : Nat) (x : Int), j < k → xs[j]? = some x → x < n)) (fun i _ => xs.length - (intOf i).toNat)
  case atStart => exact ⟨0, by omega, rfl, rfl, fun j x h => absurd h (by omega)⟩
  case round =>
    obtain ⟨k, hk, rfl, rfl, H⟩ := hrel
    by_cases hlt : k < xs.length
    · have c1 : wr.cell? ⟨p, o + k, none⟩ = some (.int .i64 xs[k]) := by
        obtain ⟨p', o', e, _, h⟩ := HX.out.at_ hlt
        injection e with e
        injection e with e1 e2
        subst e1 e2
        exact h
      by_cases hl : xs[k] < n
      · have HE := Lib.hid (upto_step (Q := fun x => x < n) hlt hl H.out)
        go_wp2
        go_roundw
        case rel => exact ⟨k + 1, by omega, by go_num, by simp, HE.out⟩
        case measure => simp [intOf]; omega
      · have hne : xs[k] ≠ n := fun e => HN.out (e ▸ List.getElem_mem hlt)
        have hq := beq_f hne
        have HP := Lib.hid (rises_put (k := k) HR.out H.out fun x hx => by
          rw [List.getElem?_eq_getElem hlt] at hx
          injection hx with hx
          omega)
        clear hne
        have HN1 : Hid (∀ (j : Nat) (u : Value), (vals (xs.take k))[j]? = some u → (wr.alloc (.cells #[] 3)).cell? ((⟨p, o, none⟩ : Addr).add j) = some u) := (((HX.out.take k).keep ((Below.refl wr.heap.size wr).alloc (Nat.le_refl _) _))).src2
        have HE0 := Lib.hid (own_empty wr)
        have HD := Lib.hid (HX.out.drop k)
        have hkl : (xs.take k).length = k := by rw [List.length_take]; omega
        have hdl : (xs.drop k).length = xs.length - k := List.length_drop
        have HKL := Lib.hid hkl; clear hkl
        have HDL := Lib.hid hdl; clear hdl
        go_wp2_with (first
          | (at_builtin
             refine wpList_append_own _ rfl (.tmp 34) (.tmp 37) _ rfl wr.heap.size 3 i0 _ 1 8 Tryd.underlying22 hi0 hz0 hz1 hz2 rfl (by omega) _ _ _ rfl HE0.out ⟨p, o, none⟩ k c (vals (xs.take k)) rfl (by rw [vals_length, HKL.out]; omega) HN1.out (vals_one _) (by unfold maxLen; omega) (by omega) (by simp) ?_
             intro v1 w1 h1 h2 h3
             have HO1 := Lib.hid h1
             have HB1 : Hid (Below wr.heap.size wr w1) := (((Below.refl wr.heap.size wr).alloc (Nat.le_refl _) _)).grown h2 (by simp) fun j hj => (HE0.out.lt j hj).1
             have hs1 : wr.heap.size ≤ w1.heap.size := HB1.out.size
             have HA1 := Lib.hid (h1.alloc (.cells #[.int .i64 n] 3))
             have HN2 := Lib.hid (cell_one_new w1 (.int .i64 n) 3)
             clear h1 h2 h3)
          | (at_builtin
             refine wpList_append_own _ rfl (.tmp 39) (.tmp 41) _ rfl wr.heap.size 3 i0 _ 1 8 Tryd.underlying22 hi0 hz0 hz1 hz2 rfl (by omega) _ _ _ rfl HA1.out ⟨w1.heap.size, 0, none⟩ 1 1 [.int .i64 n] rfl rfl HN2.out (by intro u hu; simp at hu; subst hu; rfl) (by unfold maxLen; omega) (by omega) (by simp; omega) ?_
             intro v2 w2 h1 h2 h3
             have HB2 : Hid (Below wr.heap.size wr w2) := (HB1.out.alloc HB1.out.size _).grown h2 (by simp; omega) fun j hj => (HO1.out.lt j hj).1
             have HO2 := Lib.hid h1
             have hs2 : wr.heap.size ≤ w2.heap.size := HB2.out.size
             have HN3 : Hid (∀ (j : Nat) (u : Value), (vals (xs.drop k))[j]? = some u → w2.cell? ((⟨p, o + k, none⟩ : Addr).add j) = some u) := (HD.out.keep HB2.out).src2
             clear h1 h2 h3)
          | (at_builtin
             refine wpList_append_own _ rfl (.tmp 43) (.tmp 46) _ rfl wr.heap.size 3 i0 _ 1 8 Tryd.underlying22 hi0 hz0 hz1 hz2 rfl (by omega) _ _ _ rfl HO2.out ⟨p, o + k, none⟩ (xs.length - k) (c - k) (vals (xs.drop k)) rfl (by rw [vals_length, HDL.out]; omega) HN3.out (vals_one _) (by unfold maxLen; omega) (by omega) hs2 ?_
             intro v3 w3 h1 h2 h3
             have HB3 : Hid (Below wr.heap.size wr w3) := HB2.out.grown h2 (by omega) fun j hj => (HO2.out.lt j hj).1
             have HO3 := Lib.hid h1
             clear h1 h2 h3))
        go_ret
        refine ⟨v3, xs.take k ++ [n] ++ xs.drop k, rfl, HP.out.1, HP.out.2, by simp; omega, ?_, HB3.out⟩
        show World.ownsRow _ _ _ _ _ _ _
        have e1 : (xs.take k ++ [n] ++ xs.drop k).length = 0 + k + 1 + (xs.length - k) := by simp; omega
        have e2 : vals (xs.take k ++ [n] ++ xs.drop k) = [] ++ vals (xs.take k) ++ [.int .i64 n] ++ vals (xs.drop k) := by simp [vals]
        rw [e1, e2]
        exact HO3.out
    · obtain rfl : k = xs.length := by omega
      have HP := Lib.hid (rises_put (k := xs.length) HR.out H.out fun x hx => by simp at hx)
      have HN1 : Hid (∀ (j : Nat) (u : Value), (vals xs)[j]? = some u → (wr.alloc (.cells #[] 3)).cell? ((⟨p, o, none⟩ : Addr).add j) = some u) := ((HX.out.keep ((Below.refl wr.heap.size wr).alloc (Nat.le_refl _) _))).src2
      have HE0 := Lib.hid (own_empty wr)
      by_cases hcx : c = xs.length
      · subst hcx
        go_wp2_with (first
          | (at_builtin
             refine wpList_append_own _ rfl (.tmp 34) (.tmp 37) _ rfl wr.heap.size 3 i0 _ 1 8 Tryd.underlying22 hi0 hz0 hz1 hz2 rfl (by omega) _ _ _ rfl HE0.out ⟨p, o, none⟩ xs.length xs.length (vals xs) rfl (by rw [vals_length]; omega) HN1.out (vals_one _) (by unfold maxLen; omega) (by omega) (by simp) ?_
             intro v1 w1 h1 h2 h3
             have HO1 := Lib.hid h1
             have HB1 : Hid (Below wr.heap.size wr w1) := (((Below.refl wr.heap.size wr).alloc (Nat.le_refl _) _)).grown h2 (by simp) fun j hj => (HE0.out.lt j hj).1
             have hs1 : wr.heap.size ≤ w1.heap.size := HB1.out.size
             have HA1 := Lib.hid (h1.alloc (.cells #[.int .i64 n] 3))
             have HN2 := Lib.hid (cell_one_new w1 (.int .i64 n) 3)
             clear h1 h2 h3)
          | (at_builtin
             refine wpList_append_own _ rfl (.tmp 39) (.tmp 41) _ rfl wr.heap.size 3 i0 _ 1 8 Tryd.underlying22 hi0 hz0 hz1 hz2 rfl (by omega) _ _ _ rfl HA1.out ⟨w1.heap.size, 0, none⟩ 1 1 [.int .i64 n] rfl rfl HN2.out (by intro u hu; simp at hu; subst hu; rfl) (by unfold maxLen; omega) (by omega) (by simp; omega) ?_
             intro v2 w2 h1 h2 h3
             have HB2 : Hid (Below wr.heap.size wr w2) := (HB1.out.alloc HB1.out.size _).grown h2 (by simp; omega) fun j hj => (HO1.out.lt j hj).1
             have HO2 := Lib.hid h1
             have hs2 : wr.heap.size ≤ w2.heap.size := HB2.out.size
             clear h1 h2 h3)
          | (at_builtin
             refine wpList_append_own _ rfl (.tmp 43) (.tmp 46) _ rfl wr.heap.size 3 i0 _ 1 8 Tryd.underlying22 hi0 hz0 hz1 hz2 rfl (by omega) _ _ _ rfl HO2.out ⟨p, o, none⟩ 0 0 [] rfl rfl (fun j u h => by simp at h) (by simp) (by unfold maxLen; omega) (by omega) hs2 ?_
             intro v3 w3 h1 h2 h3
             have HB3 : Hid (Below wr.heap.size wr w3) := HB2.out.grown h2 (by omega) fun j hj => (HO2.out.lt j hj).1
             have HO3 := Lib.hid h1
             clear h1 h2 h3))
        go_ret
        refine ⟨v3, xs.take xs.length ++ [n] ++ xs.drop xs.length, rfl, HP.out.1, HP.out.2, by simp, ?_, HB3.out⟩
        show World.ownsRow _ _ _ _ _ _ _
        have e1 : (xs.take xs.length ++ [n] ++ xs.drop xs.length).length = 0 + xs.length + 1 + 0 := by simp
        have e2 : vals (xs.take xs.length ++ [n] ++ xs.drop xs.length) = [] ++ vals xs ++ [.int .i64 n] ++ [] := by simp [vals]
        rw [e1, e2]
        exact HO3.out

      · have hcp : ¬ c - xs.length = 0 := by omega
        go_wp2_with (first
          | (at_builtin
             refine wpList_append_own _ rfl (.tmp 34) (.tmp 37) _ rfl wr.heap.size 3 i0 _ 1 8 Tryd.underlying22 hi0 hz0 hz1 hz2 rfl (by omega) _ _ _ rfl HE0.out ⟨p, o, none⟩ xs.length c (vals xs) rfl (by rw [vals_length]; omega) HN1.out (vals_one _) (by unfold maxLen; omega) (by omega) (by simp) ?_
             intro v1 w1 h1 h2 h3
             have HO1 := Lib.hid h1
             have HB1 : Hid (Below wr.heap.size wr w1) := (((Below.refl wr.heap.size wr).alloc (Nat.le_refl _) _)).grown h2 (by simp) fun j hj => (HE0.out.lt j hj).1
             have hs1 : wr.heap.size ≤ w1.heap.size := HB1.out.size
             have HA1 := Lib.hid (h1.alloc (.cells #[.int .i64 n] 3))
             have HN2 := Lib.hid (cell_one_new w1 (.int .i64 n) 3)
             clear h1 h2 h3)
          | (at_builtin
             refine wpList_append_own _ rfl (.tmp 39) (.tmp 41) _ rfl wr.heap.size 3 i0 _ 1 8 Tryd.underlying22 hi0 hz0 hz1 hz2 rfl (by omega) _ _ _ rfl HA1.out ⟨w1.heap.size, 0, none⟩ 1 1 [.int .i64 n] rfl rfl HN2.out (by intro u hu; simp at hu; subst hu; rfl) (by unfold maxLen; omega) (by omega) (by simp; omega) ?_
             intro v2 w2 h1 h2 h3
             have HB2 : Hid (Below wr.heap.size wr w2) := (HB1.out.alloc HB1.out.size _).grown h2 (by simp; omega) fun j hj => (HO1.out.lt j hj).1
             have HO2 := Lib.hid h1
             have hs2 : wr.heap.size ≤ w2.heap.size := HB2.out.size
             clear h1 h2 h3)
          | (at_builtin
             refine wpList_append_own _ rfl (.tmp 43) (.tmp 46) _ rfl wr.heap.size 3 i0 _ 1 8 Tryd.underlying22 hi0 hz0 hz1 hz2 rfl (by omega) _ _ _ rfl HO2.out ⟨p, o + xs.length, none⟩ 0 (c - xs.length) [] rfl rfl (fun j u h => by simp at h) (by simp) (by unfold maxLen; omega) (by omega) hs2 ?_
             intro v3 w3 h1 h2 h3
             have HB3 : Hid (Below wr.heap.size wr w3) := HB2.out.grown h2 (by omega) fun j hj => (HO2.out.lt j hj).1
             have HO3 := Lib.hid h1
             clear h1 h2 h3))
        go_ret
        refine ⟨v3, xs.take xs.length ++ [n] ++ xs.drop xs.length, rfl, HP.out.1, HP.out.2, by simp, ?_, HB3.out⟩
        show World.ownsRow _ _ _ _ _ _ _
        have e1 : (xs.take xs.length ++ [n] ++ xs.drop xs.length).length = 0 + xs.length + 1 + 0 := by simp
        have e2 : vals (xs.take xs.length ++ [n] ++ xs.drop xs.length) = [] ++ vals xs ++ [.int .i64 n] ++ [] := by simp [vals]
        rw [e1, e2]
        exact HO3.out

end Go.Proofs.YtfbpcdmpkbjifaaDoor

/- The reference's hands of chapter 8: in memory; where they begin, which are ready. -/

namespace Go.Proofs.YtfbpcdmpkbjifaaDoor
open Go.RowKit

/-- The hands' cells, one behind the other. -/
def flatH : List Hd → List Value
  | [] => []
  | x :: r => .int .i64 x.long :: .int .i64 (x.done : Int) :: .bool x.waits :: flatH r
theorem flatH_at : ∀ {hd : List Hd} {i : Nat} (h : i < hd.length), (flatH hd)[i * 3]? = some (.int .i64 hd[i].long) ∧ (flatH hd)[i * 3 + 1]? = some (.int .i64 (hd[i].done : Int)) ∧ (flatH hd)[i * 3 + 2]? = some (.bool hd[i].waits)
  | x :: r, 0, _ => ⟨rfl, rfl, rfl⟩
  | x :: r, i + 1, h => by
    have ih := flatH_at (hd := r) (i := i) (by simpa using h)
    rw [show (i + 1) * 3 = i * 3 + 1 + 1 + 1 by omega]
    simp only [flatH, List.getElem?_cons_succ, List.getElem_cons_succ]
    exact ih
theorem flatH_set1 : ∀ {hd : List Hd} {i : Nat} (h : i < hd.length) (d : Nat), (flatH hd).set (i * 3 + 1) (.int .i64 (d : Int)) = flatH (hd.set i ⟨hd[i].long, d, hd[i].waits⟩)
  | x :: r, 0, _, d => rfl
  | x :: r, i + 1, h, d => by
    have ih := flatH_set1 (hd := r) (i := i) (by simpa using h) d
    rw [show (i + 1) * 3 + 1 = i * 3 + 1 + 1 + 1 + 1 by omega]
    simp only [flatH, List.set_cons_succ, List.getElem_cons_succ, ih]
theorem flatH_set2 : ∀ {hd : List Hd} {i : Nat} (h : i < hd.length) (b : Bool), (flatH hd).set (i * 3 + 2) (.bool b) = flatH (hd.set i ⟨hd[i].long, hd[i].done, b⟩)
  | x :: r, 0, _, d => rfl
  | x :: r, i + 1, h, d => by
    have ih := flatH_set2 (hd := r) (i := i) (by simpa using h) d
    rw [show (i + 1) * 3 + 2 = i * 3 + 2 + 1 + 1 + 1 by omega]
    simp only [flatH, List.set_cons_succ, List.getElem_cons_succ, ih]
theorem flatH_set3 : ∀ {hd : List Hd} {i : Nat} (_ : i < hd.length) (y : Hd), (((flatH hd).set (i * 3) (.int .i64 y.long)).set (i * 3 + 1) (.int .i64 (y.done : Int))).set (i * 3 + 2) (.bool y.waits) = flatH (hd.set i y)
  | x :: r, 0, _, y => rfl
  | x :: r, i + 1, h, y => by
    have ih := flatH_set3 (hd := r) (i := i) (by simpa using h) y
    rw [show (i + 1) * 3 + 2 = i * 3 + 2 + 1 + 1 + 1 by omega, show (i + 1) * 3 + 1 = i * 3 + 1 + 1 + 1 + 1 by omega, show (i + 1) * 3 = i * 3 + 1 + 1 + 1 by omega]
    simp only [flatH, List.set_cons_succ, ih]

/-- The hands lie in block g. -/
def HandsR (w : World) (g : Nat) (hd : List Hd) : Prop := Row w g 138 (flatH hd).toArray
theorem HandsR.at_ {w : World} {g : Nat} {hd : List Hd} (h : HandsR w g hd) {i : Nat} (hi : i < hd.length) :
    w.cell? ⟨g, i * 3, none⟩ = some (.int .i64 hd[i].long) ∧ w.cell? ⟨g, i * 3 + 1, none⟩ = some (.int .i64 (hd[i].done : Int)) ∧ w.cell? ⟨g, i * 3 + 2, none⟩ = some (.bool hd[i].waits) ∧
    w.frozen? ⟨g, i * 3, none⟩ = false ∧ w.frozen? ⟨g, i * 3 + 1, none⟩ = false ∧ w.frozen? ⟨g, i * 3 + 2, none⟩ = false := by
  obtain ⟨h0, h1, h2⟩ := flatH_at hi
  refine ⟨(Row.cell h _).trans (by rw [List.getElem?_toArray]; exact h0), (Row.cell h _).trans (by rw [List.getElem?_toArray]; exact h1), (Row.cell h _).trans (by rw [List.getElem?_toArray]; exact h2), Row.frozen h _, Row.frozen h _, Row.frozen h _⟩
theorem HandsR.below {w w' : World} {g B : Nat} {hd : List Hd} (h : HandsR w g hd) (hb : Below B w w') (hg : g < B) : HandsR w' g hd := Row.below h hb hg
theorem HandsR.keep {w w' : World} {g : Nat} {hd : List Hd} (h : HandsR w g hd) (hb : Below w.heap.size w w') : HandsR w' g hd := Row.below h hb (Row.lt h)
theorem HandsR.set1 {w : World} {g : Nat} {hd : List Hd} (h : HandsR w g hd) {i : Nat} (hi : i < hd.length) (d : Nat) : HandsR (w.setCell ⟨g, i * 3 + 1, none⟩ (.int .i64 (d : Int))) g (hd.set i ⟨hd[i].long, d, hd[i].waits⟩) := by
  have := Row.set h (i * 3 + 1) (.int .i64 (d : Int))
  rw [List.setIfInBounds_toArray, flatH_set1 hi] at this
  exact this
theorem HandsR.set2 {w : World} {g : Nat} {hd : List Hd} (h : HandsR w g hd) {i : Nat} (hi : i < hd.length) (b : Bool) : HandsR (w.setCell ⟨g, i * 3 + 2, none⟩ (.bool b)) g (hd.set i ⟨hd[i].long, hd[i].done, b⟩) := by
  have := Row.set h (i * 3 + 2) (.bool b)
  rw [List.setIfInBounds_toArray, flatH_set2 hi] at this
  exact this
theorem HandsR.set3 {w : World} {g : Nat} {hd : List Hd} (h : HandsR w g hd) {i : Nat} (hi : i < hd.length) (y : Hd) : HandsR (((w.setCell ⟨g, i * 3, none⟩ (.int .i64 y.long)).setCell ⟨g, i * 3 + 1, none⟩ (.int .i64 (y.done : Int))).setCell ⟨g, i * 3 + 2, none⟩ (.bool y.waits)) g (hd.set i y) := by
  have := Row.set (Row.set (Row.set h (i * 3) (.int .i64 y.long)) (i * 3 + 1) (.int .i64 (y.done : Int))) (i * 3 + 2) (.bool y.waits)
  rw [List.setIfInBounds_toArray, List.setIfInBounds_toArray, List.setIfInBounds_toArray, flatH_set3 hi] at this
  exact this

theorem Tryd.infoHand : (Tryd.prog.info? 138).map (fun i => (i.zero, i.size, i.bytes)) = some (some (.agg #[.int .i64 0, .int .i64 0, .bool false]), 3, 24) := by kernel_rfl
/-- The first k hands have begun. -/
def startK (hs : Int) (k : Nat) : List Hd := List.replicate k ⟨1, 0, false⟩ ++ List.replicate (hs.toNat - k) ⟨0, 0, false⟩
theorem startK_all (hs : Int) : startK hs hs.toNat = startH hs := by simp [startK, startH]
theorem startK_len {hs : Int} {k : Nat} (h : k ≤ hs.toNat) : (startK hs k).length = hs.toNat := by simp [startK]; omega
theorem startK_at {hs : Int} {k : Nat} (h : k < hs.toNat) : (startK hs k)[k]? = some ⟨0, 0, false⟩ := by
  unfold startK
  rw [List.getElem?_append_right (by simp), List.length_replicate, Nat.sub_self, List.getElem?_replicate, if_pos (by omega)]
theorem startK_step {hs : Int} {k : Nat} (h : k < hs.toNat) : (startK hs k).set k ⟨1, 0, false⟩ = startK hs (k + 1) := by
  unfold startK
  rw [List.set_append_right _ _ (by simp), List.length_replicate, Nat.sub_self, show hs.toNat - k = (hs.toNat - (k + 1)) + 1 by omega, List.replicate_succ, List.set_cons_zero, List.replicate_succ' (n := k), List.append_assoc, List.singleton_append]
theorem make_hands (n : Nat) (h1 : 1 ≤ n) (h4 : n ≤ 4) (w : World) :
    (Instr.makeSlice 94 (.int .i64 (n : Int)) (.int .i64 (n : Int))).run Tryd.prog w = .ok (.slice (some ⟨w.heap.size, 0, none⟩) n n) (w.alloc (.cells (flatH (startK n 0)).toArray 138)) := by
  obtain ⟨i, hi, hz, hs, hb⟩ := info_of Tryd.infoHand
  have h := run_make (P := Tryd.prog) w 94 138 i _ Tryd.underlying94 hi hz .i64 .i64 n n (by omega) (by omega) (by rw [hb]; omega) (by omega)
  rw [hs] at h
  have e : madeCells #[.int .i64 0, .int .i64 0, .bool false] (n * 3) = (flatH (startK n 0)).toArray := by
    rcases (show n = 1 ∨ n = 2 ∨ n = 3 ∨ n = 4 by omega) with rfl | rfl | rfl | rfl <;> kernel_rfl
  simpa [e, Value.cells] using h

set_option maxHeartbeats 1000000 in
theorem l8Start_any (hs : Int) (w : World) (h1 : 1 ≤ hs) (h4 : hs ≤ 4) :
    Calls Tryd.prog 79 #[.int .i64 hs] w fun e w' => ∃ c, e = .returned (.slice (some ⟨w.heap.size, 0, none⟩) (startH hs).length c) ∧ HandsR w' w.heap.size (startH hs) ∧ Below w.heap.size w w' := by
  obtain ⟨n, rfl⟩ := Int.eq_ofNat_of_zero_le (show 0 ≤ hs by omega)
  have hmk := make_hands n (by omega) (by omega) w
  have HLN : Hid ((startH (n : Int)).length = n) := by show _ = _; simp [startH]
  have HSA : Hid (startK (n : Int) n = startH n) := by have := startK_all (n : Int); rwa [Int.toNat_natCast] at this
  go_enter Tryd.func79, Tryd.ntmps79
  go_wp2
  go_loopw [9] (fun i wr => ∃ (k : Nat), k ≤ n ∧ i = .int .i64 k ∧ Hid (Below w.heap.size w wr) ∧ Hid (HandsR wr w.heap.size (startK n k))) (fun i _ => n - (intOf i).toNat)
  case atStart => exact ⟨0, by omega, rfl, by show Below _ _ _; go_grown, Row.new _ _ _⟩
  case round =>
    obtain ⟨k, hk, rfl, HB, HR⟩ := hrel
    clear hmk
    by_cases hlt : k < n
    · have hl : k < (startK (n : Int) k).length := by rw [startK_len (by omega)]; omega
      obtain ⟨c0, -, -, f0, -⟩ := HR.out.at_ hl
      have HN : Hid (HandsR (wr.setCell ⟨w.heap.size, k * 3, none⟩ (.int .i64 1)) w.heap.size (startK n (k + 1))) := by
        have h := Row.set HR.out (k * 3) (.int .i64 1)
        have e : (flatH (startK (n : Int) k)).set (k * 3) (.int .i64 1) = flatH (startK n (k + 1)) := by
          rw [← startK_step (by omega), ← flatH_set3 hl]
          have e0 : (startK (n : Int) k)[k] = ⟨0, 0, false⟩ := by
            have := startK_at (hs := n) (k := k) (by omega)
            rw [List.getElem?_eq_getElem hl] at this
            exact Option.some.inj this
          obtain ⟨_, q1, q2⟩ := flatH_at hl
          rw [e0] at q1 q2
          apply List.ext_getElem?
          intro i
          simp only [List.getElem?_set, List.length_set]
          by_cases e2 : k * 3 + 2 = i
          · subst e2
            have := (List.getElem?_eq_some_iff.1 q2).1
            rw [if_neg (by omega), if_pos rfl, if_pos this, q2]
          rw [if_neg e2]
          by_cases e1 : k * 3 + 1 = i
          · subst e1
            have := (List.getElem?_eq_some_iff.1 q1).1
            rw [if_neg (by omega), if_pos rfl, if_pos this, q1]
          rw [if_neg e1]
        rw [List.setIfInBounds_toArray, e] at h
        exact h
      generalize (startK (n : Int) k)[k] = x at c0
      clear hl
      go_wp2
      go_roundw
      case rel => exact ⟨k + 1, by omega, by go_num, HB.out.setCell (Nat.le_refl _) _, HN.out⟩
      case measure => simp [intOf]; omega
    · obtain rfl : k = n := by omega
      go_wp2
      go_ret
      exact ⟨k, by rw [HLN.out]; rfl, by rw [← HSA.out]; exact HR.out, HB.out⟩

/-- The numbers of those of the first k hands that are ready. -/
def readyL (n : Int) (hd : List Hd) (k : Nat) : List Int := ((List.range k).filter fun i => readyB n (hd.getD i default)).map fun i : Nat => (i : Int)
theorem readyL_len (n : Int) (hd : List Hd) (k : Nat) : (readyL n hd k).length ≤ k := by
  unfold readyL
  rw [List.length_map]
  refine Nat.le_trans (List.length_filter_le _ _) (by simp)
theorem readyL_yes {n : Int} {hd : List Hd} {k : Nat} (hk : k < hd.length) (h : readyB n hd[k] = true) : readyL n hd (k + 1) = readyL n hd k ++ [(k : Int)] := by
  unfold readyL
  rw [List.range_succ, List.filter_append, List.map_append]
  simp [List.getD_eq_getElem?_getD, hk, h]
theorem readyL_no {n : Int} {hd : List Hd} {k : Nat} (hk : k < hd.length) (h : readyB n hd[k] = false) : readyL n hd (k + 1) = readyL n hd k := by
  unfold readyL
  rw [List.range_succ, List.filter_append, List.map_append]
  simp [List.getD_eq_getElem?_getD, hk, h]
theorem readyL_mem {n : Int} {hd : List Hd} {x : Int} : x ∈ readyL n hd hd.length ↔ (0 ≤ x ∧ x < hd.length) ∧ readyB n (hd.getD x.toNat default) = true := by
  unfold readyL
  simp only [List.mem_map, List.mem_filter, List.mem_range]
  constructor
  · rintro ⟨i, ⟨h1, h2⟩, rfl⟩
    exact ⟨⟨by omega, by omega⟩, by rw [Int.toNat_natCast]; exact h2⟩
  · rintro ⟨⟨h1, h2⟩, h3⟩
    exact ⟨x.toNat, ⟨by omega, h3⟩, by omega⟩
theorem readyL_nil {n : Int} {hd : List Hd} : (readyL n hd hd.length).length = 0 ↔ (hd.any (readyB n)) = false := by
  rw [List.length_eq_zero_iff, List.any_eq_false]
  constructor
  · intro h x hx hr
    obtain ⟨i, hi⟩ := List.mem_iff_getElem?.1 hx
    have hl := (List.getElem?_eq_some_iff.1 hi).1
    have : (i : Int) ∈ readyL n hd hd.length := readyL_mem.2 ⟨⟨by omega, by omega⟩, by rw [Int.toNat_natCast, List.getD_eq_getElem?_getD, hi]; exact hr⟩
    rw [h] at this
    cases this
  · intro h
    rcases hr : readyL n hd hd.length with _ | ⟨x, r⟩
    · rfl
    · have hm := readyL_mem.1 (hr ▸ List.mem_cons_self : x ∈ readyL n hd hd.length)
      have hl : x.toNat < hd.length := by omega
      rw [List.getD_eq_getElem?_getD, List.getElem?_eq_getElem hl, Option.getD_some] at hm
      exact absurd hm.2 (h _ (List.getElem_mem hl))

set_option maxRecDepth 20000 in
set_option maxHeartbeats 1000000 in
theorem l8Ready_any (n : Int) (g c : Nat) (hd : List Hd) (w : World) (hr : HandsR w g hd) (hl : hd.length ≤ 4) :
    Calls Tryd.prog 81 #[.int .i64 n, .slice (some ⟨g, 0, none⟩) hd.length c] w (GaveI w (readyL n hd hd.length)) := by
  obtain ⟨i0, hi0, hz0, hz1, hz2⟩ := info_of Tryd.infoInt
  have HGL := Lib.hid (Row.lt hr)
  have HR := Lib.hid hr; clear hr
  go_enter Tryd.func81, Tryd.ntmps81
  go_wp2
  go_loopw [5, 10] (fun v i wr => ∃ (k : Nat), k ≤ hd.length ∧ i = .int .i64 k ∧ Hid (Below w.heap.size w wr) ∧ Hid (OwnV wr w.heap.size v (readyL n hd k))) (fun _ i _ => hd.length - (intOf i).toNat)
  case atStart => exact ⟨0, by omega, rfl, Below.refl _ _, OwnV.nil _ _⟩
  case round =>
    obtain ⟨k, hk, rfl, HB, HO⟩ := hrel
    by_cases hlt : k < hd.length
    · obtain ⟨c0, c1, c2, -⟩ := (HR.out.below HB.out HGL.out).at_ hlt
      have hws := HB.out.size
      have HN : Hid (readyB n hd[k] = false → readyL n hd (k + 1) = readyL n hd k) := fun h => readyL_no hlt h
      have HY : Hid (readyB n hd[k] = true → readyL n hd (k + 1) = readyL n hd k ++ [(k : Int)]) := fun h => readyL_yes hlt h
      have hrl := readyL_len n hd k
      generalize hd[k] = x at c0 c1 c2 HN HY
      have HB1 : Hid (Below w.heap.size w (wr.alloc (.cells #[.int .i64 x.long, .int .i64 (x.done : Int), .bool x.waits] 138))) := HB.out.alloc hws _
      have HO1 : Hid (OwnV (wr.alloc (.cells #[.int .i64 x.long, .int .i64 (x.done : Int), .bool x.waits] 138)) w.heap.size u5 (readyL n hd k)) := HO.out.keep ((Below.refl _ _).alloc (Nat.le_refl _) _)
      by_cases h1 : x.long ≤ n
      · cases h2 : x.waits
        · have HE := Lib.hid (HY.out (by simp [readyB, h1, h2]))
          rw [h2] at c2 HB1 HO1
          have HOA : Hid (((wr.alloc (.cells #[.int .i64 x.long, .int .i64 (x.done : Int), .bool false] 138)).alloc (.cells #[.int .i64 (k : Int)] 3)).ownsRow w.heap.size 3 1 u5 (readyL n hd k).length (vals (readyL n hd k))) := World.ownsRow.alloc HO1.out _
          have HNW := cell_one_new (wr.alloc (.cells #[.int .i64 x.long, .int .i64 (x.done : Int), .bool false] 138)) (.int .i64 (k : Int)) 3
          rw [World.size_alloc] at HNW
          have HNW := Lib.hid HNW
          go_wp2_with (first
            | (at_builtin
               refine wpList_append_own _ rfl (.tmp 24) (.tmp 26) _ rfl w.heap.size 3 i0 _ 1 8 Tryd.underlying22 hi0 hz0 hz1 hz2 rfl (by omega) _ _ _ rfl HOA.out ⟨wr.heap.size + 1, 0, none⟩ 1 1 [.int .i64 (k : Int)] rfl rfl HNW.out (by simp [Value.oneCell']) (by unfold maxLen; omega) (by omega) (by simp; omega) ?_
               intro v' w' h1 h2 h3
               have HO' : Hid (OwnV w' w.heap.size v' (readyL n hd (k + 1))) := by rw [HE.out]; exact own_snocI h1 rfl
               have HB' : Hid (Below w.heap.size w w') := (HB1.out.alloc (by simp; omega) _).grown h2 (by simp; omega) fun j hj => (HO.out.lt j hj).1
               clear h1 h2 h3))
          go_roundw
          case rel => exact ⟨k + 1, by omega, by go_num, HB', HO'⟩
          case measure => simp [intOf]; omega
        · have HE := Lib.hid (HN.out (by simp [readyB, h2]))
          rw [h2] at c2 HB1 HO1
          go_wp2
          go_roundw
          case rel => exact ⟨k + 1, by omega, by go_num, HB1.out, by rw [HE.out]; exact HO1.out⟩
          case measure => simp [intOf]; omega
      · have HE := Lib.hid (HN.out (by simp [readyB, h1]))
        go_wp2
        go_roundw
        case rel => exact ⟨k + 1, by omega, by go_num, HB1.out, by rw [HE.out]; exact HO1.out⟩
        case measure => simp [intOf]; omega
    · obtain rfl : k = hd.length := by omega
      go_wp2
      go_ret
      obtain ⟨A', c', e, h⟩ := HO.out.own
      obtain ⟨A2, c2, e', hc, _⟩ := HO.out.shape
      have e2 := e.symm.trans e'
      injection e2 with _ _ e3
      subst e3
      exact ⟨A', c', by rw [e]; rfl, hc, h, HB.out⟩

end Go.Proofs.YtfbpcdmpkbjifaaDoor
