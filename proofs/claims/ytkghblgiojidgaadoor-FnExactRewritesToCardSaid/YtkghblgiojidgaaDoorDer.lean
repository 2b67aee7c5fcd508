/- What derives what, plainly. -/
import Derived.Test.YtkghblgiojidgaaDoorMem
namespace Go.Proofs.YtkghblgiojidgaaDoor

/-- One symbol derives the part from i on ahead of j, where D tells it of the nonterminals. -/
def SymD (D : Int → Nat → Nat → Prop) (ws : List Int) (x : Int) (i j : Nat) : Prop := (x < 0 ∧ j = i + 1 ∧ ws[i]? = some (-1 - x)) ∨ (0 ≤ x ∧ D x i j)
/-- .. and symbols, one behind the other. -/
def SeqD (D : Int → Nat → Nat → Prop) (ws : List Int) : List Int → Nat → Nat → Prop
  | [], i, j => i = j
  | x :: xs, i, j => ∃ m, SymD D ws x i m ∧ SeqD D ws xs m j
theorem SymD.mono {D E : Int → Nat → Nat → Prop} {ws : List Int} (h : ∀ x i j, D x i j → E x i j) {x : Int} {i j : Nat} (k : SymD D ws x i j) : SymD E ws x i j := k.imp id fun k => ⟨k.1, h _ _ _ k.2⟩
theorem SeqD.mono {D E : Int → Nat → Nat → Prop} {ws : List Int} (h : ∀ x i j, D x i j → E x i j) {xs : List Int} {i j : Nat} (k : SeqD D ws xs i j) : SeqD E ws xs i j := by
  induction xs generalizing i with
  | nil => exact k
  | cons x xs ih =>
    obtain ⟨m, k1, k2⟩ := k
    exact ⟨m, k1.mono h, ih k2⟩
theorem seqD_snoc {D : Int → Nat → Nat → Prop} {ws : List Int} {xs : List Int} {x : Int} {i j : Nat} : SeqD D ws (xs ++ [x]) i j ↔ ∃ m, SeqD D ws xs i m ∧ SymD D ws x m j := by
  induction xs generalizing i with
  | nil =>
    constructor
    · rintro ⟨m, k1, k2⟩
      have k3 : m = j := k2
      subst k3
      exact ⟨i, rfl, k1⟩
    · rintro ⟨m, k1, k2⟩
      have k3 : i = m := k1
      subst k3
      exact ⟨j, k2, rfl⟩
  | cons y ys ih =>
    constructor
    · rintro ⟨m, k1, k2⟩
      obtain ⟨m', k3, k4⟩ := ih.1 k2
      exact ⟨m', ⟨m, k1, k3⟩, k4⟩
    · rintro ⟨m', ⟨m, k1, k3⟩, k4⟩
      exact ⟨m, k1, ih.2 ⟨m', k3, k4⟩⟩
theorem take_snoc {xs : List Int} {k : Nat} (h : k < xs.length) : xs.take (k + 1) = xs.take k ++ [xs[k]] := by
  rw [List.take_add_one, List.getElem?_eq_getElem h]; rfl
theorem seqD_take {D : Int → Nat → Nat → Prop} {ws : List Int} {xs : List Int} {k : Nat} (h : k < xs.length) {i j : Nat} : SeqD D ws (xs.take (k + 1)) i j ↔ ∃ m, SeqD D ws (xs.take k) i m ∧ SymD D ws xs[k] m j := by
  rw [take_snoc h]; exact seqD_snoc

/-- What D tells is closed under the rules. -/
def ClosedD (rs : List (Int × List Int)) (ws : List Int) (D : Int → Nat → Nat → Prop) : Prop := ∀ r ∈ rs, ∀ i j, i ≤ ws.length → SeqD D ws r.2 i j → D r.1 i j
/-- What is derived. -/
def Der (rs : List (Int × List Int)) (ws : List Int) (x : Int) (i j : Nat) : Prop := ∀ D, ClosedD rs ws D → D x i j
theorem der_closed (rs : List (Int × List Int)) (ws : List Int) : ClosedD rs ws (Der rs ws) := fun r hr i j hi k D hD => hD r hr i j hi (k.mono fun _ _ _ h => h D hD)
/-- What D tells lies in the word. -/
def InD (n : Nat) (D : Int → Nat → Nat → Prop) : Prop := ∀ x i j, D x i j → i ≤ j ∧ j ≤ n
theorem InD.sym {ws : List Int} {D : Int → Nat → Nat → Prop} (h : InD ws.length D) {x : Int} {i j : Nat} (k : SymD D ws x i j) : i ≤ j ∧ j ≤ ws.length := by
  rcases k with ⟨_, k2, k3⟩ | ⟨_, k⟩
  · have := (List.getElem?_eq_some_iff.1 k3).1; omega
  · exact h _ _ _ k
theorem InD.seq {ws : List Int} {D : Int → Nat → Nat → Prop} (h : InD ws.length D) {xs : List Int} {i j : Nat} (hi : i ≤ ws.length) (k : SeqD D ws xs i j) : i ≤ j ∧ j ≤ ws.length := by
  induction xs generalizing i with
  | nil => have k1 : i = j := k; omega
  | cons x xs ih =>
    obtain ⟨m, k1, k2⟩ := k
    have := h.sym k1
    have := ih this.2 k2
    omega
theorem der_in (rs : List (Int × List Int)) (ws : List Int) : InD ws.length (Der rs ws) := fun _ _ _ h => h (fun _ i j => i ≤ j ∧ j ≤ ws.length) fun _ _ _ _ hi k => InD.seq (D := fun _ i j => i ≤ j ∧ j ≤ ws.length) (fun _ _ _ h => h) hi k
/-- What is derived is derived by a rule. -/
theorem der_rule {rs : List (Int × List Int)} {ws : List Int} {x : Int} {i j : Nat} : Der rs ws x i j ↔ ∃ r ∈ rs, r.1 = x ∧ i ≤ ws.length ∧ SeqD (Der rs ws) ws r.2 i j := by
  constructor
  · intro h
    refine h (fun x i j => ∃ r ∈ rs, r.1 = x ∧ i ≤ ws.length ∧ SeqD (Der rs ws) ws r.2 i j) fun r hr i j hi k => ⟨r, hr, rfl, hi, k.mono ?_⟩
    rintro x i j ⟨r, hr, rfl, hi, k⟩
    exact der_closed rs ws r hr i j hi k
  · rintro ⟨r, hr, rfl, hi, k⟩
    exact der_closed rs ws r hr i j hi k
/-- A table that tells derived parts alone, and is closed. -/
theorem der_eq {rs : List (Int × List Int)} {ws : List Int} {D : Int → Nat → Nat → Prop} (hs : ∀ x i j, D x i j → Der rs ws x i j) (hc : ClosedD rs ws D) {x : Int} {i j : Nat} : D x i j ↔ Der rs ws x i j := ⟨hs x i j, fun h => h D hc⟩
/-- One step keeps a table sound. -/
theorem der_step {rs : List (Int × List Int)} {ws : List Int} {D : Int → Nat → Nat → Prop} (hs : ∀ x i j, D x i j → Der rs ws x i j) {r : Int × List Int} (hr : r ∈ rs) {i j : Nat} (hi : i ≤ ws.length) (k : SeqD D ws r.2 i j) : Der rs ws r.1 i j := der_closed rs ws r hr i j hi (k.mono hs)

end Go.Proofs.YtkghblgiojidgaaDoor
