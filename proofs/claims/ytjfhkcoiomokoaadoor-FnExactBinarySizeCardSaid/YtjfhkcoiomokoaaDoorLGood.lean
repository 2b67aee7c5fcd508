/- Plain mathematics of chapter 5: which lists rise, which binary grammars are good. No program, no memory. -/
import Derived.Test.YtjfhkcoiomokoaaDoorImplGood2
import Derived.Test.YtjfhkcoiomokoaaDoorLBin
namespace Go.Proofs.YtjfhkcoiomokoaaDoor

noncomputable def bP (P : Prop) : Bool := @decide P (Classical.propDecidable P)
theorem bP_t {P : Prop} (h : P) : bP P = true := @decide_eq_true P (Classical.propDecidable P) h
theorem bP_f {P : Prop} (h : ¬ P) : bP P = false := @decide_eq_false P (Classical.propDecidable P) h
theorem bP_is {P : Prop} (h : bP P = true) : P := @of_decide_eq_true P (Classical.propDecidable P) h
theorem bP_no {P : Prop} (h : bP P = false) : ¬ P := @of_decide_eq_false P (Classical.propDecidable P) h
theorem bP_congr {P Q : Prop} (h : P ↔ Q) : bP P = bP Q := by rw [propext h]

/-- Two lists compared: the first unlike number decides. -/
def cmpL : List Int → List Int → Int
  | [], [] => 0
  | [], _ :: _ => -1
  | _ :: _, [] => 1
  | x :: a, y :: b => if x < y then -1 else if y < x then 1 else cmpL a b

theorem cmpL_range : ∀ (a b : List Int), cmpL a b = -1 ∨ cmpL a b = 0 ∨ cmpL a b = 1
  | [], [] => by simp [cmpL]
  | [], _ :: _ => by simp [cmpL]
  | _ :: _, [] => by simp [cmpL]
  | x :: a, y :: b => by
    simp only [cmpL]
    split
    · simp
    · split
      · simp
      · exact cmpL_range a b

theorem cmpL_drop {a b : List Int} {k : Nat} (ha : k < a.length) (hb : k < b.length) : cmpL (a.drop k) (b.drop k) = if a[k] < b[k] then -1 else if b[k] < a[k] then 1 else cmpL (a.drop (k + 1)) (b.drop (k + 1)) := by
  rw [List.drop_eq_getElem_cons ha, List.drop_eq_getElem_cons hb]; rfl
theorem cmpL_left {a b : List Int} {k : Nat} (ha : k < a.length) (hb : ¬ k < b.length) : cmpL (a.drop k) (b.drop k) = 1 := by
  rw [List.drop_of_length_le (l := b) (by omega), List.drop_eq_getElem_cons ha]; rfl
theorem cmpL_right {a b : List Int} {k : Nat} (ha : ¬ k < a.length) (hb : k < b.length) : cmpL (a.drop k) (b.drop k) = -1 := by
  rw [List.drop_of_length_le (l := a) (by omega), List.drop_eq_getElem_cons hb]; rfl
theorem cmpL_end {a b : List Int} {k : Nat} (ha : ¬ k < a.length) (hb : ¬ k < b.length) : cmpL (a.drop k) (b.drop k) = 0 := by
  rw [List.drop_of_length_le (by omega), List.drop_of_length_le (by omega)]; rfl

/-- The first k lists rise. -/
def RiseTo (xs : List (List Int)) (k : Nat) : Prop := ∀ (j : Nat) (a b : List Int), j + 1 < k → xs[j]? = some a → xs[j + 1]? = some b → cmpL a b < 0
theorem RiseTo.none (xs : List (List Int)) : RiseTo xs 1 := fun j a b h => absurd h (by omega)
theorem RiseTo.zero (xs : List (List Int)) : RiseTo xs 0 := fun j a b h => absurd h (by omega)
theorem RiseTo.step {xs : List (List Int)} {k : Nat} (h : RiseTo xs (k + 1)) {a b : List Int} (ha : xs[k]? = some a) (hb : xs[k + 1]? = some b) (hc : cmpL a b < 0) : RiseTo xs (k + 2) := by
  intro j a' b' hj ha' hb'
  by_cases e : j = k
  · subst e
    rw [ha] at ha'; rw [hb] at hb'
    injection ha' with ha'; injection hb' with hb'
    rw [← ha', ← hb']; exact hc
  · exact h j a' b' (by omega) ha' hb'
theorem RiseTo.mono {xs : List (List Int)} {k m : Nat} (h : RiseTo xs k) (hm : m ≤ k ∨ xs.length ≤ k) : RiseTo xs m := by
  intro j a b hj ha hb
  have := (List.getElem?_eq_some_iff.1 hb).1
  exact h j a b (by omega) ha hb

/-- Numbers rise. -/
def RiseI (xs : List Int) (k : Nat) : Prop := ∀ (j : Nat) (a b : Int), j + 1 < k → xs[j]? = some a → xs[j + 1]? = some b → a < b
theorem RiseI.none (xs : List Int) : RiseI xs 1 := fun j a b h => absurd h (by omega)
theorem RiseI.zero (xs : List Int) : RiseI xs 0 := fun j a b h => absurd h (by omega)
theorem RiseI.step {xs : List Int} {k : Nat} (h : RiseI xs (k + 1)) {a b : Int} (ha : xs[k]? = some a) (hb : xs[k + 1]? = some b) (hc : a < b) : RiseI xs (k + 2) := by
  intro j a' b' hj ha' hb'
  by_cases e : j = k
  · subst e
    rw [ha] at ha'; rw [hb] at hb'
    injection ha' with ha'; injection hb' with hb'
    rw [← ha', ← hb']; exact hc
  · exact h j a' b' (by omega) ha' hb'
theorem RiseI.mono {xs : List Int} {k m : Nat} (h : RiseI xs k) (hm : m ≤ k ∨ xs.length ≤ k) : RiseI xs m := by
  intro j a b hj ha hb
  have := (List.getElem?_eq_some_iff.1 hb).1
  exact h j a b (by omega) ha hb

/-- All lists are of one length. -/
def LongTo (long : Int) (xs : List (List Int)) (k : Nat) : Prop := ∀ (j : Nat) (x : List Int), j < k → xs[j]? = some x → (x.length : Int) = long
/-- A list is a nonterminal and symbols. -/
def symL (n t : Int) (x : List Int) : Prop := nonB n (x.getD 0 0) = true ∧ symsB n t (x.drop 1) = true
def SymTo (n t : Int) (xs : List (List Int)) (k : Nat) : Prop := ∀ (j : Nat) (x : List Int), j < k → xs[j]? = some x → symL n t x
def NonTo (n : Int) (xs : List Int) (k : Nat) : Prop := ∀ (j : Nat) (x : Int), j < k → xs[j]? = some x → nonB n x = true

def GoodLs (n t long : Int) (xs : List (List Int)) : Prop := LongTo long xs xs.length ∧ SymTo n t xs xs.length ∧ RiseTo xs xs.length
def GoodE (n : Int) (xs : List Int) : Prop := NonTo n xs xs.length ∧ RiseI xs xs.length

/-- A binary grammar is good. -/
def GoodBs (s : Bs) : Prop := (1 ≤ s.n ∧ s.n ≤ 40) ∧ (1 ≤ s.t ∧ s.t ≤ 4) ∧ GoodLs s.n s.t 3 s.P ∧ GoodLs s.n s.t 2 s.O ∧ GoodE s.n s.E ∧ (s.F.length : Int) ≤ s.n ∧ LongTo 2 s.F s.F.length

theorem upto_next {α : Type} {Q : α → Prop} {xs : List α} {k : Nat} {y : α} (hy : xs[k]? = some y) (h : Q y) (H : ∀ (j : Nat) (x : α), j < k → xs[j]? = some x → Q x) : ∀ (j : Nat) (x : α), j < k + 1 → xs[j]? = some x → Q x := by
  intro j x hj hx
  by_cases e : j = k
  · subst e; rw [hy] at hx; injection hx with hx; rw [← hx]; exact h
  · exact H j x (by omega) hx
theorem upto_end {α : Type} {Q : α → Prop} {xs : List α} {k m : Nat} (hk : ¬ k < xs.length) (H : ∀ (j : Nat) (x : α), j < k → xs[j]? = some x → Q x) : ∀ (j : Nat) (x : α), j < m → xs[j]? = some x → Q x :=
  fun j x _ hx => H j x (by have := (List.getElem?_eq_some_iff.1 hx).1; omega) hx

def FitL (xs : List (List Int)) : Prop := ∀ x ∈ xs, ∀ y ∈ x, F64 y
def FitB (s : Bs) : Prop := FitL s.P ∧ FitL s.O ∧ (∀ y ∈ s.E, F64 y) ∧ FitL s.F

end Go.Proofs.YtjfhkcoiomokoaaDoor
