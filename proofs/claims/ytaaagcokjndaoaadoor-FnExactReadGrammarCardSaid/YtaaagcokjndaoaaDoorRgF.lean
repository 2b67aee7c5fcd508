/- Reading a grammar: plain mathematics. What is read from a place on, or where it is given up. -/
import Derived.Test.YtaaagcokjndaoaaDoorRdW
import Derived.Test.YtaaagcokjndaoaaDoorRdSymN
import Derived.Test.YtaaagcokjndaoaaDoorRdSymS
namespace Go.Proofs.YtaaagcokjndaoaaDoor

/-- What came out: a thing and the place behind it; or a code and a place. -/
inductive Out (α : Type) where
  | ok (a : α) (k : Nat)
  | bad (code : Int) (place : Nat)

/-- A Right, some of whose symbols are read. -/
def rightF (n t : Int) (s : ByteArray) : Nat → List Int → Nat → Out (List Int)
  | 0, _, k => .bad 4 k
  | f + 1, xs, k =>
    if chr s k = 10 then .ok xs (k + 1)
    else if xs.length = 4 then .bad 4 k
    else match symG n t (chr s k) with
      | none => .bad 3 k
      | some x => rightF n t s f (xs ++ [x]) (k + 1)

/-- A line. -/
def lineF (n t : Int) (s : ByteArray) (ss : List (Int × List Int)) (k : Nat) : Out (Int × List Int) :=
  match symG n 0 (chr s k) with
  | none => .bad 3 k
  | some l =>
    if chr s (k + 1) = 61 then
      match rightF n t s 5 [] (k + 2) with
      | .bad c p => .bad c p
      | .ok xs k' => if hasU ss (l, xs) = true then .bad 5 k else if ss.length = 16 then .bad 6 k else .ok (l, xs) k'
    else .bad 3 (k + 1)

/-- The lines. -/
def linesF (n t : Int) (s : ByteArray) : Nat → List (Int × List Int) → Nat → Out (List (Int × List Int))
  | 0, ss, k => .ok ss k
  | f + 1, ss, k =>
    if k < s.size then
      match lineF n t s ss k with
      | .bad c p => .bad c p
      | .ok u k' => linesF n t s f (ss ++ [u]) k'
    else .ok ss k

/-- The first line. -/
def headF (s : ByteArray) : Out (Int × Int) :=
  if inB 1 6 (chr s 0 - 48) = true then
    if chr s 1 = 32 then
      if inB 1 4 (chr s 2 - 48) = true then
        if chr s 3 = 10 then .ok (chr s 0 - 48, chr s 2 - 48) 4 else .bad 2 3
      else .bad 2 2
    else .bad 2 1
  else .bad 2 0

/-- All of it. -/
def textF (s : ByteArray) : Out ((Int × Int) × List (Int × List Int)) :=
  match headF s with
  | .bad c p => .bad c p
  | .ok h k =>
    match linesF h.1 h.2 s 17 [] k with
    | .bad c p => .bad c p
    | .ok ss k' => .ok (h, ss) k'

theorem rightF_end {n t : Int} {s : ByteArray} {f : Nat} {xs : List Int} {k : Nat} (h : chr s k = 10) : rightF n t s (f + 1) xs k = .ok xs (k + 1) := by
  show (if _ then _ else _) = _
  rw [if_pos h]
theorem rightF_full {n t : Int} {s : ByteArray} {f : Nat} {xs : List Int} {k : Nat} (h : chr s k ≠ 10) (hl : xs.length = 4) : rightF n t s (f + 1) xs k = .bad 4 k := by
  show (if _ then _ else _) = _
  rw [if_neg h, if_pos hl]
theorem rightF_none {n t : Int} {s : ByteArray} {f : Nat} {xs : List Int} {k : Nat} (h : chr s k ≠ 10) (hl : xs.length ≠ 4) (hs : symG n t (chr s k) = none) : rightF n t s (f + 1) xs k = .bad 3 k := by
  show (if _ then _ else _) = _
  rw [if_neg h, if_neg hl, hs]
theorem rightF_some {n t : Int} {s : ByteArray} {f : Nat} {xs : List Int} {k : Nat} {x : Int} (h : chr s k ≠ 10) (hl : xs.length ≠ 4) (hs : symG n t (chr s k) = some x) : rightF n t s (f + 1) xs k = rightF n t s f (xs ++ [x]) (k + 1) := by
  show (if _ then _ else _) = _
  rw [if_neg h, if_neg hl, hs]

theorem symG_cases (n t c : Int) : (symN c = none ∧ symG n t c = none) ∨ (∃ x, symN c = some x ∧ symB n t x = false ∧ symG n t c = none) ∨ (∃ x, symN c = some x ∧ symB n t x = true ∧ symG n t c = some x) := by
  cases h : symN c with
  | none => exact .inl ⟨rfl, by unfold symG; rw [h]; rfl⟩
  | some x =>
    cases hb : symB n t x with
    | false => exact .inr (.inl ⟨x, rfl, hb, by unfold symG; rw [h, Option.filter_some, if_neg (by rw [hb]; decide)]⟩)
    | true => exact .inr (.inr ⟨x, rfl, hb, by unfold symG; rw [h, Option.filter_some, if_pos hb]⟩)
theorem symB_zero (n x : Int) : symB n 0 x = nonB n x := by
  unfold symB nonB
  congr 1
  exact propext (by omega)
theorem symG_lt {n t : Int} {s : ByteArray} {k : Nat} {x : Int} (h : symG n t (chr s k) = some x) : k < s.size := by
  unfold symG at h
  rw [Option.filter_eq_some_iff] at h
  exact symN_lt h.1

/-- Where a Right ends. -/
theorem rightF_bd {n t : Int} {s : ByteArray} : ∀ (f : Nat) (xs : List Int) (k : Nat), k ≤ s.size → match rightF n t s f xs k with | .ok _ k' => k < k' ∧ k' ≤ s.size | .bad _ p => p ≤ s.size
  | 0, _, k, hk => hk
  | f + 1, xs, k, hk => by
    by_cases h : chr s k = 10
    · rw [rightF_end h]
      have : k < s.size := by
        by_cases h1 : k < s.size
        · exact h1
        · rw [chr_end h1] at h; cases h
      exact ⟨by omega, by omega⟩
    · by_cases hl : xs.length = 4
      · rw [rightF_full h hl]; exact hk
      · cases hs : symG n t (chr s k) with
        | none => rw [rightF_none h hl hs]; exact hk
        | some x =>
          rw [rightF_some h hl hs]
          have h1 := symG_lt hs
          have h2 := rightF_bd (n := n) (t := t) (s := s) f (xs ++ [x]) (k + 1) (by omega)
          cases hr : rightF n t s f (xs ++ [x]) (k + 1) with
          | ok a k' => rw [hr] at h2; exact ⟨by have := h2.1; omega, h2.2⟩
          | bad c p => rw [hr] at h2; exact h2

end Go.Proofs.YtaaagcokjndaoaaDoor
