/- Reading a grammar: plain mathematics. What is read from a place on, or where it is given up. -/
import Derived.Test.YtacehfjhpnplbaaDoorZ03
import Derived.BigQuiet
import Derived.Laws.Bits64
import Derived.Laws.Bits64b
import Derived.Laws.IdiomStrings
import Derived.Test.YtacehfjhpnplbaaDoorZ02
import Derived.Deep.OwnRows
import Derived.Maps.AppendAt

namespace Go.Proofs.YtacehfjhpnplbaaDoor

/-- What came out: a thing and the place behind it; or a code and a place. -/
inductive Out (α : Type) where
  | ok (a : α) (k : Nat)
  | bad (code : Int) (place : Nat)

/-- A Right, some of whose symbols are read. -/
def rightF (n t : Int) (s : ByteArray) : Nat → List Int → Nat → Out (List Int)
  | 0, _, k => .bad 4 k
  | f + 1, xs, k =>
    if chr s k = 10 then .ok xs (k + 1)
    else if xs.length = 4 then .bad 4 k
    else match symG n t (chr s k) with
      | none => .bad 3 k
      | some x => rightF n t s f (xs ++ [x]) (k + 1)

/-- A line. -/
def lineF (n t : Int) (s : ByteArray) (ss : List (Int × List Int)) (k : Nat) : Out (Int × List Int) :=
  match symG n 0 (chr s k) with
  | none => .bad 3 k
  | some l =>
    if chr s (k + 1) = 61 then
      match rightF n t s 5 [] (k + 2) with
      | .bad c p => .bad c p
      | .ok xs k' => if hasU ss (l, xs) = true then .bad 5 k else if ss.length = 16 then .bad 6 k else .ok (l, xs) k'
    else .bad 3 (k + 1)

/-- The lines. -/
def linesF (n t : Int) (s : ByteArray) : Nat → List (Int × List Int) → Nat → Out (List (Int × List Int))
  | 0, ss, k => .ok ss k
  | f + 1, ss, k =>
    if k < s.size then
      match lineF n t s ss k with
      | .bad c p => .bad c p
      | .ok u k' => linesF n t s f (ss ++ [u]) k'
    else .ok ss k

/-- The first line. -/
def headF (s : ByteArray) : Out (Int × Int) :=
  if inB 1 6 (chr s 0 - 48) = true then
    if chr s 1 = 32 then
      if inB 1 4 (chr s 2 - 48) = true then
        if chr s 3 = 10 then .ok (chr s 0 - 48, chr s 2 - 48) 4 else .bad 2 3
      else .bad 2 2
    else .bad 2 1
  else .bad 2 0

/-- All of it. -/
def textF (s : ByteArray) : Out ((Int × Int) × List (Int × List Int)) :=
  match headF s with
  | .bad c p => .bad c p
  | .ok h k =>
    match linesF h.1 h.2 s 17 [] k with
    | .bad c p => .bad c p
    | .ok ss k' => .ok (h, ss) k'

theorem rightF_end {n t : Int} {s : ByteArray} {f : Nat} {xs : List Int} {k : Nat} (h : chr s k = 10) : rightF n t s (f + 1) xs k = .ok xs (k + 1) := by
  show (if _ then _ else _) = _
  rw [if_pos h]
theorem rightF_full {n t : Int} {s : ByteArray} {f : Nat} {xs : List Int} {k : Nat} (h : chr s k ≠ 10) (hl : xs.length = 4) : rightF n t s (f + 1) xs k = .bad 4 k := by
  show (if _ then _ else _) = _
  rw [if_neg h, if_pos hl]
theorem rightF_none {n t : Int} {s : ByteArray} {f : Nat} {xs : List Int} {k : Nat} (h : chr s k ≠ 10) (hl : xs.length ≠ 4) (hs : symG n t (chr s k) = none) : rightF n t s (f + 1) xs k = .bad 3 k := by
  show (if _ then _ else _) = _
  rw [if_neg h, if_neg hl, hs]
theorem rightF_some {n t : Int} {s : ByteArray} {f : Nat} {xs : List Int} {k : Nat} {x : Int} (h : chr s k ≠ 10) (hl : xs.length ≠ 4) (hs : symG n t (chr s k) = some x) : rightF n t s (f + 1) xs k = rightF n t s f (xs ++ [x]) (k + 1) := by
  show (if _ then _ else _) = _
  rw [if_neg h, if_neg hl, hs]

theorem symG_cases (n t c : Int) : (symN c = none ∧ symG n t c = none) ∨ (∃ x, symN c = some x ∧ symB n t x = false ∧ symG n t c = none) ∨ (∃ x, symN c = some x ∧ symB n t x = true ∧ symG n t c = some x) := by
  cases h : symN c with
  | none => exact .inl ⟨rfl, by unfold symG; rw [h]; rfl⟩
  | some x =>
    cases hb : symB n t x with
    | false => exact .inr (.inl ⟨x, rfl, hb, by unfold symG; rw [h, Option.filter_some, if_neg (by rw [hb]; decide)]⟩)
    | true => exact .inr (.inr ⟨x, rfl, hb, by unfold symG; rw [h, Option.filter_some, if_pos hb]⟩)
theorem symB_zero (n x : Int) : symB n 0 x = nonB n x := by
  unfold symB nonB
  congr 1
  exact propext (by omega)
theorem symG_lt {n t : Int} {s : ByteArray} {k : Nat} {x : Int} (h : symG n t (chr s k) = some x) : k < s.size := by
  unfold symG at h
  rw [Option.filter_eq_some_iff] at h
  exact symN_lt h.1

/-- Where a Right ends. -/
theorem rightF_bd {n t : Int} {s : ByteArray} : ∀ (f : Nat) (xs : List Int) (k : Nat), k ≤ s.size → match rightF n t s f xs k with | .ok _ k' => k < k' ∧ k' ≤ s.size | .bad _ p => p ≤ s.size
  | 0, _, k, hk => hk
  | f + 1, xs, k, hk => by
    by_cases h : chr s k = 10
    · rw [rightF_end h]
      have : k < s.size := by
        by_cases h1 : k < s.size
        · exact h1
        · rw [chr_end h1] at h; cases h
      exact ⟨by omega, by omega⟩
    · by_cases hl : xs.length = 4
      · rw [rightF_full h hl]; exact hk
      · cases hs : symG n t (chr s k) with
        | none => rw [rightF_none h hl hs]; exact hk
        | some x =>
          rw [rightF_some h hl hs]
          have h1 := symG_lt hs
          have h2 := rightF_bd (n := n) (t := t) (s := s) f (xs ++ [x]) (k + 1) (by omega)
          cases hr : rightF n t s f (xs ++ [x]) (k + 1) with
          | ok a k' => rw [hr] at h2; exact ⟨by have := h2.1; omega, h2.2⟩
          | bad c p => rw [hr] at h2; exact h2

end Go.Proofs.YtacehfjhpnplbaaDoor

/- Reading back what was written: plain mathematics. -/

namespace Go.Proofs.YtacehfjhpnplbaaDoor

theorem letC_ten {x : Int} (h0 : -4 ≤ x) (h1 : x < 6) : ((letC x).toNat : Int) ≠ 10 := by
  obtain rfl | rfl | rfl | rfl | rfl | rfl | rfl | rfl | rfl | rfl : x = -4 ∨ x = -3 ∨ x = -2 ∨ x = -1 ∨ x = 0 ∨ x = 1 ∨ x = 2 ∨ x = 3 ∨ x = 4 ∨ x = 5 := by omega
  all_goals decide
theorem symN_letC {x : Int} (h0 : -4 ≤ x) (h1 : x < 6) : symN ((letC x).toNat : Int) = some x := by
  obtain rfl | rfl | rfl | rfl | rfl | rfl | rfl | rfl | rfl | rfl : x = -4 ∨ x = -3 ∨ x = -2 ∨ x = -1 ∨ x = 0 ∨ x = 1 ∨ x = 2 ∨ x = 3 ∨ x = 4 ∨ x = 5 := by omega
  all_goals decide
theorem symG_letC {n t x : Int} (hb : symB n t x = true) (h0 : -4 ≤ x) (h1 : x < 6) : symG n t ((letC x).toNat : Int) = some x := by
  rcases symG_cases n t ((letC x).toNat : Int) with ⟨h, _⟩ | ⟨y, h, hb', _⟩ | ⟨y, h, _, hg⟩
  · rw [symN_letC h0 h1] at h; cases h
  · rw [symN_letC h0 h1] at h; injection h with h; subst h; rw [hb] at hb'; cases hb'
  · rw [symN_letC h0 h1] at h; injection h with h; subst h; exact hg

/-- The bytes bs stand in s from k on. -/
def At (s : ByteArray) (k : Nat) (bs : List UInt8) : Prop := ∀ (i : Nat) (b : UInt8), bs[i]? = some b → chr s (k + i) = (b.toNat : Int)
theorem At.head {s : ByteArray} {k : Nat} {b : UInt8} {bs : List UInt8} (h : At s k (b :: bs)) : chr s k = (b.toNat : Int) := h 0 b rfl
theorem At.tail {s : ByteArray} {k : Nat} {b : UInt8} {bs : List UInt8} (h : At s k (b :: bs)) : At s (k + 1) bs := fun i c hc => by
  have := h (i + 1) c (by simpa using hc)
  rw [show k + 1 + i = k + (i + 1) by omega]; exact this
theorem At.left {s : ByteArray} {k : Nat} {ds bs : List UInt8} (h : At s k (ds ++ bs)) : At s k ds := fun i c hc => h i c (by rw [List.getElem?_append_left (List.getElem?_eq_some_iff.1 hc).1]; exact hc)
theorem At.right {s : ByteArray} {k : Nat} {ds bs : List UInt8} (h : At s k (ds ++ bs)) : At s (k + ds.length) bs := fun i c hc => by
  have := h (ds.length + i) c (by rw [List.getElem?_append_right (by omega)]; simpa using hc)
  rw [show k + ds.length + i = k + (ds.length + i) by omega]; exact this

theorem rightF_back {n t : Int} {s : ByteArray} : ∀ (xs ys : List Int) (f k : Nat), ys.length + xs.length ≤ 4 → xs.length < f → (∀ x ∈ xs, symB n t x = true ∧ -4 ≤ x ∧ x < 6) → At s k (xs.map letC ++ [10]) → rightF n t s f ys k = .ok (ys ++ xs) (k + xs.length + 1)
  | [], ys, f + 1, k, _, _, _, h => by
    rw [rightF_end (by simpa using h.head), List.append_nil]; rfl
  | x :: xs, ys, f + 1, k, hl, hf, hx, h => by
    obtain ⟨h1, h2, h3⟩ := hx x (List.mem_cons_self ..)
    have hc : chr s k = ((letC x).toNat : Int) := h.head
    simp only [List.length_cons] at hl hf
    rw [rightF_some (x := x) (by rw [hc]; exact letC_ten h2 h3) (by omega) (by rw [hc]; exact symG_letC h1 h2 h3)]
    rw [rightF_back xs (ys ++ [x]) f (k + 1) (by simp; omega) (by omega) (fun y hy => hx y (List.mem_cons_of_mem _ hy)) h.tail]
    rw [List.append_assoc, List.length_cons, show k + 1 + xs.length + 1 = k + (xs.length + 1) + 1 by omega]
    rfl

end Go.Proofs.YtacehfjhpnplbaaDoor

/- Reading back what was written: lines and the whole text. -/

namespace Go.Proofs.YtacehfjhpnplbaaDoor

theorem lineF_back {n t : Int} {s : ByteArray} {ss : List (Int × List Int)} {k : Nat} {l : Int} {xs : List Int} (hn : n ≤ 6) (ht : t ≤ 4) (hg : goodU n t (l, xs) = true) (hh : hasU ss (l, xs) = false) (hs : ss.length < 16) (h : At s k (lineL (l, xs))) :
    lineF n t s ss k = .ok (l, xs) (k + (lineL (l, xs)).length) := by
  unfold goodU at hg
  simp only [Bool.and_eq_true, decide_eq_true_eq] at hg
  obtain ⟨h1, h2, h3⟩ := hg
  have hl := nonB_is h1
  have hx : ∀ x ∈ xs, symB n t x = true ∧ -4 ≤ x ∧ x < 6 := by
    intro x hx
    have hb : symB n t x = true := by
      have := h3
      unfold symsB at this
      simp only [List.all_eq_true] at this
      exact this x hx
    have := of_decide_eq_true hb
    exact ⟨hb, by omega, by omega⟩
  have hL : lineL (l, xs) = letC l :: 61 :: (xs.map letC ++ [10]) := by simp [lineL]
  have h' := h
  rw [hL] at h'
  have e0 : chr s k = ((letC l).toNat : Int) := h'.head
  have t1 : At s (k + 1) (61 :: (xs.map letC ++ [10])) := h'.tail
  have e1 : chr s (k + 1) = 61 := t1.head
  have t2 : At s (k + 2) (xs.map letC ++ [10]) := t1.tail
  unfold lineF
  rw [e0, symG_letC (x := l) (by rw [symB_zero]; exact h1) (by omega) (by omega)]
  simp only [e1, if_true]
  rw [rightF_back xs [] 5 (k + 2) (by simpa using h2) (by omega) hx t2]
  simp only [List.nil_append]
  rw [hh]
  rw [if_neg (by decide), if_neg (by omega)]
  congr 1
  simp only [lineL, List.length_append, List.length_cons, List.length_nil, List.length_map]
  omega

theorem linesF_back {n t : Int} {s : ByteArray} (hn : n ≤ 6) (ht : t ≤ 4) : ∀ (us ss : List (Int × List Int)) (f k : Nat), us.length < f → ss.length + us.length ≤ 16 → (∀ (j : Nat) (u : Int × List Int), us[j]? = some u → goodU n t u = true ∧ hasU (ss ++ us.take j) u = false) → At s k (us.flatMap lineL) → k + (us.flatMap lineL).length = s.size → linesF n t s f ss k = .ok (ss ++ us) s.size
  | [], ss, f + 1, k, _, _, _, _, hk => by
    have e : ¬ k < s.size := by simp at hk; omega
    unfold linesF
    rw [if_neg e, List.append_nil]
    simp at hk
    rw [hk]
  | (l, xs) :: us, ss, f + 1, k, hf, hl, hg, ha, hk => by
    rw [List.flatMap_cons] at ha hk
    rw [List.length_append] at hk
    have hp : 0 < (lineL (l, xs)).length := by simp [lineL]
    have e : k < s.size := by omega
    obtain ⟨g1, g2⟩ := hg 0 (l, xs) rfl
    simp only [List.take_zero, List.append_nil] at g2
    simp only [List.length_cons] at hf hl
    unfold linesF
    rw [if_pos e, lineF_back hn ht g1 g2 (by omega) ha.left]
    show linesF n t s f (ss ++ [(l, xs)]) _ = _
    rw [linesF_back hn ht us (ss ++ [(l, xs)]) f _ (by omega) (by simp; omega) (fun j u hu => ?_) ha.right (by omega)]
    · rw [List.append_assoc]; rfl
    · have h := hg (j + 1) u (by simpa using hu)
      rw [List.take_succ_cons] at h
      rw [List.append_assoc]
      exact h

theorem chr_str {l : List UInt8} {i : Nat} {b : UInt8} (h : l[i]? = some b) : chr (str l) i = (b.toNat : Int) := by
  obtain ⟨h1, h2⟩ := List.getElem?_eq_some_iff.1 h
  have hs : i < (str l).size := by
    have e2 : (str l).size = l.length := List.size_toArray
    omega
  unfold chr
  rw [dif_pos hs]
  subst h2
  rfl
theorem at_str (l : List UInt8) : At (str l) 0 l := fun i b hb => by rw [Nat.zero_add]; exact chr_str hb

theorem dig_in {d m : Int} (h1 : 1 ≤ d) (h2 : d ≤ m) (h3 : m ≤ 6) : ((digC d).toNat : Int) - 48 = d := by
  obtain rfl | rfl | rfl | rfl | rfl | rfl : d = 1 ∨ d = 2 ∨ d = 3 ∨ d = 4 ∨ d = 5 ∨ d = 6 := by omega
  all_goals decide

theorem textF_back {n t : Int} {ss : List (Int × List Int)} (hg : goodG n t ss = true) : textF (str (textL n t ss)) = .ok ((n, t), ss) (str (textL n t ss)).size := by
  obtain ⟨⟨n1, n2⟩, ⟨t1, t2⟩, hl, hgt⟩ := goodG_is hg
  have ha := at_str (textL n t ss)
  have hsz : (str (textL n t ss)).size = 4 + (ss.flatMap lineL).length := by
    have e2 : (str (textL n t ss)).size = (textL n t ss).length := List.size_toArray
    rw [e2]; unfold textL; rw [List.length_append]; rfl
  have hr : At (str (textL n t ss)) 4 (ss.flatMap lineL) := by
    have := At.right (ds := [digC n, 32, digC t, 10]) ha
    simpa using this
  have c0 : chr (str (textL n t ss)) 0 = ((digC n).toNat : Int) := ha 0 _ rfl
  have c1 : chr (str (textL n t ss)) 1 = 32 := ha 1 _ rfl
  have c2 : chr (str (textL n t ss)) 2 = ((digC t).toNat : Int) := ha 2 _ rfl
  have c3 : chr (str (textL n t ss)) 3 = 10 := ha 3 _ rfl
  generalize str (textL n t ss) = s at *
  have d0 : chr s 0 - 48 = n := by rw [c0]; exact dig_in n1 n2 (by omega)
  have d2 : chr s 2 - 48 = t := by rw [c2]; exact dig_in t1 t2 (by omega)
  have hd : headF s = .ok (n, t) 4 := by
    unfold headF
    rw [d0, d2, c1, c3]
    rw [if_pos (by unfold inB; simp; omega), if_pos rfl, if_pos (by unfold inB; simp; omega), if_pos rfl]
  unfold textF
  rw [hd]
  show (match linesF n t s 17 [] 4 with | .bad c p => Out.bad c p | .ok ss k' => .ok ((n, t), ss) k') = _
  rw [linesF_back n2 t2 ss [] 17 4 (by omega) (by simpa using hl) (fun j u hu => ?_) hr (by omega)]
  · rfl
  · have := hgt j u (List.getElem?_eq_some_iff.1 hu).1 hu
    simpa using this

end Go.Proofs.YtacehfjhpnplbaaDoor

/- What was read is good, and its text is what was read. -/

namespace Go.Proofs.YtacehfjhpnplbaaDoor

theorem symN_inv {c x : Int} (h : symN c = some x) : c = ((letC x).toNat : Int) := by
  rcases symN_some h with ⟨j, hj, rfl, rfl⟩ | ⟨j, hj, rfl, rfl⟩
  · rcases six' hj with rfl | rfl | rfl | rfl | rfl | rfl <;> rfl
  · rcases four' hj with rfl | rfl | rfl | rfl <;> rfl
theorem symG_inv {n t c x : Int} (h : symG n t c = some x) : c = ((letC x).toNat : Int) ∧ symB n t x = true := by
  rcases symG_cases n t c with ⟨_, h2⟩ | ⟨y, _, _, h2⟩ | ⟨y, h1, hb, h2⟩
  · rw [h2] at h; cases h
  · rw [h2] at h; cases h
  · rw [h2] at h; injection h with h; subst h; exact ⟨symN_inv h1, hb⟩

theorem At.nil (s : ByteArray) (k : Nat) : At s k [] := fun i b h => by simp at h
theorem At.cons {s : ByteArray} {k : Nat} {b : UInt8} {bs : List UInt8} (h : chr s k = (b.toNat : Int)) (hs : At s (k + 1) bs) : At s k (b :: bs) := fun i c hc => by
  rcases i with _ | i
  · simp at hc; subst hc; exact h
  · have := hs i c (by simpa using hc)
    rw [show k + (i + 1) = k + 1 + i by omega]; exact this
theorem At.append {s : ByteArray} {k : Nat} {ds bs : List UInt8} (h : At s k ds) (hs : At s (k + ds.length) bs) : At s k (ds ++ bs) := fun i c hc => by
  by_cases e : i < ds.length
  · rw [List.getElem?_append_left e] at hc; exact h i c hc
  · rw [List.getElem?_append_right (by omega)] at hc
    have := hs (i - ds.length) c hc
    rw [show k + ds.length + (i - ds.length) = k + i by omega] at this; exact this
theorem chr_lt {s : ByteArray} {k : Nat} (h : 0 ≤ chr s k) : k < s.size := by
  unfold chr at h
  by_cases e : k < s.size
  · exact e
  · rw [dif_neg e] at h; omega

theorem rightF_inv {n t : Int} {s : ByteArray} : ∀ (f : Nat) (ys : List Int) (k : Nat) (zs : List Int) (k' : Nat), ys.length ≤ 4 → rightF n t s f ys k = .ok zs k' → ∃ xs, zs = ys ++ xs ∧ At s k (xs.map letC ++ [10]) ∧ k' = k + xs.length + 1 ∧ (∀ x ∈ xs, symB n t x = true) ∧ zs.length ≤ 4
  | 0, ys, k, zs, k', _, h => by cases h
  | f + 1, ys, k, zs, k', hy, h => by
    by_cases e : chr s k = 10
    · rw [rightF_end e] at h
      injection h with h1 h2
      subst h1 h2
      exact ⟨[], by simp, At.cons e (At.nil _ _), rfl, fun x hx => (by simp at hx), hy⟩
    · by_cases e4 : ys.length = 4
      · rw [rightF_full e e4] at h; cases h
      · cases hs : symG n t (chr s k) with
        | none => rw [rightF_none e e4 hs] at h; cases h
        | some x =>
          rw [rightF_some e e4 hs] at h
          obtain ⟨xs, h1, h2, h3, h4, h5⟩ := rightF_inv f (ys ++ [x]) (k + 1) zs k' (by simp; omega) h
          obtain ⟨i1, i2⟩ := symG_inv hs
          refine ⟨x :: xs, by rw [h1]; simp, At.cons i1 h2, by rw [h3, List.length_cons]; omega, fun y hy => ?_, h5⟩
          rcases List.mem_cons.1 hy with e | e
          · subst e; exact i2
          · exact h4 y e

theorem lineF_inv {n t : Int} {s : ByteArray} {ss : List (Int × List Int)} {k k' : Nat} {u : Int × List Int} (h : lineF n t s ss k = .ok u k') : At s k (lineL u) ∧ k' = k + (lineL u).length ∧ goodU n t u = true ∧ hasU ss u = false ∧ ss.length ≠ 16 := by
  unfold lineF at h
  cases hs : symG n 0 (chr s k) with
  | none => rw [hs] at h; cases h
  | some l =>
    rw [hs] at h
    simp only at h
    by_cases e1 : chr s (k + 1) = 61
    · rw [if_pos e1] at h
      cases hr : rightF n t s 5 [] (k + 2) with
      | bad c p => rw [hr] at h; cases h
      | ok xs k2 =>
        rw [hr] at h
        simp only at h
        by_cases e2 : hasU ss (l, xs) = true
        · rw [if_pos e2] at h; cases h
        · rw [if_neg e2] at h
          by_cases e3 : ss.length = 16
          · rw [if_pos e3] at h; cases h
          · rw [if_neg e3] at h
            injection h with h1 h2
            subst h1 h2
            obtain ⟨zs, r1, r2, r3, r4, r5⟩ := rightF_inv 5 [] (k + 2) xs k2 (by simp) hr
            simp only [List.nil_append] at r1
            subst r1
            obtain ⟨i1, i2⟩ := symG_inv hs
            have hL : lineL (l, xs) = letC l :: 61 :: (xs.map letC ++ [10]) := by simp [lineL]
            refine ⟨by rw [hL]; exact At.cons i1 (At.cons e1 r2), ?_, ?_, by simpa using e2, e3⟩
            · rw [hL, r3]; simp; omega
            · unfold goodU
              simp only [Bool.and_eq_true, decide_eq_true_eq]
              rw [symB_zero] at i2
              exact ⟨i2, r5, by unfold symsB; rw [List.all_eq_true]; exact r4⟩
    · rw [if_neg e1] at h; cases h

theorem linesF_inv {n t : Int} {s : ByteArray} : ∀ (f : Nat) (ss : List (Int × List Int)) (k : Nat) (zs : List (Int × List Int)) (k' : Nat), k ≤ s.size → f + ss.length = 17 → ss.length ≤ 16 → goodTo n t ss ss.length → linesF n t s f ss k = .ok zs k' → ∃ us, zs = ss ++ us ∧ At s k (us.flatMap lineL) ∧ k + (us.flatMap lineL).length = s.size ∧ k' = s.size ∧ zs.length ≤ 16 ∧ goodTo n t zs zs.length
  | 0, ss, k, zs, k', _, h1, h2, _, _ => by omega
  | f + 1, ss, k, zs, k', hk, h1, h2, hg, h => by
    unfold linesF at h
    by_cases e : k < s.size
    · rw [if_pos e] at h
      cases hl : lineF n t s ss k with
      | bad c p => rw [hl] at h; cases h
      | ok u k2 =>
        rw [hl] at h
        simp only at h
        obtain ⟨a1, a2, a3, a4, a5⟩ := lineF_inv hl
        have hk2 : k2 ≤ s.size := by
          have hL : lineL u = letC u.1 :: 61 :: (u.2.map letC ++ [10]) := by simp [lineL]
          have := a1 (2 + u.2.length) 10 (by rw [hL]; simp [Nat.add_comm 2])
          have hlt := chr_lt (s := s) (k := k + (2 + u.2.length)) (by rw [this]; omega)
          rw [hL] at a2
          simp at a2
          omega
        have hg' : goodTo n t (ss ++ [u]) (ss ++ [u]).length := by
          intro j v hj hv
          by_cases ej : j < ss.length
          · rw [List.getElem?_append_left ej] at hv
            have := hg j v ej hv
            rw [List.take_append_of_le_length (by omega)]
            exact this
          · have ej' : j = ss.length := by simp at hj; omega
            subst ej'
            simp at hv
            subst hv
            rw [List.take_left']
            · exact ⟨a3, a4⟩
            · rfl
        obtain ⟨us, b1, b2, b3, b4, b5, b6⟩ := linesF_inv f (ss ++ [u]) k2 zs k' hk2 (by simp; omega) (by simp; omega) hg' h
        subst a2
        refine ⟨u :: us, by rw [b1]; simp, ?_, ?_, b4, b5, b6⟩
        · rw [List.flatMap_cons]; exact At.append a1 b2
        · rw [List.flatMap_cons, List.length_append]; omega
    · rw [if_neg e] at h
      injection h with h3 h4
      subst h3 h4
      exact ⟨[], by simp, At.nil _ _, by simp; omega, by omega, h2, hg⟩

end Go.Proofs.YtacehfjhpnplbaaDoor

/- A text that is read: it is good, and it is the text of what was read; a fault has a number and a place. -/

namespace Go.Proofs.YtacehfjhpnplbaaDoor

theorem eq_str {s : ByteArray} {l : List UInt8} (h : At s 0 l) (hs : s.size = l.length) : s = str l := by
  have hd : s.data = l.toArray := by
    refine Array.ext (by simpa using hs) fun i h1 h2 => ?_
    have hi : i < s.size := h1
    have hl : i < l.length := by omega
    have := h i l[i] (List.getElem?_eq_getElem hl)
    rw [Nat.zero_add] at this
    unfold chr at this
    rw [dif_pos hi] at this
    have e : s[i].toNat = l[i].toNat := by omega
    have e2 := UInt8.toNat_inj.1 e
    have e3 : s.data[i] = l[i] := e2
    rw [e3]
    simp
  cases s
  simp only at hd
  subst hd
  rfl

theorem dig_back {c d : Int} (h : c - 48 = d) (h1 : 1 ≤ d) (h2 : d ≤ 6) : c = ((digC d).toNat : Int) := by
  have := dig_in h1 h2 (Int.le_refl _)
  omega

theorem headF_inv {s : ByteArray} {a : Int × Int} {k : Nat} (h : headF s = .ok a k) : k = 4 ∧ (1 ≤ a.1 ∧ a.1 ≤ 6) ∧ (1 ≤ a.2 ∧ a.2 ≤ 4) ∧ At s 0 [digC a.1, 32, digC a.2, 10] := by
  unfold headF at h
  by_cases h0 : inB 1 6 (chr s 0 - 48) = true
  · rw [if_pos h0] at h
    by_cases h1 : chr s 1 = 32
    · rw [if_pos h1] at h
      by_cases h2 : inB 1 4 (chr s 2 - 48) = true
      · rw [if_pos h2] at h
        by_cases h3 : chr s 3 = 10
        · rw [if_pos h3] at h
          injection h with e1 e2
          subst e1 e2
          have a1 := inB_lo h0
          have a2 := inB_hi h0
          have b1 := inB_lo h2
          have b2 := inB_hi h2
          exact ⟨rfl, ⟨a1, a2⟩, ⟨b1, b2⟩, At.cons (dig_back rfl a1 a2) (At.cons h1 (At.cons (dig_back rfl b1 (by omega)) (At.cons h3 (At.nil _ _))))⟩
        · rw [if_neg h3] at h; cases h
      · rw [if_neg h2] at h; cases h
    · rw [if_neg h1] at h; cases h
  · rw [if_neg h0] at h; cases h

theorem textF_inv {s : ByteArray} {n t : Int} {ss : List (Int × List Int)} {k : Nat} (h : textF s = .ok ((n, t), ss) k) : goodG n t ss = true ∧ str (textL n t ss) = s := by
  unfold textF at h
  cases hh : headF s with
  | bad c p => rw [hh] at h; cases h
  | ok a k1 =>
    rw [hh] at h
    simp only at h
    obtain ⟨rfl, hn, ht, ha⟩ := headF_inv hh
    cases hl : linesF a.1 a.2 s 17 [] 4 with
    | bad c p => rw [hl] at h; cases h
    | ok zs k2 =>
      rw [hl] at h
      simp only at h
      injection h with e1 e2
      injection e1 with e3 e4
      subst e3 e4 e2
      have h4 : 4 ≤ s.size := by
        have := ha 3 10 rfl
        have := chr_lt (s := s) (k := 3) (by rw [show (3 : Nat) = 0 + 3 from rfl, this]; omega)
        omega
      obtain ⟨us, b1, b2, b3, _, b5, b6⟩ := linesF_inv 17 [] 4 zs k2 h4 rfl (by simp) (fun j u hj => by simp at hj) hl
      simp only [List.nil_append] at b1
      subst b1
      refine ⟨?_, (eq_str ?_ ?_).symm⟩
      · unfold goodG
        simp only [Bool.and_eq_true, decide_eq_true_eq]
        exact ⟨hn, ht, b5, goodAll_iff.2 b6⟩
      · exact At.append ha b2
      · unfold textL
        rw [List.length_append, ← b3]
        rfl

theorem rightF_code {n t : Int} {s : ByteArray} : ∀ (f : Nat) (ys : List Int) (k : Nat) (c : Int) (p : Nat), rightF n t s f ys k = .bad c p → c ≠ 0
  | 0, ys, k, c, p, h => by injection h with h; omega
  | f + 1, ys, k, c, p, h => by
    by_cases e : chr s k = 10
    · rw [rightF_end e] at h; cases h
    · by_cases e4 : ys.length = 4
      · rw [rightF_full e e4] at h; injection h with h; omega
      · cases hs : symG n t (chr s k) with
        | none => rw [rightF_none e e4 hs] at h; injection h with h; omega
        | some x =>
          rw [rightF_some e e4 hs] at h
          exact rightF_code f _ _ c p h
theorem lineF_code {n t : Int} {s : ByteArray} {ss : List (Int × List Int)} {k p : Nat} {c : Int} (h : lineF n t s ss k = .bad c p) : c ≠ 0 := by
  unfold lineF at h
  cases hs : symG n 0 (chr s k) with
  | none => rw [hs] at h; injection h with h; omega
  | some l =>
    rw [hs] at h
    simp only at h
    by_cases e1 : chr s (k + 1) = 61
    · rw [if_pos e1] at h
      cases hr : rightF n t s 5 [] (k + 2) with
      | bad c2 p2 =>
        rw [hr] at h
        injection h with h1 h2
        subst h1
        exact rightF_code _ _ _ _ _ hr
      | ok xs k2 =>
        rw [hr] at h
        simp only at h
        by_cases e2 : hasU ss (l, xs) = true
        · rw [if_pos e2] at h; injection h with h; omega
        · rw [if_neg e2] at h
          by_cases e3 : ss.length = 16
          · rw [if_pos e3] at h; injection h with h; omega
          · rw [if_neg e3] at h; cases h
    · rw [if_neg e1] at h; injection h with h; omega
theorem linesF_code {n t : Int} {s : ByteArray} : ∀ (f : Nat) (ss : List (Int × List Int)) (k : Nat) (c : Int) (p : Nat), linesF n t s f ss k = .bad c p → c ≠ 0
  | 0, ss, k, c, p, h => by cases h
  | f + 1, ss, k, c, p, h => by
    unfold linesF at h
    by_cases e : k < s.size
    · rw [if_pos e] at h
      cases hl : lineF n t s ss k with
      | bad c2 p2 =>
        rw [hl] at h
        injection h with h1 h2
        subst h1
        exact lineF_code hl
      | ok u k2 =>
        rw [hl] at h
        exact linesF_code f _ _ c p h
    · rw [if_neg e] at h; cases h
theorem headF_code {s : ByteArray} {c : Int} {p : Nat} (h : headF s = .bad c p) : c ≠ 0 := by
  unfold headF at h
  by_cases h0 : inB 1 6 (chr s 0 - 48) = true
  · rw [if_pos h0] at h
    by_cases h1 : chr s 1 = 32
    · rw [if_pos h1] at h
      by_cases h2 : inB 1 4 (chr s 2 - 48) = true
      · rw [if_pos h2] at h
        by_cases h3 : chr s 3 = 10
        · rw [if_pos h3] at h; cases h
        · rw [if_neg h3] at h; injection h with h; omega
      · rw [if_neg h2] at h; injection h with h; omega
    · rw [if_neg h1] at h; injection h with h; omega
  · rw [if_neg h0] at h; injection h with h; omega
theorem textF_code {s : ByteArray} {c : Int} {p : Nat} (h : textF s = .bad c p) : c ≠ 0 := by
  unfold textF at h
  cases hh : headF s with
  | bad c2 p2 =>
    rw [hh] at h
    injection h with h1 h2
    subst h1
    exact headF_code hh
  | ok a k1 =>
    rw [hh] at h
    simp only at h
    cases hl : linesF a.1 a.2 s 17 [] k1 with
    | bad c2 p2 =>
      rw [hl] at h
      injection h with h1 h2
      subst h1
      exact linesF_code _ _ _ _ _ hl
    | ok zs k2 => rw [hl] at h; cases h

end Go.Proofs.YtacehfjhpnplbaaDoor

/- A word is read back from its text. -/

namespace Go.Proofs.YtacehfjhpnplbaaDoor

theorem tokO_tokC {t x : Int} (h0 : 0 ≤ x) (h1 : x < t) (h2 : t ≤ 4) : tokO t ((tokC x).toNat : Int) = some x := by
  have hs : symN ((tokC x).toNat : Int) = some (-1 - x) := by
    obtain rfl | rfl | rfl | rfl : x = 0 ∨ x = 1 ∨ x = 2 ∨ x = 3 := by omega
    all_goals decide
  unfold tokO
  rw [hs]
  show (if nonB t (-1 - (-1 - x)) = true then some (-1 - (-1 - x)) else none) = _
  have e : (-1 - (-1 - x) : Int) = x := by omega
  rw [e, if_pos (nonB_t h0 h1)]

theorem wordTo_back {t : Int} {xs : List Int} (hx : ∀ x ∈ xs, 0 ≤ x ∧ x < t) (h2 : t ≤ 4) : ∀ k, k ≤ xs.length → WordTo t (str (wordL xs)) k (xs.take k)
  | 0, _ => WordTo.zero _ _
  | k + 1, hk => by
    have h := wordTo_back hx h2 k (by omega)
    have hc : chr (str (wordL xs)) k = ((tokC xs[k]).toNat : Int) := chr_str (by unfold wordL; rw [List.getElem?_map, List.getElem?_eq_getElem (by omega)]; rfl)
    have hm := hx xs[k] (List.getElem_mem _)
    have h3 := h.step (y := xs[k]) (by rw [hc]; exact tokO_tokC hm.1 hm.2 h2)
    rw [List.take_succ_eq_append_getElem (by omega)]
    exact h3

end Go.Proofs.YtacehfjhpnplbaaDoor

/- A fault's place lies within the text. -/

namespace Go.Proofs.YtacehfjhpnplbaaDoor

theorem lineF_place {n t : Int} {s : ByteArray} {ss : List (Int × List Int)} {k p : Nat} {c : Int} (hk : k ≤ s.size) (h : lineF n t s ss k = .bad c p) : p ≤ s.size := by
  unfold lineF at h
  cases hs : symG n 0 (chr s k) with
  | none => rw [hs] at h; injection h with h1 h2; omega
  | some l =>
    have hk1 := symG_lt hs
    rw [hs] at h
    simp only at h
    by_cases e1 : chr s (k + 1) = 61
    · have hk2 : k + 1 < s.size := chr_lt (by rw [e1]; omega)
      rw [if_pos e1] at h
      have hb := rightF_bd (n := n) (t := t) (s := s) 5 [] (k + 2) (by omega)
      cases hr : rightF n t s 5 [] (k + 2) with
      | bad c2 p2 =>
        rw [hr] at h hb
        injection h with h1 h2
        subst h2
        exact hb
      | ok xs k2 =>
        rw [hr] at h
        simp only at h
        by_cases e2 : hasU ss (l, xs) = true
        · rw [if_pos e2] at h; injection h with h1 h2; omega
        · rw [if_neg e2] at h
          by_cases e3 : ss.length = 16
          · rw [if_pos e3] at h; injection h with h1 h2; omega
          · rw [if_neg e3] at h; cases h
    · rw [if_neg e1] at h; injection h with h1 h2; omega
theorem lineF_end {n t : Int} {s : ByteArray} {ss : List (Int × List Int)} {k k' : Nat} {u : Int × List Int} (h : lineF n t s ss k = .ok u k') : k' ≤ s.size := by
  obtain ⟨a1, a2, _⟩ := lineF_inv h
  have hL : lineL u = letC u.1 :: 61 :: (u.2.map letC ++ [10]) := by simp [lineL]
  have := a1 (2 + u.2.length) 10 (by rw [hL]; simp [Nat.add_comm 2])
  have hlt := chr_lt (s := s) (k := k + (2 + u.2.length)) (by rw [this]; omega)
  rw [hL] at a2
  simp at a2
  omega
theorem linesF_place {n t : Int} {s : ByteArray} : ∀ (f : Nat) (ss : List (Int × List Int)) (k : Nat) (c : Int) (p : Nat), k ≤ s.size → linesF n t s f ss k = .bad c p → p ≤ s.size
  | 0, ss, k, c, p, _, h => by cases h
  | f + 1, ss, k, c, p, hk, h => by
    unfold linesF at h
    by_cases e : k < s.size
    · rw [if_pos e] at h
      cases hl : lineF n t s ss k with
      | bad c2 p2 =>
        rw [hl] at h
        injection h with h1 h2
        subst h2
        exact lineF_place hk hl
      | ok u k2 =>
        rw [hl] at h
        exact linesF_place f _ _ c p (lineF_end hl) h
    · rw [if_neg e] at h; cases h
theorem headF_place {s : ByteArray} {c : Int} {p : Nat} (h : headF s = .bad c p) : p ≤ s.size := by
  unfold headF at h
  by_cases h0 : inB 1 6 (chr s 0 - 48) = true
  · have l0 : 0 < s.size := chr_lt (by have := inB_lo h0; omega)
    rw [if_pos h0] at h
    by_cases h1 : chr s 1 = 32
    · have l1 : 1 < s.size := chr_lt (by omega)
      rw [if_pos h1] at h
      by_cases h2 : inB 1 4 (chr s 2 - 48) = true
      · have l2 : 2 < s.size := chr_lt (by have := inB_lo h2; omega)
        rw [if_pos h2] at h
        by_cases h3 : chr s 3 = 10
        · rw [if_pos h3] at h; cases h
        · rw [if_neg h3] at h; injection h with h4 h5; omega
      · rw [if_neg h2] at h; injection h with h4 h5; omega
    · rw [if_neg h1] at h; injection h with h4 h5; omega
  · rw [if_neg h0] at h; injection h with h4 h5; omega
theorem textF_place {s : ByteArray} {c : Int} {p : Nat} (h : textF s = .bad c p) : p ≤ s.size := by
  unfold textF at h
  cases hh : headF s with
  | bad c2 p2 =>
    rw [hh] at h
    injection h with h1 h2
    subst h2
    exact headF_place hh
  | ok a k1 =>
    rw [hh] at h
    simp only at h
    obtain ⟨rfl, _, _, ha⟩ := headF_inv hh
    have h4 : 3 < s.size := by
      have := ha 3 10 rfl
      exact chr_lt (s := s) (k := 3) (by rw [show (3 : Nat) = 0 + 3 from rfl, this]; omega)
    cases hl : linesF a.1 a.2 s 17 [] 4 with
    | bad c2 p2 =>
      rw [hl] at h
      injection h with h1 h2
      subst h2
      exact linesF_place _ _ _ _ _ (by omega) hl
    | ok zs k2 => rw [hl] at h; cases h

end Go.Proofs.YtacehfjhpnplbaaDoor

/- The reference's cursor: next and pick. -/

namespace Go.Proofs.YtacehfjhpnplbaaDoor
open Go.RowKit

/-- Bytes that can be read, below a block. -/
def Byts (w : World) (B : Nat) (A : Option Addr) (n : Nat) : Prop := 0 < n → ∃ b o, A = some ⟨b, o, none⟩ ∧ b < B ∧ ∀ j : Nat, j < n → ∃ x : Int, 0 ≤ x ∧ x < 256 ∧ w.cell? ⟨b, o + j, none⟩ = some (.int .u8 x)
theorem Byts.keep {w w' : World} {B : Nat} {A : Option Addr} {n : Nat} (h : Byts w B A n) (hk : Below B w w') : Byts w' B A n := by
  intro hn
  obtain ⟨b, o, e, hb, hc⟩ := h hn
  refine ⟨b, o, e, hb, fun j hj => ?_⟩
  obtain ⟨x, h0, h1, h2⟩ := hc j hj
  exact ⟨x, h0, h1, (hk.cell (p := ⟨b, o + j, none⟩) hb).trans h2⟩
theorem Byts.more {w : World} {B B' : Nat} {A : Option Addr} {n : Nat} (h : Byts w B A n) (hB : B ≤ B') : Byts w B' A n := by
  intro hn
  obtain ⟨b, o, e, hb, hc⟩ := h hn
  exact ⟨b, o, e, by omega, hc⟩

/-- A cursor lies in block R; it has gone on m places at most. -/
def CurS (w : World) (R m : Nat) : Prop :=
  ∃ (A : Option Addr) (n c : Nat) (k sd : Int), Row w R 77 #[.slice A n c, .int .i64 k, .int .u64 sd] ∧ n ≤ 1048576 ∧ 0 ≤ k ∧ k ≤ m ∧ 0 ≤ sd ∧ sd < 18446744073709551616 ∧ Byts w R A n

theorem CurS.lt {w : World} {R m : Nat} (h : CurS w R m) : R < w.heap.size := by obtain ⟨_, _, _, _, _, h, _⟩ := h; exact h.lt
theorem CurS.keep {w w' : World} {R m B : Nat} (h : CurS w R m) (hb : Below B w w') (hR : R < B) : CurS w' R m := by
  obtain ⟨A, n, c, k, sd, h1, h2, h3, h4, h5, h6, h7⟩ := h
  exact ⟨A, n, c, k, sd, h1.below hb hR, h2, h3, h4, h5, h6, h7.keep (hb.mono (by omega))⟩
theorem CurS.mono {w : World} {R m m' : Nat} (h : CurS w R m) (hm : m ≤ m') : CurS w R m' := by
  obtain ⟨A, n, c, k, sd, h1, h2, h3, h4, h5⟩ := h
  exact ⟨A, n, c, k, sd, h1, h2, h3, by omega, h5⟩
/-- Only blocks above R have turned. -/
theorem CurS.save {S : Nat → Prop} {w w' : World} {R m : Nat} (h : CurS w R m) (hs : Save S w w') (hS : ∀ b, b ≤ R → ¬ S b) : CurS w' R m :=
  h.keep (B := R + 1) (hs.below (by have := h.lt; omega) fun i hi => hS i (by omega)) (by omega)

/-- A number is told, and the cursor goes on. -/
def Told (w : World) (R m : Nat) (P : Int → Prop) (e : Ending) (w' : World) : Prop := ∃ x, e = .returned (.int .i64 x) ∧ P x ∧ CurS w' R m ∧ Save (· = R) w w'

theorem shift_bits (sd : Int) (h0 : 0 ≤ sd) (h1 : sd < 18446744073709551616) : 0 ≤ bits BinOp.and IntKind.u64 (sd / 1099511627776) 255 ∧ bits BinOp.and IntKind.u64 (sd / 1099511627776) 255 < 256 := by
  have h := bits_and_u64_nat (sd / 1099511627776).toNat 255 (by omega) (by omega)
  have e : (((sd / 1099511627776).toNat : Nat) : Int) = sd / 1099511627776 := by omega
  rw [e] at h
  have h255 : ((255 : Nat) : Int) = 255 := rfl
  rw [h255] at h
  rw [h]
  have : (sd / 1099511627776).toNat &&& 255 ≤ 255 := Nat.and_le_right
  omega

theorem cur_again {w W : World} {R m n c : Nat} {A : Option Addr} {k sd : Int} (hs : Save (· = R) w W) (hW : Row W R 77 #[.slice A n c, .int .i64 k, .int .u64 sd]) (hR : R < w.heap.size) (h2 : n ≤ 1048576) (h3 : 0 ≤ k) (h4 : k ≤ m) (h5 : 0 ≤ sd ∧ sd < 18446744073709551616) (h7 : Byts w R A n) : CurS W R m :=
  ⟨A, n, c, k, sd, hW, h2, h3, h4, h5.1, h5.2, h7.keep (hs.below (by omega) fun i hi => by omega)⟩
theorem Save.drewN {S : Nat → Prop} {w W : World} (h : Save S w W) (i : Nat) : Save S w (W.drewN i) := h.trans (Save.of_below (below_drewN (Below.refl _ _) _))
theorem CurS.drewN {w : World} {R m : Nat} (h : CurS w R m) (i : Nat) : CurS (w.drewN i) R m := h
theorem wrap_bound (x : Int) : 0 ≤ IntKind.u64.wrap x ∧ IntKind.u64.wrap x < 18446744073709551616 := by
  rw [IntKind.wrap_u64]; omega

set_option maxRecDepth 20000 in
set_option maxHeartbeats 2000000 in
theorem curNext_any (R m : Nat) (w : World) (h : CurS w R m) (hm : m ≤ 1000000) : Calls Tryd.prog 112 #[.pointer (some ⟨R, 0, none⟩)] w (Told w R (m + 1) fun x => 0 ≤ x ∧ x < 256) := by
  have hlR := h.lt
  obtain ⟨A, n, c, k, sd, h1, h2, h3, h4, h5, h6, h7⟩ := h
  have HR := Lib.hid h1; clear h1
  have c0 : w.cell? ⟨R, 0, none⟩ = some (.slice A n c) := HR.out.cell 0
  have c1 : w.cell? ⟨R, 1, none⟩ = some (.int .i64 k) := HR.out.cell 1
  have c2 : w.cell? ⟨R, 2, none⟩ = some (.int .u64 sd) := HR.out.cell 2
  have f1 := HR.out.frozen 1
  have f2 := HR.out.frozen 2
  by_cases hlt : k < (n : Int)
  · obtain ⟨b, o, rfl, hb, hc⟩ := h7 (by omega)
    obtain ⟨j, rfl⟩ : ∃ j : Nat, k = (j : Int) := ⟨k.toNat, by omega⟩
    obtain ⟨x, x0, x1, hx⟩ := hc j (by omega)
    have HBy := Lib.hid h7; clear h7 hc
    go_enter Tryd.func112, Tryd.ntmps112
    go_wp2
    go_quiet (fail)
    obtain ⟨q1, hq1⟩ : ∃ x, x = nq := ⟨nq, rfl⟩
    subst hq1
    go_wp2
    go_quiet (fail)
    go_wp2
    have hS : Save (· = R) w (((w.drewN (q1 + nq)).setCell ⟨R, 1, none⟩ (.int .i64 ((j : Int) + 1))).setCell ⟨R, 2, none⟩ (.int .u64 (IntKind.u64.wrap (IntKind.u64.wrap (IntKind.u64.wrap (sd * 6364136223846793005) + x) + 1442695040888963407)))) := Save.setCell (S := (· = R)) (p := ⟨R, 2, none⟩) (Save.setCell (S := (· = R)) (p := ⟨R, 1, none⟩) (Save.of_below (below_drewN (Below.refl _ _) _)) rfl _) rfl _
    have hW := (Row.set (w := w.drewN (q1 + nq)) HR.out 1 (.int .i64 ((j : Int) + 1))).set 2 (.int .u64 (IntKind.u64.wrap (IntKind.u64.wrap (IntKind.u64.wrap (sd * 6364136223846793005) + x) + 1442695040888963407)))
    have hb := wrap_bound (IntKind.u64.wrap (IntKind.u64.wrap (sd * 6364136223846793005) + x) + 1442695040888963407)
    generalize IntKind.u64.wrap (IntKind.u64.wrap (IntKind.u64.wrap (sd * 6364136223846793005) + x) + 1442695040888963407) = sd' at hS hW hb ⊢
    generalize (((w.drewN (q1 + nq)).setCell ⟨R, 1, none⟩ (.int .i64 ((j : Int) + 1))).setCell ⟨R, 2, none⟩ (.int .u64 sd')) = W at hS hW ⊢
    have HC := Lib.hid (cur_again (m := m + 1) hS hW hlR h2 (by omega) (by omega) hb HBy.out)
    have HS := Lib.hid hS
    clear c0 c1 c2 f1 f2 hS
    have c0 : W.cell? ⟨R, 0, none⟩ = some (.slice (some ⟨b, o, none⟩) n c) := hW.cell 0
    have c1 : W.cell? ⟨R, 1, none⟩ = some (.int .i64 ((j : Int) + 1)) := hW.cell 1
    clear hW hx
    go_quiet (fail)
    go_wp2
    go_ret
    exact ⟨x, rfl, ⟨x0, x1⟩, HC.out, HS.out.drewN _⟩
  · have HBy := Lib.hid h7; clear h7
    go_enter Tryd.func112, Tryd.ntmps112
    go_wp2
    go_quiet (fail)
    obtain ⟨q1, hq1⟩ : ∃ x, x = nq := ⟨nq, rfl⟩
    subst hq1
    go_wp2
    have hS : Save (· = R) w (((w.drewN q1).setCell ⟨R, 1, none⟩ (.int .i64 (k + 1))).setCell ⟨R, 2, none⟩ (.int .u64 (IntKind.u64.wrap (IntKind.u64.wrap (IntKind.u64.wrap (sd * 6364136223846793005)) + 1442695040888963407)))) := Save.setCell (S := (· = R)) (p := ⟨R, 2, none⟩) (Save.setCell (S := (· = R)) (p := ⟨R, 1, none⟩) (Save.of_below (below_drewN (Below.refl _ _) _)) rfl _) rfl _
    have hW := (Row.set (w := w.drewN q1) HR.out 1 (.int .i64 (k + 1))).set 2 (.int .u64 (IntKind.u64.wrap (IntKind.u64.wrap (IntKind.u64.wrap (sd * 6364136223846793005)) + 1442695040888963407)))
    have hb := wrap_bound (IntKind.u64.wrap (IntKind.u64.wrap (sd * 6364136223846793005)) + 1442695040888963407)
    generalize IntKind.u64.wrap (IntKind.u64.wrap (IntKind.u64.wrap (sd * 6364136223846793005)) + 1442695040888963407) = sd' at hS hW hb ⊢
    generalize (((w.drewN q1).setCell ⟨R, 1, none⟩ (.int .i64 (k + 1))).setCell ⟨R, 2, none⟩ (.int .u64 sd')) = W at hS hW ⊢
    have HC := Lib.hid (cur_again (m := m + 1) hS hW hlR h2 (by omega) (by omega) hb HBy.out)
    have HS := Lib.hid hS
    have hbb := shift_bits sd' hb.1 hb.2
    obtain ⟨hb1, hb2⟩ := hb
    obtain ⟨hb3, hb4⟩ := hbb
    clear c0 c1 c2 f1 f2 hS
    have c0 : W.cell? ⟨R, 0, none⟩ = some (.slice A n c) := hW.cell 0
    have c1 : W.cell? ⟨R, 1, none⟩ = some (.int .i64 (k + 1)) := hW.cell 1
    have c2 : W.cell? ⟨R, 2, none⟩ = some (.int .u64 sd') := hW.cell 2
    clear hW
    go_quiet (fail)
    go_wp2
    go_ret
    exact ⟨_, rfl, ⟨hb3, hb4⟩, HC.out, HS.out.drewN _⟩

end Go.Proofs.YtacehfjhpnplbaaDoor

/- The reference's cursor: pick, one. -/

namespace Go.Proofs.YtacehfjhpnplbaaDoor
open Go.RowKit

def Pk (n x : Int) : Prop := 0 ≤ x ∧ x ≤ 65535 ∧ (x = 0 ∨ x < n)

theorem pk_mod {n x : Int} (h0 : 0 ≤ x) (h1 : x ≤ 65535) (hn : 1 < n) : Pk n (x % n) := by
  have a := Int.emod_nonneg x (show n ≠ 0 by omega)
  have b := Int.emod_lt_of_pos x (show 0 < n by omega)
  refine ⟨a, ?_, Or.inr b⟩
  by_cases h : x < n
  · rw [Int.emod_eq_of_lt h0 h]; exact h1
  · omega

set_option maxRecDepth 20000 in
set_option maxHeartbeats 2000000 in
theorem curPick_any (R m : Nat) (n : Int) (w : World) (h : CurS w R m) (hm : m ≤ 999999) (hn : n ≤ 4398046511104) : Calls Tryd.prog 64 #[.pointer (some ⟨R, 0, none⟩), .int .i64 n] w (Told w R (m + 2) (Pk n)) := by
  have HC := Lib.hid h; clear h
  by_cases h1 : n ≤ 1
  · go_enter Tryd.func64, Tryd.ntmps64
    go_wp2
    go_ret
    exact ⟨0, rfl, ⟨by omega, by omega, Or.inl rfl⟩, HC.out.mono (by omega), Save.refl _ _⟩
  · by_cases h2 : n ≤ 200
    · go_enter Tryd.func64, Tryd.ntmps64
      go_wp2_with fail
      refine (curNext_any R m _ HC.out (by omega)).mono ?_
      rintro _ w1 ⟨x, rfl, ⟨hx0, hx1⟩, hC1, hS1⟩
      have HC1 := Lib.hid hC1; clear hC1
      have HS1 := Lib.hid hS1; clear hS1
      go_wp2_with fail
      go_ret
      exact ⟨_, rfl, pk_mod hx0 (by omega) (by omega), HC1.out.mono (by omega), HS1.out⟩
    · go_enter Tryd.func64, Tryd.ntmps64
      go_wp2_with fail
      refine (curNext_any R m _ HC.out (by omega)).mono ?_
      rintro _ w1 ⟨x, rfl, ⟨hx0, hx1⟩, hC1, hS1⟩
      have HC1 := Lib.hid hC1; clear hC1
      have HS1 := Lib.hid hS1; clear hS1
      go_wp2_with fail
      refine (curNext_any R (m + 1) _ HC1.out (by omega)).mono ?_
      rintro _ w2 ⟨y, rfl, ⟨hy0, hy1⟩, hC2, hS2⟩
      have HC2 := Lib.hid hC2; clear hC2
      have HS2 := Lib.hid hS2; clear hS2
      go_wp2_with fail
      go_ret
      exact ⟨_, rfl, pk_mod (by omega) (by omega) (by omega), HC2.out, HS1.out.trans HS2.out⟩

/-- A boolean is told. -/
def ToldB (w : World) (R m : Nat) (e : Ending) (w' : World) : Prop := ∃ b, e = .returned (.bool b) ∧ CurS w' R m ∧ Save (· = R) w w'

set_option maxRecDepth 20000 in
set_option maxHeartbeats 2000000 in
theorem curOne_any (R m : Nat) (n : Int) (w : World) (h : CurS w R m) (hm : m ≤ 999999) (hn : n ≤ 4398046511104) : Calls Tryd.prog 74 #[.pointer (some ⟨R, 0, none⟩), .int .i64 n] w (ToldB w R (m + 2)) := by
  have HC := Lib.hid h; clear h
  go_enter Tryd.func74, Tryd.ntmps74
  go_wp2_with fail
  refine (curPick_any R m n _ HC.out hm hn).mono ?_
  rintro _ w1 ⟨x, rfl, hx, hC1, hS1⟩
  have HC1 := Lib.hid hC1; clear hC1
  have HS1 := Lib.hid hS1; clear hS1
  have HX := Lib.hid hx; clear hx
  go_wp2_with fail
  go_ret
  exact ⟨_, rfl, HC1.out, HS1.out⟩

/-- Texts in a row above the cursor. -/
def Txts (w : World) (R : Nat) (A : Option Addr) (P : ByteArray → Prop) (n : Nat) : Prop := ∃ b o, A = some ⟨b, o, none⟩ ∧ R < b ∧ b < w.heap.size ∧ ∀ j : Nat, j < n → ∃ s : ByteArray, P s ∧ w.cell? ⟨b, o + j, none⟩ = some (.string s)
theorem Save.cell {S : Nat → Prop} {w w' : World} (h : Save S w w') {p : Addr} (hp : p.block < w.heap.size) (hS : ¬ S p.block) : w'.cell? p = w.cell? p := by
  simp only [World.cell?, h.block _ hp hS]
theorem Txts.save {w w' : World} {R n : Nat} {A : Option Addr} {P : ByteArray → Prop} (h : Txts w R A P n) (hs : Save (· = R) w w') : Txts w' R A P n := by
  obtain ⟨b, o, e, hR, hb, hc⟩ := h
  refine ⟨b, o, e, hR, Nat.lt_of_lt_of_le hb hs.size, fun j hj => ?_⟩
  obtain ⟨s, h1, h2⟩ := hc j hj
  exact ⟨s, h1, (hs.cell (p := ⟨b, o + j, none⟩) hb (by simp; omega)).trans h2⟩

set_option maxRecDepth 20000 in
set_option maxHeartbeats 2000000 in
theorem curAmong_any (R m : Nat) (A : Option Addr) (xs : List Int) (c : Nat) (w : World) (h : CurS w R m) (hm : m ≤ 999999) (hA : OwnI w (R + 1) A xs) (hx1 : 0 < xs.length) (hx2 : xs.length ≤ 1000) : Calls Tryd.prog 111 #[.pointer (some ⟨R, 0, none⟩), .slice A xs.length c] w (Told w R (m + 2) (· ∈ xs)) := by
  have HC := Lib.hid h; clear h
  have HI := Lib.hid hA; clear hA
  have HR := Lib.hid HC.out.lt
  go_enter Tryd.func111, Tryd.ntmps111
  go_wp2_with fail
  refine (curPick_any R m _ _ HC.out hm (by omega)).mono ?_
  rintro _ w1 ⟨x, rfl, hx, hC1, hS1⟩
  have HI1 : Hid (OwnI w1 (R + 1) A xs) := HI.out.save hS1 fun g e hne => by
    obtain ⟨g', e', hg, _⟩ := HI.out.at_ hx1
    rw [e] at e'; cases e'; omega
  have HC1 := Lib.hid hC1; clear hC1
  have HS1 := Lib.hid hS1; clear hS1
  obtain ⟨j, rfl⟩ : ∃ j : Nat, x = (j : Int) := ⟨x.toNat, by have := hx.1; omega⟩
  have hj : j < xs.length := by have := hx.2.2; omega
  obtain ⟨b, rfl, hb, hbl, hcell, hfr⟩ := HI1.out.at_ hj
  clear hx
  go_wp2_with fail
  go_ret
  exact ⟨_, rfl, List.getElem_mem hj, HC1.out, HS1.out⟩

/-- A text is told. -/
def ToldT (w : World) (R m : Nat) (P : ByteArray → Prop) (e : Ending) (w' : World) : Prop := ∃ s, e = .returned (.string s) ∧ P s ∧ CurS w' R m ∧ Save (· = R) w w'

set_option maxRecDepth 20000 in
set_option maxHeartbeats 2000000 in
theorem curOf_any (R m : Nat) (A : Option Addr) (P : ByteArray → Prop) (n c : Nat) (w : World) (h : CurS w R m) (hm : m ≤ 999999) (hA : Txts w R A P n) (hx1 : 0 < n) (hx2 : n ≤ 1000) : Calls Tryd.prog 66 #[.pointer (some ⟨R, 0, none⟩), .slice A n c] w (ToldT w R (m + 2) P) := by
  have HC := Lib.hid h; clear h
  have HI := Lib.hid hA; clear hA
  go_enter Tryd.func66, Tryd.ntmps66
  go_wp2_with fail
  refine (curPick_any R m _ _ HC.out hm (by omega)).mono ?_
  rintro _ w1 ⟨x, rfl, hx, hC1, hS1⟩
  obtain ⟨b, o, rfl, hRb, hb, hcs⟩ := HI.out.save hS1
  have HC1 := Lib.hid hC1; clear hC1
  have HS1 := Lib.hid hS1; clear hS1
  obtain ⟨j, rfl⟩ : ∃ j : Nat, x = (j : Int) := ⟨x.toNat, by have := hx.1; omega⟩
  have hj : j < n := by have := hx.2.2; omega
  obtain ⟨s, hP, hcell⟩ := hcs j hj
  have HP := Lib.hid hP
  clear hx hcs hP
  go_wp2_with fail
  go_ret
  exact ⟨_, rfl, HP.out, HC1.out, HS1.out⟩

end Go.Proofs.YtacehfjhpnplbaaDoor

/- The reference's cursor: spoilt. -/

namespace Go.Proofs.YtacehfjhpnplbaaDoor
open Go.RowKit

theorem sz_in (s : ByteArray) (j : Nat) (c : UInt8) {n k : Nat} (hj : j < s.size) (h : s.size + n ≤ k) (hn : 0 < n) : (s.extract 0 j ++ ⟨#[c]⟩ ++ s.extract j s.size).size + (n - 1) ≤ k := by
  have : (⟨#[c]⟩ : ByteArray).size = 1 := rfl
  simp only [ByteArray.size_append, ByteArray.size_extract, this]; omega
theorem sz_at (s : ByteArray) (j : Nat) (c : UInt8) {n k : Nat} (hj : j < s.size) (h : s.size + n ≤ k) (hn : 0 < n) : (s.extract 0 j ++ ⟨#[c]⟩ ++ s.extract (j + 1) s.size).size + (n - 1) ≤ k := by
  have : (⟨#[c]⟩ : ByteArray).size = 1 := rfl
  simp only [ByteArray.size_append, ByteArray.size_extract, this]; omega
theorem sz_out (s : ByteArray) (j : Nat) {n k : Nat} (hj : j < s.size) (h : s.size + n ≤ k) (hn : 0 < n) : (s.extract 0 j ++ s.extract (j + 1) s.size).size + (n - 1) ≤ k := by
  simp only [ByteArray.size_append, ByteArray.size_extract]; omega

set_option maxRecDepth 20000 in
set_option maxHeartbeats 4000000 in
theorem curSpoilt_any (R m K : Nat) (t u : ByteArray) (w : World) (h : CurS w R m) (hm : m ≤ 999900) (ht : t.size + 2 ≤ K) (hK : K ≤ 100000) (hu1 : 0 < u.size) (hu2 : u.size ≤ 100) : Calls Tryd.prog 65 #[.pointer (some ⟨R, 0, none⟩), .string t, .string u] w (ToldT w R (m + 14) fun s => s.size ≤ K) := by
  have HC := Lib.hid h; clear h
  go_enter Tryd.func65, Tryd.ntmps65
  go_wp2_with fail
  refine (curPick_any R m _ _ HC.out (by omega) (by omega)).mono ?_
  rintro _ w1 ⟨x, rfl, hx, hC1, hS1⟩
  obtain ⟨x0, hx⟩ : ∃ x0 : Nat, x = (x0 : Int) := ⟨x.toNat, by have := hx.1; omega⟩
  rename Pk 2 x => hp
  subst hx
  have hx1 : x0 < 2 := by have := hp.2.2; omega
  clear hp
  have HC1 := Lib.hid hC1; clear hC1
  have HS1 := Lib.hid hS1; clear hS1
  go_wp2_with fail
  go_loopw [1, 7] (fun v i wr => ∃ (n : Nat) (s : ByteArray), n ≤ 2 ∧ i = .int .i64 n ∧ v = .string s ∧ s.size + n ≤ K ∧ Hid (CurS wr R (m + 2 + (2 - n) * 6)) ∧ Hid (Save (· = R) w wr)) (fun _ i _ => (intOf i).toNat)
  case atStart => exact ⟨x0 + 1, t, by omega, by go_num, rfl, by omega, HC1.out.mono (by omega), HS1.out⟩
  case round =>
    obtain ⟨n, s, hn, rfl, rfl, hs, H, HS⟩ := hrel
    obtain ⟨wA, hA⟩ : ∃ x, x = wr := ⟨_, rfl⟩
    subst hA
    by_cases hz : 0 < n ∧ 0 < s.size
    · obtain ⟨hz1, hz2⟩ := hz
      go_wp2_with fail
      refine (curPick_any R _ _ _ H.out (by omega) (by omega)).mono ?_
      rintro _ w2 ⟨y, rfl, hy, hC2, hS2⟩
      obtain ⟨j, hj⟩ : ∃ j : Nat, y = (j : Int) := ⟨y.toNat, by have := hy.1; omega⟩
      subst hj
      have hjs : j < s.size := by have := hy.2.2; omega
      clear hy
      have HC2 := Lib.hid hC2; clear hC2
      have HS2 := Lib.hid (HS.out.trans hS2); clear hS2
      clear H HS
      go_wp2_with fail
      refine (curPick_any R _ _ _ HC2.out (by omega) (by omega)).mono ?_
      rintro _ w3 ⟨z, rfl, hz, hC3, hS3⟩
      obtain ⟨l, hl⟩ : ∃ l : Nat, z = (l : Int) := ⟨z.toNat, by have := hz.1; omega⟩
      subst hl
      have hlu : l < u.size := by have := hz.2.2; omega
      clear hz
      have HC3 := Lib.hid hC3; clear hC3
      have HS3 := Lib.hid (HS2.out.trans hS3); clear hS3
      clear HC2 HS2
      have kc := one_string w3 u[l]
      have HB4 : Hid (Below w3.heap.size w3 (w3.alloc (.cells #[.int .u8 (u[l].toNat : Int)] 5))) := by show Below _ _ _; go_grown
      go_wp2_with fail
      have HC4 : Hid (CurS (w3.alloc (.cells #[.int .u8 (u[l].toNat : Int)] 5)) R _) := HC3.out.keep HB4.out HC3.out.lt
      have HS4 : Hid (Save (· = R) w (w3.alloc (.cells #[.int .u8 (u[l].toNat : Int)] 5))) := HS3.out.trans (Save.of_below HB4.out)
      clear kc HB4
      generalize w3.alloc (.cells #[.int .u8 (u[l].toNat : Int)] 5) = w4 at HC4 HS4 ⊢
      clear HC3 HS3
      refine (curPick_any R _ _ _ HC4.out (by omega) (by omega)).mono ?_
      rintro _ w5 ⟨p, rfl, hp, hC5, hS5⟩
      have HC5 : Hid (CurS w5 R (m + 2 + (2 - (n - 1)) * 6)) := hC5.mono (by omega)
      have HS5 := Lib.hid (HS4.out.trans hS5); clear hS5 hC5
      clear HC4 HS4 hp
      by_cases hp0 : p = 0
      · subst hp0
        go_wp2_with fail
        go_quiet (fail)
        go_wp2
        go_roundw
        case rel => exact ⟨n - 1, _, by omega, by go_num, rfl, sz_in s j _ hjs hs hz1, HC5.out, HS5.out.drewN _⟩
        case measure => simp [intOf]; omega
      · by_cases hp1 : p = 1
        · subst hp1
          go_wp2_with fail
          go_quiet (fail)
          go_wp2
          go_roundw
          case rel => exact ⟨n - 1, _, by omega, by go_num, rfl, sz_at s j _ hjs hs hz1, HC5.out, HS5.out.drewN _⟩
          case measure => simp [intOf]; omega
        · go_wp2_with fail
          go_quiet (fail)
          go_wp2
          go_roundw
          case rel => exact ⟨n - 1, _, by omega, by go_num, rfl, sz_out s j hjs hs hz1, HC5.out, HS5.out.drewN _⟩
          case measure => simp [intOf]; omega
    · by_cases hn0 : n = 0
      · subst hn0
        go_wp2
        go_ret
        exact ⟨_, rfl, by omega, H.out.mono (by omega), HS.out⟩
      · have hs0 : s.size = 0 := by omega
        clear hz
        go_wp2
        go_ret
        exact ⟨_, rfl, by omega, H.out.mono (by omega), HS.out⟩

end Go.Proofs.YtacehfjhpnplbaaDoor

/- The program's readCount and readByte. -/

namespace Go.Proofs.YtacehfjhpnplbaaDoor
open Go.RowKit

theorem chr_bd (s : ByteArray) (k : Nat) : -1 ≤ chr s k ∧ chr s k < 256 := by
  by_cases h : k < s.size
  · rw [chr_at h]
    have := UInt8.toNat_lt s[k]
    omega
  · rw [chr_end h]; omega
theorem chr_in {s : ByteArray} {k : Nat} (h : 0 ≤ chr s k) : k < s.size := by
  by_cases h1 : k < s.size
  · exact h1
  · rw [chr_end h1] at h; omega

set_option maxRecDepth 20000 in
set_option maxHeartbeats 2000000 in
theorem readCount_bad (R : Nat) (s : ByteArray) (k : Nat) (n t : Int) (rv wv : Value) (w : World) (j : Nat) (hi : Int) (hj : j < 5) (h : Rdr w R s k n t rv wv) (hk : k ≤ s.size)
    (c1 : w.cell? ⟨2, j * 2, none⟩ = some (.int .i64 1)) (c2 : w.cell? ⟨2, j * 2 + 1, none⟩ = some (.int .i64 hi)) (hL : 2 < w.heap.size) (hp : inB 1 hi (chr s k - 48) = false) :
    Calls Tryd.prog 106 #[.pointer (some ⟨R, 0, none⟩), .int .i64 (j : Int)] w (GaveUp w 2 k) := by
  have hbd := chr_bd s k
  have HR := Lib.hid h; clear h
  have HP := Lib.hid hp; clear hp
  have HC1 := Lib.hid c1; clear c1
  have HC2 := Lib.hid c2; clear c2
  go_enter Tryd.func106, Tryd.ntmps106
  go_wp2_with fail
  refine (next_any _ _ _ _ _ _ _ _ HR.out hk).mono ?_
  rintro e w1 ⟨rfl, hB1⟩
  have HB1 := Lib.hid hB1; clear hB1
  go_wp2_with fail
  refine (withinLimit_any j 1 hi _ _ hj ((HB1.out.cell (p := ⟨2, j * 2, none⟩) hL).trans HC1.out) ((HB1.out.cell (p := ⟨2, j * 2 + 1, none⟩) hL).trans HC2.out)).mono ?_
  rintro e w2 ⟨rfl, hB2⟩
  rw [HP.out]
  have HB2 := Lib.hid (HB1.out.trans (hB2.mono HB1.out.size)); clear hB2
  have c1 : w2.cell? ⟨R, 1, none⟩ = some (.int .i64 (k : Int)) := (HR.out.below HB2.out (Nat.le_refl _)).cell 1
  go_wp2_with fail
  refine (giveUp_any _ _ _ _).mono ?_
  rintro e w3 ⟨rfl, rfl⟩
  go_wp2
  exact ⟨rfl, rfl, HB2.out⟩

set_option maxRecDepth 20000 in
set_option maxHeartbeats 2000000 in
theorem readCount_ok (R : Nat) (s : ByteArray) (k : Nat) (n t : Int) (rv wv : Value) (w : World) (j : Nat) (hi : Int) (hj : j < 5) (h : Rdr w R s k n t rv wv) (hz : s.size ≤ 1048576)
    (c1 : w.cell? ⟨2, j * 2, none⟩ = some (.int .i64 1)) (c2 : w.cell? ⟨2, j * 2 + 1, none⟩ = some (.int .i64 hi)) (hL : 2 < w.heap.size) (hp : inB 1 hi (chr s k - 48) = true) :
    Calls Tryd.prog 106 #[.pointer (some ⟨R, 0, none⟩), .int .i64 (j : Int)] w (ReadOne w R s k n t rv wv (chr s k - 48)) := by
  have hbd := chr_bd s k
  have hk : k < s.size := chr_in (by have := inB_lo hp; omega)
  have HR := Lib.hid h; clear h
  have HP := Lib.hid hp; clear hp
  have HC1 := Lib.hid c1; clear c1
  have HC2 := Lib.hid c2; clear c2
  go_enter Tryd.func106, Tryd.ntmps106
  go_wp2_with fail
  refine (next_any _ _ _ _ _ _ _ _ HR.out (by omega)).mono ?_
  rintro e w1 ⟨rfl, hB1⟩
  have HB1 := Lib.hid hB1; clear hB1
  go_wp2_with fail
  refine (withinLimit_any j 1 hi _ _ hj ((HB1.out.cell (p := ⟨2, j * 2, none⟩) hL).trans HC1.out) ((HB1.out.cell (p := ⟨2, j * 2 + 1, none⟩) hL).trans HC2.out)).mono ?_
  rintro e w2 ⟨rfl, hB2⟩
  rw [HP.out]
  have HB2 := Lib.hid (HB1.out.trans (hB2.mono HB1.out.size)); clear hB2
  have HR2 := Lib.hid (HR.out.below HB2.out (Nat.le_refl _))
  have c1 : w2.cell? ⟨R, 1, none⟩ = some (.int .i64 (k : Int)) := HR2.out.cell 1
  have f1 : w2.frozen? ⟨R, 1, none⟩ = false := HR2.out.frozen 1
  go_wp2
  go_ret
  refine ⟨rfl, ?_, Save.setCell (S := (· = R)) (p := ⟨R, 1, none⟩) (Save.of_below HB2.out) rfl _⟩
  have := HR2.out.set 1 (.int .i64 ((k : Int) + 1))
  exact this

/-- A wanted byte is read; or the reader gives up. -/
def ReadNone (w : World) (R : Nat) (s : ByteArray) (k : Nat) (n t : Int) (rv wv : Value) (e : Ending) (w' : World) : Prop := e = .returned (.tuple #[]) ∧ Rdr w' R s (k + 1) n t rv wv ∧ Save (· = R) w w'

set_option maxRecDepth 20000 in
set_option maxHeartbeats 2000000 in
theorem readByte_bad (R : Nat) (s : ByteArray) (k : Nat) (n t : Int) (rv wv : Value) (w : World) (c code : Int) (h : Rdr w R s k n t rv wv) (hk : k ≤ s.size) (hc : chr s k ≠ c) :
    Calls Tryd.prog 107 #[.pointer (some ⟨R, 0, none⟩), .int .i64 c, .int .i64 code] w (GaveUp w code k) := by
  have hne : (chr s k != c) = true := by simp; exact hc
  clear hc
  have HR := Lib.hid h; clear h
  go_enter Tryd.func107, Tryd.ntmps107
  go_wp2_with fail
  refine (next_any _ _ _ _ _ _ _ _ HR.out hk).mono ?_
  rintro e w1 ⟨rfl, hB1⟩
  have HB1 := Lib.hid hB1; clear hB1
  have c1 : w1.cell? ⟨R, 1, none⟩ = some (.int .i64 (k : Int)) := (HR.out.below HB1.out (Nat.le_refl _)).cell 1
  go_wp2_with fail
  refine (giveUp_any _ _ _ _).mono ?_
  rintro e w3 ⟨rfl, rfl⟩
  go_wp2
  exact ⟨rfl, rfl, HB1.out⟩

set_option maxRecDepth 20000 in
set_option maxHeartbeats 2000000 in
theorem readByte_ok (R : Nat) (s : ByteArray) (k : Nat) (n t : Int) (rv wv : Value) (w : World) (c code : Int) (h : Rdr w R s k n t rv wv) (hz : s.size ≤ 1048576) (h0 : 0 ≤ c) (hc : chr s k = c) :
    Calls Tryd.prog 107 #[.pointer (some ⟨R, 0, none⟩), .int .i64 c, .int .i64 code] w (ReadNone w R s k n t rv wv) := by
  have hk : k < s.size := chr_in (by omega)
  subst hc
  have hne : (chr s k != chr s k) = false := by simp
  have HR := Lib.hid h; clear h
  go_enter Tryd.func107, Tryd.ntmps107
  go_wp2_with fail
  refine (next_any _ _ _ _ _ _ _ _ HR.out (by omega)).mono ?_
  rintro e w1 ⟨rfl, hB1⟩
  have HB1 := Lib.hid hB1; clear hB1
  have HR2 := Lib.hid (HR.out.below HB1.out (Nat.le_refl _))
  have c1 : w1.cell? ⟨R, 1, none⟩ = some (.int .i64 (k : Int)) := HR2.out.cell 1
  have f1 : w1.frozen? ⟨R, 1, none⟩ = false := HR2.out.frozen 1
  go_wp2
  go_end0
  refine ⟨rfl, ?_, Save.setCell (S := (· = R)) (p := ⟨R, 1, none⟩) (Save.of_below HB1.out) rfl _⟩
  have := HR2.out.set 1 (.int .i64 ((k : Int) + 1))
  exact this

end Go.Proofs.YtacehfjhpnplbaaDoor

/- The program's readRight. -/

namespace Go.Proofs.YtacehfjhpnplbaaDoor
open Go.RowKit

/-- The tables, in a world in which the reader's block has turned. -/
theorem Lims.saved {S : Nat → Prop} {w w' : World} (h : Lims w) (hs : Save S w w') (hg : ¬ S 2) : Lims w' := fun k v hk => (World.cell?_of_block (hs.block _ h.pos hg)).trans (h k v hk)
theorem NonT.saved {S : Nat → Prop} {w w' : World} (h : NonT w) (hs : Save S w w') (hg : ¬ S 1) : NonT w' := fun k v hk => (World.cell?_of_block (hs.block _ h.pos hg)).trans (h k v hk)
theorem TokT.saved {S : Nat → Prop} {w w' : World} (h : TokT w) (hs : Save S w w') (hg : ¬ S 0) : TokT w' := fun k v hk => (World.cell?_of_block (hs.block _ h.pos hg)).trans (h k v hk)
/-- The three tables. -/
structure Tabs (w : World) : Prop where
  lims : Lims w
  non : NonT w
  tok : TokT w
theorem Tabs.keep {w w' : World} (h : Tabs w) (hb : Below w.heap.size w w') : Tabs w' := ⟨h.lims.keep hb (Nat.le_refl _), h.non.keep hb (Nat.le_refl _), h.tok.keep hb (Nat.le_refl _)⟩
theorem Tabs.saved {S : Nat → Prop} {w w' : World} (h : Tabs w) (hs : Save S w w') (hg : ∀ b, b < 3 → ¬ S b) : Tabs w' := ⟨h.lims.saved hs (hg _ (by decide)), h.non.saved hs (hg _ (by decide)), h.tok.saved hs (hg _ (by decide))⟩

/-- What readRight ends in. -/
def RightRead (w : World) (R : Nat) (s : ByteArray) (o : Out (List Int)) (n t : Int) (rv wv : Value) (e : Ending) (w' : World) : Prop :=
  Save (· = R) w w' ∧ match o with
    | .ok xs k' => ∃ A c, e = .returned (.slice A xs.length c) ∧ Rdr w' R s k' n t rv wv ∧ OwnI w' w.heap.size A xs
    | .bad code p => e = .panicked [{ v := faultV code p, recovered := false }]

set_option maxRecDepth 20000 in
set_option maxHeartbeats 4000000 in
theorem readRight_any (R : Nat) (s : ByteArray) (k : Nat) (n t : Int) (Ar : Option Addr) (m c : Nat) (wv : Value) (w : World) (h : Rdr w R s k n t (.slice Ar m c) wv) (hk : k ≤ s.size) (hz : s.size ≤ 1048576) (hTb : Tabs w) (hR3 : 3 ≤ R) :
    Calls Tryd.prog 147 #[.pointer (some ⟨R, 0, none⟩)] w (RightRead w R s (rightF n t s 5 [] k) n t (.slice Ar m c) wv) := by
  obtain ⟨i0, hi0, hz0, hz1, hz2⟩ := info_of Tryd.infoInt
  have hRlt := Row.lt h
  have HR := Lib.hid h; clear h
  have HTb := Lib.hid hTb; clear hTb
  go_enter Tryd.func147, Tryd.ntmps147
  go_wp2
  go_loopg [3] 5 (fun g v wr => ∃ (k2 : Nat) (xs : List Int), g + xs.length = 5 ∧ xs.length ≤ 4 ∧ k2 ≤ s.size ∧ Hid (Rdr wr R s k2 n t (.slice Ar m c) wv) ∧ Hid (wr.ownsRow w.heap.size 3 1 v xs.length (xs.map fun y => Value.int .i64 y)) ∧ Hid (Save (· = R) w wr) ∧ Hid (rightF n t s 5 [] k = rightF n t s g xs k2))
  case atStart => exact ⟨k, [], rfl, by simp, hk, HR.out, ⟨rfl, .inl ⟨rfl, rfl⟩⟩, Save.refl _ _, rfl⟩
  case round =>
    obtain ⟨k2, xs, hg, hxl, hk2, HRk, HO, HS, HE⟩ := hrel
    have HTk : Hid (Tabs wr) := HTb.out.saved HS.out (fun b hb (e : b = R) => by omega)
    obtain ⟨f, hf⟩ : ∃ f, gk = f + 1 := ⟨gk - 1, by omega⟩
    have hbd := chr_bd s k2
    by_cases h10 : chr s k2 = 10
    · have HE2 : Hid (rightF n t s 5 [] k = .ok xs (k2 + 1)) := by show _ = _; rw [HE.out, hf]; exact rightF_end h10
      have hlt : k2 < s.size := chr_in (by omega)
      have hne : (chr s k2 != 10) = false := by simp; exact h10
      clear h10 HE hf
      obtain ⟨Av, cv, hv, hOI⟩ := ownI_of_row HO.out
      subst hv
      have HOI := Lib.hid hOI; clear hOI
      go_wp2_with fail
      refine (next_any _ _ _ _ _ _ _ _ HRk.out hk2).mono ?_
      rintro e w1 ⟨rfl, hB1⟩
      have HB1 := Lib.hid hB1; clear hB1
      have HR1 := Lib.hid (HRk.out.below HB1.out (Nat.le_refl _))
      have c1 : w1.cell? ⟨R, 1, none⟩ = some (.int .i64 (k2 : Int)) := HR1.out.cell 1
      have f1 : w1.frozen? ⟨R, 1, none⟩ = false := HR1.out.frozen 1
      go_wp2
      go_ret
      refine ⟨Save.setCell (S := (· = R)) (p := ⟨R, 1, none⟩) (HS.out.trans (Save.of_below HB1.out)) rfl _, ?_⟩
      rw [HE2.out]
      exact ⟨Av, cv, rfl, HR1.out.set 1 (.int .i64 ((k2 : Int) + 1)), (HOI.out.below HB1.out (Nat.le_refl _)).low (p := ⟨R, 1, none⟩) hRlt _⟩
    · have hne : (chr s k2 != 10) = true := by simp; exact h10
      by_cases h4 : xs.length = 4
      · have HE2 : Hid (rightF n t s 5 [] k = .bad 4 k2) := by show _ = _; rw [HE.out, hf]; exact rightF_full h10 h4
        have HI : Hid (inB 0 4 ((xs.length : Int) + 1) = false) := inB_f (by omega)
        clear h10 HE hf h4
        obtain ⟨Av, cv, hv⟩ := own_slice HO.out
        subst hv
        go_wp2_with fail
        refine (next_any _ _ _ _ _ _ _ _ HRk.out hk2).mono ?_
        rintro e w1 ⟨rfl, hB1⟩
        have HB1 := Lib.hid hB1; clear hB1
        go_wp2_with fail
        refine (within3 _ _ (HTk.out.keep HB1.out).lims).mono ?_
        rintro e w2 ⟨rfl, hB2⟩
        rw [HI.out]
        have HB2 := Lib.hid (HB1.out.trans (hB2.mono HB1.out.size)); clear hB2
        have c1 : w2.cell? ⟨R, 1, none⟩ = some (.int .i64 (k2 : Int)) := (HRk.out.below HB2.out (Nat.le_refl _)).cell 1
        go_wp2_with fail
        refine (giveUp_any _ _ _ _).mono ?_
        rintro e w3 ⟨rfl, rfl⟩
        go_wp2
        refine ⟨rfl, HS.out.trans (Save.of_below HB2.out), ?_⟩
        rw [HE2.out]
      · have HI : Hid (inB 0 4 ((xs.length : Int) + 1) = true) := inB_t (by omega) (by omega)
        rcases symG_cases n t (chr s k2) with ⟨hs, hG⟩ | ⟨x, hs, hp, hG⟩ | ⟨x, hs, hp, hG⟩
        · have HE2 : Hid (rightF n t s 5 [] k = .bad 3 k2) := by show _ = _; rw [HE.out, hf]; exact rightF_none h10 h4 hG
          have HSY := Lib.hid hs; clear hs hG
          clear h10 HE hf h4
          obtain ⟨Av, cv, hv⟩ := own_slice HO.out
          subst hv
          go_wp2_with fail
          refine (next_any _ _ _ _ _ _ _ _ HRk.out hk2).mono ?_
          rintro e w1 ⟨rfl, hB1⟩
          have HB1 := Lib.hid hB1; clear hB1
          go_wp2_with fail
          refine (within3 _ _ (HTk.out.keep HB1.out).lims).mono ?_
          rintro e w2 ⟨rfl, hB2⟩
          rw [HI.out]
          have HB2 := Lib.hid (HB1.out.trans (hB2.mono HB1.out.size)); clear hB2
          go_wp2_with fail
          refine (readSymS_none _ _ _ _ _ _ _ _ _ _ (HRk.out.below HB2.out (Nat.le_refl _)) hk2 (HTk.out.keep HB2.out).non (HTk.out.keep HB2.out).tok HSY.out).mono ?_
          rintro e w3 ⟨rfl, hB3⟩
          go_wp2
          refine ⟨rfl, HS.out.trans (Save.of_below (HB2.out.trans (hB3.mono HB2.out.size))), ?_⟩
          rw [HE2.out]
        · have HE2 : Hid (rightF n t s 5 [] k = .bad 3 k2) := by show _ = _; rw [HE.out, hf]; exact rightF_none h10 h4 hG
          have HSY := Lib.hid hs; clear hs hG
          have HP := Lib.hid hp; clear hp
          clear h10 HE hf h4
          obtain ⟨Av, cv, hv⟩ := own_slice HO.out
          subst hv
          go_wp2_with fail
          refine (next_any _ _ _ _ _ _ _ _ HRk.out hk2).mono ?_
          rintro e w1 ⟨rfl, hB1⟩
          have HB1 := Lib.hid hB1; clear hB1
          go_wp2_with fail
          refine (within3 _ _ (HTk.out.keep HB1.out).lims).mono ?_
          rintro e w2 ⟨rfl, hB2⟩
          rw [HI.out]
          have HB2 := Lib.hid (HB1.out.trans (hB2.mono HB1.out.size)); clear hB2
          go_wp2_with fail
          refine (readSymS_bad _ _ _ _ _ _ _ _ _ _ (HRk.out.below HB2.out (Nat.le_refl _)) hk2 (HTk.out.keep HB2.out).non (HTk.out.keep HB2.out).tok HSY.out HP.out).mono ?_
          rintro e w3 ⟨rfl, hB3⟩
          go_wp2
          refine ⟨rfl, HS.out.trans (Save.of_below (HB2.out.trans (hB3.mono HB2.out.size))), ?_⟩
          rw [HE2.out]
        · have HE2 : Hid (rightF n t s 5 [] k = rightF n t s f (xs ++ [x]) (k2 + 1)) := by show _ = _; rw [HE.out, hf]; exact rightF_some h10 h4 hG
          have hlt := symN_lt hs
          have HSY := Lib.hid hs; clear hs hG
          have HP := Lib.hid hp; clear hp
          have hxl2 : xs.length < 4 := by omega
          clear h10 HE h4
          obtain ⟨Av, cv, hv⟩ := own_slice HO.out
          subst hv
          go_wp2_with fail
          refine (next_any _ _ _ _ _ _ _ _ HRk.out hk2).mono ?_
          rintro e w1 ⟨rfl, hB1⟩
          have HB1 := Lib.hid hB1; clear hB1
          go_wp2_with fail
          refine (within3 _ _ (HTk.out.keep HB1.out).lims).mono ?_
          rintro e w2 ⟨rfl, hB2⟩
          rw [HI.out]
          have HB2 := Lib.hid (HB1.out.trans (hB2.mono HB1.out.size)); clear hB2
          go_wp2_with fail
          refine (readSymS_ok _ _ _ _ _ _ _ _ _ _ (HRk.out.below HB2.out (Nat.le_refl _)) hz (HTk.out.keep HB2.out).non (HTk.out.keep HB2.out).tok HSY.out HP.out).mono ?_
          rintro e w3 ⟨rfl, hR3', hS3⟩
          have HR3 := Lib.hid hR3'; clear hR3'
          have HS3 := Lib.hid ((Save.of_below (S := (· = R)) HB2.out).trans hS3); clear hS3
          have HO3 := Lib.hid (ownsRow_save HO.out HS3.out (fun b hb (hS : b = R) => by omega))
          have HSw := Lib.hid (HS.out.trans HS3.out)
          have hsz3 := HSw.out.size
          have hown := HO3.out.alloc (.cells #[.int .i64 x] 3)
          have HWn := Lib.hid hown; clear hown
          have hnew := cell_one_new w3 (.int .i64 x) 3
          have HNW := Lib.hid hnew; clear hnew
          have HNE := Lib.hid (own_far HO3.out hRlt)
          go_wp2_with (at_builtin
                       refine wpList_append_own _ rfl (.tmp 18) (.tmp 21) _ rfl w.heap.size 3 i0 _ 1 8 Tryd.underlying34 hi0 hz0 hz1 hz2 rfl (by omega) _ _ _ rfl HWn.out ⟨w3.heap.size, 0, none⟩ 1 1 [.int .i64 x] rfl rfl HNW.out (by intro u hu; simp at hu; subst hu; rfl) (by unfold maxLen; omega) (by omega) (by simp; omega) ?_
                       intro v' w' h1 h2 h3
                       have HO1 := Lib.hid h1
                       have HG1 := Lib.hid h2
                       clear h1 h2 h3)
          go_roundg f
          case measure => omega
          case rel =>
            refine ⟨k2 + 1, xs ++ [x], by simp; omega, by simp; omega, by omega, ?_, ?_, ?_, HE2.out⟩
            · show Rdr _ _ _ _ _ _ _ _
              exact (HG1.out.block R (by simp; omega) HNE.out).trans (Row.alloc HR3.out _)
            · show World.ownsRow _ _ _ _ _ _ _
              simpa using HO1.out
            · exact (HSw.out.trans (Save.of_below (by go_grown))).grown HG1.out fun j hj => (HO3.out.lt j hj).1

end Go.Proofs.YtacehfjhpnplbaaDoor

/- Rows of rules that the call itself makes: owned, read as a list, appended to. -/

namespace Go.Proofs.YtacehfjhpnplbaaDoor
open Go.RowKit

def cellsU (u : Ru) : List Value := [.int .i64 u.l, .slice u.a u.r.length u.c]

theorem flat_get : ∀ {ds : List Ru} {k : Nat} {u : Ru}, ds[k]? = some u → (ds.flatMap cellsU)[k * 2]? = some (.int .i64 u.l) ∧ (ds.flatMap cellsU)[k * 2 + 1]? = some (.slice u.a u.r.length u.c)
  | [], k, u, h => by simp at h
  | d :: ds, 0, u, h => by
    simp at h
    subst h
    simp [cellsU]
  | d :: ds, k + 1, u, h => by
    have ih := flat_get (ds := ds) (k := k) (u := u) (by simpa using h)
    have e1 : (k + 1) * 2 = k * 2 + 1 + 1 := by omega
    have e2 : (k + 1) * 2 + 1 = k * 2 + 1 + 1 + 1 := by omega
    rw [e1]
    simpa [cellsU] using ih

theorem flat_length (ds : List Ru) : (ds.flatMap cellsU).length = ds.length * 2 := by
  induction ds with
  | nil => rfl
  | cons d ds ih => rw [List.flatMap_cons, List.length_append, ih]; simp [cellsU]; omega

theorem own_below {w w' : World} {base : Nat} {e : TypeId} {size n : Nat} {v : Value} {xs : List Value} (h : w.ownsRow base e size v n xs) (hb : Below w.heap.size w w') : w'.ownsRow base e size v n xs := by
  obtain ⟨h1, h2 | ⟨g, cap, cur, h3, h4, h5, h6⟩⟩ := h
  · exact ⟨h1, .inl h2⟩
  · exact ⟨h1, .inr ⟨g, cap, cur, h3, h4, (hb.block g (Row.lt (t := e) h5)).trans h5, h6⟩⟩

/-- A right side lies apart from a row of rules that is appended to. -/
theorem OwnI.grown {w w' : World} {lo base n : Nat} {A : Option Addr} {xs : List Int} {v : Value} {cs : List Value} (h : OwnI w lo A xs) (hv : w.ownsRow base 64 2 v n cs) (hg : w.grownBy w' v.ownBlock) : OwnI w' lo A xs := by
  rcases h with h | ⟨g, rc, e, hl, hr, hc⟩
  · exact .inl h
  · refine .inr ⟨g, rc, e, hl, (hg.block g hr.lt fun hb => ?_).trans hr, hc⟩
    obtain ⟨_, ⟨rfl, _⟩ | ⟨g', cap, cur, rfl, _, h5, _⟩⟩ := hv
    · cases hb
    · injection hb with hb
      subst hb
      exact hr.ne (t' := 64) (cs' := cur) h5 (by decide) rfl

theorem ownR_of_row {w : World} {lo k : Nat} {v : Value} {ds : List Ru} (h1 : ds.length = k) (h2 : w.ownsRow lo 64 2 v k (ds.flatMap cellsU)) (h4 : ∀ (j : Nat) (u : Ru), ds[j]? = some u → OwnI w lo u.a u.r)
    (h5 : ∀ (i j : Nat) (u v : Ru), ds[i]? = some u → ds[j]? = some v → i ≠ j → u.r ≠ [] → v.r ≠ [] → u.a ≠ v.a) : ∃ A c, v = .slice A ds.length c ∧ ds.length ≤ c ∧ OwnR w lo A ds := by
  subst h1
  obtain ⟨_, ⟨rfl, h0⟩ | ⟨g, cap, cur, rfl, hlo, hg, hcap, _, _, hx⟩⟩ := h2
  · have : ds = [] := List.eq_nil_of_length_eq_zero h0
    subst this
    exact ⟨none, 0, rfl, Nat.le_refl _, .inl rfl⟩
  · refine ⟨_, cap, rfl, hcap, .inr ⟨g, cur, rfl, hlo, hg, fun k u hu => ?_, h5⟩⟩
    have hk := (List.getElem?_eq_some_iff.1 hu).1
    obtain ⟨f1, f2⟩ := flat_get hu
    rw [← hx] at f1 f2
    rw [List.getElem?_take, if_pos (by omega)] at f1 f2
    exact ⟨by simpa using f1, by simpa using f2, h4 k u hu⟩

theorem two_new (w : World) (x y : Value) (t : TypeId) : ∀ j u, [x, y][j]? = some u → (w.alloc (.cells #[x, y] t)).cell? ((⟨w.heap.size, 0, none⟩ : Addr).add j) = some u := by
  intro j u h
  rw [Go.WideShapes.add_plain, Nat.zero_add]
  rcases j with _ | _ | j
  · simpa [go_sem] using h
  · simpa [go_sem] using h
  · simp at h

/-- The slice v of rules is the call's own and reads as ds; each right side is the call's own, and no two lie in one block. -/
structure RulesW (w : World) (lo : Nat) (v : Value) (ds : List Ru) : Prop where
  row : w.ownsRow lo 64 2 v ds.length (ds.flatMap cellsU)
  rts : ∀ (j : Nat) (u : Ru), ds[j]? = some u → OwnI w lo u.a u.r
  far : ∀ (i j : Nat) (u v : Ru), ds[i]? = some u → ds[j]? = some v → i ≠ j → u.r ≠ [] → v.r ≠ [] → u.a ≠ v.a

theorem RulesW.start (w : World) (lo : Nat) : RulesW w lo (.slice none 0 0) [] := ⟨⟨rfl, .inl ⟨rfl, rfl⟩⟩, fun j u h => by simp at h, fun i j u v h => by simp at h⟩
theorem RulesW.keep {w w' : World} {lo : Nat} {v : Value} {ds : List Ru} (h : RulesW w lo v ds) (hb : Below w.heap.size w w') : RulesW w' lo v ds :=
  ⟨own_below h.row hb, fun j x hx => (h.rts j x hx).below hb (Nat.le_refl _), h.far⟩
theorem RulesW.low {w : World} {lo : Nat} {v : Value} {ds : List Ru} (h : RulesW w lo v ds) {p : Addr} (hp : p.block < lo) (u : Value) : RulesW (w.setCell p u) lo v ds :=
  ⟨ownsRow_setCell_below h.row hp u, fun j x hx => (h.rts j x hx).low hp u, h.far⟩
theorem RulesW.slice {w : World} {lo : Nat} {v : Value} {ds : List Ru} (h : RulesW w lo v ds) : ∃ A c, v = .slice A ds.length c ∧ ds.length ≤ c ∧ OwnR w lo A ds := ownR_of_row rfl h.row h.rts h.far
/-- Blocks below lo may turn. -/
theorem RulesW.save {S : Nat → Prop} {w w' : World} {lo : Nat} {v : Value} {ds : List Ru} (h : RulesW w lo v ds) (hs : Save S w w') (hS : ∀ b, lo ≤ b → ¬ S b) : RulesW w' lo v ds := by
  refine ⟨?_, fun j x hx => (h.rts j x hx).save hs fun g e hn => ?_, h.far⟩
  · obtain ⟨hl, h1 | ⟨g, cap, cur, e1, hlo, hg, e2, e3, e4, e5⟩⟩ := h.row
    · exact ⟨hl, .inl h1⟩
    · exact ⟨hl, .inr ⟨g, cap, cur, e1, hlo, (hs.block g (Row.lt hg) (hS g hlo)).trans hg, e2, e3, e4, e5⟩⟩
  · rcases h.rts j x hx with h6 | ⟨g1, _, e1, hl, _⟩
    · exact absurd h6 hn
    · have := e.symm.trans e1
      injection this with this
      injection this with this
      subst this
      exact hS g hl

theorem last_of {ds : List Ru} {x : Ru} {i : Nat} {u : Ru} (hi : ¬ i < ds.length) (hu : (ds ++ [x])[i]? = some u) : i = ds.length ∧ u = x := by
  rw [List.getElem?_append_right (by omega)] at hu
  have hj : i - ds.length = 0 := by
    rcases Nat.eq_zero_or_pos (i - ds.length) with h0 | h0
    · exact h0
    · rw [List.getElem?_eq_none (by simp; omega)] at hu; cases hu
  rw [hj] at hu
  simp at hu
  exact ⟨by omega, hu.symm⟩

/-- A rule is appended: its right side lies apart from all that are there. -/
theorem RulesW.step {w w2 : World} {lo : Nat} {v v' : Value} {ds : List Ru} {l : Int} {A : Option Addr} {xs : List Int} {c : Nat} (h : RulesW w lo v ds) (hO : OwnI w lo A xs)
    (hap : ∀ (j : Nat) (u : Ru), ds[j]? = some u → u.r ≠ [] → xs ≠ [] → u.a ≠ A)
    (ho : w2.ownsRow lo 64 2 v' (ds.length + 1) (ds.flatMap cellsU ++ [.int .i64 l, .slice A xs.length c])) (hg : w.grownBy w2 v.ownBlock) : RulesW w2 lo v' (ds ++ [⟨l, A, xs, c⟩]) := by
  refine ⟨?_, ?_, ?_⟩
  · rw [List.length_append, List.flatMap_append]
    simpa [cellsU] using ho
  · intro j u hu
    by_cases e : j < ds.length
    · rw [List.getElem?_append_left (by omega)] at hu
      exact (h.rts j u hu).grown h.row hg
    · obtain ⟨_, rfl⟩ := last_of e hu
      exact hO.grown h.row hg
  · intro i j u v hu hv hij hun hvn
    by_cases hi : i < ds.length <;> by_cases hj : j < ds.length
    · rw [List.getElem?_append_left (by omega)] at hu hv
      exact h.far i j u v hu hv hij hun hvn
    · obtain ⟨rfl, rfl⟩ := last_of hj hv
      rw [List.getElem?_append_left (by omega)] at hu
      exact hap i u hu hun hvn
    · obtain ⟨rfl, rfl⟩ := last_of hi hu
      rw [List.getElem?_append_left (by omega)] at hv
      exact fun e => hap j v hv hvn hun e.symm
    · have := (last_of hi hu).1; have := (last_of hj hv).1; omega

/-- A right side that was made later lies apart. -/
theorem RulesW.apart {w w1 : World} {lo : Nat} {v : Value} {ds : List Ru} {A : Option Addr} {xs : List Int} (h : RulesW w lo v ds) (hO : OwnI w1 w.heap.size A xs) : ∀ (j : Nat) (u : Ru), ds[j]? = some u → u.r ≠ [] → xs ≠ [] → u.a ≠ A := by
  intro j u hu hne hne' he
  rcases h.rts j u hu with h6 | ⟨g1, _, e1, _, r1, _⟩
  · exact hne h6
  · rcases hO with h7 | ⟨g2, _, e2, l2, _, _⟩
    · exact hne' h7
    · rw [e1, e2] at he
      have := r1.lt
      injection he with he
      injection he with he
      omega

end Go.Proofs.YtacehfjhpnplbaaDoor
