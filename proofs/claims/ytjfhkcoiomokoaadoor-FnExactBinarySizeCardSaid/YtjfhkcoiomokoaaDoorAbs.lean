/- Plain mathematics of chapter 1: what a good grammar is. No program, no memory. -/
namespace Go.Proofs.YtjfhkcoiomokoaaDoor

def nonB (n x : Int) : Bool := decide (0 ≤ x ∧ x < n)
theorem nonB_t {n x : Int} (h : 0 ≤ x) (h' : x < n) : nonB n x = true := decide_eq_true ⟨h, h'⟩
theorem nonB_f {n x : Int} (h : x < 0 ∨ n ≤ x) : nonB n x = false := decide_eq_false (by omega)
theorem nonB_is {n x : Int} (h : nonB n x = true) : 0 ≤ x ∧ x < n := of_decide_eq_true h
theorem nonB_no {n x : Int} (h : nonB n x = false) : x < 0 ∨ n ≤ x := by have := of_decide_eq_false h; omega

def symB (n t x : Int) : Bool := decide ((0 ≤ x ∧ x < n) ∨ (0 ≤ -1 - x ∧ -1 - x < t))
theorem symB_non {n t x : Int} (h : nonB n x = true) : symB n t x = true := decide_eq_true (.inl (nonB_is h))
theorem symB_tok {n t x : Int} (h : nonB n x = false) : symB n t x = nonB t (-1 - x) := by
  have := nonB_no h
  unfold symB nonB
  rw [Bool.eq_iff_iff]
  simp only [decide_eq_true_eq]
  omega

/-- All numbers of a right side are symbols. -/
def symsB (n t : Int) (xs : List Int) : Bool := xs.all fun x => symB n t x
theorem symsB_iff {n t : Int} {xs : List Int} : symsB n t xs = true ↔ ∀ (k : Nat) (x : Int), xs[k]? = some x → symB n t x = true := by
  unfold symsB
  rw [List.all_eq_true]
  constructor
  · intro h k x hx
    exact h x (List.mem_of_getElem? hx)
  · intro h x hx
    obtain ⟨k, hk⟩ := List.mem_iff_getElem?.1 hx
    exact h k x hk
theorem symsB_not {n t : Int} {xs : List Int} {k : Nat} (hk : k < xs.length) (h : symB n t xs[k] = false) : symsB n t xs = false := by
  cases e : symsB n t xs
  · rfl
  · rw [symsB_iff.1 e k _ (List.getElem?_eq_getElem hk)] at h; cases h
theorem symsB_of {n t : Int} {xs : List Int} {k : Nat} (hk : ¬ k < xs.length) (h : ∀ (j : Nat) (x : Int), j < k → xs[j]? = some x → symB n t x = true) : symsB n t xs = true :=
  symsB_iff.2 fun j x hx => h j x (by have := (List.getElem?_eq_some_iff.1 hx).1; omega) hx
theorem syms_step {n t : Int} {xs : List Int} {k : Nat} (hk : k < xs.length) (h : symB n t xs[k] = true) (H : ∀ (j : Nat) (x : Int), j < k → xs[j]? = some x → symB n t x = true) :
    ∀ (j : Nat) (x : Int), j < k + 1 → xs[j]? = some x → symB n t x = true := by
  intro j x hj hx
  by_cases e : j = k
  · subst e; rw [List.getElem?_eq_getElem hk] at hx; injection hx with hx; subst hx; exact h
  · exact H j x (by omega) hx

/-- A rule is good. -/
def goodU (n t : Int) (u : Int × List Int) : Bool := nonB n u.1 && (decide (u.2.length ≤ 4) && symsB n t u.2)
theorem goodU_left {n t l : Int} {xs : List Int} (h : nonB n l = false) : goodU n t (l, xs) = false := by unfold goodU; rw [h]; rfl
theorem goodU_long {n t l : Int} {xs : List Int} (h : ¬ xs.length ≤ 4) : goodU n t (l, xs) = false := by unfold goodU; rw [decide_eq_false h]; cases nonB n l <;> rfl
theorem goodU_syms {n t l : Int} {xs : List Int} (h : nonB n l = true) (h' : xs.length ≤ 4) : goodU n t (l, xs) = symsB n t xs := by unfold goodU; rw [h, decide_eq_true h']; rfl

def hasU (rs : List (Int × List Int)) (u : Int × List Int) : Bool := decide (u ∈ rs)

/-- The first k rules are good, and none of them stands ahead of itself. -/
def goodTo (n t : Int) (rs : List (Int × List Int)) (k : Nat) : Prop := ∀ (j : Nat) (u : Int × List Int), j < k → rs[j]? = some u → goodU n t u = true ∧ hasU (rs.take j) u = false

def goodAll (n t : Int) (rs : List (Int × List Int)) : Bool := (List.range rs.length).all fun j => goodU n t (rs.getD j (0, [])) && !hasU (rs.take j) (rs.getD j (0, []))
theorem goodAll_iff {n t : Int} {rs : List (Int × List Int)} : goodAll n t rs = true ↔ goodTo n t rs rs.length := by
  unfold goodAll goodTo
  rw [List.all_eq_true]
  constructor
  · intro h j u hj hu
    have := h j (List.mem_range.2 hj)
    rw [List.getD_eq_getElem?_getD, hu] at this
    simpa using this
  · intro h j hj
    have hj := List.mem_range.1 hj
    have := h j _ hj (List.getElem?_eq_getElem hj)
    rw [List.getD_eq_getElem?_getD, List.getElem?_eq_getElem hj]
    simpa using this

/-- A grammar is good. -/
def goodG (n t : Int) (rs : List (Int × List Int)) : Bool := decide (1 ≤ n ∧ n ≤ 6) && (decide (1 ≤ t ∧ t ≤ 4) && (decide (rs.length ≤ 16) && goodAll n t rs))
theorem goodG_n {n t : Int} {rs : List (Int × List Int)} (h : ¬ (1 ≤ n ∧ n ≤ 6)) : goodG n t rs = false := by unfold goodG; rw [decide_eq_false h]; rfl
theorem goodG_t {n t : Int} {rs : List (Int × List Int)} (h : ¬ (1 ≤ t ∧ t ≤ 4)) : goodG n t rs = false := by unfold goodG; rw [decide_eq_false h]; cases decide (1 ≤ n ∧ n ≤ 6) <;> rfl
theorem goodG_len {n t : Int} {rs : List (Int × List Int)} (h : ¬ rs.length ≤ 16) : goodG n t rs = false := by unfold goodG; rw [decide_eq_false h]; cases decide (1 ≤ n ∧ n ≤ 6) <;> cases decide (1 ≤ t ∧ t ≤ 4) <;> rfl
theorem goodG_all {n t : Int} {rs : List (Int × List Int)} (h : 1 ≤ n ∧ n ≤ 6) (h' : 1 ≤ t ∧ t ≤ 4) (hl : rs.length ≤ 16) : goodG n t rs = goodAll n t rs := by
  unfold goodG; rw [decide_eq_true h, decide_eq_true h', decide_eq_true hl]; rfl
theorem goodG_is {n t : Int} {rs : List (Int × List Int)} (h : goodG n t rs = true) : (1 ≤ n ∧ n ≤ 6) ∧ (1 ≤ t ∧ t ≤ 4) ∧ rs.length ≤ 16 ∧ goodTo n t rs rs.length := by
  unfold goodG at h
  simp only [Bool.and_eq_true, decide_eq_true_eq] at h
  exact ⟨h.1, h.2.1, h.2.2.1, goodAll_iff.1 h.2.2.2⟩
theorem goodAll_bad {n t : Int} {rs : List (Int × List Int)} {k : Nat} (hk : k < rs.length) (h : goodU n t rs[k] = false ∨ hasU (rs.take k) rs[k] = true) : goodAll n t rs = false := by
  cases e : goodAll n t rs
  · rfl
  · have := goodAll_iff.1 e k _ hk (List.getElem?_eq_getElem hk)
    rcases h with h | h
    · rw [this.1] at h; cases h
    · rw [this.2] at h; cases h
theorem goodTo_step {n t : Int} {rs : List (Int × List Int)} {k : Nat} (hk : k < rs.length) (h1 : goodU n t rs[k] = true) (h2 : hasU (rs.take k) rs[k] = false) (H : goodTo n t rs k) : goodTo n t rs (k + 1) := by
  intro j u hj hu
  by_cases e : j = k
  · subst e; rw [List.getElem?_eq_getElem hk] at hu; injection hu with hu; subst hu; exact ⟨h1, h2⟩
  · exact H j u (by omega) hu
theorem goodAll_of {n t : Int} {rs : List (Int × List Int)} {k : Nat} (hk : ¬ k < rs.length) (H : goodTo n t rs k) : goodAll n t rs = true :=
  goodAll_iff.2 fun j u hj hu => H j u (by omega) hu

end Go.Proofs.YtjfhkcoiomokoaaDoor
