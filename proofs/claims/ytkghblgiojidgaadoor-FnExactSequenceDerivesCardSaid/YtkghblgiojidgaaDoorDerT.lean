/- The reference's table of what derives what, plainly. -/
import Derived.Test.YtkghblgiojidgaaDoorMsk
namespace Go.Proofs.YtkghblgiojidgaaDoor

/-- What a table of rows tells: the cell of i and j is the one at i (n + 1) + j. -/
def DT (n : Nat) (T : Nat → Nat → Bool) : Int → Nat → Nat → Prop := fun x i j => 0 ≤ x ∧ i ≤ n ∧ j ≤ n ∧ T x.toNat (i * (n + 1) + j) = true
def setB (T : Nat → Nat → Bool) (a c : Nat) : Nat → Nat → Bool := fun x i => if x = a ∧ i = c then true else T x i
theorem cell_inj {n i j i' j' : Nat} (hj : j ≤ n) (hj' : j' ≤ n) (h : i * (n + 1) + j = i' * (n + 1) + j') : i = i' ∧ j = j' := by
  have h1 : (i * (n + 1) + j) % (n + 1) = j := by rw [Nat.mul_comm, Nat.mul_add_mod, Nat.mod_eq_of_lt (by omega)]
  have h2 : (i' * (n + 1) + j') % (n + 1) = j' := by rw [Nat.mul_comm, Nat.mul_add_mod, Nat.mod_eq_of_lt (by omega)]
  have hj2 : j = j' := by rw [← h1, h, h2]
  subst hj2
  exact ⟨Nat.eq_of_mul_eq_mul_right (by omega : 0 < n + 1) (by omega), rfl⟩
theorem cell_lt {n i j : Nat} (hi : i ≤ n) (hj : j ≤ n) : i * (n + 1) + j < (n + 1) * (n + 1) := by
  have : (i + 1) * (n + 1) ≤ (n + 1) * (n + 1) := Nat.mul_le_mul_right _ (by omega)
  rw [Nat.succ_mul] at this
  omega
theorem cell_121 {n c : Nat} (hn : n ≤ 10) (hc : c < (n + 1) * (n + 1)) : c < 121 := by
  have : (n + 1) * (n + 1) ≤ 11 * 11 := Nat.mul_le_mul (by omega) (by omega)
  omega
def cntT (T : Nat → Nat → Bool) : Nat := sumTo (fun x => sumTo (fun c => if T x c then 1 else 0) 121) 6
theorem cntT_most (T : Nat → Nat → Bool) : cntT T ≤ 726 := by
  have h1 : ∀ x, sumTo (fun c => if T x c then 1 else 0) 121 ≤ 121 * 1 := fun x => sumTo_const fun c => by split <;> omega
  have h2 := sumTo_const (f := fun x => sumTo (fun c => if T x c then 1 else 0) 121) (n := 6) (c := 121 * 1) h1
  unfold cntT; omega
theorem cntT_set {T : Nat → Nat → Bool} {a c : Nat} (ha : a < 6) (hc : c < 121) (h : T a c = false) : cntT T < cntT (setB T a c) := by
  have hle : ∀ x i, (if T x i = true then 1 else 0) ≤ (if setB T a c x i = true then 1 else 0 : Nat) := fun x i => by
    unfold setB
    by_cases e : x = a ∧ i = c
    · rw [if_pos e, if_pos rfl]; split <;> omega
    · rw [if_neg e]; exact Nat.le_refl _
  refine sumTo_lt (fun x _ => sumTo_le fun i _ => hle x i) ha (sumTo_lt (fun i _ => hle a i) hc ?_)
  show (if T a c = true then 1 else 0) < (if setB T a c a c = true then 1 else 0 : Nat)
  have e : setB T a c a c = true := if_pos ⟨rfl, rfl⟩
  rw [e, h]
  decide
/-- The table is good so far. -/
def OkT (rs : List (Int × List Int)) (ws : List Int) (T : Nat → Nat → Bool) : Prop := ∀ x i j, DT ws.length T x i j → Der rs ws x i j
theorem OkT.inD {rs : List (Int × List Int)} {ws : List Int} {T : Nat → Nat → Bool} (h : OkT rs ws T) : InD ws.length (DT ws.length T) := fun x i j k => der_in rs ws x i j (h x i j k)
theorem okT_no (rs : List (Int × List Int)) (ws : List Int) : OkT rs ws fun _ _ => false := fun _ _ _ h => absurd h.2.2.2 (by simp)
/-- While a pass fills it: the rules ahead of j are done, of rule j the places ahead of i, there the ends ahead of t. -/
def PassT (rs : List (Int × List Int)) (ws : List Int) (j i t : Nat) (T0 T : Nat → Nat → Bool) (more : Bool) : Prop :=
  OkT rs ws T ∧ (more = true → cntT T0 < cntT T) ∧
  (more = false → T = T0 ∧ ∀ (l : Nat) (r : Int × List Int) (f e : Nat), rs[l]? = some r → f ≤ e → e ≤ ws.length → (l < j ∨ (l = j ∧ (f < i ∨ (f = i ∧ e < t)))) → SeqD (DT ws.length T) ws r.2 f e → DT ws.length T r.1 f e)
theorem PassT.start {rs : List (Int × List Int)} {ws : List Int} {T : Nat → Nat → Bool} (h : OkT rs ws T) : PassT rs ws 0 0 0 T T false := ⟨h, fun h => (by cases h), fun _ => ⟨rfl, fun l r f e _ _ _ h => absurd h (by omega)⟩⟩
theorem PassT.rule {rs : List (Int × List Int)} {ws : List Int} {j : Nat} {T0 T : Nat → Nat → Bool} {b : Bool} (h : PassT rs ws j (ws.length + 1) 0 T0 T b) : PassT rs ws (j + 1) 0 0 T0 T b :=
  ⟨h.1, h.2.1, fun e => ⟨(h.2.2 e).1, fun l r f e' hl hf he hx => (h.2.2 e).2 l r f e' hl hf he (by omega)⟩⟩
theorem PassT.open_ {rs : List (Int × List Int)} {ws : List Int} {j i : Nat} {T0 T : Nat → Nat → Bool} {b : Bool} (h : PassT rs ws j i 0 T0 T b) : PassT rs ws j i i T0 T b :=
  ⟨h.1, h.2.1, fun e => ⟨(h.2.2 e).1, fun l r f e' hl hf he hx => (h.2.2 e).2 l r f e' hl hf he (by omega)⟩⟩
theorem PassT.line {rs : List (Int × List Int)} {ws : List Int} {j i : Nat} {T0 T : Nat → Nat → Bool} {b : Bool} (h : PassT rs ws j i (ws.length + 1) T0 T b) : PassT rs ws j (i + 1) 0 T0 T b :=
  ⟨h.1, h.2.1, fun e => ⟨(h.2.2 e).1, fun l r f e' hl hf he hx => (h.2.2 e).2 l r f e' hl hf he (by omega)⟩⟩
/-- Nothing is put in: it is there already, or nothing comes. -/
theorem PassT.skip {rs : List (Int × List Int)} {ws : List Int} {j i t : Nat} {T0 T : Nat → Nat → Bool} {b : Bool} (h : PassT rs ws j i t T0 T b) {a : Nat} {right : List Int} (hj : rs[j]? = some ((a : Int), right)) (hi : i ≤ ws.length) (ht : t ≤ ws.length) (hx : T a (i * (ws.length + 1) + t) = true ∨ ¬ SeqD (DT ws.length T) ws right i t) : PassT rs ws j i (t + 1) T0 T b := by
  refine ⟨h.1, h.2.1, fun e => ⟨(h.2.2 e).1, fun l r f e' hl hf he hx' k => ?_⟩⟩
  by_cases e2 : l = j ∧ f = i ∧ e' = t
  · obtain ⟨rfl, rfl, rfl⟩ := e2
    rw [hj] at hl
    have e3 := Option.some.inj hl
    subst e3
    rcases hx with hx | hx
    · exact ⟨Int.natCast_nonneg a, hi, ht, hx⟩
    · exact absurd k hx
  · exact (h.2.2 e).2 l r f e' hl hf he (by omega) k
/-- One is put in. -/
theorem PassT.put {rs : List (Int × List Int)} {ws : List Int} {j i t : Nat} {T0 T : Nat → Nat → Bool} {b : Bool} (h : PassT rs ws j i t T0 T b) {a : Nat} {right : List Int} (hj : rs[j]? = some ((a : Int), right)) (ha : a < 6) (hw : ws.length ≤ 10) (hi : i ≤ ws.length) (ht : t ≤ ws.length) (h0 : T a (i * (ws.length + 1) + t) = false) (hx : SeqD (DT ws.length T) ws right i t) : PassT rs ws j i (t + 1) T0 (setB T a (i * (ws.length + 1) + t)) true := by
  have hmem : ((a : Int), right) ∈ rs := List.mem_of_getElem? hj
  refine ⟨fun x f e k => ?_, fun _ => ?_, fun e => by cases e⟩
  · obtain ⟨k0, k1, k2, k3⟩ := k
    unfold setB at k3
    split at k3
    · rename_i e4
      obtain ⟨e5, e6⟩ := e4
      obtain ⟨rfl, rfl⟩ := cell_inj k2 ht e6
      have : x = (a : Int) := by omega
      subst this
      exact der_step h.1 hmem hi hx
    · exact h.1 x f e ⟨k0, k1, k2, k3⟩
  · have h3 := cntT_set ha (cell_121 hw (cell_lt hi ht)) h0
    cases b
    · rw [← (h.2.2 rfl).1]; exact h3
    · have := h.2.1 rfl; omega
/-- A pass in which nothing came. -/
theorem PassT.done {rs : List (Int × List Int)} {ws : List Int} {T0 T : Nat → Nat → Bool} (h : PassT rs ws rs.length 0 0 T0 T false) {x : Int} {i j : Nat} : DT ws.length T x i j ↔ Der rs ws x i j :=
  der_eq h.1 fun r hr f t hf k => by
    obtain ⟨l, hl⟩ := List.mem_iff_getElem?.1 hr
    have := h.1.inD.seq hf k
    exact (h.2.2 rfl).2 l r f t hl this.1 this.2 (.inl (List.getElem?_eq_some_iff.1 hl).1) k

/-- While the middles ahead of m are tried. -/
theorem seqD_cons_no {D : Int → Nat → Nat → Prop} {ws : List Int} {x : Int} {xs : List Int} {i j : Nat} (hd : InD ws.length D) (h : ∀ m, i ≤ m → m ≤ j → ¬ (SymD D ws x i m ∧ SeqD D ws xs m j)) : ¬ SeqD D ws (x :: xs) i j := by
  rintro ⟨m, k1, k2⟩
  have h1 := hd.sym k1
  have h2 := hd.seq h1.2 k2
  exact h m h1.1 h2.1 ⟨k1, k2⟩

end Go.Proofs.YtkghblgiojidgaaDoor
