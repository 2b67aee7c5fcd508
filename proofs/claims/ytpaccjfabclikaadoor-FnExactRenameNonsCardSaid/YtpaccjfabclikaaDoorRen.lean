/- Renamings: which lists are ones, and what the program and the reference answer about them. -/
import Derived.Test.YtpaccjfabclikaaDoorGLaw
import Derived.Test.YtpaccjfabclikaaDoorWord
namespace Go.Proofs.YtpaccjfabclikaaDoor
open Go.RowKit
open Go.Sort (grow)

def hasI (xs : List Int) (x : Int) : Bool := decide (x ∈ xs)
def renAll (n : Int) (to : List Int) : Bool := (List.range to.length).all fun j => nonB n (to.getD j 0) && !hasI (to.take j) (to.getD j 0)
/-- The first k names are nonterminals, and none of them stands ahead of itself. -/
def okTo (n : Int) (to : List Int) (k : Nat) : Prop := ∀ (j : Nat) (x : Int), j < k → to[j]? = some x → nonB n x = true ∧ hasI (to.take j) x = false
theorem renAll_iff {n : Int} {to : List Int} : renAll n to = true ↔ okTo n to to.length := by
  unfold renAll okTo
  rw [List.all_eq_true]
  constructor
  · intro h j x hj hx
    have := h j (List.mem_range.2 hj)
    rw [List.getD_eq_getElem?_getD, hx] at this
    simpa using this
  · intro h j hj
    have hj := List.mem_range.1 hj
    have := h j _ hj (List.getElem?_eq_getElem hj)
    rw [List.getD_eq_getElem?_getD, List.getElem?_eq_getElem hj]
    simpa using this
theorem renAll_bad {n : Int} {to : List Int} {k : Nat} (hk : k < to.length) (h : nonB n to[k] = false ∨ hasI (to.take k) to[k] = true) : renAll n to = false := by
  cases e : renAll n to
  · rfl
  · have := renAll_iff.1 e k _ hk (List.getElem?_eq_getElem hk)
    rcases h with h | h
    · rw [this.1] at h; cases h
    · rw [this.2] at h; cases h
theorem okTo_step {n : Int} {to : List Int} {k : Nat} (hk : k < to.length) (h1 : nonB n to[k] = true) (h2 : hasI (to.take k) to[k] = false) (H : okTo n to k) : okTo n to (k + 1) := by
  intro j x hj hx
  by_cases e : j = k
  · subst e; rw [List.getElem?_eq_getElem hk] at hx; injection hx with hx; subst hx; exact ⟨h1, h2⟩
  · exact H j x (by omega) hx
theorem renAll_of {n : Int} {to : List Int} {k : Nat} (hk : ¬ k < to.length) (H : okTo n to k) : renAll n to = true := renAll_iff.2 fun j x hj hx => H j x (by omega) hx

/-- A list of the nonterminals, each once, 0 first. -/
def renB (n : Int) (to : List Int) : Bool := decide ((to.length : Int) = n) && (decide (to.getD 0 1 = 0) && renAll n to)
theorem renB_len {n : Int} {to : List Int} (h : (to.length : Int) ≠ n) : renB n to = false := by unfold renB; rw [decide_eq_false h]; rfl
theorem renB_first {n : Int} {to : List Int} (h : to.getD 0 1 ≠ 0) : renB n to = false := by unfold renB; rw [decide_eq_false h]; cases decide ((to.length : Int) = n) <;> rfl
theorem renB_all {n : Int} {to : List Int} (h : (to.length : Int) = n) (h' : to.getD 0 1 = 0) : renB n to = renAll n to := by unfold renB; rw [decide_eq_true h, decide_eq_true h']; rfl
theorem renB_noall {n : Int} {to : List Int} (h : renAll n to = false) : renB n to = false := by unfold renB; rw [h]; cases decide ((to.length : Int) = n) <;> cases decide (to.getD 0 1 = 0) <;> rfl
theorem renB_is {n : Int} {to : List Int} (h : renB n to = true) : (to.length : Int) = n ∧ okTo n to to.length := by
  unfold renB at h
  simp only [Bool.and_eq_true, decide_eq_true_eq] at h
  exact ⟨h.1, renAll_iff.1 h.2.2⟩

theorem has_step {xs : List Int} {k : Nat} {x : Int} (hk : k < xs.length) (h : xs[k] ≠ x) (H : ∀ j : Nat, j < k → xs[j]? ≠ some x) : ∀ j : Nat, j < k + 1 → xs[j]? ≠ some x := by
  intro j hj
  by_cases e : j = k
  · subst e; rw [List.getElem?_eq_getElem hk]; intro h'; injection h' with h'; exact h h'
  · exact H j (by omega)
theorem hasI_t {xs : List Int} {k : Nat} {x : Int} (hk : k < xs.length) (h : xs[k] = x) : hasI xs x = true := decide_eq_true (by rw [← h]; exact List.getElem_mem hk)
theorem hasI_f {xs : List Int} {k : Nat} {x : Int} (hk : ¬ k < xs.length) (H : ∀ j : Nat, j < k → xs[j]? ≠ some x) : hasI xs x = false :=
  decide_eq_false fun h => by
    obtain ⟨j, hj⟩ := List.mem_iff_getElem?.1 h
    have := (List.getElem?_eq_some_iff.1 hj).1
    exact H j (by omega) hj

set_option maxHeartbeats 400000 in
theorem l1Has_any (A : Option Addr) (xs : List Int) (c : Nat) (x : Int) (w : World) (hx : Ints w w.heap.size A xs) (h1 : xs.length ≤ 1048576) :
    Calls Tryd.prog 53 #[.slice A xs.length c, .int .i64 x] w fun e w' => e = .returned (.bool (hasI xs x)) ∧ Below w.heap.size w w' := by
  have HX := Lib.hid hx; clear hx
  go_enter Tryd.func53, Tryd.ntmps53
  go_wp2
  go_loopw [9] (fun i wr => ∃ (k : Nat), k ≤ xs.length ∧ i = .int .i64 k ∧ Below w.heap.size w wr ∧ Hid (∀ j : Nat, j < k → xs[j]? ≠ some x)) (fun i _ => xs.length - (intOf i).toNat)
  case atStart => exact ⟨0, by omega, rfl, Below.refl _ _, fun j h => absurd h (by omega)⟩
  case round =>
    obtain ⟨k, hk, rfl, hB, H⟩ := hrel
    by_cases hlt : k < xs.length
    · obtain ⟨b, o, rfl, hb, c1⟩ := (HX.out.keep hB).at_ hlt
      by_cases he : xs[k] = x
      · have HE := Lib.hid (hasI_t hlt he)
        have ht := beq_t he
        clear he
        go_wp2
        go_ret
        exact ⟨ret_bool HE.out.symm, hB⟩
      · have HE := Lib.hid he
        have ht := beq_f he
        clear he
        go_wp2
        go_roundw
        case rel => exact ⟨k + 1, by omega, by go_num, hB, has_step hlt HE.out H.out⟩
        case measure => simp [intOf]; omega
    · have HE := Lib.hid (hasI_f hlt H.out)
      go_wp2
      go_ret
      exact ⟨ret_bool HE.out.symm, hB⟩

def IdxIs (w : World) (xs : List Int) (x : Int) (e : Ending) (w' : World) : Prop := ∃ i : Int, e = .returned (.int .i64 i) ∧ (0 ≤ i ↔ hasI xs x = true) ∧ Below w.heap.size w w'

set_option maxHeartbeats 400000 in
theorem index_any (A : Option Addr) (xs : List Int) (c : Nat) (x : Int) (w : World) (hx : Ints w w.heap.size A xs) (h1 : xs.length ≤ 1048576) :
    Calls Tryd.prog 68 #[.slice A xs.length c, .int .i64 x] w (IdxIs w xs x) := by
  have HX := Lib.hid hx; clear hx
  go_enter Tryd.func68, Tryd.ntmps68
  go_wp2
  go_loopw [8] (fun i wr => ∃ (k : Nat), k ≤ xs.length ∧ i = .int .i64 k ∧ Below w.heap.size w wr ∧ Hid (∀ j : Nat, j < k → xs[j]? ≠ some x)) (fun i _ => xs.length - (intOf i).toNat)
  case atStart => exact ⟨0, by omega, rfl, Below.refl _ _, fun j h => absurd h (by omega)⟩
  case round =>
    obtain ⟨k, hk, rfl, hB, H⟩ := hrel
    by_cases hlt : k < xs.length
    · obtain ⟨b, o, rfl, hb, c1⟩ := (HX.out.keep hB).at_ hlt
      by_cases he : xs[k] = x
      · have HE := Lib.hid (hasI_t hlt he)
        have ht := beq_t he.symm
        clear he
        go_wp2
        go_ret
        exact ⟨_, rfl, ⟨fun _ => HE.out, fun _ => by omega⟩, hB⟩
      · have HE := Lib.hid he
        have ht := beq_f (Ne.symm he)
        clear he
        go_wp2
        go_roundw
        case rel => exact ⟨k + 1, by omega, by go_num, hB, has_step hlt HE.out H.out⟩
        case measure => simp [intOf]; omega
    · have HE := Lib.hid (hasI_f hlt H.out)
      go_wp2
      go_ret
      exact ⟨_, rfl, ⟨fun h => absurd h (by omega), fun h => by rw [HE.out] at h; cases h⟩, hB⟩

set_option maxHeartbeats 400000 in
theorem contains_any (A : Option Addr) (xs : List Int) (c : Nat) (x : Int) (w : World) (hx : Ints w w.heap.size A xs) (h1 : xs.length ≤ 1048576) :
    Calls Tryd.prog 65 #[.slice A xs.length c, .int .i64 x] w fun e w' => e = .returned (.bool (hasI xs x)) ∧ Below w.heap.size w w' := by
  have HX := Lib.hid hx; clear hx
  go_enter Tryd.func65, Tryd.ntmps65
  go_wp2_with fail
  refine (index_any _ _ _ _ _ HX.out h1).mono ?_
  rintro e w1 ⟨i, rfl, hi, hB⟩
  have HI := Lib.hid hi; clear hi
  by_cases h0 : 0 ≤ i
  · have HE : Hid (hasI xs x = true) := HI.out.1 h0
    go_wp2
    go_ret
    exact ⟨ret_bool HE.out.symm, hB⟩
  · have HE : Hid (hasI xs x = false) := by
      show _ = _
      cases e : hasI xs x
      · rfl
      · exact absurd (HI.out.2 e) h0
    go_wp2
    go_ret
    exact ⟨ret_bool (by rw [HE.out]; simpa using h0), hB⟩

end Go.Proofs.YtpaccjfabclikaaDoor
