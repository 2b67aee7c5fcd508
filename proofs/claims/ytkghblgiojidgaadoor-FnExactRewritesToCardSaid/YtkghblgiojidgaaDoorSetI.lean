/- The program's questions to a set: allNullable, allProductive, someGrow. -/
import Derived.Test.YtkghblgiojidgaaDoorMapV
namespace Go.Proofs.YtkghblgiojidgaaDoor
open Go.RowKit

theorem all_no {p : Int → Bool} {xs : List Int} {k : Nat} (hk : k < xs.length) (h : p xs[k] = false) : xs.all p = false := by
  cases e : xs.all p
  · rfl
  · rw [List.all_eq_true] at e
    rw [e _ (List.getElem_mem hk)] at h; cases h
theorem all_yes {p : Int → Bool} {xs : List Int} {k : Nat} (hk : ¬ k < xs.length) (h : ∀ (j : Nat) (x : Int), j < k → xs[j]? = some x → p x = true) : xs.all p = true := by
  rw [List.all_eq_true]
  intro x hx
  obtain ⟨j, hj⟩ := List.mem_iff_getElem?.1 hx
  exact h j x (by have := (List.getElem?_eq_some_iff.1 hj).1; omega) hj
theorem upto_step {Q : Int → Prop} {xs : List Int} {k : Nat} (hk : k < xs.length) (h : Q xs[k]) (H : ∀ (j : Nat) (x : Int), j < k → xs[j]? = some x → Q x) :
    ∀ (j : Nat) (x : Int), j < k + 1 → xs[j]? = some x → Q x := by
  intro j x hj hx
  by_cases e : j = k
  · subst e; rw [List.getElem?_eq_getElem hk] at hx; injection hx with hx; subst hx; exact h
  · exact H j x (by omega) hx
theorem any_yes {p : Int → Bool} {xs : List Int} {k : Nat} (hk : k < xs.length) (h : p xs[k] = true) : xs.any p = true := List.any_eq_true.2 ⟨_, List.getElem_mem hk, h⟩
theorem any_no {p : Int → Bool} {xs : List Int} {k : Nat} (hk : ¬ k < xs.length) (h : ∀ (j : Nat) (x : Int), j < k → xs[j]? = some x → p x = false) : xs.any p = false := by
  rw [List.any_eq_false]
  intro x hx
  obtain ⟨j, hj⟩ := List.mem_iff_getElem?.1 hx
  rw [h j x (by have := (List.getElem?_eq_some_iff.1 hj).1; omega) hj]
  simp

/-- A symbol is a token or in the set. -/
def tokS (S : Int → Bool) (x : Int) : Bool := decide (x < 0) || S x
theorem tokS_lt {S : Int → Bool} {x : Int} (h : x < 0) : tokS S x = true := by unfold tokS; rw [decide_eq_true h]; rfl
theorem tokS_ge {S : Int → Bool} {x : Int} (h : ¬ x < 0) : tokS S x = S x := by unfold tokS; rw [decide_eq_false h]; rfl

def FitI (xs : List Int) : Prop := ∀ x ∈ xs, F64 x


set_option maxRecDepth 20000 in
set_option maxHeartbeats 400000 in
theorem allProd_any (b : Nat) (S : Int → Bool) (A : Option Addr) (xs : List Int) (c : Nat) (w : World) (hS : SetM w b S) (hx : Ints w w.heap.size A xs) (hf : FitI xs) (h1 : xs.length ≤ 4) :
    Calls Tryd.prog 94 #[.map (some b), .slice A xs.length c] w fun e w' => e = .returned (.bool (xs.all (tokS S))) ∧ w' = w := by
  have HX := Lib.hid hx; clear hx
  have HS := Lib.hid hS; clear hS
  have HF := Lib.hid hf; clear hf
  go_enter Tryd.func94, Tryd.ntmps94
  go_wp2
  go_loopw [9] (fun i wr => ∃ (k : Nat), k ≤ xs.length ∧ i = .int .i64 k ∧ wr = w ∧ Hid (∀ (j : Nat) (x : Int), j < k → xs[j]? = some x → tokS S x = true)) (fun i _ => xs.length - (intOf i).toNat)
  case atStart => exact ⟨0, by omega, rfl, rfl, fun j x h => absurd h (by omega)⟩
  case round =>
    obtain ⟨k, hk, rfl, rfl, H⟩ := hrel
    by_cases hlt : k < xs.length
    · obtain ⟨p, o, rfl, hb, c1⟩ := HX.out.at_ hlt
      by_cases hneg : xs[k] < 0
      · have HE := Lib.hid (upto_step (Q := fun x => tokS S x = true) hlt (tokS_lt hneg) H.out)
        go_wp2
        go_roundw
        case rel => exact ⟨k + 1, by omega, by go_num, by simp, HE.out⟩
        case measure => simp [intOf]; omega
      have hl := HS.out.look (HF.out _ (List.getElem_mem hlt))
      cases hs : S xs[k]
      · rw [hs] at hl
        have HE := Lib.hid (all_no (p := tokS S) hlt ((tokS_ge hneg).trans hs)); clear hs
        go_wp2
        go_ret
        exact ⟨ret_bool HE.out.symm, rfl⟩
      · rw [hs] at hl
        have HE := Lib.hid (upto_step (Q := fun x => tokS S x = true) hlt ((tokS_ge hneg).trans hs) H.out); clear hs
        go_wp2
        go_roundw
        case rel => exact ⟨k + 1, by omega, by go_num, by simp, HE.out⟩
        case measure => simp [intOf]; omega
    · have HE := Lib.hid (all_yes hlt H.out)
      go_wp2
      go_ret
      exact ⟨ret_bool HE.out.symm, rfl⟩

set_option maxRecDepth 20000 in
set_option maxHeartbeats 400000 in
theorem someGrow_any (b : Nat) (S : Int → Bool) (A : Option Addr) (xs : List Int) (c : Nat) (w : World) (hS : SetM w b S) (hx : Ints w w.heap.size A xs) (hf : FitI xs) (h1 : xs.length ≤ 4) :
    Calls Tryd.prog 99 #[.map (some b), .slice A xs.length c] w fun e w' => e = .returned (.bool (xs.any (tokS S))) ∧ w' = w := by
  have HX := Lib.hid hx; clear hx
  have HS := Lib.hid hS; clear hS
  have HF := Lib.hid hf; clear hf
  go_enter Tryd.func99, Tryd.ntmps99
  go_wp2
  go_loopw [9] (fun i wr => ∃ (k : Nat), k ≤ xs.length ∧ i = .int .i64 k ∧ wr = w ∧ Hid (∀ (j : Nat) (x : Int), j < k → xs[j]? = some x → tokS S x = false)) (fun i _ => xs.length - (intOf i).toNat)
  case atStart => exact ⟨0, by omega, rfl, rfl, fun j x h => absurd h (by omega)⟩
  case round =>
    obtain ⟨k, hk, rfl, rfl, H⟩ := hrel
    by_cases hlt : k < xs.length
    · obtain ⟨p, o, rfl, hb, c1⟩ := HX.out.at_ hlt
      by_cases hneg : xs[k] < 0
      · have HE := Lib.hid (any_yes (p := tokS S) hlt (tokS_lt hneg))
        go_wp2
        go_ret
        exact ⟨ret_bool HE.out.symm, rfl⟩
      have hl := HS.out.look (HF.out _ (List.getElem_mem hlt))
      cases hs : S xs[k]
      · rw [hs] at hl
        have HE := Lib.hid (upto_step (Q := fun x => tokS S x = false) hlt ((tokS_ge hneg).trans hs) H.out); clear hs
        go_wp2
        go_roundw
        case rel => exact ⟨k + 1, by omega, by go_num, by simp, HE.out⟩
        case measure => simp [intOf]; omega
      · rw [hs] at hl
        have HE := Lib.hid (any_yes (p := tokS S) hlt ((tokS_ge hneg).trans hs)); clear hs
        go_wp2
        go_ret
        exact ⟨ret_bool HE.out.symm, rfl⟩
    · have HE := Lib.hid (any_no hlt H.out)
      go_wp2
      go_ret
      exact ⟨ret_bool HE.out.symm, rfl⟩

end Go.Proofs.YtkghblgiojidgaaDoor
