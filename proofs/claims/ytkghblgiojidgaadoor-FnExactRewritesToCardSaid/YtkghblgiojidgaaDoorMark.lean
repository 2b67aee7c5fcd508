/- What the laws' marks write, and what they find again. -/
import Derived.Test.YtkghblgiojidgaaDoorTo
import Derived.Test.YtkghblgiojidgaaDoorEq
namespace Go.Proofs.YtkghblgiojidgaaDoor
open Go.RowKit

/-- Only blocks of S have turned; new blocks may have come. -/
structure Save (S : Nat → Prop) (w w' : World) : Prop where
  os : w'.os = w.os
  tape : w'.tape = w.tape
  output : w'.output = w.output
  size : w.heap.size ≤ w'.heap.size
  block : ∀ b, b < w.heap.size → ¬ S b → w'.heap[b]? = w.heap[b]?

theorem Save.refl (S : Nat → Prop) (w : World) : Save S w w := ⟨rfl, rfl, rfl, Nat.le_refl _, fun _ _ _ => rfl⟩
theorem Save.trans {S : Nat → Prop} {a b c : World} (h : Save S a b) (k : Save S b c) : Save S a c :=
  ⟨k.os.trans h.os, k.tape.trans h.tape, k.output.trans h.output, Nat.le_trans h.size k.size, fun i hi hs => (k.block i (by have := h.size; omega) hs).trans (h.block i hi hs)⟩
theorem Save.wider {S T : Nat → Prop} {a b : World} (h : Save S a b) (hT : ∀ i, S i → T i) : Save T a b :=
  ⟨h.os, h.tape, h.output, h.size, fun i hi hs => h.block i hi fun hS => hs (hT i hS)⟩
theorem Save.of_below {S : Nat → Prop} {a b : World} (h : Below a.heap.size a b) : Save S a b := ⟨h.os, h.tape, h.output, h.size, fun i hi _ => h.block i hi⟩
theorem Save.below {S : Nat → Prop} {a b : World} {B : Nat} (h : Save S a b) (hB : B ≤ a.heap.size) (hS : ∀ i, i < B → ¬ S i) : Below B a b :=
  ⟨h.os, h.tape, h.output, h.size, fun i hi => h.block i (by omega) (hS i hi)⟩
theorem Save.setCell {S : Nat → Prop} {a w : World} (h : Save S a w) {p : Addr} (hp : S p.block) (u : Value) : Save S a (w.setCell p u) :=
  h.trans ⟨rfl, rfl, rfl, by simp [World.setCell], fun k _ hs => Below.heap_setCell _ _ _ _ (fun e => hs (e ▸ hp))⟩

theorem Row.save {S : Nat → Prop} {w w' : World} {g : Nat} {t : TypeId} {cs : Array Value} (h : Row w g t cs) (hs : Save S w w') (hg : ¬ S g) : Row w' g t cs := (hs.block g h.lt hg).trans h

theorem OwnI.save {S : Nat → Prop} {w w' : World} {lo : Nat} {A : Option Addr} {xs : List Int} (h : OwnI w lo A xs) (hs : Save S w w') (hA : ∀ g, A = some ⟨g, 0, none⟩ → xs ≠ [] → ¬ S g) : OwnI w' lo A xs := by
  by_cases e : xs = []
  · exact .inl e
  · rcases h with h | ⟨g, cs, ea, hl, hr, hc⟩
    · exact .inl h
    · exact .inr ⟨g, cs, ea, hl, hr.save hs (hA g ea e), hc⟩

theorem OwnI.at_ {w : World} {lo : Nat} {A : Option Addr} {xs : List Int} (h : OwnI w lo A xs) {i : Nat} (hi : i < xs.length) :
    ∃ g, A = some ⟨g, 0, none⟩ ∧ lo ≤ g ∧ g < w.heap.size ∧ w.cell? ⟨g, i, none⟩ = some (.int .i64 xs[i]) ∧ w.frozen? ⟨g, i, none⟩ = false := by
  rcases h with h | ⟨g, cs, ea, hl, hr, hc⟩
  · subst h; simp at hi
  · exact ⟨g, ea, hl, hr.lt, by rw [hr.cell]; exact hc i _ (List.getElem?_eq_getElem hi), hr.frozen i⟩

theorem OwnI.set {w : World} {lo g : Nat} {xs : List Int} (h : OwnI w lo (some ⟨g, 0, none⟩) xs) {i : Nat} (hi : i < xs.length) (x : Int) :
    OwnI (w.setCell ⟨g, i, none⟩ (.int .i64 x)) lo (some ⟨g, 0, none⟩) (xs.set i x) := by
  rcases h with h | ⟨g', cs, ea, hl, hr, hc⟩
  · subst h; simp at hi
  · injection ea with ea
    injection ea with ea
    subst ea
    have hlt : i < cs.size := (Array.getElem?_eq_some_iff.1 (hc i _ (List.getElem?_eq_getElem hi))).1
    refine .inr ⟨g, cs.setIfInBounds i (.int .i64 x), rfl, hl, hr.set i _, fun k y hy => ?_⟩
    rw [List.getElem?_set] at hy
    rw [Array.getElem?_setIfInBounds]
    by_cases e : i = k
    · subst e
      rw [if_pos rfl, if_pos hi] at hy
      rw [if_pos rfl, if_pos hlt]
      simpa using hy
    · rw [if_neg e] at hy ⊢
      exact hc k y hy

/-- k, k + 1, .. : n numbers. -/
def seqL (k : Int) (n : Nat) : List Int := (List.range n).map fun (i : Nat) => k + (i : Int)
theorem seqL_length (k : Int) (n : Nat) : (seqL k n).length = n := by simp [seqL]
theorem seqL_get {k : Int} {n i : Nat} (h : i < n) : (seqL k n)[i]? = some (k + (i : Int)) := by simp [seqL, h]
theorem seqL_at {k : Int} {n i : Nat} (h : i < (seqL k n).length) : (seqL k n)[i] = k + (i : Int) := by simp [seqL]
theorem seqL_ne {k : Int} {n : Nat} (h : n ≠ 0) : seqL k n ≠ [] := fun e => h (by have := congrArg List.length e; rwa [seqL_length] at this)

def midL (k : Int) (xs : List Int) (j : Nat) : List Int := seqL k j ++ xs.drop j
theorem midL_length {k : Int} {xs : List Int} {j : Nat} (h : j ≤ xs.length) : (midL k xs j).length = xs.length := by simp [midL, seqL_length]; omega
theorem midL_zero (k : Int) (xs : List Int) : midL k xs 0 = xs := by simp [midL, seqL]
theorem midL_all (k : Int) (xs : List Int) : midL k xs xs.length = seqL k xs.length := by simp [midL]
theorem midL_step {k : Int} {xs : List Int} {j : Nat} (h : j < xs.length) : (midL k xs j).set j (k + (j : Int)) = midL k xs (j + 1) := by
  apply List.ext_getElem?
  intro i
  simp only [midL, List.getElem?_set, List.length_append, seqL_length, List.length_drop]
  by_cases e : j = i
  · subst e
    rw [if_pos rfl, if_pos (by omega), List.getElem?_append_left (by rw [seqL_length]; omega), seqL_get (by omega)]
  · rw [if_neg e]
    by_cases hi : i < j
    · rw [List.getElem?_append_left (by rw [seqL_length]; omega), List.getElem?_append_left (by rw [seqL_length]; omega), seqL_get hi, seqL_get (by omega)]
    · rw [List.getElem?_append_right (by rw [seqL_length]; omega), List.getElem?_append_right (by rw [seqL_length]; omega), seqL_length, seqL_length, List.getElem?_drop, List.getElem?_drop]
      congr 1
      omega

/-- The blocks of one slice that is not empty. -/
def Its (A : Option Addr) (xs : List Int) (b : Nat) : Prop := A = some ⟨b, 0, none⟩ ∧ xs ≠ []

def MarkedI (w : World) (lo : Nat) (A : Option Addr) (xs : List Int) (k : Int) (e : Ending) (w' : World) : Prop :=
  e = .returned (.int .i64 (k + xs.length)) ∧ OwnI w' lo A (seqL k xs.length) ∧ Save (Its A xs) w w'

set_option maxHeartbeats 400000 in
theorem markIntS_any (A : Option Addr) (xs : List Int) (c lo : Nat) (k : Int) (w : World) (h : OwnI w lo A xs) (hn : xs.length ≤ 1048576) (hk : 0 ≤ k) (hk' : k ≤ 4398046511104) :
    Calls Tryd.prog 27 #[.slice A xs.length c, .int .i64 k] w (MarkedI w lo A xs k) := by
  have HO := Lib.hid h; clear h
  go_enter Tryd.func27, Tryd.ntmps27
  go_wp2
  go_loopw [1, 5] (fun v i wr => ∃ (j : Nat), j ≤ xs.length ∧ i = .int .i64 j ∧ v = .int .i64 (k + j) ∧ Hid (OwnI wr lo A (midL k xs j)) ∧ Hid (Save (Its A xs) w wr)) (fun _ i _ => xs.length - (intOf i).toNat)
  case atStart => exact ⟨0, by omega, rfl, by simp, by show OwnI _ _ _ _; rw [midL_zero]; exact HO.out, Save.refl _ _⟩
  case round =>
    obtain ⟨j, hj, rfl, rfl, H, HS⟩ := hrel
    by_cases hlt : j < xs.length
    · obtain ⟨g, rfl, _, _, c1, f1⟩ := H.out.at_ (i := j) (by rw [midL_length hj]; exact hlt)
      have hne : xs ≠ [] := fun e => by subst e; simp at hlt
      have HNE := Lib.hid hne; clear hne
      go_wp2
      go_roundw
      case rel => exact ⟨j + 1, by omega, by go_num, by go_num, by show OwnI _ _ _ _; rw [← midL_step hlt]; exact H.out.set (by rw [midL_length hj]; exact hlt) _, HS.out.setCell ⟨rfl, HNE.out⟩ _⟩
      case measure => simp [intOf]; omega
    · obtain rfl : j = xs.length := by omega
      go_wp2
      go_ret
      exact ⟨rfl, by rw [← midL_all]; exact H.out, HS.out⟩

set_option maxHeartbeats 400000 in
theorem heldIntS_any (A : Option Addr) (n c : Nat) (k : Int) (w : World) (h : Ints w w.heap.size A (seqL k n)) (hn : n ≤ 1048576) (hk : 0 ≤ k) (hk' : k ≤ 4398046511104) :
    Calls Tryd.prog 36 #[.slice A n c, .int .i64 k] w fun e w' => e = .returned (.int .i64 (k + n)) ∧ Below w.heap.size w w' := by
  have HO := Lib.hid h; clear h
  go_enter Tryd.func36, Tryd.ntmps36
  go_wp2
  go_loopw [1, 5] (fun v i wr => ∃ (j : Nat), j ≤ n ∧ i = .int .i64 j ∧ v = .int .i64 (k + j) ∧ Below w.heap.size w wr) (fun _ i _ => n - (intOf i).toNat)
  case atStart => exact ⟨0, by omega, rfl, by simp, Below.refl _ _⟩
  case round =>
    obtain ⟨j, hj, rfl, rfl, hB⟩ := hrel
    by_cases hlt : j < n
    · obtain ⟨b, o, rfl, hb, c1⟩ := (HO.out.keep hB).at_ (k := j) (by rw [seqL_length]; exact hlt)
      rw [seqL_at] at c1
      have hne : ((k + (j : Int)) != (k + (j : Int))) = false := by simp
      go_wp2
      go_roundw
      case rel => exact ⟨j + 1, by omega, by go_num, by go_num, hB⟩
      case measure => simp [intOf]; omega
    · obtain rfl : j = n := by omega
      go_wp2
      go_ret
      exact ⟨rfl, hB⟩

end Go.Proofs.YtkghblgiojidgaaDoor
