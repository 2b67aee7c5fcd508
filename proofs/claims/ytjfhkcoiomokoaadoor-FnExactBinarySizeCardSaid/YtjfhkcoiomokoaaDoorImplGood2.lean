/- What the program's checks of rules and grammars answer. -/
import Derived.Test.YtjfhkcoiomokoaaDoorImplGood
namespace Go.Proofs.YtjfhkcoiomokoaaDoor
open Go.RowKit

/-- The number is one that an int can hold. -/
def F64 (x : Int) : Prop := -9223372036854775808 ≤ x ∧ x ≤ 9223372036854775807

/-- The cells of a box that stay while only newer memory is written. -/
def Box3 (w : World) (g : Nat) (a b c : Value) : Prop := g < w.heap.size ∧ w.cell? ⟨g, 0, none⟩ = some a ∧ w.cell? ⟨g, 1, none⟩ = some b ∧ w.cell? ⟨g, 2, none⟩ = some c
def Box2 (w : World) (g : Nat) (a b : Value) : Prop := g < w.heap.size ∧ w.cell? ⟨g, 0, none⟩ = some a ∧ w.cell? ⟨g, 1, none⟩ = some b

theorem Box3.keep {w w' : World} {g B : Nat} {a b c : Value} (h : Box3 w g a b c) (hb : Below B w w') (hB : g < B) : Box3 w' g a b c :=
  ⟨by have := hb.size; have := h.1; omega, (hb.cell (p := ⟨g, 0, none⟩) hB).trans h.2.1, (hb.cell (p := ⟨g, 1, none⟩) hB).trans h.2.2.1, (hb.cell (p := ⟨g, 2, none⟩) hB).trans h.2.2.2⟩
theorem Box2.keep {w w' : World} {g B : Nat} {a b : Value} (h : Box2 w g a b) (hb : Below B w w') (hB : g < B) : Box2 w' g a b :=
  ⟨by have := hb.size; have := h.1; omega, (hb.cell (p := ⟨g, 0, none⟩) hB).trans h.2.1, (hb.cell (p := ⟨g, 1, none⟩) hB).trans h.2.2⟩

set_option maxHeartbeats 400000 in
theorem allSymbols_any (n t : Int) (A A' : Option Addr) (m c c' : Nat) (xs : List Int) (w : World) (hx : Ints w w.heap.size A' xs) (h1 : xs.length ≤ 1048576) (hf : ∀ x ∈ xs, F64 x) :
    Calls Tryd.prog 108 #[.agg #[.int .i64 n, .int .i64 t, .slice A m c], .slice A' xs.length c'] w fun e w' => e = .returned (.bool (symsB n t xs)) ∧ Below w.heap.size w w' := by
  have HX := Lib.hid hx; clear hx
  have HF := Lib.hid hf; clear hf
  go_enter Tryd.func108, Tryd.ntmps108
  have HBW : Hid (Below w.heap.size w (w.alloc (.cells #[.int .i64 n, .int .i64 t, .slice A m c] 32))) := by show Below _ _ _; go_grown
  have HB3 : Hid (Box3 (w.alloc (.cells #[.int .i64 n, .int .i64 t, .slice A m c] 32)) w.heap.size (.int .i64 n) (.int .i64 t) (.slice A m c)) := ⟨by simp, by simp [go_sem], by simp [go_sem], by simp [go_sem]⟩
  go_wp2
  go_loopw [9] (fun i wr => ∃ (k : Nat), k ≤ xs.length ∧ i = .int .i64 k ∧ Below w.heap.size w wr ∧ Box3 wr w.heap.size (.int .i64 n) (.int .i64 t) (.slice A m c) ∧ Hid (∀ (j : Nat) (x : Int), j < k → xs[j]? = some x → symB n t x = true)) (fun i _ => xs.length - (intOf i).toNat)
  case atStart => exact ⟨0, by omega, rfl, HBW.out, HB3.out, fun j x h => absurd h (by omega)⟩
  case round =>
    obtain ⟨k, hk, rfl, hB, hbox, H⟩ := hrel
    by_cases hlt : k < xs.length
    · obtain ⟨b, o, rfl, hb, c1⟩ := (HX.out.keep hB).at_ hlt
      obtain ⟨g0, g1, g2, g3⟩ := id hbox
      have HBX := Lib.hid hbox; clear hbox
      obtain ⟨f0, f1⟩ := HF.out xs[k] (List.getElem_mem hlt)
      cases hs : symB n t xs[k]
      all_goals
        have HSY := Lib.hid hs; clear hs
        go_wp2_with fail
        refine (isSymbol_any _ _ _ _ _ _ _ f0 f1).mono ?_
        rintro e w3 ⟨rfl, hB3⟩
        rw [HSY.out]
        have hB4 : Below w.heap.size w w3 := hB.trans (hB3.mono hB.size)
      · have HE : Hid (symsB n t xs = false) := symsB_not hlt HSY.out
        go_wp2
        go_ret
        exact ⟨ret_bool HE.out.symm, hB4⟩
      · go_wp2
        go_roundw
        case rel => exact ⟨k + 1, by omega, by go_num, hB4, HBX.out.keep hB3 g0, syms_step hlt HSY.out H.out⟩
        case measure => simp [intOf]; omega
    · have HE : Hid (symsB n t xs = true) := symsB_of hlt H.out
      clear hbox
      go_wp2
      go_ret
      exact ⟨ret_bool HE.out.symm, hB⟩

/-- A right side that is good. -/
def rightB (n t : Int) (xs : List Int) : Bool := decide (xs.length ≤ 4) && symsB n t xs
set_option maxHeartbeats 400000 in
theorem goodRight_any (n t : Int) (A A' : Option Addr) (m c c' : Nat) (xs : List Int) (w : World) (hx : Ints w w.heap.size A' xs) (hL : Lims w) (h1 : xs.length ≤ 1048576) (hf : ∀ x ∈ xs, F64 x) :
    Calls Tryd.prog 120 #[.agg #[.int .i64 n, .int .i64 t, .slice A m c], .slice A' xs.length c'] w fun e w' => e = .returned (.bool (rightB n t xs)) ∧ Below w.heap.size w w' := by
  have HX := Lib.hid hx; clear hx
  have HL := Lib.hid hL; clear hL
  have HF := Lib.hid hf; clear hf
  have HBW : Hid (Below w.heap.size w (w.alloc (.cells #[.int .i64 n, .int .i64 t, .slice A m c] 32))) := by show Below _ _ _; go_grown
  have HB3 : Hid (Box3 (w.alloc (.cells #[.int .i64 n, .int .i64 t, .slice A m c] 32)) w.heap.size (.int .i64 n) (.int .i64 t) (.slice A m c)) := ⟨by simp, by simp [go_sem], by simp [go_sem], by simp [go_sem]⟩
  cases hi : inB 0 4 (xs.length : Int)
  · have HE : Hid (rightB n t xs = false) := by have := inB_no hi; show _ = _; unfold rightB; rw [decide_eq_false (by omega)]; rfl
    have HI := Lib.hid hi; clear hi
    go_enter Tryd.func120, Tryd.ntmps120
    go_wp2_with fail
    refine (within3 _ _ (HL.out.keep HBW.out (Nat.le_refl _))).mono ?_
    rintro e w2 ⟨rfl, hB2⟩
    rw [HI.out]
    go_wp2
    go_ret
    exact ⟨ret_bool HE.out.symm, HBW.out.trans (hB2.mono HBW.out.size)⟩
  · have HE : Hid (rightB n t xs = symsB n t xs) := by have := inB_hi hi; show _ = _; unfold rightB; rw [decide_eq_true (by omega)]; rfl
    have HI := Lib.hid hi; clear hi
    go_enter Tryd.func120, Tryd.ntmps120
    go_wp2_with fail
    refine (within3 _ _ (HL.out.keep HBW.out (Nat.le_refl _))).mono ?_
    rintro e w2 ⟨rfl, hB2⟩
    rw [HI.out]
    obtain ⟨g0, g1, g2, g3⟩ := HB3.out.keep hB2 (by simp)
    have HBV : Hid (Below w.heap.size w w2) := HBW.out.trans (hB2.mono HBW.out.size)
    clear hB2
    go_wp2_with fail
    refine (allSymbols_any n t A A' m c c' xs _ ((HX.out.keep HBV.out).more HBV.out.size) h1 HF.out).mono ?_
    rintro e w3 ⟨rfl, hB3⟩
    go_wp2
    go_ret
    exact ⟨ret_bool HE.out.symm, HBV.out.trans (hB3.mono HBV.out.size)⟩

set_option maxHeartbeats 400000 in
theorem goodRule_any (n t l : Int) (A A' : Option Addr) (m c c' : Nat) (xs : List Int) (w : World) (hx : Ints w w.heap.size A' xs) (hL : Lims w) (h1 : xs.length ≤ 1048576) (hf : ∀ x ∈ xs, F64 x) :
    Calls Tryd.prog 95 #[.agg #[.int .i64 n, .int .i64 t, .slice A m c], .agg #[.int .i64 l, .slice A' xs.length c']] w fun e w' => e = .returned (.bool (goodU n t (l, xs))) ∧ Below w.heap.size w w' := by
  have HX := Lib.hid hx; clear hx
  have HL := Lib.hid hL; clear hL
  have HF := Lib.hid hf; clear hf
  cases hq : nonB n l
  · have HE : Hid (goodU n t (l, xs) = false) := goodU_left hq
    have HQ := Lib.hid hq; clear hq
    go_enter Tryd.func95, Tryd.ntmps95
    go_wp2_with fail
    refine (isNon_any _ _ _ _ _).mono ?_
    rintro e w1 ⟨rfl, hB⟩
    rw [HQ.out]
    go_wp2
    go_ret
    exact ⟨ret_bool HE.out.symm, Below.trans (by go_grown) (hB.mono (by go_size))⟩
  · have HE : Hid (goodU n t (l, xs) = rightB n t xs) := by show _ = _; unfold goodU rightB; rw [hq]; rfl
    have HQ := Lib.hid hq; clear hq
    go_enter Tryd.func95, Tryd.ntmps95
    go_wp2_with fail
    refine (isNon_any _ _ _ _ _).mono ?_
    rintro e w1 ⟨rfl, hB⟩
    rw [HQ.out]
    have hz := hB.size
    simp only [World.size_alloc] at hz
    obtain ⟨_, g0, g1, g2⟩ : Box3 w1 w.heap.size (.int .i64 n) (.int .i64 t) (.slice A m c) := Box3.keep (B := w.heap.size + 1 + 1) ⟨by simp; omega, by simp [go_sem], by simp [go_sem], by simp [go_sem]⟩ (hB.mono (by go_size)) (by omega)
    obtain ⟨_, b0, b1⟩ : Box2 w1 (w.heap.size + 1) (.int .i64 l) (.slice A' xs.length c') := Box2.keep (B := w.heap.size + 1 + 1) ⟨by simp, by simp [go_sem], by simp [go_sem]⟩ (hB.mono (by go_size)) (by omega)
    have hB1 : Below w.heap.size w w1 := Below.trans (by go_grown) (hB.mono (by go_size))
    have HB1 := Lib.hid hB1; clear hB1
    clear hB
    go_wp2_with fail
    refine (goodRight_any n t A A' m c c' xs _ ((HX.out.keep HB1.out).more HB1.out.size) (HL.out.keep HB1.out (Nat.le_refl _)) h1 HF.out).mono ?_
    rintro e w2 ⟨rfl, hB2⟩
    go_wp2
    go_ret
    exact ⟨ret_bool HE.out.symm, HB1.out.trans (hB2.mono HB1.out.size)⟩

end Go.Proofs.YtjfhkcoiomokoaaDoor
