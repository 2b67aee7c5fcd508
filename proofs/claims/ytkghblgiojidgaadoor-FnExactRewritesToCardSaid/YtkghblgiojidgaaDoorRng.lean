/- A range over a map keyed by numbers: which keys are still to come. -/
import Derived.Test.YtkghblgiojidgaaDoorMapV
namespace Go.Proofs.YtkghblgiojidgaaDoor
open Go.RowKit

/-- Block q is a map that holds f x at x; block r is a range over it; left x: x is still to come; cnt: how many are. -/
def Rng (w : World) (q r n : Nat) (f : Int → Option Value) (left : Int → Bool) (cnt : Nat) : Prop :=
  ∃ D lf, w.ranges Tryd.prog 3 valR q r n D lf cnt ∧ (∀ x, AtK D x (f x)) ∧ ∀ x, lf (ki x) = left x

theorem Rng.map {w : World} {q r n cnt : Nat} {f : Int → Option Value} {left : Int → Bool} (h : Rng w q r n f left cnt) : MapI w q n f := by
  obtain ⟨D, lf, h1, h2, _⟩ := h
  exact ⟨D, h1.owns, h2⟩
theorem Rng.lt {w : World} {q r n cnt : Nat} {f : Int → Option Value} {left : Int → Bool} (h : Rng w q r n f left cnt) : r < w.heap.size := by obtain ⟨D, lf, h1, _⟩ := h; exact h1.lt
theorem Rng.ne {w : World} {q r n cnt : Nat} {f : Int → Option Value} {left : Int → Bool} (h : Rng w q r n f left cnt) : r ≠ q := by obtain ⟨D, lf, h1, _⟩ := h; exact h1.ne
theorem Rng.save {S : Nat → Prop} {w w' : World} {q r n cnt : Nat} {f : Int → Option Value} {left : Int → Bool} (h : Rng w q r n f left cnt) (hs : Save S w w') (hq : ¬ S q) (hr : ¬ S r) : Rng w' q r n f left cnt := by
  have h1 := h.map.lt
  have h2 := h.lt
  obtain ⟨D, lf, ⟨es, ck, since, seen, c0, hb, F, hsz, hD, hr', rest⟩, h3, h4⟩ := h
  exact ⟨D, lf, ⟨es, ck, since, seen, c0, (hs.block q h1 hq).trans hb, F, hsz, hD, (hs.block r h2 hr).trans hr', rest⟩, h3, h4⟩
theorem Rng.keep {w w' : World} {q r n cnt : Nat} {f : Int → Option Value} {left : Int → Bool} (h : Rng w q r n f left cnt) (hs : Below w.heap.size w w') : Rng w' q r n f left cnt := h.save (S := fun _ => False) (Save.of_below hs) (fun e => e) fun e => e

/-- One key is struck. -/
def strike (left : Int → Bool) (x : Int) : Int → Bool := fun y => left y && decide (y ≠ x)
theorem strike_same (left : Int → Bool) (x : Int) : strike left x x = false := by simp [strike]
theorem strike_other {left : Int → Bool} {x y : Int} (h : y ≠ x) : strike left x y = left y := by simp [strike, h]
theorem strike_le {left : Int → Bool} {x y : Int} (h : strike left x y = true) : left y = true := by
  unfold strike at h
  simp at h
  exact h.1
theorem ki_same (x y : Int) : (ki y).sameKey (ki x) = decide (y = x) := by
  simp [ki, Lit.sameKey]

theorem MapI.range {w : World} {q n : Nat} {f : Int → Option Value} (h : MapI w q n f) {t e : TypeId} (ht : Tryd.prog.underlying t = some (.map 3 e)) :
    ∃ w' cnt, (Instr.range t (.map (some q))).run Tryd.prog w = .ok (.pointer (some ⟨w.heap.size, 0, none⟩)) w' ∧ Rng w' q w.heap.size n f (fun x => (f x).isSome) cnt ∧ cnt ≤ n ∧ Below w.heap.size w w' ∧ w'.heap.size = w.heap.size + 1 := by
  obtain ⟨D, h1, h2⟩ := h
  obtain ⟨w', hr, hrg, hg, hs⟩ := h1.range key_int ht
  exact ⟨w', _, hr, ⟨D, _, hrg, h2, fun x => (h2 x).has⟩, h1.size_le, below_grown hg, hs⟩

theorem Rng.next {w : World} {q r n cnt : Nat} {f : Int → Option Value} {left : Int → Bool} (h : Rng w q r n f left cnt) (ty : TypeId) :
    (cnt = 0 ∧ (∀ x, left x = false) ∧ (Instr.next (.pointer (some ⟨r, 0, none⟩)) false ty).run Tryd.prog w = .ok (.tuple #[.bool false]) w) ∨
    ∃ x v w' cnt', F64 x ∧ left x = true ∧ f x = some v ∧ (Instr.next (.pointer (some ⟨r, 0, none⟩)) false ty).run Tryd.prog w = .ok (.tuple #[.bool true, .int .i64 x, v]) w' ∧
      Rng w' q r n f (strike left x) cnt' ∧ cnt' < cnt ∧ Save (· = r) w w' ∧ w'.heap.size = w.heap.size ∧ (Instr.entry (.pointer (some ⟨r, 0, none⟩))).run Tryd.prog w' = .ok (.tuple #[.int .i64 x, v]) w' := by
  obtain ⟨D, lf, h1, h2, h3⟩ := h
  rcases h1.next key_int ty with ⟨h0, hl, hr⟩ | ⟨key, v, kl, y, w', cnt', hkey, hlk, hv, hat, hr, hrg, hlt, hg, hs, hen⟩
  · exact .inl ⟨h0, fun x => by rw [← h3]; exact hl _, hr⟩
  · obtain ⟨x, rfl, rfl, hx⟩ := key_inv hkey
    refine .inr ⟨x, v, w', cnt', hx, by rw [← h3]; exact hlk, ?_, hr, ⟨D, _, hrg, h2, fun z => ?_⟩, hlt, save_grown hg, hs, hen⟩
    · have ha := h2 x
      have hh := Maps.has_true_of_atKey hat
      cases hf : f x with
      | none =>
        rw [hf] at ha
        rw [show Maps.has D (ki x) = false from ha] at hh
        cases hh
      | some u =>
        rw [hf] at ha
        have e1 := hat .nil
        rw [show D.atKey (ki x) .nil = .held u from ha _] at e1
        have e2 : valR v = some (.held u, y.2) := by rw [hv, e1]
        rw [valR_inj e2]
    · show (lf (ki z) && !(ki z).sameKey (ki x)) = _
      rw [h3, ki_same]
      simp [strike]

theorem Rng.drop {w : World} {q r n cnt : Nat} {f : Int → Option Value} {left : Int → Bool} (h : Rng w q r n f left cnt) {x : Int} (hx : F64 x) {t e : TypeId} (ht : Tryd.prog.underlying t = some (.map 3 e)) (ty : TypeId) :
    ∃ w' cnt', (Builtin.delete_ #[t, 3] ty #[.map (some q), .int .i64 x]).run Tryd.prog w = .ok (.tuple #[]) w' ∧ Rng w' q r n (delK f x) (strike left x) cnt' ∧ cnt' ≤ cnt ∧ Save (· = q) w w' ∧ w'.heap.size = w.heap.size := by
  obtain ⟨D, lf, h1, h2, h3⟩ := h
  obtain ⟨w', cnt', hr, hrg, hle, hg⟩ := h1.drop key_int ht (key_of hx) ty
  refine ⟨w', cnt', hr, ⟨_, _, hrg, atK_del h2 x, fun z => ?_⟩, hle, save_grown hg.grown, ?_⟩
  · show (lf (ki z) && !(ki z).sameKey (ki x)) = _
    rw [h3, ki_same]
    simp [strike]
  · obtain ⟨_, _, _, _, _, rfl⟩ := hg
    simp [ChangeMaps.setBlock]

theorem strike_twice (left : Int → Bool) (x : Int) : strike (strike left x) x = strike left x := by
  funext y
  unfold strike
  cases left y <;> simp

end Go.Proofs.YtkghblgiojidgaaDoor
