/- Copies of a list of numbers, the program's and the reference's. -/
import Derived.Test.YtkghblgiojidgaaDoorSpecGood2
import Derived.Test.YtkghblgiojidgaaDoorRowI
import Derived.Test.YtkghblgiojidgaaDoorMark
import Derived.Laws.CopyOwn
namespace Go.Proofs.YtkghblgiojidgaaDoor
open Go.RowKit

def vals (xs : List Int) : List Value := xs.map fun x => Value.int .i64 x
theorem vals_length (xs : List Int) : (vals xs).length = xs.length := by simp [vals]
theorem vals_one (xs : List Int) : ∀ v ∈ vals xs, v.oneCell' = true := by
  intro v hv
  obtain ⟨x, _, rfl⟩ := List.mem_map.1 hv
  rfl
theorem vals_get {xs : List Int} {j : Nat} {v : Value} (h : (vals xs)[j]? = some v) : ∃ x, xs[j]? = some x ∧ v = .int .i64 x := by
  simp only [vals, List.getElem?_map, Option.map_eq_some_iff] at h
  obtain ⟨x, hx, rfl⟩ := h
  exact ⟨x, hx, rfl⟩
theorem Ints.src {w : World} {B : Nat} {A : Option Addr} {xs : List Int} (h : Ints w B A xs) (hp : 0 < xs.length) : ∃ ad, A = some ad ∧ ∀ (j : Nat) (v : Value), (vals xs)[j]? = some v → w.cell? (ad.add j) = some v := by
  obtain ⟨b, o, rfl, _, hc⟩ := h hp
  refine ⟨_, rfl, fun j v hv => ?_⟩
  obtain ⟨x, hx, rfl⟩ := vals_get hv
  rw [Go.WideShapes.add_plain]
  exact hc j x hx


theorem own_empty (w : World) : (w.alloc (.cells #[] 3)).ownsRow w.heap.size 3 1 (.slice (some ⟨w.heap.size, 0, none⟩) 0 0) 0 [] :=
  ⟨rfl, .inr ⟨w.heap.size, 0, #[], rfl, Nat.le_refl _, heap_alloc_new w _, Nat.le_refl _, by simp [maxLen], rfl, rfl⟩⟩

/-- Nothing appended: a nil source, whatever its capacity says. -/
theorem append_nil_at {P : Program} {w : World} {ops : Array Oper} {rest : List Oper} {o : Oper} {a : Act} {Q : Exit → Act → World → Prop} (hgd : o.guard = none) (s x : Operand) (t : TypeId)
    (ho : o.op = .call { callee := .builtin .append, args := #[s, x], argTypes := #[t, t] }) (base : Nat) (e : TypeId) (i : TypeInfo) (size : Nat) (ht : P.underlying t = some (.slice e)) (hi : P.info? e = some i)
    (v : Value) (n : Nat) (xs : List Value) (hs : a.eval s = v) (hown : w.ownsRow base e size v n xs) (c : Nat) (hx : a.eval x = .slice none 0 c)
    (h : wpList P ops Q rest (a.put o.dst v) w) : wpList P ops Q (o :: rest) a w := by
  refine wpList_plain hgd fun K hK => ?_
  have hrun : (Builtin.append_ #[t, t] o.type #[v, .slice none 0 c]).run P w = .ok v w := by
    obtain ⟨_, ⟨rfl, rfl⟩ | ⟨g, cap, cur, rfl, _, _, hnc, _⟩⟩ := hown
    · simp [Builtin.append_, run_underlying ht, typeInfo, sizeOf, hi, Builtin.firstCells, Builtin.lenOf]
    · simp [Builtin.append_, run_underlying ht, typeInfo, sizeOf, hi, Builtin.firstCells, Builtin.lenOf, storeCells, hnc]
  unfold Oper.wp
  simp [execOp, ho, resolve, invoke, builtin, hs, hx, hrun, Result.andThen]
  exact hK _ _ h

set_option maxRecDepth 20000 in
set_option maxHeartbeats 400000 in
theorem l1Own_any (A : Option Addr) (xs : List Int) (c : Nat) (w : World) (hr : Ints w w.heap.size A xs) (hn : xs.length ≤ 1048576) :
    Calls Tryd.prog 65 #[.slice A xs.length c] w (GaveI' w xs) := by
  obtain ⟨i0, hi0, hz0, hz1, hz2⟩ := info_of Tryd.infoInt
  have hB0 : Below w.heap.size w (w.alloc (.cells #[] 3)) := by go_grown
  have HB0 := Lib.hid hB0; clear hB0
  have HR := Lib.hid (hr.keep HB0.out); clear hr
  have HE := Lib.hid (own_empty w)
  rcases A with _ | ad
  · have hx : xs = [] := by
      rcases xs with _ | ⟨x, xs⟩
      · rfl
      · obtain ⟨_, _, e, _⟩ := HR.out (by simp)
        cases e
    subst hx
    go_enter Tryd.func65, Tryd.ntmps65
    go_wp2_with (at_builtin
                 refine append_nil_at rfl (.tmp 3) (.tmp 4) _ rfl w.heap.size 3 i0 1 Tryd.underlying34 hi0 _ _ _ rfl HE.out c rfl ?_)
    go_ret
    exact ⟨_, _, rfl, .inl rfl, HB0.out⟩
  · have HN : Hid (∀ (j : Nat) (v : Value), (vals xs)[j]? = some v → (w.alloc (.cells #[] 3)).cell? (ad.add j) = some v) := fun j v hv => by
      have hp : 0 < xs.length := by have := (List.getElem?_eq_some_iff.1 hv).1; rw [vals_length] at this; omega
      obtain ⟨ad', e, h⟩ := HR.out.src hp
      injection e with e
      subst e
      exact h j v hv
    go_enter Tryd.func65, Tryd.ntmps65
    go_wp2_with (at_builtin
                 refine wpList_append_own _ rfl (.tmp 3) (.tmp 4) _ rfl w.heap.size 3 i0 _ 1 8 Tryd.underlying34 hi0 hz0 hz1 hz2 rfl (by omega) _ _ _ rfl HE.out ad xs.length c (vals xs) rfl (by rw [vals_length]; omega) HN.out (vals_one xs) (by unfold maxLen; omega) (by omega) (by simp) ?_
                 intro v' w' h1 h2 h3
                 have HO1 := Lib.hid h1
                 have HG1 := Lib.hid h2
                 clear h1 h2 h3)
    have h1 := HO1.out
    rw [List.nil_append] at h1
    obtain ⟨A', c', rfl, hO⟩ := ownI_of_row (ys := xs) h1
    go_ret
    exact ⟨A', c', rfl, hO, HB0.out.grown HG1.out HB0.out.size fun k hk => (HE.out.lt k hk).1⟩

theorem Save.drew {S : Nat → Prop} {a w : World} (h : Save S a w) : Save S a w.drew := ⟨h.os, h.tape, h.output, h.size, h.block⟩

theorem val_int {a b : Int} (h : a = b) : Value.int .i64 a = .int .i64 b := by rw [h]

end Go.Proofs.YtkghblgiojidgaaDoor
