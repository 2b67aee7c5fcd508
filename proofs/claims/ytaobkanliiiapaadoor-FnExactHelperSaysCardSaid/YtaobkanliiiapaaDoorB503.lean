/- What the laws' marks write, and what they find again. -/
import Derived.Test.YtaobkanliiiapaaDoorB501
import Derived.Test.YtaobkanliiiapaaDoorB502
import Derived.Laws.CopyOwn
import Derived.Deep.OwnRows
import Derived.Maps.AppendAt
import Derived.Maps.RangeWalk
import Derived.Maps.OwnSet

namespace Go.Proofs.YtaobkanliiiapaaDoor
open Go.RowKit

/-- Only blocks of S have turned; new blocks may have come. -/
structure Save (S : Nat → Prop) (w w' : World) : Prop where
  os : w'.os = w.os
  tape : w'.tape = w.tape
  output : w'.output = w.output
  size : w.heap.size ≤ w'.heap.size
  block : ∀ b, b < w.heap.size → ¬ S b → w'.heap[b]? = w.heap[b]?

theorem Save.refl (S : Nat → Prop) (w : World) : Save S w w := ⟨rfl, rfl, rfl, Nat.le_refl _, fun _ _ _ => rfl⟩
theorem Save.trans {S : Nat → Prop} {a b c : World} (h : Save S a b) (k : Save S b c) : Save S a c :=
  ⟨k.os.trans h.os, k.tape.trans h.tape, k.output.trans h.output, Nat.le_trans h.size k.size, fun i hi hs => (k.block i (by have := h.size; omega) hs).trans (h.block i hi hs)⟩
theorem Save.wider {S T : Nat → Prop} {a b : World} (h : Save S a b) (hT : ∀ i, S i → T i) : Save T a b :=
  ⟨h.os, h.tape, h.output, h.size, fun i hi hs => h.block i hi fun hS => hs (hT i hS)⟩
theorem Save.of_below {S : Nat → Prop} {a b : World} (h : Below a.heap.size a b) : Save S a b := ⟨h.os, h.tape, h.output, h.size, fun i hi _ => h.block i hi⟩
theorem Save.below {S : Nat → Prop} {a b : World} {B : Nat} (h : Save S a b) (hB : B ≤ a.heap.size) (hS : ∀ i, i < B → ¬ S i) : Below B a b :=
  ⟨h.os, h.tape, h.output, h.size, fun i hi => h.block i (by omega) (hS i hi)⟩
theorem Save.setCell {S : Nat → Prop} {a w : World} (h : Save S a w) {p : Addr} (hp : S p.block) (u : Value) : Save S a (w.setCell p u) :=
  h.trans ⟨rfl, rfl, rfl, by simp [World.setCell], fun k _ hs => Below.heap_setCell _ _ _ _ (fun e => hs (e ▸ hp))⟩

theorem Row.save {S : Nat → Prop} {w w' : World} {g : Nat} {t : TypeId} {cs : Array Value} (h : Row w g t cs) (hs : Save S w w') (hg : ¬ S g) : Row w' g t cs := (hs.block g h.lt hg).trans h

theorem OwnI.save {S : Nat → Prop} {w w' : World} {lo : Nat} {A : Option Addr} {xs : List Int} (h : OwnI w lo A xs) (hs : Save S w w') (hA : ∀ g, A = some ⟨g, 0, none⟩ → xs ≠ [] → ¬ S g) : OwnI w' lo A xs := by
  by_cases e : xs = []
  · exact .inl e
  · rcases h with h | ⟨g, cs, ea, hl, hr, hc⟩
    · exact .inl h
    · exact .inr ⟨g, cs, ea, hl, hr.save hs (hA g ea e), hc⟩

theorem OwnI.at_ {w : World} {lo : Nat} {A : Option Addr} {xs : List Int} (h : OwnI w lo A xs) {i : Nat} (hi : i < xs.length) :
    ∃ g, A = some ⟨g, 0, none⟩ ∧ lo ≤ g ∧ g < w.heap.size ∧ w.cell? ⟨g, i, none⟩ = some (.int .i64 xs[i]) ∧ w.frozen? ⟨g, i, none⟩ = false := by
  rcases h with h | ⟨g, cs, ea, hl, hr, hc⟩
  · subst h; simp at hi
  · exact ⟨g, ea, hl, hr.lt, by rw [hr.cell]; exact hc i _ (List.getElem?_eq_getElem hi), hr.frozen i⟩

theorem OwnI.set {w : World} {lo g : Nat} {xs : List Int} (h : OwnI w lo (some ⟨g, 0, none⟩) xs) {i : Nat} (hi : i < xs.length) (x : Int) :
    OwnI (w.setCell ⟨g, i, none⟩ (.int .i64 x)) lo (some ⟨g, 0, none⟩) (xs.set i x) := by
  rcases h with h | ⟨g', cs, ea, hl, hr, hc⟩
  · subst h; simp at hi
  · injection ea with ea
    injection ea with ea
    subst ea
    have hlt : i < cs.size := (Array.getElem?_eq_some_iff.1 (hc i _ (List.getElem?_eq_getElem hi))).1
    refine .inr ⟨g, cs.setIfInBounds i (.int .i64 x), rfl, hl, hr.set i _, fun k y hy => ?_⟩
    rw [List.getElem?_set] at hy
    rw [Array.getElem?_setIfInBounds]
    by_cases e : i = k
    · subst e
      rw [if_pos rfl, if_pos hi] at hy
      rw [if_pos rfl, if_pos hlt]
      simpa using hy
    · rw [if_neg e] at hy ⊢
      exact hc k y hy

/-- k, k + 1, .. : n numbers. -/
def seqL (k : Int) (n : Nat) : List Int := (List.range n).map fun (i : Nat) => k + (i : Int)
theorem seqL_length (k : Int) (n : Nat) : (seqL k n).length = n := by simp [seqL]
theorem seqL_get {k : Int} {n i : Nat} (h : i < n) : (seqL k n)[i]? = some (k + (i : Int)) := by simp [seqL, h]
theorem seqL_at {k : Int} {n i : Nat} (h : i < (seqL k n).length) : (seqL k n)[i] = k + (i : Int) := by simp [seqL]
theorem seqL_ne {k : Int} {n : Nat} (h : n ≠ 0) : seqL k n ≠ [] := fun e => h (by have := congrArg List.length e; rwa [seqL_length] at this)

def midL (k : Int) (xs : List Int) (j : Nat) : List Int := seqL k j ++ xs.drop j
theorem midL_length {k : Int} {xs : List Int} {j : Nat} (h : j ≤ xs.length) : (midL k xs j).length = xs.length := by simp [midL, seqL_length]; omega
theorem midL_zero (k : Int) (xs : List Int) : midL k xs 0 = xs := by simp [midL, seqL]
theorem midL_all (k : Int) (xs : List Int) : midL k xs xs.length = seqL k xs.length := by simp [midL]
theorem midL_step {k : Int} {xs : List Int} {j : Nat} (h : j < xs.length) : (midL k xs j).set j (k + (j : Int)) = midL k xs (j + 1) := by
  apply List.ext_getElem?
  intro i
  simp only [midL, List.getElem?_set, List.length_append, seqL_length, List.length_drop]
  by_cases e : j = i
  · subst e
    rw [if_pos rfl, if_pos (by omega), List.getElem?_append_left (by rw [seqL_length]; omega), seqL_get (by omega)]
  · rw [if_neg e]
    by_cases hi : i < j
    · rw [List.getElem?_append_left (by rw [seqL_length]; omega), List.getElem?_append_left (by rw [seqL_length]; omega), seqL_get hi, seqL_get (by omega)]
    · rw [List.getElem?_append_right (by rw [seqL_length]; omega), List.getElem?_append_right (by rw [seqL_length]; omega), seqL_length, seqL_length, List.getElem?_drop, List.getElem?_drop]
      congr 1
      omega

/-- The blocks of one slice that is not empty. -/
def Its (A : Option Addr) (xs : List Int) (b : Nat) : Prop := A = some ⟨b, 0, none⟩ ∧ xs ≠ []

def MarkedI (w : World) (lo : Nat) (A : Option Addr) (xs : List Int) (k : Int) (e : Ending) (w' : World) : Prop :=
  e = .returned (.int .i64 (k + xs.length)) ∧ OwnI w' lo A (seqL k xs.length) ∧ Save (Its A xs) w w'

set_option maxHeartbeats 400000 in
theorem markIntS_any (A : Option Addr) (xs : List Int) (c lo : Nat) (k : Int) (w : World) (h : OwnI w lo A xs) (hn : xs.length ≤ 1048576) (hk : 0 ≤ k) (hk' : k ≤ 4398046511104) :
    Calls Tryd.prog 40 #[.slice A xs.length c, .int .i64 k] w (MarkedI w lo A xs k) := by
  have HO := Lib.hid h; clear h
  go_enter Tryd.func40, Tryd.ntmps40
  go_wp2
  go_loopw [1, 5] (fun v i wr => ∃ (j : Nat), j ≤ xs.length ∧ i = .int .i64 j ∧ v = .int .i64 (k + j) ∧ Hid (OwnI wr lo A (midL k xs j)) ∧ Hid (Save (Its A xs) w wr)) (fun _ i _ => xs.length - (intOf i).toNat)
  case atStart => exact ⟨0, by omega, rfl, by simp, by show OwnI _ _ _ _; rw [midL_zero]; exact HO.out, Save.refl _ _⟩
  case round =>
    obtain ⟨j, hj, rfl, rfl, H, HS⟩ := hrel
    by_cases hlt : j < xs.length
    · obtain ⟨g, rfl, _, _, c1, f1⟩ := H.out.at_ (i := j) (by rw [midL_length hj]; exact hlt)
      have hne : xs ≠ [] := fun e => by subst e; simp at hlt
      have HNE := Lib.hid hne; clear hne
      go_wp2
      go_roundw
      case rel => exact ⟨j + 1, by omega, by go_num, by go_num, by show OwnI _ _ _ _; rw [← midL_step hlt]; exact H.out.set (by rw [midL_length hj]; exact hlt) _, HS.out.setCell ⟨rfl, HNE.out⟩ _⟩
      case measure => simp [intOf]; omega
    · obtain rfl : j = xs.length := by omega
      go_wp2
      go_ret
      exact ⟨rfl, by rw [← midL_all]; exact H.out, HS.out⟩

set_option maxHeartbeats 400000 in
theorem heldIntS_any (A : Option Addr) (n c : Nat) (k : Int) (w : World) (h : Ints w w.heap.size A (seqL k n)) (hn : n ≤ 1048576) (hk : 0 ≤ k) (hk' : k ≤ 4398046511104) :
    Calls Tryd.prog 41 #[.slice A n c, .int .i64 k] w fun e w' => e = .returned (.int .i64 (k + n)) ∧ Below w.heap.size w w' := by
  have HO := Lib.hid h; clear h
  go_enter Tryd.func41, Tryd.ntmps41
  go_wp2
  go_loopw [1, 5] (fun v i wr => ∃ (j : Nat), j ≤ n ∧ i = .int .i64 j ∧ v = .int .i64 (k + j) ∧ Below w.heap.size w wr) (fun _ i _ => n - (intOf i).toNat)
  case atStart => exact ⟨0, by omega, rfl, by simp, Below.refl _ _⟩
  case round =>
    obtain ⟨j, hj, rfl, rfl, hB⟩ := hrel
    by_cases hlt : j < n
    · obtain ⟨b, o, rfl, hb, c1⟩ := (HO.out.keep hB).at_ (k := j) (by rw [seqL_length]; exact hlt)
      rw [seqL_at] at c1
      have hne : ((k + (j : Int)) != (k + (j : Int))) = false := by simp
      go_wp2
      go_roundw
      case rel => exact ⟨j + 1, by omega, by go_num, by go_num, hB⟩
      case measure => simp [intOf]; omega
    · obtain rfl : j = n := by omega
      go_wp2
      go_ret
      exact ⟨rfl, hB⟩

end Go.Proofs.YtaobkanliiiapaaDoor

/- Copies of a list of numbers, the program's and the reference's. -/

namespace Go.Proofs.YtaobkanliiiapaaDoor
open Go.RowKit

def vals (xs : List Int) : List Value := xs.map fun x => Value.int .i64 x
theorem vals_length (xs : List Int) : (vals xs).length = xs.length := by simp [vals]
theorem vals_one (xs : List Int) : ∀ v ∈ vals xs, v.oneCell' = true := by
  intro v hv
  obtain ⟨x, _, rfl⟩ := List.mem_map.1 hv
  rfl
theorem vals_get {xs : List Int} {j : Nat} {v : Value} (h : (vals xs)[j]? = some v) : ∃ x, xs[j]? = some x ∧ v = .int .i64 x := by
  simp only [vals, List.getElem?_map, Option.map_eq_some_iff] at h
  obtain ⟨x, hx, rfl⟩ := h
  exact ⟨x, hx, rfl⟩
theorem Ints.src {w : World} {B : Nat} {A : Option Addr} {xs : List Int} (h : Ints w B A xs) (hp : 0 < xs.length) : ∃ ad, A = some ad ∧ ∀ (j : Nat) (v : Value), (vals xs)[j]? = some v → w.cell? (ad.add j) = some v := by
  obtain ⟨b, o, rfl, _, hc⟩ := h hp
  refine ⟨_, rfl, fun j v hv => ?_⟩
  obtain ⟨x, hx, rfl⟩ := vals_get hv
  rw [Go.WideShapes.add_plain]
  exact hc j x hx

set_option maxRecDepth 20000 in
set_option maxHeartbeats 400000 in
theorem copyList_any (A : Option Addr) (xs : List Int) (c : Nat) (w : World) (hr : Ints w w.heap.size A xs) (hn : xs.length ≤ 1048576) :
    Calls Tryd.prog 70 #[.slice A xs.length c] w (GaveI w xs) := by
  have hmk := make_ints xs.length hn
  have hB0 : Below w.heap.size w (w.alloc (.cells (zI xs.length) 3)) := by go_grown
  have HB0 := Lib.hid hB0; clear hB0
  have HR := Lib.hid (hr.keep HB0.out); clear hr
  have HG : Hid ((w.alloc (.cells (zI xs.length) 3)).heap[w.heap.size]? = some (.cells (zI xs.length).toList.toArray 3 (0, 0))) := by
    show _ = _
    simpa using heap_alloc_new w (.cells (zI xs.length) 3)
  have HF : Hid (0 + (vals xs).length ≤ (zI xs.length).toList.length) := by
    show _ ≤ _
    have h := zI_size xs.length
    rw [← Array.length_toList] at h
    rw [vals_length]
    omega
  go_enter Tryd.func70, Tryd.ntmps70
  go_wp2_with (with_reducible refine wpList_copy_splice rfl (.tmp 7) (.tmp 8) 37 37 rfl 3 Tryd.underlying37 (by kernel_rfl) (some ⟨w.heap.size, 0, none⟩) A xs.length xs.length xs.length c rfl rfl w.heap.size 0 (zI xs.length).toList 3 HG.out (vals xs) (by rw [vals_length]; exact (Nat.min_self _).symm) (fun hp => ⟨rfl, HR.out.src (by rw [vals_length] at hp; exact hp)⟩) HF.out (vals_one xs) w.heap.size w HB0.out (Nat.le_refl _) ?_)
  intro w1 HG1 hB1
  go_wp2
  go_ret
  refine ⟨some ⟨w.heap.size, 0, none⟩, xs.length, rfl, Nat.le_refl _, .inr ⟨w.heap.size, _, rfl, Nat.le_refl _, HG1.out, fun k x hx => ?_⟩, hB1⟩
  have hk := (List.getElem?_eq_some_iff.1 hx).1
  simp only [splice, List.take_zero, List.nil_append, List.getElem?_toArray]
  rw [List.getElem?_append_left (by rw [vals_length]; exact hk)]
  simp [vals, hx]

theorem own_empty (w : World) : (w.alloc (.cells #[] 3)).ownsRow w.heap.size 3 1 (.slice (some ⟨w.heap.size, 0, none⟩) 0 0) 0 [] :=
  ⟨rfl, .inr ⟨w.heap.size, 0, #[], rfl, Nat.le_refl _, heap_alloc_new w _, Nat.le_refl _, by simp [maxLen], rfl, rfl⟩⟩

/-- Nothing appended: a nil source, whatever its capacity says. -/
theorem append_nil_at {P : Program} {w : World} {ops : Array Oper} {rest : List Oper} {o : Oper} {a : Act} {Q : Exit → Act → World → Prop} (hgd : o.guard = none) (s x : Operand) (t : TypeId)
    (ho : o.op = .call { callee := .builtin .append, args := #[s, x], argTypes := #[t, t] }) (base : Nat) (e : TypeId) (i : TypeInfo) (size : Nat) (ht : P.underlying t = some (.slice e)) (hi : P.info? e = some i)
    (v : Value) (n : Nat) (xs : List Value) (hs : a.eval s = v) (hown : w.ownsRow base e size v n xs) (c : Nat) (hx : a.eval x = .slice none 0 c)
    (h : wpList P ops Q rest (a.put o.dst v) w) : wpList P ops Q (o :: rest) a w := by
  refine wpList_plain hgd fun K hK => ?_
  have hrun : (Builtin.append_ #[t, t] o.type #[v, .slice none 0 c]).run P w = .ok v w := by
    obtain ⟨_, ⟨rfl, rfl⟩ | ⟨g, cap, cur, rfl, _, _, hnc, _⟩⟩ := hown
    · simp [Builtin.append_, run_underlying ht, typeInfo, sizeOf, hi, Builtin.firstCells, Builtin.lenOf]
    · simp [Builtin.append_, run_underlying ht, typeInfo, sizeOf, hi, Builtin.firstCells, Builtin.lenOf, storeCells, hnc]
  unfold Oper.wp
  simp [execOp, ho, resolve, invoke, builtin, hs, hx, hrun, Result.andThen]
  exact hK _ _ h

set_option maxRecDepth 20000 in
set_option maxHeartbeats 400000 in
theorem l1Own_any (A : Option Addr) (xs : List Int) (c : Nat) (w : World) (hr : Ints w w.heap.size A xs) (hn : xs.length ≤ 1048576) :
    Calls Tryd.prog 72 #[.slice A xs.length c] w (GaveI' w xs) := by
  obtain ⟨i0, hi0, hz0, hz1, hz2⟩ := info_of Tryd.infoInt
  have hB0 : Below w.heap.size w (w.alloc (.cells #[] 3)) := by go_grown
  have HB0 := Lib.hid hB0; clear hB0
  have HR := Lib.hid (hr.keep HB0.out); clear hr
  have HE := Lib.hid (own_empty w)
  rcases A with _ | ad
  · have hx : xs = [] := by
      rcases xs with _ | ⟨x, xs⟩
      · rfl
      · obtain ⟨_, _, e, _⟩ := HR.out (by simp)
        cases e
    subst hx
    go_enter Tryd.func72, Tryd.ntmps72
    go_wp2_with (at_builtin
                 refine append_nil_at rfl (.tmp 3) (.tmp 4) _ rfl w.heap.size 3 i0 1 Tryd.underlying37 hi0 _ _ _ rfl HE.out c rfl ?_)
    go_ret
    exact ⟨_, _, rfl, .inl rfl, HB0.out⟩
  · have HN : Hid (∀ (j : Nat) (v : Value), (vals xs)[j]? = some v → (w.alloc (.cells #[] 3)).cell? (ad.add j) = some v) := fun j v hv => by
      have hp : 0 < xs.length := by have := (List.getElem?_eq_some_iff.1 hv).1; rw [vals_length] at this; omega
      obtain ⟨ad', e, h⟩ := HR.out.src hp
      injection e with e
      subst e
      exact h j v hv
    go_enter Tryd.func72, Tryd.ntmps72
    go_wp2_with (at_builtin
                 refine wpList_append_own _ rfl (.tmp 3) (.tmp 4) _ rfl w.heap.size 3 i0 _ 1 8 Tryd.underlying37 hi0 hz0 hz1 hz2 rfl (by omega) _ _ _ rfl HE.out ad xs.length c (vals xs) rfl (by rw [vals_length]; omega) HN.out (vals_one xs) (by unfold maxLen; omega) (by omega) (by simp) ?_
                 intro v' w' h1 h2 h3
                 have HO1 := Lib.hid h1
                 have HG1 := Lib.hid h2
                 clear h1 h2 h3)
    have h1 := HO1.out
    rw [List.nil_append] at h1
    obtain ⟨A', c', rfl, hO⟩ := ownI_of_row (ys := xs) h1
    go_ret
    exact ⟨A', c', rfl, hO, HB0.out.grown HG1.out HB0.out.size fun k hk => (HE.out.lt k hk).1⟩

theorem Save.drew {S : Nat → Prop} {a w : World} (h : Save S a w) : Save S a w.drew := ⟨h.os, h.tape, h.output, h.size, h.block⟩

theorem val_int {a b : Int} (h : a = b) : Value.int .i64 a = .int .i64 b := by rw [h]

end Go.Proofs.YtaobkanliiiapaaDoor

/- Steps of a walk: a slice cut at either end, and appended to a slice of the call's own, wherever it lies. -/

namespace Go.Proofs.YtaobkanliiiapaaDoor
open Go.RowKit

section
variable {P : Program} {ops : Array Oper} {Q : Exit → Act → World → Prop} {a : Act} {w : World} {rest : List Oper} {o : Oper}

/-- l[k:] -/
theorem wpList_from (hg : o.guard = none) (t : TypeId) (x i : Operand) (ho : o.op = .slice t x (some i) none none) (e : TypeId) (ht : P.underlying t = some (.slice e)) (hs : (P.info? e).map (·.size) = some 1) (A : Option Addr) (n c k : Nat) (hx : a.eval x = .slice A n c) (hi : a.eval i = .int .i64 k) (hk : k ≤ n)
    (h : ∀ A', (∀ b q, A = some ⟨b, q, none⟩ → k < c → A' = some ⟨b, q + k, none⟩) → (A = none → A' = none) → wpList P ops Q rest (a.put o.dst (.slice A' (n - k) (c - k))) w) : wpList P ops Q (o :: rest) a w := by
  refine wpList_plain hg fun K hK => ?_
  unfold Oper.wp
  cases hq : P.info? e with
  | none => simp [hq] at hs
  | some j =>
    have hz : j.size = 1 := by simpa [hq] using hs
    have h1 : (k : Int) ≤ (n : Int) := by omega
    have hrun : (Instr.slice t (.slice A n c) (some (.int .i64 k)) none none).run P w = .ok (.slice (if c = k then A else A.map (·.add k)) (n - k) (c - k)) w := by
      simp [Instr.slice, run_underlying ht, Instr.sliceBounds, Instr.sliceBound, asIntOf, sizeOf, typeInfo, hq, hz, hk]
    have hex : (execOp a.eval o).run P w = .ok (.value (.slice (if c = k then A else A.map (·.add k)) (n - k) (c - k))) w := by
      simp [execOp, ho, hx, hi, Instr.sliceAt, run_underlying ht, hrun, Result.andThen]
    rw [hex]
    refine hK _ _ (h _ (fun b q e h2 => ?_) (fun e => ?_))
    · rw [if_neg (by omega), e]
      simp [Go.WideShapes.add_plain]
    · rw [e]; split <;> rfl

/-- l[:k] -/
theorem wpList_upto (hg : o.guard = none) (t : TypeId) (x i : Operand) (ho : o.op = .slice t x none (some i) none) (e : TypeId) (ht : P.underlying t = some (.slice e)) (hs : (P.info? e).map (·.size) = some 1) (A : Option Addr) (hA : A = none ∨ ∃ b q, A = some ⟨b, q, none⟩) (n c k : Nat) (hx : a.eval x = .slice A n c) (hi : a.eval i = .int .i64 k) (hk : k ≤ c)
    (h : wpList P ops Q rest (a.put o.dst (.slice A k c)) w) : wpList P ops Q (o :: rest) a w := by
  refine wpList_plain hg fun K hK => ?_
  unfold Oper.wp
  cases hq : P.info? e with
  | none => simp [hq] at hs
  | some j =>
    have hAA : A.map (·.add 0) = A := by
      rcases hA with rfl | ⟨b, q, rfl⟩
      · rfl
      · simp [Go.WideShapes.add_plain]
    have hrun : (Instr.slice t (.slice A n c) none (some (.int .i64 k)) none).run P w = .ok (.slice A k c) w := by
      have h2 : (if c = 0 then A else A.map (·.add 0)) = A := by rw [hAA]; split <;> rfl
      simp [Instr.slice, run_underlying ht, Instr.sliceBounds, Instr.sliceBound, asIntOf, sizeOf, typeInfo, hq, hk, h2]
    have hex : (execOp a.eval o).run P w = .ok (.value (.slice A k c)) w := by
      simp [execOp, ho, hx, hi, Instr.sliceAt, run_underlying ht, hrun, Result.andThen]
    rw [hex]
    exact hK _ _ h

/-- append of whatever slice. -/
theorem wpList_app (hgd : o.guard = none) (s x : Operand) (t : TypeId) (ho : o.op = .call { callee := .builtin .append, args := #[s, x], argTypes := #[t, t] })
    (base : Nat) (e : TypeId) (i : TypeInfo) (z : Value) (size bytes : Nat) (ht : P.underlying t = some (.slice e)) (hi : P.info? e = some i) (hz : i.zero = some z) (hsize : i.size = size) (hby : i.bytes = bytes) (hzs : z.cells.size = size) (hsz : 0 < size)
    (v : Value) (n : Nat) (xs : List Value) (hs : a.eval s = v) (hown : w.ownsRow base e size v n xs) (ao : Option Addr) (m c : Nat) (news : List Value) (hx : a.eval x = .slice ao m c) (hl : news.length = m * size)
    (hnews : 0 < m → ∃ ad, ao = some ad ∧ ∀ (j : Nat) (u : Value), news[j]? = some u → w.cell? (ad.add j) = some u) (h1 : ∀ u ∈ news, u.oneCell' = true) (h63 : n + m ≤ maxLen) (hbytes : (n + m) * bytes ≤ 140737488355328) (hbase : base ≤ w.heap.size)
    (h : ∀ v' w', w'.ownsRow base e size v' (n + m) (xs ++ news) → w.grownBy w' v.ownBlock → wpList P ops Q rest (a.put o.dst v') w') : wpList P ops Q (o :: rest) a w := by
  have hnil : m = 0 → news = [] := fun e => List.eq_nil_of_length_eq_zero (by rw [hl, e, Nat.zero_mul])
  rcases ao with _ | ad
  · have hm : m = 0 := by
      apply Classical.byContradiction
      intro hc
      obtain ⟨ad, e, _⟩ := hnews (by omega)
      cases e
    have hn := hnil hm
    subst hm hn
    exact append_nil_at hgd s x t ho base e i size ht hi v n xs hs hown c hx (h v w (by simpa using hown) (World.grownBy.refl _ _))
  · refine wpList_append_own w hgd s x t ho base e i z size bytes ht hi hz hsize hby hzs hsz v n xs hs hown ad m c news hx hl (fun j u hu => ?_) h1 h63 hbytes hbase fun v' w' p1 p2 _ => h v' w' p1 p2
    have hm : 0 < m := by
      apply Classical.byContradiction
      intro hc
      rw [hnil (by omega)] at hu
      simp at hu
    obtain ⟨ad', e', hh⟩ := hnews hm
    injection e' with e'
    subst e'
    exact hh j u hu
end

end Go.Proofs.YtaobkanliiiapaaDoor

/- Rows of rules that the call itself makes: owned, read as a list, appended to. -/

namespace Go.Proofs.YtaobkanliiiapaaDoor
open Go.RowKit

def cellsU (u : Ru) : List Value := [.int .i64 u.l, .slice u.a u.r.length u.c]

theorem flat_get : ∀ {ds : List Ru} {k : Nat} {u : Ru}, ds[k]? = some u → (ds.flatMap cellsU)[k * 2]? = some (.int .i64 u.l) ∧ (ds.flatMap cellsU)[k * 2 + 1]? = some (.slice u.a u.r.length u.c)
  | [], k, u, h => by simp at h
  | d :: ds, 0, u, h => by
    simp at h
    subst h
    simp [cellsU]
  | d :: ds, k + 1, u, h => by
    have ih := flat_get (ds := ds) (k := k) (u := u) (by simpa using h)
    have e1 : (k + 1) * 2 = k * 2 + 1 + 1 := by omega
    have e2 : (k + 1) * 2 + 1 = k * 2 + 1 + 1 + 1 := by omega
    rw [e1]
    simpa [cellsU] using ih

theorem flat_length (ds : List Ru) : (ds.flatMap cellsU).length = ds.length * 2 := by
  induction ds with
  | nil => rfl
  | cons d ds ih => rw [List.flatMap_cons, List.length_append, ih]; simp [cellsU]; omega

theorem own_below {w w' : World} {base : Nat} {e : TypeId} {size n : Nat} {v : Value} {xs : List Value} (h : w.ownsRow base e size v n xs) (hb : Below w.heap.size w w') : w'.ownsRow base e size v n xs := by
  obtain ⟨h1, h2 | ⟨g, cap, cur, h3, h4, h5, h6⟩⟩ := h
  · exact ⟨h1, .inl h2⟩
  · exact ⟨h1, .inr ⟨g, cap, cur, h3, h4, (hb.block g (Row.lt (t := e) h5)).trans h5, h6⟩⟩

/-- A right side lies apart from a row of rules that is appended to. -/
theorem OwnI.grown {w w' : World} {lo base n : Nat} {A : Option Addr} {xs : List Int} {v : Value} {cs : List Value} (h : OwnI w lo A xs) (hv : w.ownsRow base 106 2 v n cs) (hg : w.grownBy w' v.ownBlock) : OwnI w' lo A xs := by
  rcases h with h | ⟨g, rc, e, hl, hr, hc⟩
  · exact .inl h
  · refine .inr ⟨g, rc, e, hl, (hg.block g hr.lt fun hb => ?_).trans hr, hc⟩
    obtain ⟨_, ⟨rfl, _⟩ | ⟨g', cap, cur, rfl, _, h5, _⟩⟩ := hv
    · cases hb
    · injection hb with hb
      subst hb
      exact hr.ne (t' := 106) (cs' := cur) h5 (by decide) rfl

theorem ownR_of_row {w : World} {lo k : Nat} {v : Value} {ds : List Ru} (h1 : ds.length = k) (h2 : w.ownsRow lo 106 2 v k (ds.flatMap cellsU)) (h4 : ∀ (j : Nat) (u : Ru), ds[j]? = some u → OwnI w lo u.a u.r)
    (h5 : ∀ (i j : Nat) (u v : Ru), ds[i]? = some u → ds[j]? = some v → i ≠ j → u.r ≠ [] → v.r ≠ [] → u.a ≠ v.a) : ∃ A c, v = .slice A ds.length c ∧ ds.length ≤ c ∧ OwnR w lo A ds := by
  subst h1
  obtain ⟨_, ⟨rfl, h0⟩ | ⟨g, cap, cur, rfl, hlo, hg, hcap, _, _, hx⟩⟩ := h2
  · have : ds = [] := List.eq_nil_of_length_eq_zero h0
    subst this
    exact ⟨none, 0, rfl, Nat.le_refl _, .inl rfl⟩
  · refine ⟨_, cap, rfl, hcap, .inr ⟨g, cur, rfl, hlo, hg, fun k u hu => ?_, h5⟩⟩
    have hk := (List.getElem?_eq_some_iff.1 hu).1
    obtain ⟨f1, f2⟩ := flat_get hu
    rw [← hx] at f1 f2
    rw [List.getElem?_take, if_pos (by omega)] at f1 f2
    exact ⟨by simpa using f1, by simpa using f2, h4 k u hu⟩

theorem two_new (w : World) (x y : Value) (t : TypeId) : ∀ j u, [x, y][j]? = some u → (w.alloc (.cells #[x, y] t)).cell? ((⟨w.heap.size, 0, none⟩ : Addr).add j) = some u := by
  intro j u h
  rw [Go.WideShapes.add_plain, Nat.zero_add]
  rcases j with _ | _ | j
  · simpa [go_sem] using h
  · simpa [go_sem] using h
  · simp at h

/-- The slice v of rules is the call's own and reads as ds; each right side is the call's own, and no two lie in one block. -/
structure RulesW (w : World) (lo : Nat) (v : Value) (ds : List Ru) : Prop where
  row : w.ownsRow lo 106 2 v ds.length (ds.flatMap cellsU)
  rts : ∀ (j : Nat) (u : Ru), ds[j]? = some u → OwnI w lo u.a u.r
  far : ∀ (i j : Nat) (u v : Ru), ds[i]? = some u → ds[j]? = some v → i ≠ j → u.r ≠ [] → v.r ≠ [] → u.a ≠ v.a

theorem RulesW.start (w : World) (lo : Nat) : RulesW w lo (.slice none 0 0) [] := ⟨⟨rfl, .inl ⟨rfl, rfl⟩⟩, fun j u h => by simp at h, fun i j u v h => by simp at h⟩
theorem RulesW.keep {w w' : World} {lo : Nat} {v : Value} {ds : List Ru} (h : RulesW w lo v ds) (hb : Below w.heap.size w w') : RulesW w' lo v ds :=
  ⟨own_below h.row hb, fun j x hx => (h.rts j x hx).below hb (Nat.le_refl _), h.far⟩
theorem RulesW.low {w : World} {lo : Nat} {v : Value} {ds : List Ru} (h : RulesW w lo v ds) {p : Addr} (hp : p.block < lo) (u : Value) : RulesW (w.setCell p u) lo v ds :=
  ⟨ownsRow_setCell_below h.row hp u, fun j x hx => (h.rts j x hx).low hp u, h.far⟩
theorem RulesW.slice {w : World} {lo : Nat} {v : Value} {ds : List Ru} (h : RulesW w lo v ds) : ∃ A c, v = .slice A ds.length c ∧ ds.length ≤ c ∧ OwnR w lo A ds := ownR_of_row rfl h.row h.rts h.far
/-- Blocks below lo may turn. -/
theorem RulesW.save {S : Nat → Prop} {w w' : World} {lo : Nat} {v : Value} {ds : List Ru} (h : RulesW w lo v ds) (hs : Save S w w') (hS : ∀ b, lo ≤ b → ¬ S b) : RulesW w' lo v ds := by
  refine ⟨?_, fun j x hx => (h.rts j x hx).save hs fun g e hn => ?_, h.far⟩
  · obtain ⟨hl, h1 | ⟨g, cap, cur, e1, hlo, hg, e2, e3, e4, e5⟩⟩ := h.row
    · exact ⟨hl, .inl h1⟩
    · exact ⟨hl, .inr ⟨g, cap, cur, e1, hlo, (hs.block g (Row.lt hg) (hS g hlo)).trans hg, e2, e3, e4, e5⟩⟩
  · rcases h.rts j x hx with h6 | ⟨g1, _, e1, hl, _⟩
    · exact absurd h6 hn
    · have := e.symm.trans e1
      injection this with this
      injection this with this
      subst this
      exact hS g hl

theorem last_of {ds : List Ru} {x : Ru} {i : Nat} {u : Ru} (hi : ¬ i < ds.length) (hu : (ds ++ [x])[i]? = some u) : i = ds.length ∧ u = x := by
  rw [List.getElem?_append_right (by omega)] at hu
  have hj : i - ds.length = 0 := by
    rcases Nat.eq_zero_or_pos (i - ds.length) with h0 | h0
    · exact h0
    · rw [List.getElem?_eq_none (by simp; omega)] at hu; cases hu
  rw [hj] at hu
  simp at hu
  exact ⟨by omega, hu.symm⟩

/-- A rule is appended: its right side lies apart from all that are there. -/
theorem RulesW.step {w w2 : World} {lo : Nat} {v v' : Value} {ds : List Ru} {l : Int} {A : Option Addr} {xs : List Int} {c : Nat} (h : RulesW w lo v ds) (hO : OwnI w lo A xs)
    (hap : ∀ (j : Nat) (u : Ru), ds[j]? = some u → u.r ≠ [] → xs ≠ [] → u.a ≠ A)
    (ho : w2.ownsRow lo 106 2 v' (ds.length + 1) (ds.flatMap cellsU ++ [.int .i64 l, .slice A xs.length c])) (hg : w.grownBy w2 v.ownBlock) : RulesW w2 lo v' (ds ++ [⟨l, A, xs, c⟩]) := by
  refine ⟨?_, ?_, ?_⟩
  · rw [List.length_append, List.flatMap_append]
    simpa [cellsU] using ho
  · intro j u hu
    by_cases e : j < ds.length
    · rw [List.getElem?_append_left (by omega)] at hu
      exact (h.rts j u hu).grown h.row hg
    · obtain ⟨_, rfl⟩ := last_of e hu
      exact hO.grown h.row hg
  · intro i j u v hu hv hij hun hvn
    by_cases hi : i < ds.length <;> by_cases hj : j < ds.length
    · rw [List.getElem?_append_left (by omega)] at hu hv
      exact h.far i j u v hu hv hij hun hvn
    · obtain ⟨rfl, rfl⟩ := last_of hj hv
      rw [List.getElem?_append_left (by omega)] at hu
      exact hap i u hu hun hvn
    · obtain ⟨rfl, rfl⟩ := last_of hi hu
      rw [List.getElem?_append_left (by omega)] at hv
      exact fun e => hap j v hv hvn hun e.symm
    · have := (last_of hi hu).1; have := (last_of hj hv).1; omega

/-- A right side that was made later lies apart. -/
theorem RulesW.apart {w w1 : World} {lo : Nat} {v : Value} {ds : List Ru} {A : Option Addr} {xs : List Int} (h : RulesW w lo v ds) (hO : OwnI w1 w.heap.size A xs) : ∀ (j : Nat) (u : Ru), ds[j]? = some u → u.r ≠ [] → xs ≠ [] → u.a ≠ A := by
  intro j u hu hne hne' he
  rcases h.rts j u hu with h6 | ⟨g1, _, e1, _, r1, _⟩
  · exact hne h6
  · rcases hO with h7 | ⟨g2, _, e2, l2, _, _⟩
    · exact hne' h7
    · rw [e1, e2] at he
      have := r1.lt
      injection he with he
      injection he with he
      omega

end Go.Proofs.YtaobkanliiiapaaDoor

/- A slice of lists that a call makes by appending new lists to it. -/

namespace Go.Proofs.YtaobkanliiiapaaDoor
open Go.RowKit

def cellsL (u : Li) : Value := .slice u.a u.r.length u.c

/-- The slice v of lists is the call's own and reads as ds; each list is the call's own, and no two lie in one block. -/
structure ListsW (w : World) (lo : Nat) (v : Value) (ds : List Li) : Prop where
  row : w.ownsRow lo 37 1 v ds.length (ds.map cellsL)
  caps : ∀ (j : Nat) (u : Li), ds[j]? = some u → u.r.length ≤ u.c
  rts : ∀ (j : Nat) (u : Li), ds[j]? = some u → OwnI w lo u.a u.r
  far : ∀ (i j : Nat) (u v : Li), ds[i]? = some u → ds[j]? = some v → i ≠ j → u.r ≠ [] → v.r ≠ [] → u.a ≠ v.a

theorem ListsW.start (w : World) (lo : Nat) : ListsW w lo (.slice none 0 0) [] := ⟨⟨rfl, .inl ⟨rfl, rfl⟩⟩, fun j u h => by simp at h, fun j u h => by simp at h, fun i j u v h => by simp at h⟩
theorem ListsW.keep {w w' : World} {lo : Nat} {v : Value} {ds : List Li} (h : ListsW w lo v ds) (hb : Below w.heap.size w w') : ListsW w' lo v ds :=
  ⟨own_below h.row hb, h.caps, fun j x hx => (h.rts j x hx).below hb (Nat.le_refl _), h.far⟩
theorem ListsW.low {w : World} {lo : Nat} {v : Value} {ds : List Li} (h : ListsW w lo v ds) {p : Addr} (hp : p.block < lo) (u : Value) : ListsW (w.setCell p u) lo v ds :=
  ⟨ownsRow_setCell_below h.row hp u, h.caps, fun j x hx => (h.rts j x hx).low hp u, h.far⟩
theorem ListsW.lt {w : World} {lo : Nat} {v : Value} {ds : List Li} (h : ListsW w lo v ds) (b : Nat) (e : v.ownBlock = some b) : lo ≤ b ∧ b < w.heap.size := h.row.lt b e

theorem ListsW.slice {w : World} {lo : Nat} {v : Value} {ds : List Li} (h : ListsW w lo v ds) : ∃ A c, v = .slice A ds.length c ∧ ds.length ≤ c ∧ OwnL w lo A ds := by
  obtain ⟨_, ⟨rfl, h0⟩ | ⟨g, cap, cur, rfl, hlo, hg, hcap, _, _, hx⟩⟩ := h.row
  · have : ds = [] := List.eq_nil_of_length_eq_zero h0
    subst this
    exact ⟨none, 0, rfl, Nat.le_refl _, .inl rfl⟩
  · refine ⟨_, cap, rfl, hcap, .inr ⟨g, cur, rfl, hlo, hg, fun k u hu => ?_, h.far⟩⟩
    have hk := (List.getElem?_eq_some_iff.1 hu).1
    have f1 : (ds.map cellsL)[k]? = some (cellsL u) := by rw [List.getElem?_map, hu]; rfl
    rw [← hx, List.getElem?_take, if_pos (by omega)] at f1
    exact ⟨by simpa [cellsL] using f1, h.caps k u hu, h.rts k u hu⟩

/-- A list lies apart from a row of lists that is appended to. -/
theorem OwnI.grownL {w w' : World} {lo base n : Nat} {A : Option Addr} {xs : List Int} {v : Value} {cs : List Value} (h : OwnI w lo A xs) (hv : w.ownsRow base 37 1 v n cs) (hg : w.grownBy w' v.ownBlock) : OwnI w' lo A xs := by
  rcases h with h | ⟨g, rc, e, hl, hr, hc⟩
  · exact .inl h
  · refine .inr ⟨g, rc, e, hl, (hg.block g hr.lt fun hb => ?_).trans hr, hc⟩
    obtain ⟨_, ⟨rfl, _⟩ | ⟨g', cap, cur, rfl, _, h5, _⟩⟩ := hv
    · cases hb
    · injection hb with hb
      subst hb
      exact hr.ne (t' := 37) h5 (by decide) rfl

theorem ListsW.step {w w2 : World} {lo : Nat} {v v' : Value} {ds : List Li} {A : Option Addr} {xs : List Int} {c : Nat} (h : ListsW w lo v ds) (hO : OwnI w lo A xs) (hcap : xs.length ≤ c)
    (hap : ∀ (j : Nat) (u : Li), ds[j]? = some u → u.r ≠ [] → xs ≠ [] → u.a ≠ A)
    (ho : w2.ownsRow lo 37 1 v' (ds.length + 1) (ds.map cellsL ++ [.slice A xs.length c])) (hg : w.grownBy w2 v.ownBlock) : ListsW w2 lo v' (ds ++ [⟨A, xs, c⟩]) := by
  refine ⟨?_, ?_, ?_, ?_⟩
  · rw [List.length_append, List.map_append]
    simpa [cellsL] using ho
  · intro j u hu
    rcases getElem?_snoc hu with ⟨_, hu⟩ | ⟨_, rfl⟩
    · exact h.caps j u hu
    · exact hcap
  · intro j u hu
    rcases getElem?_snoc hu with ⟨_, hu⟩ | ⟨_, rfl⟩
    · exact (h.rts j u hu).grownL h.row hg
    · exact hO.grownL h.row hg
  · intro i j u v hu hv hij hun hvn
    rcases getElem?_snoc hu with ⟨_, hu⟩ | ⟨hi, rfl⟩ <;> rcases getElem?_snoc hv with ⟨_, hv⟩ | ⟨hj, rfl⟩
    · exact h.far i j u v hu hv hij hun hvn
    · exact hap i u hu hun hvn
    · exact fun e => hap j v hv hvn hun e.symm
    · omega

/-- A list that was made later lies apart. -/
theorem ListsW.apart {w w1 : World} {lo : Nat} {v : Value} {ds : List Li} {A : Option Addr} {xs : List Int} (h : ListsW w lo v ds) (hO : OwnI w1 w.heap.size A xs) : ∀ (j : Nat) (u : Li), ds[j]? = some u → u.r ≠ [] → xs ≠ [] → u.a ≠ A := by
  intro j u hu hne hne' he
  rcases h.rts j u hu with h6 | ⟨g1, _, e1, _, r1, _⟩
  · exact hne h6
  · rcases hO with h7 | ⟨g2, _, e2, l2, _, _⟩
    · exact hne' h7
    · rw [e1, e2] at he
      have := r1.lt
      injection he with he
      injection he with he
      omega

theorem own_new3 (w : World) (a b c : Int) : OwnI (w.alloc (.cells #[.int .i64 a, .int .i64 b, .int .i64 c] 3)) w.heap.size (some ⟨w.heap.size, 0, none⟩) [a, b, c] := by
  refine .inr ⟨w.heap.size, _, rfl, Nat.le_refl _, Row.new _ _ _, fun k x hx => ?_⟩
  rcases k with _ | _ | _ | k
  · simpa using hx
  · simpa using hx
  · simpa using hx
  · simp at hx

theorem list_one_new (w : World) (o : Obj) (x : Value) (t : TypeId) : ∀ j u, [x][j]? = some u → ((w.alloc o).alloc (.cells #[x] t)).cell? ((⟨w.heap.size + 1, 0, none⟩ : Addr).add j) = some u := by
  intro j u h
  rw [Go.WideShapes.add_plain, Nat.zero_add]
  rcases j with _ | j
  · simpa [go_sem] using h
  · simp at h

/-- Three numbers, made into a list and appended. -/
theorem ListsW.push3 {w w2 : World} {lo : Nat} {v v' : Value} {ds : List Li} {a b c : Int} {o : Obj} (h : ListsW w lo v ds) (hlo : lo ≤ w.heap.size)
    (ho : w2.ownsRow lo 37 1 v' (ds.length + 1) (ds.map cellsL ++ [.slice (some ⟨w.heap.size, 0, none⟩) 3 3])) (hg : ((w.alloc (.cells #[.int .i64 a, .int .i64 b, .int .i64 c] 3)).alloc o).grownBy w2 v.ownBlock) :
    ListsW w2 lo v' (ds ++ [⟨some ⟨w.heap.size, 0, none⟩, [a, b, c], 3⟩]) := by
  have hB1 : Below w.heap.size w (w.alloc (.cells #[.int .i64 a, .int .i64 b, .int .i64 c] 3)) := (Below.refl _ _).alloc (Nat.le_refl _) _
  have hB2 : Below (w.alloc (.cells #[.int .i64 a, .int .i64 b, .int .i64 c] 3)).heap.size (w.alloc (.cells #[.int .i64 a, .int .i64 b, .int .i64 c] 3)) ((w.alloc (.cells #[.int .i64 a, .int .i64 b, .int .i64 c] 3)).alloc o) := (Below.refl _ _).alloc (Nat.le_refl _) _
  have hO := (own_new3 w a b c).below hB2 (Nat.le_refl _)
  exact ((h.keep hB1).keep hB2).step (hO.lower hlo) (Nat.le_refl _) (h.apart hO) ho hg

end Go.Proofs.YtaobkanliiiapaaDoor

/- What derives what, plainly. -/

namespace Go.Proofs.YtaobkanliiiapaaDoor

/-- One symbol derives the part from i on ahead of j, where D tells it of the nonterminals. -/
def SymD (D : Int → Nat → Nat → Prop) (ws : List Int) (x : Int) (i j : Nat) : Prop := (x < 0 ∧ j = i + 1 ∧ ws[i]? = some (-1 - x)) ∨ (0 ≤ x ∧ D x i j)
/-- .. and symbols, one behind the other. -/
def SeqD (D : Int → Nat → Nat → Prop) (ws : List Int) : List Int → Nat → Nat → Prop
  | [], i, j => i = j
  | x :: xs, i, j => ∃ m, SymD D ws x i m ∧ SeqD D ws xs m j
theorem SymD.mono {D E : Int → Nat → Nat → Prop} {ws : List Int} (h : ∀ x i j, D x i j → E x i j) {x : Int} {i j : Nat} (k : SymD D ws x i j) : SymD E ws x i j := k.imp id fun k => ⟨k.1, h _ _ _ k.2⟩
theorem SeqD.mono {D E : Int → Nat → Nat → Prop} {ws : List Int} (h : ∀ x i j, D x i j → E x i j) {xs : List Int} {i j : Nat} (k : SeqD D ws xs i j) : SeqD E ws xs i j := by
  induction xs generalizing i with
  | nil => exact k
  | cons x xs ih =>
    obtain ⟨m, k1, k2⟩ := k
    exact ⟨m, k1.mono h, ih k2⟩
theorem seqD_snoc {D : Int → Nat → Nat → Prop} {ws : List Int} {xs : List Int} {x : Int} {i j : Nat} : SeqD D ws (xs ++ [x]) i j ↔ ∃ m, SeqD D ws xs i m ∧ SymD D ws x m j := by
  induction xs generalizing i with
  | nil =>
    constructor
    · rintro ⟨m, k1, k2⟩
      have k3 : m = j := k2
      subst k3
      exact ⟨i, rfl, k1⟩
    · rintro ⟨m, k1, k2⟩
      have k3 : i = m := k1
      subst k3
      exact ⟨j, k2, rfl⟩
  | cons y ys ih =>
    constructor
    · rintro ⟨m, k1, k2⟩
      obtain ⟨m', k3, k4⟩ := ih.1 k2
      exact ⟨m', ⟨m, k1, k3⟩, k4⟩
    · rintro ⟨m', ⟨m, k1, k3⟩, k4⟩
      exact ⟨m, k1, ih.2 ⟨m', k3, k4⟩⟩
theorem take_snoc {xs : List Int} {k : Nat} (h : k < xs.length) : xs.take (k + 1) = xs.take k ++ [xs[k]] := by
  rw [List.take_add_one, List.getElem?_eq_getElem h]; rfl
theorem seqD_take {D : Int → Nat → Nat → Prop} {ws : List Int} {xs : List Int} {k : Nat} (h : k < xs.length) {i j : Nat} : SeqD D ws (xs.take (k + 1)) i j ↔ ∃ m, SeqD D ws (xs.take k) i m ∧ SymD D ws xs[k] m j := by
  rw [take_snoc h]; exact seqD_snoc

/-- What D tells is closed under the rules. -/
def ClosedD (rs : List (Int × List Int)) (ws : List Int) (D : Int → Nat → Nat → Prop) : Prop := ∀ r ∈ rs, ∀ i j, i ≤ ws.length → SeqD D ws r.2 i j → D r.1 i j
/-- What is derived. -/
def Der (rs : List (Int × List Int)) (ws : List Int) (x : Int) (i j : Nat) : Prop := ∀ D, ClosedD rs ws D → D x i j
theorem der_closed (rs : List (Int × List Int)) (ws : List Int) : ClosedD rs ws (Der rs ws) := fun r hr i j hi k D hD => hD r hr i j hi (k.mono fun _ _ _ h => h D hD)
/-- What D tells lies in the word. -/
def InD (n : Nat) (D : Int → Nat → Nat → Prop) : Prop := ∀ x i j, D x i j → i ≤ j ∧ j ≤ n
theorem InD.sym {ws : List Int} {D : Int → Nat → Nat → Prop} (h : InD ws.length D) {x : Int} {i j : Nat} (k : SymD D ws x i j) : i ≤ j ∧ j ≤ ws.length := by
  rcases k with ⟨_, k2, k3⟩ | ⟨_, k⟩
  · have := (List.getElem?_eq_some_iff.1 k3).1; omega
  · exact h _ _ _ k
theorem InD.seq {ws : List Int} {D : Int → Nat → Nat → Prop} (h : InD ws.length D) {xs : List Int} {i j : Nat} (hi : i ≤ ws.length) (k : SeqD D ws xs i j) : i ≤ j ∧ j ≤ ws.length := by
  induction xs generalizing i with
  | nil => have k1 : i = j := k; omega
  | cons x xs ih =>
    obtain ⟨m, k1, k2⟩ := k
    have := h.sym k1
    have := ih this.2 k2
    omega
theorem der_in (rs : List (Int × List Int)) (ws : List Int) : InD ws.length (Der rs ws) := fun _ _ _ h => h (fun _ i j => i ≤ j ∧ j ≤ ws.length) fun _ _ _ _ hi k => InD.seq (D := fun _ i j => i ≤ j ∧ j ≤ ws.length) (fun _ _ _ h => h) hi k
/-- What is derived is derived by a rule. -/
theorem der_rule {rs : List (Int × List Int)} {ws : List Int} {x : Int} {i j : Nat} : Der rs ws x i j ↔ ∃ r ∈ rs, r.1 = x ∧ i ≤ ws.length ∧ SeqD (Der rs ws) ws r.2 i j := by
  constructor
  · intro h
    refine h (fun x i j => ∃ r ∈ rs, r.1 = x ∧ i ≤ ws.length ∧ SeqD (Der rs ws) ws r.2 i j) fun r hr i j hi k => ⟨r, hr, rfl, hi, k.mono ?_⟩
    rintro x i j ⟨r, hr, rfl, hi, k⟩
    exact der_closed rs ws r hr i j hi k
  · rintro ⟨r, hr, rfl, hi, k⟩
    exact der_closed rs ws r hr i j hi k
/-- A table that tells derived parts alone, and is closed. -/
theorem der_eq {rs : List (Int × List Int)} {ws : List Int} {D : Int → Nat → Nat → Prop} (hs : ∀ x i j, D x i j → Der rs ws x i j) (hc : ClosedD rs ws D) {x : Int} {i j : Nat} : D x i j ↔ Der rs ws x i j := ⟨hs x i j, fun h => h D hc⟩
/-- One step keeps a table sound. -/
theorem der_step {rs : List (Int × List Int)} {ws : List Int} {D : Int → Nat → Nat → Prop} (hs : ∀ x i j, D x i j → Der rs ws x i j) {r : Int × List Int} (hr : r ∈ rs) {i j : Nat} (hi : i ≤ ws.length) (k : SeqD D ws r.2 i j) : Der rs ws r.1 i j := der_closed rs ws r hr i j hi (k.mono hs)

end Go.Proofs.YtaobkanliiiapaaDoor

/- Sets of places as masks, and the program's table of them. -/

namespace Go.Proofs.YtaobkanliiiapaaDoor

/-- What a table of masks tells. -/
def DK (K : Nat → Nat → Nat) : Int → Nat → Nat → Prop := fun x i j => 0 ≤ x ∧ (K x.toNat i).testBit j = true
/-- A mask has just the places of P. -/
def Msk (m : Nat) (P : Nat → Prop) : Prop := m < 2048 ∧ ∀ j, m.testBit j = true ↔ P j
theorem Msk.lt {m : Nat} {P : Nat → Prop} (h : Msk m P) {j : Nat} (k : P j) : j < 11 := by
  have h1 := (h.2 j).2 k
  by_cases e : j < 11
  · exact e
  · have : m < 2 ^ j := Nat.lt_of_lt_of_le h.1 (show 2048 ≤ 2 ^ j from (Nat.pow_le_pow_right (by decide) (by omega) : 2 ^ 11 ≤ 2 ^ j))
    rw [Nat.testBit_lt_two_pow this] at h1
    cases h1
theorem Msk.congr {m : Nat} {P Q : Nat → Prop} (h : Msk m P) (e : ∀ j, P j ↔ Q j) : Msk m Q := ⟨h.1, fun j => (h.2 j).trans (e j)⟩
theorem msk_no : Msk 0 fun _ => False := ⟨by decide, fun j => by simp⟩
theorem msk_one {a : Nat} (h : a < 11) : Msk (2 ^ a) fun j => j = a := ⟨Nat.pow_lt_pow_right (by decide) h, fun j => by rw [Nat.testBit_two_pow]; simp [eq_comm]⟩
theorem or_lt {a b : Nat} (ha : a < 2048) (hb : b < 2048) : a ||| b < 2048 := Nat.or_lt_two_pow (n := 11) ha hb
theorem Msk.or {a b : Nat} {P Q : Nat → Prop} (h : Msk a P) (k : Msk b Q) : Msk (a ||| b) fun j => P j ∨ Q j := ⟨or_lt h.1 k.1, fun j => by rw [Nat.testBit_or, Bool.or_eq_true]; exact or_congr (h.2 j) (k.2 j)⟩
theorem bit_and {m a : Nat} : m &&& 2 ^ a = 0 ↔ m.testBit a = false := by
  constructor
  · intro h
    have h1 : (m &&& 2 ^ a).testBit a = false := by rw [h]; simp
    rw [Nat.testBit_and, Nat.testBit_two_pow] at h1
    simpa using h1
  · intro h
    apply Nat.eq_of_testBit_eq
    intro i
    rw [Nat.testBit_and, Nat.testBit_two_pow]
    by_cases e : a = i
    · subst e; simp [h]
    · simp [e]
theorem le_or {a b : Nat} : a ≤ a ||| b := Nat.left_le_or
theorem or_self_of {a b : Nat} (h : ∀ j, b.testBit j = true → a.testBit j = true) : a ||| b = a := by
  apply Nat.eq_of_testBit_eq
  intro i
  rw [Nat.testBit_or]
  cases e : b.testBit i
  · simp
  · rw [h i e]; rfl

/-- A table with one mask put in. -/
def setK (K : Nat → Nat → Nat) (a b v : Nat) : Nat → Nat → Nat := fun x i => if x = a ∧ i = b then v else K x i
theorem setK_at {K : Nat → Nat → Nat} {a b v : Nat} : setK K a b v a b = v := if_pos ⟨rfl, rfl⟩
theorem setK_far {K : Nat → Nat → Nat} {a b v x i : Nat} (h : ¬ (x = a ∧ i = b)) : setK K a b v x i = K x i := if_neg h
theorem setK_same {K : Nat → Nat → Nat} {a b v : Nat} (h : v = K a b) : setK K a b v = K := by
  funext x i
  unfold setK
  split
  · rename_i e; obtain ⟨rfl, rfl⟩ := e; exact h
  · rfl
/-- How much a table holds. -/
def sumTo (f : Nat → Nat) : Nat → Nat
  | 0 => 0
  | n + 1 => sumTo f n + f n
theorem sumTo_le {f g : Nat → Nat} {n : Nat} (h : ∀ i, i < n → f i ≤ g i) : sumTo f n ≤ sumTo g n := by
  induction n with
  | zero => exact Nat.le_refl _
  | succ n ih => have := ih fun i hi => h i (by omega); have := h n (by omega); unfold sumTo; omega
theorem sumTo_lt {f g : Nat → Nat} {n k : Nat} (h : ∀ i, i < n → f i ≤ g i) (hk : k < n) (hl : f k < g k) : sumTo f n < sumTo g n := by
  induction n with
  | zero => omega
  | succ n ih =>
    unfold sumTo
    have h1 := h n (by omega)
    by_cases e : k = n
    · subst e; have := sumTo_le (n := k) fun i hi => h i (by omega); omega
    · have := ih (fun i hi => h i (by omega)) (by omega); omega
def sumK (K : Nat → Nat → Nat) : Nat := sumTo (fun x => sumTo (K x) 11) 6
theorem sumK_le {K L : Nat → Nat → Nat} (h : ∀ x i, K x i ≤ L x i) : sumK K ≤ sumK L := sumTo_le fun x _ => sumTo_le fun i _ => h x i
theorem sumK_lt {K L : Nat → Nat → Nat} (h : ∀ x i, K x i ≤ L x i) {a b : Nat} (ha : a < 6) (hb : b < 11) (hl : K a b < L a b) : sumK K < sumK L := sumTo_lt (fun x _ => sumTo_le fun i _ => h x i) ha (sumTo_lt (fun i _ => h a i) hb hl)
theorem sumTo_const {f : Nat → Nat} {n c : Nat} (h : ∀ i, f i ≤ c) : sumTo f n ≤ n * c := by
  induction n with
  | zero => exact Nat.zero_le _
  | succ n ih => have := h n; unfold sumTo; rw [Nat.succ_mul]; omega
theorem sumK_most {K : Nat → Nat → Nat} (h : ∀ x i, K x i < 2048) : sumK K ≤ 135102 := by
  have h1 : ∀ x, sumTo (K x) 11 ≤ 11 * 2047 := fun x => sumTo_const fun i => by have := h x i; omega
  have h2 := sumTo_const (f := fun x => sumTo (K x) 11) (n := 6) (c := 11 * 2047) h1
  unfold sumK; omega

/-- The table is good so far: of derived parts alone, and small. -/
def OkK (rs : List (Int × List Int)) (ws : List Int) (K : Nat → Nat → Nat) : Prop := (∀ x i, K x i < 2048) ∧ ∀ x i j, DK K x i j → Der rs ws x i j
/-- While a pass grows it: what was known at the start is K0, the first j rules are done, and of the next one the first i places. -/
def Pass (rs : List (Int × List Int)) (ws : List Int) (j i : Nat) (K0 K : Nat → Nat → Nat) (grown : Bool) : Prop :=
  OkK rs ws K ∧ (∀ x i, K0 x i ≤ K x i) ∧ (grown = true → sumK K0 < sumK K) ∧
  (grown = false → K = K0 ∧ ∀ (l : Nat) (r : Int × List Int) (from_ to_ : Nat), rs[l]? = some r → from_ ≤ ws.length → (l < j ∨ (l = j ∧ from_ < i)) → SeqD (DK K) ws r.2 from_ to_ → DK K r.1 from_ to_)
theorem Pass.start {rs : List (Int × List Int)} {ws : List Int} {K : Nat → Nat → Nat} (h : OkK rs ws K) : Pass rs ws 0 0 K K false := ⟨h, fun _ _ => Nat.le_refl _, fun h => (by cases h), fun _ => ⟨rfl, fun l r f t _ _ h => absurd h (by omega)⟩⟩
theorem Pass.line {rs : List (Int × List Int)} {ws : List Int} {j : Nat} {K0 K : Nat → Nat → Nat} {b : Bool} (h : Pass rs ws j (ws.length + 1) K0 K b) : Pass rs ws (j + 1) 0 K0 K b :=
  ⟨h.1, h.2.1, h.2.2.1, fun e => ⟨(h.2.2.2 e).1, fun l r f t hl hf hx => (h.2.2.2 e).2 l r f t hl hf (by omega)⟩⟩
theorem Pass.step {rs : List (Int × List Int)} {ws : List Int} {j i : Nat} {K0 K : Nat → Nat → Nat} {b : Bool} (h : Pass rs ws j i K0 K b) {a : Nat} {right : List Int} (hj : rs[j]? = some ((a : Int), right)) (ha : a < 6) (hi : i ≤ ws.length) (hw : ws.length ≤ 10) {m : Nat} (hm : Msk m fun t => SeqD (DK K) ws right i t) :
    Pass rs ws j (i + 1) K0 (setK K a i (K a i ||| m)) (b || decide (K a i ||| m ≠ K a i)) := by
  obtain ⟨h1, h2, h3, h4⟩ := h
  have hle : ∀ x y, K x y ≤ setK K a i (K a i ||| m) x y := fun x y => by
    unfold setK
    split
    · rename_i e; obtain ⟨rfl, rfl⟩ := e; exact le_or
    · exact Nat.le_refl _
  have hmem : ((a : Int), right) ∈ rs := List.mem_of_getElem? hj
  refine ⟨⟨fun x y => ?_, fun x y t => ?_⟩, fun x y => Nat.le_trans (h2 x y) (hle x y), fun e => ?_, fun e => ?_⟩
  · unfold setK
    split
    · exact or_lt (h1.1 _ _) hm.1
    · exact h1.1 _ _
  · unfold DK setK
    split
    · rename_i e
      obtain ⟨e1, rfl⟩ := e
      rw [Nat.testBit_or, Bool.or_eq_true]
      rintro ⟨k0, k | k⟩
      · exact h1.2 x y t ⟨k0, by rw [e1]; exact k⟩
      · have k1 := der_step h1.2 hmem hi ((hm.2 t).1 k)
        have : x = (a : Int) := by omega
        rw [this]; exact k1
    · exact h1.2 x y t
  · have hs := sumK_le hle
    cases b
    · have hne : K a i ||| m ≠ K a i := of_decide_eq_true (by simpa using e)
      have h5 : K a i < setK K a i (K a i ||| m) a i := by rw [setK_at]; have : K a i ≤ K a i ||| m := le_or; omega
      have := sumK_le h2
      have := sumK_lt hle ha (by omega : i < 11) h5
      omega
    · have := h3 rfl; omega
  · have hb : b = false := by cases b; rfl; cases e
    subst hb
    have heq : K a i ||| m = K a i := Decidable.not_not.1 (of_decide_eq_false (by simpa using e))
    obtain ⟨h5, h6⟩ := h4 rfl
    rw [setK_same heq]
    refine ⟨h5, fun l r f t hl hf hx k => ?_⟩
    by_cases e2 : l = j ∧ f = i
    · obtain ⟨rfl, rfl⟩ := e2
      rw [hj] at hl
      have e3 := Option.some.inj hl
      subst e3
      refine ⟨Int.natCast_nonneg a, ?_⟩
      have k2 := (hm.2 t).2 k
      show (K a f).testBit t = true
      rw [← heq, Nat.testBit_or, k2, Bool.or_true]
    · exact h6 l r f t hl hf (by omega) k
/-- A pass in which nothing came. -/
theorem Pass.done {rs : List (Int × List Int)} {ws : List Int} {K0 K : Nat → Nat → Nat} (h : Pass rs ws rs.length 0 K0 K false) {x : Int} {i j : Nat} : DK K x i j ↔ Der rs ws x i j :=
  der_eq h.1.2 fun r hr f t hf k => by
    obtain ⟨l, hl⟩ := List.mem_iff_getElem?.1 hr
    exact (h.2.2.2 rfl).2 l r f t hl hf (.inl (List.getElem?_eq_some_iff.1 hl).1) k

/-- One symbol from all places of a mask ahead of k. -/
def FromD (K : Nat → Nat → Nat) (ws : List Int) (x : Int) (s k : Nat) (j : Nat) : Prop := ∃ m, m < k ∧ s.testBit m = true ∧ SymD (DK K) ws x m j
theorem fromD_zero {K : Nat → Nat → Nat} {ws : List Int} {x : Int} {s j : Nat} : FromD K ws x s 0 j ↔ False := ⟨fun ⟨m, h, _⟩ => absurd h (by omega), False.elim⟩
theorem fromD_skip {K : Nat → Nat → Nat} {ws : List Int} {x : Int} {s k j : Nat} (h : s.testBit k = false) : FromD K ws x s k j ↔ FromD K ws x s (k + 1) j := by
  constructor
  · rintro ⟨m, h1, h2⟩; exact ⟨m, by omega, h2⟩
  · rintro ⟨m, h1, h2, h3⟩
    by_cases e : m = k
    · subst e; rw [h] at h2; cases h2
    · exact ⟨m, by omega, h2, h3⟩
theorem fromD_take {K : Nat → Nat → Nat} {ws : List Int} {x : Int} {s k j : Nat} (h : s.testBit k = true) : (FromD K ws x s k j ∨ SymD (DK K) ws x k j) ↔ FromD K ws x s (k + 1) j := by
  constructor
  · rintro (⟨m, h1, h2⟩ | h3)
    · exact ⟨m, by omega, h2⟩
    · exact ⟨k, by omega, h, h3⟩
  · rintro ⟨m, h1, h2, h3⟩
    by_cases e : m = k
    · subst e; exact .inr h3
    · exact .inl ⟨m, by omega, h2, h3⟩
theorem fromD_all {K : Nat → Nat → Nat} {ws : List Int} {xs : List Int} {k f : Nat} (hk : k < xs.length) {s : Nat} (hs : Msk s fun j => SeqD (DK K) ws (xs.take k) f j) {j : Nat} : FromD K ws xs[k] s 11 j ↔ SeqD (DK K) ws (xs.take (k + 1)) f j := by
  rw [seqD_take hk]
  constructor
  · rintro ⟨m, _, h2, h3⟩; exact ⟨m, (hs.2 m).1 h2, h3⟩
  · rintro ⟨m, h2, h3⟩; exact ⟨m, hs.lt h2, (hs.2 m).2 h2, h3⟩

theorem Msk.unique {a b : Nat} {P : Nat → Prop} (h : Msk a P) (k : Msk b P) : a = b := Nat.eq_of_testBit_eq fun j => by
  have h1 := h.2 j
  have h2 := k.2 j
  cases e1 : a.testBit j <;> cases e2 : b.testBit j
  · rfl
  · exact absurd (h1.2 (h2.1 e2)) (by rw [e1]; decide)
  · exact absurd (h2.2 (h1.1 e1)) (by rw [e2]; decide)
  · rfl
theorem msk_some (P : Nat → Prop) (n : Nat) (hn : n ≤ 11) : ∃ m, Msk m fun j => P j ∧ j < n := by
  induction n with
  | zero => exact ⟨0, msk_no.congr fun j => ⟨False.elim, fun h => absurd h.2 (by omega)⟩⟩
  | succ n ih =>
    obtain ⟨m, hm⟩ := ih (by omega)
    by_cases h : P n
    · refine ⟨m ||| 2 ^ n, (hm.or (msk_one (by omega))).congr fun j => ⟨?_, ?_⟩⟩
      · rintro (⟨h1, h2⟩ | rfl)
        · exact ⟨h1, by omega⟩
        · exact ⟨h, by omega⟩
      · rintro ⟨h1, h2⟩
        by_cases e : j = n
        · exact .inr e
        · exact .inl ⟨h1, by omega⟩
    · refine ⟨m, hm.congr fun j => ⟨fun ⟨h1, h2⟩ => ⟨h1, by omega⟩, fun ⟨h1, h2⟩ => ⟨h1, ?_⟩⟩⟩
      by_cases e : j = n
      · subst e; exact absurd h1 h
      · omega
/-- The mask of a set of places. -/
noncomputable def mskOf (P : Nat → Prop) : Nat := (msk_some P 11 (Nat.le_refl _)).choose
theorem mskOf_is {P : Nat → Prop} (h : ∀ j, P j → j < 11) : Msk (mskOf P) P := (msk_some P 11 (Nat.le_refl _)).choose_spec.congr fun j => ⟨fun k => k.1, fun k => ⟨k, h j k⟩⟩
theorem mskOf_eq {P : Nat → Prop} {m : Nat} (h : Msk m P) : m = mskOf P := h.unique (mskOf_is fun _ k => h.lt k)
theorem seqD_lt {K : Nat → Nat → Nat} {ws : List Int} (hK : ∀ x i, K x i < 2048) (hw : ws.length ≤ 10) {xs : List Int} {i j : Nat} (hi : i < 11) (h : SeqD (DK K) ws xs i j) : j < 11 := by
  induction xs generalizing i with
  | nil => have e : i = j := h; omega
  | cons x xs ih =>
    obtain ⟨m, k1, k2⟩ := h
    refine ih ?_ k2
    rcases k1 with ⟨_, e, k⟩ | ⟨_, _, k⟩
    · have := (List.getElem?_eq_some_iff.1 k).1; omega
    · exact Msk.lt (m := K x.toNat i) (P := fun j => (K x.toNat i).testBit j = true) ⟨hK _ _, fun _ => Iff.rfl⟩ k

end Go.Proofs.YtaobkanliiiapaaDoor

/- The reference's table of what derives what, plainly. -/

namespace Go.Proofs.YtaobkanliiiapaaDoor

/-- What a table of rows tells: the cell of i and j is the one at i (n + 1) + j. -/
def DT (n : Nat) (T : Nat → Nat → Bool) : Int → Nat → Nat → Prop := fun x i j => 0 ≤ x ∧ i ≤ n ∧ j ≤ n ∧ T x.toNat (i * (n + 1) + j) = true
def setB (T : Nat → Nat → Bool) (a c : Nat) : Nat → Nat → Bool := fun x i => if x = a ∧ i = c then true else T x i
theorem cell_inj {n i j i' j' : Nat} (hj : j ≤ n) (hj' : j' ≤ n) (h : i * (n + 1) + j = i' * (n + 1) + j') : i = i' ∧ j = j' := by
  have h1 : (i * (n + 1) + j) % (n + 1) = j := by rw [Nat.mul_comm, Nat.mul_add_mod, Nat.mod_eq_of_lt (by omega)]
  have h2 : (i' * (n + 1) + j') % (n + 1) = j' := by rw [Nat.mul_comm, Nat.mul_add_mod, Nat.mod_eq_of_lt (by omega)]
  have hj2 : j = j' := by rw [← h1, h, h2]
  subst hj2
  exact ⟨Nat.eq_of_mul_eq_mul_right (by omega : 0 < n + 1) (by omega), rfl⟩
theorem cell_lt {n i j : Nat} (hi : i ≤ n) (hj : j ≤ n) : i * (n + 1) + j < (n + 1) * (n + 1) := by
  have : (i + 1) * (n + 1) ≤ (n + 1) * (n + 1) := Nat.mul_le_mul_right _ (by omega)
  rw [Nat.succ_mul] at this
  omega
theorem cell_121 {n c : Nat} (hn : n ≤ 10) (hc : c < (n + 1) * (n + 1)) : c < 121 := by
  have : (n + 1) * (n + 1) ≤ 11 * 11 := Nat.mul_le_mul (by omega) (by omega)
  omega
def cntT (T : Nat → Nat → Bool) : Nat := sumTo (fun x => sumTo (fun c => if T x c then 1 else 0) 121) 6
theorem cntT_most (T : Nat → Nat → Bool) : cntT T ≤ 726 := by
  have h1 : ∀ x, sumTo (fun c => if T x c then 1 else 0) 121 ≤ 121 * 1 := fun x => sumTo_const fun c => by split <;> omega
  have h2 := sumTo_const (f := fun x => sumTo (fun c => if T x c then 1 else 0) 121) (n := 6) (c := 121 * 1) h1
  unfold cntT; omega
theorem cntT_set {T : Nat → Nat → Bool} {a c : Nat} (ha : a < 6) (hc : c < 121) (h : T a c = false) : cntT T < cntT (setB T a c) := by
  have hle : ∀ x i, (if T x i = true then 1 else 0) ≤ (if setB T a c x i = true then 1 else 0 : Nat) := fun x i => by
    unfold setB
    by_cases e : x = a ∧ i = c
    · rw [if_pos e, if_pos rfl]; split <;> omega
    · rw [if_neg e]; exact Nat.le_refl _
  refine sumTo_lt (fun x _ => sumTo_le fun i _ => hle x i) ha (sumTo_lt (fun i _ => hle a i) hc ?_)
  show (if T a c = true then 1 else 0) < (if setB T a c a c = true then 1 else 0 : Nat)
  have e : setB T a c a c = true := if_pos ⟨rfl, rfl⟩
  rw [e, h]
  decide
/-- The table is good so far. -/
def OkT (rs : List (Int × List Int)) (ws : List Int) (T : Nat → Nat → Bool) : Prop := ∀ x i j, DT ws.length T x i j → Der rs ws x i j
theorem OkT.inD {rs : List (Int × List Int)} {ws : List Int} {T : Nat → Nat → Bool} (h : OkT rs ws T) : InD ws.length (DT ws.length T) := fun x i j k => der_in rs ws x i j (h x i j k)
theorem okT_no (rs : List (Int × List Int)) (ws : List Int) : OkT rs ws fun _ _ => false := fun _ _ _ h => absurd h.2.2.2 (by simp)
/-- While a pass fills it: the rules ahead of j are done, of rule j the places ahead of i, there the ends ahead of t. -/
def PassT (rs : List (Int × List Int)) (ws : List Int) (j i t : Nat) (T0 T : Nat → Nat → Bool) (more : Bool) : Prop :=
  OkT rs ws T ∧ (more = true → cntT T0 < cntT T) ∧
  (more = false → T = T0 ∧ ∀ (l : Nat) (r : Int × List Int) (f e : Nat), rs[l]? = some r → f ≤ e → e ≤ ws.length → (l < j ∨ (l = j ∧ (f < i ∨ (f = i ∧ e < t)))) → SeqD (DT ws.length T) ws r.2 f e → DT ws.length T r.1 f e)
theorem PassT.start {rs : List (Int × List Int)} {ws : List Int} {T : Nat → Nat → Bool} (h : OkT rs ws T) : PassT rs ws 0 0 0 T T false := ⟨h, fun h => (by cases h), fun _ => ⟨rfl, fun l r f e _ _ _ h => absurd h (by omega)⟩⟩
theorem PassT.rule {rs : List (Int × List Int)} {ws : List Int} {j : Nat} {T0 T : Nat → Nat → Bool} {b : Bool} (h : PassT rs ws j (ws.length + 1) 0 T0 T b) : PassT rs ws (j + 1) 0 0 T0 T b :=
  ⟨h.1, h.2.1, fun e => ⟨(h.2.2 e).1, fun l r f e' hl hf he hx => (h.2.2 e).2 l r f e' hl hf he (by omega)⟩⟩
theorem PassT.open_ {rs : List (Int × List Int)} {ws : List Int} {j i : Nat} {T0 T : Nat → Nat → Bool} {b : Bool} (h : PassT rs ws j i 0 T0 T b) : PassT rs ws j i i T0 T b :=
  ⟨h.1, h.2.1, fun e => ⟨(h.2.2 e).1, fun l r f e' hl hf he hx => (h.2.2 e).2 l r f e' hl hf he (by omega)⟩⟩
theorem PassT.line {rs : List (Int × List Int)} {ws : List Int} {j i : Nat} {T0 T : Nat → Nat → Bool} {b : Bool} (h : PassT rs ws j i (ws.length + 1) T0 T b) : PassT rs ws j (i + 1) 0 T0 T b :=
  ⟨h.1, h.2.1, fun e => ⟨(h.2.2 e).1, fun l r f e' hl hf he hx => (h.2.2 e).2 l r f e' hl hf he (by omega)⟩⟩
/-- Nothing is put in: it is there already, or nothing comes. -/
theorem PassT.skip {rs : List (Int × List Int)} {ws : List Int} {j i t : Nat} {T0 T : Nat → Nat → Bool} {b : Bool} (h : PassT rs ws j i t T0 T b) {a : Nat} {right : List Int} (hj : rs[j]? = some ((a : Int), right)) (hi : i ≤ ws.length) (ht : t ≤ ws.length) (hx : T a (i * (ws.length + 1) + t) = true ∨ ¬ SeqD (DT ws.length T) ws right i t) : PassT rs ws j i (t + 1) T0 T b := by
  refine ⟨h.1, h.2.1, fun e => ⟨(h.2.2 e).1, fun l r f e' hl hf he hx' k => ?_⟩⟩
  by_cases e2 : l = j ∧ f = i ∧ e' = t
  · obtain ⟨rfl, rfl, rfl⟩ := e2
    rw [hj] at hl
    have e3 := Option.some.inj hl
    subst e3
    rcases hx with hx | hx
    · exact ⟨Int.natCast_nonneg a, hi, ht, hx⟩
    · exact absurd k hx
  · exact (h.2.2 e).2 l r f e' hl hf he (by omega) k
/-- One is put in. -/
theorem PassT.put {rs : List (Int × List Int)} {ws : List Int} {j i t : Nat} {T0 T : Nat → Nat → Bool} {b : Bool} (h : PassT rs ws j i t T0 T b) {a : Nat} {right : List Int} (hj : rs[j]? = some ((a : Int), right)) (ha : a < 6) (hw : ws.length ≤ 10) (hi : i ≤ ws.length) (ht : t ≤ ws.length) (h0 : T a (i * (ws.length + 1) + t) = false) (hx : SeqD (DT ws.length T) ws right i t) : PassT rs ws j i (t + 1) T0 (setB T a (i * (ws.length + 1) + t)) true := by
  have hmem : ((a : Int), right) ∈ rs := List.mem_of_getElem? hj
  refine ⟨fun x f e k => ?_, fun _ => ?_, fun e => by cases e⟩
  · obtain ⟨k0, k1, k2, k3⟩ := k
    unfold setB at k3
    split at k3
    · rename_i e4
      obtain ⟨e5, e6⟩ := e4
      obtain ⟨rfl, rfl⟩ := cell_inj k2 ht e6
      have : x = (a : Int) := by omega
      subst this
      exact der_step h.1 hmem hi hx
    · exact h.1 x f e ⟨k0, k1, k2, k3⟩
  · have h3 := cntT_set ha (cell_121 hw (cell_lt hi ht)) h0
    cases b
    · rw [← (h.2.2 rfl).1]; exact h3
    · have := h.2.1 rfl; omega
/-- A pass in which nothing came. -/
theorem PassT.done {rs : List (Int × List Int)} {ws : List Int} {T0 T : Nat → Nat → Bool} (h : PassT rs ws rs.length 0 0 T0 T false) {x : Int} {i j : Nat} : DT ws.length T x i j ↔ Der rs ws x i j :=
  der_eq h.1 fun r hr f t hf k => by
    obtain ⟨l, hl⟩ := List.mem_iff_getElem?.1 hr
    have := h.1.inD.seq hf k
    exact (h.2.2 rfl).2 l r f t hl this.1 this.2 (.inl (List.getElem?_eq_some_iff.1 hl).1) k

/-- While the middles ahead of m are tried. -/
theorem seqD_cons_no {D : Int → Nat → Nat → Prop} {ws : List Int} {x : Int} {xs : List Int} {i j : Nat} (hd : InD ws.length D) (h : ∀ m, i ≤ m → m ≤ j → ¬ (SymD D ws x i m ∧ SeqD D ws xs m j)) : ¬ SeqD D ws (x :: xs) i j := by
  rintro ⟨m, k1, k2⟩
  have h1 := hd.sym k1
  have h2 := hd.seq h1.2 k2
  exact h m h1.1 h2.1 ⟨k1, k2⟩

end Go.Proofs.YtaobkanliiiapaaDoor

/- Maps keyed by numbers in memory: what each key holds; a set as such a map. -/

namespace Go.Proofs.YtaobkanliiiapaaDoor
open Go.RowKit

/-- How a value of a map is read here: as itself. -/
def valR (v : Value) : Option (DataW Value × List MemPlace) := some (.held v, [])
theorem valR_inj {v u : Value} {ps : List MemPlace} (h : valR v = some (.held u, ps)) : v = u := by
  unfold valR at h
  simp at h
  exact h.1
def ki (x : Int) : Lit := .int .i64 x
theorem ki_inj {x y : Int} (h : ki x = ki y) : x = y := by unfold ki at h; injection h
theorem ki_ne {x y : Int} (h : x ≠ y) : ki x ≠ ki y := fun e => h (ki_inj e)
theorem key_int : Maps.Keyed Tryd.prog 3 := Maps.int_keyed Tryd.underlying3
theorem wf_fit {x : Int} (h : F64 x) : (Lit.int .i64 x).wf = true := by
  unfold F64 at h
  exact WalkArith.wf_i64 (by omega)
theorem key_of {x : Int} (h : F64 x) : keyOf Tryd.prog 3 (.int .i64 x) = some (ki x) := Maps.keyOf_int_mk Tryd.underlying3 (wf_fit h)
theorem key_inv {v : Value} {l : Lit} (h : keyOf Tryd.prog 3 v = some l) : ∃ x, v = .int .i64 x ∧ l = ki x ∧ F64 x := by
  obtain ⟨x, h1, h2, h3⟩ := Maps.keyOf_int_inv Tryd.underlying3 h
  refine ⟨x, h1, h2, ?_⟩
  simp [Lit.wf, IntKind.min, IntKind.max, IntKind.signed, IntKind.bits] at h3
  unfold F64
  omega

/-- What a map as it is read holds at x. -/
def AtK (D : DataW Value) (x : Int) : Option Value → Prop
  | some v => ∀ z, D.atKey (ki x) z = .held v
  | none => Maps.has D (ki x) = false

theorem AtK.has {D : DataW Value} {x : Int} {o : Option Value} (h : AtK D x o) : Maps.has D (ki x) = o.isSome := by
  cases o with
  | none => exact h
  | some v => exact Maps.has_true_of_atKey h
theorem AtK.get {D : DataW Value} {x : Int} {o : Option Value} (h : AtK D x o) (z : Value) : D.atKey (ki x) (.held z) = .held (o.getD z) := by
  cases o with
  | none => exact Maps.atKey_of_not_has h _
  | some v => exact h _

/-- Block b is a map from numbers that holds f x at x, of n entries at most. -/
def MapI (w : World) (b n : Nat) (f : Int → Option Value) : Prop := ∃ D, w.ownsMap Tryd.prog 3 valR b n D ∧ ∀ x, AtK D x (f x)

def putK (f : Int → Option Value) (x : Int) (v : Value) : Int → Option Value := fun y => if y = x then some v else f y
def delK (f : Int → Option Value) (x : Int) : Int → Option Value := fun y => if y = x then none else f y

theorem atK_put {D : DataW Value} (hD : Maps.IsMap D) {f : Int → Option Value} (h : ∀ y, AtK D y (f y)) (x : Int) (v : Value) : ∀ y, AtK (D.put (ki x) (.held v)) y (putK f x v y) := by
  intro y
  by_cases e : y = x
  · subst e
    have : putK f y v y = some v := if_pos rfl
    rw [this]
    exact fun z => Maps.atKey_put_same hD (show WideAt.IsKeyLit (ki y) from trivial) _ _
  · have h1 : putK f x v y = f y := if_neg e
    rw [h1]
    have h2 := h y
    cases hf : f y with
    | none =>
      rw [hf] at h2
      exact (Maps.has_put_other (ki_ne e) _).trans h2
    | some u =>
      rw [hf] at h2
      exact fun z => (Maps.atKey_put_other (ki_ne e) _ _).trans (h2 z)

theorem atK_del {D : DataW Value} {f : Int → Option Value} (h : ∀ y, AtK D y (f y)) (x : Int) : ∀ y, AtK (D.del (ki x)) y (delK f x y) := by
  intro y
  by_cases e : y = x
  · subst e
    have : delK f y y = none := if_pos rfl
    rw [this]
    exact Maps.has_del_same
  · have h1 : delK f x y = f y := if_neg e
    rw [h1]
    have h2 := h y
    cases hf : f y with
    | none =>
      rw [hf] at h2
      exact (Maps.has_del_other (ki_ne e)).trans h2
    | some u =>
      rw [hf] at h2
      exact fun z => (Maps.atKey_del_other (ki_ne e) _).trans (h2 z)

theorem save_grown {w w' : World} {b : Nat} (h : w.grownBy w' (some b)) : Save (· = b) w w' := ⟨h.os, h.tape, h.output, h.size, fun i hi hs => h.block i hi fun e => hs (by injection e)⟩
theorem below_grown {w w' : World} (h : w.grownBy w' none) : Below w.heap.size w w' := ⟨h.os, h.tape, h.output, h.size, fun i hi => h.block i hi (by simp)⟩

theorem MapI.lt {w : World} {b n : Nat} {f : Int → Option Value} (h : MapI w b n f) : b < w.heap.size := by obtain ⟨D, h1, _⟩ := h; exact h1.lt
theorem MapI.save {S : Nat → Prop} {w w' : World} {b n : Nat} {f : Int → Option Value} (h : MapI w b n f) (hs : Save S w w') (hb : ¬ S b) : MapI w' b n f := by
  obtain ⟨D, ⟨es, ck, h1, h2⟩, h3⟩ := h
  exact ⟨D, ⟨es, ck, (hs.block b (Array.getElem?_eq_some_iff.1 h1).1 hb).trans h1, h2⟩, h3⟩
theorem MapI.keep {w w' : World} {b n : Nat} {f : Int → Option Value} (h : MapI w b n f) (hs : Below w.heap.size w w') : MapI w' b n f := h.save (S := fun _ => False) (Save.of_below hs) fun e => e
theorem MapI.mono {w : World} {b n n' : Nat} {f : Int → Option Value} (h : MapI w b n f) (hn : n ≤ n') : MapI w b n' f := by
  obtain ⟨D, h1, h2⟩ := h
  exact ⟨D, h1.mono hn, h2⟩
theorem MapI.made (w : World) : MapI (w.alloc (.map #[] 0)) w.heap.size 0 fun _ => none := ⟨_, World.ownsMap_made w _ _ _, fun _ => rfl⟩
theorem MapI.same {w : World} {b n : Nat} {f g : Int → Option Value} (h : MapI w b n f) (e : ∀ x, f x = g x) : MapI w b n g := by
  have : f = g := funext e
  exact this ▸ h

theorem MapI.look {w : World} {b n : Nat} {f : Int → Option Value} (h : MapI w b n f) {x : Int} (hx : F64 x) {t e : TypeId} (ht : Tryd.prog.underlying t = some (.map 3 e)) {z : Value} (hz : (zeroValue e).run Tryd.prog w = .ok z w) :
    (Instr.lookup t (.map (some b)) (.int .i64 x) false).run Tryd.prog w = .ok ((f x).getD z) w := by
  obtain ⟨D, h1, h2⟩ := h
  obtain ⟨v, ps, hr, hv⟩ := h1.lookup key_int ht hz (show valR z = some (.held z, []) from rfl) (key_of hx)
  rw [(h2 x).get z] at hv
  rw [hr, valR_inj hv]

theorem MapI.look_ok {w : World} {b n : Nat} {f : Int → Option Value} (h : MapI w b n f) {x : Int} (hx : F64 x) {t e : TypeId} (ht : Tryd.prog.underlying t = some (.map 3 e)) {z : Value} (hz : (zeroValue e).run Tryd.prog w = .ok z w) :
    (Instr.lookup t (.map (some b)) (.int .i64 x) true).run Tryd.prog w = .ok (.tuple #[(f x).getD z, .bool (f x).isSome]) w := by
  obtain ⟨D, h1, h2⟩ := h
  obtain ⟨v, ps, hr, hv⟩ := h1.look_ok key_int ht hz (show valR z = some (.held z, []) from rfl) (key_of hx)
  rw [(h2 x).get z] at hv
  rw [hr, valR_inj hv, (h2 x).has]

theorem MapI.store {w : World} {b n : Nat} {f : Int → Option Value} (h : MapI w b n f) (hn : n < maxLen) {x : Int} (hx : F64 x) {t e : TypeId} (ht : Tryd.prog.underlying t = some (.map 3 e)) (v : Value) :
    ∃ w', (Instr.mapUpdate t (.map (some b)) (.int .i64 x) v).run Tryd.prog w = .ok () w' ∧ MapI w' b (n + 1) (putK f x v) ∧ Save (· = b) w w' ∧ w'.heap.size = w.heap.size := by
  obtain ⟨D, h1, h2⟩ := h
  obtain ⟨w', hr, ho, hg⟩ := h1.store key_int ht hn (key_of hx) (show valR v = some (.held v, []) from rfl)
  refine ⟨w', hr, ⟨_, ho, atK_put h1.isMap h2 x v⟩, save_grown hg.grown, ?_⟩
  obtain ⟨_, _, _, _, _, rfl⟩ := hg
  simp [ChangeMaps.setBlock]

theorem MapI.drop {w : World} {b n : Nat} {f : Int → Option Value} (h : MapI w b n f) {x : Int} (hx : F64 x) {t e : TypeId} (ht : Tryd.prog.underlying t = some (.map 3 e)) (ty : TypeId) :
    ∃ w', (Builtin.delete_ #[t, 3] ty #[.map (some b), .int .i64 x]).run Tryd.prog w = .ok (.tuple #[]) w' ∧ MapI w' b n (delK f x) ∧ Save (· = b) w w' := by
  obtain ⟨D, h1, h2⟩ := h
  obtain ⟨w', hr, ho, hg⟩ := h1.drop key_int ht (key_of hx) ty
  exact ⟨w', hr, ⟨_, ho, atK_del h2 x⟩, save_grown hg.grown⟩

theorem nodup_le {α : Type} [DecidableEq α] : ∀ (l m : List α), l.Nodup → (∀ x ∈ l, x ∈ m) → l.length ≤ m.length
  | [], _, _, _ => Nat.zero_le _
  | x :: l, m, hn, hm => by
    obtain ⟨h1, h2⟩ := List.nodup_cons.1 hn
    have hx : x ∈ m := hm x List.mem_cons_self
    have ih := nodup_le l (m.erase x) h2 fun y hy => (List.mem_erase_of_ne (fun e : y = x => h1 (e ▸ hy))).2 (hm y (List.mem_cons_of_mem _ hy))
    have h3 := List.length_erase_of_mem hx
    have h4 := List.length_pos_of_mem hx
    simp only [List.length_cons]
    omega

def numOf : Lit → Int
  | .int _ x => x
  | _ => 0

/-- A map whose keys are all below 40 has 40 entries at most. -/
theorem MapI.tight {w : World} {b n : Nat} {f : Int → Option Value} (h : MapI w b n f) (hf : ∀ x, f x ≠ none → 0 ≤ x ∧ x < 40) : MapI w b 40 f := by
  obtain ⟨D, h1, h2⟩ := h
  obtain ⟨es, clock, hb, F, hs, hD⟩ := h1
  have h1' : w.ownsMap Tryd.prog 3 valR b n D := ⟨es, clock, hb, F, hs, hD⟩
  refine ⟨D, ⟨es, clock, hb, F, ?_, hD⟩, h2⟩
  have hsz : es.size = Maps.size D := by rw [hD]; simp [Maps.size, length_sorted]
  obtain ⟨l, hl, hp⟩ := h1'.tidy key_int
  obtain ⟨l2, hl2, hk⟩ : ∃ l2, D = .map l2 ∧ ∀ p ∈ l2, ∃ x, p.1 = ki x := by
    refine ⟨_, hD, fun p hp => ?_⟩
    obtain ⟨v, hv⟩ := Maps.fit_keys F p (mem_sorted.1 hp)
    obtain ⟨x, _, hx, _⟩ := key_inv hv
    exact ⟨x, hx⟩
  have hll : l2 = l := by rw [hl2] at hl; injection hl
  subst hll
  rw [hsz, hl]
  have h6 := nodup_le (l2.map fun p => numOf p.1) ((List.range 40).map fun (k : Nat) => (k : Int)) (List.pairwise_map.2 (hp.imp_of_mem fun {p q} hp' hq' hne e => by
      obtain ⟨x, hx⟩ := hk p hp'
      obtain ⟨y, hy⟩ := hk q hq'
      rw [hx, hy] at e hne
      exact hne (congrArg ki e))) fun y hy => by
    obtain ⟨p, hp, rfl⟩ := List.mem_map.1 hy
    obtain ⟨x, hx⟩ := hk p hp
    have hh : Maps.has D (ki x) = true := by
      rw [hl, Maps.has_eq, List.any_eq_true]
      exact ⟨p, hp, by rw [hx]; simp [ki, Lit.sameKey]⟩
    have hs := (h2 x).has
    rw [hh] at hs
    obtain ⟨a1, a2⟩ := hf x (fun e => by rw [e] at hs; cases hs)
    rw [hx]
    show x ∈ _
    exact List.mem_map.2 ⟨x.toNat, List.mem_range.2 (by omega), by omega⟩
  simpa [Maps.size] using h6

/-- Block b is a set of numbers below 40. -/
structure SetM (w : World) (b : Nat) (S : Int → Bool) : Prop where
  map : MapI w b 40 fun x => if S x then some (.bool true) else none
  fits : ∀ x, S x = true → 0 ≤ x ∧ x < 40

theorem SetM.save {T : Nat → Prop} {w w' : World} {b : Nat} {S : Int → Bool} (h : SetM w b S) (hs : Save T w w') (hb : ¬ T b) : SetM w' b S := ⟨h.map.save hs hb, h.fits⟩
theorem SetM.keep {w w' : World} {b : Nat} {S : Int → Bool} (h : SetM w b S) (hs : Below w.heap.size w w') : SetM w' b S := ⟨h.map.keep hs, h.fits⟩
theorem SetM.made (w : World) : SetM (w.alloc (.map #[] 0)) w.heap.size fun _ => false := ⟨(MapI.made w).mono (by omega), fun _ h => by cases h⟩
theorem SetM.look {w : World} {b : Nat} {S : Int → Bool} (h : SetM w b S) {x : Int} (hx : F64 x) :
    (Instr.lookup 125 (.map (some b)) (.int .i64 x) false).run Tryd.prog w = .ok (.bool (S x)) w := by
  rw [h.map.look hx Tryd.underlying125 (Tryd.zeroValue4 w)]
  cases S x <;> rfl
def addS (S : Int → Bool) (x : Int) : Int → Bool := fun y => decide (y = x) || S y
theorem SetM.store {w : World} {b : Nat} {S : Int → Bool} (h : SetM w b S) {x : Int} (hx : 0 ≤ x ∧ x < 40) :
    ∃ w', (Instr.mapUpdate 125 (.map (some b)) (.int .i64 x) (.bool true)).run Tryd.prog w = .ok () w' ∧ SetM w' b (addS S x) ∧ Save (· = b) w w' ∧ w'.heap.size = w.heap.size := by
  obtain ⟨w', h1, h2, h3, h4⟩ := h.map.store (by unfold maxLen; omega) (x := x) (by unfold F64; omega) Tryd.underlying125 (.bool true)
  have hf : ∀ y, addS S x y = true → 0 ≤ y ∧ y < 40 := fun y hy => by
    unfold addS at hy
    rcases Bool.or_eq_true _ _ ▸ hy with e | e
    · have := of_decide_eq_true e; omega
    · exact h.fits y e
  have h5 : MapI w' b (40 + 1) fun y => if addS S x y then some (.bool true) else none := h2.same fun y => by
    unfold putK addS
    by_cases e : y = x
    · simp [e]
    · simp [e]
  refine ⟨w', h1, ⟨h5.tight fun y hy => hf y ?_, hf⟩, h3, h4⟩
  cases e : addS S x y
  · rw [e] at hy; exact absurd rfl hy
  · rfl

end Go.Proofs.YtaobkanliiiapaaDoor

/- The program's questions to a set: allNullable, allProductive, someGrow. -/

namespace Go.Proofs.YtaobkanliiiapaaDoor
open Go.RowKit

theorem all_no {p : Int → Bool} {xs : List Int} {k : Nat} (hk : k < xs.length) (h : p xs[k] = false) : xs.all p = false := by
  cases e : xs.all p
  · rfl
  · rw [List.all_eq_true] at e
    rw [e _ (List.getElem_mem hk)] at h; cases h
theorem all_yes {p : Int → Bool} {xs : List Int} {k : Nat} (hk : ¬ k < xs.length) (h : ∀ (j : Nat) (x : Int), j < k → xs[j]? = some x → p x = true) : xs.all p = true := by
  rw [List.all_eq_true]
  intro x hx
  obtain ⟨j, hj⟩ := List.mem_iff_getElem?.1 hx
  exact h j x (by have := (List.getElem?_eq_some_iff.1 hj).1; omega) hj
theorem upto_step {Q : Int → Prop} {xs : List Int} {k : Nat} (hk : k < xs.length) (h : Q xs[k]) (H : ∀ (j : Nat) (x : Int), j < k → xs[j]? = some x → Q x) :
    ∀ (j : Nat) (x : Int), j < k + 1 → xs[j]? = some x → Q x := by
  intro j x hj hx
  by_cases e : j = k
  · subst e; rw [List.getElem?_eq_getElem hk] at hx; injection hx with hx; subst hx; exact h
  · exact H j x (by omega) hx
theorem any_yes {p : Int → Bool} {xs : List Int} {k : Nat} (hk : k < xs.length) (h : p xs[k] = true) : xs.any p = true := List.any_eq_true.2 ⟨_, List.getElem_mem hk, h⟩
theorem any_no {p : Int → Bool} {xs : List Int} {k : Nat} (hk : ¬ k < xs.length) (h : ∀ (j : Nat) (x : Int), j < k → xs[j]? = some x → p x = false) : xs.any p = false := by
  rw [List.any_eq_false]
  intro x hx
  obtain ⟨j, hj⟩ := List.mem_iff_getElem?.1 hx
  rw [h j x (by have := (List.getElem?_eq_some_iff.1 hj).1; omega) hj]
  simp

/-- A symbol is a token or in the set. -/
def tokS (S : Int → Bool) (x : Int) : Bool := decide (x < 0) || S x
theorem tokS_lt {S : Int → Bool} {x : Int} (h : x < 0) : tokS S x = true := by unfold tokS; rw [decide_eq_true h]; rfl
theorem tokS_ge {S : Int → Bool} {x : Int} (h : ¬ x < 0) : tokS S x = S x := by unfold tokS; rw [decide_eq_false h]; rfl

def FitI (xs : List Int) : Prop := ∀ x ∈ xs, F64 x

set_option maxRecDepth 20000 in
set_option maxHeartbeats 400000 in
theorem allNull_any (b : Nat) (S : Int → Bool) (A : Option Addr) (xs : List Int) (c : Nat) (w : World) (hS : SetM w b S) (hx : Ints w w.heap.size A xs) (hf : FitI xs) (h1 : xs.length ≤ 4) :
    Calls Tryd.prog 146 #[.map (some b), .slice A xs.length c] w fun e w' => e = .returned (.bool (xs.all S)) ∧ w' = w := by
  have HX := Lib.hid hx; clear hx
  have HS := Lib.hid hS; clear hS
  have HF := Lib.hid hf; clear hf
  go_enter Tryd.func146, Tryd.ntmps146
  go_wp2
  go_loopw [9] (fun i wr => ∃ (k : Nat), k ≤ xs.length ∧ i = .int .i64 k ∧ wr = w ∧ Hid (∀ (j : Nat) (x : Int), j < k → xs[j]? = some x → S x = true)) (fun i _ => xs.length - (intOf i).toNat)
  case atStart => exact ⟨0, by omega, rfl, rfl, fun j x h => absurd h (by omega)⟩
  case round =>
    obtain ⟨k, hk, rfl, rfl, H⟩ := hrel
    by_cases hlt : k < xs.length
    · obtain ⟨p, o, rfl, hb, c1⟩ := HX.out.at_ hlt
      have hl := HS.out.look (HF.out _ (List.getElem_mem hlt))
      cases hs : S xs[k]
      · rw [hs] at hl
        have HE := Lib.hid (all_no hlt hs); clear hs
        go_wp2
        go_ret
        exact ⟨ret_bool HE.out.symm, rfl⟩
      · rw [hs] at hl
        have HE := Lib.hid (upto_step (Q := fun x => S x = true) hlt hs H.out); clear hs
        go_wp2
        go_roundw
        case rel => exact ⟨k + 1, by omega, by go_num, by simp, HE.out⟩
        case measure => simp [intOf]; omega
    · have HE := Lib.hid (all_yes hlt H.out)
      go_wp2
      go_ret
      exact ⟨ret_bool HE.out.symm, rfl⟩

end Go.Proofs.YtaobkanliiiapaaDoor

/- A range over a map keyed by numbers: which keys are still to come. -/

namespace Go.Proofs.YtaobkanliiiapaaDoor
open Go.RowKit

/-- Block q is a map that holds f x at x; block r is a range over it; left x: x is still to come; cnt: how many are. -/
def Rng (w : World) (q r n : Nat) (f : Int → Option Value) (left : Int → Bool) (cnt : Nat) : Prop :=
  ∃ D lf, w.ranges Tryd.prog 3 valR q r n D lf cnt ∧ (∀ x, AtK D x (f x)) ∧ ∀ x, lf (ki x) = left x

theorem Rng.map {w : World} {q r n cnt : Nat} {f : Int → Option Value} {left : Int → Bool} (h : Rng w q r n f left cnt) : MapI w q n f := by
  obtain ⟨D, lf, h1, h2, _⟩ := h
  exact ⟨D, h1.owns, h2⟩
theorem Rng.lt {w : World} {q r n cnt : Nat} {f : Int → Option Value} {left : Int → Bool} (h : Rng w q r n f left cnt) : r < w.heap.size := by obtain ⟨D, lf, h1, _⟩ := h; exact h1.lt
theorem Rng.ne {w : World} {q r n cnt : Nat} {f : Int → Option Value} {left : Int → Bool} (h : Rng w q r n f left cnt) : r ≠ q := by obtain ⟨D, lf, h1, _⟩ := h; exact h1.ne
theorem Rng.save {S : Nat → Prop} {w w' : World} {q r n cnt : Nat} {f : Int → Option Value} {left : Int → Bool} (h : Rng w q r n f left cnt) (hs : Save S w w') (hq : ¬ S q) (hr : ¬ S r) : Rng w' q r n f left cnt := by
  have h1 := h.map.lt
  have h2 := h.lt
  obtain ⟨D, lf, ⟨es, ck, since, seen, c0, hb, F, hsz, hD, hr', rest⟩, h3, h4⟩ := h
  exact ⟨D, lf, ⟨es, ck, since, seen, c0, (hs.block q h1 hq).trans hb, F, hsz, hD, (hs.block r h2 hr).trans hr', rest⟩, h3, h4⟩
theorem Rng.keep {w w' : World} {q r n cnt : Nat} {f : Int → Option Value} {left : Int → Bool} (h : Rng w q r n f left cnt) (hs : Below w.heap.size w w') : Rng w' q r n f left cnt := h.save (S := fun _ => False) (Save.of_below hs) (fun e => e) fun e => e

/-- One key is struck. -/
def strike (left : Int → Bool) (x : Int) : Int → Bool := fun y => left y && decide (y ≠ x)
theorem strike_same (left : Int → Bool) (x : Int) : strike left x x = false := by simp [strike]
theorem strike_other {left : Int → Bool} {x y : Int} (h : y ≠ x) : strike left x y = left y := by simp [strike, h]
theorem strike_le {left : Int → Bool} {x y : Int} (h : strike left x y = true) : left y = true := by
  unfold strike at h
  simp at h
  exact h.1
theorem ki_same (x y : Int) : (ki y).sameKey (ki x) = decide (y = x) := by
  simp [ki, Lit.sameKey]

theorem MapI.range {w : World} {q n : Nat} {f : Int → Option Value} (h : MapI w q n f) {t e : TypeId} (ht : Tryd.prog.underlying t = some (.map 3 e)) :
    ∃ w' cnt, (Instr.range t (.map (some q))).run Tryd.prog w = .ok (.pointer (some ⟨w.heap.size, 0, none⟩)) w' ∧ Rng w' q w.heap.size n f (fun x => (f x).isSome) cnt ∧ cnt ≤ n ∧ Below w.heap.size w w' ∧ w'.heap.size = w.heap.size + 1 := by
  obtain ⟨D, h1, h2⟩ := h
  obtain ⟨w', hr, hrg, hg, hs⟩ := h1.range key_int ht
  exact ⟨w', _, hr, ⟨D, _, hrg, h2, fun x => (h2 x).has⟩, h1.size_le, below_grown hg, hs⟩

theorem Rng.next {w : World} {q r n cnt : Nat} {f : Int → Option Value} {left : Int → Bool} (h : Rng w q r n f left cnt) (ty : TypeId) :
    (cnt = 0 ∧ (∀ x, left x = false) ∧ (Instr.next (.pointer (some ⟨r, 0, none⟩)) false ty).run Tryd.prog w = .ok (.tuple #[.bool false]) w) ∨
    ∃ x v w' cnt', F64 x ∧ left x = true ∧ f x = some v ∧ (Instr.next (.pointer (some ⟨r, 0, none⟩)) false ty).run Tryd.prog w = .ok (.tuple #[.bool true, .int .i64 x, v]) w' ∧
      Rng w' q r n f (strike left x) cnt' ∧ cnt' < cnt ∧ Save (· = r) w w' ∧ w'.heap.size = w.heap.size ∧ (Instr.entry (.pointer (some ⟨r, 0, none⟩))).run Tryd.prog w' = .ok (.tuple #[.int .i64 x, v]) w' := by
  obtain ⟨D, lf, h1, h2, h3⟩ := h
  rcases h1.next key_int ty with ⟨h0, hl, hr⟩ | ⟨key, v, kl, y, w', cnt', hkey, hlk, hv, hat, hr, hrg, hlt, hg, hs, hen⟩
  · exact .inl ⟨h0, fun x => by rw [← h3]; exact hl _, hr⟩
  · obtain ⟨x, rfl, rfl, hx⟩ := key_inv hkey
    refine .inr ⟨x, v, w', cnt', hx, by rw [← h3]; exact hlk, ?_, hr, ⟨D, _, hrg, h2, fun z => ?_⟩, hlt, save_grown hg, hs, hen⟩
    · have ha := h2 x
      have hh := Maps.has_true_of_atKey hat
      cases hf : f x with
      | none =>
        rw [hf] at ha
        rw [show Maps.has D (ki x) = false from ha] at hh
        cases hh
      | some u =>
        rw [hf] at ha
        have e1 := hat .nil
        rw [show D.atKey (ki x) .nil = .held u from ha _] at e1
        have e2 : valR v = some (.held u, y.2) := by rw [hv, e1]
        rw [valR_inj e2]
    · show (lf (ki z) && !(ki z).sameKey (ki x)) = _
      rw [h3, ki_same]
      simp [strike]

theorem Rng.drop {w : World} {q r n cnt : Nat} {f : Int → Option Value} {left : Int → Bool} (h : Rng w q r n f left cnt) {x : Int} (hx : F64 x) {t e : TypeId} (ht : Tryd.prog.underlying t = some (.map 3 e)) (ty : TypeId) :
    ∃ w' cnt', (Builtin.delete_ #[t, 3] ty #[.map (some q), .int .i64 x]).run Tryd.prog w = .ok (.tuple #[]) w' ∧ Rng w' q r n (delK f x) (strike left x) cnt' ∧ cnt' ≤ cnt ∧ Save (· = q) w w' ∧ w'.heap.size = w.heap.size := by
  obtain ⟨D, lf, h1, h2, h3⟩ := h
  obtain ⟨w', cnt', hr, hrg, hle, hg⟩ := h1.drop key_int ht (key_of hx) ty
  refine ⟨w', cnt', hr, ⟨_, _, hrg, atK_del h2 x, fun z => ?_⟩, hle, save_grown hg.grown, ?_⟩
  · show (lf (ki z) && !(ki z).sameKey (ki x)) = _
    rw [h3, ki_same]
    simp [strike]
  · obtain ⟨_, _, _, _, _, rfl⟩ := hg
    simp [ChangeMaps.setBlock]

theorem strike_twice (left : Int → Bool) (x : Int) : strike (strike left x) x = strike left x := by
  funext y
  unfold strike
  cases left y <;> simp

end Go.Proofs.YtaobkanliiiapaaDoor

/- What a good grammar says of each of its rules. -/

namespace Go.Proofs.YtaobkanliiiapaaDoor

theorem goodG_mem {n t : Int} {ss : List (Int × List Int)} (h : goodG n t ss = true) {u : Int × List Int} (hu : u ∈ ss) : (0 ≤ u.1 ∧ u.1 < n) ∧ u.2.length ≤ 4 ∧ ∀ x ∈ u.2, (0 ≤ x ∧ x < n) ∨ (x < 0 ∧ -t ≤ x) := by
  obtain ⟨_, _, _, hg⟩ := goodG_is h
  obtain ⟨k, hk⟩ := List.mem_iff_getElem?.1 hu
  have h1 := (hg k u (List.getElem?_eq_some_iff.1 hk).1 hk).1
  unfold goodU at h1
  simp only [Bool.and_eq_true, decide_eq_true_eq] at h1
  refine ⟨nonB_is h1.1, h1.2.1, fun x hx => ?_⟩
  have h2 := h1.2.2
  unfold symsB at h2
  rw [List.all_eq_true] at h2
  have h3 := h2 x hx
  unfold symB at h3
  have := of_decide_eq_true h3
  omega

end Go.Proofs.YtaobkanliiiapaaDoor

/- Plain mathematics of chapter 3: the least set that is closed under rules. -/

namespace Go.Proofs.YtaobkanliiiapaaDoor

/-- A way to close a set: when a rule fires in a set, and what it then adds. -/
structure Way where
  fires : (Int → Bool) → Int × List Int → Bool
  adds : Int × List Int → List Int
  mono : ∀ (S T : Int → Bool) (r : Int × List Int), (∀ x, S x = true → T x = true) → fires S r = true → fires T r = true

/-- x is in every set that holds what S0 holds and is closed under the rules. -/
def Least (W : Way) (S0 : Int → Bool) (ss : List (Int × List Int)) (x : Int) : Prop :=
  ∀ S : Int → Bool, (∀ y, S0 y = true → S y = true) → (∀ r ∈ ss, W.fires S r = true → ∀ y ∈ W.adds r, S y = true) → S x = true

theorem Least.start {W : Way} {S0 : Int → Bool} {ss : List (Int × List Int)} {x : Int} (h : S0 x = true) : Least W S0 ss x := fun _ h0 _ => h0 x h
theorem Least.step {W : Way} {S0 S : Int → Bool} {ss : List (Int × List Int)} (hS : ∀ x, S x = true → Least W S0 ss x) {r : Int × List Int} (hr : r ∈ ss) (hf : W.fires S r = true) {y : Int} (hy : y ∈ W.adds r) : Least W S0 ss y := by
  intro T h0 hc
  exact hc r hr (W.mono S T r (fun x hx => hS x hx T h0 hc) hf) y hy

/-- S is the least set. -/
def IsLeast (W : Way) (S0 : Int → Bool) (ss : List (Int × List Int)) (S : Int → Bool) : Prop := ∀ x, S x = true ↔ Least W S0 ss x
theorem isLeast_of {W : Way} {S0 S : Int → Bool} {ss : List (Int × List Int)} (hs : ∀ x, S x = true → Least W S0 ss x) (h0 : ∀ x, S0 x = true → S x = true) (hc : ∀ r ∈ ss, W.fires S r = true → ∀ y ∈ W.adds r, S y = true) : IsLeast W S0 ss S :=
  fun x => ⟨hs x, fun h => h S h0 hc⟩
theorem IsLeast.unique {W : Way} {S0 S T : Int → Bool} {ss : List (Int × List Int)} (h : IsLeast W S0 ss S) (k : IsLeast W S0 ss T) : S = T := by
  funext x
  rw [Bool.eq_iff_iff]
  exact (h x).trans (k x).symm

/-- What a rule that is used makes of a set. -/
def useW (W : Way) (S : Int → Bool) (r : Int × List Int) : Int → Bool := fun x => S x || (W.fires S r && (W.adds r).contains x)
theorem useW_no {W : Way} {S : Int → Bool} {r : Int × List Int} (h : W.fires S r = false) : useW W S r = S := by
  funext x
  simp [useW, h]
theorem useW_le {W : Way} {S : Int → Bool} {r : Int × List Int} {x : Int} (h : S x = true) : useW W S r x = true := by simp [useW, h]
theorem useW_add {W : Way} {S : Int → Bool} {r : Int × List Int} {x : Int} (h : W.fires S r = true) (hx : x ∈ W.adds r) : useW W S r x = true := by simp [useW, h, hx]
theorem useW_inv {W : Way} {S : Int → Bool} {r : Int × List Int} {x : Int} (h : useW W S r x = true) : S x = true ∨ (W.fires S r = true ∧ x ∈ W.adds r) := by
  unfold useW at h
  simp at h
  exact h

theorem tokS_mono {S T : Int → Bool} (h : ∀ x, S x = true → T x = true) {x : Int} (hx : tokS S x = true) : tokS T x = true := by
  unfold tokS at hx ⊢
  simp at hx ⊢
  exact hx.imp id (h x)

def wayNull : Way := {
  fires := fun S r => r.2.all S
  adds := fun r => [r.1]
  mono := fun S T r h hf => by
    rw [List.all_eq_true] at hf ⊢
    exact fun x hx => h x (hf x hx) }
def wayProd : Way := {
  fires := fun S r => r.2.all (tokS S)
  adds := fun r => [r.1]
  mono := fun S T r h hf => by
    rw [List.all_eq_true] at hf ⊢
    exact fun x hx => tokS_mono h (hf x hx) }
def wayGrow (P : Int → Bool) : Way := {
  fires := fun S r => r.2.all (tokS P) && r.2.any (tokS S)
  adds := fun r => [r.1]
  mono := fun S T r h hf => by
    rw [Bool.and_eq_true] at hf ⊢
    refine ⟨hf.1, ?_⟩
    have h2 := hf.2
    rw [List.any_eq_true] at h2 ⊢
    obtain ⟨x, hx, hp⟩ := h2
    exact ⟨x, hx, tokS_mono h hp⟩ }
def wayReach : Way := {
  fires := fun S r => S r.1
  adds := fun r => r.2.filter fun x => decide (0 ≤ x)
  mono := fun _ _ _ h hf => h _ hf }

/-- No member. -/
def noS : Int → Bool := fun _ => false
/-- One member. -/
def oneS (s : Int) : Int → Bool := fun x => decide (x = s)

/-- What a way adds are numbers below 40. -/
def AddsFit (W : Way) (ss : List (Int × List Int)) : Prop := ∀ r ∈ ss, ∀ y ∈ W.adds r, 0 ≤ y ∧ y < 40
theorem fit_lefts {W : Way} {n t : Int} {ss : List (Int × List Int)} (hg : goodG n t ss = true) (hW : ∀ r, W.adds r = [r.1]) : AddsFit W ss := fun r hr y hy => by
  rw [hW] at hy
  simp at hy
  subst hy
  have h1 := goodG_is hg
  have h2 := (goodG_mem hg hr).1
  omega
theorem fit_reach {n t : Int} {ss : List (Int × List Int)} (hg : goodG n t ss = true) : AddsFit wayReach ss := fun r hr y hy => by
  have hy' : y ∈ r.2 ∧ 0 ≤ y := by simpa [wayReach] using hy
  have h1 := goodG_is hg
  have h2 := (goodG_mem hg hr).2.2 y hy'.1
  omega

/-- How many of the first m are marked. -/
def cntB (rem : Int → Bool) (m : Nat) : Nat := ((List.range m).filter fun (k : Nat) => rem (k : Int)).length
theorem cntB_le (rem : Int → Bool) (m : Nat) : cntB rem m ≤ m := by
  unfold cntB
  have := List.length_filter_le (fun (k : Nat) => rem (k : Int)) (List.range m)
  simpa using this
theorem filter_two {p q : Nat → Bool} : ∀ (l : List Nat), (∀ j ∈ l, q j = true → p j = true) → (l.filter q).length ≤ (l.filter p).length
  | [], _ => Nat.le_refl _
  | a :: l, h => by
    have ih := filter_two l fun j hj => h j (List.mem_cons_of_mem _ hj)
    have ha := h a List.mem_cons_self
    cases hq : q a
    · rw [List.filter_cons_of_neg (by simp [hq])]
      cases hp : p a
      · rw [List.filter_cons_of_neg (by simp [hp])]; exact ih
      · rw [List.filter_cons_of_pos hp]; simp only [List.length_cons]; omega
    · rw [List.filter_cons_of_pos hq, List.filter_cons_of_pos (ha hq)]
      simp only [List.length_cons]
      omega
theorem filter_less {p q : Nat → Bool} : ∀ (l : List Nat) (i : Nat), i ∈ l → p i = true → q i = false → (∀ j ∈ l, q j = true → p j = true) → (l.filter q).length < (l.filter p).length
  | [], _, h, _, _, _ => by cases h
  | a :: l, i, h, hp, hq, hle => by
    have hl := filter_two l fun j hj => hle j (List.mem_cons_of_mem _ hj)
    by_cases e : a = i
    · subst e
      rw [List.filter_cons_of_pos hp, List.filter_cons_of_neg (by simp [hq])]
      simp only [List.length_cons]
      omega
    · have hm : i ∈ l := by
        rcases List.mem_cons.1 h with h | h
        · exact absurd h.symm e
        · exact h
      have ih := filter_less l i hm hp hq fun j hj => hle j (List.mem_cons_of_mem _ hj)
      have ha := hle a List.mem_cons_self
      cases hqa : q a
      · rw [List.filter_cons_of_neg (by simp [hqa])]
        cases hpa : p a
        · rw [List.filter_cons_of_neg (by simp [hpa])]; exact ih
        · rw [List.filter_cons_of_pos hpa]; simp only [List.length_cons]; omega
      · rw [List.filter_cons_of_pos hqa, List.filter_cons_of_pos (ha hqa)]
        simp only [List.length_cons]
        omega
theorem cntB_strike {rem : Int → Bool} {m k : Nat} (hk : k < m) (h : rem (k : Int) = true) : cntB (strike rem (k : Int)) m < cntB rem m :=
  filter_less (List.range m) k (List.mem_range.2 hk) h (strike_same _ _) fun _ _ hj => strike_le hj

end Go.Proofs.YtaobkanliiiapaaDoor
