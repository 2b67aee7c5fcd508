/- Plain mathematics of chapter 6: what stands for what. No program, no memory. -/
import Derived.Test.YtgnpgehekfhedaaDoorU602
import Derived.Test.YtgnpgehekfhedaaDoorU608
import Derived.Deep.LoopGhost
import Derived.Deep.RegionLaw
import Derived.Test.YtgnpgehekfhedaaDoorU606
import Derived.Test.YtgnpgehekfhedaaDoorU607
import Derived.Test.YtgnpgehekfhedaaDoorU603

namespace Go.Proofs.YtgnpgehekfhedaaDoor

/-- The left number l stands directly for x, where N derive nothing. -/
def DirB (N : Int → Bool) (P O : List (List Int)) (l x : Int) : Prop := [l, x] ∈ O ∨ (∃ y, [l, x, y] ∈ P ∧ N y = true) ∨ (∃ y, [l, y, x] ∈ P ∧ N y = true)

/-- S is the least set that holds S0 and whatever stands directly for one of it. -/
structure IsUp (D : Int → Int → Prop) (S0 S : Int → Bool) : Prop where
  base : ∀ x, S0 x = true → S x = true
  up : ∀ l x, D l x → S x = true → S l = true
  least : ∀ S' : Int → Bool, (∀ x, S0 x = true → S' x = true) → (∀ l x, D l x → S' x = true → S' l = true) → ∀ x, S x = true → S' x = true

theorem IsUp.unique {D : Int → Int → Prop} {S0 S T : Int → Bool} (h : IsUp D S0 S) (k : IsUp D S0 T) : S = T := by
  funext x
  have h1 := h.least T k.base k.up x
  have h2 := k.least S h.base h.up x
  cases e : S x <;> cases e' : T x <;> simp_all

/-- What stands for x, in steps. -/
def Ups (D : Int → Int → Prop) (x y : Int) : Prop := ∀ S : Int → Prop, S x → (∀ l z, D l z → S z → S l) → S y
theorem Ups.refl (D : Int → Int → Prop) (x : Int) : Ups D x x := fun _ h _ => h
theorem Ups.step {D : Int → Int → Prop} {x y l : Int} (h : Ups D x y) (hd : D l y) : Ups D x l := fun S h0 hs => hs l y hd (h S h0 hs)
theorem Ups.trans {D : Int → Int → Prop} {x y z : Int} (h : Ups D x y) (k : Ups D y z) : Ups D x z := fun S h0 hs => k S (h S h0 hs) hs
theorem Ups.first {D : Int → Int → Prop} {x y : Int} (h : Ups D x y) : y = x ∨ ∃ l, D l x ∧ Ups D l y := by
  have := h (fun y => y = x ∨ ∃ l, D l x ∧ Ups D l y) (.inl rfl) fun l z hd hz => by
    rcases hz with rfl | ⟨m, h1, h2⟩
    · exact .inr ⟨l, hd, Ups.refl D l⟩
    · exact .inr ⟨m, h1, h2.step hd⟩
  exact this
theorem IsUp.of {D : Int → Int → Prop} {S0 S : Int → Bool} (h : ∀ y, S y = true ↔ ∃ x, S0 x = true ∧ Ups D x y) : IsUp D S0 S :=
  ⟨fun x hx => (h x).2 ⟨x, hx, Ups.refl D x⟩, fun l x hd hx => by
    obtain ⟨z, h1, h2⟩ := (h x).1 hx
    exact (h l).2 ⟨z, h1, h2.step hd⟩, fun S' h0 hs x hx => by
    obtain ⟨z, h1, h2⟩ := (h x).1 hx
    exact h2 (fun y => S' y = true) (h0 z h1) hs⟩
theorem IsUp.ups {D : Int → Int → Prop} {S0 S : Int → Bool} (h : IsUp D S0 S) (y : Int) : S y = true ↔ ∃ x, S0 x = true ∧ Ups D x y := by
  have k : IsUp D S0 (fun y => bP (∃ x, S0 x = true ∧ Ups D x y)) := IsUp.of fun y => ⟨bP_is, bP_t⟩
  rw [h.unique k]
  exact ⟨bP_is, bP_t⟩

/-- What a symbol's row begins with. -/
noncomputable def rowOf (D : Int → Int → Prop) (x : Int) : Int → Bool := fun l => bP (if x < 0 then D l x else l = x)

/-- A row out of all that stands for a symbol: those of it that are no tokens. -/
theorem isUp_row {D : Int → Int → Prop} (hD : ∀ l x, D l x → 0 ≤ l) {x : Int} {S T : Int → Bool} (h : IsUp D (fun y => decide (y = x)) S) (hT : ∀ y, T y = true ↔ S y = true ∧ 0 ≤ y) : IsUp D (rowOf D x) T := by
  refine IsUp.of fun y => ?_
  rw [hT, h.ups]
  have nn : ∀ {l y}, 0 ≤ l → Ups D l y → 0 ≤ y := fun {l y} hl hu => hu (fun y => 0 ≤ y) hl fun l z hd _ => hD l z hd
  constructor
  · rintro ⟨⟨z, hz, hu⟩, hy⟩
    have e : z = x := of_decide_eq_true hz
    subst e
    by_cases hx : z < 0
    · rcases hu.first with rfl | ⟨l, h1, h2⟩
      · omega
      · exact ⟨l, bP_t (by rw [if_pos hx]; exact h1), h2⟩
    · exact ⟨z, bP_t (by rw [if_neg hx]), hu⟩
  · rintro ⟨l, hl, hu⟩
    have hl := bP_is hl
    by_cases hx : x < 0
    · rw [if_pos hx] at hl
      exact ⟨⟨x, decide_eq_true rfl, Ups.trans ((Ups.refl D x).step hl) hu⟩, nn (hD l x hl) hu⟩
    · rw [if_neg hx] at hl
      subst hl
      exact ⟨⟨l, decide_eq_true rfl, hu⟩, nn (by omega) hu⟩

/-- Some nonterminal stands for itself by a step or more. -/
def RoundD (D : Int → Int → Prop) : Prop := ∃ l x, D l x ∧ 0 ≤ x ∧ Ups D l x
theorem round_up {D : Int → Int → Prop} {x : Int} {S : Int → Bool} (h : IsUp D (fun l => bP (D l x)) S) : S x = true ↔ ∃ l, D l x ∧ Ups D l x := by
  rw [h.ups]
  exact ⟨fun ⟨l, h1, h2⟩ => ⟨l, bP_is h1, h2⟩, fun ⟨l, h1, h2⟩ => ⟨l, bP_t h1, h2⟩⟩

end Go.Proofs.YtgnpgehekfhedaaDoor

/- The program's closed: a row, and all that stands for one of it in steps. -/

namespace Go.Proofs.YtgnpgehekfhedaaDoor
open Go.RowKit

def Fit40 (S : Int → Bool) : Prop := ∀ x, S x = true → 0 ≤ x ∧ x < 40
/-- What the table says stands directly for what. -/
def DT6 (T : Int → Int → Bool) : Int → Int → Prop := fun l x => T x l = true

theorem stepR_is (T : Int → Int → Bool) (R : Int → Bool) (x : Int) : stepR T R x = true ↔ R x = true ∨ ∃ y, R y = true ∧ 0 ≤ y ∧ y < 40 ∧ T y x = true := by
  unfold stepR anyR
  rw [List.any_cons, Bool.or_eq_true, List.any_map, List.any_eq_true]
  constructor
  · rintro (h | ⟨y, hy, h⟩)
    · exact .inl h
    · have := (upK_mem R 40 y).1 hy
      exact .inr ⟨y, this.1, this.2.1, this.2.2, h⟩
  · rintro (h | ⟨y, h1, h2, h3, h4⟩)
    · exact .inl h
    · exact .inr ⟨y, (upK_mem R 40 y).2 ⟨h1, h2, h3⟩, h4⟩
theorem stepR_fit {T : Int → Int → Bool} {R : Int → Bool} (hT : ∀ x, Fit40 (T x)) (hR : Fit40 R) : Fit40 (stepR T R) := fun x hx => by
  rcases (stepR_is T R x).1 hx with h | ⟨y, _, _, _, h⟩
  · exact hR x h
  · exact hT y x h
theorem fit_eq {S R : Int → Bool} (hS : Fit40 S) (hR : Fit40 R) (h : rowA S = rowA R) : S = R := by
  funext x
  by_cases hx : 0 ≤ x ∧ x < 40
  · have := rowA_inj h x.toNat (by omega)
    rwa [show ((x.toNat : Nat) : Int) = x by omega] at this
  · have h1 : ∀ {Z : Int → Bool}, Fit40 Z → Z x = false := fun {Z} hZ => by
      cases e : Z x
      · rfl
      · exact absurd (hZ x e) hx
    rw [h1 hS, h1 hR]
theorem upK_sub {S R : Int → Bool} (h : ∀ x, S x = true → R x = true) : ∀ k, (upK S k).Sublist (upK R k)
  | 0 => List.Sublist.slnil
  | k + 1 => by
    have ih := upK_sub h k
    unfold upK
    by_cases h1 : S k = true
    · rw [if_pos h1, if_pos (h _ h1)]
      exact ih.append (List.Sublist.refl _)
    · rw [if_neg h1]
      split
      · exact ih.trans (List.sublist_append_left _ _)
      · exact ih
theorem upK_less {S R : Int → Bool} (h : ∀ x, S x = true → R x = true) (hne : rowA R ≠ rowA S) : (upK S 40).length < (upK R 40).length := by
  have h1 := upK_sub h 40
  have h2 := h1.length_le
  apply Classical.byContradiction
  intro hc
  have h3 := h1.eq_of_length (by omega)
  refine hne (rowA_ext fun k hk => ?_)
  have h4 := upK_mem S 40 k
  have h5 := upK_mem R 40 k
  rw [h3, h5] at h4
  cases e : S k <;> cases e' : R k
  · rfl
  · rw [e, e'] at h4; simp at h4; omega
  · rw [e, e'] at h4; simp at h4; omega
  · rfl

/-- On the way to the least set. -/
structure OnUp (T : Int → Int → Bool) (S0 R : Int → Bool) : Prop where
  fit : Fit40 R
  base : ∀ x, S0 x = true → R x = true
  sound : ∀ S' : Int → Bool, (∀ x, S0 x = true → S' x = true) → (∀ l x, DT6 T l x → S' x = true → S' l = true) → ∀ x, R x = true → S' x = true
theorem OnUp.start {T : Int → Int → Bool} {S0 : Int → Bool} (h : Fit40 S0) : OnUp T S0 S0 := ⟨h, fun _ h => h, fun _ h0 _ x hx => h0 x hx⟩
theorem OnUp.step {T : Int → Int → Bool} {S0 R : Int → Bool} (hT : ∀ x, Fit40 (T x)) (h : OnUp T S0 R) : OnUp T S0 (stepR T R) :=
  ⟨stepR_fit hT h.fit, fun x hx => (stepR_is T R x).2 (.inl (h.base x hx)), fun S' h0 hs x hx => by
    rcases (stepR_is T R x).1 hx with h1 | ⟨y, h1, _, _, h2⟩
    · exact h.sound S' h0 hs x h1
    · exact hs x y h2 (h.sound S' h0 hs y h1)⟩
theorem OnUp.end_ {T : Int → Int → Bool} {S0 R : Int → Bool} (hT : ∀ x, Fit40 (T x)) (h : OnUp T S0 R) (he : rowA (stepR T R) = rowA R) : IsUp (DT6 T) S0 R := by
  have e := fit_eq (stepR_fit hT h.fit) h.fit he
  refine ⟨h.base, fun l x hd hx => ?_, h.sound⟩
  rw [← e]
  have := h.fit x hx
  exact (stepR_is T R l).2 (.inr ⟨x, hx, this.1, this.2, hd⟩)

/-- A row of all that stands for one of S0. -/
def GaveUps (w : World) (T : Int → Int → Bool) (S0 : Int → Bool) (e : Ending) (w' : World) : Prop :=
  ∃ S, e = .returned (.agg (rowA S)) ∧ Fit40 S ∧ IsUp (DT6 T) S0 S ∧ Below w.heap.size w w'

set_option maxRecDepth 20000 in
set_option maxHeartbeats 1000000 in
theorem closed_any (K : Nat) (T : Int → Int → Bool) (S0 : Int → Bool) (w : World) (hT : TabC w K T) (hfT : ∀ x, Fit40 (T x)) (hf : Fit40 S0) :
    Calls Tryd.prog 84 #[.pointer (some ⟨K, 0, none⟩), .agg (rowA S0)] w (GaveUps w T S0) := by
  have HZ := Lib.hid info_row
  have HS := Lib.hid size_row
  have HT := Lib.hid hT; clear hT
  have HFT := Lib.hid hfT; clear hfT
  have HO := Lib.hid (OnUp.start (T := T) hf); clear hf
  go_enter Tryd.func84, Tryd.ntmps84
  have HB0 : Hid (Below w.heap.size w ((w.alloc (.cells (rowA S0) 97)).alloc (.cells (rowA noS) 97))) := by show Below _ _ _; go_grown
  have HR0 : Hid (Row ((w.alloc (.cells (rowA S0) 97)).alloc (.cells (rowA noS) 97)) w.heap.size 97 (rowA S0)) := (Row.new _ _ _).alloc _
  have HR1 : Hid (Row ((w.alloc (.cells (rowA S0) 97)).alloc (.cells (rowA noS) 97)) (w.heap.size + 1) 97 (rowA noS)) := by
    have h := Row.new (w.alloc (.cells (rowA S0) 97)) 97 (rowA noS)
    rw [World.size_alloc] at h
    exact h
  go_wp2_with (first
    | with_reducible refine wpList_boxA rfl 97 (.tmp 1) rfl (rowA S0) rfl ?_
    | with_reducible refine wpList_allocA rfl 97 rfl (rowA noS) 40 HZ.out ?_
    | with_reducible refine wpList_loadA rfl 97 (.tmp 3) rfl w.heap.size 0 rfl (rowA S0) 40 4 Tryd.underlying97 (HS.out _) HR0.out.rowCells ?_)
  refine (step_any K T S0 _ (HT.out.keep HB0.out HT.out.1)).mono ?_
  have hW2 : w.heap.size + 2 = ((w.alloc (.cells (rowA S0) 97)).alloc (.cells (rowA noS) 97)).heap.size := by simp
  generalize (w.alloc (.cells (rowA S0) 97)).alloc (.cells (rowA noS) 97) = W at HB0 HR0 HR1 hW2 ⊢
  rintro e w1 ⟨rfl, hB1⟩
  have hs1 := hB1.size
  have HB1 := Lib.hid (HB0.out.trans (hB1.mono (by omega)))
  have HR01 := Lib.hid (HR0.out.below hB1 HR0.out.lt)
  have HR11 := Lib.hid (HR1.out.below hB1 HR1.out.lt)
  clear HB0 HR0 HR1 hB1
  have hKN : w.heap.size + 2 ≤ w1.heap.size := by omega
  have HRN : Hid (Row (w1.alloc (.cells (rowA noS) 97)) w1.heap.size 97 (rowA noS)) := Row.new _ _ _
  have HB2 : Hid (Below w.heap.size w ((w1.alloc (.cells (rowA noS) 97)).setRow w1.heap.size (rowA (stepR T S0)))) := below_setRow (HB1.out.alloc (by omega) _) (by omega) _
  have HR02 : Hid (Row ((w1.alloc (.cells (rowA noS) 97)).setRow w1.heap.size (rowA (stepR T S0))) w.heap.size 97 (rowA S0)) := (HR01.out.alloc _).setRow_far (by omega) _
  have HR12 : Hid (Row ((w1.alloc (.cells (rowA noS) 97)).setRow w1.heap.size (rowA (stepR T S0))) (w.heap.size + 1) 97 (rowA noS)) := (HR11.out.alloc _).setRow_far (by omega) _
  have HR22 : Hid (Row ((w1.alloc (.cells (rowA noS) 97)).setRow w1.heap.size (rowA (stepR T S0))) w1.heap.size 97 (rowA (stepR T S0))) := HRN.out.setRow _
  go_wp2_with (first
    | with_reducible refine wpList_allocA rfl 97 rfl (rowA noS) 40 HZ.out ?_
    | with_reducible refine wpList_storeA rfl 97 (.tmp 5) (.tmp 8) rfl w1.heap.size (rowA (stepR T S0)) rfl rfl 97 (rowA noS) HRN.out (HS.out _) (by rw [rowA_size, rowA_size]) (rowA_all _) ?_)
  clear HB1 HR01 HR11 HRN
  generalize (w1.alloc (.cells (rowA noS) 97)).setRow w1.heap.size (rowA (stepR T S0)) = W2 at HB2 HR02 HR12 HR22 ⊢
  generalize w1.heap.size = KN at hKN HR22 ⊢
  go_simp
  go_loopg [] (40 - (upK S0 40).length) (fun g wr => ∃ R, g = 40 - (upK R 40).length ∧ Hid (OnUp T S0 R) ∧ Hid (Below w.heap.size w wr) ∧ Hid (Row wr w.heap.size 97 (rowA R)) ∧ Hid (Row wr (w.heap.size + 1) 97 (rowA noS)) ∧ Hid (Row wr KN 97 (rowA (stepR T R))))
  case atStart => exact ⟨S0, rfl, HO.out, HB2.out, HR02.out, HR12.out, HR22.out⟩
  case round =>
    clear HO HB2 HR02 HR12 HR22
    obtain ⟨R, hgk, HO, HB, HR0, HR1, HRN⟩ := hrel
    go_wp2_with (first
      | with_reducible refine wpList_loadA rfl 97 (.tmp 3) rfl w.heap.size 0 rfl (rowA R) 40 4 Tryd.underlying97 (HS.out _) HR0.out.rowCells ?_
      | with_reducible refine wpList_loadA rfl 97 (.tmp 5) rfl KN 0 rfl (rowA (stepR T R)) 40 4 Tryd.underlying97 (HS.out _) HRN.out.rowCells ?_
      | with_reducible refine wpList_neqA rfl 97 (.tmp 9) (.tmp 10) _ rfl (stepR T R) R rfl rfl 4 Tryd.underlying97 Tryd.underlying4 (by kernel_rfl) (by kernel_rfl) ?_
      | with_reducible refine wpList_storeA rfl 97 (.tmp 4) (.tmp 16) rfl (w.heap.size + 1) (rowA R) rfl rfl 97 (rowA noS) HR1.out (HS.out _) (by rw [rowA_size, rowA_size]) (rowA_all _) ?_)
    · rename_i hne
      have hneq : ¬ rowA (stepR T R) = rowA R := bP_no (by simpa using hne)
      have hless := upK_less (fun x hx => (stepR_is T R x).2 (.inl hx)) hneq
      have hmax := upK_len (stepR T R) 40
      clear hne hneq
      go_simp
      have HD : Hid (Below wr.heap.size wr wr.drew) := by show Below _ _ _; go_grown
      have hws := HB.out.size
      have hws2 := HR1.out.lt
      have HON := Lib.hid (HO.out.step HFT.out)
      have HRD := Lib.hid (HRN.out.below HD.out HRN.out.lt)
      have HCALL : Hid (Calls Tryd.prog 133 #[.pointer (some ⟨K, 0, none⟩), .agg (rowA (stepR T R))] wr.drew fun e w' => e = .returned (.agg (rowA (stepR T (stepR T R)))) ∧ Below wr.drew.heap.size wr.drew w') := step_any K T (stepR T R) _ ((HT.out.keep HB.out HT.out.1).keep HD.out (Nat.lt_of_lt_of_le HT.out.1 hws))
      refine wp_region_any (by kernel_rfl) ?_
      change wpAny _ _ _ _ _ _ _ (World.drew _)
      refine wpAny_take (i := 1) (v := .pointer (some ⟨K, 0, none⟩)) rfl (by kernel_rfl) (by kernel_rfl) (by kernel_rfl) (fun _ _ _ h => h) (Or.inl ⟨by rfl, fun _ => by rfl⟩) ?_
      refine wpAny_ready (rs := [0, 2]) (by kernel_rfl) (by simp) ?_
      refine AllReady.cons rfl (fun K1 hK1 => step_loadA rfl 97 (.tmp 5) rfl KN 0 rfl (rowA (stepR T R)) 40 4 Tryd.underlying97 (HS.out _) HRD.out.rowCells (hK1 _ _ ?_)) (AllReady.cons rfl (fun K1 hK1 => step_loadA rfl 97 (.tmp 5) rfl KN 0 rfl (rowA (stepR T R)) 40 4 Tryd.underlying97 (HS.out _) HRD.out.rowCells (hK1 _ _ ?_)) AllReady.nil)
      · refine wpAny_ready (rs := [2]) (by kernel_rfl) (by simp) (AllReady.cons rfl (fun K2 hK2 => step_loadA rfl 97 (.tmp 5) rfl KN 0 rfl (rowA (stepR T R)) 40 4 Tryd.underlying97 (HS.out _) HRD.out.rowCells (hK2 _ _ ?_)) AllReady.nil)
        refine wpAny_ready (rs := [3]) (by kernel_rfl) (by simp) (AllReady.cons rfl (fun K3 hK3 => ?_) AllReady.nil)
        go_simp
        refine HCALL.out.mono ?_
        rintro e w2 ⟨rfl, hB2⟩
        refine hK3 _ _ ?_
        have hB2' : Below wr.heap.size wr w2 := HD.out.trans (hB2.mono HD.out.size)
        have HQ0 := Lib.hid (HR0.out.below hB2' HR0.out.lt)
        have HQ1 := Lib.hid (HR1.out.below hB2' HR1.out.lt)
        have HQN := Lib.hid (HRN.out.below hB2' HRN.out.lt)
        have HBQ := Lib.hid (HB.out.trans (hB2'.mono hws))
        have HX0 := Lib.hid (HQ0.out.setRow (rowA (stepR T R)))
        have HX1 := Lib.hid (HQ1.out.setRow_far (k := w.heap.size) (by omega) (rowA (stepR T R)))
        have HXN := Lib.hid (HQN.out.setRow_far (k := w.heap.size) (by omega) (rowA (stepR T R)))
        have HY0 := Lib.hid (HX0.out.setRow_far (k := KN) (by omega) (rowA (stepR T (stepR T R))))
        have HY1 := Lib.hid (HX1.out.setRow_far (k := KN) (by omega) (rowA (stepR T (stepR T R))))
        have HYN := Lib.hid (HXN.out.setRow (rowA (stepR T (stepR T R))))
        have HBY := Lib.hid (below_setRow (below_setRow HBQ.out (Nat.le_refl w.heap.size) (rowA (stepR T R))) (g := KN) (by omega) (rowA (stepR T (stepR T R))))
        clear hB2 hB2'
        refine wpAny_ready (rs := [4]) (by kernel_rfl) (by simp) (AllReady.cons rfl (fun K4 hK4 => step_storeA rfl 97 (.tmp 3) (.tmp 12) rfl w.heap.size (rowA (stepR T R)) rfl rfl 97 (rowA R) HQ0.out (HS.out _) (by rw [rowA_size, rowA_size]) (rowA_all _) (hK4 _ _ ?_)) AllReady.nil)
        refine wpAny_ready (rs := [5]) (by kernel_rfl) (by simp) (AllReady.cons rfl (fun K5 hK5 => step_storeA rfl 97 (.tmp 5) (.tmp 15) rfl KN (rowA (stepR T (stepR T R))) rfl rfl 97 (rowA (stepR T R)) HXN.out (HS.out _) (by rw [rowA_size, rowA_size]) (rowA_all _) (hK5 _ _ ?_)) AllReady.nil)
        refine wpAny_done (by kernel_rfl) ?_ _
        go_simp
        go_wp2
        go_roundg (40 - (upK (stepR T R) 40).length)
        case measure => omega
        case rel => exact ⟨stepR T R, rfl, HON.out, HBY.out, HY0.out, HY1.out, HYN.out⟩
      · refine wpAny_ready (rs := [0, 3]) (by kernel_rfl) (by simp) (AllReady.cons rfl (fun K2 hK2 => step_loadA rfl 97 (.tmp 5) rfl KN 0 rfl (rowA (stepR T R)) 40 4 Tryd.underlying97 (HS.out _) HRD.out.rowCells (hK2 _ _ ?_)) (AllReady.cons rfl (fun K3 hK3 => ?_) AllReady.nil))
        · refine wpAny_ready (rs := [3]) (by kernel_rfl) (by simp) (AllReady.cons rfl (fun K3 hK3 => ?_) AllReady.nil)
          go_simp
          refine HCALL.out.mono ?_
          rintro e w2 ⟨rfl, hB2⟩
          refine hK3 _ _ ?_
          have hB2' : Below wr.heap.size wr w2 := HD.out.trans (hB2.mono HD.out.size)
          have HQ0 := Lib.hid (HR0.out.below hB2' HR0.out.lt)
          have HQ1 := Lib.hid (HR1.out.below hB2' HR1.out.lt)
          have HQN := Lib.hid (HRN.out.below hB2' HRN.out.lt)
          have HBQ := Lib.hid (HB.out.trans (hB2'.mono hws))
          have HX0 := Lib.hid (HQ0.out.setRow (rowA (stepR T R)))
          have HX1 := Lib.hid (HQ1.out.setRow_far (k := w.heap.size) (by omega) (rowA (stepR T R)))
          have HXN := Lib.hid (HQN.out.setRow_far (k := w.heap.size) (by omega) (rowA (stepR T R)))
          have HY0 := Lib.hid (HX0.out.setRow_far (k := KN) (by omega) (rowA (stepR T (stepR T R))))
          have HY1 := Lib.hid (HX1.out.setRow_far (k := KN) (by omega) (rowA (stepR T (stepR T R))))
          have HYN := Lib.hid (HXN.out.setRow (rowA (stepR T (stepR T R))))
          have HBY := Lib.hid (below_setRow (below_setRow HBQ.out (Nat.le_refl w.heap.size) (rowA (stepR T R))) (g := KN) (by omega) (rowA (stepR T (stepR T R))))
          clear hB2 hB2'
          refine wpAny_ready (rs := [4]) (by kernel_rfl) (by simp) (AllReady.cons rfl (fun K4 hK4 => step_storeA rfl 97 (.tmp 3) (.tmp 12) rfl w.heap.size (rowA (stepR T R)) rfl rfl 97 (rowA R) HQ0.out (HS.out _) (by rw [rowA_size, rowA_size]) (rowA_all _) (hK4 _ _ ?_)) AllReady.nil)
          refine wpAny_ready (rs := [5]) (by kernel_rfl) (by simp) (AllReady.cons rfl (fun K5 hK5 => step_storeA rfl 97 (.tmp 5) (.tmp 15) rfl KN (rowA (stepR T (stepR T R))) rfl rfl 97 (rowA (stepR T R)) HXN.out (HS.out _) (by rw [rowA_size, rowA_size]) (rowA_all _) (hK5 _ _ ?_)) AllReady.nil)
          refine wpAny_done (by kernel_rfl) ?_ _
          go_simp
          go_wp2
          go_roundg (40 - (upK (stepR T R) 40).length)
          case measure => omega
          case rel => exact ⟨stepR T R, rfl, HON.out, HBY.out, HY0.out, HY1.out, HYN.out⟩
        · go_simp
          refine HCALL.out.mono ?_
          rintro e w2 ⟨rfl, hB2⟩
          refine hK3 _ _ ?_
          have hB2' : Below wr.heap.size wr w2 := HD.out.trans (hB2.mono HD.out.size)
          have HQ0 := Lib.hid (HR0.out.below hB2' HR0.out.lt)
          have HQ1 := Lib.hid (HR1.out.below hB2' HR1.out.lt)
          have HQN := Lib.hid (HRN.out.below hB2' HRN.out.lt)
          have HBQ := Lib.hid (HB.out.trans (hB2'.mono hws))
          have HX0 := Lib.hid (HQ0.out.setRow (rowA (stepR T R)))
          have HX1 := Lib.hid (HQ1.out.setRow_far (k := w.heap.size) (by omega) (rowA (stepR T R)))
          have HXN := Lib.hid (HQN.out.setRow_far (k := w.heap.size) (by omega) (rowA (stepR T R)))
          have HY0 := Lib.hid (HX0.out.setRow_far (k := KN) (by omega) (rowA (stepR T (stepR T R))))
          have HY1 := Lib.hid (HX1.out.setRow_far (k := KN) (by omega) (rowA (stepR T (stepR T R))))
          have HYN := Lib.hid (HXN.out.setRow (rowA (stepR T (stepR T R))))
          have HBY := Lib.hid (below_setRow (below_setRow HBQ.out (Nat.le_refl w.heap.size) (rowA (stepR T R))) (g := KN) (by omega) (rowA (stepR T (stepR T R))))
          clear hB2 hB2'
          refine wpAny_ready (rs := [0]) (by kernel_rfl) (by simp) (AllReady.cons rfl (fun K2 hK2 => step_loadA rfl 97 (.tmp 5) rfl KN 0 rfl (rowA (stepR T R)) 40 4 Tryd.underlying97 (HS.out _) HQN.out.rowCells (hK2 _ _ ?_)) AllReady.nil)
          refine wpAny_ready (rs := [4]) (by kernel_rfl) (by simp) (AllReady.cons rfl (fun K4 hK4 => step_storeA rfl 97 (.tmp 3) (.tmp 12) rfl w.heap.size (rowA (stepR T R)) rfl rfl 97 (rowA R) HQ0.out (HS.out _) (by rw [rowA_size, rowA_size]) (rowA_all _) (hK4 _ _ ?_)) AllReady.nil)
          refine wpAny_ready (rs := [5]) (by kernel_rfl) (by simp) (AllReady.cons rfl (fun K5 hK5 => step_storeA rfl 97 (.tmp 5) (.tmp 15) rfl KN (rowA (stepR T (stepR T R))) rfl rfl 97 (rowA (stepR T R)) HXN.out (HS.out _) (by rw [rowA_size, rowA_size]) (rowA_all _) (hK5 _ _ ?_)) AllReady.nil)
          refine wpAny_done (by kernel_rfl) ?_ _
          go_simp
          go_wp2
          go_roundg (40 - (upK (stepR T R) 40).length)
          case measure => omega
          case rel => exact ⟨stepR T R, rfl, HON.out, HBY.out, HY0.out, HY1.out, HYN.out⟩
    · rename_i he
      have heq : rowA (stepR T R) = rowA R := bP_is (by simpa using he)
      have HU := Lib.hid (HO.out.end_ HFT.out heq)
      clear he heq
      have HX1 := Lib.hid (HR1.out.setRow (rowA R))
      have HBX := Lib.hid (below_setRow HB.out (Nat.le_succ w.heap.size) (rowA R))
      refine bodyPost_ret (v := .agg (rowA R)) ?_ rfl ⟨R, rfl, HO.out.fit, HU.out, HBX.out⟩
      exact results_cell_row Tryd.results84 _ _ (w.heap.size + 1) 97 (rowA R) (0, 0) _ rfl HX1.out Tryd.underlying97 rfl (HS.out _)

end Go.Proofs.YtgnpgehekfhedaaDoor

/- What the reference's l5Rising and GoodBinary answer. -/

namespace Go.Proofs.YtgnpgehekfhedaaDoor
open Go.RowKit
open Go.Sort (grow)

theorem cell0 {w : World} {B : Nat} {A : Option Addr} {xs : List Int} (h : Ints w B A xs) (h0 : 0 < xs.length) : ∃ b o, A = some ⟨b, o, none⟩ ∧ b < B ∧ w.cell? ⟨b, o, none⟩ = some (.int .i64 (xs.getD 0 0)) := by
  obtain ⟨b, o, e, hb, hc⟩ := h.at_ h0
  exact ⟨b, o, e, hb, by rw [getD_zero h0]; exact hc⟩

/-- The first k lists are as they should be. -/
def RisTo (n t long : Int) (xs : List (List Int)) (k : Nat) : Prop := LongTo long xs k ∧ SymTo n t xs k ∧ RiseTo xs k

set_option maxRecDepth 20000 in
set_option maxHeartbeats 1000000 in
theorem l5Rising_any (b : Bi) (long : Nat) (hl2 : 2 ≤ long) (hl3 : long ≤ 3) (A : Option Addr) (ls : List Li) (c : Nat) (w : World) (hn : 1 ≤ b.n) (hn' : b.n ≤ 40) (ht : 1 ≤ b.t) (ht' : b.t ≤ 4) (hx : Lls w w.heap.size A ls) (h1 : ls.length ≤ 1048576) (h2 : ∀ u ∈ ls, u.r.length ≤ 1048576) :
    Calls Tryd.prog 126 #[(.agg #[.int .i64 b.n, .int .i64 b.t, .slice b.Ap b.P.length b.cp, .slice b.Ao b.O.length b.co, .slice b.Ae b.E.length b.ce, .slice b.Af b.F.length b.cf]), .slice A ls.length c, .int .i64 long] w fun e w' => e = .returned (.bool (bP (GoodLs b.n b.t long (sayL ls)))) ∧ Below w.heap.size w w' := by
  have HX := Lib.hid hx; clear hx
  have H2 := Lib.hid h2; clear h2
  have HLN : Hid ((sayL ls).length = ls.length) := sayL_len
  have hB0 : Below w.heap.size w (w.alloc (.cells #[.int .i64 b.n, .int .i64 b.t, .slice b.Ap b.P.length b.cp, .slice b.Ao b.O.length b.co, .slice b.Ae b.E.length b.ce, .slice b.Af b.F.length b.cf] 29)) := by go_grown
  have BX0 := Box6.new w b 29
  go_enter Tryd.func126, Tryd.ntmps126
  go_wp2
  generalize (w.alloc (.cells #[.int .i64 b.n, .int .i64 b.t, .slice b.Ap b.P.length b.cp, .slice b.Ao b.O.length b.co, .slice b.Ae b.E.length b.ce, .slice b.Af b.F.length b.cf] 29)) = W at hB0 BX0 ⊢
  go_loopw [13] (fun i wr => ∃ (k : Nat), k ≤ ls.length ∧ i = .int .i64 k ∧ Below w.heap.size w wr ∧ Box6 wr w.heap.size b ∧ Hid (RisTo b.n b.t long (sayL ls) k)) (fun i _ => ls.length - (intOf i).toNat)
  case atStart => exact ⟨0, by omega, rfl, hB0, BX0, fun j x h => absurd h (by omega), fun j x h => absurd h (by omega), RiseTo.zero _⟩
  case round =>
    clear hB0 BX0
    obtain ⟨k, hk, rfl, hB, hbox, H⟩ := hrel
    by_cases hlt : k < ls.length
    · obtain ⟨p, o, rfl, hb, c1, c2, c3⟩ := (HX.out.keep hB).at_ hlt
      obtain ⟨g0, g1, g2, g3, g4, g5, g6⟩ := id hbox
      have HBX := Lib.hid hbox; clear hbox
      have hlen2 := H2.out ls[k] (List.getElem_mem hlt)
      have HRG : Hid (∀ d os, Below w.heap.size w (grow (redrawn wr d) os)) := fun d os => hB.trans ((below_regrown wr d os).mono hB.size)
      have HWR : Hid (∀ d os, Below wr.heap.size wr (grow (redrawn wr d) os)) := fun d os => below_regrown wr d os
      by_cases hne : (ls[k].r.length : Int) = long
      case neg =>
        have hd : ((ls[k].r.length : Int) != (long : Int)) = true := bne_t hne
        have HE : Hid (bP (GoodLs b.n b.t long (sayL ls)) = false) := bP_f fun h => hne (h.1 k _ (by rw [HLN.out]; exact hlt) (sayL_at hlt))
        clear hne c2 c3 g1 g2 g3 g4 g5 g6
        go_wp2
        refine wp_region_quiet_below (by kernel_rfl) (by kernel_rfl) ?_
        repeat (first | go_big_quiet_step (fail) | quiet_step (fail))
        refine wpQuiet_nil ?_
        intro _ hw'
        obtain ⟨⟨dq, osq⟩, hw''⟩ := hw'
        subst hw''
        go_wp2
        go_ret
        exact ⟨ret_b HE.out.symm, HRG.out dq osq⟩
      have hd : ((ls[k].r.length : Int) != (long : Int)) = false := bne_f hne
      have HLK : Hid ((ls[k].r.length : Int) = long) := hne
      have hr0 : 1 < ls[k].r.length := by omega
      have hc0 : 1 < ls[k].c := by omega
      have hci : (1 : Int) < (ls[k].c : Int) := by omega
      have hri : (1 : Int) < (ls[k].r.length : Int) := by omega
      have hr00 : (0 : Int) < (ls[k].r.length : Int) := by omega
      clear hne c2
      obtain ⟨p', o', ea, hb', d1⟩ := cell0 c3 (by omega)
      have C3 := Lib.hid (c3.more hB.size); clear c3
      have c1' := c1
      rw [ea] at c1' C3
      have q0 := cell_regrown d1
      have q1 := cell_regrown g1
      clear c1 g1 g2 g3 g4 g5 g6 d1
      generalize hx0 : ls[k].r.getD 0 0 = x0 at q0
      have HX0 := Lib.hid hx0; clear hx0
      have hwn : IntKind.i64.wrap (b.n - 1) = b.n - 1 := by rw [IntKind.wrap_i64]; omega
      have HCG : Hid (∀ d os, Calls Tryd.prog 68 #[.int .i64 x0, .int .i64 0, .int .i64 (b.n - 1)] (grow (redrawn wr d) os) fun e w' => e = .returned (.bool (nonB b.n x0)) ∧ Below (grow (redrawn wr d) os).heap.size (grow (redrawn wr d) os) w') := fun d os => by
        have h := l1In_any x0 0 (b.n - 1) (grow (redrawn wr d) os)
        rw [non_in] at h
        exact h.mono fun e w' ⟨h1, h2⟩ => ⟨h1, h2 ▸ Below.refl _ _⟩
      cases hu : nonB b.n x0
      case false =>
        have HU := Lib.hid hu; clear hu
        have HE : Hid (bP (GoodLs b.n b.t long (sayL ls)) = false) := bP_f fun h => by
          have h1 := (h.2.1 k _ (by rw [HLN.out]; exact hlt) (sayL_at hlt)).1
          rw [HX0.out, HU.out] at h1; cases h1
        rw [HU.out] at HCG
        go_wp2
        refine wp_region_quiet_below (by kernel_rfl) (by kernel_rfl) ?_
        repeat (first | go_big_quiet_step (exact Calls.regrown_of (HCG.out _ _)) | quiet_step (exact Calls.regrown_of (HCG.out _ _)))
        refine wpQuiet_nil ?_
        intro _ hw'
        obtain ⟨⟨dq, osq⟩, hw''⟩ := hw'
        subst hw''
        go_wp2
        go_ret
        exact ⟨ret_b HE.out.symm, HRG.out dq osq⟩
      have HU := Lib.hid hu; clear hu
      rw [HU.out] at HCG
      have HNL : Hid (LongTo long (sayL ls) (k + 1)) := upto_next (Q := fun x : List Int => (x.length : Int) = long) (sayL_at hlt) HLK.out H.out.1
      by_cases hk0 : k = 0
      · have hpos : decide (0 < k) = false := decide_eq_false (by omega)
        have hpos' : ¬ 0 < k := by omega
        have HNR : Hid (RiseTo (sayL ls) (k + 1)) := by rw [hk0]; exact RiseTo.none _
        clear hk0
        go_wp2
        refine wp_region_quiet_below (by kernel_rfl) (by kernel_rfl) ?_
        repeat (first | go_big_quiet_step (exact Calls.regrown_of (HCG.out _ _)) | quiet_step (exact Calls.regrown_of (HCG.out _ _)))
        refine wpQuiet_nil ?_
        intro _ hw'
        obtain ⟨⟨dq, osq⟩, hw''⟩ := hw'
        subst hw''
        have hBQ := HRG.out dq osq
        have hbq := HBX.out.keep (HWR.out dq osq) g0
        have CQ := Lib.hid ((C3.out.keep (HWR.out dq osq)).more (HWR.out dq osq).size)
        generalize (grow (redrawn wr dq) osq) = wq at hBQ hbq CQ ⊢
        have HCD : Hid (Ints wq wq.heap.size (some ⟨p', o' + 1, none⟩) (ls[k].r.drop 1)) := CQ.out.drop1
        have hdl : (ls[k].r.drop 1).length = ls[k].r.length - 1 := List.length_drop
        have HDL := Lib.hid hdl; clear hdl
        clear q0 q1 HCG CQ c1'
        obtain ⟨wA, hwA⟩ : ∃ x, x = wr := ⟨wr, rfl⟩
        subst hwA
        go_wp2
        go_loopw [49] (fun i wr => ∃ (m : Nat), m ≤ ls[k].r.length - 1 ∧ i = .int .i64 m ∧ Below wq.heap.size wq wr ∧ Box6 wr w.heap.size b ∧ Hid (∀ (j : Nat) (x : Int), j < m → (ls[k].r.drop 1)[j]? = some x → symB b.n b.t x = true)) (fun i _ => ls[k].r.length - 1 - (intOf i).toNat)
        case atStart => exact ⟨0, by omega, rfl, Below.refl _ _, hbq, fun j x h => absurd h (by omega)⟩
        case round =>
          obtain ⟨m, hm, rfl, hBm, hbm, HM⟩ := hrel
          by_cases hmt : m < ls[k].r.length - 1
          · obtain ⟨p2, o2, e2, _, cm⟩ := (HCD.out.keep hBm).at_ (k := m) (by rw [HDL.out]; exact hmt)
            injection e2 with e2
            injection e2 with e3 e4
            subst e3 e4
            obtain ⟨m0, m1, m2, m3, m4, m5, m6⟩ := id hbm
            have HBM := Lib.hid hbm; clear hbm
            generalize hxm : (ls[k].r.drop 1)[m]'(by rw [HDL.out]; exact hmt) = xm at cm
            have HXM : Hid ((ls[k].r.drop 1)[m]? = some xm) := by show _ = _; rw [List.getElem?_eq_getElem (by rw [HDL.out]; exact hmt), hxm]
            clear hxm
            cases hs : symB b.n b.t xm
            all_goals
              have HSY := Lib.hid hs; clear hs
              go_wp2_with fail
              refine (l5Symbol_any b _ _ hn hn' ht ht').mono ?_
              rintro e w3 ⟨rfl, hB3⟩
              rw [HSY.out]
              have hB4 : Below wq.heap.size wq w3 := hBm.trans (hB3.mono hBm.size)
            · have HE : Hid (bP (GoodLs b.n b.t long (sayL ls)) = false) := bP_f fun h => by
                have h1 := (h.2.1 k _ (by rw [HLN.out]; exact hlt) (sayL_at hlt)).2
                have h2 := symsB_iff.1 h1 m xm HXM.out
                rw [HSY.out] at h2; cases h2
              go_wp2
              go_ret
              exact ⟨ret_b HE.out.symm, hBQ.trans (hB4.mono hBQ.size)⟩
            · have HN : Hid (∀ (j : Nat) (x : Int), j < m + 1 → (ls[k].r.drop 1)[j]? = some x → symB b.n b.t x = true) := upto_next (Q := fun x => symB b.n b.t x = true) HXM.out HSY.out HM.out
              go_wp2
              go_roundw
              case rel => exact ⟨m + 1, by omega, by go_num, hB4, HBM.out.keep hB3 m0, HN.out⟩
              case measure => simp [intOf]; omega
          · have HS : Hid (SymTo b.n b.t (sayL ls) (k + 1)) := upto_next (Q := symL b.n b.t) (sayL_at hlt) ⟨by rw [HX0.out]; exact HU.out, symsB_of (k := m) (by rw [HDL.out]; exact hmt) HM.out⟩ H.out.2.1
            have HBM := Lib.hid hbm; clear hbm
            go_wp2
            go_roundw
            case rel => exact ⟨k + 1, by omega, by go_num, hBQ.trans (hBm.mono hBQ.size), HBM.out, HNL.out, HS.out, HNR.out⟩
            case measure => simp [intOf]; omega
      · have hpos : decide (0 < k) = true := decide_eq_true (by omega)
        have hpos' : 0 < k := by omega
        obtain ⟨j, hj⟩ : ∃ j, k = j + 1 := ⟨k - 1, by omega⟩
        have hltj : j < ls.length := by omega
        have hwk : IntKind.i64.wrap ((k : Int) - 1) = (j : Int) := by rw [IntKind.wrap_i64]; omega
        have hjl : (j : Int) < (ls.length : Int) := by omega
        obtain ⟨pp, oo, e', _, d1, d2, d3⟩ := (HX.out.keep hB).at_ hltj
        injection e' with e'
        injection e' with e1 e2
        subst e1 e2
        have qj := cell_regrown d1
        have D3 := Lib.hid (d3.more hB.size); clear d1 d2 d3
        have HLJ : Hid ((ls[j].r.length : Int) = long) := H.out.1 j _ (by omega) (sayL_at hltj)
        have hl21 : ls[j].r.length ≤ ls[k].r.length := by have := HLJ.out; have := HLK.out; omega
        have hl22 : ls[k].r.length ≤ ls[j].r.length := by have := HLJ.out; have := HLK.out; omega
        have hlenj := H2.out ls[j] (List.getElem_mem hltj)
        have HCH : Hid (∀ d os, Calls Tryd.prog 149 #[.slice ls[j].a ls[j].r.length ls[j].c, .slice (some ⟨p', o', none⟩) ls[k].r.length ls[k].c] (grow (redrawn wr d) os) fun e w' => e = .returned (.bool (bP (cmpL ls[j].r ls[k].r < 0))) ∧ Below (grow (redrawn wr d) os).heap.size (grow (redrawn wr d) os) w') := fun d os =>
          l5Less_any _ _ _ _ _ _ _ ((D3.out.keep (HWR.out d os)).more (HWR.out d os).size) ((C3.out.keep (HWR.out d os)).more (HWR.out d os).size) hlenj hl21 hl22
        have HJ := Lib.hid hj; clear hj
        cases hq : bP (cmpL ls[j].r ls[k].r < 0)
        · have HQ := Lib.hid hq; clear hq
          have HE : Hid (bP (GoodLs b.n b.t long (sayL ls)) = false) := bP_f fun h => bP_no HQ.out (h.2.2 j _ _ (by rw [HLN.out, ← HJ.out]; exact hlt) (sayL_at hltj) (by rw [← HJ.out]; exact sayL_at hlt))
          rw [HQ.out] at HCH
          clear hl21 hl22
          go_wp2
          refine wp_region_quiet_below (by kernel_rfl) (by kernel_rfl) ?_
          repeat (first | go_big_quiet_step (first | with_reducible exact Calls.regrown_of (HCG.out _ _) | exact Calls.regrown_of (HCH.out _ _)) | quiet_step (first | with_reducible exact Calls.regrown_of (HCG.out _ _) | exact Calls.regrown_of (HCH.out _ _)))
          refine wpQuiet_nil ?_
          intro _ hw'
          obtain ⟨⟨dq, osq⟩, hw''⟩ := hw'
          subst hw''
          go_wp2
          go_ret
          exact ⟨ret_b HE.out.symm, HRG.out dq osq⟩
        have HQ := Lib.hid hq; clear hq
        have HNR : Hid (RiseTo (sayL ls) (k + 1)) := by
          have h := H.out.2.2
          rw [HJ.out] at h
          have h' := h.step (b := ls[k].r) (sayL_at hltj) (by rw [← HJ.out]; exact sayL_at hlt) (bP_is HQ.out)
          rw [HJ.out]; exact h'
        rw [HQ.out] at HCH
        clear hl21 hl22
        go_wp2
        refine wp_region_quiet_below (by kernel_rfl) (by kernel_rfl) ?_
        repeat (first | go_big_quiet_step (first | with_reducible exact Calls.regrown_of (HCG.out _ _) | exact Calls.regrown_of (HCH.out _ _)) | quiet_step (first | with_reducible exact Calls.regrown_of (HCG.out _ _) | exact Calls.regrown_of (HCH.out _ _)))
        refine wpQuiet_nil ?_
        intro _ hw'
        obtain ⟨⟨dq, osq⟩, hw''⟩ := hw'
        subst hw''
        clear qj HCH hwk hjl
        have hBQ := HRG.out dq osq
        have hbq := HBX.out.keep (HWR.out dq osq) g0
        have CQ := Lib.hid ((C3.out.keep (HWR.out dq osq)).more (HWR.out dq osq).size)
        generalize (grow (redrawn wr dq) osq) = wq at hBQ hbq CQ ⊢
        have HCD : Hid (Ints wq wq.heap.size (some ⟨p', o' + 1, none⟩) (ls[k].r.drop 1)) := CQ.out.drop1
        have hdl : (ls[k].r.drop 1).length = ls[k].r.length - 1 := List.length_drop
        have HDL := Lib.hid hdl; clear hdl
        clear q0 q1 HCG CQ c1'
        obtain ⟨wA, hwA⟩ : ∃ x, x = wr := ⟨wr, rfl⟩
        subst hwA
        go_wp2
        go_loopw [49] (fun i wr => ∃ (m : Nat), m ≤ ls[k].r.length - 1 ∧ i = .int .i64 m ∧ Below wq.heap.size wq wr ∧ Box6 wr w.heap.size b ∧ Hid (∀ (j : Nat) (x : Int), j < m → (ls[k].r.drop 1)[j]? = some x → symB b.n b.t x = true)) (fun i _ => ls[k].r.length - 1 - (intOf i).toNat)
        case atStart => exact ⟨0, by omega, rfl, Below.refl _ _, hbq, fun j x h => absurd h (by omega)⟩
        case round =>
          obtain ⟨m, hm, rfl, hBm, hbm, HM⟩ := hrel
          by_cases hmt : m < ls[k].r.length - 1
          · obtain ⟨p2, o2, e2, _, cm⟩ := (HCD.out.keep hBm).at_ (k := m) (by rw [HDL.out]; exact hmt)
            injection e2 with e2
            injection e2 with e3 e4
            subst e3 e4
            obtain ⟨m0, m1, m2, m3, m4, m5, m6⟩ := id hbm
            have HBM := Lib.hid hbm; clear hbm
            generalize hxm : (ls[k].r.drop 1)[m]'(by rw [HDL.out]; exact hmt) = xm at cm
            have HXM : Hid ((ls[k].r.drop 1)[m]? = some xm) := by show _ = _; rw [List.getElem?_eq_getElem (by rw [HDL.out]; exact hmt), hxm]
            clear hxm
            cases hs : symB b.n b.t xm
            all_goals
              have HSY := Lib.hid hs; clear hs
              go_wp2_with fail
              refine (l5Symbol_any b _ _ hn hn' ht ht').mono ?_
              rintro e w3 ⟨rfl, hB3⟩
              rw [HSY.out]
              have hB4 : Below wq.heap.size wq w3 := hBm.trans (hB3.mono hBm.size)
            · have HE : Hid (bP (GoodLs b.n b.t long (sayL ls)) = false) := bP_f fun h => by
                have h1 := (h.2.1 k _ (by rw [HLN.out]; exact hlt) (sayL_at hlt)).2
                have h2 := symsB_iff.1 h1 m xm HXM.out
                rw [HSY.out] at h2; cases h2
              go_wp2
              go_ret
              exact ⟨ret_b HE.out.symm, hBQ.trans (hB4.mono hBQ.size)⟩
            · have HN : Hid (∀ (j : Nat) (x : Int), j < m + 1 → (ls[k].r.drop 1)[j]? = some x → symB b.n b.t x = true) := upto_next (Q := fun x => symB b.n b.t x = true) HXM.out HSY.out HM.out
              go_wp2
              go_roundw
              case rel => exact ⟨m + 1, by omega, by go_num, hB4, HBM.out.keep hB3 m0, HN.out⟩
              case measure => simp [intOf]; omega
          · have HS : Hid (SymTo b.n b.t (sayL ls) (k + 1)) := upto_next (Q := symL b.n b.t) (sayL_at hlt) ⟨by rw [HX0.out]; exact HU.out, symsB_of (k := m) (by rw [HDL.out]; exact hmt) HM.out⟩ H.out.2.1
            have HBM := Lib.hid hbm; clear hbm
            go_wp2
            go_roundw
            case rel => exact ⟨k + 1, by omega, by go_num, hBQ.trans (hBm.mono hBQ.size), HBM.out, HNL.out, HS.out, HNR.out⟩
            case measure => simp [intOf]; omega
    · have HN : Hid (bP (GoodLs b.n b.t long (sayL ls)) = true) := bP_t ⟨upto_end (Q := fun x : List Int => (x.length : Int) = long) (k := k) (by rw [HLN.out]; exact hlt) H.out.1, upto_end (Q := symL b.n b.t) (k := k) (by rw [HLN.out]; exact hlt) H.out.2.1, H.out.2.2.mono (.inr (by rw [HLN.out]; omega))⟩
      clear hbox
      go_wp2
      go_ret
      exact ⟨ret_b HN.out.symm, hB⟩

end Go.Proofs.YtgnpgehekfhedaaDoor

/- What the reference's GoodBinary answers. -/

namespace Go.Proofs.YtgnpgehekfhedaaDoor
open Go.RowKit
open Go.Sort (grow)

set_option maxRecDepth 20000 in
set_option maxHeartbeats 1000000 in
theorem specGoodB_any (b : Bi) (w : World) (hx : ReadB w w.heap.size b) (hm : LenB 1048576 b) :
    Calls Tryd.prog 75 #[(.agg #[.int .i64 b.n, .int .i64 b.t, .slice b.Ap b.P.length b.cp, .slice b.Ao b.O.length b.co, .slice b.Ae b.E.length b.ce, .slice b.Af b.F.length b.cf])] w fun e w' => e = .returned (.bool (bP (GoodBs b.say))) ∧ Below w.heap.size w w' := by
  have HX := Lib.hid hx; clear hx
  have HM := Lib.hid hm; clear hm
  have hB0 : Below w.heap.size w (w.alloc (.cells #[.int .i64 b.n, .int .i64 b.t, .slice b.Ap b.P.length b.cp, .slice b.Ao b.O.length b.co, .slice b.Ae b.E.length b.ce, .slice b.Af b.F.length b.cf] 29)) := by go_grown
  have BX0 := Box6.new w b 29
  go_enter Tryd.func75, Tryd.ntmps75
  go_wp2_with fail
  generalize (w.alloc (.cells #[.int .i64 b.n, .int .i64 b.t, .slice b.Ap b.P.length b.cp, .slice b.Ao b.O.length b.co, .slice b.Ae b.E.length b.ce, .slice b.Af b.F.length b.cf] 29)) = W at hB0 BX0 ⊢
  have HB0 := Lib.hid hB0; clear hB0
  have HBX0 := Lib.hid BX0; clear BX0
  obtain ⟨_, b0, b1, b2, b3, b4, b5⟩ := HBX0.out
  refine (l1In_any _ _ _ _).mono ?_
  rintro e w1 ⟨rfl, rfl⟩
  cases hn : inB 1 40 b.n
  · have HE : Hid (bP (GoodBs b.say) = false) := bP_f fun h => inB_not hn h.1
    clear hn
    go_wp2
    go_ret
    exact ⟨ret_b HE.out.symm, HB0.out⟩
  have HN := Lib.hid (inB_and hn); clear hn
  go_wp2_with fail
  refine (l1In_any _ _ _ _).mono ?_
  rintro e w1 ⟨rfl, rfl⟩
  cases ht : inB 1 4 b.t
  · have HE : Hid (bP (GoodBs b.say) = false) := bP_f fun h => inB_not ht h.2.1
    clear ht
    go_wp2
    go_ret
    exact ⟨ret_b HE.out.symm, HB0.out⟩
  have HT := Lib.hid (inB_and ht); clear ht
  have HFN : Hid ((sayL b.F).length = b.F.length) := sayL_len
  by_cases hfl : (b.F.length : Int) ≤ b.n
  case neg =>
    have HE : Hid (bP (GoodBs b.say) = false) := bP_f fun h => hfl (by have : ((sayL b.F).length : Int) ≤ b.n := h.2.2.2.2.2.1; rw [HFN.out] at this; exact this)
    go_wp2
    go_ret
    exact ⟨ret_b HE.out.symm, HB0.out⟩
  go_wp2
  have HFL : Hid ((b.F.length : Int) ≤ b.n) := hfl
  have hmF : b.F.length ≤ 1048576 := HM.out.f
  go_loopw [26] (fun i wr => ∃ (k : Nat), k ≤ b.F.length ∧ i = .int .i64 k ∧ Below w.heap.size w wr ∧ Box6 wr w.heap.size b ∧ Hid (LongTo 2 (sayL b.F) k)) (fun i _ => b.F.length - (intOf i).toNat)
  case atStart => exact ⟨0, by omega, rfl, HB0.out, HBX0.out, fun j x h => absurd h (by omega)⟩
  case round =>
    clear b0 b1 b2 b3 b4 b5 HBX0 HB0
    obtain ⟨k, hk, rfl, hB, hbox, H⟩ := hrel
    by_cases hlt : k < b.F.length
    · have HBX := Lib.hid hbox; clear hbox
      obtain ⟨p, o, ep, hb, c1, c2, c3⟩ := (HX.out.2.2.2.keep hB).at_ hlt
      have hmf := HM.out.fs _ (List.getElem_mem hlt)
      clear c2 c3
      rw [ep]
      by_cases hne : ((b.F[k].r.length : Nat) : Int) = 2
      · have HNX : Hid (LongTo 2 (sayL b.F) (k + 1)) := upto_next (Q := fun x : List Int => (x.length : Int) = 2) (sayL_at hlt) hne H.out
        go_wp2
        go_roundw
        case rel => exact ⟨k + 1, by omega, by go_num, hB, HBX.out, HNX.out⟩
        case measure => simp [intOf]; omega
      · have HE : Hid (bP (GoodBs b.say) = false) := bP_f fun h => hne (h.2.2.2.2.2.2 k _ (by rw [show b.say.F = sayL b.F from rfl, HFN.out]; exact hlt) (sayL_at hlt))
        go_wp2
        go_ret
        exact ⟨ret_b HE.out.symm, hB⟩
    · have HNX : Hid (LongTo 2 (sayL b.F) (sayL b.F).length) := upto_end (Q := fun x : List Int => (x.length : Int) = 2) (k := k) (by rw [HFN.out]; exact hlt) H.out
      have HBX := Lib.hid hbox
      have HB := Lib.hid hB
      obtain ⟨_, b0, b1, b2, b3, b4, b5⟩ := hbox
      clear hB
      go_wp2_with fail
      refine (l5Rising_any b 3 (by omega) (by omega) _ _ _ _ HN.out.1 HN.out.2 HT.out.1 HT.out.2 ((HX.out.1.keep HB.out).more HB.out.size) HM.out.p HM.out.ps).mono ?_
      rintro e w1 ⟨rfl, hB1⟩
      have HBX1 := Lib.hid (HBX.out.keep hB1 HBX.out.1)
      have HB1 := Lib.hid (HB.out.trans (hB1.mono HB.out.size)); clear hB1 HBX HB b0 b1 b2 b3 b4 b5
      obtain ⟨_, b0, b1, b2, b3, b4, b5⟩ := HBX1.out
      cases hP : bP (GoodLs b.n b.t (3 : Nat) (sayL b.P))
      · have HE : Hid (bP (GoodBs b.say) = false) := bP_f fun h => bP_no hP h.2.2.1
        clear hP
        go_wp2
        go_ret
        exact ⟨ret_b HE.out.symm, HB1.out⟩
      have HP := Lib.hid (bP_is hP); clear hP
      go_wp2_with fail
      refine (l5Rising_any b 2 (by omega) (by omega) _ _ _ _ HN.out.1 HN.out.2 HT.out.1 HT.out.2 ((HX.out.2.1.keep HB1.out).more HB1.out.size) HM.out.o HM.out.os).mono ?_
      rintro e w2 ⟨rfl, hB2⟩
      have HBX2 := Lib.hid (HBX1.out.keep hB2 HBX1.out.1)
      have HB2 := Lib.hid (HB1.out.trans (hB2.mono HB1.out.size)); clear hB2 HBX1 HB1 b0 b1 b2 b3 b4 b5
      obtain ⟨_, b0, b1, b2, b3, b4, b5⟩ := HBX2.out
      cases hO : bP (GoodLs b.n b.t (2 : Nat) (sayL b.O))
      · have HE : Hid (bP (GoodBs b.say) = false) := bP_f fun h => bP_no hO h.2.2.2.1
        clear hO
        go_wp2
        go_ret
        exact ⟨ret_b HE.out.symm, HB2.out⟩
      have HO := Lib.hid (bP_is hO); clear hO
      have hwn : IntKind.i64.wrap (b.n - 1) = b.n - 1 := by have := HN.out; rw [IntKind.wrap_i64]; omega
      have HE : Hid (bP (GoodBs b.say) = bP (GoodE b.n b.E)) := bP_congr ⟨fun h => h.2.2.2.2.1, fun h => ⟨HN.out, HT.out, HP.out, HO.out, h, (by show ((sayL b.F).length : Int) ≤ b.n; rw [HFN.out]; exact HFL.out), HNX.out⟩⟩
      go_wp2_with fail
      refine (l1Rising_any _ _ _ _ _ ((HX.out.2.2.1.keep HB2.out).more HB2.out.size) HM.out.e).mono ?_
      rintro e w3 ⟨rfl, hB3⟩
      go_wp2
      go_ret
      exact ⟨ret_b HE.out.symm, HB2.out.trans (hB3.mono HB2.out.size)⟩

end Go.Proofs.YtgnpgehekfhedaaDoor

/- The reference's l3Close. -/

namespace Go.Proofs.YtgnpgehekfhedaaDoor
open Go.RowKit

def setL (xs : List Int) : Int → Bool := fun x => xs.contains x
theorem setL_iff {xs : List Int} {x : Int} : setL xs x = true ↔ x ∈ xs := by unfold setL; rw [List.contains_iff_mem]

/-- A rising list of numbers below 40, all of them in the least set. -/
structure Inside (W : Way) (S0 : Int → Bool) (ss : List (Int × List Int)) (xs : List Int) : Prop where
  rises : Rises xs
  fit : ∀ x ∈ xs, 0 ≤ x ∧ x < 40
  sound : ∀ x ∈ xs, Least W S0 ss x
  start : ∀ x, S0 x = true → x ∈ xs
theorem Inside.len {W : Way} {S0 : Int → Bool} {ss : List (Int × List Int)} {xs : List Int} (h : Inside W S0 ss xs) : xs.length ≤ 40 :=
  len6 (S := setL xs) (h.rises.imp fun h => by omega) (fun _ hx => setL_iff.2 hx) fun x hx => h.fit x (setL_iff.1 hx)
theorem Inside.put {W : Way} {S0 : Int → Bool} {ss : List (Int × List Int)} {xs ys : List Int} (h : Inside W S0 ss xs) {n : Int} (hr : Rises ys) (hm : ∀ x, x ∈ ys ↔ x = n ∨ x ∈ xs) {r : Int × List Int} (hrs : r ∈ ss) (hf : W.fires (setL xs) r = true) (hn : n ∈ W.adds r) (h6 : 0 ≤ n ∧ n < 40) : Inside W S0 ss ys :=
  ⟨hr, fun x hx => by rcases (hm x).1 hx with rfl | h'; exact h6; exact h.fit x h', fun x hx => by
    rcases (hm x).1 hx with rfl | h'
    · exact Least.step (S := setL xs) (fun y hy => h.sound y (setL_iff.1 hy)) hrs hf hn
    · exact h.sound x h', fun x hx => (hm x).2 (.inr (h.start x hx))⟩
theorem Inside.done {W : Way} {S0 : Int → Bool} {ss : List (Int × List Int)} {xs : List Int} (h : Inside W S0 ss xs) (hc : ∀ r ∈ ss, W.fires (setL xs) r = true → ∀ y ∈ W.adds r, y ∈ xs) : IsLeast W S0 ss (setL xs) :=
  isLeast_of (fun x hx => h.sound x (setL_iff.1 hx)) (fun x hx => setL_iff.2 (h.start x hx)) fun r hr hf y hy => setL_iff.2 (hc r hr hf y hy)

def wayT (tok : Bool) : Way := match tok with
  | true => wayProd
  | false => wayNull
theorem wayT_adds (tok : Bool) (r : Int × List Int) : (wayT tok).adds r = [r.1] := by cases tok <;> rfl
/-- The reference's question to one symbol. -/
def closeP (tok : Bool) (xs : List Int) (x : Int) : Bool := (decide (x < 0) && tok) || (decide (0 ≤ x) && xs.contains x)
theorem closeP_neg {tok : Bool} {xs : List Int} {x : Int} (h : x < 0) : closeP tok xs x = tok := by
  unfold closeP
  rw [decide_eq_true h, decide_eq_false (by omega)]
  cases tok <;> rfl
theorem closeP_non {tok : Bool} {xs : List Int} {x : Int} (h : ¬ x < 0) : closeP tok xs x = xs.contains x := by
  unfold closeP
  rw [decide_eq_false h, decide_eq_true (by omega)]
  rfl
theorem fires_close {tok : Bool} {xs : List Int} (hf : ∀ x ∈ xs, 0 ≤ x ∧ x < 40) (r : Int × List Int) : (wayT tok).fires (setL xs) r = r.2.all (closeP tok xs) := by
  cases tok
  · show r.2.all (setL xs) = _
    congr 1
    funext x
    by_cases h : x < 0
    · rw [closeP_neg h]
      cases hc : setL xs x
      · rfl
      · have := hf x (setL_iff.1 hc); omega
    · rw [closeP_non h]; rfl
  · show r.2.all (tokS (setL xs)) = _
    congr 1
    funext x
    by_cases h : x < 0
    · rw [closeP_neg h, tokS_lt h]
    · rw [closeP_non h, tokS_ge h]; rfl

theorem all_take {p : Int → Bool} {xs : List Int} {k : Nat} (hk : k < xs.length) : (xs.take (k + 1)).all p = ((xs.take k).all p && p xs[k]) := by
  rw [List.take_succ_eq_append_getElem hk, List.all_append]
  simp

/-- The reference's list, new since lo. -/
def GaveV (w : World) (P : List Int → Prop) (e : Ending) (w' : World) : Prop := ∃ v ys, e = .returned v ∧ P ys ∧ OwnV w' w.heap.size v ys ∧ Below w.heap.size w w'

end Go.Proofs.YtgnpgehekfhedaaDoor

/- The reference's copy of a list, as a row that can be appended to. -/

namespace Go.Proofs.YtgnpgehekfhedaaDoor
open Go.RowKit

set_option maxRecDepth 20000 in
set_option maxHeartbeats 400000 in
theorem l1OwnW_any (A : Option Addr) (xs : List Int) (c : Nat) (w : World) (hr : Ints w w.heap.size A xs) (hn : xs.length ≤ 1048576) :
    Calls Tryd.prog 69 #[.slice A xs.length c] w fun e w' => ∃ v, e = .returned v ∧ w'.ownsRow w.heap.size 3 1 v xs.length (vals xs) ∧ Below w.heap.size w w' := by
  obtain ⟨i0, hi0, hz0, hz1, hz2⟩ := info_of Tryd.infoInt
  have hB0 : Below w.heap.size w (w.alloc (.cells #[] 3)) := by go_grown
  have HB0 := Lib.hid hB0; clear hB0
  have HR := Lib.hid (hr.keep HB0.out); clear hr
  have HE := Lib.hid (own_empty w)
  rcases A with _ | ad
  · have hx : xs = [] := by
      rcases xs with _ | ⟨x, xs⟩
      · rfl
      · obtain ⟨_, _, e, _⟩ := HR.out (by simp)
        cases e
    subst hx
    go_enter Tryd.func69, Tryd.ntmps69
    go_wp2_with (at_builtin
                 refine append_nil_at rfl (.tmp 3) (.tmp 4) _ rfl w.heap.size 3 i0 1 Tryd.underlying27 hi0 _ _ _ rfl HE.out c rfl ?_)
    go_ret
    exact ⟨_, rfl, HE.out, HB0.out⟩
  · have HN : Hid (∀ (j : Nat) (v : Value), (vals xs)[j]? = some v → (w.alloc (.cells #[] 3)).cell? (ad.add j) = some v) := fun j v hv => by
      have hp : 0 < xs.length := by have := (List.getElem?_eq_some_iff.1 hv).1; rw [vals_length] at this; omega
      obtain ⟨ad', e, h⟩ := HR.out.src hp
      injection e with e
      subst e
      exact h j v hv
    go_enter Tryd.func69, Tryd.ntmps69
    go_wp2_with (at_builtin
                 refine wpList_append_own _ rfl (.tmp 3) (.tmp 4) _ rfl w.heap.size 3 i0 _ 1 8 Tryd.underlying27 hi0 hz0 hz1 hz2 rfl (by omega) _ _ _ rfl HE.out ad xs.length c (vals xs) rfl (by rw [vals_length]; omega) HN.out (vals_one xs) (by unfold maxLen; omega) (by omega) (by simp) ?_
                 intro v' w' h1 h2 h3
                 have HO1 := Lib.hid h1
                 have HG1 := Lib.hid h2
                 clear h1 h2 h3)
    have HO2 : Hid (w'.ownsRow w.heap.size 3 1 v' xs.length (vals xs)) := by have h1 := HO1.out; rw [List.nil_append, Nat.zero_add] at h1; exact h1
    go_ret
    exact ⟨_, rfl, HO2.out, HB0.out.grown HG1.out HB0.out.size fun k hk => (HE.out.lt k hk).1⟩

end Go.Proofs.YtgnpgehekfhedaaDoor

/- The reference's BinaryNull. -/

namespace Go.Proofs.YtgnpgehekfhedaaDoor
open Go.RowKit

theorem riseI_rises {xs : List Int} (h : RiseI xs xs.length) : Rises xs := by
  have key : ∀ (j i : Nat) (x y : Int), i < j → j < xs.length → xs[i]? = some x → xs[j]? = some y → x < y := by
    intro j
    induction j with
    | zero => intro i x y h1; omega
    | succ j ih =>
      intro i x y h1 h2 hx hy
      have hz : xs[j]? = some xs[j] := List.getElem?_eq_getElem (by omega)
      have h3 : xs[j] < y := h j _ _ h2 hz hy
      by_cases e : i = j
      · subst e; rw [hz] at hx; injection hx with hx; omega
      · have := ih i x xs[j] (by omega) (by omega) hx hz
        omega
  rw [Rises, List.pairwise_iff_getElem]
  intro i j hi hj hij
  exact key j i _ _ hij hj (List.getElem?_eq_getElem hi) (List.getElem?_eq_getElem hj)

/-- What the first k lists add is there. -/
def ClosedTo (ys : List Int) (ls : List Li) (k : Nat) : Prop := ∀ (j : Nat) (u : Li), j < k → ls[j]? = some u → wayNull.fires (setL ys) (ruleOf u.r) = true → (ruleOf u.r).1 ∈ ys
theorem ClosedTo.zero (ys : List Int) (ls : List Li) : ClosedTo ys ls 0 := fun j u h => absurd h (by omega)
theorem ClosedTo.step {ys : List Int} {ls : List Li} {k : Nat} (h : ClosedTo ys ls k) {u : Li} (hu : ls[k]? = some u) (h2 : wayNull.fires (setL ys) (ruleOf u.r) = true → (ruleOf u.r).1 ∈ ys) : ClosedTo ys ls (k + 1) := fun j v hj hv hf => by
  by_cases e : j = k
  · subst e; rw [hu] at hv; injection hv with hv; subst hv; exact h2 hf
  · exact h j v (by omega) hv hf

theorem fires3 (ys : List Int) (a b c : Int) : wayNull.fires (setL ys) (ruleOf [a, b, c]) = (ys.contains b && ys.contains c) := by
  show [b, c].all (setL ys) = _
  simp [setL]
theorem fires2 (ys : List Int) (a b : Int) : wayNull.fires (setL ys) (ruleOf [a, b]) = ys.contains b := by
  show [b].all (setL ys) = _
  simp [setL]
theorem rule_memP {P O : List (List Int)} {E : List Int} {x : List Int} (h : x ∈ P) : ruleOf x ∈ bRules P O E := List.mem_append.2 (.inl (List.mem_map.2 ⟨x, List.mem_append.2 (.inl h), rfl⟩))
theorem rule_memO {P O : List (List Int)} {E : List Int} {x : List Int} (h : x ∈ O) : ruleOf x ∈ bRules P O E := List.mem_append.2 (.inl (List.mem_map.2 ⟨x, List.mem_append.2 (.inr h), rfl⟩))
theorem rule_memE {P O : List (List Int)} {E : List Int} {x : Int} (h : x ∈ E) : (x, []) ∈ bRules P O E := List.mem_append.2 (.inr (List.mem_map.2 ⟨x, h, rfl⟩))
theorem len_three {x : List Int} (h : (x.length : Int) = 3) : ∃ a b c, x = [a, b, c] := by
  rcases x with _ | ⟨a, _ | ⟨b, _ | ⟨c, _ | ⟨d, x⟩⟩⟩⟩
  · simp at h
  · simp at h
  · simp at h
  · exact ⟨a, b, c, rfl⟩
  · simp at h; omega
theorem len_two {x : List Int} (h : (x.length : Int) = 2) : ∃ a b, x = [a, b] := by
  rcases x with _ | ⟨a, _ | ⟨b, _ | ⟨c, x⟩⟩⟩
  · simp at h
  · simp at h
  · exact ⟨a, b, rfl⟩
  · simp at h; omega
theorem ints_three {w : World} {B : Nat} {A : Option Addr} {a b c : Int} (h : Ints w B A [a, b, c]) : ∃ p o, A = some ⟨p, o, none⟩ ∧ w.cell? ⟨p, o, none⟩ = some (.int .i64 a) ∧ w.cell? ⟨p, o + 1, none⟩ = some (.int .i64 b) ∧ w.cell? ⟨p, o + 2, none⟩ = some (.int .i64 c) := by
  obtain ⟨p, o, e, _, hc⟩ := h (by simp)
  exact ⟨p, o, e, hc 0 a rfl, hc 1 b rfl, hc 2 c rfl⟩
theorem ints_two {w : World} {B : Nat} {A : Option Addr} {a b : Int} (h : Ints w B A [a, b]) : ∃ p o, A = some ⟨p, o, none⟩ ∧ w.cell? ⟨p, o, none⟩ = some (.int .i64 a) ∧ w.cell? ⟨p, o + 1, none⟩ = some (.int .i64 b) := by
  obtain ⟨p, o, e, _, hc⟩ := h (by simp)
  exact ⟨p, o, e, hc 0 a rfl, hc 1 b rfl⟩

/-- The list so far: in the least set, with all that derives nothing by itself. -/
structure InN (s : Bs) (ys : List Int) : Prop where
  ins : Inside wayNull noS (bRules s.P s.O s.E) ys
  es : ∀ x ∈ s.E, x ∈ ys
theorem InN.done {b : Bi} {ys : List Int} (h : InN b.say ys) (hP : ClosedTo ys b.P b.P.length) (hO : ClosedTo ys b.O b.O.length) : IsLeast wayNull noS (bRules (sayL b.P) (sayL b.O) b.E) (setL ys) := by
  refine h.ins.done fun r hr hf y hy => ?_
  have e : y = r.1 := by simpa [wayNull] using hy
  subst e
  rcases List.mem_append.1 hr with hr | hr
  · obtain ⟨x, hx, rfl⟩ := List.mem_map.1 hr
    rcases List.mem_append.1 hx with hx | hx
    · obtain ⟨u, hu, rfl⟩ := List.mem_map.1 hx
      obtain ⟨k, hk, e⟩ := List.getElem_of_mem hu
      exact hP k u hk (by rw [← e]; exact List.getElem?_eq_getElem hk) hf
    · obtain ⟨u, hu, rfl⟩ := List.mem_map.1 hx
      obtain ⟨k, hk, e⟩ := List.getElem_of_mem hu
      exact hO k u hk (by rw [← e]; exact List.getElem?_eq_getElem hk) hf
  · obtain ⟨x, hx, rfl⟩ := List.mem_map.1 hr
    exact h.es x hx
theorem InN.put {s : Bs} (hg : GoodBs s) {xs ys : List Int} (h : InN s xs) {n : Int} (hr : Rises ys) (hm : ∀ x, x ∈ ys ↔ x = n ∨ x ∈ xs) {r : Int × List Int} (hrs : r ∈ bRules s.P s.O s.E) (hf : wayNull.fires (setL xs) r = true) (hn : r.1 = n) : InN s ys := by
  refine ⟨h.ins.put hr hm hrs hf (by show n ∈ [r.1]; rw [hn]; exact List.mem_singleton.2 rfl) (by rw [← hn]; exact goodB_lefts hg r hrs), fun x hx => (hm x).2 (.inr (h.es x hx))⟩
theorem InN.start {s : Bs} (hg : GoodBs s) : InN s s.E := by
  refine ⟨⟨riseI_rises hg.2.2.2.2.1.2, fun x hx => goodB_lefts hg (x, []) (rule_memE hx), fun x hx => Least.step (S := noS) (fun y hy => by cases hy) (rule_memE hx) rfl (by show x ∈ [x]; exact List.mem_singleton.2 rfl), fun x hx => by cases hx⟩, fun x hx => hx⟩

set_option maxRecDepth 20000 in
set_option maxHeartbeats 2000000 in
theorem l5Null_any (b : Bi) (w : World) (hx : ReadB w w.heap.size b) (hm : LenB 1048576 b) (hg : GoodBs b.say) :
    Calls Tryd.prog 127 #[(.agg #[.int .i64 b.n, .int .i64 b.t, .slice b.Ap b.P.length b.cp, .slice b.Ao b.O.length b.co, .slice b.Ae b.E.length b.ce, .slice b.Af b.F.length b.cf])] w (GaveV w fun ys => Rises ys ∧ (∀ x ∈ ys, 0 ≤ x ∧ x < 40) ∧ IsLeast wayNull noS (bRules (sayL b.P) (sayL b.O) b.E) (setL ys)) := by
  have HX := Lib.hid hx; clear hx
  have hpl := hm.p
  have hol := hm.o
  have hel := hm.e
  clear hm
  have HG := Lib.hid hg; clear hg
  have HB0 : Hid (Below w.heap.size w (w.alloc (.cells #[.int .i64 b.n, .int .i64 b.t, .slice b.Ap b.P.length b.cp, .slice b.Ao b.O.length b.co, .slice b.Ae b.E.length b.ce, .slice b.Af b.F.length b.cf] 29))) := by show Below _ _ _; go_grown
  have B0 := Lib.hid (Box6.new w b 29)
  have HI0 : Hid (InN b.say b.E) := InN.start HG.out
  go_enter Tryd.func127, Tryd.ntmps127
  go_wp2_with fail
  generalize (w.alloc (.cells #[.int .i64 b.n, .int .i64 b.t, .slice b.Ap b.P.length b.cp, .slice b.Ao b.O.length b.co, .slice b.Ae b.E.length b.ce, .slice b.Af b.F.length b.cf] 29)) = X at *
  have hXs := B0.out.1
  refine (l1OwnW_any _ _ _ _ ((HX.out.2.2.1.keep HB0.out).more HB0.out.size) hel).mono ?_
  rintro e w1 ⟨v1, rfl, hO1, hB1⟩
  have HV1 : Hid (OwnV w1 w.heap.size v1 b.E) := OwnV.lower (lo := X.heap.size) hO1 HB0.out.size
  have HB1 := Lib.hid hB1
  have hE40 := HI0.out.ins.len
  clear hO1 hB1
  go_wp2
  go_loopg [3, 4] (2 * (40 - b.E.length) + 1) (fun g v m wr => ∃ (more : Bool) (xs : List Int), m = .bool more ∧ g + 2 * xs.length = 80 + (if more then 1 else 0) ∧ Hid (OwnV wr w.heap.size v xs) ∧ Hid (InN b.say xs) ∧ Hid (Below X.heap.size X wr) ∧ Hid (more = false → ClosedTo xs b.P b.P.length ∧ ClosedTo xs b.O b.O.length))
  case atStart => exact ⟨true, b.E, rfl, by simp; omega, HV1.out, HI0.out, HB1.out, fun h => by cases h⟩
  case round =>
    clear HV1 HB1 HI0
    obtain ⟨more, xs, rfl, hgk, HV, HI, HB, HC⟩ := hrel
    have hl40 := HI.out.ins.len
    cases more
    · have HD := Lib.hid (HI.out.done (HC.out rfl).1 (HC.out rfl).2)
      have HW : Hid (Below w.heap.size w wr) := HB0.out.trans (HB.out.mono HB0.out.size)
      go_wp2
      go_ret
      exact ⟨_, xs, rfl, ⟨HI.out.ins.rises, HI.out.ins.fit, HD.out⟩, HV.out, HW.out⟩
    · rw [if_pos rfl] at hgk
      clear HC
      obtain ⟨wO, hwO⟩ : ∃ x, x = wr := ⟨_, rfl⟩
      subst hwO
      obtain ⟨_, b0, b1, b2, b3, b4, b5⟩ := B0.out.keep HB.out hXs
      go_wp2
      clear b0 b1 b2 b3 b4 b5
      go_loopw [3, 4, 16] (fun v m i wr => ∃ (k : Nat) (more : Bool) (ys : List Int), k ≤ b.P.length ∧ i = .int .i64 k ∧ m = .bool more ∧ Hid (OwnV wr w.heap.size v ys) ∧ Hid (InN b.say ys) ∧ Hid (Below X.heap.size X wr) ∧ Hid (more = true → xs.length < ys.length) ∧ Hid (more = false → ys = xs ∧ ClosedTo ys b.P k)) (fun _ _ i _ => b.P.length - (intOf i).toNat)
      case atStart => exact ⟨0, false, xs, by omega, rfl, rfl, HV.out, HI.out, HB.out, fun h => (by cases h), fun _ => ⟨rfl, ClosedTo.zero _ _⟩⟩
      case round =>
        clear HV HB
        obtain ⟨k, more, ys, hk, rfl, rfl, HV2, HI2, HB2, HM2, HC2⟩ := hrel
        have HW2 : Hid (Below w.heap.size w wr) := HB0.out.trans (HB2.out.mono HB0.out.size)
        have hy40 := HI2.out.ins.len
        by_cases hlt : k < b.P.length
        · obtain ⟨p, o, hA, hp, c1, c2, c3⟩ := ((HX.out.1.keep HW2.out).more HW2.out.size).at_ hlt
          have hmem := sayL_mem (List.getElem_mem hlt)
          have HRM := Lib.hid (rule_memP (O := sayL b.O) (E := b.E) hmem)
          obtain ⟨y0, y1, y2, hy⟩ := len_three (long_mem HG.out.2.2.1.1 hmem)
          have HUK := Lib.hid (List.getElem?_eq_getElem hlt)
          generalize b.P[k] = u at c1 c2 c3 hy HUK HRM
          clear hmem
          obtain ⟨ua, ur, uc⟩ := u
          dsimp only at c1 c2 c3 hy HRM
          subst hy
          obtain ⟨q, oo, rfl, e0, e1, e2⟩ := ints_three c3
          have c1' : wr.cell? ⟨p, o + k, none⟩ = some (.slice (some ⟨q, oo, none⟩) 3 uc) := c1
          clear c1 c3 c2
          obtain ⟨Av, cv, hvv, hcv, hIv⟩ := HV2.out.shape
          subst hvv
          have HIV := Lib.hid hIv; clear hIv
          have HF3 := Lib.hid (fires3 ys y0 y1 y2)
          have HN0 : Hid (ys.contains y0 = true → y0 ∈ ys) := fun h => List.contains_iff_mem.1 h
          have HN1 : Hid (y0 ∈ ys → ys.contains y0 = true) := fun h => List.contains_iff_mem.2 h
          have HH0 := Lib.hid (l1Has6_any Av ys cv y0 wr HIV.out hy40)
          have HH1 := Lib.hid (l1Has6_any Av ys cv y1 wr HIV.out hy40)
          have HH2 := Lib.hid (l1Has6_any Av ys cv y2 wr HIV.out hy40)
          generalize ys.contains y0 = h0 at HH0 HN0 HN1
          generalize ys.contains y1 = h1 at HH1 HF3
          generalize ys.contains y2 = h2 at HH2 HF3
          rw [hA]
          cases h0
          case' true =>
            have HNX : Hid (more = false → ys = xs ∧ ClosedTo ys b.P (k + 1)) := fun h => ⟨(HC2.out h).1, (HC2.out h).2.step HUK.out fun _ => HN0.out rfl⟩
            go_wp2_with fail
            refine HH0.out.mono ?_
            rintro e w2 ⟨rfl, rfl⟩
            go_wp2
            go_roundw
            case rel => exact ⟨k + 1, more, ys, by omega, by go_num, rfl, HV2.out, HI2.out, HB2.out, HM2.out, HNX.out⟩
            case measure => simp [intOf]; omega
          case' false =>
            cases h1
            case' false =>
              have HNX : Hid (more = false → ys = xs ∧ ClosedTo ys b.P (k + 1)) := fun h => ⟨(HC2.out h).1, (HC2.out h).2.step HUK.out fun hf => by rw [HF3.out] at hf; cases hf⟩
              go_wp2_with fail
              refine HH0.out.mono ?_
              rintro e w2 ⟨rfl, rfl⟩
              go_wp2_with fail
              refine HH1.out.mono ?_
              rintro e w2 ⟨rfl, rfl⟩
              go_wp2
              go_roundw
              case rel => exact ⟨k + 1, more, ys, by omega, by go_num, rfl, HV2.out, HI2.out, HB2.out, HM2.out, HNX.out⟩
              case measure => simp [intOf]; omega
            case' true =>
              cases h2
              case' false =>
                have HNX : Hid (more = false → ys = xs ∧ ClosedTo ys b.P (k + 1)) := fun h => ⟨(HC2.out h).1, (HC2.out h).2.step HUK.out fun hf => by rw [HF3.out] at hf; cases hf⟩
                go_wp2_with fail
                refine HH0.out.mono ?_
                rintro e w2 ⟨rfl, rfl⟩
                go_wp2_with fail
                refine HH1.out.mono ?_
                rintro e w2 ⟨rfl, rfl⟩
                go_wp2_with fail
                refine HH2.out.mono ?_
                rintro e w2 ⟨rfl, rfl⟩
                go_wp2
                go_roundw
                case rel => exact ⟨k + 1, more, ys, by omega, by go_num, rfl, HV2.out, HI2.out, HB2.out, HM2.out, HNX.out⟩
                case measure => simp [intOf]; omega
              case' true =>
                have hn : y0 ∉ ys := fun hm => by have := HN1.out hm; cases this
                have HPC := Lib.hid (l1Put_any w.heap.size _ ys y0 wr HV2.out HI2.out.ins.rises hn hy40)
                clear hn
                go_wp2_with fail
                refine HH0.out.mono ?_
                rintro e w2 ⟨rfl, rfl⟩
                go_wp2_with fail
                refine HH1.out.mono ?_
                rintro e w2 ⟨rfl, rfl⟩
                go_wp2_with fail
                refine HH2.out.mono ?_
                rintro e w2 ⟨rfl, rfl⟩
                go_wp2_with fail
                refine HPC.out.mono ?_
                rintro e w2 ⟨v2, zs, rfl, hz1, hz2, hz3, hz4, hz5⟩
                have HIZ : Hid (InN b.say zs) := InN.put HG.out HI2.out hz1 hz2 HRM.out HF3.out rfl
                have HVZ := Lib.hid (hz4.lower (lo' := w.heap.size) HW2.out.size)
                have HBZ : Hid (Below X.heap.size X w2) := HB2.out.trans (hz5.mono HB2.out.size)
                have HLZ : Hid (xs.length < zs.length) := by
                  show _ < _
                  cases more
                  · rw [← (HC2.out rfl).1]; omega
                  · have := HM2.out rfl; omega
                clear hz1 hz2 hz3 hz4 hz5
                go_wp2
                go_roundw
                case rel => exact ⟨k + 1, true, zs, by omega, by go_num, rfl, HVZ.out, HIZ.out, HBZ.out, fun _ => HLZ.out, fun h => by cases h⟩
                case measure => simp [intOf]; omega
        · obtain rfl : k = b.P.length := by omega
          obtain ⟨wQ, hwQ⟩ : ∃ x, x = wr := ⟨_, rfl⟩
          subst hwQ
          obtain ⟨_, b0, b1, b2, b3, b4, b5⟩ := B0.out.keep HB2.out hXs
          go_wp2
          clear b0 b1 b2 b3 b4 b5
          go_loopw [3, 4, 49] (fun v m i wr => ∃ (k : Nat) (more : Bool) (ys : List Int), k ≤ b.O.length ∧ i = .int .i64 k ∧ m = .bool more ∧ Hid (OwnV wr w.heap.size v ys) ∧ Hid (InN b.say ys) ∧ Hid (Below X.heap.size X wr) ∧ Hid (more = true → xs.length < ys.length) ∧ Hid (more = false → ys = xs ∧ ClosedTo ys b.P b.P.length ∧ ClosedTo ys b.O k)) (fun _ _ i _ => b.O.length - (intOf i).toNat)
          case atStart => exact ⟨0, more, ys, by omega, rfl, rfl, HV2.out, HI2.out, HB2.out, HM2.out, fun h => ⟨(HC2.out h).1, (HC2.out h).2, ClosedTo.zero _ _⟩⟩
          case round =>
            clear HV2 HB2 HM2 HC2 HI2 hy40 HW2
            obtain ⟨k, more, ys, hk, rfl, rfl, HV2, HI2, HB2, HM2, HC2⟩ := hrel
            have HW2 : Hid (Below w.heap.size w wr) := HB0.out.trans (HB2.out.mono HB0.out.size)
            have hy40 := HI2.out.ins.len
            by_cases hlt : k < b.O.length
            · obtain ⟨p, o, hA, hp, c1, c2, c3⟩ := ((HX.out.2.1.keep HW2.out).more HW2.out.size).at_ hlt
              have hmem := sayL_mem (List.getElem_mem hlt)
              have HRM := Lib.hid (rule_memO (P := sayL b.P) (E := b.E) hmem)
              obtain ⟨y0, y1, hy⟩ := len_two (long_mem HG.out.2.2.2.1.1 hmem)
              have HUK := Lib.hid (List.getElem?_eq_getElem hlt)
              generalize b.O[k] = u at c1 c2 c3 hy HUK HRM
              clear hmem
              obtain ⟨ua, ur, uc⟩ := u
              dsimp only at c1 c2 c3 hy HRM
              subst hy
              obtain ⟨q, oo, rfl, e0, e1⟩ := ints_two c3
              have c1' : wr.cell? ⟨p, o + k, none⟩ = some (.slice (some ⟨q, oo, none⟩) 2 uc) := c1
              clear c1 c3 c2
              obtain ⟨Av, cv, hvv, hcv, hIv⟩ := HV2.out.shape
              subst hvv
              have HIV := Lib.hid hIv; clear hIv
              have HF2 := Lib.hid (fires2 ys y0 y1)
              have HN0 : Hid (ys.contains y0 = true → y0 ∈ ys) := fun h => List.contains_iff_mem.1 h
              have HN1 : Hid (y0 ∈ ys → ys.contains y0 = true) := fun h => List.contains_iff_mem.2 h
              have HH0 := Lib.hid (l1Has6_any Av ys cv y0 wr HIV.out hy40)
              have HH1 := Lib.hid (l1Has6_any Av ys cv y1 wr HIV.out hy40)
              generalize ys.contains y0 = h0 at HH0 HN0 HN1
              generalize ys.contains y1 = h1 at HH1 HF2
              rw [hA]
              cases h0
              case' true =>
                have HNX : Hid (more = false → ys = xs ∧ ClosedTo ys b.P b.P.length ∧ ClosedTo ys b.O (k + 1)) := fun h => ⟨(HC2.out h).1, (HC2.out h).2.1, (HC2.out h).2.2.step HUK.out fun _ => HN0.out rfl⟩
                go_wp2_with fail
                refine HH0.out.mono ?_
                rintro e w2 ⟨rfl, rfl⟩
                go_wp2
                go_roundw
                case rel => exact ⟨k + 1, more, ys, by omega, by go_num, rfl, HV2.out, HI2.out, HB2.out, HM2.out, HNX.out⟩
                case measure => simp [intOf]; omega
              case' false =>
                cases h1
                case' false =>
                  have HNX : Hid (more = false → ys = xs ∧ ClosedTo ys b.P b.P.length ∧ ClosedTo ys b.O (k + 1)) := fun h => ⟨(HC2.out h).1, (HC2.out h).2.1, (HC2.out h).2.2.step HUK.out fun hf => by rw [HF2.out] at hf; cases hf⟩
                  go_wp2_with fail
                  refine HH0.out.mono ?_
                  rintro e w2 ⟨rfl, rfl⟩
                  go_wp2_with fail
                  refine HH1.out.mono ?_
                  rintro e w2 ⟨rfl, rfl⟩
                  go_wp2
                  go_roundw
                  case rel => exact ⟨k + 1, more, ys, by omega, by go_num, rfl, HV2.out, HI2.out, HB2.out, HM2.out, HNX.out⟩
                  case measure => simp [intOf]; omega
                case' true =>
                  have hn : y0 ∉ ys := fun hm => by have := HN1.out hm; cases this
                  have HPC := Lib.hid (l1Put_any w.heap.size _ ys y0 wr HV2.out HI2.out.ins.rises hn hy40)
                  clear hn
                  go_wp2_with fail
                  refine HH0.out.mono ?_
                  rintro e w2 ⟨rfl, rfl⟩
                  go_wp2_with fail
                  refine HH1.out.mono ?_
                  rintro e w2 ⟨rfl, rfl⟩
                  go_wp2_with fail
                  refine HPC.out.mono ?_
                  rintro e w2 ⟨v2, zs, rfl, hz1, hz2, hz3, hz4, hz5⟩
                  have HIZ : Hid (InN b.say zs) := InN.put HG.out HI2.out hz1 hz2 HRM.out HF2.out rfl
                  have HVZ := Lib.hid (hz4.lower (lo' := w.heap.size) HW2.out.size)
                  have HBZ : Hid (Below X.heap.size X w2) := HB2.out.trans (hz5.mono HB2.out.size)
                  have HLZ : Hid (xs.length < zs.length) := by
                    show _ < _
                    cases more
                    · rw [← (HC2.out rfl).1]; omega
                    · have := HM2.out rfl; omega
                  clear hz1 hz2 hz3 hz4 hz5
                  go_wp2
                  go_roundw
                  case rel => exact ⟨k + 1, true, zs, by omega, by go_num, rfl, HVZ.out, HIZ.out, HBZ.out, fun _ => HLZ.out, fun h => by cases h⟩
                  case measure => simp [intOf]; omega
            · obtain rfl : k = b.O.length := by omega
              go_wp2
              go_roundg (80 + (if more then 1 else 0) - 2 * ys.length)
              case measure =>
                cases more
                · rw [(HC2.out rfl).1]
                  simp
                  omega
                · have := HM2.out rfl
                  simp
                  omega
              case rel =>
                refine ⟨more, ys, rfl, by omega, HV2.out, HI2.out, HB2.out, fun h => ⟨(HC2.out h).2.1, (HC2.out h).2.2⟩⟩


end Go.Proofs.YtgnpgehekfhedaaDoor

/- The program's table of what stands directly for each symbol. -/

namespace Go.Proofs.YtgnpgehekfhedaaDoor
open Go.RowKit

/-- A table of rows, as the cells of an array. -/
def tabA (T : Int → Int → Bool) : Array Value := (rowsL ((List.range 44).map fun (m : Nat) => T ((m : Int) - 4))).toArray
theorem tabA_size (T : Int → Int → Bool) : (tabA T).size = 1760 := by simp [tabA, rowsL_len]
theorem tabA_at (T : Int → Int → Bool) {m j : Nat} (hm : m < 44) (hj : j < 40) : (tabA T)[m * 40 + j]? = some (.bool (T ((m : Int) - 4) j)) := by
  have h : ((List.range 44).map fun (m : Nat) => T ((m : Int) - 4))[m]? = some (T ((m : Int) - 4)) := by simp [hm]
  have := rowsL_at h (rowA_at _ hj)
  simpa [tabA] using this
theorem tabA_none (T : Int → Int → Bool) {i : Nat} (h : ¬ i < 1760) : (tabA T)[i]? = none := Array.getElem?_eq_none (by rw [tabA_size]; omega)
theorem tabA_ext {T U : Int → Int → Bool} (h : ∀ x l, T x l = U x l) : tabA T = tabA U := by
  rw [show T = U from funext fun x => funext fun l => h x l]
theorem tabA_set (T : Int → Int → Bool) {m j : Nat} (hm : m < 44) (hj : j < 40) : (tabA T).setIfInBounds (m * 40 + j) (.bool true) = tabA fun x l => if x = (m : Int) - 4 ∧ l = (j : Int) then true else T x l := by
  generalize hU : (fun x l => if x = (m : Int) - 4 ∧ l = (j : Int) then true else T x l) = U
  apply Array.ext_getElem?
  intro i
  rw [Array.getElem?_setIfInBounds]
  by_cases hi : i < 1760
  · obtain ⟨p, q, hp, hq, rfl⟩ : ∃ p q : Nat, p < 44 ∧ q < 40 ∧ i = p * 40 + q := ⟨i / 40, i % 40, by omega, by omega, by omega⟩
    rw [tabA_at U hp hq, ← hU, tabA_at T hp hq, tabA_size]
    show _ = some (Value.bool (if (p : Int) - 4 = (m : Int) - 4 ∧ (q : Int) = (j : Int) then true else T ((p : Int) - 4) q))
    by_cases e : m * 40 + j = p * 40 + q
    · rw [if_pos e, if_pos (by omega), if_pos (by omega)]
    · rw [if_neg e, if_neg (by omega)]
  · rw [tabA_none T hi, tabA_none U hi]
    by_cases e : m * 40 + j = i
    · omega
    · rw [if_neg e]
theorem Row.tab {w : World} {K : Nat} {t : TypeId} {T : Int → Int → Bool} (h : Row w K t (tabA T)) : TabC w K T := by
  refine ⟨h.lt, fun m x hm hx j v hj => ?_⟩
  have hj40 : j < 40 := by have := (Array.getElem?_eq_some_iff.1 hj).1; rw [rowA_size] at this; exact this
  rw [rowA_at _ hj40] at hj
  rw [h.cell, tabA_at T hm hj40, show (m : Int) - 4 = x by omega]
  exact hj
theorem tabA_all (T : Int → Int → Bool) : (tabA T).all (·.oneCell') = true := by
  rw [Array.all_eq_true_iff_forall_mem]
  intro v hv
  simp only [tabA, List.mem_toArray, rowsL, List.mem_flatMap] at hv
  obtain ⟨S, _, hv⟩ := hv
  exact rowA_one S v hv

theorem info_tab : (Tryd.prog.info? 99).map (fun i => (i.zero, i.size)) = some (some (.agg (tabA fun _ _ => false)), 1760) := by kernel_rfl
theorem size_tab (T : Int → Int → Bool) : (Tryd.prog.info? 99).map (·.size) = some (tabA T).size := by rw [tabA_size]; kernel_rfl

/-- A relation as a table. -/
noncomputable def tabF (D : Int → Int → Prop) : Int → Int → Bool := fun x l => bP (D l x)
theorem tabF_set {D E : Int → Int → Prop} {x0 l0 : Int} (h : ∀ l x, E l x ↔ (x = x0 ∧ l = l0) ∨ D l x) : (fun x l => if x = x0 ∧ l = l0 then true else tabF D x l) = tabF E := by
  funext x l
  unfold tabF
  rw [bP_congr (h l x)]
  by_cases e : x = x0 ∧ l = l0
  · rw [if_pos e, bP_t (.inl e)]
  · rw [if_neg e]
    exact bP_congr ⟨fun hd => .inr hd, fun hd => hd.resolve_left e⟩

/-- What the first k Ones say. -/
def D1 (O : List (List Int)) (k : Nat) : Int → Int → Prop := fun l x => ∃ j : Nat, j < k ∧ O[j]? = some [l, x]
theorem D1_step {O : List (List Int)} {k : Nat} {l0 x0 : Int} (h : O[k]? = some [l0, x0]) (l x : Int) : D1 O (k + 1) l x ↔ (x = x0 ∧ l = l0) ∨ D1 O k l x := by
  constructor
  · rintro ⟨j, hj, e⟩
    by_cases ej : j = k
    · subst ej
      rw [h] at e
      simp at e
      exact .inl ⟨e.2.symm, e.1.symm⟩
    · exact .inr ⟨j, by omega, e⟩
  · rintro (⟨rfl, rfl⟩ | ⟨j, hj, e⟩)
    · exact ⟨k, by omega, h⟩
    · exact ⟨j, by omega, e⟩
/-- What all Ones and the first k Pairs say. -/
def D2 (N : Int → Bool) (P O : List (List Int)) (k : Nat) : Int → Int → Prop := fun l x => [l, x] ∈ O ∨ ∃ (j : Nat) (y : Int), j < k ∧ ((P[j]? = some [l, x, y] ∧ N y = true) ∨ (P[j]? = some [l, y, x] ∧ N y = true))
theorem D2_zero {N : Int → Bool} {P O : List (List Int)} : tabF (D1 O O.length) = tabF (D2 N P O 0) := by
  funext x l
  refine bP_congr ⟨fun ⟨j, _, e⟩ => .inl (List.mem_of_getElem? e), fun h => ?_⟩
  rcases h with h | ⟨j, y, hj, _⟩
  · obtain ⟨j, e⟩ := List.mem_iff_getElem?.1 h
    exact ⟨j, (List.getElem?_eq_some_iff.1 e).1, e⟩
  · omega
theorem D2_step {N : Int → Bool} {P O : List (List Int)} {k : Nat} {l0 y0 z0 : Int} (h : P[k]? = some [l0, y0, z0]) (l x : Int) :
    D2 N P O (k + 1) l x ↔ ((x = y0 ∧ l = l0 ∧ N z0 = true) ∨ (x = z0 ∧ l = l0 ∧ N y0 = true)) ∨ D2 N P O k l x := by
  constructor
  · rintro (h1 | ⟨j, y, hj, e⟩)
    · exact .inr (.inl h1)
    · by_cases ej : j = k
      · subst ej
        rw [h] at e
        simp at e
        rcases e with ⟨⟨rfl, rfl, rfl⟩, hn⟩ | ⟨⟨rfl, rfl, rfl⟩, hn⟩
        · exact .inl (.inl ⟨rfl, rfl, hn⟩)
        · exact .inl (.inr ⟨rfl, rfl, hn⟩)
      · exact .inr (.inr ⟨j, y, by omega, e⟩)
  · rintro ((⟨rfl, rfl, hn⟩ | ⟨rfl, rfl, hn⟩) | h1 | ⟨j, y, hj, e⟩)
    · exact .inr ⟨k, z0, by omega, .inl ⟨h, hn⟩⟩
    · exact .inr ⟨k, y0, by omega, .inr ⟨h, hn⟩⟩
    · exact .inl h1
    · exact .inr ⟨j, y, by omega, e⟩
theorem D2_end {N : Int → Bool} {P O : List (List Int)} : tabF (D2 N P O P.length) = tabF (DirB N P O) := by
  funext x l
  refine bP_congr ⟨fun h => ?_, fun h => ?_⟩
  · rcases h with h | ⟨j, y, hj, ⟨e, hn⟩ | ⟨e, hn⟩⟩
    · exact .inl h
    · exact .inr (.inl ⟨y, List.mem_of_getElem? e, hn⟩)
    · exact .inr (.inr ⟨y, List.mem_of_getElem? e, hn⟩)
  · rcases h with h | ⟨y, h, hn⟩ | ⟨y, h, hn⟩
    · exact .inl h
    · obtain ⟨j, e⟩ := List.mem_iff_getElem?.1 h
      exact .inr ⟨j, y, (List.getElem?_eq_some_iff.1 e).1, .inl ⟨e, hn⟩⟩
    · obtain ⟨j, e⟩ := List.mem_iff_getElem?.1 h
      exact .inr ⟨j, y, (List.getElem?_eq_some_iff.1 e).1, .inr ⟨e, hn⟩⟩

/-- Symbols of a good binary grammar have a row in the table. -/
theorem sym_row {n t x : Int} (h : symB n t x = true) (hn : n ≤ 40) (ht : t ≤ 4) : ∃ m : Nat, m < 44 ∧ 4 + x = (m : Int) := by
  have h := of_decide_eq_true h
  exact ⟨(4 + x).toNat, by omega, by omega⟩
theorem non_row {n x : Int} (h : nonB n x = true) (hn : n ≤ 40) : ∃ m : Nat, m < 40 ∧ x = (m : Int) := by
  have h := nonB_is h
  exact ⟨x.toNat, by omega, by omega⟩
theorem good_one {s : Bs} (h : GoodBs s) {k : Nat} {r : List Int} (hr : s.O[k]? = some r) : ∃ l x, r = [l, x] ∧ nonB s.n l = true ∧ symB s.n s.t x = true := by
  have hk := (List.getElem?_eq_some_iff.1 hr).1
  obtain ⟨l, x, e⟩ := len_two (h.2.2.2.1.1 k r hk hr)
  subst e
  have h2 := h.2.2.2.1.2.1 k _ hk hr
  exact ⟨l, x, rfl, h2.1, by have := h2.2; simpa [symsB] using this⟩
theorem good_pair {s : Bs} (h : GoodBs s) {k : Nat} {r : List Int} (hr : s.P[k]? = some r) : ∃ l y z, r = [l, y, z] ∧ nonB s.n l = true ∧ symB s.n s.t y = true ∧ symB s.n s.t z = true := by
  have hk := (List.getElem?_eq_some_iff.1 hr).1
  obtain ⟨l, y, z, e⟩ := len_three (h.2.2.1.1 k r hk hr)
  subst e
  have h2 := h.2.2.1.2.1 k _ hk hr
  have h3 : symB s.n s.t y = true ∧ symB s.n s.t z = true := by have := h2.2; simpa [symsB] using this
  exact ⟨l, y, z, rfl, h2.1, h3.1, h3.2⟩

end Go.Proofs.YtgnpgehekfhedaaDoor
