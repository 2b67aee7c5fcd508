/- What the laws' counter, copy, comparison and marks answer of a list of steps. -/
import Derived.Test.YtfbpcdmpkbjifaaDoorWA02
import Derived.Test.YtfbpcdmpkbjifaaDoorWA01
import Derived.Test.YtfbpcdmpkbjifaaDoorWA04
import Derived.Lib.QuietBelow
import Derived.Test.YtfbpcdmpkbjifaaDoorWA03

namespace Go.Proofs.YtfbpcdmpkbjifaaDoor
open Go.RowKit

theorem Tryd.infoDone : (Tryd.prog.info? 88).map (fun i => (i.zero, i.size, i.bytes)) = some (some (.agg #[.int .i64 0, .int .i64 0, .int .i64 0, .int .i64 0]), 4, 32) := by kernel_rfl

def zD (n : Nat) : Array Value := madeCells #[.int .i64 0, .int .i64 0, .int .i64 0, .int .i64 0] (n * 4)
theorem zD_size (n : Nat) : (zD n).size = n * 4 := size_madeCells _ _

theorem make_dones (n : Nat) (hn : n ≤ 1048576) (w : World) :
    (Instr.makeSlice 35 (.int .i64 (n : Int)) (.int .i64 (n : Int))).run Tryd.prog w = .ok (.slice (some ⟨w.heap.size, 0, none⟩) n n) (w.alloc (.cells (zD n) 88)) := by
  obtain ⟨i, hi, hz, hs, hb⟩ := info_of Tryd.infoDone
  have h := run_make (P := Tryd.prog) w 35 88 i _ Tryd.underlying35 hi hz .i64 .i64 n n (by omega) (by omega) (by rw [hb]; omega) (by omega)
  rw [hs] at h
  simpa [zD, Value.cells] using h

set_option maxHeartbeats 400000 in
theorem szDoneS_any (A : Option Addr) (n c : Nat) (L : Int) (w : World) (hn : n ≤ maxLen) (h0 : 0 ≤ L) (h1 : L ≤ 1048576) :
    Calls Tryd.prog 19 #[.slice A n c, .int .i64 L] w fun e w' => e = .returned (.int .i64 (szI n L)) ∧ w = w' := by
  unfold maxLen at hn
  by_cases h : L - n < 0
  · have hs : Hid (szI n L = -1) := by show szI n L = -1; unfold szI; rw [if_pos h]
    go_enter Tryd.func19, Tryd.ntmps19
    go_wp2
    go_ret
    exact ⟨by rw [hs.out]; rfl, rfl⟩
  · have hs : Hid (szI n L = L - n) := by show szI n L = L - n; unfold szI; rw [if_neg h]
    go_enter Tryd.func19, Tryd.ntmps19
    go_wp2
    go_ret
    exact ⟨by rw [hs.out]; rfl, rfl⟩

set_option maxHeartbeats 400000 in
theorem toDone_any (h k f t : Int) (w : World) :
    Calls Tryd.prog 72 #[.agg #[.int .i64 h, .int .i64 k, .int .i64 f, .int .i64 t]] w fun e w' => e = .returned (.agg #[.int .i64 h, .int .i64 k, .int .i64 f, .int .i64 t]) ∧ Below w.heap.size w w' := by
  go_enter Tryd.func72, Tryd.ntmps72
  go_wp2
  refine bodyPost_ret (v := .agg #[.int .i64 h, .int .i64 k, .int .i64 f, .int .i64 t]) (by simp [results, Tryd.results72, go_sem]) rfl ⟨rfl, ?_⟩
  go_grown

theorem copied4 {ds : List Dn} {cs : Array Value} {k : Nat} (hlt : k < ds.length) (hs : cs.size = ds.length * 4) (h : ∀ (j : Nat) (x : Int), j < k * 4 → (flatD ds)[j]? = some x → cs[j]? = some (.int .i64 x)) :
    ∀ (j : Nat) (x : Int), j < (k + 1) * 4 → (flatD ds)[j]? = some x → ((((cs.setIfInBounds (k * 4) (.int .i64 ds[k].h)).setIfInBounds (k * 4 + 1) (.int .i64 ds[k].k)).setIfInBounds (k * 4 + 2) (.int .i64 ds[k].f)).setIfInBounds (k * 4 + 3) (.int .i64 ds[k].t))[j]? = some (.int .i64 x) := by
  intro j x hj hx
  obtain ⟨h0, h1, h2, h3⟩ := flatD_at hlt
  simp only [Array.getElem?_setIfInBounds, Array.size_setIfInBounds]
  by_cases e3 : k * 4 + 3 = j
  · subst e3; rw [h3] at hx; rw [if_pos rfl, if_pos (by omega)]; simpa using hx
  rw [if_neg e3]
  by_cases e2 : k * 4 + 2 = j
  · subst e2; rw [h2] at hx; rw [if_pos rfl, if_pos (by omega)]; simpa using hx
  rw [if_neg e2]
  by_cases e1 : k * 4 + 1 = j
  · subst e1; rw [h1] at hx; rw [if_pos rfl, if_pos (by omega)]; simpa using hx
  rw [if_neg e1]
  by_cases e0 : k * 4 = j
  · subst e0; rw [h0] at hx; rw [if_pos rfl, if_pos (by omega)]; simpa using hx
  rw [if_neg e0]
  exact h j x (by omega) hx

/-- A new slice of steps that reads as ds; nothing older has turned. -/
def GaveD (w : World) (ds : List Dn) (e : Ending) (w' : World) : Prop :=
  ∃ A c, e = .returned (.slice A ds.length c) ∧ ds.length ≤ c ∧ OwnD w' w.heap.size A ds ∧ Below w.heap.size w w'

set_option maxHeartbeats 1000000 in
theorem toDoneS_any (A : Option Addr) (ds : List Dn) (c : Nat) (w : World) (hr : Dos w w.heap.size A ds) (hn : ds.length ≤ 1048576) :
    Calls Tryd.prog 21 #[.slice A ds.length c] w (GaveD w ds) := by
  have hmk := make_dones ds.length hn
  have HR := Lib.hid hr; clear hr
  go_enter Tryd.func21, Tryd.ntmps21
  go_wp2
  go_loopw [4] (fun i wr => ∃ (k : Nat) (cs : Array Value), k ≤ ds.length ∧ i = .int .i64 k ∧ w.heap.size < wr.heap.size ∧ Below w.heap.size w wr ∧ Hid (Row wr w.heap.size 88 cs ∧ cs.size = ds.length * 4 ∧ ∀ (j : Nat) (x : Int), j < k * 4 → (flatD ds)[j]? = some x → cs[j]? = some (.int .i64 x))) (fun i _ => ds.length - (intOf i).toNat)
  case atStart => exact ⟨0, zD ds.length, by omega, rfl, by simp, (Below.refl _ _).alloc (Nat.le_refl _) _, Row.new _ _ _, zD_size _, fun j x h => absurd h (by omega)⟩
  case round =>
    obtain ⟨k, cs, hk, rfl, hsz, hB, H⟩ := hrel
    clear hmk
    by_cases hlt : k < ds.length
    · obtain ⟨b, o, rfl, hb, c0, c1, c2, c3⟩ := (HR.out.keep hB).at_ hlt
      go_wp2_with fail
      refine (toDone_any _ _ _ _ _).mono ?_
      rintro e w1 ⟨rfl, hB1⟩
      have hr1 := H.out.1.below hB1 hsz
      have hcz := H.out.2.1
      obtain ⟨x0, d0⟩ : ∃ x0, w1.cell? ⟨w.heap.size, k * 4, none⟩ = some x0 := ⟨_, (hr1.cell (k * 4)).trans (Array.getElem?_eq_getElem (by omega))⟩
      obtain ⟨x1, d1⟩ : ∃ x1, w1.cell? ⟨w.heap.size, k * 4 + 1, none⟩ = some x1 := ⟨_, (hr1.cell (k * 4 + 1)).trans (Array.getElem?_eq_getElem (by omega))⟩
      obtain ⟨x2, d2⟩ : ∃ x2, w1.cell? ⟨w.heap.size, k * 4 + 2, none⟩ = some x2 := ⟨_, (hr1.cell (k * 4 + 2)).trans (Array.getElem?_eq_getElem (by omega))⟩
      obtain ⟨x3, d3⟩ : ∃ x3, w1.cell? ⟨w.heap.size, k * 4 + 3, none⟩ = some x3 := ⟨_, (hr1.cell (k * 4 + 3)).trans (Array.getElem?_eq_getElem (by omega))⟩
      have f0 := hr1.frozen (k * 4)
      have f1 := hr1.frozen (k * 4 + 1)
      have f2 := hr1.frozen (k * 4 + 2)
      have f3 := hr1.frozen (k * 4 + 3)
      have HRW := Lib.hid hr1
      have HCZ := Lib.hid hcz
      have HB1 := Lib.hid hB1; clear hB1
      clear hr1 hcz
      go_wp2
      go_roundw
      case rel => exact ⟨k + 1, _, by omega, by go_num, by have := HB1.out.size; simp; omega, ((((hB.trans (HB1.out.mono hB.size)).setCell (Nat.le_refl _) _).setCell (Nat.le_refl _) _).setCell (Nat.le_refl _) _).setCell (Nat.le_refl _) _, ((((HRW.out.set _ _).set _ _).set _ _).set _ _), by simp only [Array.size_setIfInBounds]; exact HCZ.out, copied4 hlt HCZ.out H.out.2.2⟩
      case measure => simp [intOf]; omega
    · go_wp2
      go_ret
      exact ⟨some ⟨w.heap.size, 0, none⟩, ds.length, rfl, Nat.le_refl _, .inr ⟨w.heap.size, cs, rfl, Nat.le_refl _, H.out.1, fun j x hj => H.out.2.2 j x (by have := (List.getElem?_eq_some_iff.1 hj).1; rw [flatD_len] at this; omega) hj⟩, hB⟩

set_option maxHeartbeats 400000 in
theorem eqDone_same (h k f t : Int) (w : World) :
    Calls Tryd.prog 76 #[.agg #[.int .i64 h, .int .i64 k, .int .i64 f, .int .i64 t], .agg #[.int .i64 h, .int .i64 k, .int .i64 f, .int .i64 t]] w fun e w' => e = .returned (.bool true) ∧ Below w.heap.size w w' := by
  have h0 : (h != h) = false := by simp
  have h1 : (k != k) = false := by simp
  have h2 : (f != f) = false := by simp
  have h3 : (t != t) = false := by simp
  go_enter Tryd.func76, Tryd.ntmps76
  go_wp2
  go_ret
  exact ⟨rfl, by go_grown⟩

set_option maxRecDepth 10000 in
set_option maxHeartbeats 1000000 in
theorem eqDoneS_same (A A' : Option Addr) (ds : List Dn) (c c' : Nat) (w : World) (hx : Dos w w.heap.size A ds) (hy : Dos w w.heap.size A' ds) (h1 : ds.length ≤ 1048576) :
    Calls Tryd.prog 23 #[.slice A ds.length c, .slice A' ds.length c'] w fun e w' => e = .returned (.bool true) ∧ Below w.heap.size w w' := by
  have HX := Lib.hid hx; clear hx
  have HY := Lib.hid hy; clear hy
  have hd : ((ds.length : Int) != (ds.length : Int)) = false := by simp
  go_enter Tryd.func23, Tryd.ntmps23
  go_wp2
  go_loopw [5] (fun i wr => ∃ (k : Nat), k ≤ ds.length ∧ i = .int .i64 k ∧ Below w.heap.size w wr) (fun i _ => ds.length - (intOf i).toNat)
  case atStart => exact ⟨0, by omega, rfl, Below.refl _ _⟩
  case round =>
    obtain ⟨k, hk, rfl, hB⟩ := hrel
    by_cases hlt : k < ds.length
    · obtain ⟨b, o, rfl, hb, c0, c1, c2, c3⟩ := (HX.out.keep hB).at_ hlt
      obtain ⟨b', o', rfl, hb', e0, e1, e2, e3⟩ := (HY.out.keep hB).at_ hlt
      go_wp2
      go_still_tail 8, (by kernel_rfl)
      change wpList _ _ _ _ _ wr.drew
      go_wp2_with fail
      refine (eqDone_same _ _ _ _ _).mono ?_
      rintro e w1 ⟨rfl, hB1⟩
      have hB2 : Below w.heap.size w w1 := hB.trans (Below.trans (by go_grown) (hB1.mono hB.size))
      clear hB1
      go_wp2
      go_roundw
      case rel => exact ⟨k + 1, by omega, by go_num, hB2⟩
      case measure => simp [intOf]; omega
    · go_wp2
      go_ret
      exact ⟨rfl, hB⟩

/-- The blocks of one slice of steps that is not empty. -/
def ItsD (A : Option Addr) (ds : List Dn) (b : Nat) : Prop := A = some ⟨b, 0, none⟩ ∧ ds ≠ []
theorem OwnD.its {w : World} {lo : Nat} {A : Option Addr} {ds : List Dn} (h : OwnD w lo A ds) {b : Nat} (hb : ItsD A ds b) : lo ≤ b ∧ b < w.heap.size := by
  rcases h with h | ⟨g, cs, e, hl, hr, _⟩
  · exact absurd (flatD_nil.1 h) hb.2
  · have := hb.1.symm.trans e
    injection this with this
    injection this with this
    subst this
    exact ⟨hl, hr.lt⟩

set_option maxHeartbeats 1000000 in
theorem markDoneS_any (A : Option Addr) (ds : List Dn) (c lo : Nat) (k : Int) (w : World) (h : OwnD w lo A ds) (hn : ds.length ≤ 1048576) (hk : 0 ≤ k) (hk' : k ≤ 4398046511104) :
    Calls Tryd.prog 27 #[.slice A ds.length c, .int .i64 k] w fun e w' => e = .returned (.int .i64 (k + (4 * ds.length : Nat))) ∧ OwnT w' lo A (seqL k (4 * ds.length)) ∧ Save (ItsD A ds) w w' := by
  have HO : Hid (OwnT w lo A (flatD ds)) := h
  clear h
  have HFL := Lib.hid (flatD_len ds)
  go_enter Tryd.func27, Tryd.ntmps27
  go_wp2
  go_loopw [1, 5] (fun v i wr => ∃ (j : Nat), j ≤ ds.length ∧ i = .int .i64 j ∧ v = .int .i64 (k + 4 * j) ∧ Hid (OwnT wr lo A (midL k (flatD ds) (j * 4))) ∧ Hid (Save (ItsD A ds) w wr)) (fun _ i _ => ds.length - (intOf i).toNat)
  case atStart => exact ⟨0, by omega, rfl, by simp, by show OwnT _ _ _ _; rw [Nat.zero_mul, midL_zero]; exact HO.out, Save.refl _ _⟩
  case round =>
    obtain ⟨j, hj, rfl, rfl, H, HS⟩ := hrel
    by_cases hlt : j < ds.length
    · have HML : Hid (∀ i, i ≤ 4 * ds.length → (midL k (flatD ds) i).length = 4 * ds.length) := fun i hi => by rw [midL_length (by rw [HFL.out]; exact hi), HFL.out]
      obtain ⟨g, rfl, _, _, c0, f0⟩ := H.out.at_ (i := j * 4) (by rw [HML.out _ (by omega)]; omega)
      obtain ⟨g', eg, _, _, c1, f1⟩ := H.out.at_ (i := j * 4 + 1) (by rw [HML.out _ (by omega)]; omega)
      cases eg
      obtain ⟨g', eg, _, _, c2, f2⟩ := H.out.at_ (i := j * 4 + 2) (by rw [HML.out _ (by omega)]; omega)
      cases eg
      obtain ⟨g', eg, _, _, c3, f3⟩ := H.out.at_ (i := j * 4 + 3) (by rw [HML.out _ (by omega)]; omega)
      cases eg
      have hne : ds ≠ [] := fun e => by subst e; simp at hlt
      have HNE := Lib.hid hne; clear hne
      go_wp2
      go_roundw
      case rel =>
        refine ⟨j + 1, by omega, by go_num, by go_num, ?_, (((HS.out.setCell ⟨rfl, HNE.out⟩ _).setCell ⟨rfl, HNE.out⟩ _).setCell ⟨rfl, HNE.out⟩ _).setCell ⟨rfl, HNE.out⟩ _⟩
        have hl : ∀ i, i < 4 * ds.length → i < (flatD ds).length := fun i hi => by rw [HFL.out]; exact hi
        show OwnT _ _ _ _
        have s0 := midL_step (k := k) (hl (j * 4) (by omega))
        have s1 := midL_step (k := k) (hl (j * 4 + 1) (by omega))
        have s2 := midL_step (k := k) (hl (j * 4 + 2) (by omega))
        have s3 := midL_step (k := k) (hl (j * 4 + 3) (by omega))
        rw [show (j + 1) * 4 = j * 4 + 3 + 1 by omega, ← s3, show j * 4 + 3 = j * 4 + 2 + 1 by omega, ← s2, show j * 4 + 2 = j * 4 + 1 + 1 by omega, ← s1, ← s0]
        have o0 := H.out.set (i := j * 4) (by rw [HML.out _ (by omega)]; omega) (k + ((j * 4 : Nat) : Int))
        have o1 := o0.set (i := j * 4 + 1) (by rw [List.length_set, HML.out _ (by omega)]; omega) (k + ((j * 4 + 1 : Nat) : Int))
        have o2 := o1.set (i := j * 4 + 2) (by rw [List.length_set, List.length_set, HML.out _ (by omega)]; omega) (k + ((j * 4 + 2 : Nat) : Int))
        have o3 := o2.set (i := j * 4 + 3) (by rw [List.length_set, List.length_set, List.length_set, HML.out _ (by omega)]; omega) (k + ((j * 4 + 3 : Nat) : Int))
        have v0 : k + ((j * 4 : Nat) : Int) = k + 4 * (j : Int) := by omega
        have v1 : k + ((j * 4 + 1 : Nat) : Int) = k + 4 * (j : Int) + 1 := by omega
        have v2 : k + ((j * 4 + 2 : Nat) : Int) = k + 4 * (j : Int) + 1 + 1 := by omega
        have v3 : k + ((j * 4 + 3 : Nat) : Int) = k + 4 * (j : Int) + 1 + 1 + 1 := by omega
        have v2' : k + ((j * 4 + 1 + 1 : Nat) : Int) = k + 4 * (j : Int) + 1 + 1 := v2
        have v3' : k + ((j * 4 + 1 + 1 + 1 : Nat) : Int) = k + 4 * (j : Int) + 1 + 1 + 1 := v3
        rw [v0, v1, v2', v3']
        rw [v0, v1, v2, v3] at o3
        exact o3
      case measure => simp [intOf]; omega
    · obtain rfl : j = ds.length := by omega
      go_wp2
      go_ret
      refine ⟨ret_int (by omega), ?_, HS.out⟩
      have h1 := H.out
      rw [show ds.length * 4 = (flatD ds).length by rw [HFL.out]; omega, midL_all, HFL.out] at h1
      exact h1

end Go.Proofs.YtfbpcdmpkbjifaaDoor

/- AheadOf of the program. -/

namespace Go.Proofs.YtfbpcdmpkbjifaaDoor
open Go.RowKit

/-- A box that holds a step. -/
def BoxD (w : World) (g : Nat) (u : Dn) : Prop := g < w.heap.size ∧ w.cell? ⟨g, 0, none⟩ = some (.int .i64 u.h) ∧ w.cell? ⟨g, 1, none⟩ = some (.int .i64 u.k) ∧ w.cell? ⟨g, 2, none⟩ = some (.int .i64 u.f) ∧ w.cell? ⟨g, 3, none⟩ = some (.int .i64 u.t)
theorem BoxD.keep {w w' : World} {g B : Nat} {u : Dn} (h : BoxD w g u) (hb : Below B w w') (hB : g < B) : BoxD w' g u :=
  ⟨Nat.lt_of_lt_of_le h.1 hb.size, (hb.cell (p := ⟨g, 0, none⟩) hB).trans h.2.1, (hb.cell (p := ⟨g, 1, none⟩) hB).trans h.2.2.1, (hb.cell (p := ⟨g, 2, none⟩) hB).trans h.2.2.2.1, (hb.cell (p := ⟨g, 3, none⟩) hB).trans h.2.2.2.2⟩

set_option maxRecDepth 20000 in
set_option maxHeartbeats 1000000 in
theorem goodLog_any (A : Option Addr) (ds : List Dn) (c : Nat) (hs : Int) (w : World) (hx : Dos w w.heap.size A ds) (hn : ds.length ≤ 1048576) (hL : Lims w) :
    Calls Tryd.prog 73 #[.slice A ds.length c, .int .i64 hs] w fun e w' => e = .returned (.bool (bP (GoodW hs ds))) ∧ Below w.heap.size w w' := by
  have HX := Lib.hid hx; clear hx
  have HL := Lib.hid hL; clear hL
  cases h1 : inB 0 200 ds.length
  · have HE : Hid (bP (GoodW hs ds) = false) := bP_f fun h => by have h2 := inB_t (lo := 0) (hi := 200) (n := (ds.length : Int)) (by omega) (by have := h.2.1; omega); rw [h1] at h2; cases h2
    go_enter Tryd.func73, Tryd.ntmps73
    go_wp2_with (go_at_call 66; with_reducible refine (within7 ds.length w HL.out).mono ?_; rintro e w1 ⟨rfl, hB⟩; rw [h1]; have HB := Lib.hid hB; clear hB)
    go_ret
    exact ⟨ret_b HE.out.symm, HB.out⟩
  have hl200 : ds.length ≤ 200 := by have := inB_hi h1; omega
  cases h2 : inB 1 4 hs
  · have HE : Hid (bP (GoodW hs ds) = false) := bP_f fun h => by have h3 := inB_t h.1.1 h.1.2; rw [h2] at h3; cases h3
    go_enter Tryd.func73, Tryd.ntmps73
    go_wp2_with (first
      | (go_at_call 66; with_reducible refine (within7 ds.length w HL.out).mono ?_; rintro e w1 ⟨rfl, hB⟩; rw [h1]; have HB := Lib.hid hB; clear hB)
      | (go_at_call 66; with_reducible refine (within6 hs _ (HL.out.keep HB.out (Nat.le_refl _))).mono ?_; rintro e w2 ⟨rfl, hB⟩; rw [h2]; have HB2 := Lib.hid (HB.out.trans (hB.mono HB.out.size)); clear hB))
    go_ret
    exact ⟨ret_b HE.out.symm, HB2.out⟩
  have HS : Hid (1 ≤ hs ∧ hs ≤ 4) := ⟨inB_lo h2, inB_hi h2⟩
  go_enter Tryd.func73, Tryd.ntmps73
  go_wp2_with (first
    | (go_at_call 66; with_reducible refine (within7 ds.length w HL.out).mono ?_; rintro e w1 ⟨rfl, hB⟩; rw [h1]; have HB := Lib.hid hB; clear hB)
    | (go_at_call 66; with_reducible refine (within6 hs _ (HL.out.keep HB.out (Nat.le_refl _))).mono ?_; rintro e w2 ⟨rfl, hB⟩; rw [h2]; have HB2 := Lib.hid (HB.out.trans (hB.mono HB.out.size)); clear hB))
  go_loopw [19] (fun i wr => ∃ (k : Nat), k ≤ ds.length ∧ i = .int .i64 k ∧ Hid (Below w.heap.size w wr) ∧ Hid (OkTo hs ds k)) (fun i _ => ds.length - (intOf i).toNat)
  case atStart => exact ⟨0, by omega, rfl, HB2.out, fun j d h => absurd h (by omega)⟩
  case round =>
    obtain ⟨k, hk, rfl, hB, H⟩ := hrel
    by_cases hlt : k < ds.length
    · obtain ⟨b, o, rfl, hb, c0, c1, c2, c3⟩ := (HX.out.keep hB.out).at_ hlt
      have HNO : Hid (¬ OkD hs ds[k] → bP (GoodW hs ds) = false) := fun h => bP_f (GoodW.not hlt h)
      have HST : Hid (OkD hs ds[k] → OkTo hs ds (k + 1)) := fun h => H.out.step hlt h
      clear H
      generalize ds[k] = u at c0 c1 c2 c3 HNO HST
      cases hh : decide ((1 ≤ hs ∧ hs ≤ 4) ∧ 0 ≤ u.h ∧ u.h < hs)
      · have HE := Lib.hid (HNO.out fun h => of_decide_eq_false hh ⟨HS.out, h.1⟩)
        cases hk1 : (u.k == 1) <;> cases hk2 : (u.k == 2)
        all_goals
          go_wp2_with fail
          have HBW : Hid (Below w.heap.size w (wr.alloc (.cells #[.int .i64 u.h, .int .i64 u.k, .int .i64 u.f, .int .i64 u.t] 88))) := hB.out.alloc hB.out.size _
          have B0 : BoxD (wr.alloc (.cells #[.int .i64 u.h, .int .i64 u.k, .int .i64 u.f, .int .i64 u.t] 88)) wr.heap.size u := ⟨by simp, by simp [go_sem], by simp [go_sem], by simp [go_sem], by simp [go_sem]⟩
          generalize wr.alloc (.cells #[.int .i64 u.h, .int .i64 u.k, .int .i64 u.f, .int .i64 u.t] 88) = W at HBW B0 ⊢
          clear c0 c1 c2 c3
          have HB0 := Lib.hid B0; clear B0
          have HWR : Hid (wr.heap.size < W.heap.size) := HB0.out.1
          refine (isHand_any _ _ _ (HL.out.keep HBW.out (Nat.le_refl _))).mono ?_
          rintro e w1 ⟨rfl, hB1⟩
          have HB1 := Lib.hid (HBW.out.trans (hB1.mono HBW.out.size)); clear hB1
          rw [hh]
          go_wp2
          go_ret
          exact ⟨ret_b HE.out.symm, HB1.out⟩
      have HHH := Lib.hid (of_decide_eq_true hh).2
      by_cases hkk : u.k = 1 ∨ u.k = 2
      · have HKK := Lib.hid hkk
        cases hk1 : (u.k == 1)
        · have hk2 : (u.k == 2) = true := by rcases hkk with h | h; (rw [h] at hk1; cases hk1); (rw [h]; rfl)
          clear hkk
          go_wp2_with fail
          have HBW : Hid (Below w.heap.size w (wr.alloc (.cells #[.int .i64 u.h, .int .i64 u.k, .int .i64 u.f, .int .i64 u.t] 88))) := hB.out.alloc hB.out.size _
          have B0 : BoxD (wr.alloc (.cells #[.int .i64 u.h, .int .i64 u.k, .int .i64 u.f, .int .i64 u.t] 88)) wr.heap.size u := ⟨by simp, by simp [go_sem], by simp [go_sem], by simp [go_sem], by simp [go_sem]⟩
          generalize wr.alloc (.cells #[.int .i64 u.h, .int .i64 u.k, .int .i64 u.f, .int .i64 u.t] 88) = W at HBW B0 ⊢
          clear c0 c1 c2 c3
          have HB0 := Lib.hid B0; clear B0
          have HWR : Hid (wr.heap.size < W.heap.size) := HB0.out.1
          refine (isHand_any _ _ _ (HL.out.keep HBW.out (Nat.le_refl _))).mono ?_
          rintro e w1 ⟨rfl, hB1⟩
          have HB1 := Lib.hid (HBW.out.trans (hB1.mono HBW.out.size))
          have HX1 := Lib.hid (HB0.out.keep hB1 HB0.out.1)
          clear hB1 HB0
          rw [hh]
          obtain ⟨_, b0, b1, b2, b3⟩ := HX1.out
          cases hf : inB 0 10 u.f
          · have HE := Lib.hid (HNO.out fun h => by have := inB_t h.2.2.1.1 h.2.2.1.2; rw [hf] at this; cases this)
            go_wp2_with (go_at_call 66; (with_reducible refine (within4 u.f w1 (HL.out.keep HB1.out (Nat.le_refl _))).mono ?_); rintro e w2 ⟨rfl, hB⟩; rw [hf]; have HB2 := Lib.hid (HB1.out.trans (hB.mono HB1.out.size)); clear hB)
            go_ret
            exact ⟨ret_b HE.out.symm, HB2.out⟩
          cases ht : inB 0 10 u.t
          · have HE := Lib.hid (HNO.out fun h => by have := inB_t h.2.2.2.1 h.2.2.2.2; rw [ht] at this; cases this)
            go_wp2_with (first
              | (go_at_call 66; (with_reducible refine (within4 u.f w1 (HL.out.keep HB1.out (Nat.le_refl _))).mono ?_); rintro e w2 ⟨rfl, hB⟩; rw [hf]; have HB2 := Lib.hid (HB1.out.trans (hB.mono HB1.out.size)); have HX2 := Lib.hid (HX1.out.keep hB HX1.out.1); have d3 := HX2.out.2.2.2.2; clear hB)
              | (go_at_call 66; (with_reducible refine (within4 u.t w2 (HL.out.keep HB2.out (Nat.le_refl _))).mono ?_); rintro e w3 ⟨rfl, hB⟩; rw [ht]; have HB3 := Lib.hid (HB2.out.trans (hB.mono HB2.out.size)); clear hB))
            go_ret
            exact ⟨ret_b HE.out.symm, HB3.out⟩
          have HE := Lib.hid (HST.out ⟨HHH.out, HKK.out, ⟨inB_lo hf, inB_hi hf⟩, inB_lo ht, inB_hi ht⟩)
          go_wp2_with (first
            | (go_at_call 66; (with_reducible refine (within4 u.f w1 (HL.out.keep HB1.out (Nat.le_refl _))).mono ?_); rintro e w2 ⟨rfl, hB⟩; rw [hf]; have HB2 := Lib.hid (HB1.out.trans (hB.mono HB1.out.size)); have HX2 := Lib.hid (HX1.out.keep hB HX1.out.1); have d3 := HX2.out.2.2.2.2; clear hB)
            | (go_at_call 66; (with_reducible refine (within4 u.t w2 (HL.out.keep HB2.out (Nat.le_refl _))).mono ?_); rintro e w3 ⟨rfl, hB⟩; rw [ht]; have HB3 := Lib.hid (HB2.out.trans (hB.mono HB2.out.size)); clear hB))
          go_roundw
          case rel => exact ⟨k + 1, by omega, by go_num, HB3.out, HE.out⟩
          case measure => simp [intOf]; omega
        · clear hkk
          go_wp2_with fail
          have HBW : Hid (Below w.heap.size w (wr.alloc (.cells #[.int .i64 u.h, .int .i64 u.k, .int .i64 u.f, .int .i64 u.t] 88))) := hB.out.alloc hB.out.size _
          have B0 : BoxD (wr.alloc (.cells #[.int .i64 u.h, .int .i64 u.k, .int .i64 u.f, .int .i64 u.t] 88)) wr.heap.size u := ⟨by simp, by simp [go_sem], by simp [go_sem], by simp [go_sem], by simp [go_sem]⟩
          generalize wr.alloc (.cells #[.int .i64 u.h, .int .i64 u.k, .int .i64 u.f, .int .i64 u.t] 88) = W at HBW B0 ⊢
          clear c0 c1 c2 c3
          have HB0 := Lib.hid B0; clear B0
          have HWR : Hid (wr.heap.size < W.heap.size) := HB0.out.1
          refine (isHand_any _ _ _ (HL.out.keep HBW.out (Nat.le_refl _))).mono ?_
          rintro e w1 ⟨rfl, hB1⟩
          have HB1 := Lib.hid (HBW.out.trans (hB1.mono HBW.out.size))
          have HX1 := Lib.hid (HB0.out.keep hB1 HB0.out.1)
          clear hB1 HB0
          rw [hh]
          obtain ⟨_, b0, b1, b2, b3⟩ := HX1.out
          cases hf : inB 0 10 u.f
          · have HE := Lib.hid (HNO.out fun h => by have := inB_t h.2.2.1.1 h.2.2.1.2; rw [hf] at this; cases this)
            go_wp2_with (go_at_call 66; (with_reducible refine (within4 u.f w1 (HL.out.keep HB1.out (Nat.le_refl _))).mono ?_); rintro e w2 ⟨rfl, hB⟩; rw [hf]; have HB2 := Lib.hid (HB1.out.trans (hB.mono HB1.out.size)); clear hB)
            go_ret
            exact ⟨ret_b HE.out.symm, HB2.out⟩
          cases ht : inB 0 10 u.t
          · have HE := Lib.hid (HNO.out fun h => by have := inB_t h.2.2.2.1 h.2.2.2.2; rw [ht] at this; cases this)
            go_wp2_with (first
              | (go_at_call 66; (with_reducible refine (within4 u.f w1 (HL.out.keep HB1.out (Nat.le_refl _))).mono ?_); rintro e w2 ⟨rfl, hB⟩; rw [hf]; have HB2 := Lib.hid (HB1.out.trans (hB.mono HB1.out.size)); have HX2 := Lib.hid (HX1.out.keep hB HX1.out.1); have d3 := HX2.out.2.2.2.2; clear hB)
              | (go_at_call 66; (with_reducible refine (within4 u.t w2 (HL.out.keep HB2.out (Nat.le_refl _))).mono ?_); rintro e w3 ⟨rfl, hB⟩; rw [ht]; have HB3 := Lib.hid (HB2.out.trans (hB.mono HB2.out.size)); clear hB))
            go_ret
            exact ⟨ret_b HE.out.symm, HB3.out⟩
          have HE := Lib.hid (HST.out ⟨HHH.out, HKK.out, ⟨inB_lo hf, inB_hi hf⟩, inB_lo ht, inB_hi ht⟩)
          go_wp2_with (first
            | (go_at_call 66; (with_reducible refine (within4 u.f w1 (HL.out.keep HB1.out (Nat.le_refl _))).mono ?_); rintro e w2 ⟨rfl, hB⟩; rw [hf]; have HB2 := Lib.hid (HB1.out.trans (hB.mono HB1.out.size)); have HX2 := Lib.hid (HX1.out.keep hB HX1.out.1); have d3 := HX2.out.2.2.2.2; clear hB)
            | (go_at_call 66; (with_reducible refine (within4 u.t w2 (HL.out.keep HB2.out (Nat.le_refl _))).mono ?_); rintro e w3 ⟨rfl, hB⟩; rw [ht]; have HB3 := Lib.hid (HB2.out.trans (hB.mono HB2.out.size)); clear hB))
          go_roundw
          case rel => exact ⟨k + 1, by omega, by go_num, HB3.out, HE.out⟩
          case measure => simp [intOf]; omega
      · have HE := Lib.hid (HNO.out fun h => hkk h.2.1)
        have hk1 : (u.k == 1) = false := by simpa using fun h => hkk (.inl h)
        have hk2 : (u.k == 2) = false := by simpa using fun h => hkk (.inr h)
        clear hkk
        go_wp2_with fail
        have HBW : Hid (Below w.heap.size w (wr.alloc (.cells #[.int .i64 u.h, .int .i64 u.k, .int .i64 u.f, .int .i64 u.t] 88))) := hB.out.alloc hB.out.size _
        have B0 : BoxD (wr.alloc (.cells #[.int .i64 u.h, .int .i64 u.k, .int .i64 u.f, .int .i64 u.t] 88)) wr.heap.size u := ⟨by simp, by simp [go_sem], by simp [go_sem], by simp [go_sem], by simp [go_sem]⟩
        generalize wr.alloc (.cells #[.int .i64 u.h, .int .i64 u.k, .int .i64 u.f, .int .i64 u.t] 88) = W at HBW B0 ⊢
        clear c0 c1 c2 c3
        have HB0 := Lib.hid B0; clear B0
        have HWR : Hid (wr.heap.size < W.heap.size) := HB0.out.1
        refine (isHand_any _ _ _ (HL.out.keep HBW.out (Nat.le_refl _))).mono ?_
        rintro e w1 ⟨rfl, hB1⟩
        have HB1 := Lib.hid (HBW.out.trans (hB1.mono HBW.out.size)); clear hB1
        rw [hh]
        go_wp2
        go_ret
        exact ⟨ret_b HE.out.symm, HB1.out⟩
    · have HE : Hid (bP (GoodW hs ds) = true) := bP_t ⟨HS.out, hl200, fun j d hj hd => H.out j d (by omega) hd⟩
      go_wp2
      go_ret
      exact ⟨ret_b HE.out.symm, hB.out⟩

end Go.Proofs.YtfbpcdmpkbjifaaDoor

/- How many waits are ahead of each step: the program. -/

namespace Go.Proofs.YtfbpcdmpkbjifaaDoor
open Go.RowKit

/-- For each of the first k steps how many waits its hand has ahead of it. -/
def aheadL (ds : List Dn) (k : Nat) : List Int := (List.range k).map fun i => (waitN ds (ds.getD i default).h i : Int)
theorem aheadL_len (ds : List Dn) (k : Nat) : (aheadL ds k).length = k := by simp [aheadL]
theorem aheadL_at {ds : List Dn} {k i : Nat} (h : i < k) : (aheadL ds k)[i]? = some (waitN ds (ds.getD i default).h i : Int) := by simp [aheadL, h]
theorem aheadL_succ {ds : List Dn} {k : Nat} (hk : k < ds.length) : aheadL ds (k + 1) = aheadL ds k ++ [(waitN ds ds[k].h k : Int)] := by
  unfold aheadL
  rw [List.range_succ, List.map_append, List.map_singleton, getD_at hk]

/-- An array of how many waits each hand has among the first k steps. -/
def WaitA (cs : Array Value) (ds : List Dn) (k : Nat) : Prop := cs.size = 4 ∧ ∀ q : Nat, q < 4 → cs[q]? = some (.int .i64 (waitN ds q k : Int))
theorem WaitA.yes {cs : Array Value} {ds : List Dn} {k q : Nat} (h : WaitA cs ds k) (hk : k < ds.length) (hq : q < 4) (e : ds[k].h = q) (h2 : ds[k].k = 2) : WaitA (cs.setIfInBounds q (.int .i64 ((waitN ds q k : Int) + 1))) ds (k + 1) := by
  refine ⟨by rw [Array.size_setIfInBounds]; exact h.1, fun p hp => ?_⟩
  rw [Array.getElem?_setIfInBounds]
  by_cases ep : q = p
  · subst ep
    rw [if_pos rfl, if_pos (by rw [h.1]; exact hq), waitN_yes hk e h2]
    rfl
  · rw [if_neg ep, h.2 p hp, waitN_no hk (fun hh => ep (by have := hh.1; omega))]
theorem WaitA.no {cs : Array Value} {ds : List Dn} {k : Nat} (h : WaitA cs ds k) (hk : k < ds.length) (h2 : ds[k].k ≠ 2) : WaitA cs ds (k + 1) :=
  ⟨h.1, fun p hp => by rw [h.2 p hp, waitN_no hk (fun hh => h2 hh.2)]⟩
theorem WaitA.zero (ds : List Dn) : WaitA #[.int .i64 0, .int .i64 0, .int .i64 0, .int .i64 0] ds 0 := ⟨rfl, fun q hq => by
  match q, hq with
  | 0, _ => rfl
  | 1, _ => rfl
  | 2, _ => rfl
  | 3, _ => rfl⟩

set_option maxRecDepth 20000 in
set_option maxHeartbeats 1000000 in
theorem waitsAhead_any (A : Option Addr) (ds : List Dn) (c : Nat) (hs : Int) (w : World) (hx : Dos w w.heap.size A ds) (hg : GoodW hs ds) :
    Calls Tryd.prog 75 #[.slice A ds.length c] w (GaveI w (aheadL ds ds.length)) := by
  obtain ⟨i0, hi0, hz0, hz1, hz2⟩ := info_of Tryd.infoInt
  have hl200 := hg.2.1
  have HX := Lib.hid hx; clear hx
  have HG := Lib.hid hg; clear hg
  go_enter Tryd.func75, Tryd.ntmps75
  go_wp2
  go_loopw [4, 9] (fun v i wr => ∃ (k : Nat) (cs : Array Value), k ≤ ds.length ∧ i = .int .i64 k ∧ Hid (w.heap.size + 1 ≤ wr.heap.size) ∧ Hid (Below w.heap.size w wr) ∧ Hid (Row wr w.heap.size 136 cs) ∧ Hid (WaitA cs ds k) ∧ Hid (OwnV wr (w.heap.size + 1) v (aheadL ds k))) (fun _ i _ => ds.length - (intOf i).toNat)
  case atStart => exact ⟨0, #[.int .i64 0, .int .i64 0, .int .i64 0, .int .i64 0], by omega, rfl, by show _ ≤ _; simp, by show Below _ _ _; go_grown, Row.new _ _ _, WaitA.zero ds, OwnV.nil _ _⟩
  case round =>
    obtain ⟨k, cs, hk, rfl, HZ, HB, HR, HW, HO⟩ := hrel
    by_cases hlt : k < ds.length
    · obtain ⟨b, o, rfl, hb, c0, c1, c2, c3⟩ := (HX.out.keep HB.out).at_ hlt
      have hok := HG.out.at_ hlt
      obtain ⟨q, hq⟩ := Int.eq_ofNat_of_zero_le hok.1.1
      have hq4 : q < 4 := by have := hok.1.2; have := HG.out.1.2; omega
      have HQ := Lib.hid hq
      rw [hq] at c0
      have HK := Lib.hid hok.2.1
      clear hok
      have HN : Hid (aheadL ds (k + 1) = aheadL ds k ++ [(waitN ds q k : Int)]) := by show _ = _; rw [aheadL_succ hlt, hq]
      have hwn : waitN ds q k ≤ 200 := Nat.le_trans (waitN_le _ _ _) hl200
      have HWY : Hid (ds[k].k = 2 → WaitA (cs.setIfInBounds q (.int .i64 ((waitN ds q k : Int) + 1))) ds (k + 1)) := fun h => HW.out.yes hlt hq4 hq h
      have HWN : Hid (ds[k].k ≠ 2 → WaitA cs ds (k + 1)) := fun h => HW.out.no hlt h
      clear hq
      have hal : (aheadL ds k).length ≤ 200 := by rw [aheadL_len]; omega
      have a0 := (HR.out.cell q).trans (HW.out.2 q hq4)
      have af := HR.out.frozen q
      generalize hxx : (waitN ds q k : Int) = x at HN HWY a0
      have HXX := Lib.hid hxx
      have hx0 : 0 ≤ x := by omega
      have hx1 : x ≤ 200 := by omega
      clear hxx hwn
      have HX1 : Hid (Row ((wr.alloc (.cells #[.int .i64 (q : Int), .int .i64 ds[k].k, .int .i64 ds[k].f, .int .i64 ds[k].t] 88)).alloc (.cells #[.int .i64 x] 3)) w.heap.size 136 cs) := (HR.out.alloc _).alloc _
      have HX2 : Hid (Below w.heap.size w ((wr.alloc (.cells #[.int .i64 (q : Int), .int .i64 ds[k].k, .int .i64 ds[k].f, .int .i64 ds[k].t] 88)).alloc (.cells #[.int .i64 x] 3))) := (HB.out.alloc HB.out.size _).alloc (by simp; have := HB.out.size; omega) _
      have HX3 : Hid (((wr.alloc (.cells #[.int .i64 (q : Int), .int .i64 ds[k].k, .int .i64 ds[k].f, .int .i64 ds[k].t] 88)).alloc (.cells #[.int .i64 x] 3)).ownsRow (w.heap.size + 1) 3 1 u4 (aheadL ds k).length (vals (aheadL ds k))) := World.ownsRow.alloc (World.ownsRow.alloc HO.out _) _
      have hx4 := cell_one_new (wr.alloc (.cells #[.int .i64 (q : Int), .int .i64 ds[k].k, .int .i64 ds[k].f, .int .i64 ds[k].t] 88)) (.int .i64 x) 3
      rw [World.size_alloc] at hx4
      have HX4 := Lib.hid hx4; clear hx4
      have HX5 : Hid (Row ((wr.alloc (.cells #[.int .i64 (q : Int), .int .i64 ds[k].k, .int .i64 ds[k].f, .int .i64 ds[k].t] 88)).alloc (.cells #[.int .i64 x] 3)) wr.heap.size 88 #[.int .i64 (q : Int), .int .i64 ds[k].k, .int .i64 ds[k].f, .int .i64 ds[k].t]) := Row.alloc (Row.new _ _ _) _
      have HX6 : Hid (wr.heap.size + 2 ≤ ((wr.alloc (.cells #[.int .i64 (q : Int), .int .i64 ds[k].k, .int .i64 ds[k].f, .int .i64 ds[k].t] 88)).alloc (.cells #[.int .i64 x] 3)).heap.size) := by show _ ≤ _; simp
      have hz := HZ.out
      have a2 : (wr.alloc (.cells #[.int .i64 (q : Int), .int .i64 ds[k].k, .int .i64 ds[k].f, .int .i64 ds[k].t] 88)).cell? ⟨w.heap.size, q, none⟩ = some (.int .i64 x) := (((Below.refl wr.heap.size wr).alloc (Nat.le_refl _) _).cell (p := ⟨w.heap.size, q, none⟩) (by simp; omega)).trans a0
      generalize hu : ds[k] = u at c1 c2 c3 a2 HX1 HX2 HX3 HX4 HX5 HX6 HK HWN HWY
      have HU := Lib.hid hu; clear hu
      cases hk2 : (u.k == 2)
      all_goals
        go_wp2_with (first
          | (at_builtin
             refine wpList_append_own _ rfl (.tmp 13) (.tmp 18) _ rfl (w.heap.size + 1) 3 i0 _ 1 8 Tryd.underlying22 hi0 hz0 hz1 hz2 rfl (by omega) _ _ _ rfl HX3.out ⟨wr.heap.size + 1, 0, none⟩ 1 1 [.int .i64 x] rfl rfl HX4.out (by simp [Value.oneCell']) (by unfold maxLen; omega) (by omega) (by simp; omega) ?_
             intro v' w' h1 h2 h3
             have HO' : Hid (OwnV w' (w.heap.size + 1) v' (aheadL ds (k + 1))) := by rw [HN.out]; exact own_snocI h1 rfl
             have HB' : Hid (Below w.heap.size w w') := HX2.out.grown h2 (by have := HX6.out; simp; omega) fun j hj => by have := (HO.out.lt j hj).1; omega
             have HR' : Hid (Row w' w.heap.size 136 cs) := HX1.out.below ((Below.refl (w.heap.size + 1) _).grown h2 (by have := HX6.out; simp; omega) fun j hj => (HO.out.lt j hj).1) (by omega)
             have HU' : Hid (Row w' wr.heap.size 88 #[.int .i64 (q : Int), .int .i64 u.k, .int .i64 u.f, .int .i64 u.t]) := (h2.block wr.heap.size (by have := HX6.out; omega) (fun e => by have := (HO.out.lt _ e.symm).2; omega)).trans HX5.out
             have b0 := HU'.out.cell 0
             have b1 := HU'.out.cell 1
             simp only [List.getElem?_toArray, List.getElem?_cons_succ, List.getElem?_cons_zero] at b0 b1
             have a1 := (HR'.out.cell q).trans (HW.out.2 q hq4)
             rw [HXX.out] at a1
             have af1 := HR'.out.frozen q
             have HZ' : Hid (w.heap.size + 1 ≤ w'.heap.size) := by show _ ≤ _; have := h2.size; have := HX6.out; omega
             clear h1 h2 h3))
        go_roundw
        case rel =>
          first
            | exact ⟨k + 1, cs, by omega, by go_num, HZ', HB', HR', Lib.hid (HWN.out (by simpa using hk2)), HO'⟩
            | exact ⟨k + 1, cs.setIfInBounds q (.int .i64 (x + 1)), by omega, by go_num, by show _ ≤ _; simp only [World.size_setCell]; exact HZ'.out, HB'.out.setCell (by simp) _, HR'.out.set _ _, Lib.hid (HWY.out (by simpa using hk2)), own_saveB HO'.out ((Save.refl (fun b => b = w.heap.size) w').setCell rfl _) (fun g hg e => by have := (HO'.out.lt g hg).1; omega)⟩
        case measure => simp [intOf]; omega
    · obtain rfl : k = ds.length := by omega
      go_wp2
      go_ret
      obtain ⟨A', c', e, h⟩ := HO.out.own
      obtain ⟨A2, c2, e', hc, _⟩ := HO.out.shape
      have e2 := e.symm.trans e'
      injection e2 with _ _ e3
      subst e3
      exact ⟨A', c', by rw [e]; rfl, hc, h.lower (by omega), HB.out⟩

end Go.Proofs.YtfbpcdmpkbjifaaDoor

/- AheadOf of the program. -/

namespace Go.Proofs.YtfbpcdmpkbjifaaDoor
open Go.RowKit

set_option maxRecDepth 20000 in
set_option maxHeartbeats 2000000 in
theorem isAhead_any (A A' : Option Addr) (ds : List Dn) (c c' : Nat) (i j : Nat) (w : World) (hx : Dos w w.heap.size A ds) (hy : Ints w w.heap.size A' (aheadL ds ds.length)) (hn : ds.length ≤ 200) (hi : i < ds.length) (hj : j < ds.length) :
    Calls Tryd.prog 74 #[.slice A ds.length c, .slice A' ds.length c', .int .i64 (i : Int), .int .i64 (j : Int)] w fun e w' => e = .returned (.bool (bP (Ahead ds i j))) ∧ Below w.heap.size w w' := by
  obtain ⟨b, o, rfl, hb, c0, _⟩ := hx.at_ hi
  obtain ⟨b', o', e', hb', d0, _⟩ := hx.at_ hj
  cases e'
  obtain ⟨g, p, rfl, hg, hc⟩ := hy (by rw [aheadL_len]; omega)
  have a0 := hc i _ (aheadL_at hi)
  have a1 := hc j _ (aheadL_at hj)
  rw [getD_at hi] at a0
  rw [getD_at hj] at a1
  have HA : Hid (Ahead ds i j ↔ (i < j ∧ (ds[i].h = ds[j].h ∨ waitN ds ds[i].h i < waitN ds ds[j].h j))) := by show _ ↔ _; unfold Ahead; rw [getD_at hi, getD_at hj]
  clear hc
  generalize waitN ds ds[i].h i = x at a0 HA
  generalize waitN ds ds[j].h j = y at a1 HA
  generalize ds[i].h = s at c0 HA
  generalize ds[j].h = t at d0 HA
  have HB0 := Lib.hid (Below.refl w.heap.size w)
  by_cases h1 : i < j
  · have hd : decide (i < j) = true := decide_eq_true h1
    cases h2 : (s == t)
    · have hne : s ≠ t := by simpa using h2
      by_cases h3 : x < y
      · have HE : Hid (bP (Ahead ds i j) = true) := bP_t (HA.out.2 ⟨h1, .inr h3⟩)
        have hd3 : decide (x < y) = true := decide_eq_true h3
        clear hne
        go_enter Tryd.func74, Tryd.ntmps74
        go_wp2
        go_quiet (fail)
        go_wp2
        go_ret
        exact ⟨ret_b HE.out.symm, below_drewN HB0.out _⟩
      · have HE : Hid (bP (Ahead ds i j) = false) := bP_f fun h => by rcases (HA.out.1 h).2 with h | h; exact hne h; exact h3 h
        have hd3 : decide (x < y) = false := decide_eq_false h3
        clear hne
        go_enter Tryd.func74, Tryd.ntmps74
        go_wp2
        go_quiet (fail)
        go_wp2
        go_ret
        exact ⟨ret_b HE.out.symm, below_drewN HB0.out _⟩
    · have HE : Hid (bP (Ahead ds i j) = true) := bP_t (HA.out.2 ⟨h1, .inl (by simpa using h2)⟩)
      go_enter Tryd.func74, Tryd.ntmps74
      go_wp2
      go_quiet (fail)
      go_wp2
      go_ret
      exact ⟨ret_b HE.out.symm, below_drewN HB0.out _⟩
  · have hd : decide (i < j) = false := decide_eq_false h1
    have HE : Hid (bP (Ahead ds i j) = false) := bP_f fun h => h1 (HA.out.1 h).1
    go_enter Tryd.func74, Tryd.ntmps74
    go_wp2
    go_quiet (fail)
    go_wp2
    go_ret
    exact ⟨ret_b HE.out.symm, below_drewN HB0.out _⟩

end Go.Proofs.YtfbpcdmpkbjifaaDoor

/- AheadOf of the program, whole. -/

namespace Go.Proofs.YtfbpcdmpkbjifaaDoor
open Go.RowKit

set_option maxRecDepth 20000 in
set_option maxHeartbeats 2000000 in
theorem implAheadOf_any (A : Option Addr) (ds : List Dn) (c : Nat) (hs i j : Int) (w : World) (hx : Dos w w.heap.size A ds) (hn : ds.length ≤ 1048576) (hL : Lims w) (_ : F64 i) (_ : F64 j) :
    Calls Tryd.prog 22 #[.slice A ds.length c, .int .i64 hs, .int .i64 i, .int .i64 j] w fun e w' => e = .returned (.tuple #[.bool (aheadV ds hs i j), .bool (aheadOk ds hs i j)]) ∧ Below w.heap.size w w' := by
  have HC := Lib.hid (goodLog_any A ds c hs w hx hn hL)
  have HX := Lib.hid hx; clear hx
  cases hg : bP (GoodW hs ds)
  · have HE : Hid (aheadV ds hs i j = false ∧ aheadOk ds hs i j = false) := ⟨bP_f fun h => bP_no hg h.1.1, bP_f fun h => bP_no hg h.1⟩
    go_enter Tryd.func22, Tryd.ntmps22
    go_wp2_with (go_at_call 73; refine HC.out.mono ?_; rintro e w1 ⟨rfl, hB⟩; rw [hg]; have HB := Lib.hid hB; clear hB)
    go_ret2
    exact ⟨by rw [HE.out.1, HE.out.2]; rfl, HB.out⟩
  have HG := Lib.hid (bP_is hg)
  by_cases h1 : i < 0 ∨ j < 0
  · have HE : Hid (aheadV ds hs i j = false ∧ aheadOk ds hs i j = false) := ⟨bP_f fun h => by have := h.1.2; omega, bP_f fun h => by have := h.2; omega⟩
    rcases Int.le_total i j with hij | hij
    all_goals
      go_enter Tryd.func22, Tryd.ntmps22
      go_wp2_with (go_at_call 73; refine HC.out.mono ?_; rintro e w1 ⟨rfl, hB⟩; rw [hg]; have HB := Lib.hid hB; clear hB)
      all_goals first
        | (exfalso; omega)
        | (go_ret2; exact ⟨by rw [HE.out.1, HE.out.2]; rfl, HB.out⟩)
  by_cases h2 : (ds.length : Int) ≤ i ∨ (ds.length : Int) ≤ j
  · have HE : Hid (aheadV ds hs i j = false ∧ aheadOk ds hs i j = false) := ⟨bP_f fun h => by have := h.1.2; omega, bP_f fun h => by have := h.2; omega⟩
    rcases Int.le_total i j with hij | hij
    all_goals
      go_enter Tryd.func22, Tryd.ntmps22
      go_wp2_with (go_at_call 73; refine HC.out.mono ?_; rintro e w1 ⟨rfl, hB⟩; rw [hg]; have HB := Lib.hid hB; clear hB)
      all_goals first
        | (exfalso; omega)
        | (go_ret2; exact ⟨by rw [HE.out.1, HE.out.2]; rfl, HB.out⟩)
  obtain ⟨p, rfl⟩ := Int.eq_ofNat_of_zero_le (show 0 ≤ i by omega)
  obtain ⟨q, rfl⟩ := Int.eq_ofNat_of_zero_le (show 0 ≤ j by omega)
  have hp : p < ds.length := by omega
  have hq : q < ds.length := by omega
  have hok : AheadOK ds hs p q := ⟨HG.out, ⟨by omega, by omega⟩, by omega, by omega⟩
  have HE : Hid (aheadV ds hs p q = bP (Ahead ds p q) ∧ aheadOk ds hs p q = true) := ⟨bP_congr ⟨fun h => h.2, fun h => ⟨hok, h⟩⟩, bP_t hok⟩
  clear hok h1 h2
  have HW := Lib.hid (fun v (hv : Dos v v.heap.size A ds) => waitsAhead_any A ds c hs v hv HG.out)
  have HI := Lib.hid (fun (A' : Option Addr) (c' : Nat) v (hv : Dos v v.heap.size A ds) (hy : Ints v v.heap.size A' (aheadL ds ds.length)) => isAhead_any A A' ds c c' p q v hv hy HG.out.2.1 hp hq)
  rcases Nat.le_total p q with hij | hij
  all_goals
    go_enter Tryd.func22, Tryd.ntmps22
    go_wp2_with (first
      | (go_at_call 73; refine HC.out.mono ?_; rintro e w1 ⟨rfl, hB⟩; rw [hg]; have HB := Lib.hid hB; clear hB)
      | (go_at_call 75
         refine (HW.out w1 ((HX.out.keep HB.out).more HB.out.size)).mono ?_
         rintro e w2 ⟨A', c', rfl, hc', hO, hB⟩
         have HB2 := Lib.hid (HB.out.trans (hB.mono HB.out.size))
         have HO := Lib.hid hO.ints
         rw [aheadL_len]
         clear hB hO)
      | (go_at_call 74
         refine (HI.out A' c' w2 ((HX.out.keep HB2.out).more HB2.out.size) HO.out).mono ?_
         rintro e w3 ⟨rfl, hB⟩
         have HB3 := Lib.hid (HB2.out.trans (hB.mono HB2.out.size))
         clear hB))
    all_goals first
      | (exfalso; omega)
      | (go_ret2; exact ⟨by rw [HE.out.1, HE.out.2]; rfl, HB3.out⟩)

end Go.Proofs.YtfbpcdmpkbjifaaDoor

/- AheadOf of the reference. -/

namespace Go.Proofs.YtfbpcdmpkbjifaaDoor
open Go.RowKit
open Go.Sort (grow)

set_option maxRecDepth 20000 in
set_option maxHeartbeats 2000000 in
theorem l8Log_any (A : Option Addr) (ds : List Dn) (c : Nat) (hs : Int) (w : World) (hx : Dos w w.heap.size A ds) (hn : ds.length ≤ 1048576) :
    Calls Tryd.prog 70 #[.slice A ds.length c, .int .i64 hs] w fun e w' => e = .returned (.bool (bP (GoodW hs ds))) ∧ Below w.heap.size w w' := by
  have HX := Lib.hid hx; clear hx
  obtain ⟨m, hw⟩ : ∃ m, IntKind.i64.wrap (hs - 1) = m := ⟨_, rfl⟩
  have HM : Hid (1 ≤ hs ∧ hs ≤ 4 → m = hs - 1) := fun h => by
    rcases hs4 h.1 h.2 with rfl | rfl | rfl | rfl <;> (rw [← hw]; rfl)
  go_enter Tryd.func70, Tryd.ntmps70
  go_wp2
  go_loopw [9] (fun i wr => ∃ (k : Nat), k ≤ ds.length ∧ i = .int .i64 k ∧ Hid (Below w.heap.size w wr) ∧ Hid (1 ≤ hs ∧ hs ≤ 4 → OkTo hs ds k)) (fun i _ => ds.length - (intOf i).toNat)
  case atStart => exact ⟨0, by omega, rfl, Below.refl _ _, fun _ j d h => absurd h (by omega)⟩
  case round =>
    obtain ⟨k, hk, rfl, hB, H⟩ := hrel
    by_cases hlt : k < ds.length
    · obtain ⟨b, o, rfl, hb, c0, c1, c2, c3⟩ := (HX.out.keep hB.out).at_ hlt
      have HNO : Hid (¬ OkD hs ds[k] → bP (GoodW hs ds) = false) := fun h => bP_f (GoodW.not hlt h)
      have HST : Hid ((1 ≤ hs ∧ hs ≤ 4 → OkD hs ds[k]) → 1 ≤ hs ∧ hs ≤ 4 → OkTo hs ds (k + 1)) := fun h h2 => (H.out h2).step hlt (h h2)
      have HRNG : Hid (bP (GoodW hs ds) = true → (1 ≤ hs ∧ hs ≤ 4) ∧ OkD hs ds[k]) := fun h => ⟨(bP_is h).1, (bP_is h).at_ hlt⟩
      clear H
      generalize ds[k] = u at c0 c1 c2 c3 HNO HST HRNG
      have HF : Hid ((bP (GoodW hs ds) = true → False) → bP (GoodW hs ds) = false) := fun h => by cases hq : bP (GoodW hs ds); rfl; exact (h hq).elim
      have HB2 : Hid (Below w.heap.size w (wr.alloc (.cells #[.int .i64 u.h, .int .i64 u.k, .int .i64 u.f, .int .i64 u.t] 88))) := hB.out.alloc hB.out.size _
      cases h1 : inB 0 m u.h
      · have HE := Lib.hid (HF.out fun h => by
          have h3 := HRNG.out h
          have h4 := HM.out h3.1
          have h5 := inB_t (lo := 0) (hi := m) (n := u.h) h3.2.1.1 (by have := h3.2.1.2; omega)
          rw [h1] at h5; cases h5)
        go_wp2_with (go_at_call 64; refine (l1In_any _ _ _ _).mono ?_; rintro e w' ⟨rfl, rfl⟩; rw [h1])
        go_ret
        exact ⟨ret_b HE.out.symm, HB2.out⟩
      cases h2 : inB 1 2 u.k
      · have HE := Lib.hid (HF.out fun h => by
          have h3 := HRNG.out h
          have h5 := inB_t (lo := 1) (hi := 2) (n := u.k) (by have := h3.2.2.1; omega) (by have := h3.2.2.1; omega)
          rw [h2] at h5; cases h5)
        go_wp2_with (go_at_call 64; refine (l1In_any _ _ _ _).mono ?_; rintro e w' ⟨rfl, rfl⟩; first | rw [h1] | rw [h2])
        go_ret
        exact ⟨ret_b HE.out.symm, HB2.out⟩
      cases h3 : inB 0 10 u.f
      · have HE := Lib.hid (HF.out fun h => by
          have h4 := HRNG.out h
          have h5 := inB_t (lo := 0) (hi := 10) (n := u.f) h4.2.2.2.1.1 h4.2.2.2.1.2
          rw [h3] at h5; cases h5)
        go_wp2_with (go_at_call 64; refine (l1In_any _ _ _ _).mono ?_; rintro e w' ⟨rfl, rfl⟩; first | rw [h1] | rw [h2] | rw [h3])
        go_ret
        exact ⟨ret_b HE.out.symm, HB2.out⟩
      cases h4 : inB 0 10 u.t
      · have HE := Lib.hid (HF.out fun h => by
          have h6 := HRNG.out h
          have h5 := inB_t (lo := 0) (hi := 10) (n := u.t) h6.2.2.2.2.1 h6.2.2.2.2.2
          rw [h4] at h5; cases h5)
        go_wp2_with (go_at_call 64; refine (l1In_any _ _ _ _).mono ?_; rintro e w' ⟨rfl, rfl⟩; first | rw [h1] | rw [h2] | rw [h3] | rw [h4])
        go_ret
        exact ⟨ret_b HE.out.symm, HB2.out⟩
      have HE := Lib.hid (HST.out fun h => ⟨⟨inB_lo h1, by have := inB_hi h1; have := HM.out h; omega⟩, by have := inB_lo h2; have := inB_hi h2; omega, ⟨inB_lo h3, inB_hi h3⟩, inB_lo h4, inB_hi h4⟩)
      go_wp2_with (go_at_call 64; refine (l1In_any _ _ _ _).mono ?_; rintro e w' ⟨rfl, rfl⟩; first | rw [h1] | rw [h2] | rw [h3] | rw [h4])
      go_roundw
      case rel => exact ⟨k + 1, by omega, by go_num, HB2.out, HE.out⟩
      case measure => simp [intOf]; omega
    · have hkl : k = ds.length := by omega
      cases h1 : inB 1 4 hs
      · have HE : Hid (bP (GoodW hs ds) = false) := bP_f fun h => by have h3 := inB_t h.1.1 h.1.2; rw [h1] at h3; cases h3
        clear hkl
        go_wp2_with (go_at_call 64; refine (l1In_any _ _ _ _).mono ?_; rintro e w' ⟨rfl, rfl⟩; rw [h1])
        go_ret
        exact ⟨ret_b HE.out.symm, hB.out⟩
      · by_cases h2 : ds.length ≤ 200
        · have HE : Hid (bP (GoodW hs ds) = true) := bP_t ⟨⟨inB_lo h1, inB_hi h1⟩, h2, fun j d hj hd => H.out ⟨inB_lo h1, inB_hi h1⟩ j d (by omega) hd⟩
          clear hkl
          go_wp2_with (go_at_call 64; refine (l1In_any _ _ _ _).mono ?_; rintro e w' ⟨rfl, rfl⟩; rw [h1])
          go_ret
          exact ⟨ret_b ((decide_eq_true (by omega)).trans HE.out.symm), hB.out⟩
        · have HE : Hid (bP (GoodW hs ds) = false) := bP_f fun h => h2 h.2.1
          clear hkl
          go_wp2_with (go_at_call 64; refine (l1In_any _ _ _ _).mono ?_; rintro e w' ⟨rfl, rfl⟩; rw [h1])
          go_ret
          exact ⟨ret_b ((decide_eq_false (by omega)).trans HE.out.symm), hB.out⟩

set_option maxRecDepth 20000 in
set_option maxHeartbeats 2000000 in
theorem l8Waits_any (A : Option Addr) (ds : List Dn) (c : Nat) (h : Int) (m : Nat) (w : World) (hx : Dos w w.heap.size A ds) (hn : ds.length ≤ 200) (hc : ds.length ≤ c) (hm : m ≤ ds.length) :
    Calls Tryd.prog 118 #[.slice A ds.length c, .int .i64 h, .int .i64 (m : Int)] w fun e w' => e = .returned (.int .i64 (waitN ds h m : Int)) ∧ Below w.heap.size w w' := by
  have HX := Lib.hid hx; clear hx
  have hmc : m ≤ c := by omega
  go_enter Tryd.func118, Tryd.ntmps118
  go_wp2
  go_loopw [7, 14] (fun v i wr => ∃ (k : Nat), k ≤ m ∧ i = .int .i64 k ∧ v = .int .i64 (waitN ds h k : Int) ∧ Hid (Below w.heap.size w wr)) (fun _ i _ => m - (intOf i).toNat)
  case atStart => exact ⟨0, by omega, rfl, rfl, Below.refl _ _⟩
  case round =>
    obtain ⟨k, hk, rfl, rfl, hB⟩ := hrel
    by_cases hlt : k < m
    · have hkd : k < ds.length := by omega
      obtain ⟨b, o, rfl, hb, c0, c1, c2, c3⟩ := (HX.out.keep hB.out).at_ hkd
      have HB2 : Hid (Below w.heap.size w (wr.alloc (.cells #[.int .i64 ds[k].h, .int .i64 ds[k].k, .int .i64 ds[k].f, .int .i64 ds[k].t] 88))) := hB.out.alloc hB.out.size _
      have HY : Hid (ds[k].h = h → ds[k].k = 2 → waitN ds h (k + 1) = waitN ds h k + 1) := fun h1 h2 => waitN_yes hkd h1 h2
      have HN : Hid (¬ (ds[k].h = h ∧ ds[k].k = 2) → waitN ds h (k + 1) = waitN ds h k) := fun h1 => waitN_no hkd h1
      have hw2 := waitN_le ds h k
      generalize ds[k] = u at c0 c1 c2 c3 HB2 HY HN
      cases h1 : (u.h == h)
      · have HE := Lib.hid (HN.out fun hh => by have := hh.1; simp [this] at h1)
        go_wp2
        go_roundw
        case rel => exact ⟨k + 1, by omega, by go_num, by rw [HE.out], HB2⟩
        case measure => simp [intOf]; omega
      · cases h2 : (u.k == 2)
        · have HE := Lib.hid (HN.out fun hh => by have := hh.2; simp [this] at h2)
          go_wp2
          go_roundw
          case rel => exact ⟨k + 1, by omega, by go_num, by rw [HE.out], HB2⟩
          case measure => simp [intOf]; omega
        · have HE := Lib.hid (HY.out (by simpa using h1) (by simpa using h2))
          go_wp2
          go_roundw
          case rel => exact ⟨k + 1, by omega, by go_num, by rw [HE.out]; rfl, HB2⟩
          case measure => simp [intOf]; omega
    · obtain rfl : k = m := by omega
      go_wp2
      go_ret
      exact ⟨rfl, hB.out⟩

end Go.Proofs.YtfbpcdmpkbjifaaDoor

/- AheadOf of the reference, whole. -/

namespace Go.Proofs.YtfbpcdmpkbjifaaDoor
open Go.RowKit
open Go.Sort (grow)

set_option maxRecDepth 20000 in
set_option maxHeartbeats 2000000 in
theorem l8Ahead_any (A : Option Addr) (ds : List Dn) (c : Nat) (i j : Nat) (w : World) (hx : Dos w w.heap.size A ds) (hn : ds.length ≤ 200) (hc : ds.length ≤ c) (hi : i < ds.length) (hj : j < ds.length) :
    Calls Tryd.prog 71 #[.slice A ds.length c, .int .i64 (i : Int), .int .i64 (j : Int)] w fun e w' => e = .returned (.bool (bP (Ahead ds i j))) ∧ Below w.heap.size w w' := by
  have HX := Lib.hid hx
  obtain ⟨b, o, rfl, hb, c0, _⟩ := hx.at_ hi
  obtain ⟨b', o', e', hb', d0, _⟩ := hx.at_ hj
  cases e'
  have HA : Hid (Ahead ds i j ↔ (i < j ∧ (ds[i].h = ds[j].h ∨ waitN ds ds[i].h i < waitN ds ds[j].h j))) := by show _ ↔ _; unfold Ahead; rw [getD_at hi, getD_at hj]
  have HCI : Hid (∀ W, Dos W W.heap.size (some ⟨b, o, none⟩) ds → Calls Tryd.prog 118 #[.slice (some ⟨b, o, none⟩) ds.length c, .int .i64 ds[i].h, .int .i64 (i : Int)] W fun e w' => e = .returned (.int .i64 (waitN ds ds[i].h i : Int)) ∧ Below W.heap.size W w') := fun W h => l8Waits_any _ ds c _ i W h hn hc (by omega)
  have HCJ : Hid (∀ W, Dos W W.heap.size (some ⟨b, o, none⟩) ds → Calls Tryd.prog 118 #[.slice (some ⟨b, o, none⟩) ds.length c, .int .i64 ds[j].h, .int .i64 (j : Int)] W fun e w' => e = .returned (.int .i64 (waitN ds ds[j].h j : Int)) ∧ Below W.heap.size W w') := fun W h => l8Waits_any _ ds c _ j W h hn hc (by omega)
  have hx1 := waitN_le ds ds[i].h i
  have hy1 := waitN_le ds ds[j].h j
  clear hx
  generalize waitN ds ds[i].h i = x at HCI HA hx1
  generalize waitN ds ds[j].h j = y at HCJ HA hy1
  generalize ds[i].h = s at c0 HA HCI
  generalize ds[j].h = t at d0 HA HCJ
  have HB0 := Lib.hid (Below.refl w.heap.size w)
  by_cases h1 : i < j
  · have h1' : ¬ j ≤ i := by omega
    cases h2 : (s == t)
    · have hne : s ≠ t := by simpa using h2
      have HE : Hid (bP (Ahead ds i j) = decide (x < y)) := by
        show _ = _
        by_cases h3 : x < y
        · rw [decide_eq_true h3]; exact bP_t (HA.out.2 ⟨h1, .inr h3⟩)
        · rw [decide_eq_false h3]; exact bP_f fun h => by rcases (HA.out.1 h).2 with h | h; exact hne h; exact h3 h
      clear hne
      go_enter Tryd.func71, Tryd.ntmps71
      go_wp2
      go_quiet (fail)
      go_wp2
      have HBW := Lib.hid (below_drewN HB0.out nq)
      have p0 := cell_regrown ((HBW.out.cell (p := ⟨b, o + i * 4, none⟩) hb).trans c0)
      have p1 := cell_regrown ((HBW.out.cell (p := ⟨b, o + j * 4, none⟩) hb).trans d0)
      generalize w.drewN nq = W at HBW p0 p1 ⊢
      have HRG : Hid (∀ d os, Below w.heap.size w (grow (redrawn W d) os)) := fun d os => HBW.out.trans ((below_regrown W d os).mono HBW.out.size)
      have HC1 : Hid (∀ d os, Calls Tryd.prog 118 #[.slice (some ⟨b, o, none⟩) ds.length c, .int .i64 s, .int .i64 (i : Int)] (grow (redrawn W d) os) fun e w' => e = .returned (.int .i64 (x : Int)) ∧ Below (grow (redrawn W d) os).heap.size (grow (redrawn W d) os) w') := fun d os => HCI.out _ ((HX.out.keep (HRG.out d os)).more (HRG.out d os).size)
      have HC2 : Hid (∀ d os, Calls Tryd.prog 118 #[.slice (some ⟨b, o, none⟩) ds.length c, .int .i64 t, .int .i64 (j : Int)] (grow (redrawn W d) os) fun e w' => e = .returned (.int .i64 (y : Int)) ∧ Below (grow (redrawn W d) os).heap.size (grow (redrawn W d) os) w') := fun d os => HCJ.out _ ((HX.out.keep (HRG.out d os)).more (HRG.out d os).size)
      clear c0 d0 HCI HCJ
      refine wp_region_quiet_below (by kernel_rfl) (by kernel_rfl) ?_
      repeat (first | go_big_quiet_step (first | (with_reducible exact Calls.regrown_of (HC1.out _ _)) | (with_reducible exact Calls.regrown_of (HC2.out _ _))) | quiet_step (first | (with_reducible exact Calls.regrown_of (HC1.out _ _)) | (with_reducible exact Calls.regrown_of (HC2.out _ _))))
      refine wpQuiet_nil ?_
      intro _ hw'
      obtain ⟨⟨dq, osq⟩, hw''⟩ := hw'
      subst hw''
      go_wp2
      go_ret
      refine ⟨ret_b ?_, HRG.out dq osq⟩
      rw [HE.out]
      first
        | rfl
        | exact decide_eq_decide.2 (by omega)
    · have HE : Hid (bP (Ahead ds i j) = true) := bP_t (HA.out.2 ⟨h1, .inl (by simpa using h2)⟩)
      go_enter Tryd.func71, Tryd.ntmps71
      go_wp2
      go_quiet (fail)
      go_wp2
      go_ret
      exact ⟨ret_b HE.out.symm, below_drewN HB0.out _⟩
  · have h1' : j ≤ i := by omega
    have HE : Hid (bP (Ahead ds i j) = false) := bP_f fun h => h1 (HA.out.1 h).1
    clear h1
    go_enter Tryd.func71, Tryd.ntmps71
    go_wp2
    go_ret
    exact ⟨ret_b HE.out.symm, HB0.out⟩

set_option maxRecDepth 20000 in
set_option maxHeartbeats 2000000 in
theorem specAheadOf_any (A : Option Addr) (ds : List Dn) (c : Nat) (hs i j : Int) (w : World) (hx : Dos w w.heap.size A ds) (hn : ds.length ≤ 1048576) (hc : ds.length ≤ c) :
    Calls Tryd.prog 20 #[.slice A ds.length c, .int .i64 hs, .int .i64 i, .int .i64 j] w fun e w' => e = .returned (.tuple #[.bool (aheadV ds hs i j), .bool (aheadOk ds hs i j)]) ∧ Below w.heap.size w w' := by
  have HC := Lib.hid (l8Log_any A ds c hs w hx hn)
  have HX := Lib.hid hx; clear hx
  cases hg : bP (GoodW hs ds)
  · have HE : Hid (aheadV ds hs i j = false ∧ aheadOk ds hs i j = false) := ⟨bP_f fun h => bP_no hg h.1.1, bP_f fun h => bP_no hg h.1⟩
    go_enter Tryd.func20, Tryd.ntmps20
    go_wp2_with (go_at_call 70; refine HC.out.mono ?_; rintro e w1 ⟨rfl, hB⟩; rw [hg]; have HB := Lib.hid hB; clear hB)
    go_ret2
    exact ⟨by rw [HE.out.1, HE.out.2]; rfl, HB.out⟩
  have HG := Lib.hid (bP_is hg)
  cases h1 : inB 0 ((ds.length : Int) - 1) i
  · have HE : Hid (aheadV ds hs i j = false ∧ aheadOk ds hs i j = false) := ⟨bP_f fun h => by have := h.1.2.1; have := inB_no h1; omega, bP_f fun h => by have := h.2.1; have := inB_no h1; omega⟩
    go_enter Tryd.func20, Tryd.ntmps20
    go_wp2_with (first
      | (go_at_call 70; refine HC.out.mono ?_; rintro e w1 ⟨rfl, hB⟩; rw [hg]; have HB := Lib.hid hB; clear hB)
      | (go_at_call 64; refine (l1In_any _ _ _ _).mono ?_; rintro e w' ⟨rfl, rfl⟩; rw [h1]))
    go_ret2
    exact ⟨by rw [HE.out.1, HE.out.2]; rfl, HB.out⟩
  cases h2 : inB 0 ((ds.length : Int) - 1) j
  · have HE : Hid (aheadV ds hs i j = false ∧ aheadOk ds hs i j = false) := ⟨bP_f fun h => by have := h.1.2.2; have := inB_no h2; omega, bP_f fun h => by have := h.2.2; have := inB_no h2; omega⟩
    go_enter Tryd.func20, Tryd.ntmps20
    go_wp2_with (first
      | (go_at_call 70; refine HC.out.mono ?_; rintro e w1 ⟨rfl, hB⟩; rw [hg]; have HB := Lib.hid hB; clear hB)
      | (go_at_call 64; refine (l1In_any _ _ _ _).mono ?_; rintro e w' ⟨rfl, rfl⟩; first | rw [h1] | rw [h2]))
    go_ret2
    exact ⟨by rw [HE.out.1, HE.out.2]; rfl, HB.out⟩
  have hi0 := inB_lo h1
  have hi1 := inB_hi h1
  have hj0 := inB_lo h2
  have hj1 := inB_hi h2
  obtain ⟨p, rfl⟩ := Int.eq_ofNat_of_zero_le hi0
  obtain ⟨q, rfl⟩ := Int.eq_ofNat_of_zero_le hj0
  have hp : p < ds.length := by omega
  have hq : q < ds.length := by omega
  have hok : AheadOK ds hs p q := ⟨HG.out, ⟨by omega, by omega⟩, by omega, by omega⟩
  have HE : Hid (aheadV ds hs p q = bP (Ahead ds p q) ∧ aheadOk ds hs p q = true) := ⟨bP_congr ⟨fun h => h.2, fun h => ⟨hok, h⟩⟩, bP_t hok⟩
  clear hok hi0 hi1 hj0 hj1
  have HI := Lib.hid (fun v (hv : Dos v v.heap.size A ds) => l8Ahead_any A ds c p q v hv HG.out.2.1 hc hp hq)
  go_enter Tryd.func20, Tryd.ntmps20
  go_wp2_with (first
    | (go_at_call 70; refine HC.out.mono ?_; rintro e w1 ⟨rfl, hB⟩; rw [hg]; have HB := Lib.hid hB; clear hB)
    | (go_at_call 64; refine (l1In_any _ _ _ _).mono ?_; rintro e w' ⟨rfl, rfl⟩; first | rw [h1] | rw [h2])
    | (go_at_call 71
       refine (HI.out _ ((HX.out.keep HB.out).more HB.out.size)).mono ?_
       rintro e w3 ⟨rfl, hB⟩
       have HB3 := Lib.hid (HB.out.trans (hB.mono HB.out.size))
       clear hB))
  go_ret2
  exact ⟨by rw [HE.out.1, HE.out.2]; rfl, HB3.out⟩

end Go.Proofs.YtfbpcdmpkbjifaaDoor

/- From the reading of an argument to its cells: a slice of lists of numbers, a binary grammar. -/

namespace Go.Proofs.YtfbpcdmpkbjifaaDoor
open Go.ChangeShapes Go.WideShapes Go.ChangeAt Go.RowKit Go.Deep Go.Joins

theorem Tryd.cellsIntSS : Tryd.prog.cellsOf 39 = 1 := by kernel_rfl
theorem Tryd.cellsBinL : Tryd.prog.cellsOf 49 = 6 := by kernel_rfl

theorem array6 {α : Type} {cs : Array α} (h : cs.size = 6) : ∃ c0 c1 c2 c3 c4 c5, cs = #[c0, c1, c2, c3, c4, c5] := by
  obtain ⟨l⟩ := cs
  match l, h with
  | [c0, c1, c2, c3, c4, c5], _ => exact ⟨c0, c1, c2, c3, c4, c5, rfl⟩

instance : Inhabited Li := ⟨⟨none, [], 0⟩⟩

section
variable {H : Type} {enc : TypeId × Value → H} {W : World} {spare : Nat → Bool} {held : Bool}

set_option maxRecDepth 100000 in
theorem open_intSS {fuel : Nat} {v : Value} {y : DataW H × List MemPlace} (h : DataW.trod enc Tryd.prog W 0 spare held fuel 39 [v] = some y) :
    ∃ (A : Option Addr) (ls : List Li) (c : Nat), v = .slice A ls.length c ∧ ls.length ≤ c ∧ Lls W W.heap.size A ls ∧ ls.length ≤ maxLen ∧ (∀ u ∈ ls, u.r.length ≤ maxLen) ∧ FitL (sayL ls) := by
  rcases open_slice Tryd.underlying39 h with ⟨hcs, _⟩ | ⟨a, len, cap, m, n, D, Pl, hcs, _, hl, hm, hz, _, hel⟩
  · injection hcs with hcs
    subst hcs
    exact ⟨none, [], 0, rfl, Nat.le_refl _, fun h => by simp at h, by simp [maxLen], fun x hx => by simp at hx, fun x hx => by simp [sayL] at hx⟩
  · injection hcs with hcs
    subst hcs
    have hlm : len ≤ m := by rw [hz]; split <;> omega
    have each : ∀ i, i < len → ∃ u : Li, W.cell? (a.add i) = some (.slice u.a u.r.length u.c) ∧ u.r.length ≤ u.c ∧ Ints W W.heap.size u.a u.r ∧ u.r.length ≤ maxLen ∧ ∀ x ∈ u.r, F64 x := by
      intro i hi
      obtain ⟨cs', hc, ht⟩ := hel i (by omega)
      rw [Tryd.cellsIntS] at hc
      obtain ⟨_, hcl, hat⟩ := World.cells?_some hc
      match cs', hcl with
      | [q0], _ =>
        obtain ⟨A', xs, c', rfl, hxc, hI, hml, hF⟩ := open_intS ht
        exact ⟨⟨A', xs, c'⟩, by simpa [Addr.add] using hat 0 (by omega), hxc, hI, hml, hF⟩
    obtain ⟨f, hf⟩ := choose_lt each
    have hlen : ((List.range len).map f).length = len := by simp
    refine ⟨some a, (List.range len).map f, cap, by rw [hlen], by omega, fun hp => ?_, by omega, fun u hu => ?_, fun x hx => ?_⟩
    · obtain ⟨b, off, spot⟩ := a
      have hspot : spot = none := by simpa [Addr.add] using World.cell?_spot (hf 0 (by omega)).1
      subst hspot
      refine ⟨b, off, rfl, ?_, fun k u hu => ?_⟩
      · have := (hf 0 (by omega)).1
        exact lt_of_cell (b := b) (o := off) (by simpa [Addr.add] using this)
      · have hk := (List.getElem?_eq_some_iff.1 hu).1
        rw [hlen] at hk
        have hu' : f k = u := by simpa [hk] using hu
        subst hu'
        obtain ⟨h1, h2, h3, _, _⟩ := hf k hk
        rw [Go.WideShapes.add_plain] at h1
        exact ⟨h1, h2, h3⟩
    · obtain ⟨i, hi, rfl⟩ := List.mem_map.1 hu
      exact (hf i (List.mem_range.1 hi)).2.2.2.1
    · obtain ⟨u, hu, rfl⟩ := List.mem_map.1 hx
      obtain ⟨i, hi, rfl⟩ := List.mem_map.1 hu
      exact (hf i (List.mem_range.1 hi)).2.2.2.2

set_option maxRecDepth 100000 in
theorem open_binary {r : Reach} {b0 : Nat} {v : Value} {d : DataW H} {p : List MemPlace} (hv : Value.okWide Tryd.prog W r b0 49 v) (h : DataW.Trod enc Tryd.prog W 0 spare held 49 v d p) :
    ∃ b : Bi, v = (.agg #[.int .i64 b.n, .int .i64 b.t, .slice b.Ap b.P.length b.cp, .slice b.Ao b.O.length b.co, .slice b.Ae b.E.length b.ce, .slice b.Af b.F.length b.cf]) ∧ CapB b ∧ ReadB W W.heap.size b ∧ LenB maxLen b ∧ FitB b.say ∧ F64 b.n ∧ F64 b.t := by
  obtain ⟨cs, rfl, hsz⟩ := okWide_struct Tryd.underlying49 hv
  obtain ⟨c0, c1, c2, c3, c4, c5, rfl⟩ := array6 (hsz.trans Tryd.cellsBinL)
  obtain ⟨fuel, hf⟩ := h
  obtain ⟨xs, n, _, _, _, hlen, hfs⟩ := DataW.trod_struct Tryd.underlying49 hf
  match xs, hlen with
  | [y0, y1, y2, y3, y4, y5], _ =>
    have h0 : DataW.trod enc Tryd.prog W 0 spare held n 3 [c0] = some y0 := by simpa [Value.cells, Tryd.cellsInt, Tryd.cellsIntS, Tryd.cellsIntSS] using hfs 0 _ rfl
    have h1 : DataW.trod enc Tryd.prog W 0 spare held n 3 [c1] = some y1 := by simpa [Value.cells, Tryd.cellsInt, Tryd.cellsIntS, Tryd.cellsIntSS] using hfs 1 _ rfl
    have h2 : DataW.trod enc Tryd.prog W 0 spare held n 39 [c2] = some y2 := by simpa [Value.cells, Tryd.cellsInt, Tryd.cellsIntS, Tryd.cellsIntSS] using hfs 2 _ rfl
    have h3 : DataW.trod enc Tryd.prog W 0 spare held n 39 [c3] = some y3 := by simpa [Value.cells, Tryd.cellsInt, Tryd.cellsIntS, Tryd.cellsIntSS] using hfs 3 _ rfl
    have h4 : DataW.trod enc Tryd.prog W 0 spare held n 22 [c4] = some y4 := by simpa [Value.cells, Tryd.cellsInt, Tryd.cellsIntS, Tryd.cellsIntSS] using hfs 4 _ rfl
    have h5 : DataW.trod enc Tryd.prog W 0 spare held n 39 [c5] = some y5 := by simpa [Value.cells, Tryd.cellsInt, Tryd.cellsIntS, Tryd.cellsIntSS] using hfs 5 _ rfl
    obtain ⟨n, e0, _, w0⟩ := DataW.trod_int Tryd.underlying3 h0
    obtain ⟨t, e1, _, w1⟩ := DataW.trod_int Tryd.underlying3 h1
    injection e0 with e0
    injection e1 with e1
    subst e0 e1
    obtain ⟨Ap, P, cp, rfl, p1, p2, p3, p4, p5⟩ := open_intSS h2
    obtain ⟨Ao, O, co, rfl, o1, o2, o3, o4, o5⟩ := open_intSS h3
    obtain ⟨Ae, E, ce, rfl, i1, i2, i3, i4⟩ := open_intS h4
    obtain ⟨Af, F, cf, rfl, f1, f2, f3, f4, f5⟩ := open_intSS h5
    exact ⟨⟨n, t, Ap, P, cp, Ao, O, co, Ae, E, ce, Af, F, cf⟩, rfl, ⟨p1, o1, i1, f1⟩, ⟨p2, o2, i2, f2⟩, ⟨p3, p4, o3, o4, i3, f3, f4⟩, ⟨p5, o5, i4, f5⟩, bounds_i64 w0, bounds_i64 w1⟩
end

end Go.Proofs.YtfbpcdmpkbjifaaDoor

/- What the laws' marks write into lists of lists, and what they find again. -/

namespace Go.Proofs.YtfbpcdmpkbjifaaDoor
open Go.RowKit

theorem OwnL.at_ {w : World} {lo : Nat} {A : Option Addr} {ls : List Li} (h : OwnL w lo A ls) {i : Nat} (hi : i < ls.length) :
    ∃ g, A = some ⟨g, 0, none⟩ ∧ lo ≤ g ∧ g < w.heap.size ∧ w.cell? ⟨g, i, none⟩ = some (.slice ls[i].a ls[i].r.length ls[i].c) ∧ OwnI w lo ls[i].a ls[i].r := by
  rcases h with h | ⟨g, cs, ea, hl, hr, hc, _⟩
  · subst h; simp at hi
  · obtain ⟨h1, _, h3⟩ := hc i _ (List.getElem?_eq_getElem hi)
    exact ⟨g, ea, hl, hr.lt, by rw [hr.cell]; exact h1, h3⟩

theorem OwnL.setList {w w' : World} {lo : Nat} {A : Option Addr} {ls : List Li} (h : OwnL w lo A ls) {i : Nat} (hi : i < ls.length) {ys : List Int} (hy : ys.length = ls[i].r.length)
    (hO : OwnI w' lo ls[i].a ys) (hs : Save (Its ls[i].a ls[i].r) w w') : OwnL w' lo A (ls.set i { ls[i] with r := ys }) := by
  rcases h with h | ⟨g, cs, ea, hl, hr, hc, hd⟩
  · subst h; simp at hi
  · have hgi : ¬ Its ls[i].a ls[i].r g := by
      rintro ⟨e1, e2⟩
      rcases (hc i _ (List.getElem?_eq_getElem hi)).2.2 with h3 | ⟨g', cs', e3, _, hr', _⟩
      · exact e2 h3
      · rw [e1] at e3
        injection e3 with e3
        injection e3 with e3
        exact hr'.ne hr (by decide) e3.symm
    refine .inr ⟨g, cs, ea, hl, hr.save hs hgi, fun k u hu => ?_, fun a b u v hu hv hab hun hvn => ?_⟩
    · rw [List.getElem?_set] at hu
      by_cases e : i = k
      · subst e
        rw [if_pos rfl, if_pos hi] at hu
        injection hu with hu
        subst hu
        obtain ⟨h1, h2, _⟩ := hc i _ (List.getElem?_eq_getElem hi)
        exact ⟨by rw [hy]; exact h1, by rw [hy]; exact h2, hO⟩
      · rw [if_neg e] at hu
        obtain ⟨h1, h2, h3⟩ := hc k u hu
        refine ⟨h1, h2, h3.save hs fun g' e1 e2 hI => ?_⟩
        exact hd k i u ls[i] hu (List.getElem?_eq_getElem hi) (Ne.symm e) e2 hI.2 (e1.trans hI.1.symm)
    · have old : ∀ (j : Nat) (y : Li), (ls.set i { ls[i] with r := ys })[j]? = some y → ∃ z, ls[j]? = some z ∧ z.a = y.a ∧ (y.r ≠ [] → z.r ≠ []) := by
        intro j y hy'
        rw [List.getElem?_set] at hy'
        by_cases e : i = j
        · subst e
          rw [if_pos rfl, if_pos hi] at hy'
          injection hy' with hy'
          subst hy'
          refine ⟨ls[i], List.getElem?_eq_getElem hi, rfl, fun hn e => hn ?_⟩
          have : ys.length = 0 := by rw [hy, e]; rfl
          exact List.eq_nil_of_length_eq_zero this
        · rw [if_neg e] at hy'
          exact ⟨y, hy', rfl, id⟩
      obtain ⟨u', hu', e1, e2⟩ := old a u hu
      obtain ⟨v', hv', e3, e4⟩ := old b v hv
      rw [← e1, ← e3]
      exact hd a b u' v' hu' hv' hab (e2 hun) (e4 hvn)

/-- How many numbers the first i lists hold. -/
def lcnt (ls : List Li) (i : Nat) : Nat := ((ls.take i).map fun u => u.r.length).sum
theorem lcnt_succ {ls : List Li} {i : Nat} (hi : i < ls.length) : lcnt ls (i + 1) = lcnt ls i + ls[i].r.length := by
  unfold lcnt
  rw [List.take_succ_eq_append_getElem hi, List.map_append, List.sum_append]
  simp
theorem lcnt_zero (ls : List Li) : lcnt ls 0 = 0 := by simp [lcnt]

def markV (k : Int) (u : Li) : Li := { u with r := seqL k u.r.length }
/-- The lists with the first i of them marked from k on. -/
def markM (k : Int) (ls : List Li) (i : Nat) : List Li := ls.mapIdx fun j u => if j < i then markV (k + (lcnt ls j : Int)) u else u
theorem markM_length (k : Int) (ls : List Li) (i : Nat) : (markM k ls i).length = ls.length := by simp [markM]
theorem markM_at {k : Int} {ls : List Li} {i j : Nat} (h : j < ls.length) (hj : j < (markM k ls i).length) : (markM k ls i)[j] = if j < i then markV (k + (lcnt ls j : Int)) ls[j] else ls[j] := by simp [markM]
theorem markM_zero (k : Int) (ls : List Li) : markM k ls 0 = ls := by
  apply List.ext_getElem?
  intro j
  simp [markM]
theorem markM_step {k : Int} {ls : List Li} {i : Nat} (h : i < ls.length) : (markM k ls i).set i (markV (k + (lcnt ls i : Int)) ls[i]) = markM k ls (i + 1) := by
  apply List.ext_getElem?
  intro j
  rw [List.getElem?_set, markM_length]
  by_cases e : i = j
  · subst e
    rw [if_pos rfl, if_pos h]
    simp [markM, h]
  · rw [if_neg e]
    simp only [markM, List.getElem?_mapIdx]
    by_cases hj : j < ls.length
    · rw [List.getElem?_eq_getElem hj]
      simp only [Option.map_some]
      congr 1
      by_cases hji : j < i
      · rw [if_pos hji, if_pos (by omega)]
      · rw [if_neg hji, if_neg (by omega)]
    · rw [List.getElem?_eq_none (by omega)]
      rfl

/-- The blocks of a slice of lists and of the lists. -/
def ItsL (A : Option Addr) (ls : List Li) (b : Nat) : Prop := (A = some ⟨b, 0, none⟩ ∧ ls ≠ []) ∨ ∃ (i : Nat) (u : Li), ls[i]? = some u ∧ Its u.a u.r b

theorem OwnL.its {w : World} {lo : Nat} {A : Option Addr} {ls : List Li} (h : OwnL w lo A ls) {b : Nat} (hb : ItsL A ls b) : lo ≤ b ∧ b < w.heap.size := by
  rcases h with h | ⟨g, cs, ea, hl, hr, hc, _⟩
  · subst h
    rcases hb with ⟨_, h⟩ | ⟨i, u, h, _⟩
    · exact absurd rfl h
    · simp at h
  · rcases hb with ⟨e, _⟩ | ⟨i, u, hu, e, hn⟩
    · rw [ea] at e; injection e with e; injection e with e; subst e; exact ⟨hl, hr.lt⟩
    · rcases (hc i u hu).2.2 with h3 | ⟨g', cs', e3, l3, hr', _⟩
      · exact absurd h3 hn
      · rw [e] at e3; injection e3 with e3; injection e3 with e3; subst e3; exact ⟨l3, hr'.lt⟩

def MarkedL (w : World) (lo : Nat) (A : Option Addr) (ls : List Li) (k : Int) (e : Ending) (w' : World) : Prop :=
  e = .returned (.int .i64 (k + (lcnt ls ls.length : Int))) ∧ OwnL w' lo A (markM k ls ls.length) ∧ Save (ItsL A ls) w w'

theorem mark_nextL {wr w1 : World} {lo : Nat} {A : Option Addr} {j : Nat} {ls : List Li} {k : Int} (H : OwnL wr lo A (markM k ls j)) (hlt : j < ls.length)
    (hO : OwnI w1 lo ls[j].a (seqL (k + (lcnt ls j : Int)) ls[j].r.length)) (hS : Save (Its ls[j].a ls[j].r) wr w1) : OwnL w1 lo A (markM k ls (j + 1)) := by
  have hlt' : j < (markM k ls j).length := by rw [markM_length]; exact hlt
  have hat : (markM k ls j)[j] = ls[j] := by rw [markM_at hlt, if_neg (by omega)]
  have h2 := H.setList (i := j) (w' := w1) (ys := seqL (k + (lcnt ls j : Int)) ls[j].r.length) hlt' (by simp [hat, seqL_length]) (by simpa [hat] using hO) (by simpa [hat] using hS)
  rw [← markM_step hlt]
  simpa [hat, markV] using h2

set_option maxHeartbeats 400000 in
theorem markIntSS_any (A : Option Addr) (ls : List Li) (c lo : Nat) (k : Int) (w : World) (h : OwnL w lo A ls) (hn : ls.length ≤ 1048576) (hu : ∀ u ∈ ls, u.r.length ≤ 1048576) (hk : 0 ≤ k) (hk' : k ≤ 2199030000000) :
    Calls Tryd.prog 28 #[.slice A ls.length c, .int .i64 k] w (MarkedL w lo A ls k) := by
  have HO := Lib.hid h; clear h
  have HU := Lib.hid hu; clear hu
  go_enter Tryd.func28, Tryd.ntmps28
  go_wp2
  go_loopw [1, 5] (fun v i wr => ∃ (j : Nat), j ≤ ls.length ∧ i = .int .i64 j ∧ v = .int .i64 (k + (lcnt ls j : Int)) ∧ lcnt ls j ≤ j * 1048577 ∧ Hid (OwnL wr lo A (markM k ls j)) ∧ Hid (Save (ItsL A ls) w wr)) (fun _ i _ => ls.length - (intOf i).toNat)
  case atStart => exact ⟨0, by omega, rfl, by simp [lcnt_zero], by simp [lcnt_zero], by show OwnL _ _ _ _; rw [markM_zero]; exact HO.out, Save.refl _ _⟩
  case round =>
    obtain ⟨j, hj, rfl, rfl, hcn, H, HS⟩ := hrel
    by_cases hlt : j < ls.length
    · have hlt' : j < (markM k ls j).length := by rw [markM_length]; exact hlt
      have hat : (markM k ls j)[j] = ls[j] := by rw [markM_at hlt, if_neg (by omega)]
      obtain ⟨g, rfl, _, _, c1, c3⟩ := H.out.at_ hlt'
      rw [hat] at c1 c3
      have C3 := Lib.hid c3
      have hul := HU.out ls[j] (List.getElem_mem hlt)
      have HCS := Lib.hid (lcnt_succ hlt)
      clear c3 hat hlt'
      go_wp2_with fail
      refine (markIntS_any _ _ _ lo _ _ C3.out hul (by omega) (by omega)).mono ?_
      rintro e w1 ⟨rfl, hO1, hS1⟩
      have HO1 := Lib.hid hO1; clear hO1
      have HS1 := Lib.hid hS1; clear hS1
      go_wp2
      go_roundw
      case rel => exact ⟨j + 1, by omega, by go_num, by rw [HCS.out]; go_num, by rw [HCS.out]; omega, mark_nextL H.out hlt HO1.out HS1.out, HS.out.trans (HS1.out.wider fun i hi => .inr ⟨j, ls[j], List.getElem?_eq_getElem hlt, hi⟩)⟩
      case measure => simp [intOf]; omega
    · obtain rfl : j = ls.length := by omega
      go_wp2
      go_ret
      exact ⟨rfl, H.out, HS.out⟩

set_option maxHeartbeats 400000 in
theorem heldIntSS_any (A : Option Addr) (ls : List Li) (c : Nat) (k : Int) (w : World) (h : Lls w w.heap.size A (markM k ls ls.length)) (hn : ls.length ≤ 1048576) (hu : ∀ u ∈ ls, u.r.length ≤ 1048576) (hk : 0 ≤ k) (hk' : k ≤ 2199030000000) :
    Calls Tryd.prog 29 #[.slice A ls.length c, .int .i64 k] w fun e w' => e = .returned (.int .i64 (k + (lcnt ls ls.length : Int))) ∧ Below w.heap.size w w' := by
  have HO := Lib.hid h; clear h
  have HU := Lib.hid hu; clear hu
  go_enter Tryd.func29, Tryd.ntmps29
  go_wp2
  go_loopw [1, 5] (fun v i wr => ∃ (j : Nat), j ≤ ls.length ∧ i = .int .i64 j ∧ v = .int .i64 (k + (lcnt ls j : Int)) ∧ lcnt ls j ≤ j * 1048577 ∧ Below w.heap.size w wr) (fun _ i _ => ls.length - (intOf i).toNat)
  case atStart => exact ⟨0, by omega, rfl, by simp [lcnt_zero], by simp [lcnt_zero], Below.refl _ _⟩
  case round =>
    obtain ⟨j, hj, rfl, rfl, hcn, hB⟩ := hrel
    by_cases hlt : j < ls.length
    · have hat : (markM k ls ls.length)[j]'(by rw [markM_length]; exact hlt) = markV (k + (lcnt ls j : Int)) ls[j] := by rw [markM_at hlt, if_pos hlt]
      obtain ⟨b, o, rfl, hb, c1, _, c3⟩ := (HO.out.keep hB).at_ (k := j) (by rw [markM_length]; exact hlt)
      rw [hat] at c1 c3
      simp only [markV, seqL_length] at c1 c3
      have C3 := Lib.hid (c3.more hB.size)
      have hul := HU.out ls[j] (List.getElem_mem hlt)
      have HCS := Lib.hid (lcnt_succ hlt)
      clear c3 hat
      go_wp2_with fail
      refine (heldIntS_any _ _ _ _ _ C3.out hul (by omega) (by omega)).mono ?_
      rintro e w1 ⟨rfl, hB1⟩
      have HB1 := Lib.hid (hB.trans (hB1.mono hB.size)); clear hB1
      go_wp2
      go_roundw
      case rel => exact ⟨j + 1, by omega, by go_num, by rw [HCS.out]; go_num, by rw [HCS.out]; omega, HB1.out⟩
      case measure => simp [intOf]; omega
    · obtain rfl : j = ls.length := by omega
      go_wp2
      go_ret
      exact ⟨rfl, hB⟩

end Go.Proofs.YtfbpcdmpkbjifaaDoor

/- What the walks of the laws with a list of lists as their answer share. -/

namespace Go.Proofs.YtfbpcdmpkbjifaaDoor
open Go.RowKit

theorem OwnL.kept {S : Nat → Prop} {w w' : World} {lo : Nat} {A : Option Addr} {ls : List Li} (h : OwnL w lo A ls) (hs : Save S w w') (hd : ∀ b, ItsL A ls b → ¬ S b) : OwnL w' lo A ls := by
  by_cases e : ls = []
  · exact .inl e
  · rcases h with h | ⟨g, cs, ea, hl, hr, hc, hdd⟩
    · exact .inl h
    · refine .inr ⟨g, cs, ea, hl, hr.save hs (hd g (.inl ⟨ea, e⟩)), fun k u hu => ?_, hdd⟩
      obtain ⟨h1, h2, h3⟩ := hc k u hu
      exact ⟨h1, h2, h3.kept hs fun b hb => hd b (.inr ⟨k, u, hu, hb⟩)⟩

theorem say_len {ls : List Li} {xs : List (List Int)} {m : Nat} (h : sayL ls = xs) (hx : xs.length ≤ m) : ls.length ≤ m := by rw [sayL_len' h]; exact hx
theorem say_lens {ls : List Li} {xs : List (List Int)} {m : Nat} (h : sayL ls = xs) (hx : ∀ x ∈ xs, x.length ≤ m) : ∀ u ∈ ls, u.r.length ≤ m := fun u hu => hx u.r (h ▸ sayL_mem hu)

end Go.Proofs.YtfbpcdmpkbjifaaDoor

/- What the walks of the laws with a grammar as their answer share, in any seat. -/

namespace Go.Proofs.YtfbpcdmpkbjifaaDoor
open Go.RowKit

theorem Box3.save {S : Nat → Prop} {w w' : World} {g : Nat} {a b c : Value} (h : Box3 w g a b c) (hs : Save S w w') (hg : ¬ S g) : Box3 w' g a b c := by
  obtain ⟨h0, h1, h2, h3⟩ := h
  have hb := hs.block g h0 hg
  exact ⟨by have := hs.size; omega, (World.cell?_of_block (a := ⟨g, 0, none⟩) hb).trans h1, (World.cell?_of_block (a := ⟨g, 1, none⟩) hb).trans h2, (World.cell?_of_block (a := ⟨g, 2, none⟩) hb).trans h3⟩

theorem OwnR.kept {S : Nat → Prop} {w w' : World} {lo : Nat} {A : Option Addr} {rs : List Ru} (h : OwnR w lo A rs) (hs : Save S w w') (hd : ∀ b, ItsR A rs b → ¬ S b) : OwnR w' lo A rs := by
  by_cases e : rs = []
  · exact .inl e
  · rcases h with h | ⟨g, cs, ea, hl, hr, hc, hdd⟩
    · exact .inl h
    · refine .inr ⟨g, cs, ea, hl, hr.save hs (hd g (.inl ⟨ea, e⟩)), fun k u hu => ?_, hdd⟩
      obtain ⟨h1, h2, h3⟩ := hc k u hu
      exact ⟨h1, h2, h3.kept hs fun b hb => hd b (.inr ⟨k, u, hu, hb⟩)⟩

theorem says_len {rs : List Ru} {ss : List (Int × List Int)} (h : rs.map Ru.abs = ss) (hs : ss.length ≤ 1048576) : rs.length ≤ 1048576 := by rw [← h, List.length_map] at hs; exact hs
theorem says_lens {rs : List Ru} {ss : List (Int × List Int)} (h : rs.map Ru.abs = ss) (hs : ∀ u ∈ ss, u.2.length ≤ 1048576) : ∀ u ∈ rs, u.r.length ≤ 1048576 := fun u hu => hs u.abs (h ▸ List.mem_map.2 ⟨u, hu, rfl⟩)

theorem box_new (w : World) (a b c : Value) (t : TypeId) : Box3 (w.alloc (.cells #[a, b, c] t)) w.heap.size a b c := ⟨by simp, by simp [go_sem], by simp [go_sem], by simp [go_sem]⟩
theorem below_new (w : World) (o : Obj) : Below w.heap.size w (w.alloc o) := (Below.refl _ _).alloc (Nat.le_refl _) _

end Go.Proofs.YtfbpcdmpkbjifaaDoor
