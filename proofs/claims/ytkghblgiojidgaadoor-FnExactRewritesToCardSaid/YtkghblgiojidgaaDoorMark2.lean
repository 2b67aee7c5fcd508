/- What the laws' marks write into a grammar, and what they find again. -/
import Derived.Test.YtkghblgiojidgaaDoorMark
namespace Go.Proofs.YtkghblgiojidgaaDoor
open Go.RowKit

theorem OwnR.at_ {w : World} {lo : Nat} {A : Option Addr} {rs : List Ru} (h : OwnR w lo A rs) {i : Nat} (hi : i < rs.length) :
    ∃ g, A = some ⟨g, 0, none⟩ ∧ lo ≤ g ∧ g < w.heap.size ∧ w.cell? ⟨g, i * 2, none⟩ = some (.int .i64 rs[i].l) ∧ w.cell? ⟨g, i * 2 + 1, none⟩ = some (.slice rs[i].a rs[i].r.length rs[i].c) ∧ w.frozen? ⟨g, i * 2, none⟩ = false ∧ w.frozen? ⟨g, i * 2 + 1, none⟩ = false ∧ OwnI w lo rs[i].a rs[i].r := by
  rcases h with h | ⟨g, cs, ea, hl, hr, hc, _⟩
  · subst h; simp at hi
  · obtain ⟨h1, h2, h3⟩ := hc i _ (List.getElem?_eq_getElem hi)
    exact ⟨g, ea, hl, hr.lt, by rw [hr.cell]; exact h1, by rw [hr.cell]; exact h2, hr.frozen _, hr.frozen _, h3⟩

theorem OwnR.setLeft {w : World} {lo g : Nat} {rs : List Ru} (h : OwnR w lo (some ⟨g, 0, none⟩) rs) {i : Nat} (hi : i < rs.length) (x : Int) :
    OwnR (w.setCell ⟨g, i * 2, none⟩ (.int .i64 x)) lo (some ⟨g, 0, none⟩) (rs.set i { rs[i] with l := x }) := by
  rcases h with h | ⟨g', cs, ea, hl, hr, hc, hd⟩
  · subst h; simp at hi
  · injection ea with ea
    injection ea with ea
    subst ea
    have hlt : i * 2 < cs.size := (Array.getElem?_eq_some_iff.1 (hc i _ (List.getElem?_eq_getElem hi)).1).1
    have keep : ∀ {A' : Option Addr} {xs : List Int}, OwnI w lo A' xs → OwnI (w.setCell ⟨g, i * 2, none⟩ (.int .i64 x)) lo A' xs := by
      intro A' xs h
      rcases h with h | ⟨g', cs', e, hl', hr', hc'⟩
      · exact .inl h
      · exact .inr ⟨g', cs', e, hl', hr'.far (hr'.ne hr (by decide)) _, hc'⟩
    refine .inr ⟨g, cs.setIfInBounds (i * 2) (.int .i64 x), rfl, hl, hr.set _ _, fun k u hu => ?_, fun a b u v hu hv hab hun hvn => ?_⟩
    · rw [List.getElem?_set] at hu
      by_cases e : i = k
      · subst e
        rw [if_pos rfl, if_pos hi] at hu
        injection hu with hu
        subst hu
        obtain ⟨_, h2, h3⟩ := hc i _ (List.getElem?_eq_getElem hi)
        refine ⟨by rw [Array.getElem?_setIfInBounds, if_pos rfl, if_pos hlt], ?_, keep h3⟩
        rw [Array.getElem?_setIfInBounds, if_neg (by omega)]; exact h2
      · rw [if_neg e] at hu
        obtain ⟨h1, h2, h3⟩ := hc k u hu
        refine ⟨?_, ?_, keep h3⟩
        · rw [Array.getElem?_setIfInBounds, if_neg (by omega)]; exact h1
        · rw [Array.getElem?_setIfInBounds, if_neg (by omega)]; exact h2
    · have old : ∀ (j : Nat) (y : Ru), (rs.set i { rs[i] with l := x })[j]? = some y → ∃ z, rs[j]? = some z ∧ z.a = y.a ∧ z.r = y.r := by
        intro j y hy
        rw [List.getElem?_set] at hy
        by_cases e : i = j
        · subst e
          rw [if_pos rfl, if_pos hi] at hy
          injection hy with hy
          subst hy
          exact ⟨rs[i], List.getElem?_eq_getElem hi, rfl, rfl⟩
        · rw [if_neg e] at hy
          exact ⟨y, hy, rfl, rfl⟩
      obtain ⟨u', hu', e1, e2⟩ := old a u hu
      obtain ⟨v', hv', e3, e4⟩ := old b v hv
      rw [← e1, ← e3]
      exact hd a b u' v' hu' hv' hab (by rw [e2]; exact hun) (by rw [e4]; exact hvn)

theorem OwnR.setRight {w w' : World} {lo : Nat} {A : Option Addr} {rs : List Ru} (h : OwnR w lo A rs) {i : Nat} (hi : i < rs.length) {ys : List Int} (hy : ys.length = rs[i].r.length)
    (hO : OwnI w' lo rs[i].a ys) (hs : Save (Its rs[i].a rs[i].r) w w') : OwnR w' lo A (rs.set i { rs[i] with r := ys }) := by
  rcases h with h | ⟨g, cs, ea, hl, hr, hc, hd⟩
  · subst h; simp at hi
  · have hgi : ¬ Its rs[i].a rs[i].r g := by
      rintro ⟨e1, e2⟩
      rcases (hc i _ (List.getElem?_eq_getElem hi)).2.2 with h3 | ⟨g', cs', e3, _, hr', _⟩
      · exact e2 h3
      · rw [e1] at e3
        injection e3 with e3
        injection e3 with e3
        exact hr'.ne hr (by decide) e3.symm
    refine .inr ⟨g, cs, ea, hl, hr.save hs hgi, fun k u hu => ?_, fun a b u v hu hv hab hun hvn => ?_⟩
    · rw [List.getElem?_set] at hu
      by_cases e : i = k
      · subst e
        rw [if_pos rfl, if_pos hi] at hu
        injection hu with hu
        subst hu
        obtain ⟨h1, h2, _⟩ := hc i _ (List.getElem?_eq_getElem hi)
        exact ⟨h1, by rw [hy]; exact h2, hO⟩
      · rw [if_neg e] at hu
        obtain ⟨h1, h2, h3⟩ := hc k u hu
        refine ⟨h1, h2, h3.save hs fun g' e1 e2 hI => ?_⟩
        exact hd k i u rs[i] hu (List.getElem?_eq_getElem hi) (Ne.symm e) e2 hI.2 (e1.trans hI.1.symm)
    · have old : ∀ (j : Nat) (y : Ru), (rs.set i { rs[i] with r := ys })[j]? = some y → ∃ z, rs[j]? = some z ∧ z.a = y.a ∧ (y.r ≠ [] → z.r ≠ []) := by
        intro j y hy'
        rw [List.getElem?_set] at hy'
        by_cases e : i = j
        · subst e
          rw [if_pos rfl, if_pos hi] at hy'
          injection hy' with hy'
          subst hy'
          refine ⟨rs[i], List.getElem?_eq_getElem hi, rfl, fun hn e => hn ?_⟩
          have : ys.length = 0 := by rw [hy, e]; rfl
          exact List.eq_nil_of_length_eq_zero this
        · rw [if_neg e] at hy'
          exact ⟨y, hy', rfl, id⟩
      obtain ⟨u', hu', e1, e2⟩ := old a u hu
      obtain ⟨v', hv', e3, e4⟩ := old b v hv
      rw [← e1, ← e3]
      exact hd a b u' v' hu' hv' hab (e2 hun) (e4 hvn)

/-- How many numbers the first i rules hold. -/
def cntTo (rs : List Ru) (i : Nat) : Nat := ((rs.take i).map fun u => 1 + u.r.length).sum
theorem cntTo_succ {rs : List Ru} {i : Nat} (hi : i < rs.length) : cntTo rs (i + 1) = cntTo rs i + (1 + rs[i].r.length) := by
  unfold cntTo
  rw [List.take_succ_eq_append_getElem hi, List.map_append, List.sum_append]
  simp
theorem cntTo_zero (rs : List Ru) : cntTo rs 0 = 0 := by simp [cntTo]

def markU (k : Int) (u : Ru) : Ru := { u with l := k, r := seqL (k + 1) u.r.length }
/-- The rules with the first i of them marked from k on. -/
def markL (k : Int) (rs : List Ru) (i : Nat) : List Ru := rs.mapIdx fun j u => if j < i then markU (k + (cntTo rs j : Int)) u else u
theorem markL_length (k : Int) (rs : List Ru) (i : Nat) : (markL k rs i).length = rs.length := by simp [markL]
theorem markL_at {k : Int} {rs : List Ru} {i j : Nat} (h : j < rs.length) (hj : j < (markL k rs i).length) : (markL k rs i)[j] = if j < i then markU (k + (cntTo rs j : Int)) rs[j] else rs[j] := by simp [markL]
theorem markL_zero (k : Int) (rs : List Ru) : markL k rs 0 = rs := by
  apply List.ext_getElem?
  intro j
  simp [markL]
theorem markL_step {k : Int} {rs : List Ru} {i : Nat} (h : i < rs.length) : (markL k rs i).set i (markU (k + (cntTo rs i : Int)) rs[i]) = markL k rs (i + 1) := by
  apply List.ext_getElem?
  intro j
  rw [List.getElem?_set, markL_length]
  by_cases e : i = j
  · subst e
    rw [if_pos rfl, if_pos h]
    simp [markL, h]
  · rw [if_neg e]
    simp only [markL, List.getElem?_mapIdx]
    by_cases hj : j < rs.length
    · rw [List.getElem?_eq_getElem hj]
      simp only [Option.map_some]
      congr 1
      by_cases hji : j < i
      · rw [if_pos hji, if_pos (by omega)]
      · rw [if_neg hji, if_neg (by omega)]
    · rw [List.getElem?_eq_none (by omega)]
      rfl

/-- The blocks of a slice of rules and of their right sides. -/
def ItsR (A : Option Addr) (rs : List Ru) (b : Nat) : Prop := (A = some ⟨b, 0, none⟩ ∧ rs ≠ []) ∨ ∃ (i : Nat) (u : Ru), rs[i]? = some u ∧ Its u.a u.r b

def MarkedR (w : World) (lo : Nat) (A : Option Addr) (rs : List Ru) (k : Int) (e : Ending) (w' : World) : Prop :=
  e = .returned (.int .i64 (k + (cntTo rs rs.length : Int))) ∧ OwnR w' lo A (markL k rs rs.length) ∧ Save (ItsR A rs) w w'

theorem set_left_right {rs : List Ru} {i : Nat} (h : i < rs.length) (x : Int) (ys : List Int) :
    ((rs.set i { rs[i] with l := x }).set i { (rs.set i { rs[i] with l := x })[i]'(by simpa using h) with r := ys }) = rs.set i { rs[i] with l := x, r := ys } := by
  rw [List.set_set]
  congr 1
  simp

theorem mark_right {wr : World} {lo g j : Nat} {rs : List Ru} {k : Int} (H : OwnR wr lo (some ⟨g, 0, none⟩) (markL k rs j)) (hlt : j < rs.length) (x : Int) : OwnI (wr.setCell ⟨g, j * 2, none⟩ (.int .i64 x)) lo rs[j].a rs[j].r := by
  have hlt' : j < (markL k rs j).length := by rw [markL_length]; exact hlt
  have hat : (markL k rs j)[j] = rs[j] := by rw [markL_at hlt, if_neg (by omega)]
  obtain ⟨_, _, _, _, _, _, _, _, h3⟩ := (H.setLeft hlt' x).at_ (i := j) (by simpa using hlt')
  simpa [hat] using h3

theorem mark_next {wr w1 : World} {lo g j : Nat} {rs : List Ru} {k : Int} (H : OwnR wr lo (some ⟨g, 0, none⟩) (markL k rs j)) (hlt : j < rs.length)
    (hO : OwnI w1 lo rs[j].a (seqL (k + (cntTo rs j : Int) + 1) rs[j].r.length)) (hS : Save (Its rs[j].a rs[j].r) (wr.setCell ⟨g, j * 2, none⟩ (.int .i64 (k + (cntTo rs j : Int)))) w1) :
    OwnR w1 lo (some ⟨g, 0, none⟩) (markL k rs (j + 1)) := by
  have hlt' : j < (markL k rs j).length := by rw [markL_length]; exact hlt
  have hat : (markL k rs j)[j] = rs[j] := by rw [markL_at hlt, if_neg (by omega)]
  have h2 := (H.setLeft hlt' (k + (cntTo rs j : Int))).setRight (i := j) (w' := w1) (ys := seqL (k + (cntTo rs j : Int) + 1) rs[j].r.length) (by simpa using hlt') (by simp [hat, seqL_length]) (by simpa [hat] using hO) (by simpa [hat] using hS)
  rw [set_left_right] at h2
  rw [← markL_step hlt]
  simpa [hat, markU] using h2

set_option maxHeartbeats 400000 in
theorem markRuleS_any (A : Option Addr) (rs : List Ru) (c lo : Nat) (k : Int) (w : World) (h : OwnR w lo A rs) (hn : rs.length ≤ 1048576) (hu : ∀ u ∈ rs, u.r.length ≤ 1048576) (hk : 0 ≤ k) (hk' : k ≤ 16) :
    Calls Tryd.prog 64 #[.slice A rs.length c, .int .i64 k] w (MarkedR w lo A rs k) := by
  have HO := Lib.hid h; clear h
  have HU := Lib.hid hu; clear hu
  go_enter Tryd.func64, Tryd.ntmps64
  go_wp2
  go_loopw [1, 5] (fun v i wr => ∃ (j : Nat), j ≤ rs.length ∧ i = .int .i64 j ∧ v = .int .i64 (k + (cntTo rs j : Int)) ∧ cntTo rs j ≤ j * 1048577 ∧ Hid (OwnR wr lo A (markL k rs j)) ∧ Hid (Save (ItsR A rs) w wr)) (fun _ i _ => rs.length - (intOf i).toNat)
  case atStart => exact ⟨0, by omega, rfl, by simp [cntTo_zero], by simp [cntTo_zero], by show OwnR _ _ _ _; rw [markL_zero]; exact HO.out, Save.refl _ _⟩
  case round =>
    obtain ⟨j, hj, rfl, rfl, hcn, H, HS⟩ := hrel
    by_cases hlt : j < rs.length
    · have hlt' : j < (markL k rs j).length := by rw [markL_length]; exact hlt
      have hat : (markL k rs j)[j] = rs[j] := by rw [markL_at hlt, if_neg (by omega)]
      obtain ⟨g, rfl, _, _, c1, c2, f1, f2, c3⟩ := H.out.at_ hlt'
      rw [hat] at c1 c2
      have hul := HU.out rs[j] (List.getElem_mem hlt)
      have HCS := Lib.hid (cntTo_succ hlt)
      clear c3 hat hlt'
      go_wp2_with fail
      refine (markIntS_any _ _ _ lo _ _ (mark_right H.out hlt _) hul (by omega) (by omega)).mono ?_
      rintro e w1 ⟨rfl, hO1, hS1⟩
      have HO1 := Lib.hid hO1; clear hO1
      have HS1 := Lib.hid hS1; clear hS1
      go_wp2
      go_roundw
      case rel => exact ⟨j + 1, by omega, by go_num, by rw [HCS.out]; go_num, by rw [HCS.out]; omega, mark_next H.out hlt HO1.out HS1.out, (HS.out.setCell (.inl ⟨rfl, fun e => by subst e; simp at hlt⟩) _).trans (HS1.out.wider fun i hi => .inr ⟨j, rs[j], List.getElem?_eq_getElem hlt, hi⟩)⟩
      case measure => simp [intOf]; omega
    · obtain rfl : j = rs.length := by omega
      go_wp2
      go_ret
      exact ⟨rfl, H.out, HS.out⟩

theorem cntTo_le {rs : List Ru} (hu : ∀ u ∈ rs, u.r.length ≤ 1048576) (i : Nat) : cntTo rs i ≤ i * 1048577 := by
  induction i with
  | zero => simp [cntTo_zero]
  | succ i ih =>
    by_cases h : i < rs.length
    · have := hu rs[i] (List.getElem_mem h)
      rw [cntTo_succ h]; omega
    · have e : cntTo rs (i + 1) = cntTo rs i := by unfold cntTo; rw [List.take_of_length_le (by omega), List.take_of_length_le (by omega)]
      omega

set_option maxHeartbeats 400000 in
theorem markGrammar_any (n t : Int) (A : Option Addr) (rs : List Ru) (c lo : Nat) (k : Int) (w : World) (h : OwnR w lo A rs) (hn : rs.length ≤ 1048576) (hu : ∀ u ∈ rs, u.r.length ≤ 1048576) (hk : 0 ≤ k) (hk' : k ≤ 16) :
    Calls Tryd.prog 26 #[.agg #[.int .i64 n, .int .i64 t, .slice A rs.length c], .int .i64 k] w (MarkedR w lo A rs k) := by
  have HB0 : Hid (Below w.heap.size w (w.alloc (.cells #[.int .i64 n, .int .i64 t, .slice A rs.length c] 30))) := by show Below _ _ _; go_grown
  have HO := Lib.hid (h.below HB0.out (Nat.le_refl _)); clear h
  have HU := Lib.hid hu; clear hu
  go_enter Tryd.func26, Tryd.ntmps26
  go_wp2_with fail
  refine (markRuleS_any _ _ _ lo _ _ HO.out hn HU.out hk hk').mono ?_
  rintro e w1 ⟨rfl, hO1, hS1⟩
  have HO1 := Lib.hid hO1; clear hO1
  have HS1 := Lib.hid hS1; clear hS1
  go_wp2
  go_ret
  exact ⟨rfl, HO1.out, (Save.of_below HB0.out).trans HS1.out⟩



end Go.Proofs.YtkghblgiojidgaaDoor
