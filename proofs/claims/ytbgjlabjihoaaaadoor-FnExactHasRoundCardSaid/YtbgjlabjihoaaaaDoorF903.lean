/- What the laws' copies of a forest make: new memory that reads as what was copied. -/
import Derived.Test.YtbgjlabjihoaaaaDoorF902
import Derived.Test.YtbgjlabjihoaaaaDoorF901
import Derived.OwnWalk

namespace Go.Proofs.YtbgjlabjihoaaaaDoor
open Go.RowKit

theorem Tryd.infoNode : (Tryd.prog.info? 86).map (fun i => (i.zero, i.size, i.bytes)) = some (some (.agg #[.int .i64 0, .int .i64 0, .int .i64 0]), 3, 24) := by kernel_rfl
theorem Tryd.infoEdge : (Tryd.prog.info? 67).map (fun i => (i.zero, i.size, i.bytes)) = some (some (.agg #[.int .i64 0, .int .i64 0, .slice none 0 0]), 3, 40) := by kernel_rfl

def zN (n : Nat) : Array Value := madeCells #[.int .i64 0, .int .i64 0, .int .i64 0] (n * 3)
theorem zN_size (n : Nat) : (zN n).size = n * 3 := size_madeCells _ _
def zE (n : Nat) : Array Value := madeCells #[.int .i64 0, .int .i64 0, .slice none 0 0] (n * 3)
theorem zE_size (n : Nat) : (zE n).size = n * 3 := size_madeCells _ _

theorem make_nodes (n : Nat) (hn : n ≤ 1048576) (w : World) :
    (Instr.makeSlice 30 (.int .i64 (n : Int)) (.int .i64 (n : Int))).run Tryd.prog w = .ok (.slice (some ⟨w.heap.size, 0, none⟩) n n) (w.alloc (.cells (zN n) 86)) := by
  obtain ⟨i, hi, hz, hs, hb⟩ := info_of Tryd.infoNode
  have h := run_make (P := Tryd.prog) w 30 86 i _ Tryd.underlying30 hi hz .i64 .i64 n n (by omega) (by omega) (by rw [hb]; omega) (by omega)
  rw [hs] at h
  simpa [zN, Value.cells] using h
theorem make_edges (n : Nat) (hn : n ≤ 1048576) (w : World) :
    (Instr.makeSlice 31 (.int .i64 (n : Int)) (.int .i64 (n : Int))).run Tryd.prog w = .ok (.slice (some ⟨w.heap.size, 0, none⟩) n n) (w.alloc (.cells (zE n) 67)) := by
  obtain ⟨i, hi, hz, hs, hb⟩ := info_of Tryd.infoEdge
  have h := run_make (P := Tryd.prog) w 31 67 i _ Tryd.underlying31 hi hz .i64 .i64 n n (by omega) (by omega) (by rw [hb]; omega) (by omega)
  rw [hs] at h
  simpa [zE, Value.cells] using h

set_option maxHeartbeats 400000 in
theorem toNode_any (n f t : Int) (w : World) :
    Calls Tryd.prog 50 #[.agg #[.int .i64 n, .int .i64 f, .int .i64 t]] w fun e w' => e = .returned (.agg #[.int .i64 n, .int .i64 f, .int .i64 t]) ∧ Below w.heap.size w w' := by
  go_enter Tryd.func50, Tryd.ntmps50
  go_wp2
  refine bodyPost_ret (v := .agg #[.int .i64 n, .int .i64 f, .int .i64 t]) (by simp [results, Tryd.results50, go_sem]) rfl ⟨rfl, ?_⟩
  go_grown

theorem copied3 {ds : List Nd} {cs : Array Value} {k : Nat} (hlt : k < ds.length) (hs : cs.size = ds.length * 3) (h : ∀ (j : Nat) (x : Int), j < k * 3 → (flatN ds)[j]? = some x → cs[j]? = some (.int .i64 x)) :
    ∀ (j : Nat) (x : Int), j < (k + 1) * 3 → (flatN ds)[j]? = some x → (((cs.setIfInBounds (k * 3) (.int .i64 ds[k].n)).setIfInBounds (k * 3 + 1) (.int .i64 ds[k].f)).setIfInBounds (k * 3 + 2) (.int .i64 ds[k].t))[j]? = some (.int .i64 x) := by
  intro j x hj hx
  obtain ⟨h0, h1, h2⟩ := flatN_at hlt
  simp only [Array.getElem?_setIfInBounds, Array.size_setIfInBounds]
  by_cases e2 : k * 3 + 2 = j
  · subst e2; rw [h2] at hx; rw [if_pos rfl, if_pos (by omega)]; simpa using hx
  rw [if_neg e2]
  by_cases e1 : k * 3 + 1 = j
  · subst e1; rw [h1] at hx; rw [if_pos rfl, if_pos (by omega)]; simpa using hx
  rw [if_neg e1]
  by_cases e0 : k * 3 = j
  · subst e0; rw [h0] at hx; rw [if_pos rfl, if_pos (by omega)]; simpa using hx
  rw [if_neg e0]
  exact h j x (by omega) hx

/-- A new slice of nodes that reads as ds; nothing older has turned. -/
def GaveNd (w : World) (ds : List Nd) (e : Ending) (w' : World) : Prop :=
  ∃ A c, e = .returned (.slice A ds.length c) ∧ ds.length ≤ c ∧ OwnNd w' w.heap.size A ds ∧ Below w.heap.size w w'

set_option maxHeartbeats 1000000 in
theorem toNodeS_any (A : Option Addr) (ds : List Nd) (c : Nat) (w : World) (hr : Nds w w.heap.size A ds) (hn : ds.length ≤ 1048576) :
    Calls Tryd.prog 31 #[.slice A ds.length c] w (GaveNd w ds) := by
  have hmk := make_nodes ds.length hn
  have HR := Lib.hid hr; clear hr
  go_enter Tryd.func31, Tryd.ntmps31
  go_wp2
  go_loopw [4] (fun i wr => ∃ (k : Nat) (cs : Array Value), k ≤ ds.length ∧ i = .int .i64 k ∧ w.heap.size < wr.heap.size ∧ Below w.heap.size w wr ∧ Hid (Row wr w.heap.size 86 cs ∧ cs.size = ds.length * 3 ∧ ∀ (j : Nat) (x : Int), j < k * 3 → (flatN ds)[j]? = some x → cs[j]? = some (.int .i64 x))) (fun i _ => ds.length - (intOf i).toNat)
  case atStart => exact ⟨0, zN ds.length, by omega, rfl, by simp, (Below.refl _ _).alloc (Nat.le_refl _) _, Row.new _ _ _, zN_size _, fun j x h => absurd h (by omega)⟩
  case round =>
    obtain ⟨k, cs, hk, rfl, hsz, hB, H⟩ := hrel
    clear hmk
    by_cases hlt : k < ds.length
    · obtain ⟨b, o, rfl, hb, c0, c1, c2⟩ := (HR.out.keep hB).at_ hlt
      go_wp2_with fail
      refine (toNode_any _ _ _ _).mono ?_
      rintro e w1 ⟨rfl, hB1⟩
      have hr1 := H.out.1.below hB1 hsz
      have hcz := H.out.2.1
      obtain ⟨x0, d0⟩ : ∃ x0, w1.cell? ⟨w.heap.size, k * 3, none⟩ = some x0 := ⟨_, (hr1.cell (k * 3)).trans (Array.getElem?_eq_getElem (by omega))⟩
      obtain ⟨x1, d1⟩ : ∃ x1, w1.cell? ⟨w.heap.size, k * 3 + 1, none⟩ = some x1 := ⟨_, (hr1.cell (k * 3 + 1)).trans (Array.getElem?_eq_getElem (by omega))⟩
      obtain ⟨x2, d2⟩ : ∃ x2, w1.cell? ⟨w.heap.size, k * 3 + 2, none⟩ = some x2 := ⟨_, (hr1.cell (k * 3 + 2)).trans (Array.getElem?_eq_getElem (by omega))⟩
      have f0 := hr1.frozen (k * 3)
      have f1 := hr1.frozen (k * 3 + 1)
      have f2 := hr1.frozen (k * 3 + 2)
      have HRW := Lib.hid hr1
      have HCZ := Lib.hid hcz
      have HB1 := Lib.hid hB1; clear hB1
      clear hr1 hcz
      go_wp2
      go_roundw
      case rel => exact ⟨k + 1, _, by omega, by go_num, by have := HB1.out.size; simp; omega, (((hB.trans (HB1.out.mono hB.size)).setCell (Nat.le_refl _) _).setCell (Nat.le_refl _) _).setCell (Nat.le_refl _) _, (((HRW.out.set _ _).set _ _).set _ _), by simp only [Array.size_setIfInBounds]; exact HCZ.out, copied3 hlt HCZ.out H.out.2.2⟩
      case measure => simp [intOf]; omega
    · go_wp2
      go_ret
      exact ⟨some ⟨w.heap.size, 0, none⟩, ds.length, rfl, Nat.le_refl _, .inr ⟨w.heap.size, cs, rfl, Nat.le_refl _, H.out.1, fun j x hj => H.out.2.2 j x (by have := (List.getElem?_eq_some_iff.1 hj).1; rw [flatN_len] at this; omega) hj⟩, hB⟩

/-- An edge's copy. -/
def GaveEd (w : World) (n e : Int) (xs : List Int) (r : Ending) (w' : World) : Prop :=
  ∃ A c, r = .returned (.agg #[.int .i64 n, .int .i64 e, .slice A xs.length c]) ∧ xs.length ≤ c ∧ OwnI w' w.heap.size A xs ∧ Below w.heap.size w w'

set_option maxHeartbeats 1000000 in
theorem toEdge_any (n e : Int) (A : Option Addr) (xs : List Int) (c : Nat) (w : World) (hr : Ints w w.heap.size A xs) (hn : xs.length ≤ 1048576) :
    Calls Tryd.prog 51 #[.agg #[.int .i64 n, .int .i64 e, .slice A xs.length c]] w (GaveEd w n e xs) := by
  have HR := Lib.hid hr; clear hr
  go_enter Tryd.func51, Tryd.ntmps51
  go_wp2_with fail
  refine (toIntS_any _ _ _ _ ?_ hn).mono ?_
  · exact (HR.out.keep (by go_grown)).more (by simp; omega)
  · rintro r w1 ⟨A', c', rfl, hcap, hO, hB⟩
    have hz := hB.size
    have c0 := (hB.cell (p := ⟨w.heap.size + 1 + 1, 0, none⟩) (by simp)).trans (show _ = some (.int .i64 n) from by simp [go_sem])
    have c1 := (hB.cell (p := ⟨w.heap.size + 1 + 1, 1, none⟩) (by simp)).trans (show _ = some (.int .i64 e) from by simp [go_sem])
    have c2 := (hB.cell (p := ⟨w.heap.size + 1 + 1, 2, none⟩) (by simp)).trans (show _ = some (.slice none 0 0) from by simp [go_sem])
    have f0 := (hB.frozen (p := ⟨w.heap.size + 1 + 1, 2, none⟩) (by simp)).trans (show _ = false from by simp [go_sem])
    have d0 := (hB.cell (p := ⟨w.heap.size + 1, 0, none⟩) (by simp)).trans (show _ = some (.int .i64 0) from by simp [go_sem])
    have d1 := (hB.cell (p := ⟨w.heap.size + 1, 1, none⟩) (by simp)).trans (show _ = some (.int .i64 0) from by simp [go_sem])
    have d2 := (hB.cell (p := ⟨w.heap.size + 1, 2, none⟩) (by simp)).trans (show _ = some (.slice none 0 0) from by simp [go_sem])
    have g0 := (hB.frozen (p := ⟨w.heap.size + 1, 0, none⟩) (by simp)).trans (show _ = false from by simp [go_sem])
    have g1 := (hB.frozen (p := ⟨w.heap.size + 1, 1, none⟩) (by simp)).trans (show _ = false from by simp [go_sem])
    have g2 := (hB.frozen (p := ⟨w.heap.size + 1, 2, none⟩) (by simp)).trans (show _ = false from by simp [go_sem])
    have HO := Lib.hid hO; clear hO
    have HB := Lib.hid hB; clear hB
    go_wp2_with fail
    simp only [World.size_alloc] at hz
    refine bodyPost_ret (v := .agg #[.int .i64 n, .int .i64 e, .slice A' xs.length c']) (by simp [results, Tryd.results51, go_sem, d0, d1, d2]) rfl ⟨A', c', rfl, hcap, ?_, ?_⟩
    · have h := HO.out
      simp only [World.size_alloc] at h
      exact ((((h.low (by simp) _).low (by simp) _).low (by simp) _).low (by simp) _).lower (by omega)
    · have h := HB.out
      simp only [World.size_alloc] at h
      have hB0 : Below w.heap.size w w1 := Below.trans (by go_grown) (h.mono (by omega))
      exact (((hB0.setCell (by simp; omega) _).setCell (by simp) _).setCell (by simp) _).setCell (by simp) _

/-- A new slice of edges that says what es say; nothing older has turned. -/
def GaveEg (w : World) (ss : List Es) (e : Ending) (w' : World) : Prop :=
  ∃ A c es, e = .returned (.slice A es.length c) ∧ es.length ≤ c ∧ OwnEg w' w.heap.size A es ∧ es.map Eg.abs = ss ∧ Below w.heap.size w w'

/-- The first k edges of es are copied into block g. -/
def CopyingE (w : World) (lo g : Nat) (rs : List Eg) (k : Nat) : Prop :=
  ∃ (cs : Array Value) (done : List Eg), Row w g 67 cs ∧ cs.size = rs.length * 3 ∧ done.length = k ∧ done.map Eg.abs = (rs.take k).map Eg.abs ∧
    (∀ (j : Nat) (u : Eg), done[j]? = some u → cs[j * 3]? = some (.int .i64 u.n) ∧ cs[j * 3 + 1]? = some (.int .i64 u.e) ∧ cs[j * 3 + 2]? = some (.slice u.a u.r.length u.c) ∧ OwnI w lo u.a u.r) ∧
    ∀ (i j : Nat) (u v : Eg), done[i]? = some u → done[j]? = some v → i ≠ j → u.r ≠ [] → v.r ≠ [] → u.a ≠ v.a

theorem CopyingE.step {w w1 : World} {lo g k : Nat} {rs : List Eg} (h : CopyingE w lo g rs k) (hlo : lo ≤ w.heap.size) (hk : k < rs.length) (hb : Below w.heap.size w w1) {A : Option Addr} {c : Nat} (hO : OwnI w1 w.heap.size A rs[k].r) :
    CopyingE (((w1.setCell ⟨g, k * 3, none⟩ (.int .i64 rs[k].n)).setCell ⟨g, k * 3 + 1, none⟩ (.int .i64 rs[k].e)).setCell ⟨g, k * 3 + 2, none⟩ (.slice A rs[k].r.length c)) lo g rs (k + 1) := by
  obtain ⟨cs, done, hr, hs, hl, ha, hc, hd⟩ := h
  have hg : g < w.heap.size := hr.lt
  have hr1 : Row w1 g 67 cs := hr.below hb hg
  have keep : ∀ {A' : Option Addr} {xs : List Int}, OwnI w1 lo A' xs → OwnI (((w1.setCell ⟨g, k * 3, none⟩ (.int .i64 rs[k].n)).setCell ⟨g, k * 3 + 1, none⟩ (.int .i64 rs[k].e)).setCell ⟨g, k * 3 + 2, none⟩ (.slice A rs[k].r.length c)) lo A' xs := by
    intro A' xs h
    rcases h with h | ⟨g', cs', e, hl', hr', hc'⟩
    · exact .inl h
    · have hne : g' ≠ g := hr'.ne hr1 (by decide)
      exact .inr ⟨g', cs', e, hl', ((hr'.far hne _).far hne _).far hne _, hc'⟩
  refine ⟨((cs.setIfInBounds (k * 3) (.int .i64 rs[k].n)).setIfInBounds (k * 3 + 1) (.int .i64 rs[k].e)).setIfInBounds (k * 3 + 2) (.slice A rs[k].r.length c), done ++ [⟨rs[k].n, rs[k].e, A, rs[k].r, c⟩], ((hr1.set _ _).set _ _).set _ _, by simp [hs], by simp [hl], ?_, ?_, ?_⟩
  · rw [List.map_append, ha, List.take_succ_eq_append_getElem hk, List.map_append]; rfl
  · intro j u hu
    by_cases e : j < k
    · rw [List.getElem?_append_left (by omega)] at hu
      obtain ⟨h1, h2, h3, h4⟩ := hc j u hu
      refine ⟨?_, ?_, ?_, keep (h4.below hb (Nat.le_refl _))⟩
      · rw [Array.getElem?_setIfInBounds, if_neg (by omega), Array.getElem?_setIfInBounds, if_neg (by omega), Array.getElem?_setIfInBounds, if_neg (by omega)]; exact h1
      · rw [Array.getElem?_setIfInBounds, if_neg (by omega), Array.getElem?_setIfInBounds, if_neg (by omega), Array.getElem?_setIfInBounds, if_neg (by omega)]; exact h2
      · rw [Array.getElem?_setIfInBounds, if_neg (by omega), Array.getElem?_setIfInBounds, if_neg (by omega), Array.getElem?_setIfInBounds, if_neg (by omega)]; exact h3
    · rw [List.getElem?_append_right (by omega)] at hu
      have hj : j - done.length = 0 := by
        rcases Nat.eq_zero_or_pos (j - done.length) with h0 | h0
        · exact h0
        · rw [List.getElem?_eq_none (by simp; omega)] at hu; cases hu
      rw [hj] at hu
      simp at hu
      subst hu
      have : j = k := by omega
      subst this
      refine ⟨?_, ?_, ?_, keep (hO.lower hlo)⟩
      · rw [Array.getElem?_setIfInBounds, if_neg (by omega), Array.getElem?_setIfInBounds, if_neg (by omega), Array.getElem?_setIfInBounds, if_pos rfl, if_pos (by omega)]
      · rw [Array.getElem?_setIfInBounds, if_neg (by omega), Array.getElem?_setIfInBounds, if_pos rfl, if_pos (by simp; omega)]
      · rw [Array.getElem?_setIfInBounds, if_pos rfl, if_pos (by simp; omega)]
  · have old : ∀ (i : Nat) (u : Eg), i < k → (done ++ [⟨rs[k].n, rs[k].e, A, rs[k].r, c⟩])[i]? = some u → u.r ≠ [] → rs[k].r ≠ [] → u.a ≠ A := by
      intro i u hi hu hne hne' he
      rw [List.getElem?_append_left (by omega)] at hu
      obtain ⟨_, _, _, h3⟩ := hc i u hu
      rcases h3 with h3 | ⟨g1, _, e1, _, r1, _⟩
      · exact hne h3
      · rcases hO with h4 | ⟨g2, _, e2, l2, _, _⟩
        · exact hne' h4
        · rw [e1, e2] at he
          have := r1.lt
          injection he with he
          injection he with he
          omega
    have last : ∀ (i : Nat) (u : Eg), ¬ i < k → (done ++ [⟨rs[k].n, rs[k].e, A, rs[k].r, c⟩])[i]? = some u → i = k ∧ u = ⟨rs[k].n, rs[k].e, A, rs[k].r, c⟩ := by
      intro i u hi hu
      rw [List.getElem?_append_right (by omega)] at hu
      have hj : i - done.length = 0 := by
        rcases Nat.eq_zero_or_pos (i - done.length) with h0 | h0
        · exact h0
        · rw [List.getElem?_eq_none (by simp; omega)] at hu; cases hu
      rw [hj] at hu
      simp at hu
      exact ⟨by omega, hu.symm⟩
    intro i j u v hu hv hij hun hvn
    by_cases hi : i < k <;> by_cases hj : j < k
    · rw [List.getElem?_append_left (by omega)] at hu hv
      exact hd i j u v hu hv hij hun hvn
    · obtain ⟨rfl, rfl⟩ := last j v hj hv
      exact old i u hi hu hun hvn
    · obtain ⟨rfl, rfl⟩ := last i u hi hu
      exact fun e => old j v hj hv hvn hun e.symm
    · have := (last i u hi hu).1; have := (last j v hj hv).1; omega

theorem CopyingE.row {w : World} {lo g k : Nat} {rs : List Eg} (h : CopyingE w lo g rs k) : ∃ cs, Row w g 67 cs ∧ cs.size = rs.length * 3 := by
  obtain ⟨cs, _, hr, hs, _⟩ := h
  exact ⟨cs, hr, hs⟩
theorem CopyingE.done {w : World} {lo g : Nat} {rs : List Eg} (h : CopyingE w lo g rs rs.length) (hg : lo ≤ g) : ∃ ds : List Eg, OwnEg w lo (some ⟨g, 0, none⟩) ds ∧ ds.length = rs.length ∧ ds.map Eg.abs = rs.map Eg.abs := by
  obtain ⟨cs, ds, hr, _, hl, ha, hc, hd⟩ := h
  exact ⟨ds, .inr ⟨g, cs, rfl, hg, hr, hc, hd⟩, hl, by rw [ha, List.take_length]⟩

set_option maxHeartbeats 1000000 in
theorem toEdgeS_any (A : Option Addr) (rs : List Eg) (c : Nat) (w : World) (hr : Egs w w.heap.size A rs) (hn : rs.length ≤ 1048576) (hu : ∀ u ∈ rs, u.r.length ≤ 1048576) :
    Calls Tryd.prog 32 #[.slice A rs.length c] w (GaveEg w (rs.map Eg.abs)) := by
  have hmk := make_edges rs.length hn
  have HR := Lib.hid hr; clear hr
  have HU := Lib.hid hu; clear hu
  go_enter Tryd.func32, Tryd.ntmps32
  go_wp2
  go_loopw [4] (fun i wr => ∃ (k : Nat), k ≤ rs.length ∧ i = .int .i64 k ∧ w.heap.size < wr.heap.size ∧ Below w.heap.size w wr ∧ Hid (CopyingE wr w.heap.size w.heap.size rs k)) (fun i _ => rs.length - (intOf i).toNat)
  case atStart => exact ⟨0, by omega, rfl, by simp, (Below.refl _ _).alloc (Nat.le_refl _) _, zE rs.length, [], Row.new _ _ _, zE_size _, rfl, rfl, fun j u h => by simp at h, fun i j u v h => by simp at h⟩
  case round =>
    obtain ⟨k, hk, rfl, hsz, hB, H⟩ := hrel
    clear hmk
    by_cases hlt : k < rs.length
    · obtain ⟨b, o, rfl, hb, c1, c2, c3, c4⟩ := (HR.out.keep hB).at_ hlt
      have C4 := Lib.hid (c4.more hB.size); clear c4
      have hlen := HU.out rs[k] (List.getElem_mem hlt)
      go_wp2_with fail
      refine (toEdge_any _ _ _ _ _ _ C4.out hlen).mono ?_
      rintro e w1 ⟨A1, k1, rfl, _, hO, hB1⟩
      obtain ⟨cs, hcs, hcz⟩ := H.out.row
      have hr1 := hcs.below hB1 hsz
      obtain ⟨x0, d0⟩ : ∃ x0, w1.cell? ⟨w.heap.size, k * 3, none⟩ = some x0 := ⟨_, (hr1.cell (k * 3)).trans (Array.getElem?_eq_getElem (by omega))⟩
      obtain ⟨x1, d1⟩ : ∃ x1, w1.cell? ⟨w.heap.size, k * 3 + 1, none⟩ = some x1 := ⟨_, (hr1.cell (k * 3 + 1)).trans (Array.getElem?_eq_getElem (by omega))⟩
      obtain ⟨x2, d2⟩ : ∃ x2, w1.cell? ⟨w.heap.size, k * 3 + 2, none⟩ = some x2 := ⟨_, (hr1.cell (k * 3 + 2)).trans (Array.getElem?_eq_getElem (by omega))⟩
      have f0 := hr1.frozen (k * 3)
      have f1 := hr1.frozen (k * 3 + 1)
      have f2 := hr1.frozen (k * 3 + 2)
      have HO := Lib.hid hO; clear hO
      have HB1 := Lib.hid hB1; clear hB1
      clear hr1 hcs hcz
      go_wp2
      go_roundw
      case rel => exact ⟨k + 1, by omega, by go_num, by have := HB1.out.size; simp; omega, (((hB.trans (HB1.out.mono hB.size)).setCell (Nat.le_refl _) _).setCell (Nat.le_refl _) _).setCell (Nat.le_refl _) _, H.out.step hB.size hlt HB1.out HO.out⟩
      case measure => simp [intOf]; omega
    · go_wp2
      go_ret
      obtain rfl : k = rs.length := by omega
      obtain ⟨ds, hO, hl, ha⟩ := H.out.done (Nat.le_refl _)
      exact ⟨some ⟨w.heap.size, 0, none⟩, rs.length, ds, by rw [hl]; rfl, by omega, hO, ha, hB⟩

/-- A forest's copy: it says the same, its lists are the call's own; nothing older has turned. -/
def GaveF (w : World) (s : Fs) (e : Ending) (w' : World) : Prop :=
  ∃ f : Fo, e = .returned (.agg #[.slice f.a f.ns.length f.c, .slice f.b f.es.length f.d]) ∧ f.say = s ∧ OwnF w' w.heap.size f ∧ CapF f ∧ Below w.heap.size w w'

set_option maxHeartbeats 2000000 in
theorem toForest_any (f : Fo) (w : World) (hr : ReadF w w.heap.size f) (hm : LenF 1048576 f) :
    Calls Tryd.prog 9 #[(.agg #[.slice f.a f.ns.length f.c, .slice f.b f.es.length f.d])] w (GaveF w f.say) := by
  have HR := Lib.hid hr; clear hr
  have HM := Lib.hid hm; clear hm
  go_enter Tryd.func9, Tryd.ntmps9
  go_wp2_with fail
  have hB0 : Below w.heap.size w (((w.alloc (.cells #[.slice f.a f.ns.length f.c, .slice f.b f.es.length f.d] 25)).alloc (.cells #[.slice none 0 0, .slice none 0 0] 33)).alloc (.cells #[.slice none 0 0, .slice none 0 0] 33)) := by go_grown
  have hz0 : (((w.alloc (.cells #[.slice f.a f.ns.length f.c, .slice f.b f.es.length f.d] 25)).alloc (.cells #[.slice none 0 0, .slice none 0 0] 33)).alloc (.cells #[.slice none 0 0, .slice none 0 0] 33)).heap.size = w.heap.size + 3 := by simp
  have Rf : Row (((w.alloc (.cells #[.slice f.a f.ns.length f.c, .slice f.b f.es.length f.d] 25)).alloc (.cells #[.slice none 0 0, .slice none 0 0] 33)).alloc (.cells #[.slice none 0 0, .slice none 0 0] 33)) w.heap.size 25 #[.slice f.a f.ns.length f.c, .slice f.b f.es.length f.d] := ((Row.new _ _ _).alloc _).alloc _
  have Rr : Row (((w.alloc (.cells #[.slice f.a f.ns.length f.c, .slice f.b f.es.length f.d] 25)).alloc (.cells #[.slice none 0 0, .slice none 0 0] 33)).alloc (.cells #[.slice none 0 0, .slice none 0 0] 33)) (w.heap.size + 1) 33 #[.slice none 0 0, .slice none 0 0] := by
    have h := Row.new (w.alloc (.cells #[.slice f.a f.ns.length f.c, .slice f.b f.es.length f.d] 25)) 33 #[.slice none 0 0, .slice none 0 0]
    rw [World.size_alloc] at h; exact h.alloc _
  have Ro : Row (((w.alloc (.cells #[.slice f.a f.ns.length f.c, .slice f.b f.es.length f.d] 25)).alloc (.cells #[.slice none 0 0, .slice none 0 0] 33)).alloc (.cells #[.slice none 0 0, .slice none 0 0] 33)) (w.heap.size + 1 + 1) 33 #[.slice none 0 0, .slice none 0 0] := by
    have h := Row.new ((w.alloc (.cells #[.slice f.a f.ns.length f.c, .slice f.b f.es.length f.d] 25)).alloc (.cells #[.slice none 0 0, .slice none 0 0] 33)) 33 #[.slice none 0 0, .slice none 0 0]
    rw [World.size_alloc, World.size_alloc] at h; exact h
  generalize (((w.alloc (.cells #[.slice f.a f.ns.length f.c, .slice f.b f.es.length f.d] 25)).alloc (.cells #[.slice none 0 0, .slice none 0 0] 33)).alloc (.cells #[.slice none 0 0, .slice none 0 0] 33)) = W at hB0 hz0 Rf Rr Ro ⊢
  have HB0 := Lib.hid hB0; clear hB0
  have HZ0 : Hid (W.heap.size = w.heap.size + 3) := hz0
  clear hz0
  have HRf0 := Lib.hid Rf; clear Rf
  have HRr0 := Lib.hid Rr; clear Rr
  have HRo0 := Lib.hid Ro; clear Ro
  refine (toNodeS_any _ _ _ _ ((HR.out.1.keep HB0.out).more HB0.out.size) HM.out.n).mono ?_
  rintro e w1 ⟨A1, c1, rfl, k1, o1, hB1⟩
  have HO1 : Hid (OwnNd w1 (w.heap.size + 3) A1 f.ns) := o1.lower (by rw [HZ0.out]; exact Nat.le_refl _)
  have HZ1 : Hid (w.heap.size + 3 ≤ w1.heap.size) := by have := hB1.size; have := HZ0.out; show _ ≤ _; omega
  have HRf1 := Lib.hid (HRf0.out.below hB1 HRf0.out.lt); clear HRf0
  have HRr1 := Lib.hid (HRr0.out.below hB1 HRr0.out.lt); clear HRr0
  have HRo1 := Lib.hid (HRo0.out.below hB1 HRo0.out.lt); clear HRo0
  have HB1 := Lib.hid (HB0.out.trans (hB1.mono HB0.out.size)); clear hB1 HB0 o1
  have K1 := Lib.hid k1; clear k1
  have p1 := HRf1.out.cell 1
  have x0 := HRo1.out.cell 0
  have y0 := HRo1.out.frozen 0
  simp only [List.getElem?_toArray, List.getElem?_cons_succ, List.getElem?_cons_zero] at p1 x0
  go_wp2_with fail
  have HB1' : Hid (Below w.heap.size w (w1.setCell ⟨w.heap.size + 1 + 1, 0, none⟩ (.slice A1 f.ns.length c1))) := HB1.out.setCell (by simp; omega) _
  have HO1' : Hid (OwnNd (w1.setCell ⟨w.heap.size + 1 + 1, 0, none⟩ (.slice A1 f.ns.length c1)) (w.heap.size + 3) A1 f.ns) := HO1.out.low (by simp) _
  have HZ1' : Hid (w.heap.size + 3 ≤ (w1.setCell ⟨w.heap.size + 1 + 1, 0, none⟩ (.slice A1 f.ns.length c1)).heap.size) := by show _ ≤ _; have := HZ1.out; simp [World.setCell]; omega
  have HRf1' : Hid (Row (w1.setCell ⟨w.heap.size + 1 + 1, 0, none⟩ (.slice A1 f.ns.length c1)) w.heap.size 25 #[.slice f.a f.ns.length f.c, .slice f.b f.es.length f.d]) := HRf1.out.far (by simp; omega) _
  have HRr1' : Hid (Row (w1.setCell ⟨w.heap.size + 1 + 1, 0, none⟩ (.slice A1 f.ns.length c1)) (w.heap.size + 1) 33 #[.slice none 0 0, .slice none 0 0]) := HRr1.out.far (by simp) _
  have HRo1' : Hid (Row (w1.setCell ⟨w.heap.size + 1 + 1, 0, none⟩ (.slice A1 f.ns.length c1)) (w.heap.size + 1 + 1) 33 #[.slice A1 f.ns.length c1, .slice none 0 0]) := by
    have h := HRo1.out.set 0 (.slice A1 f.ns.length c1)
    show Row _ _ _ _; simpa using h
  clear HB1 HO1 HZ1 HRf1 HRr1 HRo1 p1 x0 y0
  generalize (w1.setCell ⟨w.heap.size + 1 + 1, 0, none⟩ (.slice A1 f.ns.length c1)) = w2 at HB1' HO1' HZ1' HRf1' HRr1' HRo1' ⊢
  refine (toEdgeS_any _ _ _ _ ((HR.out.2.keep HB1'.out).more HB1'.out.size) HM.out.e HM.out.r).mono ?_
  rintro e w3 ⟨A3, c3, es, rfl, k3, o3, s3, hB3⟩
  have HO3 : Hid (OwnEg w3 (w.heap.size + 3) A3 es) := o3.lower HZ1'.out
  have HO3' := Lib.hid (HO1'.out.below hB3 (Nat.le_refl _))
  have HRr3 := Lib.hid (HRr1'.out.below hB3 HRr1'.out.lt)
  have HRo3 := Lib.hid (HRo1'.out.below hB3 HRo1'.out.lt)
  have HB3 := Lib.hid (HB1'.out.trans (hB3.mono HB1'.out.size)); clear hB3 HB1' HRr1' HRo1' HRf1' HO1' HZ1' o3
  have K3 := Lib.hid k3; clear k3
  have S3 := Lib.hid s3; clear s3
  have x0 := HRo3.out.cell 0
  have x1 := HRo3.out.cell 1
  have y0 := HRo3.out.frozen 0
  have y1 := HRo3.out.frozen 1
  have r0 := HRr3.out.cell 0
  have r1 := HRr3.out.cell 1
  have q0 := HRr3.out.frozen 0
  have q1 := HRr3.out.frozen 1
  simp only [List.getElem?_toArray, List.getElem?_cons_succ, List.getElem?_cons_zero] at x0 x1 r0 r1
  go_wp2_with fail
  refine bodyPost_ret (v := .agg #[.slice A1 f.ns.length c1, .slice A3 es.length c3]) (by simp [results, Tryd.results9, go_sem, r0, r1]) rfl ⟨⟨A1, f.ns, c1, A3, es, c3⟩, rfl, ?_, ⟨?_, ?_⟩, ⟨K1.out, K3.out⟩, ?_⟩
  · show Fs.mk _ _ = Fs.mk _ _; rw [S3.out]
  · exact (((HO3'.out.low (by simp) _).low (by simp) _).low (by simp) _).lower (by omega)
  · exact (((HO3.out.low (by simp) _).low (by simp) _).low (by simp) _).lower (by omega)
  · exact ((HB3.out.setCell (by simp; omega) _).setCell (by simp) _).setCell (by simp) _

end Go.Proofs.YtbgjlabjihoaaaaDoor

/- What the laws' size counter and comparison answer of a forest. -/

namespace Go.Proofs.YtbgjlabjihoaaaaDoor
open Go.RowKit

/-- An edge seen as a rule: its cuts are counted as a rule's right side is. -/
def Eg.ru (u : Eg) : Ru := ⟨u.n, u.a, u.r, u.c⟩

def szFo (n : Nat) (es : List Eg) (L : Int) : Int :=
  if szI n L < 0 then -1 else if szRs (es.map Eg.ru) (szI n L) < 0 then -1 else szRs (es.map Eg.ru) (szI n L)

theorem szRs_low {rs : List Ru} {L : Int} (_h : 0 ≤ L) (hp : 0 ≤ szRs rs L) : szRs rs L ≤ L := by
  unfold szRs at hp ⊢
  split at hp
  · omega
  · rename_i h3
    rw [if_neg h3]
    have := ((szR_ge rs (L := L - rs.length) (by omega)).2 hp).1
    omega

theorem szFo_bound {f : Fo} {L : Int} (hL : 0 ≤ L) (hL1 : L ≤ 1048576) (hp : 0 ≤ szFo f.ns.length f.es L) : LenF 1048576 f ∧ szFo f.ns.length f.es L ≤ L := by
  unfold szFo at hp ⊢
  split at hp
  · omega
  rename_i h1
  split at hp
  · omega
  rename_i h2
  rw [if_neg h1, if_neg h2]
  have a1 := szI_le (n := f.ns.length) hL
  have e1 : szI f.ns.length L = L - f.ns.length := by unfold szI at h1 ⊢; split <;> simp_all
  have b2 := szRs_bound (rs := f.es.map Eg.ru) (L := szI f.ns.length L) (by omega) (by omega)
  have b3 : szRs (f.es.map Eg.ru) (szI f.ns.length L) ≤ szI f.ns.length L := by
    unfold szRs at h2 ⊢
    split at h2
    · omega
    · rename_i h3
      rw [if_neg h3]
      have := ((szR_ge (f.es.map Eg.ru) (L := szI f.ns.length L - (f.es.map Eg.ru).length) (by omega)).2 (by omega)).1
      omega
  refine ⟨⟨by omega, by have := b2.1; rw [List.length_map] at this; omega, fun u hu => ?_⟩, by omega⟩
  have := b2.2 u.ru (List.mem_map_of_mem hu)
  have e : u.ru.r = u.r := rfl
  rw [e] at this
  omega

set_option maxHeartbeats 400000 in
theorem szNodeS_any (A : Option Addr) (n c : Nat) (L : Int) (w : World) (hn : n ≤ maxLen) (h0 : 0 ≤ L) (h1 : L ≤ 1048576) :
    Calls Tryd.prog 26 #[.slice A n c, .int .i64 L] w fun e w' => e = .returned (.int .i64 (szI n L)) ∧ w = w' := by
  unfold maxLen at hn
  by_cases h : L - n < 0
  · have hs : Hid (szI n L = -1) := by show szI n L = -1; unfold szI; rw [if_pos h]
    go_enter Tryd.func26, Tryd.ntmps26
    go_wp2
    go_ret
    exact ⟨by rw [hs.out]; rfl, rfl⟩
  · have hs : Hid (szI n L = L - n) := by show szI n L = L - n; unfold szI; rw [if_neg h]
    go_enter Tryd.func26, Tryd.ntmps26
    go_wp2
    go_ret
    exact ⟨by rw [hs.out]; rfl, rfl⟩

set_option maxHeartbeats 400000 in
theorem szEdge_any (n e : Int) (A : Option Addr) (k c : Nat) (L : Int) (w : World) (hn : k ≤ maxLen) (h0 : 0 ≤ L) (h1 : L ≤ 1048576) :
    Calls Tryd.prog 49 #[.agg #[.int .i64 n, .int .i64 e, .slice A k c], .int .i64 L] w fun e w' => e = .returned (.int .i64 (szI k L)) ∧ Below w.heap.size w w' := by
  have hl := szI_le (n := k) h0
  by_cases h : szI k L < 0
  all_goals
    go_enter Tryd.func49, Tryd.ntmps49
    go_wp2_with (go_at_call 67; refine (szIntS_any _ _ _ _ _ hn h0 h1).mono ?_; rintro e w' ⟨rfl, rfl⟩)
    go_ret
    refine ⟨?_, (Below.refl _ _).alloc (Nat.le_refl _) _⟩
  · exact ret_int (by omega)
  · exact ret_int (by omega)

theorem szE_drop {rs : List Eg} {k : Nat} (hk : k < rs.length) (L : Int) : szR ((rs.drop k).map Eg.ru) L = if szI rs[k].r.length L < 0 then -1 else szR ((rs.drop (k + 1)).map Eg.ru) (szI rs[k].r.length L) := by
  rw [List.drop_eq_getElem_cons hk]; rfl

set_option maxHeartbeats 400000 in
theorem szEdgeS_any (A : Option Addr) (rs : List Eg) (c : Nat) (L : Int) (w : World) (hr : Egs w w.heap.size A rs) (hn : rs.length ≤ maxLen) (hu : ∀ u ∈ rs, u.r.length ≤ maxLen) (h0 : 0 ≤ L) (h1 : L ≤ 1048576) :
    Calls Tryd.prog 27 #[.slice A rs.length c, .int .i64 L] w fun e w' => e = .returned (.int .i64 (szRs (rs.map Eg.ru) L)) ∧ Below w.heap.size w w' := by
  unfold maxLen at hn
  by_cases h : L - rs.length < 0
  · have hs : Hid (szRs (rs.map Eg.ru) L = -1) := by show szRs _ L = -1; unfold szRs; rw [List.length_map, if_pos h]
    have HU := Lib.hid hu; clear hu
    have HR := Lib.hid hr; clear hr
    go_enter Tryd.func27, Tryd.ntmps27
    go_wp2
    go_ret
    exact ⟨by rw [hs.out]; rfl, Below.refl _ _⟩
  · have hs : Hid (szRs (rs.map Eg.ru) L = szR (rs.map Eg.ru) (L - rs.length)) := by show szRs _ L = _; unfold szRs; rw [List.length_map, if_neg h]
    have HU := Lib.hid hu; clear hu
    have HR := Lib.hid hr; clear hr
    go_enter Tryd.func27, Tryd.ntmps27
    go_wp2
    go_loopw [1, 5] (fun l i wr => ∃ (k : Nat) (M : Int), k ≤ rs.length ∧ i = .int .i64 k ∧ l = .int .i64 M ∧ 0 ≤ M ∧ M ≤ 1048576 ∧ Hid (szRs (rs.map Eg.ru) L = szR ((rs.drop k).map Eg.ru) M) ∧ Below w.heap.size w wr) (fun _ i _ => rs.length - (intOf i).toNat)
    case atStart => exact ⟨0, L - rs.length, by omega, rfl, rfl, by omega, by omega, hs, Below.refl _ _⟩
    case round =>
      obtain ⟨k, M, hk, rfl, rfl, hM0, hM1, hS, hB⟩ := hrel
      by_cases hlt : k < rs.length
      · obtain ⟨b, o, rfl, hb, c1, c2, c3, c4⟩ := (HR.out.keep hB).at_ hlt
        have hl := szI_le (n := rs[k].r.length) hM0
        have hlen := HU.out rs[k] (List.getElem_mem hlt)
        have HS : Hid (szRs (rs.map Eg.ru) L = if szI rs[k].r.length M < 0 then -1 else szR ((rs.drop (k + 1)).map Eg.ru) (szI rs[k].r.length M)) := by show _ = _; rw [hS.out, szE_drop hlt]
        clear hS c4
        by_cases hneg : szI rs[k].r.length M < 0
        · go_wp2_with (go_at_call 49; refine (szEdge_any _ _ _ _ _ _ _ hlen hM0 hM1).mono ?_; rintro e w' ⟨rfl, hB'⟩)
          go_ret
          exact ⟨ret_int (by rw [HS.out, if_pos hneg]), hB.trans (hB'.mono hB.size)⟩
        · go_wp2_with (go_at_call 49; refine (szEdge_any _ _ _ _ _ _ _ hlen hM0 hM1).mono ?_; rintro e w' ⟨rfl, hB'⟩)
          go_roundw
          case rel => exact ⟨k + 1, _, by omega, by go_num, rfl, by omega, by omega, by show _ = _; rw [HS.out, if_neg (by omega)], hB.trans (hB'.mono hB.size)⟩
          case measure => simp [intOf]; omega
      · have HS : Hid (szRs (rs.map Eg.ru) L = M) := by show _ = _; rw [hS.out, List.drop_eq_nil_of_le (by omega)]; rfl
        go_wp2
        go_ret
        exact ⟨ret_int HS.out.symm, hB⟩

set_option maxHeartbeats 1000000 in
theorem szForest_any (f : Fo) (L : Int) (w : World) (hr : ReadF w w.heap.size f) (hm : LenF maxLen f) (h0 : 0 ≤ L) (h1 : L ≤ 1048576) :
    Calls Tryd.prog 7 #[(.agg #[.slice f.a f.ns.length f.c, .slice f.b f.es.length f.d]), .int .i64 L] w fun e w' => e = .returned (.int .i64 (szFo f.ns.length f.es L)) ∧ Below w.heap.size w w' := by
  have HR := Lib.hid hr; clear hr
  have HM := Lib.hid hm; clear hm
  have g1 := szI_le (n := f.ns.length) h0
  go_enter Tryd.func7, Tryd.ntmps7
  go_wp2_with fail
  have hB0 : Below w.heap.size w (w.alloc (.cells #[.slice f.a f.ns.length f.c, .slice f.b f.es.length f.d] 25)) := by go_grown
  have R0 : Row (w.alloc (.cells #[.slice f.a f.ns.length f.c, .slice f.b f.es.length f.d] 25)) w.heap.size 25 #[.slice f.a f.ns.length f.c, .slice f.b f.es.length f.d] := Row.new _ _ _
  generalize (w.alloc (.cells #[.slice f.a f.ns.length f.c, .slice f.b f.es.length f.d] 25)) = W at hB0 R0 ⊢
  have HB0 := Lib.hid hB0; clear hB0
  have HR0 := Lib.hid R0; clear R0
  refine (szNodeS_any _ _ _ _ _ HM.out.n h0 h1).mono ?_
  rintro e w1 ⟨rfl, rfl⟩
  have a1 := HR0.out.cell 1
  simp only [List.getElem?_toArray, List.getElem?_cons_succ, List.getElem?_cons_zero] at a1
  by_cases h2 : szI f.ns.length L < 0
  · have HE : Hid (szFo f.ns.length f.es L = -1) := by show _ = _; unfold szFo; rw [if_pos h2]
    go_wp2
    go_ret
    exact ⟨ret_int HE.out.symm, HB0.out⟩
  have g2 := szRs_ge (f.es.map Eg.ru) (L := szI f.ns.length L) (by omega)
  go_wp2_with fail
  refine (szEdgeS_any _ _ _ _ _ ((HR.out.2.keep HB0.out).more HB0.out.size) HM.out.e HM.out.r (by omega) (by omega)).mono ?_
  rintro e w2 ⟨rfl, hB2⟩
  have HB2 := Lib.hid (HB0.out.trans (hB2.mono HB0.out.size)); clear hB2 HR0 HB0 a1
  by_cases h3 : szRs (f.es.map Eg.ru) (szI f.ns.length L) < 0
  · have HE : Hid (szFo f.ns.length f.es L = -1) := by show _ = _; unfold szFo; rw [if_neg (by omega), if_pos h3]
    go_wp2
    go_ret
    exact ⟨ret_int HE.out.symm, HB2.out⟩
  · have HE : Hid (szFo f.ns.length f.es L = szRs (f.es.map Eg.ru) (szI f.ns.length L)) := by show _ = _; unfold szFo; rw [if_neg (by omega), if_neg (by omega)]
    go_wp2
    go_ret
    exact ⟨ret_int HE.out.symm, HB2.out⟩

set_option maxHeartbeats 400000 in
theorem eqNode_same (n f t : Int) (w : World) :
    Calls Tryd.prog 53 #[.agg #[.int .i64 n, .int .i64 f, .int .i64 t], .agg #[.int .i64 n, .int .i64 f, .int .i64 t]] w fun e w' => e = .returned (.bool true) ∧ Below w.heap.size w w' := by
  have h1 : (n != n) = false := by simp
  have h2 : (f != f) = false := by simp
  have h3 : (t != t) = false := by simp
  go_enter Tryd.func53, Tryd.ntmps53
  go_wp2
  go_ret
  exact ⟨rfl, by go_grown⟩

set_option maxRecDepth 10000 in
set_option maxHeartbeats 1000000 in
theorem eqNodeS_same (A A' : Option Addr) (ds : List Nd) (c c' : Nat) (w : World) (hx : Nds w w.heap.size A ds) (hy : Nds w w.heap.size A' ds) (h1 : ds.length ≤ 1048576) :
    Calls Tryd.prog 35 #[.slice A ds.length c, .slice A' ds.length c'] w fun e w' => e = .returned (.bool true) ∧ Below w.heap.size w w' := by
  have HX := Lib.hid hx; clear hx
  have HY := Lib.hid hy; clear hy
  have hd : ((ds.length : Int) != (ds.length : Int)) = false := by simp
  go_enter Tryd.func35, Tryd.ntmps35
  go_wp2
  go_loopw [5] (fun i wr => ∃ (k : Nat), k ≤ ds.length ∧ i = .int .i64 k ∧ Below w.heap.size w wr) (fun i _ => ds.length - (intOf i).toNat)
  case atStart => exact ⟨0, by omega, rfl, Below.refl _ _⟩
  case round =>
    obtain ⟨k, hk, rfl, hB⟩ := hrel
    by_cases hlt : k < ds.length
    · obtain ⟨b, o, rfl, hb, c0, c1, c2⟩ := (HX.out.keep hB).at_ hlt
      obtain ⟨b', o', rfl, hb', e0, e1, e2⟩ := (HY.out.keep hB).at_ hlt
      go_wp2
      go_still_tail 8, (by kernel_rfl)
      change wpList _ _ _ _ _ wr.drew
      go_wp2_with fail
      refine (eqNode_same _ _ _ _).mono ?_
      rintro e w1 ⟨rfl, hB1⟩
      have hB2 : Below w.heap.size w w1 := hB.trans (Below.trans (by go_grown) (hB1.mono hB.size))
      clear hB1
      go_wp2
      go_roundw
      case rel => exact ⟨k + 1, by omega, by go_num, hB2⟩
      case measure => simp [intOf]; omega
    · go_wp2
      go_ret
      exact ⟨rfl, hB⟩

set_option maxHeartbeats 1000000 in
theorem eqEdge_same (n m : Int) (A A' : Option Addr) (xs ys : List Int) (c c' : Nat) (w : World) (hx : Ints w w.heap.size A xs) (hy : Ints w w.heap.size A' ys) (h1 : xs.length ≤ 1048576) (n' m' : Int) (en : n = n') (em : m = m') (ex : xs = ys) :
    Calls Tryd.prog 54 #[.agg #[.int .i64 n, .int .i64 m, .slice A xs.length c], .agg #[.int .i64 n', .int .i64 m', .slice A' ys.length c']] w fun e w' => e = .returned (.bool true) ∧ Below w.heap.size w w' := by
  have HX := Lib.hid hx; clear hx
  have HY := Lib.hid hy; clear hy
  have e1 := bne_f en
  have e2 := bne_f em
  have E3 : Hid (eqL xs ys = true) := eqL_t ex
  clear en em ex
  go_enter Tryd.func54, Tryd.ntmps54
  go_wp2_with fail
  refine (eqIntS_any _ _ _ _ _ _ _ ?_ ?_ h1).mono ?_
  · exact (HX.out.keep (by go_grown)).more (by go_size)
  · exact (HY.out.keep (by go_grown)).more (by go_size)
  rintro e w1 ⟨rfl, hB⟩
  rw [E3.out]
  go_wp2
  go_ret
  exact ⟨rfl, Below.trans (by go_grown) (hB.mono (by go_size))⟩

theorem absE_at {rs ss : List Eg} (h : rs.map Eg.abs = ss.map Eg.abs) {k : Nat} (hr : k < rs.length) (hs : k < ss.length) : rs[k].n = ss[k].n ∧ rs[k].e = ss[k].e ∧ rs[k].r = ss[k].r := by
  have e := congrArg (fun l => l[k]?) h
  simp only [List.getElem?_map, List.getElem?_eq_getElem hr, List.getElem?_eq_getElem hs, Option.map_some] at e
  injection e with e
  exact ⟨congrArg Es.n e, congrArg Es.e e, congrArg Es.r e⟩

set_option maxRecDepth 10000 in
set_option maxHeartbeats 1000000 in
theorem eqEdgeS_same (A A' : Option Addr) (rs ss : List Eg) (c c' : Nat) (w : World) (hx : Egs w w.heap.size A rs) (hy : Egs w w.heap.size A' ss) (h1 : rs.length ≤ 1048576) (h2 : ∀ u ∈ rs, u.r.length ≤ 1048576) (he : rs.map Eg.abs = ss.map Eg.abs) :
    Calls Tryd.prog 36 #[.slice A rs.length c, .slice A' ss.length c'] w fun e w' => e = .returned (.bool true) ∧ Below w.heap.size w w' := by
  have hl : rs.length = ss.length := by simpa using congrArg List.length he
  have HX := Lib.hid hx; clear hx
  have HY := Lib.hid hy; clear hy
  have H2 := Lib.hid h2; clear h2
  have HE := Lib.hid he; clear he
  have hd : ((rs.length : Int) != (ss.length : Int)) = false := bne_f (by omega)
  have hlen : rs.length ≤ ss.length := by omega
  have hlen' : ss.length ≤ rs.length := by omega
  clear hl
  go_enter Tryd.func36, Tryd.ntmps36
  go_wp2
  go_loopw [5] (fun i wr => ∃ (k : Nat), k ≤ rs.length ∧ i = .int .i64 k ∧ Below w.heap.size w wr) (fun i _ => rs.length - (intOf i).toNat)
  case atStart => exact ⟨0, by omega, rfl, Below.refl _ _⟩
  case round =>
    obtain ⟨k, hk, rfl, hB⟩ := hrel
    by_cases hlt : k < rs.length
    · have hlt' : k < ss.length := by omega
      obtain ⟨b, o, rfl, hb, c1, c2, c3, c4⟩ := (HX.out.keep hB).at_ hlt
      obtain ⟨b', o', rfl, hb', d1, d2, d3, d4⟩ := (HY.out.keep hB).at_ hlt'
      have C4 := Lib.hid (c4.more hB.size); clear c4
      have D4 := Lib.hid (d4.more hB.size); clear d4
      have hlen2 := H2.out rs[k] (List.getElem_mem hlt)
      have HA := Lib.hid (absE_at HE.out hlt hlt')
      go_wp2
      go_still_tail 8, (by kernel_rfl)
      change wpList _ _ _ _ _ wr.drew
      go_wp2_with fail
      refine (eqEdge_same _ _ _ _ _ _ _ _ _ ?_ ?_ hlen2 _ _ HA.out.1 HA.out.2.1 HA.out.2.2).mono ?_
      · exact C4.out.keep (by go_grown)
      · exact D4.out.keep (by go_grown)
      rintro e w1 ⟨rfl, hB1⟩
      have hB2 : Below w.heap.size w w1 := hB.trans (Below.trans (by go_grown) (hB1.mono hB.size))
      clear hB1
      go_wp2
      go_roundw
      case rel => exact ⟨k + 1, by omega, by go_num, hB2⟩
      case measure => simp [intOf]; omega
    · go_wp2
      go_ret
      exact ⟨rfl, hB⟩

set_option maxHeartbeats 1000000 in
theorem eqForest_same (f f' : Fo) (w : World) (hx : ReadF w w.heap.size f) (hy : ReadF w w.heap.size f') (hm : LenF 1048576 f) (he : f.say = f'.say) :
    Calls Tryd.prog 12 #[(.agg #[.slice f.a f.ns.length f.c, .slice f.b f.es.length f.d]), (.agg #[.slice f'.a f'.ns.length f'.c, .slice f'.b f'.es.length f'.d])] w fun e w' => e = .returned (.bool true) ∧ Below w.heap.size w w' := by
  obtain ⟨a, ns, c, b, es, d⟩ := f
  obtain ⟨a', ns', c', b', es', d'⟩ := f'
  have e1 : ns = ns' := congrArg Fs.ns he
  have e2 : es.map Eg.abs = es'.map Eg.abs := congrArg Fs.es he
  subst e1
  clear he
  have HX := Lib.hid hx; clear hx
  have HY := Lib.hid hy; clear hy
  have HM := Lib.hid hm; clear hm
  have HE := Lib.hid e2; clear e2
  go_enter Tryd.func12, Tryd.ntmps12
  go_wp2_with fail
  have hB0 : Below w.heap.size w ((w.alloc (.cells #[.slice a ns.length c, .slice b es.length d] 33)).alloc (.cells #[.slice a' ns.length c', .slice b' es'.length d'] 33)) := by go_grown
  have R0 : Row ((w.alloc (.cells #[.slice a ns.length c, .slice b es.length d] 33)).alloc (.cells #[.slice a' ns.length c', .slice b' es'.length d'] 33)) w.heap.size 33 #[.slice a ns.length c, .slice b es.length d] := (Row.new _ _ _).alloc _
  have R1 : Row ((w.alloc (.cells #[.slice a ns.length c, .slice b es.length d] 33)).alloc (.cells #[.slice a' ns.length c', .slice b' es'.length d'] 33)) (w.heap.size + 1) 33 #[.slice a' ns.length c', .slice b' es'.length d'] := by
    have h := Row.new (w.alloc (.cells #[.slice a ns.length c, .slice b es.length d] 33)) 33 #[.slice a' ns.length c', .slice b' es'.length d']
    rw [World.size_alloc] at h; exact h
  generalize ((w.alloc (.cells #[.slice a ns.length c, .slice b es.length d] 33)).alloc (.cells #[.slice a' ns.length c', .slice b' es'.length d'] 33)) = W at hB0 R0 R1 ⊢
  have HB0 := Lib.hid hB0; clear hB0
  have HR0 := Lib.hid R0; clear R0
  have HR1 := Lib.hid R1; clear R1
  refine (eqNodeS_same _ _ _ _ _ _ ((HX.out.1.keep HB0.out).more HB0.out.size) ((HY.out.1.keep HB0.out).more HB0.out.size) HM.out.n).mono ?_
  rintro e w1 ⟨rfl, hB1⟩
  have HP0 := Lib.hid (HR0.out.below hB1 HR0.out.lt); clear HR0
  have HP1 := Lib.hid (HR1.out.below hB1 HR1.out.lt); clear HR1
  have HB1 := Lib.hid (HB0.out.trans (hB1.mono HB0.out.size)); clear hB1 HB0
  have p1 := HP0.out.cell 1
  have q1 := HP1.out.cell 1
  simp only [List.getElem?_toArray, List.getElem?_cons_succ, List.getElem?_cons_zero] at p1 q1
  go_wp2_with fail
  refine (eqEdgeS_same _ _ _ _ _ _ _ ((HX.out.2.keep HB1.out).more HB1.out.size) ((HY.out.2.keep HB1.out).more HB1.out.size) HM.out.e HM.out.r HE.out).mono ?_
  rintro e w2 ⟨rfl, hB2⟩
  have HB2 := Lib.hid (HB1.out.trans (hB2.mono HB1.out.size)); clear hB2 HB1 p1 q1
  go_wp2
  go_ret
  exact ⟨rfl, HB2.out⟩

end Go.Proofs.YtbgjlabjihoaaaaDoor

/- What the laws' marks write into a forest, and what they find again. -/

namespace Go.Proofs.YtbgjlabjihoaaaaDoor
open Go.RowKit

/-- The blocks of one slice of nodes that is not empty. -/
def ItsN (A : Option Addr) (ds : List Nd) (b : Nat) : Prop := A = some ⟨b, 0, none⟩ ∧ ds ≠ []
theorem OwnNd.its {w : World} {lo : Nat} {A : Option Addr} {ds : List Nd} (h : OwnNd w lo A ds) {b : Nat} (hb : ItsN A ds b) : lo ≤ b ∧ b < w.heap.size := by
  rcases h with h | ⟨g, cs, e, hl, hr, _⟩
  · exact absurd (flatN_nil.1 h) hb.2
  · have := hb.1.symm.trans e
    injection this with this
    injection this with this
    subst this
    exact ⟨hl, hr.lt⟩
theorem OwnNd.row {w : World} {lo : Nat} {A : Option Addr} {ds : List Nd} (h : OwnNd w lo A ds) {b : Nat} (hb : ItsN A ds b) : ∃ cs, Row w b 86 cs := by
  rcases h with h | ⟨g, cs, e, hl, hr, _⟩
  · exact absurd (flatN_nil.1 h) hb.2
  · have := hb.1.symm.trans e
    injection this with this
    injection this with this
    subst this
    exact ⟨cs, hr⟩

set_option maxHeartbeats 1000000 in
theorem markNodeS_any (A : Option Addr) (ds : List Nd) (c lo : Nat) (k : Int) (w : World) (h : OwnNd w lo A ds) (hn : ds.length ≤ 1048576) (hk : 0 ≤ k) (hk' : k ≤ 4398046511104) :
    Calls Tryd.prog 37 #[.slice A ds.length c, .int .i64 k] w fun e w' => e = .returned (.int .i64 (k + (3 * ds.length : Nat))) ∧ OwnTy w' lo 86 A (seqL k (3 * ds.length)) ∧ Save (ItsN A ds) w w' := by
  have HO : Hid (OwnTy w lo 86 A (flatN ds)) := h
  clear h
  have HFL := Lib.hid (flatN_len ds)
  go_enter Tryd.func37, Tryd.ntmps37
  go_wp2
  go_loopw [1, 5] (fun v i wr => ∃ (j : Nat), j ≤ ds.length ∧ i = .int .i64 j ∧ v = .int .i64 (k + 3 * j) ∧ Hid (OwnTy wr lo 86 A (midL k (flatN ds) (j * 3))) ∧ Hid (Save (ItsN A ds) w wr)) (fun _ i _ => ds.length - (intOf i).toNat)
  case atStart => exact ⟨0, by omega, rfl, by simp, by show OwnTy _ _ _ _ _; rw [Nat.zero_mul, midL_zero]; exact HO.out, Save.refl _ _⟩
  case round =>
    obtain ⟨j, hj, rfl, rfl, H, HS⟩ := hrel
    by_cases hlt : j < ds.length
    · have HML : Hid (∀ i, i ≤ 3 * ds.length → (midL k (flatN ds) i).length = 3 * ds.length) := fun i hi => by rw [midL_length (by rw [HFL.out]; exact hi), HFL.out]
      obtain ⟨g, rfl, _, _, c0, f0⟩ := H.out.at_ (i := j * 3) (by rw [HML.out _ (by omega)]; omega)
      obtain ⟨g', eg, _, _, c1, f1⟩ := H.out.at_ (i := j * 3 + 1) (by rw [HML.out _ (by omega)]; omega)
      cases eg
      obtain ⟨g', eg, _, _, c2, f2⟩ := H.out.at_ (i := j * 3 + 2) (by rw [HML.out _ (by omega)]; omega)
      cases eg
      have hne : ds ≠ [] := fun e => by subst e; simp at hlt
      have HNE := Lib.hid hne; clear hne
      go_wp2
      go_roundw
      case rel =>
        refine ⟨j + 1, by omega, by go_num, by go_num, ?_, ((HS.out.setCell ⟨rfl, HNE.out⟩ _).setCell ⟨rfl, HNE.out⟩ _).setCell ⟨rfl, HNE.out⟩ _⟩
        have hl : ∀ i, i < 3 * ds.length → i < (flatN ds).length := fun i hi => by rw [HFL.out]; exact hi
        show OwnTy _ _ _ _ _
        have s0 := midL_step (k := k) (hl (j * 3) (by omega))
        have s1 := midL_step (k := k) (hl (j * 3 + 1) (by omega))
        have s2 := midL_step (k := k) (hl (j * 3 + 2) (by omega))
        rw [show (j + 1) * 3 = j * 3 + 2 + 1 by omega, ← s2, show j * 3 + 2 = j * 3 + 1 + 1 by omega, ← s1, ← s0]
        have o0 := H.out.set (i := j * 3) (by rw [HML.out _ (by omega)]; omega) (k + ((j * 3 : Nat) : Int))
        have o1 := o0.set (i := j * 3 + 1) (by rw [List.length_set, HML.out _ (by omega)]; omega) (k + ((j * 3 + 1 : Nat) : Int))
        have o2 := o1.set (i := j * 3 + 2) (by rw [List.length_set, List.length_set, HML.out _ (by omega)]; omega) (k + ((j * 3 + 2 : Nat) : Int))
        have v0 : k + ((j * 3 : Nat) : Int) = k + 3 * (j : Int) := by omega
        have v1 : k + ((j * 3 + 1 : Nat) : Int) = k + 3 * (j : Int) + 1 := by omega
        have v2 : k + ((j * 3 + 2 : Nat) : Int) = k + 3 * (j : Int) + 1 + 1 := by omega
        have v2' : k + ((j * 3 + 1 + 1 : Nat) : Int) = k + 3 * (j : Int) + 1 + 1 := v2
        rw [v0, v1, v2']
        rw [v0, v1, v2] at o2
        exact o2
      case measure => simp [intOf]; omega
    · obtain rfl : j = ds.length := by omega
      go_wp2
      go_ret
      refine ⟨ret_int (by omega), ?_, HS.out⟩
      have h1 := H.out
      rw [show ds.length * 3 = (flatN ds).length by rw [HFL.out]; omega, midL_all, HFL.out] at h1
      exact h1

theorem OwnEg.setInts {w : World} {lo g : Nat} {rs : List Eg} (h : OwnEg w lo (some ⟨g, 0, none⟩) rs) {i : Nat} (hi : i < rs.length) (x y : Int) :
    OwnEg ((w.setCell ⟨g, i * 3, none⟩ (.int .i64 x)).setCell ⟨g, i * 3 + 1, none⟩ (.int .i64 y)) lo (some ⟨g, 0, none⟩) (rs.set i { rs[i] with n := x, e := y }) := by
  rcases h with h | ⟨g', cs, ea, hl, hr, hc, hd⟩
  · subst h; simp at hi
  · injection ea with ea
    injection ea with ea
    subst ea
    have hlt : i * 3 < cs.size := (Array.getElem?_eq_some_iff.1 (hc i _ (List.getElem?_eq_getElem hi)).1).1
    have hlt1 : i * 3 + 1 < cs.size := (Array.getElem?_eq_some_iff.1 (hc i _ (List.getElem?_eq_getElem hi)).2.1).1
    have keep : ∀ {A' : Option Addr} {xs : List Int}, OwnI w lo A' xs → OwnI ((w.setCell ⟨g, i * 3, none⟩ (.int .i64 x)).setCell ⟨g, i * 3 + 1, none⟩ (.int .i64 y)) lo A' xs := by
      intro A' xs h
      rcases h with h | ⟨g', cs', e, hl', hr', hc'⟩
      · exact .inl h
      · exact .inr ⟨g', cs', e, hl', (hr'.far (hr'.ne hr (by decide)) _).far (hr'.ne hr (by decide)) _, hc'⟩
    refine .inr ⟨g, (cs.setIfInBounds (i * 3) (.int .i64 x)).setIfInBounds (i * 3 + 1) (.int .i64 y), rfl, hl, (hr.set _ _).set _ _, fun k u hu => ?_, fun a b u v hu hv hab hun hvn => ?_⟩
    · rw [List.getElem?_set] at hu
      by_cases e : i = k
      · subst e
        rw [if_pos rfl, if_pos hi] at hu
        injection hu with hu
        subst hu
        obtain ⟨_, _, h2, h3⟩ := hc i _ (List.getElem?_eq_getElem hi)
        refine ⟨by rw [Array.getElem?_setIfInBounds, if_neg (by omega), Array.getElem?_setIfInBounds, if_pos rfl, if_pos hlt], by rw [Array.getElem?_setIfInBounds, if_pos rfl, if_pos (by simp; omega)], ?_, keep h3⟩
        rw [Array.getElem?_setIfInBounds, if_neg (by omega), Array.getElem?_setIfInBounds, if_neg (by omega)]; exact h2
      · rw [if_neg e] at hu
        obtain ⟨h1, h2, h3, h4⟩ := hc k u hu
        refine ⟨?_, ?_, ?_, keep h4⟩
        · rw [Array.getElem?_setIfInBounds, if_neg (by omega), Array.getElem?_setIfInBounds, if_neg (by omega)]; exact h1
        · rw [Array.getElem?_setIfInBounds, if_neg (by omega), Array.getElem?_setIfInBounds, if_neg (by omega)]; exact h2
        · rw [Array.getElem?_setIfInBounds, if_neg (by omega), Array.getElem?_setIfInBounds, if_neg (by omega)]; exact h3
    · have old : ∀ (j : Nat) (z : Eg), (rs.set i { rs[i] with n := x, e := y })[j]? = some z → ∃ q, rs[j]? = some q ∧ q.a = z.a ∧ q.r = z.r := by
        intro j z hz
        rw [List.getElem?_set] at hz
        by_cases e : i = j
        · subst e
          rw [if_pos rfl, if_pos hi] at hz
          injection hz with hz
          subst hz
          exact ⟨rs[i], List.getElem?_eq_getElem hi, rfl, rfl⟩
        · rw [if_neg e] at hz
          exact ⟨z, hz, rfl, rfl⟩
      obtain ⟨u', hu', e1, e2⟩ := old a u hu
      obtain ⟨v', hv', e3, e4⟩ := old b v hv
      rw [← e1, ← e3]
      exact hd a b u' v' hu' hv' hab (by rw [e2]; exact hun) (by rw [e4]; exact hvn)

theorem OwnEg.setCuts {w w' : World} {lo : Nat} {A : Option Addr} {rs : List Eg} (h : OwnEg w lo A rs) {i : Nat} (hi : i < rs.length) {ys : List Int} (hy : ys.length = rs[i].r.length)
    (hO : OwnI w' lo rs[i].a ys) (hs : Save (Its rs[i].a rs[i].r) w w') : OwnEg w' lo A (rs.set i { rs[i] with r := ys }) := by
  rcases h with h | ⟨g, cs, ea, hl, hr, hc, hd⟩
  · subst h; simp at hi
  · have hgi : ¬ Its rs[i].a rs[i].r g := by
      rintro ⟨e1, e2⟩
      rcases (hc i _ (List.getElem?_eq_getElem hi)).2.2.2 with h3 | ⟨g', cs', e3, _, hr', _⟩
      · exact e2 h3
      · rw [e1] at e3
        injection e3 with e3
        injection e3 with e3
        exact hr'.ne hr (by decide) e3.symm
    refine .inr ⟨g, cs, ea, hl, hr.save hs hgi, fun k u hu => ?_, fun a b u v hu hv hab hun hvn => ?_⟩
    · rw [List.getElem?_set] at hu
      by_cases e : i = k
      · subst e
        rw [if_pos rfl, if_pos hi] at hu
        injection hu with hu
        subst hu
        obtain ⟨h1, h2, h3, _⟩ := hc i _ (List.getElem?_eq_getElem hi)
        exact ⟨h1, h2, by rw [hy]; exact h3, hO⟩
      · rw [if_neg e] at hu
        obtain ⟨h1, h2, h3, h4⟩ := hc k u hu
        refine ⟨h1, h2, h3, h4.save hs fun g' e1 e2 hI => ?_⟩
        exact hd k i u rs[i] hu (List.getElem?_eq_getElem hi) (Ne.symm e) e2 hI.2 (e1.trans hI.1.symm)
    · have old : ∀ (j : Nat) (y : Eg), (rs.set i { rs[i] with r := ys })[j]? = some y → ∃ z, rs[j]? = some z ∧ z.a = y.a ∧ (y.r ≠ [] → z.r ≠ []) := by
        intro j y hy'
        rw [List.getElem?_set] at hy'
        by_cases e : i = j
        · subst e
          rw [if_pos rfl, if_pos hi] at hy'
          injection hy' with hy'
          subst hy'
          refine ⟨rs[i], List.getElem?_eq_getElem hi, rfl, fun hn e => hn ?_⟩
          have : ys.length = 0 := by rw [hy, e]; rfl
          exact List.eq_nil_of_length_eq_zero this
        · rw [if_neg e] at hy'
          exact ⟨y, hy', rfl, id⟩
      obtain ⟨u', hu', e1, e2⟩ := old a u hu
      obtain ⟨v', hv', e3, e4⟩ := old b v hv
      rw [← e1, ← e3]
      exact hd a b u' v' hu' hv' hab (e2 hun) (e4 hvn)

/-- How many numbers the first i edges hold. -/
def ecnt (rs : List Eg) (i : Nat) : Nat := ((rs.take i).map fun u => 2 + u.r.length).sum
theorem ecnt_succ {rs : List Eg} {i : Nat} (hi : i < rs.length) : ecnt rs (i + 1) = ecnt rs i + (2 + rs[i].r.length) := by
  unfold ecnt
  rw [List.take_succ_eq_append_getElem hi, List.map_append, List.sum_append]
  simp
theorem ecnt_zero (rs : List Eg) : ecnt rs 0 = 0 := by simp [ecnt]
theorem ecnt_le {rs : List Eg} (hu : ∀ u ∈ rs, u.r.length ≤ 1048576) (i : Nat) : ecnt rs i ≤ i * 1048578 := by
  induction i with
  | zero => simp [ecnt_zero]
  | succ i ih =>
    by_cases h : i < rs.length
    · have := hu rs[i] (List.getElem_mem h)
      rw [ecnt_succ h]; omega
    · have e : ecnt rs (i + 1) = ecnt rs i := by unfold ecnt; rw [List.take_of_length_le (by omega), List.take_of_length_le (by omega)]
      omega

def markEg (k : Int) (u : Eg) : Eg := { u with n := k, e := k + 1, r := seqL (k + 1 + 1) u.r.length }
/-- The edges with the first i of them marked from k on. -/
def markE (k : Int) (rs : List Eg) (i : Nat) : List Eg := rs.mapIdx fun j u => if j < i then markEg (k + (ecnt rs j : Int)) u else u
theorem markE_length (k : Int) (rs : List Eg) (i : Nat) : (markE k rs i).length = rs.length := by simp [markE]
theorem markE_at {k : Int} {rs : List Eg} {i j : Nat} (h : j < rs.length) (hj : j < (markE k rs i).length) : (markE k rs i)[j] = if j < i then markEg (k + (ecnt rs j : Int)) rs[j] else rs[j] := by simp [markE]
theorem markE_zero (k : Int) (rs : List Eg) : markE k rs 0 = rs := by
  apply List.ext_getElem?
  intro j
  simp [markE]
theorem markE_step {k : Int} {rs : List Eg} {i : Nat} (h : i < rs.length) : (markE k rs i).set i (markEg (k + (ecnt rs i : Int)) rs[i]) = markE k rs (i + 1) := by
  apply List.ext_getElem?
  intro j
  rw [List.getElem?_set, markE_length]
  by_cases e : i = j
  · subst e
    rw [if_pos rfl, if_pos h]
    simp [markE, h]
  · rw [if_neg e]
    simp only [markE, List.getElem?_mapIdx]
    by_cases hj : j < rs.length
    · rw [List.getElem?_eq_getElem hj]
      simp only [Option.map_some, Option.some.injEq]
      by_cases hi : j < i
      · rw [if_pos hi, if_pos (by omega)]
      · rw [if_neg hi, if_neg (by omega)]
    · rw [List.getElem?_eq_none (by omega)]; rfl
/-- The edges' r are as long after the marks. -/
theorem markE_len {k : Int} {rs : List Eg} {m : Nat} (hu : ∀ u ∈ rs, u.r.length ≤ m) (i : Nat) : ∀ u ∈ markE k rs i, u.r.length ≤ m := by
  intro u h
  obtain ⟨j, hj, rfl⟩ := List.getElem_of_mem h
  rw [markE_length] at hj
  rw [markE_at hj]
  split
  · simp only [markEg, seqL_length]; exact hu _ (List.getElem_mem hj)
  · exact hu _ (List.getElem_mem hj)

/-- The blocks of a slice of edges and of their cuts. -/
def ItsE (A : Option Addr) (rs : List Eg) (b : Nat) : Prop := (A = some ⟨b, 0, none⟩ ∧ rs ≠ []) ∨ ∃ (i : Nat) (u : Eg), rs[i]? = some u ∧ Its u.a u.r b
theorem OwnEg.its {w : World} {lo : Nat} {A : Option Addr} {rs : List Eg} (h : OwnEg w lo A rs) {b : Nat} (hb : ItsE A rs b) : lo ≤ b ∧ b < w.heap.size := by
  rcases h with h | ⟨g, cs, e, hl, hr, hc, _⟩
  · subst h
    rcases hb with hb | ⟨i, u, hu, _⟩
    · exact absurd rfl hb.2
    · simp at hu
  · rcases hb with ⟨hb, _⟩ | ⟨i, u, hu, hI⟩
    · have := hb.symm.trans e
      injection this with this
      injection this with this
      subst this
      exact ⟨hl, hr.lt⟩
    · exact (hc i u hu).2.2.2.its hI
theorem OwnEg.row {w : World} {lo : Nat} {A : Option Addr} {rs : List Eg} (h : OwnEg w lo A rs) {b : Nat} (hb : ItsE A rs b) : ∃ t cs, Row w b t cs ∧ (t = 67 ∨ t = 3) := by
  rcases h with h | ⟨g, cs, e, hl, hr, hc, _⟩
  · subst h
    rcases hb with hb | ⟨i, u, hu, _⟩
    · exact absurd rfl hb.2
    · simp at hu
  · rcases hb with ⟨hb, _⟩ | ⟨i, u, hu, hI⟩
    · have := hb.symm.trans e
      injection this with this
      injection this with this
      subst this
      exact ⟨_, _, hr, .inl rfl⟩
    · rcases (hc i u hu).2.2.2 with h | ⟨g', cs', e', _, hr', _⟩
      · exact absurd h hI.2
      · have := hI.1.symm.trans e'
        injection this with this
        injection this with this
        subst this
        exact ⟨_, _, hr', .inr rfl⟩
/-- Edges are kept where other blocks turn. -/
theorem OwnEg.save {S : Nat → Prop} {w w' : World} {lo : Nat} {A : Option Addr} {rs : List Eg} (h : OwnEg w lo A rs) (hs : Save S w w') (hA : ∀ b, ItsE A rs b → ¬ S b) : OwnEg w' lo A rs := by
  rcases h with h | ⟨g, cs, e, hl, hr, hc, hd⟩
  · exact .inl h
  · by_cases hne : rs = []
    · exact .inl hne
    refine .inr ⟨g, cs, e, hl, hr.save hs (hA g (.inl ⟨e, hne⟩)), fun k u hu => ?_, hd⟩
    obtain ⟨h1, h2, h3, h4⟩ := hc k u hu
    exact ⟨h1, h2, h3, h4.save hs fun g' e' hn => hA g' (.inr ⟨k, u, hu, e', hn⟩)⟩

def MarkedE (w : World) (lo : Nat) (A : Option Addr) (rs : List Eg) (k : Int) (e : Ending) (w' : World) : Prop :=
  e = .returned (.int .i64 (k + (ecnt rs rs.length : Int))) ∧ OwnEg w' lo A (markE k rs rs.length) ∧ Save (ItsE A rs) w w'

theorem set_ints_cuts {rs : List Eg} {i : Nat} (h : i < rs.length) (x y : Int) (ys : List Int) :
    ((rs.set i { rs[i] with n := x, e := y }).set i { (rs.set i { rs[i] with n := x, e := y })[i]'(by simpa using h) with r := ys }) = rs.set i { rs[i] with n := x, e := y, r := ys } := by
  rw [List.set_set]
  congr 1
  simp

theorem mark_cuts {wr : World} {lo g j : Nat} {rs : List Eg} {k : Int} (H : OwnEg wr lo (some ⟨g, 0, none⟩) (markE k rs j)) (hlt : j < rs.length) (x y : Int) : OwnI ((wr.setCell ⟨g, j * 3, none⟩ (.int .i64 x)).setCell ⟨g, j * 3 + 1, none⟩ (.int .i64 y)) lo rs[j].a rs[j].r := by
  have hlt' : j < (markE k rs j).length := by rw [markE_length]; exact hlt
  have hat : (markE k rs j)[j] = rs[j] := by rw [markE_at hlt, if_neg (by omega)]
  obtain ⟨_, _, _, _, _, _, _, _, _, _, h3⟩ := (H.setInts hlt' x y).at_ (i := j) (by simpa using hlt')
  simpa [hat] using h3

theorem mark_nextE {wr w1 : World} {lo g j : Nat} {rs : List Eg} {k : Int} (H : OwnEg wr lo (some ⟨g, 0, none⟩) (markE k rs j)) (hlt : j < rs.length)
    (hO : OwnI w1 lo rs[j].a (seqL (k + (ecnt rs j : Int) + 1 + 1) rs[j].r.length)) (hS : Save (Its rs[j].a rs[j].r) ((wr.setCell ⟨g, j * 3, none⟩ (.int .i64 (k + (ecnt rs j : Int)))).setCell ⟨g, j * 3 + 1, none⟩ (.int .i64 (k + (ecnt rs j : Int) + 1))) w1) :
    OwnEg w1 lo (some ⟨g, 0, none⟩) (markE k rs (j + 1)) := by
  have hlt' : j < (markE k rs j).length := by rw [markE_length]; exact hlt
  have hat : (markE k rs j)[j] = rs[j] := by rw [markE_at hlt, if_neg (by omega)]
  have h2 := (H.setInts hlt' (k + (ecnt rs j : Int)) (k + (ecnt rs j : Int) + 1)).setCuts (i := j) (w' := w1) (ys := seqL (k + (ecnt rs j : Int) + 1 + 1) rs[j].r.length) (by simpa using hlt') (by simp [hat, seqL_length]) (by simpa [hat] using hO) (by simpa [hat] using hS)
  rw [set_ints_cuts] at h2
  rw [← markE_step hlt]
  simpa [hat, markEg] using h2

set_option maxHeartbeats 1000000 in
theorem markEdgeS_any (A : Option Addr) (rs : List Eg) (c lo : Nat) (k : Int) (w : World) (h : OwnEg w lo A rs) (hn : rs.length ≤ 1048576) (hu : ∀ u ∈ rs, u.r.length ≤ 1048576) (hk : 0 ≤ k) (hk' : k ≤ 3298000000000) :
    Calls Tryd.prog 38 #[.slice A rs.length c, .int .i64 k] w (MarkedE w lo A rs k) := by
  have HO := Lib.hid h; clear h
  have HU := Lib.hid hu; clear hu
  go_enter Tryd.func38, Tryd.ntmps38
  go_wp2
  go_loopw [1, 5] (fun v i wr => ∃ (j : Nat), j ≤ rs.length ∧ i = .int .i64 j ∧ v = .int .i64 (k + (ecnt rs j : Int)) ∧ ecnt rs j ≤ j * 1048578 ∧ Hid (OwnEg wr lo A (markE k rs j)) ∧ Hid (Save (ItsE A rs) w wr)) (fun _ i _ => rs.length - (intOf i).toNat)
  case atStart => exact ⟨0, by omega, rfl, by simp [ecnt_zero], by simp [ecnt_zero], by show OwnEg _ _ _ _; rw [markE_zero]; exact HO.out, Save.refl _ _⟩
  case round =>
    obtain ⟨j, hj, rfl, rfl, hcn, H, HS⟩ := hrel
    by_cases hlt : j < rs.length
    · have hlt' : j < (markE k rs j).length := by rw [markE_length]; exact hlt
      have hat : (markE k rs j)[j] = rs[j] := by rw [markE_at hlt, if_neg (by omega)]
      obtain ⟨g, rfl, _, _, c1, c2, c3, f1, f2, f3, c4⟩ := H.out.at_ hlt'
      rw [hat] at c1 c2 c3
      have hul := HU.out rs[j] (List.getElem_mem hlt)
      have HCS := Lib.hid (ecnt_succ hlt)
      clear c4 hat hlt'
      go_wp2_with fail
      refine (markIntS_any _ _ _ lo _ _ (mark_cuts H.out hlt _ _) hul (by omega) (by omega)).mono ?_
      rintro e w1 ⟨rfl, hO1, hS1⟩
      have HO1 := Lib.hid hO1; clear hO1
      have HS1 := Lib.hid hS1; clear hS1
      go_wp2
      go_roundw
      case rel => exact ⟨j + 1, by omega, by go_num, by rw [HCS.out]; go_num, by rw [HCS.out]; omega, mark_nextE H.out hlt HO1.out HS1.out, ((HS.out.setCell (.inl ⟨rfl, fun e => by subst e; simp at hlt⟩) _).setCell (.inl ⟨rfl, fun e => by subst e; simp at hlt⟩) _).trans (HS1.out.wider fun i hi => .inr ⟨j, rs[j], List.getElem?_eq_getElem hlt, hi⟩)⟩
      case measure => simp [intOf]; omega
    · obtain rfl : j = rs.length := by omega
      go_wp2
      go_ret
      exact ⟨rfl, H.out, HS.out⟩


/-- How many numbers a forest holds. -/
def cntF (f : Fo) : Nat := 3 * f.ns.length + ecnt f.es f.es.length
/-- The blocks of a forest's lists. -/
def ItsF (f : Fo) (b : Nat) : Prop := ItsN f.a f.ns b ∨ ItsE f.b f.es b
theorem OwnF.its {w : World} {lo : Nat} {f : Fo} (h : OwnF w lo f) {b : Nat} (hb : ItsF f b) : lo ≤ b ∧ b < w.heap.size := hb.elim h.1.its h.2.its
/-- A forest's nodes and edges, as the marks from k on leave them. -/
def MarkF (w : World) (lo : Nat) (f : Fo) (k : Int) : Prop := OwnTy w lo 86 f.a (seqL k (3 * f.ns.length)) ∧ OwnEg w lo f.b (markE (k + (3 * f.ns.length : Nat)) f.es f.es.length)
def MarkedF (w : World) (lo : Nat) (f : Fo) (k : Int) (e : Ending) (w' : World) : Prop :=
  e = .returned (.int .i64 (k + (cntF f : Int))) ∧ MarkF w' lo f k ∧ Save (ItsF f) w w'

theorem OwnTy.saveE {w w' : World} {lo lo' : Nat} {A B : Option Addr} {xs : List Int} {es : List Eg} (h : OwnTy w lo 86 A xs) (hE : OwnEg w lo' B es) (hs : Save (ItsE B es) w w') : OwnTy w' lo 86 A xs := by
  refine h.save hs fun g e hn hI => ?_
  obtain ⟨t, cs, hr, ht⟩ := hE.row hI
  rcases h with h | ⟨g', cs', e', _, hr', _⟩
  · exact hn h
  · rw [e] at e'
    injection e' with e'
    injection e' with e'
    subst e'
    rcases ht with rfl | rfl
    · exact hr.ne hr' (by decide) rfl
    · exact hr.ne hr' (by decide) rfl
theorem OwnEg.saveN {w w' : World} {lo lo' : Nat} {A B : Option Addr} {ns : List Nd} {es : List Eg} (h : OwnEg w lo B es) (hN : OwnNd w lo' A ns) (hs : Save (ItsN A ns) w w') : OwnEg w' lo B es := by
  refine h.save hs fun g hI hS => ?_
  obtain ⟨t, cs, hr, ht⟩ := h.row hI
  obtain ⟨cs', hr'⟩ := hN.row hS
  rcases ht with rfl | rfl
  · exact hr.ne hr' (by decide) rfl
  · exact hr.ne hr' (by decide) rfl

set_option maxHeartbeats 1000000 in
theorem markForest_any (f : Fo) (lo : Nat) (k : Int) (w : World) (h : OwnF w lo f) (hm : LenF 1048576 f) (hk : 0 ≤ k) (hk' : k ≤ 3297000000000) :
    Calls Tryd.prog 13 #[(.agg #[.slice f.a f.ns.length f.c, .slice f.b f.es.length f.d]), .int .i64 k] w (MarkedF w lo f k) := by
  have HO := Lib.hid h; clear h
  have hn := hm.n
  have HM := Lib.hid hm; clear hm
  have HBX : Hid (Below w.heap.size w (w.alloc (.cells #[.slice f.a f.ns.length f.c, .slice f.b f.es.length f.d] 33))) := by show Below _ _ _; go_grown
  have HO0 := Lib.hid (HO.out.below HBX.out (Nat.le_refl _))
  have HR0 : Hid (Row (w.alloc (.cells #[.slice f.a f.ns.length f.c, .slice f.b f.es.length f.d] 33)) w.heap.size 33 #[.slice f.a f.ns.length f.c, .slice f.b f.es.length f.d]) := Row.new _ _ _
  have HSZ : Hid (lo ≤ w.heap.size ∨ f.ns = []) := by
    rcases HO.out.1 with h | ⟨g, cs, e, hl, hr, _⟩
    · exact .inr (flatN_nil.1 h)
    · exact .inl (by have := hr.lt; omega)
  go_enter Tryd.func13, Tryd.ntmps13
  go_wp2_with fail
  generalize (w.alloc (.cells #[.slice f.a f.ns.length f.c, .slice f.b f.es.length f.d] 33)) = W at HBX HO0 HR0 ⊢
  refine (markNodeS_any _ _ _ lo _ _ HO0.out.1 hn hk (by omega)).mono ?_
  rintro e w1 ⟨rfl, hN1, hS1⟩
  have HN1 := Lib.hid hN1; clear hN1
  have HE1 : Hid (OwnEg w1 lo f.b f.es) := HO0.out.2.saveN HO0.out.1 hS1
  have HR1 : Hid (Row w1 w.heap.size 33 #[.slice f.a f.ns.length f.c, .slice f.b f.es.length f.d]) := HR0.out.save hS1 fun hI => by
    obtain ⟨cs, hr⟩ := HO0.out.1.row hI
    exact HR0.out.ne hr (by decide) rfl
  have HS1 : Hid (Save (ItsF f) w w1) := (Save.of_below HBX.out).trans (hS1.wider fun b hb => .inl hb)
  clear hS1 HO0 HR0
  have a1 := HR1.out.cell 1
  simp only [List.getElem?_toArray, List.getElem?_cons_succ, List.getElem?_cons_zero] at a1
  go_wp2_with fail
  refine (markEdgeS_any _ _ _ lo _ _ HE1.out HM.out.e HM.out.r (by omega) (by omega)).mono ?_
  rintro e w2 ⟨rfl, hE2, hS2⟩
  have HN2 : Hid (OwnTy w2 lo 86 f.a (seqL k (3 * f.ns.length))) := HN1.out.saveE HE1.out hS2
  have HE2 := Lib.hid hE2; clear hE2
  have HS2 : Hid (Save (ItsF f) w w2) := HS1.out.trans (hS2.wider fun b hb => .inr hb)
  clear hS2 HE1 HN1 HR1 a1
  go_wp2
  go_ret
  exact ⟨ret_int (by unfold cntF; omega), ⟨HN2.out, HE2.out⟩, HS2.out⟩

/-- What marks leave can be read. -/
def MarkR (w : World) (B : Nat) (f : Fo) (k : Int) : Prop := Ints w B f.a (seqL k (3 * f.ns.length)) ∧ Egs w B f.b (markE (k + (3 * f.ns.length : Nat)) f.es f.es.length)
theorem MarkF.read {w : World} {lo : Nat} {f : Fo} {k : Int} (h : MarkF w lo f k) : MarkR w w.heap.size f k := ⟨h.1.ints, h.2.egs⟩
theorem MarkR.keep {w w' : World} {B : Nat} {f : Fo} {k : Int} (h : MarkR w B f k) (hb : Below B w w') : MarkR w' B f k := ⟨h.1.keep hb, h.2.keep hb⟩
theorem MarkR.more {w : World} {B B' : Nat} {f : Fo} {k : Int} (h : MarkR w B f k) (hb : B ≤ B') : MarkR w B' f k := ⟨h.1.more hb, h.2.more hb⟩

theorem OwnF.kept {S : Nat → Prop} {w w' : World} {lo : Nat} {f : Fo} (h : OwnF w lo f) (hs : Save S w w') (hA : ∀ b, ItsF f b → ¬ S b) : OwnF w' lo f :=
  ⟨OwnTy.save h.1 hs fun g e hn => hA g (.inl ⟨e, fun h => hn (by rw [h]; rfl)⟩), h.2.save hs fun b hb => hA b (.inr hb)⟩


end Go.Proofs.YtbgjlabjihoaaaaDoor

/- A box that holds a forest; whether a forest is small, and its sizes, by the program and by the reference. -/

namespace Go.Proofs.YtbgjlabjihoaaaaDoor
open Go.RowKit

/-- A box that holds a forest. -/
def BoxF (w : World) (g : Nat) (f : Fo) : Prop := g < w.heap.size ∧ w.cell? ⟨g, 0, none⟩ = some (.slice f.a f.ns.length f.c) ∧ w.cell? ⟨g, 1, none⟩ = some (.slice f.b f.es.length f.d)
theorem BoxF.keep {w w' : World} {g B : Nat} {f : Fo} (h : BoxF w g f) (hb : Below B w w') (hB : g < B) : BoxF w' g f :=
  ⟨Nat.lt_of_lt_of_le h.1 hb.size, (hb.cell (p := ⟨g, 0, none⟩) hB).trans h.2.1, (hb.cell (p := ⟨g, 1, none⟩) hB).trans h.2.2⟩
theorem BoxF.new (w : World) (f : Fo) (t : TypeId) : BoxF (w.alloc (.cells #[.slice f.a f.ns.length f.c, .slice f.b f.es.length f.d] t)) w.heap.size f := ⟨by simp, by simp [go_sem], by simp [go_sem]⟩
theorem BoxF.save {S : Nat → Prop} {w w' : World} {g : Nat} {f : Fo} (h : BoxF w g f) (hs : Save S w w') (hg : ¬ S g) : BoxF w' g f := by
  have hb := hs.block g h.1 hg
  refine ⟨Nat.lt_of_lt_of_le h.1 hs.size, ?_, ?_⟩
  · rw [← h.2.1]; simp only [World.cell?, hb]
  · rw [← h.2.2]; simp only [World.cell?, hb]

/-- Whether a forest has no more than 600 nodes and edges. -/
def smF (f : Fs) : Bool := decide (f.ns.length ≤ 600) && decide (f.es.length ≤ 600)
theorem Fo.say_es (f : Fo) : f.say.es.length = f.es.length := List.length_map ..
theorem smF_is {f : Fs} (h : smF f = true) : f.ns.length ≤ 600 ∧ f.es.length ≤ 600 := by
  have := Bool.and_eq_true_iff.1 h
  exact ⟨of_decide_eq_true this.1, of_decide_eq_true this.2⟩

set_option maxHeartbeats 1000000 in
theorem isSmall_any (f : Fo) (w : World) (hL : Lims w) (hm : LenF 1048576 f) :
    Calls Tryd.prog 33 #[(.agg #[.slice f.a f.ns.length f.c, .slice f.b f.es.length f.d])] w fun e w' => e = .returned (.bool (smF f.say)) ∧ Below w.heap.size w w' := by
  have hn := hm.n
  have he := hm.e
  clear hm
  have HES := Lib.hid f.say_es
  have HE : Hid (smF f.say = (inB 0 600 f.ns.length && inB 0 600 f.es.length)) := by
    show _ = _
    unfold smF inB
    rw [HES.out]
    congr 1
    · exact decide_eq_decide.2 ⟨fun h => ⟨by omega, by have : f.ns.length ≤ 600 := h; omega⟩, fun h => by show f.ns.length ≤ 600; omega⟩
    · exact decide_eq_decide.2 ⟨fun h => ⟨by omega, by omega⟩, fun h => by omega⟩
  go_enter Tryd.func33, Tryd.ntmps33
  go_wp2_with fail
  have hB0 : Below w.heap.size w (w.alloc (.cells #[.slice f.a f.ns.length f.c, .slice f.b f.es.length f.d] 33)) := by go_grown
  have B0 := Lib.hid (BoxF.new w f 33)
  generalize (w.alloc (.cells #[.slice f.a f.ns.length f.c, .slice f.b f.es.length f.d] 33)) = W at hB0 B0 ⊢
  have HL0 := Lib.hid (hL.keep hB0 (Nat.le_refl _)); clear hL
  have HB0 := Lib.hid hB0; clear hB0
  refine (within8 f.ns.length _ HL0.out).mono ?_
  rintro e w1 ⟨rfl, hB⟩
  have HB1 := Lib.hid (HB0.out.trans (hB.mono HB0.out.size))
  have HL1 := Lib.hid (HL0.out.keep hB (Nat.le_refl _))
  obtain ⟨_, b0, b1⟩ := B0.out.keep hB B0.out.1
  clear hB HL0 HB0 B0
  cases h1 : inB 0 600 f.ns.length
  · have H1 := Lib.hid h1; clear h1
    go_wp2
    go_ret
    exact ⟨ret_b (by rw [HE.out, H1.out]; rfl), HB1.out⟩
  · have H1 := Lib.hid h1; clear h1
    go_wp2_with fail
    refine (within9 f.es.length _ HL1.out).mono ?_
    rintro e w2 ⟨rfl, hB⟩
    have HB2 := Lib.hid (HB1.out.trans (hB.mono HB1.out.size)); clear hB
    go_wp2
    go_ret
    exact ⟨ret_b (by rw [HE.out, H1.out, Bool.true_and]), HB2.out⟩

set_option maxHeartbeats 1000000 in
theorem l9Sized_any (f : Fo) (w : World) (hm : LenF 1048576 f) :
    Calls Tryd.prog 28 #[(.agg #[.slice f.a f.ns.length f.c, .slice f.b f.es.length f.d])] w fun e w' => e = .returned (.bool (smF f.say)) ∧ Below w.heap.size w w' := by
  have HB0 : Hid (Below w.heap.size w (w.alloc (.cells #[.slice f.a f.ns.length f.c, .slice f.b f.es.length f.d] 33))) := by show Below _ _ _; go_grown
  have hn := hm.n
  have he := hm.e
  clear hm
  have HES := Lib.hid f.say_es
  by_cases h1 : f.ns.length ≤ 600
  · by_cases h2 : f.es.length ≤ 600
    · have HE : Hid (smF f.say = true) := by show _ = _; unfold smF; rw [HES.out, decide_eq_true h2, decide_eq_true (show f.say.ns.length ≤ 600 from h1)]; rfl
      go_enter Tryd.func28, Tryd.ntmps28
      go_wp2
      go_ret
      exact ⟨ret_b (by rw [HE.out]; first | exact decide_eq_true (by omega) | exact decide_eq_false (by omega)), HB0.out⟩
    · have HE : Hid (smF f.say = false) := by show _ = _; unfold smF; rw [HES.out, decide_eq_false h2, Bool.and_false]
      go_enter Tryd.func28, Tryd.ntmps28
      go_wp2
      go_ret
      exact ⟨ret_b (by rw [HE.out]; first | exact decide_eq_true (by omega) | exact decide_eq_false (by omega)), HB0.out⟩
  · have HE : Hid (smF f.say = false) := by show _ = _; unfold smF; rw [decide_eq_false (show ¬ f.say.ns.length ≤ 600 from h1)]; rfl
    go_enter Tryd.func28, Tryd.ntmps28
    go_wp2
    go_ret
    exact ⟨ret_b HE.out.symm, HB0.out⟩

/-- How many nodes and edges, and whether the forest is small. -/
def GavePk (w : World) (f : Fs) (e : Ending) (w' : World) : Prop :=
  e = .returned (.tuple #[.int .i64 (if smF f then f.ns.length else 0), .int .i64 (if smF f then f.es.length else 0), .bool (smF f)]) ∧ Below w.heap.size w w'

set_option maxHeartbeats 1000000 in
theorem implPackedSize_any (f : Fo) (w : World) (hL : Lims w) (hm : LenF 1048576 f) :
    Calls Tryd.prog 25 #[(.agg #[.slice f.a f.ns.length f.c, .slice f.b f.es.length f.d])] w (GavePk w f.say) := by
  have HB0 : Hid (Below w.heap.size w (w.alloc (.cells #[.slice f.a f.ns.length f.c, .slice f.b f.es.length f.d] 33))) := by show Below _ _ _; go_grown
  have B0 := Lib.hid (BoxF.new w f 33)
  have HC := Lib.hid (isSmall_any f _ (hL.keep HB0.out (Nat.le_refl _)) hm)
  have hn := hm.n
  have he := hm.e
  clear hm hL
  have HES := Lib.hid f.say_es
  go_enter Tryd.func25, Tryd.ntmps25
  go_wp2_with fail
  refine HC.out.mono ?_
  rintro e w1 ⟨rfl, hB⟩
  obtain ⟨_, b0, b1⟩ := B0.out.keep hB B0.out.1
  have HB1 := Lib.hid (HB0.out.trans (hB.mono HB0.out.size))
  clear hB HC
  cases hg : smF f.say
  · have HG := Lib.hid hg; clear hg
    go_wp2
    go_ret3
    exact ⟨by rw [HG.out]; rfl, HB1.out⟩
  · have HG := Lib.hid hg; clear hg
    go_wp2_with fail
    go_region
    go_wp2
    go_ret3
    exact ⟨by rw [HG.out, HES.out]; rfl, HB1.out.trans (by go_grown)⟩

set_option maxHeartbeats 1000000 in
theorem specPackedSize_any (f : Fo) (w : World) (hm : LenF 1048576 f) :
    Calls Tryd.prog 24 #[(.agg #[.slice f.a f.ns.length f.c, .slice f.b f.es.length f.d])] w (GavePk w f.say) := by
  have HB0 : Hid (Below w.heap.size w (w.alloc (.cells #[.slice f.a f.ns.length f.c, .slice f.b f.es.length f.d] 33))) := by show Below _ _ _; go_grown
  have B0 := Lib.hid (BoxF.new w f 33)
  have HC := Lib.hid (l9Sized_any f (w.alloc (.cells #[.slice f.a f.ns.length f.c, .slice f.b f.es.length f.d] 33)) hm)
  have hn := hm.n
  have he := hm.e
  clear hm
  have HES := Lib.hid f.say_es
  go_enter Tryd.func24, Tryd.ntmps24
  go_wp2_with fail
  refine HC.out.mono ?_
  rintro e w1 ⟨rfl, hB⟩
  obtain ⟨_, b0, b1⟩ := B0.out.keep hB B0.out.1
  have HB1 := Lib.hid (HB0.out.trans (hB.mono HB0.out.size))
  clear hB HC
  cases hg : smF f.say
  · have HG := Lib.hid hg; clear hg
    go_wp2
    go_ret3
    exact ⟨by rw [HG.out]; rfl, HB1.out⟩
  · have HG := Lib.hid hg; clear hg
    go_wp2_with fail
    go_region
    go_wp2
    go_ret3
    exact ⟨by rw [HG.out, HES.out]; rfl, HB1.out.trans (by go_grown)⟩

end Go.Proofs.YtbgjlabjihoaaaaDoor
