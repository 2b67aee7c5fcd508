/- What the laws' copies make: new memory that reads as what was copied. -/
import Derived.Test.YtacehfjhpnplbaaDoorRows
import Derived.Test.YtacehfjhpnplbaaDoorZ01
import Derived.Test.YtacehfjhpnplbaaDoorTie
import Derived.LaidMore
import Derived.Stop.Joined
import Derived.SevenTiedAt
import Derived.Laws.IdiomStrings

namespace Go.Proofs.YtacehfjhpnplbaaDoor
open Go.RowKit

theorem Tryd.infoInt : (Tryd.prog.info? 3).map (fun i => (i.zero, i.size, i.bytes)) = some (some (.int .i64 0), 1, 8) := by kernel_rfl
theorem Tryd.infoRule : (Tryd.prog.info? 64).map (fun i => (i.zero, i.size, i.bytes)) = some (some (.agg #[.int .i64 0, .slice none 0 0]), 2, 32) := by kernel_rfl

def zI (n : Nat) : Array Value := madeCells #[.int .i64 0] n
def zR (n : Nat) : Array Value := madeCells #[.int .i64 0, .slice none 0 0] (n * 2)
theorem zI_size (n : Nat) : (zI n).size = n := size_madeCells _ _
theorem zR_size (n : Nat) : (zR n).size = n * 2 := size_madeCells _ _

theorem info_of {P : Program} {e : TypeId} {z : Value} {s b : Nat} (h : (P.info? e).map (fun i => (i.zero, i.size, i.bytes)) = some (some z, s, b)) :
    ∃ i, P.info? e = some i ∧ i.zero = some z ∧ i.size = s ∧ i.bytes = b := by
  cases hi : P.info? e with
  | none => rw [hi] at h; simp at h
  | some i => rw [hi] at h; simp at h; exact ⟨i, rfl, h.1, h.2.1, h.2.2⟩

theorem make_ints (n : Nat) (hn : n ≤ 1048576) (w : World) :
    (Instr.makeSlice 34 (.int .i64 (n : Int)) (.int .i64 (n : Int))).run Tryd.prog w = .ok (.slice (some ⟨w.heap.size, 0, none⟩) n n) (w.alloc (.cells (zI n) 3)) := by
  obtain ⟨i, hi, hz, hs, hb⟩ := info_of Tryd.infoInt
  have h := run_make (P := Tryd.prog) w 34 3 i _ Tryd.underlying34 hi hz .i64 .i64 n n (by omega) (by omega) (by rw [hb]; omega) (by omega)
  rw [hs] at h
  simpa [zI, Value.cells] using h

theorem make_rules (n : Nat) (hn : n ≤ 1048576) (w : World) :
    (Instr.makeSlice 24 (.int .i64 (n : Int)) (.int .i64 (n : Int))).run Tryd.prog w = .ok (.slice (some ⟨w.heap.size, 0, none⟩) n n) (w.alloc (.cells (zR n) 64)) := by
  obtain ⟨i, hi, hz, hs, hb⟩ := info_of Tryd.infoRule
  have h := run_make (P := Tryd.prog) w 24 64 i _ Tryd.underlying24 hi hz .i64 .i64 n n (by omega) (by omega) (by rw [hb]; omega) (by omega)
  rw [hs] at h
  simpa [zR, Value.cells] using h

theorem copied_step {xs : List Int} {cs : Array Value} {k : Nat} (hlt : k < xs.length) (hs : cs.size = xs.length) (h : ∀ (j : Nat) (x : Int), j < k → xs[j]? = some x → cs[j]? = some (.int .i64 x)) :
    ∀ (j : Nat) (x : Int), j < k + 1 → xs[j]? = some x → (cs.setIfInBounds k (.int .i64 xs[k]))[j]? = some (.int .i64 x) := by
  intro j x hj hx
  rw [Array.getElem?_setIfInBounds]
  by_cases e : k = j
  · subst e
    rw [if_pos rfl, if_pos (by omega)]
    rw [List.getElem?_eq_getElem hlt] at hx
    simpa using hx
  · rw [if_neg e]
    exact h j x (by omega) hx

/-- A new slice of numbers that reads as xs; nothing older has turned. -/
def GaveI (w : World) (xs : List Int) (e : Ending) (w' : World) : Prop :=
  ∃ A c, e = .returned (.slice A xs.length c) ∧ xs.length ≤ c ∧ OwnI w' w.heap.size A xs ∧ Below w.heap.size w w'

set_option maxHeartbeats 400000 in
theorem toIntS_any (A : Option Addr) (xs : List Int) (c : Nat) (w : World) (hr : Ints w w.heap.size A xs) (hn : xs.length ≤ 1048576) :
    Calls Tryd.prog 152 #[.slice A xs.length c] w (GaveI w xs) := by
  have hmk := make_ints xs.length hn
  have HR := Lib.hid hr; clear hr
  go_enter Tryd.func152, Tryd.ntmps152
  go_wp2
  go_loopw [4] (fun i wr => ∃ (k : Nat) (cs : Array Value), k ≤ xs.length ∧ i = .int .i64 k ∧ Below w.heap.size w wr ∧ Hid (Row wr w.heap.size 3 cs ∧ cs.size = xs.length ∧ ∀ (j : Nat) (x : Int), j < k → xs[j]? = some x → cs[j]? = some (.int .i64 x))) (fun i _ => xs.length - (intOf i).toNat)
  case atStart => exact ⟨0, zI xs.length, by omega, rfl, (Below.refl _ _).alloc (Nat.le_refl _) _, Row.new _ _ _, zI_size _, fun j x h => absurd h (by omega)⟩
  case round =>
    obtain ⟨k, cs, hk, rfl, hB, H⟩ := hrel
    clear hmk
    by_cases hlt : k < xs.length
    · obtain ⟨b, o, rfl, hb, c1⟩ := (HR.out.keep hB).at_ hlt
      have c2 : wr.cell? ⟨w.heap.size, k, none⟩ = some (cs[k]'(by have := H.out.2.1; omega)) := by
        rw [H.out.1.cell, Array.getElem?_eq_getElem]
      have c3 := H.out.1.frozen k
      go_wp2
      go_roundw
      case rel => exact ⟨k + 1, cs.setIfInBounds k (.int .i64 xs[k]), by omega, by go_num, hB.setCell (Nat.le_refl _) _, H.out.1.set k _, by rw [Array.size_setIfInBounds]; exact H.out.2.1, copied_step hlt H.out.2.1 H.out.2.2⟩
      case measure => simp [intOf]; omega
    · go_wp2
      go_ret
      exact ⟨some ⟨w.heap.size, 0, none⟩, xs.length, rfl, Nat.le_refl _, .inr ⟨w.heap.size, cs, rfl, Nat.le_refl _, H.out.1, fun j x hj => H.out.2.2 j x (by have := (List.getElem?_eq_some_iff.1 hj).1; omega) hj⟩, hB⟩

/-- A rule's copy. -/
def GaveU (w : World) (l : Int) (xs : List Int) (e : Ending) (w' : World) : Prop :=
  ∃ A c, e = .returned (.agg #[.int .i64 l, .slice A xs.length c]) ∧ xs.length ≤ c ∧ OwnI w' w.heap.size A xs ∧ Below w.heap.size w w'

set_option maxHeartbeats 400000 in
theorem toRule_any (l : Int) (A : Option Addr) (xs : List Int) (c : Nat) (w : World) (hr : Ints w w.heap.size A xs) (hn : xs.length ≤ 1048576) :
    Calls Tryd.prog 125 #[.agg #[.int .i64 l, .slice A xs.length c]] w (GaveU w l xs) := by
  have HR := Lib.hid hr; clear hr
  go_enter Tryd.func125, Tryd.ntmps125
  go_wp2_with fail
  refine (toIntS_any _ _ _ _ ?_ hn).mono ?_
  · exact (HR.out.keep (by go_grown)).more (by simp; omega)
  · rintro e w1 ⟨A', c', rfl, hcap, hO, hB⟩
    have hz := hB.size
    have c0 := (hB.cell (p := ⟨w.heap.size + 1 + 1, 0, none⟩) (by simp)).trans (show _ = some (.int .i64 l) from by simp [go_sem])
    have c1 := (hB.cell (p := ⟨w.heap.size + 1 + 1, 1, none⟩) (by simp)).trans (show _ = some (.slice none 0 0) from by simp [go_sem])
    have f0 := (hB.frozen (p := ⟨w.heap.size + 1 + 1, 1, none⟩) (by simp)).trans (show _ = false from by simp [go_sem])
    have d0 := (hB.cell (p := ⟨w.heap.size + 1, 0, none⟩) (by simp)).trans (show _ = some (.int .i64 0) from by simp [go_sem])
    have d1 := (hB.cell (p := ⟨w.heap.size + 1, 1, none⟩) (by simp)).trans (show _ = some (.slice none 0 0) from by simp [go_sem])
    have g0 := (hB.frozen (p := ⟨w.heap.size + 1, 0, none⟩) (by simp)).trans (show _ = false from by simp [go_sem])
    have g1 := (hB.frozen (p := ⟨w.heap.size + 1, 1, none⟩) (by simp)).trans (show _ = false from by simp [go_sem])
    have HO := Lib.hid hO; clear hO
    have HB := Lib.hid hB; clear hB
    go_wp2_with fail
    simp only [World.size_alloc] at hz
    refine bodyPost_ret (v := .agg #[.int .i64 l, .slice A' xs.length c']) (by simp [results, Tryd.results125, go_sem, d0, d1]) rfl ⟨A', c', rfl, hcap, ?_, ?_⟩
    · have h := HO.out
      simp only [World.size_alloc] at h
      exact (((h.low (by simp) _).low (by simp) _).low (by simp) _).lower (by omega)
    · have h := HB.out
      simp only [World.size_alloc] at h
      have hB0 : Below w.heap.size w w1 := Below.trans (by go_grown) (h.mono (by omega))
      exact ((hB0.setCell (by simp; omega) _).setCell (by simp) _).setCell (by simp) _

/-- A new slice of rules that says what rs say; nothing older has turned. -/
def GaveR (w : World) (ss : List (Int × List Int)) (e : Ending) (w' : World) : Prop :=
  ∃ A c rs, e = .returned (.slice A rs.length c) ∧ rs.length ≤ c ∧ OwnR w' w.heap.size A rs ∧ rs.map Ru.abs = ss ∧ Below w.heap.size w w'

/-- The first k rules of rs are copied into block g. -/
def Copying (w : World) (lo g : Nat) (rs : List Ru) (k : Nat) : Prop :=
  ∃ (cs : Array Value) (done : List Ru), Row w g 64 cs ∧ cs.size = rs.length * 2 ∧ done.length = k ∧ done.map Ru.abs = (rs.take k).map Ru.abs ∧
    (∀ (j : Nat) (u : Ru), done[j]? = some u → cs[j * 2]? = some (.int .i64 u.l) ∧ cs[j * 2 + 1]? = some (.slice u.a u.r.length u.c) ∧ OwnI w lo u.a u.r) ∧
    ∀ (i j : Nat) (u v : Ru), done[i]? = some u → done[j]? = some v → i ≠ j → u.r ≠ [] → v.r ≠ [] → u.a ≠ v.a

theorem Copying.step {w w1 : World} {lo g k : Nat} {rs : List Ru} (h : Copying w lo g rs k) (hlo : lo ≤ w.heap.size) (hk : k < rs.length) (hb : Below w.heap.size w w1) {A : Option Addr} {c : Nat} (hO : OwnI w1 w.heap.size A rs[k].r) :
    Copying ((w1.setCell ⟨g, k * 2, none⟩ (.int .i64 rs[k].l)).setCell ⟨g, k * 2 + 1, none⟩ (.slice A rs[k].r.length c)) lo g rs (k + 1) := by
  obtain ⟨cs, done, hr, hs, hl, ha, hc, hd⟩ := h
  have hg : g < w.heap.size := hr.lt
  have hr1 : Row w1 g 64 cs := hr.below hb hg
  have keep : ∀ {A' : Option Addr} {xs : List Int}, OwnI w1 lo A' xs → OwnI ((w1.setCell ⟨g, k * 2, none⟩ (.int .i64 rs[k].l)).setCell ⟨g, k * 2 + 1, none⟩ (.slice A rs[k].r.length c)) lo A' xs := by
    intro A' xs h
    rcases h with h | ⟨g', cs', e, hl', hr', hc'⟩
    · exact .inl h
    · have hne : g' ≠ g := hr'.ne hr1 (by decide)
      exact .inr ⟨g', cs', e, hl', (hr'.far hne _).far hne _, hc'⟩
  refine ⟨(cs.setIfInBounds (k * 2) (.int .i64 rs[k].l)).setIfInBounds (k * 2 + 1) (.slice A rs[k].r.length c), done ++ [⟨rs[k].l, A, rs[k].r, c⟩], (hr1.set _ _).set _ _, by simp [hs], by simp [hl], ?_, ?_, ?_⟩
  · rw [List.map_append, ha, List.take_succ_eq_append_getElem hk, List.map_append]; rfl
  · intro j u hu
    by_cases e : j < k
    · rw [List.getElem?_append_left (by omega)] at hu
      obtain ⟨h1, h2, h3⟩ := hc j u hu
      refine ⟨?_, ?_, keep (h3.below hb (Nat.le_refl _))⟩
      · rw [Array.getElem?_setIfInBounds, if_neg (by omega), Array.getElem?_setIfInBounds, if_neg (by omega)]; exact h1
      · rw [Array.getElem?_setIfInBounds, if_neg (by omega), Array.getElem?_setIfInBounds, if_neg (by omega)]; exact h2
    · rw [List.getElem?_append_right (by omega)] at hu
      have hj : j - done.length = 0 := by
        rcases Nat.eq_zero_or_pos (j - done.length) with h0 | h0
        · exact h0
        · rw [List.getElem?_eq_none (by simp; omega)] at hu; cases hu
      rw [hj] at hu
      simp at hu
      subst hu
      have : j = k := by omega
      subst this
      refine ⟨?_, ?_, keep (hO.lower hlo)⟩
      · rw [Array.getElem?_setIfInBounds, if_neg (by omega), Array.getElem?_setIfInBounds, if_pos rfl, if_pos (by omega)]
      · rw [Array.getElem?_setIfInBounds, if_pos rfl, if_pos (by simp; omega)]
  · have old : ∀ (i : Nat) (u : Ru), i < k → (done ++ [⟨rs[k].l, A, rs[k].r, c⟩])[i]? = some u → u.r ≠ [] → rs[k].r ≠ [] → u.a ≠ A := by
      intro i u hi hu hne hne' he
      rw [List.getElem?_append_left (by omega)] at hu
      obtain ⟨_, _, h3⟩ := hc i u hu
      rcases h3 with h3 | ⟨g1, _, e1, _, r1, _⟩
      · exact hne h3
      · rcases hO with h4 | ⟨g2, _, e2, l2, _, _⟩
        · exact hne' h4
        · rw [e1, e2] at he
          have := r1.lt
          injection he with he
          injection he with he
          omega
    have last : ∀ (i : Nat) (u : Ru), ¬ i < k → (done ++ [⟨rs[k].l, A, rs[k].r, c⟩])[i]? = some u → i = k ∧ u = ⟨rs[k].l, A, rs[k].r, c⟩ := by
      intro i u hi hu
      rw [List.getElem?_append_right (by omega)] at hu
      have hj : i - done.length = 0 := by
        rcases Nat.eq_zero_or_pos (i - done.length) with h0 | h0
        · exact h0
        · rw [List.getElem?_eq_none (by simp; omega)] at hu; cases hu
      rw [hj] at hu
      simp at hu
      exact ⟨by omega, hu.symm⟩
    intro i j u v hu hv hij hun hvn
    by_cases hi : i < k <;> by_cases hj : j < k
    · rw [List.getElem?_append_left (by omega)] at hu hv
      exact hd i j u v hu hv hij hun hvn
    · obtain ⟨rfl, rfl⟩ := last j v hj hv
      exact old i u hi hu hun hvn
    · obtain ⟨rfl, rfl⟩ := last i u hi hu
      exact fun e => old j v hj hv hvn hun e.symm
    · have := (last i u hi hu).1; have := (last j v hj hv).1; omega

theorem Copying.row {w : World} {lo g k : Nat} {rs : List Ru} (h : Copying w lo g rs k) : ∃ cs, Row w g 64 cs ∧ cs.size = rs.length * 2 := by
  obtain ⟨cs, _, hr, hs, _⟩ := h
  exact ⟨cs, hr, hs⟩

theorem Copying.done {w : World} {lo g : Nat} {rs : List Ru} (h : Copying w lo g rs rs.length) (hg : lo ≤ g) : ∃ ds : List Ru, OwnR w lo (some ⟨g, 0, none⟩) ds ∧ ds.length = rs.length ∧ ds.map Ru.abs = rs.map Ru.abs := by
  obtain ⟨cs, ds, hr, _, hl, ha, hc, hd⟩ := h
  exact ⟨ds, .inr ⟨g, cs, rfl, hg, hr, hc, hd⟩, hl, by rw [ha, List.take_length]⟩

set_option maxHeartbeats 400000 in
theorem toRuleS_any (A : Option Addr) (rs : List Ru) (c : Nat) (w : World) (hr : Rls w w.heap.size A rs) (hn : rs.length ≤ 1048576) (hu : ∀ u ∈ rs, u.r.length ≤ 1048576) :
    Calls Tryd.prog 82 #[.slice A rs.length c] w (GaveR w (rs.map Ru.abs)) := by
  have hmk := make_rules rs.length hn
  have HR := Lib.hid hr; clear hr
  have HU := Lib.hid hu; clear hu
  go_enter Tryd.func82, Tryd.ntmps82
  go_wp2
  go_loopw [4] (fun i wr => ∃ (k : Nat), k ≤ rs.length ∧ i = .int .i64 k ∧ w.heap.size < wr.heap.size ∧ Below w.heap.size w wr ∧ Hid (Copying wr w.heap.size w.heap.size rs k)) (fun i _ => rs.length - (intOf i).toNat)
  case atStart => exact ⟨0, by omega, rfl, by simp, (Below.refl _ _).alloc (Nat.le_refl _) _, zR rs.length, [], Row.new _ _ _, zR_size _, rfl, rfl, fun j u h => by simp at h, fun i j u v h => by simp at h⟩
  case round =>
    obtain ⟨k, hk, rfl, hsz, hB, H⟩ := hrel
    clear hmk
    by_cases hlt : k < rs.length
    · obtain ⟨b, o, rfl, hb, c1, c2, c3⟩ := (HR.out.keep hB).at_ hlt
      have C3 := Lib.hid (c3.more hB.size); clear c3
      have hlen := HU.out rs[k] (List.getElem_mem hlt)
      go_wp2_with fail
      refine (toRule_any _ _ _ _ _ C3.out hlen).mono ?_
      rintro e w1 ⟨A1, k1, rfl, _, hO, hB1⟩
      obtain ⟨cs, hcs, hcz⟩ := H.out.row
      have hr1 := hcs.below hB1 hsz
      obtain ⟨x0, d0⟩ : ∃ x0, w1.cell? ⟨w.heap.size, k * 2, none⟩ = some x0 := ⟨_, (hr1.cell (k * 2)).trans (Array.getElem?_eq_getElem (by omega))⟩
      obtain ⟨x1, d1⟩ : ∃ x1, w1.cell? ⟨w.heap.size, k * 2 + 1, none⟩ = some x1 := ⟨_, (hr1.cell (k * 2 + 1)).trans (Array.getElem?_eq_getElem (by omega))⟩
      have f0 := hr1.frozen (k * 2)
      have f1 := hr1.frozen (k * 2 + 1)
      have HO := Lib.hid hO; clear hO
      have HB1 := Lib.hid hB1; clear hB1
      clear hr1 hcs hcz
      go_wp2
      go_roundw
      case rel => exact ⟨k + 1, by omega, by go_num, by have := HB1.out.size; simp; omega, ((hB.trans (HB1.out.mono hB.size)).setCell (Nat.le_refl _) _).setCell (Nat.le_refl _) _, H.out.step hB.size hlt HB1.out HO.out⟩
      case measure => simp [intOf]; omega
    · go_wp2
      go_ret
      obtain rfl : k = rs.length := by omega
      obtain ⟨ds, hO, hl, ha⟩ := H.out.done (Nat.le_refl _)
      exact ⟨some ⟨w.heap.size, 0, none⟩, rs.length, ds, by rw [hl]; rfl, by omega, hO, ha, hB⟩

/-- A grammar's copy: it says the same; nothing older has turned. -/
def GaveG (w : World) (n t : Int) (ss : List (Int × List Int)) (e : Ending) (w' : World) : Prop :=
  ∃ A c rs, e = .returned (.agg #[.int .i64 n, .int .i64 t, .slice A rs.length c]) ∧ rs.length ≤ c ∧ OwnR w' w.heap.size A rs ∧ rs.map Ru.abs = ss ∧ Below w.heap.size w w'

set_option maxHeartbeats 400000 in
theorem toGrammar_any (n t : Int) (A : Option Addr) (rs : List Ru) (c : Nat) (w : World) (hr : Rls w w.heap.size A rs) (hn : rs.length ≤ 1048576) (hu : ∀ u ∈ rs, u.r.length ≤ 1048576) :
    Calls Tryd.prog 32 #[.agg #[.int .i64 n, .int .i64 t, .slice A rs.length c]] w (GaveG w n t (rs.map Ru.abs)) := by
  have HR := Lib.hid hr; clear hr
  have HU := Lib.hid hu; clear hu
  go_enter Tryd.func32, Tryd.ntmps32
  go_wp2_with fail
  refine (toRuleS_any _ _ _ _ ?_ hn HU.out).mono ?_
  · exact (HR.out.keep (by go_grown)).more (by go_size)
  · rintro e w1 ⟨A', c', ss, rfl, hcap, hO, ha, hB⟩
    have hz := hB.size
    have c0 := (hB.cell (p := ⟨w.heap.size + 1 + 1, 0, none⟩) (by simp)).trans (show _ = some (.int .i64 n) from by simp [go_sem])
    have c1 := (hB.cell (p := ⟨w.heap.size + 1 + 1, 1, none⟩) (by simp)).trans (show _ = some (.int .i64 t) from by simp [go_sem])
    have c2 := (hB.cell (p := ⟨w.heap.size + 1 + 1, 2, none⟩) (by simp)).trans (show _ = some (.slice none 0 0) from by simp [go_sem])
    have f0 := (hB.frozen (p := ⟨w.heap.size + 1 + 1, 2, none⟩) (by simp)).trans (show _ = false from by simp [go_sem])
    have d0 := (hB.cell (p := ⟨w.heap.size + 1, 0, none⟩) (by simp)).trans (show _ = some (.int .i64 0) from by simp [go_sem])
    have d1 := (hB.cell (p := ⟨w.heap.size + 1, 1, none⟩) (by simp)).trans (show _ = some (.int .i64 0) from by simp [go_sem])
    have d2 := (hB.cell (p := ⟨w.heap.size + 1, 2, none⟩) (by simp)).trans (show _ = some (.slice none 0 0) from by simp [go_sem])
    have g0 := (hB.frozen (p := ⟨w.heap.size + 1, 0, none⟩) (by simp)).trans (show _ = false from by simp [go_sem])
    have g1 := (hB.frozen (p := ⟨w.heap.size + 1, 1, none⟩) (by simp)).trans (show _ = false from by simp [go_sem])
    have g2 := (hB.frozen (p := ⟨w.heap.size + 1, 2, none⟩) (by simp)).trans (show _ = false from by simp [go_sem])
    have HO := Lib.hid hO; clear hO
    have HB := Lib.hid hB; clear hB
    have HA := Lib.hid ha; clear ha
    go_wp2_with fail
    simp only [World.size_alloc] at hz
    refine bodyPost_ret (v := .agg #[.int .i64 n, .int .i64 t, .slice A' ss.length c']) (by simp [results, Tryd.results32, go_sem, d0, d1, d2]) rfl ⟨A', c', ss, rfl, hcap, ?_, HA.out, ?_⟩
    · have h := HO.out
      simp only [World.size_alloc] at h
      exact ((((h.low (by simp) _).low (by simp) _).low (by simp) _).low (by simp) _).lower (by omega)
    · have h := HB.out
      simp only [World.size_alloc] at h
      have hB0 : Below w.heap.size w w1 := Below.trans (by go_grown) (h.mono (by omega))
      exact (((hB0.setCell (by simp; omega) _).setCell (by simp) _).setCell (by simp) _).setCell (by simp) _

end Go.Proofs.YtacehfjhpnplbaaDoor

/- What the reference's checks of chapter 1 answer. -/

namespace Go.Proofs.YtacehfjhpnplbaaDoor
open Go.RowKit
open Go.Sort (grow)

set_option maxHeartbeats 400000 in
theorem l1In_any (n lo hi : Int) (w : World) :
    Calls Tryd.prog 78 #[.int .i64 n, .int .i64 lo, .int .i64 hi] w fun e w' => e = .returned (.bool (inB lo hi n)) ∧ w = w' := by
  by_cases h1 : lo ≤ n
  · by_cases h2 : n ≤ hi
    · have HE : Hid (inB lo hi n = true) := inB_t h1 h2
      go_enter Tryd.func78, Tryd.ntmps78
      go_wp2
      go_ret
      exact ⟨ret_b HE.out.symm, rfl⟩
    · have HE : Hid (inB lo hi n = false) := inB_f (by omega)
      go_enter Tryd.func78, Tryd.ntmps78
      go_wp2
      go_ret
      exact ⟨ret_b HE.out.symm, rfl⟩
  · have HE : Hid (inB lo hi n = false) := inB_f (by omega)
    go_enter Tryd.func78, Tryd.ntmps78
    go_wp2
    go_ret
    exact ⟨ret_b HE.out.symm, rfl⟩

theorem sym_in {n t x : Int} (hn : 1 ≤ n) (ht : 1 ≤ t) : inB (-t) (n - 1) x = symB n t x := by
  unfold inB symB
  rw [Bool.eq_iff_iff]
  simp only [decide_eq_true_eq]
  omega
theorem non_in {n x : Int} : inB 0 (n - 1) x = nonB n x := by
  unfold inB nonB
  rw [Bool.eq_iff_iff]
  simp only [decide_eq_true_eq]
  omega

set_option maxHeartbeats 400000 in
theorem l1Symbol_any (n t x : Int) (v : Value) (w : World) (hn : 1 ≤ n) (hn' : n ≤ 6) (ht : 1 ≤ t) (ht' : t ≤ 4) :
    Calls Tryd.prog 102 #[.agg #[.int .i64 n, .int .i64 t, v], .int .i64 x] w fun e w' => e = .returned (.bool (symB n t x)) ∧ Below w.heap.size w w' := by
  have HS := Lib.hid (sym_in (x := x) hn ht)
  go_enter Tryd.func102, Tryd.ntmps102
  go_wp2_with fail
  refine (l1In_any _ _ _ _).mono ?_
  rintro e w1 ⟨rfl, rfl⟩
  go_wp2
  go_ret
  exact ⟨ret_b HS.out, by go_grown⟩

set_option maxHeartbeats 400000 in
theorem l1Same_any (A A' : Option Addr) (xs ys : List Int) (c c' : Nat) (w : World) (hx : Ints w w.heap.size A xs) (hy : Ints w w.heap.size A' ys) (h1 : xs.length ≤ 1048576) :
    Calls Tryd.prog 145 #[.slice A xs.length c, .slice A' ys.length c'] w fun e w' => e = .returned (.bool (eqL xs ys)) ∧ Below w.heap.size w w' := by
  have HX := Lib.hid hx; clear hx
  have HY := Lib.hid hy; clear hy
  by_cases hl : xs.length = ys.length
  · have hd : ((xs.length : Int) != (ys.length : Int)) = false := bne_f (by omega)
    have hlen : xs.length ≤ ys.length := by omega
    have hlen' : ys.length ≤ xs.length := by omega
    have HL := Lib.hid hl; clear hl
    go_enter Tryd.func145, Tryd.ntmps145
    go_wp2
    go_loopw [13] (fun i wr => ∃ (k : Nat), k ≤ xs.length ∧ i = .int .i64 k ∧ Below w.heap.size w wr ∧ Hid (∀ j : Nat, j < k → xs[j]? = ys[j]?)) (fun i _ => xs.length - (intOf i).toNat)
    case atStart => exact ⟨0, by omega, rfl, Below.refl _ _, fun j h => absurd h (by omega)⟩
    case round =>
      obtain ⟨k, hk, rfl, hB, H⟩ := hrel
      by_cases hlt : k < xs.length
      · have hlt' : k < ys.length := by omega
        obtain ⟨b, o, rfl, hb, c1⟩ := (HX.out.keep hB).at_ hlt
        obtain ⟨b', o', rfl, hb', c2⟩ := (HY.out.keep hB).at_ hlt'
        by_cases hne : xs[k] = ys[k]
        · have ht := bne_f hne
          have HE := Lib.hid hne; clear hne
          go_wp2
          go_quiet (fail)
          go_wp2
          go_roundw
          case rel => exact ⟨k + 1, by omega, by go_num, below_drewN hB _, step_eq hlt hlt' HE.out H.out⟩
          case measure => simp [intOf]; omega
        · have ht := bne_t hne
          have HE : Hid (eqL xs ys = false) := eqL_not hlt hlt' hne
          clear hne
          go_wp2
          go_quiet (fail)
          go_wp2
          go_ret
          exact ⟨ret_bool HE.out.symm, below_drewN hB _⟩
      · have HE : Hid (eqL xs ys = true) := eqL_of HL.out hlt H.out
        go_wp2
        go_ret
        exact ⟨ret_bool HE.out.symm, hB⟩
  · have hd : ((xs.length : Int) != (ys.length : Int)) = true := bne_t (by omega)
    have HE : Hid (eqL xs ys = false) := eqL_f fun e => hl (by rw [e])
    clear hl
    go_enter Tryd.func145, Tryd.ntmps145
    go_wp2
    go_ret
    exact ⟨ret_bool HE.out.symm, Below.refl _ _⟩

set_option maxHeartbeats 400000 in
theorem l1SameRule_any (l l' : Int) (A A' : Option Addr) (xs ys : List Int) (c c' : Nat) (w : World) (hx : Ints w w.heap.size A xs) (hy : Ints w w.heap.size A' ys) (h1 : xs.length ≤ 1048576) :
    Calls Tryd.prog 103 #[.agg #[.int .i64 l, .slice A xs.length c], .agg #[.int .i64 l', .slice A' ys.length c']] w fun e w' => e = .returned (.bool (eqU (l, xs) (l', ys))) ∧ Below w.heap.size w w' := by
  have HX := Lib.hid hx; clear hx
  have HY := Lib.hid hy; clear hy
  by_cases hl : l = l'
  · have hd := beq_t hl
    have HL := Lib.hid hl; clear hl
    cases hq : eqL xs ys
    all_goals
      have HQ := Lib.hid hq; clear hq
      go_enter Tryd.func103, Tryd.ntmps103
      go_wp2_with fail
      refine (l1Same_any _ _ _ _ _ _ _ ?_ ?_ h1).mono ?_
      · exact (HX.out.keep (by go_grown)).more (by go_size)
      · exact (HY.out.keep (by go_grown)).more (by go_size)
      rintro e w1 ⟨rfl, hB⟩
      rw [HQ.out]
      go_wp2
      go_ret
      refine ⟨ret_bool ?_, Below.trans (by go_grown) (hB.mono (by go_size))⟩
    · exact (eqU_f fun e => by have h : xs = ys := congrArg Prod.snd e; rw [eqL_t h] at HQ; cases HQ.out).symm
    · exact (eqU_t (by rw [HL.out, of_decide_eq_true HQ.out])).symm
  · have hd := beq_f hl
    have HE : Hid (eqU (l, xs) (l', ys) = false) := eqU_f fun e => hl (congrArg Prod.fst e)
    clear hl
    go_enter Tryd.func103, Tryd.ntmps103
    go_wp2
    go_ret
    exact ⟨ret_bool HE.out.symm, by go_grown⟩

end Go.Proofs.YtacehfjhpnplbaaDoor

/- What the reference's GoodGrammar answers. -/

namespace Go.Proofs.YtacehfjhpnplbaaDoor
open Go.RowKit

theorem has_take {rs : List Ru} {k : Nat} (i : Nat) (h : i < k) : (rs.take k)[i]? = rs[i]? := by
  rw [List.getElem?_take, if_pos h]

theorem dup_step {rs : List Ru} {k i : Nat} (hk : k < rs.length) (hi : i < k) (h : eqU rs[k].abs (rs[i]'(by omega)).abs = false) (H : ∀ j : Nat, j < i → ((rs.take k).map Ru.abs)[j]? ≠ some rs[k].abs) :
    ∀ j : Nat, j < i + 1 → ((rs.take k).map Ru.abs)[j]? ≠ some rs[k].abs := by
  intro j hj
  by_cases e : j = i
  · subst e
    rw [List.getElem?_map, has_take j hi, List.getElem?_eq_getElem (by omega)]
    intro h'
    rw [eqU_t (by simpa using h'.symm)] at h
    cases h
  · exact H j (by omega)
theorem dup_t {rs : List Ru} {k i : Nat} (hk : k < rs.length) (hi : i < k) (h : eqU rs[k].abs (rs[i]'(by omega)).abs = true) : hasU ((rs.take k).map Ru.abs) rs[k].abs = true :=
  decide_eq_true (by
    rw [of_decide_eq_true h]
    exact List.mem_map.2 ⟨_, List.mem_iff_getElem?.2 ⟨i, by rw [has_take i hi, List.getElem?_eq_getElem]⟩, rfl⟩)
theorem dup_f {rs : List Ru} {k i : Nat} (hk : k < rs.length) (hi : ¬ i < k) (H : ∀ j : Nat, j < i → ((rs.take k).map Ru.abs)[j]? ≠ some rs[k].abs) : hasU ((rs.take k).map Ru.abs) rs[k].abs = false :=
  decide_eq_false fun h => by
    obtain ⟨j, hj⟩ := List.mem_iff_getElem?.1 h
    have := (List.getElem?_eq_some_iff.1 hj).1
    simp at this
    exact H j (by omega) hj

set_option maxHeartbeats 1000000 in
theorem specGood_any (n t : Int) (A : Option Addr) (c : Nat) (rs : List Ru) (w : World) (hx : Rls w w.heap.size A rs) (hc : rs.length ≤ c) (h1 : rs.length ≤ 1048576) (h2 : ∀ u ∈ rs, u.r.length ≤ 1048576) :
    Calls Tryd.prog 58 #[.agg #[.int .i64 n, .int .i64 t, .slice A rs.length c]] w fun e w' => e = .returned (.bool (goodG n t (rs.map Ru.abs))) ∧ Below w.heap.size w w' := by
  have HX := Lib.hid hx; clear hx
  have H2 := Lib.hid h2; clear h2
  cases hn : inB 1 6 n
  · have HE : Hid (goodG n t (rs.map Ru.abs) = false) := goodG_n (inB_not hn)
    have HN := Lib.hid hn; clear hn
    go_enter Tryd.func58, Tryd.ntmps58
    go_wp2_with fail
    refine (l1In_any _ _ _ _).mono ?_
    rintro e w1 ⟨rfl, rfl⟩
    rw [HN.out]
    go_wp2
    go_ret
    exact ⟨ret_bool HE.out.symm, by go_grown⟩
  have HN := Lib.hid hn; clear hn
  cases ht : inB 1 4 t
  · have HE : Hid (goodG n t (rs.map Ru.abs) = false) := goodG_t (inB_not ht)
    have HT := Lib.hid ht; clear ht
    go_enter Tryd.func58, Tryd.ntmps58
    go_wp2_with fail
    refine (l1In_any _ _ _ _).mono ?_
    rintro e w1 ⟨rfl, rfl⟩
    rw [HN.out]
    go_wp2_with fail
    refine (l1In_any _ _ _ _).mono ?_
    rintro e w1 ⟨rfl, rfl⟩
    rw [HT.out]
    go_wp2
    go_ret
    exact ⟨ret_bool HE.out.symm, by go_grown⟩
  have HT := Lib.hid ht; clear ht
  by_cases hl : rs.length ≤ 16
  case neg =>
    have HE : Hid (goodG n t (rs.map Ru.abs) = false) := goodG_len (by simpa using hl)
    have hl' : ((16 : Int) < (rs.length : Int)) := by omega
    clear hl
    go_enter Tryd.func58, Tryd.ntmps58
    go_wp2_with fail
    refine (l1In_any _ _ _ _).mono ?_
    rintro e w1 ⟨rfl, rfl⟩
    rw [HN.out]
    go_wp2_with fail
    refine (l1In_any _ _ _ _).mono ?_
    rintro e w1 ⟨rfl, rfl⟩
    rw [HT.out]
    go_wp2
    go_ret
    exact ⟨ret_bool HE.out.symm, by go_grown⟩
  have HA : Hid (goodG n t (rs.map Ru.abs) = goodAll n t (rs.map Ru.abs)) := goodG_all (inB_and HN.out) (inB_and HT.out) (by simpa using hl)
  have n1 := inB_lo HN.out
  have n2 := inB_hi HN.out
  have t1 := inB_lo HT.out
  have t2 := inB_hi HT.out
  go_enter Tryd.func58, Tryd.ntmps58
  go_wp2_with fail
  refine (l1In_any _ _ _ _).mono ?_
  rintro e w1 ⟨rfl, rfl⟩
  rw [HN.out]
  go_wp2_with fail
  refine (l1In_any _ _ _ _).mono ?_
  rintro e w1 ⟨rfl, rfl⟩
  rw [HT.out]
  go_wp2
  go_loopw [28] (fun i wr => ∃ (k : Nat), k ≤ rs.length ∧ i = .int .i64 k ∧ Below w.heap.size w wr ∧ Box3 wr w.heap.size (.int .i64 n) (.int .i64 t) (.slice A rs.length c) ∧ Hid (goodTo n t (rs.map Ru.abs) k)) (fun i _ => rs.length - (intOf i).toNat)
  case atStart => exact ⟨0, by omega, rfl, by go_grown, ⟨by simp, by simp [go_sem], by simp [go_sem], by simp [go_sem]⟩, fun j x h => absurd h (by omega)⟩
  case round =>
    obtain ⟨k, hk, rfl, hB, hbox, H⟩ := hrel
    by_cases hlt : k < rs.length
    case neg =>
      have HE : Hid (goodG n t (rs.map Ru.abs) = true) := HA.out.trans (goodAll_of (k := k) (by simpa using hlt) H.out)
      clear hbox
      go_wp2
      go_ret
      exact ⟨ret_bool HE.out.symm, hB⟩
    obtain ⟨b, o, rfl, hb, c1, c2, c3⟩ := (HX.out.keep hB).at_ hlt
    obtain ⟨g0, g1, g2, g3⟩ := id hbox
    have HBX := Lib.hid hbox; clear hbox
    have C3 := Lib.hid (c3.more hB.size); clear c3
    have hlen2 := H2.out rs[k] (List.getElem_mem hlt)
    go_wp2_with fail
    refine (l1In_any _ _ _ _).mono ?_
    rintro e w1 ⟨rfl, rfl⟩
    rw [non_in]
    cases hq : nonB n rs[k].l
    · have HE : Hid (goodG n t (rs.map Ru.abs) = false) := HA.out.trans (goodAll_bad (k := k) (by simpa using hlt) (.inl (by simpa [Ru.abs] using goodU_left hq)))
      have HQ := Lib.hid hq; clear hq
      go_wp2
      go_ret
      exact ⟨ret_bool HE.out.symm, hB.trans (Below.mono (B := wr.heap.size) (by go_grown) hB.size)⟩
    have HQ := Lib.hid hq; clear hq
    by_cases hl4 : rs[k].r.length ≤ 4
    case neg =>
      have HE : Hid (goodG n t (rs.map Ru.abs) = false) := HA.out.trans (goodAll_bad (k := k) (by simpa using hlt) (.inl (by simpa [Ru.abs] using goodU_long (n := n) (t := t) (l := rs[k].l) hl4)))
      have hl4' : ((4 : Int) < (rs[k].r.length : Int)) := by omega
      clear hl4
      go_wp2
      go_ret
      exact ⟨ret_bool HE.out.symm, hB.trans (Below.mono (B := wr.heap.size) (by go_grown) hB.size)⟩
    have HS : Hid (goodU n t rs[k].abs = symsB n t rs[k].r) := goodU_syms HQ.out hl4
    have hBA : Below wr.heap.size wr (wr.alloc (.cells #[.int .i64 rs[k].l, .slice rs[k].a rs[k].r.length rs[k].c] 64)) := by go_grown
    have BU : Box2 (wr.alloc (.cells #[.int .i64 rs[k].l, .slice rs[k].a rs[k].r.length rs[k].c] 64)) wr.heap.size (.int .i64 rs[k].l) (.slice rs[k].a rs[k].r.length rs[k].c) := ⟨by simp, by simp [go_sem], by simp [go_sem]⟩
    generalize (wr.alloc (.cells #[.int .i64 rs[k].l, .slice rs[k].a rs[k].r.length rs[k].c] 64)) = W at hBA BU ⊢
    have HBX2 := Lib.hid (HBX.out.keep hBA g0)
    have C3' := Lib.hid ((C3.out.keep hBA).more hBA.size)
    have HBW := Lib.hid (hB.trans (hBA.mono hB.size))
    obtain ⟨y0, y1, y2⟩ := id BU
    have HBU := Lib.hid BU; clear BU
    clear c1 c2 g1 g2 g3 hBA C3 HBX
    go_wp2
    go_loopw [49] (fun i wr1 => ∃ (j : Nat), j ≤ rs[k].r.length ∧ i = .int .i64 j ∧ Below W.heap.size W wr1 ∧ Hid (∀ (m : Nat) (x : Int), m < j → rs[k].r[m]? = some x → symB n t x = true)) (fun i _ => rs[k].r.length - (intOf i).toNat)
    case atStart => exact ⟨0, by omega, rfl, Below.refl _ _, fun j x h => absurd h (by omega)⟩
    case round =>
      obtain ⟨j, hj, rfl, hB1, H1⟩ := hrel
      have HB1 := Lib.hid hB1; clear hB1
      obtain ⟨_, z0, z1, z2⟩ := HBX2.out.keep HB1.out HBX2.out.1
      clear y1 y2
      by_cases hjl : j < rs[k].r.length
      · obtain ⟨b', o', ha, hb', c1⟩ := (C3'.out.keep HB1.out).at_ hjl
        have HA' := Lib.hid ha; clear ha
        cases hs : symB n t rs[k].r[j]
        all_goals
          have HSY := Lib.hid hs; clear hs
          rw [HA'.out]
          go_wp2_with fail
          refine (l1Symbol_any _ _ _ _ _ n1 n2 t1 t2).mono ?_
          rintro e w3 ⟨rfl, hB3⟩
          rw [HSY.out]
          have HB4 := Lib.hid (HB1.out.trans (hB3.mono HB1.out.size)); clear hB3
          clear z0 z1 z2 c1
        · have HE : Hid (goodG n t (rs.map Ru.abs) = false) := HA.out.trans (goodAll_bad (k := k) (by simpa using hlt) (.inl (by simpa using HS.out.trans (symsB_not hjl HSY.out))))
          go_wp2
          go_ret
          exact ⟨ret_bool HE.out.symm, HBW.out.trans (HB4.out.mono HBW.out.size)⟩
        · go_wp2
          go_roundw
          case rel => exact ⟨j + 1, by omega, by go_num, HB4.out, syms_step hjl HSY.out H1.out⟩
          case measure => simp [intOf]; omega
      · have HG : Hid (goodU n t rs[k].abs = true) := HS.out.trans (symsB_of hjl H1.out)
        have HRW := Lib.hid (((HX.out.keep HBW.out).more HBW.out.size).keep HB1.out)
        obtain ⟨_, v0, v1⟩ := HBU.out.keep HB1.out HBU.out.1
        go_wp2
        go_loopw [63] (fun i wr2 => ∃ (j : Nat), j ≤ k ∧ i = .int .i64 j ∧ Below W.heap.size W wr2 ∧ Hid (∀ m : Nat, m < j → ((rs.take k).map Ru.abs)[m]? ≠ some rs[k].abs)) (fun i _ => k - (intOf i).toNat)
        case atStart => exact ⟨0, by omega, rfl, HB1.out, fun j h => absurd h (by omega)⟩
        case round =>
          clear v0 v1 z0 z1 z2 HB1 HRW
          obtain ⟨i, hi, rfl, hB2, H3⟩ := hrel
          have HB2 := Lib.hid hB2; clear hB2
          by_cases hik : i < k
          · have hil : i < rs.length := by omega
            obtain ⟨v0, v1, v2⟩ := HBU.out.keep HB2.out HBU.out.1
            have hRW := ((HX.out.keep HBW.out).more HBW.out.size).keep HB2.out
            obtain ⟨b', o', ha, hb', d1, d2, d3⟩ := hRW.at_ hil
            injection ha with ha
            injection ha with ha1 ha2
            subst ha1 ha2
            have HD3 := Lib.hid (d3.more HB2.out.size); clear d3
            have HC3 := Lib.hid ((C3'.out.keep HB2.out).more HB2.out.size)
            clear hRW
            cases hq : eqU rs[k].abs rs[i].abs
            all_goals
              have HQ2 := Lib.hid hq; clear hq
              go_wp2_with fail
              refine (l1SameRule_any _ _ _ _ _ _ _ _ _ ?_ ?_ hlen2).mono ?_
              · exact (HC3.out.keep (by go_grown)).more (by go_size)
              · exact (HD3.out.keep (by go_grown)).more (by go_size)
              rintro e w3 ⟨rfl, hB3⟩
              have HB4 : Hid (Below W.heap.size W w3) := HB2.out.trans (Below.trans (Below.mono (B := wr.heap.size) (by go_grown) HB2.out.size) (hB3.mono (by have := HB2.out.size; simp; omega)))
              clear hB3
              rw [show eqU (rs[k].l, rs[k].r) (rs[i].l, rs[i].r) = _ from HQ2.out]
            · go_wp2
              go_roundw
              case rel => exact ⟨i + 1, by omega, by go_num, HB4.out, dup_step hlt hik HQ2.out H3.out⟩
              case measure => simp [intOf]; omega
            · have HE : Hid (goodG n t (rs.map Ru.abs) = false) := HA.out.trans (goodAll_bad (k := k) (by simpa using hlt) (.inr (by rw [← List.map_take]; simpa using dup_t hlt hik HQ2.out)))
              go_wp2
              go_ret
              exact ⟨ret_bool HE.out.symm, HBW.out.trans (HB4.out.mono HBW.out.size)⟩
          · go_wp2
            go_roundw
            case rel => exact ⟨k + 1, by omega, by go_num, HBW.out.trans (HB2.out.mono HBW.out.size), HBX2.out.keep HB2.out HBX2.out.1, goodTo_step (by simpa using hlt) (by simpa using HG.out) (by rw [← List.map_take]; simpa using dup_f hlt hik H3.out) H.out⟩
            case measure => simp [intOf]; omega

end Go.Proofs.YtacehfjhpnplbaaDoor

/- What two readings of the same rules share; what a law's call has to end in. -/

namespace Go.Proofs.YtacehfjhpnplbaaDoor
open Go.RowKit
open Go.Sort (grow)

theorem abs_mem {rs ss : List Ru} (h : ss.map Ru.abs = rs.map Ru.abs) {u : Ru} (hu : u ∈ ss) : ∃ v ∈ rs, v.l = u.l ∧ v.r = u.r := by
  have : u.abs ∈ rs.map Ru.abs := h ▸ List.mem_map.2 ⟨u, hu, rfl⟩
  obtain ⟨v, hv, e⟩ := List.mem_map.1 this
  exact ⟨v, hv, congrArg Prod.fst e, congrArg Prod.snd e⟩
theorem abs_len {rs ss : List Ru} (h : ss.map Ru.abs = rs.map Ru.abs) : ss.length = rs.length := by simpa using congrArg List.length h
theorem abs_lens {rs ss : List Ru} (h : ss.map Ru.abs = rs.map Ru.abs) {m : Nat} (hu : ∀ u ∈ rs, u.r.length ≤ m) : ∀ u ∈ ss, u.r.length ≤ m := fun u hm => by
  obtain ⟨v, hv, _, e⟩ := abs_mem h hm
  rw [← e]; exact hu v hv
theorem abs_fit {rs ss : List Ru} (h : ss.map Ru.abs = rs.map Ru.abs) (hf : FitR rs) : FitR ss := fun u hm => by
  obtain ⟨v, hv, _, e⟩ := abs_mem h hm
  rw [← e]; exact hf v hv
theorem eqG_t {n t : Int} {rs ss : List (Int × List Int)} (h : rs = ss) : eqG n t rs n t ss = true := decide_eq_true ⟨rfl, rfl, h⟩

/-- What a law's call has to end in. -/
def LawEnds (w : World) (e : Ending) (w' : World) : Prop := e = .returned (.bool true) ∧ Below w.heap.size w w'

end Go.Proofs.YtacehfjhpnplbaaDoor

/- A law's end: it returned true, and nothing that was there has turned. -/

namespace Go.Proofs.YtacehfjhpnplbaaDoor
open Go.ChangeShapes Go.WideShapes Go.ChangeAt Go.RowKit
set_option maxRecDepth 100000

theorem Tryd.own : ownKnob Tryd.prog.godebug = none := by kernel_rfl
theorem Tryd.laidOut : laidOutB Tryd.prog = true := by kernel_rfl

/-- A law's end, one argument: it returned true, and nothing that was there has turned. -/
theorem ends_one {H : Type} {enc : TypeId × Value → H} {f : Func} {s : ChangeSpec} {W W' : World} {v0 : Value} {d0 : DataW H} {gs : List (DataW H)} {before : List MemPlace} {t0 : TypeId}
    (hW : DataW.Whole enc Tryd.prog f.params.toList s.vars false W [v0] [d0] gs before) (hp : f.params = #[t0]) (hr : f.resultTypes = #[4])
    (hfn : s.fn H ([d0] ++ gs) = { results := [.lit (.bool true)], args := [d0], vars := gs })
    (ht : Tryd.prog.readableRec t0 = true) (hs : t0 < Tryd.prog.types.size) (hv : varsRowed Tryd.prog s.vars = true) (hb : Below W.heap.size W W') :
    s.post enc Tryd.prog f false true false false W #[v0] (.bool true) W' := by
  have hlt : ∀ x ∈ before, x.block < W.heap.size := fun x hx => hW.lt x hx
  have hW' := hW
  obtain ⟨p, q, hA, hV, rfl, _, _⟩ := hW
  rw [hp] at hA
  obtain ⟨v, d, e1, e2, h0⟩ := trodAll_one hA
  have ev : v0 = v := by simpa using e1
  have ed : d0 = d := by simpa using e2
  subst ev ed
  refine ⟨[d0], gs, p ++ q, [], p, q, hW', ?_, ?_, ?_, hb.frame _, fun h => by cases h⟩
  · rw [hfn, hr]
    exact trodAll_mk1 (shut_bool Tryd.underlying4 true)
  · rw [hfn, hp]
    exact trodAll_mk1 (hb.trod Tryd.laidOut ht hs h0 (fun x hx => hlt x (List.mem_append_left _ hx)))
  · rw [hfn]
    exact hb.trodVars Tryd.laidOut hv hV

theorem open_intS' {H : Type} {enc : TypeId × Value → H} {W : World} {spare : Nat → Bool} {held : Bool} {r : Reach} {b0 : Nat} {v : Value} {d : DataW H} {p : List MemPlace} (hv : Value.okWide Tryd.prog W r b0 34 v) (h : DataW.Trod enc Tryd.prog W 0 spare held 34 v d p) :
    ∃ (A : Option Addr) (xs : List Int) (c : Nat), v = .slice A xs.length c ∧ xs.length ≤ c ∧ Ints W W.heap.size A xs ∧ xs.length ≤ maxLen ∧ ∀ x ∈ xs, F64 x := by
  obtain ⟨a0, len, cap, rfl⟩ := okWide_slice Tryd.underlying34 hv
  obtain ⟨fuel, hf⟩ := h
  exact open_intS (by simpa [Value.cells] using hf)

/-- A law's end, two arguments: it returned true, and nothing that was there has turned. -/
theorem ends_two {H : Type} {enc : TypeId × Value → H} {f : Func} {s : ChangeSpec} {W W' : World} {v0 v1 : Value} {d0 d1 : DataW H} {gs : List (DataW H)} {before : List MemPlace} {t0 t1 : TypeId}
    (hW : DataW.Whole enc Tryd.prog f.params.toList s.vars false W [v0, v1] [d0, d1] gs before) (hp : f.params = #[t0, t1]) (hr : f.resultTypes = #[4])
    (hfn : s.fn H ([d0, d1] ++ gs) = { results := [.lit (.bool true)], args := [d0, d1], vars := gs })
    (ht : Tryd.prog.readableRec t0 = true) (hs : t0 < Tryd.prog.types.size) (ht1 : Tryd.prog.readableRec t1 = true) (hs1 : t1 < Tryd.prog.types.size) (hv : varsRowed Tryd.prog s.vars = true) (hb : Below W.heap.size W W') :
    s.post enc Tryd.prog f false true false false W #[v0, v1] (.bool true) W' := by
  have hlt : ∀ x ∈ before, x.block < W.heap.size := fun x hx => hW.lt x hx
  have hW' := hW
  obtain ⟨p, q, hA, hV, rfl, _, _⟩ := hW
  rw [hp] at hA
  obtain ⟨v, v', d, d', p0, p1, e1, e2, e3, h0, h1⟩ := trodAll_two hA
  have ev : v0 = v ∧ v1 = v' := by simpa using e1
  have ed : d0 = d ∧ d1 = d' := by simpa using e2
  obtain ⟨rfl, rfl⟩ := ev
  obtain ⟨rfl, rfl⟩ := ed
  subst e3
  refine ⟨[d0, d1], gs, p0 ++ p1 ++ q, [], p0 ++ p1, q, hW', ?_, ?_, ?_, hb.frame _, fun h => by cases h⟩
  · rw [hfn, hr]
    exact trodAll_mk1 (shut_bool Tryd.underlying4 true)
  · rw [hfn, hp]
    exact trodAll_mk2 (hb.trod Tryd.laidOut ht hs h0 (fun x hx => hlt x (by simp [hx]))) (hb.trod Tryd.laidOut ht1 hs1 h1 (fun x hx => hlt x (by simp [hx])))
  · rw [hfn]
    exact hb.trodVars Tryd.laidOut hv hV

end Go.Proofs.YtacehfjhpnplbaaDoor

/- What GoodWord answers, the program's and the reference's. -/

namespace Go.Proofs.YtacehfjhpnplbaaDoor
open Go.RowKit

/-- All numbers lie within bounds. -/
def allB (lo hi : Int) (xs : List Int) : Bool := xs.all fun x => inB lo hi x
theorem allB_iff {lo hi : Int} {xs : List Int} : allB lo hi xs = true ↔ ∀ (k : Nat) (x : Int), xs[k]? = some x → inB lo hi x = true := by
  unfold allB
  rw [List.all_eq_true]
  constructor
  · intro h k x hx
    exact h x (List.mem_of_getElem? hx)
  · intro h x hx
    obtain ⟨k, hk⟩ := List.mem_iff_getElem?.1 hx
    exact h k x hk
theorem allB_not {lo hi : Int} {xs : List Int} {k : Nat} (hk : k < xs.length) (h : inB lo hi xs[k] = false) : allB lo hi xs = false := by
  cases e : allB lo hi xs
  · rfl
  · rw [allB_iff.1 e k _ (List.getElem?_eq_getElem hk)] at h; cases h
theorem allB_of {lo hi : Int} {xs : List Int} {k : Nat} (hk : ¬ k < xs.length) (h : ∀ (j : Nat) (x : Int), j < k → xs[j]? = some x → inB lo hi x = true) : allB lo hi xs = true :=
  allB_iff.2 fun j x hx => h j x (by have := (List.getElem?_eq_some_iff.1 hx).1; omega) hx
theorem all_step {lo hi : Int} {xs : List Int} {k : Nat} (hk : k < xs.length) (h : inB lo hi xs[k] = true) (H : ∀ (j : Nat) (x : Int), j < k → xs[j]? = some x → inB lo hi x = true) :
    ∀ (j : Nat) (x : Int), j < k + 1 → xs[j]? = some x → inB lo hi x = true := by
  intro j x hj hx
  by_cases e : j = k
  · subst e; rw [List.getElem?_eq_getElem hk] at hx; injection hx with hx; subst hx; exact h
  · exact H j x (by omega) hx

def wordB (t : Int) (xs : List Int) : Bool := decide (xs.length ≤ 10) && allB 0 (t - 1) xs
def goodW (n t : Int) (ss : List (Int × List Int)) (xs : List Int) : Bool := goodG n t ss && wordB t xs
theorem goodW_no {n t : Int} {ss : List (Int × List Int)} {xs : List Int} (h : goodG n t ss = false) : goodW n t ss xs = false := by unfold goodW; rw [h]; rfl
theorem goodW_yes {n t : Int} {ss : List (Int × List Int)} {xs : List Int} (h : goodG n t ss = true) : goodW n t ss xs = wordB t xs := by unfold goodW; rw [h]; rfl
theorem wordB_long {t : Int} {xs : List Int} (h : ¬ xs.length ≤ 10) : wordB t xs = false := by unfold wordB; rw [decide_eq_false h]; rfl
theorem wordB_all {t : Int} {xs : List Int} (h : xs.length ≤ 10) : wordB t xs = allB 0 (t - 1) xs := by unfold wordB; rw [decide_eq_true h]; rfl

set_option maxHeartbeats 400000 in
theorem l1All_any (A : Option Addr) (xs : List Int) (c : Nat) (lo hi : Int) (w : World) (hx : Ints w w.heap.size A xs) (h1 : xs.length ≤ 1048576) :
    Calls Tryd.prog 149 #[.slice A xs.length c, .int .i64 lo, .int .i64 hi] w fun e w' => e = .returned (.bool (allB lo hi xs)) ∧ Below w.heap.size w w' := by
  have HX := Lib.hid hx; clear hx
  go_enter Tryd.func149, Tryd.ntmps149
  go_wp2
  go_loopw [11] (fun i wr => ∃ (k : Nat), k ≤ xs.length ∧ i = .int .i64 k ∧ Below w.heap.size w wr ∧ Hid (∀ (j : Nat) (x : Int), j < k → xs[j]? = some x → inB lo hi x = true)) (fun i _ => xs.length - (intOf i).toNat)
  case atStart => exact ⟨0, by omega, rfl, Below.refl _ _, fun j x h => absurd h (by omega)⟩
  case round =>
    obtain ⟨k, hk, rfl, hB, H⟩ := hrel
    by_cases hlt : k < xs.length
    · obtain ⟨b, o, rfl, hb, c1⟩ := (HX.out.keep hB).at_ hlt
      cases hs : inB lo hi xs[k]
      all_goals
        have HS := Lib.hid hs; clear hs
        go_wp2_with fail
        refine (l1In_any _ _ _ _).mono ?_
        rintro e w1 ⟨rfl, rfl⟩
        rw [HS.out]
        go_wp2
      · have HE : Hid (allB lo hi xs = false) := allB_not hlt HS.out
        go_ret
        exact ⟨ret_bool HE.out.symm, hB⟩
      · go_roundw
        case rel => exact ⟨k + 1, by omega, by go_num, hB, all_step hlt HS.out H.out⟩
        case measure => simp [intOf]; omega
    · have HE : Hid (allB lo hi xs = true) := allB_of hlt H.out
      go_wp2
      go_ret
      exact ⟨ret_bool HE.out.symm, hB⟩

set_option maxHeartbeats 400000 in
theorem l1Word_any (n t : Int) (v : Value) (A : Option Addr) (xs : List Int) (c : Nat) (w : World) (hx : Ints w w.heap.size A xs) (h1 : xs.length ≤ 1048576) (ht : 1 ≤ t) (ht' : t ≤ 4) :
    Calls Tryd.prog 118 #[.agg #[.int .i64 n, .int .i64 t, v], .slice A xs.length c] w fun e w' => e = .returned (.bool (wordB t xs)) ∧ Below w.heap.size w w' := by
  have HX := Lib.hid hx; clear hx
  by_cases hl : xs.length ≤ 10
  · have HE := Lib.hid (wordB_all (t := t) hl)
    go_enter Tryd.func118, Tryd.ntmps118
    go_wp2_with fail
    refine (l1All_any _ _ _ _ _ _ ?_ h1).mono ?_
    · exact (HX.out.keep (by go_grown)).more (by go_size)
    rintro e w1 ⟨rfl, hB⟩
    go_wp2
    go_ret
    exact ⟨ret_bool HE.out.symm, Below.trans (by go_grown) (hB.mono (by go_size))⟩
  · have HE := Lib.hid (wordB_long (t := t) hl)
    have hl' : ((xs.length : Int) ≤ 10) = False := by simp; omega
    go_enter Tryd.func118, Tryd.ntmps118
    go_wp2
    go_ret
    exact ⟨ret_bool HE.out.symm, by go_grown⟩

set_option maxHeartbeats 400000 in
theorem specWord_any (n t : Int) (A A' : Option Addr) (c c' : Nat) (rs : List Ru) (xs : List Int) (w : World) (hx : Rls w w.heap.size A rs) (hy : Ints w w.heap.size A' xs) (hc : rs.length ≤ c) (h1 : rs.length ≤ 1048576) (h2 : ∀ u ∈ rs, u.r.length ≤ 1048576) (h3 : xs.length ≤ 1048576) :
    Calls Tryd.prog 71 #[.agg #[.int .i64 n, .int .i64 t, .slice A rs.length c], .slice A' xs.length c'] w fun e w' => e = .returned (.bool (goodW n t (rs.map Ru.abs) xs)) ∧ Below w.heap.size w w' := by
  have HX := Lib.hid hx; clear hx
  have HY := Lib.hid hy; clear hy
  have H2 := Lib.hid h2; clear h2
  have HB0 : Hid (Below w.heap.size w (w.alloc (.cells #[.int .i64 n, .int .i64 t, .slice A rs.length c] 26))) := by show Below _ _ _; go_grown
  have B0 : Hid (Box3 (w.alloc (.cells #[.int .i64 n, .int .i64 t, .slice A rs.length c] 26)) w.heap.size (.int .i64 n) (.int .i64 t) (.slice A rs.length c)) := ⟨by simp, by simp [go_sem], by simp [go_sem], by simp [go_sem]⟩
  cases hg : goodG n t (rs.map Ru.abs)
  · have HE := Lib.hid (goodW_no (xs := xs) hg)
    have HG := Lib.hid hg; clear hg
    go_enter Tryd.func71, Tryd.ntmps71
    go_wp2_with fail
    refine (specGood_any _ _ _ _ _ _ ((HX.out.keep HB0.out).more HB0.out.size) hc h1 H2.out).mono ?_
    rintro e w1 ⟨rfl, hB1⟩
    rw [HG.out]
    go_wp2
    go_ret
    exact ⟨ret_bool HE.out.symm, HB0.out.trans (hB1.mono HB0.out.size)⟩
  have HE := Lib.hid (goodW_yes (xs := xs) hg)
  have ht := (goodG_is hg).2.1
  obtain ⟨t1, t2⟩ := ht
  have HG := Lib.hid hg; clear hg
  go_enter Tryd.func71, Tryd.ntmps71
  go_wp2_with fail
  refine (specGood_any _ _ _ _ _ _ ((HX.out.keep HB0.out).more HB0.out.size) hc h1 H2.out).mono ?_
  rintro e w1 ⟨rfl, hB1⟩
  rw [HG.out]
  obtain ⟨_, b0, b1, b2⟩ := B0.out.keep hB1 (by simp)
  have HB1 := Lib.hid (HB0.out.trans (hB1.mono HB0.out.size)); clear hB1
  go_wp2_with fail
  refine (l1Word_any _ _ _ _ _ _ _ ((HY.out.keep HB1.out).more HB1.out.size) h3 t1 t2).mono ?_
  rintro e w2 ⟨rfl, hB2⟩
  go_wp2
  go_ret
  exact ⟨ret_bool HE.out.symm, HB1.out.trans (hB2.mono HB1.out.size)⟩

set_option maxHeartbeats 400000 in
theorem implWord_any (n t : Int) (A A' : Option Addr) (c c' : Nat) (rs : List Ru) (xs : List Int) (w : World) (hx : Rls w w.heap.size A rs) (hy : Ints w w.heap.size A' xs) (hL : Lims w) (hc : rs.length ≤ c) (h1 : rs.length ≤ 1048576) (h2 : ∀ u ∈ rs, u.r.length ≤ 1048576) (hf : FitR rs) (h3 : xs.length ≤ 1048576) :
    Calls Tryd.prog 70 #[.agg #[.int .i64 n, .int .i64 t, .slice A rs.length c], .slice A' xs.length c'] w fun e w' => e = .returned (.bool (goodW n t (rs.map Ru.abs) xs)) ∧ Below w.heap.size w w' := by
  have HX := Lib.hid hx; clear hx
  have HY := Lib.hid hy; clear hy
  have HL := Lib.hid hL; clear hL
  have HF := Lib.hid hf; clear hf
  have H2 := Lib.hid h2; clear h2
  have HB0 : Hid (Below w.heap.size w (w.alloc (.cells #[.int .i64 n, .int .i64 t, .slice A rs.length c] 26))) := by show Below _ _ _; go_grown
  have B0 : Hid (Box3 (w.alloc (.cells #[.int .i64 n, .int .i64 t, .slice A rs.length c] 26)) w.heap.size (.int .i64 n) (.int .i64 t) (.slice A rs.length c)) := ⟨by simp, by simp [go_sem], by simp [go_sem], by simp [go_sem]⟩
  cases hg : goodG n t (rs.map Ru.abs)
  · have HE := Lib.hid (goodW_no (xs := xs) hg)
    have HG := Lib.hid hg; clear hg
    go_enter Tryd.func70, Tryd.ntmps70
    go_wp2_with fail
    refine (goodGrammar_any _ _ _ _ _ _ ((HX.out.keep HB0.out).more HB0.out.size) (HL.out.keep HB0.out (Nat.le_refl _)) hc h1 H2.out HF.out).mono ?_
    rintro e w1 ⟨rfl, hB1⟩
    rw [HG.out]
    go_wp2
    go_ret
    exact ⟨ret_bool HE.out.symm, HB0.out.trans (hB1.mono HB0.out.size)⟩
  have HE := Lib.hid (goodW_yes (xs := xs) hg)
  have HG := Lib.hid hg; clear hg
  cases hi : inB 0 10 (xs.length : Int)
  · have HE2 : Hid (wordB t xs = false) := wordB_long (by have := inB_no hi; omega)
    have HI := Lib.hid hi; clear hi
    go_enter Tryd.func70, Tryd.ntmps70
    go_wp2_with fail
    refine (goodGrammar_any _ _ _ _ _ _ ((HX.out.keep HB0.out).more HB0.out.size) (HL.out.keep HB0.out (Nat.le_refl _)) hc h1 H2.out HF.out).mono ?_
    rintro e w1 ⟨rfl, hB1⟩
    rw [HG.out]
    have HB1 := Lib.hid (HB0.out.trans (hB1.mono HB0.out.size)); clear hB1
    go_wp2_with fail
    refine (within4 _ _ (HL.out.keep HB1.out (Nat.le_refl _))).mono ?_
    rintro e w2 ⟨rfl, hB2⟩
    rw [HI.out]
    go_wp2
    go_ret
    exact ⟨ret_bool (HE.out.trans HE2.out).symm, HB1.out.trans (hB2.mono HB1.out.size)⟩
  have HW : Hid (wordB t xs = allB 0 (t - 1) xs) := wordB_all (by have := inB_hi hi; omega)
  have HI := Lib.hid hi; clear hi
  go_enter Tryd.func70, Tryd.ntmps70
  go_wp2_with fail
  refine (goodGrammar_any _ _ _ _ _ _ ((HX.out.keep HB0.out).more HB0.out.size) (HL.out.keep HB0.out (Nat.le_refl _)) hc h1 H2.out HF.out).mono ?_
  rintro e w1 ⟨rfl, hB1⟩
  rw [HG.out]
  have B1 := Lib.hid (B0.out.keep hB1 (by simp))
  have HB1 := Lib.hid (HB0.out.trans (hB1.mono HB0.out.size)); clear hB1
  go_wp2_with fail
  refine (within4 _ _ (HL.out.keep HB1.out (Nat.le_refl _))).mono ?_
  rintro e w2 ⟨rfl, hB2⟩
  rw [HI.out]
  have B2 := Lib.hid (B1.out.keep hB2 B1.out.1)
  have HB2 := Lib.hid (HB1.out.trans (hB2.mono HB1.out.size)); clear hB2
  go_wp2
  go_loopw [18] (fun i wr => ∃ (k : Nat), k ≤ xs.length ∧ i = .int .i64 k ∧ Below w2.heap.size w2 wr ∧ Hid (∀ (j : Nat) (x : Int), j < k → xs[j]? = some x → inB 0 (t - 1) x = true)) (fun i _ => xs.length - (intOf i).toNat)
  case atStart => exact ⟨0, by omega, rfl, Below.refl _ _, fun j x h => absurd h (by omega)⟩
  case round =>
    obtain ⟨k, hk, rfl, hB, H⟩ := hrel
    have HB := Lib.hid hB; clear hB
    have HBw := Lib.hid (HB2.out.trans (HB.out.mono HB2.out.size))
    by_cases hlt : k < xs.length
    · obtain ⟨b, o, rfl, hb, c1⟩ := (HY.out.keep HBw.out).at_ hlt
      obtain ⟨_, b0, b1, b2⟩ := B2.out.keep HB.out B2.out.1
      cases hs : nonB t xs[k]
      all_goals
        have HS := Lib.hid hs; clear hs
        go_wp2_with fail
        refine (isToken_any _ _ _ _ _).mono ?_
        rintro e w3 ⟨rfl, hB3⟩
        rw [HS.out]
        have HB4 := Lib.hid (HB.out.trans (hB3.mono HB.out.size)); clear hB3
        go_wp2
      · have HE2 : Hid (allB 0 (t - 1) xs = false) := allB_not hlt (by rw [non_in]; exact HS.out)
        go_ret
        exact ⟨ret_bool (HE.out.trans (HW.out.trans HE2.out)).symm, HB2.out.trans (HB4.out.mono HB2.out.size)⟩
      · go_roundw
        case rel => exact ⟨k + 1, by omega, by go_num, HB4.out, all_step hlt (by rw [non_in]; exact HS.out) H.out⟩
        case measure => simp [intOf]; omega
    · have HE2 : Hid (allB 0 (t - 1) xs = true) := allB_of hlt H.out
      go_wp2
      go_ret
      exact ⟨ret_bool (HE.out.trans (HW.out.trans HE2.out)).symm, HBw.out⟩

end Go.Proofs.YtacehfjhpnplbaaDoor

/- A symbol's letter: the tables that the program keeps, and what letterOf and l2Letter give. -/

namespace Go.Proofs.YtacehfjhpnplbaaDoor
open Go.RowKit

/-- The letters of the nonterminals, and of the tokens. -/
def nonL : List UInt8 := [83, 65, 66, 67, 68, 69]
def tokL : List UInt8 := [97, 98, 99, 100]

/-- The tables of letters lie where the program keeps them. -/
def TokT (w : World) : Prop := ∀ (k : Nat) (v : UInt8), tokL[k]? = some v → w.cell? ⟨0, k, none⟩ = some (.int .u8 (v.toNat : Int))
def NonT (w : World) : Prop := ∀ (k : Nat) (v : UInt8), nonL[k]? = some v → w.cell? ⟨1, k, none⟩ = some (.int .u8 (v.toNat : Int))

theorem TokT.pos {w : World} (h : TokT w) : 0 < w.heap.size := by
  have h0 := h 0 97 rfl
  by_cases hg : 0 < w.heap.size
  · exact hg
  · simp only [World.cell?] at h0
    rw [Array.getElem?_eq_none (by omega)] at h0
    cases h0
theorem NonT.pos {w : World} (h : NonT w) : 1 < w.heap.size := by
  have h0 := h 0 83 rfl
  by_cases hg : 1 < w.heap.size
  · exact hg
  · simp only [World.cell?] at h0
    rw [Array.getElem?_eq_none (by omega)] at h0
    cases h0
theorem TokT.keep {w w' : World} {B : Nat} (h : TokT w) (hb : Below B w w') (hB : w.heap.size ≤ B) : TokT w' :=
  fun k v hk => (hb.cell (p := ⟨0, k, none⟩) (by have := h.pos; show 0 < B; omega)).trans (h k v hk)
theorem NonT.keep {w w' : World} {B : Nat} (h : NonT w) (hb : Below B w w') (hB : w.heap.size ≤ B) : NonT w' :=
  fun k v hk => (hb.cell (p := ⟨1, k, none⟩) (by have := h.pos; show 1 < B; omega)).trans (h k v hk)

/-- A symbol's letter. -/
def letC (x : Int) : UInt8 := if 0 ≤ x then nonL.getD x.toNat 0 else tokL.getD (-1 - x).toNat 0

theorem ten {x : Int} (h1 : -4 ≤ x) (h2 : x < 6) : x = -4 ∨ x = -3 ∨ x = -2 ∨ x = -1 ∨ x = 0 ∨ x = 1 ∨ x = 2 ∨ x = 3 ∨ x = 4 ∨ x = 5 := by omega

set_option maxHeartbeats 1000000 in
theorem letterOf_any (x : Int) (w : World) (hN : NonT w) (hT : TokT w) (h1 : -4 ≤ x) (h2 : x < 6) :
    Calls Tryd.prog 57 #[.int .i64 x] w fun e w' => e = .returned (.int .u8 ((letC x).toNat : Int)) ∧ w = w' := by
  have t0 := hT 0 97 rfl
  have t1 := hT 1 98 rfl
  have t2 := hT 2 99 rfl
  have t3 := hT 3 100 rfl
  have n0 := hN 0 83 rfl
  have n1 := hN 1 65 rfl
  have n2 := hN 2 66 rfl
  have n3 := hN 3 67 rfl
  have n4 := hN 4 68 rfl
  have n5 := hN 5 69 rfl
  clear hN hT
  rcases ten h1 h2 with rfl | rfl | rfl | rfl | rfl | rfl | rfl | rfl | rfl | rfl
  all_goals
    clear h1 h2
    go_enter Tryd.func57, Tryd.ntmps57
    go_wp2
    go_ret
    exact ⟨rfl, rfl⟩

set_option maxHeartbeats 1000000 in
theorem l2Letter_any (x : Int) (w : World) (h1 : -4 ≤ x) (h2 : x < 6) :
    Calls Tryd.prog 79 #[.int .i64 x] w fun e w' => e = .returned (.string ⟨#[letC x]⟩) ∧ w = w' := by
  rcases ten h1 h2 with rfl | rfl | rfl | rfl | rfl | rfl | rfl | rfl | rfl | rfl
  all_goals
    clear h1 h2
    go_enter Tryd.func79, Tryd.ntmps79
    go_wp2
    go_ret
    exact ⟨rfl, rfl⟩

end Go.Proofs.YtacehfjhpnplbaaDoor

/- The tables out of a row's condition: what the listed package variables hold when the call begins. -/

namespace Go.Proofs.YtacehfjhpnplbaaDoor
open Go.ChangeShapes Go.WideShapes Go.ChangeAt Go.RowKit
set_option maxRecDepth 100000

theorem Tryd.gLim : Tryd.prog.globalNamed "loop.example/g00758/impl.limits" = some 2 := by kernel_rfl
theorem Tryd.tLim : (Tryd.prog.globals[2]?).map (·.type) = some 123 := by kernel_rfl
theorem Tryd.cLim : Tryd.prog.cellsOf 122 = 2 := by kernel_rfl
theorem Tryd.cLims : Tryd.prog.cellsOf 123 = 10 := by kernel_rfl
theorem Tryd.gNon : Tryd.prog.globalNamed "loop.example/g00758/impl.nonLetters" = some 1 := by kernel_rfl
theorem Tryd.tNon : (Tryd.prog.globals[1]?).map (·.type) = some 112 := by kernel_rfl
theorem Tryd.cNon : Tryd.prog.cellsOf 112 = 6 := by kernel_rfl
theorem Tryd.gTok : Tryd.prog.globalNamed "loop.example/g00758/impl.tokLetters" = some 0 := by kernel_rfl
theorem Tryd.tTok : (Tryd.prog.globals[0]?).map (·.type) = some 88 := by kernel_rfl
theorem Tryd.cTok : Tryd.prog.cellsOf 88 = 4 := by kernel_rfl
theorem Tryd.cByte : Tryd.prog.cellsOf 5 = 1 := by kernel_rfl

theorem pair_cells {H : Type} {enc : TypeId × Value → H} {W : World} {base : Nat} {sp : Nat → Bool} {held : Bool} {m : Nat} {q0 q1 : Value} {a b : Int} {ps : List MemPlace}
    (h : DataW.trod enc Tryd.prog W base sp held m 122 [q0, q1] = some (.agg [.lit (.int .i64 a), .lit (.int .i64 b)], ps)) : q0 = .int .i64 a ∧ q1 = .int .i64 b := by
  obtain ⟨y0, y1, n', hx, _, h0, h1⟩ := trod_struct2 Tryd.underlying122 h
  have e0 : DataW.trod enc Tryd.prog W base sp held n' 3 [q0] = some y0 := h0
  have e1 : DataW.trod enc Tryd.prog W base sp held n' 3 [q1] = some y1 := h1
  obtain ⟨l, el, ey, _⟩ := DataW.trod_int Tryd.underlying3 e0
  obtain ⟨l', el', ey', _⟩ := DataW.trod_int Tryd.underlying3 e1
  subst ey ey'
  simp only [Prod.mk.injEq, DataW.agg.injEq, List.cons.injEq, DataW.lit.injEq, Lit.int.injEq] at hx
  injection el with el
  injection el' with el'
  exact ⟨by rw [el, hx.1.1.2], by rw [el', hx.1.2.1.2]⟩

theorem byte_cell {H : Type} {enc : TypeId × Value → H} {W : World} {base : Nat} {sp : Nat → Bool} {held : Bool} {m : Nat} {q : Value} {a : Int} {ps : List MemPlace}
    (h : DataW.trod enc Tryd.prog W base sp held m 5 [q] = some (.lit (.int .u8 a), ps)) : q = .int .u8 a := by
  obtain ⟨l, el, ey, _⟩ := DataW.trod_int Tryd.underlying5 h
  simp only [Prod.mk.injEq, DataW.lit.injEq, Lit.int.injEq] at ey
  injection el with el
  rw [el, ey.1.2]

/-- One listed variable reads as its datum. -/
def LaidOne (W : World) (n : String) (d : DataW Unit) : Prop :=
  ∃ g t cs fuel p, Tryd.prog.globalNamed n = some g ∧ (Tryd.prog.globals[g]?).map (·.type) = some t ∧ W.var? Tryd.prog n = some cs ∧ DataW.trod (fun _ => ()) Tryd.prog W 0 (fun _ => true) false fuel t cs.toList = some (d, p)

theorem lims_of {W : World} (h : LaidOne W "loop.example/g00758/impl.limits" Rows.laid_loop_example_g00758_impl_limits) : Lims W := by
  obtain ⟨g, t, cs, f0, p0, hg, ht, hv, hd⟩ := h
  obtain rfl := Option.some.inj (Tryd.gLim.symm.trans hg)
  obtain rfl := Option.some.inj (Tryd.tLim.symm.trans ht)
  obtain ⟨xs, m, _, hx, hlen, hn, hel⟩ := DataW.trod_array Tryd.underlying123 hd
  rw [Tryd.cLims] at hlen
  rw [Tryd.cLim] at hel
  obtain ⟨l⟩ := cs
  match l, hlen, xs, hn with
  | [c0, c1, c2, c3, c4, c5, c6, c7, c8, c9], _, [x0, x1, x2, x3, x4], _ =>
    simp only [Rows.laid_loop_example_g00758_impl_limits, Prod.mk.injEq, DataW.agg.injEq, List.map_cons, List.map_nil, List.cons.injEq] at hx
    obtain ⟨⟨e0, e1, e2, e3, e4, _⟩, _⟩ := hx
    obtain ⟨x0, _⟩ := x0
    obtain ⟨x1, _⟩ := x1
    obtain ⟨x2, _⟩ := x2
    obtain ⟨x3, _⟩ := x3
    obtain ⟨x4, _⟩ := x4
    simp only at e0 e1 e2 e3 e4
    subst e0 e1 e2 e3 e4
    obtain ⟨rfl, rfl⟩ := pair_cells (hel 0 (by omega))
    obtain ⟨rfl, rfl⟩ := pair_cells (hel 1 (by omega))
    obtain ⟨rfl, rfl⟩ := pair_cells (hel 2 (by omega))
    obtain ⟨rfl, rfl⟩ := pair_cells (hel 3 (by omega))
    obtain ⟨rfl, rfl⟩ := pair_cells (hel 4 (by omega))
    intro k v hk
    have hc := World.var?_cell hg hv k
    rw [hc]
    match k, hk with
    | 0, hk => simp [limL] at hk ⊢; exact hk
    | 1, hk => simp [limL] at hk ⊢; exact hk
    | 2, hk => simp [limL] at hk ⊢; exact hk
    | 3, hk => simp [limL] at hk ⊢; exact hk
    | 4, hk => simp [limL] at hk ⊢; exact hk
    | 5, hk => simp [limL] at hk ⊢; exact hk
    | 6, hk => simp [limL] at hk ⊢; exact hk
    | 7, hk => simp [limL] at hk ⊢; exact hk
    | 8, hk => simp [limL] at hk ⊢; exact hk
    | 9, hk => simp [limL] at hk ⊢; exact hk
    | k + 10, hk => simp [limL] at hk

theorem nonT_of {W : World} (h : LaidOne W "loop.example/g00758/impl.nonLetters" Rows.laid_loop_example_g00758_impl_nonLetters) : NonT W := by
  obtain ⟨g, t, cs, f0, p0, hg, ht, hv, hd⟩ := h
  obtain rfl := Option.some.inj (Tryd.gNon.symm.trans hg)
  obtain rfl := Option.some.inj (Tryd.tNon.symm.trans ht)
  obtain ⟨xs, m, _, hx, hlen, hn, hel⟩ := DataW.trod_array Tryd.underlying112 hd
  rw [Tryd.cNon] at hlen
  rw [Tryd.cByte] at hel
  obtain ⟨l⟩ := cs
  match l, hlen, xs, hn with
  | [c0, c1, c2, c3, c4, c5], _, [x0, x1, x2, x3, x4, x5], _ =>
    simp only [Rows.laid_loop_example_g00758_impl_nonLetters, Prod.mk.injEq, DataW.agg.injEq, List.map_cons, List.map_nil, List.cons.injEq] at hx
    obtain ⟨⟨e0, e1, e2, e3, e4, e5, _⟩, _⟩ := hx
    obtain ⟨x0, _⟩ := x0
    obtain ⟨x1, _⟩ := x1
    obtain ⟨x2, _⟩ := x2
    obtain ⟨x3, _⟩ := x3
    obtain ⟨x4, _⟩ := x4
    obtain ⟨x5, _⟩ := x5
    simp only at e0 e1 e2 e3 e4 e5
    subst e0 e1 e2 e3 e4 e5
    obtain rfl := byte_cell (hel 0 (by omega))
    obtain rfl := byte_cell (hel 1 (by omega))
    obtain rfl := byte_cell (hel 2 (by omega))
    obtain rfl := byte_cell (hel 3 (by omega))
    obtain rfl := byte_cell (hel 4 (by omega))
    obtain rfl := byte_cell (hel 5 (by omega))
    intro k v hk
    have hc := World.var?_cell hg hv k
    rw [hc]
    match k, hk with
    | 0, hk => simp [nonL] at hk ⊢; subst hk; rfl
    | 1, hk => simp [nonL] at hk ⊢; subst hk; rfl
    | 2, hk => simp [nonL] at hk ⊢; subst hk; rfl
    | 3, hk => simp [nonL] at hk ⊢; subst hk; rfl
    | 4, hk => simp [nonL] at hk ⊢; subst hk; rfl
    | 5, hk => simp [nonL] at hk ⊢; subst hk; rfl
    | k + 6, hk => simp [nonL] at hk

theorem tokT_of {W : World} (h : LaidOne W "loop.example/g00758/impl.tokLetters" Rows.laid_loop_example_g00758_impl_tokLetters) : TokT W := by
  obtain ⟨g, t, cs, f0, p0, hg, ht, hv, hd⟩ := h
  obtain rfl := Option.some.inj (Tryd.gTok.symm.trans hg)
  obtain rfl := Option.some.inj (Tryd.tTok.symm.trans ht)
  obtain ⟨xs, m, _, hx, hlen, hn, hel⟩ := DataW.trod_array Tryd.underlying88 hd
  rw [Tryd.cTok] at hlen
  rw [Tryd.cByte] at hel
  obtain ⟨l⟩ := cs
  match l, hlen, xs, hn with
  | [c0, c1, c2, c3], _, [x0, x1, x2, x3], _ =>
    simp only [Rows.laid_loop_example_g00758_impl_tokLetters, Prod.mk.injEq, DataW.agg.injEq, List.map_cons, List.map_nil, List.cons.injEq] at hx
    obtain ⟨⟨e0, e1, e2, e3, _⟩, _⟩ := hx
    obtain ⟨x0, _⟩ := x0
    obtain ⟨x1, _⟩ := x1
    obtain ⟨x2, _⟩ := x2
    obtain ⟨x3, _⟩ := x3
    simp only at e0 e1 e2 e3
    subst e0 e1 e2 e3
    obtain rfl := byte_cell (hel 0 (by omega))
    obtain rfl := byte_cell (hel 1 (by omega))
    obtain rfl := byte_cell (hel 2 (by omega))
    obtain rfl := byte_cell (hel 3 (by omega))
    intro k v hk
    have hc := World.var?_cell hg hv k
    rw [hc]
    match k, hk with
    | 0, hk => simp [tokL] at hk ⊢; subst hk; rfl
    | 1, hk => simp [tokL] at hk ⊢; subst hk; rfl
    | 2, hk => simp [tokL] at hk ⊢; subst hk; rfl
    | 3, hk => simp [tokL] at hk ⊢; subst hk; rfl
    | k + 4, hk => simp [tokL] at hk

def laidLNT : List (String × DataW Unit) := [("loop.example/g00758/impl.limits", Rows.laid_loop_example_g00758_impl_limits), ("loop.example/g00758/impl.nonLetters", Rows.laid_loop_example_g00758_impl_nonLetters), ("loop.example/g00758/impl.tokLetters", Rows.laid_loop_example_g00758_impl_tokLetters)]
def laidLT : List (String × DataW Unit) := [("loop.example/g00758/impl.limits", Rows.laid_loop_example_g00758_impl_limits), ("loop.example/g00758/impl.tokLetters", Rows.laid_loop_example_g00758_impl_tokLetters)]
def laidNT : List (String × DataW Unit) := [("loop.example/g00758/impl.nonLetters", Rows.laid_loop_example_g00758_impl_nonLetters), ("loop.example/g00758/impl.tokLetters", Rows.laid_loop_example_g00758_impl_tokLetters)]

theorem of_laidLNT {W : World} (h : laidMetH Tryd.prog laidLNT W) : Lims W ∧ NonT W ∧ TokT W := by
  rw [MakeChecks.laidMetH_plain _ _ _ (by kernel_rfl)] at h
  obtain ⟨ps, ⟨g, t, cs, f0, p0, q0, hg, ht, hv, hd, ⟨g1, t1, cs1, f1, p1, q1, hg1, ht1, hv1, hd1, ⟨g2, t2, cs2, f2, p2, q2, hg2, ht2, hv2, hd2, _, _⟩, _⟩, _⟩, _, _⟩ := h
  exact ⟨lims_of ⟨g, t, cs, f0, p0, hg, ht, hv, hd⟩, nonT_of ⟨g1, t1, cs1, f1, p1, hg1, ht1, hv1, hd1⟩, tokT_of ⟨g2, t2, cs2, f2, p2, hg2, ht2, hv2, hd2⟩⟩
theorem of_laidLT {W : World} (h : laidMetH Tryd.prog laidLT W) : Lims W ∧ TokT W := by
  rw [MakeChecks.laidMetH_plain _ _ _ (by kernel_rfl)] at h
  obtain ⟨ps, ⟨g, t, cs, f0, p0, q0, hg, ht, hv, hd, ⟨g2, t2, cs2, f2, p2, q2, hg2, ht2, hv2, hd2, _, _⟩, _⟩, _, _⟩ := h
  exact ⟨lims_of ⟨g, t, cs, f0, p0, hg, ht, hv, hd⟩, tokT_of ⟨g2, t2, cs2, f2, p2, hg2, ht2, hv2, hd2⟩⟩
theorem of_laidNT {W : World} (h : laidMetH Tryd.prog laidNT W) : NonT W ∧ TokT W := by
  rw [MakeChecks.laidMetH_plain _ _ _ (by kernel_rfl)] at h
  obtain ⟨ps, ⟨g1, t1, cs1, f1, p1, q1, hg1, ht1, hv1, hd1, ⟨g2, t2, cs2, f2, p2, q2, hg2, ht2, hv2, hd2, _, _⟩, _⟩, _, _⟩ := h
  exact ⟨nonT_of ⟨g1, t1, cs1, f1, p1, hg1, ht1, hv1, hd1⟩, tokT_of ⟨g2, t2, cs2, f2, p2, hg2, ht2, hv2, hd2⟩⟩

theorem door_LNT (os : Os) (args : Array Value) : laidMetH Tryd.prog laidLNT ((World.doorLaid Tryd.prog 400 os).forCall (fun _ _ => 0) ⟨#[], args, []⟩).memory :=
  laidMetH_of_parts3 (fuel := 8) (laidMet_of_run' 8 (by kernel_rfl) (by kernel_rfl)) (by kernel_rfl) (by kernel_rfl)
theorem door_LT (os : Os) (args : Array Value) : laidMetH Tryd.prog laidLT ((World.doorLaid Tryd.prog 400 os).forCall (fun _ _ => 0) ⟨#[], args, []⟩).memory :=
  laidMetH_of_parts3 (fuel := 8) (laidMet_of_run' 8 (by kernel_rfl) (by kernel_rfl)) (by kernel_rfl) (by kernel_rfl)
theorem door_NT (os : Os) (args : Array Value) : laidMetH Tryd.prog laidNT ((World.doorLaid Tryd.prog 400 os).forCall (fun _ _ => 0) ⟨#[], args, []⟩).memory :=
  laidMetH_of_parts3 (fuel := 8) (laidMet_of_run' 8 (by kernel_rfl) (by kernel_rfl)) (by kernel_rfl) (by kernel_rfl)

theorem vars_two {H : Type} {enc : TypeId × Value → H} {P : Program} {w : World} {spare : Nat → Bool} {a b : String} {gs : List (DataW H)} {ps : List MemPlace} (h : DataW.TrodVars enc P w spare [a, b] gs ps) : ∃ d0 d1, gs = [d0, d1] := by
  match gs, h with
  | [d0, d1], _ => exact ⟨d0, d1, rfl⟩
  | [], h => simp [DataW.TrodVars] at h
  | [_], h => simp [DataW.TrodVars] at h
  | _ :: _ :: _ :: _, h => simp [DataW.TrodVars] at h
theorem vars_three {H : Type} {enc : TypeId × Value → H} {P : Program} {w : World} {spare : Nat → Bool} {a b c : String} {gs : List (DataW H)} {ps : List MemPlace} (h : DataW.TrodVars enc P w spare [a, b, c] gs ps) : ∃ d0 d1 d2, gs = [d0, d1, d2] := by
  match gs, h with
  | [d0, d1, d2], _ => exact ⟨d0, d1, d2, rfl⟩
  | [], h => simp [DataW.TrodVars] at h
  | [_], h => simp [DataW.TrodVars] at h
  | [_, _], h => simp [DataW.TrodVars] at h
  | _ :: _ :: _ :: _ :: _, h => simp [DataW.TrodVars] at h

end Go.Proofs.YtacehfjhpnplbaaDoor

/- What SymbolText answers, the program's and the reference's. -/

namespace Go.Proofs.YtacehfjhpnplbaaDoor
open Go.RowKit

/-- A string of bytes. -/
def str (l : List UInt8) : ByteArray := ⟨l.toArray⟩

def symI (x : Int) : Bool := decide (-4 ≤ x ∧ x < 6)
def symS (x : Int) : ByteArray := if symI x then ⟨#[letC x]⟩ else ⟨#[]⟩
theorem symI_t {x : Int} (h1 : -4 ≤ x) (h2 : x < 6) : symI x = true := decide_eq_true ⟨h1, h2⟩
theorem symI_f {x : Int} (h : x < -4 ∨ 6 ≤ x) : symI x = false := decide_eq_false (by omega)
theorem symS_t {x : Int} (h : symI x = true) : symS x = ⟨#[letC x]⟩ := by unfold symS; rw [h]; rfl
theorem symS_f {x : Int} (h : symI x = false) : symS x = ⟨#[]⟩ := by unfold symS; rw [h]; rfl

/-- string([]byte{c}). -/
theorem one_string (w : World) (c : UInt8) : (convert 22 9 (.slice (some ⟨w.heap.size, 0, none⟩) 1 1)).run Tryd.prog (w.alloc (.cells #[.int .u8 (c.toNat : Int)] 5)) = .ok (.string ⟨#[c]⟩) (w.alloc (.cells #[.int .u8 (c.toNat : Int)] 5)) :=
  run_convert_bytes_back _ 22 9 5 _ 1 [c] Tryd.underlying22 Tryd.underlying5 Tryd.underlying9 (fun j hj => by
    have : j = 0 := by simpa using hj
    subst this
    simp [go_sem, Addr.add])

set_option maxHeartbeats 1000000 in
theorem implSym_any (x : Int) (w : World) (hN : NonT w) (hT : TokT w) :
    Calls Tryd.prog 27 #[.int .i64 x] w fun e w' => e = .returned (.tuple #[.string (symS x), .bool (symI x)]) ∧ Below w.heap.size w w' := by
  by_cases h1 : x < -4
  · have HE := Lib.hid (symI_f (.inl h1))
    go_enter Tryd.func27, Tryd.ntmps27
    go_wp2
    go_ret2
    exact ⟨by rw [symS_f HE.out, HE.out]; rfl, Below.refl _ _⟩
  by_cases h2 : x < 6
  · have HE := Lib.hid (symI_t (by omega : -4 ≤ x) h2)
    have HN := Lib.hid hN; clear hN
    have HT := Lib.hid hT; clear hT
    have kc := one_string w (letC x)
    have h2' : ¬ 6 ≤ x := by omega
    go_enter Tryd.func27, Tryd.ntmps27
    go_wp2_with fail
    refine (letterOf_any _ _ HN.out HT.out (by omega) h2).mono ?_
    rintro e w1 ⟨rfl, rfl⟩
    go_wp2
    go_ret2
    exact ⟨by rw [symS_t HE.out, HE.out]; rfl, by go_grown⟩
  · have HE := Lib.hid (symI_f (.inr (by omega : 6 ≤ x)))
    have h2' : 6 ≤ x := by omega
    go_enter Tryd.func27, Tryd.ntmps27
    go_wp2
    go_ret2
    exact ⟨by rw [symS_f HE.out, HE.out]; rfl, Below.refl _ _⟩

theorem in_sym (x : Int) : inB (-4) 5 x = symI x := by unfold inB symI; congr 1; exact propext (by omega)

set_option maxHeartbeats 1000000 in
theorem specSym_any (x : Int) (w : World) :
    Calls Tryd.prog 28 #[.int .i64 x] w fun e w' => e = .returned (.tuple #[.string (symS x), .bool (symI x)]) ∧ w = w' := by
  cases hs : symI x
  · have HE := Lib.hid hs; clear hs
    go_enter Tryd.func28, Tryd.ntmps28
    go_wp2_with fail
    refine (l1In_any _ _ _ _).mono ?_
    rintro e w1 ⟨rfl, rfl⟩
    rw [in_sym, HE.out]
    go_wp2
    go_ret2
    exact ⟨by rw [symS_f HE.out]; rfl, rfl⟩
  · have HE := Lib.hid hs
    have h := of_decide_eq_true hs
    have h1 := h.1
    have h2 := h.2
    clear h hs
    go_enter Tryd.func28, Tryd.ntmps28
    go_wp2_with fail
    refine (l1In_any _ _ _ _).mono ?_
    rintro e w1 ⟨rfl, rfl⟩
    rw [in_sym, HE.out]
    go_wp2_with fail
    refine (l2Letter_any _ _ h1 h2).mono ?_
    rintro e w2 ⟨rfl, rfl⟩
    go_wp2
    go_ret2
    exact ⟨by rw [symS_t HE.out]; rfl, rfl⟩

end Go.Proofs.YtacehfjhpnplbaaDoor
