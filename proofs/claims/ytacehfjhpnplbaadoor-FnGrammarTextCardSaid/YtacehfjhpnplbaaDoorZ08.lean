/- The reference's cursor: anyGrammar. -/
import Derived.Test.YtacehfjhpnplbaaDoorZ07
import Derived.Test.YtacehfjhpnplbaaDoorZ05
import Derived.Test.YtacehfjhpnplbaaDoorZ01
import Derived.Test.YtacehfjhpnplbaaDoorZ04

namespace Go.Proofs.YtacehfjhpnplbaaDoor
open Go.RowKit

/-- Rules in new memory; right sides may be shared. -/
def OwnS (w : World) (lo : Nat) (A : Option Addr) (rs : List Ru) : Prop :=
  rs = [] ∨ ∃ (g : Nat) (cs : Array Value), A = some ⟨g, 0, none⟩ ∧ lo ≤ g ∧ Row w g 64 cs ∧
    ∀ (k : Nat) (u : Ru), rs[k]? = some u → cs[k * 2]? = some (.int .i64 u.l) ∧ cs[k * 2 + 1]? = some (.slice u.a u.r.length u.c) ∧ OwnI w lo u.a u.r
theorem OwnR.toS {w : World} {lo : Nat} {A : Option Addr} {rs : List Ru} (h : OwnR w lo A rs) : OwnS w lo A rs := by
  rcases h with h | ⟨g, cs, e, hl, hr, hc, _⟩
  · exact .inl h
  · exact .inr ⟨g, cs, e, hl, hr, hc⟩
theorem OwnS.rls {w : World} {lo : Nat} {A : Option Addr} {rs : List Ru} (h : OwnS w lo A rs) : Rls w w.heap.size A rs := by
  intro hn
  rcases h with rfl | ⟨g, cs, rfl, _, hr, hc⟩
  · simp at hn
  · refine ⟨g, 0, rfl, hr.lt, fun k u hu => ?_⟩
    obtain ⟨h1, h2, h3⟩ := hc k u hu
    exact ⟨by rw [hr.cell, Nat.zero_add]; exact h1, by rw [hr.cell, Nat.zero_add]; exact h2, h3.ints⟩
theorem OwnS.save {S : Nat → Prop} {w w' : World} {lo : Nat} {A : Option Addr} {rs : List Ru} (h : OwnS w lo A rs) (hs : Save S w w') (hS : ∀ b, lo ≤ b → b < w.heap.size → ¬ S b) : OwnS w' lo A rs := by
  rcases h with h | ⟨g, cs, e, hl, hr, hc⟩
  · exact .inl h
  · refine .inr ⟨g, cs, e, hl, hr.save hs (hS g hl hr.lt), fun k u hu => ?_⟩
    obtain ⟨h1, h2, h3⟩ := hc k u hu
    refine ⟨h1, h2, ?_⟩
    rcases h3 with h3 | ⟨g3, c3, e3, l3, r3, q3⟩
    · exact .inl h3
    · exact .inr ⟨g3, c3, e3, l3, r3.save hs (hS g3 l3 r3.lt), q3⟩
theorem OwnS.keep {w w' : World} {lo : Nat} {A : Option Addr} {rs : List Ru} (h : OwnS w lo A rs) (hb : Below w.heap.size w w') : OwnS w' lo A rs := h.save (S := fun _ => False) (Save.of_below hb) fun _ _ _ e => e
theorem OwnS.low {w : World} {lo : Nat} {A : Option Addr} {rs : List Ru} (h : OwnS w lo A rs) {p : Addr} (hp : p.block < lo) (u : Value) : OwnS (w.setCell p u) lo A rs :=
  h.save (S := (· = p.block)) (Save.setCell (S := (· = p.block)) (p := p) (Save.refl _ _) rfl u) fun b hb _ e => by omega
theorem OwnS.lower {w : World} {lo lo' : Nat} {A : Option Addr} {rs : List Ru} (h : OwnS w lo A rs) (hl : lo' ≤ lo) : OwnS w lo' A rs := by
  rcases h with h | ⟨g, cs, e, h1, hr, hc⟩
  · exact .inl h
  · exact .inr ⟨g, cs, e, by omega, hr, fun k u hu => ⟨(hc k u hu).1, (hc k u hu).2.1, (hc k u hu).2.2.lower hl⟩⟩
theorem OwnS.away {w : World} {lo g : Nat} {cs : Array Value} {A : Option Addr} {rs : List Ru} (h : OwnS w lo A rs) (hg : Row w g 26 cs) (i : Nat) (u : Value) : OwnS (w.setCell ⟨g, i, none⟩ u) lo A rs := by
  rcases h with h | ⟨g1, c1, e, hl, hr, hc⟩
  · exact .inl h
  · refine .inr ⟨g1, c1, e, hl, hr.far (hr.ne hg (by decide)) _, fun k u hu => ?_⟩
    obtain ⟨h1, h2, h3⟩ := hc k u hu
    refine ⟨h1, h2, ?_⟩
    rcases h3 with h3 | ⟨g3, c3, e3, l3, r3, q3⟩
    · exact .inl h3
    · exact .inr ⟨g3, c3, e3, l3, r3.far (r3.ne hg (by decide)) _, q3⟩
/-- The first rule's left side is stored. -/
theorem OwnR.setLeft0 {w : World} {lo g : Nat} {u : Ru} {rs : List Ru} (h : OwnR w lo (some ⟨g, 0, none⟩) (u :: rs)) (l : Int) : OwnS (w.setCell ⟨g, 0, none⟩ (.int .i64 l)) lo (some ⟨g, 0, none⟩) (⟨l, u.a, u.r, u.c⟩ :: rs) := by
  rcases h with h | ⟨g', cs, e, hl, hr, hc, _⟩
  · cases h
  injection e with e; injection e with e; subst e
  have hs : 0 < cs.size := by
    have := (hc 0 u rfl).1
    exact (Array.getElem?_eq_some_iff.1 this).1
  refine .inr ⟨g, _, rfl, hl, hr.set 0 _, fun k v hv => ?_⟩
  have hk : ∀ x, (∃ q, rs[x]? = some q ∧ k = x + 1 ∧ v = q) ∨ (k = 0 ∧ v = ⟨l, u.a, u.r, u.c⟩) → cs[0]? = cs[0]? := fun _ _ => rfl
  have ho : ∀ {A : Option Addr} {xs : List Int}, OwnI w lo A xs → OwnI (w.setCell ⟨g, 0, none⟩ (.int .i64 l)) lo A xs := by
    intro A xs h3
    rcases h3 with h3 | ⟨g3, c3, e3, l3, r3, q3⟩
    · exact .inl h3
    · exact .inr ⟨g3, c3, e3, l3, r3.far (r3.ne hr (by decide)) _, q3⟩
  rcases k with _ | k
  · simp at hv; subst hv
    obtain ⟨h1, h2, h3⟩ := hc 0 u rfl
    refine ⟨by simp [hs], ?_, ho h3⟩
    rw [Array.getElem?_setIfInBounds, if_neg (by omega)]; exact h2
  · obtain ⟨h1, h2, h3⟩ := hc (k + 1) v (by simpa using hv)
    refine ⟨?_, ?_, ho h3⟩
    · rw [Array.getElem?_setIfInBounds, if_neg (by omega)]; exact h1
    · rw [Array.getElem?_setIfInBounds, if_neg (by omega)]; exact h2

theorem ownS_of_row {w : World} {lo k g cap : Nat} {ds : List Ru} (h1 : ds.length = k) (h0 : 0 < k) (h2 : w.ownsRow lo 64 2 (.slice (some ⟨g, 0, none⟩) k cap) k (ds.flatMap cellsU)) (h4 : ∀ (j : Nat) (u : Ru), ds[j]? = some u → OwnI w lo u.a u.r) : k ≤ cap ∧ OwnS w lo (some ⟨g, 0, none⟩) ds := by
  subst h1
  obtain ⟨_, ⟨e, _⟩ | ⟨g', cap', cur, e, hlo, hg, hcap, _, _, hx⟩⟩ := h2
  · cases e
  · injection e with e1 e2 e3
    injection e1 with e1
    injection e1 with e1
    subst e1 e3
    refine ⟨hcap, .inr ⟨g, cur, rfl, hlo, hg, fun k u hu => ?_⟩⟩
    have hk := (List.getElem?_eq_some_iff.1 hu).1
    obtain ⟨f1, f2⟩ := flat_get hu
    rw [← hx] at f1 f2
    rw [List.getElem?_take, if_pos (by omega)] at f1 f2
    exact ⟨by simpa using f1, by simpa using f2, h4 k u hu⟩

/-- A new grammar of small numbers is told, a spoilt one at times. -/
def ToldA (w : World) (R m : Nat) (e : Ending) (w' : World) : Prop :=
  ∃ (n t : Int) (A : Option Addr) (c : Nat) (rs : List Ru), e = .returned (.agg #[.int .i64 n, .int .i64 t, .slice A rs.length c]) ∧ (0 ≤ n ∧ n ≤ 100) ∧ (0 ≤ t ∧ t ≤ 100) ∧ rs.length ≤ 7 ∧ rs.length ≤ c ∧ SmR rs ∧ OwnS w' w.heap.size A rs ∧ CurS w' R m ∧ Save (· = R) w w'

set_option maxRecDepth 20000 in
set_option maxHeartbeats 8000000 in
theorem curAny_any (R m : Nat) (w : World) (h : CurS w R m) (hm : m ≤ 980000) :
    Calls Tryd.prog 63 #[.pointer (some ⟨R, 0, none⟩)] w (ToldA w R (m + 210)) := by
  obtain ⟨i0, hi0, hz0, hz1, hz2⟩ := info_of Tryd.infoRule
  have HC := Lib.hid h; clear h
  have hRw := HC.out.lt
  have HB0 : Hid (Below w.heap.size w (w.alloc (.cells #[.int .i64 0, .int .i64 0, .slice none 0 0] 26))) := below_new _ _
  have BX0 := Lib.hid (Row.new w 26 #[.int .i64 0, .int .i64 0, .slice none 0 0])
  have HC0 := Lib.hid (HC.out.keep HB0.out HC.out.lt)
  have HS0 : Hid (Save (· = R) w (w.alloc (.cells #[.int .i64 0, .int .i64 0, .slice none 0 0] 26))) := Save.of_below HB0.out
  have hs0 : (w.alloc (.cells #[.int .i64 0, .int .i64 0, .slice none 0 0] 26)).heap.size = w.heap.size + 1 := by simp
  go_enter Tryd.func63, Tryd.ntmps63
  go_wp2_with fail
  refine (curGrammar_any R m _ HC0.out (by omega)).mono ?_
  rintro _ w1 ⟨n, t, A, c, rs, rfl, ⟨hn0, hn1⟩, ⟨ht0, ht1⟩, hr1, hr2, hsm, hRU, hC1, hS1⟩
  rw [hs0] at hRU
  have BX1 := Lib.hid (BX0.out.save hS1 (by omega))
  have hs1 : w.heap.size < w1.heap.size := BX1.out.lt
  obtain ⟨A', c', e0, hc, hOR⟩ := hRU.slice
  injection e0 with e1 e2 e3
  subst e1 e3
  clear e2
  have OR1 := Lib.hid hOR; clear hOR
  have RU1 := Lib.hid hRU; clear hRU
  have HC1 := Lib.hid hC1; clear hC1
  have HS1 := Lib.hid (HS0.out.trans hS1); clear hS1
  have SM := Lib.hid hsm; clear hsm
  clear HB0 BX0 HC0 HS0 hs0
  go_wp2_with fail
  have HB2 : Hid (Below w1.heap.size w1 (w1.alloc (.cells #[.int .i64 n, .int .i64 t, .slice A rs.length c] 26))) := below_new _ _
  have GX2 := Lib.hid (Row.new w1 26 #[.int .i64 n, .int .i64 t, .slice A rs.length c])
  have BX2 := Lib.hid (BX1.out.next HB2.out)
  have OR2 := Lib.hid (OR1.out.below HB2.out (Nat.le_refl _))
  have RU2 := Lib.hid (RU1.out.keep HB2.out)
  have HC2 := Lib.hid (HC1.out.keep HB2.out HC1.out.lt)
  have HS2 : Hid (Save (· = R) w (w1.alloc (.cells #[.int .i64 n, .int .i64 t, .slice A rs.length c] 26))) := HS1.out.trans (Save.of_below HB2.out)
  generalize w1.alloc (.cells #[.int .i64 n, .int .i64 t, .slice A rs.length c] 26) = w2 at GX2 BX2 OR2 RU2 HC2 HS2 ⊢
  clear BX1 OR1 RU1 HC1 HS1 HB2
  refine (curPick_any R _ _ _ HC2.out (by omega) (by omega)).mono ?_
  rintro _ w3 ⟨x, rfl, hx, hC3, hS3⟩
  have GXF := Lib.hid (GX2.out.save hS3 (by omega))
  have BXF := Lib.hid (BX2.out.save hS3 (by omega))
  have RU3 := Lib.hid (RU2.out.save hS3 (by intro b hb; omega))
  have HCF := Lib.hid hC3
  have HSF := Lib.hid (HS2.out.trans hS3)
  clear hC3 hS3 GX2 BX2 OR2 RU2 HC2 HS2 hx
  have hs3 := GXF.out.lt
  obtain ⟨A', c', e0, _, hOR⟩ := RU3.out.slice
  injection e0 with e1 e2 e3
  subst e1 e3
  clear e2
  have OR3 := Lib.hid hOR; clear hOR
  by_cases e0 : x = 0
  · subst e0
    have HB4 : Hid (Below w3.heap.size w3 (w3.alloc (.cells #[.int .i64 0, .int .i64 6, .int .i64 7] 3))) := below_new _ _
    have HO4 : Hid (OwnI (w3.alloc (.cells #[.int .i64 0, .int .i64 6, .int .i64 7] 3)) (R + 1) (some ⟨w3.heap.size, 0, none⟩) [0, 6, 7]) := ownI_lit (Row.new _ _ _) (by omega) (by intro i x hx; rcases i with _ | _ | _ | i <;> simp at hx <;> subst hx <;> rfl)
    have HC4 := Lib.hid (HCF.out.keep HB4.out HCF.out.lt)
    go_wp2_with fail
    refine (curAmong_any R _ _ [0, 6, 7] 3 _ HC4.out (by omega) HO4.out (by simp) (by simp)).mono ?_
    rintro _ w5 ⟨y, rfl, hy, hC5, hS5⟩
    have hy1 : 0 ≤ y ∧ y ≤ 100 := by simp at hy; omega
    obtain ⟨hy2, hy3⟩ := hy1
    have GX5 := Lib.hid ((GXF.out.next HB4.out).save hS5 (by omega))
    have BX5 := Lib.hid ((BXF.out.next HB4.out).save hS5 (by omega))
    have OW5 := Lib.hid ((OR3.out.toS.keep HB4.out).save hS5 (by intro b hb; omega))
    have HC5 := Lib.hid hC5
    have HS5 := Lib.hid (HSF.out.trans ((Save.of_below HB4.out).trans hS5))
    clear hC5 hS5 hy GXF BXF HCF HSF HB4 HO4 HC4 RU3 OR3
    have hs5 := GX5.out.lt
    have c5 : w5.cell? ⟨w1.heap.size, 0, none⟩ = some (.int .i64 n) := GX5.out.cell 0
    have g5 := GX5.out.frozen 0
    have GXF := Lib.hid (GX5.out.set 0 (.int .i64 y))
    have BXF := Lib.hid (BX5.out.far (p := ⟨w1.heap.size, 0, none⟩) (by simp; omega) (.int .i64 y))
    have OWF := Lib.hid (OW5.out.away GX5.out 0 (.int .i64 y))
    have HCF : Hid (CurS (w5.setCell ⟨w1.heap.size, 0, none⟩ (.int .i64 y)) R _) := HC5.out.keep (B := w.heap.size) (by go_grown) hRw
    have HSF : Hid (Save (· = R) w (w5.setCell ⟨w1.heap.size, 0, none⟩ (.int .i64 y))) := HS5.out.then (B := w.heap.size) (by go_grown) (Nat.le_refl _)
    have SMF := SM
    have b0 : (w5.setCell ⟨w1.heap.size, 0, none⟩ (.int .i64 y)).cell? ⟨w1.heap.size, 0, none⟩ = some (.int .i64 y) := GXF.out.cell 0
    have b1 : (w5.setCell ⟨w1.heap.size, 0, none⟩ (.int .i64 y)).cell? ⟨w1.heap.size, 1, none⟩ = some (.int .i64 t) := GXF.out.cell 1
    have b2 : (w5.setCell ⟨w1.heap.size, 0, none⟩ (.int .i64 y)).cell? ⟨w1.heap.size, 2, none⟩ = some (.slice A rs.length c) := GXF.out.cell 2
    have f0 := BXF.out.frozen 0
    have f1 := BXF.out.frozen 1
    have f2 := BXF.out.frozen 2
    have k0 : (w5.setCell ⟨w1.heap.size, 0, none⟩ (.int .i64 y)).cell? ⟨w.heap.size, 0, none⟩ = some (.int .i64 0) := BXF.out.cell 0
    have k1 : (w5.setCell ⟨w1.heap.size, 0, none⟩ (.int .i64 y)).cell? ⟨w.heap.size, 1, none⟩ = some (.int .i64 0) := BXF.out.cell 1
    have k2 : (w5.setCell ⟨w1.heap.size, 0, none⟩ (.int .i64 y)).cell? ⟨w.heap.size, 2, none⟩ = some (.slice none 0 0) := BXF.out.cell 2
    go_wp2
    show bodyPost Tryd.prog Tryd.f63 (ToldA w R (m + 210)) Exit.ret _ _
    refine bodyPost_ret (v := .agg #[.int .i64 y, .int .i64 t, .slice A rs.length c]) (by simp [results, Tryd.results63, go_sem, k0, k1, k2]) rfl ?_
    refine ⟨y, t, A, c, rs, by rfl, by omega, by omega, by first | omega | (simp; omega), by first | omega | (simp; omega), SMF.out, ?_, ?_, ?_⟩
    · exact (((OWF.out.low (by simp) _).low (by simp) _).low (by simp) _).lower (by omega)
    · exact (HCF.out.keep (B := w.heap.size) (by go_grown) hRw).mono (by omega)
    · exact HSF.out.then (B := w.heap.size) (by go_grown) (Nat.le_refl _)
  by_cases e1 : x = 1
  · subst e1
    have HB4 : Hid (Below w3.heap.size w3 (w3.alloc (.cells #[.int .i64 0, .int .i64 4, .int .i64 5] 3))) := below_new _ _
    have HO4 : Hid (OwnI (w3.alloc (.cells #[.int .i64 0, .int .i64 4, .int .i64 5] 3)) (R + 1) (some ⟨w3.heap.size, 0, none⟩) [0, 4, 5]) := ownI_lit (Row.new _ _ _) (by omega) (by intro i x hx; rcases i with _ | _ | _ | i <;> simp at hx <;> subst hx <;> rfl)
    have HC4 := Lib.hid (HCF.out.keep HB4.out HCF.out.lt)
    go_wp2_with fail
    refine (curAmong_any R _ _ [0, 4, 5] 3 _ HC4.out (by omega) HO4.out (by simp) (by simp)).mono ?_
    rintro _ w5 ⟨y, rfl, hy, hC5, hS5⟩
    have hy1 : 0 ≤ y ∧ y ≤ 100 := by simp at hy; omega
    obtain ⟨hy2, hy3⟩ := hy1
    have GX5 := Lib.hid ((GXF.out.next HB4.out).save hS5 (by omega))
    have BX5 := Lib.hid ((BXF.out.next HB4.out).save hS5 (by omega))
    have OW5 := Lib.hid ((OR3.out.toS.keep HB4.out).save hS5 (by intro b hb; omega))
    have HC5 := Lib.hid hC5
    have HS5 := Lib.hid (HSF.out.trans ((Save.of_below HB4.out).trans hS5))
    clear hC5 hS5 hy GXF BXF HCF HSF HB4 HO4 HC4 RU3 OR3
    have hs5 := GX5.out.lt
    have c5 : w5.cell? ⟨w1.heap.size, 1, none⟩ = some (.int .i64 t) := GX5.out.cell 1
    have g5 := GX5.out.frozen 1
    have GXF := Lib.hid (GX5.out.set 1 (.int .i64 y))
    have BXF := Lib.hid (BX5.out.far (p := ⟨w1.heap.size, 1, none⟩) (by simp; omega) (.int .i64 y))
    have OWF := Lib.hid (OW5.out.away GX5.out 1 (.int .i64 y))
    have HCF : Hid (CurS (w5.setCell ⟨w1.heap.size, 1, none⟩ (.int .i64 y)) R _) := HC5.out.keep (B := w.heap.size) (by go_grown) hRw
    have HSF : Hid (Save (· = R) w (w5.setCell ⟨w1.heap.size, 1, none⟩ (.int .i64 y))) := HS5.out.then (B := w.heap.size) (by go_grown) (Nat.le_refl _)
    have SMF := SM
    have b0 : (w5.setCell ⟨w1.heap.size, 1, none⟩ (.int .i64 y)).cell? ⟨w1.heap.size, 0, none⟩ = some (.int .i64 n) := GXF.out.cell 0
    have b1 : (w5.setCell ⟨w1.heap.size, 1, none⟩ (.int .i64 y)).cell? ⟨w1.heap.size, 1, none⟩ = some (.int .i64 y) := GXF.out.cell 1
    have b2 : (w5.setCell ⟨w1.heap.size, 1, none⟩ (.int .i64 y)).cell? ⟨w1.heap.size, 2, none⟩ = some (.slice A rs.length c) := GXF.out.cell 2
    have f0 := BXF.out.frozen 0
    have f1 := BXF.out.frozen 1
    have f2 := BXF.out.frozen 2
    have k0 : (w5.setCell ⟨w1.heap.size, 1, none⟩ (.int .i64 y)).cell? ⟨w.heap.size, 0, none⟩ = some (.int .i64 0) := BXF.out.cell 0
    have k1 : (w5.setCell ⟨w1.heap.size, 1, none⟩ (.int .i64 y)).cell? ⟨w.heap.size, 1, none⟩ = some (.int .i64 0) := BXF.out.cell 1
    have k2 : (w5.setCell ⟨w1.heap.size, 1, none⟩ (.int .i64 y)).cell? ⟨w.heap.size, 2, none⟩ = some (.slice none 0 0) := BXF.out.cell 2
    go_wp2
    show bodyPost Tryd.prog Tryd.f63 (ToldA w R (m + 210)) Exit.ret _ _
    refine bodyPost_ret (v := .agg #[.int .i64 n, .int .i64 y, .slice A rs.length c]) (by simp [results, Tryd.results63, go_sem, k0, k1, k2]) rfl ?_
    refine ⟨n, y, A, c, rs, by rfl, by omega, by omega, by first | omega | (simp; omega), by first | omega | (simp; omega), SMF.out, ?_, ?_, ?_⟩
    · exact (((OWF.out.low (by simp) _).low (by simp) _).low (by simp) _).lower (by omega)
    · exact (HCF.out.keep (B := w.heap.size) (by go_grown) hRw).mono (by omega)
    · exact HSF.out.then (B := w.heap.size) (by go_grown) (Nat.le_refl _)
  obtain ⟨u, rt, hrs⟩ : ∃ u rt, rs = u :: rt := by
    cases rs with
    | nil => simp at hr1
    | cons u rt => exact ⟨u, rt, rfl⟩
  have hu0 : rs[0]? = some u := by rw [hrs]; rfl
  obtain ⟨g, cs, hAg, hlg, hRg, hcs⟩ : ∃ (g : Nat) (cs : Array Value), A = some ⟨g, 0, none⟩ ∧ w.heap.size + 1 ≤ g ∧ Row w3 g 64 cs ∧ (cs[0]? = some (.int .i64 u.l) ∧ cs[1]? = some (.slice u.a u.r.length u.c)) := by
    rcases OR3.out with h | ⟨g, cs, e, hl, hr, hc, _⟩
    · rw [h] at hr1; simp at hr1
    · obtain ⟨h1, h2, _⟩ := hc 0 u hu0
      exact ⟨g, cs, e, hl, hr, by simpa using h1, by simpa using h2⟩
  subst hAg
  have HRg := Lib.hid hRg
  have HU0 := Lib.hid hu0
  have q0 : w3.cell? ⟨g, 0, none⟩ = some (.int .i64 u.l) := (hRg.cell 0).trans hcs.1
  have q1 : w3.cell? ⟨g, 1, none⟩ = some (.slice u.a u.r.length u.c) := (hRg.cell 1).trans hcs.2
  have qf := hRg.frozen 0
  have hgL : w1.heap.size ≠ g := GXF.out.ne hRg (by decide)
  have hgl : g < w3.heap.size := hRg.lt
  clear hRg hcs hu0
  have HRS := Lib.hid hrs
  have p2 : w3.cell? ⟨w1.heap.size, 2, none⟩ = some (.slice (some ⟨g, 0, none⟩) rs.length c) := GXF.out.cell 2
  by_cases e2 : x = 2
  · subst e2
    clear hrs
    have HNE : Hid (∀ b, b ≠ g → some b ≠ (Value.slice (some ⟨g, 0, none⟩) rs.length c).ownBlock) := fun b hb e => by
      have e' : some b = some g := e
      injection e' with e'
      exact hb e'
    have p2a : (w3.alloc (.cells #[.int .i64 u.l, .slice u.a u.r.length u.c] 64)).cell? ⟨w1.heap.size, 2, none⟩ = some (.slice (some ⟨g, 0, none⟩) rs.length c) := (Row.alloc GXF.out _).cell 2
    go_wp2_with fail
    go_region_law
      (refine step_append_lies _ rfl _ _ _ rfl (w.heap.size + 1) 64 i0 _ 2 32 Tryd.underlying24 hi0 hz0 hz1 hz2 rfl (by omega) (.slice (some ⟨g, 0, none⟩) rs.length c) rs.length (rs.flatMap cellsU) (by simp [Act.eval]) (RU3.out.row.alloc (.cells #[.int .i64 u.l, .slice u.a u.r.length u.c] 64))
         ⟨w3.heap.size, 0, none⟩ 1 1 [.int .i64 u.l, .slice u.a u.r.length u.c] (by simp [Act.eval]) rfl (two_new w3 (.int .i64 u.l) (.slice u.a u.r.length u.c) 64) (by simp [Value.oneCell'])
         (by omega) (by unfold maxLen; omega) (by omega) (by simp; omega) (w3.heap.size + 1) (by simp) ?_
       intro gg cap w6 hown hgrow hat hgl6
       have GX6 : Hid (Row w6 w1.heap.size 26 #[.int .i64 n, .int .i64 t, .slice (some ⟨g, 0, none⟩) rs.length c]) := (hgrow.block w1.heap.size (by simp; omega) (HNE.out _ hgL)).trans (Row.alloc GXF.out _)
       have BX6 : Hid (Row w6 w.heap.size 26 #[.int .i64 0, .int .i64 0, .slice none 0 0]) := (hgrow.block w.heap.size (by simp; omega) (HNE.out _ (by omega))).trans (Row.alloc BXF.out _)
       have hB6 : Below (w.heap.size + 1) w3 w6 := Below.grown (B := w.heap.size + 1) (a := w3) (by go_grown) hgrow (by simp; omega) fun j hj => by
         have e' : some g = some j := hj
         injection e' with e'
         omega
       have hS6 := ownS_of_row (ds := rs ++ [u]) (k := rs.length + 1) (by simp) (by omega) (by rw [List.flatMap_append]; simpa [cellsU] using hown) (fun j v hv => by
         have hm : OwnI w3 (w.heap.size + 1) v.a v.r := by
           rcases List.mem_append.1 (List.mem_of_getElem? hv) with h | h
           · obtain ⟨i, hi⟩ := List.getElem?_of_mem h
             exact RU3.out.rts i v hi
           · simp at h; subst h
             exact RU3.out.rts 0 _ HU0.out
         refine OwnI.grown (base := w.heap.size + 1) (n := rs.length) (cs := rs.flatMap cellsU) ?_ ?_ hgrow
         · exact hm.below (B := w3.heap.size) (by go_grown) (Nat.le_refl _)
         · exact RU3.out.row.alloc (.cells #[.int .i64 u.l, .slice u.a u.r.length u.c] 64))
       have HCP := Lib.hid hS6.1
       have z2 : w6.cell? ⟨w1.heap.size, 2, none⟩ = some (.slice (some ⟨g, 0, none⟩) rs.length c) := GX6.out.cell 2
       have y2 := GX6.out.frozen 2
       have OWF' := Lib.hid (hS6.2.away GX6.out 2 (.slice (some ⟨gg, 0, none⟩) (rs.length + 1) cap))
       have GXF' := Lib.hid (GX6.out.set 2 (.slice (some ⟨gg, 0, none⟩) (rs.length + 1) cap))
       have BXF' := Lib.hid (BX6.out.far (p := ⟨w1.heap.size, 2, none⟩) (by simp; omega) (.slice (some ⟨gg, 0, none⟩) (rs.length + 1) cap))
       have HB6 := Lib.hid (hB6.mono (show w.heap.size ≤ w.heap.size + 1 by omega))
       clear hown hgrow hat hB6 hS6 p2 p2a q0 q1 qf
       have b0 : (w6.setCell ⟨w1.heap.size, 2, none⟩ (.slice (some ⟨gg, 0, none⟩) (rs.length + 1) cap)).cell? ⟨w1.heap.size, 0, none⟩ = some (.int .i64 n) := GXF'.out.cell 0
       have b1 : (w6.setCell ⟨w1.heap.size, 2, none⟩ (.slice (some ⟨gg, 0, none⟩) (rs.length + 1) cap)).cell? ⟨w1.heap.size, 1, none⟩ = some (.int .i64 t) := GXF'.out.cell 1
       have b2 : (w6.setCell ⟨w1.heap.size, 2, none⟩ (.slice (some ⟨gg, 0, none⟩) (rs.length + 1) cap)).cell? ⟨w1.heap.size, 2, none⟩ = some (.slice (some ⟨gg, 0, none⟩) (rs.length + 1) cap) := GXF'.out.cell 2
       have f0 := BXF'.out.frozen 0
       have f1 := BXF'.out.frozen 1
       have f2 := BXF'.out.frozen 2
       have k0 : (w6.setCell ⟨w1.heap.size, 2, none⟩ (.slice (some ⟨gg, 0, none⟩) (rs.length + 1) cap)).cell? ⟨w.heap.size, 0, none⟩ = some (.int .i64 0) := BXF'.out.cell 0
       have k1 : (w6.setCell ⟨w1.heap.size, 2, none⟩ (.slice (some ⟨gg, 0, none⟩) (rs.length + 1) cap)).cell? ⟨w.heap.size, 1, none⟩ = some (.int .i64 0) := BXF'.out.cell 1
       have k2 : (w6.setCell ⟨w1.heap.size, 2, none⟩ (.slice (some ⟨gg, 0, none⟩) (rs.length + 1) cap)).cell? ⟨w.heap.size, 2, none⟩ = some (.slice none 0 0) := BXF'.out.cell 2)
    all_goals
      have hcap := HCP.out
      have SMF : Hid (SmR (rs ++ [u])) := SM.out.snoc (SM.out u (List.mem_of_getElem? HU0.out)).1 (SM.out u (List.mem_of_getElem? HU0.out)).2
      have HCF' : Hid (CurS (w6.setCell ⟨w1.heap.size, 2, none⟩ (.slice (some ⟨gg, 0, none⟩) (rs.length + 1) cap)) R _) := HCF.out.keep (B := w.heap.size) (HB6.out.setCell (by simp; omega) _) hRw
      have HSF' : Hid (Save (· = R) w (w6.setCell ⟨w1.heap.size, 2, none⟩ (.slice (some ⟨gg, 0, none⟩) (rs.length + 1) cap))) := HSF.out.then (B := w.heap.size) (HB6.out.setCell (by simp; omega) _) (Nat.le_refl _)
      go_wp2
      show bodyPost Tryd.prog Tryd.f63 (ToldA w R (m + 210)) Exit.ret _ _
      refine bodyPost_ret (v := .agg #[.int .i64 n, .int .i64 t, .slice (some ⟨gg, 0, none⟩) (rs.length + 1) cap]) (by simp [results, Tryd.results63, go_sem, k0, k1, k2]) rfl ?_
      refine ⟨n, t, (some ⟨gg, 0, none⟩), cap, (rs ++ [u]), by rw [List.length_append]; rfl, by omega, by omega, by first | omega | (simp; omega), by first | omega | (simp; omega), SMF.out, ?_, ?_, ?_⟩
      · exact (((OWF'.out.low (by simp) _).low (by simp) _).low (by simp) _).lower (by omega)
      · exact (HCF'.out.keep (B := w.heap.size) (by go_grown) hRw).mono (by omega)
      · exact HSF'.out.then (B := w.heap.size) (by go_grown) (Nat.le_refl _)
  by_cases e3 : x = 3
  · subst e3
    clear hrs
    go_wp2_with fail
    go_region_with (go_at_call 64
                    refine (curPick_any R (m + 200 + 2) _ _ ?_ (by omega) (by omega)).mono ?_
                    · exact HCF.out.keep (B := R + 1) (by go_grown) (by omega)
                    rintro _ w4 ⟨y, rfl, hy, hC4, hS4'⟩
                    have hy0 := hy.1
                    have hy1 := hy.2.1
                    have hS4 : Save (· = R) w3 w4 := Save.trans (Save.of_below (by go_grown)) hS4'
                    have GX4 := Lib.hid (GXF.out.save hS4 (by omega))
                    have RG4 := Lib.hid (HRg.out.save hS4 (by omega))
                    have HS4 := Lib.hid hS4
                    have HC4 := Lib.hid hC4
                    have s2 : w4.cell? ⟨w1.heap.size, 2, none⟩ = some (.slice (some ⟨g, 0, none⟩) rs.length c) := GX4.out.cell 2
                    have s0 : w4.cell? ⟨g, 0, none⟩ = some (.int .i64 u.l) := (hS4.cell (p := ⟨g, 0, none⟩) hgl (by simp; omega)).trans q0
                    have sf := RG4.out.frozen 0
                    have GXF' := Lib.hid (GX4.out.far (p := ⟨g, 0, none⟩) (by simp; omega) (.int .i64 (y - 1)))
                    have BX4 := Lib.hid (BXF.out.save hS4 (by omega))
                    have nw1 : ¬ g = w.heap.size := by omega
                    have nw2 : ¬ w.heap.size = g := by omega
                    have nl1 : ¬ g = w1.heap.size := by omega
                    have nl2 : ¬ w1.heap.size = g := by omega
                    have BXF' := Lib.hid ((BXF.out.save hS4 (by omega)).far (p := ⟨g, 0, none⟩) (by simp; omega) (.int .i64 (y - 1)))
                    clear hy hC4 hS4 hS4'
                    have b0 : w4.cell? ⟨w1.heap.size, 0, none⟩ = some (.int .i64 n) := GX4.out.cell 0
                    have b1 : w4.cell? ⟨w1.heap.size, 1, none⟩ = some (.int .i64 t) := GX4.out.cell 1
                    have b2 : w4.cell? ⟨w1.heap.size, 2, none⟩ = some (.slice (some ⟨g, 0, none⟩) rs.length c) := GX4.out.cell 2
                    have f0 := BX4.out.frozen 0
                    have f1 := BX4.out.frozen 1
                    have f2 := BX4.out.frozen 2
                    have k0 : w4.cell? ⟨w.heap.size, 0, none⟩ = some (.int .i64 0) := BX4.out.cell 0
                    have k1 : w4.cell? ⟨w.heap.size, 1, none⟩ = some (.int .i64 0) := BX4.out.cell 1
                    have k2 : w4.cell? ⟨w.heap.size, 2, none⟩ = some (.slice none 0 0) := BX4.out.cell 2)
    all_goals
      have OWF : Hid (OwnS (w4.setCell ⟨g, 0, none⟩ (.int .i64 (y - 1))) (w.heap.size + 1) (some ⟨g, 0, none⟩) (⟨y - 1, u.a, u.r, u.c⟩ :: rt)) := by
        have h := (RU3.out.save HS4.out (by intro b hb; omega)).slice
        obtain ⟨A9, c9, e9, _, h9⟩ := h
        injection e9 with e91 e92 e93
        subst e91
        rw [HRS.out] at h9
        exact h9.setLeft0 _
      have SMF : Hid (SmR (⟨y - 1, u.a, u.r, u.c⟩ :: rt)) := by
        intro v hv
        rcases List.mem_cons.1 hv with e | e
        · subst e
          exact SM.out u (by rw [HRS.out]; exact List.mem_cons_self ..)
        · exact SM.out v (by rw [HRS.out]; exact List.mem_cons_of_mem _ e)
      have hrl : (⟨y - 1, u.a, u.r, u.c⟩ :: rt : List Ru).length = rs.length := by rw [HRS.out]; rfl
      have HCF' : Hid (CurS (w4.setCell ⟨g, 0, none⟩ (.int .i64 (y - 1))) R _) := HC4.out.keep (B := w.heap.size) (by go_grown) hRw
      have HSF' : Hid (Save (· = R) w (w4.setCell ⟨g, 0, none⟩ (.int .i64 (y - 1)))) := (HSF.out.trans HS4.out).then (B := w.heap.size) (by go_grown) (Nat.le_refl _)
      go_wp2
      show bodyPost Tryd.prog Tryd.f63 (ToldA w R (m + 210)) Exit.ret _ _
      refine bodyPost_ret (v := .agg #[.int .i64 n, .int .i64 t, .slice (some ⟨g, 0, none⟩) rs.length c]) (by simp [results, Tryd.results63, go_sem, k0, k1, k2]) rfl ?_
      refine ⟨n, t, (some ⟨g, 0, none⟩), c, (⟨y - 1, u.a, u.r, u.c⟩ :: rt), by rw [hrl], by omega, by omega, by first | omega | (simp; omega), by first | omega | (simp; omega), SMF.out, ?_, ?_, ?_⟩
      · exact (((OWF.out.low (by simp) _).low (by simp) _).low (by simp) _).lower (by omega)
      · exact (HCF'.out.keep (B := w.heap.size) (by go_grown) hRw).mono (by omega)
      · exact HSF'.out.then (B := w.heap.size) (by go_grown) (Nat.le_refl _)
  clear q0 q1 qf p2 hrs
  have OWF := Lib.hid OR3.out.toS
  have SMF := SM
  have b0 : w3.cell? ⟨w1.heap.size, 0, none⟩ = some (.int .i64 n) := GXF.out.cell 0
  have b1 : w3.cell? ⟨w1.heap.size, 1, none⟩ = some (.int .i64 t) := GXF.out.cell 1
  have b2 : w3.cell? ⟨w1.heap.size, 2, none⟩ = some (.slice (some ⟨g, 0, none⟩) rs.length c) := GXF.out.cell 2
  have f0 := BXF.out.frozen 0
  have f1 := BXF.out.frozen 1
  have f2 := BXF.out.frozen 2
  have k0 : w3.cell? ⟨w.heap.size, 0, none⟩ = some (.int .i64 0) := BXF.out.cell 0
  have k1 : w3.cell? ⟨w.heap.size, 1, none⟩ = some (.int .i64 0) := BXF.out.cell 1
  have k2 : w3.cell? ⟨w.heap.size, 2, none⟩ = some (.slice none 0 0) := BXF.out.cell 2
  go_wp2
  show bodyPost Tryd.prog Tryd.f63 (ToldA w R (m + 210)) Exit.ret _ _
  refine bodyPost_ret (v := .agg #[.int .i64 n, .int .i64 t, .slice (some ⟨g, 0, none⟩) rs.length c]) (by simp [results, Tryd.results63, go_sem, k0, k1, k2]) rfl ?_
  refine ⟨n, t, (some ⟨g, 0, none⟩), c, rs, by rfl, by omega, by omega, by first | omega | (simp; omega), by first | omega | (simp; omega), SMF.out, ?_, ?_, ?_⟩
  · exact (((OWF.out.low (by simp) _).low (by simp) _).low (by simp) _).lower (by omega)
  · exact (HCF.out.keep (B := w.heap.size) (by go_grown) hRw).mono (by omega)
  · exact HSF.out.then (B := w.heap.size) (by go_grown) (Nat.le_refl _)

end Go.Proofs.YtacehfjhpnplbaaDoor

/- The reference's draws of grammars and of texts. -/

namespace Go.Proofs.YtacehfjhpnplbaaDoor
open Go.RowKit

theorem cur_new (w : World) (A : Option Addr) (n c : Nat) (h : Byts w w.heap.size A n) (hn : n ≤ 1048576) : CurS (w.alloc (.cells #[.slice A n c, .int .i64 0, .int .u64 0] 77)) w.heap.size 0 :=
  ⟨A, n, c, 0, 0, Row.new _ _ _, hn, by omega, by omega, by omega, by omega, h.keep (below_new w _)⟩

/-- A new grammar was drawn. -/
def DrewG (w : World) (e : Ending) (w' : World) : Prop :=
  ∃ (n t : Int) (A : Option Addr) (c : Nat) (rs : List Ru), e = .returned (.agg #[.int .i64 n, .int .i64 t, .slice A rs.length c]) ∧ (0 ≤ n ∧ n ≤ 100) ∧ (0 ≤ t ∧ t ≤ 100) ∧ rs.length ≤ 7 ∧ rs.length ≤ c ∧ SmR rs ∧ OwnS w' w.heap.size A rs ∧ Below w.heap.size w w'

theorem below_of_save {w W w' : World} {R : Nat} (hB : Below w.heap.size w W) (hs : Save (· = R) W w') (hR : w.heap.size ≤ R) : Below w.heap.size w w' :=
  hB.trans (hs.below hB.size fun i hi e => by omega)

set_option maxRecDepth 20000 in
set_option maxHeartbeats 4000000 in
theorem drawGG_any (A : Option Addr) (n c : Nat) (w : World) (h : Byts w w.heap.size A n) (hn : n ≤ 1048576) : Calls Tryd.prog 54 #[.slice A n c] w (DrewG w) := by
  have HB0 : Hid (Below w.heap.size w (w.alloc (.cells #[.int .i64 0, .int .i64 0, .slice none 0 0] 26))) := below_new _ _
  have BX0 := Lib.hid (Row.new w 26 #[.int .i64 0, .int .i64 0, .slice none 0 0])
  have HC0 := Lib.hid (cur_new (w.alloc (.cells #[.int .i64 0, .int .i64 0, .slice none 0 0] 26)) A n c ((h.keep HB0.out).more HB0.out.size) hn)
  have HB1 : Hid (Below w.heap.size w ((w.alloc (.cells #[.int .i64 0, .int .i64 0, .slice none 0 0] 26)).alloc (.cells #[.slice A n c, .int .i64 0, .int .u64 0] 77))) := by show Below _ _ _; go_grown
  have BX1 := Lib.hid (BX0.out.alloc (.cells #[.slice A n c, .int .i64 0, .int .u64 0] 77))
  rw [World.size_alloc] at HC0
  clear h
  go_enter Tryd.func54, Tryd.ntmps54
  go_wp2_with fail
  have hs1 : ((w.alloc (.cells #[.int .i64 0, .int .i64 0, .slice none 0 0] 26)).alloc (.cells #[.slice A n c, .int .i64 0, .int .u64 0] 77)).heap.size = w.heap.size + 2 := by simp
  generalize (w.alloc (.cells #[.int .i64 0, .int .i64 0, .slice none 0 0] 26)).alloc (.cells #[.slice A n c, .int .i64 0, .int .u64 0] 77) = w1 at HC0 HB1 BX1 hs1 ⊢
  clear BX0 HB0
  refine (curAny_any _ 0 _ HC0.out (by omega)).mono ?_
  rintro _ w2 ⟨n', t', A', c', rs, rfl, hn', ht', hr1, hr2, hsm, hOW, _, hS2⟩
  rw [hs1] at hOW
  have BX2 := Lib.hid (BX1.out.save hS2 (by omega))
  have HB2 := Lib.hid (below_of_save HB1.out hS2 (by omega))
  have OW2 := Lib.hid hOW
  have SM := Lib.hid hsm
  clear hOW hsm hS2 BX1 HB1 HC0
  have f0 := BX2.out.frozen 0
  have f1 := BX2.out.frozen 1
  have f2 := BX2.out.frozen 2
  have k0 : w2.cell? ⟨w.heap.size, 0, none⟩ = some (.int .i64 0) := BX2.out.cell 0
  have k1 : w2.cell? ⟨w.heap.size, 1, none⟩ = some (.int .i64 0) := BX2.out.cell 1
  have k2 : w2.cell? ⟨w.heap.size, 2, none⟩ = some (.slice none 0 0) := BX2.out.cell 2
  go_wp2
  refine bodyPost_ret (v := .agg #[.int .i64 n', .int .i64 t', .slice A' rs.length c']) (by simp [results, Tryd.results54, go_sem, k0, k1, k2]) rfl ?_
  refine ⟨n', t', A', c', rs, rfl, hn', ht', hr1, hr2, SM.out, ?_, ?_⟩
  · exact (((OW2.out.low (by simp) _).low (by simp) _).low (by simp) _).lower (by omega)
  · exact ((HB2.out.setCell (by simp) _).setCell (by simp) _).setCell (by simp) _

set_option maxRecDepth 20000 in
set_option maxHeartbeats 4000000 in
theorem drawGT_any (A : Option Addr) (n c : Nat) (w : World) (h : Byts w w.heap.size A n) (hn : n ≤ 1048576) : Calls Tryd.prog 13 #[.slice A n c] w (DrewG w) := by
  have HB1 : Hid (Below w.heap.size w (w.alloc (.cells #[.int .i64 0, .int .i64 0, .slice none 0 0] 26))) := below_new _ _
  have BX1 := Lib.hid (Row.new w 26 #[.int .i64 0, .int .i64 0, .slice none 0 0])
  have HY := Lib.hid ((h.keep HB1.out).more HB1.out.size)
  clear h
  have hs1 : (w.alloc (.cells #[.int .i64 0, .int .i64 0, .slice none 0 0] 26)).heap.size = w.heap.size + 1 := by simp
  go_enter Tryd.func13, Tryd.ntmps13
  go_wp2_with fail
  generalize w.alloc (.cells #[.int .i64 0, .int .i64 0, .slice none 0 0] 26) = w1 at HY HB1 BX1 hs1 ⊢
  refine (drawGG_any _ _ _ _ HY.out hn).mono ?_
  rintro _ w2 ⟨n', t', A', c', rs, rfl, hn', ht', hr1, hr2, hsm, hOW, hB2⟩
  rw [hs1] at hOW
  have BX2 := Lib.hid (BX1.out.next hB2)
  have HB2 := Lib.hid (HB1.out.trans (hB2.mono (by omega)))
  have OW2 := Lib.hid hOW
  have SM := Lib.hid hsm
  clear hOW hsm hB2 BX1 HB1 HY
  have f0 := BX2.out.frozen 0
  have f1 := BX2.out.frozen 1
  have f2 := BX2.out.frozen 2
  have k0 : w2.cell? ⟨w.heap.size, 0, none⟩ = some (.int .i64 0) := BX2.out.cell 0
  have k1 : w2.cell? ⟨w.heap.size, 1, none⟩ = some (.int .i64 0) := BX2.out.cell 1
  have k2 : w2.cell? ⟨w.heap.size, 2, none⟩ = some (.slice none 0 0) := BX2.out.cell 2
  go_wp2
  refine bodyPost_ret (v := .agg #[.int .i64 n', .int .i64 t', .slice A' rs.length c']) (by simp [results, Tryd.results13, go_sem, k0, k1, k2]) rfl ?_
  refine ⟨n', t', A', c', rs, rfl, hn', ht', hr1, hr2, SM.out, ?_, ?_⟩
  · exact (((OW2.out.low (by simp) _).low (by simp) _).low (by simp) _).lower (by omega)
  · exact ((HB2.out.setCell (by simp) _).setCell (by simp) _).setCell (by simp) _

set_option maxRecDepth 20000 in
set_option maxHeartbeats 4000000 in
theorem drawSym_any (A : Option Addr) (n c : Nat) (w : World) (h : Byts w w.heap.size A n) (hn : n ≤ 1048576) : Calls Tryd.prog 26 #[.slice A n c] w fun e w' => ∃ x, e = .returned (.int .i64 x) ∧ (-5 ≤ x ∧ x ≤ 65535) ∧ Below w.heap.size w w' := by
  have HC0 := Lib.hid (cur_new w A n c h hn)
  have HB1 : Hid (Below w.heap.size w (w.alloc (.cells #[.slice A n c, .int .i64 0, .int .u64 0] 77))) := below_new _ _
  clear h
  go_enter Tryd.func26, Tryd.ntmps26
  go_wp2_with fail
  refine (curPick_any _ 0 _ _ HC0.out (by omega) (by omega)).mono ?_
  rintro _ w2 ⟨x, rfl, hx, _, hS2⟩
  have hx0 := hx.1
  have hx1 := hx.2.1
  have HB2 := Lib.hid (below_of_save HB1.out hS2 (Nat.le_refl _))
  clear hS2 hx
  go_wp2
  go_ret
  exact ⟨_, rfl, by omega, HB2.out⟩

theorem textL_size (n t : Int) (ss : List (Int × List Int)) (h : ∀ u ∈ ss, u.2.length ≤ 4) : (textL n t ss).length ≤ 4 + 7 * ss.length := by
  have : (ss.flatMap lineL).length ≤ 7 * ss.length := by
    induction ss with
    | nil => simp
    | cons u ss ih =>
      have h1 := h u (List.mem_cons_self ..)
      have h2 := ih fun v hv => h v (List.mem_cons_of_mem _ hv)
      rw [List.flatMap_cons, List.length_append]
      simp only [lineL, List.length_append, List.length_cons, List.length_nil, List.length_map]
      omega
  unfold textL
  rw [List.length_append]
  simp only [List.length_cons, List.length_nil]
  omega
theorem gtS_size (n t : Int) (ss : List (Int × List Int)) (h : ∀ u ∈ ss, u.2.length ≤ 4) : (gtS n t ss).size ≤ 4 + 7 * ss.length := by
  cases e : goodG n t ss
  · rw [gtS_f e]; exact Nat.zero_le _
  · rw [gtS_t e]
    have := textL_size n t ss h
    have e2 : (str (textL n t ss)).size = (textL n t ss).length := List.size_toArray
    rw [e2]; exact this
theorem SmR.abs {rs : List Ru} (h : SmR rs) : ∀ u ∈ rs.map Ru.abs, u.2.length ≤ 4 := by
  intro u hu
  obtain ⟨v, hv, rfl⟩ := List.mem_map.1 hu
  exact (h v hv).1

def texts : Array Value := #[.string ⟨#[]⟩, .string ⟨#[49]⟩, .string ⟨#[49, 32, 49]⟩, .string ⟨#[49, 32, 49, 10]⟩, .string ⟨#[55, 32, 49, 10]⟩, .string ⟨#[49, 32, 49, 10, 83]⟩, .string ⟨#[49, 32, 49, 10, 83, 61]⟩, .string ⟨#[49, 32, 49, 10, 97, 61, 10]⟩, .string ⟨#[49, 32, 49, 10, 83, 61, 98, 10]⟩, .string ⟨#[49, 32, 49, 10, 83, 61, 97, 97, 97, 97, 97, 10]⟩, .string ⟨#[49, 32, 49, 10, 83, 61, 97, 10, 83, 61, 97, 10]⟩, .string ⟨#[49, 32, 49, 10, 10]⟩, .string ⟨#[49, 32, 49, 10, 83, 61, 97, 97, 97, 97]⟩, .string ⟨#[50, 32, 50, 10, 65, 61, 83, 97, 98, 65, 10]⟩]
theorem texts_is (j : Nat) (hj : j < 14) : ∃ s : ByteArray, s.size ≤ 98 ∧ texts[j]? = some (.string s) := by
  match j, hj with
  | 0, _ => exact ⟨_, by decide, rfl⟩
  | 1, _ => exact ⟨_, by decide, rfl⟩
  | 2, _ => exact ⟨_, by decide, rfl⟩
  | 3, _ => exact ⟨_, by decide, rfl⟩
  | 4, _ => exact ⟨_, by decide, rfl⟩
  | 5, _ => exact ⟨_, by decide, rfl⟩
  | 6, _ => exact ⟨_, by decide, rfl⟩
  | 7, _ => exact ⟨_, by decide, rfl⟩
  | 8, _ => exact ⟨_, by decide, rfl⟩
  | 9, _ => exact ⟨_, by decide, rfl⟩
  | 10, _ => exact ⟨_, by decide, rfl⟩
  | 11, _ => exact ⟨_, by decide, rfl⟩
  | 12, _ => exact ⟨_, by decide, rfl⟩
  | 13, _ => exact ⟨_, by decide, rfl⟩
  | k + 14, h => exact absurd h (by omega)

set_option maxRecDepth 20000 in
set_option maxHeartbeats 4000000 in
theorem drawRG_any (A : Option Addr) (n c : Nat) (w : World) (h : Byts w w.heap.size A n) (hn : n ≤ 1048576) : Calls Tryd.prog 18 #[.slice A n c] w fun e w' => ∃ s : ByteArray, e = .returned (.string s) ∧ s.size ≤ 98 ∧ Below w.heap.size w w' := by
  have HC0 := Lib.hid (cur_new w A n c h hn)
  have HB1 : Hid (Below w.heap.size w (w.alloc (.cells #[.slice A n c, .int .i64 0, .int .u64 0] 77))) := below_new _ _
  have hs1 : (w.alloc (.cells #[.slice A n c, .int .i64 0, .int .u64 0] 77)).heap.size = w.heap.size + 1 := by simp
  clear h
  go_enter Tryd.func18, Tryd.ntmps18
  go_wp2_with fail
  generalize w.alloc (.cells #[.slice A n c, .int .i64 0, .int .u64 0] 77) = w1 at HC0 HB1 hs1 ⊢
  refine (curAny_any _ 0 _ HC0.out (by omega)).mono ?_
  rintro _ w2 ⟨n', t', A', c', rs, rfl, hn', ht', hr1, hr2, hsm, hOW, hC2, hS2⟩
  have HB2 := Lib.hid (below_of_save HB1.out hS2 (Nat.le_refl _))
  have HR2 := Lib.hid hOW.rls
  have HC2 := Lib.hid hC2
  have SM := Lib.hid hsm
  have hs2 : w.heap.size < w2.heap.size := by have := hS2.size; omega
  clear hOW hsm hS2 hC2 HC0 HB1 hn' ht'
  go_wp2_with fail
  refine (specGT_any _ _ _ _ _ _ HR2.out hr2 (by omega) (fun u hu => by have := (SM.out u hu).1; omega)).mono ?_
  rintro _ w3 ⟨rfl, hB3⟩
  have hz := gtS_size n' t' (rs.map Ru.abs) SM.out.abs
  rw [List.length_map] at hz
  have hz2 : (gtS n' t' (rs.map Ru.abs)).size ≤ 53 := by omega
  clear hz
  generalize gtS n' t' (rs.map Ru.abs) = s at hz2 ⊢
  generalize goodG n' t' (rs.map Ru.abs) = bb
  have HC3 := Lib.hid (HC2.out.keep hB3 HC2.out.lt)
  have HB3 := Lib.hid (HB2.out.trans (hB3.mono (by omega)))
  have hs3 : w.heap.size < w3.heap.size := by have := hB3.size; omega
  clear hB3 HB2 HC2 HR2
  go_wp2_with fail
  refine (curPick_any _ _ _ _ HC3.out (by omega) (by omega)).mono ?_
  rintro _ w4 ⟨x, rfl, hx, hC4, hS4⟩
  have HC4 := Lib.hid hC4
  have HB4 := Lib.hid (below_of_save (W := w3) HB3.out hS4 (Nat.le_refl _))
  have hs4 : w.heap.size < w4.heap.size := by have := hS4.size; omega
  clear hC4 hS4 hx HC3 HB3
  by_cases e0 : x = 0
  · subst e0
    go_wp2_with fail
    refine (curSpoilt_any _ _ 98 _ _ _ HC4.out (by omega) (by omega) (by omega) (by decide) (by decide)).mono ?_
    rintro _ w5 ⟨s5, rfl, hs5, _, hS5⟩
    have HB5 := Lib.hid (below_of_save (W := w4) HB4.out hS5 (Nat.le_refl _))
    clear hS5
    go_wp2
    go_ret
    exact ⟨_, rfl, hs5, HB5.out⟩
  by_cases e1 : x = 1
  · subst e1
    have HB5 : Hid (Below w4.heap.size w4 (w4.alloc (.cells #[.string ⟨#[]⟩, .string ⟨#[49]⟩, .string ⟨#[49, 32, 49]⟩, .string ⟨#[49, 32, 49, 10]⟩, .string ⟨#[55, 32, 49, 10]⟩, .string ⟨#[49, 32, 49, 10, 83]⟩, .string ⟨#[49, 32, 49, 10, 83, 61]⟩, .string ⟨#[49, 32, 49, 10, 97, 61, 10]⟩, .string ⟨#[49, 32, 49, 10, 83, 61, 98, 10]⟩, .string ⟨#[49, 32, 49, 10, 83, 61, 97, 97, 97, 97, 97, 10]⟩, .string ⟨#[49, 32, 49, 10, 83, 61, 97, 10, 83, 61, 97, 10]⟩, .string ⟨#[49, 32, 49, 10, 10]⟩, .string ⟨#[49, 32, 49, 10, 83, 61, 97, 97, 97, 97]⟩, .string ⟨#[50, 32, 50, 10, 65, 61, 83, 97, 98, 65, 10]⟩] 9))) := below_new _ _
    have HT5 : Hid (Txts (w4.alloc (.cells #[.string ⟨#[]⟩, .string ⟨#[49]⟩, .string ⟨#[49, 32, 49]⟩, .string ⟨#[49, 32, 49, 10]⟩, .string ⟨#[55, 32, 49, 10]⟩, .string ⟨#[49, 32, 49, 10, 83]⟩, .string ⟨#[49, 32, 49, 10, 83, 61]⟩, .string ⟨#[49, 32, 49, 10, 97, 61, 10]⟩, .string ⟨#[49, 32, 49, 10, 83, 61, 98, 10]⟩, .string ⟨#[49, 32, 49, 10, 83, 61, 97, 97, 97, 97, 97, 10]⟩, .string ⟨#[49, 32, 49, 10, 83, 61, 97, 10, 83, 61, 97, 10]⟩, .string ⟨#[49, 32, 49, 10, 10]⟩, .string ⟨#[49, 32, 49, 10, 83, 61, 97, 97, 97, 97]⟩, .string ⟨#[50, 32, 50, 10, 65, 61, 83, 97, 98, 65, 10]⟩] 9)) w.heap.size (some ⟨w4.heap.size, 0, none⟩) (fun s => s.size ≤ 98) 14) := by
      refine ⟨w4.heap.size, 0, rfl, hs4, by simp, fun j hj => ?_⟩
      obtain ⟨s, h1, h2⟩ := texts_is j hj
      exact ⟨s, h1, by rw [Nat.zero_add]; exact ((Row.new w4 9 texts).cell j).trans h2⟩
    have HC5 := Lib.hid (HC4.out.keep HB5.out HC4.out.lt)
    go_wp2_with fail
    generalize w4.alloc (.cells #[.string ⟨#[]⟩, .string ⟨#[49]⟩, .string ⟨#[49, 32, 49]⟩, .string ⟨#[49, 32, 49, 10]⟩, .string ⟨#[55, 32, 49, 10]⟩, .string ⟨#[49, 32, 49, 10, 83]⟩, .string ⟨#[49, 32, 49, 10, 83, 61]⟩, .string ⟨#[49, 32, 49, 10, 97, 61, 10]⟩, .string ⟨#[49, 32, 49, 10, 83, 61, 98, 10]⟩, .string ⟨#[49, 32, 49, 10, 83, 61, 97, 97, 97, 97, 97, 10]⟩, .string ⟨#[49, 32, 49, 10, 83, 61, 97, 10, 83, 61, 97, 10]⟩, .string ⟨#[49, 32, 49, 10, 10]⟩, .string ⟨#[49, 32, 49, 10, 83, 61, 97, 97, 97, 97]⟩, .string ⟨#[50, 32, 50, 10, 65, 61, 83, 97, 98, 65, 10]⟩] 9) = w5 at HB5 HT5 HC5 ⊢
    refine (curOf_any _ _ _ _ 14 14 _ HC5.out (by omega) HT5.out (by omega) (by omega)).mono ?_
    rintro _ w6 ⟨s5, rfl, hs5, _, hS5⟩
    have HB6 := Lib.hid (below_of_save (W := w5) (HB4.out.trans (HB5.out.mono (by omega))) hS5 (Nat.le_refl _))
    clear hS5
    go_wp2
    go_ret
    exact ⟨_, rfl, hs5, HB6.out⟩
  go_wp2
  go_ret
  exact ⟨_, rfl, by omega, HB4.out⟩

end Go.Proofs.YtacehfjhpnplbaaDoor

/- What ReadWord answers, the program's and the reference's. -/

namespace Go.Proofs.YtacehfjhpnplbaaDoor
open Go.RowKit

def rdOk (n t : Int) (ss : List (Int × List Int)) (s : ByteArray) : Bool := goodG n t ss && decide (s.size ≤ 10)
def rdL (n t : Int) (ss : List (Int × List Int)) (s : ByteArray) : List Int := if rdOk n t ss s then rwL t s else []
def rdP (n t : Int) (ss : List (Int × List Int)) (s : ByteArray) : Int := if rdOk n t ss s then (rwP t s : Int) else 0
def rdB (n t : Int) (ss : List (Int × List Int)) (s : ByteArray) : Bool := rdOk n t ss s && rwB t s

/-- A new slice of numbers, a number and a bool. -/
def GaveIIB (w : World) (ys : List Int) (p : Int) (b : Bool) (e : Ending) (w' : World) : Prop :=
  ∃ A c, e = .returned (.tuple #[.slice A ys.length c, .int .i64 p, .bool b]) ∧ OwnI w' w.heap.size A ys ∧ Below w.heap.size w w'

theorem rd_no {n t : Int} {ss : List (Int × List Int)} {s : ByteArray} (h : rdOk n t ss s = false) : rdL n t ss s = [] ∧ rdP n t ss s = 0 ∧ rdB n t ss s = false := by
  unfold rdL rdP rdB; rw [h]; exact ⟨rfl, rfl, rfl⟩
theorem rd_good {n t : Int} {ss : List (Int × List Int)} {s : ByteArray} (h : rdOk n t ss s = true) (hb : badW t s = none) : rdL n t ss s = rwL t s ∧ rdP n t ss s = 0 ∧ rdB n t ss s = true := by
  unfold rdL rdP rdB rwB rwP; rw [h, hb]; exact ⟨rfl, rfl, rfl⟩
theorem rd_bad {n t : Int} {ss : List (Int × List Int)} {s : ByteArray} {k : Nat} (h : rdOk n t ss s = true) (hb : badW t s = some k) : rdL n t ss s = [] ∧ rdP n t ss s = k ∧ rdB n t ss s = false := by
  unfold rdL rdP rdB rwL rwB rwP; rw [h, hb]; exact ⟨rfl, rfl, rfl⟩
theorem rdOk_g {n t : Int} {ss : List (Int × List Int)} {s : ByteArray} (h : goodG n t ss = false) : rdOk n t ss s = false := by unfold rdOk; rw [h]; rfl
theorem rdOk_s {n t : Int} {ss : List (Int × List Int)} {s : ByteArray} (h : goodG n t ss = true) : rdOk n t ss s = decide (s.size ≤ 10) := by unfold rdOk; rw [h]; rfl
theorem rdL_len {n t : Int} {ss : List (Int × List Int)} {s : ByteArray} : (rdL n t ss s).length ≤ 10 := by
  unfold rdL
  split
  · rename_i h
    unfold rdOk at h
    rw [Bool.and_eq_true, decide_eq_true_eq] at h
    unfold rwL
    split
    · simp
    · simpa using h.2
  · simp

theorem symG0_none {t c : Int} (h : tokO t c = none) : symG 0 t c = none := by
  unfold tokO at h
  unfold symG
  cases e : symN c with
  | none => rfl
  | some x =>
    rw [e] at h
    simp only [Option.bind_some] at h
    split at h
    · cases h
    · rename_i hp
      rw [Option.filter_some, if_neg]
      intro hs
      have := of_decide_eq_true hs
      exact hp (nonB_t (by omega) (by omega))
theorem symG0_some {t c y : Int} (h : tokO t c = some y) : symG 0 t c = some (-1 - y) ∧ 0 ≤ y ∧ y < 4 := by
  unfold tokO at h
  unfold symG
  cases e : symN c with
  | none => rw [e] at h; cases h
  | some x =>
    rw [e] at h
    simp only [Option.bind_some] at h
    split at h
    · rename_i hp
      injection h with h
      subst h
      have hb := nonB_is hp
      have hx := symN_bd e
      refine ⟨?_, by omega, by omega⟩
      rw [Option.filter_some, if_pos]
      · congr 1; omega
      · exact decide_eq_true (.inr ⟨by omega, by omega⟩)
    · cases h

theorem symG0_is {t c y : Int} (h : tokO t c = some y) : ∃ x, symG 0 t c = some x ∧ y = -1 - x ∧ -4 ≤ x ∧ x < 0 := by
  have key : symG 0 t c = some (-1 - y) ∧ 0 ≤ y ∧ y < 4 := symG0_some h
  exact ⟨-1 - y, key.1, by omega, by omega, by omega⟩

set_option maxRecDepth 20000 in
set_option maxHeartbeats 2000000 in
theorem specRW_any (n t : Int) (A : Option Addr) (c : Nat) (rs : List Ru) (s : ByteArray) (w : World) (hx : Rls w w.heap.size A rs) (hc : rs.length ≤ c) (h1 : rs.length ≤ 1048576) (h2 : ∀ u ∈ rs, u.r.length ≤ 1048576) (h3 : s.size ≤ 1048576) :
    Calls Tryd.prog 25 #[.agg #[.int .i64 n, .int .i64 t, .slice A rs.length c], .string s] w (GaveIIB w (rdL n t (rs.map Ru.abs) s) (rdP n t (rs.map Ru.abs) s) (rdB n t (rs.map Ru.abs) s)) := by
  obtain ⟨i0, hi0, hz0, hz1, hz2⟩ := info_of Tryd.infoInt
  have HX := Lib.hid hx; clear hx
  have H2 := Lib.hid h2; clear h2
  have HB0 : Hid (Below w.heap.size w (w.alloc (.cells #[.int .i64 n, .int .i64 t, .slice A rs.length c] 26))) := by show Below _ _ _; go_grown
  have B0 : Hid (Box3 (w.alloc (.cells #[.int .i64 n, .int .i64 t, .slice A rs.length c] 26)) w.heap.size (.int .i64 n) (.int .i64 t) (.slice A rs.length c)) := ⟨by simp, by simp [go_sem], by simp [go_sem], by simp [go_sem]⟩
  cases hg : goodG n t (rs.map Ru.abs)
  · obtain ⟨e1, e2, e3⟩ := rd_no (rdOk_g (s := s) hg)
    have HE1 := Lib.hid e1; clear e1
    have HE2 := Lib.hid e2; clear e2
    have HE3 := Lib.hid e3; clear e3
    have HG := Lib.hid hg; clear hg
    go_enter Tryd.func25, Tryd.ntmps25
    go_wp2_with fail
    refine (specGood_any _ _ _ _ _ _ ((HX.out.keep HB0.out).more HB0.out.size) hc h1 H2.out).mono ?_
    rintro e w1 ⟨rfl, hB1⟩
    rw [HG.out]
    go_wp2
    go_ret3
    exact ⟨none, 0, by rw [HE1.out, HE2.out, HE3.out]; rfl, by rw [HE1.out]; exact .inl rfl, HB0.out.trans (hB1.mono HB0.out.size)⟩
  have hi := goodG_is hg
  have t1 := hi.2.1.1
  have t2 := hi.2.1.2
  clear hi
  by_cases hl : s.size ≤ 10
  · have hok : rdOk n t (rs.map Ru.abs) s = true := (rdOk_s hg).trans (decide_eq_true hl)
    have HOK := Lib.hid hok; clear hok
    have HG := Lib.hid hg; clear hg
    go_enter Tryd.func25, Tryd.ntmps25
    go_wp2_with fail
    refine (specGood_any _ _ _ _ _ _ ((HX.out.keep HB0.out).more HB0.out.size) hc h1 H2.out).mono ?_
    rintro e w1 ⟨rfl, hB1⟩
    rw [HG.out]
    have BX1 := Lib.hid (B0.out.keep hB1 (by simp))
    have HB1 := Lib.hid (HB0.out.trans (hB1.mono HB0.out.size)); clear hB1 B0 HB0
    go_wp2
    have hw1 := BX1.out.1
    go_loopw [7, 8] (fun v i wr => ∃ (k : Nat) (xs : List Int), k ≤ s.size ∧ i = .int .i64 k ∧ xs.length ≤ k ∧ Below (w.heap.size + 1) w1 wr ∧ Hid (wr.ownsRow (w.heap.size + 1) 3 1 v xs.length (xs.map fun y => Value.int .i64 y)) ∧ Hid (WordTo t s k xs)) (fun _ i _ => s.size - (intOf i).toNat)
    case atStart => exact ⟨0, [], by omega, rfl, by simp, Below.refl _ _, ⟨rfl, .inl ⟨rfl, rfl⟩⟩, WordTo.zero _ _⟩
    case round =>
      obtain ⟨k, xs, hk, rfl, hxl, hB, HO, HW⟩ := hrel
      have hsz := hB.size
      have HBw := Lib.hid (HB1.out.trans (hB.mono (by omega)))
      by_cases hlt : k < s.size
      · obtain ⟨_, b0, b1, b2⟩ := BX1.out.keep hB (by omega)
        cases ho : tokO t (chr s k) with
        | none =>
          obtain ⟨e1, e2, e3⟩ := rd_bad HOK.out (HW.out.stops hlt ho)
          have HE1 := Lib.hid e1; clear e1
          have HE2 := Lib.hid e2; clear e2
          have HE3 := Lib.hid e3; clear e3
          have HSG : Hid (symG 0 t (s[k].toNat : Int) = none) := by show _ = _; rw [← chr_at hlt]; exact symG0_none ho
          clear ho
          go_wp2
          go_quiet (exact (l2Symbol_any 0 t _ _ (by omega) (by omega) (by omega) t2).mono fun _ _ h => ⟨h.1, _, h.2.symm⟩)
          rw [HSG.out]
          go_wp2
          go_ret3
          exact ⟨none, 0, by rw [HE1.out, HE2.out, HE3.out]; rfl, by rw [HE1.out]; exact .inl rfl, below_drewN HBw.out _⟩
        | some y =>
          obtain ⟨x, q1, rfl, y0, y4⟩ := symG0_is ho
          have HWS := Lib.hid (HW.out.step ho)
          have HSG : Hid (symG 0 t (s[k].toNat : Int) = some x) := by show _ = _; rw [← chr_at hlt]; exact q1
          clear ho q1
          go_wp2
          go_quiet (exact (l2Symbol_any 0 t _ _ (by omega) (by omega) (by omega) t2).mono fun _ _ h => ⟨h.1, _, h.2.symm⟩)
          rw [HSG.out]
          have hOd : (wr.drewN nq).ownsRow (w.heap.size + 1) 3 1 _ xs.length (xs.map fun y => Value.int .i64 y) := HO.out
          have hBd : Below (w.heap.size + 1) w1 (wr.drewN nq) := below_drewN hB _
          have hsd : (wr.drewN nq).heap.size = wr.heap.size := rfl
          generalize wr.drewN nq = W at hOd hBd hsd ⊢
          have hown := hOd.alloc (.cells #[.int .i64 (-1 - x)] 3)
          have HWn := Lib.hid hown; clear hown
          have hnew := cell_one_new W (.int .i64 (-1 - x)) 3
          have HNW := Lib.hid hnew; clear hnew
          have HOd := Lib.hid hOd; clear hOd
          have HBd := Lib.hid hBd; clear hBd
          have hsW : w.heap.size + 1 ≤ W.heap.size := by omega
          clear hsd b0 b1 b2
          go_wp2_with (at_builtin
                       refine wpList_append_own _ rfl (.tmp 37) (.tmp 40) _ rfl (w.heap.size + 1) 3 i0 _ 1 8 Tryd.underlying34 hi0 hz0 hz1 hz2 rfl (by omega) _ _ _ rfl HWn.out ⟨W.heap.size, 0, none⟩ 1 1 [.int .i64 (-1 - x)] rfl rfl HNW.out (by intro u hu; simp at hu; subst hu; rfl) (by unfold maxLen; omega) (by omega) (by simp; omega) ?_
                       intro v' w' h1 h2 h3
                       have HO1 := Lib.hid h1
                       have HG1 := Lib.hid h2
                       clear h1 h2 h3)
          go_roundw
          case rel =>
            refine ⟨k + 1, xs ++ [-1 - x], by omega, by go_num, by simp; omega, (HBd.out.alloc (by omega) _).grown HG1.out (by simp; omega) fun j hj => (HOd.out.lt j hj).1, ?_, HWS.out⟩
            show World.ownsRow _ _ _ _ _ _ _
            simpa using HO1.out
          case measure => simp [intOf]; omega
      · obtain rfl : k = s.size := by omega
        obtain ⟨e1, e2, e3⟩ := rd_good HOK.out HW.out.all
        have HE1 := Lib.hid (e1.trans HW.out.rwL); clear e1
        have HE2 := Lib.hid e2; clear e2
        have HE3 := Lib.hid e3; clear e3
        obtain ⟨Av, cv, rfl, hOI⟩ := ownI_of_row HO.out
        have HOI := Lib.hid hOI; clear hOI
        go_wp2
        go_ret3
        exact ⟨Av, cv, by rw [HE1.out, HE2.out, HE3.out]; rfl, by rw [HE1.out]; exact HOI.out.lower (by omega), HBw.out⟩
  · obtain ⟨e1, e2, e3⟩ := rd_no ((rdOk_s hg).trans (decide_eq_false hl))
    have HE1 := Lib.hid e1; clear e1
    have HE2 := Lib.hid e2; clear e2
    have HE3 := Lib.hid e3; clear e3
    have HG := Lib.hid hg; clear hg
    have hl' : (10 : Int) < (s.size : Int) := by omega
    go_enter Tryd.func25, Tryd.ntmps25
    go_wp2_with fail
    refine (specGood_any _ _ _ _ _ _ ((HX.out.keep HB0.out).more HB0.out.size) hc h1 H2.out).mono ?_
    rintro e w1 ⟨rfl, hB1⟩
    rw [HG.out]
    go_wp2
    go_ret3
    exact ⟨none, 0, by rw [HE1.out, HE2.out, HE3.out]; rfl, by rw [HE1.out]; exact .inl rfl, HB0.out.trans (hB1.mono HB0.out.size)⟩

end Go.Proofs.YtacehfjhpnplbaaDoor

/- What a good grammar says of each of its rules. -/

namespace Go.Proofs.YtacehfjhpnplbaaDoor

theorem goodG_mem {n t : Int} {ss : List (Int × List Int)} (h : goodG n t ss = true) {u : Int × List Int} (hu : u ∈ ss) : (0 ≤ u.1 ∧ u.1 < n) ∧ u.2.length ≤ 4 ∧ ∀ x ∈ u.2, (0 ≤ x ∧ x < n) ∨ (x < 0 ∧ -t ≤ x) := by
  obtain ⟨_, _, _, hg⟩ := goodG_is h
  obtain ⟨k, hk⟩ := List.mem_iff_getElem?.1 hu
  have h1 := (hg k u (List.getElem?_eq_some_iff.1 hk).1 hk).1
  unfold goodU at h1
  simp only [Bool.and_eq_true, decide_eq_true_eq] at h1
  refine ⟨nonB_is h1.1, h1.2.1, fun x hx => ?_⟩
  have h2 := h1.2.2
  unfold symsB at h2
  rw [List.all_eq_true] at h2
  have h3 := h2 x hx
  unfold symB at h3
  have := of_decide_eq_true h3
  omega

end Go.Proofs.YtacehfjhpnplbaaDoor

/- What a text that was drawn is read as, in the words of the contracts. -/

namespace Go.Proofs.YtacehfjhpnplbaaDoor
open Go.RowKit

theorem fit_of_sm {rs : List Ru} (h : SmR rs) : FitR rs := fun u hu x hx => by
  have := (h u hu).2 x hx
  unfold F64
  omega
theorem fit_of_good {n t : Int} {rs : List Ru} (h : goodG n t (rs.map Ru.abs) = true) : FitR rs := fun u hu x hx => by
  have h1 := goodG_is h
  have h2 := (goodG_mem h (List.mem_map.2 ⟨u, hu, rfl⟩)).2.2 x hx
  unfold F64
  omega
theorem lens_of_sm {rs : List Ru} (h : SmR rs) : ∀ u ∈ rs, u.r.length ≤ 1048576 := fun u hu => by have := (h u hu).1; omega
theorem gt_small {n t : Int} {rs : List Ru} (h : SmR rs) (hl : rs.length ≤ 7) : (gtS n t (rs.map Ru.abs)).size ≤ 98 := by
  have := gtS_size n t (rs.map Ru.abs) fun u hu => by
    obtain ⟨v, hv, rfl⟩ := List.mem_map.1 hu
    exact (h v hv).1
  rw [List.length_map] at this
  omega
theorem rg_back {n t : Int} {ss : List (Int × List Int)} (hg : goodG n t ss = true) (hs : (gtS n t ss).size ≤ 600) : ∃ k, rgO (gtS n t ss) = .ok ((n, t), ss) k := by
  unfold rgO
  rw [if_pos hs, gtS_t hg]
  exact ⟨_, textF_back hg⟩
theorem rg_inv {s : ByteArray} {n t : Int} {ss : List (Int × List Int)} {k : Nat} (h : rgO s = .ok ((n, t), ss) k) : goodG n t ss = true ∧ gtS n t ss = s := by
  unfold rgO at h
  split at h
  · obtain ⟨h1, h2⟩ := textF_inv h
    exact ⟨h1, by rw [gtS_t h1]; exact h2⟩
  · cases h
theorem rg_bad {s : ByteArray} {c : Int} {p : Nat} (h : rgO s = .bad c p) : c ≠ 0 ∧ p ≤ s.size := by
  unfold rgO at h
  split at h
  · exact ⟨textF_code h, textF_place h⟩
  · injection h with h1 h2
    subst h1 h2
    exact ⟨by decide, by omega⟩
theorem wd_back {n t : Int} {ss : List (Int × List Int)} {xs : List Int} (h : goodW n t ss xs = true) : rdB n t ss (wtS n t ss xs) = true ∧ rdL n t ss (wtS n t ss xs) = xs := by
  have hg : goodG n t ss = true := by
    cases e : goodG n t ss
    · rw [goodW_no e] at h; cases h
    · rfl
  rw [goodW_yes hg] at h
  have hl : xs.length ≤ 10 := by
    by_cases hl : xs.length ≤ 10
    · exact hl
    · rw [wordB_long hl] at h; cases h
  have ha := h
  rw [wordB_all hl] at ha
  have ht := (goodG_is hg).2.1
  have hx : ∀ x ∈ xs, 0 ≤ x ∧ x < t := fun x hm => by
    obtain ⟨k, hk⟩ := List.mem_iff_getElem?.1 hm
    have h1 := allB_iff.1 ha k x hk
    unfold inB at h1
    have h2 := of_decide_eq_true h1
    omega
  have hw : goodW n t ss xs = true := by rw [goodW_yes hg]; exact h
  rw [wtS_t hw]
  have hsz : (str (wordL xs)).size = xs.length := by
    have e2 : (str (wordL xs)).size = (wordL xs).length := List.size_toArray
    rw [e2]; simp [wordL]
  have h3 := wordTo_back hx ht.2 xs.length (Nat.le_refl _)
  rw [List.take_length] at h3
  have h4 : WordTo t (str (wordL xs)) (str (wordL xs)).size xs := by rw [hsz]; exact h3
  have h5 : rdOk n t ss (str (wordL xs)) = true := by rw [rdOk_s hg, hsz]; exact decide_eq_true hl
  have h6 := rd_good h5 h4.all
  exact ⟨h6.2.2, h6.1.trans h4.rwL⟩

end Go.Proofs.YtacehfjhpnplbaaDoor

/- The reference's draws of words. -/

namespace Go.Proofs.YtacehfjhpnplbaaDoor
open Go.RowKit

/-- A new grammar and a new list were drawn. -/
def DrewGI (w : World) (e : Ending) (w' : World) : Prop :=
  ∃ (n t : Int) (A : Option Addr) (c : Nat) (rs : List Ru) (B : Option Addr) (xs : List Int) (d : Nat), e = .returned (.tuple #[.agg #[.int .i64 n, .int .i64 t, .slice A rs.length c], .slice B xs.length d]) ∧ (0 ≤ n ∧ n ≤ 100) ∧ (0 ≤ t ∧ t ≤ 100) ∧ rs.length ≤ 7 ∧ rs.length ≤ c ∧ SmR rs ∧ xs.length ≤ 12 ∧ SmallI xs ∧ OwnS w' w.heap.size A rs ∧ OwnI w' w.heap.size B xs ∧ Below w.heap.size w w'

theorem zI_at {k i : Nat} (h : i < k) : (zI k)[i]? = some (.int .i64 0) := by
  simp [zI, madeCells, h, Nat.mod_one]
theorem zeros_own {w : World} {lo k g : Nat} (hg : g = w.heap.size) (h : lo ≤ g) : OwnI (w.alloc (.cells (zI k) 3)) lo (some ⟨g, 0, none⟩) (List.replicate k 0) := by
  refine ownI_lit (row_new hg) h fun i x hx => ?_
  obtain ⟨h1, h2⟩ := List.getElem?_eq_some_iff.1 hx
  simp at h1 h2
  subst h2
  exact zI_at h1
theorem make_q (q : Nat) (hq : q ≤ 1) (w : World) : (Instr.makeSlice 34 (.int .i64 (IntKind.i64.wrap (10 + (q : Int)))) (.int .i64 (IntKind.i64.wrap (10 + (q : Int))))).run Tryd.prog w = .ok (.slice (some ⟨w.heap.size, 0, none⟩) (10 + q) (10 + q)) (w.alloc (.cells (zI (10 + q)) 3)) := by
  have e : IntKind.i64.wrap (10 + (q : Int)) = ((10 + q : Nat) : Int) := by rw [IntKind.wrap_i64]; omega
  rw [e]
  exact make_ints (10 + q) (by omega) w

set_option maxRecDepth 20000 in
set_option maxHeartbeats 4000000 in
theorem drawGW_any (A : Option Addr) (n c : Nat) (w : World) (h : Byts w w.heap.size A n) (hn : n ≤ 1048576) : Calls Tryd.prog 69 #[.slice A n c] w (DrewGI w) := by
  have HB0 : Hid (Below w.heap.size w (w.alloc (.cells #[.int .i64 0, .int .i64 0, .slice none 0 0] 26))) := below_new _ _
  have BX0 := Lib.hid (Row.new w 26 #[.int .i64 0, .int .i64 0, .slice none 0 0])
  have HC0 := Lib.hid (cur_new (w.alloc (.cells #[.int .i64 0, .int .i64 0, .slice none 0 0] 26)) A n c ((h.keep HB0.out).more HB0.out.size) hn)
  have HB1 : Hid (Below w.heap.size w ((w.alloc (.cells #[.int .i64 0, .int .i64 0, .slice none 0 0] 26)).alloc (.cells #[.slice A n c, .int .i64 0, .int .u64 0] 77))) := by show Below _ _ _; go_grown
  have BX1 := Lib.hid (BX0.out.alloc (.cells #[.slice A n c, .int .i64 0, .int .u64 0] 77))
  rw [World.size_alloc] at HC0
  clear h
  go_enter Tryd.func69, Tryd.ntmps69
  go_wp2_with fail
  have hs1 : ((w.alloc (.cells #[.int .i64 0, .int .i64 0, .slice none 0 0] 26)).alloc (.cells #[.slice A n c, .int .i64 0, .int .u64 0] 77)).heap.size = w.heap.size + 2 := by simp
  generalize (w.alloc (.cells #[.int .i64 0, .int .i64 0, .slice none 0 0] 26)).alloc (.cells #[.slice A n c, .int .i64 0, .int .u64 0] 77) = w1 at HC0 HB1 BX1 hs1 ⊢
  clear BX0 HB0
  refine (curAny_any _ 0 _ HC0.out (by omega)).mono ?_
  rintro _ w2 ⟨n', t', A', c', rs, rfl, hn', ht', hr1, hr2, hsm, hOW, hC2, hS2⟩
  rw [hs1] at hOW
  have BX2 := Lib.hid (BX1.out.save hS2 (by omega))
  have HB2 := Lib.hid (below_of_save HB1.out hS2 (by omega))
  have OW2 := Lib.hid hOW
  have SM := Lib.hid hsm
  have HC2 := Lib.hid hC2
  have hs2 : w.heap.size + 2 ≤ w2.heap.size := by have := hS2.size; omega
  clear hOW hsm hS2 BX1 HB1 HC0 hC2
  go_wp2_with fail
  have HB3' : Hid (Below w2.heap.size w2 (w2.alloc (.cells #[.int .i64 n', .int .i64 t', .slice A' rs.length c'] 26))) := below_new _ _
  have GX3 := Lib.hid (Row.new w2 26 #[.int .i64 n', .int .i64 t', .slice A' rs.length c'])
  have BX3 := Lib.hid (BX2.out.next HB3'.out)
  have OW3 := Lib.hid (OW2.out.keep HB3'.out)
  have HC3 := Lib.hid (HC2.out.keep HB3'.out HC2.out.lt)
  have HB3 := Lib.hid (HB2.out.trans (HB3'.out.mono (by omega)))
  generalize w2.alloc (.cells #[.int .i64 n', .int .i64 t', .slice A' rs.length c'] 26) = w3 at GX3 BX3 OW3 HC3 HB3 ⊢
  clear BX2 OW2 HC2 HB2 HB3'
  refine (curOne_any _ _ _ _ HC3.out (by omega) (by omega)).mono ?_
  rintro _ w4 ⟨b, rfl, hC4, hS4⟩
  have GX4 := Lib.hid (GX3.out.save hS4 (by omega))
  have BX4 := Lib.hid (BX3.out.save hS4 (by omega))
  have OW4 := Lib.hid (OW3.out.save hS4 (by intro b hb; omega))
  have HB4 := Lib.hid (below_of_save HB3.out hS4 (by omega))
  have HC4 := Lib.hid hC4
  clear hC4 hS4 GX3 BX3 OW3 HB3 HC3
  have hs4 := GX4.out.lt
  have b0 : w4.cell? ⟨w2.heap.size, 0, none⟩ = some (.int .i64 n') := GX4.out.cell 0
  have b1 : w4.cell? ⟨w2.heap.size, 1, none⟩ = some (.int .i64 t') := GX4.out.cell 1
  have b2 : w4.cell? ⟨w2.heap.size, 2, none⟩ = some (.slice A' rs.length c') := GX4.out.cell 2
  cases b with
  | true =>
    go_wp2_with fail
    go_region_with (go_at_call 64
                    refine (curPick_any (w.heap.size + 1) (0 + 210 + 2) _ _ ?_ (by omega) (by omega)).mono ?_
                    · exact HC4.out.keep (B := w.heap.size + 2) (by go_grown) (by omega)
                    rintro _ w5 ⟨y, rfl, hy, _, hS5'⟩
                    have hS5 : Save (· = w.heap.size + 1) w4 w5 := Save.trans (Save.of_below (by go_grown)) hS5'
                    have GX5 := Lib.hid (GX4.out.save hS5 (by omega))
                    have BX5 := Lib.hid (BX4.out.save hS5 (by omega))
                    have OW5 := Lib.hid (OW4.out.save hS5 (by intro b hb; omega))
                    have HB5 := Lib.hid (below_of_save HB4.out hS5 (by omega))
                    have hs5 : w2.heap.size < w5.heap.size := GX5.out.lt
                    have hs6 : w.heap.size < w5.heap.size := BX5.out.lt
                    have hy0 := hy.1
                    have hy1 : y ≤ 1 := by have := hy.2.2; omega
                    have d0 : w5.cell? ⟨w2.heap.size, 0, none⟩ = some (.int .i64 n') := GX5.out.cell 0
                    have d1 : w5.cell? ⟨w2.heap.size, 1, none⟩ = some (.int .i64 t') := GX5.out.cell 1
                    have d2 : w5.cell? ⟨w2.heap.size, 2, none⟩ = some (.slice A' rs.length c') := GX5.out.cell 2
                    have f0 := BX5.out.frozen 0
                    have f1 := BX5.out.frozen 1
                    have f2 := BX5.out.frozen 2
                    have k0 : w5.cell? ⟨w.heap.size, 0, none⟩ = some (.int .i64 0) := BX5.out.cell 0
                    have k1 : w5.cell? ⟨w.heap.size, 1, none⟩ = some (.int .i64 0) := BX5.out.cell 1
                    have k2 : w5.cell? ⟨w.heap.size, 2, none⟩ = some (.slice none 0 0) := BX5.out.cell 2
                    clear hS5 hS5' hy
                    obtain ⟨q, hq⟩ : ∃ q : Nat, y = (q : Int) := ⟨y.toNat, by omega⟩
                    subst hq
                    have hq1 : q ≤ 1 := by omega
                    have hmk := make_q q hq1)
    all_goals
      go_wp2
      refine bodyPost_ret (v := .tuple #[.agg #[.int .i64 n', .int .i64 t', .slice A' rs.length c'], .slice (some ⟨w5.heap.size, 0, none⟩) (10 + q) (10 + q)]) (by simp [results, Tryd.results69, go_sem, k0, k1, k2, hs6]) rfl ?_
      refine ⟨n', t', A', c', rs, some ⟨w5.heap.size, 0, none⟩, List.replicate (10 + q) 0, 10 + q, by rw [List.length_replicate], hn', ht', hr1, hr2, SM.out, by simp; omega, ?_, ?_, ?_, ?_⟩
      · intro x hx
        have := List.eq_of_mem_replicate hx
        omega
      · exact (OwnS.keep (((OW5.out.low (by simp) _).low (by simp) _).low (by simp) _) (below_new _ _)).lower (by omega)
      · exact zeros_own (by simp) (by omega)
      · exact (((HB5.out.setCell (by simp) _).setCell (by simp) _).setCell (by simp) _).alloc (by simp; omega) _
  | false =>
    go_wp2_with fail
    go_region_with (go_at_call 73
                    refine (curWord_any (w.heap.size + 1) (0 + 210 + 2) _ _ _ _ _ ?_ (by omega) (by omega) (by omega) (by omega)).mono ?_
                    · exact HC4.out.keep (B := w.heap.size + 2) (by go_grown) (by omega)
                    rintro _ w5 ⟨Ax, xs, cx, rfl, hxl, hxs, hOI, _, hS5'⟩
                    have hS5 : Save (· = w.heap.size + 1) w4 w5 := Save.trans (Save.of_below (by go_grown)) hS5'
                    have GX5 := Lib.hid (GX4.out.save hS5 (by omega))
                    have BX5 := Lib.hid (BX4.out.save hS5 (by omega))
                    have OW5 := Lib.hid (OW4.out.save hS5 (by intro b hb; omega))
                    have HB5 := Lib.hid (below_of_save HB4.out hS5 (by omega))
                    have HOI := Lib.hid (OwnI.lower hOI (lo' := w.heap.size + 1) (by simp; omega))
                    have HXS := Lib.hid hxs
                    have d0 : w5.cell? ⟨w2.heap.size, 0, none⟩ = some (.int .i64 n') := GX5.out.cell 0
                    have d1 : w5.cell? ⟨w2.heap.size, 1, none⟩ = some (.int .i64 t') := GX5.out.cell 1
                    have d2 : w5.cell? ⟨w2.heap.size, 2, none⟩ = some (.slice A' rs.length c') := GX5.out.cell 2
                    have f0 := BX5.out.frozen 0
                    have f1 := BX5.out.frozen 1
                    have f2 := BX5.out.frozen 2
                    have k0 : w5.cell? ⟨w.heap.size, 0, none⟩ = some (.int .i64 0) := BX5.out.cell 0
                    have k1 : w5.cell? ⟨w.heap.size, 1, none⟩ = some (.int .i64 0) := BX5.out.cell 1
                    have k2 : w5.cell? ⟨w.heap.size, 2, none⟩ = some (.slice none 0 0) := BX5.out.cell 2
                    clear hS5 hS5' hOI hxs)
    all_goals
      go_wp2
      refine bodyPost_ret (v := .tuple #[.agg #[.int .i64 n', .int .i64 t', .slice A' rs.length c'], .slice Ax xs.length cx]) (by simp [results, Tryd.results69, go_sem, k0, k1, k2]) rfl ?_
      refine ⟨n', t', A', c', rs, Ax, xs, cx, rfl, hn', ht', hr1, hr2, SM.out, hxl, HXS.out, ?_, ?_, ?_⟩
      · exact (((OW5.out.low (by simp) _).low (by simp) _).low (by simp) _).lower (by omega)
      · exact (((HOI.out.low (by simp) _).low (by simp) _).low (by simp) _).lower (by omega)
      · exact ((HB5.out.setCell (by simp) _).setCell (by simp) _).setCell (by simp) _

end Go.Proofs.YtacehfjhpnplbaaDoor

/- The reference's draws for WordText and ReadWord. -/

namespace Go.Proofs.YtacehfjhpnplbaaDoor
open Go.RowKit

set_option maxRecDepth 20000 in
set_option maxHeartbeats 4000000 in
theorem drawWT_any (A : Option Addr) (n c : Nat) (w : World) (h : Byts w w.heap.size A n) (hn : n ≤ 1048576) : Calls Tryd.prog 20 #[.slice A n c] w (DrewGI w) := by
  have HB1 : Hid (Below w.heap.size w (w.alloc (.cells #[.int .i64 0, .int .i64 0, .slice none 0 0] 26))) := below_new _ _
  have BX1 := Lib.hid (Row.new w 26 #[.int .i64 0, .int .i64 0, .slice none 0 0])
  have HY := Lib.hid ((h.keep HB1.out).more HB1.out.size)
  clear h
  have hs1 : (w.alloc (.cells #[.int .i64 0, .int .i64 0, .slice none 0 0] 26)).heap.size = w.heap.size + 1 := by simp
  go_enter Tryd.func20, Tryd.ntmps20
  go_wp2_with fail
  generalize w.alloc (.cells #[.int .i64 0, .int .i64 0, .slice none 0 0] 26) = w1 at HY HB1 BX1 hs1 ⊢
  refine (drawGW_any _ _ _ _ HY.out hn).mono ?_
  rintro _ w2 ⟨n', t', A', c', rs, Ax, xs, cx, rfl, hn', ht', hr1, hr2, hsm, hxl, hxs, hOW, hOI, hB2⟩
  rw [hs1] at hOW hOI
  have BX2 := Lib.hid (BX1.out.next hB2)
  have HB2 := Lib.hid (HB1.out.trans (hB2.mono (by omega)))
  have OW2 := Lib.hid hOW
  have HOI := Lib.hid hOI
  have SM := Lib.hid hsm
  have HXS := Lib.hid hxs
  clear hOW hOI hsm hxs hB2 BX1 HB1 HY
  have f0 := BX2.out.frozen 0
  have f1 := BX2.out.frozen 1
  have f2 := BX2.out.frozen 2
  have k0 : w2.cell? ⟨w.heap.size, 0, none⟩ = some (.int .i64 0) := BX2.out.cell 0
  have k1 : w2.cell? ⟨w.heap.size, 1, none⟩ = some (.int .i64 0) := BX2.out.cell 1
  have k2 : w2.cell? ⟨w.heap.size, 2, none⟩ = some (.slice none 0 0) := BX2.out.cell 2
  go_wp2
  refine bodyPost_ret (v := .tuple #[.agg #[.int .i64 n', .int .i64 t', .slice A' rs.length c'], .slice Ax xs.length cx]) (by simp [results, Tryd.results20, go_sem, k0, k1, k2]) rfl ?_
  refine ⟨n', t', A', c', rs, Ax, xs, cx, rfl, hn', ht', hr1, hr2, SM.out, hxl, HXS.out, ?_, ?_, ?_⟩
  · exact (((OW2.out.low (by simp) _).low (by simp) _).low (by simp) _).lower (by omega)
  · exact (((HOI.out.low (by simp) _).low (by simp) _).low (by simp) _).lower (by omega)
  · exact ((HB2.out.setCell (by simp) _).setCell (by simp) _).setCell (by simp) _

end Go.Proofs.YtacehfjhpnplbaaDoor

/- The reference's draw for ReadWord. -/

namespace Go.Proofs.YtacehfjhpnplbaaDoor
open Go.RowKit

/-- A new grammar and a text were drawn. -/
def DrewGT (w : World) (e : Ending) (w' : World) : Prop :=
  ∃ (n t : Int) (A : Option Addr) (c : Nat) (rs : List Ru) (s : ByteArray), e = .returned (.tuple #[.agg #[.int .i64 n, .int .i64 t, .slice A rs.length c], .string s]) ∧ (0 ≤ n ∧ n ≤ 100) ∧ (0 ≤ t ∧ t ≤ 100) ∧ rs.length ≤ 7 ∧ rs.length ≤ c ∧ SmR rs ∧ s.size ≤ 98 ∧ OwnS w' w.heap.size A rs ∧ Below w.heap.size w w'

theorem wtS_size (n t : Int) (ss : List (Int × List Int)) (xs : List Int) (h : xs.length ≤ 12) : (wtS n t ss xs).size ≤ 12 := by
  cases e : goodW n t ss xs
  · rw [wtS_f e]; exact Nat.zero_le _
  · rw [wtS_t e]
    have e2 : (str (wordL xs)).size = (wordL xs).length := List.size_toArray
    rw [e2]
    simpa [wordL] using h

set_option maxRecDepth 20000 in
set_option maxHeartbeats 4000000 in
theorem drawRW_any (A : Option Addr) (n c : Nat) (w : World) (h : Byts w w.heap.size A n) (hn : n ≤ 1048576) : Calls Tryd.prog 23 #[.slice A n c] w (DrewGT w) := by
  have HB0 : Hid (Below w.heap.size w (w.alloc (.cells #[.int .i64 0, .int .i64 0, .slice none 0 0] 26))) := below_new _ _
  have BX0 := Lib.hid (Row.new w 26 #[.int .i64 0, .int .i64 0, .slice none 0 0])
  have HC0 := Lib.hid (cur_new (w.alloc (.cells #[.int .i64 0, .int .i64 0, .slice none 0 0] 26)) A n c ((h.keep HB0.out).more HB0.out.size) hn)
  have HB1 : Hid (Below w.heap.size w ((w.alloc (.cells #[.int .i64 0, .int .i64 0, .slice none 0 0] 26)).alloc (.cells #[.slice A n c, .int .i64 0, .int .u64 0] 77))) := by show Below _ _ _; go_grown
  have BX1 := Lib.hid (BX0.out.alloc (.cells #[.slice A n c, .int .i64 0, .int .u64 0] 77))
  rw [World.size_alloc] at HC0
  clear h
  go_enter Tryd.func23, Tryd.ntmps23
  go_wp2_with fail
  have hs1 : ((w.alloc (.cells #[.int .i64 0, .int .i64 0, .slice none 0 0] 26)).alloc (.cells #[.slice A n c, .int .i64 0, .int .u64 0] 77)).heap.size = w.heap.size + 2 := by simp
  generalize (w.alloc (.cells #[.int .i64 0, .int .i64 0, .slice none 0 0] 26)).alloc (.cells #[.slice A n c, .int .i64 0, .int .u64 0] 77) = w1 at HC0 HB1 BX1 hs1 ⊢
  clear BX0 HB0
  refine (curAny_any _ 0 _ HC0.out (by omega)).mono ?_
  rintro _ w2 ⟨n', t', A', c', rs, rfl, hn', ht', hr1, hr2, hsm, hOW, hC2, hS2⟩
  rw [hs1] at hOW
  have BX2 := Lib.hid (BX1.out.save hS2 (by omega))
  have HB2 := Lib.hid (below_of_save HB1.out hS2 (by omega))
  have OW2 := Lib.hid hOW
  have SM := Lib.hid hsm
  have HC2 := Lib.hid hC2
  have hs2 : w.heap.size + 2 ≤ w2.heap.size := by have := hS2.size; omega
  clear hOW hsm hS2 BX1 HB1 HC0 hC2
  go_wp2_with fail
  have HB3' : Hid (Below w2.heap.size w2 (w2.alloc (.cells #[.int .i64 n', .int .i64 t', .slice A' rs.length c'] 26))) := below_new _ _
  have GX3 := Lib.hid (Row.new w2 26 #[.int .i64 n', .int .i64 t', .slice A' rs.length c'])
  have BX3 := Lib.hid (BX2.out.next HB3'.out)
  have OW3 := Lib.hid (OW2.out.keep HB3'.out)
  have HC3 := Lib.hid (HC2.out.keep HB3'.out HC2.out.lt)
  have HB3 := Lib.hid (HB2.out.trans (HB3'.out.mono (by omega)))
  generalize w2.alloc (.cells #[.int .i64 n', .int .i64 t', .slice A' rs.length c'] 26) = w3 at GX3 BX3 OW3 HC3 HB3 ⊢
  clear BX2 OW2 HC2 HB2 HB3'
  have hs4 := GX3.out.lt
  have b0 : w3.cell? ⟨w2.heap.size, 0, none⟩ = some (.int .i64 n') := GX3.out.cell 0
  have b1 : w3.cell? ⟨w2.heap.size, 1, none⟩ = some (.int .i64 t') := GX3.out.cell 1
  have b2 : w3.cell? ⟨w2.heap.size, 2, none⟩ = some (.slice A' rs.length c') := GX3.out.cell 2
  go_region_with (first
    | (go_at_call 73
       refine (curWord_any (w.heap.size + 1) (0 + 210) _ _ _ _ _ ?_ (by omega) (by omega) (by omega) (by omega)).mono ?_
       · exact HC3.out.keep (B := w.heap.size + 2) (by go_grown) (by omega)
       rintro _ w5 ⟨Ax, xs, cx, rfl, hxl, hxs, hOI, hC5, hS5'⟩
       have hS5 : Save (· = w.heap.size + 1) w3 w5 := Save.trans (Save.of_below (by go_grown)) hS5'
       have GX5 := Lib.hid (GX3.out.save hS5 (by omega))
       have BX5 := Lib.hid (BX3.out.save hS5 (by omega))
       have OW5 := Lib.hid (OW3.out.save hS5 (by intro b hb; omega))
       have HB5 := Lib.hid (below_of_save HB3.out hS5 (by omega))
       have HOI := Lib.hid hOI
       have HC5 := Lib.hid hC5
       have d0 : w5.cell? ⟨w2.heap.size, 0, none⟩ = some (.int .i64 n') := GX5.out.cell 0
       have d1 : w5.cell? ⟨w2.heap.size, 1, none⟩ = some (.int .i64 t') := GX5.out.cell 1
       have d2 : w5.cell? ⟨w2.heap.size, 2, none⟩ = some (.slice A' rs.length c') := GX5.out.cell 2
       clear hS5 hS5' hOI hxs hC5)
    | (go_at_call 22
       refine (specWT_any n' t' A' Ax c' cx rs xs _ ?_ ?_ hr2 (by omega) (fun u hu => by have := (SM.out u hu).1; omega) (by omega)).mono ?_
       · exact (OW5.out.keep (by go_grown)).rls
       · exact (HOI.out.below (B := w5.heap.size) (by go_grown) (Nat.le_refl _)).ints
       rintro _ w6 ⟨rfl, hB6'⟩
       have hB6 : Below w5.heap.size w5 w6 := Below.trans (by go_grown) hB6'
       have HB6 := Lib.hid hB6
       have a0 : w6.cell? ⟨w2.heap.size, 0, none⟩ = some (.int .i64 n') := (GX5.out.next hB6).cell 0
       have a1 : w6.cell? ⟨w2.heap.size, 1, none⟩ = some (.int .i64 t') := (GX5.out.next hB6).cell 1
       have a2 : w6.cell? ⟨w2.heap.size, 2, none⟩ = some (.slice A' rs.length c') := (GX5.out.next hB6).cell 2
       clear hB6 hB6'))
  all_goals
    clear b0 b1 b2 d0 d1 d2 a0 a1 a2
    have hz := wtS_size n' t' (rs.map Ru.abs) xs hxl
    go_wp2_with fail
    generalize wtS n' t' (rs.map Ru.abs) xs = sd at hz ⊢
    generalize goodW n' t' (rs.map Ru.abs) xs = bb
    have HC6 := Lib.hid (HC5.out.keep HB6.out HC5.out.lt)
    refine (curOne_any _ _ _ _ HC6.out (by omega) (by omega)).mono ?_
    rintro _ w7 ⟨b, rfl, hC7, hS7⟩
    have GX7 := Lib.hid ((GX5.out.next HB6.out).save hS7 (by omega))
    have BX7 := Lib.hid ((BX5.out.next HB6.out).save hS7 (by omega))
    have OW7 := Lib.hid ((OW5.out.keep HB6.out).save hS7 (by intro b hb; omega))
    have h57 : w.heap.size ≤ w5.heap.size := HB5.out.size
    have HB7 := Lib.hid (below_of_save (HB5.out.trans (HB6.out.mono h57)) hS7 (by omega))
    have HC7 := Lib.hid hC7
    clear hC7 hS7 GX5 BX5 OW5 HB5 HB6 HC6 HC5 GX3 BX3 OW3 HB3 HC3 HOI
    cases b with
    | false =>
      have b0 : w7.cell? ⟨w2.heap.size, 0, none⟩ = some (.int .i64 n') := GX7.out.cell 0
      have b1 : w7.cell? ⟨w2.heap.size, 1, none⟩ = some (.int .i64 t') := GX7.out.cell 1
      have b2 : w7.cell? ⟨w2.heap.size, 2, none⟩ = some (.slice A' rs.length c') := GX7.out.cell 2
      have f0 := BX7.out.frozen 0
      have f1 := BX7.out.frozen 1
      have f2 := BX7.out.frozen 2
      have k0 : w7.cell? ⟨w.heap.size, 0, none⟩ = some (.int .i64 0) := BX7.out.cell 0
      have k1 : w7.cell? ⟨w.heap.size, 1, none⟩ = some (.int .i64 0) := BX7.out.cell 1
      have k2 : w7.cell? ⟨w.heap.size, 2, none⟩ = some (.slice none 0 0) := BX7.out.cell 2
      go_wp2
      refine bodyPost_ret (v := .tuple #[.agg #[.int .i64 n', .int .i64 t', .slice A' rs.length c'], .string sd]) (by simp [results, Tryd.results23, go_sem, k0, k1, k2]) rfl ?_
      refine ⟨n', t', A', c', rs, sd, rfl, hn', ht', hr1, hr2, SM.out, by omega, ?_, ?_⟩
      · exact (((OW7.out.low (by simp) _).low (by simp) _).low (by simp) _).lower (by omega)
      · exact ((HB7.out.setCell (by simp) _).setCell (by simp) _).setCell (by simp) _
    | true =>
      go_wp2_with fail
      refine (curSpoilt_any _ _ 98 _ _ _ HC7.out (by omega) (by omega) (by omega) (by decide) (by decide)).mono ?_
      rintro _ w8 ⟨s8, rfl, hs8, _, hS8⟩
      have GX8 := Lib.hid (GX7.out.save hS8 (by omega))
      have BX8 := Lib.hid (BX7.out.save hS8 (by omega))
      have OW8 := Lib.hid (OW7.out.save hS8 (by intro b hb; omega))
      have HB8 := Lib.hid (below_of_save HB7.out hS8 (by omega))
      clear hS8 GX7 BX7 OW7 HB7 HC7
      have b0 : w8.cell? ⟨w2.heap.size, 0, none⟩ = some (.int .i64 n') := GX8.out.cell 0
      have b1 : w8.cell? ⟨w2.heap.size, 1, none⟩ = some (.int .i64 t') := GX8.out.cell 1
      have b2 : w8.cell? ⟨w2.heap.size, 2, none⟩ = some (.slice A' rs.length c') := GX8.out.cell 2
      have f0 := BX8.out.frozen 0
      have f1 := BX8.out.frozen 1
      have f2 := BX8.out.frozen 2
      have k0 : w8.cell? ⟨w.heap.size, 0, none⟩ = some (.int .i64 0) := BX8.out.cell 0
      have k1 : w8.cell? ⟨w.heap.size, 1, none⟩ = some (.int .i64 0) := BX8.out.cell 1
      have k2 : w8.cell? ⟨w.heap.size, 2, none⟩ = some (.slice none 0 0) := BX8.out.cell 2
      go_wp2
      refine bodyPost_ret (v := .tuple #[.agg #[.int .i64 n', .int .i64 t', .slice A' rs.length c'], .string s8]) (by simp [results, Tryd.results23, go_sem, k0, k1, k2]) rfl ?_
      refine ⟨n', t', A', c', rs, s8, rfl, hn', ht', hr1, hr2, SM.out, hs8, ?_, ?_⟩
      · exact (((OW8.out.low (by simp) _).low (by simp) _).low (by simp) _).lower (by omega)
      · exact ((HB8.out.setCell (by simp) _).setCell (by simp) _).setCell (by simp) _

end Go.Proofs.YtacehfjhpnplbaaDoor
