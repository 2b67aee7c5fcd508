/- slices.Delete at rules. -/
import Derived.Test.YtpaccjfabclikaaDoorSpecOwn
import Derived.Deep.RegionLaw
namespace Go.Proofs.YtpaccjfabclikaaDoor
open Go.RowKit

theorem Row.cells {g : Nat} {t : TypeId} : ∀ (vs : List Value) (o : Nat) (w : World) (cs : Array Value), Row w g t cs → o + vs.length ≤ cs.size →
    ∃ cs', Row (w.setCells g o vs) g t cs' ∧ cs'.size = cs.size ∧ ∀ k, cs'[k]? = if o ≤ k ∧ k < o + vs.length then vs[k - o]? else cs[k]?
  | [], o, w, cs, h, _ => ⟨cs, h, rfl, fun k => by rw [if_neg]; simp; try omega⟩
  | v :: vs, o, w, cs, h, hl => by
    simp at hl
    obtain ⟨cs', h1, h2, h3⟩ := Row.cells vs (o + 1) (w.setCell ⟨g, o, none⟩ v) _ (h.set o v) (by simp; omega)
    refine ⟨cs', h1, by rw [h2]; simp, fun k => ?_⟩
    rw [h3, Array.getElem?_setIfInBounds]
    by_cases e : o = k
    · subst e
      rw [if_neg (by omega), if_pos rfl, if_pos (by omega), if_pos (by simp)]
      simp
    · rw [if_neg e]
      by_cases e2 : o + 1 ≤ k ∧ k < o + 1 + vs.length
      · rw [if_pos e2, if_pos (by simp; omega), show k - o = (k - (o + 1)) + 1 by omega, List.getElem?_cons_succ]
      · rw [if_neg e2, if_neg (by simp; omega)]

theorem Save.setCells {S : Nat → Prop} {a : World} {g : Nat} (hg : S g) : ∀ (vs : List Value) (o : Nat) (w : World), Save S a w → Save S a (w.setCells g o vs)
  | [], _, _, h => h
  | v :: vs, o, _, h => Save.setCells hg vs (o + 1) _ (h.setCell (p := ⟨g, o, none⟩) hg v)

theorem flat_cell {ds : List Ru} {t : Nat} {v : Value} (h : (ds.flatMap cellsU)[t]? = some v) : ∃ (k : Nat) (u : Ru), ds[k]? = some u ∧ ((t = k * 2 ∧ v = .int .i64 u.l) ∨ (t = k * 2 + 1 ∧ v = .slice u.a u.r.length u.c)) := by
  have hl := (List.getElem?_eq_some_iff.1 h).1
  rw [flat_length] at hl
  have hk : t / 2 < ds.length := by omega
  obtain ⟨h1, h2⟩ := flat_get (List.getElem?_eq_getElem hk)
  refine ⟨t / 2, ds[t / 2], List.getElem?_eq_getElem hk, ?_⟩
  rcases Nat.mod_two_eq_zero_or_one t with e | e
  · have e' : t / 2 * 2 = t := by omega
    rw [e', h] at h1
    exact .inl ⟨e'.symm, Option.some.inj h1⟩
  · have e' : t / 2 * 2 + 1 = t := by omega
    rw [e', h] at h2
    exact .inr ⟨e'.symm, Option.some.inj h2⟩

theorem flat_one {ds : List Ru} : ∀ v ∈ ds.flatMap cellsU, v.oneCell' = true := by
  intro v hv
  obtain ⟨u, _, hu⟩ := List.mem_flatMap.1 hv
  simp [cellsU] at hu
  rcases hu with rfl | rfl <;> rfl

def del (w : World) (g i : Nat) (rs : List Ru) : World := (w.setCells g (i * 2) ((rs.drop (i + 1)).flatMap cellsU)).setCells g ((rs.length - 1) * 2) [.int .i64 0, .slice none 0 0]

theorem OwnR.size2 {w : World} {lo g : Nat} {rs : List Ru} (h : OwnR w lo (some ⟨g, 0, none⟩) rs) {i : Nat} (hi : i < rs.length) : ∃ cs, Row w g 52 cs ∧ lo ≤ g ∧ rs.length * 2 ≤ cs.size ∧ (∀ (k : Nat) (u : Ru), rs[k]? = some u → cs[k * 2]? = some (.int .i64 u.l) ∧ cs[k * 2 + 1]? = some (.slice u.a u.r.length u.c)) := by
  rcases h with h | ⟨g', cs, e, hl, hr, hc, _⟩
  · subst h; simp at hi
  · injection e with e
    injection e with e
    subst e
    have := (Array.getElem?_eq_some_iff.1 (hc (rs.length - 1) _ (List.getElem?_eq_getElem (by omega))).2.1).1
    exact ⟨cs, hr, hl, by omega, fun k u hu => ⟨(hc k u hu).1, (hc k u hu).2.1⟩⟩

theorem OwnR.erase {w : World} {lo g i : Nat} {rs : List Ru} (h : OwnR w lo (some ⟨g, 0, none⟩) rs) (hi : i < rs.length) : OwnR (del w g i rs) lo (some ⟨g, 0, none⟩) (rs.eraseIdx i) ∧ Save (fun b => b = g) w (del w g i rs) := by
  obtain ⟨_, _, _, hz, _⟩ := h.size2 hi
  have hS : Save (fun b => b = g) w (del w g i rs) := Save.setCells (S := fun b => b = g) rfl _ _ _ (Save.setCells (S := fun b => b = g) rfl _ _ _ (Save.refl _ _))
  refine ⟨?_, hS⟩
  obtain ⟨cs0, hr0, _, hz0, _⟩ := h.size2 hi
  rcases h with h | ⟨g', cs, e, hl, hr, hc, hd⟩
  · subst h; simp at hi
  injection e with e
  injection e with e
  subst e
  have hcs : cs = cs0 := by
    have := hr.symm.trans hr0
    injection this with this
    injection this
  subst hcs
  have hfl : ((rs.drop (i + 1)).flatMap cellsU).length = (rs.length - (i + 1)) * 2 := by rw [flat_length, List.length_drop]
  obtain ⟨c1, r1, s1, g1⟩ := Row.cells ((rs.drop (i + 1)).flatMap cellsU) (i * 2) w cs hr (by rw [hfl]; omega)
  obtain ⟨c2, r2, s2, g2⟩ := Row.cells [.int .i64 0, .slice none 0 0] ((rs.length - 1) * 2) _ c1 r1 (by simp; omega)
  have keep : ∀ {A' : Option Addr} {xs : List Int}, OwnI w lo A' xs → OwnI (del w g i rs) lo A' xs := by
    intro A' xs h
    rcases h with h | ⟨g', cs', e, hl', hr', hc'⟩
    · exact .inl h
    · exact .inr ⟨g', cs', e, hl', (hS.block g' hr'.lt (hr'.ne hr (by decide))).trans hr', hc'⟩
  have low : ∀ k, k < (rs.length - 1) * 2 → c2[k]? = c1[k]? := fun k hk => by rw [g2, if_neg (by simp; omega)]
  have at_ : ∀ k, (rs.eraseIdx i)[k]? = if k < i then rs[k]? else rs[k + 1]? := fun k => List.getElem?_eraseIdx
  refine .inr ⟨g, c2, rfl, hl, r2, fun k u hu => ?_, fun a b u v hu hv hab hun hvn => ?_⟩
  · have hk : k < rs.length - 1 := by
      have := (List.getElem?_eq_some_iff.1 hu).1
      rw [List.length_eraseIdx, if_pos hi] at this
      exact this
    rw [at_] at hu
    rw [low _ (by omega), low _ (by omega), g1, g1, hfl]
    by_cases e : k < i
    · rw [if_pos e] at hu
      rw [if_neg (by omega), if_neg (by omega)]
      obtain ⟨x1, x2, x3⟩ := hc k u hu
      exact ⟨x1, x2, keep x3⟩
    · rw [if_neg e] at hu
      rw [if_pos (by omega), if_pos (by omega)]
      obtain ⟨_, _, x3⟩ := hc (k + 1) u hu
      have hdr : (rs.drop (i + 1))[k - i]? = some u := by rw [List.getElem?_drop, show i + 1 + (k - i) = k + 1 by omega]; exact hu
      obtain ⟨y1, y2⟩ := flat_get hdr
      rw [show k * 2 - i * 2 = (k - i) * 2 by omega, show k * 2 + 1 - i * 2 = (k - i) * 2 + 1 by omega]
      exact ⟨y1, y2, keep x3⟩
  · rw [at_] at hu hv
    by_cases e1 : a < i
    · rw [if_pos e1] at hu
      by_cases e2 : b < i
      · rw [if_pos e2] at hv
        exact hd a b u v hu hv hab hun hvn
      · rw [if_neg e2] at hv
        exact hd a (b + 1) u v hu hv (by omega) hun hvn
    · rw [if_neg e1] at hu
      by_cases e2 : b < i
      · rw [if_pos e2] at hv
        exact hd (a + 1) b u v hu hv (by omega) hun hvn
      · rw [if_neg e2] at hv
        exact hd (a + 1) (b + 1) u v hu hv (by omega) hun hvn

theorem run_clear_rule (w : World) (ty : TypeId) (g o k c : Nat) (hk : k = 1) (h0 : (w.cell? ⟨g, o, none⟩).isSome = true) (h1 : (w.cell? ⟨g, o + 1, none⟩).isSome = true) (f0 : w.frozen? ⟨g, o, none⟩ = false) (f1 : w.frozen? ⟨g, o + 1, none⟩ = false) :
    (Builtin.clear_ #[27] ty #[.slice (some ⟨g, o, none⟩) k c]).run Tryd.prog w = .ok (.tuple #[]) (w.setCells g o [.int .i64 0, .slice none 0 0]) := by
  subst hk
  obtain ⟨i, hi, hz, hs, hb⟩ := info_of Tryd.infoRule
  have hst := run_storeCells_cells (P := Tryd.prog) g o [.int .i64 0, .slice none 0 0] 0 w (fun j hj => match j, hj with | 0, _ => h0 | 1, _ => h1) (fun j hj => match j, hj with | 0, _ => f0 | 1, _ => f1) (by intro v hv; simp at hv; rcases hv with rfl | rfl <;> rfl)
  simp only [Nat.add_zero] at hst
  have hv : ∀ w, (zeroValue 52).run Tryd.prog w = .ok (.agg #[.int .i64 0, .slice none 0 0]) w := fun w => by simp [zeroValue, typeInfo, hi, hz]
  have hzc : (Builtin.zeroCells (Value.agg #[.int .i64 0, .slice none 0 0]).cells 1).toList = [.int .i64 0, .slice none 0 0] := by kernel_rfl
  simp [Builtin.clear_, run_underlying Tryd.underlying27, hv, hzc, hst]

end Go.Proofs.YtpaccjfabclikaaDoor
