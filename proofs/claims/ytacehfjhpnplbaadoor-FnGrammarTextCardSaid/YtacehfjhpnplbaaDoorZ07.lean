/- The reference's cursor: known. -/
import Derived.Test.YtacehfjhpnplbaaDoorZ06
import Derived.Laws.OwnMore

namespace Go.Proofs.YtacehfjhpnplbaaDoor
open Go.RowKit

def Sm (xs : List Int) : Prop := ∀ x ∈ xs, -70000 ≤ x ∧ x ≤ 70000
def SmR (rs : List Ru) : Prop := ∀ u ∈ rs, u.r.length ≤ 4 ∧ Sm u.r

/-- A new grammar of small numbers is told. -/
def ToldG (w : World) (R m : Nat) (e : Ending) (w' : World) : Prop :=
  ∃ (n t : Int) (A : Option Addr) (c : Nat) (rs : List Ru), e = .returned (.agg #[.int .i64 n, .int .i64 t, .slice A rs.length c]) ∧ (1 ≤ n ∧ n ≤ 100) ∧ (1 ≤ t ∧ t ≤ 100) ∧ 0 < rs.length ∧ rs.length ≤ 6 ∧ SmR rs ∧ RulesW w' w.heap.size (.slice A rs.length c) rs ∧ CurS w' R m ∧ Save (· = R) w w'

theorem RulesW.lower {w : World} {lo lo' : Nat} {v : Value} {ds : List Ru} (h : RulesW w lo v ds) (hl : lo' ≤ lo) : RulesW w lo' v ds :=
  ⟨⟨h.row.1, h.row.2.imp id fun ⟨g, cap, cur, e1, h2, h3⟩ => ⟨g, cap, cur, e1, Nat.le_trans hl h2, h3⟩⟩, fun j u hu => (h.rts j u hu).lower hl, h.far⟩

theorem rulesW_lit {w : World} {lo : Nat} {ds : List Ru} {cs : Array Value} {n g : Nat} (hg : g = w.heap.size) (hn : n = ds.length) (hcs : cs.toList = ds.flatMap cellsU) (hlo : lo ≤ w.heap.size) (hd : ds.length ≤ 16) (h1 : ∀ u ∈ ds, OwnI w lo u.a u.r)
    (h2 : ∀ (i j : Nat) (u v : Ru), ds[i]? = some u → ds[j]? = some v → i ≠ j → u.r ≠ [] → v.r ≠ [] → u.a ≠ v.a) : RulesW (w.alloc (.cells cs 64)) lo (.slice (some ⟨g, 0, none⟩) n n) ds := by
  subst hn hg
  have hsz : cs.size = ds.length * 2 := by rw [← Array.length_toList, hcs, flat_length]
  have hr := World.ownsRow_lit (base := lo) (e := 64) (size := 2) w cs ds.length hlo (by unfold maxLen; omega) hsz
  rw [hcs] at hr
  exact ⟨hr, fun j u hu => (h1 u (List.mem_of_getElem? hu)).below (below_new w _) (Nat.le_refl _), h2⟩

theorem rulesW_row {w : World} {lo : Nat} {ds : List Ru} {cs : Array Value} {n g : Nat} (hr : Row w g 64 cs) (hn : n = ds.length) (hcs : cs.toList = ds.flatMap cellsU) (hlo : lo ≤ g) (hd : ds.length ≤ 16) (h1 : ∀ u ∈ ds, OwnI w lo u.a u.r)
    (h2 : ∀ (i j : Nat) (u v : Ru), ds[i]? = some u → ds[j]? = some v → i ≠ j → u.r ≠ [] → v.r ≠ [] → u.a ≠ v.a) : RulesW w lo (.slice (some ⟨g, 0, none⟩) n n) ds := by
  subst hn
  have hsz : cs.size = ds.length * 2 := by rw [← Array.length_toList, hcs, flat_length]
  exact ⟨⟨flat_length ds, .inr ⟨g, ds.length, cs, rfl, hlo, hr, Nat.le_refl _, by unfold maxLen; omega, hsz, by rw [← hcs, ← hsz, ← Array.length_toList, List.take_length]⟩⟩, fun j u hu => h1 u (List.mem_of_getElem? hu), h2⟩
theorem Row.next {w w' : World} {g : Nat} {t : TypeId} {cs : Array Value} (h : Row w g t cs) (hb : Below w.heap.size w w') : Row w' g t cs := h.below hb h.lt
theorem gen_alloc {P : Program} {ops : Array Oper} {Q : Exit → Act → World → Prop} {l : List Oper} {a : Act} {w : World} {cs : Array Value} {t : TypeId} (h : ∀ w', Row w' w.heap.size t cs → Below w.heap.size w w' → w'.heap.size = w.heap.size + 1 → wpList P ops Q l a w') : wpList P ops Q l a (w.alloc (.cells cs t)) :=
  h _ (Row.new w t cs) (below_new w _) (by simp)

theorem ownI_lit {w : World} {g lo : Nat} {cs : Array Value} {xs : List Int} (h : Row w g 3 cs) (hlo : lo ≤ g) (hc : ∀ (i : Nat) (x : Int), xs[i]? = some x → cs[i]? = some (.int .i64 x)) : OwnI w lo (some ⟨g, 0, none⟩) xs := .inr ⟨g, cs, rfl, hlo, h, hc⟩
theorem row_new {w : World} {g : Nat} {t : TypeId} {cs : Array Value} (hg : g = w.heap.size) : Row (w.alloc (.cells cs t)) g t cs := by subst hg; exact Row.new w t cs

theorem all_nil {P : Ru → Prop} : ∀ u ∈ ([] : List Ru), P u := fun u h => by simp at h
theorem all_cons {P : Ru → Prop} {u : Ru} {ds : List Ru} (h : P u) (hs : ∀ u ∈ ds, P u) : ∀ v ∈ u :: ds, P v := fun v hv => by
  rcases List.mem_cons.1 hv with e | e
  · subst e; exact h
  · exact hs v e

def FarR (ds : List Ru) : Prop := ∀ (i j : Nat) (u v : Ru), ds[i]? = some u → ds[j]? = some v → i ≠ j → u.r ≠ [] → v.r ≠ [] → u.a ≠ v.a
theorem far_nil : FarR [] := fun i j u v h => by simp at h
theorem far_cons {u : Ru} {ds : List Ru} (h : ∀ v ∈ ds, u.r ≠ [] → v.r ≠ [] → u.a ≠ v.a) (hs : FarR ds) : FarR (u :: ds) := by
  intro i j x y hx hy hij h1 h2
  rcases i with _ | i <;> rcases j with _ | j
  · exact absurd rfl hij
  · simp at hx; subst hx
    exact h y (List.mem_of_getElem? (by simpa using hy)) h1 h2
  · simp at hy; subst hy
    exact fun e => h x (List.mem_of_getElem? (by simpa using hx)) h2 h1 e.symm
  · exact hs i j x y (by simpa using hx) (by simpa using hy) (by omega) h1 h2

set_option maxRecDepth 20000 in
set_option maxHeartbeats 8000000 in
theorem curKnown_any (R m : Nat) (w : World) (h : CurS w R m) (hm : m ≤ 999900) :
    Calls Tryd.prog 148 #[.pointer (some ⟨R, 0, none⟩)] w (ToldG w R (m + 2)) := by
  have HC := Lib.hid h; clear h
  have hRw := HC.out.lt
  have HB0 : Hid (Below w.heap.size w (w.alloc (.cells #[.int .i64 0, .int .i64 0, .slice none 0 0] 26))) := by show Below _ _ _; go_grown
  have BX0 := Lib.hid (Row.new w 26 #[.int .i64 0, .int .i64 0, .slice none 0 0])
  have HC0 := Lib.hid (HC.out.keep HB0.out HC.out.lt)
  have HS0 : Hid (Save (· = R) w (w.alloc (.cells #[.int .i64 0, .int .i64 0, .slice none 0 0] 26))) := Save.of_below HB0.out
  go_enter Tryd.func148, Tryd.ntmps148
  go_wp2_with fail
  refine (curPick_any R m _ _ HC0.out (by omega) (by omega)).mono ?_
  rintro _ w1 ⟨x, rfl, hx, hC1, hS1⟩
  have BX1 := Lib.hid (BX0.out.save hS1 (by omega))
  have hs1 : w.heap.size < w1.heap.size := BX1.out.lt
  have HC1 := Lib.hid hC1; clear hC1
  have HS1 := Lib.hid (HS0.out.trans hS1); clear hS1
  clear HB0 BX0 HC0 HS0 hx
  have f0 := BX1.out.frozen 0
  have f1 := BX1.out.frozen 1
  have f2 := BX1.out.frozen 2
  have k0 : w1.cell? ⟨w.heap.size, 0, none⟩ = some (.int .i64 0) := BX1.out.cell 0
  have k1 : w1.cell? ⟨w.heap.size, 1, none⟩ = some (.int .i64 0) := BX1.out.cell 1
  have k2 : w1.cell? ⟨w.heap.size, 2, none⟩ = some (.slice none 0 0) := BX1.out.cell 2
  by_cases e0 : x = 0
  · subst e0
    clear k0 k1 k2 f0 f1 f2
    go_wp2_with (first | (refine gen_alloc (w := w1) ?_; intro wx1 hr hb hs; have HR1 := Lib.hid hr; have HB1 := Lib.hid hb; have HZ1 := Lib.hid hs; clear hr hb hs) | (refine gen_alloc (w := wx1) ?_; intro wx2 hr hb hs; have HR2 := Lib.hid hr; have HB2 := Lib.hid hb; have HZ2 := Lib.hid hs; clear hr hb hs; have BXZ := Lib.hid ((BX1.out.next HB1.out).next HB2.out); have F0 := BXZ.out.frozen 0; have F1 := BXZ.out.frozen 1; have F2 := BXZ.out.frozen 2; have K0 : wx2.cell? ⟨w.heap.size, 0, none⟩ = some (.int .i64 0) := BXZ.out.cell 0; have K1 : wx2.cell? ⟨w.heap.size, 1, none⟩ = some (.int .i64 0) := BXZ.out.cell 1; have K2 : wx2.cell? ⟨w.heap.size, 2, none⟩ = some (.slice none 0 0) := BXZ.out.cell 2))
    show bodyPost Tryd.prog Tryd.f148 (ToldG w R (m + 2)) Exit.ret _ _
    refine bodyPost_ret (v := .agg #[.int .i64 1, .int .i64 2, .slice (some ⟨wx1.heap.size, 0, none⟩) 2 2]) (by simp [results, Tryd.results148, go_sem, K0, K1, K2]) rfl ?_
    have z1 := HZ1.out
    have z2 := HZ2.out
    refine ⟨1, 2, some ⟨wx1.heap.size, 0, none⟩, 2, [⟨0, some ⟨w1.heap.size, 0, none⟩, [-1, 0, -2], 3⟩, ⟨0, none, [], 0⟩], rfl, by omega, by omega, by simp, by simp, all_cons ⟨by simp, by simp [Sm]⟩ (all_cons ⟨by simp, by simp [Sm]⟩ (all_nil)), RulesW.lower (lo := w.heap.size + 1) ((((rulesW_row HR2.out rfl rfl (by omega) (by simp) (all_cons (ownI_lit (HR1.out.next HB2.out) (by omega) (by intro i x hx; rcases i with _ | _ | _ | _ | i <;> simp at hx <;> subst hx <;> rfl)) (all_cons (.inl rfl) (all_nil))) (far_cons (by simp <;> omega) (far_cons (by simp <;> omega) (far_nil)))).low (by simp) _).low (by simp) _).low (by simp) _) (by omega), CurS.keep (B := w.heap.size) ((HC1.out.keep HB1.out HC1.out.lt).keep HB2.out (HC1.out.keep HB1.out HC1.out.lt).lt) (by go_grown) hRw, Save.then (B := w.heap.size) ((HS1.out.trans (Save.of_below HB1.out)).trans (Save.of_below HB2.out)) (by go_grown) (Nat.le_refl _)⟩
  by_cases e1 : x = 1
  · subst e1
    clear k0 k1 k2 f0 f1 f2
    go_wp2_with (first | (refine gen_alloc (w := w1) ?_; intro wx1 hr hb hs; have HR1 := Lib.hid hr; have HB1 := Lib.hid hb; have HZ1 := Lib.hid hs; clear hr hb hs) | (refine gen_alloc (w := wx1) ?_; intro wx2 hr hb hs; have HR2 := Lib.hid hr; have HB2 := Lib.hid hb; have HZ2 := Lib.hid hs; clear hr hb hs) | (refine gen_alloc (w := wx2) ?_; intro wx3 hr hb hs; have HR3 := Lib.hid hr; have HB3 := Lib.hid hb; have HZ3 := Lib.hid hs; clear hr hb hs) | (refine gen_alloc (w := wx3) ?_; intro wx4 hr hb hs; have HR4 := Lib.hid hr; have HB4 := Lib.hid hb; have HZ4 := Lib.hid hs; clear hr hb hs; have BXZ := Lib.hid ((((BX1.out.next HB1.out).next HB2.out).next HB3.out).next HB4.out); have F0 := BXZ.out.frozen 0; have F1 := BXZ.out.frozen 1; have F2 := BXZ.out.frozen 2; have K0 : wx4.cell? ⟨w.heap.size, 0, none⟩ = some (.int .i64 0) := BXZ.out.cell 0; have K1 : wx4.cell? ⟨w.heap.size, 1, none⟩ = some (.int .i64 0) := BXZ.out.cell 1; have K2 : wx4.cell? ⟨w.heap.size, 2, none⟩ = some (.slice none 0 0) := BXZ.out.cell 2))
    show bodyPost Tryd.prog Tryd.f148 (ToldG w R (m + 2)) Exit.ret _ _
    refine bodyPost_ret (v := .agg #[.int .i64 1, .int .i64 2, .slice (some ⟨wx3.heap.size, 0, none⟩) 3 3]) (by simp [results, Tryd.results148, go_sem, K0, K1, K2]) rfl ?_
    have z1 := HZ1.out
    have z2 := HZ2.out
    have z3 := HZ3.out
    have z4 := HZ4.out
    refine ⟨1, 2, some ⟨wx3.heap.size, 0, none⟩, 3, [⟨0, some ⟨w1.heap.size, 0, none⟩, [0, 0], 2⟩, ⟨0, some ⟨wx1.heap.size, 0, none⟩, [-1, 0, -2], 3⟩, ⟨0, some ⟨wx2.heap.size, 0, none⟩, [-1, -2], 2⟩], rfl, by omega, by omega, by simp, by simp, all_cons ⟨by simp, by simp [Sm]⟩ (all_cons ⟨by simp, by simp [Sm]⟩ (all_cons ⟨by simp, by simp [Sm]⟩ (all_nil))), RulesW.lower (lo := w.heap.size + 1) ((((rulesW_row HR4.out rfl rfl (by omega) (by simp) (all_cons (ownI_lit (((HR1.out.next HB2.out).next HB3.out).next HB4.out) (by omega) (by intro i x hx; rcases i with _ | _ | _ | _ | i <;> simp at hx <;> subst hx <;> rfl)) (all_cons (ownI_lit ((HR2.out.next HB3.out).next HB4.out) (by omega) (by intro i x hx; rcases i with _ | _ | _ | _ | i <;> simp at hx <;> subst hx <;> rfl)) (all_cons (ownI_lit (HR3.out.next HB4.out) (by omega) (by intro i x hx; rcases i with _ | _ | _ | _ | i <;> simp at hx <;> subst hx <;> rfl)) (all_nil)))) (far_cons (by simp <;> omega) (far_cons (by simp <;> omega) (far_cons (by simp <;> omega) (far_nil))))).low (by simp) _).low (by simp) _).low (by simp) _) (by omega), CurS.keep (B := w.heap.size) ((((HC1.out.keep HB1.out HC1.out.lt).keep HB2.out (HC1.out.keep HB1.out HC1.out.lt).lt).keep HB3.out ((HC1.out.keep HB1.out HC1.out.lt).keep HB2.out (HC1.out.keep HB1.out HC1.out.lt).lt).lt).keep HB4.out (((HC1.out.keep HB1.out HC1.out.lt).keep HB2.out (HC1.out.keep HB1.out HC1.out.lt).lt).keep HB3.out ((HC1.out.keep HB1.out HC1.out.lt).keep HB2.out (HC1.out.keep HB1.out HC1.out.lt).lt).lt).lt) (by go_grown) hRw, Save.then (B := w.heap.size) ((((HS1.out.trans (Save.of_below HB1.out)).trans (Save.of_below HB2.out)).trans (Save.of_below HB3.out)).trans (Save.of_below HB4.out)) (by go_grown) (Nat.le_refl _)⟩
  by_cases e2 : x = 2
  · subst e2
    clear k0 k1 k2 f0 f1 f2
    go_wp2_with (first | (refine gen_alloc (w := w1) ?_; intro wx1 hr hb hs; have HR1 := Lib.hid hr; have HB1 := Lib.hid hb; have HZ1 := Lib.hid hs; clear hr hb hs) | (refine gen_alloc (w := wx1) ?_; intro wx2 hr hb hs; have HR2 := Lib.hid hr; have HB2 := Lib.hid hb; have HZ2 := Lib.hid hs; clear hr hb hs) | (refine gen_alloc (w := wx2) ?_; intro wx3 hr hb hs; have HR3 := Lib.hid hr; have HB3 := Lib.hid hb; have HZ3 := Lib.hid hs; clear hr hb hs) | (refine gen_alloc (w := wx3) ?_; intro wx4 hr hb hs; have HR4 := Lib.hid hr; have HB4 := Lib.hid hb; have HZ4 := Lib.hid hs; clear hr hb hs) | (refine gen_alloc (w := wx4) ?_; intro wx5 hr hb hs; have HR5 := Lib.hid hr; have HB5 := Lib.hid hb; have HZ5 := Lib.hid hs; clear hr hb hs; have BXZ := Lib.hid (((((BX1.out.next HB1.out).next HB2.out).next HB3.out).next HB4.out).next HB5.out); have F0 := BXZ.out.frozen 0; have F1 := BXZ.out.frozen 1; have F2 := BXZ.out.frozen 2; have K0 : wx5.cell? ⟨w.heap.size, 0, none⟩ = some (.int .i64 0) := BXZ.out.cell 0; have K1 : wx5.cell? ⟨w.heap.size, 1, none⟩ = some (.int .i64 0) := BXZ.out.cell 1; have K2 : wx5.cell? ⟨w.heap.size, 2, none⟩ = some (.slice none 0 0) := BXZ.out.cell 2))
    show bodyPost Tryd.prog Tryd.f148 (ToldG w R (m + 2)) Exit.ret _ _
    refine bodyPost_ret (v := .agg #[.int .i64 2, .int .i64 3, .slice (some ⟨wx4.heap.size, 0, none⟩) 4 4]) (by simp [results, Tryd.results148, go_sem, K0, K1, K2]) rfl ?_
    have z1 := HZ1.out
    have z2 := HZ2.out
    have z3 := HZ3.out
    have z4 := HZ4.out
    have z5 := HZ5.out
    refine ⟨2, 3, some ⟨wx4.heap.size, 0, none⟩, 4, [⟨0, some ⟨w1.heap.size, 0, none⟩, [0, -3, 1], 3⟩, ⟨0, some ⟨wx1.heap.size, 0, none⟩, [1], 1⟩, ⟨1, some ⟨wx2.heap.size, 0, none⟩, [-1], 1⟩, ⟨1, some ⟨wx3.heap.size, 0, none⟩, [-2, 0, -2], 3⟩], rfl, by omega, by omega, by simp, by simp, all_cons ⟨by simp, by simp [Sm]⟩ (all_cons ⟨by simp, by simp [Sm]⟩ (all_cons ⟨by simp, by simp [Sm]⟩ (all_cons ⟨by simp, by simp [Sm]⟩ (all_nil)))), RulesW.lower (lo := w.heap.size + 1) ((((rulesW_row HR5.out rfl rfl (by omega) (by simp) (all_cons (ownI_lit ((((HR1.out.next HB2.out).next HB3.out).next HB4.out).next HB5.out) (by omega) (by intro i x hx; rcases i with _ | _ | _ | _ | i <;> simp at hx <;> subst hx <;> rfl)) (all_cons (ownI_lit (((HR2.out.next HB3.out).next HB4.out).next HB5.out) (by omega) (by intro i x hx; rcases i with _ | _ | _ | _ | i <;> simp at hx <;> subst hx <;> rfl)) (all_cons (ownI_lit ((HR3.out.next HB4.out).next HB5.out) (by omega) (by intro i x hx; rcases i with _ | _ | _ | _ | i <;> simp at hx <;> subst hx <;> rfl)) (all_cons (ownI_lit (HR4.out.next HB5.out) (by omega) (by intro i x hx; rcases i with _ | _ | _ | _ | i <;> simp at hx <;> subst hx <;> rfl)) (all_nil))))) (far_cons (by simp <;> omega) (far_cons (by simp <;> omega) (far_cons (by simp <;> omega) (far_cons (by simp <;> omega) (far_nil)))))).low (by simp) _).low (by simp) _).low (by simp) _) (by omega), CurS.keep (B := w.heap.size) (((((HC1.out.keep HB1.out HC1.out.lt).keep HB2.out (HC1.out.keep HB1.out HC1.out.lt).lt).keep HB3.out ((HC1.out.keep HB1.out HC1.out.lt).keep HB2.out (HC1.out.keep HB1.out HC1.out.lt).lt).lt).keep HB4.out (((HC1.out.keep HB1.out HC1.out.lt).keep HB2.out (HC1.out.keep HB1.out HC1.out.lt).lt).keep HB3.out ((HC1.out.keep HB1.out HC1.out.lt).keep HB2.out (HC1.out.keep HB1.out HC1.out.lt).lt).lt).lt).keep HB5.out ((((HC1.out.keep HB1.out HC1.out.lt).keep HB2.out (HC1.out.keep HB1.out HC1.out.lt).lt).keep HB3.out ((HC1.out.keep HB1.out HC1.out.lt).keep HB2.out (HC1.out.keep HB1.out HC1.out.lt).lt).lt).keep HB4.out (((HC1.out.keep HB1.out HC1.out.lt).keep HB2.out (HC1.out.keep HB1.out HC1.out.lt).lt).keep HB3.out ((HC1.out.keep HB1.out HC1.out.lt).keep HB2.out (HC1.out.keep HB1.out HC1.out.lt).lt).lt).lt).lt) (by go_grown) hRw, Save.then (B := w.heap.size) (((((HS1.out.trans (Save.of_below HB1.out)).trans (Save.of_below HB2.out)).trans (Save.of_below HB3.out)).trans (Save.of_below HB4.out)).trans (Save.of_below HB5.out)) (by go_grown) (Nat.le_refl _)⟩
  by_cases e3 : x = 3
  · subst e3
    clear k0 k1 k2 f0 f1 f2
    go_wp2_with (first | (refine gen_alloc (w := w1) ?_; intro wx1 hr hb hs; have HR1 := Lib.hid hr; have HB1 := Lib.hid hb; have HZ1 := Lib.hid hs; clear hr hb hs) | (refine gen_alloc (w := wx1) ?_; intro wx2 hr hb hs; have HR2 := Lib.hid hr; have HB2 := Lib.hid hb; have HZ2 := Lib.hid hs; clear hr hb hs) | (refine gen_alloc (w := wx2) ?_; intro wx3 hr hb hs; have HR3 := Lib.hid hr; have HB3 := Lib.hid hb; have HZ3 := Lib.hid hs; clear hr hb hs) | (refine gen_alloc (w := wx3) ?_; intro wx4 hr hb hs; have HR4 := Lib.hid hr; have HB4 := Lib.hid hb; have HZ4 := Lib.hid hs; clear hr hb hs; have BXZ := Lib.hid ((((BX1.out.next HB1.out).next HB2.out).next HB3.out).next HB4.out); have F0 := BXZ.out.frozen 0; have F1 := BXZ.out.frozen 1; have F2 := BXZ.out.frozen 2; have K0 : wx4.cell? ⟨w.heap.size, 0, none⟩ = some (.int .i64 0) := BXZ.out.cell 0; have K1 : wx4.cell? ⟨w.heap.size, 1, none⟩ = some (.int .i64 0) := BXZ.out.cell 1; have K2 : wx4.cell? ⟨w.heap.size, 2, none⟩ = some (.slice none 0 0) := BXZ.out.cell 2))
    show bodyPost Tryd.prog Tryd.f148 (ToldG w R (m + 2)) Exit.ret _ _
    refine bodyPost_ret (v := .agg #[.int .i64 2, .int .i64 2, .slice (some ⟨wx3.heap.size, 0, none⟩) 4 4]) (by simp [results, Tryd.results148, go_sem, K0, K1, K2]) rfl ?_
    have z1 := HZ1.out
    have z2 := HZ2.out
    have z3 := HZ3.out
    have z4 := HZ4.out
    refine ⟨2, 2, some ⟨wx3.heap.size, 0, none⟩, 4, [⟨0, some ⟨w1.heap.size, 0, none⟩, [-1, 1], 2⟩, ⟨1, some ⟨wx1.heap.size, 0, none⟩, [-2, 1], 2⟩, ⟨1, some ⟨wx2.heap.size, 0, none⟩, [-2], 1⟩, ⟨1, none, [], 0⟩], rfl, by omega, by omega, by simp, by simp, all_cons ⟨by simp, by simp [Sm]⟩ (all_cons ⟨by simp, by simp [Sm]⟩ (all_cons ⟨by simp, by simp [Sm]⟩ (all_cons ⟨by simp, by simp [Sm]⟩ (all_nil)))), RulesW.lower (lo := w.heap.size + 1) ((((rulesW_row HR4.out rfl rfl (by omega) (by simp) (all_cons (ownI_lit (((HR1.out.next HB2.out).next HB3.out).next HB4.out) (by omega) (by intro i x hx; rcases i with _ | _ | _ | _ | i <;> simp at hx <;> subst hx <;> rfl)) (all_cons (ownI_lit ((HR2.out.next HB3.out).next HB4.out) (by omega) (by intro i x hx; rcases i with _ | _ | _ | _ | i <;> simp at hx <;> subst hx <;> rfl)) (all_cons (ownI_lit (HR3.out.next HB4.out) (by omega) (by intro i x hx; rcases i with _ | _ | _ | _ | i <;> simp at hx <;> subst hx <;> rfl)) (all_cons (.inl rfl) (all_nil))))) (far_cons (by simp <;> omega) (far_cons (by simp <;> omega) (far_cons (by simp <;> omega) (far_cons (by simp <;> omega) (far_nil)))))).low (by simp) _).low (by simp) _).low (by simp) _) (by omega), CurS.keep (B := w.heap.size) ((((HC1.out.keep HB1.out HC1.out.lt).keep HB2.out (HC1.out.keep HB1.out HC1.out.lt).lt).keep HB3.out ((HC1.out.keep HB1.out HC1.out.lt).keep HB2.out (HC1.out.keep HB1.out HC1.out.lt).lt).lt).keep HB4.out (((HC1.out.keep HB1.out HC1.out.lt).keep HB2.out (HC1.out.keep HB1.out HC1.out.lt).lt).keep HB3.out ((HC1.out.keep HB1.out HC1.out.lt).keep HB2.out (HC1.out.keep HB1.out HC1.out.lt).lt).lt).lt) (by go_grown) hRw, Save.then (B := w.heap.size) ((((HS1.out.trans (Save.of_below HB1.out)).trans (Save.of_below HB2.out)).trans (Save.of_below HB3.out)).trans (Save.of_below HB4.out)) (by go_grown) (Nat.le_refl _)⟩
  by_cases e4 : x = 4
  · subst e4
    clear k0 k1 k2 f0 f1 f2
    go_wp2_with (first | (refine gen_alloc (w := w1) ?_; intro wx1 hr hb hs; have HR1 := Lib.hid hr; have HB1 := Lib.hid hb; have HZ1 := Lib.hid hs; clear hr hb hs) | (refine gen_alloc (w := wx1) ?_; intro wx2 hr hb hs; have HR2 := Lib.hid hr; have HB2 := Lib.hid hb; have HZ2 := Lib.hid hs; clear hr hb hs) | (refine gen_alloc (w := wx2) ?_; intro wx3 hr hb hs; have HR3 := Lib.hid hr; have HB3 := Lib.hid hb; have HZ3 := Lib.hid hs; clear hr hb hs) | (refine gen_alloc (w := wx3) ?_; intro wx4 hr hb hs; have HR4 := Lib.hid hr; have HB4 := Lib.hid hb; have HZ4 := Lib.hid hs; clear hr hb hs) | (refine gen_alloc (w := wx4) ?_; intro wx5 hr hb hs; have HR5 := Lib.hid hr; have HB5 := Lib.hid hb; have HZ5 := Lib.hid hs; clear hr hb hs; have BXZ := Lib.hid (((((BX1.out.next HB1.out).next HB2.out).next HB3.out).next HB4.out).next HB5.out); have F0 := BXZ.out.frozen 0; have F1 := BXZ.out.frozen 1; have F2 := BXZ.out.frozen 2; have K0 : wx5.cell? ⟨w.heap.size, 0, none⟩ = some (.int .i64 0) := BXZ.out.cell 0; have K1 : wx5.cell? ⟨w.heap.size, 1, none⟩ = some (.int .i64 0) := BXZ.out.cell 1; have K2 : wx5.cell? ⟨w.heap.size, 2, none⟩ = some (.slice none 0 0) := BXZ.out.cell 2))
    show bodyPost Tryd.prog Tryd.f148 (ToldG w R (m + 2)) Exit.ret _ _
    refine bodyPost_ret (v := .agg #[.int .i64 2, .int .i64 1, .slice (some ⟨wx4.heap.size, 0, none⟩) 5 5]) (by simp [results, Tryd.results148, go_sem, K0, K1, K2]) rfl ?_
    have z1 := HZ1.out
    have z2 := HZ2.out
    have z3 := HZ3.out
    have z4 := HZ4.out
    have z5 := HZ5.out
    refine ⟨2, 1, some ⟨wx4.heap.size, 0, none⟩, 5, [⟨0, some ⟨w1.heap.size, 0, none⟩, [0], 1⟩, ⟨0, some ⟨wx1.heap.size, 0, none⟩, [1], 1⟩, ⟨1, some ⟨wx2.heap.size, 0, none⟩, [0, 1], 2⟩, ⟨1, some ⟨wx3.heap.size, 0, none⟩, [-1], 1⟩, ⟨1, none, [], 0⟩], rfl, by omega, by omega, by simp, by simp, all_cons ⟨by simp, by simp [Sm]⟩ (all_cons ⟨by simp, by simp [Sm]⟩ (all_cons ⟨by simp, by simp [Sm]⟩ (all_cons ⟨by simp, by simp [Sm]⟩ (all_cons ⟨by simp, by simp [Sm]⟩ (all_nil))))), RulesW.lower (lo := w.heap.size + 1) ((((rulesW_row HR5.out rfl rfl (by omega) (by simp) (all_cons (ownI_lit ((((HR1.out.next HB2.out).next HB3.out).next HB4.out).next HB5.out) (by omega) (by intro i x hx; rcases i with _ | _ | _ | _ | i <;> simp at hx <;> subst hx <;> rfl)) (all_cons (ownI_lit (((HR2.out.next HB3.out).next HB4.out).next HB5.out) (by omega) (by intro i x hx; rcases i with _ | _ | _ | _ | i <;> simp at hx <;> subst hx <;> rfl)) (all_cons (ownI_lit ((HR3.out.next HB4.out).next HB5.out) (by omega) (by intro i x hx; rcases i with _ | _ | _ | _ | i <;> simp at hx <;> subst hx <;> rfl)) (all_cons (ownI_lit (HR4.out.next HB5.out) (by omega) (by intro i x hx; rcases i with _ | _ | _ | _ | i <;> simp at hx <;> subst hx <;> rfl)) (all_cons (.inl rfl) (all_nil)))))) (far_cons (by simp <;> omega) (far_cons (by simp <;> omega) (far_cons (by simp <;> omega) (far_cons (by simp <;> omega) (far_cons (by simp <;> omega) (far_nil))))))).low (by simp) _).low (by simp) _).low (by simp) _) (by omega), CurS.keep (B := w.heap.size) (((((HC1.out.keep HB1.out HC1.out.lt).keep HB2.out (HC1.out.keep HB1.out HC1.out.lt).lt).keep HB3.out ((HC1.out.keep HB1.out HC1.out.lt).keep HB2.out (HC1.out.keep HB1.out HC1.out.lt).lt).lt).keep HB4.out (((HC1.out.keep HB1.out HC1.out.lt).keep HB2.out (HC1.out.keep HB1.out HC1.out.lt).lt).keep HB3.out ((HC1.out.keep HB1.out HC1.out.lt).keep HB2.out (HC1.out.keep HB1.out HC1.out.lt).lt).lt).lt).keep HB5.out ((((HC1.out.keep HB1.out HC1.out.lt).keep HB2.out (HC1.out.keep HB1.out HC1.out.lt).lt).keep HB3.out ((HC1.out.keep HB1.out HC1.out.lt).keep HB2.out (HC1.out.keep HB1.out HC1.out.lt).lt).lt).keep HB4.out (((HC1.out.keep HB1.out HC1.out.lt).keep HB2.out (HC1.out.keep HB1.out HC1.out.lt).lt).keep HB3.out ((HC1.out.keep HB1.out HC1.out.lt).keep HB2.out (HC1.out.keep HB1.out HC1.out.lt).lt).lt).lt).lt) (by go_grown) hRw, Save.then (B := w.heap.size) (((((HS1.out.trans (Save.of_below HB1.out)).trans (Save.of_below HB2.out)).trans (Save.of_below HB3.out)).trans (Save.of_below HB4.out)).trans (Save.of_below HB5.out)) (by go_grown) (Nat.le_refl _)⟩
  by_cases e5 : x = 5
  · subst e5
    clear k0 k1 k2 f0 f1 f2
    go_wp2_with (first | (refine gen_alloc (w := w1) ?_; intro wx1 hr hb hs; have HR1 := Lib.hid hr; have HB1 := Lib.hid hb; have HZ1 := Lib.hid hs; clear hr hb hs) | (refine gen_alloc (w := wx1) ?_; intro wx2 hr hb hs; have HR2 := Lib.hid hr; have HB2 := Lib.hid hb; have HZ2 := Lib.hid hs; clear hr hb hs) | (refine gen_alloc (w := wx2) ?_; intro wx3 hr hb hs; have HR3 := Lib.hid hr; have HB3 := Lib.hid hb; have HZ3 := Lib.hid hs; clear hr hb hs) | (refine gen_alloc (w := wx3) ?_; intro wx4 hr hb hs; have HR4 := Lib.hid hr; have HB4 := Lib.hid hb; have HZ4 := Lib.hid hs; clear hr hb hs) | (refine gen_alloc (w := wx4) ?_; intro wx5 hr hb hs; have HR5 := Lib.hid hr; have HB5 := Lib.hid hb; have HZ5 := Lib.hid hs; clear hr hb hs; have BXZ := Lib.hid (((((BX1.out.next HB1.out).next HB2.out).next HB3.out).next HB4.out).next HB5.out); have F0 := BXZ.out.frozen 0; have F1 := BXZ.out.frozen 1; have F2 := BXZ.out.frozen 2; have K0 : wx5.cell? ⟨w.heap.size, 0, none⟩ = some (.int .i64 0) := BXZ.out.cell 0; have K1 : wx5.cell? ⟨w.heap.size, 1, none⟩ = some (.int .i64 0) := BXZ.out.cell 1; have K2 : wx5.cell? ⟨w.heap.size, 2, none⟩ = some (.slice none 0 0) := BXZ.out.cell 2))
    show bodyPost Tryd.prog Tryd.f148 (ToldG w R (m + 2)) Exit.ret _ _
    refine bodyPost_ret (v := .agg #[.int .i64 1, .int .i64 2, .slice (some ⟨wx4.heap.size, 0, none⟩) 5 5]) (by simp [results, Tryd.results148, go_sem, K0, K1, K2]) rfl ?_
    have z1 := HZ1.out
    have z2 := HZ2.out
    have z3 := HZ3.out
    have z4 := HZ4.out
    have z5 := HZ5.out
    refine ⟨1, 2, some ⟨wx4.heap.size, 0, none⟩, 5, [⟨0, some ⟨w1.heap.size, 0, none⟩, [-1, 0, -1], 3⟩, ⟨0, some ⟨wx1.heap.size, 0, none⟩, [-2, 0, -2], 3⟩, ⟨0, some ⟨wx2.heap.size, 0, none⟩, [-1], 1⟩, ⟨0, some ⟨wx3.heap.size, 0, none⟩, [-2], 1⟩, ⟨0, none, [], 0⟩], rfl, by omega, by omega, by simp, by simp, all_cons ⟨by simp, by simp [Sm]⟩ (all_cons ⟨by simp, by simp [Sm]⟩ (all_cons ⟨by simp, by simp [Sm]⟩ (all_cons ⟨by simp, by simp [Sm]⟩ (all_cons ⟨by simp, by simp [Sm]⟩ (all_nil))))), RulesW.lower (lo := w.heap.size + 1) ((((rulesW_row HR5.out rfl rfl (by omega) (by simp) (all_cons (ownI_lit ((((HR1.out.next HB2.out).next HB3.out).next HB4.out).next HB5.out) (by omega) (by intro i x hx; rcases i with _ | _ | _ | _ | i <;> simp at hx <;> subst hx <;> rfl)) (all_cons (ownI_lit (((HR2.out.next HB3.out).next HB4.out).next HB5.out) (by omega) (by intro i x hx; rcases i with _ | _ | _ | _ | i <;> simp at hx <;> subst hx <;> rfl)) (all_cons (ownI_lit ((HR3.out.next HB4.out).next HB5.out) (by omega) (by intro i x hx; rcases i with _ | _ | _ | _ | i <;> simp at hx <;> subst hx <;> rfl)) (all_cons (ownI_lit (HR4.out.next HB5.out) (by omega) (by intro i x hx; rcases i with _ | _ | _ | _ | i <;> simp at hx <;> subst hx <;> rfl)) (all_cons (.inl rfl) (all_nil)))))) (far_cons (by simp <;> omega) (far_cons (by simp <;> omega) (far_cons (by simp <;> omega) (far_cons (by simp <;> omega) (far_cons (by simp <;> omega) (far_nil))))))).low (by simp) _).low (by simp) _).low (by simp) _) (by omega), CurS.keep (B := w.heap.size) (((((HC1.out.keep HB1.out HC1.out.lt).keep HB2.out (HC1.out.keep HB1.out HC1.out.lt).lt).keep HB3.out ((HC1.out.keep HB1.out HC1.out.lt).keep HB2.out (HC1.out.keep HB1.out HC1.out.lt).lt).lt).keep HB4.out (((HC1.out.keep HB1.out HC1.out.lt).keep HB2.out (HC1.out.keep HB1.out HC1.out.lt).lt).keep HB3.out ((HC1.out.keep HB1.out HC1.out.lt).keep HB2.out (HC1.out.keep HB1.out HC1.out.lt).lt).lt).lt).keep HB5.out ((((HC1.out.keep HB1.out HC1.out.lt).keep HB2.out (HC1.out.keep HB1.out HC1.out.lt).lt).keep HB3.out ((HC1.out.keep HB1.out HC1.out.lt).keep HB2.out (HC1.out.keep HB1.out HC1.out.lt).lt).lt).keep HB4.out (((HC1.out.keep HB1.out HC1.out.lt).keep HB2.out (HC1.out.keep HB1.out HC1.out.lt).lt).keep HB3.out ((HC1.out.keep HB1.out HC1.out.lt).keep HB2.out (HC1.out.keep HB1.out HC1.out.lt).lt).lt).lt).lt) (by go_grown) hRw, Save.then (B := w.heap.size) (((((HS1.out.trans (Save.of_below HB1.out)).trans (Save.of_below HB2.out)).trans (Save.of_below HB3.out)).trans (Save.of_below HB4.out)).trans (Save.of_below HB5.out)) (by go_grown) (Nat.le_refl _)⟩
  by_cases e6 : x = 6
  · subst e6
    clear k0 k1 k2 f0 f1 f2
    go_wp2_with (first | (refine gen_alloc (w := w1) ?_; intro wx1 hr hb hs; have HR1 := Lib.hid hr; have HB1 := Lib.hid hb; have HZ1 := Lib.hid hs; clear hr hb hs) | (refine gen_alloc (w := wx1) ?_; intro wx2 hr hb hs; have HR2 := Lib.hid hr; have HB2 := Lib.hid hb; have HZ2 := Lib.hid hs; clear hr hb hs) | (refine gen_alloc (w := wx2) ?_; intro wx3 hr hb hs; have HR3 := Lib.hid hr; have HB3 := Lib.hid hb; have HZ3 := Lib.hid hs; clear hr hb hs) | (refine gen_alloc (w := wx3) ?_; intro wx4 hr hb hs; have HR4 := Lib.hid hr; have HB4 := Lib.hid hb; have HZ4 := Lib.hid hs; clear hr hb hs; have BXZ := Lib.hid ((((BX1.out.next HB1.out).next HB2.out).next HB3.out).next HB4.out); have F0 := BXZ.out.frozen 0; have F1 := BXZ.out.frozen 1; have F2 := BXZ.out.frozen 2; have K0 : wx4.cell? ⟨w.heap.size, 0, none⟩ = some (.int .i64 0) := BXZ.out.cell 0; have K1 : wx4.cell? ⟨w.heap.size, 1, none⟩ = some (.int .i64 0) := BXZ.out.cell 1; have K2 : wx4.cell? ⟨w.heap.size, 2, none⟩ = some (.slice none 0 0) := BXZ.out.cell 2))
    show bodyPost Tryd.prog Tryd.f148 (ToldG w R (m + 2)) Exit.ret _ _
    refine bodyPost_ret (v := .agg #[.int .i64 3, .int .i64 2, .slice (some ⟨wx3.heap.size, 0, none⟩) 5 5]) (by simp [results, Tryd.results148, go_sem, K0, K1, K2]) rfl ?_
    have z1 := HZ1.out
    have z2 := HZ2.out
    have z3 := HZ3.out
    have z4 := HZ4.out
    refine ⟨3, 2, some ⟨wx3.heap.size, 0, none⟩, 5, [⟨0, some ⟨w1.heap.size, 0, none⟩, [1, 2], 2⟩, ⟨1, some ⟨wx1.heap.size, 0, none⟩, [-1, 1], 2⟩, ⟨1, none, [], 0⟩, ⟨2, some ⟨wx2.heap.size, 0, none⟩, [-2, 2], 2⟩, ⟨2, none, [], 0⟩], rfl, by omega, by omega, by simp, by simp, all_cons ⟨by simp, by simp [Sm]⟩ (all_cons ⟨by simp, by simp [Sm]⟩ (all_cons ⟨by simp, by simp [Sm]⟩ (all_cons ⟨by simp, by simp [Sm]⟩ (all_cons ⟨by simp, by simp [Sm]⟩ (all_nil))))), RulesW.lower (lo := w.heap.size + 1) ((((rulesW_row HR4.out rfl rfl (by omega) (by simp) (all_cons (ownI_lit (((HR1.out.next HB2.out).next HB3.out).next HB4.out) (by omega) (by intro i x hx; rcases i with _ | _ | _ | _ | i <;> simp at hx <;> subst hx <;> rfl)) (all_cons (ownI_lit ((HR2.out.next HB3.out).next HB4.out) (by omega) (by intro i x hx; rcases i with _ | _ | _ | _ | i <;> simp at hx <;> subst hx <;> rfl)) (all_cons (.inl rfl) (all_cons (ownI_lit (HR3.out.next HB4.out) (by omega) (by intro i x hx; rcases i with _ | _ | _ | _ | i <;> simp at hx <;> subst hx <;> rfl)) (all_cons (.inl rfl) (all_nil)))))) (far_cons (by simp <;> omega) (far_cons (by simp <;> omega) (far_cons (by simp <;> omega) (far_cons (by simp <;> omega) (far_cons (by simp <;> omega) (far_nil))))))).low (by simp) _).low (by simp) _).low (by simp) _) (by omega), CurS.keep (B := w.heap.size) ((((HC1.out.keep HB1.out HC1.out.lt).keep HB2.out (HC1.out.keep HB1.out HC1.out.lt).lt).keep HB3.out ((HC1.out.keep HB1.out HC1.out.lt).keep HB2.out (HC1.out.keep HB1.out HC1.out.lt).lt).lt).keep HB4.out (((HC1.out.keep HB1.out HC1.out.lt).keep HB2.out (HC1.out.keep HB1.out HC1.out.lt).lt).keep HB3.out ((HC1.out.keep HB1.out HC1.out.lt).keep HB2.out (HC1.out.keep HB1.out HC1.out.lt).lt).lt).lt) (by go_grown) hRw, Save.then (B := w.heap.size) ((((HS1.out.trans (Save.of_below HB1.out)).trans (Save.of_below HB2.out)).trans (Save.of_below HB3.out)).trans (Save.of_below HB4.out)) (by go_grown) (Nat.le_refl _)⟩
  clear k0 k1 k2 f0 f1 f2
  go_wp2_with (first | (refine gen_alloc (w := w1) ?_; intro wx1 hr hb hs; have HR1 := Lib.hid hr; have HB1 := Lib.hid hb; have HZ1 := Lib.hid hs; clear hr hb hs) | (refine gen_alloc (w := wx1) ?_; intro wx2 hr hb hs; have HR2 := Lib.hid hr; have HB2 := Lib.hid hb; have HZ2 := Lib.hid hs; clear hr hb hs) | (refine gen_alloc (w := wx2) ?_; intro wx3 hr hb hs; have HR3 := Lib.hid hr; have HB3 := Lib.hid hb; have HZ3 := Lib.hid hs; clear hr hb hs) | (refine gen_alloc (w := wx3) ?_; intro wx4 hr hb hs; have HR4 := Lib.hid hr; have HB4 := Lib.hid hb; have HZ4 := Lib.hid hs; clear hr hb hs; have BXZ := Lib.hid ((((BX1.out.next HB1.out).next HB2.out).next HB3.out).next HB4.out); have F0 := BXZ.out.frozen 0; have F1 := BXZ.out.frozen 1; have F2 := BXZ.out.frozen 2; have K0 : wx4.cell? ⟨w.heap.size, 0, none⟩ = some (.int .i64 0) := BXZ.out.cell 0; have K1 : wx4.cell? ⟨w.heap.size, 1, none⟩ = some (.int .i64 0) := BXZ.out.cell 1; have K2 : wx4.cell? ⟨w.heap.size, 2, none⟩ = some (.slice none 0 0) := BXZ.out.cell 2))
  show bodyPost Tryd.prog Tryd.f148 (ToldG w R (m + 2)) Exit.ret _ _
  refine bodyPost_ret (v := .agg #[.int .i64 2, .int .i64 2, .slice (some ⟨wx3.heap.size, 0, none⟩) 3 3]) (by simp [results, Tryd.results148, go_sem, K0, K1, K2]) rfl ?_
  have z1 := HZ1.out
  have z2 := HZ2.out
  have z3 := HZ3.out
  have z4 := HZ4.out
  refine ⟨2, 2, some ⟨wx3.heap.size, 0, none⟩, 3, [⟨0, some ⟨w1.heap.size, 0, none⟩, [0, 0], 2⟩, ⟨0, some ⟨wx1.heap.size, 0, none⟩, [-1], 1⟩, ⟨1, some ⟨wx2.heap.size, 0, none⟩, [-2, 1], 2⟩], rfl, by omega, by omega, by simp, by simp, all_cons ⟨by simp, by simp [Sm]⟩ (all_cons ⟨by simp, by simp [Sm]⟩ (all_cons ⟨by simp, by simp [Sm]⟩ (all_nil))), RulesW.lower (lo := w.heap.size + 1) ((((rulesW_row HR4.out rfl rfl (by omega) (by simp) (all_cons (ownI_lit (((HR1.out.next HB2.out).next HB3.out).next HB4.out) (by omega) (by intro i x hx; rcases i with _ | _ | _ | _ | i <;> simp at hx <;> subst hx <;> rfl)) (all_cons (ownI_lit ((HR2.out.next HB3.out).next HB4.out) (by omega) (by intro i x hx; rcases i with _ | _ | _ | _ | i <;> simp at hx <;> subst hx <;> rfl)) (all_cons (ownI_lit (HR3.out.next HB4.out) (by omega) (by intro i x hx; rcases i with _ | _ | _ | _ | i <;> simp at hx <;> subst hx <;> rfl)) (all_nil)))) (far_cons (by simp <;> omega) (far_cons (by simp <;> omega) (far_cons (by simp <;> omega) (far_nil))))).low (by simp) _).low (by simp) _).low (by simp) _) (by omega), CurS.keep (B := w.heap.size) ((((HC1.out.keep HB1.out HC1.out.lt).keep HB2.out (HC1.out.keep HB1.out HC1.out.lt).lt).keep HB3.out ((HC1.out.keep HB1.out HC1.out.lt).keep HB2.out (HC1.out.keep HB1.out HC1.out.lt).lt).lt).keep HB4.out (((HC1.out.keep HB1.out HC1.out.lt).keep HB2.out (HC1.out.keep HB1.out HC1.out.lt).lt).keep HB3.out ((HC1.out.keep HB1.out HC1.out.lt).keep HB2.out (HC1.out.keep HB1.out HC1.out.lt).lt).lt).lt) (by go_grown) hRw, Save.then (B := w.heap.size) ((((HS1.out.trans (Save.of_below HB1.out)).trans (Save.of_below HB2.out)).trans (Save.of_below HB3.out)).trans (Save.of_below HB4.out)) (by go_grown) (Nat.le_refl _)⟩

end Go.Proofs.YtacehfjhpnplbaaDoor

/- The reference's cursor: grammar. -/

namespace Go.Proofs.YtacehfjhpnplbaaDoor
open Go.RowKit

theorem Save.narrow {w w' : World} {R B : Nat} (h : Save (fun b => b = R ∨ B ≤ b) w w') (hB : w.heap.size ≤ B) : Save (· = R) w w' :=
  ⟨h.os, h.tape, h.output, h.size, fun i hi hn => h.block i hi (fun e => e.elim hn (fun e => by omega))⟩
theorem Save.wide {w w' : World} {R B : Nat} (h : Save (· = R) w w') : Save (fun b => b = R ∨ B ≤ b) w w' := h.wider fun _ e => .inl e
theorem Save.thenW {w w' w'' : World} {R B : Nat} (h : Save (fun b => b = R ∨ B ≤ b) w w') (k : Below B w' w'') : Save (fun b => b = R ∨ B ≤ b) w w'' :=
  ⟨k.os.trans h.os, k.tape.trans h.tape, k.output.trans h.output, Nat.le_trans h.size k.size, fun i hi hn => (k.block i (by omega)).trans (h.block i hi hn)⟩
theorem Sm.snoc {xs : List Int} {y : Int} (h : Sm xs) (hy : -70000 ≤ y ∧ y ≤ 70000) : Sm (xs ++ [y]) := by
  intro x hx
  rcases List.mem_append.1 hx with h1 | h1
  · exact h x h1
  · simp at h1; subst h1; exact hy
theorem SmR.snoc {ds : List Ru} {u : Ru} (h : SmR ds) (h1 : u.r.length ≤ 4) (h2 : Sm u.r) : SmR (ds ++ [u]) := by
  intro x hx
  rcases List.mem_append.1 hx with h3 | h3
  · exact h x h3
  · simp at h3; subst h3; exact ⟨h1, h2⟩

set_option maxRecDepth 20000 in
set_option maxHeartbeats 8000000 in
theorem curGrammar_any (R m : Nat) (w : World) (h : CurS w R m) (hm : m ≤ 990000) :
    Calls Tryd.prog 110 #[.pointer (some ⟨R, 0, none⟩)] w (ToldG w R (m + 200)) := by
  obtain ⟨i0, hi0, hz0, hz1, hz2⟩ := info_of Tryd.infoInt
  have HC := Lib.hid h; clear h
  have hRw := HC.out.lt
  have HB0 : Hid (Below w.heap.size w (w.alloc (.cells #[.int .i64 0, .int .i64 0, .slice none 0 0] 26))) := by show Below _ _ _; go_grown
  have BX0 := Lib.hid (Row.new w 26 #[.int .i64 0, .int .i64 0, .slice none 0 0])
  have HC0 := Lib.hid (HC.out.keep HB0.out HC.out.lt)
  have HS0 : Hid (Save (· = R) w (w.alloc (.cells #[.int .i64 0, .int .i64 0, .slice none 0 0] 26))) := Save.of_below HB0.out
  go_enter Tryd.func110, Tryd.ntmps110
  go_wp2_with fail
  refine (curOne_any R m _ _ HC0.out (by omega) (by omega)).mono ?_
  rintro _ w1 ⟨b, rfl, hC1, hS1⟩
  have BX1 := Lib.hid (BX0.out.save hS1 (by omega))
  have hs1 : w.heap.size < w1.heap.size := BX1.out.lt
  have HC1 := Lib.hid hC1; clear hC1
  have HS1 := Lib.hid (HS0.out.trans hS1); clear hS1
  clear HB0 BX0 HC0 HS0
  cases b with
  | true =>
    go_wp2_with fail
    refine (curKnown_any R _ _ HC1.out (by omega)).mono ?_
    rintro _ w2 ⟨n, t, A, c, rs, rfl, hn, ht, hr1, hr2, hsm, hRU, hC2, hS2⟩
    have BX2 := Lib.hid (BX1.out.save hS2 (by omega))
    have HS2 := Lib.hid (HS1.out.trans hS2)
    have HRU := Lib.hid (hRU.lower (show w.heap.size + 1 ≤ w1.heap.size from hs1)); clear hRU
    have HC2 := Lib.hid hC2; clear hC2 hS2
    have HSM := Lib.hid hsm; clear hsm
    have f0 := BX2.out.frozen 0
    have f1 := BX2.out.frozen 1
    have f2 := BX2.out.frozen 2
    have k0 : w2.cell? ⟨w.heap.size, 0, none⟩ = some (.int .i64 0) := BX2.out.cell 0
    have k1 : w2.cell? ⟨w.heap.size, 1, none⟩ = some (.int .i64 0) := BX2.out.cell 1
    have k2 : w2.cell? ⟨w.heap.size, 2, none⟩ = some (.slice none 0 0) := BX2.out.cell 2
    go_wp2
    refine bodyPost_ret (v := .agg #[.int .i64 n, .int .i64 t, .slice A rs.length c]) (by simp [results, Tryd.results110, go_sem, k0, k1, k2]) rfl ?_
    refine ⟨n, t, A, c, rs, rfl, hn, ht, hr1, hr2, HSM.out, ?_, ?_, ?_⟩
    · exact (((HRU.out.low (by simp) _).low (by simp) _).low (by simp) _).lower (by omega)
    · exact (HC2.out.keep (B := w.heap.size) (by go_grown) hRw).mono (by omega)
    · exact HS2.out.then (B := w.heap.size) (by go_grown) (Nat.le_refl _)
  | false =>
    go_wp2_with fail
    refine (curPick_any R _ _ _ HC1.out (by omega) (by omega)).mono ?_
    rintro _ w2 ⟨x, rfl, hx, hC2, hS2⟩
    have hx1 : 0 ≤ x ∧ x ≤ 2 := by have := hx.1; have := hx.2.2; omega
    have BX2 := Lib.hid (BX1.out.save hS2 (by omega))
    have HS2 := Lib.hid (HS1.out.trans hS2)
    have HC2 := Lib.hid hC2; clear hC2 hS2 hx
    clear BX1 HS1 HC1 hs1
    go_wp2_with fail
    refine (curPick_any R _ _ _ HC2.out (by omega) (by omega)).mono ?_
    rintro _ w3 ⟨y, rfl, hy, hC3, hS3⟩
    have hy1 : 0 ≤ y ∧ y ≤ 1 := by have := hy.1; have := hy.2.2; omega
    have BX3 := Lib.hid (BX2.out.save hS3 (by omega))
    have HS3 := Lib.hid (HS2.out.trans hS3)
    have HC3 := Lib.hid hC3; clear hC3 hS3 hy
    clear BX2 HS2 HC2
    have hs3 := BX3.out.lt
    obtain ⟨n, en⟩ : ∃ n, n = 1 + x := ⟨_, rfl⟩
    obtain ⟨t, et⟩ : ∃ t, t = 1 + y := ⟨_, rfl⟩
    have hn : 1 ≤ n ∧ n ≤ 3 := by omega
    have ht : 1 ≤ t ∧ t ≤ 2 := by omega
    obtain ⟨hn0, hn1⟩ := hn
    obtain ⟨ht0, ht1⟩ := ht
    go_wp2_with fail
    rw [← en, ← et]
    clear en et hx1 hy1
    have HB4 : Hid (Below w3.heap.size w3 (w3.alloc (.cells #[.int .i64 n, .int .i64 t, .slice none 0 0] 26))) := below_new _ _
    have GX4 := Lib.hid (Row.new w3 26 #[.int .i64 n, .int .i64 t, .slice none 0 0])
    have BX4 := Lib.hid (BX3.out.below HB4.out hs3)
    have HC4 := Lib.hid (HC3.out.keep HB4.out (by omega))
    have HS4 : Hid (Save (· = R) w (w3.alloc (.cells #[.int .i64 n, .int .i64 t, .slice none 0 0] 26))) := HS3.out.trans (Save.of_below HB4.out)
    generalize w3.alloc (.cells #[.int .i64 n, .int .i64 t, .slice none 0 0] 26) = w4 at GX4 BX4 HC4 HS4 ⊢
    clear BX3 HC3 HS3 HB4
    refine (curPick_any R _ _ _ HC4.out (by omega) (by omega)).mono ?_
    rintro _ w5 ⟨z, rfl, hz, hC5, hS5⟩
    obtain ⟨k0, hk0⟩ : ∃ k0 : Nat, z = (k0 : Int) := ⟨z.toNat, by have := hz.1; omega⟩
    subst hk0
    have hk5 : k0 ≤ 5 := by have := hz.2.2; omega
    have GX5 := Lib.hid (GX4.out.save hS5 (by omega))
    have BX5 := Lib.hid (BX4.out.save hS5 (by omega))
    have HS5 := Lib.hid (HS4.out.trans hS5)
    have HC5 := Lib.hid hC5; clear hC5 hS5 hz
    clear GX4 BX4 HS4 HC4
    have hs5 := GX5.out.lt
    go_wp2_with fail
    go_loopw [4] (fun i wr => ∃ (k : Nat) (ds : List Ru) (Av : Option Addr) (cv : Nat), i = .int .i64 k ∧ ds.length + k ≤ 6 ∧ (0 < k ∨ 0 < ds.length) ∧ w3.heap.size < wr.heap.size ∧ Hid (Row wr w.heap.size 26 #[.int .i64 0, .int .i64 0, .slice none 0 0]) ∧ Hid (Row wr w3.heap.size 26 #[.int .i64 n, .int .i64 t, .slice Av ds.length cv]) ∧ Hid (RulesW wr (w3.heap.size + 1) (.slice Av ds.length cv) ds) ∧ Hid (SmR ds) ∧ Hid (CurS wr R (m + 8 + (6 - k) * 22)) ∧ Hid (Save (· = R) w wr)) (fun i _ => (intOf i).toNat)
    case atStart => exact ⟨k0 + 1, [], none, 0, by go_num, by simp; omega, by omega, hs5, BX5.out, GX5.out, RulesW.start _ _, (fun u hu => by simp at hu), HC5.out.mono (by omega), HS5.out⟩
    case round =>
      clear GX5 BX5 HS5 HC5 hs5
      obtain ⟨k, ds, Av, cv, rfl, hdk, hpos, hsr, BX, GX, RU, SM, HCr, HSr⟩ := hrel
      obtain ⟨wA, hA⟩ : ∃ x, x = wr := ⟨_, rfl⟩
      subst hA
      by_cases hk : 0 < k
      · clear hpos
        have b0 : wA.cell? ⟨w3.heap.size, 0, none⟩ = some (.int .i64 n) := GX.out.cell 0
        go_wp2_with fail
        refine (curPick_any R _ _ _ HCr.out (by omega) (by omega)).mono ?_
        rintro _ w6 ⟨l, rfl, hl, hC6, hS6⟩
        have HL := Lib.hid hl; clear hl
        have HC6 := Lib.hid hC6; clear hC6
        have hs6 : w3.heap.size < w6.heap.size := Nat.lt_of_lt_of_le hsr hS6.size
        have hsA : wA.heap.size ≤ w6.heap.size := hS6.size
        have HS6 := Lib.hid hS6; clear hS6
        clear b0
        go_wp2_with fail
        have HB7 : Hid (Below w6.heap.size w6 (w6.alloc (.cells #[.int .i64 l, .slice none 0 0] 64))) := below_new _ _
        have R57 := Lib.hid (Row.new w6 64 #[.int .i64 l, .slice none 0 0])
        have HC7 := Lib.hid (HC6.out.keep HB7.out HC6.out.lt)
        have HS7 : Hid (Save (fun b => b = R ∨ w6.heap.size ≤ b) wA (w6.alloc (.cells #[.int .i64 l, .slice none 0 0] 64))) := HS6.out.wide.thenW HB7.out
        generalize w6.alloc (.cells #[.int .i64 l, .slice none 0 0] 64) = w7 at R57 HC7 HS7 ⊢
        clear HB7 HC6 HS6
        refine (curPick_any R _ _ _ HC7.out (by omega) (by omega)).mono ?_
        rintro _ w8 ⟨q, rfl, hq, hC8, hS8⟩
        obtain ⟨j0, hj0⟩ : ∃ j0 : Nat, q = (j0 : Int) := ⟨q.toNat, by have := hq.1; omega⟩
        subst hj0
        have hj3 : j0 ≤ 3 := by have := hq.2.2; omega
        have R58 := Lib.hid (R57.out.save hS8 (by have := HC7.out.lt; omega))
        have HC8 := Lib.hid hC8
        have HS8 := Lib.hid (HS7.out.trans hS8.wide)
        clear hC8 hS8 hq R57 HC7 HS7
        have hs8 := R58.out.lt
        go_wp2_with fail
        go_loopw [6] (fun i wr => ∃ (j : Nat) (xs : List Int) (Ax : Option Addr) (cx : Nat), i = .int .i64 j ∧ xs.length + j ≤ 3 ∧ w6.heap.size < wr.heap.size ∧ Hid (Row wr w6.heap.size 64 #[.int .i64 l, .slice Ax xs.length cx]) ∧ Hid (wr.ownsRow (w6.heap.size + 1) 3 1 (.slice Ax xs.length cx) xs.length (xs.map fun y => Value.int .i64 y)) ∧ Hid (Sm xs) ∧ Hid (CurS wr R (m + 8 + (6 - k) * 22 + 4 + (3 - j) * 6)) ∧ Hid (Save (fun b => b = R ∨ w6.heap.size ≤ b) wA wr)) (fun i _ => (intOf i).toNat)
        case atStart => exact ⟨j0, [], none, 0, rfl, by simp; omega, hs8, R58.out, ⟨rfl, .inl ⟨rfl, rfl⟩⟩, (fun u hu => by simp at hu), HC8.out.mono (by omega), HS8.out⟩
        case round =>
          clear R58 HC8 HS8 hs8
          obtain ⟨j, xs, Ax, cx, rfl, hxj, hs9, R5, HO, HXS, HC9, HS9⟩ := hrel
          obtain ⟨wB, hB⟩ : ∃ x, x = wr := ⟨_, rfl⟩
          subst hB
          by_cases hj : 0 < j
          · have GXB := Lib.hid (GX.out.save HS9.out (by omega))
            have b0 : wB.cell? ⟨w3.heap.size, 0, none⟩ = some (.int .i64 n) := GXB.out.cell 0
            go_wp2_with fail
            refine (curPick_any R _ _ _ HC9.out (by omega) (by omega)).mono ?_
            rintro _ w9 ⟨p, rfl, hp, hC, hS⟩
            have hp0 : 0 ≤ p := hp.1
            have hp1 : p ≤ 65535 := hp.2.1
            have HO9 := Lib.hid (own_save HO.out hS (by intro b hb; omega))
            have R59 := Lib.hid (R5.out.save hS (by omega))
            have HS10 := Lib.hid (HS9.out.trans hS.wide)
            have HC10 := Lib.hid hC
            clear hp hC hS HO R5 HS9 HC9 b0 GXB
            go_wp2_with fail
            refine (curOne_any R _ _ _ HC10.out (by omega) (by omega)).mono ?_
            rintro _ w10 ⟨b, rfl, hC, hS⟩
            have HOW := Lib.hid (own_save HO9.out hS (by intro b hb; omega))
            have HRW5 := Lib.hid (R59.out.save hS (by omega))
            have HSW := Lib.hid (HS10.out.trans hS.wide)
            have HCW := Lib.hid hC
            clear hC hS HO9 R59 HS10 HC10
            have hsW := HRW5.out.lt
            cases b with
            | false =>
              have HYW : Hid (-70000 ≤ p ∧ p ≤ 70000) := ⟨by omega, by omega⟩
              have b5 : w10.cell? ⟨w6.heap.size, 1, none⟩ = some (.slice Ax xs.length cx) := HRW5.out.cell 1
              have f5 := HRW5.out.frozen 1
              have hown := HOW.out.alloc (.cells #[.int .i64 p] 3)
              have HWn := Lib.hid hown; clear hown
              have hnew := cell_one_new w10 (.int .i64 p) 3
              have HNW := Lib.hid hnew; clear hnew
              go_wp2_with (at_builtin
                           refine wpList_append_own _ rfl (.tmp 49) (.tmp 51) _ rfl (w6.heap.size + 1) 3 i0 _ 1 8 Tryd.underlying34 hi0 hz0 hz1 hz2 rfl (by omega) _ _ _ rfl HWn.out ⟨w10.heap.size, 0, none⟩ 1 1 [.int .i64 p] rfl rfl HNW.out (by intro u hu; simp at hu; subst hu; rfl) (by unfold maxLen; omega) (by omega) (by simp; omega) ?_
                           intro v' w' h1 h2 h3
                           obtain ⟨Ay, cy, rfl⟩ := own_slice h1
                           have HO1 := Lib.hid h1
                           have hBn : Below (w6.heap.size + 1) w10 w' := ((Below.refl _ _).alloc (by omega) _).grown h2 (by simp; omega) fun j hj => (HOW.out.lt j hj).1
                           have HBn := Lib.hid hBn
                           have HR5n := Lib.hid (HRW5.out.below hBn (by omega))
                           clear h1 h2 h3 hBn b5 f5
                           have b5 : w'.cell? ⟨w6.heap.size, 1, none⟩ = some (.slice Ax xs.length cx) := HR5n.out.cell 1
                           have f5 := HR5n.out.frozen 1)
              have hsn := HBn.out.size
              go_roundw
              case rel =>
                refine ⟨j - 1, xs ++ [p], Ay, cy, by go_num, by simp; omega, by simp; omega, ?_, ?_, HXS.out.snoc HYW.out, ?_, ?_⟩
                · show Row _ _ _ _
                  rw [List.length_append]
                  exact HR5n.out.set 1 _
                · show World.ownsRow _ _ _ _ _ _ _
                  have h5 : (⟨w6.heap.size, 1, none⟩ : Addr).block < w6.heap.size + 1 := by simp
                  have := ownsRow_setCell_below HO1.out h5 (.slice Ay (xs.length + 1) cy)
                  simpa using this
                · exact (HCW.out.keep (B := w6.heap.size) ((HBn.out.mono (by omega)).setCell (by simp) _) (by omega)).mono (by omega)
                · exact HSW.out.thenW (B := w6.heap.size) ((HBn.out.mono (by omega)).setCell (by simp) _)
              case measure => simp [intOf]; omega
            | true =>
              have GXC := Lib.hid (GX.out.save HSW.out (by omega))
              have b1 : w10.cell? ⟨w3.heap.size, 1, none⟩ = some (.int .i64 t) := GXC.out.cell 1
              go_wp2_with fail
              refine (curPick_any R _ _ _ HCW.out (by omega) (by omega)).mono ?_
              rintro _ w11 ⟨y2, rfl, hy, hC, hS⟩
              have hy0 : 0 ≤ y2 := hy.1
              have hy1 : y2 ≤ 65535 := hy.2.1
              obtain ⟨wC, hCC⟩ : ∃ x, x = w10 := ⟨_, rfl⟩
              have HOW' := Lib.hid (own_save HOW.out hS (by intro b hb; omega))
              have HRW5' := Lib.hid (HRW5.out.save hS (by omega))
              have HSW' := Lib.hid (HSW.out.trans hS.wide)
              have HCW' := Lib.hid hC
              clear hC hS HOW HRW5 HSW HCW GXC b1 hy hCC hsW
              have HOW := HOW'
              have HRW5 := HRW5'
              have HSW := HSW'
              have HCW := HCW'
              clear HOW' HRW5' HSW' HCW'
              have hsW := HRW5.out.lt
              have HYW : Hid (-70000 ≤ -1 - y2 ∧ -1 - y2 ≤ 70000) := ⟨by omega, by omega⟩
              have b5 : w11.cell? ⟨w6.heap.size, 1, none⟩ = some (.slice Ax xs.length cx) := HRW5.out.cell 1
              have f5 := HRW5.out.frozen 1
              have hown := HOW.out.alloc (.cells #[.int .i64 (-1 - y2)] 3)
              have HWn := Lib.hid hown; clear hown
              have hnew := cell_one_new w11 (.int .i64 (-1 - y2)) 3
              have HNW := Lib.hid hnew; clear hnew
              go_wp2_with (at_builtin
                           refine wpList_append_own _ rfl (.tmp 49) (.tmp 51) _ rfl (w6.heap.size + 1) 3 i0 _ 1 8 Tryd.underlying34 hi0 hz0 hz1 hz2 rfl (by omega) _ _ _ rfl HWn.out ⟨w11.heap.size, 0, none⟩ 1 1 [.int .i64 (-1 - y2)] rfl rfl HNW.out (by intro u hu; simp at hu; subst hu; rfl) (by unfold maxLen; omega) (by omega) (by simp; omega) ?_
                           intro v' w' h1 h2 h3
                           obtain ⟨Ay, cy, rfl⟩ := own_slice h1
                           have HO1 := Lib.hid h1
                           have hBn : Below (w6.heap.size + 1) w11 w' := ((Below.refl _ _).alloc (by omega) _).grown h2 (by simp; omega) fun j hj => (HOW.out.lt j hj).1
                           have HBn := Lib.hid hBn
                           have HR5n := Lib.hid (HRW5.out.below hBn (by omega))
                           clear h1 h2 h3 hBn b5 f5
                           have b5 : w'.cell? ⟨w6.heap.size, 1, none⟩ = some (.slice Ax xs.length cx) := HR5n.out.cell 1
                           have f5 := HR5n.out.frozen 1)
              have hsn := HBn.out.size
              go_roundw
              case rel =>
                refine ⟨j - 1, xs ++ [-1 - y2], Ay, cy, by go_num, by simp; omega, by simp; omega, ?_, ?_, HXS.out.snoc HYW.out, ?_, ?_⟩
                · show Row _ _ _ _
                  rw [List.length_append]
                  exact HR5n.out.set 1 _
                · show World.ownsRow _ _ _ _ _ _ _
                  have h5 : (⟨w6.heap.size, 1, none⟩ : Addr).block < w6.heap.size + 1 := by simp
                  have := ownsRow_setCell_below HO1.out h5 (.slice Ay (xs.length + 1) cy)
                  simpa using this
                · exact (HCW.out.keep (B := w6.heap.size) ((HBn.out.mono (by omega)).setCell (by simp) _) (by omega)).mono (by omega)
                · exact HSW.out.thenW (B := w6.heap.size) ((HBn.out.mono (by omega)).setCell (by simp) _)
              case measure => simp [intOf]; omega
          · obtain rfl : j = 0 := by omega
            have GXB := Lib.hid (GX.out.save HS9.out (by omega))
            have BXB := Lib.hid (BX.out.save HS9.out (by omega))
            have RUB := Lib.hid (RU.out.saveB HS9.out (by intro b h1 h2 h3; omega))
            have b2 : wB.cell? ⟨w3.heap.size, 2, none⟩ = some (.slice Av ds.length cv) := GXB.out.cell 2
            have b3 : wB.cell? ⟨w6.heap.size, 0, none⟩ = some (.int .i64 l) := R5.out.cell 0
            have b4 : wB.cell? ⟨w6.heap.size, 1, none⟩ = some (.slice Ax xs.length cx) := R5.out.cell 1
            obtain ⟨Ax', cx', e1, hOI⟩ := ownI_of_row HO.out
            injection e1 with e2 e3 e4
            subst e2 e4
            have HOI := Lib.hid (hOI.lower (lo' := wA.heap.size) (by omega))
            clear hOI e3
            have HAP := Lib.hid (RU.out.apart HOI.out)
            go_wp2_with fail
            refine (l1Put2_full (w3.heap.size + 1) Av cv ds l Ax xs cx wB RUB.out (HOI.out.lower (by omega)) HAP.out (by omega) (by omega) (by omega)).mono ?_
            rintro _ w12 ⟨A', c', ds', rfl, hRU, hds, hpos, hS⟩
            have RU12 := Lib.hid hRU
            have GX12 := Lib.hid (GXB.out.save hS (by omega))
            have BX12 := Lib.hid (BXB.out.save hS (by omega))
            have HC12 := Lib.hid (HC9.out.keep (hS.below (B := w3.heap.size + 1) (by omega) (by intro i hi; omega)) (by omega))
            have HSn : Hid (Save (· = R) w w12) := by
              show Save _ _ _
              exact (HSr.out.trans (HS9.out.narrow (by omega))).then (hS.below (B := w3.heap.size + 1) (by omega) (by intro i hi; omega)) (by omega)
            have hs12 := GX12.out.lt
            have SM12 : Hid (SmR ds' ∧ ds'.length ≤ ds.length + 1) := by
              rcases hds with e | e
              · subst e; exact ⟨SM.out, by omega⟩
              · subst e; exact ⟨SM.out.snoc (by show xs.length ≤ 4; omega) HXS.out, by simp⟩
            have hd12 := SM12.out.2
            clear hRU hS hds b2 b3 b4 RUB GXB BXB HC9 HS9 HO R5 HOI HAP
            have b2 : w12.cell? ⟨w3.heap.size, 2, none⟩ = some (.slice Av ds.length cv) := GX12.out.cell 2
            have f2 := GX12.out.frozen 2
            go_wp2
            go_roundw
            case rel =>
              refine ⟨k - 1, ds', A', c', by go_num, by omega, by omega, by simp; omega, ?_, ?_, ?_, SM12.out.1, ?_, ?_⟩
              · exact BX12.out.far (by simp; omega) _
              · exact GX12.out.set 2 _
              · exact RU12.out.low (by simp) _
              · exact (HC12.out.keep (B := w.heap.size) (by go_grown) hRw).mono (by omega)
              · exact HSn.out.then (B := w.heap.size) (by go_grown) (Nat.le_refl _)
            case measure => simp [intOf]; omega
      · obtain rfl : k = 0 := by omega
        have b0 : wA.cell? ⟨w3.heap.size, 0, none⟩ = some (.int .i64 n) := GX.out.cell 0
        have b1 : wA.cell? ⟨w3.heap.size, 1, none⟩ = some (.int .i64 t) := GX.out.cell 1
        have b2 : wA.cell? ⟨w3.heap.size, 2, none⟩ = some (.slice Av ds.length cv) := GX.out.cell 2
        have f0 := BX.out.frozen 0
        have f1 := BX.out.frozen 1
        have f2 := BX.out.frozen 2
        have k0 : wA.cell? ⟨w.heap.size, 0, none⟩ = some (.int .i64 0) := BX.out.cell 0
        have k1 : wA.cell? ⟨w.heap.size, 1, none⟩ = some (.int .i64 0) := BX.out.cell 1
        have k2 : wA.cell? ⟨w.heap.size, 2, none⟩ = some (.slice none 0 0) := BX.out.cell 2
        go_wp2
        show bodyPost Tryd.prog Tryd.f110 (ToldG w R (m + 200)) Exit.ret _ _
        refine bodyPost_ret (v := .agg #[.int .i64 n, .int .i64 t, .slice Av ds.length cv]) (by simp [results, Tryd.results110, go_sem, k0, k1, k2]) rfl ?_
        refine ⟨n, t, Av, cv, ds, rfl, by omega, by omega, by omega, by omega, SM.out, ?_, ?_, ?_⟩
        · exact (((RU.out.low (by simp; omega) _).low (by simp; omega) _).low (by simp; omega) _).lower (by omega)
        · exact (HCr.out.keep (B := w.heap.size) (by go_grown) hRw).mono (by omega)
        · exact HSr.out.then (B := w.heap.size) (by go_grown) (Nat.le_refl _)

end Go.Proofs.YtacehfjhpnplbaaDoor
