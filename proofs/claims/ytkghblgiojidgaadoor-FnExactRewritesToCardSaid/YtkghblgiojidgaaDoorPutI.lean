/- The program's putRight. -/
import Derived.Test.YtkghblgiojidgaaDoorCat
import Derived.Test.YtkghblgiojidgaaDoorImplGood3
import Derived.Test.YtkghblgiojidgaaDoorSets
import Derived.StillTailTactics
namespace Go.Proofs.YtkghblgiojidgaaDoor
open Go.RowKit
open Go.Sort (grow)

theorem wrap_nat {m : Nat} (h : m ≤ 1048576) : IntKind.i64.wrap (m : Int) = (m : Int) := by simp [IntKind.wrap, IntKind.bits, IntKind.signed]; omega
/-- The number of a rule. -/
def ruleB (m : Nat) (x : Int) : Bool := decide (0 ≤ x ∧ x < (m : Int))
set_option maxHeartbeats 400000 in
theorem isRule_any (n t x : Int) (A : Option Addr) (m c : Nat) (w : World) :
    Calls Tryd.prog 112 #[.agg #[.int .i64 n, .int .i64 t, .slice A m c], .int .i64 x] w fun e w' => e = .returned (.bool (ruleB m x)) ∧ Below w.heap.size w w' := by
  have HB : Hid (Below w.heap.size w (w.alloc (.cells #[.int .i64 n, .int .i64 t, .slice A m c] 30))) := by show Below _ _ _; go_grown
  by_cases h1 : 0 ≤ x
  · by_cases h2 : x < (m : Int)
    · have HE : Hid (ruleB m x = true) := decide_eq_true ⟨h1, h2⟩
      go_enter Tryd.func112, Tryd.ntmps112
      go_wp2
      go_ret
      exact ⟨ret_bool HE.out.symm, HB.out⟩
    · have HE : Hid (ruleB m x = false) := decide_eq_false (by omega)
      go_enter Tryd.func112, Tryd.ntmps112
      go_wp2
      go_ret
      exact ⟨ret_bool HE.out.symm, HB.out⟩
  · have HE : Hid (ruleB m x = false) := decide_eq_false (by omega)
    go_enter Tryd.func112, Tryd.ntmps112
    go_wp2
    go_ret
    exact ⟨ret_bool HE.out.symm, HB.out⟩

/-- A form with a right side in place of the symbol at i. -/
def stepL (xs : List Int) (i : Nat) (right : List Int) : List Int := xs.take i ++ right ++ xs.drop (i + 1)
/-- One step, where the rule is one, its left side stands there, and the form is not too long. -/
def stepV (ss : List (Int × List Int)) (xs : List Int) (i : Nat) (x : Int) : Option (List Int) :=
  match ss[x.toNat]? with
  | some u => if 0 ≤ x ∧ xs[i]? = some u.1 ∧ (stepL xs i u.2).length ≤ 40 then some (stepL xs i u.2) else none
  | none => none
theorem stepV_none {ss : List (Int × List Int)} {xs : List Int} {i : Nat} {x : Int} (h : ruleB ss.length x = false) : stepV ss xs i x = none := by
  unfold stepV
  have h1 := of_decide_eq_false h
  cases e : ss[x.toNat]? with
  | none => rfl
  | some u =>
    have := (List.getElem?_eq_some_iff.1 e).1
    exact if_neg fun h => h1 ⟨h.1, by omega⟩
theorem stepV_at {ss : List (Int × List Int)} {xs : List Int} {i k : Nat} {u : Int × List Int} (h : ss[k]? = some u) : stepV ss xs i (k : Int) = if xs[i]? = some u.1 ∧ (stepL xs i u.2).length ≤ 40 then some (stepL xs i u.2) else none := by
  unfold stepV
  rw [Int.toNat_natCast, h]
  simp
/-- A list and true, or none and false. -/
def GaveO (w : World) (o : Option (List Int)) (e : Ending) (w' : World) : Prop :=
  ∃ A ys c b, e = .returned (.tuple #[.slice A ys.length c, .bool b]) ∧ ys = o.getD [] ∧ b = o.isSome ∧ OwnI w' w.heap.size A ys ∧ ys.length ≤ c ∧ Below w.heap.size w w'

theorem Ints.pre {w : World} {B : Nat} {A : Option Addr} {xs : List Int} (h : Ints w B A xs) (i : Nat) : Ints w B A (xs.take i) := fun hn => by
  obtain ⟨b, o, e, hb, hc⟩ := h (by rw [List.length_take] at hn; omega)
  exact ⟨b, o, e, hb, fun k x hk => hc k x (by rw [List.getElem?_take] at hk; split at hk; exact hk; cases hk)⟩
theorem Ints.suf {w : World} {B b o : Nat} {xs : List Int} (h : Ints w B (some ⟨b, o, none⟩) xs) (i : Nat) : Ints w B (some ⟨b, o + i, none⟩) (xs.drop i) := fun hn => by
  obtain ⟨b', o', e, hb, hc⟩ := h (by rw [List.length_drop] at hn; omega)
  injection e with e
  injection e with e1 e2
  subst e1 e2
  exact ⟨b, o + i, rfl, hb, fun k x hk => by rw [Nat.add_assoc]; exact hc (i + k) x (by rw [List.getElem?_drop] at hk; exact hk)⟩

theorem own_slice {w : World} {lo : Nat} {v : Value} {ys : List Int} (h : w.ownsRow lo 3 1 v ys.length (vals ys)) : ∃ A c, v = .slice A ys.length c ∧ OwnI w lo A ys ∧ ys.length ≤ c := by
  obtain ⟨A, c, e, hO⟩ := ownI_of_row (ys := ys) h
  refine ⟨A, c, e, hO, ?_⟩
  obtain ⟨_, ⟨e2, h0⟩ | ⟨g, cap, cur, e2, _, _, hc, _⟩⟩ := h
  · omega
  · rw [e] at e2
    injection e2 with _ _ e3
    omega
theorem own_lo {w : World} {lo lo' : Nat} {e : TypeId} {size n : Nat} {v : Value} {xs : List Value} (h : w.ownsRow lo e size v n xs) (hl : lo' ≤ lo) : w.ownsRow lo' e size v n xs := by
  obtain ⟨h1, h2 | ⟨g, cap, cur, e1, h3, h4⟩⟩ := h
  · exact ⟨h1, .inl h2⟩
  · exact ⟨h1, .inr ⟨g, cap, cur, e1, by omega, h4⟩⟩
/-- Three slices in a new block. -/
theorem pts_three (V : World) (p0 p1 p2 : Pt) (h0 : Ints V V.heap.size p0.a p0.r) (h1 : Ints V V.heap.size p1.a p1.r) (h2 : Ints V V.heap.size p2.a p2.r) :
    PtsAt (V.alloc (.cells #[.slice p0.a p0.r.length p0.c, .slice p1.a p1.r.length p1.c, .slice p2.a p2.r.length p2.c] 34)).drew V.heap.size [p0, p1, p2] := by
  have hb : Below V.heap.size V (V.alloc (.cells #[.slice p0.a p0.r.length p0.c, .slice p1.a p1.r.length p1.c, .slice p2.a p2.r.length p2.c] 34)).drew := by go_grown
  refine ⟨by simp, fun k p hk => ?_⟩
  match k, hk with
  | 0, hk => simp at hk; subst hk; exact ⟨by simp [go_sem], (h0.keep hb).more hb.size⟩
  | 1, hk => simp at hk; subst hk; exact ⟨by simp [go_sem], (h1.keep hb).more hb.size⟩
  | 2, hk => simp at hk; subst hk; exact ⟨by simp [go_sem], (h2.keep hb).more hb.size⟩
  | k + 3, hk => simp at hk

set_option maxRecDepth 20000 in
set_option maxHeartbeats 1000000 in
theorem putRight_any (n t x : Int) (A : Option Addr) (c : Nat) (rs : List Ru) (Af : Option Addr) (cf : Nat) (xs : List Int) (i : Nat) (w : World) (hx : Rls w w.heap.size A rs) (hg : goodG n t (rs.map Ru.abs) = true) (hf : Ints w w.heap.size Af xs) (hi : i < xs.length) (hc : xs.length ≤ cf) (hl : xs.length ≤ 40) :
    Calls Tryd.prog 72 #[.agg #[.int .i64 n, .int .i64 t, .slice A rs.length c], .slice Af xs.length cf, .int .i64 (i : Int), .int .i64 x] w (GaveO w (stepV (rs.map Ru.abs) xs i x)) := by
  have h16 := good_16 hg
  have HX := Lib.hid hx; clear hx
  have HF := Lib.hid hf; clear hf
  have HG := Lib.hid hg; clear hg
  have hBW : Below w.heap.size w (w.alloc (.cells #[.int .i64 n, .int .i64 t, .slice A rs.length c] 30)) := by go_grown
  have HX0 : Hid (Box3 (w.alloc (.cells #[.int .i64 n, .int .i64 t, .slice A rs.length c] 30)) w.heap.size (.int .i64 n) (.int .i64 t) (.slice A rs.length c)) := ⟨by simp, by simp [go_sem], by simp [go_sem], by simp [go_sem]⟩
  go_enter Tryd.func72, Tryd.ntmps72
  go_wp2_with fail
  generalize (w.alloc (.cells #[.int .i64 n, .int .i64 t, .slice A rs.length c] 30)) = W at *
  obtain ⟨b, o, rfl, hb, f1⟩ := (HF.out.keep hBW).at_ hi
  obtain ⟨_, s0, s1, s2⟩ := HX0.out
  have p0 := cell_regrown s0
  have p1 := cell_regrown s1
  have p2 := cell_regrown s2
  have p3 := cell_regrown f1
  have HRG : Hid (∀ d os, Below w.heap.size w (grow (redrawn W d) os)) := fun d os => hBW.trans ((below_regrown W d os).mono hBW.size)
  have HRB : Hid (∀ d os, Box3 (grow (redrawn W d) os) w.heap.size (.int .i64 n) (.int .i64 t) (.slice A rs.length c)) := fun d os => HX0.out.keep (below_regrown W d os) HX0.out.1
  have HCG := Lib.hid (fun d os => isRule_any n t x A rs.length c (grow (redrawn W d) os))
  cases hr : ruleB rs.length x
  · have HE : Hid (stepV (rs.map Ru.abs) xs i x = none) := stepV_none (by rw [List.length_map]; exact hr)
    rw [hr] at HCG
    clear hr s0 s1 s2 f1 hBW
    refine wp_region_quiet_below (by kernel_rfl) (by kernel_rfl) ?_
    repeat (first | go_big_quiet_step (exact Calls.regrown_of (HCG.out _ _)) | quiet_step (exact Calls.regrown_of (HCG.out _ _)))
    refine wpQuiet_nil ?_
    intro _ hw'
    obtain ⟨⟨dq, osq⟩, hw''⟩ := hw'
    subst hw''
    go_wp2
    go_ret2
    exact ⟨none, [], 0, false, rfl, by rw [HE.out]; rfl, by rw [HE.out]; rfl, .inl rfl, Nat.le_refl _, HRG.out dq osq⟩
  · obtain ⟨k, rfl⟩ : ∃ k : Nat, x = (k : Int) := ⟨x.toNat, by have := of_decide_eq_true hr; omega⟩
    have hk : k < rs.length := by have := of_decide_eq_true hr; omega
    rw [hr] at HCG
    clear hr
    obtain ⟨p, q, rfl, hp, c1, c2, c3⟩ := (HX.out.keep hBW).at_ hk
    have q1 := cell_regrown c1
    have HU : Hid ((rs.map Ru.abs)[k]? = some (rs[k].l, rs[k].r)) := by show _ = _; rw [List.getElem?_map, List.getElem?_eq_getElem hk]; rfl
    have hr4 : rs[k].r.length ≤ 4 := good_len HG.out (List.mem_map.2 ⟨_, List.getElem_mem hk, rfl⟩)
    have HC3 : Hid (∀ v, Below w.heap.size w v → Ints v v.heap.size rs[k].a rs[k].r ∧ v.cell? ⟨p, q + k * 2 + 1, none⟩ = some (.slice rs[k].a rs[k].r.length rs[k].c)) := fun v hv => by
      obtain ⟨p', q', e, _, _, h2, h3⟩ := (HX.out.keep hv).at_ hk
      injection e with e
      injection e with e1 e2
      subst e1 e2
      exact ⟨h3.more hv.size, h2⟩
    by_cases hne : rs[k].l = xs[i]
    · have hb1 : (rs[k].l != xs[i]) = false := bne_f hne
      have HS : Hid (stepV (rs.map Ru.abs) xs i (k : Int) = if (stepL xs i rs[k].r).length ≤ 40 then some (stepL xs i rs[k].r) else none) := by
        show _ = _
        rw [stepV_at HU.out]
        have : xs[i]? = some rs[k].l := by rw [List.getElem?_eq_getElem hi, hne]
        simp [this]
      clear s0 s1 s2 f1 hBW c1 c2 c3 hne
      refine wp_region_quiet_below (by kernel_rfl) (by kernel_rfl) ?_
      repeat (first | go_big_quiet_step (exact Calls.regrown_of (HCG.out _ _)) | quiet_step (exact Calls.regrown_of (HCG.out _ _)))
      refine wpQuiet_nil ?_
      intro _ hw'
      obtain ⟨⟨dq, osq⟩, hw''⟩ := hw'
      subst hw''
      have HBV := Lib.hid (HRG.out dq osq)
      have HXV := Lib.hid (HRB.out dq osq)
      generalize grow (redrawn W dq) osq = V at *
      clear p0 p1 p2 p3 q1 HRG HRB HCG HX0
      obtain ⟨_, s0, s1, s2⟩ := HXV.out
      obtain ⟨_, c2⟩ := HC3.out V HBV.out
      obtain ⟨J, hJ⟩ : ∃ J, J = i + 1 := ⟨_, rfl⟩
      have hwJ : IntKind.i64.wrap ((i : Int) + 1) = (J : Int) := by rw [hJ, show (i : Int) + 1 = ((i + 1 : Nat) : Int) by simp]; exact wrap_nat (by omega)
      have hcc : cf = J ∨ (J < cf ∧ ¬ cf = J) := by omega
      have hii : (i : Int) ≤ (cf : Int) := by omega
      have hii2 : (J : Int) ≤ (xs.length : Int) := by omega
      have hkk : (k : Int) < (rs.length : Int) := by omega
      have HJ := Lib.hid hJ; clear hJ
      have HFV := Lib.hid ((HF.out.keep HBV.out).more HBV.out.size)
      have HRV := Lib.hid (HC3.out V HBV.out).1
      have hti : (xs.take i).length = i := by rw [List.length_take]; omega
      have hsl : (stepL xs i rs[k].r).length ≤ 1048576 := by unfold stepL; simp; omega
      have HCO : Hid (∃ (a3 : Option Addr) (c3 : Nat), (cf = J → a3 = some ⟨b, o, none⟩ ∧ c3 = 0) ∧ (¬ cf = J → a3 = some ⟨b, o + J, none⟩ ∧ c3 = cf - J) ∧
          Calls Tryd.prog 108 #[.slice (some ⟨V.heap.size, 0, none⟩) 3 3] (V.alloc (.cells #[.slice (some ⟨b, o, none⟩) i cf, .slice rs[k].a rs[k].r.length rs[k].c, .slice a3 (xs.length - J) c3] 34)).drew fun e w' => ∃ v, e = .returned v ∧ w'.ownsRow w.heap.size 3 1 v (stepL xs i rs[k].r).length (vals (stepL xs i rs[k].r)) ∧ Below w.heap.size w w') := by
        have hdl : (xs.drop J).length = xs.length - J := List.length_drop ..
        have hcat : ∀ a3 c3, catL [⟨some ⟨b, o, none⟩, xs.take i, cf⟩, ⟨rs[k].a, rs[k].r, rs[k].c⟩, ⟨a3, xs.drop J, c3⟩] = stepL xs i rs[k].r := fun a3 c3 => by
          unfold catL stepL
          rw [HJ.out]
          simp
        have hcall : ∀ a3 c3, Ints V V.heap.size a3 (xs.drop J) → Calls Tryd.prog 108 #[.slice (some ⟨V.heap.size, 0, none⟩) 3 3] (V.alloc (.cells #[.slice (some ⟨b, o, none⟩) i cf, .slice rs[k].a rs[k].r.length rs[k].c, .slice a3 (xs.length - J) c3] 34)).drew fun e w' => ∃ v, e = .returned v ∧ w'.ownsRow w.heap.size 3 1 v (stepL xs i rs[k].r).length (vals (stepL xs i rs[k].r)) ∧ Below w.heap.size w w' := fun a3 c3 h3 => by
          have hp := pts_three V ⟨some ⟨b, o, none⟩, xs.take i, cf⟩ ⟨rs[k].a, rs[k].r, rs[k].c⟩ ⟨a3, xs.drop J, c3⟩ (HFV.out.pre i) HRV.out h3
          dsimp only at hp
          rw [hti, hdl] at hp
          have h := concat_any V.heap.size _ 3 _ hp (by rw [hcat]; exact hsl) (by simp)
          rw [hcat] at h
          refine h.mono fun e w' hh => ?_
          obtain ⟨v, he, hO, hB⟩ := hh
          have hb2 : Below V.heap.size V (V.alloc (.cells #[.slice (some ⟨b, o, none⟩) i cf, .slice rs[k].a rs[k].r.length rs[k].c, .slice a3 (xs.length - J) c3] 34)).drew := by go_grown
          refine ⟨v, he, own_lo hO (by have := hb2.size; have := HBV.out.size; omega), HBV.out.trans ((hb2.trans (hB.mono hb2.size)).mono HBV.out.size)⟩
        by_cases e : cf = J
        · exact ⟨some ⟨b, o, none⟩, 0, fun _ => ⟨rfl, rfl⟩, fun h => absurd e h, hcall _ _ fun h => by rw [hdl] at h; omega⟩
        · exact ⟨some ⟨b, o + J, none⟩, cf - J, fun h => absurd h e, fun _ => ⟨rfl, rfl⟩, hcall _ _ (HFV.out.suf J)⟩
      obtain ⟨a3, c3, he1, he2, hcall⟩ := HCO.out
      have HCL := Lib.hid hcall
      clear hcall HCO hti
      go_wp2_with fail
      rcases hcc with hcJ | ⟨hc1, hc2⟩
      case' inl =>
        obtain ⟨rfl, rfl⟩ := he1 hcJ
        have hl0 : xs.length - J = 0 := by omega
        rw [hl0] at HCL
        subst hcJ
      case' inr =>
        obtain ⟨rfl, rfl⟩ := he2 hc2
      all_goals
        clear he1 he2
        refine wp_region_still_tail 13 (by kernel_rfl) (by kernel_rfl) ?_
        simp only [List.take_succ_cons, List.take_zero, List.drop_succ_cons, List.drop_zero]
        repeat still_step
        refine wpStill_nil ?_
        change wpList _ _ _ _ _ V.drew
        go_wp2_with fail
        refine HCL.out.mono ?_
        rintro e w4 ⟨v, rfl, hO, hB4⟩
        obtain ⟨A4, c4, rfl, hO4, hc4⟩ := own_slice hO
        have HO4 := Lib.hid hO4
        have HB4 := Lib.hid hB4
        clear hO hO4 hB4
        by_cases h40 : (stepL xs i rs[k].r).length ≤ 40
        · have HSS : Hid (stepV (rs.map Ru.abs) xs i (k : Int) = some (stepL xs i rs[k].r)) := HS.out.trans (if_pos h40)
          generalize stepL xs i rs[k].r = zs at *
          go_wp2
          go_ret2
          exact ⟨A4, zs, c4, true, rfl, by rw [HSS.out]; rfl, by rw [HSS.out]; rfl, HO4.out, hc4, HB4.out⟩
        · have HSS : Hid (stepV (rs.map Ru.abs) xs i (k : Int) = none) := HS.out.trans (if_neg h40)
          generalize stepL xs i rs[k].r = zs at *
          go_wp2
          go_ret2
          exact ⟨none, [], 0, false, rfl, by rw [HSS.out]; rfl, by rw [HSS.out]; rfl, .inl rfl, Nat.le_refl _, HB4.out⟩
    · have hb1 : (rs[k].l != xs[i]) = true := bne_t hne
      have HE : Hid (stepV (rs.map Ru.abs) xs i (k : Int) = none) := by
        show _ = _
        rw [stepV_at HU.out]
        refine if_neg fun h => hne ?_
        rw [List.getElem?_eq_getElem hi] at h
        exact (Option.some.inj h.1).symm
      clear s0 s1 s2 f1 hBW c1 c2 c3 hne
      refine wp_region_quiet_below (by kernel_rfl) (by kernel_rfl) ?_
      repeat (first | go_big_quiet_step (exact Calls.regrown_of (HCG.out _ _)) | quiet_step (exact Calls.regrown_of (HCG.out _ _)))
      refine wpQuiet_nil ?_
      intro _ hw'
      obtain ⟨⟨dq, osq⟩, hw''⟩ := hw'
      subst hw''
      go_wp2
      go_ret2
      exact ⟨none, [], 0, false, rfl, by rw [HE.out]; rfl, by rw [HE.out]; rfl, .inl rfl, Nat.le_refl _, HRG.out dq osq⟩

end Go.Proofs.YtkghblgiojidgaaDoor
