/- What the reference's l4Step is made of. -/
import Derived.Test.YtkghblgiojidgaaDoorStepS
import Derived.Deep.RegionHeld3
namespace Go.Proofs.YtkghblgiojidgaaDoor
open Go.RowKit

set_option maxRecDepth 20000 in
set_option maxHeartbeats 400000 in
theorem l1OwnR_any (A : Option Addr) (xs : List Int) (c : Nat) (w : World) (hr : Ints w w.heap.size A xs) (hn : xs.length ≤ 1048576) :
    Calls Tryd.prog 65 #[.slice A xs.length c] w fun e w' => ∃ v, e = .returned v ∧ w'.ownsRow w.heap.size 3 1 v xs.length (vals xs) ∧ Below w.heap.size w w' := by
  obtain ⟨i0, hi0, hz0, hz1, hz2⟩ := info_of Tryd.infoInt
  have hB0 : Below w.heap.size w (w.alloc (.cells #[] 3)) := by go_grown
  have HB0 := Lib.hid hB0; clear hB0
  have HR := Lib.hid (hr.keep HB0.out); clear hr
  have HE := Lib.hid (own_empty w)
  rcases A with _ | ad
  · have hx : xs = [] := by
      rcases xs with _ | ⟨x, xs⟩
      · rfl
      · obtain ⟨_, _, e, _⟩ := HR.out (by simp)
        cases e
    subst hx
    go_enter Tryd.func65, Tryd.ntmps65
    go_wp2_with (at_builtin
                 refine append_nil_at rfl (.tmp 3) (.tmp 4) _ rfl w.heap.size 3 i0 1 Tryd.underlying34 hi0 _ _ _ rfl HE.out c rfl ?_)
    go_ret
    exact ⟨_, rfl, HE.out, HB0.out⟩
  · have HN : Hid (∀ (j : Nat) (v : Value), (vals xs)[j]? = some v → (w.alloc (.cells #[] 3)).cell? (ad.add j) = some v) := fun j v hv => by
      have hp : 0 < xs.length := by have := (List.getElem?_eq_some_iff.1 hv).1; rw [vals_length] at this; omega
      obtain ⟨ad', e, h⟩ := HR.out.src hp
      injection e with e
      subst e
      exact h j v hv
    go_enter Tryd.func65, Tryd.ntmps65
    go_wp2_with (at_builtin
                 refine wpList_append_own _ rfl (.tmp 3) (.tmp 4) _ rfl w.heap.size 3 i0 _ 1 8 Tryd.underlying34 hi0 hz0 hz1 hz2 rfl (by omega) _ _ _ rfl HE.out ad xs.length c (vals xs) rfl (by rw [vals_length]; omega) HN.out (vals_one xs) (by unfold maxLen; omega) (by omega) (by simp) ?_
                 intro v' w' h1 h2 h3
                 have HO1 := Lib.hid h1
                 have HG1 := Lib.hid h2
                 clear h1 h2 h3)
    have h1 := HO1.out
    rw [List.nil_append, Nat.zero_add] at h1
    go_ret
    exact ⟨_, rfl, h1, HB0.out.grown HG1.out HB0.out.size fun k hk => (HE.out.lt k hk).1⟩

set_option maxRecDepth 100000 in
/-- Numbers appended onto a row of one's own: the world behind it, and what is owned there. -/
theorem run_append_ints {w : World} {base n : Nat} {v : Value} {ys rs : List Int} {A : Option Addr} {c : Nat} (ty : TypeId) (hown : w.ownsRow base 3 1 v n (vals ys)) (hr : Ints w w.heap.size A rs) (hm : n + rs.length ≤ 1048576) (hb : base ≤ w.heap.size) :
    ∃ v' w', (Builtin.append_ #[34, 34] ty #[v, .slice A rs.length c]).run Tryd.prog w = .ok v' w' ∧ w'.ownsRow base 3 1 v' (n + rs.length) (vals (ys ++ rs)) ∧ w.grownBy w' v.ownBlock := by
  obtain ⟨i0, hi0, hz0, hz1, hz2⟩ := info_of Tryd.infoInt
  rcases A with _ | ad
  · have hx : rs = [] := by
      rcases rs with _ | ⟨x, xs⟩
      · rfl
      · obtain ⟨_, _, e, _⟩ := hr (by simp)
        cases e
    subst hx
    refine ⟨v, w, ?_, by simpa using hown, ?_⟩
    · obtain ⟨_, ⟨rfl, rfl⟩ | ⟨g, cap, cur, rfl, _, _, hnc, _⟩⟩ := hown
      · simp [Builtin.append_, run_underlying Tryd.underlying34, typeInfo, sizeOf, hi0, Builtin.firstCells, Builtin.lenOf]
      · simp [Builtin.append_, run_underlying Tryd.underlying34, typeInfo, sizeOf, hi0, Builtin.firstCells, Builtin.lenOf, storeCells, hnc]
    · exact ⟨rfl, rfl, rfl, Nat.le_refl _, fun _ _ _ => rfl⟩
  · have hn : ∀ (j : Nat) (u : Value), (vals rs)[j]? = some u → w.cell? (ad.add j) = some u := fun j u hv => by
      have hp : 0 < rs.length := by have := (List.getElem?_eq_some_iff.1 hv).1; rw [vals_length] at this; omega
      obtain ⟨ad', e, h⟩ := hr.src hp
      injection e with e
      subst e
      exact h j u hv
    obtain ⟨v', w', h1, h2, h3, _⟩ := run_append_own (P := Tryd.prog) w base 34 ty 3 i0 _ 1 8 Tryd.underlying34 hi0 hz0 hz1 hz2 rfl (by omega) v n (vals ys) hown ad rs.length c (vals rs) (by rw [vals_length]; omega) hn (vals_one rs) (by unfold maxLen; omega) (by omega) hb
    refine ⟨v', w', h1, ?_, h3⟩
    unfold vals at h2 ⊢
    rw [List.map_append]
    exact h2

theorem step_append_run {P : Program} {w : World} {ops : Array Oper} {o : Oper} {a : Act} {K : Act → World → Prop} {Q : Exit → Act → World → Prop} {E : Prop} (hgd : o.guard = none) (s x : Operand) (t tn : TypeId)
    (ho : o.op = .call { callee := .builtin .append, args := #[s, x], argTypes := #[t, tn] }) (vs vx : Value) (hs : a.eval s = vs) (hx : a.eval x = vx) (v' : Value) (w' : World) (hr : (Builtin.append_ #[t, tn] o.type #[vs, vx]).run P w = .ok v' w') (h : K (a.put o.dst v') w') :
    if Region.wanted o (yielded ops a.tmps) = true then Oper.wp P o a w K Q else E := by
  have hw : Region.wanted o (yielded ops a.tmps) = true := by simp [Region.wanted, hgd]
  rw [if_pos hw]
  exact Lib.wp_append_run w s x t tn ho vs vx hs hx v' w' hr h

set_option maxRecDepth 20000 in
set_option maxHeartbeats 600000 in
theorem l4Step_ok : L4StepOK := by
  intro n t A c rs Af cf xs i k w hk hx hI hi hcf h40 hr4 h16
  have hBW : Below w.heap.size w (w.alloc (.cells #[.int .i64 n, .int .i64 t, .slice A rs.length c] 30)) := by go_grown
  have HX0 : Hid (Box3 (w.alloc (.cells #[.int .i64 n, .int .i64 t, .slice A rs.length c] 30)) w.heap.size (.int .i64 n) (.int .i64 t) (.slice A rs.length c)) := ⟨by simp, by simp [go_sem], by simp [go_sem], by simp [go_sem]⟩
  have HX := Lib.hid hx; clear hx
  have HI := Lib.hid hI; clear hI
  have HR : Hid (∀ v, Below w.heap.size w v → Ints v v.heap.size rs[k].a rs[k].r) := fun v hv => by
    obtain ⟨_, _, _, _, _, _, h⟩ := (HX.out.keep hv).at_ hk
    exact h.more hv.size
  obtain ⟨p, q, hA, hp, _, c2, _⟩ := (HX.out.keep hBW).at_ hk
  subst hA
  obtain ⟨b, o, hAf, hb, _⟩ := HI.out.at_ hi
  subst hAf
  go_enter Tryd.func70, Tryd.ntmps70
  go_wp2_with fail
  generalize (w.alloc (.cells #[.int .i64 n, .int .i64 t, .slice (some ⟨p, q, none⟩) rs.length c] 30)) = W at *
  obtain ⟨_, s0, s1, s2⟩ := HX0.out
  have HBW := Lib.hid hBW; clear hBW
  have hii : (i : Int) ≤ (cf : Int) := by omega
  have hkk : (k : Int) < (rs.length : Int) := by omega
  have hpW : p < W.heap.size := by have := HBW.out.size; omega
  have HIW := Lib.hid ((HI.out.keep HBW.out).more HBW.out.size)
  have hti : (xs.take i).length = i := by rw [List.length_take]; omega
  have HOC : Hid (∀ v, Below W.heap.size W v → Calls Tryd.prog 65 #[.slice (some ⟨b, o, none⟩) i cf] v fun e w' => ∃ u, e = .returned u ∧ w'.ownsRow W.heap.size 3 1 u i (vals (xs.take i)) ∧ Below W.heap.size W w') := fun v hv => by
    have h := l1OwnR_any (some ⟨b, o, none⟩) (xs.take i) cf v (((HIW.out.pre i).keep hv).more hv.size) (by omega)
    rw [hti] at h
    refine h.mono fun e w' hh => ?_
    obtain ⟨u, h1, h2, h3⟩ := hh
    exact ⟨u, h1, own_lo h2 hv.size, hv.trans (h3.mono hv.size)⟩
  clear hti
  go_region_held3 (fun w' => w'.cell? ⟨w.heap.size, 2, none⟩ = some (.slice (some ⟨p, q, none⟩) rs.length c) ∧ w'.cell? ⟨p, q + k * 2 + 1, none⟩ = some (.slice rs[k].a rs[k].r.length rs[k].c))
    (first | exact ⟨v2, u2⟩ | exact ⟨y2, z2⟩ | exact ⟨s2, c2⟩)
    (first
    | (go_at_call 65
       refine (HOC.out _ ?_).mono ?_
       · exact (by go_grown)
       rintro e w1 ⟨u, rfl, hO1, hB1⟩
       have y2 := (hB1.cell (p := ⟨w.heap.size, 2, none⟩) HX0.out.1).trans s2
       have z2 := (hB1.cell (p := ⟨p, q + k * 2 + 1, none⟩) hpW).trans c2
       have HO1 := Lib.hid hO1
       have HB1 := Lib.hid hB1
       have HW1 : Hid (Below w.heap.size w w1) := HBW.out.trans (hB1.mono HBW.out.size)
       clear hO1 hB1)
    | (obtain ⟨v3, w3, hr3, hO3, hG3⟩ := run_append_ints (c := rs[k].c) 34 HO1.out (HR.out _ HW1.out) (by omega) HB1.out.size
       refine step_append_run rfl (.tmp 13) (.tmp 19) 34 34 rfl u (.slice rs[k].a rs[k].r.length rs[k].c) (by simp [Act.eval]) (by simp [Act.eval]) v3 w3 hr3 ?_
       have HB3 : Hid (Below W.heap.size W w3) := HB1.out.grown hG3 HB1.out.size fun j hj => (HO1.out.lt j hj).1
       have v2 := (HB3.out.cell (p := ⟨w.heap.size, 2, none⟩) HX0.out.1).trans s2
       have u2 := (HB3.out.cell (p := ⟨p, q + k * 2 + 1, none⟩) hpW).trans c2
       have HO3 := Lib.hid hO3
       clear hr3 hO3 hG3)
    | fail)
  rename_i hHeld
  clear hHeld y2 z2 v2 u2 s0 s1 s2 c2
  have HW3 : Hid (Below w.heap.size w w3) := HBW.out.trans (HB3.out.mono HBW.out.size)
  have HI3 := Lib.hid ((HI.out.keep HW3.out).more HW3.out.size)
  obtain ⟨J, hJ⟩ : ∃ J, J = i + 1 := ⟨_, rfl⟩
  have hwJ : IntKind.i64.wrap ((i : Int) + 1) = (J : Int) := by rw [hJ, show (i : Int) + 1 = ((i + 1 : Nat) : Int) by simp]; exact wrap_nat (by omega)
  have hii2 : (J : Int) ≤ (xs.length : Int) := by omega
  have hdl : (xs.drop J).length = xs.length - J := List.length_drop ..
  have hsl : (stepL xs i rs[k].r).length = i + rs[k].r.length + (xs.length - J) := by unfold stepL; rw [← hJ, List.length_append, List.length_append, hdl, List.length_take]; omega
  have HST : Hid (xs.take i ++ rs[k].r ++ xs.drop J = stepL xs i rs[k].r) := by show _ = _; unfold stepL; rw [hJ]
  have hcc : cf = J ∨ (J < cf ∧ ¬ cf = J) := by omega
  have HEND : Hid (∀ (a3 : Option Addr) (c3 : Nat), Ints w3 w3.heap.size a3 (xs.drop J) → ∃ v4 w4, (Builtin.append_ #[34, 34] 34 #[v3, .slice a3 (xs.length - J) c3]).run Tryd.prog w3 = .ok v4 w4 ∧ (∃ A4 c4, v4 = .slice A4 (stepL xs i rs[k].r).length c4 ∧ OwnI w4 w.heap.size A4 (stepL xs i rs[k].r) ∧ (stepL xs i rs[k].r).length ≤ c4) ∧ Below w.heap.size w w4) := fun a3 c3 h3 => by
    obtain ⟨v4, w4, h1, h2, h4⟩ := run_append_ints (c := c3) 34 HO3.out h3 (by rw [hdl]; omega) HB3.out.size
    rw [hdl] at h1 h2
    rw [HST.out, ← hsl] at h2
    obtain ⟨A4, c4, e, hO, hc⟩ := own_slice h2
    exact ⟨v4, w4, h1, ⟨A4, c4, e, hO.lower HBW.out.size, hc⟩, HBW.out.trans ((HB3.out.grown h4 HB3.out.size fun j hj => (HO3.out.lt j hj).1).mono HBW.out.size)⟩
  have hJ1 : xs.length ≤ J ∨ J ≤ xs.length := by omega
  have HJ := Lib.hid hJ; clear hJ hJ1 hsl
  rcases hcc with hcJ | ⟨hc1, hc2⟩
  case' inl =>
    have hl0 : xs.length - J = 0 := by omega
    obtain ⟨v4, w4, hr4', ⟨A4, c4, hv4, hO4, hc4⟩, hB4⟩ := HEND.out (some ⟨b, o, none⟩) 0 (fun h => by rw [hdl] at h; omega)
    rw [hl0] at hr4'
    subst hcJ
  case' inr =>
    obtain ⟨v4, w4, hr4', ⟨A4, c4, hv4, hO4, hc4⟩, hB4⟩ := HEND.out (some ⟨b, o + J, none⟩) (cf - J) (HI3.out.suf J)
  all_goals
    subst hv4
    have HO4 := Lib.hid hO4
    have HB4 := Lib.hid hB4
    clear hO4 hB4 hdl
    go_wp2_with (at_builtin; refine Lib.wpList_append_run _ rfl (.tmp 21) (.tmp 25) _ _ rfl _ _ rfl rfl _ _ hr4' ?_)
    go_ret
    exact ⟨A4, c4, rfl, HO4.out, hc4, HB4.out⟩

end Go.Proofs.YtkghblgiojidgaaDoor
