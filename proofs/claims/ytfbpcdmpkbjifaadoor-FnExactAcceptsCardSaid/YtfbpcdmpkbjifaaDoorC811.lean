/- Plain mathematics of JoinRows: what two rising lists have together. -/
import Derived.Test.YtfbpcdmpkbjifaaDoorC810
import Derived.Test.YtfbpcdmpkbjifaaDoorC803
import Derived.Lib.SlicesCompact
import Derived.Test.YtfbpcdmpkbjifaaDoorC808

namespace Go.Proofs.YtfbpcdmpkbjifaaDoor
open Go.RowKit

theorem riseI_pair {xs : List Int} (h : RiseI xs xs.length) : Rises xs := by
  have key : ∀ (i j : Nat) (hi : i < xs.length) (hj : j < xs.length), i < j → xs[i] < xs[j] := by
    intro i j hi hj hij
    induction j with
    | zero => omega
    | succ j ih =>
      have h1 := h j xs[j] xs[j + 1] hj (List.getElem?_eq_getElem (by omega)) (List.getElem?_eq_getElem hj)
      by_cases e : i = j
      · subst e; exact h1
      · have := ih (by omega) (by omega); omega
  exact List.pairwise_iff_getElem.2 fun i j hi hj hij => key i j hi hj hij

/-- A list is short and rises. -/
noncomputable def okR (xs : List Int) : Bool := decide (xs.length ≤ 40) && bP (RiseI xs xs.length)
noncomputable def okJR (a b : List Int) : Bool := okR a && okR b
def PJ (a b ys : List Int) : Prop := Rises ys ∧ ∀ x, x ∈ ys ↔ x ∈ a ∨ x ∈ b
noncomputable def jrV (a b : List Int) : List Int := if okJR a b then Classical.epsilon (PJ a b) else []
theorem PJ.eq {a b ys : List Int} (hg : okJR a b = true) (h : PJ a b ys) : ys = jrV a b := by
  unfold jrV
  rw [if_pos hg]
  have k : PJ a b (Classical.epsilon (PJ a b)) := Classical.epsilon_spec ⟨ys, h⟩
  exact rises_unique h.1 k.1 fun x => (h.2 x).trans (k.2 x).symm

/-- What is kept of a sorted list rises, and has its members. -/
theorem compact_upto {zs : List Int} (h : zs.Pairwise (· ≤ ·)) : ∀ m : Nat, m ≤ zs.length → Rises (Lib.compactUpTo zs.toArray m) ∧ (∀ x, x ∈ Lib.compactUpTo zs.toArray m ↔ ∃ j, j < m ∧ zs[j]? = some x)
  | 0, _ => ⟨by simp [Lib.compactUpTo, Rises], fun x => by simp [Lib.compactUpTo]⟩
  | m + 1, hm => by
    obtain ⟨ih1, ih2⟩ := compact_upto h m (by omega)
    have hmz : zs[m]? = some zs[m] := List.getElem?_eq_getElem (by omega)
    have ea : zs.toArray[m]! = zs[m] := by simp [getElem!_pos, show m < zs.length by omega]
    rw [Lib.compactUpTo_succ, ea]
    cases hk : Lib.keeps zs.toArray m
    · have hz : m ≠ 0 ∧ zs.toArray[m]! = zs.toArray[m - 1]! := by simpa [Lib.keeps] using hk
      have eb : zs.toArray[m - 1]! = zs[m - 1] := by simp [getElem!_pos, show m - 1 < zs.length by omega]
      have e : zs[m] = zs[m - 1] := by rw [← ea, ← eb]; exact hz.2
      simp only [Bool.false_eq_true, if_false, List.append_nil]
      refine ⟨ih1, fun x => (ih2 x).trans ⟨fun ⟨j, hj, hx⟩ => ⟨j, by omega, hx⟩, fun ⟨j, hj, hx⟩ => ?_⟩⟩
      by_cases e2 : j = m
      · subst e2
        refine ⟨j - 1, by omega, ?_⟩
        rw [hmz] at hx
        injection hx with hx
        rw [List.getElem?_eq_getElem (by omega), ← e, hx]
      · exact ⟨j, by omega, hx⟩
    · simp only [if_true]
      refine ⟨List.pairwise_append.2 ⟨ih1, by simp, fun x hx y hy => ?_⟩, fun x => ?_⟩
      · rw [List.mem_singleton] at hy
        subst hy
        obtain ⟨j, hj, hx⟩ := (ih2 x).1 hx
        obtain ⟨hj2, hx⟩ := List.getElem?_eq_some_iff.1 hx
        subst hx
        have h1 : zs[j] ≤ zs[m] := List.pairwise_iff_getElem.1 h j m hj2 (by omega) hj
        have hkk : m = 0 ∨ zs.toArray[m]! ≠ zs.toArray[m - 1]! := of_decide_eq_true hk
        rcases hkk with h0 | hne
        · omega
        · have eb : zs.toArray[m - 1]! = zs[m - 1] := by simp [getElem!_pos, show m - 1 < zs.length by omega]
          rw [ea, eb] at hne
          have h2 : zs[m - 1] ≤ zs[m] := List.pairwise_iff_getElem.1 h (m - 1) m (by omega) (by omega) (by omega)
          have h3 : zs[j] ≤ zs[m - 1] := by
            by_cases e : j = m - 1
            · subst e; exact Int.le_refl _
            · exact List.pairwise_iff_getElem.1 h j (m - 1) hj2 (by omega) (by omega)
          omega
      · rw [List.mem_append, ih2, List.mem_singleton]
        constructor
        · rintro (⟨j, hj, hx⟩ | rfl)
          · exact ⟨j, by omega, hx⟩
          · exact ⟨m, by omega, hmz⟩
        · rintro ⟨j, hj, hx⟩
          by_cases e : j = m
          · subst e
            rw [hmz] at hx
            injection hx with hx
            exact .inr hx.symm
          · exact .inl ⟨j, by omega, hx⟩
theorem compact_PJ (a b : List Int) : PJ a b (Lib.compact (sortI (a ++ b))) := by
  obtain ⟨h1, h2⟩ := compact_upto (sortI_le (a ++ b)) (sortI (a ++ b)).length (Nat.le_refl _)
  refine ⟨h1, fun x => (h2 x).trans ⟨fun ⟨j, _, hx⟩ => ?_, fun h => ?_⟩⟩
  · have := (sortI_perm (a ++ b)).mem_iff.1 (List.mem_of_getElem? hx)
    exact List.mem_append.1 this
  · obtain ⟨j, hj⟩ := List.mem_iff_getElem?.1 ((sortI_perm (a ++ b)).mem_iff.2 (List.mem_append.2 h))
    exact ⟨j, (List.getElem?_eq_some_iff.1 hj).1, hj⟩

end Go.Proofs.YtfbpcdmpkbjifaaDoor

/- The reference's JoinRows. -/

namespace Go.Proofs.YtfbpcdmpkbjifaaDoor
open Go.RowKit

/-- A number is put into a rising list of the call's own; it may be there already. -/
def PutB (w : World) (lo : Nat) (xs : List Int) (n : Int) (e : Ending) (w' : World) : Prop :=
  ∃ v ys, e = .returned v ∧ Rises ys ∧ (∀ x, x ∈ ys ↔ x = n ∨ x ∈ xs) ∧ ys.length ≤ xs.length + 1 ∧ OwnV w' lo v ys ∧ Below w.heap.size w w'

set_option maxRecDepth 20000 in
theorem l1PutB_any (lo : Nat) (v : Value) (xs : List Int) (n : Int) (w : World) (hv : OwnV w lo v xs) (hr : Rises xs) (h1 : xs.length ≤ 1000) (hlo : lo ≤ w.heap.size) :
    Calls Tryd.prog 123 #[v, .int .i64 n] w (PutB w lo xs n) := by
  by_cases hn : n ∈ xs
  · obtain ⟨A, c, rfl, hc, hx⟩ := hv.shape
    have HX := Lib.hid hx; clear hx
    have HV := Lib.hid hv; clear hv
    have HR := Lib.hid hr; clear hr
    have HN := Lib.hid hn; clear hn
    go_enter Tryd.func123, Tryd.ntmps123
    go_wp2
    go_loopw [5] (fun i wr => ∃ (k : Nat), k ≤ xs.length ∧ i = .int .i64 k ∧ wr = w ∧ Hid (∀ (j : Nat) (x : Int), j < k → xs[j]? = some x → x < n)) (fun i _ => xs.length - (intOf i).toNat)
    case atStart => exact ⟨0, by omega, rfl, rfl, fun j x h => absurd h (by omega)⟩
    case round =>
      obtain ⟨k, hk, rfl, rfl, H⟩ := hrel
      by_cases hlt : k < xs.length
      · obtain ⟨p, o, rfl, _, c1⟩ := HX.out.at_ hlt
        by_cases hl : xs[k] < n
        · have HE := Lib.hid (upto_step (Q := fun x => x < n) hlt hl H.out)
          go_wp2
          go_roundw
          case rel => exact ⟨k + 1, by omega, by go_num, by simp, HE.out⟩
          case measure => simp [intOf]; omega
        · have he : xs[k] = n := by
            obtain ⟨j, hj⟩ := List.mem_iff_getElem?.1 HN.out
            obtain ⟨hjl, hj2⟩ := List.getElem?_eq_some_iff.1 hj
            have h1 : ¬ j < k := fun h => by have := H.out j n h hj; omega
            by_cases e : j = k
            · subst e; exact hj2
            · have := List.pairwise_iff_getElem.1 HR.out k j hlt hjl (by omega)
              omega
          have ht := beq_t he
          clear hl
          go_wp2
          go_ret
          exact ⟨_, xs, rfl, HR.out, fun x => ⟨.inr, fun h => h.elim (fun e => e ▸ HN.out) id⟩, by omega, HV.out, Below.refl _ _⟩
      · exfalso
        obtain ⟨j, hj⟩ := List.mem_iff_getElem?.1 HN.out
        have := H.out j n (by have := (List.getElem?_eq_some_iff.1 hj).1; omega) hj
        omega
  · refine (l1PutW_any lo v xs n w hv hr hn h1).mono fun e w' ⟨v', ys, e1, e2, e3, e4, e5, e6⟩ => ⟨v', ys, e1, e2, e3, by omega, e5.lower hlo, e6⟩

end Go.Proofs.YtfbpcdmpkbjifaaDoor

/- The reference's l7Cell. -/

namespace Go.Proofs.YtfbpcdmpkbjifaaDoor
open Go.RowKit

/-- A word of a binary grammar's tokens. -/
def TokW (t : Int) (ws : List Int) : Prop := ws.length ≤ 10 ∧ ∀ v ∈ ws, 0 ≤ v ∧ v < t

/-- An operation that may come up is taken first; its slot is named. -/
theorem take_at {P : Program} {md : Region.Mode} {ops : Array Oper} {Q : Exit → Act → World → Prop} {S : World → Prop} {i : Nat} {oi : Oper} {d : Tmp} {v : Value} {fuel : Nat} {listed : Array Bool} {a : Act} {w : World} (hi : ops[i]? = some oi) (hd : oi.dst = some d)
    (hs : Region.noSelect ops = true) (hf : Region.free md ops listed i = true) (hr : (Region.ready md ops listed).contains i = true)
    (hQ : ∀ c a w, Q (.panic c) (a.put (some d) v) w → Q (.panic c) a w) (hy : YieldsIf P ops S oi v a) (hS : S w)
    (h : wpAnyH P md ops Q S fuel (listed.setIfInBounds i true) (a.put (some d) v) w) : wpAnyH P md ops Q S (fuel + 1) listed a w :=
  wpAnyH_take hi hs hf hr (by rw [hd]; exact hQ) hy hS (by rw [hd]; exact h)

theorem cellBase_one {s : Bs} {ws : List Int} {xs : List (List Int)} {f t : Int} (h : t = f + 1) : cellBase s ws xs f t = fun D => rowOf D (-1 - ws.getD f.toNat 0) := by
  funext D
  unfold cellBase
  rw [if_pos h]
theorem cellBase_more {s : Bs} {ws : List Int} {xs : List (List Int)} {f t : Int} (h : ¬ t = f + 1) : cellBase s ws xs f t = fun _ l => bP (JoinC s.P ws xs f t l) := by
  funext D
  unfold cellBase
  rw [if_neg h]

set_option maxRecDepth 20000 in
set_option linter.unusedSimpArgs false in
set_option maxHeartbeats 2000000 in
theorem l7Cell_any (b : Bi) (n f t : Int) (A Aw : Option Addr) (ls : List Li) (ws : List Int) (c cw : Nat) (w : World) (hb : ReadB w w.heap.size b) (hm : LenB 1048576 b) (hgb : GoodBs b.say) (hn : n = ws.length) (hx : Lls w w.heap.size A ls) (hg : GoodC n (sayL ls)) (hw : Ints w w.heap.size Aw ws) (htw : TokW b.t ws) (hs : spanB n f t = true) :
    Calls Tryd.prog 91 #[(.agg #[.int .i64 b.n, .int .i64 b.t, .slice b.Ap b.P.length b.cp, .slice b.Ao b.O.length b.co, .slice b.Ae b.E.length b.ce, .slice b.Af b.F.length b.cf]), .agg #[.int .i64 n, .slice A ls.length c], .slice Aw ws.length cw, .int .i64 f, .int .i64 t] w (GaveV w (PCell b.say ws (sayL ls) f t)) := by
  have HX := Lib.hid hb; clear hb
  have HM := Lib.hid hm; clear hm
  have HG := Lib.hid hgb; clear hgb
  have HN := Lib.hid hn; clear hn
  have HC := Lib.hid hx; clear hx
  have HGC := Lib.hid hg; clear hg
  have HW := Lib.hid hw; clear hw
  have HT := Lib.hid htw; clear htw
  have hsp := spanB_is hs
  have HS := Lib.hid hs; clear hs
  have hPl := HM.out.p
  have hB0 : Below w.heap.size w ((w.alloc (.cells #[.int .i64 b.n, .int .i64 b.t, .slice b.Ap b.P.length b.cp, .slice b.Ao b.O.length b.co, .slice b.Ae b.E.length b.ce, .slice b.Af b.F.length b.cf] 55)).alloc (.cells #[.int .i64 n, .slice A ls.length c] 57)) := by go_grown
  have hR0 : Row ((w.alloc (.cells #[.int .i64 b.n, .int .i64 b.t, .slice b.Ap b.P.length b.cp, .slice b.Ao b.O.length b.co, .slice b.Ae b.E.length b.ce, .slice b.Af b.F.length b.cf] 55)).alloc (.cells #[.int .i64 n, .slice A ls.length c] 57)) (w.heap.size + 1) 57 #[.int .i64 n, .slice A ls.length c] := by
    have h := Row.new (w.alloc (.cells #[.int .i64 b.n, .int .i64 b.t, .slice b.Ap b.P.length b.cp, .slice b.Ao b.O.length b.co, .slice b.Ae b.E.length b.ce, .slice b.Af b.F.length b.cf] 55)) 57 #[.int .i64 n, .slice A ls.length c]
    simpa using h
  have B0 : Hid (Box6 ((w.alloc (.cells #[.int .i64 b.n, .int .i64 b.t, .slice b.Ap b.P.length b.cp, .slice b.Ao b.O.length b.co, .slice b.Ae b.E.length b.ce, .slice b.Af b.F.length b.cf] 55)).alloc (.cells #[.int .i64 n, .slice A ls.length c] 57)) w.heap.size b) := (Box6.new w b 55).keep ((Below.refl _ _).alloc (Nat.le_refl _) _) (by simp)
  have HB0 := Lib.hid hB0; clear hB0
  have HR0 := Lib.hid hR0; clear hR0
  have hs0 := HB0.out.size
  by_cases ht : t = f + 1
  · have HBASE := Lib.hid (cellBase_one (s := b.say) (ws := ws) (xs := sayL ls) ht)
    have et := beq_t ht
    clear ht
    obtain ⟨fk, rfl⟩ := Int.eq_ofNat_of_zero_le hsp.2.1
    have hwl : fk < ws.length := by have := HN.out; omega
    obtain ⟨p, o, rfl, hpb, c0⟩ := ((HW.out.keep HB0.out).more hs0).at_ hwl
    have hgd : ws.getD ((fk : Int)).toNat 0 = ws[fk] := by rw [Int.toNat_natCast, List.getD_eq_getElem?_getD, List.getElem?_eq_getElem hwl]; rfl
    rw [hgd] at HBASE
    have hv := HT.out.2 _ (List.getElem_mem hwl)
    have hbt : 1 ≤ b.t ∧ b.t ≤ 4 := HG.out.2.1
    clear hgd
    generalize ws[fk] = y at HBASE c0 hv
    have HSY : Hid (symB b.n b.t (-1 - y) = true) := decide_eq_true (by have := HG.out.1.1; have e : b.say.n = b.n := rfl; omega)
    obtain ⟨_, b0, b1, b2, b3, b4, b5⟩ := B0.out
    go_enter Tryd.func91, Tryd.ntmps91
    go_wp2_with fail
    generalize ((w.alloc (.cells #[.int .i64 b.n, .int .i64 b.t, .slice b.Ap b.P.length b.cp, .slice b.Ao b.O.length b.co, .slice b.Ae b.E.length b.ce, .slice b.Af b.F.length b.cf] 55)).alloc (.cells #[.int .i64 n, .slice A ls.length c] 57)) = W at HB0 HR0 hs0 B0 c0 b0 b1 b2 b3 b4 b5 ⊢
    have HCA : Hid (∀ wx, Below W.heap.size W wx → Calls Tryd.prog 121 #[(.agg #[.int .i64 b.n, .int .i64 b.t, .slice b.Ap b.P.length b.cp, .slice b.Ao b.O.length b.co, .slice b.Ae b.E.length b.ce, .slice b.Af b.F.length b.cf]), .int .i64 (-1 - y)] wx (GaveV wx fun ys => Rises ys ∧ (∀ y ∈ ys, 0 ≤ y ∧ y < 40) ∧ PUp b.say (fun D => rowOf D (-1 - y)) (setL ys))) := fun wx hwx => l6Row_any b (-1 - y) wx ((HX.out.keep (HB0.out.trans (hwx.mono hs0))).more (Nat.le_trans hs0 hwx.size)) HM.out HG.out HSY.out
    have hwk : IntKind.i64.wrap (-1 - y) = -1 - y := by rw [IntKind.wrap_i64]; omega
    clear hsp hv
    go_region_law (go_simp
                   go_at_call 121
                   with_reducible refine (HCA.out _ (by go_grown)).mono ?_
                   rintro e w3 ⟨v3, ys, rfl, hP3, hO3, hB3⟩
                   have HB3 : Hid (Below W.heap.size W w3) := Below.trans (by go_grown) hB3
                   have HO3 : Hid (OwnV w3 W.heap.size v3 ys) := hO3.lower (by simp)
                   have HP3 := Lib.hid hP3
                   clear hO3 hB3 hP3)
    all_goals
      go_wp2
      go_ret
      exact ⟨_, ys, rfl, ⟨HP3.out.1, HP3.out.2.1, by rw [HBASE.out]; exact HP3.out.2.2⟩, HO3.out.lower hs0, HB0.out.trans (HB3.out.mono hs0)⟩
  · have HBASE := Lib.hid (cellBase_more (s := b.say) (ws := ws) (xs := sayL ls) ht)
    have et := beq_f ht
    have hft : f + 1 < t := by omega
    clear ht
    obtain ⟨_, b0, b1, b2, b3, b4, b5⟩ := B0.out
    go_enter Tryd.func91, Tryd.ntmps91
    go_wp2_with fail
    generalize ((w.alloc (.cells #[.int .i64 b.n, .int .i64 b.t, .slice b.Ap b.P.length b.cp, .slice b.Ao b.O.length b.co, .slice b.Ae b.E.length b.ce, .slice b.Af b.F.length b.cf] 55)).alloc (.cells #[.int .i64 n, .slice A ls.length c] 57)) = W at HB0 HR0 hs0 B0 b0 b1 b2 b3 b4 b5 ⊢
    clear b0 b1 b2 b3 b4 b5
    go_loopw [11, 29] (fun v i wr => ∃ (k : Nat) (ys : List Int), k ≤ b.P.length ∧ i = .int .i64 k ∧ Hid (OwnV wr w.heap.size v ys) ∧ Hid (Rises ys) ∧ Hid (∀ l, l ∈ ys ↔ JoinK b.say.P ws (sayL ls) f t k l) ∧ Hid (Below W.heap.size W wr)) (fun _ i _ => b.P.length - (intOf i).toNat)
    case atStart => exact ⟨0, [], by omega, rfl, OwnV.nil _ _, List.Pairwise.nil, fun l => ⟨fun h => by simp at h, fun ⟨j, _, _, _, hj, _⟩ => by omega⟩, Below.refl _ _⟩
    case round =>
      obtain ⟨k, ys, hk, rfl, HV, HR, HM1, HB⟩ := hrel
      have hWs := B0.out.1
      have HBW := Lib.hid (HB0.out.trans (HB.out.mono hs0))
      have hws := HBW.out.size
      have BX := Lib.hid (B0.out.keep HB.out hWs)
      by_cases hlt : k < b.P.length
      · obtain ⟨bb, oo, eA, hbb, d1, hcap, hI⟩ := (HX.out.1.keep HBW.out).at_ hlt
        have hsay : b.say.P[k]? = some b.P[k].r := sayL_at hlt
        obtain ⟨l, y, z, er, hnl', hsy, hsz⟩ := good_pair HG.out hsay
        rw [er] at hI hsay d1
        have HSAY := Lib.hid hsay
        obtain ⟨pp, po, ea, hpp, e0, e1, e2⟩ := ints_three_lt hI
        have K0 : Hid (w.cell? ⟨pp, po, none⟩ = some (.int .i64 l) ∧ w.cell? ⟨pp, po + 1, none⟩ = some (.int .i64 y) ∧ w.cell? ⟨pp, po + 2, none⟩ = some (.int .i64 z)) := ⟨(HBW.out.cell (p := ⟨pp, po, none⟩) hpp).symm.trans e0, (HBW.out.cell (p := ⟨pp, po + 1, none⟩) hpp).symm.trans e1, (HBW.out.cell (p := ⟨pp, po + 2, none⟩) hpp).symm.trans e2⟩
        clear e0 e1 e2
        have HSL : Hid ((0 ≤ l ∧ l < 40) ∧ (-4 ≤ y ∧ y < 40) ∧ (-4 ≤ z ∧ z < 40)) := by
          have h1 := nonB_is hnl'
          have h2 := of_decide_eq_true hsy
          have h3 := of_decide_eq_true hsz
          have := HG.out.1
          have := HG.out.2.1
          show _ ∧ _
          omega
        rw [eA]
        clear hI er eA hsay hnl' hsy hsz
        generalize b.P[k] = u at d1 hcap ea
        obtain ⟨ua, ur, uc⟩ := u
        dsimp only at d1 hcap ea
        subst ea
        obtain ⟨wO, hwO⟩ : ∃ x, x = wr := ⟨_, rfl⟩
        subst hwO
        go_wp2
        go_loopw [11, 14] (fun v i wr => ∃ (m : Int) (zs : List Int), (f + 1 ≤ m ∧ m ≤ t) ∧ i = .int .i64 m ∧ Hid (OwnV wr w.heap.size v zs) ∧ Hid (Rises zs) ∧ Hid (∀ l', l' ∈ zs ↔ JoinM b.say.P ws (sayL ls) f t k l y z m l') ∧ Hid (Below W.heap.size W wr)) (fun _ i _ => (t - intOf i).toNat)
        case atStart => exact ⟨f + 1, ys, ⟨by omega, by omega⟩, by go_num, HV.out, HR.out, fun l' => (HM1.out l').trans JoinM.zero.symm, HB.out⟩
        case round =>
          clear HV HR HM1 HB HBW hws BX
          obtain ⟨m, zs, ⟨hm1, hm2⟩, rfl, HV, HR, HM1, HB⟩ := hrel
          have HBW := Lib.hid (HB0.out.trans (HB.out.mono hs0))
          have hws := HBW.out.size
          have BX := Lib.hid (B0.out.keep HB.out hWs)
          have HRX := Lib.hid (HR0.out.below HB.out HR0.out.lt)
          have hzl : zs.length ≤ 40 := len40 HR.out fun x hx => ((HM1.out x).1 hx).fit HG.out HSAY.out
          by_cases hlt2 : m < t
          · have hpw : pp < wr.heap.size := Nat.lt_of_lt_of_le hpp hws
            have hwb : w.heap.size < wr.heap.size := BX.out.1
            have hwc : w.heap.size + 1 < wr.heap.size := HRX.out.lt
            have c0 := (HBW.out.cell (p := ⟨pp, po, none⟩) hpp).trans K0.out.1
            have HSK : Hid (∀ wx, Below wr.heap.size wr wx → wx.cell? ⟨w.heap.size, 0, none⟩ = some (.int .i64 b.n) ∧ wx.cell? ⟨w.heap.size, 1, none⟩ = some (.int .i64 b.t) ∧ wx.cell? ⟨w.heap.size, 2, none⟩ = some (.slice b.Ap b.P.length b.cp) ∧ wx.cell? ⟨w.heap.size, 3, none⟩ = some (.slice b.Ao b.O.length b.co) ∧ wx.cell? ⟨w.heap.size, 4, none⟩ = some (.slice b.Ae b.E.length b.ce) ∧ wx.cell? ⟨w.heap.size, 5, none⟩ = some (.slice b.Af b.F.length b.cf) ∧ wx.cell? ⟨w.heap.size + 1, 0, none⟩ = some (.int .i64 n) ∧ wx.cell? ⟨w.heap.size + 1, 1, none⟩ = some (.slice A ls.length c) ∧ wx.cell? ⟨pp, po + 1, none⟩ = some (.int .i64 y) ∧ wx.cell? ⟨pp, po + 2, none⟩ = some (.int .i64 z)) := fun wx hwx => by
              obtain ⟨_, b0, b1, b2, b3, b4, b5⟩ := BX.out.keep hwx hwb
              have hR := HRX.out.below hwx hwc
              have d0 := hR.cell 0
              have d1 := hR.cell 1
              simp only [List.getElem?_toArray, List.getElem?_cons_succ, List.getElem?_cons_zero] at d0 d1
              have hk := HBW.out.trans (hwx.mono hws)
              exact ⟨b0, b1, b2, b3, b4, b5, d0, d1, (hk.cell (p := ⟨pp, po + 1, none⟩) hpp).trans K0.out.2.1, (hk.cell (p := ⟨pp, po + 2, none⟩) hpp).trans K0.out.2.2⟩
            have HDR : Hid (Below wr.heap.size wr wr.drew) := by show Below _ _ _; go_grown
            have HC1 : Hid (Calls Tryd.prog 122 #[(.agg #[.int .i64 b.n, .int .i64 b.t, .slice b.Ap b.P.length b.cp, .slice b.Ao b.O.length b.co, .slice b.Ae b.E.length b.ce, .slice b.Af b.F.length b.cf]), .agg #[.int .i64 n, .slice A ls.length c], .slice Aw ws.length cw, .int .i64 y, .int .i64 f, .int .i64 m] wr.drew fun e w' => e = .returned (.bool (hasB ws (sayL ls) y f m)) ∧ Below wr.drew.heap.size wr.drew w') := by
              have hk := HBW.out.trans (HDR.out.mono hws)
              exact l7Has_any b n y f m A Aw ls ws c cw _ HN.out ((HC.out.keep hk).more hk.size) HGC.out ((HW.out.keep hk).more hk.size) HSL.out.2.1 (spanB_t hsp.1.1 hsp.1.2 hsp.2.1 (by omega) (by omega))
            have HC2 : Hid (∀ wx, Below wr.heap.size wr wx → Calls Tryd.prog 122 #[(.agg #[.int .i64 b.n, .int .i64 b.t, .slice b.Ap b.P.length b.cp, .slice b.Ao b.O.length b.co, .slice b.Ae b.E.length b.ce, .slice b.Af b.F.length b.cf]), .agg #[.int .i64 n, .slice A ls.length c], .slice Aw ws.length cw, .int .i64 z, .int .i64 m, .int .i64 t] wx fun e w' => e = .returned (.bool (hasB ws (sayL ls) z m t)) ∧ Below wx.heap.size wx w') := fun wx hwx =>
              have hk := HBW.out.trans (hwx.mono hws)
              l7Has_any b n z m t A Aw ls ws c cw wx HN.out ((HC.out.keep hk).more hk.size) HGC.out ((HW.out.keep hk).more hk.size) HSL.out.2.2 (spanB_t hsp.1.1 hsp.1.2 (by omega) (by omega) hsp.2.2.2)
            obtain ⟨b0, b1, b2, b3, b4, b5, d0, d1, c1, c2⟩ := HSK.out wr (Below.refl _ _)
            have x0 := HSK.out wr.drew HDR.out
            cases h1 : hasB ws (sayL ls) y f m
            · have HNJ : Hid (∀ l', l' ∈ zs ↔ JoinM b.say.P ws (sayL ls) f t k l y z (m + 1) l') := fun l' => (HM1.out l').trans (JoinM.no fun h => by rw [h.2.1] at h1; cases h1).symm
              rw [h1] at HC1
              clear h1 HC2
              go_wp2_with fail
              refine wp_region_held_drew (S := (fun w' => w'.cell? ⟨w.heap.size, 0, none⟩ = some (.int .i64 b.n) ∧ w'.cell? ⟨w.heap.size, 1, none⟩ = some (.int .i64 b.t) ∧ w'.cell? ⟨w.heap.size, 2, none⟩ = some (.slice b.Ap b.P.length b.cp) ∧ w'.cell? ⟨w.heap.size, 3, none⟩ = some (.slice b.Ao b.O.length b.co) ∧ w'.cell? ⟨w.heap.size, 4, none⟩ = some (.slice b.Ae b.E.length b.ce) ∧ w'.cell? ⟨w.heap.size, 5, none⟩ = some (.slice b.Af b.F.length b.cf) ∧ w'.cell? ⟨w.heap.size + 1, 0, none⟩ = some (.int .i64 n) ∧ w'.cell? ⟨w.heap.size + 1, 1, none⟩ = some (.slice A ls.length c) ∧ w'.cell? ⟨pp, po + 1, none⟩ = some (.int .i64 y) ∧ w'.cell? ⟨pp, po + 2, none⟩ = some (.int .i64 z))) (by kernel_rfl) x0 (fun hHeld => ?_)
              refine take_at (i := 0) (d := 40) (v := ?_) rfl rfl (by kernel_rfl) (by kernel_rfl) (by kernel_rfl) (fun _ _ _ h => h) (Or.inl ⟨by rfl, ?_⟩) (by assumption) ?_
              rotate_left
              · (intro wz hSw; (try dsimp only at hSw); go_simp; try rfl)
              simp only [Act.put, List.setIfInBounds_toArray, List.set_cons_zero, List.set_cons_succ]
              refine take_at (i := 1) (d := 41) (v := ?_) rfl rfl (by kernel_rfl) (by kernel_rfl) (by kernel_rfl) (fun _ _ _ h => h) (Or.inl ⟨by rfl, ?_⟩) (by assumption) ?_
              rotate_left
              · (intro wz hSw; (try dsimp only at hSw); go_simp; try rfl)
              simp only [Act.put, List.setIfInBounds_toArray, List.set_cons_zero, List.set_cons_succ]
              refine take_at (i := 2) (d := 42) (v := ?_) rfl rfl (by kernel_rfl) (by kernel_rfl) (by kernel_rfl) (fun _ _ _ h => h) (Or.inl ⟨by rfl, ?_⟩) (by assumption) ?_
              rotate_left
              · (intro wz hSw; (try dsimp only at hSw); go_simp; try rfl)
              simp only [Act.put, List.setIfInBounds_toArray, List.set_cons_zero, List.set_cons_succ]
              refine take_at (i := 3) (d := 43) (v := ?_) rfl rfl (by kernel_rfl) (by kernel_rfl) (by kernel_rfl) (fun _ _ _ h => h) (Or.inl ⟨by rfl, ?_⟩) (by assumption) ?_
              rotate_left
              · (intro wz hSw; (try dsimp only at hSw); go_simp; try rfl)
              simp only [Act.put, List.setIfInBounds_toArray, List.set_cons_zero, List.set_cons_succ]
              refine take_at (i := 4) (d := 44) (v := ?_) rfl rfl (by kernel_rfl) (by kernel_rfl) (by kernel_rfl) (fun _ _ _ h => h) (Or.inl ⟨by rfl, ?_⟩) (by assumption) ?_
              rotate_left
              · (intro wz hSw; (try dsimp only at hSw); go_simp; try rfl)
              simp only [Act.put, List.setIfInBounds_toArray, List.set_cons_zero, List.set_cons_succ]
              refine take_at (i := 5) (d := 45) (v := ?_) rfl rfl (by kernel_rfl) (by kernel_rfl) (by kernel_rfl) (fun _ _ _ h => h) (Or.inl ⟨by rfl, ?_⟩) (by assumption) ?_
              rotate_left
              · (intro wz hSw; (try dsimp only at hSw); go_simp; try rfl)
              simp only [Act.put, List.setIfInBounds_toArray, List.set_cons_zero, List.set_cons_succ]
              refine take_at (i := 6) (d := 46) (v := ?_) rfl rfl (by kernel_rfl) (by kernel_rfl) (by kernel_rfl) (fun _ _ _ h => h) (Or.inl ⟨by rfl, ?_⟩) (by assumption) ?_
              rotate_left
              · (intro wz hSw; (try dsimp only at hSw); go_simp; try rfl)
              simp only [Act.put, List.setIfInBounds_toArray, List.set_cons_zero, List.set_cons_succ]
              refine take_at (i := 7) (d := 47) (v := ?_) rfl rfl (by kernel_rfl) (by kernel_rfl) (by kernel_rfl) (fun _ _ _ h => h) (Or.inl ⟨by rfl, ?_⟩) (by assumption) ?_
              rotate_left
              · (intro wz hSw; (try dsimp only at hSw); go_simp; try rfl)
              simp only [Act.put, List.setIfInBounds_toArray, List.set_cons_zero, List.set_cons_succ]
              refine wpAnyH_ready (rs := [8]) (by kernel_rfl) (by simp) (AllReadyH.cons rfl (fun K3 hK3 => ?_) AllReadyH.nil)
              go_simp
              refine HC1.out.mono ?_
              rintro e w3 ⟨rfl, hB3⟩
              have HBw3 : Hid (Below wr.heap.size wr w3) := HDR.out.trans (hB3.mono HDR.out.size)
              have y0 := HSK.out w3 HBw3.out
              clear hB3 hHeld
              refine hK3.out _ _ y0 (fun hHeld => ?_)
              clear hK3 K3
              try simp only [Act.put, List.setIfInBounds_toArray, List.set_cons_zero, List.set_cons_succ]
              refine take_at (i := 9) (d := 49) (v := ?_) rfl rfl (by kernel_rfl) (by kernel_rfl) (by kernel_rfl) (fun _ _ _ h => h) (Or.inl ⟨by rfl, ?_⟩) (by assumption) ?_
              rotate_left
              · (intro wz hSw; (try dsimp only at hSw); go_simp; try rfl)
              simp only [Act.put, List.setIfInBounds_toArray, List.set_cons_zero, List.set_cons_succ]
              refine take_at (i := 10) (d := 50) (v := undef) rfl rfl (by kernel_rfl) (by kernel_rfl) (by kernel_rfl) (fun _ _ _ h => h) (Or.inr ⟨by rfl, rfl⟩) (by assumption) ?_
              simp only [Act.put, List.setIfInBounds_toArray, List.set_cons_zero, List.set_cons_succ]
              refine take_at (i := 11) (d := 51) (v := undef) rfl rfl (by kernel_rfl) (by kernel_rfl) (by kernel_rfl) (fun _ _ _ h => h) (Or.inr ⟨by rfl, rfl⟩) (by assumption) ?_
              simp only [Act.put, List.setIfInBounds_toArray, List.set_cons_zero, List.set_cons_succ]
              refine take_at (i := 12) (d := 52) (v := undef) rfl rfl (by kernel_rfl) (by kernel_rfl) (by kernel_rfl) (fun _ _ _ h => h) (Or.inr ⟨by rfl, rfl⟩) (by assumption) ?_
              simp only [Act.put, List.setIfInBounds_toArray, List.set_cons_zero, List.set_cons_succ]
              refine take_at (i := 13) (d := 53) (v := undef) rfl rfl (by kernel_rfl) (by kernel_rfl) (by kernel_rfl) (fun _ _ _ h => h) (Or.inr ⟨by rfl, rfl⟩) (by assumption) ?_
              simp only [Act.put, List.setIfInBounds_toArray, List.set_cons_zero, List.set_cons_succ]
              refine take_at (i := 14) (d := 54) (v := undef) rfl rfl (by kernel_rfl) (by kernel_rfl) (by kernel_rfl) (fun _ _ _ h => h) (Or.inr ⟨by rfl, rfl⟩) (by assumption) ?_
              simp only [Act.put, List.setIfInBounds_toArray, List.set_cons_zero, List.set_cons_succ]
              refine take_at (i := 15) (d := 55) (v := undef) rfl rfl (by kernel_rfl) (by kernel_rfl) (by kernel_rfl) (fun _ _ _ h => h) (Or.inr ⟨by rfl, rfl⟩) (by assumption) ?_
              simp only [Act.put, List.setIfInBounds_toArray, List.set_cons_zero, List.set_cons_succ]
              refine take_at (i := 16) (d := 56) (v := undef) rfl rfl (by kernel_rfl) (by kernel_rfl) (by kernel_rfl) (fun _ _ _ h => h) (Or.inr ⟨by rfl, rfl⟩) (by assumption) ?_
              simp only [Act.put, List.setIfInBounds_toArray, List.set_cons_zero, List.set_cons_succ]
              refine take_at (i := 17) (d := 57) (v := undef) rfl rfl (by kernel_rfl) (by kernel_rfl) (by kernel_rfl) (fun _ _ _ h => h) (Or.inr ⟨by rfl, rfl⟩) (by assumption) ?_
              simp only [Act.put, List.setIfInBounds_toArray, List.set_cons_zero, List.set_cons_succ]
              refine take_at (i := 18) (d := 58) (v := undef) rfl rfl (by kernel_rfl) (by kernel_rfl) (by kernel_rfl) (fun _ _ _ h => h) (Or.inr ⟨by rfl, rfl⟩) (by assumption) ?_
              simp only [Act.put, List.setIfInBounds_toArray, List.set_cons_zero, List.set_cons_succ]
              refine take_at (i := 19) (d := 59) (v := ?_) rfl rfl (by kernel_rfl) (by kernel_rfl) (by kernel_rfl) (fun _ _ _ h => h) (Or.inl ⟨by rfl, ?_⟩) (by assumption) ?_
              rotate_left
              · (intro wz hSw; (try dsimp only at hSw); go_simp; try rfl)
              simp only [Act.put, List.setIfInBounds_toArray, List.set_cons_zero, List.set_cons_succ]
              refine wpAnyH_done (by kernel_rfl) ?_ _
              clear hHeld y0
              go_simp
              go_wp2
              go_roundw
              case rel => exact ⟨m + 1, zs, ⟨by omega, by omega⟩, by go_num, HV.out.keep HBw3.out, HR.out, HNJ.out, HB.out.trans (HBw3.out.mono HB.out.size)⟩
              case measure => simp [intOf]; omega
            · rw [h1] at HC1
              cases h2 : hasB ws (sayL ls) z m t
              · have HNJ : Hid (∀ l', l' ∈ zs ↔ JoinM b.say.P ws (sayL ls) f t k l y z (m + 1) l') := fun l' => (HM1.out l').trans (JoinM.no fun h => by rw [h.2.2] at h2; cases h2).symm
                rw [h2] at HC2
                clear h1 h2
                go_wp2_with fail
                refine wp_region_held_drew (S := (fun w' => w'.cell? ⟨w.heap.size, 0, none⟩ = some (.int .i64 b.n) ∧ w'.cell? ⟨w.heap.size, 1, none⟩ = some (.int .i64 b.t) ∧ w'.cell? ⟨w.heap.size, 2, none⟩ = some (.slice b.Ap b.P.length b.cp) ∧ w'.cell? ⟨w.heap.size, 3, none⟩ = some (.slice b.Ao b.O.length b.co) ∧ w'.cell? ⟨w.heap.size, 4, none⟩ = some (.slice b.Ae b.E.length b.ce) ∧ w'.cell? ⟨w.heap.size, 5, none⟩ = some (.slice b.Af b.F.length b.cf) ∧ w'.cell? ⟨w.heap.size + 1, 0, none⟩ = some (.int .i64 n) ∧ w'.cell? ⟨w.heap.size + 1, 1, none⟩ = some (.slice A ls.length c) ∧ w'.cell? ⟨pp, po + 1, none⟩ = some (.int .i64 y) ∧ w'.cell? ⟨pp, po + 2, none⟩ = some (.int .i64 z))) (by kernel_rfl) x0 (fun hHeld => ?_)
                refine take_at (i := 0) (d := 40) (v := ?_) rfl rfl (by kernel_rfl) (by kernel_rfl) (by kernel_rfl) (fun _ _ _ h => h) (Or.inl ⟨by rfl, ?_⟩) (by assumption) ?_
                rotate_left
                · (intro wz hSw; (try dsimp only at hSw); go_simp; try rfl)
                simp only [Act.put, List.setIfInBounds_toArray, List.set_cons_zero, List.set_cons_succ]
                refine take_at (i := 1) (d := 41) (v := ?_) rfl rfl (by kernel_rfl) (by kernel_rfl) (by kernel_rfl) (fun _ _ _ h => h) (Or.inl ⟨by rfl, ?_⟩) (by assumption) ?_
                rotate_left
                · (intro wz hSw; (try dsimp only at hSw); go_simp; try rfl)
                simp only [Act.put, List.setIfInBounds_toArray, List.set_cons_zero, List.set_cons_succ]
                refine take_at (i := 2) (d := 42) (v := ?_) rfl rfl (by kernel_rfl) (by kernel_rfl) (by kernel_rfl) (fun _ _ _ h => h) (Or.inl ⟨by rfl, ?_⟩) (by assumption) ?_
                rotate_left
                · (intro wz hSw; (try dsimp only at hSw); go_simp; try rfl)
                simp only [Act.put, List.setIfInBounds_toArray, List.set_cons_zero, List.set_cons_succ]
                refine take_at (i := 3) (d := 43) (v := ?_) rfl rfl (by kernel_rfl) (by kernel_rfl) (by kernel_rfl) (fun _ _ _ h => h) (Or.inl ⟨by rfl, ?_⟩) (by assumption) ?_
                rotate_left
                · (intro wz hSw; (try dsimp only at hSw); go_simp; try rfl)
                simp only [Act.put, List.setIfInBounds_toArray, List.set_cons_zero, List.set_cons_succ]
                refine take_at (i := 4) (d := 44) (v := ?_) rfl rfl (by kernel_rfl) (by kernel_rfl) (by kernel_rfl) (fun _ _ _ h => h) (Or.inl ⟨by rfl, ?_⟩) (by assumption) ?_
                rotate_left
                · (intro wz hSw; (try dsimp only at hSw); go_simp; try rfl)
                simp only [Act.put, List.setIfInBounds_toArray, List.set_cons_zero, List.set_cons_succ]
                refine take_at (i := 5) (d := 45) (v := ?_) rfl rfl (by kernel_rfl) (by kernel_rfl) (by kernel_rfl) (fun _ _ _ h => h) (Or.inl ⟨by rfl, ?_⟩) (by assumption) ?_
                rotate_left
                · (intro wz hSw; (try dsimp only at hSw); go_simp; try rfl)
                simp only [Act.put, List.setIfInBounds_toArray, List.set_cons_zero, List.set_cons_succ]
                refine take_at (i := 6) (d := 46) (v := ?_) rfl rfl (by kernel_rfl) (by kernel_rfl) (by kernel_rfl) (fun _ _ _ h => h) (Or.inl ⟨by rfl, ?_⟩) (by assumption) ?_
                rotate_left
                · (intro wz hSw; (try dsimp only at hSw); go_simp; try rfl)
                simp only [Act.put, List.setIfInBounds_toArray, List.set_cons_zero, List.set_cons_succ]
                refine take_at (i := 7) (d := 47) (v := ?_) rfl rfl (by kernel_rfl) (by kernel_rfl) (by kernel_rfl) (fun _ _ _ h => h) (Or.inl ⟨by rfl, ?_⟩) (by assumption) ?_
                rotate_left
                · (intro wz hSw; (try dsimp only at hSw); go_simp; try rfl)
                simp only [Act.put, List.setIfInBounds_toArray, List.set_cons_zero, List.set_cons_succ]
                refine wpAnyH_ready (rs := [8]) (by kernel_rfl) (by simp) (AllReadyH.cons rfl (fun K3 hK3 => ?_) AllReadyH.nil)
                go_simp
                refine HC1.out.mono ?_
                rintro e w3 ⟨rfl, hB3⟩
                have HBw3 : Hid (Below wr.heap.size wr w3) := HDR.out.trans (hB3.mono HDR.out.size)
                have y0 := HSK.out w3 HBw3.out
                clear hB3 hHeld
                refine hK3.out _ _ y0 (fun hHeld => ?_)
                clear hK3 K3
                try simp only [Act.put, List.setIfInBounds_toArray, List.set_cons_zero, List.set_cons_succ]
                refine take_at (i := 9) (d := 49) (v := ?_) rfl rfl (by kernel_rfl) (by kernel_rfl) (by kernel_rfl) (fun _ _ _ h => h) (Or.inl ⟨by rfl, ?_⟩) (by assumption) ?_
                rotate_left
                · (intro wz hSw; (try dsimp only at hSw); go_simp; try rfl)
                simp only [Act.put, List.setIfInBounds_toArray, List.set_cons_zero, List.set_cons_succ]
                refine take_at (i := 10) (d := 50) (v := ?_) rfl rfl (by kernel_rfl) (by kernel_rfl) (by kernel_rfl) (fun _ _ _ h => h) (Or.inl ⟨by rfl, ?_⟩) (by assumption) ?_
                rotate_left
                · (intro wz hSw; (try dsimp only at hSw); go_simp; try rfl)
                simp only [Act.put, List.setIfInBounds_toArray, List.set_cons_zero, List.set_cons_succ]
                refine take_at (i := 11) (d := 51) (v := ?_) rfl rfl (by kernel_rfl) (by kernel_rfl) (by kernel_rfl) (fun _ _ _ h => h) (Or.inl ⟨by rfl, ?_⟩) (by assumption) ?_
                rotate_left
                · (intro wz hSw; (try dsimp only at hSw); go_simp; try rfl)
                simp only [Act.put, List.setIfInBounds_toArray, List.set_cons_zero, List.set_cons_succ]
                refine take_at (i := 12) (d := 52) (v := ?_) rfl rfl (by kernel_rfl) (by kernel_rfl) (by kernel_rfl) (fun _ _ _ h => h) (Or.inl ⟨by rfl, ?_⟩) (by assumption) ?_
                rotate_left
                · (intro wz hSw; (try dsimp only at hSw); go_simp; try rfl)
                simp only [Act.put, List.setIfInBounds_toArray, List.set_cons_zero, List.set_cons_succ]
                refine take_at (i := 13) (d := 53) (v := ?_) rfl rfl (by kernel_rfl) (by kernel_rfl) (by kernel_rfl) (fun _ _ _ h => h) (Or.inl ⟨by rfl, ?_⟩) (by assumption) ?_
                rotate_left
                · (intro wz hSw; (try dsimp only at hSw); go_simp; try rfl)
                simp only [Act.put, List.setIfInBounds_toArray, List.set_cons_zero, List.set_cons_succ]
                refine take_at (i := 14) (d := 54) (v := ?_) rfl rfl (by kernel_rfl) (by kernel_rfl) (by kernel_rfl) (fun _ _ _ h => h) (Or.inl ⟨by rfl, ?_⟩) (by assumption) ?_
                rotate_left
                · (intro wz hSw; (try dsimp only at hSw); go_simp; try rfl)
                simp only [Act.put, List.setIfInBounds_toArray, List.set_cons_zero, List.set_cons_succ]
                refine take_at (i := 15) (d := 55) (v := ?_) rfl rfl (by kernel_rfl) (by kernel_rfl) (by kernel_rfl) (fun _ _ _ h => h) (Or.inl ⟨by rfl, ?_⟩) (by assumption) ?_
                rotate_left
                · (intro wz hSw; (try dsimp only at hSw); go_simp; try rfl)
                simp only [Act.put, List.setIfInBounds_toArray, List.set_cons_zero, List.set_cons_succ]
                refine take_at (i := 16) (d := 56) (v := ?_) rfl rfl (by kernel_rfl) (by kernel_rfl) (by kernel_rfl) (fun _ _ _ h => h) (Or.inl ⟨by rfl, ?_⟩) (by assumption) ?_
                rotate_left
                · (intro wz hSw; (try dsimp only at hSw); go_simp; try rfl)
                simp only [Act.put, List.setIfInBounds_toArray, List.set_cons_zero, List.set_cons_succ]
                refine take_at (i := 17) (d := 57) (v := ?_) rfl rfl (by kernel_rfl) (by kernel_rfl) (by kernel_rfl) (fun _ _ _ h => h) (Or.inl ⟨by rfl, ?_⟩) (by assumption) ?_
                rotate_left
                · (intro wz hSw; (try dsimp only at hSw); go_simp; try rfl)
                simp only [Act.put, List.setIfInBounds_toArray, List.set_cons_zero, List.set_cons_succ]
                clear y0
                refine wpAnyH_ready (rs := [18]) (by kernel_rfl) (by simp) (AllReadyH.cons rfl (fun K3 hK3 => ?_) AllReadyH.nil)
                go_simp
                refine (HC2.out w3 HBw3.out).mono ?_
                rintro e w4 ⟨rfl, hB3⟩
                have HBw4 : Hid (Below wr.heap.size wr w4) := HBw3.out.trans (hB3.mono HBw3.out.size)
                have y0 := HSK.out w4 HBw4.out
                clear hB3 hHeld
                refine hK3.out _ _ y0 (fun hHeld => ?_)
                clear hK3 K3
                try simp only [Act.put, List.setIfInBounds_toArray, List.set_cons_zero, List.set_cons_succ]
                refine take_at (i := 19) (d := 59) (v := ?_) rfl rfl (by kernel_rfl) (by kernel_rfl) (by kernel_rfl) (fun _ _ _ h => h) (Or.inl ⟨by rfl, ?_⟩) (by assumption) ?_
                rotate_left
                · (intro wz hSw; (try dsimp only at hSw); go_simp; try rfl)
                simp only [Act.put, List.setIfInBounds_toArray, List.set_cons_zero, List.set_cons_succ]
                refine wpAnyH_done (by kernel_rfl) ?_ _
                clear hHeld y0
                go_simp
                go_wp2
                go_roundw
                case rel => exact ⟨m + 1, zs, ⟨by omega, by omega⟩, by go_num, HV.out.keep HBw4.out, HR.out, HNJ.out, HB.out.trans (HBw4.out.mono HB.out.size)⟩
                case measure => simp [intOf]; omega
              · have HJA : Hid (JoinAt ws (sayL ls) f t y z m) := ⟨⟨by omega, hlt2⟩, h1, h2⟩
                rw [h2] at HC2
                clear h1 h2
                go_wp2_with fail
                refine wp_region_held_drew (S := (fun w' => w'.cell? ⟨w.heap.size, 0, none⟩ = some (.int .i64 b.n) ∧ w'.cell? ⟨w.heap.size, 1, none⟩ = some (.int .i64 b.t) ∧ w'.cell? ⟨w.heap.size, 2, none⟩ = some (.slice b.Ap b.P.length b.cp) ∧ w'.cell? ⟨w.heap.size, 3, none⟩ = some (.slice b.Ao b.O.length b.co) ∧ w'.cell? ⟨w.heap.size, 4, none⟩ = some (.slice b.Ae b.E.length b.ce) ∧ w'.cell? ⟨w.heap.size, 5, none⟩ = some (.slice b.Af b.F.length b.cf) ∧ w'.cell? ⟨w.heap.size + 1, 0, none⟩ = some (.int .i64 n) ∧ w'.cell? ⟨w.heap.size + 1, 1, none⟩ = some (.slice A ls.length c) ∧ w'.cell? ⟨pp, po + 1, none⟩ = some (.int .i64 y) ∧ w'.cell? ⟨pp, po + 2, none⟩ = some (.int .i64 z))) (by kernel_rfl) x0 (fun hHeld => ?_)
                refine take_at (i := 0) (d := 40) (v := ?_) rfl rfl (by kernel_rfl) (by kernel_rfl) (by kernel_rfl) (fun _ _ _ h => h) (Or.inl ⟨by rfl, ?_⟩) (by assumption) ?_
                rotate_left
                · (intro wz hSw; (try dsimp only at hSw); go_simp; try rfl)
                simp only [Act.put, List.setIfInBounds_toArray, List.set_cons_zero, List.set_cons_succ]
                refine take_at (i := 1) (d := 41) (v := ?_) rfl rfl (by kernel_rfl) (by kernel_rfl) (by kernel_rfl) (fun _ _ _ h => h) (Or.inl ⟨by rfl, ?_⟩) (by assumption) ?_
                rotate_left
                · (intro wz hSw; (try dsimp only at hSw); go_simp; try rfl)
                simp only [Act.put, List.setIfInBounds_toArray, List.set_cons_zero, List.set_cons_succ]
                refine take_at (i := 2) (d := 42) (v := ?_) rfl rfl (by kernel_rfl) (by kernel_rfl) (by kernel_rfl) (fun _ _ _ h => h) (Or.inl ⟨by rfl, ?_⟩) (by assumption) ?_
                rotate_left
                · (intro wz hSw; (try dsimp only at hSw); go_simp; try rfl)
                simp only [Act.put, List.setIfInBounds_toArray, List.set_cons_zero, List.set_cons_succ]
                refine take_at (i := 3) (d := 43) (v := ?_) rfl rfl (by kernel_rfl) (by kernel_rfl) (by kernel_rfl) (fun _ _ _ h => h) (Or.inl ⟨by rfl, ?_⟩) (by assumption) ?_
                rotate_left
                · (intro wz hSw; (try dsimp only at hSw); go_simp; try rfl)
                simp only [Act.put, List.setIfInBounds_toArray, List.set_cons_zero, List.set_cons_succ]
                refine take_at (i := 4) (d := 44) (v := ?_) rfl rfl (by kernel_rfl) (by kernel_rfl) (by kernel_rfl) (fun _ _ _ h => h) (Or.inl ⟨by rfl, ?_⟩) (by assumption) ?_
                rotate_left
                · (intro wz hSw; (try dsimp only at hSw); go_simp; try rfl)
                simp only [Act.put, List.setIfInBounds_toArray, List.set_cons_zero, List.set_cons_succ]
                refine take_at (i := 5) (d := 45) (v := ?_) rfl rfl (by kernel_rfl) (by kernel_rfl) (by kernel_rfl) (fun _ _ _ h => h) (Or.inl ⟨by rfl, ?_⟩) (by assumption) ?_
                rotate_left
                · (intro wz hSw; (try dsimp only at hSw); go_simp; try rfl)
                simp only [Act.put, List.setIfInBounds_toArray, List.set_cons_zero, List.set_cons_succ]
                refine take_at (i := 6) (d := 46) (v := ?_) rfl rfl (by kernel_rfl) (by kernel_rfl) (by kernel_rfl) (fun _ _ _ h => h) (Or.inl ⟨by rfl, ?_⟩) (by assumption) ?_
                rotate_left
                · (intro wz hSw; (try dsimp only at hSw); go_simp; try rfl)
                simp only [Act.put, List.setIfInBounds_toArray, List.set_cons_zero, List.set_cons_succ]
                refine take_at (i := 7) (d := 47) (v := ?_) rfl rfl (by kernel_rfl) (by kernel_rfl) (by kernel_rfl) (fun _ _ _ h => h) (Or.inl ⟨by rfl, ?_⟩) (by assumption) ?_
                rotate_left
                · (intro wz hSw; (try dsimp only at hSw); go_simp; try rfl)
                simp only [Act.put, List.setIfInBounds_toArray, List.set_cons_zero, List.set_cons_succ]
                refine wpAnyH_ready (rs := [8]) (by kernel_rfl) (by simp) (AllReadyH.cons rfl (fun K3 hK3 => ?_) AllReadyH.nil)
                go_simp
                refine HC1.out.mono ?_
                rintro e w3 ⟨rfl, hB3⟩
                have HBw3 : Hid (Below wr.heap.size wr w3) := HDR.out.trans (hB3.mono HDR.out.size)
                have y0 := HSK.out w3 HBw3.out
                clear hB3 hHeld
                refine hK3.out _ _ y0 (fun hHeld => ?_)
                clear hK3 K3
                try simp only [Act.put, List.setIfInBounds_toArray, List.set_cons_zero, List.set_cons_succ]
                refine take_at (i := 9) (d := 49) (v := ?_) rfl rfl (by kernel_rfl) (by kernel_rfl) (by kernel_rfl) (fun _ _ _ h => h) (Or.inl ⟨by rfl, ?_⟩) (by assumption) ?_
                rotate_left
                · (intro wz hSw; (try dsimp only at hSw); go_simp; try rfl)
                simp only [Act.put, List.setIfInBounds_toArray, List.set_cons_zero, List.set_cons_succ]
                refine take_at (i := 10) (d := 50) (v := ?_) rfl rfl (by kernel_rfl) (by kernel_rfl) (by kernel_rfl) (fun _ _ _ h => h) (Or.inl ⟨by rfl, ?_⟩) (by assumption) ?_
                rotate_left
                · (intro wz hSw; (try dsimp only at hSw); go_simp; try rfl)
                simp only [Act.put, List.setIfInBounds_toArray, List.set_cons_zero, List.set_cons_succ]
                refine take_at (i := 11) (d := 51) (v := ?_) rfl rfl (by kernel_rfl) (by kernel_rfl) (by kernel_rfl) (fun _ _ _ h => h) (Or.inl ⟨by rfl, ?_⟩) (by assumption) ?_
                rotate_left
                · (intro wz hSw; (try dsimp only at hSw); go_simp; try rfl)
                simp only [Act.put, List.setIfInBounds_toArray, List.set_cons_zero, List.set_cons_succ]
                refine take_at (i := 12) (d := 52) (v := ?_) rfl rfl (by kernel_rfl) (by kernel_rfl) (by kernel_rfl) (fun _ _ _ h => h) (Or.inl ⟨by rfl, ?_⟩) (by assumption) ?_
                rotate_left
                · (intro wz hSw; (try dsimp only at hSw); go_simp; try rfl)
                simp only [Act.put, List.setIfInBounds_toArray, List.set_cons_zero, List.set_cons_succ]
                refine take_at (i := 13) (d := 53) (v := ?_) rfl rfl (by kernel_rfl) (by kernel_rfl) (by kernel_rfl) (fun _ _ _ h => h) (Or.inl ⟨by rfl, ?_⟩) (by assumption) ?_
                rotate_left
                · (intro wz hSw; (try dsimp only at hSw); go_simp; try rfl)
                simp only [Act.put, List.setIfInBounds_toArray, List.set_cons_zero, List.set_cons_succ]
                refine take_at (i := 14) (d := 54) (v := ?_) rfl rfl (by kernel_rfl) (by kernel_rfl) (by kernel_rfl) (fun _ _ _ h => h) (Or.inl ⟨by rfl, ?_⟩) (by assumption) ?_
                rotate_left
                · (intro wz hSw; (try dsimp only at hSw); go_simp; try rfl)
                simp only [Act.put, List.setIfInBounds_toArray, List.set_cons_zero, List.set_cons_succ]
                refine take_at (i := 15) (d := 55) (v := ?_) rfl rfl (by kernel_rfl) (by kernel_rfl) (by kernel_rfl) (fun _ _ _ h => h) (Or.inl ⟨by rfl, ?_⟩) (by assumption) ?_
                rotate_left
                · (intro wz hSw; (try dsimp only at hSw); go_simp; try rfl)
                simp only [Act.put, List.setIfInBounds_toArray, List.set_cons_zero, List.set_cons_succ]
                refine take_at (i := 16) (d := 56) (v := ?_) rfl rfl (by kernel_rfl) (by kernel_rfl) (by kernel_rfl) (fun _ _ _ h => h) (Or.inl ⟨by rfl, ?_⟩) (by assumption) ?_
                rotate_left
                · (intro wz hSw; (try dsimp only at hSw); go_simp; try rfl)
                simp only [Act.put, List.setIfInBounds_toArray, List.set_cons_zero, List.set_cons_succ]
                refine take_at (i := 17) (d := 57) (v := ?_) rfl rfl (by kernel_rfl) (by kernel_rfl) (by kernel_rfl) (fun _ _ _ h => h) (Or.inl ⟨by rfl, ?_⟩) (by assumption) ?_
                rotate_left
                · (intro wz hSw; (try dsimp only at hSw); go_simp; try rfl)
                simp only [Act.put, List.setIfInBounds_toArray, List.set_cons_zero, List.set_cons_succ]
                clear y0
                refine wpAnyH_ready (rs := [18]) (by kernel_rfl) (by simp) (AllReadyH.cons rfl (fun K3 hK3 => ?_) AllReadyH.nil)
                go_simp
                refine (HC2.out w3 HBw3.out).mono ?_
                rintro e w4 ⟨rfl, hB3⟩
                have HBw4 : Hid (Below wr.heap.size wr w4) := HBw3.out.trans (hB3.mono HBw3.out.size)
                have y0 := HSK.out w4 HBw4.out
                clear hB3 hHeld
                refine hK3.out _ _ y0 (fun hHeld => ?_)
                clear hK3 K3
                try simp only [Act.put, List.setIfInBounds_toArray, List.set_cons_zero, List.set_cons_succ]
                refine take_at (i := 19) (d := 59) (v := ?_) rfl rfl (by kernel_rfl) (by kernel_rfl) (by kernel_rfl) (fun _ _ _ h => h) (Or.inl ⟨by rfl, ?_⟩) (by assumption) ?_
                rotate_left
                · (intro wz hSw; (try dsimp only at hSw); go_simp; try rfl)
                simp only [Act.put, List.setIfInBounds_toArray, List.set_cons_zero, List.set_cons_succ]
                refine wpAnyH_done (by kernel_rfl) ?_ _
                clear hHeld y0
                have c0' := (HBw4.out.cell (p := ⟨pp, po, none⟩) hpw).trans c0
                clear b0 b1 b2 b3 b4 b5 d0 d1 c1 c2 c0 x0
                have hw4 := HBw4.out.size
                have HP := Lib.hid (l1PutB_any w.heap.size u11 zs l w4 (HV.out.keep HBw4.out) HR.out (by omega) (Nat.le_trans hws hw4))
                go_simp
                go_wp2_with fail
                refine HP.out.mono ?_
                rintro e w5 ⟨v5, ys5, rfl, hr5, hm5, hl5, hO5, hB5⟩
                have HR5 := Lib.hid hr5
                have HO5 := Lib.hid hO5
                have HM5 : Hid (∀ l', l' ∈ ys5 ↔ JoinM b.say.P ws (sayL ls) f t k l y z (m + 1) l') := fun l' => (hm5 l').trans ((or_congr_right (HM1.out l')).trans (JoinM.yes HJA.out).symm)
                have HB5 : Hid (Below W.heap.size W w5) := (HB.out.trans (HBw4.out.mono HB.out.size)).trans (hB5.mono (Nat.le_trans HB.out.size hw4))
                clear hr5 hm5 hl5 hO5 hB5 HP
                go_wp2
                go_roundw
                case rel => exact ⟨m + 1, ys5, ⟨by omega, by omega⟩, by go_num, HO5.out, HR5.out, HM5.out, HB5.out⟩
                case measure => simp [intOf]; omega
          · have HMD : Hid (∀ l', l' ∈ zs ↔ JoinK b.say.P ws (sayL ls) f t (k + 1) l') := fun l' => (HM1.out l').trans (JoinM.done HSAY.out (by omega)).symm
            go_wp2
            go_roundw
            case rel => exact ⟨k + 1, zs, by omega, by go_num, HV.out, HR.out, HMD.out, HB.out⟩
            case measure => simp [intOf]; omega
      · obtain rfl : k = b.P.length := by omega
        have HJC : Hid (∀ l, l ∈ ys ↔ JoinC b.say.P ws (sayL ls) f t l) := fun l => by
          have h := HM1.out l
          rw [show b.P.length = b.say.P.length from sayL_len.symm] at h
          exact h.trans JoinK.all
        have H40 : Hid (∀ y ∈ ys, 0 ≤ y ∧ y < 40) := fun y hy => ((HM1.out y).1 hy).fit HG.out
        obtain ⟨Av, cv, rfl, hOi, hcv⟩ := own_slice (ys := ys) HV.out
        have HYI := Lib.hid hOi.ints
        have hyl : ys.length ≤ 40 := len40 HR.out H40.out
        obtain ⟨_, b0, b1, b2, b3, b4, b5⟩ := BX.out
        have HCP := Lib.hid (l6Pairs_any b wr ((HX.out.keep HBW.out).more hws) HM.out HG.out)
        clear hOi
        go_wp2_with fail
        refine HCP.out.mono ?_
        rintro e w3 ⟨v3, ds, rfl, hL3, hP3, hB3⟩
        have hdl := hP3.len HG.out
        rw [sayL_len] at hdl
        obtain ⟨N, hN, _, hmem⟩ := hP3
        have HNN := Lib.hid hN
        have HFIT := Lib.hid (pairs_fit HG.out hmem)
        have HDP := Lib.hid (DP_eq hmem)
        obtain ⟨A3, c3, rfl, _, hLl, _⟩ := hL3.shape
        have HB3 := Lib.hid (HBW.out.trans (hB3.mono hws))
        have HCU := Lib.hid (l6Up_any A3 Av ds ys c3 cv w3 hLl HFIT.out ((HYI.out.keep hB3).more hB3.size) HR.out (fun y hy => by have := H40.out y hy; omega) (by omega))
        clear hL3 hN hmem hLl hB3 HCP b0 b1 b2 b3 b4 b5
        have hs3 := HB3.out.size
        go_wp2_with fail
        refine HCU.out.mono ?_
        rintro e w4 ⟨v4, zs, rfl, ⟨hr4, hf4, hU4⟩, hO4, hB4⟩
        rw [HDP.out] at hU4
        have HF4 : Hid (∀ y ∈ zs, 0 ≤ y ∧ y < 40) := fun y hy => by
          obtain ⟨z, hz, hu⟩ := (hU4.ups y).1 (setL_iff.2 hy)
          have h0 := H40.out z (setL_iff.1 hz)
          refine hu (fun y => 0 ≤ y ∧ y < 40) h0 fun l x hd _ => ?_
          have h1 := nonB_is (dirB_sym HG.out hd).1
          have := HG.out.1.2
          omega
        have HSS : setL ys = fun l => bP (JoinC b.say.P ws (sayL ls) f t l) := by
          funext l
          by_cases h : l ∈ ys
          · rw [setL_iff.2 h, bP_t ((HJC.out l).1 h)]
          · rw [bP_f fun h' => h ((HJC.out l).2 h')]
            cases e : setL ys l
            · rfl
            · exact absurd (setL_iff.1 e) h
        rw [HSS] at hU4
        have HP4 : Hid (PCell b.say ws (sayL ls) f t zs) := ⟨hr4, HF4.out, N, HNN.out, by rw [HBASE.out]; exact hU4⟩
        have HO4 : Hid (OwnV w4 w3.heap.size v4 zs) := hO4
        have HB4 := Lib.hid (HB3.out.trans (hB4.mono hs3))
        clear hr4 hf4 hU4 hO4 hB4 HCU HSS
        go_wp2
        go_ret
        exact ⟨_, zs, rfl, HP4.out, HO4.out.lower hs3, HB4.out⟩

end Go.Proofs.YtfbpcdmpkbjifaaDoor

/- The reference's l7Word and CellFor. -/

namespace Go.Proofs.YtfbpcdmpkbjifaaDoor
open Go.RowKit

theorem tokW_iff {t : Int} {ws : List Int} : TokW t ws ↔ ws.length ≤ 10 ∧ allB 0 (t - 1) ws = true := by
  unfold TokW
  rw [allB_iff]
  refine and_congr_right fun _ => ⟨fun h k x hx => ?_, fun h v hv => ?_⟩
  · have := h x (List.mem_of_getElem? hx)
    exact decide_eq_true (by omega)
  · obtain ⟨k, hk⟩ := List.mem_iff_getElem?.1 hv
    have := h k v hk
    have h1 := inB_lo this
    have h2 := inB_hi this
    omega

set_option maxRecDepth 20000 in
set_option maxHeartbeats 600000 in
theorem l7Word_any (b : Bi) (A : Option Addr) (ws : List Int) (c : Nat) (w : World) (hx : ReadB w w.heap.size b) (hm : LenB 1048576 b) (hw : Ints w w.heap.size A ws) (hwl : ws.length ≤ 1048576) :
    Calls Tryd.prog 88 #[(.agg #[.int .i64 b.n, .int .i64 b.t, .slice b.Ap b.P.length b.cp, .slice b.Ao b.O.length b.co, .slice b.Ae b.E.length b.ce, .slice b.Af b.F.length b.cf]), .slice A ws.length c] w fun e w' => e = .returned (.bool (bP (GoodBs b.say ∧ TokW b.t ws))) ∧ Below w.heap.size w w' := by
  have HX := Lib.hid hx; clear hx
  have HM := Lib.hid hm; clear hm
  have HW := Lib.hid hw; clear hw
  have HB0 : Hid (Below w.heap.size w (w.alloc (.cells #[.int .i64 b.n, .int .i64 b.t, .slice b.Ap b.P.length b.cp, .slice b.Ao b.O.length b.co, .slice b.Ae b.E.length b.ce, .slice b.Af b.F.length b.cf] 55))) := by show Below _ _ _; go_grown
  have B0 := Lib.hid (Box6.new w b 55)
  have HC := Lib.hid (specGoodB_any b (w.alloc (.cells #[.int .i64 b.n, .int .i64 b.t, .slice b.Ap b.P.length b.cp, .slice b.Ao b.O.length b.co, .slice b.Ae b.E.length b.ce, .slice b.Af b.F.length b.cf] 55)) ((HX.out.keep HB0.out).more HB0.out.size) HM.out)
  go_enter Tryd.func88, Tryd.ntmps88
  go_wp2_with fail
  refine HC.out.mono ?_
  rintro e w1 ⟨rfl, hB1⟩
  have B1 := Lib.hid (B0.out.keep hB1 B0.out.1)
  have HB1 := Lib.hid (HB0.out.trans (hB1.mono HB0.out.size)); clear hB1
  clear B0 HB0 HC
  obtain ⟨_, b0, b1, b2, b3, b4, b5⟩ := B1.out
  have hs1 := HB1.out.size
  cases hg : bP (GoodBs b.say)
  · have HE : Hid (bP (GoodBs b.say ∧ TokW b.t ws) = false) := bP_f fun h => bP_no hg h.1
    clear hg
    go_wp2
    go_ret
    exact ⟨ret_bool HE.out.symm, HB1.out⟩
  · have HG : Hid (GoodBs b.say) := bP_is hg
    clear hg
    have hbt : 1 ≤ b.t ∧ b.t ≤ 4 := HG.out.2.1
    by_cases hl : ws.length ≤ 10
    · cases ha : allB 0 (b.t - 1) ws
      · have HE : Hid (bP (GoodBs b.say ∧ TokW b.t ws) = false) := bP_f fun h => by rw [(tokW_iff.1 h.2).2] at ha; cases ha
        have HA := Lib.hid (l1All_any A ws c 0 (b.t - 1) w1 ((HW.out.keep HB1.out).more hs1) hwl)
        rw [ha] at HA
        clear ha
        go_wp2_with fail
        refine HA.out.mono ?_
        rintro e w2 ⟨rfl, hB2⟩
        have HB2 := Lib.hid (HB1.out.trans (hB2.mono hs1)); clear hB2
        go_wp2
        go_ret
        exact ⟨ret_bool HE.out.symm, HB2.out⟩
      · have HE : Hid (bP (GoodBs b.say ∧ TokW b.t ws) = true) := bP_t ⟨HG.out, tokW_iff.2 ⟨hl, ha⟩⟩
        have HA := Lib.hid (l1All_any A ws c 0 (b.t - 1) w1 ((HW.out.keep HB1.out).more hs1) hwl)
        rw [ha] at HA
        clear ha
        go_wp2_with fail
        refine HA.out.mono ?_
        rintro e w2 ⟨rfl, hB2⟩
        have HB2 := Lib.hid (HB1.out.trans (hB2.mono hs1)); clear hB2
        go_wp2
        go_ret
        exact ⟨ret_bool HE.out.symm, HB2.out⟩
    · have HE : Hid (bP (GoodBs b.say ∧ TokW b.t ws) = false) := bP_f fun h => hl h.2.1
      go_wp2
      go_ret
      exact ⟨ret_bool HE.out.symm, HB1.out⟩

/-- What CellFor asks. -/
def OkF (s : Bs) (n : Int) (xs : List (List Int)) (ws : List Int) (f t : Int) : Prop := (GoodBs s ∧ TokW s.t ws) ∧ GoodC n xs ∧ n = ws.length ∧ spanB n f t = true

set_option maxRecDepth 20000 in
set_option maxHeartbeats 1000000 in
theorem specCellFor_any (b : Bi) (n f t : Int) (A Aw : Option Addr) (ls : List Li) (ws : List Int) (c cw : Nat) (w : World) (hx : ReadB w w.heap.size b) (hm : LenB 1048576 b) (hl : Lls w w.heap.size A ls) (h1 : ls.length ≤ 1048576) (h2 : ∀ u ∈ ls, u.r.length ≤ 1048576) (hw : Ints w w.heap.size Aw ws) (hwl : ws.length ≤ 1048576) :
    Calls Tryd.prog 34 #[(.agg #[.int .i64 b.n, .int .i64 b.t, .slice b.Ap b.P.length b.cp, .slice b.Ao b.O.length b.co, .slice b.Ae b.E.length b.ce, .slice b.Af b.F.length b.cf]), .agg #[.int .i64 n, .slice A ls.length c], .slice Aw ws.length cw, .int .i64 f, .int .i64 t] w (GaveP w (bP (OkF b.say n (sayL ls) ws f t)) (PUp b.say (cellBase b.say ws (sayL ls) f t))) := by
  have HX := Lib.hid hx; clear hx
  have HM := Lib.hid hm; clear hm
  have HC := Lib.hid hl; clear hl
  have HU := Lib.hid h2; clear h2
  have HW := Lib.hid hw; clear hw
  have hB0 : Below w.heap.size w ((w.alloc (.cells #[.int .i64 b.n, .int .i64 b.t, .slice b.Ap b.P.length b.cp, .slice b.Ao b.O.length b.co, .slice b.Ae b.E.length b.ce, .slice b.Af b.F.length b.cf] 55)).alloc (.cells #[.int .i64 n, .slice A ls.length c] 57)) := by go_grown
  have hR0 : Row ((w.alloc (.cells #[.int .i64 b.n, .int .i64 b.t, .slice b.Ap b.P.length b.cp, .slice b.Ao b.O.length b.co, .slice b.Ae b.E.length b.ce, .slice b.Af b.F.length b.cf] 55)).alloc (.cells #[.int .i64 n, .slice A ls.length c] 57)) (w.heap.size + 1) 57 #[.int .i64 n, .slice A ls.length c] := by
    have h := Row.new (w.alloc (.cells #[.int .i64 b.n, .int .i64 b.t, .slice b.Ap b.P.length b.cp, .slice b.Ao b.O.length b.co, .slice b.Ae b.E.length b.ce, .slice b.Af b.F.length b.cf] 55)) 57 #[.int .i64 n, .slice A ls.length c]
    simpa using h
  have B0 : Hid (Box6 ((w.alloc (.cells #[.int .i64 b.n, .int .i64 b.t, .slice b.Ap b.P.length b.cp, .slice b.Ao b.O.length b.co, .slice b.Ae b.E.length b.ce, .slice b.Af b.F.length b.cf] 55)).alloc (.cells #[.int .i64 n, .slice A ls.length c] 57)) w.heap.size b) := (Box6.new w b 55).keep ((Below.refl _ _).alloc (Nat.le_refl _) _) (by simp)
  have HB0 := Lib.hid hB0; clear hB0
  have HR0 := Lib.hid hR0; clear hR0
  have hs0 := HB0.out.size
  obtain ⟨_, b0, b1, b2, b3, b4, b5⟩ := B0.out
  go_enter Tryd.func34, Tryd.ntmps34
  go_wp2_with fail
  generalize ((w.alloc (.cells #[.int .i64 b.n, .int .i64 b.t, .slice b.Ap b.P.length b.cp, .slice b.Ao b.O.length b.co, .slice b.Ae b.E.length b.ce, .slice b.Af b.F.length b.cf] 55)).alloc (.cells #[.int .i64 n, .slice A ls.length c] 57)) = W at HB0 HR0 hs0 B0 b0 b1 b2 b3 b4 b5 ⊢
  refine (l7Word_any b Aw ws cw W ((HX.out.keep HB0.out).more hs0) HM.out ((HW.out.keep HB0.out).more hs0) hwl).mono ?_
  rintro e w1 ⟨rfl, hB1⟩
  have B1 := Lib.hid (B0.out.keep hB1 B0.out.1)
  have HR1 := Lib.hid (HR0.out.below hB1 HR0.out.lt)
  have HB1 := Lib.hid (HB0.out.trans (hB1.mono hs0)); clear hB1
  clear B0 HB0 HR0 b0 b1 b2 b3 b4 b5
  have hs1 := HB1.out.size
  have d0 := HR1.out.cell 0
  have d1 := HR1.out.cell 1
  simp only [List.getElem?_toArray, List.getElem?_cons_succ, List.getElem?_cons_zero] at d0 d1
  cases hg : bP (GoodBs b.say ∧ TokW b.t ws)
  · have HE : Hid (bP (OkF b.say n (sayL ls) ws f t) = false) := bP_f fun h => bP_no hg h.1
    clear hg
    go_wp2
    go_ret2
    exact gaveP_none HE.out HB1.out
  have HG : Hid (GoodBs b.say ∧ TokW b.t ws) := bP_is hg
  clear hg
  go_wp2_with fail
  refine (l7Good_any n A ls c w1 ((HC.out.keep HB1.out).more hs1) h1 HU.out).mono ?_
  rintro e w2 ⟨rfl, hB2⟩
  have B2 := Lib.hid (B1.out.keep hB2 B1.out.1)
  have HR2 := Lib.hid (HR1.out.below hB2 HR1.out.lt)
  have HB2 := Lib.hid (HB1.out.trans (hB2.mono hs1)); clear hB2
  clear B1 HB1 HR1 d0 d1
  have hs2 := HB2.out.size
  have d0 := HR2.out.cell 0
  have d1 := HR2.out.cell 1
  simp only [List.getElem?_toArray, List.getElem?_cons_succ, List.getElem?_cons_zero] at d0 d1
  cases hg : bP (GoodC n (sayL ls))
  · have HE : Hid (bP (OkF b.say n (sayL ls) ws f t) = false) := bP_f fun h => bP_no hg h.2.1
    clear hg
    go_wp2
    go_ret2
    exact gaveP_none HE.out HB2.out
  have HGC : Hid (GoodC n (sayL ls)) := bP_is hg
  clear hg
  by_cases hn : n = ws.length
  · have HN := Lib.hid hn
    have en := bne_f hn
    clear hn
    go_wp2_with fail
    refine (l7Span_any n f t w2).mono ?_
    rintro e w3 ⟨rfl, rfl⟩
    cases hs : spanB n f t
    · have HE : Hid (bP (OkF b.say n (sayL ls) ws f t) = false) := bP_f fun h => by rw [h.2.2.2] at hs; cases hs
      clear hs
      go_wp2
      go_ret2
      exact gaveP_none HE.out HB2.out
    have HE : Hid (bP (OkF b.say n (sayL ls) ws f t) = true) := bP_t ⟨HG.out, HGC.out, HN.out, hs⟩
    have HCL := Lib.hid (l7Cell_any b n f t A Aw ls ws c cw w3 ((HX.out.keep HB2.out).more hs2) HM.out HG.out.1 HN.out ((HC.out.keep HB2.out).more hs2) HGC.out ((HW.out.keep HB2.out).more hs2) HG.out.2 hs)
    clear hs
    obtain ⟨_, b0, b1, b2, b3, b4, b5⟩ := B2.out
    go_wp2_with fail
    refine HCL.out.mono ?_
    rintro e w4 ⟨v4, ys, rfl, hP4, hO4, hB4⟩
    have HP4 := Lib.hid hP4
    have HO4 : Hid (OwnV w4 w3.heap.size v4 ys) := hO4
    have HB4 := Lib.hid (HB2.out.trans (hB4.mono hs2))
    clear hP4 hO4 hB4 HCL b0 b1 b2 b3 b4 b5
    go_wp2
    go_ret2
    exact gaveP_list HE.out HP4.out.2.2 HP4.out.1 (len40 HP4.out.1 HP4.out.2.1) HO4.out hs2 HB4.out
  · have HE : Hid (bP (OkF b.say n (sayL ls) ws f t) = false) := bP_f fun h => hn h.2.2.1
    have en := bne_t hn
    clear hn
    go_wp2
    go_ret2
    exact gaveP_none HE.out HB2.out

end Go.Proofs.YtfbpcdmpkbjifaaDoor
