/- The tables out of a row's condition: what the listed package variables hold when the call begins. -/
import Derived.Test.YtaaagcokjndaoaaDoorEnds
import Derived.Test.YtaaagcokjndaoaaDoorLet
namespace Go.Proofs.YtaaagcokjndaoaaDoor
open Go.ChangeShapes Go.WideShapes Go.ChangeAt Go.RowKit
set_option maxRecDepth 100000

theorem Tryd.gLim : Tryd.prog.globalNamed "loop.example/g00758/impl.limits" = some 2 := by kernel_rfl
theorem Tryd.tLim : (Tryd.prog.globals[2]?).map (·.type) = some 109 := by kernel_rfl
theorem Tryd.cLim : Tryd.prog.cellsOf 108 = 2 := by kernel_rfl
theorem Tryd.cLims : Tryd.prog.cellsOf 109 = 10 := by kernel_rfl
theorem Tryd.gNon : Tryd.prog.globalNamed "loop.example/g00758/impl.nonLetters" = some 1 := by kernel_rfl
theorem Tryd.tNon : (Tryd.prog.globals[1]?).map (·.type) = some 98 := by kernel_rfl
theorem Tryd.cNon : Tryd.prog.cellsOf 98 = 6 := by kernel_rfl
theorem Tryd.gTok : Tryd.prog.globalNamed "loop.example/g00758/impl.tokLetters" = some 0 := by kernel_rfl
theorem Tryd.tTok : (Tryd.prog.globals[0]?).map (·.type) = some 85 := by kernel_rfl
theorem Tryd.cTok : Tryd.prog.cellsOf 85 = 4 := by kernel_rfl
theorem Tryd.cByte : Tryd.prog.cellsOf 5 = 1 := by kernel_rfl

theorem pair_cells {H : Type} {enc : TypeId × Value → H} {W : World} {base : Nat} {sp : Nat → Bool} {held : Bool} {m : Nat} {q0 q1 : Value} {a b : Int} {ps : List MemPlace}
    (h : DataW.trod enc Tryd.prog W base sp held m 108 [q0, q1] = some (.agg [.lit (.int .i64 a), .lit (.int .i64 b)], ps)) : q0 = .int .i64 a ∧ q1 = .int .i64 b := by
  obtain ⟨y0, y1, n', hx, _, h0, h1⟩ := trod_struct2 Tryd.underlying108 h
  have e0 : DataW.trod enc Tryd.prog W base sp held n' 3 [q0] = some y0 := h0
  have e1 : DataW.trod enc Tryd.prog W base sp held n' 3 [q1] = some y1 := h1
  obtain ⟨l, el, ey, _⟩ := DataW.trod_int Tryd.underlying3 e0
  obtain ⟨l', el', ey', _⟩ := DataW.trod_int Tryd.underlying3 e1
  subst ey ey'
  simp only [Prod.mk.injEq, DataW.agg.injEq, List.cons.injEq, DataW.lit.injEq, Lit.int.injEq] at hx
  injection el with el
  injection el' with el'
  exact ⟨by rw [el, hx.1.1.2], by rw [el', hx.1.2.1.2]⟩

theorem byte_cell {H : Type} {enc : TypeId × Value → H} {W : World} {base : Nat} {sp : Nat → Bool} {held : Bool} {m : Nat} {q : Value} {a : Int} {ps : List MemPlace}
    (h : DataW.trod enc Tryd.prog W base sp held m 5 [q] = some (.lit (.int .u8 a), ps)) : q = .int .u8 a := by
  obtain ⟨l, el, ey, _⟩ := DataW.trod_int Tryd.underlying5 h
  simp only [Prod.mk.injEq, DataW.lit.injEq, Lit.int.injEq] at ey
  injection el with el
  rw [el, ey.1.2]

/-- One listed variable reads as its datum. -/
def LaidOne (W : World) (n : String) (d : DataW Unit) : Prop :=
  ∃ g t cs fuel p, Tryd.prog.globalNamed n = some g ∧ (Tryd.prog.globals[g]?).map (·.type) = some t ∧ W.var? Tryd.prog n = some cs ∧ DataW.trod (fun _ => ()) Tryd.prog W 0 (fun _ => true) false fuel t cs.toList = some (d, p)

theorem lims_of {W : World} (h : LaidOne W "loop.example/g00758/impl.limits" Rows.laid_loop_example_g00758_impl_limits) : Lims W := by
  obtain ⟨g, t, cs, f0, p0, hg, ht, hv, hd⟩ := h
  obtain rfl := Option.some.inj (Tryd.gLim.symm.trans hg)
  obtain rfl := Option.some.inj (Tryd.tLim.symm.trans ht)
  obtain ⟨xs, m, _, hx, hlen, hn, hel⟩ := DataW.trod_array Tryd.underlying109 hd
  rw [Tryd.cLims] at hlen
  rw [Tryd.cLim] at hel
  obtain ⟨l⟩ := cs
  match l, hlen, xs, hn with
  | [c0, c1, c2, c3, c4, c5, c6, c7, c8, c9], _, [x0, x1, x2, x3, x4], _ =>
    simp only [Rows.laid_loop_example_g00758_impl_limits, Prod.mk.injEq, DataW.agg.injEq, List.map_cons, List.map_nil, List.cons.injEq] at hx
    obtain ⟨⟨e0, e1, e2, e3, e4, _⟩, _⟩ := hx
    obtain ⟨x0, _⟩ := x0
    obtain ⟨x1, _⟩ := x1
    obtain ⟨x2, _⟩ := x2
    obtain ⟨x3, _⟩ := x3
    obtain ⟨x4, _⟩ := x4
    simp only at e0 e1 e2 e3 e4
    subst e0 e1 e2 e3 e4
    obtain ⟨rfl, rfl⟩ := pair_cells (hel 0 (by omega))
    obtain ⟨rfl, rfl⟩ := pair_cells (hel 1 (by omega))
    obtain ⟨rfl, rfl⟩ := pair_cells (hel 2 (by omega))
    obtain ⟨rfl, rfl⟩ := pair_cells (hel 3 (by omega))
    obtain ⟨rfl, rfl⟩ := pair_cells (hel 4 (by omega))
    intro k v hk
    have hc := World.var?_cell hg hv k
    rw [hc]
    match k, hk with
    | 0, hk => simp [limL] at hk ⊢; exact hk
    | 1, hk => simp [limL] at hk ⊢; exact hk
    | 2, hk => simp [limL] at hk ⊢; exact hk
    | 3, hk => simp [limL] at hk ⊢; exact hk
    | 4, hk => simp [limL] at hk ⊢; exact hk
    | 5, hk => simp [limL] at hk ⊢; exact hk
    | 6, hk => simp [limL] at hk ⊢; exact hk
    | 7, hk => simp [limL] at hk ⊢; exact hk
    | 8, hk => simp [limL] at hk ⊢; exact hk
    | 9, hk => simp [limL] at hk ⊢; exact hk
    | k + 10, hk => simp [limL] at hk

theorem nonT_of {W : World} (h : LaidOne W "loop.example/g00758/impl.nonLetters" Rows.laid_loop_example_g00758_impl_nonLetters) : NonT W := by
  obtain ⟨g, t, cs, f0, p0, hg, ht, hv, hd⟩ := h
  obtain rfl := Option.some.inj (Tryd.gNon.symm.trans hg)
  obtain rfl := Option.some.inj (Tryd.tNon.symm.trans ht)
  obtain ⟨xs, m, _, hx, hlen, hn, hel⟩ := DataW.trod_array Tryd.underlying98 hd
  rw [Tryd.cNon] at hlen
  rw [Tryd.cByte] at hel
  obtain ⟨l⟩ := cs
  match l, hlen, xs, hn with
  | [c0, c1, c2, c3, c4, c5], _, [x0, x1, x2, x3, x4, x5], _ =>
    simp only [Rows.laid_loop_example_g00758_impl_nonLetters, Prod.mk.injEq, DataW.agg.injEq, List.map_cons, List.map_nil, List.cons.injEq] at hx
    obtain ⟨⟨e0, e1, e2, e3, e4, e5, _⟩, _⟩ := hx
    obtain ⟨x0, _⟩ := x0
    obtain ⟨x1, _⟩ := x1
    obtain ⟨x2, _⟩ := x2
    obtain ⟨x3, _⟩ := x3
    obtain ⟨x4, _⟩ := x4
    obtain ⟨x5, _⟩ := x5
    simp only at e0 e1 e2 e3 e4 e5
    subst e0 e1 e2 e3 e4 e5
    obtain rfl := byte_cell (hel 0 (by omega))
    obtain rfl := byte_cell (hel 1 (by omega))
    obtain rfl := byte_cell (hel 2 (by omega))
    obtain rfl := byte_cell (hel 3 (by omega))
    obtain rfl := byte_cell (hel 4 (by omega))
    obtain rfl := byte_cell (hel 5 (by omega))
    intro k v hk
    have hc := World.var?_cell hg hv k
    rw [hc]
    match k, hk with
    | 0, hk => simp [nonL] at hk ⊢; subst hk; rfl
    | 1, hk => simp [nonL] at hk ⊢; subst hk; rfl
    | 2, hk => simp [nonL] at hk ⊢; subst hk; rfl
    | 3, hk => simp [nonL] at hk ⊢; subst hk; rfl
    | 4, hk => simp [nonL] at hk ⊢; subst hk; rfl
    | 5, hk => simp [nonL] at hk ⊢; subst hk; rfl
    | k + 6, hk => simp [nonL] at hk

theorem tokT_of {W : World} (h : LaidOne W "loop.example/g00758/impl.tokLetters" Rows.laid_loop_example_g00758_impl_tokLetters) : TokT W := by
  obtain ⟨g, t, cs, f0, p0, hg, ht, hv, hd⟩ := h
  obtain rfl := Option.some.inj (Tryd.gTok.symm.trans hg)
  obtain rfl := Option.some.inj (Tryd.tTok.symm.trans ht)
  obtain ⟨xs, m, _, hx, hlen, hn, hel⟩ := DataW.trod_array Tryd.underlying85 hd
  rw [Tryd.cTok] at hlen
  rw [Tryd.cByte] at hel
  obtain ⟨l⟩ := cs
  match l, hlen, xs, hn with
  | [c0, c1, c2, c3], _, [x0, x1, x2, x3], _ =>
    simp only [Rows.laid_loop_example_g00758_impl_tokLetters, Prod.mk.injEq, DataW.agg.injEq, List.map_cons, List.map_nil, List.cons.injEq] at hx
    obtain ⟨⟨e0, e1, e2, e3, _⟩, _⟩ := hx
    obtain ⟨x0, _⟩ := x0
    obtain ⟨x1, _⟩ := x1
    obtain ⟨x2, _⟩ := x2
    obtain ⟨x3, _⟩ := x3
    simp only at e0 e1 e2 e3
    subst e0 e1 e2 e3
    obtain rfl := byte_cell (hel 0 (by omega))
    obtain rfl := byte_cell (hel 1 (by omega))
    obtain rfl := byte_cell (hel 2 (by omega))
    obtain rfl := byte_cell (hel 3 (by omega))
    intro k v hk
    have hc := World.var?_cell hg hv k
    rw [hc]
    match k, hk with
    | 0, hk => simp [tokL] at hk ⊢; subst hk; rfl
    | 1, hk => simp [tokL] at hk ⊢; subst hk; rfl
    | 2, hk => simp [tokL] at hk ⊢; subst hk; rfl
    | 3, hk => simp [tokL] at hk ⊢; subst hk; rfl
    | k + 4, hk => simp [tokL] at hk

def laidLNT : List (String × DataW Unit) := [("loop.example/g00758/impl.limits", Rows.laid_loop_example_g00758_impl_limits), ("loop.example/g00758/impl.nonLetters", Rows.laid_loop_example_g00758_impl_nonLetters), ("loop.example/g00758/impl.tokLetters", Rows.laid_loop_example_g00758_impl_tokLetters)]
def laidLT : List (String × DataW Unit) := [("loop.example/g00758/impl.limits", Rows.laid_loop_example_g00758_impl_limits), ("loop.example/g00758/impl.tokLetters", Rows.laid_loop_example_g00758_impl_tokLetters)]
def laidNT : List (String × DataW Unit) := [("loop.example/g00758/impl.nonLetters", Rows.laid_loop_example_g00758_impl_nonLetters), ("loop.example/g00758/impl.tokLetters", Rows.laid_loop_example_g00758_impl_tokLetters)]

theorem of_laidLNT {W : World} (h : laidMetH Tryd.prog laidLNT W) : Lims W ∧ NonT W ∧ TokT W := by
  rw [MakeChecks.laidMetH_plain _ _ _ (by kernel_rfl)] at h
  obtain ⟨ps, ⟨g, t, cs, f0, p0, q0, hg, ht, hv, hd, ⟨g1, t1, cs1, f1, p1, q1, hg1, ht1, hv1, hd1, ⟨g2, t2, cs2, f2, p2, q2, hg2, ht2, hv2, hd2, _, _⟩, _⟩, _⟩, _, _⟩ := h
  exact ⟨lims_of ⟨g, t, cs, f0, p0, hg, ht, hv, hd⟩, nonT_of ⟨g1, t1, cs1, f1, p1, hg1, ht1, hv1, hd1⟩, tokT_of ⟨g2, t2, cs2, f2, p2, hg2, ht2, hv2, hd2⟩⟩
theorem of_laidLT {W : World} (h : laidMetH Tryd.prog laidLT W) : Lims W ∧ TokT W := by
  rw [MakeChecks.laidMetH_plain _ _ _ (by kernel_rfl)] at h
  obtain ⟨ps, ⟨g, t, cs, f0, p0, q0, hg, ht, hv, hd, ⟨g2, t2, cs2, f2, p2, q2, hg2, ht2, hv2, hd2, _, _⟩, _⟩, _, _⟩ := h
  exact ⟨lims_of ⟨g, t, cs, f0, p0, hg, ht, hv, hd⟩, tokT_of ⟨g2, t2, cs2, f2, p2, hg2, ht2, hv2, hd2⟩⟩
theorem of_laidNT {W : World} (h : laidMetH Tryd.prog laidNT W) : NonT W ∧ TokT W := by
  rw [MakeChecks.laidMetH_plain _ _ _ (by kernel_rfl)] at h
  obtain ⟨ps, ⟨g1, t1, cs1, f1, p1, q1, hg1, ht1, hv1, hd1, ⟨g2, t2, cs2, f2, p2, q2, hg2, ht2, hv2, hd2, _, _⟩, _⟩, _, _⟩ := h
  exact ⟨nonT_of ⟨g1, t1, cs1, f1, p1, hg1, ht1, hv1, hd1⟩, tokT_of ⟨g2, t2, cs2, f2, p2, hg2, ht2, hv2, hd2⟩⟩

theorem door_LNT (os : Os) (args : Array Value) : laidMetH Tryd.prog laidLNT ((World.doorLaid Tryd.prog 400 os).forCall (fun _ _ => 0) ⟨#[], args, []⟩).memory :=
  laidMetH_of_parts3 (fuel := 8) (laidMet_of_run' 8 (by kernel_rfl) (by kernel_rfl)) (by kernel_rfl) (by kernel_rfl)
theorem door_LT (os : Os) (args : Array Value) : laidMetH Tryd.prog laidLT ((World.doorLaid Tryd.prog 400 os).forCall (fun _ _ => 0) ⟨#[], args, []⟩).memory :=
  laidMetH_of_parts3 (fuel := 8) (laidMet_of_run' 8 (by kernel_rfl) (by kernel_rfl)) (by kernel_rfl) (by kernel_rfl)
theorem door_NT (os : Os) (args : Array Value) : laidMetH Tryd.prog laidNT ((World.doorLaid Tryd.prog 400 os).forCall (fun _ _ => 0) ⟨#[], args, []⟩).memory :=
  laidMetH_of_parts3 (fuel := 8) (laidMet_of_run' 8 (by kernel_rfl) (by kernel_rfl)) (by kernel_rfl) (by kernel_rfl)

theorem vars_two {H : Type} {enc : TypeId × Value → H} {P : Program} {w : World} {spare : Nat → Bool} {a b : String} {gs : List (DataW H)} {ps : List MemPlace} (h : DataW.TrodVars enc P w spare [a, b] gs ps) : ∃ d0 d1, gs = [d0, d1] := by
  match gs, h with
  | [d0, d1], _ => exact ⟨d0, d1, rfl⟩
  | [], h => simp [DataW.TrodVars] at h
  | [_], h => simp [DataW.TrodVars] at h
  | _ :: _ :: _ :: _, h => simp [DataW.TrodVars] at h
theorem vars_three {H : Type} {enc : TypeId × Value → H} {P : Program} {w : World} {spare : Nat → Bool} {a b c : String} {gs : List (DataW H)} {ps : List MemPlace} (h : DataW.TrodVars enc P w spare [a, b, c] gs ps) : ∃ d0 d1 d2, gs = [d0, d1, d2] := by
  match gs, h with
  | [d0, d1, d2], _ => exact ⟨d0, d1, d2, rfl⟩
  | [], h => simp [DataW.TrodVars] at h
  | [_], h => simp [DataW.TrodVars] at h
  | [_, _], h => simp [DataW.TrodVars] at h
  | _ :: _ :: _ :: _ :: _, h => simp [DataW.TrodVars] at h

end Go.Proofs.YtaaagcokjndaoaaDoor
