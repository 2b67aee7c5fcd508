/- What the rows of this seat share: the table of limits out of the row's condition, and a law's end. -/
import Derived.Test.YtgnpgehekfhedaaDoorU611

namespace Go.Proofs.YtgnpgehekfhedaaDoor
open Go.ChangeShapes Go.WideShapes Go.ChangeAt Go.RowKit
set_option maxRecDepth 100000

theorem Tryd.gLim : Tryd.prog.globalNamed "loop.example/g00758/impl.limits" = some 0 := by kernel_rfl
theorem Tryd.tLim : (Tryd.prog.globals[0]?).map (·.type) = some 175 := by kernel_rfl
theorem Tryd.cLim : Tryd.prog.cellsOf 174 = 2 := by kernel_rfl
theorem Tryd.cLims : Tryd.prog.cellsOf 175 = 12 := by kernel_rfl

def laid1 : List (String × DataW Unit) := [("loop.example/g00758/impl.limits", Rows.laid_loop_example_g00758_impl_limits)]

/-- The door's own heap meets the condition. -/
theorem door_met (os : Os) (args : Array Value) : laidMetH Tryd.prog laid1 ((World.doorLaid Tryd.prog 400 os).forCall (fun _ _ => 0) ⟨#[], args, []⟩).memory :=
  laidMetH_of_parts3 (fuel := 8) (laidMet_of_run' 8 (by kernel_rfl) (by kernel_rfl)) (by kernel_rfl) (by kernel_rfl)

theorem pair_cells {H : Type} {enc : TypeId × Value → H} {W : World} {base : Nat} {sp : Nat → Bool} {held : Bool} {m : Nat} {q0 q1 : Value} {a b : Int} {ps : List MemPlace}
    (h : DataW.trod enc Tryd.prog W base sp held m 174 [q0, q1] = some (.agg [.lit (.int .i64 a), .lit (.int .i64 b)], ps)) : q0 = .int .i64 a ∧ q1 = .int .i64 b := by
  obtain ⟨y0, y1, n', hx, _, h0, h1⟩ := trod_struct2 Tryd.underlying174 h
  have e0 : DataW.trod enc Tryd.prog W base sp held n' 3 [q0] = some y0 := h0
  have e1 : DataW.trod enc Tryd.prog W base sp held n' 3 [q1] = some y1 := h1
  obtain ⟨l, el, ey, _⟩ := DataW.trod_int Tryd.underlying3 e0
  obtain ⟨l', el', ey', _⟩ := DataW.trod_int Tryd.underlying3 e1
  subst ey ey'
  simp only [Prod.mk.injEq, DataW.agg.injEq, List.cons.injEq, DataW.lit.injEq, Lit.int.injEq] at hx
  injection el with el
  injection el' with el'
  exact ⟨by rw [el, hx.1.1.2], by rw [el', hx.1.2.1.2]⟩

theorem lims_of_laid {W : World} (h : laidMetH Tryd.prog laid1 W) : Lims W := by
  rw [MakeChecks.laidMetH_plain _ _ _ (by kernel_rfl)] at h
  obtain ⟨ps, ⟨g, t, cs, f0, p0, q0, hg, ht, hv, hd, _, _⟩, _, _⟩ := h
  obtain rfl := Option.some.inj (Tryd.gLim.symm.trans hg)
  obtain rfl := Option.some.inj (Tryd.tLim.symm.trans ht)
  obtain ⟨xs, m, _, hx, hlen, hn, hel⟩ := DataW.trod_array Tryd.underlying175 hd
  rw [Tryd.cLims] at hlen
  rw [Tryd.cLim] at hel
  obtain ⟨l⟩ := cs
  match l, hlen, xs, hn with
  | [c0, c1, c2, c3, c4, c5, c6, c7, c8, c9, c10, c11], _, [x0, x1, x2, x3, x4, x5], _ =>
    simp only [Rows.laid_loop_example_g00758_impl_limits, Prod.mk.injEq, DataW.agg.injEq, List.map_cons, List.map_nil, List.cons.injEq] at hx
    obtain ⟨⟨e0, e1, e2, e3, e4, e5, _⟩, _⟩ := hx
    obtain ⟨x0, _⟩ := x0
    obtain ⟨x1, _⟩ := x1
    obtain ⟨x2, _⟩ := x2
    obtain ⟨x3, _⟩ := x3
    obtain ⟨x4, _⟩ := x4
    obtain ⟨x5, _⟩ := x5
    simp only at e0 e1 e2 e3 e4 e5
    subst e0 e1 e2 e3 e4 e5
    obtain ⟨rfl, rfl⟩ := pair_cells (hel 0 (by omega))
    obtain ⟨rfl, rfl⟩ := pair_cells (hel 1 (by omega))
    obtain ⟨rfl, rfl⟩ := pair_cells (hel 2 (by omega))
    obtain ⟨rfl, rfl⟩ := pair_cells (hel 3 (by omega))
    obtain ⟨rfl, rfl⟩ := pair_cells (hel 4 (by omega))
    obtain ⟨rfl, rfl⟩ := pair_cells (hel 5 (by omega))
    intro k v hk
    have hc := World.var?_cell hg hv k
    rw [hc]
    match k, hk with
    | 0, hk => simp [limL] at hk ⊢; exact hk
    | 1, hk => simp [limL] at hk ⊢; exact hk
    | 2, hk => simp [limL] at hk ⊢; exact hk
    | 3, hk => simp [limL] at hk ⊢; exact hk
    | 4, hk => simp [limL] at hk ⊢; exact hk
    | 5, hk => simp [limL] at hk ⊢; exact hk
    | 6, hk => simp [limL] at hk ⊢; exact hk
    | 7, hk => simp [limL] at hk ⊢; exact hk
    | 8, hk => simp [limL] at hk ⊢; exact hk
    | 9, hk => simp [limL] at hk ⊢; exact hk
    | 10, hk => simp [limL] at hk ⊢; exact hk
    | 11, hk => simp [limL] at hk ⊢; exact hk
    | k + 12, hk => simp [limL] at hk

end Go.Proofs.YtgnpgehekfhedaaDoor

/- What rows of two arguments share (all of it lies in Ends now). -/


