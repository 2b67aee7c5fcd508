/- From the reading of an argument to its cells: a slice of lists of numbers, a binary grammar. -/
import Derived.Test.YtjfhkcoiomokoaaDoorOpen
import Derived.Test.YtjfhkcoiomokoaaDoorLGood
namespace Go.Proofs.YtjfhkcoiomokoaaDoor
open Go.ChangeShapes Go.WideShapes Go.ChangeAt Go.RowKit Go.Deep Go.Joins

theorem Tryd.cellsIntSS : Tryd.prog.cellsOf 27 = 1 := by kernel_rfl
theorem Tryd.cellsBinL : Tryd.prog.cellsOf 51 = 6 := by kernel_rfl

theorem array6 {α : Type} {cs : Array α} (h : cs.size = 6) : ∃ c0 c1 c2 c3 c4 c5, cs = #[c0, c1, c2, c3, c4, c5] := by
  obtain ⟨l⟩ := cs
  match l, h with
  | [c0, c1, c2, c3, c4, c5], _ => exact ⟨c0, c1, c2, c3, c4, c5, rfl⟩

instance : Inhabited Li := ⟨⟨none, [], 0⟩⟩

section
variable {H : Type} {enc : TypeId × Value → H} {W : World} {spare : Nat → Bool} {held : Bool}

set_option maxRecDepth 100000 in
theorem open_intSS {fuel : Nat} {v : Value} {y : DataW H × List MemPlace} (h : DataW.trod enc Tryd.prog W 0 spare held fuel 27 [v] = some y) :
    ∃ (A : Option Addr) (ls : List Li) (c : Nat), v = .slice A ls.length c ∧ ls.length ≤ c ∧ Lls W W.heap.size A ls ∧ ls.length ≤ maxLen ∧ (∀ u ∈ ls, u.r.length ≤ maxLen) ∧ FitL (sayL ls) := by
  rcases open_slice Tryd.underlying27 h with ⟨hcs, _⟩ | ⟨a, len, cap, m, n, D, Pl, hcs, _, hl, hm, hz, _, hel⟩
  · injection hcs with hcs
    subst hcs
    exact ⟨none, [], 0, rfl, Nat.le_refl _, fun h => by simp at h, by simp [maxLen], fun x hx => by simp at hx, fun x hx => by simp [sayL] at hx⟩
  · injection hcs with hcs
    subst hcs
    have hlm : len ≤ m := by rw [hz]; split <;> omega
    have each : ∀ i, i < len → ∃ u : Li, W.cell? (a.add i) = some (.slice u.a u.r.length u.c) ∧ u.r.length ≤ u.c ∧ Ints W W.heap.size u.a u.r ∧ u.r.length ≤ maxLen ∧ ∀ x ∈ u.r, F64 x := by
      intro i hi
      obtain ⟨cs', hc, ht⟩ := hel i (by omega)
      rw [Tryd.cellsIntS] at hc
      obtain ⟨_, hcl, hat⟩ := World.cells?_some hc
      match cs', hcl with
      | [q0], _ =>
        obtain ⟨A', xs, c', rfl, hxc, hI, hml, hF⟩ := open_intS ht
        exact ⟨⟨A', xs, c'⟩, by simpa [Addr.add] using hat 0 (by omega), hxc, hI, hml, hF⟩
    obtain ⟨f, hf⟩ := choose_lt each
    have hlen : ((List.range len).map f).length = len := by simp
    refine ⟨some a, (List.range len).map f, cap, by rw [hlen], by omega, fun hp => ?_, by omega, fun u hu => ?_, fun x hx => ?_⟩
    · obtain ⟨b, off, spot⟩ := a
      have hspot : spot = none := by simpa [Addr.add] using World.cell?_spot (hf 0 (by omega)).1
      subst hspot
      refine ⟨b, off, rfl, ?_, fun k u hu => ?_⟩
      · have := (hf 0 (by omega)).1
        exact lt_of_cell (b := b) (o := off) (by simpa [Addr.add] using this)
      · have hk := (List.getElem?_eq_some_iff.1 hu).1
        rw [hlen] at hk
        have hu' : f k = u := by simpa [hk] using hu
        subst hu'
        obtain ⟨h1, h2, h3, _, _⟩ := hf k hk
        rw [Go.WideShapes.add_plain] at h1
        exact ⟨h1, h2, h3⟩
    · obtain ⟨i, hi, rfl⟩ := List.mem_map.1 hu
      exact (hf i (List.mem_range.1 hi)).2.2.2.1
    · obtain ⟨u, hu, rfl⟩ := List.mem_map.1 hx
      obtain ⟨i, hi, rfl⟩ := List.mem_map.1 hu
      exact (hf i (List.mem_range.1 hi)).2.2.2.2

set_option maxRecDepth 100000 in
theorem open_binary {r : Reach} {b0 : Nat} {v : Value} {d : DataW H} {p : List MemPlace} (hv : Value.okWide Tryd.prog W r b0 51 v) (h : DataW.Trod enc Tryd.prog W 0 spare held 51 v d p) :
    ∃ b : Bi, v = (.agg #[.int .i64 b.n, .int .i64 b.t, .slice b.Ap b.P.length b.cp, .slice b.Ao b.O.length b.co, .slice b.Ae b.E.length b.ce, .slice b.Af b.F.length b.cf]) ∧ CapB b ∧ ReadB W W.heap.size b ∧ LenB maxLen b ∧ FitB b.say ∧ F64 b.n ∧ F64 b.t := by
  obtain ⟨cs, rfl, hsz⟩ := okWide_struct Tryd.underlying51 hv
  obtain ⟨c0, c1, c2, c3, c4, c5, rfl⟩ := array6 (hsz.trans Tryd.cellsBinL)
  obtain ⟨fuel, hf⟩ := h
  obtain ⟨xs, n, _, _, _, hlen, hfs⟩ := DataW.trod_struct Tryd.underlying51 hf
  match xs, hlen with
  | [y0, y1, y2, y3, y4, y5], _ =>
    have h0 : DataW.trod enc Tryd.prog W 0 spare held n 3 [c0] = some y0 := by simpa [Value.cells, Tryd.cellsInt, Tryd.cellsIntS, Tryd.cellsIntSS] using hfs 0 _ rfl
    have h1 : DataW.trod enc Tryd.prog W 0 spare held n 3 [c1] = some y1 := by simpa [Value.cells, Tryd.cellsInt, Tryd.cellsIntS, Tryd.cellsIntSS] using hfs 1 _ rfl
    have h2 : DataW.trod enc Tryd.prog W 0 spare held n 27 [c2] = some y2 := by simpa [Value.cells, Tryd.cellsInt, Tryd.cellsIntS, Tryd.cellsIntSS] using hfs 2 _ rfl
    have h3 : DataW.trod enc Tryd.prog W 0 spare held n 27 [c3] = some y3 := by simpa [Value.cells, Tryd.cellsInt, Tryd.cellsIntS, Tryd.cellsIntSS] using hfs 3 _ rfl
    have h4 : DataW.trod enc Tryd.prog W 0 spare held n 25 [c4] = some y4 := by simpa [Value.cells, Tryd.cellsInt, Tryd.cellsIntS, Tryd.cellsIntSS] using hfs 4 _ rfl
    have h5 : DataW.trod enc Tryd.prog W 0 spare held n 27 [c5] = some y5 := by simpa [Value.cells, Tryd.cellsInt, Tryd.cellsIntS, Tryd.cellsIntSS] using hfs 5 _ rfl
    obtain ⟨n, e0, _, w0⟩ := DataW.trod_int Tryd.underlying3 h0
    obtain ⟨t, e1, _, w1⟩ := DataW.trod_int Tryd.underlying3 h1
    injection e0 with e0
    injection e1 with e1
    subst e0 e1
    obtain ⟨Ap, P, cp, rfl, p1, p2, p3, p4, p5⟩ := open_intSS h2
    obtain ⟨Ao, O, co, rfl, o1, o2, o3, o4, o5⟩ := open_intSS h3
    obtain ⟨Ae, E, ce, rfl, i1, i2, i3, i4⟩ := open_intS h4
    obtain ⟨Af, F, cf, rfl, f1, f2, f3, f4, f5⟩ := open_intSS h5
    exact ⟨⟨n, t, Ap, P, cp, Ao, O, co, Ae, E, ce, Af, F, cf⟩, rfl, ⟨p1, o1, i1, f1⟩, ⟨p2, o2, i2, f2⟩, ⟨p3, p4, o3, o4, i3, f3, f4⟩, ⟨p5, o5, i4, f5⟩, bounds_i64 w0, bounds_i64 w1⟩
end

end Go.Proofs.YtjfhkcoiomokoaaDoor
