/- Plain mathematics of chapter 5: which lists rise, which binary grammars are good. No program, no memory. -/
import Derived.Test.YtaobkanliiiapaaDoorC701
import Derived.Test.YtaobkanliiiapaaDoorC702
import Derived.Carry

namespace Go.Proofs.YtaobkanliiiapaaDoor

noncomputable def bP (P : Prop) : Bool := @decide P (Classical.propDecidable P)
theorem bP_t {P : Prop} (h : P) : bP P = true := @decide_eq_true P (Classical.propDecidable P) h
theorem bP_f {P : Prop} (h : ¬ P) : bP P = false := @decide_eq_false P (Classical.propDecidable P) h
theorem bP_is {P : Prop} (h : bP P = true) : P := @of_decide_eq_true P (Classical.propDecidable P) h
theorem bP_no {P : Prop} (h : bP P = false) : ¬ P := @of_decide_eq_false P (Classical.propDecidable P) h
theorem bP_congr {P Q : Prop} (h : P ↔ Q) : bP P = bP Q := by rw [propext h]

/-- Two lists compared: the first unlike number decides. -/
def cmpL : List Int → List Int → Int
  | [], [] => 0
  | [], _ :: _ => -1
  | _ :: _, [] => 1
  | x :: a, y :: b => if x < y then -1 else if y < x then 1 else cmpL a b

theorem cmpL_range : ∀ (a b : List Int), cmpL a b = -1 ∨ cmpL a b = 0 ∨ cmpL a b = 1
  | [], [] => by simp [cmpL]
  | [], _ :: _ => by simp [cmpL]
  | _ :: _, [] => by simp [cmpL]
  | x :: a, y :: b => by
    simp only [cmpL]
    split
    · simp
    · split
      · simp
      · exact cmpL_range a b

theorem cmpL_drop {a b : List Int} {k : Nat} (ha : k < a.length) (hb : k < b.length) : cmpL (a.drop k) (b.drop k) = if a[k] < b[k] then -1 else if b[k] < a[k] then 1 else cmpL (a.drop (k + 1)) (b.drop (k + 1)) := by
  rw [List.drop_eq_getElem_cons ha, List.drop_eq_getElem_cons hb]; rfl
theorem cmpL_left {a b : List Int} {k : Nat} (ha : k < a.length) (hb : ¬ k < b.length) : cmpL (a.drop k) (b.drop k) = 1 := by
  rw [List.drop_of_length_le (l := b) (by omega), List.drop_eq_getElem_cons ha]; rfl
theorem cmpL_right {a b : List Int} {k : Nat} (ha : ¬ k < a.length) (hb : k < b.length) : cmpL (a.drop k) (b.drop k) = -1 := by
  rw [List.drop_of_length_le (l := a) (by omega), List.drop_eq_getElem_cons hb]; rfl
theorem cmpL_end {a b : List Int} {k : Nat} (ha : ¬ k < a.length) (hb : ¬ k < b.length) : cmpL (a.drop k) (b.drop k) = 0 := by
  rw [List.drop_of_length_le (by omega), List.drop_of_length_le (by omega)]; rfl

/-- The first k lists rise. -/
def RiseTo (xs : List (List Int)) (k : Nat) : Prop := ∀ (j : Nat) (a b : List Int), j + 1 < k → xs[j]? = some a → xs[j + 1]? = some b → cmpL a b < 0
theorem RiseTo.none (xs : List (List Int)) : RiseTo xs 1 := fun j a b h => absurd h (by omega)
theorem RiseTo.zero (xs : List (List Int)) : RiseTo xs 0 := fun j a b h => absurd h (by omega)
theorem RiseTo.step {xs : List (List Int)} {k : Nat} (h : RiseTo xs (k + 1)) {a b : List Int} (ha : xs[k]? = some a) (hb : xs[k + 1]? = some b) (hc : cmpL a b < 0) : RiseTo xs (k + 2) := by
  intro j a' b' hj ha' hb'
  by_cases e : j = k
  · subst e
    rw [ha] at ha'; rw [hb] at hb'
    injection ha' with ha'; injection hb' with hb'
    rw [← ha', ← hb']; exact hc
  · exact h j a' b' (by omega) ha' hb'
theorem RiseTo.mono {xs : List (List Int)} {k m : Nat} (h : RiseTo xs k) (hm : m ≤ k ∨ xs.length ≤ k) : RiseTo xs m := by
  intro j a b hj ha hb
  have := (List.getElem?_eq_some_iff.1 hb).1
  exact h j a b (by omega) ha hb

/-- Numbers rise. -/
def RiseI (xs : List Int) (k : Nat) : Prop := ∀ (j : Nat) (a b : Int), j + 1 < k → xs[j]? = some a → xs[j + 1]? = some b → a < b
theorem RiseI.none (xs : List Int) : RiseI xs 1 := fun j a b h => absurd h (by omega)
theorem RiseI.zero (xs : List Int) : RiseI xs 0 := fun j a b h => absurd h (by omega)
theorem RiseI.step {xs : List Int} {k : Nat} (h : RiseI xs (k + 1)) {a b : Int} (ha : xs[k]? = some a) (hb : xs[k + 1]? = some b) (hc : a < b) : RiseI xs (k + 2) := by
  intro j a' b' hj ha' hb'
  by_cases e : j = k
  · subst e
    rw [ha] at ha'; rw [hb] at hb'
    injection ha' with ha'; injection hb' with hb'
    rw [← ha', ← hb']; exact hc
  · exact h j a' b' (by omega) ha' hb'
theorem RiseI.mono {xs : List Int} {k m : Nat} (h : RiseI xs k) (hm : m ≤ k ∨ xs.length ≤ k) : RiseI xs m := by
  intro j a b hj ha hb
  have := (List.getElem?_eq_some_iff.1 hb).1
  exact h j a b (by omega) ha hb

/-- All lists are of one length. -/
def LongTo (long : Int) (xs : List (List Int)) (k : Nat) : Prop := ∀ (j : Nat) (x : List Int), j < k → xs[j]? = some x → (x.length : Int) = long
/-- A list is a nonterminal and symbols. -/
def symL (n t : Int) (x : List Int) : Prop := nonB n (x.getD 0 0) = true ∧ symsB n t (x.drop 1) = true
def SymTo (n t : Int) (xs : List (List Int)) (k : Nat) : Prop := ∀ (j : Nat) (x : List Int), j < k → xs[j]? = some x → symL n t x
def NonTo (n : Int) (xs : List Int) (k : Nat) : Prop := ∀ (j : Nat) (x : Int), j < k → xs[j]? = some x → nonB n x = true

def GoodLs (n t long : Int) (xs : List (List Int)) : Prop := LongTo long xs xs.length ∧ SymTo n t xs xs.length ∧ RiseTo xs xs.length
def GoodE (n : Int) (xs : List Int) : Prop := NonTo n xs xs.length ∧ RiseI xs xs.length

/-- A binary grammar is good. -/
def GoodBs (s : Bs) : Prop := (1 ≤ s.n ∧ s.n ≤ 40) ∧ (1 ≤ s.t ∧ s.t ≤ 4) ∧ GoodLs s.n s.t 3 s.P ∧ GoodLs s.n s.t 2 s.O ∧ GoodE s.n s.E ∧ (s.F.length : Int) ≤ s.n ∧ LongTo 2 s.F s.F.length

theorem upto_next {α : Type} {Q : α → Prop} {xs : List α} {k : Nat} {y : α} (hy : xs[k]? = some y) (h : Q y) (H : ∀ (j : Nat) (x : α), j < k → xs[j]? = some x → Q x) : ∀ (j : Nat) (x : α), j < k + 1 → xs[j]? = some x → Q x := by
  intro j x hj hx
  by_cases e : j = k
  · subst e; rw [hy] at hx; injection hx with hx; rw [← hx]; exact h
  · exact H j x (by omega) hx
theorem upto_end {α : Type} {Q : α → Prop} {xs : List α} {k m : Nat} (hk : ¬ k < xs.length) (H : ∀ (j : Nat) (x : α), j < k → xs[j]? = some x → Q x) : ∀ (j : Nat) (x : α), j < m → xs[j]? = some x → Q x :=
  fun j x _ hx => H j x (by have := (List.getElem?_eq_some_iff.1 hx).1; omega) hx

def FitL (xs : List (List Int)) : Prop := ∀ x ∈ xs, ∀ y ∈ x, F64 y
def FitB (s : Bs) : Prop := FitL s.P ∧ FitL s.O ∧ (∀ y ∈ s.E, F64 y) ∧ FitL s.F

end Go.Proofs.YtaobkanliiiapaaDoor

/- From the reading of an argument to its cells: a slice of lists of numbers, a binary grammar. -/

namespace Go.Proofs.YtaobkanliiiapaaDoor
open Go.ChangeShapes Go.WideShapes Go.ChangeAt Go.RowKit Go.Deep Go.Joins

theorem Tryd.cellsIntSS : Tryd.prog.cellsOf 25 = 1 := by kernel_rfl
theorem Tryd.cellsBinL : Tryd.prog.cellsOf 67 = 6 := by kernel_rfl

theorem array6 {α : Type} {cs : Array α} (h : cs.size = 6) : ∃ c0 c1 c2 c3 c4 c5, cs = #[c0, c1, c2, c3, c4, c5] := by
  obtain ⟨l⟩ := cs
  match l, h with
  | [c0, c1, c2, c3, c4, c5], _ => exact ⟨c0, c1, c2, c3, c4, c5, rfl⟩

instance : Inhabited Li := ⟨⟨none, [], 0⟩⟩

section
variable {H : Type} {enc : TypeId × Value → H} {W : World} {spare : Nat → Bool} {held : Bool}

set_option maxRecDepth 100000 in
theorem open_intSS {fuel : Nat} {v : Value} {y : DataW H × List MemPlace} (h : DataW.trod enc Tryd.prog W 0 spare held fuel 25 [v] = some y) :
    ∃ (A : Option Addr) (ls : List Li) (c : Nat), v = .slice A ls.length c ∧ ls.length ≤ c ∧ Lls W W.heap.size A ls ∧ ls.length ≤ maxLen ∧ (∀ u ∈ ls, u.r.length ≤ maxLen) ∧ FitL (sayL ls) := by
  rcases open_slice Tryd.underlying25 h with ⟨hcs, _⟩ | ⟨a, len, cap, m, n, D, Pl, hcs, _, hl, hm, hz, _, hel⟩
  · injection hcs with hcs
    subst hcs
    exact ⟨none, [], 0, rfl, Nat.le_refl _, fun h => by simp at h, by simp [maxLen], fun x hx => by simp at hx, fun x hx => by simp [sayL] at hx⟩
  · injection hcs with hcs
    subst hcs
    have hlm : len ≤ m := by rw [hz]; split <;> omega
    have each : ∀ i, i < len → ∃ u : Li, W.cell? (a.add i) = some (.slice u.a u.r.length u.c) ∧ u.r.length ≤ u.c ∧ Ints W W.heap.size u.a u.r ∧ u.r.length ≤ maxLen ∧ ∀ x ∈ u.r, F64 x := by
      intro i hi
      obtain ⟨cs', hc, ht⟩ := hel i (by omega)
      rw [Tryd.cellsIntS] at hc
      obtain ⟨_, hcl, hat⟩ := World.cells?_some hc
      match cs', hcl with
      | [q0], _ =>
        obtain ⟨A', xs, c', rfl, hxc, hI, hml, hF⟩ := open_intS ht
        exact ⟨⟨A', xs, c'⟩, by simpa [Addr.add] using hat 0 (by omega), hxc, hI, hml, hF⟩
    obtain ⟨f, hf⟩ := choose_lt each
    have hlen : ((List.range len).map f).length = len := by simp
    refine ⟨some a, (List.range len).map f, cap, by rw [hlen], by omega, fun hp => ?_, by omega, fun u hu => ?_, fun x hx => ?_⟩
    · obtain ⟨b, off, spot⟩ := a
      have hspot : spot = none := by simpa [Addr.add] using World.cell?_spot (hf 0 (by omega)).1
      subst hspot
      refine ⟨b, off, rfl, ?_, fun k u hu => ?_⟩
      · have := (hf 0 (by omega)).1
        exact lt_of_cell (b := b) (o := off) (by simpa [Addr.add] using this)
      · have hk := (List.getElem?_eq_some_iff.1 hu).1
        rw [hlen] at hk
        have hu' : f k = u := by simpa [hk] using hu
        subst hu'
        obtain ⟨h1, h2, h3, _, _⟩ := hf k hk
        rw [Go.WideShapes.add_plain] at h1
        exact ⟨h1, h2, h3⟩
    · obtain ⟨i, hi, rfl⟩ := List.mem_map.1 hu
      exact (hf i (List.mem_range.1 hi)).2.2.2.1
    · obtain ⟨u, hu, rfl⟩ := List.mem_map.1 hx
      obtain ⟨i, hi, rfl⟩ := List.mem_map.1 hu
      exact (hf i (List.mem_range.1 hi)).2.2.2.2

set_option maxRecDepth 100000 in
theorem open_binary {r : Reach} {b0 : Nat} {v : Value} {d : DataW H} {p : List MemPlace} (hv : Value.okWide Tryd.prog W r b0 67 v) (h : DataW.Trod enc Tryd.prog W 0 spare held 67 v d p) :
    ∃ b : Bi, v = (.agg #[.int .i64 b.n, .int .i64 b.t, .slice b.Ap b.P.length b.cp, .slice b.Ao b.O.length b.co, .slice b.Ae b.E.length b.ce, .slice b.Af b.F.length b.cf]) ∧ CapB b ∧ ReadB W W.heap.size b ∧ LenB maxLen b ∧ FitB b.say ∧ F64 b.n ∧ F64 b.t := by
  obtain ⟨cs, rfl, hsz⟩ := okWide_struct Tryd.underlying67 hv
  obtain ⟨c0, c1, c2, c3, c4, c5, rfl⟩ := array6 (hsz.trans Tryd.cellsBinL)
  obtain ⟨fuel, hf⟩ := h
  obtain ⟨xs, n, _, _, _, hlen, hfs⟩ := DataW.trod_struct Tryd.underlying67 hf
  match xs, hlen with
  | [y0, y1, y2, y3, y4, y5], _ =>
    have h0 : DataW.trod enc Tryd.prog W 0 spare held n 3 [c0] = some y0 := by simpa [Value.cells, Tryd.cellsInt, Tryd.cellsIntS, Tryd.cellsIntSS] using hfs 0 _ rfl
    have h1 : DataW.trod enc Tryd.prog W 0 spare held n 3 [c1] = some y1 := by simpa [Value.cells, Tryd.cellsInt, Tryd.cellsIntS, Tryd.cellsIntSS] using hfs 1 _ rfl
    have h2 : DataW.trod enc Tryd.prog W 0 spare held n 25 [c2] = some y2 := by simpa [Value.cells, Tryd.cellsInt, Tryd.cellsIntS, Tryd.cellsIntSS] using hfs 2 _ rfl
    have h3 : DataW.trod enc Tryd.prog W 0 spare held n 25 [c3] = some y3 := by simpa [Value.cells, Tryd.cellsInt, Tryd.cellsIntS, Tryd.cellsIntSS] using hfs 3 _ rfl
    have h4 : DataW.trod enc Tryd.prog W 0 spare held n 37 [c4] = some y4 := by simpa [Value.cells, Tryd.cellsInt, Tryd.cellsIntS, Tryd.cellsIntSS] using hfs 4 _ rfl
    have h5 : DataW.trod enc Tryd.prog W 0 spare held n 25 [c5] = some y5 := by simpa [Value.cells, Tryd.cellsInt, Tryd.cellsIntS, Tryd.cellsIntSS] using hfs 5 _ rfl
    obtain ⟨n, e0, _, w0⟩ := DataW.trod_int Tryd.underlying3 h0
    obtain ⟨t, e1, _, w1⟩ := DataW.trod_int Tryd.underlying3 h1
    injection e0 with e0
    injection e1 with e1
    subst e0 e1
    obtain ⟨Ap, P, cp, rfl, p1, p2, p3, p4, p5⟩ := open_intSS h2
    obtain ⟨Ao, O, co, rfl, o1, o2, o3, o4, o5⟩ := open_intSS h3
    obtain ⟨Ae, E, ce, rfl, i1, i2, i3, i4⟩ := open_intS h4
    obtain ⟨Af, F, cf, rfl, f1, f2, f3, f4, f5⟩ := open_intSS h5
    exact ⟨⟨n, t, Ap, P, cp, Ao, O, co, Ae, E, ce, Af, F, cf⟩, rfl, ⟨p1, o1, i1, f1⟩, ⟨p2, o2, i2, f2⟩, ⟨p3, p4, o3, o4, i3, f3, f4⟩, ⟨p5, o5, i4, f5⟩, bounds_i64 w0, bounds_i64 w1⟩
end

end Go.Proofs.YtaobkanliiiapaaDoor

/- From the reading of an argument to its cells: a chart. -/

namespace Go.Proofs.YtaobkanliiiapaaDoor
open Go.ChangeShapes Go.WideShapes Go.ChangeAt Go.RowKit Go.Deep Go.Joins

theorem Tryd.cellsChartL : Tryd.prog.cellsOf 68 = 2 := by kernel_rfl

section
variable {H : Type} {enc : TypeId × Value → H} {W : World} {spare : Nat → Bool} {held : Bool}

set_option maxRecDepth 100000 in
theorem open_chart {r : Reach} {b0 : Nat} {v : Value} {d : DataW H} {p : List MemPlace} (hv : Value.okWide Tryd.prog W r b0 68 v) (h : DataW.Trod enc Tryd.prog W 0 spare held 68 v d p) :
    ∃ (n : Int) (A : Option Addr) (ls : List Li) (c : Nat), v = .agg #[.int .i64 n, .slice A ls.length c] ∧ ls.length ≤ c ∧ Lls W W.heap.size A ls ∧ ls.length ≤ maxLen ∧ (∀ u ∈ ls, u.r.length ≤ maxLen) ∧ FitL (sayL ls) ∧ F64 n := by
  obtain ⟨v0, v1, y0, y1, m, rfl, _, _, h0, h1⟩ := open_agg2 Tryd.underlying68 (by kernel_rfl) Tryd.cellsChartL hv h
  obtain ⟨n, e0, _, w0⟩ := DataW.trod_int Tryd.underlying3 h0
  injection e0 with e0
  subst e0
  obtain ⟨A, ls, c, rfl, a1, a2, a3, a4, a5⟩ := open_intSS h1
  exact ⟨n, A, ls, c, rfl, a1, a2, a3, a4, a5, bounds_i64 w0⟩
end

end Go.Proofs.YtaobkanliiiapaaDoor

/- A law's end, three arguments. -/

namespace Go.Proofs.YtaobkanliiiapaaDoor
open Go.ChangeShapes Go.WideShapes Go.ChangeAt Go.RowKit

theorem ends_three {H : Type} {enc : TypeId × Value → H} {f : Func} {s : ChangeSpec} {W W' : World} {v0 v1 v2 : Value} {d0 d1 d2 : DataW H} {gs : List (DataW H)} {before : List MemPlace} {t0 t1 t2 : TypeId}
    (hW : DataW.Whole enc Tryd.prog f.params.toList s.vars false W [v0, v1, v2] [d0, d1, d2] gs before) (hp : f.params = #[t0, t1, t2]) (hr : f.resultTypes = #[4])
    (hfn : s.fn H ([d0, d1, d2] ++ gs) = { results := [.lit (.bool true)], args := [d0, d1, d2], vars := gs })
    (ht : Tryd.prog.readableRec t0 = true) (hs : t0 < Tryd.prog.types.size) (ht1 : Tryd.prog.readableRec t1 = true) (hs1 : t1 < Tryd.prog.types.size) (ht2 : Tryd.prog.readableRec t2 = true) (hs2 : t2 < Tryd.prog.types.size) (hv : varsRowed Tryd.prog s.vars = true) (hb : Below W.heap.size W W') :
    s.post enc Tryd.prog f false true false false W #[v0, v1, v2] (.bool true) W' := by
  have hlt : ∀ x ∈ before, x.block < W.heap.size := fun x hx => hW.lt x hx
  have hW' := hW
  obtain ⟨p, q, hA, hV, rfl, _, _⟩ := hW
  rw [hp] at hA
  obtain ⟨v, v', v'', d, d', d'', p0, p1, p2, e1, e2, e3, h0, h1, h2⟩ := trodAll_three hA
  have ev : v0 = v ∧ v1 = v' ∧ v2 = v'' := by simpa using e1
  have ed : d0 = d ∧ d1 = d' ∧ d2 = d'' := by simpa using e2
  obtain ⟨rfl, rfl, rfl⟩ := ev
  obtain ⟨rfl, rfl, rfl⟩ := ed
  subst e3
  refine ⟨[d0, d1, d2], gs, p0 ++ p1 ++ p2 ++ q, [], p0 ++ (p1 ++ p2), q, hW', ?_, ?_, ?_, hb.frame _, fun h => by cases h⟩
  · rw [hfn, hr]
    exact trodAll_mk1 (shut_bool Tryd.underlying4 true)
  · rw [hfn, hp]
    exact trodAll_mk3 (hb.trod Tryd.laidOut ht hs h0 (fun x hx => hlt x (by simp [hx]))) (hb.trod Tryd.laidOut ht1 hs1 h1 (fun x hx => hlt x (by simp [hx]))) (hb.trod Tryd.laidOut ht2 hs2 h2 (fun x hx => hlt x (by simp [hx])))
  · rw [hfn]
    exact hb.trodVars Tryd.laidOut hv hV

end Go.Proofs.YtaobkanliiiapaaDoor

/- A law's end, four arguments. -/

namespace Go.Proofs.YtaobkanliiiapaaDoor
open Go.ChangeShapes Go.WideShapes Go.ChangeAt Go.RowKit

theorem ends_four {H : Type} {enc : TypeId × Value → H} {f : Func} {s : ChangeSpec} {W W' : World} {v0 v1 v2 v3 : Value} {d0 d1 d2 d3 : DataW H} {gs : List (DataW H)} {before : List MemPlace} {t0 t1 t2 t3 : TypeId}
    (hW : DataW.Whole enc Tryd.prog f.params.toList s.vars false W [v0, v1, v2, v3] [d0, d1, d2, d3] gs before) (hp : f.params = #[t0, t1, t2, t3]) (hr : f.resultTypes = #[4])
    (hfn : s.fn H ([d0, d1, d2, d3] ++ gs) = { results := [.lit (.bool true)], args := [d0, d1, d2, d3], vars := gs })
    (ht : Tryd.prog.readableRec t0 = true) (hs : t0 < Tryd.prog.types.size) (ht1 : Tryd.prog.readableRec t1 = true) (hs1 : t1 < Tryd.prog.types.size) (ht2 : Tryd.prog.readableRec t2 = true) (hs2 : t2 < Tryd.prog.types.size) (ht3 : Tryd.prog.readableRec t3 = true) (hs3 : t3 < Tryd.prog.types.size) (hv : varsRowed Tryd.prog s.vars = true) (hb : Below W.heap.size W W') :
    s.post enc Tryd.prog f false true false false W #[v0, v1, v2, v3] (.bool true) W' := by
  have hlt : ∀ x ∈ before, x.block < W.heap.size := fun x hx => hW.lt x hx
  have hW' := hW
  obtain ⟨p, q, hA, hV, rfl, _, _⟩ := hW
  rw [hp] at hA
  obtain ⟨v, v', v'', v''', d, d', d'', d''', p0, p1, p2, p3, e1, e2, e3, h0, h1, h2, h3⟩ := trodAll_four hA
  have ev : v0 = v ∧ v1 = v' ∧ v2 = v'' ∧ v3 = v''' := by simpa using e1
  have ed : d0 = d ∧ d1 = d' ∧ d2 = d'' ∧ d3 = d''' := by simpa using e2
  obtain ⟨rfl, rfl, rfl, rfl⟩ := ev
  obtain ⟨rfl, rfl, rfl, rfl⟩ := ed
  subst e3
  refine ⟨[d0, d1, d2, d3], gs, p0 ++ p1 ++ p2 ++ p3 ++ q, [], p0 ++ (p1 ++ (p2 ++ p3)), q, hW', ?_, ?_, ?_, hb.frame _, fun h => by cases h⟩
  · rw [hfn, hr]
    exact trodAll_mk1 (shut_bool Tryd.underlying4 true)
  · rw [hfn, hp]
    exact trodAll_mk4 (hb.trod Tryd.laidOut ht hs h0 (fun x hx => hlt x (by simp [hx]))) (hb.trod Tryd.laidOut ht1 hs1 h1 (fun x hx => hlt x (by simp [hx]))) (hb.trod Tryd.laidOut ht2 hs2 h2 (fun x hx => hlt x (by simp [hx]))) (hb.trod Tryd.laidOut ht3 hs3 h3 (fun x hx => hlt x (by simp [hx])))
  · rw [hfn]
    exact hb.trodVars Tryd.laidOut hv hV

end Go.Proofs.YtaobkanliiiapaaDoor

/- A law's end, five arguments. -/

namespace Go.Proofs.YtaobkanliiiapaaDoor
open Go.ChangeShapes Go.WideShapes Go.ChangeAt Go.RowKit

section
variable {H : Type} {enc : TypeId × Value → H} {P : Program} {w : World} {base : Nat} {spare : Nat → Bool} {held : Bool}
theorem trodAll_five {t t' t'' t3 t4 : TypeId} {args : Array Value} {ds : List (DataW H)} {ps : List MemPlace} (h : DataW.TrodAll enc P w base spare held [t, t', t'', t3, t4] args.toList ds ps) :
    ∃ v v' v'' v3 v4 d d' d'' d3 d4 p p' p'' p3 p4, args = #[v, v', v'', v3, v4] ∧ ds = [d, d', d'', d3, d4] ∧ ps = p ++ p' ++ p'' ++ p3 ++ p4 ∧ DataW.Trod enc P w base spare held t v d p ∧ DataW.Trod enc P w base spare held t' v' d' p' ∧ DataW.Trod enc P w base spare held t'' v'' d'' p'' ∧ DataW.Trod enc P w base spare held t3 v3 d3 p3 ∧ DataW.Trod enc P w base spare held t4 v4 d4 p4 := by
  obtain ⟨v, vs, d, ds', p, q, hargs, rfl, rfl, hd, hrest⟩ := trodAll_cons h
  obtain ⟨v', v'', v3, v4, d', d'', d3, d4, p', p'', p3, p4, e1, rfl, rfl, k1, k2, k3, k4⟩ := trodAll_four (args := ⟨vs⟩) hrest
  have e2 : vs = [v', v'', v3, v4] := congrArg Array.toList e1
  subst e2
  exact ⟨v, v', v'', v3, v4, d, d', d'', d3, d4, p, p', p'', p3, p4, by cases args; simp_all, rfl, by simp, hd, k1, k2, k3, k4⟩
theorem trodAll_mk5 {t t' t'' t3 t4 : TypeId} {v v' v'' v3 v4 : Value} {d d' d'' d3 d4 : DataW H} {p p' p'' p3 p4 : List MemPlace} (h : DataW.Trod enc P w base spare held t v d p) (h' : DataW.Trod enc P w base spare held t' v' d' p')
    (h'' : DataW.Trod enc P w base spare held t'' v'' d'' p'') (h3 : DataW.Trod enc P w base spare held t3 v3 d3 p3) (h4 : DataW.Trod enc P w base spare held t4 v4 d4 p4) : DataW.TrodAll enc P w base spare held [t, t', t'', t3, t4] [v, v', v'', v3, v4] [d, d', d'', d3, d4] (p ++ (p' ++ (p'' ++ (p3 ++ p4)))) := ⟨p, p' ++ (p'' ++ (p3 ++ p4)), h, trodAll_mk4 h' h'' h3 h4, rfl⟩
end

theorem ends_five {H : Type} {enc : TypeId × Value → H} {f : Func} {s : ChangeSpec} {W W' : World} {v0 v1 v2 v3 v4 : Value} {d0 d1 d2 d3 d4 : DataW H} {gs : List (DataW H)} {before : List MemPlace} {t0 t1 t2 t3 t4 : TypeId}
    (hW : DataW.Whole enc Tryd.prog f.params.toList s.vars false W [v0, v1, v2, v3, v4] [d0, d1, d2, d3, d4] gs before) (hp : f.params = #[t0, t1, t2, t3, t4]) (hr : f.resultTypes = #[4])
    (hfn : s.fn H ([d0, d1, d2, d3, d4] ++ gs) = { results := [.lit (.bool true)], args := [d0, d1, d2, d3, d4], vars := gs })
    (ht : Tryd.prog.readableRec t0 = true) (hs : t0 < Tryd.prog.types.size) (ht1 : Tryd.prog.readableRec t1 = true) (hs1 : t1 < Tryd.prog.types.size) (ht2 : Tryd.prog.readableRec t2 = true) (hs2 : t2 < Tryd.prog.types.size) (ht3 : Tryd.prog.readableRec t3 = true) (hs3 : t3 < Tryd.prog.types.size) (ht4 : Tryd.prog.readableRec t4 = true) (hs4 : t4 < Tryd.prog.types.size) (hv : varsRowed Tryd.prog s.vars = true) (hb : Below W.heap.size W W') :
    s.post enc Tryd.prog f false true false false W #[v0, v1, v2, v3, v4] (.bool true) W' := by
  have hlt : ∀ x ∈ before, x.block < W.heap.size := fun x hx => hW.lt x hx
  have hW' := hW
  obtain ⟨p, q, hA, hV, rfl, _, _⟩ := hW
  rw [hp] at hA
  obtain ⟨v, v', v'', v''', v4', d, d', d'', d''', d4', p0, p1, p2, p3, p4, e1, e2, e3, h0, h1, h2, h3, h4⟩ := trodAll_five hA
  have ev : v0 = v ∧ v1 = v' ∧ v2 = v'' ∧ v3 = v''' ∧ v4 = v4' := by simpa using e1
  have ed : d0 = d ∧ d1 = d' ∧ d2 = d'' ∧ d3 = d''' ∧ d4 = d4' := by simpa using e2
  obtain ⟨rfl, rfl, rfl, rfl, rfl⟩ := ev
  obtain ⟨rfl, rfl, rfl, rfl, rfl⟩ := ed
  subst e3
  refine ⟨[d0, d1, d2, d3, d4], gs, p0 ++ p1 ++ p2 ++ p3 ++ p4 ++ q, [], p0 ++ (p1 ++ (p2 ++ (p3 ++ p4))), q, hW', ?_, ?_, ?_, hb.frame _, fun h => by cases h⟩
  · rw [hfn, hr]
    exact trodAll_mk1 (shut_bool Tryd.underlying4 true)
  · rw [hfn, hp]
    exact trodAll_mk5 (hb.trod Tryd.laidOut ht hs h0 (fun x hx => hlt x (by simp [hx]))) (hb.trod Tryd.laidOut ht1 hs1 h1 (fun x hx => hlt x (by simp [hx]))) (hb.trod Tryd.laidOut ht2 hs2 h2 (fun x hx => hlt x (by simp [hx]))) (hb.trod Tryd.laidOut ht3 hs3 h3 (fun x hx => hlt x (by simp [hx]))) (hb.trod Tryd.laidOut ht4 hs4 h4 (fun x hx => hlt x (by simp [hx])))
  · rw [hfn]
    exact hb.trodVars Tryd.laidOut hv hV

end Go.Proofs.YtaobkanliiiapaaDoor

/- What the laws' marks write, and what they find again. -/

namespace Go.Proofs.YtaobkanliiiapaaDoor
open Go.RowKit

/-- Only blocks of S have turned; new blocks may have come. -/
structure Save (S : Nat → Prop) (w w' : World) : Prop where
  os : w'.os = w.os
  tape : w'.tape = w.tape
  output : w'.output = w.output
  size : w.heap.size ≤ w'.heap.size
  block : ∀ b, b < w.heap.size → ¬ S b → w'.heap[b]? = w.heap[b]?

theorem Save.refl (S : Nat → Prop) (w : World) : Save S w w := ⟨rfl, rfl, rfl, Nat.le_refl _, fun _ _ _ => rfl⟩
theorem Save.trans {S : Nat → Prop} {a b c : World} (h : Save S a b) (k : Save S b c) : Save S a c :=
  ⟨k.os.trans h.os, k.tape.trans h.tape, k.output.trans h.output, Nat.le_trans h.size k.size, fun i hi hs => (k.block i (by have := h.size; omega) hs).trans (h.block i hi hs)⟩
theorem Save.wider {S T : Nat → Prop} {a b : World} (h : Save S a b) (hT : ∀ i, S i → T i) : Save T a b :=
  ⟨h.os, h.tape, h.output, h.size, fun i hi hs => h.block i hi fun hS => hs (hT i hS)⟩
theorem Save.of_below {S : Nat → Prop} {a b : World} (h : Below a.heap.size a b) : Save S a b := ⟨h.os, h.tape, h.output, h.size, fun i hi _ => h.block i hi⟩
theorem Save.below {S : Nat → Prop} {a b : World} {B : Nat} (h : Save S a b) (hB : B ≤ a.heap.size) (hS : ∀ i, i < B → ¬ S i) : Below B a b :=
  ⟨h.os, h.tape, h.output, h.size, fun i hi => h.block i (by omega) (hS i hi)⟩
theorem Save.setCell {S : Nat → Prop} {a w : World} (h : Save S a w) {p : Addr} (hp : S p.block) (u : Value) : Save S a (w.setCell p u) :=
  h.trans ⟨rfl, rfl, rfl, by simp [World.setCell], fun k _ hs => Below.heap_setCell _ _ _ _ (fun e => hs (e ▸ hp))⟩

theorem Row.save {S : Nat → Prop} {w w' : World} {g : Nat} {t : TypeId} {cs : Array Value} (h : Row w g t cs) (hs : Save S w w') (hg : ¬ S g) : Row w' g t cs := (hs.block g h.lt hg).trans h

theorem OwnI.save {S : Nat → Prop} {w w' : World} {lo : Nat} {A : Option Addr} {xs : List Int} (h : OwnI w lo A xs) (hs : Save S w w') (hA : ∀ g, A = some ⟨g, 0, none⟩ → xs ≠ [] → ¬ S g) : OwnI w' lo A xs := by
  by_cases e : xs = []
  · exact .inl e
  · rcases h with h | ⟨g, cs, ea, hl, hr, hc⟩
    · exact .inl h
    · exact .inr ⟨g, cs, ea, hl, hr.save hs (hA g ea e), hc⟩

theorem OwnI.at_ {w : World} {lo : Nat} {A : Option Addr} {xs : List Int} (h : OwnI w lo A xs) {i : Nat} (hi : i < xs.length) :
    ∃ g, A = some ⟨g, 0, none⟩ ∧ lo ≤ g ∧ g < w.heap.size ∧ w.cell? ⟨g, i, none⟩ = some (.int .i64 xs[i]) ∧ w.frozen? ⟨g, i, none⟩ = false := by
  rcases h with h | ⟨g, cs, ea, hl, hr, hc⟩
  · subst h; simp at hi
  · exact ⟨g, ea, hl, hr.lt, by rw [hr.cell]; exact hc i _ (List.getElem?_eq_getElem hi), hr.frozen i⟩

theorem OwnI.set {w : World} {lo g : Nat} {xs : List Int} (h : OwnI w lo (some ⟨g, 0, none⟩) xs) {i : Nat} (hi : i < xs.length) (x : Int) :
    OwnI (w.setCell ⟨g, i, none⟩ (.int .i64 x)) lo (some ⟨g, 0, none⟩) (xs.set i x) := by
  rcases h with h | ⟨g', cs, ea, hl, hr, hc⟩
  · subst h; simp at hi
  · injection ea with ea
    injection ea with ea
    subst ea
    have hlt : i < cs.size := (Array.getElem?_eq_some_iff.1 (hc i _ (List.getElem?_eq_getElem hi))).1
    refine .inr ⟨g, cs.setIfInBounds i (.int .i64 x), rfl, hl, hr.set i _, fun k y hy => ?_⟩
    rw [List.getElem?_set] at hy
    rw [Array.getElem?_setIfInBounds]
    by_cases e : i = k
    · subst e
      rw [if_pos rfl, if_pos hi] at hy
      rw [if_pos rfl, if_pos hlt]
      simpa using hy
    · rw [if_neg e] at hy ⊢
      exact hc k y hy

/-- k, k + 1, .. : n numbers. -/
def seqL (k : Int) (n : Nat) : List Int := (List.range n).map fun (i : Nat) => k + (i : Int)
theorem seqL_length (k : Int) (n : Nat) : (seqL k n).length = n := by simp [seqL]
theorem seqL_get {k : Int} {n i : Nat} (h : i < n) : (seqL k n)[i]? = some (k + (i : Int)) := by simp [seqL, h]
theorem seqL_at {k : Int} {n i : Nat} (h : i < (seqL k n).length) : (seqL k n)[i] = k + (i : Int) := by simp [seqL]
theorem seqL_ne {k : Int} {n : Nat} (h : n ≠ 0) : seqL k n ≠ [] := fun e => h (by have := congrArg List.length e; rwa [seqL_length] at this)

def midL (k : Int) (xs : List Int) (j : Nat) : List Int := seqL k j ++ xs.drop j
theorem midL_length {k : Int} {xs : List Int} {j : Nat} (h : j ≤ xs.length) : (midL k xs j).length = xs.length := by simp [midL, seqL_length]; omega
theorem midL_zero (k : Int) (xs : List Int) : midL k xs 0 = xs := by simp [midL, seqL]
theorem midL_all (k : Int) (xs : List Int) : midL k xs xs.length = seqL k xs.length := by simp [midL]
theorem midL_step {k : Int} {xs : List Int} {j : Nat} (h : j < xs.length) : (midL k xs j).set j (k + (j : Int)) = midL k xs (j + 1) := by
  apply List.ext_getElem?
  intro i
  simp only [midL, List.getElem?_set, List.length_append, seqL_length, List.length_drop]
  by_cases e : j = i
  · subst e
    rw [if_pos rfl, if_pos (by omega), List.getElem?_append_left (by rw [seqL_length]; omega), seqL_get (by omega)]
  · rw [if_neg e]
    by_cases hi : i < j
    · rw [List.getElem?_append_left (by rw [seqL_length]; omega), List.getElem?_append_left (by rw [seqL_length]; omega), seqL_get hi, seqL_get (by omega)]
    · rw [List.getElem?_append_right (by rw [seqL_length]; omega), List.getElem?_append_right (by rw [seqL_length]; omega), seqL_length, seqL_length, List.getElem?_drop, List.getElem?_drop]
      congr 1
      omega

/-- The blocks of one slice that is not empty. -/
def Its (A : Option Addr) (xs : List Int) (b : Nat) : Prop := A = some ⟨b, 0, none⟩ ∧ xs ≠ []

def MarkedI (w : World) (lo : Nat) (A : Option Addr) (xs : List Int) (k : Int) (e : Ending) (w' : World) : Prop :=
  e = .returned (.int .i64 (k + xs.length)) ∧ OwnI w' lo A (seqL k xs.length) ∧ Save (Its A xs) w w'

set_option maxHeartbeats 400000 in
theorem markIntS_any (A : Option Addr) (xs : List Int) (c lo : Nat) (k : Int) (w : World) (h : OwnI w lo A xs) (hn : xs.length ≤ 1048576) (hk : 0 ≤ k) (hk' : k ≤ 4398046511104) :
    Calls Tryd.prog 40 #[.slice A xs.length c, .int .i64 k] w (MarkedI w lo A xs k) := by
  have HO := Lib.hid h; clear h
  go_enter Tryd.func40, Tryd.ntmps40
  go_wp2
  go_loopw [1, 5] (fun v i wr => ∃ (j : Nat), j ≤ xs.length ∧ i = .int .i64 j ∧ v = .int .i64 (k + j) ∧ Hid (OwnI wr lo A (midL k xs j)) ∧ Hid (Save (Its A xs) w wr)) (fun _ i _ => xs.length - (intOf i).toNat)
  case atStart => exact ⟨0, by omega, rfl, by simp, by show OwnI _ _ _ _; rw [midL_zero]; exact HO.out, Save.refl _ _⟩
  case round =>
    obtain ⟨j, hj, rfl, rfl, H, HS⟩ := hrel
    by_cases hlt : j < xs.length
    · obtain ⟨g, rfl, _, _, c1, f1⟩ := H.out.at_ (i := j) (by rw [midL_length hj]; exact hlt)
      have hne : xs ≠ [] := fun e => by subst e; simp at hlt
      have HNE := Lib.hid hne; clear hne
      go_wp2
      go_roundw
      case rel => exact ⟨j + 1, by omega, by go_num, by go_num, by show OwnI _ _ _ _; rw [← midL_step hlt]; exact H.out.set (by rw [midL_length hj]; exact hlt) _, HS.out.setCell ⟨rfl, HNE.out⟩ _⟩
      case measure => simp [intOf]; omega
    · obtain rfl : j = xs.length := by omega
      go_wp2
      go_ret
      exact ⟨rfl, by rw [← midL_all]; exact H.out, HS.out⟩

set_option maxHeartbeats 400000 in
theorem heldIntS_any (A : Option Addr) (n c : Nat) (k : Int) (w : World) (h : Ints w w.heap.size A (seqL k n)) (hn : n ≤ 1048576) (hk : 0 ≤ k) (hk' : k ≤ 4398046511104) :
    Calls Tryd.prog 41 #[.slice A n c, .int .i64 k] w fun e w' => e = .returned (.int .i64 (k + n)) ∧ Below w.heap.size w w' := by
  have HO := Lib.hid h; clear h
  go_enter Tryd.func41, Tryd.ntmps41
  go_wp2
  go_loopw [1, 5] (fun v i wr => ∃ (j : Nat), j ≤ n ∧ i = .int .i64 j ∧ v = .int .i64 (k + j) ∧ Below w.heap.size w wr) (fun _ i _ => n - (intOf i).toNat)
  case atStart => exact ⟨0, by omega, rfl, by simp, Below.refl _ _⟩
  case round =>
    obtain ⟨j, hj, rfl, rfl, hB⟩ := hrel
    by_cases hlt : j < n
    · obtain ⟨b, o, rfl, hb, c1⟩ := (HO.out.keep hB).at_ (k := j) (by rw [seqL_length]; exact hlt)
      rw [seqL_at] at c1
      have hne : ((k + (j : Int)) != (k + (j : Int))) = false := by simp
      go_wp2
      go_roundw
      case rel => exact ⟨j + 1, by omega, by go_num, by go_num, hB⟩
      case measure => simp [intOf]; omega
    · obtain rfl : j = n := by omega
      go_wp2
      go_ret
      exact ⟨rfl, hB⟩

end Go.Proofs.YtaobkanliiiapaaDoor

/- What the laws' marks write into lists of lists, and what they find again. -/

namespace Go.Proofs.YtaobkanliiiapaaDoor
open Go.RowKit

theorem OwnL.at_ {w : World} {lo : Nat} {A : Option Addr} {ls : List Li} (h : OwnL w lo A ls) {i : Nat} (hi : i < ls.length) :
    ∃ g, A = some ⟨g, 0, none⟩ ∧ lo ≤ g ∧ g < w.heap.size ∧ w.cell? ⟨g, i, none⟩ = some (.slice ls[i].a ls[i].r.length ls[i].c) ∧ OwnI w lo ls[i].a ls[i].r := by
  rcases h with h | ⟨g, cs, ea, hl, hr, hc, _⟩
  · subst h; simp at hi
  · obtain ⟨h1, _, h3⟩ := hc i _ (List.getElem?_eq_getElem hi)
    exact ⟨g, ea, hl, hr.lt, by rw [hr.cell]; exact h1, h3⟩

theorem OwnL.setList {w w' : World} {lo : Nat} {A : Option Addr} {ls : List Li} (h : OwnL w lo A ls) {i : Nat} (hi : i < ls.length) {ys : List Int} (hy : ys.length = ls[i].r.length)
    (hO : OwnI w' lo ls[i].a ys) (hs : Save (Its ls[i].a ls[i].r) w w') : OwnL w' lo A (ls.set i { ls[i] with r := ys }) := by
  rcases h with h | ⟨g, cs, ea, hl, hr, hc, hd⟩
  · subst h; simp at hi
  · have hgi : ¬ Its ls[i].a ls[i].r g := by
      rintro ⟨e1, e2⟩
      rcases (hc i _ (List.getElem?_eq_getElem hi)).2.2 with h3 | ⟨g', cs', e3, _, hr', _⟩
      · exact e2 h3
      · rw [e1] at e3
        injection e3 with e3
        injection e3 with e3
        exact hr'.ne hr (by decide) e3.symm
    refine .inr ⟨g, cs, ea, hl, hr.save hs hgi, fun k u hu => ?_, fun a b u v hu hv hab hun hvn => ?_⟩
    · rw [List.getElem?_set] at hu
      by_cases e : i = k
      · subst e
        rw [if_pos rfl, if_pos hi] at hu
        injection hu with hu
        subst hu
        obtain ⟨h1, h2, _⟩ := hc i _ (List.getElem?_eq_getElem hi)
        exact ⟨by rw [hy]; exact h1, by rw [hy]; exact h2, hO⟩
      · rw [if_neg e] at hu
        obtain ⟨h1, h2, h3⟩ := hc k u hu
        refine ⟨h1, h2, h3.save hs fun g' e1 e2 hI => ?_⟩
        exact hd k i u ls[i] hu (List.getElem?_eq_getElem hi) (Ne.symm e) e2 hI.2 (e1.trans hI.1.symm)
    · have old : ∀ (j : Nat) (y : Li), (ls.set i { ls[i] with r := ys })[j]? = some y → ∃ z, ls[j]? = some z ∧ z.a = y.a ∧ (y.r ≠ [] → z.r ≠ []) := by
        intro j y hy'
        rw [List.getElem?_set] at hy'
        by_cases e : i = j
        · subst e
          rw [if_pos rfl, if_pos hi] at hy'
          injection hy' with hy'
          subst hy'
          refine ⟨ls[i], List.getElem?_eq_getElem hi, rfl, fun hn e => hn ?_⟩
          have : ys.length = 0 := by rw [hy, e]; rfl
          exact List.eq_nil_of_length_eq_zero this
        · rw [if_neg e] at hy'
          exact ⟨y, hy', rfl, id⟩
      obtain ⟨u', hu', e1, e2⟩ := old a u hu
      obtain ⟨v', hv', e3, e4⟩ := old b v hv
      rw [← e1, ← e3]
      exact hd a b u' v' hu' hv' hab (e2 hun) (e4 hvn)

/-- How many numbers the first i lists hold. -/
def lcnt (ls : List Li) (i : Nat) : Nat := ((ls.take i).map fun u => u.r.length).sum
theorem lcnt_succ {ls : List Li} {i : Nat} (hi : i < ls.length) : lcnt ls (i + 1) = lcnt ls i + ls[i].r.length := by
  unfold lcnt
  rw [List.take_succ_eq_append_getElem hi, List.map_append, List.sum_append]
  simp
theorem lcnt_zero (ls : List Li) : lcnt ls 0 = 0 := by simp [lcnt]

def markV (k : Int) (u : Li) : Li := { u with r := seqL k u.r.length }
/-- The lists with the first i of them marked from k on. -/
def markM (k : Int) (ls : List Li) (i : Nat) : List Li := ls.mapIdx fun j u => if j < i then markV (k + (lcnt ls j : Int)) u else u
theorem markM_length (k : Int) (ls : List Li) (i : Nat) : (markM k ls i).length = ls.length := by simp [markM]
theorem markM_at {k : Int} {ls : List Li} {i j : Nat} (h : j < ls.length) (hj : j < (markM k ls i).length) : (markM k ls i)[j] = if j < i then markV (k + (lcnt ls j : Int)) ls[j] else ls[j] := by simp [markM]
theorem markM_zero (k : Int) (ls : List Li) : markM k ls 0 = ls := by
  apply List.ext_getElem?
  intro j
  simp [markM]
theorem markM_step {k : Int} {ls : List Li} {i : Nat} (h : i < ls.length) : (markM k ls i).set i (markV (k + (lcnt ls i : Int)) ls[i]) = markM k ls (i + 1) := by
  apply List.ext_getElem?
  intro j
  rw [List.getElem?_set, markM_length]
  by_cases e : i = j
  · subst e
    rw [if_pos rfl, if_pos h]
    simp [markM, h]
  · rw [if_neg e]
    simp only [markM, List.getElem?_mapIdx]
    by_cases hj : j < ls.length
    · rw [List.getElem?_eq_getElem hj]
      simp only [Option.map_some]
      congr 1
      by_cases hji : j < i
      · rw [if_pos hji, if_pos (by omega)]
      · rw [if_neg hji, if_neg (by omega)]
    · rw [List.getElem?_eq_none (by omega)]
      rfl

/-- The blocks of a slice of lists and of the lists. -/
def ItsL (A : Option Addr) (ls : List Li) (b : Nat) : Prop := (A = some ⟨b, 0, none⟩ ∧ ls ≠ []) ∨ ∃ (i : Nat) (u : Li), ls[i]? = some u ∧ Its u.a u.r b

theorem OwnL.its {w : World} {lo : Nat} {A : Option Addr} {ls : List Li} (h : OwnL w lo A ls) {b : Nat} (hb : ItsL A ls b) : lo ≤ b ∧ b < w.heap.size := by
  rcases h with h | ⟨g, cs, ea, hl, hr, hc, _⟩
  · subst h
    rcases hb with ⟨_, h⟩ | ⟨i, u, h, _⟩
    · exact absurd rfl h
    · simp at h
  · rcases hb with ⟨e, _⟩ | ⟨i, u, hu, e, hn⟩
    · rw [ea] at e; injection e with e; injection e with e; subst e; exact ⟨hl, hr.lt⟩
    · rcases (hc i u hu).2.2 with h3 | ⟨g', cs', e3, l3, hr', _⟩
      · exact absurd h3 hn
      · rw [e] at e3; injection e3 with e3; injection e3 with e3; subst e3; exact ⟨l3, hr'.lt⟩

def MarkedL (w : World) (lo : Nat) (A : Option Addr) (ls : List Li) (k : Int) (e : Ending) (w' : World) : Prop :=
  e = .returned (.int .i64 (k + (lcnt ls ls.length : Int))) ∧ OwnL w' lo A (markM k ls ls.length) ∧ Save (ItsL A ls) w w'

theorem mark_nextL {wr w1 : World} {lo : Nat} {A : Option Addr} {j : Nat} {ls : List Li} {k : Int} (H : OwnL wr lo A (markM k ls j)) (hlt : j < ls.length)
    (hO : OwnI w1 lo ls[j].a (seqL (k + (lcnt ls j : Int)) ls[j].r.length)) (hS : Save (Its ls[j].a ls[j].r) wr w1) : OwnL w1 lo A (markM k ls (j + 1)) := by
  have hlt' : j < (markM k ls j).length := by rw [markM_length]; exact hlt
  have hat : (markM k ls j)[j] = ls[j] := by rw [markM_at hlt, if_neg (by omega)]
  have h2 := H.setList (i := j) (w' := w1) (ys := seqL (k + (lcnt ls j : Int)) ls[j].r.length) hlt' (by simp [hat, seqL_length]) (by simpa [hat] using hO) (by simpa [hat] using hS)
  rw [← markM_step hlt]
  simpa [hat, markV] using h2

set_option maxHeartbeats 400000 in
theorem markIntSS_any (A : Option Addr) (ls : List Li) (c lo : Nat) (k : Int) (w : World) (h : OwnL w lo A ls) (hn : ls.length ≤ 1048576) (hu : ∀ u ∈ ls, u.r.length ≤ 1048576) (hk : 0 ≤ k) (hk' : k ≤ 2199030000000) :
    Calls Tryd.prog 89 #[.slice A ls.length c, .int .i64 k] w (MarkedL w lo A ls k) := by
  have HO := Lib.hid h; clear h
  have HU := Lib.hid hu; clear hu
  go_enter Tryd.func89, Tryd.ntmps89
  go_wp2
  go_loopw [1, 5] (fun v i wr => ∃ (j : Nat), j ≤ ls.length ∧ i = .int .i64 j ∧ v = .int .i64 (k + (lcnt ls j : Int)) ∧ lcnt ls j ≤ j * 1048577 ∧ Hid (OwnL wr lo A (markM k ls j)) ∧ Hid (Save (ItsL A ls) w wr)) (fun _ i _ => ls.length - (intOf i).toNat)
  case atStart => exact ⟨0, by omega, rfl, by simp [lcnt_zero], by simp [lcnt_zero], by show OwnL _ _ _ _; rw [markM_zero]; exact HO.out, Save.refl _ _⟩
  case round =>
    obtain ⟨j, hj, rfl, rfl, hcn, H, HS⟩ := hrel
    by_cases hlt : j < ls.length
    · have hlt' : j < (markM k ls j).length := by rw [markM_length]; exact hlt
      have hat : (markM k ls j)[j] = ls[j] := by rw [markM_at hlt, if_neg (by omega)]
      obtain ⟨g, rfl, _, _, c1, c3⟩ := H.out.at_ hlt'
      rw [hat] at c1 c3
      have C3 := Lib.hid c3
      have hul := HU.out ls[j] (List.getElem_mem hlt)
      have HCS := Lib.hid (lcnt_succ hlt)
      clear c3 hat hlt'
      go_wp2_with fail
      refine (markIntS_any _ _ _ lo _ _ C3.out hul (by omega) (by omega)).mono ?_
      rintro e w1 ⟨rfl, hO1, hS1⟩
      have HO1 := Lib.hid hO1; clear hO1
      have HS1 := Lib.hid hS1; clear hS1
      go_wp2
      go_roundw
      case rel => exact ⟨j + 1, by omega, by go_num, by rw [HCS.out]; go_num, by rw [HCS.out]; omega, mark_nextL H.out hlt HO1.out HS1.out, HS.out.trans (HS1.out.wider fun i hi => .inr ⟨j, ls[j], List.getElem?_eq_getElem hlt, hi⟩)⟩
      case measure => simp [intOf]; omega
    · obtain rfl : j = ls.length := by omega
      go_wp2
      go_ret
      exact ⟨rfl, H.out, HS.out⟩

set_option maxHeartbeats 400000 in
theorem heldIntSS_any (A : Option Addr) (ls : List Li) (c : Nat) (k : Int) (w : World) (h : Lls w w.heap.size A (markM k ls ls.length)) (hn : ls.length ≤ 1048576) (hu : ∀ u ∈ ls, u.r.length ≤ 1048576) (hk : 0 ≤ k) (hk' : k ≤ 2199030000000) :
    Calls Tryd.prog 90 #[.slice A ls.length c, .int .i64 k] w fun e w' => e = .returned (.int .i64 (k + (lcnt ls ls.length : Int))) ∧ Below w.heap.size w w' := by
  have HO := Lib.hid h; clear h
  have HU := Lib.hid hu; clear hu
  go_enter Tryd.func90, Tryd.ntmps90
  go_wp2
  go_loopw [1, 5] (fun v i wr => ∃ (j : Nat), j ≤ ls.length ∧ i = .int .i64 j ∧ v = .int .i64 (k + (lcnt ls j : Int)) ∧ lcnt ls j ≤ j * 1048577 ∧ Below w.heap.size w wr) (fun _ i _ => ls.length - (intOf i).toNat)
  case atStart => exact ⟨0, by omega, rfl, by simp [lcnt_zero], by simp [lcnt_zero], Below.refl _ _⟩
  case round =>
    obtain ⟨j, hj, rfl, rfl, hcn, hB⟩ := hrel
    by_cases hlt : j < ls.length
    · have hat : (markM k ls ls.length)[j]'(by rw [markM_length]; exact hlt) = markV (k + (lcnt ls j : Int)) ls[j] := by rw [markM_at hlt, if_pos hlt]
      obtain ⟨b, o, rfl, hb, c1, _, c3⟩ := (HO.out.keep hB).at_ (k := j) (by rw [markM_length]; exact hlt)
      rw [hat] at c1 c3
      simp only [markV, seqL_length] at c1 c3
      have C3 := Lib.hid (c3.more hB.size)
      have hul := HU.out ls[j] (List.getElem_mem hlt)
      have HCS := Lib.hid (lcnt_succ hlt)
      clear c3 hat
      go_wp2_with fail
      refine (heldIntS_any _ _ _ _ _ C3.out hul (by omega) (by omega)).mono ?_
      rintro e w1 ⟨rfl, hB1⟩
      have HB1 := Lib.hid (hB.trans (hB1.mono hB.size)); clear hB1
      go_wp2
      go_roundw
      case rel => exact ⟨j + 1, by omega, by go_num, by rw [HCS.out]; go_num, by rw [HCS.out]; omega, HB1.out⟩
      case measure => simp [intOf]; omega
    · obtain rfl : j = ls.length := by omega
      go_wp2
      go_ret
      exact ⟨rfl, hB⟩

end Go.Proofs.YtaobkanliiiapaaDoor

/- What the laws' marks write into a grammar, and what they find again. -/

namespace Go.Proofs.YtaobkanliiiapaaDoor
open Go.RowKit

theorem OwnR.at_ {w : World} {lo : Nat} {A : Option Addr} {rs : List Ru} (h : OwnR w lo A rs) {i : Nat} (hi : i < rs.length) :
    ∃ g, A = some ⟨g, 0, none⟩ ∧ lo ≤ g ∧ g < w.heap.size ∧ w.cell? ⟨g, i * 2, none⟩ = some (.int .i64 rs[i].l) ∧ w.cell? ⟨g, i * 2 + 1, none⟩ = some (.slice rs[i].a rs[i].r.length rs[i].c) ∧ w.frozen? ⟨g, i * 2, none⟩ = false ∧ w.frozen? ⟨g, i * 2 + 1, none⟩ = false ∧ OwnI w lo rs[i].a rs[i].r := by
  rcases h with h | ⟨g, cs, ea, hl, hr, hc, _⟩
  · subst h; simp at hi
  · obtain ⟨h1, h2, h3⟩ := hc i _ (List.getElem?_eq_getElem hi)
    exact ⟨g, ea, hl, hr.lt, by rw [hr.cell]; exact h1, by rw [hr.cell]; exact h2, hr.frozen _, hr.frozen _, h3⟩

theorem OwnR.setLeft {w : World} {lo g : Nat} {rs : List Ru} (h : OwnR w lo (some ⟨g, 0, none⟩) rs) {i : Nat} (hi : i < rs.length) (x : Int) :
    OwnR (w.setCell ⟨g, i * 2, none⟩ (.int .i64 x)) lo (some ⟨g, 0, none⟩) (rs.set i { rs[i] with l := x }) := by
  rcases h with h | ⟨g', cs, ea, hl, hr, hc, hd⟩
  · subst h; simp at hi
  · injection ea with ea
    injection ea with ea
    subst ea
    have hlt : i * 2 < cs.size := (Array.getElem?_eq_some_iff.1 (hc i _ (List.getElem?_eq_getElem hi)).1).1
    have keep : ∀ {A' : Option Addr} {xs : List Int}, OwnI w lo A' xs → OwnI (w.setCell ⟨g, i * 2, none⟩ (.int .i64 x)) lo A' xs := by
      intro A' xs h
      rcases h with h | ⟨g', cs', e, hl', hr', hc'⟩
      · exact .inl h
      · exact .inr ⟨g', cs', e, hl', hr'.far (hr'.ne hr (by decide)) _, hc'⟩
    refine .inr ⟨g, cs.setIfInBounds (i * 2) (.int .i64 x), rfl, hl, hr.set _ _, fun k u hu => ?_, fun a b u v hu hv hab hun hvn => ?_⟩
    · rw [List.getElem?_set] at hu
      by_cases e : i = k
      · subst e
        rw [if_pos rfl, if_pos hi] at hu
        injection hu with hu
        subst hu
        obtain ⟨_, h2, h3⟩ := hc i _ (List.getElem?_eq_getElem hi)
        refine ⟨by rw [Array.getElem?_setIfInBounds, if_pos rfl, if_pos hlt], ?_, keep h3⟩
        rw [Array.getElem?_setIfInBounds, if_neg (by omega)]; exact h2
      · rw [if_neg e] at hu
        obtain ⟨h1, h2, h3⟩ := hc k u hu
        refine ⟨?_, ?_, keep h3⟩
        · rw [Array.getElem?_setIfInBounds, if_neg (by omega)]; exact h1
        · rw [Array.getElem?_setIfInBounds, if_neg (by omega)]; exact h2
    · have old : ∀ (j : Nat) (y : Ru), (rs.set i { rs[i] with l := x })[j]? = some y → ∃ z, rs[j]? = some z ∧ z.a = y.a ∧ z.r = y.r := by
        intro j y hy
        rw [List.getElem?_set] at hy
        by_cases e : i = j
        · subst e
          rw [if_pos rfl, if_pos hi] at hy
          injection hy with hy
          subst hy
          exact ⟨rs[i], List.getElem?_eq_getElem hi, rfl, rfl⟩
        · rw [if_neg e] at hy
          exact ⟨y, hy, rfl, rfl⟩
      obtain ⟨u', hu', e1, e2⟩ := old a u hu
      obtain ⟨v', hv', e3, e4⟩ := old b v hv
      rw [← e1, ← e3]
      exact hd a b u' v' hu' hv' hab (by rw [e2]; exact hun) (by rw [e4]; exact hvn)

theorem OwnR.setRight {w w' : World} {lo : Nat} {A : Option Addr} {rs : List Ru} (h : OwnR w lo A rs) {i : Nat} (hi : i < rs.length) {ys : List Int} (hy : ys.length = rs[i].r.length)
    (hO : OwnI w' lo rs[i].a ys) (hs : Save (Its rs[i].a rs[i].r) w w') : OwnR w' lo A (rs.set i { rs[i] with r := ys }) := by
  rcases h with h | ⟨g, cs, ea, hl, hr, hc, hd⟩
  · subst h; simp at hi
  · have hgi : ¬ Its rs[i].a rs[i].r g := by
      rintro ⟨e1, e2⟩
      rcases (hc i _ (List.getElem?_eq_getElem hi)).2.2 with h3 | ⟨g', cs', e3, _, hr', _⟩
      · exact e2 h3
      · rw [e1] at e3
        injection e3 with e3
        injection e3 with e3
        exact hr'.ne hr (by decide) e3.symm
    refine .inr ⟨g, cs, ea, hl, hr.save hs hgi, fun k u hu => ?_, fun a b u v hu hv hab hun hvn => ?_⟩
    · rw [List.getElem?_set] at hu
      by_cases e : i = k
      · subst e
        rw [if_pos rfl, if_pos hi] at hu
        injection hu with hu
        subst hu
        obtain ⟨h1, h2, _⟩ := hc i _ (List.getElem?_eq_getElem hi)
        exact ⟨h1, by rw [hy]; exact h2, hO⟩
      · rw [if_neg e] at hu
        obtain ⟨h1, h2, h3⟩ := hc k u hu
        refine ⟨h1, h2, h3.save hs fun g' e1 e2 hI => ?_⟩
        exact hd k i u rs[i] hu (List.getElem?_eq_getElem hi) (Ne.symm e) e2 hI.2 (e1.trans hI.1.symm)
    · have old : ∀ (j : Nat) (y : Ru), (rs.set i { rs[i] with r := ys })[j]? = some y → ∃ z, rs[j]? = some z ∧ z.a = y.a ∧ (y.r ≠ [] → z.r ≠ []) := by
        intro j y hy'
        rw [List.getElem?_set] at hy'
        by_cases e : i = j
        · subst e
          rw [if_pos rfl, if_pos hi] at hy'
          injection hy' with hy'
          subst hy'
          refine ⟨rs[i], List.getElem?_eq_getElem hi, rfl, fun hn e => hn ?_⟩
          have : ys.length = 0 := by rw [hy, e]; rfl
          exact List.eq_nil_of_length_eq_zero this
        · rw [if_neg e] at hy'
          exact ⟨y, hy', rfl, id⟩
      obtain ⟨u', hu', e1, e2⟩ := old a u hu
      obtain ⟨v', hv', e3, e4⟩ := old b v hv
      rw [← e1, ← e3]
      exact hd a b u' v' hu' hv' hab (e2 hun) (e4 hvn)

/-- How many numbers the first i rules hold. -/
def cntTo (rs : List Ru) (i : Nat) : Nat := ((rs.take i).map fun u => 1 + u.r.length).sum
theorem cntTo_succ {rs : List Ru} {i : Nat} (hi : i < rs.length) : cntTo rs (i + 1) = cntTo rs i + (1 + rs[i].r.length) := by
  unfold cntTo
  rw [List.take_succ_eq_append_getElem hi, List.map_append, List.sum_append]
  simp
theorem cntTo_zero (rs : List Ru) : cntTo rs 0 = 0 := by simp [cntTo]

def markU (k : Int) (u : Ru) : Ru := { u with l := k, r := seqL (k + 1) u.r.length }
/-- The rules with the first i of them marked from k on. -/
def markL (k : Int) (rs : List Ru) (i : Nat) : List Ru := rs.mapIdx fun j u => if j < i then markU (k + (cntTo rs j : Int)) u else u
theorem markL_length (k : Int) (rs : List Ru) (i : Nat) : (markL k rs i).length = rs.length := by simp [markL]
theorem markL_at {k : Int} {rs : List Ru} {i j : Nat} (h : j < rs.length) (hj : j < (markL k rs i).length) : (markL k rs i)[j] = if j < i then markU (k + (cntTo rs j : Int)) rs[j] else rs[j] := by simp [markL]
theorem markL_zero (k : Int) (rs : List Ru) : markL k rs 0 = rs := by
  apply List.ext_getElem?
  intro j
  simp [markL]
theorem markL_step {k : Int} {rs : List Ru} {i : Nat} (h : i < rs.length) : (markL k rs i).set i (markU (k + (cntTo rs i : Int)) rs[i]) = markL k rs (i + 1) := by
  apply List.ext_getElem?
  intro j
  rw [List.getElem?_set, markL_length]
  by_cases e : i = j
  · subst e
    rw [if_pos rfl, if_pos h]
    simp [markL, h]
  · rw [if_neg e]
    simp only [markL, List.getElem?_mapIdx]
    by_cases hj : j < rs.length
    · rw [List.getElem?_eq_getElem hj]
      simp only [Option.map_some]
      congr 1
      by_cases hji : j < i
      · rw [if_pos hji, if_pos (by omega)]
      · rw [if_neg hji, if_neg (by omega)]
    · rw [List.getElem?_eq_none (by omega)]
      rfl

/-- The blocks of a slice of rules and of their right sides. -/
def ItsR (A : Option Addr) (rs : List Ru) (b : Nat) : Prop := (A = some ⟨b, 0, none⟩ ∧ rs ≠ []) ∨ ∃ (i : Nat) (u : Ru), rs[i]? = some u ∧ Its u.a u.r b

def MarkedR (w : World) (lo : Nat) (A : Option Addr) (rs : List Ru) (k : Int) (e : Ending) (w' : World) : Prop :=
  e = .returned (.int .i64 (k + (cntTo rs rs.length : Int))) ∧ OwnR w' lo A (markL k rs rs.length) ∧ Save (ItsR A rs) w w'

theorem set_left_right {rs : List Ru} {i : Nat} (h : i < rs.length) (x : Int) (ys : List Int) :
    ((rs.set i { rs[i] with l := x }).set i { (rs.set i { rs[i] with l := x })[i]'(by simpa using h) with r := ys }) = rs.set i { rs[i] with l := x, r := ys } := by
  rw [List.set_set]
  congr 1
  simp

theorem mark_right {wr : World} {lo g j : Nat} {rs : List Ru} {k : Int} (H : OwnR wr lo (some ⟨g, 0, none⟩) (markL k rs j)) (hlt : j < rs.length) (x : Int) : OwnI (wr.setCell ⟨g, j * 2, none⟩ (.int .i64 x)) lo rs[j].a rs[j].r := by
  have hlt' : j < (markL k rs j).length := by rw [markL_length]; exact hlt
  have hat : (markL k rs j)[j] = rs[j] := by rw [markL_at hlt, if_neg (by omega)]
  obtain ⟨_, _, _, _, _, _, _, _, h3⟩ := (H.setLeft hlt' x).at_ (i := j) (by simpa using hlt')
  simpa [hat] using h3

theorem mark_next {wr w1 : World} {lo g j : Nat} {rs : List Ru} {k : Int} (H : OwnR wr lo (some ⟨g, 0, none⟩) (markL k rs j)) (hlt : j < rs.length)
    (hO : OwnI w1 lo rs[j].a (seqL (k + (cntTo rs j : Int) + 1) rs[j].r.length)) (hS : Save (Its rs[j].a rs[j].r) (wr.setCell ⟨g, j * 2, none⟩ (.int .i64 (k + (cntTo rs j : Int)))) w1) :
    OwnR w1 lo (some ⟨g, 0, none⟩) (markL k rs (j + 1)) := by
  have hlt' : j < (markL k rs j).length := by rw [markL_length]; exact hlt
  have hat : (markL k rs j)[j] = rs[j] := by rw [markL_at hlt, if_neg (by omega)]
  have h2 := (H.setLeft hlt' (k + (cntTo rs j : Int))).setRight (i := j) (w' := w1) (ys := seqL (k + (cntTo rs j : Int) + 1) rs[j].r.length) (by simpa using hlt') (by simp [hat, seqL_length]) (by simpa [hat] using hO) (by simpa [hat] using hS)
  rw [set_left_right] at h2
  rw [← markL_step hlt]
  simpa [hat, markU] using h2

set_option maxHeartbeats 400000 in
theorem markRuleS_any (A : Option Addr) (rs : List Ru) (c lo : Nat) (k : Int) (w : World) (h : OwnR w lo A rs) (hn : rs.length ≤ 1048576) (hu : ∀ u ∈ rs, u.r.length ≤ 1048576) (hk : 0 ≤ k) (hk' : k ≤ 16) :
    Calls Tryd.prog 88 #[.slice A rs.length c, .int .i64 k] w (MarkedR w lo A rs k) := by
  have HO := Lib.hid h; clear h
  have HU := Lib.hid hu; clear hu
  go_enter Tryd.func88, Tryd.ntmps88
  go_wp2
  go_loopw [1, 5] (fun v i wr => ∃ (j : Nat), j ≤ rs.length ∧ i = .int .i64 j ∧ v = .int .i64 (k + (cntTo rs j : Int)) ∧ cntTo rs j ≤ j * 1048577 ∧ Hid (OwnR wr lo A (markL k rs j)) ∧ Hid (Save (ItsR A rs) w wr)) (fun _ i _ => rs.length - (intOf i).toNat)
  case atStart => exact ⟨0, by omega, rfl, by simp [cntTo_zero], by simp [cntTo_zero], by show OwnR _ _ _ _; rw [markL_zero]; exact HO.out, Save.refl _ _⟩
  case round =>
    obtain ⟨j, hj, rfl, rfl, hcn, H, HS⟩ := hrel
    by_cases hlt : j < rs.length
    · have hlt' : j < (markL k rs j).length := by rw [markL_length]; exact hlt
      have hat : (markL k rs j)[j] = rs[j] := by rw [markL_at hlt, if_neg (by omega)]
      obtain ⟨g, rfl, _, _, c1, c2, f1, f2, c3⟩ := H.out.at_ hlt'
      rw [hat] at c1 c2
      have hul := HU.out rs[j] (List.getElem_mem hlt)
      have HCS := Lib.hid (cntTo_succ hlt)
      clear c3 hat hlt'
      go_wp2_with fail
      refine (markIntS_any _ _ _ lo _ _ (mark_right H.out hlt _) hul (by omega) (by omega)).mono ?_
      rintro e w1 ⟨rfl, hO1, hS1⟩
      have HO1 := Lib.hid hO1; clear hO1
      have HS1 := Lib.hid hS1; clear hS1
      go_wp2
      go_roundw
      case rel => exact ⟨j + 1, by omega, by go_num, by rw [HCS.out]; go_num, by rw [HCS.out]; omega, mark_next H.out hlt HO1.out HS1.out, (HS.out.setCell (.inl ⟨rfl, fun e => by subst e; simp at hlt⟩) _).trans (HS1.out.wider fun i hi => .inr ⟨j, rs[j], List.getElem?_eq_getElem hlt, hi⟩)⟩
      case measure => simp [intOf]; omega
    · obtain rfl : j = rs.length := by omega
      go_wp2
      go_ret
      exact ⟨rfl, H.out, HS.out⟩

theorem cntTo_le {rs : List Ru} (hu : ∀ u ∈ rs, u.r.length ≤ 1048576) (i : Nat) : cntTo rs i ≤ i * 1048577 := by
  induction i with
  | zero => simp [cntTo_zero]
  | succ i ih =>
    by_cases h : i < rs.length
    · have := hu rs[i] (List.getElem_mem h)
      rw [cntTo_succ h]; omega
    · have e : cntTo rs (i + 1) = cntTo rs i := by unfold cntTo; rw [List.take_of_length_le (by omega), List.take_of_length_le (by omega)]
      omega

set_option maxHeartbeats 400000 in
theorem markGrammar_any (n t : Int) (A : Option Addr) (rs : List Ru) (c lo : Nat) (k : Int) (w : World) (h : OwnR w lo A rs) (hn : rs.length ≤ 1048576) (hu : ∀ u ∈ rs, u.r.length ≤ 1048576) (hk : 0 ≤ k) (hk' : k ≤ 16) :
    Calls Tryd.prog 34 #[.agg #[.int .i64 n, .int .i64 t, .slice A rs.length c], .int .i64 k] w (MarkedR w lo A rs k) := by
  have HB0 : Hid (Below w.heap.size w (w.alloc (.cells #[.int .i64 n, .int .i64 t, .slice A rs.length c] 54))) := by show Below _ _ _; go_grown
  have HO := Lib.hid (h.below HB0.out (Nat.le_refl _)); clear h
  have HU := Lib.hid hu; clear hu
  go_enter Tryd.func34, Tryd.ntmps34
  go_wp2_with fail
  refine (markRuleS_any _ _ _ lo _ _ HO.out hn HU.out hk hk').mono ?_
  rintro e w1 ⟨rfl, hO1, hS1⟩
  have HO1 := Lib.hid hO1; clear hO1
  have HS1 := Lib.hid hS1; clear hS1
  go_wp2
  go_ret
  exact ⟨rfl, HO1.out, (Save.of_below HB0.out).trans HS1.out⟩



end Go.Proofs.YtaobkanliiiapaaDoor

/- Which blocks an owned list or an owned list of rules takes. -/

namespace Go.Proofs.YtaobkanliiiapaaDoor
open Go.RowKit

theorem OwnI.its {w : World} {lo : Nat} {A : Option Addr} {xs : List Int} (h : OwnI w lo A xs) {b : Nat} (hb : Its A xs b) : lo ≤ b ∧ b < w.heap.size := by
  rcases h with h | ⟨g, cs, e, hl, hr, _⟩
  · exact absurd h hb.2
  · have := hb.1.symm.trans e
    injection this with this
    injection this with this
    subst this
    exact ⟨hl, hr.lt⟩

theorem OwnR.its {w : World} {lo : Nat} {A : Option Addr} {rs : List Ru} (h : OwnR w lo A rs) {b : Nat} (hb : ItsR A rs b) : lo ≤ b ∧ b < w.heap.size := by
  rcases h with h | ⟨g, cs, e, hl, hr, hc, _⟩
  · subst h
    rcases hb with hb | ⟨i, u, hu, _⟩
    · exact absurd rfl hb.2
    · simp at hu
  · rcases hb with ⟨hb, _⟩ | ⟨i, u, hu, hI⟩
    · have := hb.symm.trans e
      injection this with this
      injection this with this
      subst this
      exact ⟨hl, hr.lt⟩
    · exact (hc i u hu).2.2.its hI

theorem OwnI.kept {S : Nat → Prop} {w w' : World} {lo : Nat} {A : Option Addr} {xs : List Int} (h : OwnI w lo A xs) (hs : Save S w w') (hd : ∀ b, Its A xs b → ¬ S b) : OwnI w' lo A xs :=
  h.save hs fun g e hn => hd g ⟨e, hn⟩

theorem eqL_refl (xs : List Int) : eqL xs xs = true := eqL_t rfl

end Go.Proofs.YtaobkanliiiapaaDoor

/- What the walks of the laws with a list of lists as their answer share. -/

namespace Go.Proofs.YtaobkanliiiapaaDoor
open Go.RowKit

theorem OwnL.kept {S : Nat → Prop} {w w' : World} {lo : Nat} {A : Option Addr} {ls : List Li} (h : OwnL w lo A ls) (hs : Save S w w') (hd : ∀ b, ItsL A ls b → ¬ S b) : OwnL w' lo A ls := by
  by_cases e : ls = []
  · exact .inl e
  · rcases h with h | ⟨g, cs, ea, hl, hr, hc, hdd⟩
    · exact .inl h
    · refine .inr ⟨g, cs, ea, hl, hr.save hs (hd g (.inl ⟨ea, e⟩)), fun k u hu => ?_, hdd⟩
      obtain ⟨h1, h2, h3⟩ := hc k u hu
      exact ⟨h1, h2, h3.kept hs fun b hb => hd b (.inr ⟨k, u, hu, hb⟩)⟩

theorem say_len {ls : List Li} {xs : List (List Int)} {m : Nat} (h : sayL ls = xs) (hx : xs.length ≤ m) : ls.length ≤ m := by rw [sayL_len' h]; exact hx
theorem say_lens {ls : List Li} {xs : List (List Int)} {m : Nat} (h : sayL ls = xs) (hx : ∀ x ∈ xs, x.length ≤ m) : ∀ u ∈ ls, u.r.length ≤ m := fun u hu => hx u.r (h ▸ sayL_mem hu)

end Go.Proofs.YtaobkanliiiapaaDoor

/- What the walks of the laws with a grammar as their answer share, in any seat. -/

namespace Go.Proofs.YtaobkanliiiapaaDoor
open Go.RowKit

theorem Box3.save {S : Nat → Prop} {w w' : World} {g : Nat} {a b c : Value} (h : Box3 w g a b c) (hs : Save S w w') (hg : ¬ S g) : Box3 w' g a b c := by
  obtain ⟨h0, h1, h2, h3⟩ := h
  have hb := hs.block g h0 hg
  exact ⟨by have := hs.size; omega, (World.cell?_of_block (a := ⟨g, 0, none⟩) hb).trans h1, (World.cell?_of_block (a := ⟨g, 1, none⟩) hb).trans h2, (World.cell?_of_block (a := ⟨g, 2, none⟩) hb).trans h3⟩

theorem OwnR.kept {S : Nat → Prop} {w w' : World} {lo : Nat} {A : Option Addr} {rs : List Ru} (h : OwnR w lo A rs) (hs : Save S w w') (hd : ∀ b, ItsR A rs b → ¬ S b) : OwnR w' lo A rs := by
  by_cases e : rs = []
  · exact .inl e
  · rcases h with h | ⟨g, cs, ea, hl, hr, hc, hdd⟩
    · exact .inl h
    · refine .inr ⟨g, cs, ea, hl, hr.save hs (hd g (.inl ⟨ea, e⟩)), fun k u hu => ?_, hdd⟩
      obtain ⟨h1, h2, h3⟩ := hc k u hu
      exact ⟨h1, h2, h3.kept hs fun b hb => hd b (.inr ⟨k, u, hu, hb⟩)⟩

theorem says_len {rs : List Ru} {ss : List (Int × List Int)} (h : rs.map Ru.abs = ss) (hs : ss.length ≤ 1048576) : rs.length ≤ 1048576 := by rw [← h, List.length_map] at hs; exact hs
theorem says_lens {rs : List Ru} {ss : List (Int × List Int)} (h : rs.map Ru.abs = ss) (hs : ∀ u ∈ ss, u.2.length ≤ 1048576) : ∀ u ∈ rs, u.r.length ≤ 1048576 := fun u hu => hs u.abs (h ▸ List.mem_map.2 ⟨u, hu, rfl⟩)

theorem box_new (w : World) (a b c : Value) (t : TypeId) : Box3 (w.alloc (.cells #[a, b, c] t)) w.heap.size a b c := ⟨by simp, by simp [go_sem], by simp [go_sem], by simp [go_sem]⟩
theorem below_new (w : World) (o : Obj) : Below w.heap.size w (w.alloc o) := (Below.refl _ _).alloc (Nat.le_refl _) _

end Go.Proofs.YtaobkanliiiapaaDoor

/- A chart as it lies in memory; what the laws' size counter, copy, comparison and marks answer of it. -/

namespace Go.Proofs.YtaobkanliiiapaaDoor
open Go.RowKit

/-- A box that holds a chart. -/
def BoxC (w : World) (g : Nat) (n : Int) (A : Option Addr) (k c : Nat) : Prop := g < w.heap.size ∧ w.cell? ⟨g, 0, none⟩ = some (.int .i64 n) ∧ w.cell? ⟨g, 1, none⟩ = some (.slice A k c)
theorem BoxC.keep {w w' : World} {g B : Nat} {n : Int} {A : Option Addr} {k c : Nat} (h : BoxC w g n A k c) (hb : Below B w w') (hB : g < B) : BoxC w' g n A k c :=
  ⟨Nat.lt_of_lt_of_le h.1 hb.size, (hb.cell (p := ⟨g, 0, none⟩) hB).trans h.2.1, (hb.cell (p := ⟨g, 1, none⟩) hB).trans h.2.2⟩
theorem BoxC.new (w : World) (n : Int) (A : Option Addr) (k c : Nat) (t : TypeId) : BoxC (w.alloc (.cells #[.int .i64 n, .slice A k c] t)) w.heap.size n A k c := ⟨by simp, by simp [go_sem], by simp [go_sem]⟩
theorem BoxC.save {S : Nat → Prop} {w w' : World} {g : Nat} {n : Int} {A : Option Addr} {k c : Nat} (h : BoxC w g n A k c) (hs : Save S w w') (hg : ¬ S g) : BoxC w' g n A k c := by
  have hb := hs.block g h.1 hg
  refine ⟨Nat.lt_of_lt_of_le h.1 hs.size, ?_, ?_⟩
  · rw [← h.2.1]; simp only [World.cell?, hb]
  · rw [← h.2.2]; simp only [World.cell?, hb]

set_option maxHeartbeats 1000000 in
theorem szChart_any (n : Int) (A : Option Addr) (ls : List Li) (c : Nat) (L : Int) (w : World) (hr : Lls w w.heap.size A ls) (hn : ls.length ≤ maxLen) (hu : ∀ u ∈ ls, u.r.length ≤ maxLen) (h0 : 0 ≤ L) (h1 : L ≤ 1048576) :
    Calls Tryd.prog 46 #[.agg #[.int .i64 n, .slice A ls.length c], .int .i64 L] w fun e w' => e = .returned (.int .i64 (szLs (sayL ls) L)) ∧ Below w.heap.size w w' := by
  have HR := Lib.hid hr; clear hr
  have HU := Lib.hid hu; clear hu
  go_enter Tryd.func46, Tryd.ntmps46
  go_wp2_with fail
  have hB0 : Below w.heap.size w (w.alloc (.cells #[.int .i64 n, .slice A ls.length c] 68)) := by go_grown
  generalize (w.alloc (.cells #[.int .i64 n, .slice A ls.length c] 68)) = W at hB0 ⊢
  have HB0 := Lib.hid hB0; clear hB0
  have g1 := szLs_ge (sayL ls) (L := L) (by omega)
  refine (szIntSS_any _ _ _ _ _ ((HR.out.keep HB0.out).more HB0.out.size) hn HU.out h0 h1).mono ?_
  rintro e w1 ⟨rfl, hB1⟩
  have HB1 := Lib.hid (HB0.out.trans (hB1.mono HB0.out.size)); clear hB1 HB0
  by_cases h : szLs (sayL ls) L < 0
  · have HE : Hid (szLs (sayL ls) L = -1) := by show _ = _; omega
    go_wp2
    go_ret
    exact ⟨ret_int HE.out.symm, HB1.out⟩
  · go_wp2
    go_ret
    exact ⟨rfl, HB1.out⟩

set_option maxHeartbeats 1000000 in
theorem eqChart_any (n m : Int) (A A' : Option Addr) (rs ss : List Li) (c c' : Nat) (w : World) (hx : Lls w w.heap.size A rs) (hy : Lls w w.heap.size A' ss) (h1 : rs.length ≤ 1048576) (h2 : ∀ u ∈ rs, u.r.length ≤ 1048576) (hnm : n = m) (heq : sayL rs = sayL ss) :
    Calls Tryd.prog 42 #[.agg #[.int .i64 n, .slice A rs.length c], .agg #[.int .i64 m, .slice A' ss.length c']] w fun e w' => e = .returned (.bool true) ∧ Below w.heap.size w w' := by
  have HX := Lib.hid hx; clear hx
  have HY := Lib.hid hy; clear hy
  have HU := Lib.hid h2; clear h2
  have e1 : (n != m) = false := bne_f hnm
  have E3 : Hid (eqLs (sayL rs) (sayL ss) = true) := eqLs_t heq
  clear heq hnm
  go_enter Tryd.func42, Tryd.ntmps42
  go_wp2_with fail
  have hB0 : Below w.heap.size w ((w.alloc (.cells #[.int .i64 n, .slice A rs.length c] 27)).alloc (.cells #[.int .i64 m, .slice A' ss.length c'] 27)) := by go_grown
  generalize ((w.alloc (.cells #[.int .i64 n, .slice A rs.length c] 27)).alloc (.cells #[.int .i64 m, .slice A' ss.length c'] 27)) = W at hB0 ⊢
  have HB0 := Lib.hid hB0; clear hB0
  refine (eqIntSS_any _ _ _ _ _ _ _ ((HX.out.keep HB0.out).more HB0.out.size) ((HY.out.keep HB0.out).more HB0.out.size) h1 HU.out).mono ?_
  rintro e w1 ⟨rfl, hB1⟩
  rw [E3.out]
  have HB1 := Lib.hid (HB0.out.trans (hB1.mono HB0.out.size)); clear hB1 HB0
  go_wp2
  go_ret
  exact ⟨rfl, HB1.out⟩

/-- A chart's copy: it says the same, its lists are the call's own; nothing older has turned. -/
def GaveC (w : World) (n : Int) (xs : List (List Int)) (e : Ending) (w' : World) : Prop :=
  ∃ A ls c, e = .returned (.agg #[.int .i64 n, .slice A ls.length c]) ∧ sayL ls = xs ∧ OwnL w' w.heap.size A ls ∧ ls.length ≤ c ∧ Below w.heap.size w w'

set_option maxHeartbeats 1000000 in
theorem toChart_any (n : Int) (A : Option Addr) (ls : List Li) (c : Nat) (w : World) (hr : Lls w w.heap.size A ls) (hn : ls.length ≤ 1048576) (hu : ∀ u ∈ ls, u.r.length ≤ 1048576) :
    Calls Tryd.prog 49 #[.agg #[.int .i64 n, .slice A ls.length c]] w (GaveC w n (sayL ls)) := by
  have HR := Lib.hid hr; clear hr
  have HU := Lib.hid hu; clear hu
  go_enter Tryd.func49, Tryd.ntmps49
  go_wp2_with fail
  have hB0 : Below w.heap.size w (((w.alloc (.cells #[.int .i64 n, .slice A ls.length c] 68)).alloc (.cells #[.int .i64 0, .slice none 0 0] 27)).alloc (.cells #[.int .i64 n, .slice none 0 0] 27)) := by go_grown
  have hz0 : (((w.alloc (.cells #[.int .i64 n, .slice A ls.length c] 68)).alloc (.cells #[.int .i64 0, .slice none 0 0] 27)).alloc (.cells #[.int .i64 n, .slice none 0 0] 27)).heap.size = w.heap.size + 3 := by simp
  have Rr : Row (((w.alloc (.cells #[.int .i64 n, .slice A ls.length c] 68)).alloc (.cells #[.int .i64 0, .slice none 0 0] 27)).alloc (.cells #[.int .i64 n, .slice none 0 0] 27)) (w.heap.size + 1) 27 #[.int .i64 0, .slice none 0 0] := by
    have h := Row.new (w.alloc (.cells #[.int .i64 n, .slice A ls.length c] 68)) 27 #[.int .i64 0, .slice none 0 0]
    rw [World.size_alloc] at h; exact h.alloc _
  have Ro : Row (((w.alloc (.cells #[.int .i64 n, .slice A ls.length c] 68)).alloc (.cells #[.int .i64 0, .slice none 0 0] 27)).alloc (.cells #[.int .i64 n, .slice none 0 0] 27)) (w.heap.size + 1 + 1) 27 #[.int .i64 n, .slice none 0 0] := by
    have h := Row.new ((w.alloc (.cells #[.int .i64 n, .slice A ls.length c] 68)).alloc (.cells #[.int .i64 0, .slice none 0 0] 27)) 27 #[.int .i64 n, .slice none 0 0]
    rw [World.size_alloc, World.size_alloc] at h; exact h
  generalize (((w.alloc (.cells #[.int .i64 n, .slice A ls.length c] 68)).alloc (.cells #[.int .i64 0, .slice none 0 0] 27)).alloc (.cells #[.int .i64 n, .slice none 0 0] 27)) = W at hB0 hz0 Rr Ro ⊢
  have HB0 := Lib.hid hB0; clear hB0
  have HZ0 : Hid (w.heap.size + 3 ≤ W.heap.size) := by show _ ≤ _; omega
  clear hz0
  have HRr0 := Lib.hid Rr; clear Rr
  have HRo0 := Lib.hid Ro; clear Ro
  refine (toIntSS_any _ _ _ _ ((HR.out.keep HB0.out).more HB0.out.size) hn HU.out).mono ?_
  rintro e w4 ⟨A4, c4, l4, rfl, k4, o4, s4, hB4⟩
  have HO4 : Hid (OwnL w4 (w.heap.size + 3) A4 l4) := o4.lower HZ0.out
  have HZ4' : Hid (w.heap.size + 3 ≤ w4.heap.size) := Nat.le_trans HZ0.out hB4.size
  have HRr4' := Lib.hid (HRr0.out.below hB4 HRr0.out.lt)
  have HRo4' := Lib.hid (HRo0.out.below hB4 HRo0.out.lt)
  have HB4' := Lib.hid (HB0.out.trans (hB4.mono HB0.out.size)); clear hB4 HRr0 HRo0 HB0 o4
  have K4 := Lib.hid k4; clear k4
  have S4 := Lib.hid s4; clear s4
  have x0 := HRo4'.out.cell 0
  have x1 := HRo4'.out.cell 1
  have y1 := HRo4'.out.frozen 1
  have r0 := HRr4'.out.cell 0
  have r1 := HRr4'.out.cell 1
  have q0 := HRr4'.out.frozen 0
  have q1 := HRr4'.out.frozen 1
  simp only [List.getElem?_toArray, List.getElem?_cons_succ, List.getElem?_cons_zero] at x0 x1 r0 r1
  go_wp2_with fail
  refine bodyPost_ret (v := .agg #[.int .i64 n, .slice A4 l4.length c4]) (by simp [results, Tryd.results49, go_sem, r0, r1]) rfl ⟨A4, l4, c4, rfl, S4.out, ?_, K4.out, ?_⟩
  · exact (((HO4.out.low (by simp) _).low (by simp) _).low (by simp) _).lower (by omega)
  · exact ((HB4'.out.setCell (by simp; omega) _).setCell (by simp) _).setCell (by simp) _

/-- A chart's lists marked from k on. -/
def MarkedC (w : World) (lo : Nat) (A : Option Addr) (ls : List Li) (k : Int) (e : Ending) (w' : World) : Prop :=
  e = .returned (.int .i64 (k + (lcnt ls ls.length : Int))) ∧ OwnL w' lo A (markM k ls ls.length) ∧ Save (ItsL A ls) w w'

set_option maxHeartbeats 1000000 in
theorem markChart_any (n : Int) (A : Option Addr) (ls : List Li) (c lo : Nat) (k : Int) (w : World) (h : OwnL w lo A ls) (hn : ls.length ≤ 1048576) (hu : ∀ u ∈ ls, u.r.length ≤ 1048576) (hk : 0 ≤ k) (hk' : k ≤ 2199030000000) :
    Calls Tryd.prog 43 #[.agg #[.int .i64 n, .slice A ls.length c], .int .i64 k] w (MarkedC w lo A ls k) := by
  have HO := Lib.hid h; clear h
  have HU := Lib.hid hu; clear hu
  have HBX : Hid (Below w.heap.size w (w.alloc (.cells #[.int .i64 n, .slice A ls.length c] 27))) := by show Below _ _ _; go_grown
  have HO0 := Lib.hid (HO.out.below HBX.out (Nat.le_refl _))
  go_enter Tryd.func43, Tryd.ntmps43
  go_wp2_with fail
  generalize (w.alloc (.cells #[.int .i64 n, .slice A ls.length c] 27)) = W at HBX HO0 ⊢
  refine (markIntSS_any _ _ _ lo _ _ HO0.out hn HU.out hk (by omega)).mono ?_
  rintro e w1 ⟨rfl, hP, hS1⟩
  have HP := Lib.hid hP; clear hP
  have HS1 : Hid (Save (ItsL A ls) w w1) := (Save.of_below HBX.out).trans hS1
  clear hS1 HO0
  go_wp2
  go_ret
  exact ⟨rfl, HP.out, HS1.out⟩

set_option maxHeartbeats 1000000 in
theorem heldChart_any (n : Int) (A : Option Addr) (ls : List Li) (c : Nat) (k : Int) (w : World) (h : Lls w w.heap.size A (markM k ls ls.length)) (hn : ls.length ≤ 1048576) (hu : ∀ u ∈ ls, u.r.length ≤ 1048576) (hk : 0 ≤ k) (hk' : k ≤ 2199030000000) (hcn : lcnt ls ls.length ≤ 4398046511104) :
    Calls Tryd.prog 44 #[.agg #[.int .i64 n, .slice A ls.length c], .int .i64 k] w fun e w' => e = .returned (.int .i64 (k + (lcnt ls ls.length : Int))) ∧ Below w.heap.size w w' := by
  have HO := Lib.hid h; clear h
  have HU := Lib.hid hu; clear hu
  have HBX : Hid (Below w.heap.size w (w.alloc (.cells #[.int .i64 n, .slice A ls.length c] 27))) := by show Below _ _ _; go_grown
  go_enter Tryd.func44, Tryd.ntmps44
  go_wp2_with fail
  generalize (w.alloc (.cells #[.int .i64 n, .slice A ls.length c] 27)) = W at HBX ⊢
  refine (heldIntSS_any _ _ _ _ _ ((HO.out.keep HBX.out).more HBX.out.size) hn HU.out hk hk').mono ?_
  rintro e w1 ⟨rfl, hB1⟩
  have HB1 := Lib.hid (HBX.out.trans (hB1.mono HBX.out.size)); clear hB1 HBX
  go_wp2
  go_ret
  exact ⟨rfl, HB1.out⟩

end Go.Proofs.YtaobkanliiiapaaDoor

/- Plain mathematics: the numbers of a chart's cells. -/

namespace Go.Proofs.YtaobkanliiiapaaDoor
open Go.RowKit

/-- How many cells there are with at most k tokens, of n. -/
def shortN (n : Int) : Nat → Int
  | 0 => 0
  | k + 1 => shortN n k + (n - k)
/-- The number of the cell from f to t. -/
def noC (n f t : Int) : Int := f + shortN n (t - f - 1).toNat
/-- n, f and t are as said. -/
def spanB (n f t : Int) : Bool := decide ((0 ≤ n ∧ n ≤ 10) ∧ (0 ≤ f ∧ f < t ∧ t ≤ n))
theorem spanB_t {n f t : Int} (h0 : 0 ≤ n) (h1 : n ≤ 10) (h2 : 0 ≤ f) (h3 : f < t) (h4 : t ≤ n) : spanB n f t = true := decide_eq_true ⟨⟨h0, h1⟩, h2, h3, h4⟩
theorem spanB_is {n f t : Int} (h : spanB n f t = true) : (0 ≤ n ∧ n ≤ 10) ∧ (0 ≤ f ∧ f < t ∧ t ≤ n) := of_decide_eq_true h
theorem spanB_f {n f t : Int} (h : ¬ ((0 ≤ n ∧ n ≤ 10) ∧ (0 ≤ f ∧ f < t ∧ t ≤ n))) : spanB n f t = false := decide_eq_false h

theorem shortN_two (n : Int) : ∀ k : Nat, 2 * shortN n k = k * (2 * n - k + 1)
  | 0 => by simp [shortN]
  | k + 1 => by
    have h := shortN_two n k
    rw [shortN, Int.mul_add, h]
    push_cast
    have e1 : (k : Int) * (2 * n - k + 1) + 2 * (n - k) = ((k : Int) + 1) * (2 * n - ((k : Int) + 1) + 1) := by
      have : (k : Int) * (2 * n - k + 1) = 2 * (k * n) - k * k + k := by
        rw [Int.mul_add, Int.mul_sub]; simp [Int.mul_left_comm]
      have h2 : ((k : Int) + 1) * (2 * n - ((k : Int) + 1) + 1) = 2 * (k * n) - k * k + 2 * n - k := by
        rw [Int.add_mul, show 2 * n - ((k : Int) + 1) + 1 = 2 * n - k by omega, Int.mul_sub, Int.one_mul]
        rw [show (k : Int) * (2 * n) = 2 * (k * n) by simp [Int.mul_left_comm]]
        omega
      omega
    exact e1
theorem shortN_bound {n : Int} {k : Nat} (h0 : 0 ≤ n) (h1 : n ≤ 10) (h2 : (k : Int) ≤ n) : 0 ≤ shortN n k ∧ shortN n k ≤ 100 := by
  have h : ∀ j : Nat, (j : Int) ≤ n → 0 ≤ shortN n j ∧ shortN n j ≤ 10 * j := by
    intro j
    induction j with
    | zero => intro _; simp [shortN]
    | succ j ih => intro hj; have := ih (by omega); rw [shortN]; push_cast; omega
  have := h k h2
  omega
end Go.Proofs.YtaobkanliiiapaaDoor

/- Plain mathematics: good charts, their cells. -/

namespace Go.Proofs.YtaobkanliiiapaaDoor
open Go.RowKit

theorem shortN_le {n : Int} {i : Nat} : ∀ {j : Nat}, i ≤ j → (j : Int) ≤ n → shortN n i ≤ shortN n j
  | 0, h, _ => by rw [show i = 0 by omega]; exact Int.le_refl _
  | j + 1, h, hn => by
    by_cases e : i = j + 1
    · rw [e]; exact Int.le_refl _
    · have := shortN_le (n := n) (show i ≤ j by omega) (by omega)
      rw [shortN]; push_cast at hn; omega
theorem shortN_all {n : Nat} : 2 * shortN n n = (n : Int) * (n + 1) := by
  rw [shortN_two]; congr 1; omega
/-- A cell's number is one of the chart's. -/
theorem noC_lt {n f t : Int} {m : Nat} (h : spanB n f t = true) (hm : 2 * (m : Int) = n * (n + 1)) : 0 ≤ noC n f t ∧ noC n f t < m := by
  obtain ⟨⟨h0, h1⟩, h2, h3, h4⟩ := spanB_is h
  obtain ⟨k, rfl⟩ := Int.eq_ofNat_of_zero_le h0
  have e1 : shortN (k : Int) ((t - f - 1).toNat + 1) ≤ shortN (k : Int) k := shortN_le (by omega) (Int.le_refl _)
  have e2 : shortN (k : Int) ((t - f - 1).toNat + 1) = shortN (k : Int) (t - f - 1).toNat + (k - (t - f - 1).toNat) := rfl
  have e3 := shortN_all (n := k)
  have e4 := shortN_bound (n := (k : Int)) (k := (t - f - 1).toNat) h0 h1 (by omega)
  unfold noC
  omega

/-- A chart is good. -/
def GoodC (n : Int) (xs : List (List Int)) : Prop := (0 ≤ n ∧ n ≤ 10) ∧ 2 * (xs.length : Int) = n * (n + 1) ∧ ∀ l ∈ xs, GoodE 40 l
/-- The cell from f to t. -/
def atC (xs : List (List Int)) (n f t : Int) : List Int := xs.getD (noC n f t).toNat []
theorem atC_at {ls : List Li} {n f t : Int} {k : Nat} (hk : k < ls.length) (e : noC n f t = k) : atC (sayL ls) n f t = ls[k].r := by
  unfold atC
  rw [e, Int.toNat_natCast, List.getD_eq_getElem?_getD, sayL_at hk]
  rfl

/-- The lists up to the k-th are rising numbers of nonterminals. -/
def CellsTo (xs : List (List Int)) (k : Nat) : Prop := ∀ (j : Nat) (l : List Int), j < k → xs[j]? = some l → GoodE 40 l
theorem CellsTo.all {xs : List (List Int)} (h : CellsTo xs xs.length) : ∀ l ∈ xs, GoodE 40 l := fun l hl => by
  obtain ⟨j, hj⟩ := List.mem_iff_getElem?.1 hl
  exact h j l (List.getElem?_eq_some_iff.1 hj).1 hj
theorem n11 {n : Int} (h0 : 0 ≤ n) (h1 : n ≤ 10) : n = 0 ∨ n = 1 ∨ n = 2 ∨ n = 3 ∨ n = 4 ∨ n = 5 ∨ n = 6 ∨ n = 7 ∨ n = 8 ∨ n = 9 ∨ n = 10 := by omega
/-- How many cells there are. -/
def cntC (n : Int) : Int := n * (n + 1) / 2
theorem cntC_two {n : Int} (h0 : 0 ≤ n) (h1 : n ≤ 10) : 2 * cntC n = n * (n + 1) := by
  rcases n11 h0 h1 with rfl | rfl | rfl | rfl | rfl | rfl | rfl | rfl | rfl | rfl | rfl <;> decide
theorem cntC_bound {n : Int} (h0 : 0 ≤ n) (h1 : n ≤ 10) : 0 ≤ cntC n ∧ cntC n ≤ 55 := by
  rcases n11 h0 h1 with rfl | rfl | rfl | rfl | rfl | rfl | rfl | rfl | rfl | rfl | rfl <;> decide
end Go.Proofs.YtaobkanliiiapaaDoor

/- The number of a cell: program and reference. -/

namespace Go.Proofs.YtaobkanliiiapaaDoor
open Go.RowKit

theorem isCell_any (n f t : Int) (w : World) (hL : Lims w) :
    Calls Tryd.prog 62 #[.int .i64 n, .int .i64 f, .int .i64 t] w fun e w' => e = .returned (.bool (spanB n f t)) ∧ Below w.heap.size w w' := by
  have HL := Lib.hid hL; clear hL
  go_enter Tryd.func62, Tryd.ntmps62
  go_wp2_with (first
    | (go_at_call 57
       refine (within4 n w HL.out).mono ?_
       rintro e w1 ⟨rfl, hB⟩
       have HB := Lib.hid hB
       clear hB))
  all_goals
    go_ret
    refine ⟨ret_b ?_, HB.out⟩
    first
      | exact (spanB_f (fun h => by have h1 := h.1; have h2 := h.2; first | omega | exact absurd (inB_t h1.1 h1.2) ‹_›)).symm
      | exact decide_eq_decide.2 ⟨fun h => ⟨⟨inB_lo ‹_›, inB_hi ‹_›⟩, ‹_›, ‹_›, h⟩, fun h => h.2.2.2⟩

theorem cellNo_any (n f t : Int) (w : World) (h : spanB n f t = true) :
    Calls Tryd.prog 63 #[.int .i64 n, .int .i64 f, .int .i64 t] w fun e w' => e = .returned (.int .i64 (noC n f t)) ∧ w' = w := by
  obtain ⟨⟨h0, h1⟩, h2, h3, h4⟩ := spanB_is h
  clear h
  go_enter Tryd.func63, Tryd.ntmps63
  go_wp2
  go_loopw [7, 8] (fun a b wr => ∃ k : Nat, (k : Int) + 1 ≤ t - f ∧ a = .int .i64 (f + shortN n k) ∧ b = .int .i64 ((k : Int) + 1) ∧ wr = w) (fun _ b _ => (t - f - intOf b).toNat)
  case atStart => exact ⟨0, by omega, by simp [shortN], by simp, rfl⟩
  case round =>
    obtain ⟨k, hk, rfl, rfl, rfl⟩ := hrel
    have hb := shortN_bound (n := n) (k := k) h0 h1 (by omega)
    by_cases hlt : (k : Int) + 1 < t - f
    · go_wp2
      go_roundw
      case rel => exact ⟨k + 1, by omega, by rw [shortN]; congr 1; omega, by push_cast; rfl, trivial⟩
      case measure => simp [intOf]; omega
    · have he : (t - f - 1).toNat = k := by omega
      have HE : Hid (f + shortN n k = noC n f t) := by show _ = _; unfold noC; rw [he]
      go_wp2
      go_ret
      exact ⟨ret_int HE.out, rfl⟩

theorem l7Span_any (n f t : Int) (w : World) :
    Calls Tryd.prog 65 #[.int .i64 n, .int .i64 f, .int .i64 t] w fun e w' => e = .returned (.bool (spanB n f t)) ∧ w' = w := by
  cases h1 : inB 0 10 n
  · have HE : Hid (spanB n f t = false) := spanB_f fun h => by have h2 := inB_t h.1.1 h.1.2; rw [h1] at h2; cases h2
    go_enter Tryd.func65, Tryd.ntmps65
    go_wp2_with (go_at_call 59; refine (l1In_any _ _ _ _).mono ?_; rintro e w' ⟨rfl, rfl⟩; rw [h1])
    go_ret
    exact ⟨ret_b HE.out.symm, rfl⟩
  · have hn0 := inB_lo h1
    have hn1 := inB_hi h1
    cases h2 : inB 0 (n - 1) f
    · have HE : Hid (spanB n f t = false) := spanB_f fun h => by have h3 := inB_t (lo := 0) (hi := n - 1) (n := f) h.2.1 (by omega); rw [h2] at h3; cases h3
      go_enter Tryd.func65, Tryd.ntmps65
      go_wp2_with (go_at_call 59; refine (l1In_any _ _ _ _).mono ?_; rintro e w' ⟨rfl, rfl⟩; first | rw [h1] | rw [h2])
      go_ret
      exact ⟨ret_b HE.out.symm, rfl⟩
    · have hf0 := inB_lo h2
      have hf1 := inB_hi h2
      have HE : Hid (spanB n f t = inB (f + 1) n t) := decide_eq_decide.2 ⟨fun h => ⟨by omega, h.2.2.2⟩, fun h => ⟨⟨hn0, hn1⟩, by omega, by omega, h.2⟩⟩
      go_enter Tryd.func65, Tryd.ntmps65
      go_wp2_with (go_at_call 59; refine (l1In_any _ _ _ _).mono ?_; rintro e w' ⟨rfl, rfl⟩; first | rw [h1] | rw [h2] | skip)
      go_ret
      exact ⟨ret_b HE.out.symm, rfl⟩

theorem l7No_any (n f t : Int) (w : World) (h : spanB n f t = true) :
    Calls Tryd.prog 66 #[.int .i64 n, .int .i64 f, .int .i64 t] w fun e w' => e = .returned (.int .i64 (noC n f t)) ∧ w' = w := by
  obtain ⟨⟨h0, h1⟩, h2, h3, h4⟩ := spanB_is h
  clear h
  go_enter Tryd.func66, Tryd.ntmps66
  go_wp2
  go_loopw [8, 9] (fun a b wr => ∃ k : Nat, (k : Int) + 1 ≤ t - f ∧ a = .int .i64 (f + shortN n k) ∧ b = .int .i64 ((k : Int) + 1) ∧ wr = w) (fun _ b _ => (t - f - intOf b).toNat)
  case atStart => exact ⟨0, by omega, by simp [shortN], by simp, rfl⟩
  case round =>
    obtain ⟨k, hk, rfl, rfl, rfl⟩ := hrel
    have hb := shortN_bound (n := n) (k := k) h0 h1 (by omega)
    by_cases hlt : (k : Int) + 1 < t - f
    · go_wp2
      go_roundw
      case rel => exact ⟨k + 1, by omega, by rw [shortN]; congr 1; omega, by push_cast; rfl, trivial⟩
      case measure => simp [intOf]; omega
    · have he : (t - f - 1).toNat = k := by omega
      have HE : Hid (f + shortN n k = noC n f t) := by show _ = _; unfold noC; rw [he]
      go_wp2
      go_ret
      exact ⟨ret_int HE.out, rfl⟩

/-- What CellNo answers. -/
def noV (n f t : Int) : Int := if spanB n f t then noC n f t else 0

theorem implCellNo_any (n f t : Int) (w : World) (hL : Lims w) :
    Calls Tryd.prog 18 #[.int .i64 n, .int .i64 f, .int .i64 t] w fun e w' => e = .returned (.tuple #[.int .i64 (noV n f t), .bool (spanB n f t)]) ∧ Below w.heap.size w w' := by
  have HL := Lib.hid hL; clear hL
  have HC := Lib.hid (isCell_any n f t w HL.out)
  cases h : spanB n f t
  · have HV : Hid (noV n f t = 0) := by show _ = _; unfold noV; rw [h]; rfl
    go_enter Tryd.func18, Tryd.ntmps18
    go_wp2_with (go_at_call 62; refine HC.out.mono ?_; rintro e w1 ⟨rfl, hB⟩; rw [h]; have HB := Lib.hid hB; clear hB)
    go_ret2
    exact ⟨by rw [HV.out]; rfl, HB.out⟩
  · have HV : Hid (noV n f t = noC n f t) := by show _ = _; unfold noV; rw [h]; rfl
    go_enter Tryd.func18, Tryd.ntmps18
    go_wp2_with (first
      | (go_at_call 62; refine HC.out.mono ?_; rintro e w1 ⟨rfl, hB⟩; rw [h]; have HB := Lib.hid hB; clear hB)
      | (go_at_call 63; refine (cellNo_any n f t _ h).mono ?_; rintro e w2 ⟨rfl, rfl⟩))
    go_ret2
    exact ⟨by rw [HV.out]; rfl, HB.out⟩

theorem specCellNo_any (n f t : Int) (w : World) :
    Calls Tryd.prog 20 #[.int .i64 n, .int .i64 f, .int .i64 t] w fun e w' => e = .returned (.tuple #[.int .i64 (noV n f t), .bool (spanB n f t)]) ∧ w' = w := by
  cases h : spanB n f t
  · have HV : Hid (noV n f t = 0) := by show _ = _; unfold noV; rw [h]; rfl
    go_enter Tryd.func20, Tryd.ntmps20
    go_wp2_with (go_at_call 65; refine (l7Span_any _ _ _ _).mono ?_; rintro e w1 ⟨rfl, rfl⟩; rw [h])
    go_ret2
    exact ⟨by rw [HV.out]; rfl, rfl⟩
  · have HV : Hid (noV n f t = noC n f t) := by show _ = _; unfold noV; rw [h]; rfl
    go_enter Tryd.func20, Tryd.ntmps20
    go_wp2_with (first
      | (go_at_call 65; refine (l7Span_any _ _ _ _).mono ?_; rintro e w1 ⟨rfl, rfl⟩; rw [h])
      | (go_at_call 66; refine (l7No_any n f t _ h).mono ?_; rintro e w2 ⟨rfl, rfl⟩))
    go_ret2
    exact ⟨by rw [HV.out]; rfl, rfl⟩

end Go.Proofs.YtaobkanliiiapaaDoor
