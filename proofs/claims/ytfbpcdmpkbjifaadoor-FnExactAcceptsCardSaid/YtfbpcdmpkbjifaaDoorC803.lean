/- A copy of a binary grammar, whose four lists lie apart; what the laws' marks write into a binary grammar, and what they find again. -/
import Derived.Test.YtfbpcdmpkbjifaaDoorC802
import Derived.Test.YtfbpcdmpkbjifaaDoorC801
import Derived.Deep.RegionHeld3
import Derived.Maps.AppendAt
import Derived.Laws.CopyOwn
import Derived.Deep.OwnRows

namespace Go.Proofs.YtfbpcdmpkbjifaaDoor
open Go.RowKit

/-- The four lists of a binary grammar lie in blocks of their own. -/
structure ApartB (b : Bi) : Prop where
  po : ∀ q, ItsL b.Ap b.P q → ¬ ItsL b.Ao b.O q
  pe : ∀ q, ItsL b.Ap b.P q → ¬ Its b.Ae b.E q
  pf : ∀ q, ItsL b.Ap b.P q → ¬ ItsL b.Af b.F q
  oe : ∀ q, ItsL b.Ao b.O q → ¬ Its b.Ae b.E q
  of : ∀ q, ItsL b.Ao b.O q → ¬ ItsL b.Af b.F q
  ef : ∀ q, Its b.Ae b.E q → ¬ ItsL b.Af b.F q

/-- A binary grammar's copy: it says the same, its lists lie apart; nothing older has turned. -/
def GaveBA (w : World) (s : Bs) (e : Ending) (w' : World) : Prop :=
  ∃ b : Bi, e = .returned (.agg #[.int .i64 b.n, .int .i64 b.t, .slice b.Ap b.P.length b.cp, .slice b.Ao b.O.length b.co, .slice b.Ae b.E.length b.ce, .slice b.Af b.F.length b.cf]) ∧ b.say = s ∧ OwnB w' w.heap.size b ∧ CapB b ∧ Below w.heap.size w w' ∧ ApartB b

set_option maxHeartbeats 1000000 in
theorem toBinaryA_any (b : Bi) (w : World) (hr : ReadB w w.heap.size b) (hm : LenB 1048576 b) :
    Calls Tryd.prog 35 #[(.agg #[.int .i64 b.n, .int .i64 b.t, .slice b.Ap b.P.length b.cp, .slice b.Ao b.O.length b.co, .slice b.Ae b.E.length b.ce, .slice b.Af b.F.length b.cf])] w (GaveBA w b.say) := by
  have HR := Lib.hid hr; clear hr
  have HM := Lib.hid hm; clear hm
  go_enter Tryd.func35, Tryd.ntmps35
  go_wp2_with fail
  have hB0 : Below w.heap.size w (((w.alloc (.cells #[.int .i64 b.n, .int .i64 b.t, .slice b.Ap b.P.length b.cp, .slice b.Ao b.O.length b.co, .slice b.Ae b.E.length b.ce, .slice b.Af b.F.length b.cf] 49)).alloc (.cells #[.int .i64 0, .int .i64 0, .slice none 0 0, .slice none 0 0, .slice none 0 0, .slice none 0 0] 55)).alloc (.cells #[.int .i64 b.n, .int .i64 b.t, .slice none 0 0, .slice none 0 0, .slice none 0 0, .slice none 0 0] 55)) := by go_grown
  have hz0 : (((w.alloc (.cells #[.int .i64 b.n, .int .i64 b.t, .slice b.Ap b.P.length b.cp, .slice b.Ao b.O.length b.co, .slice b.Ae b.E.length b.ce, .slice b.Af b.F.length b.cf] 49)).alloc (.cells #[.int .i64 0, .int .i64 0, .slice none 0 0, .slice none 0 0, .slice none 0 0, .slice none 0 0] 55)).alloc (.cells #[.int .i64 b.n, .int .i64 b.t, .slice none 0 0, .slice none 0 0, .slice none 0 0, .slice none 0 0] 55)).heap.size = w.heap.size + 3 := by simp
  have Ra : Row (((w.alloc (.cells #[.int .i64 b.n, .int .i64 b.t, .slice b.Ap b.P.length b.cp, .slice b.Ao b.O.length b.co, .slice b.Ae b.E.length b.ce, .slice b.Af b.F.length b.cf] 49)).alloc (.cells #[.int .i64 0, .int .i64 0, .slice none 0 0, .slice none 0 0, .slice none 0 0, .slice none 0 0] 55)).alloc (.cells #[.int .i64 b.n, .int .i64 b.t, .slice none 0 0, .slice none 0 0, .slice none 0 0, .slice none 0 0] 55)) w.heap.size 49 #[.int .i64 b.n, .int .i64 b.t, .slice b.Ap b.P.length b.cp, .slice b.Ao b.O.length b.co, .slice b.Ae b.E.length b.ce, .slice b.Af b.F.length b.cf] := ((Row.new _ _ _).alloc _).alloc _
  have Rr : Row (((w.alloc (.cells #[.int .i64 b.n, .int .i64 b.t, .slice b.Ap b.P.length b.cp, .slice b.Ao b.O.length b.co, .slice b.Ae b.E.length b.ce, .slice b.Af b.F.length b.cf] 49)).alloc (.cells #[.int .i64 0, .int .i64 0, .slice none 0 0, .slice none 0 0, .slice none 0 0, .slice none 0 0] 55)).alloc (.cells #[.int .i64 b.n, .int .i64 b.t, .slice none 0 0, .slice none 0 0, .slice none 0 0, .slice none 0 0] 55)) (w.heap.size + 1) 55 #[.int .i64 0, .int .i64 0, .slice none 0 0, .slice none 0 0, .slice none 0 0, .slice none 0 0] := by
    have h := Row.new (w.alloc (.cells #[.int .i64 b.n, .int .i64 b.t, .slice b.Ap b.P.length b.cp, .slice b.Ao b.O.length b.co, .slice b.Ae b.E.length b.ce, .slice b.Af b.F.length b.cf] 49)) 55 #[.int .i64 0, .int .i64 0, .slice none 0 0, .slice none 0 0, .slice none 0 0, .slice none 0 0]
    rw [World.size_alloc] at h; exact h.alloc _
  have Ro : Row (((w.alloc (.cells #[.int .i64 b.n, .int .i64 b.t, .slice b.Ap b.P.length b.cp, .slice b.Ao b.O.length b.co, .slice b.Ae b.E.length b.ce, .slice b.Af b.F.length b.cf] 49)).alloc (.cells #[.int .i64 0, .int .i64 0, .slice none 0 0, .slice none 0 0, .slice none 0 0, .slice none 0 0] 55)).alloc (.cells #[.int .i64 b.n, .int .i64 b.t, .slice none 0 0, .slice none 0 0, .slice none 0 0, .slice none 0 0] 55)) (w.heap.size + 1 + 1) 55 #[.int .i64 b.n, .int .i64 b.t, .slice none 0 0, .slice none 0 0, .slice none 0 0, .slice none 0 0] := by
    have h := Row.new ((w.alloc (.cells #[.int .i64 b.n, .int .i64 b.t, .slice b.Ap b.P.length b.cp, .slice b.Ao b.O.length b.co, .slice b.Ae b.E.length b.ce, .slice b.Af b.F.length b.cf] 49)).alloc (.cells #[.int .i64 0, .int .i64 0, .slice none 0 0, .slice none 0 0, .slice none 0 0, .slice none 0 0] 55)) 55 #[.int .i64 b.n, .int .i64 b.t, .slice none 0 0, .slice none 0 0, .slice none 0 0, .slice none 0 0]
    rw [World.size_alloc, World.size_alloc] at h; exact h
  generalize (((w.alloc (.cells #[.int .i64 b.n, .int .i64 b.t, .slice b.Ap b.P.length b.cp, .slice b.Ao b.O.length b.co, .slice b.Ae b.E.length b.ce, .slice b.Af b.F.length b.cf] 49)).alloc (.cells #[.int .i64 0, .int .i64 0, .slice none 0 0, .slice none 0 0, .slice none 0 0, .slice none 0 0] 55)).alloc (.cells #[.int .i64 b.n, .int .i64 b.t, .slice none 0 0, .slice none 0 0, .slice none 0 0, .slice none 0 0] 55)) = W at hB0 hz0 Ra Rr Ro ⊢
  have HB0 := Lib.hid hB0; clear hB0
  have HZ0 : Hid (w.heap.size + 3 ≤ W.heap.size) := by show _ ≤ _; omega
  clear hz0
  have HRa0 := Lib.hid Ra; clear Ra
  have HRr0 := Lib.hid Rr; clear Rr
  have HRo0 := Lib.hid Ro; clear Ro
  refine (toIntSS_any _ _ _ _ ((HR.out.1.keep HB0.out).more HB0.out.size) HM.out.p HM.out.ps).mono ?_
  rintro e w1 ⟨A1, c1, l1, rfl, k1, o1, s1, hB1⟩
  have HU1 : Hid (∀ q, ItsL A1 l1 q → q < w1.heap.size) := fun q hq => (o1.its hq).2
  have HO1 : Hid (OwnL w1 (w.heap.size + 3) A1 l1) := o1.lower HZ0.out
  have HZ1' : Hid (w.heap.size + 3 ≤ w1.heap.size) := Nat.le_trans HZ0.out hB1.size
  have HRa1' := Lib.hid (HRa0.out.below hB1 HRa0.out.lt)
  have HRr1' := Lib.hid (HRr0.out.below hB1 HRr0.out.lt)
  have HRo1' := Lib.hid (HRo0.out.below hB1 HRo0.out.lt)
  have HB1' := Lib.hid (HB0.out.trans (hB1.mono HB0.out.size)); clear hB1 HRa0 HRr0 HRo0 HB0 HZ0 o1
  have K1 := Lib.hid k1; clear k1
  have S1 := Lib.hid s1; clear s1
  have av := HRa1'.out.cell 3
  have xv := HRo1'.out.cell 2
  have yv := HRo1'.out.frozen 2
  simp only [List.getElem?_toArray, List.getElem?_cons_succ, List.getElem?_cons_zero] at av xv
  go_wp2_with fail
  have HRa1 := Lib.hid (HRa1'.out.far (p := ⟨w.heap.size + 1 + 1, 2, none⟩) (by simp; omega) (.slice A1 l1.length c1))
  have HRr1 := Lib.hid (HRr1'.out.far (p := ⟨w.heap.size + 1 + 1, 2, none⟩) (by simp) (.slice A1 l1.length c1))
  have HRo1 : Hid (Row (w1.setCell ⟨w.heap.size + 1 + 1, 2, none⟩ (.slice A1 l1.length c1)) (w.heap.size + 1 + 1) 55 #[.int .i64 b.n, .int .i64 b.t, .slice A1 l1.length c1, .slice none 0 0, .slice none 0 0, .slice none 0 0]) := HRo1'.out.set 2 (.slice A1 l1.length c1)
  have HQ1 := Lib.hid (HO1.out.low (p := ⟨w.heap.size + 1 + 1, 2, none⟩) (by simp) (.slice A1 l1.length c1)); clear HO1
  have HB1 : Hid (Below w.heap.size w (w1.setCell ⟨w.heap.size + 1 + 1, 2, none⟩ (.slice A1 l1.length c1))) := HB1'.out.setCell (by simp; omega) _
  have HZ1 : Hid (w.heap.size + 3 ≤ (w1.setCell ⟨w.heap.size + 1 + 1, 2, none⟩ (.slice A1 l1.length c1)).heap.size) := by have := HZ1'.out; show _ ≤ _; simpa using this
  clear xv yv av HRa1' HRr1' HRo1' HB1' HZ1'
  have HN1 : Hid (w1.heap.size ≤ (w1.setCell ⟨w.heap.size + 1 + 1, 2, none⟩ (.slice A1 l1.length c1)).heap.size) := by show _ ≤ _; simp
  generalize (w1.setCell ⟨w.heap.size + 1 + 1, 2, none⟩ (.slice A1 l1.length c1)) = W1 at HN1 HRa1 HRr1 HRo1 HB1 HZ1 HQ1 ⊢
  have HO1 := HQ1; clear HQ1
  refine (toIntSS_any _ _ _ _ ((HR.out.2.1.keep HB1.out).more HB1.out.size) HM.out.o HM.out.os).mono ?_
  rintro e w2 ⟨A2, c2, l2, rfl, k2, o2, s2, hB2⟩
  have HV2 : Hid (∀ q, ItsL A2 l2 q → w1.heap.size ≤ q ∧ q < w2.heap.size) := fun q hq => ⟨Nat.le_trans HN1.out (o2.its hq).1, (o2.its hq).2⟩
  have HM2 : Hid (w1.heap.size ≤ w2.heap.size) := Nat.le_trans HN1.out hB2.size
  have HO2 : Hid (OwnL w2 (w.heap.size + 3) A2 l2) := o2.lower HZ1.out
  have HZ2' : Hid (w.heap.size + 3 ≤ w2.heap.size) := Nat.le_trans HZ1.out hB2.size
  have HRa2' := Lib.hid (HRa1.out.below hB2 HRa1.out.lt)
  have HRr2' := Lib.hid (HRr1.out.below hB2 HRr1.out.lt)
  have HRo2' := Lib.hid (HRo1.out.below hB2 HRo1.out.lt)
  have HP1 := Lib.hid (HO1.out.below hB2 (Nat.le_refl _)); clear HO1
  have HB2' := Lib.hid (HB1.out.trans (hB2.mono HB1.out.size)); clear hB2 HRa1 HRr1 HRo1 HB1 HZ1 o2
  have K2 := Lib.hid k2; clear k2
  have S2 := Lib.hid s2; clear s2
  have av := HRa2'.out.cell 4
  have xv := HRo2'.out.cell 3
  have yv := HRo2'.out.frozen 3
  simp only [List.getElem?_toArray, List.getElem?_cons_succ, List.getElem?_cons_zero] at av xv
  go_wp2_with fail
  have HRa2 := Lib.hid (HRa2'.out.far (p := ⟨w.heap.size + 1 + 1, 3, none⟩) (by simp; omega) (.slice A2 l2.length c2))
  have HRr2 := Lib.hid (HRr2'.out.far (p := ⟨w.heap.size + 1 + 1, 3, none⟩) (by simp) (.slice A2 l2.length c2))
  have HRo2 : Hid (Row (w2.setCell ⟨w.heap.size + 1 + 1, 3, none⟩ (.slice A2 l2.length c2)) (w.heap.size + 1 + 1) 55 #[.int .i64 b.n, .int .i64 b.t, .slice A1 l1.length c1, .slice A2 l2.length c2, .slice none 0 0, .slice none 0 0]) := HRo2'.out.set 3 (.slice A2 l2.length c2)
  have HQ1 := Lib.hid (HP1.out.low (p := ⟨w.heap.size + 1 + 1, 3, none⟩) (by simp) (.slice A2 l2.length c2)); clear HP1
  have HQ2 := Lib.hid (HO2.out.low (p := ⟨w.heap.size + 1 + 1, 3, none⟩) (by simp) (.slice A2 l2.length c2)); clear HO2
  have HB2 : Hid (Below w.heap.size w (w2.setCell ⟨w.heap.size + 1 + 1, 3, none⟩ (.slice A2 l2.length c2))) := HB2'.out.setCell (by simp; omega) _
  have HZ2 : Hid (w.heap.size + 3 ≤ (w2.setCell ⟨w.heap.size + 1 + 1, 3, none⟩ (.slice A2 l2.length c2)).heap.size) := by have := HZ2'.out; show _ ≤ _; simpa using this
  clear xv yv av HRa2' HRr2' HRo2' HB2' HZ2'
  have HN2 : Hid (w2.heap.size ≤ (w2.setCell ⟨w.heap.size + 1 + 1, 3, none⟩ (.slice A2 l2.length c2)).heap.size) := by show _ ≤ _; simp
  generalize (w2.setCell ⟨w.heap.size + 1 + 1, 3, none⟩ (.slice A2 l2.length c2)) = W2 at HN2 HRa2 HRr2 HRo2 HB2 HZ2 HQ1 HQ2 ⊢
  have HO1 := HQ1; clear HQ1
  have HO2 := HQ2; clear HQ2
  refine (toIntS_any _ _ _ _ ((HR.out.2.2.1.keep HB2.out).more HB2.out.size) HM.out.e).mono ?_
  rintro e w3 ⟨A3, c3, rfl, k3, o3, hB3⟩
  have HV3 : Hid (∀ q, Its A3 b.E q → w2.heap.size ≤ q ∧ q < w3.heap.size) := fun q hq => ⟨Nat.le_trans HN2.out (o3.its hq).1, (o3.its hq).2⟩
  have HM3 : Hid (w2.heap.size ≤ w3.heap.size) := Nat.le_trans HN2.out hB3.size
  have HO3 : Hid (OwnI w3 (w.heap.size + 3) A3 b.E) := o3.lower HZ2.out
  have HZ3' : Hid (w.heap.size + 3 ≤ w3.heap.size) := Nat.le_trans HZ2.out hB3.size
  have HRa3' := Lib.hid (HRa2.out.below hB3 HRa2.out.lt)
  have HRr3' := Lib.hid (HRr2.out.below hB3 HRr2.out.lt)
  have HRo3' := Lib.hid (HRo2.out.below hB3 HRo2.out.lt)
  have HP1 := Lib.hid (HO1.out.below hB3 (Nat.le_refl _)); clear HO1
  have HP2 := Lib.hid (HO2.out.below hB3 (Nat.le_refl _)); clear HO2
  have HB3' := Lib.hid (HB2.out.trans (hB3.mono HB2.out.size)); clear hB3 HRa2 HRr2 HRo2 HB2 HZ2 o3
  have K3 := Lib.hid k3; clear k3
  have av := HRa3'.out.cell 5
  have xv := HRo3'.out.cell 4
  have yv := HRo3'.out.frozen 4
  simp only [List.getElem?_toArray, List.getElem?_cons_succ, List.getElem?_cons_zero] at av xv
  go_wp2_with fail
  have HRa3 := Lib.hid (HRa3'.out.far (p := ⟨w.heap.size + 1 + 1, 4, none⟩) (by simp; omega) (.slice A3 b.E.length c3))
  have HRr3 := Lib.hid (HRr3'.out.far (p := ⟨w.heap.size + 1 + 1, 4, none⟩) (by simp) (.slice A3 b.E.length c3))
  have HRo3 : Hid (Row (w3.setCell ⟨w.heap.size + 1 + 1, 4, none⟩ (.slice A3 b.E.length c3)) (w.heap.size + 1 + 1) 55 #[.int .i64 b.n, .int .i64 b.t, .slice A1 l1.length c1, .slice A2 l2.length c2, .slice A3 b.E.length c3, .slice none 0 0]) := HRo3'.out.set 4 (.slice A3 b.E.length c3)
  have HQ1 := Lib.hid (HP1.out.low (p := ⟨w.heap.size + 1 + 1, 4, none⟩) (by simp) (.slice A3 b.E.length c3)); clear HP1
  have HQ2 := Lib.hid (HP2.out.low (p := ⟨w.heap.size + 1 + 1, 4, none⟩) (by simp) (.slice A3 b.E.length c3)); clear HP2
  have HQ3 := Lib.hid (HO3.out.low (p := ⟨w.heap.size + 1 + 1, 4, none⟩) (by simp) (.slice A3 b.E.length c3)); clear HO3
  have HB3 : Hid (Below w.heap.size w (w3.setCell ⟨w.heap.size + 1 + 1, 4, none⟩ (.slice A3 b.E.length c3))) := HB3'.out.setCell (by simp; omega) _
  have HZ3 : Hid (w.heap.size + 3 ≤ (w3.setCell ⟨w.heap.size + 1 + 1, 4, none⟩ (.slice A3 b.E.length c3)).heap.size) := by have := HZ3'.out; show _ ≤ _; simpa using this
  clear xv yv av HRa3' HRr3' HRo3' HB3' HZ3'
  have HN3 : Hid (w3.heap.size ≤ (w3.setCell ⟨w.heap.size + 1 + 1, 4, none⟩ (.slice A3 b.E.length c3)).heap.size) := by show _ ≤ _; simp
  generalize (w3.setCell ⟨w.heap.size + 1 + 1, 4, none⟩ (.slice A3 b.E.length c3)) = W3 at HN3 HRa3 HRr3 HRo3 HB3 HZ3 HQ1 HQ2 HQ3 ⊢
  have HO1 := HQ1; clear HQ1
  have HO2 := HQ2; clear HQ2
  have HO3 := HQ3; clear HQ3
  refine (toIntSS_any _ _ _ _ ((HR.out.2.2.2.keep HB3.out).more HB3.out.size) HM.out.f HM.out.fs).mono ?_
  rintro e w4 ⟨A4, c4, l4, rfl, k4, o4, s4, hB4⟩
  have HV4 : Hid (∀ q, ItsL A4 l4 q → w3.heap.size ≤ q) := fun q hq => Nat.le_trans HN3.out (o4.its hq).1
  have HO4 : Hid (OwnL w4 (w.heap.size + 3) A4 l4) := o4.lower HZ3.out
  have HZ4' : Hid (w.heap.size + 3 ≤ w4.heap.size) := Nat.le_trans HZ3.out hB4.size
  have HRa4' := Lib.hid (HRa3.out.below hB4 HRa3.out.lt)
  have HRr4' := Lib.hid (HRr3.out.below hB4 HRr3.out.lt)
  have HRo4' := Lib.hid (HRo3.out.below hB4 HRo3.out.lt)
  have HP1 := Lib.hid (HO1.out.below hB4 (Nat.le_refl _)); clear HO1
  have HP2 := Lib.hid (HO2.out.below hB4 (Nat.le_refl _)); clear HO2
  have HP3 := Lib.hid (HO3.out.below hB4 (Nat.le_refl _)); clear HO3
  have HB4' := Lib.hid (HB3.out.trans (hB4.mono HB3.out.size)); clear hB4 HRa3 HRr3 HRo3 HB3 HZ3 o4
  have K4 := Lib.hid k4; clear k4
  have S4 := Lib.hid s4; clear s4
  have x0 := HRo4'.out.cell 0
  have x1 := HRo4'.out.cell 1
  have x2 := HRo4'.out.cell 2
  have x3 := HRo4'.out.cell 3
  have x4 := HRo4'.out.cell 4
  have x5 := HRo4'.out.cell 5
  have y5 := HRo4'.out.frozen 5
  have r0 := HRr4'.out.cell 0
  have r1 := HRr4'.out.cell 1
  have r2 := HRr4'.out.cell 2
  have r3 := HRr4'.out.cell 3
  have r4 := HRr4'.out.cell 4
  have r5 := HRr4'.out.cell 5
  have q0 := HRr4'.out.frozen 0
  have q1 := HRr4'.out.frozen 1
  have q2 := HRr4'.out.frozen 2
  have q3 := HRr4'.out.frozen 3
  have q4 := HRr4'.out.frozen 4
  have q5 := HRr4'.out.frozen 5
  simp only [List.getElem?_toArray, List.getElem?_cons_succ, List.getElem?_cons_zero] at x0 x1 x2 x3 x4 x5 r0 r1 r2 r3 r4 r5
  go_wp2_with fail
  refine bodyPost_ret (v := .agg #[.int .i64 b.n, .int .i64 b.t, .slice A1 l1.length c1, .slice A2 l2.length c2, .slice A3 b.E.length c3, .slice A4 l4.length c4]) (by simp [results, Tryd.results35, go_sem, r0, r1, r2, r3, r4, r5]) rfl ⟨⟨b.n, b.t, A1, l1, c1, A2, l2, c2, A3, b.E, c3, A4, l4, c4⟩, rfl, ?_, ?_, ⟨K1.out, K2.out, K3.out, K4.out⟩, ?_, ⟨?_, ?_, ?_, ?_, ?_, ?_⟩⟩
  · show Bs.mk _ _ _ _ _ _ = Bs.mk _ _ _ _ _ _
    rw [S1.out, S2.out, S4.out]
  · refine ⟨?_, ?_, ?_, ?_⟩
    · exact (((((((HP1.out.low (by simp) _).low (by simp) _).low (by simp) _).low (by simp) _).low (by simp) _).low (by simp) _).low (by simp) _).lower (by omega)
    · exact (((((((HP2.out.low (by simp) _).low (by simp) _).low (by simp) _).low (by simp) _).low (by simp) _).low (by simp) _).low (by simp) _).lower (by omega)
    · exact (((((((HP3.out.low (by simp) _).low (by simp) _).low (by simp) _).low (by simp) _).low (by simp) _).low (by simp) _).low (by simp) _).lower (by omega)
    · exact (((((((HO4.out.low (by simp) _).low (by simp) _).low (by simp) _).low (by simp) _).low (by simp) _).low (by simp) _).low (by simp) _).lower (by omega)
  · exact ((((((HB4'.out.setCell (by simp; omega) _).setCell (by simp) _).setCell (by simp) _).setCell (by simp) _).setCell (by simp) _).setCell (by simp) _).setCell (by simp) _
  · exact fun q h k => by have := HU1.out q h; have := HV2.out q k; omega
  · exact fun q h k => by have := HU1.out q h; have := HV3.out q k; have := HM2.out; omega
  · exact fun q h k => by have := HU1.out q h; have := HV4.out q k; have := HM2.out; have := HM3.out; omega
  · exact fun q h k => by have := HV2.out q h; have := HV3.out q k; omega
  · exact fun q h k => by have := HV2.out q h; have := HV4.out q k; have := HM3.out; omega
  · exact fun q h k => by have := HV3.out q h; have := HV4.out q k; omega

theorem markM_ne {k : Int} {ls : List Li} {n : Nat} (h : markM k ls n ≠ []) : ls ≠ [] := fun e => h (by subst e; rfl)
theorem OwnL.save' {S : Nat → Prop} {w w' : World} {lo : Nat} {A : Option Addr} {ls : List Li} {k : Int} {n : Nat} (h : OwnL w lo A (markM k ls n)) (hs : Save S w w') (hd : ∀ b, ItsL A ls b → ¬ S b) : OwnL w' lo A (markM k ls n) := by
  refine h.kept hs fun b hb => hd b ?_
  rcases hb with ⟨e, hn⟩ | ⟨i, u, hu, he, hr⟩
  · exact .inl ⟨e, markM_ne hn⟩
  · have hi := (List.getElem?_eq_some_iff.1 hu).1
    have hi' : i < ls.length := by rw [markM_length] at hi; exact hi
    have hat := markM_at (k := k) (i := n) hi' hi
    rw [List.getElem?_eq_getElem hi, hat] at hu
    injection hu with hu
    refine .inr ⟨i, ls[i], List.getElem?_eq_getElem hi', ?_⟩
    split at hu
    · subst hu
      exact ⟨he, fun e => hr (by show seqL _ _ = []; rw [e]; rfl)⟩
    · subst hu
      exact ⟨he, hr⟩
theorem OwnI.save' {S : Nat → Prop} {w w' : World} {lo : Nat} {A : Option Addr} {xs : List Int} {k : Int} (h : OwnI w lo A (seqL k xs.length)) (hs : Save S w w') (hd : ∀ b, Its A xs b → ¬ S b) : OwnI w' lo A (seqL k xs.length) :=
  h.kept hs fun b hb => hd b ⟨hb.1, fun e => hb.2 (by rw [e]; rfl)⟩


/-- The blocks of a binary grammar. -/
def ItsB (b : Bi) (q : Nat) : Prop := ItsL b.Ap b.P q ∨ ItsL b.Ao b.O q ∨ Its b.Ae b.E q ∨ ItsL b.Af b.F q
theorem OwnB.its {w : World} {lo : Nat} {b : Bi} (h : OwnB w lo b) {q : Nat} (hq : ItsB b q) : lo ≤ q ∧ q < w.heap.size := by
  rcases hq with hq | hq | hq | hq
  · exact h.1.its hq
  · exact h.2.1.its hq
  · exact h.2.2.1.its hq
  · exact h.2.2.2.its hq
theorem OwnB.kept {S : Nat → Prop} {w w' : World} {lo : Nat} {b : Bi} (h : OwnB w lo b) (hs : Save S w w') (hd : ∀ q, ItsB b q → ¬ S q) : OwnB w' lo b :=
  ⟨h.1.kept hs fun q hq => hd q (.inl hq), h.2.1.kept hs fun q hq => hd q (.inr (.inl hq)), h.2.2.1.kept hs fun q hq => hd q (.inr (.inr (.inl hq))), h.2.2.2.kept hs fun q hq => hd q (.inr (.inr (.inr hq)))⟩

/-- How many numbers lists hold. -/
def lcn (ls : List Li) : Nat := lcnt ls ls.length
theorem lcnt_le {ls : List Li} (h : ∀ u ∈ ls, u.r.length ≤ 1048576) : ∀ i, i ≤ ls.length → lcnt ls i ≤ i * 1048577
  | 0, _ => by simp [lcnt_zero]
  | i + 1, hi => by
    have h1 := lcnt_le h i (by omega)
    rw [lcnt_succ (by omega)]
    have := h ls[i] (List.getElem_mem (by omega))
    omega
theorem lcn_le {ls : List Li} (h1 : ls.length ≤ 1048576) (h : ∀ u ∈ ls, u.r.length ≤ 1048576) : lcn ls ≤ 1099512676352 := by
  have := lcnt_le h ls.length (Nat.le_refl _)
  have h2 : ls.length * 1048577 ≤ 1048576 * 1048577 := Nat.mul_le_mul_right _ h1
  unfold lcn
  omega
/-- A binary grammar with all its numbers marked from k on. -/
def markB (k : Int) (b : Bi) : Bi := { b with
  P := markM k b.P b.P.length
  O := markM (k + (lcn b.P : Int)) b.O b.O.length
  E := seqL (k + (lcn b.P : Int) + (lcn b.O : Int)) b.E.length
  F := markM (k + (lcn b.P : Int) + (lcn b.O : Int) + (b.E.length : Int)) b.F b.F.length }
def cntBi (b : Bi) : Nat := lcn b.P + lcn b.O + b.E.length + lcn b.F

def MarkedB (w : World) (lo : Nat) (b : Bi) (k : Int) (e : Ending) (w' : World) : Prop :=
  e = .returned (.int .i64 (k + (cntBi b : Int))) ∧ OwnB w' lo (markB k b) ∧ Save (ItsB b) w w'

set_option maxHeartbeats 1000000 in
theorem markBinary_any (b : Bi) (lo : Nat) (k : Int) (w : World) (h : OwnB w lo b) (ha : ApartB b) (hm : LenB 1048576 b) (hk : 0 ≤ k) (hk' : k ≤ 16) :
    Calls Tryd.prog 41 #[(.agg #[.int .i64 b.n, .int .i64 b.t, .slice b.Ap b.P.length b.cp, .slice b.Ao b.O.length b.co, .slice b.Ae b.E.length b.ce, .slice b.Af b.F.length b.cf]), .int .i64 k] w (MarkedB w lo b k) := by
  have HO := Lib.hid h; clear h
  have HA := Lib.hid ha; clear ha
  have HM := Lib.hid hm; clear hm
  have hlp := lcn_le HM.out.p HM.out.ps
  have hlo := lcn_le HM.out.o HM.out.os
  have hle := HM.out.e
  have HBX : Hid (Below w.heap.size w (w.alloc (.cells #[.int .i64 b.n, .int .i64 b.t, .slice b.Ap b.P.length b.cp, .slice b.Ao b.O.length b.co, .slice b.Ae b.E.length b.ce, .slice b.Af b.F.length b.cf] 55))) := by show Below _ _ _; go_grown
  have HR0 : Hid (Row (w.alloc (.cells #[.int .i64 b.n, .int .i64 b.t, .slice b.Ap b.P.length b.cp, .slice b.Ao b.O.length b.co, .slice b.Ae b.E.length b.ce, .slice b.Af b.F.length b.cf] 55)) w.heap.size 55 #[.int .i64 b.n, .int .i64 b.t, .slice b.Ap b.P.length b.cp, .slice b.Ao b.O.length b.co, .slice b.Ae b.E.length b.ce, .slice b.Af b.F.length b.cf]) := Row.new _ _ _
  have HO0 := Lib.hid (HO.out.below HBX.out (Nat.le_refl _))
  go_enter Tryd.func41, Tryd.ntmps41
  go_wp2_with fail
  generalize (w.alloc (.cells #[.int .i64 b.n, .int .i64 b.t, .slice b.Ap b.P.length b.cp, .slice b.Ao b.O.length b.co, .slice b.Ae b.E.length b.ce, .slice b.Af b.F.length b.cf] 55)) = W at HBX HR0 HO0 ⊢
  have HNI : Hid (∀ q, ItsB b q → q < w.heap.size) := fun q hq => (HO.out.its hq).2
  refine (markIntSS_any _ _ _ lo _ _ HO0.out.1 HM.out.p HM.out.ps hk (by omega)).mono ?_
  rintro e w1 ⟨rfl, hP, hS1⟩
  have HP := Lib.hid hP; clear hP
  have HO1 := Lib.hid (HO0.out.2.1.kept hS1 fun q h h' => HA.out.po q h' h)
  have HE1 := Lib.hid (HO0.out.2.2.1.kept hS1 fun q h h' => HA.out.pe q h' h)
  have HF1 := Lib.hid (HO0.out.2.2.2.kept hS1 fun q h h' => HA.out.pf q h' h)
  have HR1 := Lib.hid (HR0.out.save hS1 fun h => by have := HNI.out _ (.inl h); omega)
  have HS1 : Hid (Save (ItsB b) W w1) := hS1.wider fun q h => .inl h
  clear hS1 HO0 HR0
  have a3 := HR1.out.cell 3
  simp only [List.getElem?_toArray, List.getElem?_cons_succ, List.getElem?_cons_zero] at a3
  have e1 : k + ((lcnt b.P b.P.length : Nat) : Int) = k + (lcn b.P : Int) := rfl
  rw [e1]
  clear e1
  go_wp2_with fail
  refine (markIntSS_any _ _ _ lo _ _ HO1.out HM.out.o HM.out.os (by omega) (by omega)).mono ?_
  rintro e w2 ⟨rfl, hO, hS2⟩
  have HQO := Lib.hid hO; clear hO
  have HP2 := Lib.hid (HP.out.save' hS2 fun q h h' => HA.out.po q h h')
  have HE2 := Lib.hid (HE1.out.kept hS2 fun q h h' => HA.out.oe q h' h)
  have HF2 := Lib.hid (HF1.out.kept hS2 fun q h h' => HA.out.of q h' h)
  have HR2 := Lib.hid (HR1.out.save hS2 fun h => by have := HNI.out _ (.inr (.inl h)); omega)
  have HS2 : Hid (Save (ItsB b) W w2) := HS1.out.trans (hS2.wider fun q h => .inr (.inl h))
  clear hS2 HP HE1 HF1 HR1 HO1 HS1 a3
  have a4 := HR2.out.cell 4
  simp only [List.getElem?_toArray, List.getElem?_cons_succ, List.getElem?_cons_zero] at a4
  have e1 : k + (lcn b.P : Int) + ((lcnt b.O b.O.length : Nat) : Int) = k + (lcn b.P : Int) + (lcn b.O : Int) := rfl
  rw [e1]
  clear e1
  go_wp2_with fail
  refine (markIntS_any _ _ _ lo _ _ HE2.out HM.out.e (by omega) (by omega)).mono ?_
  rintro e w3 ⟨rfl, hE, hS3⟩
  have HQE := Lib.hid hE; clear hE
  have HP3 := Lib.hid (HP2.out.save' hS3 fun q h h' => HA.out.pe q h h')
  have HO3 := Lib.hid (HQO.out.save' hS3 fun q h h' => HA.out.oe q h h')
  have HF3 := Lib.hid (HF2.out.kept hS3 fun q h h' => HA.out.ef q h' h)
  have HR3 := Lib.hid (HR2.out.save hS3 fun h => by have := HNI.out _ (.inr (.inr (.inl h))); omega)
  have HS3 : Hid (Save (ItsB b) W w3) := HS2.out.trans (hS3.wider fun q h => .inr (.inr (.inl h)))
  clear hS3 HP2 HE2 HF2 HR2 HQO HS2 a4
  have a5 := HR3.out.cell 5
  simp only [List.getElem?_toArray, List.getElem?_cons_succ, List.getElem?_cons_zero] at a5
  go_wp2_with fail
  refine (markIntSS_any _ _ _ lo _ _ HF3.out HM.out.f HM.out.fs (by omega) (by omega)).mono ?_
  rintro e w4 ⟨rfl, hF, hS4⟩
  have HQF := Lib.hid hF; clear hF
  have HP4 := Lib.hid (HP3.out.save' hS4 fun q h h' => HA.out.pf q h h')
  have HO4 := Lib.hid (HO3.out.save' hS4 fun q h h' => HA.out.of q h h')
  have HE4 := Lib.hid (HQE.out.save' hS4 fun q h h' => HA.out.ef q h h')
  have HS4 : Hid (Save (ItsB b) W w4) := HS3.out.trans (hS4.wider fun q h => .inr (.inr (.inr h)))
  clear hS4 HP3 HO3 HQE HR3 HF3 HS3 a5
  have HV : Hid (k + (lcn b.P : Int) + (lcn b.O : Int) + (b.E.length : Int) + ((lcnt b.F b.F.length : Nat) : Int) = k + (cntBi b : Int)) := by
    show _ = _
    have : (lcnt b.F b.F.length : Nat) = lcn b.F := rfl
    unfold cntBi
    omega
  go_wp2
  go_ret
  exact ⟨ret_int HV.out, ⟨HP4.out, HO4.out, HE4.out, HQF.out⟩, (Save.of_below HBX.out).trans HS4.out⟩

end Go.Proofs.YtfbpcdmpkbjifaaDoor

/- Plain mathematics of chapter 5: which lists rise, which binary grammars are good. No program, no memory. -/

namespace Go.Proofs.YtfbpcdmpkbjifaaDoor

noncomputable def bP (P : Prop) : Bool := @decide P (Classical.propDecidable P)
theorem bP_t {P : Prop} (h : P) : bP P = true := @decide_eq_true P (Classical.propDecidable P) h
theorem bP_f {P : Prop} (h : ¬ P) : bP P = false := @decide_eq_false P (Classical.propDecidable P) h
theorem bP_is {P : Prop} (h : bP P = true) : P := @of_decide_eq_true P (Classical.propDecidable P) h
theorem bP_no {P : Prop} (h : bP P = false) : ¬ P := @of_decide_eq_false P (Classical.propDecidable P) h
theorem bP_congr {P Q : Prop} (h : P ↔ Q) : bP P = bP Q := by rw [propext h]

/-- Two lists compared: the first unlike number decides. -/
def cmpL : List Int → List Int → Int
  | [], [] => 0
  | [], _ :: _ => -1
  | _ :: _, [] => 1
  | x :: a, y :: b => if x < y then -1 else if y < x then 1 else cmpL a b

theorem cmpL_range : ∀ (a b : List Int), cmpL a b = -1 ∨ cmpL a b = 0 ∨ cmpL a b = 1
  | [], [] => by simp [cmpL]
  | [], _ :: _ => by simp [cmpL]
  | _ :: _, [] => by simp [cmpL]
  | x :: a, y :: b => by
    simp only [cmpL]
    split
    · simp
    · split
      · simp
      · exact cmpL_range a b

theorem cmpL_drop {a b : List Int} {k : Nat} (ha : k < a.length) (hb : k < b.length) : cmpL (a.drop k) (b.drop k) = if a[k] < b[k] then -1 else if b[k] < a[k] then 1 else cmpL (a.drop (k + 1)) (b.drop (k + 1)) := by
  rw [List.drop_eq_getElem_cons ha, List.drop_eq_getElem_cons hb]; rfl
theorem cmpL_left {a b : List Int} {k : Nat} (ha : k < a.length) (hb : ¬ k < b.length) : cmpL (a.drop k) (b.drop k) = 1 := by
  rw [List.drop_of_length_le (l := b) (by omega), List.drop_eq_getElem_cons ha]; rfl
theorem cmpL_right {a b : List Int} {k : Nat} (ha : ¬ k < a.length) (hb : k < b.length) : cmpL (a.drop k) (b.drop k) = -1 := by
  rw [List.drop_of_length_le (l := a) (by omega), List.drop_eq_getElem_cons hb]; rfl
theorem cmpL_end {a b : List Int} {k : Nat} (ha : ¬ k < a.length) (hb : ¬ k < b.length) : cmpL (a.drop k) (b.drop k) = 0 := by
  rw [List.drop_of_length_le (by omega), List.drop_of_length_le (by omega)]; rfl

/-- The first k lists rise. -/
def RiseTo (xs : List (List Int)) (k : Nat) : Prop := ∀ (j : Nat) (a b : List Int), j + 1 < k → xs[j]? = some a → xs[j + 1]? = some b → cmpL a b < 0
theorem RiseTo.none (xs : List (List Int)) : RiseTo xs 1 := fun j a b h => absurd h (by omega)
theorem RiseTo.zero (xs : List (List Int)) : RiseTo xs 0 := fun j a b h => absurd h (by omega)
theorem RiseTo.step {xs : List (List Int)} {k : Nat} (h : RiseTo xs (k + 1)) {a b : List Int} (ha : xs[k]? = some a) (hb : xs[k + 1]? = some b) (hc : cmpL a b < 0) : RiseTo xs (k + 2) := by
  intro j a' b' hj ha' hb'
  by_cases e : j = k
  · subst e
    rw [ha] at ha'; rw [hb] at hb'
    injection ha' with ha'; injection hb' with hb'
    rw [← ha', ← hb']; exact hc
  · exact h j a' b' (by omega) ha' hb'
theorem RiseTo.mono {xs : List (List Int)} {k m : Nat} (h : RiseTo xs k) (hm : m ≤ k ∨ xs.length ≤ k) : RiseTo xs m := by
  intro j a b hj ha hb
  have := (List.getElem?_eq_some_iff.1 hb).1
  exact h j a b (by omega) ha hb

/-- Numbers rise. -/
def RiseI (xs : List Int) (k : Nat) : Prop := ∀ (j : Nat) (a b : Int), j + 1 < k → xs[j]? = some a → xs[j + 1]? = some b → a < b
theorem RiseI.none (xs : List Int) : RiseI xs 1 := fun j a b h => absurd h (by omega)
theorem RiseI.zero (xs : List Int) : RiseI xs 0 := fun j a b h => absurd h (by omega)
theorem RiseI.step {xs : List Int} {k : Nat} (h : RiseI xs (k + 1)) {a b : Int} (ha : xs[k]? = some a) (hb : xs[k + 1]? = some b) (hc : a < b) : RiseI xs (k + 2) := by
  intro j a' b' hj ha' hb'
  by_cases e : j = k
  · subst e
    rw [ha] at ha'; rw [hb] at hb'
    injection ha' with ha'; injection hb' with hb'
    rw [← ha', ← hb']; exact hc
  · exact h j a' b' (by omega) ha' hb'
theorem RiseI.mono {xs : List Int} {k m : Nat} (h : RiseI xs k) (hm : m ≤ k ∨ xs.length ≤ k) : RiseI xs m := by
  intro j a b hj ha hb
  have := (List.getElem?_eq_some_iff.1 hb).1
  exact h j a b (by omega) ha hb

/-- All lists are of one length. -/
def LongTo (long : Int) (xs : List (List Int)) (k : Nat) : Prop := ∀ (j : Nat) (x : List Int), j < k → xs[j]? = some x → (x.length : Int) = long
/-- A list is a nonterminal and symbols. -/
def symL (n t : Int) (x : List Int) : Prop := nonB n (x.getD 0 0) = true ∧ symsB n t (x.drop 1) = true
def SymTo (n t : Int) (xs : List (List Int)) (k : Nat) : Prop := ∀ (j : Nat) (x : List Int), j < k → xs[j]? = some x → symL n t x
def NonTo (n : Int) (xs : List Int) (k : Nat) : Prop := ∀ (j : Nat) (x : Int), j < k → xs[j]? = some x → nonB n x = true

def GoodLs (n t long : Int) (xs : List (List Int)) : Prop := LongTo long xs xs.length ∧ SymTo n t xs xs.length ∧ RiseTo xs xs.length
def GoodE (n : Int) (xs : List Int) : Prop := NonTo n xs xs.length ∧ RiseI xs xs.length

/-- A binary grammar is good. -/
def GoodBs (s : Bs) : Prop := (1 ≤ s.n ∧ s.n ≤ 40) ∧ (1 ≤ s.t ∧ s.t ≤ 4) ∧ GoodLs s.n s.t 3 s.P ∧ GoodLs s.n s.t 2 s.O ∧ GoodE s.n s.E ∧ (s.F.length : Int) ≤ s.n ∧ LongTo 2 s.F s.F.length

theorem upto_next {α : Type} {Q : α → Prop} {xs : List α} {k : Nat} {y : α} (hy : xs[k]? = some y) (h : Q y) (H : ∀ (j : Nat) (x : α), j < k → xs[j]? = some x → Q x) : ∀ (j : Nat) (x : α), j < k + 1 → xs[j]? = some x → Q x := by
  intro j x hj hx
  by_cases e : j = k
  · subst e; rw [hy] at hx; injection hx with hx; rw [← hx]; exact h
  · exact H j x (by omega) hx
theorem upto_end {α : Type} {Q : α → Prop} {xs : List α} {k m : Nat} (hk : ¬ k < xs.length) (H : ∀ (j : Nat) (x : α), j < k → xs[j]? = some x → Q x) : ∀ (j : Nat) (x : α), j < m → xs[j]? = some x → Q x :=
  fun j x _ hx => H j x (by have := (List.getElem?_eq_some_iff.1 hx).1; omega) hx

def FitL (xs : List (List Int)) : Prop := ∀ x ∈ xs, ∀ y ∈ x, F64 y
def FitB (s : Bs) : Prop := FitL s.P ∧ FitL s.O ∧ (∀ y ∈ s.E, F64 y) ∧ FitL s.F

end Go.Proofs.YtfbpcdmpkbjifaaDoor

/- How many rules the lists of a binary grammar make that the laws take. -/

namespace Go.Proofs.YtfbpcdmpkbjifaaDoor
open Go.RowKit

def TotB (s : Bs) : Prop := s.P.length + s.O.length + s.E.length ≤ 1048576
theorem szLs_less {xs : List (List Int)} {L : Int} (_hL : 0 ≤ L) (h : 0 ≤ szLs xs L) : szLs xs L ≤ L - xs.length := by
  unfold szLs at h ⊢
  split at h
  · omega
  · rename_i hn
    rw [if_neg hn]
    exact (szL_ge xs (L := L - xs.length) (by omega)).2 h |>.1
theorem szB_total {b : Bi} (hp : 0 ≤ szB (sayL b.P) (sayL b.O) b.E (sayL b.F) 1048576) : TotB b.say := by
  unfold szB at hp
  split at hp
  · omega
  rename_i h1
  split at hp
  · omega
  rename_i h2
  split at hp
  · omega
  rename_i h3
  have a1 := szLs_less (xs := sayL b.P) (L := 1048576) (by omega) (by omega)
  have a2 := szLs_less (xs := sayL b.O) (L := szLs (sayL b.P) 1048576) (by omega) (by omega)
  have e3 : szI b.E.length (szLs (sayL b.O) (szLs (sayL b.P) 1048576)) = szLs (sayL b.O) (szLs (sayL b.P) 1048576) - b.E.length := by
    unfold szI at h3 ⊢; split <;> simp_all
  show (sayL b.P).length + (sayL b.O).length + b.E.length ≤ 1048576
  omega
theorem TotB.of {b b' : Bi} (h : TotB b.say) (e : b'.say = b.say) : b'.P.length + b'.O.length + b'.E.length ≤ 1048576 := by
  have h2 : TotB b'.say := e ▸ h
  have h3 : (sayL b'.P).length + (sayL b'.O).length + b'.E.length ≤ 1048576 := h2
  rw [sayL_len, sayL_len] at h3
  exact h3
theorem FitB.of {b b' : Bi} (h : FitB b.say) (e : b'.say = b.say) : FitB b'.say := e ▸ h

end Go.Proofs.YtfbpcdmpkbjifaaDoor

/- What the laws with a binary grammar beside other arguments share. -/

namespace Go.Proofs.YtfbpcdmpkbjifaaDoor
open Go.RowKit

theorem cntBi_le2 {b : Bi} (h : LenB 1048576 b) (ht : b.P.length + b.O.length + b.E.length ≤ 1048576) : cntBi b ≤ 2199025352704 := by
  have h1 := lcnt_le h.ps b.P.length (Nat.le_refl _)
  have h2 := lcnt_le h.os b.O.length (Nat.le_refl _)
  have h3 := lcnt_le h.fs b.F.length (Nat.le_refl _)
  have h4 := h.f
  unfold cntBi lcn
  omega
theorem szB_le {P O : List (List Int)} {E : List Int} {F : List (List Int)} : szB P O E F 1048576 ≤ 1048576 := by
  unfold szB
  have g1 := szLs_ge P (L := 1048576) (by omega)
  split
  · omega
  · have g2 := szLs_ge O (L := szLs P 1048576) (by omega)
    split
    · omega
    · have g3 := szI_le (n := E.length) (L := szLs O (szLs P 1048576)) (by omega)
      split
      · omega
      · have g4 := szLs_ge F (L := szI E.length (szLs O (szLs P 1048576))) (by omega)
        split <;> omega

end Go.Proofs.YtfbpcdmpkbjifaaDoor

/- Plain mathematics: lists of lists that rise, and one put into its place. No program, no memory. -/

namespace Go.Proofs.YtfbpcdmpkbjifaaDoor

theorem cmpL_self : ∀ a : List Int, cmpL a a = 0
  | [] => rfl
  | x :: a => by simp [cmpL, cmpL_self a]
theorem cmpL_anti : ∀ a b : List Int, cmpL b a = - cmpL a b
  | [], [] => rfl
  | [], _ :: _ => rfl
  | _ :: _, [] => rfl
  | x :: a, y :: b => by
    have h := cmpL_anti a b
    rcases Int.lt_trichotomy x y with h1 | h1 | h1
    · simp [cmpL, h1, show ¬ y < x by omega]
    · subst h1; simp [cmpL, h]
    · simp [cmpL, h1, show ¬ x < y by omega]
theorem cmpL_eq : ∀ {a b : List Int}, cmpL a b = 0 → a = b
  | [], [], _ => rfl
  | [], _ :: _, h => by simp [cmpL] at h
  | _ :: _, [], h => by simp [cmpL] at h
  | x :: a, y :: b, h => by
    simp only [cmpL] at h
    by_cases h1 : x < y
    · rw [if_pos h1] at h; omega
    · rw [if_neg h1] at h
      by_cases h2 : y < x
      · rw [if_pos h2] at h; omega
      · rw [if_neg h2] at h
        have e : x = y := by omega
        rw [e, cmpL_eq h]
theorem cmpL_trans : ∀ {a b c : List Int}, cmpL a b < 0 → cmpL b c < 0 → cmpL a c < 0
  | [], [], _, h, _ => by simp [cmpL] at h
  | [], _ :: _, [], _, h => by simp [cmpL] at h
  | [], _ :: _, _ :: _, _, _ => by simp [cmpL]
  | _ :: _, [], _, h, _ => by simp [cmpL] at h
  | _ :: _, _ :: _, [], _, h => by simp [cmpL] at h
  | x :: a, y :: b, z :: c, h, k => by
    have ih := @cmpL_trans a b c
    simp only [cmpL] at h k ⊢
    by_cases h1 : x < y
    · by_cases k1 : y < z
      · rw [if_pos (by omega)]; omega
      · rw [if_neg k1] at k
        by_cases k2 : z < y
        · rw [if_pos k2] at k; omega
        · rw [if_pos (by omega)]; omega
    · rw [if_neg h1] at h
      by_cases h2 : y < x
      · rw [if_pos h2] at h; omega
      · rw [if_neg h2] at h
        by_cases k1 : y < z
        · rw [if_pos (by omega)]; omega
        · rw [if_neg k1] at k
          by_cases k2 : z < y
          · rw [if_pos k2] at k; omega
          · rw [if_neg k2] at k
            rw [if_neg (by omega), if_neg (by omega)]
            exact ih h k

/-- Lists rise. -/
def RisesL (xs : List (List Int)) : Prop := xs.Pairwise fun a b => cmpL a b < 0
theorem RisesL.nil : RisesL [] := List.Pairwise.nil
/-- Two rising lists of lists with the same members are one. -/
theorem risesL_unique {xs ys : List (List Int)} (hx : RisesL xs) (hy : RisesL ys) (h : ∀ x, x ∈ xs ↔ x ∈ ys) : xs = ys := by
  have nd : ∀ {zs : List (List Int)}, RisesL zs → zs.Nodup := fun hz => hz.imp fun h e => by subst e; rw [cmpL_self] at h; omega
  refine List.Perm.eq_of_pairwise (le := fun a b => cmpL a b < 0) (fun a b _ _ h1 h2 => ?_) hx hy ((List.perm_ext_iff_of_nodup (nd hx) (nd hy)).2 h)
  have := cmpL_anti a b
  omega
theorem riseTo_rises {xs : List (List Int)} (h : RiseTo xs xs.length) : RisesL xs := by
  have key : ∀ (j i : Nat) (x y : List Int), i < j → j < xs.length → xs[i]? = some x → xs[j]? = some y → cmpL x y < 0 := by
    intro j
    induction j with
    | zero => intro i x y h1; omega
    | succ j ih =>
      intro i x y h1 h2 hx hy
      have hz : xs[j]? = some xs[j] := List.getElem?_eq_getElem (by omega)
      have h3 := h j _ _ h2 hz hy
      by_cases e : i = j
      · subst e; rw [hz] at hx; injection hx with hx; rw [← hx]; exact h3
      · exact cmpL_trans (ih i x xs[j] (by omega) (by omega) hx hz) h3
  rw [RisesL, List.pairwise_iff_getElem]
  intro i j hi hj hij
  exact key j i _ _ hij hj (List.getElem?_eq_getElem hi) (List.getElem?_eq_getElem hj)

theorem risesL_put {xs : List (List Int)} {x : List Int} {k : Nat} (hk : k ≤ xs.length) (hx : RisesL xs) (h1 : ∀ (j : Nat) (y : List Int), k ≤ j → xs[j]? = some y → cmpL x y < 0) (h2 : ∀ (j : Nat) (y : List Int), j + 1 = k → xs[j]? = some y → cmpL y x < 0) :
    RisesL (xs.take k ++ [x] ++ xs.drop k) ∧ (∀ z, z ∈ xs.take k ++ [x] ++ xs.drop k ↔ z = x ∨ z ∈ xs) := by
  have hsp : (xs.take k ++ xs.drop k).Pairwise (fun a b => cmpL a b < 0) := by rw [List.take_append_drop]; exact hx
  obtain ⟨p1, p2, p3⟩ := List.pairwise_append.1 hsp
  have hb : ∀ y ∈ xs.drop k, cmpL x y < 0 := fun y hm => by
    obtain ⟨j, hj⟩ := List.mem_iff_getElem?.1 hm
    rw [List.getElem?_drop] at hj
    exact h1 (k + j) y (by omega) hj
  have ha : ∀ y ∈ xs.take k, cmpL y x < 0 := fun y hm => by
    obtain ⟨j, hj⟩ := List.mem_iff_getElem?.1 hm
    have hjk : j < k := by
      have := (List.getElem?_eq_some_iff.1 hj).1
      rw [List.length_take] at this
      omega
    rw [List.getElem?_take_of_lt hjk] at hj
    by_cases e : j + 1 = k
    · exact h2 j y e hj
    · have hlen := (List.getElem?_eq_some_iff.1 hj).1
      have hl : k - 1 < xs.length := by omega
      have hz : xs[k - 1]? = some xs[k - 1] := List.getElem?_eq_getElem hl
      have h3 := List.pairwise_iff_getElem.1 hx j (k - 1) hlen hl (by omega)
      rw [(List.getElem?_eq_some_iff.1 hj).2] at h3
      exact cmpL_trans h3 (h2 (k - 1) _ (by omega) hz)
  refine ⟨?_, fun z => ?_⟩
  · show List.Pairwise _ _
    rw [List.append_assoc]
    refine List.pairwise_append.2 ⟨p1, List.pairwise_append.2 ⟨by simp, p2, fun a h b hb' => by simp at h; subst h; exact hb b hb'⟩, fun a h b hb' => ?_⟩
    rcases List.mem_append.1 hb' with h' | h'
    · simp at h'; subst h'; exact ha a h
    · exact p3 a h b h'
  · have e : z ∈ xs ↔ z ∈ xs.take k ∨ z ∈ xs.drop k := by rw [← List.mem_append, List.take_append_drop]
    simp only [List.mem_append, List.mem_singleton, e]
    constructor
    · rintro ((h | h) | h)
      · exact .inr (.inl h)
      · exact .inl h
      · exact .inr (.inr h)
    · rintro (h | h | h)
      · exact .inl (.inr h)
      · exact .inl (.inl h)
      · exact .inr h

end Go.Proofs.YtfbpcdmpkbjifaaDoor

/- A new slice of numbers as an answer. -/

namespace Go.Proofs.YtfbpcdmpkbjifaaDoor
open Go.RowKit

/-- A new slice of numbers, and a bool. -/
def GaveIB (w : World) (ys : List Int) (b : Bool) (e : Ending) (w' : World) : Prop :=
  ∃ A c, e = .returned (.tuple #[.slice A ys.length c, .bool b]) ∧ OwnI w' w.heap.size A ys ∧ Below w.heap.size w w'

theorem ownI_of_row {w : World} {lo : Nat} {v : Value} {n : Nat} {ys : List Int} (h : w.ownsRow lo 3 1 v n (ys.map fun y => Value.int .i64 y)) : ∃ A c, v = .slice A ys.length c ∧ OwnI w lo A ys := by
  obtain ⟨hl, h⟩ := h
  have hn : n = ys.length := by simpa using hl.symm
  subst hn
  rcases h with ⟨rfl, h0⟩ | ⟨g, cap, cur, rfl, hlo, hg, _, _, _, hx⟩
  · have : ys = [] := List.eq_nil_of_length_eq_zero h0
    subst this
    exact ⟨none, 0, rfl, .inl rfl⟩
  · refine ⟨_, cap, rfl, .inr ⟨g, cur, rfl, hlo, hg, fun k x hk => ?_⟩⟩
    have hk' := (List.getElem?_eq_some_iff.1 hk).1
    have e := congrArg (fun l => l[k]?) hx
    simp only [List.getElem?_map, hk, Option.map_some] at e
    rw [List.getElem?_take, if_pos (by omega)] at e
    simpa using e

def GaveI' (w : World) (ys : List Int) (e : Ending) (w' : World) : Prop := ∃ A c, e = .returned (.slice A ys.length c) ∧ OwnI w' w.heap.size A ys ∧ Below w.heap.size w w'

end Go.Proofs.YtfbpcdmpkbjifaaDoor

/- Copies of a list of numbers, the program's and the reference's. -/

namespace Go.Proofs.YtfbpcdmpkbjifaaDoor
open Go.RowKit

def vals (xs : List Int) : List Value := xs.map fun x => Value.int .i64 x
theorem vals_length (xs : List Int) : (vals xs).length = xs.length := by simp [vals]
theorem vals_one (xs : List Int) : ∀ v ∈ vals xs, v.oneCell' = true := by
  intro v hv
  obtain ⟨x, _, rfl⟩ := List.mem_map.1 hv
  rfl
theorem vals_get {xs : List Int} {j : Nat} {v : Value} (h : (vals xs)[j]? = some v) : ∃ x, xs[j]? = some x ∧ v = .int .i64 x := by
  simp only [vals, List.getElem?_map, Option.map_eq_some_iff] at h
  obtain ⟨x, hx, rfl⟩ := h
  exact ⟨x, hx, rfl⟩
theorem Ints.src {w : World} {B : Nat} {A : Option Addr} {xs : List Int} (h : Ints w B A xs) (hp : 0 < xs.length) : ∃ ad, A = some ad ∧ ∀ (j : Nat) (v : Value), (vals xs)[j]? = some v → w.cell? (ad.add j) = some v := by
  obtain ⟨b, o, rfl, _, hc⟩ := h hp
  refine ⟨_, rfl, fun j v hv => ?_⟩
  obtain ⟨x, hx, rfl⟩ := vals_get hv
  rw [Go.WideShapes.add_plain]
  exact hc j x hx

set_option maxRecDepth 20000 in
set_option maxHeartbeats 400000 in
theorem copyList_any (A : Option Addr) (xs : List Int) (c : Nat) (w : World) (hr : Ints w w.heap.size A xs) (hn : xs.length ≤ 1048576) :
    Calls Tryd.prog 112 #[.slice A xs.length c] w (GaveI w xs) := by
  have hmk := make_ints xs.length hn
  have hB0 : Below w.heap.size w (w.alloc (.cells (zI xs.length) 3)) := by go_grown
  have HB0 := Lib.hid hB0; clear hB0
  have HR := Lib.hid (hr.keep HB0.out); clear hr
  have HG : Hid ((w.alloc (.cells (zI xs.length) 3)).heap[w.heap.size]? = some (.cells (zI xs.length).toList.toArray 3 (0, 0))) := by
    show _ = _
    simpa using heap_alloc_new w (.cells (zI xs.length) 3)
  have HF : Hid (0 + (vals xs).length ≤ (zI xs.length).toList.length) := by
    show _ ≤ _
    have h := zI_size xs.length
    rw [← Array.length_toList] at h
    rw [vals_length]
    omega
  go_enter Tryd.func112, Tryd.ntmps112
  go_wp2_with (with_reducible refine wpList_copy_splice rfl (.tmp 7) (.tmp 8) 22 22 rfl 3 Tryd.underlying22 (by kernel_rfl) (some ⟨w.heap.size, 0, none⟩) A xs.length xs.length xs.length c rfl rfl w.heap.size 0 (zI xs.length).toList 3 HG.out (vals xs) (by rw [vals_length]; exact (Nat.min_self _).symm) (fun hp => ⟨rfl, HR.out.src (by rw [vals_length] at hp; exact hp)⟩) HF.out (vals_one xs) w.heap.size w HB0.out (Nat.le_refl _) ?_)
  intro w1 HG1 hB1
  go_wp2
  go_ret
  refine ⟨some ⟨w.heap.size, 0, none⟩, xs.length, rfl, Nat.le_refl _, .inr ⟨w.heap.size, _, rfl, Nat.le_refl _, HG1.out, fun k x hx => ?_⟩, hB1⟩
  have hk := (List.getElem?_eq_some_iff.1 hx).1
  simp only [splice, List.take_zero, List.nil_append, List.getElem?_toArray]
  rw [List.getElem?_append_left (by rw [vals_length]; exact hk)]
  simp [vals, hx]

theorem own_empty (w : World) : (w.alloc (.cells #[] 3)).ownsRow w.heap.size 3 1 (.slice (some ⟨w.heap.size, 0, none⟩) 0 0) 0 [] :=
  ⟨rfl, .inr ⟨w.heap.size, 0, #[], rfl, Nat.le_refl _, heap_alloc_new w _, Nat.le_refl _, by simp [maxLen], rfl, rfl⟩⟩

/-- Nothing appended: a nil source, whatever its capacity says. -/
theorem append_nil_at {P : Program} {w : World} {ops : Array Oper} {rest : List Oper} {o : Oper} {a : Act} {Q : Exit → Act → World → Prop} (hgd : o.guard = none) (s x : Operand) (t : TypeId)
    (ho : o.op = .call { callee := .builtin .append, args := #[s, x], argTypes := #[t, t] }) (base : Nat) (e : TypeId) (i : TypeInfo) (size : Nat) (ht : P.underlying t = some (.slice e)) (hi : P.info? e = some i)
    (v : Value) (n : Nat) (xs : List Value) (hs : a.eval s = v) (hown : w.ownsRow base e size v n xs) (c : Nat) (hx : a.eval x = .slice none 0 c)
    (h : wpList P ops Q rest (a.put o.dst v) w) : wpList P ops Q (o :: rest) a w := by
  refine wpList_plain hgd fun K hK => ?_
  have hrun : (Builtin.append_ #[t, t] o.type #[v, .slice none 0 c]).run P w = .ok v w := by
    obtain ⟨_, ⟨rfl, rfl⟩ | ⟨g, cap, cur, rfl, _, _, hnc, _⟩⟩ := hown
    · simp [Builtin.append_, run_underlying ht, typeInfo, sizeOf, hi, Builtin.firstCells, Builtin.lenOf]
    · simp [Builtin.append_, run_underlying ht, typeInfo, sizeOf, hi, Builtin.firstCells, Builtin.lenOf, storeCells, hnc]
  unfold Oper.wp
  simp [execOp, ho, resolve, invoke, builtin, hs, hx, hrun, Result.andThen]
  exact hK _ _ h

set_option maxRecDepth 20000 in
set_option maxHeartbeats 400000 in
theorem l1Own_any (A : Option Addr) (xs : List Int) (c : Nat) (w : World) (hr : Ints w w.heap.size A xs) (hn : xs.length ≤ 1048576) :
    Calls Tryd.prog 113 #[.slice A xs.length c] w (GaveI' w xs) := by
  obtain ⟨i0, hi0, hz0, hz1, hz2⟩ := info_of Tryd.infoInt
  have hB0 : Below w.heap.size w (w.alloc (.cells #[] 3)) := by go_grown
  have HB0 := Lib.hid hB0; clear hB0
  have HR := Lib.hid (hr.keep HB0.out); clear hr
  have HE := Lib.hid (own_empty w)
  rcases A with _ | ad
  · have hx : xs = [] := by
      rcases xs with _ | ⟨x, xs⟩
      · rfl
      · obtain ⟨_, _, e, _⟩ := HR.out (by simp)
        cases e
    subst hx
    go_enter Tryd.func113, Tryd.ntmps113
    go_wp2_with (at_builtin
                 refine append_nil_at rfl (.tmp 3) (.tmp 4) _ rfl w.heap.size 3 i0 1 Tryd.underlying22 hi0 _ _ _ rfl HE.out c rfl ?_)
    go_ret
    exact ⟨_, _, rfl, .inl rfl, HB0.out⟩
  · have HN : Hid (∀ (j : Nat) (v : Value), (vals xs)[j]? = some v → (w.alloc (.cells #[] 3)).cell? (ad.add j) = some v) := fun j v hv => by
      have hp : 0 < xs.length := by have := (List.getElem?_eq_some_iff.1 hv).1; rw [vals_length] at this; omega
      obtain ⟨ad', e, h⟩ := HR.out.src hp
      injection e with e
      subst e
      exact h j v hv
    go_enter Tryd.func113, Tryd.ntmps113
    go_wp2_with (at_builtin
                 refine wpList_append_own _ rfl (.tmp 3) (.tmp 4) _ rfl w.heap.size 3 i0 _ 1 8 Tryd.underlying22 hi0 hz0 hz1 hz2 rfl (by omega) _ _ _ rfl HE.out ad xs.length c (vals xs) rfl (by rw [vals_length]; omega) HN.out (vals_one xs) (by unfold maxLen; omega) (by omega) (by simp) ?_
                 intro v' w' h1 h2 h3
                 have HO1 := Lib.hid h1
                 have HG1 := Lib.hid h2
                 clear h1 h2 h3)
    have h1 := HO1.out
    rw [List.nil_append] at h1
    obtain ⟨A', c', rfl, hO⟩ := ownI_of_row (ys := xs) h1
    go_ret
    exact ⟨A', c', rfl, hO, HB0.out.grown HG1.out HB0.out.size fun k hk => (HE.out.lt k hk).1⟩

theorem Save.drew {S : Nat → Prop} {a w : World} (h : Save S a w) : Save S a w.drew := ⟨h.os, h.tape, h.output, h.size, h.block⟩

theorem val_int {a b : Int} (h : a = b) : Value.int .i64 a = .int .i64 b := by rw [h]

end Go.Proofs.YtfbpcdmpkbjifaaDoor

/- Steps of a walk: a slice cut at either end, and appended to a slice of the call's own, wherever it lies. -/

namespace Go.Proofs.YtfbpcdmpkbjifaaDoor
open Go.RowKit

section
variable {P : Program} {ops : Array Oper} {Q : Exit → Act → World → Prop} {a : Act} {w : World} {rest : List Oper} {o : Oper}

/-- l[k:] -/
theorem wpList_from (hg : o.guard = none) (t : TypeId) (x i : Operand) (ho : o.op = .slice t x (some i) none none) (e : TypeId) (ht : P.underlying t = some (.slice e)) (hs : (P.info? e).map (·.size) = some 1) (A : Option Addr) (n c k : Nat) (hx : a.eval x = .slice A n c) (hi : a.eval i = .int .i64 k) (hk : k ≤ n)
    (h : ∀ A', (∀ b q, A = some ⟨b, q, none⟩ → k < c → A' = some ⟨b, q + k, none⟩) → (A = none → A' = none) → wpList P ops Q rest (a.put o.dst (.slice A' (n - k) (c - k))) w) : wpList P ops Q (o :: rest) a w := by
  refine wpList_plain hg fun K hK => ?_
  unfold Oper.wp
  cases hq : P.info? e with
  | none => simp [hq] at hs
  | some j =>
    have hz : j.size = 1 := by simpa [hq] using hs
    have h1 : (k : Int) ≤ (n : Int) := by omega
    have hrun : (Instr.slice t (.slice A n c) (some (.int .i64 k)) none none).run P w = .ok (.slice (if c = k then A else A.map (·.add k)) (n - k) (c - k)) w := by
      simp [Instr.slice, run_underlying ht, Instr.sliceBounds, Instr.sliceBound, asIntOf, sizeOf, typeInfo, hq, hz, hk]
    have hex : (execOp a.eval o).run P w = .ok (.value (.slice (if c = k then A else A.map (·.add k)) (n - k) (c - k))) w := by
      simp [execOp, ho, hx, hi, Instr.sliceAt, run_underlying ht, hrun, Result.andThen]
    rw [hex]
    refine hK _ _ (h _ (fun b q e h2 => ?_) (fun e => ?_))
    · rw [if_neg (by omega), e]
      simp [Go.WideShapes.add_plain]
    · rw [e]; split <;> rfl

/-- l[:k] -/
theorem wpList_upto (hg : o.guard = none) (t : TypeId) (x i : Operand) (ho : o.op = .slice t x none (some i) none) (e : TypeId) (ht : P.underlying t = some (.slice e)) (hs : (P.info? e).map (·.size) = some 1) (A : Option Addr) (hA : A = none ∨ ∃ b q, A = some ⟨b, q, none⟩) (n c k : Nat) (hx : a.eval x = .slice A n c) (hi : a.eval i = .int .i64 k) (hk : k ≤ c)
    (h : wpList P ops Q rest (a.put o.dst (.slice A k c)) w) : wpList P ops Q (o :: rest) a w := by
  refine wpList_plain hg fun K hK => ?_
  unfold Oper.wp
  cases hq : P.info? e with
  | none => simp [hq] at hs
  | some j =>
    have hAA : A.map (·.add 0) = A := by
      rcases hA with rfl | ⟨b, q, rfl⟩
      · rfl
      · simp [Go.WideShapes.add_plain]
    have hrun : (Instr.slice t (.slice A n c) none (some (.int .i64 k)) none).run P w = .ok (.slice A k c) w := by
      have h2 : (if c = 0 then A else A.map (·.add 0)) = A := by rw [hAA]; split <;> rfl
      simp [Instr.slice, run_underlying ht, Instr.sliceBounds, Instr.sliceBound, asIntOf, sizeOf, typeInfo, hq, hk, h2]
    have hex : (execOp a.eval o).run P w = .ok (.value (.slice A k c)) w := by
      simp [execOp, ho, hx, hi, Instr.sliceAt, run_underlying ht, hrun, Result.andThen]
    rw [hex]
    exact hK _ _ h

/-- append of whatever slice. -/
theorem wpList_app (hgd : o.guard = none) (s x : Operand) (t : TypeId) (ho : o.op = .call { callee := .builtin .append, args := #[s, x], argTypes := #[t, t] })
    (base : Nat) (e : TypeId) (i : TypeInfo) (z : Value) (size bytes : Nat) (ht : P.underlying t = some (.slice e)) (hi : P.info? e = some i) (hz : i.zero = some z) (hsize : i.size = size) (hby : i.bytes = bytes) (hzs : z.cells.size = size) (hsz : 0 < size)
    (v : Value) (n : Nat) (xs : List Value) (hs : a.eval s = v) (hown : w.ownsRow base e size v n xs) (ao : Option Addr) (m c : Nat) (news : List Value) (hx : a.eval x = .slice ao m c) (hl : news.length = m * size)
    (hnews : 0 < m → ∃ ad, ao = some ad ∧ ∀ (j : Nat) (u : Value), news[j]? = some u → w.cell? (ad.add j) = some u) (h1 : ∀ u ∈ news, u.oneCell' = true) (h63 : n + m ≤ maxLen) (hbytes : (n + m) * bytes ≤ 140737488355328) (hbase : base ≤ w.heap.size)
    (h : ∀ v' w', w'.ownsRow base e size v' (n + m) (xs ++ news) → w.grownBy w' v.ownBlock → wpList P ops Q rest (a.put o.dst v') w') : wpList P ops Q (o :: rest) a w := by
  have hnil : m = 0 → news = [] := fun e => List.eq_nil_of_length_eq_zero (by rw [hl, e, Nat.zero_mul])
  rcases ao with _ | ad
  · have hm : m = 0 := by
      apply Classical.byContradiction
      intro hc
      obtain ⟨ad, e, _⟩ := hnews (by omega)
      cases e
    have hn := hnil hm
    subst hm hn
    exact append_nil_at hgd s x t ho base e i size ht hi v n xs hs hown c hx (h v w (by simpa using hown) (World.grownBy.refl _ _))
  · refine wpList_append_own w hgd s x t ho base e i z size bytes ht hi hz hsize hby hzs hsz v n xs hs hown ad m c news hx hl (fun j u hu => ?_) h1 h63 hbytes hbase fun v' w' p1 p2 _ => h v' w' p1 p2
    have hm : 0 < m := by
      apply Classical.byContradiction
      intro hc
      rw [hnil (by omega)] at hu
      simp at hu
    obtain ⟨ad', e', hh⟩ := hnews hm
    injection e' with e'
    subst e'
    exact hh j u hu
end

end Go.Proofs.YtfbpcdmpkbjifaaDoor

/- Rows of rules that the call itself makes: owned, read as a list, appended to. -/

namespace Go.Proofs.YtfbpcdmpkbjifaaDoor
open Go.RowKit

def cellsU (u : Ru) : List Value := [.int .i64 u.l, .slice u.a u.r.length u.c]

theorem flat_get : ∀ {ds : List Ru} {k : Nat} {u : Ru}, ds[k]? = some u → (ds.flatMap cellsU)[k * 2]? = some (.int .i64 u.l) ∧ (ds.flatMap cellsU)[k * 2 + 1]? = some (.slice u.a u.r.length u.c)
  | [], k, u, h => by simp at h
  | d :: ds, 0, u, h => by
    simp at h
    subst h
    simp [cellsU]
  | d :: ds, k + 1, u, h => by
    have ih := flat_get (ds := ds) (k := k) (u := u) (by simpa using h)
    have e1 : (k + 1) * 2 = k * 2 + 1 + 1 := by omega
    have e2 : (k + 1) * 2 + 1 = k * 2 + 1 + 1 + 1 := by omega
    rw [e1]
    simpa [cellsU] using ih

theorem flat_length (ds : List Ru) : (ds.flatMap cellsU).length = ds.length * 2 := by
  induction ds with
  | nil => rfl
  | cons d ds ih => rw [List.flatMap_cons, List.length_append, ih]; simp [cellsU]; omega

theorem own_below {w w' : World} {base : Nat} {e : TypeId} {size n : Nat} {v : Value} {xs : List Value} (h : w.ownsRow base e size v n xs) (hb : Below w.heap.size w w') : w'.ownsRow base e size v n xs := by
  obtain ⟨h1, h2 | ⟨g, cap, cur, h3, h4, h5, h6⟩⟩ := h
  · exact ⟨h1, .inl h2⟩
  · exact ⟨h1, .inr ⟨g, cap, cur, h3, h4, (hb.block g (Row.lt (t := e) h5)).trans h5, h6⟩⟩

/-- A right side lies apart from a row of rules that is appended to. -/
theorem OwnI.grown {w w' : World} {lo base n : Nat} {A : Option Addr} {xs : List Int} {v : Value} {cs : List Value} (h : OwnI w lo A xs) (hv : w.ownsRow base 166 2 v n cs) (hg : w.grownBy w' v.ownBlock) : OwnI w' lo A xs := by
  rcases h with h | ⟨g, rc, e, hl, hr, hc⟩
  · exact .inl h
  · refine .inr ⟨g, rc, e, hl, (hg.block g hr.lt fun hb => ?_).trans hr, hc⟩
    obtain ⟨_, ⟨rfl, _⟩ | ⟨g', cap, cur, rfl, _, h5, _⟩⟩ := hv
    · cases hb
    · injection hb with hb
      subst hb
      exact hr.ne (t' := 166) (cs' := cur) h5 (by decide) rfl

theorem ownR_of_row {w : World} {lo k : Nat} {v : Value} {ds : List Ru} (h1 : ds.length = k) (h2 : w.ownsRow lo 166 2 v k (ds.flatMap cellsU)) (h4 : ∀ (j : Nat) (u : Ru), ds[j]? = some u → OwnI w lo u.a u.r)
    (h5 : ∀ (i j : Nat) (u v : Ru), ds[i]? = some u → ds[j]? = some v → i ≠ j → u.r ≠ [] → v.r ≠ [] → u.a ≠ v.a) : ∃ A c, v = .slice A ds.length c ∧ ds.length ≤ c ∧ OwnR w lo A ds := by
  subst h1
  obtain ⟨_, ⟨rfl, h0⟩ | ⟨g, cap, cur, rfl, hlo, hg, hcap, _, _, hx⟩⟩ := h2
  · have : ds = [] := List.eq_nil_of_length_eq_zero h0
    subst this
    exact ⟨none, 0, rfl, Nat.le_refl _, .inl rfl⟩
  · refine ⟨_, cap, rfl, hcap, .inr ⟨g, cur, rfl, hlo, hg, fun k u hu => ?_, h5⟩⟩
    have hk := (List.getElem?_eq_some_iff.1 hu).1
    obtain ⟨f1, f2⟩ := flat_get hu
    rw [← hx] at f1 f2
    rw [List.getElem?_take, if_pos (by omega)] at f1 f2
    exact ⟨by simpa using f1, by simpa using f2, h4 k u hu⟩

theorem two_new (w : World) (x y : Value) (t : TypeId) : ∀ j u, [x, y][j]? = some u → (w.alloc (.cells #[x, y] t)).cell? ((⟨w.heap.size, 0, none⟩ : Addr).add j) = some u := by
  intro j u h
  rw [Go.WideShapes.add_plain, Nat.zero_add]
  rcases j with _ | _ | j
  · simpa [go_sem] using h
  · simpa [go_sem] using h
  · simp at h

/-- The slice v of rules is the call's own and reads as ds; each right side is the call's own, and no two lie in one block. -/
structure RulesW (w : World) (lo : Nat) (v : Value) (ds : List Ru) : Prop where
  row : w.ownsRow lo 166 2 v ds.length (ds.flatMap cellsU)
  rts : ∀ (j : Nat) (u : Ru), ds[j]? = some u → OwnI w lo u.a u.r
  far : ∀ (i j : Nat) (u v : Ru), ds[i]? = some u → ds[j]? = some v → i ≠ j → u.r ≠ [] → v.r ≠ [] → u.a ≠ v.a

theorem RulesW.start (w : World) (lo : Nat) : RulesW w lo (.slice none 0 0) [] := ⟨⟨rfl, .inl ⟨rfl, rfl⟩⟩, fun j u h => by simp at h, fun i j u v h => by simp at h⟩
theorem RulesW.keep {w w' : World} {lo : Nat} {v : Value} {ds : List Ru} (h : RulesW w lo v ds) (hb : Below w.heap.size w w') : RulesW w' lo v ds :=
  ⟨own_below h.row hb, fun j x hx => (h.rts j x hx).below hb (Nat.le_refl _), h.far⟩
theorem RulesW.low {w : World} {lo : Nat} {v : Value} {ds : List Ru} (h : RulesW w lo v ds) {p : Addr} (hp : p.block < lo) (u : Value) : RulesW (w.setCell p u) lo v ds :=
  ⟨ownsRow_setCell_below h.row hp u, fun j x hx => (h.rts j x hx).low hp u, h.far⟩
theorem RulesW.slice {w : World} {lo : Nat} {v : Value} {ds : List Ru} (h : RulesW w lo v ds) : ∃ A c, v = .slice A ds.length c ∧ ds.length ≤ c ∧ OwnR w lo A ds := ownR_of_row rfl h.row h.rts h.far
/-- Blocks below lo may turn. -/
theorem RulesW.save {S : Nat → Prop} {w w' : World} {lo : Nat} {v : Value} {ds : List Ru} (h : RulesW w lo v ds) (hs : Save S w w') (hS : ∀ b, lo ≤ b → ¬ S b) : RulesW w' lo v ds := by
  refine ⟨?_, fun j x hx => (h.rts j x hx).save hs fun g e hn => ?_, h.far⟩
  · obtain ⟨hl, h1 | ⟨g, cap, cur, e1, hlo, hg, e2, e3, e4, e5⟩⟩ := h.row
    · exact ⟨hl, .inl h1⟩
    · exact ⟨hl, .inr ⟨g, cap, cur, e1, hlo, (hs.block g (Row.lt hg) (hS g hlo)).trans hg, e2, e3, e4, e5⟩⟩
  · rcases h.rts j x hx with h6 | ⟨g1, _, e1, hl, _⟩
    · exact absurd h6 hn
    · have := e.symm.trans e1
      injection this with this
      injection this with this
      subst this
      exact hS g hl

theorem last_of {ds : List Ru} {x : Ru} {i : Nat} {u : Ru} (hi : ¬ i < ds.length) (hu : (ds ++ [x])[i]? = some u) : i = ds.length ∧ u = x := by
  rw [List.getElem?_append_right (by omega)] at hu
  have hj : i - ds.length = 0 := by
    rcases Nat.eq_zero_or_pos (i - ds.length) with h0 | h0
    · exact h0
    · rw [List.getElem?_eq_none (by simp; omega)] at hu; cases hu
  rw [hj] at hu
  simp at hu
  exact ⟨by omega, hu.symm⟩

/-- A rule is appended: its right side lies apart from all that are there. -/
theorem RulesW.step {w w2 : World} {lo : Nat} {v v' : Value} {ds : List Ru} {l : Int} {A : Option Addr} {xs : List Int} {c : Nat} (h : RulesW w lo v ds) (hO : OwnI w lo A xs)
    (hap : ∀ (j : Nat) (u : Ru), ds[j]? = some u → u.r ≠ [] → xs ≠ [] → u.a ≠ A)
    (ho : w2.ownsRow lo 166 2 v' (ds.length + 1) (ds.flatMap cellsU ++ [.int .i64 l, .slice A xs.length c])) (hg : w.grownBy w2 v.ownBlock) : RulesW w2 lo v' (ds ++ [⟨l, A, xs, c⟩]) := by
  refine ⟨?_, ?_, ?_⟩
  · rw [List.length_append, List.flatMap_append]
    simpa [cellsU] using ho
  · intro j u hu
    by_cases e : j < ds.length
    · rw [List.getElem?_append_left (by omega)] at hu
      exact (h.rts j u hu).grown h.row hg
    · obtain ⟨_, rfl⟩ := last_of e hu
      exact hO.grown h.row hg
  · intro i j u v hu hv hij hun hvn
    by_cases hi : i < ds.length <;> by_cases hj : j < ds.length
    · rw [List.getElem?_append_left (by omega)] at hu hv
      exact h.far i j u v hu hv hij hun hvn
    · obtain ⟨rfl, rfl⟩ := last_of hj hv
      rw [List.getElem?_append_left (by omega)] at hu
      exact hap i u hu hun hvn
    · obtain ⟨rfl, rfl⟩ := last_of hi hu
      rw [List.getElem?_append_left (by omega)] at hv
      exact fun e => hap j v hv hvn hun e.symm
    · have := (last_of hi hu).1; have := (last_of hj hv).1; omega

/-- A right side that was made later lies apart. -/
theorem RulesW.apart {w w1 : World} {lo : Nat} {v : Value} {ds : List Ru} {A : Option Addr} {xs : List Int} (h : RulesW w lo v ds) (hO : OwnI w1 w.heap.size A xs) : ∀ (j : Nat) (u : Ru), ds[j]? = some u → u.r ≠ [] → xs ≠ [] → u.a ≠ A := by
  intro j u hu hne hne' he
  rcases h.rts j u hu with h6 | ⟨g1, _, e1, _, r1, _⟩
  · exact hne h6
  · rcases hO with h7 | ⟨g2, _, e2, l2, _, _⟩
    · exact hne' h7
    · rw [e1, e2] at he
      have := r1.lt
      injection he with he
      injection he with he
      omega

end Go.Proofs.YtfbpcdmpkbjifaaDoor

/- A slice of lists that a call makes by appending new lists to it. -/

namespace Go.Proofs.YtfbpcdmpkbjifaaDoor
open Go.RowKit

def cellsL (u : Li) : Value := .slice u.a u.r.length u.c

/-- The slice v of lists is the call's own and reads as ds; each list is the call's own, and no two lie in one block. -/
structure ListsW (w : World) (lo : Nat) (v : Value) (ds : List Li) : Prop where
  row : w.ownsRow lo 22 1 v ds.length (ds.map cellsL)
  caps : ∀ (j : Nat) (u : Li), ds[j]? = some u → u.r.length ≤ u.c
  rts : ∀ (j : Nat) (u : Li), ds[j]? = some u → OwnI w lo u.a u.r
  far : ∀ (i j : Nat) (u v : Li), ds[i]? = some u → ds[j]? = some v → i ≠ j → u.r ≠ [] → v.r ≠ [] → u.a ≠ v.a

theorem ListsW.start (w : World) (lo : Nat) : ListsW w lo (.slice none 0 0) [] := ⟨⟨rfl, .inl ⟨rfl, rfl⟩⟩, fun j u h => by simp at h, fun j u h => by simp at h, fun i j u v h => by simp at h⟩
theorem ListsW.keep {w w' : World} {lo : Nat} {v : Value} {ds : List Li} (h : ListsW w lo v ds) (hb : Below w.heap.size w w') : ListsW w' lo v ds :=
  ⟨own_below h.row hb, h.caps, fun j x hx => (h.rts j x hx).below hb (Nat.le_refl _), h.far⟩
theorem ListsW.low {w : World} {lo : Nat} {v : Value} {ds : List Li} (h : ListsW w lo v ds) {p : Addr} (hp : p.block < lo) (u : Value) : ListsW (w.setCell p u) lo v ds :=
  ⟨ownsRow_setCell_below h.row hp u, h.caps, fun j x hx => (h.rts j x hx).low hp u, h.far⟩
theorem ListsW.lt {w : World} {lo : Nat} {v : Value} {ds : List Li} (h : ListsW w lo v ds) (b : Nat) (e : v.ownBlock = some b) : lo ≤ b ∧ b < w.heap.size := h.row.lt b e

theorem ListsW.slice {w : World} {lo : Nat} {v : Value} {ds : List Li} (h : ListsW w lo v ds) : ∃ A c, v = .slice A ds.length c ∧ ds.length ≤ c ∧ OwnL w lo A ds := by
  obtain ⟨_, ⟨rfl, h0⟩ | ⟨g, cap, cur, rfl, hlo, hg, hcap, _, _, hx⟩⟩ := h.row
  · have : ds = [] := List.eq_nil_of_length_eq_zero h0
    subst this
    exact ⟨none, 0, rfl, Nat.le_refl _, .inl rfl⟩
  · refine ⟨_, cap, rfl, hcap, .inr ⟨g, cur, rfl, hlo, hg, fun k u hu => ?_, h.far⟩⟩
    have hk := (List.getElem?_eq_some_iff.1 hu).1
    have f1 : (ds.map cellsL)[k]? = some (cellsL u) := by rw [List.getElem?_map, hu]; rfl
    rw [← hx, List.getElem?_take, if_pos (by omega)] at f1
    exact ⟨by simpa [cellsL] using f1, h.caps k u hu, h.rts k u hu⟩

/-- A list lies apart from a row of lists that is appended to. -/
theorem OwnI.grownL {w w' : World} {lo base n : Nat} {A : Option Addr} {xs : List Int} {v : Value} {cs : List Value} (h : OwnI w lo A xs) (hv : w.ownsRow base 22 1 v n cs) (hg : w.grownBy w' v.ownBlock) : OwnI w' lo A xs := by
  rcases h with h | ⟨g, rc, e, hl, hr, hc⟩
  · exact .inl h
  · refine .inr ⟨g, rc, e, hl, (hg.block g hr.lt fun hb => ?_).trans hr, hc⟩
    obtain ⟨_, ⟨rfl, _⟩ | ⟨g', cap, cur, rfl, _, h5, _⟩⟩ := hv
    · cases hb
    · injection hb with hb
      subst hb
      exact hr.ne (t' := 22) h5 (by decide) rfl

theorem ListsW.step {w w2 : World} {lo : Nat} {v v' : Value} {ds : List Li} {A : Option Addr} {xs : List Int} {c : Nat} (h : ListsW w lo v ds) (hO : OwnI w lo A xs) (hcap : xs.length ≤ c)
    (hap : ∀ (j : Nat) (u : Li), ds[j]? = some u → u.r ≠ [] → xs ≠ [] → u.a ≠ A)
    (ho : w2.ownsRow lo 22 1 v' (ds.length + 1) (ds.map cellsL ++ [.slice A xs.length c])) (hg : w.grownBy w2 v.ownBlock) : ListsW w2 lo v' (ds ++ [⟨A, xs, c⟩]) := by
  refine ⟨?_, ?_, ?_, ?_⟩
  · rw [List.length_append, List.map_append]
    simpa [cellsL] using ho
  · intro j u hu
    rcases getElem?_snoc hu with ⟨_, hu⟩ | ⟨_, rfl⟩
    · exact h.caps j u hu
    · exact hcap
  · intro j u hu
    rcases getElem?_snoc hu with ⟨_, hu⟩ | ⟨_, rfl⟩
    · exact (h.rts j u hu).grownL h.row hg
    · exact hO.grownL h.row hg
  · intro i j u v hu hv hij hun hvn
    rcases getElem?_snoc hu with ⟨_, hu⟩ | ⟨hi, rfl⟩ <;> rcases getElem?_snoc hv with ⟨_, hv⟩ | ⟨hj, rfl⟩
    · exact h.far i j u v hu hv hij hun hvn
    · exact hap i u hu hun hvn
    · exact fun e => hap j v hv hvn hun e.symm
    · omega

/-- A list that was made later lies apart. -/
theorem ListsW.apart {w w1 : World} {lo : Nat} {v : Value} {ds : List Li} {A : Option Addr} {xs : List Int} (h : ListsW w lo v ds) (hO : OwnI w1 w.heap.size A xs) : ∀ (j : Nat) (u : Li), ds[j]? = some u → u.r ≠ [] → xs ≠ [] → u.a ≠ A := by
  intro j u hu hne hne' he
  rcases h.rts j u hu with h6 | ⟨g1, _, e1, _, r1, _⟩
  · exact hne h6
  · rcases hO with h7 | ⟨g2, _, e2, l2, _, _⟩
    · exact hne' h7
    · rw [e1, e2] at he
      have := r1.lt
      injection he with he
      injection he with he
      omega

theorem own_new3 (w : World) (a b c : Int) : OwnI (w.alloc (.cells #[.int .i64 a, .int .i64 b, .int .i64 c] 3)) w.heap.size (some ⟨w.heap.size, 0, none⟩) [a, b, c] := by
  refine .inr ⟨w.heap.size, _, rfl, Nat.le_refl _, Row.new _ _ _, fun k x hx => ?_⟩
  rcases k with _ | _ | _ | k
  · simpa using hx
  · simpa using hx
  · simpa using hx
  · simp at hx

theorem list_one_new (w : World) (o : Obj) (x : Value) (t : TypeId) : ∀ j u, [x][j]? = some u → ((w.alloc o).alloc (.cells #[x] t)).cell? ((⟨w.heap.size + 1, 0, none⟩ : Addr).add j) = some u := by
  intro j u h
  rw [Go.WideShapes.add_plain, Nat.zero_add]
  rcases j with _ | j
  · simpa [go_sem] using h
  · simp at h

/-- Three numbers, made into a list and appended. -/
theorem ListsW.push3 {w w2 : World} {lo : Nat} {v v' : Value} {ds : List Li} {a b c : Int} {o : Obj} (h : ListsW w lo v ds) (hlo : lo ≤ w.heap.size)
    (ho : w2.ownsRow lo 22 1 v' (ds.length + 1) (ds.map cellsL ++ [.slice (some ⟨w.heap.size, 0, none⟩) 3 3])) (hg : ((w.alloc (.cells #[.int .i64 a, .int .i64 b, .int .i64 c] 3)).alloc o).grownBy w2 v.ownBlock) :
    ListsW w2 lo v' (ds ++ [⟨some ⟨w.heap.size, 0, none⟩, [a, b, c], 3⟩]) := by
  have hB1 : Below w.heap.size w (w.alloc (.cells #[.int .i64 a, .int .i64 b, .int .i64 c] 3)) := (Below.refl _ _).alloc (Nat.le_refl _) _
  have hB2 : Below (w.alloc (.cells #[.int .i64 a, .int .i64 b, .int .i64 c] 3)).heap.size (w.alloc (.cells #[.int .i64 a, .int .i64 b, .int .i64 c] 3)) ((w.alloc (.cells #[.int .i64 a, .int .i64 b, .int .i64 c] 3)).alloc o) := (Below.refl _ _).alloc (Nat.le_refl _) _
  have hO := (own_new3 w a b c).below hB2 (Nat.le_refl _)
  exact ((h.keep hB1).keep hB2).step (hO.lower hlo) (Nat.le_refl _) (h.apart hO) ho hg

end Go.Proofs.YtfbpcdmpkbjifaaDoor

/- What derives what, plainly. -/

namespace Go.Proofs.YtfbpcdmpkbjifaaDoor

/-- One symbol derives the part from i on ahead of j, where D tells it of the nonterminals. -/
def SymD (D : Int → Nat → Nat → Prop) (ws : List Int) (x : Int) (i j : Nat) : Prop := (x < 0 ∧ j = i + 1 ∧ ws[i]? = some (-1 - x)) ∨ (0 ≤ x ∧ D x i j)
/-- .. and symbols, one behind the other. -/
def SeqD (D : Int → Nat → Nat → Prop) (ws : List Int) : List Int → Nat → Nat → Prop
  | [], i, j => i = j
  | x :: xs, i, j => ∃ m, SymD D ws x i m ∧ SeqD D ws xs m j
theorem SymD.mono {D E : Int → Nat → Nat → Prop} {ws : List Int} (h : ∀ x i j, D x i j → E x i j) {x : Int} {i j : Nat} (k : SymD D ws x i j) : SymD E ws x i j := k.imp id fun k => ⟨k.1, h _ _ _ k.2⟩
theorem SeqD.mono {D E : Int → Nat → Nat → Prop} {ws : List Int} (h : ∀ x i j, D x i j → E x i j) {xs : List Int} {i j : Nat} (k : SeqD D ws xs i j) : SeqD E ws xs i j := by
  induction xs generalizing i with
  | nil => exact k
  | cons x xs ih =>
    obtain ⟨m, k1, k2⟩ := k
    exact ⟨m, k1.mono h, ih k2⟩
theorem seqD_snoc {D : Int → Nat → Nat → Prop} {ws : List Int} {xs : List Int} {x : Int} {i j : Nat} : SeqD D ws (xs ++ [x]) i j ↔ ∃ m, SeqD D ws xs i m ∧ SymD D ws x m j := by
  induction xs generalizing i with
  | nil =>
    constructor
    · rintro ⟨m, k1, k2⟩
      have k3 : m = j := k2
      subst k3
      exact ⟨i, rfl, k1⟩
    · rintro ⟨m, k1, k2⟩
      have k3 : i = m := k1
      subst k3
      exact ⟨j, k2, rfl⟩
  | cons y ys ih =>
    constructor
    · rintro ⟨m, k1, k2⟩
      obtain ⟨m', k3, k4⟩ := ih.1 k2
      exact ⟨m', ⟨m, k1, k3⟩, k4⟩
    · rintro ⟨m', ⟨m, k1, k3⟩, k4⟩
      exact ⟨m, k1, ih.2 ⟨m', k3, k4⟩⟩
theorem take_snoc {xs : List Int} {k : Nat} (h : k < xs.length) : xs.take (k + 1) = xs.take k ++ [xs[k]] := by
  rw [List.take_add_one, List.getElem?_eq_getElem h]; rfl
theorem seqD_take {D : Int → Nat → Nat → Prop} {ws : List Int} {xs : List Int} {k : Nat} (h : k < xs.length) {i j : Nat} : SeqD D ws (xs.take (k + 1)) i j ↔ ∃ m, SeqD D ws (xs.take k) i m ∧ SymD D ws xs[k] m j := by
  rw [take_snoc h]; exact seqD_snoc

/-- What D tells is closed under the rules. -/
def ClosedD (rs : List (Int × List Int)) (ws : List Int) (D : Int → Nat → Nat → Prop) : Prop := ∀ r ∈ rs, ∀ i j, i ≤ ws.length → SeqD D ws r.2 i j → D r.1 i j
/-- What is derived. -/
def Der (rs : List (Int × List Int)) (ws : List Int) (x : Int) (i j : Nat) : Prop := ∀ D, ClosedD rs ws D → D x i j
theorem der_closed (rs : List (Int × List Int)) (ws : List Int) : ClosedD rs ws (Der rs ws) := fun r hr i j hi k D hD => hD r hr i j hi (k.mono fun _ _ _ h => h D hD)
/-- What D tells lies in the word. -/
def InD (n : Nat) (D : Int → Nat → Nat → Prop) : Prop := ∀ x i j, D x i j → i ≤ j ∧ j ≤ n
theorem InD.sym {ws : List Int} {D : Int → Nat → Nat → Prop} (h : InD ws.length D) {x : Int} {i j : Nat} (k : SymD D ws x i j) : i ≤ j ∧ j ≤ ws.length := by
  rcases k with ⟨_, k2, k3⟩ | ⟨_, k⟩
  · have := (List.getElem?_eq_some_iff.1 k3).1; omega
  · exact h _ _ _ k
theorem InD.seq {ws : List Int} {D : Int → Nat → Nat → Prop} (h : InD ws.length D) {xs : List Int} {i j : Nat} (hi : i ≤ ws.length) (k : SeqD D ws xs i j) : i ≤ j ∧ j ≤ ws.length := by
  induction xs generalizing i with
  | nil => have k1 : i = j := k; omega
  | cons x xs ih =>
    obtain ⟨m, k1, k2⟩ := k
    have := h.sym k1
    have := ih this.2 k2
    omega
theorem der_in (rs : List (Int × List Int)) (ws : List Int) : InD ws.length (Der rs ws) := fun _ _ _ h => h (fun _ i j => i ≤ j ∧ j ≤ ws.length) fun _ _ _ _ hi k => InD.seq (D := fun _ i j => i ≤ j ∧ j ≤ ws.length) (fun _ _ _ h => h) hi k
/-- What is derived is derived by a rule. -/
theorem der_rule {rs : List (Int × List Int)} {ws : List Int} {x : Int} {i j : Nat} : Der rs ws x i j ↔ ∃ r ∈ rs, r.1 = x ∧ i ≤ ws.length ∧ SeqD (Der rs ws) ws r.2 i j := by
  constructor
  · intro h
    refine h (fun x i j => ∃ r ∈ rs, r.1 = x ∧ i ≤ ws.length ∧ SeqD (Der rs ws) ws r.2 i j) fun r hr i j hi k => ⟨r, hr, rfl, hi, k.mono ?_⟩
    rintro x i j ⟨r, hr, rfl, hi, k⟩
    exact der_closed rs ws r hr i j hi k
  · rintro ⟨r, hr, rfl, hi, k⟩
    exact der_closed rs ws r hr i j hi k
/-- A table that tells derived parts alone, and is closed. -/
theorem der_eq {rs : List (Int × List Int)} {ws : List Int} {D : Int → Nat → Nat → Prop} (hs : ∀ x i j, D x i j → Der rs ws x i j) (hc : ClosedD rs ws D) {x : Int} {i j : Nat} : D x i j ↔ Der rs ws x i j := ⟨hs x i j, fun h => h D hc⟩
/-- One step keeps a table sound. -/
theorem der_step {rs : List (Int × List Int)} {ws : List Int} {D : Int → Nat → Nat → Prop} (hs : ∀ x i j, D x i j → Der rs ws x i j) {r : Int × List Int} (hr : r ∈ rs) {i j : Nat} (hi : i ≤ ws.length) (k : SeqD D ws r.2 i j) : Der rs ws r.1 i j := der_closed rs ws r hr i j hi (k.mono hs)

end Go.Proofs.YtfbpcdmpkbjifaaDoor

/- Sets of places as masks, and the program's table of them. -/

namespace Go.Proofs.YtfbpcdmpkbjifaaDoor

/-- What a table of masks tells. -/
def DK (K : Nat → Nat → Nat) : Int → Nat → Nat → Prop := fun x i j => 0 ≤ x ∧ (K x.toNat i).testBit j = true
/-- A mask has just the places of P. -/
def Msk (m : Nat) (P : Nat → Prop) : Prop := m < 2048 ∧ ∀ j, m.testBit j = true ↔ P j
theorem Msk.lt {m : Nat} {P : Nat → Prop} (h : Msk m P) {j : Nat} (k : P j) : j < 11 := by
  have h1 := (h.2 j).2 k
  by_cases e : j < 11
  · exact e
  · have : m < 2 ^ j := Nat.lt_of_lt_of_le h.1 (show 2048 ≤ 2 ^ j from (Nat.pow_le_pow_right (by decide) (by omega) : 2 ^ 11 ≤ 2 ^ j))
    rw [Nat.testBit_lt_two_pow this] at h1
    cases h1
theorem Msk.congr {m : Nat} {P Q : Nat → Prop} (h : Msk m P) (e : ∀ j, P j ↔ Q j) : Msk m Q := ⟨h.1, fun j => (h.2 j).trans (e j)⟩
theorem msk_no : Msk 0 fun _ => False := ⟨by decide, fun j => by simp⟩
theorem msk_one {a : Nat} (h : a < 11) : Msk (2 ^ a) fun j => j = a := ⟨Nat.pow_lt_pow_right (by decide) h, fun j => by rw [Nat.testBit_two_pow]; simp [eq_comm]⟩
theorem or_lt {a b : Nat} (ha : a < 2048) (hb : b < 2048) : a ||| b < 2048 := Nat.or_lt_two_pow (n := 11) ha hb
theorem Msk.or {a b : Nat} {P Q : Nat → Prop} (h : Msk a P) (k : Msk b Q) : Msk (a ||| b) fun j => P j ∨ Q j := ⟨or_lt h.1 k.1, fun j => by rw [Nat.testBit_or, Bool.or_eq_true]; exact or_congr (h.2 j) (k.2 j)⟩
theorem bit_and {m a : Nat} : m &&& 2 ^ a = 0 ↔ m.testBit a = false := by
  constructor
  · intro h
    have h1 : (m &&& 2 ^ a).testBit a = false := by rw [h]; simp
    rw [Nat.testBit_and, Nat.testBit_two_pow] at h1
    simpa using h1
  · intro h
    apply Nat.eq_of_testBit_eq
    intro i
    rw [Nat.testBit_and, Nat.testBit_two_pow]
    by_cases e : a = i
    · subst e; simp [h]
    · simp [e]
theorem le_or {a b : Nat} : a ≤ a ||| b := Nat.left_le_or
theorem or_self_of {a b : Nat} (h : ∀ j, b.testBit j = true → a.testBit j = true) : a ||| b = a := by
  apply Nat.eq_of_testBit_eq
  intro i
  rw [Nat.testBit_or]
  cases e : b.testBit i
  · simp
  · rw [h i e]; rfl

/-- A table with one mask put in. -/
def setK (K : Nat → Nat → Nat) (a b v : Nat) : Nat → Nat → Nat := fun x i => if x = a ∧ i = b then v else K x i
theorem setK_at {K : Nat → Nat → Nat} {a b v : Nat} : setK K a b v a b = v := if_pos ⟨rfl, rfl⟩
theorem setK_far {K : Nat → Nat → Nat} {a b v x i : Nat} (h : ¬ (x = a ∧ i = b)) : setK K a b v x i = K x i := if_neg h
theorem setK_same {K : Nat → Nat → Nat} {a b v : Nat} (h : v = K a b) : setK K a b v = K := by
  funext x i
  unfold setK
  split
  · rename_i e; obtain ⟨rfl, rfl⟩ := e; exact h
  · rfl
/-- How much a table holds. -/
def sumTo (f : Nat → Nat) : Nat → Nat
  | 0 => 0
  | n + 1 => sumTo f n + f n
theorem sumTo_le {f g : Nat → Nat} {n : Nat} (h : ∀ i, i < n → f i ≤ g i) : sumTo f n ≤ sumTo g n := by
  induction n with
  | zero => exact Nat.le_refl _
  | succ n ih => have := ih fun i hi => h i (by omega); have := h n (by omega); unfold sumTo; omega
theorem sumTo_lt {f g : Nat → Nat} {n k : Nat} (h : ∀ i, i < n → f i ≤ g i) (hk : k < n) (hl : f k < g k) : sumTo f n < sumTo g n := by
  induction n with
  | zero => omega
  | succ n ih =>
    unfold sumTo
    have h1 := h n (by omega)
    by_cases e : k = n
    · subst e; have := sumTo_le (n := k) fun i hi => h i (by omega); omega
    · have := ih (fun i hi => h i (by omega)) (by omega); omega
def sumK (K : Nat → Nat → Nat) : Nat := sumTo (fun x => sumTo (K x) 11) 6
theorem sumK_le {K L : Nat → Nat → Nat} (h : ∀ x i, K x i ≤ L x i) : sumK K ≤ sumK L := sumTo_le fun x _ => sumTo_le fun i _ => h x i
theorem sumK_lt {K L : Nat → Nat → Nat} (h : ∀ x i, K x i ≤ L x i) {a b : Nat} (ha : a < 6) (hb : b < 11) (hl : K a b < L a b) : sumK K < sumK L := sumTo_lt (fun x _ => sumTo_le fun i _ => h x i) ha (sumTo_lt (fun i _ => h a i) hb hl)
theorem sumTo_const {f : Nat → Nat} {n c : Nat} (h : ∀ i, f i ≤ c) : sumTo f n ≤ n * c := by
  induction n with
  | zero => exact Nat.zero_le _
  | succ n ih => have := h n; unfold sumTo; rw [Nat.succ_mul]; omega
theorem sumK_most {K : Nat → Nat → Nat} (h : ∀ x i, K x i < 2048) : sumK K ≤ 135102 := by
  have h1 : ∀ x, sumTo (K x) 11 ≤ 11 * 2047 := fun x => sumTo_const fun i => by have := h x i; omega
  have h2 := sumTo_const (f := fun x => sumTo (K x) 11) (n := 6) (c := 11 * 2047) h1
  unfold sumK; omega

/-- The table is good so far: of derived parts alone, and small. -/
def OkK (rs : List (Int × List Int)) (ws : List Int) (K : Nat → Nat → Nat) : Prop := (∀ x i, K x i < 2048) ∧ ∀ x i j, DK K x i j → Der rs ws x i j
/-- While a pass grows it: what was known at the start is K0, the first j rules are done, and of the next one the first i places. -/
def Pass (rs : List (Int × List Int)) (ws : List Int) (j i : Nat) (K0 K : Nat → Nat → Nat) (grown : Bool) : Prop :=
  OkK rs ws K ∧ (∀ x i, K0 x i ≤ K x i) ∧ (grown = true → sumK K0 < sumK K) ∧
  (grown = false → K = K0 ∧ ∀ (l : Nat) (r : Int × List Int) (from_ to_ : Nat), rs[l]? = some r → from_ ≤ ws.length → (l < j ∨ (l = j ∧ from_ < i)) → SeqD (DK K) ws r.2 from_ to_ → DK K r.1 from_ to_)
theorem Pass.start {rs : List (Int × List Int)} {ws : List Int} {K : Nat → Nat → Nat} (h : OkK rs ws K) : Pass rs ws 0 0 K K false := ⟨h, fun _ _ => Nat.le_refl _, fun h => (by cases h), fun _ => ⟨rfl, fun l r f t _ _ h => absurd h (by omega)⟩⟩
theorem Pass.line {rs : List (Int × List Int)} {ws : List Int} {j : Nat} {K0 K : Nat → Nat → Nat} {b : Bool} (h : Pass rs ws j (ws.length + 1) K0 K b) : Pass rs ws (j + 1) 0 K0 K b :=
  ⟨h.1, h.2.1, h.2.2.1, fun e => ⟨(h.2.2.2 e).1, fun l r f t hl hf hx => (h.2.2.2 e).2 l r f t hl hf (by omega)⟩⟩
theorem Pass.step {rs : List (Int × List Int)} {ws : List Int} {j i : Nat} {K0 K : Nat → Nat → Nat} {b : Bool} (h : Pass rs ws j i K0 K b) {a : Nat} {right : List Int} (hj : rs[j]? = some ((a : Int), right)) (ha : a < 6) (hi : i ≤ ws.length) (hw : ws.length ≤ 10) {m : Nat} (hm : Msk m fun t => SeqD (DK K) ws right i t) :
    Pass rs ws j (i + 1) K0 (setK K a i (K a i ||| m)) (b || decide (K a i ||| m ≠ K a i)) := by
  obtain ⟨h1, h2, h3, h4⟩ := h
  have hle : ∀ x y, K x y ≤ setK K a i (K a i ||| m) x y := fun x y => by
    unfold setK
    split
    · rename_i e; obtain ⟨rfl, rfl⟩ := e; exact le_or
    · exact Nat.le_refl _
  have hmem : ((a : Int), right) ∈ rs := List.mem_of_getElem? hj
  refine ⟨⟨fun x y => ?_, fun x y t => ?_⟩, fun x y => Nat.le_trans (h2 x y) (hle x y), fun e => ?_, fun e => ?_⟩
  · unfold setK
    split
    · exact or_lt (h1.1 _ _) hm.1
    · exact h1.1 _ _
  · unfold DK setK
    split
    · rename_i e
      obtain ⟨e1, rfl⟩ := e
      rw [Nat.testBit_or, Bool.or_eq_true]
      rintro ⟨k0, k | k⟩
      · exact h1.2 x y t ⟨k0, by rw [e1]; exact k⟩
      · have k1 := der_step h1.2 hmem hi ((hm.2 t).1 k)
        have : x = (a : Int) := by omega
        rw [this]; exact k1
    · exact h1.2 x y t
  · have hs := sumK_le hle
    cases b
    · have hne : K a i ||| m ≠ K a i := of_decide_eq_true (by simpa using e)
      have h5 : K a i < setK K a i (K a i ||| m) a i := by rw [setK_at]; have : K a i ≤ K a i ||| m := le_or; omega
      have := sumK_le h2
      have := sumK_lt hle ha (by omega : i < 11) h5
      omega
    · have := h3 rfl; omega
  · have hb : b = false := by cases b; rfl; cases e
    subst hb
    have heq : K a i ||| m = K a i := Decidable.not_not.1 (of_decide_eq_false (by simpa using e))
    obtain ⟨h5, h6⟩ := h4 rfl
    rw [setK_same heq]
    refine ⟨h5, fun l r f t hl hf hx k => ?_⟩
    by_cases e2 : l = j ∧ f = i
    · obtain ⟨rfl, rfl⟩ := e2
      rw [hj] at hl
      have e3 := Option.some.inj hl
      subst e3
      refine ⟨Int.natCast_nonneg a, ?_⟩
      have k2 := (hm.2 t).2 k
      show (K a f).testBit t = true
      rw [← heq, Nat.testBit_or, k2, Bool.or_true]
    · exact h6 l r f t hl hf (by omega) k
/-- A pass in which nothing came. -/
theorem Pass.done {rs : List (Int × List Int)} {ws : List Int} {K0 K : Nat → Nat → Nat} (h : Pass rs ws rs.length 0 K0 K false) {x : Int} {i j : Nat} : DK K x i j ↔ Der rs ws x i j :=
  der_eq h.1.2 fun r hr f t hf k => by
    obtain ⟨l, hl⟩ := List.mem_iff_getElem?.1 hr
    exact (h.2.2.2 rfl).2 l r f t hl hf (.inl (List.getElem?_eq_some_iff.1 hl).1) k

/-- One symbol from all places of a mask ahead of k. -/
def FromD (K : Nat → Nat → Nat) (ws : List Int) (x : Int) (s k : Nat) (j : Nat) : Prop := ∃ m, m < k ∧ s.testBit m = true ∧ SymD (DK K) ws x m j
theorem fromD_zero {K : Nat → Nat → Nat} {ws : List Int} {x : Int} {s j : Nat} : FromD K ws x s 0 j ↔ False := ⟨fun ⟨m, h, _⟩ => absurd h (by omega), False.elim⟩
theorem fromD_skip {K : Nat → Nat → Nat} {ws : List Int} {x : Int} {s k j : Nat} (h : s.testBit k = false) : FromD K ws x s k j ↔ FromD K ws x s (k + 1) j := by
  constructor
  · rintro ⟨m, h1, h2⟩; exact ⟨m, by omega, h2⟩
  · rintro ⟨m, h1, h2, h3⟩
    by_cases e : m = k
    · subst e; rw [h] at h2; cases h2
    · exact ⟨m, by omega, h2, h3⟩
theorem fromD_take {K : Nat → Nat → Nat} {ws : List Int} {x : Int} {s k j : Nat} (h : s.testBit k = true) : (FromD K ws x s k j ∨ SymD (DK K) ws x k j) ↔ FromD K ws x s (k + 1) j := by
  constructor
  · rintro (⟨m, h1, h2⟩ | h3)
    · exact ⟨m, by omega, h2⟩
    · exact ⟨k, by omega, h, h3⟩
  · rintro ⟨m, h1, h2, h3⟩
    by_cases e : m = k
    · subst e; exact .inr h3
    · exact .inl ⟨m, by omega, h2, h3⟩
theorem fromD_all {K : Nat → Nat → Nat} {ws : List Int} {xs : List Int} {k f : Nat} (hk : k < xs.length) {s : Nat} (hs : Msk s fun j => SeqD (DK K) ws (xs.take k) f j) {j : Nat} : FromD K ws xs[k] s 11 j ↔ SeqD (DK K) ws (xs.take (k + 1)) f j := by
  rw [seqD_take hk]
  constructor
  · rintro ⟨m, _, h2, h3⟩; exact ⟨m, (hs.2 m).1 h2, h3⟩
  · rintro ⟨m, h2, h3⟩; exact ⟨m, hs.lt h2, (hs.2 m).2 h2, h3⟩

theorem Msk.unique {a b : Nat} {P : Nat → Prop} (h : Msk a P) (k : Msk b P) : a = b := Nat.eq_of_testBit_eq fun j => by
  have h1 := h.2 j
  have h2 := k.2 j
  cases e1 : a.testBit j <;> cases e2 : b.testBit j
  · rfl
  · exact absurd (h1.2 (h2.1 e2)) (by rw [e1]; decide)
  · exact absurd (h2.2 (h1.1 e1)) (by rw [e2]; decide)
  · rfl
theorem msk_some (P : Nat → Prop) (n : Nat) (hn : n ≤ 11) : ∃ m, Msk m fun j => P j ∧ j < n := by
  induction n with
  | zero => exact ⟨0, msk_no.congr fun j => ⟨False.elim, fun h => absurd h.2 (by omega)⟩⟩
  | succ n ih =>
    obtain ⟨m, hm⟩ := ih (by omega)
    by_cases h : P n
    · refine ⟨m ||| 2 ^ n, (hm.or (msk_one (by omega))).congr fun j => ⟨?_, ?_⟩⟩
      · rintro (⟨h1, h2⟩ | rfl)
        · exact ⟨h1, by omega⟩
        · exact ⟨h, by omega⟩
      · rintro ⟨h1, h2⟩
        by_cases e : j = n
        · exact .inr e
        · exact .inl ⟨h1, by omega⟩
    · refine ⟨m, hm.congr fun j => ⟨fun ⟨h1, h2⟩ => ⟨h1, by omega⟩, fun ⟨h1, h2⟩ => ⟨h1, ?_⟩⟩⟩
      by_cases e : j = n
      · subst e; exact absurd h1 h
      · omega
/-- The mask of a set of places. -/
noncomputable def mskOf (P : Nat → Prop) : Nat := (msk_some P 11 (Nat.le_refl _)).choose
theorem mskOf_is {P : Nat → Prop} (h : ∀ j, P j → j < 11) : Msk (mskOf P) P := (msk_some P 11 (Nat.le_refl _)).choose_spec.congr fun j => ⟨fun k => k.1, fun k => ⟨k, h j k⟩⟩
theorem mskOf_eq {P : Nat → Prop} {m : Nat} (h : Msk m P) : m = mskOf P := h.unique (mskOf_is fun _ k => h.lt k)
theorem seqD_lt {K : Nat → Nat → Nat} {ws : List Int} (hK : ∀ x i, K x i < 2048) (hw : ws.length ≤ 10) {xs : List Int} {i j : Nat} (hi : i < 11) (h : SeqD (DK K) ws xs i j) : j < 11 := by
  induction xs generalizing i with
  | nil => have e : i = j := h; omega
  | cons x xs ih =>
    obtain ⟨m, k1, k2⟩ := h
    refine ih ?_ k2
    rcases k1 with ⟨_, e, k⟩ | ⟨_, _, k⟩
    · have := (List.getElem?_eq_some_iff.1 k).1; omega
    · exact Msk.lt (m := K x.toNat i) (P := fun j => (K x.toNat i).testBit j = true) ⟨hK _ _, fun _ => Iff.rfl⟩ k

end Go.Proofs.YtfbpcdmpkbjifaaDoor
