/- The law of JoinSteps holds of every binary grammar that can be read and every int: the call returns true, and what was handed in reads afterwards as it read before. Conditions: the package's table of limits is as the program's text lays it (tied by the given tie). -/
import Derived.Test.YtaobkanliiiapaaDoorC702
import Derived.Test.YtaobkanliiiapaaDoorC703
import Derived.RangeFuncNested
import Derived.RangeFuncBound
import Derived.RangeFuncCalls
import Derived.RangeFuncLeaves
import Derived.RangeFuncFrom
import Derived.Shelf.Abstract
import Derived.Shelf.RegionOpen
import Derived.WalkKit
import Derived.OwnWalkIn
import Derived.TacticsInMore
import Derived.LoopNIn
import Derived.LoopIn
import Derived.Test.YtaobkanliiiapaaDoorC704
import Derived.Test.YtaobkanliiiapaaDoorCards

namespace Go.Proofs.YtaobkanliiiapaaDoor
open Go.RowKit

/-- The four lists of a binary grammar lie in blocks of their own. -/
structure ApartB (b : Bi) : Prop where
  po : ∀ q, ItsL b.Ap b.P q → ¬ ItsL b.Ao b.O q
  pe : ∀ q, ItsL b.Ap b.P q → ¬ Its b.Ae b.E q
  pf : ∀ q, ItsL b.Ap b.P q → ¬ ItsL b.Af b.F q
  oe : ∀ q, ItsL b.Ao b.O q → ¬ Its b.Ae b.E q
  of : ∀ q, ItsL b.Ao b.O q → ¬ ItsL b.Af b.F q
  ef : ∀ q, Its b.Ae b.E q → ¬ ItsL b.Af b.F q

/-- A binary grammar's copy: it says the same, its lists lie apart; nothing older has turned. -/
def GaveBA (w : World) (s : Bs) (e : Ending) (w' : World) : Prop :=
  ∃ b : Bi, e = .returned (.agg #[.int .i64 b.n, .int .i64 b.t, .slice b.Ap b.P.length b.cp, .slice b.Ao b.O.length b.co, .slice b.Ae b.E.length b.ce, .slice b.Af b.F.length b.cf]) ∧ b.say = s ∧ OwnB w' w.heap.size b ∧ CapB b ∧ Below w.heap.size w w' ∧ ApartB b

set_option maxHeartbeats 1000000 in
theorem toBinaryA_any (b : Bi) (w : World) (hr : ReadB w w.heap.size b) (hm : LenB 1048576 b) :
    Calls Tryd.prog 48 #[(.agg #[.int .i64 b.n, .int .i64 b.t, .slice b.Ap b.P.length b.cp, .slice b.Ao b.O.length b.co, .slice b.Ae b.E.length b.ce, .slice b.Af b.F.length b.cf])] w (GaveBA w b.say) := by
  have HR := Lib.hid hr; clear hr
  have HM := Lib.hid hm; clear hm
  go_enter Tryd.func48, Tryd.ntmps48
  go_wp2_with fail
  have hB0 : Below w.heap.size w (((w.alloc (.cells #[.int .i64 b.n, .int .i64 b.t, .slice b.Ap b.P.length b.cp, .slice b.Ao b.O.length b.co, .slice b.Ae b.E.length b.ce, .slice b.Af b.F.length b.cf] 67)).alloc (.cells #[.int .i64 0, .int .i64 0, .slice none 0 0, .slice none 0 0, .slice none 0 0, .slice none 0 0] 41)).alloc (.cells #[.int .i64 b.n, .int .i64 b.t, .slice none 0 0, .slice none 0 0, .slice none 0 0, .slice none 0 0] 41)) := by go_grown
  have hz0 : (((w.alloc (.cells #[.int .i64 b.n, .int .i64 b.t, .slice b.Ap b.P.length b.cp, .slice b.Ao b.O.length b.co, .slice b.Ae b.E.length b.ce, .slice b.Af b.F.length b.cf] 67)).alloc (.cells #[.int .i64 0, .int .i64 0, .slice none 0 0, .slice none 0 0, .slice none 0 0, .slice none 0 0] 41)).alloc (.cells #[.int .i64 b.n, .int .i64 b.t, .slice none 0 0, .slice none 0 0, .slice none 0 0, .slice none 0 0] 41)).heap.size = w.heap.size + 3 := by simp
  have Ra : Row (((w.alloc (.cells #[.int .i64 b.n, .int .i64 b.t, .slice b.Ap b.P.length b.cp, .slice b.Ao b.O.length b.co, .slice b.Ae b.E.length b.ce, .slice b.Af b.F.length b.cf] 67)).alloc (.cells #[.int .i64 0, .int .i64 0, .slice none 0 0, .slice none 0 0, .slice none 0 0, .slice none 0 0] 41)).alloc (.cells #[.int .i64 b.n, .int .i64 b.t, .slice none 0 0, .slice none 0 0, .slice none 0 0, .slice none 0 0] 41)) w.heap.size 67 #[.int .i64 b.n, .int .i64 b.t, .slice b.Ap b.P.length b.cp, .slice b.Ao b.O.length b.co, .slice b.Ae b.E.length b.ce, .slice b.Af b.F.length b.cf] := ((Row.new _ _ _).alloc _).alloc _
  have Rr : Row (((w.alloc (.cells #[.int .i64 b.n, .int .i64 b.t, .slice b.Ap b.P.length b.cp, .slice b.Ao b.O.length b.co, .slice b.Ae b.E.length b.ce, .slice b.Af b.F.length b.cf] 67)).alloc (.cells #[.int .i64 0, .int .i64 0, .slice none 0 0, .slice none 0 0, .slice none 0 0, .slice none 0 0] 41)).alloc (.cells #[.int .i64 b.n, .int .i64 b.t, .slice none 0 0, .slice none 0 0, .slice none 0 0, .slice none 0 0] 41)) (w.heap.size + 1) 41 #[.int .i64 0, .int .i64 0, .slice none 0 0, .slice none 0 0, .slice none 0 0, .slice none 0 0] := by
    have h := Row.new (w.alloc (.cells #[.int .i64 b.n, .int .i64 b.t, .slice b.Ap b.P.length b.cp, .slice b.Ao b.O.length b.co, .slice b.Ae b.E.length b.ce, .slice b.Af b.F.length b.cf] 67)) 41 #[.int .i64 0, .int .i64 0, .slice none 0 0, .slice none 0 0, .slice none 0 0, .slice none 0 0]
    rw [World.size_alloc] at h; exact h.alloc _
  have Ro : Row (((w.alloc (.cells #[.int .i64 b.n, .int .i64 b.t, .slice b.Ap b.P.length b.cp, .slice b.Ao b.O.length b.co, .slice b.Ae b.E.length b.ce, .slice b.Af b.F.length b.cf] 67)).alloc (.cells #[.int .i64 0, .int .i64 0, .slice none 0 0, .slice none 0 0, .slice none 0 0, .slice none 0 0] 41)).alloc (.cells #[.int .i64 b.n, .int .i64 b.t, .slice none 0 0, .slice none 0 0, .slice none 0 0, .slice none 0 0] 41)) (w.heap.size + 1 + 1) 41 #[.int .i64 b.n, .int .i64 b.t, .slice none 0 0, .slice none 0 0, .slice none 0 0, .slice none 0 0] := by
    have h := Row.new ((w.alloc (.cells #[.int .i64 b.n, .int .i64 b.t, .slice b.Ap b.P.length b.cp, .slice b.Ao b.O.length b.co, .slice b.Ae b.E.length b.ce, .slice b.Af b.F.length b.cf] 67)).alloc (.cells #[.int .i64 0, .int .i64 0, .slice none 0 0, .slice none 0 0, .slice none 0 0, .slice none 0 0] 41)) 41 #[.int .i64 b.n, .int .i64 b.t, .slice none 0 0, .slice none 0 0, .slice none 0 0, .slice none 0 0]
    rw [World.size_alloc, World.size_alloc] at h; exact h
  generalize (((w.alloc (.cells #[.int .i64 b.n, .int .i64 b.t, .slice b.Ap b.P.length b.cp, .slice b.Ao b.O.length b.co, .slice b.Ae b.E.length b.ce, .slice b.Af b.F.length b.cf] 67)).alloc (.cells #[.int .i64 0, .int .i64 0, .slice none 0 0, .slice none 0 0, .slice none 0 0, .slice none 0 0] 41)).alloc (.cells #[.int .i64 b.n, .int .i64 b.t, .slice none 0 0, .slice none 0 0, .slice none 0 0, .slice none 0 0] 41)) = W at hB0 hz0 Ra Rr Ro ⊢
  have HB0 := Lib.hid hB0; clear hB0
  have HZ0 : Hid (w.heap.size + 3 ≤ W.heap.size) := by show _ ≤ _; omega
  clear hz0
  have HRa0 := Lib.hid Ra; clear Ra
  have HRr0 := Lib.hid Rr; clear Rr
  have HRo0 := Lib.hid Ro; clear Ro
  refine (toIntSS_any _ _ _ _ ((HR.out.1.keep HB0.out).more HB0.out.size) HM.out.p HM.out.ps).mono ?_
  rintro e w1 ⟨A1, c1, l1, rfl, k1, o1, s1, hB1⟩
  have HU1 : Hid (∀ q, ItsL A1 l1 q → q < w1.heap.size) := fun q hq => (o1.its hq).2
  have HO1 : Hid (OwnL w1 (w.heap.size + 3) A1 l1) := o1.lower HZ0.out
  have HZ1' : Hid (w.heap.size + 3 ≤ w1.heap.size) := Nat.le_trans HZ0.out hB1.size
  have HRa1' := Lib.hid (HRa0.out.below hB1 HRa0.out.lt)
  have HRr1' := Lib.hid (HRr0.out.below hB1 HRr0.out.lt)
  have HRo1' := Lib.hid (HRo0.out.below hB1 HRo0.out.lt)
  have HB1' := Lib.hid (HB0.out.trans (hB1.mono HB0.out.size)); clear hB1 HRa0 HRr0 HRo0 HB0 HZ0 o1
  have K1 := Lib.hid k1; clear k1
  have S1 := Lib.hid s1; clear s1
  have av := HRa1'.out.cell 3
  have xv := HRo1'.out.cell 2
  have yv := HRo1'.out.frozen 2
  simp only [List.getElem?_toArray, List.getElem?_cons_succ, List.getElem?_cons_zero] at av xv
  go_wp2_with fail
  have HRa1 := Lib.hid (HRa1'.out.far (p := ⟨w.heap.size + 1 + 1, 2, none⟩) (by simp; omega) (.slice A1 l1.length c1))
  have HRr1 := Lib.hid (HRr1'.out.far (p := ⟨w.heap.size + 1 + 1, 2, none⟩) (by simp) (.slice A1 l1.length c1))
  have HRo1 : Hid (Row (w1.setCell ⟨w.heap.size + 1 + 1, 2, none⟩ (.slice A1 l1.length c1)) (w.heap.size + 1 + 1) 41 #[.int .i64 b.n, .int .i64 b.t, .slice A1 l1.length c1, .slice none 0 0, .slice none 0 0, .slice none 0 0]) := HRo1'.out.set 2 (.slice A1 l1.length c1)
  have HQ1 := Lib.hid (HO1.out.low (p := ⟨w.heap.size + 1 + 1, 2, none⟩) (by simp) (.slice A1 l1.length c1)); clear HO1
  have HB1 : Hid (Below w.heap.size w (w1.setCell ⟨w.heap.size + 1 + 1, 2, none⟩ (.slice A1 l1.length c1))) := HB1'.out.setCell (by simp; omega) _
  have HZ1 : Hid (w.heap.size + 3 ≤ (w1.setCell ⟨w.heap.size + 1 + 1, 2, none⟩ (.slice A1 l1.length c1)).heap.size) := by have := HZ1'.out; show _ ≤ _; simpa using this
  clear xv yv av HRa1' HRr1' HRo1' HB1' HZ1'
  have HN1 : Hid (w1.heap.size ≤ (w1.setCell ⟨w.heap.size + 1 + 1, 2, none⟩ (.slice A1 l1.length c1)).heap.size) := by show _ ≤ _; simp
  generalize (w1.setCell ⟨w.heap.size + 1 + 1, 2, none⟩ (.slice A1 l1.length c1)) = W1 at HN1 HRa1 HRr1 HRo1 HB1 HZ1 HQ1 ⊢
  have HO1 := HQ1; clear HQ1
  refine (toIntSS_any _ _ _ _ ((HR.out.2.1.keep HB1.out).more HB1.out.size) HM.out.o HM.out.os).mono ?_
  rintro e w2 ⟨A2, c2, l2, rfl, k2, o2, s2, hB2⟩
  have HV2 : Hid (∀ q, ItsL A2 l2 q → w1.heap.size ≤ q ∧ q < w2.heap.size) := fun q hq => ⟨Nat.le_trans HN1.out (o2.its hq).1, (o2.its hq).2⟩
  have HM2 : Hid (w1.heap.size ≤ w2.heap.size) := Nat.le_trans HN1.out hB2.size
  have HO2 : Hid (OwnL w2 (w.heap.size + 3) A2 l2) := o2.lower HZ1.out
  have HZ2' : Hid (w.heap.size + 3 ≤ w2.heap.size) := Nat.le_trans HZ1.out hB2.size
  have HRa2' := Lib.hid (HRa1.out.below hB2 HRa1.out.lt)
  have HRr2' := Lib.hid (HRr1.out.below hB2 HRr1.out.lt)
  have HRo2' := Lib.hid (HRo1.out.below hB2 HRo1.out.lt)
  have HP1 := Lib.hid (HO1.out.below hB2 (Nat.le_refl _)); clear HO1
  have HB2' := Lib.hid (HB1.out.trans (hB2.mono HB1.out.size)); clear hB2 HRa1 HRr1 HRo1 HB1 HZ1 o2
  have K2 := Lib.hid k2; clear k2
  have S2 := Lib.hid s2; clear s2
  have av := HRa2'.out.cell 4
  have xv := HRo2'.out.cell 3
  have yv := HRo2'.out.frozen 3
  simp only [List.getElem?_toArray, List.getElem?_cons_succ, List.getElem?_cons_zero] at av xv
  go_wp2_with fail
  have HRa2 := Lib.hid (HRa2'.out.far (p := ⟨w.heap.size + 1 + 1, 3, none⟩) (by simp; omega) (.slice A2 l2.length c2))
  have HRr2 := Lib.hid (HRr2'.out.far (p := ⟨w.heap.size + 1 + 1, 3, none⟩) (by simp) (.slice A2 l2.length c2))
  have HRo2 : Hid (Row (w2.setCell ⟨w.heap.size + 1 + 1, 3, none⟩ (.slice A2 l2.length c2)) (w.heap.size + 1 + 1) 41 #[.int .i64 b.n, .int .i64 b.t, .slice A1 l1.length c1, .slice A2 l2.length c2, .slice none 0 0, .slice none 0 0]) := HRo2'.out.set 3 (.slice A2 l2.length c2)
  have HQ1 := Lib.hid (HP1.out.low (p := ⟨w.heap.size + 1 + 1, 3, none⟩) (by simp) (.slice A2 l2.length c2)); clear HP1
  have HQ2 := Lib.hid (HO2.out.low (p := ⟨w.heap.size + 1 + 1, 3, none⟩) (by simp) (.slice A2 l2.length c2)); clear HO2
  have HB2 : Hid (Below w.heap.size w (w2.setCell ⟨w.heap.size + 1 + 1, 3, none⟩ (.slice A2 l2.length c2))) := HB2'.out.setCell (by simp; omega) _
  have HZ2 : Hid (w.heap.size + 3 ≤ (w2.setCell ⟨w.heap.size + 1 + 1, 3, none⟩ (.slice A2 l2.length c2)).heap.size) := by have := HZ2'.out; show _ ≤ _; simpa using this
  clear xv yv av HRa2' HRr2' HRo2' HB2' HZ2'
  have HN2 : Hid (w2.heap.size ≤ (w2.setCell ⟨w.heap.size + 1 + 1, 3, none⟩ (.slice A2 l2.length c2)).heap.size) := by show _ ≤ _; simp
  generalize (w2.setCell ⟨w.heap.size + 1 + 1, 3, none⟩ (.slice A2 l2.length c2)) = W2 at HN2 HRa2 HRr2 HRo2 HB2 HZ2 HQ1 HQ2 ⊢
  have HO1 := HQ1; clear HQ1
  have HO2 := HQ2; clear HQ2
  refine (toIntS_any _ _ _ _ ((HR.out.2.2.1.keep HB2.out).more HB2.out.size) HM.out.e).mono ?_
  rintro e w3 ⟨A3, c3, rfl, k3, o3, hB3⟩
  have HV3 : Hid (∀ q, Its A3 b.E q → w2.heap.size ≤ q ∧ q < w3.heap.size) := fun q hq => ⟨Nat.le_trans HN2.out (o3.its hq).1, (o3.its hq).2⟩
  have HM3 : Hid (w2.heap.size ≤ w3.heap.size) := Nat.le_trans HN2.out hB3.size
  have HO3 : Hid (OwnI w3 (w.heap.size + 3) A3 b.E) := o3.lower HZ2.out
  have HZ3' : Hid (w.heap.size + 3 ≤ w3.heap.size) := Nat.le_trans HZ2.out hB3.size
  have HRa3' := Lib.hid (HRa2.out.below hB3 HRa2.out.lt)
  have HRr3' := Lib.hid (HRr2.out.below hB3 HRr2.out.lt)
  have HRo3' := Lib.hid (HRo2.out.below hB3 HRo2.out.lt)
  have HP1 := Lib.hid (HO1.out.below hB3 (Nat.le_refl _)); clear HO1
  have HP2 := Lib.hid (HO2.out.below hB3 (Nat.le_refl _)); clear HO2
  have HB3' := Lib.hid (HB2.out.trans (hB3.mono HB2.out.size)); clear hB3 HRa2 HRr2 HRo2 HB2 HZ2 o3
  have K3 := Lib.hid k3; clear k3
  have av := HRa3'.out.cell 5
  have xv := HRo3'.out.cell 4
  have yv := HRo3'.out.frozen 4
  simp only [List.getElem?_toArray, List.getElem?_cons_succ, List.getElem?_cons_zero] at av xv
  go_wp2_with fail
  have HRa3 := Lib.hid (HRa3'.out.far (p := ⟨w.heap.size + 1 + 1, 4, none⟩) (by simp; omega) (.slice A3 b.E.length c3))
  have HRr3 := Lib.hid (HRr3'.out.far (p := ⟨w.heap.size + 1 + 1, 4, none⟩) (by simp) (.slice A3 b.E.length c3))
  have HRo3 : Hid (Row (w3.setCell ⟨w.heap.size + 1 + 1, 4, none⟩ (.slice A3 b.E.length c3)) (w.heap.size + 1 + 1) 41 #[.int .i64 b.n, .int .i64 b.t, .slice A1 l1.length c1, .slice A2 l2.length c2, .slice A3 b.E.length c3, .slice none 0 0]) := HRo3'.out.set 4 (.slice A3 b.E.length c3)
  have HQ1 := Lib.hid (HP1.out.low (p := ⟨w.heap.size + 1 + 1, 4, none⟩) (by simp) (.slice A3 b.E.length c3)); clear HP1
  have HQ2 := Lib.hid (HP2.out.low (p := ⟨w.heap.size + 1 + 1, 4, none⟩) (by simp) (.slice A3 b.E.length c3)); clear HP2
  have HQ3 := Lib.hid (HO3.out.low (p := ⟨w.heap.size + 1 + 1, 4, none⟩) (by simp) (.slice A3 b.E.length c3)); clear HO3
  have HB3 : Hid (Below w.heap.size w (w3.setCell ⟨w.heap.size + 1 + 1, 4, none⟩ (.slice A3 b.E.length c3))) := HB3'.out.setCell (by simp; omega) _
  have HZ3 : Hid (w.heap.size + 3 ≤ (w3.setCell ⟨w.heap.size + 1 + 1, 4, none⟩ (.slice A3 b.E.length c3)).heap.size) := by have := HZ3'.out; show _ ≤ _; simpa using this
  clear xv yv av HRa3' HRr3' HRo3' HB3' HZ3'
  have HN3 : Hid (w3.heap.size ≤ (w3.setCell ⟨w.heap.size + 1 + 1, 4, none⟩ (.slice A3 b.E.length c3)).heap.size) := by show _ ≤ _; simp
  generalize (w3.setCell ⟨w.heap.size + 1 + 1, 4, none⟩ (.slice A3 b.E.length c3)) = W3 at HN3 HRa3 HRr3 HRo3 HB3 HZ3 HQ1 HQ2 HQ3 ⊢
  have HO1 := HQ1; clear HQ1
  have HO2 := HQ2; clear HQ2
  have HO3 := HQ3; clear HQ3
  refine (toIntSS_any _ _ _ _ ((HR.out.2.2.2.keep HB3.out).more HB3.out.size) HM.out.f HM.out.fs).mono ?_
  rintro e w4 ⟨A4, c4, l4, rfl, k4, o4, s4, hB4⟩
  have HV4 : Hid (∀ q, ItsL A4 l4 q → w3.heap.size ≤ q) := fun q hq => Nat.le_trans HN3.out (o4.its hq).1
  have HO4 : Hid (OwnL w4 (w.heap.size + 3) A4 l4) := o4.lower HZ3.out
  have HZ4' : Hid (w.heap.size + 3 ≤ w4.heap.size) := Nat.le_trans HZ3.out hB4.size
  have HRa4' := Lib.hid (HRa3.out.below hB4 HRa3.out.lt)
  have HRr4' := Lib.hid (HRr3.out.below hB4 HRr3.out.lt)
  have HRo4' := Lib.hid (HRo3.out.below hB4 HRo3.out.lt)
  have HP1 := Lib.hid (HO1.out.below hB4 (Nat.le_refl _)); clear HO1
  have HP2 := Lib.hid (HO2.out.below hB4 (Nat.le_refl _)); clear HO2
  have HP3 := Lib.hid (HO3.out.below hB4 (Nat.le_refl _)); clear HO3
  have HB4' := Lib.hid (HB3.out.trans (hB4.mono HB3.out.size)); clear hB4 HRa3 HRr3 HRo3 HB3 HZ3 o4
  have K4 := Lib.hid k4; clear k4
  have S4 := Lib.hid s4; clear s4
  have x0 := HRo4'.out.cell 0
  have x1 := HRo4'.out.cell 1
  have x2 := HRo4'.out.cell 2
  have x3 := HRo4'.out.cell 3
  have x4 := HRo4'.out.cell 4
  have x5 := HRo4'.out.cell 5
  have y5 := HRo4'.out.frozen 5
  have r0 := HRr4'.out.cell 0
  have r1 := HRr4'.out.cell 1
  have r2 := HRr4'.out.cell 2
  have r3 := HRr4'.out.cell 3
  have r4 := HRr4'.out.cell 4
  have r5 := HRr4'.out.cell 5
  have q0 := HRr4'.out.frozen 0
  have q1 := HRr4'.out.frozen 1
  have q2 := HRr4'.out.frozen 2
  have q3 := HRr4'.out.frozen 3
  have q4 := HRr4'.out.frozen 4
  have q5 := HRr4'.out.frozen 5
  simp only [List.getElem?_toArray, List.getElem?_cons_succ, List.getElem?_cons_zero] at x0 x1 x2 x3 x4 x5 r0 r1 r2 r3 r4 r5
  go_wp2_with fail
  refine bodyPost_ret (v := .agg #[.int .i64 b.n, .int .i64 b.t, .slice A1 l1.length c1, .slice A2 l2.length c2, .slice A3 b.E.length c3, .slice A4 l4.length c4]) (by simp [results, Tryd.results48, go_sem, r0, r1, r2, r3, r4, r5]) rfl ⟨⟨b.n, b.t, A1, l1, c1, A2, l2, c2, A3, b.E, c3, A4, l4, c4⟩, rfl, ?_, ?_, ⟨K1.out, K2.out, K3.out, K4.out⟩, ?_, ⟨?_, ?_, ?_, ?_, ?_, ?_⟩⟩
  · show Bs.mk _ _ _ _ _ _ = Bs.mk _ _ _ _ _ _
    rw [S1.out, S2.out, S4.out]
  · refine ⟨?_, ?_, ?_, ?_⟩
    · exact (((((((HP1.out.low (by simp) _).low (by simp) _).low (by simp) _).low (by simp) _).low (by simp) _).low (by simp) _).low (by simp) _).lower (by omega)
    · exact (((((((HP2.out.low (by simp) _).low (by simp) _).low (by simp) _).low (by simp) _).low (by simp) _).low (by simp) _).low (by simp) _).lower (by omega)
    · exact (((((((HP3.out.low (by simp) _).low (by simp) _).low (by simp) _).low (by simp) _).low (by simp) _).low (by simp) _).low (by simp) _).lower (by omega)
    · exact (((((((HO4.out.low (by simp) _).low (by simp) _).low (by simp) _).low (by simp) _).low (by simp) _).low (by simp) _).low (by simp) _).lower (by omega)
  · exact ((((((HB4'.out.setCell (by simp; omega) _).setCell (by simp) _).setCell (by simp) _).setCell (by simp) _).setCell (by simp) _).setCell (by simp) _).setCell (by simp) _
  · exact fun q h k => by have := HU1.out q h; have := HV2.out q k; omega
  · exact fun q h k => by have := HU1.out q h; have := HV3.out q k; have := HM2.out; omega
  · exact fun q h k => by have := HU1.out q h; have := HV4.out q k; have := HM2.out; have := HM3.out; omega
  · exact fun q h k => by have := HV2.out q h; have := HV3.out q k; omega
  · exact fun q h k => by have := HV2.out q h; have := HV4.out q k; have := HM3.out; omega
  · exact fun q h k => by have := HV3.out q h; have := HV4.out q k; omega

theorem markM_ne {k : Int} {ls : List Li} {n : Nat} (h : markM k ls n ≠ []) : ls ≠ [] := fun e => h (by subst e; rfl)
theorem OwnL.save' {S : Nat → Prop} {w w' : World} {lo : Nat} {A : Option Addr} {ls : List Li} {k : Int} {n : Nat} (h : OwnL w lo A (markM k ls n)) (hs : Save S w w') (hd : ∀ b, ItsL A ls b → ¬ S b) : OwnL w' lo A (markM k ls n) := by
  refine h.kept hs fun b hb => hd b ?_
  rcases hb with ⟨e, hn⟩ | ⟨i, u, hu, he, hr⟩
  · exact .inl ⟨e, markM_ne hn⟩
  · have hi := (List.getElem?_eq_some_iff.1 hu).1
    have hi' : i < ls.length := by rw [markM_length] at hi; exact hi
    have hat := markM_at (k := k) (i := n) hi' hi
    rw [List.getElem?_eq_getElem hi, hat] at hu
    injection hu with hu
    refine .inr ⟨i, ls[i], List.getElem?_eq_getElem hi', ?_⟩
    split at hu
    · subst hu
      exact ⟨he, fun e => hr (by show seqL _ _ = []; rw [e]; rfl)⟩
    · subst hu
      exact ⟨he, hr⟩
theorem OwnI.save' {S : Nat → Prop} {w w' : World} {lo : Nat} {A : Option Addr} {xs : List Int} {k : Int} (h : OwnI w lo A (seqL k xs.length)) (hs : Save S w w') (hd : ∀ b, Its A xs b → ¬ S b) : OwnI w' lo A (seqL k xs.length) :=
  h.kept hs fun b hb => hd b ⟨hb.1, fun e => hb.2 (by rw [e]; rfl)⟩


/-- The blocks of a binary grammar. -/
def ItsB (b : Bi) (q : Nat) : Prop := ItsL b.Ap b.P q ∨ ItsL b.Ao b.O q ∨ Its b.Ae b.E q ∨ ItsL b.Af b.F q
theorem OwnB.its {w : World} {lo : Nat} {b : Bi} (h : OwnB w lo b) {q : Nat} (hq : ItsB b q) : lo ≤ q ∧ q < w.heap.size := by
  rcases hq with hq | hq | hq | hq
  · exact h.1.its hq
  · exact h.2.1.its hq
  · exact h.2.2.1.its hq
  · exact h.2.2.2.its hq
theorem OwnB.kept {S : Nat → Prop} {w w' : World} {lo : Nat} {b : Bi} (h : OwnB w lo b) (hs : Save S w w') (hd : ∀ q, ItsB b q → ¬ S q) : OwnB w' lo b :=
  ⟨h.1.kept hs fun q hq => hd q (.inl hq), h.2.1.kept hs fun q hq => hd q (.inr (.inl hq)), h.2.2.1.kept hs fun q hq => hd q (.inr (.inr (.inl hq))), h.2.2.2.kept hs fun q hq => hd q (.inr (.inr (.inr hq)))⟩

/-- How many numbers lists hold. -/
def lcn (ls : List Li) : Nat := lcnt ls ls.length
theorem lcnt_le {ls : List Li} (h : ∀ u ∈ ls, u.r.length ≤ 1048576) : ∀ i, i ≤ ls.length → lcnt ls i ≤ i * 1048577
  | 0, _ => by simp [lcnt_zero]
  | i + 1, hi => by
    have h1 := lcnt_le h i (by omega)
    rw [lcnt_succ (by omega)]
    have := h ls[i] (List.getElem_mem (by omega))
    omega
theorem lcn_le {ls : List Li} (h1 : ls.length ≤ 1048576) (h : ∀ u ∈ ls, u.r.length ≤ 1048576) : lcn ls ≤ 1099512676352 := by
  have := lcnt_le h ls.length (Nat.le_refl _)
  have h2 : ls.length * 1048577 ≤ 1048576 * 1048577 := Nat.mul_le_mul_right _ h1
  unfold lcn
  omega
/-- A binary grammar with all its numbers marked from k on. -/
def markB (k : Int) (b : Bi) : Bi := { b with
  P := markM k b.P b.P.length
  O := markM (k + (lcn b.P : Int)) b.O b.O.length
  E := seqL (k + (lcn b.P : Int) + (lcn b.O : Int)) b.E.length
  F := markM (k + (lcn b.P : Int) + (lcn b.O : Int) + (b.E.length : Int)) b.F b.F.length }
def cntBi (b : Bi) : Nat := lcn b.P + lcn b.O + b.E.length + lcn b.F

def MarkedB (w : World) (lo : Nat) (b : Bi) (k : Int) (e : Ending) (w' : World) : Prop :=
  e = .returned (.int .i64 (k + (cntBi b : Int))) ∧ OwnB w' lo (markB k b) ∧ Save (ItsB b) w w'

set_option maxHeartbeats 1000000 in
theorem markBinary_any (b : Bi) (lo : Nat) (k : Int) (w : World) (h : OwnB w lo b) (ha : ApartB b) (hm : LenB 1048576 b) (hk : 0 ≤ k) (hk' : k ≤ 16) :
    Calls Tryd.prog 35 #[(.agg #[.int .i64 b.n, .int .i64 b.t, .slice b.Ap b.P.length b.cp, .slice b.Ao b.O.length b.co, .slice b.Ae b.E.length b.ce, .slice b.Af b.F.length b.cf]), .int .i64 k] w (MarkedB w lo b k) := by
  have HO := Lib.hid h; clear h
  have HA := Lib.hid ha; clear ha
  have HM := Lib.hid hm; clear hm
  have hlp := lcn_le HM.out.p HM.out.ps
  have hlo := lcn_le HM.out.o HM.out.os
  have hle := HM.out.e
  have HBX : Hid (Below w.heap.size w (w.alloc (.cells #[.int .i64 b.n, .int .i64 b.t, .slice b.Ap b.P.length b.cp, .slice b.Ao b.O.length b.co, .slice b.Ae b.E.length b.ce, .slice b.Af b.F.length b.cf] 41))) := by show Below _ _ _; go_grown
  have HR0 : Hid (Row (w.alloc (.cells #[.int .i64 b.n, .int .i64 b.t, .slice b.Ap b.P.length b.cp, .slice b.Ao b.O.length b.co, .slice b.Ae b.E.length b.ce, .slice b.Af b.F.length b.cf] 41)) w.heap.size 41 #[.int .i64 b.n, .int .i64 b.t, .slice b.Ap b.P.length b.cp, .slice b.Ao b.O.length b.co, .slice b.Ae b.E.length b.ce, .slice b.Af b.F.length b.cf]) := Row.new _ _ _
  have HO0 := Lib.hid (HO.out.below HBX.out (Nat.le_refl _))
  go_enter Tryd.func35, Tryd.ntmps35
  go_wp2_with fail
  generalize (w.alloc (.cells #[.int .i64 b.n, .int .i64 b.t, .slice b.Ap b.P.length b.cp, .slice b.Ao b.O.length b.co, .slice b.Ae b.E.length b.ce, .slice b.Af b.F.length b.cf] 41)) = W at HBX HR0 HO0 ⊢
  have HNI : Hid (∀ q, ItsB b q → q < w.heap.size) := fun q hq => (HO.out.its hq).2
  refine (markIntSS_any _ _ _ lo _ _ HO0.out.1 HM.out.p HM.out.ps hk (by omega)).mono ?_
  rintro e w1 ⟨rfl, hP, hS1⟩
  have HP := Lib.hid hP; clear hP
  have HO1 := Lib.hid (HO0.out.2.1.kept hS1 fun q h h' => HA.out.po q h' h)
  have HE1 := Lib.hid (HO0.out.2.2.1.kept hS1 fun q h h' => HA.out.pe q h' h)
  have HF1 := Lib.hid (HO0.out.2.2.2.kept hS1 fun q h h' => HA.out.pf q h' h)
  have HR1 := Lib.hid (HR0.out.save hS1 fun h => by have := HNI.out _ (.inl h); omega)
  have HS1 : Hid (Save (ItsB b) W w1) := hS1.wider fun q h => .inl h
  clear hS1 HO0 HR0
  have a3 := HR1.out.cell 3
  simp only [List.getElem?_toArray, List.getElem?_cons_succ, List.getElem?_cons_zero] at a3
  have e1 : k + ((lcnt b.P b.P.length : Nat) : Int) = k + (lcn b.P : Int) := rfl
  rw [e1]
  clear e1
  go_wp2_with fail
  refine (markIntSS_any _ _ _ lo _ _ HO1.out HM.out.o HM.out.os (by omega) (by omega)).mono ?_
  rintro e w2 ⟨rfl, hO, hS2⟩
  have HQO := Lib.hid hO; clear hO
  have HP2 := Lib.hid (HP.out.save' hS2 fun q h h' => HA.out.po q h h')
  have HE2 := Lib.hid (HE1.out.kept hS2 fun q h h' => HA.out.oe q h' h)
  have HF2 := Lib.hid (HF1.out.kept hS2 fun q h h' => HA.out.of q h' h)
  have HR2 := Lib.hid (HR1.out.save hS2 fun h => by have := HNI.out _ (.inr (.inl h)); omega)
  have HS2 : Hid (Save (ItsB b) W w2) := HS1.out.trans (hS2.wider fun q h => .inr (.inl h))
  clear hS2 HP HE1 HF1 HR1 HO1 HS1 a3
  have a4 := HR2.out.cell 4
  simp only [List.getElem?_toArray, List.getElem?_cons_succ, List.getElem?_cons_zero] at a4
  have e1 : k + (lcn b.P : Int) + ((lcnt b.O b.O.length : Nat) : Int) = k + (lcn b.P : Int) + (lcn b.O : Int) := rfl
  rw [e1]
  clear e1
  go_wp2_with fail
  refine (markIntS_any _ _ _ lo _ _ HE2.out HM.out.e (by omega) (by omega)).mono ?_
  rintro e w3 ⟨rfl, hE, hS3⟩
  have HQE := Lib.hid hE; clear hE
  have HP3 := Lib.hid (HP2.out.save' hS3 fun q h h' => HA.out.pe q h h')
  have HO3 := Lib.hid (HQO.out.save' hS3 fun q h h' => HA.out.oe q h h')
  have HF3 := Lib.hid (HF2.out.kept hS3 fun q h h' => HA.out.ef q h' h)
  have HR3 := Lib.hid (HR2.out.save hS3 fun h => by have := HNI.out _ (.inr (.inr (.inl h))); omega)
  have HS3 : Hid (Save (ItsB b) W w3) := HS2.out.trans (hS3.wider fun q h => .inr (.inr (.inl h)))
  clear hS3 HP2 HE2 HF2 HR2 HQO HS2 a4
  have a5 := HR3.out.cell 5
  simp only [List.getElem?_toArray, List.getElem?_cons_succ, List.getElem?_cons_zero] at a5
  go_wp2_with fail
  refine (markIntSS_any _ _ _ lo _ _ HF3.out HM.out.f HM.out.fs (by omega) (by omega)).mono ?_
  rintro e w4 ⟨rfl, hF, hS4⟩
  have HQF := Lib.hid hF; clear hF
  have HP4 := Lib.hid (HP3.out.save' hS4 fun q h h' => HA.out.pf q h h')
  have HO4 := Lib.hid (HO3.out.save' hS4 fun q h h' => HA.out.of q h h')
  have HE4 := Lib.hid (HQE.out.save' hS4 fun q h h' => HA.out.ef q h h')
  have HS4 : Hid (Save (ItsB b) W w4) := HS3.out.trans (hS4.wider fun q h => .inr (.inr (.inr h)))
  clear hS4 HP3 HO3 HQE HR3 HF3 HS3 a5
  have HV : Hid (k + (lcn b.P : Int) + (lcn b.O : Int) + (b.E.length : Int) + ((lcnt b.F b.F.length : Nat) : Int) = k + (cntBi b : Int)) := by
    show _ = _
    have : (lcnt b.F b.F.length : Nat) = lcn b.F := rfl
    unfold cntBi
    omega
  go_wp2
  go_ret
  exact ⟨ret_int HV.out, ⟨HP4.out, HO4.out, HE4.out, HQF.out⟩, (Save.of_below HBX.out).trans HS4.out⟩

end Go.Proofs.YtaobkanliiiapaaDoor

/- How many rules the lists of a binary grammar make that the laws take. -/

namespace Go.Proofs.YtaobkanliiiapaaDoor
open Go.RowKit

def TotB (s : Bs) : Prop := s.P.length + s.O.length + s.E.length ≤ 1048576
theorem szLs_less {xs : List (List Int)} {L : Int} (_hL : 0 ≤ L) (h : 0 ≤ szLs xs L) : szLs xs L ≤ L - xs.length := by
  unfold szLs at h ⊢
  split at h
  · omega
  · rename_i hn
    rw [if_neg hn]
    exact (szL_ge xs (L := L - xs.length) (by omega)).2 h |>.1
theorem szB_total {b : Bi} (hp : 0 ≤ szB (sayL b.P) (sayL b.O) b.E (sayL b.F) 1048576) : TotB b.say := by
  unfold szB at hp
  split at hp
  · omega
  rename_i h1
  split at hp
  · omega
  rename_i h2
  split at hp
  · omega
  rename_i h3
  have a1 := szLs_less (xs := sayL b.P) (L := 1048576) (by omega) (by omega)
  have a2 := szLs_less (xs := sayL b.O) (L := szLs (sayL b.P) 1048576) (by omega) (by omega)
  have e3 : szI b.E.length (szLs (sayL b.O) (szLs (sayL b.P) 1048576)) = szLs (sayL b.O) (szLs (sayL b.P) 1048576) - b.E.length := by
    unfold szI at h3 ⊢; split <;> simp_all
  show (sayL b.P).length + (sayL b.O).length + b.E.length ≤ 1048576
  omega
theorem TotB.of {b b' : Bi} (h : TotB b.say) (e : b'.say = b.say) : b'.P.length + b'.O.length + b'.E.length ≤ 1048576 := by
  have h2 : TotB b'.say := e ▸ h
  have h3 : (sayL b'.P).length + (sayL b'.O).length + b'.E.length ≤ 1048576 := h2
  rw [sayL_len, sayL_len] at h3
  exact h3
theorem FitB.of {b b' : Bi} (h : FitB b.say) (e : b'.say = b.say) : FitB b'.say := e ▸ h

end Go.Proofs.YtaobkanliiiapaaDoor

/- The program's iterator over a chart's cells. -/

namespace Go.Proofs.YtaobkanliiiapaaDoor
open Go.RowKit Go.Shelf
attribute [local go_sem] Oper.semAt_some

/-- The cells of a chart in their order: all with at most m tokens, and f of the next ones. -/
def cellsTo (n m f : Nat) : List (Int × Int) := ((List.range m).flatMap fun (j : Nat) => (List.range (n - j)).map fun (i : Nat) => ((i : Int), (i : Int) + 1 + j)) ++ (List.range f).map fun (i : Nat) => ((i : Int), (i : Int) + 1 + m)
def cellsN (n : Nat) : List (Int × Int) := cellsTo n n 0
theorem cellsTo_step (n m f : Nat) : cellsTo n m (f + 1) = cellsTo n m f ++ [((f : Int), (f : Int) + 1 + m)] := by
  unfold cellsTo
  rw [List.range_succ, List.map_append, List.append_assoc]; rfl
theorem cellsTo_next (n m : Nat) : cellsTo n m (n - m) = cellsTo n (m + 1) 0 := by
  unfold cellsTo
  rw [List.range_succ, List.flatMap_append]; simp
theorem cellsTo_len (n : Nat) : ∀ (m f : Nat), m ≤ n → f ≤ n - m → (cellsTo n m f).length ≤ n * m + f
  | 0, f, _, _ => by simp [cellsTo]
  | m + 1, f, h, _ => by
    have ih := cellsTo_len n m (n - m) (by omega) (Nat.le_refl _)
    rw [cellsTo_next] at ih
    have e : (cellsTo n (m + 1) f).length = (cellsTo n (m + 1) 0).length + f := by unfold cellsTo; simp
    rw [e, Nat.mul_succ]
    omega

/-- A cell's from and to. -/
abbrev Spn (n : Nat) : Type := { p : Int × Int // spanB (n : Int) p.1 p.2 = true }
abbrev encS {n : Nat} (p : Spn n) : Array Value := #[.int .i64 p.1.1, .int .i64 p.1.2]
/-- A block lies as it lay. -/
def KpB (B : Nat) (W W' : World) : Prop := W'.heap[B]? = W.heap[B]?

set_option maxRecDepth 100000 in
set_option maxHeartbeats 2000000 in
theorem cells1_in (k : Nat) (hk : 1 ≤ k) (n : Nat) (hn : n ≤ 10) (l Bn : Nat) (J Jx : List (Spn n) → World → Prop)
    (hY : ∀ pre x W, J pre W → pre.length < 111 → YieldAt Fence.wide (k - 1) Tryd.prog l (encS x) W fun e W' =>
      (e = .returned (.bool true) ∧ J (pre ++ [x]) W' ∧ KpB Bn W W') ∨ (e = .returned (.bool false) ∧ Jx (pre ++ [x]) W'))
    (W : World) (hBn : W.heap[Bn]? = some (.cells #[.int .i64 (n : Int)] 3 (0, 0))) (h0 : J [] W) :
    CallsIn Fence.wide k Tryd.prog 114 #[.func (.yield l) #[] #[], .pointer (some ⟨Bn, 0, none⟩)] W fun e W' => (∃ v, e = .returned v) ∧
      ((∃ ys : List (Spn n), ys.map Subtype.val = cellsN n ∧ J ys W') ∨ (∃ pre, True ∧ Jx pre W')) := by
  have HB0 : Hid (KpB Bn W W) := rfl
  have hc0 : W.cell? ⟨Bn, 0, none⟩ = some (.int .i64 (n : Int)) := by simp [World.cell?, hBn]
  have HBN := Lib.hid hBn; clear hBn
  refine callsIn_of_wp Tryd.func114 rfl trivial ?_ rfl
  simp only [Tryd.ntmps114, List.size_toArray, List.length_cons, List.length_nil, Nat.reduceAdd, Nat.reduceSub, Array.replicate_succ, Array.replicate_zero, List.push_toArray, List.append_toArray, List.nil_append, List.cons_append]
  gi_wp2
  clear hc0
  gi_loopw [6] (fun i wr => ∃ (m : Nat) (pre : List (Spn n)), m ≤ n ∧ i = .int .i64 m ∧ Hid (pre.map Subtype.val = cellsTo n m 0) ∧ Hid (KpB Bn W wr) ∧ Hid (J pre wr)) (fun i _ => n - (intOf i).toNat)
  case atStart => exact ⟨0, [], Nat.zero_le _, rfl, rfl, HB0.out, h0⟩
  case round =>
    obtain ⟨m, pre, hm, rfl, HP, HK, HJ⟩ := hrel
    have c0 : wr.cell? ⟨Bn, 0, none⟩ = some (.int .i64 (n : Int)) := by have h := HK.out.trans HBN.out; simp [World.cell?, h]
    by_cases hlt : m < n
    · have hlt2 : (m : Int) < (n : Int) := by omega
      gi_wp2
      clear c0
      obtain ⟨wA, hwA⟩ : ∃ x, x = wr := ⟨_, rfl⟩
      subst hwA
      gi_loopw [12] (fun i wr => ∃ (f : Nat) (pre : List (Spn n)), f ≤ n - m ∧ i = .int .i64 f ∧ Hid (pre.map Subtype.val = cellsTo n m f) ∧ Hid (KpB Bn W wr) ∧ Hid (J pre wr)) (fun i _ => n - m - (intOf i).toNat)
      case atStart => exact ⟨0, pre, Nat.zero_le _, rfl, HP.out, HK.out, HJ.out⟩
      case round =>
        clear HP HK HJ
        obtain ⟨f, pre, hf, rfl, HP, HK, HJ⟩ := hrel
        by_cases hlf : f < n - m
        · have hsp : spanB (n : Int) (f : Int) ((f : Int) + 1 + (m : Int)) = true := spanB_t (by omega) (by omega) (by omega) (by omega) (by omega)
          have hlen : pre.length < 111 := by
            have h := congrArg List.length HP.out
            rw [List.length_map] at h
            have h2 := cellsTo_len n m f hm hf
            have h3 : n * m ≤ 10 * 10 := Nat.mul_le_mul hn (by omega)
            omega
          obtain ⟨fn, tmps, assign, body, hy, hR⟩ := hY pre ⟨((f : Int), (f : Int) + 1 + (m : Int)), hsp⟩ wr HJ.out hlen
          dsimp only [encS] at hy
          have HPN : Hid ((pre ++ [(⟨((f : Int), (f : Int) + 1 + (m : Int)), hsp⟩ : Spn n)]).map Subtype.val = cellsTo n m (f + 1)) := by
            show _ = _
            rw [List.map_append, HP.out, cellsTo_step]; rfl
          have hlf2 : (f : Int) < (n : Int) - (m : Int) := by omega
          gi_wp2
          refine hR.mono ?_
          rintro e W3 (⟨rfl, hJ3, hk3⟩ | ⟨rfl, hJx3⟩)
          · have HK3 : Hid (KpB Bn W W3) := hk3.trans HK.out
            have HJ3 := Lib.hid hJ3
            clear hJ3 hk3
            gi_wp2
            go_roundw
            case rel => exact ⟨f + 1, _, by omega, by go_num, HPN.out, HK3.out, HJ3.out⟩
            case measure => simp [intOf]; omega
          · gi_wp2
            refine bodyPost_ret (results_none rfl _ _ _) rfl ?_
            exact ⟨⟨_, rfl⟩, .inr ⟨_, trivial, hJx3⟩⟩
        · obtain rfl : f = n - m := by omega
          have HPN : Hid (pre.map Subtype.val = cellsTo n (m + 1) 0) := HP.out.trans (cellsTo_next n m)
          have hnf : ¬ (((n - m : Nat) : Int) < (n : Int) - (m : Int)) := by omega
          gi_wp2
          go_roundw
          case rel => exact ⟨m + 1, pre, by omega, by go_num, HPN.out, HK.out, HJ.out⟩
          case measure => simp [intOf]; omega
    · obtain rfl : m = n := by omega
      gi_wp2
      go_end0
      exact ⟨⟨_, rfl⟩, .inl ⟨pre, HP.out, HJ.out⟩⟩

/-- The iterator's contract. -/
theorem cells_stops (k : Nat) (hk : 1 ≤ k) (n : Nat) (hn : n ≤ 10) (Bn : Nat) (w : World) (hB : Bn < w.heap.size) (hBn : w.heap[Bn]? = some (.cells #[.int .i64 (n : Int)] 3 (0, 0))) :
    SeqStopsK Fence.wide k Tryd.prog 114 #[.pointer (some ⟨Bn, 0, none⟩)] encS (KpB Bn) (fun ys : List (Spn n) => ys.map Subtype.val = cellsN n) (fun _ => True) 111 w := fun l J Jx W hW _ _ hY h0 =>
  cells1_in k hk n hn l Bn J Jx hY W ((hW.block Bn hB).trans hBn) h0

theorem KpB.trans' {B : Nat} {W W1 W2 : World} (h : KpB B W W1) (h2 : KpB B W1 W2) : KpB B W W2 := Eq.trans h2 h
theorem KpB.put {B N : Nat} (hB : B < N) (W : World) (l : Nat) (o o' : Obj) (hl : N ≤ l) (_ : W.heap[l]? = some o) (_ : o.isCells = false) (_ : o.isWalk = false) : KpB B W (W.putObj l o') := by
  show (W.putObj l o').heap[B]? = W.heap[B]?
  have hne : l ≠ B := by omega
  simp [World.putObj, hne]

set_option maxRecDepth 100000 in
theorem cellsOf_in (k : Nat) (n : Int) (w : World) :
    CallsIn Fence.wide k Tryd.prog 75 #[.int .i64 n] w fun e w' => e = .returned (.func (.func 114) #[] #[.pointer (some ⟨w.heap.size, 0, none⟩)]) ∧ w' = w.alloc (.cells #[.int .i64 n] 3) := by
  refine callsIn_of_wp Tryd.func75 rfl trivial ?_ rfl
  simp only [Tryd.ntmps75, List.size_toArray, List.length_cons, List.length_nil, Nat.reduceAdd, Nat.reduceSub, Array.replicate_succ, Array.replicate_zero, List.push_toArray, List.append_toArray, List.nil_append, List.cons_append]
  gi_wp2
  go_ret
  exact ⟨rfl, rfl⟩

end Go.Proofs.YtaobkanliiiapaaDoor

/- The program's JoinSteps. -/

namespace Go.Proofs.YtaobkanliiiapaaDoor
open Go.RowKit Go.Shelf
attribute [local go_sem] Oper.semAt_some

/-- How many places there are between, added over cells. -/
def sumL : List (Int × Int) → Int
  | [] => 0
  | p :: r => (p.2 - p.1 - 1) + sumL r
theorem sumL_snoc (p : Int × Int) : ∀ xs, sumL (xs ++ [p]) = sumL xs + (p.2 - p.1 - 1)
  | [] => by simp [sumL]
  | q :: r => by rw [List.cons_append, sumL, sumL, sumL_snoc p r]; omega
def sumS {n : Nat} (xs : List (Spn n)) : Int := sumL (xs.map Subtype.val)
theorem sumS_snoc {n : Nat} (xs : List (Spn n)) (x : Spn n) : sumS (xs ++ [x]) = sumS xs + (x.1.2 - x.1.1 - 1) := by
  unfold sumS; rw [List.map_append]; exact sumL_snoc _ _
theorem sumS_bound {n : Nat} : ∀ (xs : List (Spn n)), 0 ≤ sumS xs ∧ sumS xs ≤ 9 * xs.length
  | [] => by simp [sumS, sumL]
  | x :: r => by
    have ih := sumS_bound r
    have h := spanB_is x.2
    have e : sumS (x :: r) = (x.1.2 - x.1.1 - 1) + sumS r := rfl
    rw [e, List.length_cons]
    omega
/-- How many from, place between and to there are. -/
def plN (n : Int) : Int := (n + 1) * n * (n - 1) / 6
theorem sumL_cells {n : Nat} (hn : n ≤ 10) : sumL (cellsN n) = plN n := by
  have h : n = 0 ∨ n = 1 ∨ n = 2 ∨ n = 3 ∨ n = 4 ∨ n = 5 ∨ n = 6 ∨ n = 7 ∨ n = 8 ∨ n = 9 ∨ n = 10 := by omega
  rcases h with rfl | rfl | rfl | rfl | rfl | rfl | rfl | rfl | rfl | rfl | rfl <;> decide +kernel

/-- What JoinSteps answers. -/
noncomputable def okJ (s : Bs) (n : Int) : Bool := bP (GoodBs s) && inB 0 10 n
noncomputable def stpV (s : Bs) (n : Int) : Int := if okJ s n then s.P.length * plN n else 0

set_option maxRecDepth 100000 in
set_option maxHeartbeats 4000000 in
theorem implJoinSteps_any (b : Bi) (n : Int) (w : World) (hx : ReadB w w.heap.size b) (hL : Lims w) (hm : LenB 1048576 b) (hf : FitB b.say) :
    Calls Tryd.prog 25 #[(.agg #[.int .i64 b.n, .int .i64 b.t, .slice b.Ap b.P.length b.cp, .slice b.Ao b.O.length b.co, .slice b.Ae b.E.length b.ce, .slice b.Af b.F.length b.cf]), .int .i64 n] w fun e w' => e = .returned (.tuple #[.int .i64 (stpV b.say n), .bool (okJ b.say n)]) ∧ Below w.heap.size w w' := by
  have HX := Lib.hid hx; clear hx
  have HM := Lib.hid hm; clear hm
  have HL := Lib.hid hL; clear hL
  have HF := Lib.hid hf; clear hf
  have HB0 : Hid (Below w.heap.size w (w.alloc (.cells #[.int .i64 b.n, .int .i64 b.t, .slice b.Ap b.P.length b.cp, .slice b.Ao b.O.length b.co, .slice b.Ae b.E.length b.ce, .slice b.Af b.F.length b.cf] 41))) := by show Below _ _ _; go_grown
  have BX0 := Lib.hid (Box6.new w b 41)
  have HCG := Lib.hid (implGoodB_any b (w.alloc (.cells #[.int .i64 b.n, .int .i64 b.t, .slice b.Ap b.P.length b.cp, .slice b.Ao b.O.length b.co, .slice b.Ae b.E.length b.ce, .slice b.Af b.F.length b.cf] 41)) ((HX.out.keep HB0.out).more HB0.out.size) (HL.out.keep HB0.out (Nat.le_refl _)) HM.out HF.out)
  cases hg : bP (GoodBs b.say)
  · have HO : Hid (okJ b.say n = false) := by show _ = _; unfold okJ; rw [hg]; rfl
    have HV : Hid (stpV b.say n = 0) := by show _ = _; unfold stpV; rw [HO.out]; rfl
    rw [hg] at HCG
    go_enter Tryd.func25, Tryd.ntmps25
    go_wp2_with (go_at_call 74; refine HCG.out.mono ?_; rintro e w1 ⟨rfl, hB1⟩; have HB1 := Lib.hid (HB0.out.trans (hB1.mono HB0.out.size)); clear hB1)
    go_ret2
    exact ⟨by rw [HV.out, HO.out]; rfl, HB1.out⟩
  rw [hg] at HCG
  cases hn : inB 0 10 n
  · have HO : Hid (okJ b.say n = false) := by show _ = _; unfold okJ; rw [hg, hn]; rfl
    have HV : Hid (stpV b.say n = 0) := by show _ = _; unfold stpV; rw [HO.out]; rfl
    go_enter Tryd.func25, Tryd.ntmps25
    go_wp2_with (first
      | (go_at_call 74; refine HCG.out.mono ?_; rintro e w1 ⟨rfl, hB1⟩; have HB1 := Lib.hid (HB0.out.trans (hB1.mono HB0.out.size)); clear hB1)
      | (go_at_call 57; refine (within4 n w1 (HL.out.keep HB1.out (Nat.le_refl _))).mono ?_; rintro e w2 ⟨rfl, hB2⟩; rw [hn]; have HB2 := Lib.hid (HB1.out.trans (hB2.mono HB1.out.size)); clear hB2))
    go_ret2
    exact ⟨by rw [HV.out, HO.out]; rfl, HB2.out⟩
  have HO : Hid (okJ b.say n = true) := by show _ = _; unfold okJ; rw [hg, hn]; rfl
  have HV : Hid (stpV b.say n = b.P.length * plN n) := by show _ = _; unfold stpV; rw [HO.out, if_pos rfl]; show ((sayL b.P).length : Int) * _ = _; rw [sayL_len]
  obtain ⟨m, rfl⟩ := Int.eq_ofNat_of_zero_le (inB_lo hn)
  have hm10 : m ≤ 10 := by have := inB_hi hn; omega
  refine (callsIn_wide (n := 3)).1 ?_
  refine callsIn_of_wp_marks Tryd.func25 rfl trivial ?_ rfl
  simp only [Tryd.ntmps25, List.size_toArray, List.length_cons, List.length_nil, Nat.reduceAdd, Nat.reduceSub, Array.replicate_succ, Array.replicate_zero, List.push_toArray, List.append_toArray, List.nil_append, List.cons_append]
  gi_wp2_with (first
    | (refine ⟨trivial, ?_⟩
       gi_at_call 74
       refine (callsIn_wide.2 HCG.out).mono ?_
       rintro e w1 ⟨rfl, hB1⟩
       have BX1 := Lib.hid (BX0.out.keep hB1 BX0.out.1)
       have HB1 := Lib.hid (HB0.out.trans (hB1.mono HB0.out.size))
       clear hB1)
    | (refine ⟨trivial, ?_⟩
       gi_at_call 57
       refine (callsIn_wide.2 (within4 m w1 (HL.out.keep HB1.out (Nat.le_refl _)))).mono ?_
       rintro e w2 ⟨rfl, hB2⟩
       rw [hn]
       have BX2 := Lib.hid (BX1.out.keep hB2 BX1.out.1)
       have HB2 := Lib.hid (HB1.out.trans (hB2.mono HB1.out.size))
       clear hB2)
    | (refine ⟨trivial, ?_⟩
       gi_at_call 75
       refine (cellsOf_in _ m _).mono ?_
       rintro e w3 ⟨rfl, rfl⟩))
  have hsz := HB2.out.size
  have hKn : w.heap.size < w2.heap.size := BX2.out.1
  have hn0 := Row.new w2 3 #[.int .i64 0]
  have hn1 : Row ((w2.alloc (.cells #[.int .i64 0] 3)).alloc (.cells #[.int .i64 (m : Int)] 3)) (w2.heap.size + 1) 3 #[.int .i64 (m : Int)] := by
    have h := Row.new (w2.alloc (.cells #[.int .i64 0] 3)) 3 #[.int .i64 (m : Int)]
    rw [World.size_alloc] at h; exact h
  have hK0 : ((w2.alloc (.cells #[.int .i64 0] 3)).alloc (.cells #[.int .i64 (m : Int)] 3)).cell? ⟨w2.heap.size, 0, none⟩ = some (.int .i64 0) ∧ ((w2.alloc (.cells #[.int .i64 0] 3)).alloc (.cells #[.int .i64 (m : Int)] 3)).frozen? ⟨w2.heap.size, 0, none⟩ = false := ⟨(hn0.alloc _).cell 0, (hn0.alloc _).frozen 0⟩
  have hB3 : Below w.heap.size w ((w2.alloc (.cells #[.int .i64 0] 3)).alloc (.cells #[.int .i64 (m : Int)] 3)) := (HB2.out.alloc hsz _).alloc (by simp; omega) _
  have hP2 : ((w2.alloc (.cells #[.int .i64 0] 3)).alloc (.cells #[.int .i64 (m : Int)] 3)).cell? ⟨w.heap.size, 2, none⟩ = some (.slice b.Ap b.P.length b.cp) := (Below.cell (B := w2.heap.size) (p := ⟨w.heap.size, 2, none⟩) (((Below.refl w2.heap.size w2).alloc (Nat.le_refl _) _).alloc (by simp) _) hKn).trans BX2.out.2.2.2.1
  have hz3 : ((w2.alloc (.cells #[.int .i64 0] 3)).alloc (.cells #[.int .i64 (m : Int)] 3)).heap.size = w2.heap.size + 1 + 1 := by simp
  generalize ((w2.alloc (.cells #[.int .i64 0] 3)).alloc (.cells #[.int .i64 (m : Int)] 3)) = W3 at hn1 hK0 hB3 hP2 hz3 ⊢
  clear hn0
  refine wpIn_rangeFunc_ownF rfl (by omega) (gf := 114) (lb := #[.pointer (some ⟨w2.heap.size + 1, 0, none⟩)]) rfl trivial (enters_of Tryd.func114 (by kernel_rfl) rfl)
    (cells_stops 2 (by omega) m hm10 (w2.heap.size + 1) W3 (by omega) hn1) KpB.trans' (fun W l o o' h1 h2 h3 h4 => KpB.put (N := W3.heap.size) (by omega) W l o o' h1 h2 h3 h4) (Below.refl _ _) (fun _ => rfl)
    (fun (pre : List (Spn m)) W => (W.cell? ⟨w2.heap.size, 0, none⟩ = some (.int .i64 (sumS pre)) ∧ W.frozen? ⟨w2.heap.size, 0, none⟩ = false ∧ W.cell? ⟨w.heap.size, 2, none⟩ = some (.slice b.Ap b.P.length b.cp)) ∧ Below w.heap.size w W)
    (fun _ _ _ => False)
    (OwnFrom.and (Own.from (fun s A B row hs hg hr => ⟨cell_kept hs.1 hg hr, (frozen_kept hs.1 hg hr).trans hs.2.1, cell_kept hs.2.2 hg hr⟩) _) (ownFrom_below (Nat.le_refl _) (by omega)))
    (fun _ _ _ _ _ hs _ _ => hs)
    ⟨⟨hK0.1, hK0.2, hP2⟩, hB3⟩
    (fun x => { tmps := #[(.agg #[.int .i64 b.n, .int .i64 b.t, .slice b.Ap b.P.length b.cp, .slice b.Ao b.O.length b.co, .slice b.Ae b.E.length b.ce, .slice b.Af b.F.length b.cf]), .int .i64 (m : Int), .pointer (some ⟨w.heap.size, 0, none⟩), undef, .int .i64 0, .bool false, .pointer (some ⟨w2.heap.size, 0, none⟩), .int .i64 x.1.1, .int .i64 x.1.2, (.agg #[.int .i64 b.n, .int .i64 b.t, .slice b.Ap b.P.length b.cp, .slice b.Ao b.O.length b.co, .slice b.Ae b.E.length b.ce, .slice b.Af b.F.length b.cf]), .bool true, .bool false, .bool false, .int .i64 (m : Int), .bool true, .bool false, .bool false, .int .i64 (m : Int), .func (.func 114) #[] #[.pointer (some ⟨w2.heap.size + 1, 0, none⟩)], .int .i64 x.1.1, .int .i64 x.1.2, undef, undef, undef, undef, undef, undef, undef, undef, undef, undef, undef], defers := [] }) ?assign ?body ?done ?stop
  case assign =>
    intro l x W K hK
    gi_wp2
    exact hK
  case body =>
    rintro l pre x W ⟨⟨hc, hf, hp⟩, hB⟩ hlen
    have h1 := sumS_bound pre
    have h2 := spanB_is x.2
    gi_wp2
    refine ⟨KeepsOthers.setCell _ _ _, Below.heap_setCell W _ _ _ (by simp), ⟨?_, ?_, ?_⟩, hB.setCell (p := ⟨w2.heap.size, 0, none⟩) hsz _⟩
    · rw [sumS_snoc]; exact World.cell?_setCell_same' _ _ _ (by rw [hc]; rfl)
    · rw [World.frozen?_setCell]; exact hf
    · exact (Below.cell (B := w2.heap.size) (p := ⟨w.heap.size, 2, none⟩) ((Below.refl _ W).setCell (p := ⟨w2.heap.size, 0, none⟩) (Nat.le_refl _) _) hKn).trans hp
  case done =>
    rintro D ys W hD hys ⟨⟨hc, hf, hp⟩, hB⟩ hK
    have hv : sumS ys = plN m := by unfold sumS; rw [hys]; exact sumL_cells hm10
    rw [hv] at hc
    have hq : 0 ≤ plN m ∧ plN m ≤ 165 := by
      have h : m = 0 ∨ m = 1 ∨ m = 2 ∨ m = 3 ∨ m = 4 ∨ m = 5 ∨ m = 6 ∨ m = 7 ∨ m = 8 ∨ m = 9 ∨ m = 10 := by omega
      rcases h with rfl | rfl | rfl | rfl | rfl | rfl | rfl | rfl | rfl | rfl | rfl <;> decide
    have hpl := HM.out.p
    have hw : IntKind.i64.wrap ((b.P.length : Int) * plN m) = (b.P.length : Int) * plN m := by
      have h1 : (b.P.length : Int) * plN m ≤ 1048576 * 165 := Int.mul_le_mul (by omega) hq.2 hq.1 (by omega)
      have h2 : 0 ≤ (b.P.length : Int) * plN m := Int.mul_nonneg (by omega) hq.1
      rw [IntKind.wrap_i64]; omega
    clear hv hys
    gi_wp2
    refine ⟨by simp, .inl ⟨_, _, rfl, run_takeDeferred hK, ?_⟩⟩
    refine ⟨.tuple #[.int .i64 ((b.P.length : Int) * plN m), .bool true], by simp [results, Tryd.results25, go_sem], by rw [HV.out, HO.out], hB.trans (belowK_b (w := w) (Nat.le_refl _) W D _ _ (by omega) hK rfl rfl)⟩
  case stop =>
    rintro D c pre W _ _ h _
    exact h.elim

end Go.Proofs.YtaobkanliiiapaaDoor

/- What the reference's l5Rising and GoodBinary answer. -/

namespace Go.Proofs.YtaobkanliiiapaaDoor
open Go.RowKit
open Go.Sort (grow)

theorem cell0 {w : World} {B : Nat} {A : Option Addr} {xs : List Int} (h : Ints w B A xs) (h0 : 0 < xs.length) : ∃ b o, A = some ⟨b, o, none⟩ ∧ b < B ∧ w.cell? ⟨b, o, none⟩ = some (.int .i64 (xs.getD 0 0)) := by
  obtain ⟨b, o, e, hb, hc⟩ := h.at_ h0
  exact ⟨b, o, e, hb, by rw [getD_zero h0]; exact hc⟩

/-- The first k lists are as they should be. -/
def RisTo (n t long : Int) (xs : List (List Int)) (k : Nat) : Prop := LongTo long xs k ∧ SymTo n t xs k ∧ RiseTo xs k

set_option maxRecDepth 20000 in
set_option maxHeartbeats 1000000 in
theorem l5Rising_any (b : Bi) (long : Nat) (hl2 : 2 ≤ long) (hl3 : long ≤ 3) (A : Option Addr) (ls : List Li) (c : Nat) (w : World) (hn : 1 ≤ b.n) (hn' : b.n ≤ 40) (ht : 1 ≤ b.t) (ht' : b.t ≤ 4) (hx : Lls w w.heap.size A ls) (h1 : ls.length ≤ 1048576) (h2 : ∀ u ∈ ls, u.r.length ≤ 1048576) :
    Calls Tryd.prog 115 #[(.agg #[.int .i64 b.n, .int .i64 b.t, .slice b.Ap b.P.length b.cp, .slice b.Ao b.O.length b.co, .slice b.Ae b.E.length b.ce, .slice b.Af b.F.length b.cf]), .slice A ls.length c, .int .i64 long] w fun e w' => e = .returned (.bool (bP (GoodLs b.n b.t long (sayL ls)))) ∧ Below w.heap.size w w' := by
  have HX := Lib.hid hx; clear hx
  have H2 := Lib.hid h2; clear h2
  have HLN : Hid ((sayL ls).length = ls.length) := sayL_len
  have hB0 : Below w.heap.size w (w.alloc (.cells #[.int .i64 b.n, .int .i64 b.t, .slice b.Ap b.P.length b.cp, .slice b.Ao b.O.length b.co, .slice b.Ae b.E.length b.ce, .slice b.Af b.F.length b.cf] 41)) := by go_grown
  have BX0 := Box6.new w b 41
  go_enter Tryd.func115, Tryd.ntmps115
  go_wp2
  generalize (w.alloc (.cells #[.int .i64 b.n, .int .i64 b.t, .slice b.Ap b.P.length b.cp, .slice b.Ao b.O.length b.co, .slice b.Ae b.E.length b.ce, .slice b.Af b.F.length b.cf] 41)) = W at hB0 BX0 ⊢
  go_loopw [13] (fun i wr => ∃ (k : Nat), k ≤ ls.length ∧ i = .int .i64 k ∧ Below w.heap.size w wr ∧ Box6 wr w.heap.size b ∧ Hid (RisTo b.n b.t long (sayL ls) k)) (fun i _ => ls.length - (intOf i).toNat)
  case atStart => exact ⟨0, by omega, rfl, hB0, BX0, fun j x h => absurd h (by omega), fun j x h => absurd h (by omega), RiseTo.zero _⟩
  case round =>
    clear hB0 BX0
    obtain ⟨k, hk, rfl, hB, hbox, H⟩ := hrel
    by_cases hlt : k < ls.length
    · obtain ⟨p, o, rfl, hb, c1, c2, c3⟩ := (HX.out.keep hB).at_ hlt
      obtain ⟨g0, g1, g2, g3, g4, g5, g6⟩ := id hbox
      have HBX := Lib.hid hbox; clear hbox
      have hlen2 := H2.out ls[k] (List.getElem_mem hlt)
      have HRG : Hid (∀ d os, Below w.heap.size w (grow (redrawn wr d) os)) := fun d os => hB.trans ((below_regrown wr d os).mono hB.size)
      have HWR : Hid (∀ d os, Below wr.heap.size wr (grow (redrawn wr d) os)) := fun d os => below_regrown wr d os
      by_cases hne : (ls[k].r.length : Int) = long
      case neg =>
        have hd : ((ls[k].r.length : Int) != (long : Int)) = true := bne_t hne
        have HE : Hid (bP (GoodLs b.n b.t long (sayL ls)) = false) := bP_f fun h => hne (h.1 k _ (by rw [HLN.out]; exact hlt) (sayL_at hlt))
        clear hne c2 c3 g1 g2 g3 g4 g5 g6
        go_wp2
        refine wp_region_quiet_below (by kernel_rfl) (by kernel_rfl) ?_
        repeat (first | go_big_quiet_step (fail) | quiet_step (fail))
        refine wpQuiet_nil ?_
        intro _ hw'
        obtain ⟨⟨dq, osq⟩, hw''⟩ := hw'
        subst hw''
        go_wp2
        go_ret
        exact ⟨ret_b HE.out.symm, HRG.out dq osq⟩
      have hd : ((ls[k].r.length : Int) != (long : Int)) = false := bne_f hne
      have HLK : Hid ((ls[k].r.length : Int) = long) := hne
      have hr0 : 1 < ls[k].r.length := by omega
      have hc0 : 1 < ls[k].c := by omega
      have hci : (1 : Int) < (ls[k].c : Int) := by omega
      have hri : (1 : Int) < (ls[k].r.length : Int) := by omega
      have hr00 : (0 : Int) < (ls[k].r.length : Int) := by omega
      clear hne c2
      obtain ⟨p', o', ea, hb', d1⟩ := cell0 c3 (by omega)
      have C3 := Lib.hid (c3.more hB.size); clear c3
      have c1' := c1
      rw [ea] at c1' C3
      have q0 := cell_regrown d1
      have q1 := cell_regrown g1
      clear c1 g1 g2 g3 g4 g5 g6 d1
      generalize hx0 : ls[k].r.getD 0 0 = x0 at q0
      have HX0 := Lib.hid hx0; clear hx0
      have hwn : IntKind.i64.wrap (b.n - 1) = b.n - 1 := by rw [IntKind.wrap_i64]; omega
      have HCG : Hid (∀ d os, Calls Tryd.prog 59 #[.int .i64 x0, .int .i64 0, .int .i64 (b.n - 1)] (grow (redrawn wr d) os) fun e w' => e = .returned (.bool (nonB b.n x0)) ∧ Below (grow (redrawn wr d) os).heap.size (grow (redrawn wr d) os) w') := fun d os => by
        have h := l1In_any x0 0 (b.n - 1) (grow (redrawn wr d) os)
        rw [non_in] at h
        exact h.mono fun e w' ⟨h1, h2⟩ => ⟨h1, h2 ▸ Below.refl _ _⟩
      cases hu : nonB b.n x0
      case false =>
        have HU := Lib.hid hu; clear hu
        have HE : Hid (bP (GoodLs b.n b.t long (sayL ls)) = false) := bP_f fun h => by
          have h1 := (h.2.1 k _ (by rw [HLN.out]; exact hlt) (sayL_at hlt)).1
          rw [HX0.out, HU.out] at h1; cases h1
        rw [HU.out] at HCG
        go_wp2
        refine wp_region_quiet_below (by kernel_rfl) (by kernel_rfl) ?_
        repeat (first | go_big_quiet_step (exact Calls.regrown_of (HCG.out _ _)) | quiet_step (exact Calls.regrown_of (HCG.out _ _)))
        refine wpQuiet_nil ?_
        intro _ hw'
        obtain ⟨⟨dq, osq⟩, hw''⟩ := hw'
        subst hw''
        go_wp2
        go_ret
        exact ⟨ret_b HE.out.symm, HRG.out dq osq⟩
      have HU := Lib.hid hu; clear hu
      rw [HU.out] at HCG
      have HNL : Hid (LongTo long (sayL ls) (k + 1)) := upto_next (Q := fun x : List Int => (x.length : Int) = long) (sayL_at hlt) HLK.out H.out.1
      by_cases hk0 : k = 0
      · have hpos : decide (0 < k) = false := decide_eq_false (by omega)
        have hpos' : ¬ 0 < k := by omega
        have HNR : Hid (RiseTo (sayL ls) (k + 1)) := by rw [hk0]; exact RiseTo.none _
        clear hk0
        go_wp2
        refine wp_region_quiet_below (by kernel_rfl) (by kernel_rfl) ?_
        repeat (first | go_big_quiet_step (exact Calls.regrown_of (HCG.out _ _)) | quiet_step (exact Calls.regrown_of (HCG.out _ _)))
        refine wpQuiet_nil ?_
        intro _ hw'
        obtain ⟨⟨dq, osq⟩, hw''⟩ := hw'
        subst hw''
        have hBQ := HRG.out dq osq
        have hbq := HBX.out.keep (HWR.out dq osq) g0
        have CQ := Lib.hid ((C3.out.keep (HWR.out dq osq)).more (HWR.out dq osq).size)
        generalize (grow (redrawn wr dq) osq) = wq at hBQ hbq CQ ⊢
        have HCD : Hid (Ints wq wq.heap.size (some ⟨p', o' + 1, none⟩) (ls[k].r.drop 1)) := CQ.out.drop1
        have hdl : (ls[k].r.drop 1).length = ls[k].r.length - 1 := List.length_drop
        have HDL := Lib.hid hdl; clear hdl
        clear q0 q1 HCG CQ c1'
        obtain ⟨wA, hwA⟩ : ∃ x, x = wr := ⟨wr, rfl⟩
        subst hwA
        go_wp2
        go_loopw [49] (fun i wr => ∃ (m : Nat), m ≤ ls[k].r.length - 1 ∧ i = .int .i64 m ∧ Below wq.heap.size wq wr ∧ Box6 wr w.heap.size b ∧ Hid (∀ (j : Nat) (x : Int), j < m → (ls[k].r.drop 1)[j]? = some x → symB b.n b.t x = true)) (fun i _ => ls[k].r.length - 1 - (intOf i).toNat)
        case atStart => exact ⟨0, by omega, rfl, Below.refl _ _, hbq, fun j x h => absurd h (by omega)⟩
        case round =>
          obtain ⟨m, hm, rfl, hBm, hbm, HM⟩ := hrel
          by_cases hmt : m < ls[k].r.length - 1
          · obtain ⟨p2, o2, e2, _, cm⟩ := (HCD.out.keep hBm).at_ (k := m) (by rw [HDL.out]; exact hmt)
            injection e2 with e2
            injection e2 with e3 e4
            subst e3 e4
            obtain ⟨m0, m1, m2, m3, m4, m5, m6⟩ := id hbm
            have HBM := Lib.hid hbm; clear hbm
            generalize hxm : (ls[k].r.drop 1)[m]'(by rw [HDL.out]; exact hmt) = xm at cm
            have HXM : Hid ((ls[k].r.drop 1)[m]? = some xm) := by show _ = _; rw [List.getElem?_eq_getElem (by rw [HDL.out]; exact hmt), hxm]
            clear hxm
            cases hs : symB b.n b.t xm
            all_goals
              have HSY := Lib.hid hs; clear hs
              go_wp2_with fail
              refine (l5Symbol_any b _ _ hn hn' ht ht').mono ?_
              rintro e w3 ⟨rfl, hB3⟩
              rw [HSY.out]
              have hB4 : Below wq.heap.size wq w3 := hBm.trans (hB3.mono hBm.size)
            · have HE : Hid (bP (GoodLs b.n b.t long (sayL ls)) = false) := bP_f fun h => by
                have h1 := (h.2.1 k _ (by rw [HLN.out]; exact hlt) (sayL_at hlt)).2
                have h2 := symsB_iff.1 h1 m xm HXM.out
                rw [HSY.out] at h2; cases h2
              go_wp2
              go_ret
              exact ⟨ret_b HE.out.symm, hBQ.trans (hB4.mono hBQ.size)⟩
            · have HN : Hid (∀ (j : Nat) (x : Int), j < m + 1 → (ls[k].r.drop 1)[j]? = some x → symB b.n b.t x = true) := upto_next (Q := fun x => symB b.n b.t x = true) HXM.out HSY.out HM.out
              go_wp2
              go_roundw
              case rel => exact ⟨m + 1, by omega, by go_num, hB4, HBM.out.keep hB3 m0, HN.out⟩
              case measure => simp [intOf]; omega
          · have HS : Hid (SymTo b.n b.t (sayL ls) (k + 1)) := upto_next (Q := symL b.n b.t) (sayL_at hlt) ⟨by rw [HX0.out]; exact HU.out, symsB_of (k := m) (by rw [HDL.out]; exact hmt) HM.out⟩ H.out.2.1
            have HBM := Lib.hid hbm; clear hbm
            go_wp2
            go_roundw
            case rel => exact ⟨k + 1, by omega, by go_num, hBQ.trans (hBm.mono hBQ.size), HBM.out, HNL.out, HS.out, HNR.out⟩
            case measure => simp [intOf]; omega
      · have hpos : decide (0 < k) = true := decide_eq_true (by omega)
        have hpos' : 0 < k := by omega
        obtain ⟨j, hj⟩ : ∃ j, k = j + 1 := ⟨k - 1, by omega⟩
        have hltj : j < ls.length := by omega
        have hwk : IntKind.i64.wrap ((k : Int) - 1) = (j : Int) := by rw [IntKind.wrap_i64]; omega
        have hjl : (j : Int) < (ls.length : Int) := by omega
        obtain ⟨pp, oo, e', _, d1, d2, d3⟩ := (HX.out.keep hB).at_ hltj
        injection e' with e'
        injection e' with e1 e2
        subst e1 e2
        have qj := cell_regrown d1
        have D3 := Lib.hid (d3.more hB.size); clear d1 d2 d3
        have HLJ : Hid ((ls[j].r.length : Int) = long) := H.out.1 j _ (by omega) (sayL_at hltj)
        have hl21 : ls[j].r.length ≤ ls[k].r.length := by have := HLJ.out; have := HLK.out; omega
        have hl22 : ls[k].r.length ≤ ls[j].r.length := by have := HLJ.out; have := HLK.out; omega
        have hlenj := H2.out ls[j] (List.getElem_mem hltj)
        have HCH : Hid (∀ d os, Calls Tryd.prog 156 #[.slice ls[j].a ls[j].r.length ls[j].c, .slice (some ⟨p', o', none⟩) ls[k].r.length ls[k].c] (grow (redrawn wr d) os) fun e w' => e = .returned (.bool (bP (cmpL ls[j].r ls[k].r < 0))) ∧ Below (grow (redrawn wr d) os).heap.size (grow (redrawn wr d) os) w') := fun d os =>
          l5Less_any _ _ _ _ _ _ _ ((D3.out.keep (HWR.out d os)).more (HWR.out d os).size) ((C3.out.keep (HWR.out d os)).more (HWR.out d os).size) hlenj hl21 hl22
        have HJ := Lib.hid hj; clear hj
        cases hq : bP (cmpL ls[j].r ls[k].r < 0)
        · have HQ := Lib.hid hq; clear hq
          have HE : Hid (bP (GoodLs b.n b.t long (sayL ls)) = false) := bP_f fun h => bP_no HQ.out (h.2.2 j _ _ (by rw [HLN.out, ← HJ.out]; exact hlt) (sayL_at hltj) (by rw [← HJ.out]; exact sayL_at hlt))
          rw [HQ.out] at HCH
          clear hl21 hl22
          go_wp2
          refine wp_region_quiet_below (by kernel_rfl) (by kernel_rfl) ?_
          repeat (first | go_big_quiet_step (first | with_reducible exact Calls.regrown_of (HCG.out _ _) | exact Calls.regrown_of (HCH.out _ _)) | quiet_step (first | with_reducible exact Calls.regrown_of (HCG.out _ _) | exact Calls.regrown_of (HCH.out _ _)))
          refine wpQuiet_nil ?_
          intro _ hw'
          obtain ⟨⟨dq, osq⟩, hw''⟩ := hw'
          subst hw''
          go_wp2
          go_ret
          exact ⟨ret_b HE.out.symm, HRG.out dq osq⟩
        have HQ := Lib.hid hq; clear hq
        have HNR : Hid (RiseTo (sayL ls) (k + 1)) := by
          have h := H.out.2.2
          rw [HJ.out] at h
          have h' := h.step (b := ls[k].r) (sayL_at hltj) (by rw [← HJ.out]; exact sayL_at hlt) (bP_is HQ.out)
          rw [HJ.out]; exact h'
        rw [HQ.out] at HCH
        clear hl21 hl22
        go_wp2
        refine wp_region_quiet_below (by kernel_rfl) (by kernel_rfl) ?_
        repeat (first | go_big_quiet_step (first | with_reducible exact Calls.regrown_of (HCG.out _ _) | exact Calls.regrown_of (HCH.out _ _)) | quiet_step (first | with_reducible exact Calls.regrown_of (HCG.out _ _) | exact Calls.regrown_of (HCH.out _ _)))
        refine wpQuiet_nil ?_
        intro _ hw'
        obtain ⟨⟨dq, osq⟩, hw''⟩ := hw'
        subst hw''
        clear qj HCH hwk hjl
        have hBQ := HRG.out dq osq
        have hbq := HBX.out.keep (HWR.out dq osq) g0
        have CQ := Lib.hid ((C3.out.keep (HWR.out dq osq)).more (HWR.out dq osq).size)
        generalize (grow (redrawn wr dq) osq) = wq at hBQ hbq CQ ⊢
        have HCD : Hid (Ints wq wq.heap.size (some ⟨p', o' + 1, none⟩) (ls[k].r.drop 1)) := CQ.out.drop1
        have hdl : (ls[k].r.drop 1).length = ls[k].r.length - 1 := List.length_drop
        have HDL := Lib.hid hdl; clear hdl
        clear q0 q1 HCG CQ c1'
        obtain ⟨wA, hwA⟩ : ∃ x, x = wr := ⟨wr, rfl⟩
        subst hwA
        go_wp2
        go_loopw [49] (fun i wr => ∃ (m : Nat), m ≤ ls[k].r.length - 1 ∧ i = .int .i64 m ∧ Below wq.heap.size wq wr ∧ Box6 wr w.heap.size b ∧ Hid (∀ (j : Nat) (x : Int), j < m → (ls[k].r.drop 1)[j]? = some x → symB b.n b.t x = true)) (fun i _ => ls[k].r.length - 1 - (intOf i).toNat)
        case atStart => exact ⟨0, by omega, rfl, Below.refl _ _, hbq, fun j x h => absurd h (by omega)⟩
        case round =>
          obtain ⟨m, hm, rfl, hBm, hbm, HM⟩ := hrel
          by_cases hmt : m < ls[k].r.length - 1
          · obtain ⟨p2, o2, e2, _, cm⟩ := (HCD.out.keep hBm).at_ (k := m) (by rw [HDL.out]; exact hmt)
            injection e2 with e2
            injection e2 with e3 e4
            subst e3 e4
            obtain ⟨m0, m1, m2, m3, m4, m5, m6⟩ := id hbm
            have HBM := Lib.hid hbm; clear hbm
            generalize hxm : (ls[k].r.drop 1)[m]'(by rw [HDL.out]; exact hmt) = xm at cm
            have HXM : Hid ((ls[k].r.drop 1)[m]? = some xm) := by show _ = _; rw [List.getElem?_eq_getElem (by rw [HDL.out]; exact hmt), hxm]
            clear hxm
            cases hs : symB b.n b.t xm
            all_goals
              have HSY := Lib.hid hs; clear hs
              go_wp2_with fail
              refine (l5Symbol_any b _ _ hn hn' ht ht').mono ?_
              rintro e w3 ⟨rfl, hB3⟩
              rw [HSY.out]
              have hB4 : Below wq.heap.size wq w3 := hBm.trans (hB3.mono hBm.size)
            · have HE : Hid (bP (GoodLs b.n b.t long (sayL ls)) = false) := bP_f fun h => by
                have h1 := (h.2.1 k _ (by rw [HLN.out]; exact hlt) (sayL_at hlt)).2
                have h2 := symsB_iff.1 h1 m xm HXM.out
                rw [HSY.out] at h2; cases h2
              go_wp2
              go_ret
              exact ⟨ret_b HE.out.symm, hBQ.trans (hB4.mono hBQ.size)⟩
            · have HN : Hid (∀ (j : Nat) (x : Int), j < m + 1 → (ls[k].r.drop 1)[j]? = some x → symB b.n b.t x = true) := upto_next (Q := fun x => symB b.n b.t x = true) HXM.out HSY.out HM.out
              go_wp2
              go_roundw
              case rel => exact ⟨m + 1, by omega, by go_num, hB4, HBM.out.keep hB3 m0, HN.out⟩
              case measure => simp [intOf]; omega
          · have HS : Hid (SymTo b.n b.t (sayL ls) (k + 1)) := upto_next (Q := symL b.n b.t) (sayL_at hlt) ⟨by rw [HX0.out]; exact HU.out, symsB_of (k := m) (by rw [HDL.out]; exact hmt) HM.out⟩ H.out.2.1
            have HBM := Lib.hid hbm; clear hbm
            go_wp2
            go_roundw
            case rel => exact ⟨k + 1, by omega, by go_num, hBQ.trans (hBm.mono hBQ.size), HBM.out, HNL.out, HS.out, HNR.out⟩
            case measure => simp [intOf]; omega
    · have HN : Hid (bP (GoodLs b.n b.t long (sayL ls)) = true) := bP_t ⟨upto_end (Q := fun x : List Int => (x.length : Int) = long) (k := k) (by rw [HLN.out]; exact hlt) H.out.1, upto_end (Q := symL b.n b.t) (k := k) (by rw [HLN.out]; exact hlt) H.out.2.1, H.out.2.2.mono (.inr (by rw [HLN.out]; omega))⟩
      clear hbox
      go_wp2
      go_ret
      exact ⟨ret_b HN.out.symm, hB⟩

end Go.Proofs.YtaobkanliiiapaaDoor

/- What the reference's GoodBinary answers. -/

namespace Go.Proofs.YtaobkanliiiapaaDoor
open Go.RowKit
open Go.Sort (grow)

set_option maxRecDepth 20000 in
set_option maxHeartbeats 1000000 in
theorem specGoodB_any (b : Bi) (w : World) (hx : ReadB w w.heap.size b) (hm : LenB 1048576 b) :
    Calls Tryd.prog 76 #[(.agg #[.int .i64 b.n, .int .i64 b.t, .slice b.Ap b.P.length b.cp, .slice b.Ao b.O.length b.co, .slice b.Ae b.E.length b.ce, .slice b.Af b.F.length b.cf])] w fun e w' => e = .returned (.bool (bP (GoodBs b.say))) ∧ Below w.heap.size w w' := by
  have HX := Lib.hid hx; clear hx
  have HM := Lib.hid hm; clear hm
  have hB0 : Below w.heap.size w (w.alloc (.cells #[.int .i64 b.n, .int .i64 b.t, .slice b.Ap b.P.length b.cp, .slice b.Ao b.O.length b.co, .slice b.Ae b.E.length b.ce, .slice b.Af b.F.length b.cf] 41)) := by go_grown
  have BX0 := Box6.new w b 41
  go_enter Tryd.func76, Tryd.ntmps76
  go_wp2_with fail
  generalize (w.alloc (.cells #[.int .i64 b.n, .int .i64 b.t, .slice b.Ap b.P.length b.cp, .slice b.Ao b.O.length b.co, .slice b.Ae b.E.length b.ce, .slice b.Af b.F.length b.cf] 41)) = W at hB0 BX0 ⊢
  have HB0 := Lib.hid hB0; clear hB0
  have HBX0 := Lib.hid BX0; clear BX0
  obtain ⟨_, b0, b1, b2, b3, b4, b5⟩ := HBX0.out
  refine (l1In_any _ _ _ _).mono ?_
  rintro e w1 ⟨rfl, rfl⟩
  cases hn : inB 1 40 b.n
  · have HE : Hid (bP (GoodBs b.say) = false) := bP_f fun h => inB_not hn h.1
    clear hn
    go_wp2
    go_ret
    exact ⟨ret_b HE.out.symm, HB0.out⟩
  have HN := Lib.hid (inB_and hn); clear hn
  go_wp2_with fail
  refine (l1In_any _ _ _ _).mono ?_
  rintro e w1 ⟨rfl, rfl⟩
  cases ht : inB 1 4 b.t
  · have HE : Hid (bP (GoodBs b.say) = false) := bP_f fun h => inB_not ht h.2.1
    clear ht
    go_wp2
    go_ret
    exact ⟨ret_b HE.out.symm, HB0.out⟩
  have HT := Lib.hid (inB_and ht); clear ht
  have HFN : Hid ((sayL b.F).length = b.F.length) := sayL_len
  by_cases hfl : (b.F.length : Int) ≤ b.n
  case neg =>
    have HE : Hid (bP (GoodBs b.say) = false) := bP_f fun h => hfl (by have : ((sayL b.F).length : Int) ≤ b.n := h.2.2.2.2.2.1; rw [HFN.out] at this; exact this)
    go_wp2
    go_ret
    exact ⟨ret_b HE.out.symm, HB0.out⟩
  go_wp2
  have HFL : Hid ((b.F.length : Int) ≤ b.n) := hfl
  have hmF : b.F.length ≤ 1048576 := HM.out.f
  go_loopw [26] (fun i wr => ∃ (k : Nat), k ≤ b.F.length ∧ i = .int .i64 k ∧ Below w.heap.size w wr ∧ Box6 wr w.heap.size b ∧ Hid (LongTo 2 (sayL b.F) k)) (fun i _ => b.F.length - (intOf i).toNat)
  case atStart => exact ⟨0, by omega, rfl, HB0.out, HBX0.out, fun j x h => absurd h (by omega)⟩
  case round =>
    clear b0 b1 b2 b3 b4 b5 HBX0 HB0
    obtain ⟨k, hk, rfl, hB, hbox, H⟩ := hrel
    by_cases hlt : k < b.F.length
    · have HBX := Lib.hid hbox; clear hbox
      obtain ⟨p, o, ep, hb, c1, c2, c3⟩ := (HX.out.2.2.2.keep hB).at_ hlt
      have hmf := HM.out.fs _ (List.getElem_mem hlt)
      clear c2 c3
      rw [ep]
      by_cases hne : ((b.F[k].r.length : Nat) : Int) = 2
      · have HNX : Hid (LongTo 2 (sayL b.F) (k + 1)) := upto_next (Q := fun x : List Int => (x.length : Int) = 2) (sayL_at hlt) hne H.out
        go_wp2
        go_roundw
        case rel => exact ⟨k + 1, by omega, by go_num, hB, HBX.out, HNX.out⟩
        case measure => simp [intOf]; omega
      · have HE : Hid (bP (GoodBs b.say) = false) := bP_f fun h => hne (h.2.2.2.2.2.2 k _ (by rw [show b.say.F = sayL b.F from rfl, HFN.out]; exact hlt) (sayL_at hlt))
        go_wp2
        go_ret
        exact ⟨ret_b HE.out.symm, hB⟩
    · have HNX : Hid (LongTo 2 (sayL b.F) (sayL b.F).length) := upto_end (Q := fun x : List Int => (x.length : Int) = 2) (k := k) (by rw [HFN.out]; exact hlt) H.out
      have HBX := Lib.hid hbox
      have HB := Lib.hid hB
      obtain ⟨_, b0, b1, b2, b3, b4, b5⟩ := hbox
      clear hB
      go_wp2_with fail
      refine (l5Rising_any b 3 (by omega) (by omega) _ _ _ _ HN.out.1 HN.out.2 HT.out.1 HT.out.2 ((HX.out.1.keep HB.out).more HB.out.size) HM.out.p HM.out.ps).mono ?_
      rintro e w1 ⟨rfl, hB1⟩
      have HBX1 := Lib.hid (HBX.out.keep hB1 HBX.out.1)
      have HB1 := Lib.hid (HB.out.trans (hB1.mono HB.out.size)); clear hB1 HBX HB b0 b1 b2 b3 b4 b5
      obtain ⟨_, b0, b1, b2, b3, b4, b5⟩ := HBX1.out
      cases hP : bP (GoodLs b.n b.t (3 : Nat) (sayL b.P))
      · have HE : Hid (bP (GoodBs b.say) = false) := bP_f fun h => bP_no hP h.2.2.1
        clear hP
        go_wp2
        go_ret
        exact ⟨ret_b HE.out.symm, HB1.out⟩
      have HP := Lib.hid (bP_is hP); clear hP
      go_wp2_with fail
      refine (l5Rising_any b 2 (by omega) (by omega) _ _ _ _ HN.out.1 HN.out.2 HT.out.1 HT.out.2 ((HX.out.2.1.keep HB1.out).more HB1.out.size) HM.out.o HM.out.os).mono ?_
      rintro e w2 ⟨rfl, hB2⟩
      have HBX2 := Lib.hid (HBX1.out.keep hB2 HBX1.out.1)
      have HB2 := Lib.hid (HB1.out.trans (hB2.mono HB1.out.size)); clear hB2 HBX1 HB1 b0 b1 b2 b3 b4 b5
      obtain ⟨_, b0, b1, b2, b3, b4, b5⟩ := HBX2.out
      cases hO : bP (GoodLs b.n b.t (2 : Nat) (sayL b.O))
      · have HE : Hid (bP (GoodBs b.say) = false) := bP_f fun h => bP_no hO h.2.2.2.1
        clear hO
        go_wp2
        go_ret
        exact ⟨ret_b HE.out.symm, HB2.out⟩
      have HO := Lib.hid (bP_is hO); clear hO
      have hwn : IntKind.i64.wrap (b.n - 1) = b.n - 1 := by have := HN.out; rw [IntKind.wrap_i64]; omega
      have HE : Hid (bP (GoodBs b.say) = bP (GoodE b.n b.E)) := bP_congr ⟨fun h => h.2.2.2.2.1, fun h => ⟨HN.out, HT.out, HP.out, HO.out, h, (by show ((sayL b.F).length : Int) ≤ b.n; rw [HFN.out]; exact HFL.out), HNX.out⟩⟩
      go_wp2_with fail
      refine (l1Rising_any _ _ _ _ _ ((HX.out.2.2.1.keep HB2.out).more HB2.out.size) HM.out.e).mono ?_
      rintro e w3 ⟨rfl, hB3⟩
      go_wp2
      go_ret
      exact ⟨ret_b HE.out.symm, HB2.out.trans (hB3.mono HB2.out.size)⟩

end Go.Proofs.YtaobkanliiiapaaDoor

/- The reference's JoinSteps. -/

namespace Go.Proofs.YtaobkanliiiapaaDoor
open Go.RowKit

set_option maxRecDepth 20000 in
set_option maxHeartbeats 1000000 in
theorem specJoinSteps_any (b : Bi) (n : Int) (w : World) (hx : ReadB w w.heap.size b) (hm : LenB 1048576 b) :
    Calls Tryd.prog 26 #[(.agg #[.int .i64 b.n, .int .i64 b.t, .slice b.Ap b.P.length b.cp, .slice b.Ao b.O.length b.co, .slice b.Ae b.E.length b.ce, .slice b.Af b.F.length b.cf]), .int .i64 n] w fun e w' => e = .returned (.tuple #[.int .i64 (stpV b.say n), .bool (okJ b.say n)]) ∧ Below w.heap.size w w' := by
  have HX := Lib.hid hx; clear hx
  have HM := Lib.hid hm; clear hm
  have HB0 : Hid (Below w.heap.size w (w.alloc (.cells #[.int .i64 b.n, .int .i64 b.t, .slice b.Ap b.P.length b.cp, .slice b.Ao b.O.length b.co, .slice b.Ae b.E.length b.ce, .slice b.Af b.F.length b.cf] 41))) := by show Below _ _ _; go_grown
  have BX0 := Lib.hid (Box6.new w b 41)
  have HCG := Lib.hid (specGoodB_any b (w.alloc (.cells #[.int .i64 b.n, .int .i64 b.t, .slice b.Ap b.P.length b.cp, .slice b.Ao b.O.length b.co, .slice b.Ae b.E.length b.ce, .slice b.Af b.F.length b.cf] 41)) ((HX.out.keep HB0.out).more HB0.out.size) HM.out)
  cases hg : bP (GoodBs b.say)
  · have HO : Hid (okJ b.say n = false) := by show _ = _; unfold okJ; rw [hg]; rfl
    have HV : Hid (stpV b.say n = 0) := by show _ = _; unfold stpV; rw [HO.out]; rfl
    rw [hg] at HCG
    go_enter Tryd.func26, Tryd.ntmps26
    go_wp2_with (go_at_call 76; refine HCG.out.mono ?_; rintro e w1 ⟨rfl, hB1⟩; have HB1 := Lib.hid (HB0.out.trans (hB1.mono HB0.out.size)); clear hB1)
    go_ret2
    exact ⟨by rw [HV.out, HO.out]; rfl, HB1.out⟩
  rw [hg] at HCG
  cases hn : inB 0 10 n
  · have HO : Hid (okJ b.say n = false) := by show _ = _; unfold okJ; rw [hg, hn]; rfl
    have HV : Hid (stpV b.say n = 0) := by show _ = _; unfold stpV; rw [HO.out]; rfl
    go_enter Tryd.func26, Tryd.ntmps26
    go_wp2_with (first
      | (go_at_call 76; refine HCG.out.mono ?_; rintro e w1 ⟨rfl, hB1⟩; have HB1 := Lib.hid (HB0.out.trans (hB1.mono HB0.out.size)); clear hB1)
      | (go_at_call 59; refine (l1In_any n 0 10 w1).mono ?_; rintro e w2 ⟨rfl, rfl⟩; rw [hn]))
    go_ret2
    exact ⟨by rw [HV.out, HO.out]; rfl, HB1.out⟩
  have HO : Hid (okJ b.say n = true) := by show _ = _; unfold okJ; rw [hg, hn]; rfl
  have HV : Hid (stpV b.say n = b.P.length * plN n) := by show _ = _; unfold stpV; rw [HO.out, if_pos rfl]; show ((sayL b.P).length : Int) * _ = _; rw [sayL_len]
  have hpl := HM.out.p
  have hn0 := inB_lo hn
  have hn1 := inB_hi hn
  obtain ⟨L, hL⟩ : ∃ L : Int, L = (b.P.length : Int) := ⟨_, rfl⟩
  have hL0 : 0 ≤ L ∧ L ≤ 1048576 := by omega
  have hw : (IntKind.i64.wrap (L * (n + 1)) = L * (n + 1) ∧ IntKind.i64.wrap (L * (n + 1) * n) = L * (n + 1) * n) ∧ IntKind.i64.wrap (L * (n + 1) * n * (n - 1)) = L * (n + 1) * n * (n - 1) ∧ Int.tdiv (L * (n + 1) * n * (n - 1)) 6 = L * plN n := by
    rw [IntKind.wrap_i64, IntKind.wrap_i64, IntKind.wrap_i64]
    rcases n11 hn0 hn1 with rfl | rfl | rfl | rfl | rfl | rfl | rfl | rfl | rfl | rfl | rfl
    all_goals
      refine ⟨⟨by omega, by omega⟩, by omega, ?_⟩
      rw [Int.tdiv_eq_ediv_of_nonneg (by omega)]
      simp only [plN]
      omega
  have hb2 : 0 ≤ L * plN n ∧ L * plN n ≤ 1048576 * 165 := by
    rcases n11 hn0 hn1 with rfl | rfl | rfl | rfl | rfl | rfl | rfl | rfl | rfl | rfl | rfl
    all_goals
      simp only [plN]
      omega
  rw [hL] at hw hb2
  obtain ⟨⟨hw1, hw2⟩, hw3, hw4⟩ := hw
  clear hL0 hL
  go_enter Tryd.func26, Tryd.ntmps26
  go_wp2_with (first
    | (go_at_call 76; refine HCG.out.mono ?_; rintro e w1 ⟨rfl, hB1⟩; have BX1 := BX0.out.keep hB1 BX0.out.1; have HB1 := Lib.hid (HB0.out.trans (hB1.mono HB0.out.size)); clear hB1; obtain ⟨_, b0, b1, b2, b3, b4, b5⟩ := BX1)
    | (go_at_call 59; refine (l1In_any n 0 10 w1).mono ?_; rintro e w2 ⟨rfl, rfl⟩; rw [hn]))
  go_ret2
  exact ⟨by rw [HV.out, HO.out]; rfl, HB1.out⟩

end Go.Proofs.YtaobkanliiiapaaDoor

/- The law of JoinSteps: its walk. -/

namespace Go.Proofs.YtaobkanliiiapaaDoor
open Go.RowKit
open Go.Sort (grow)

set_option maxRecDepth 20000 in
set_option maxHeartbeats 1000000 in
theorem law_JoinSteps (b : Bi) (n : Int) (w : World) (hx : ReadB w w.heap.size b) (hm : LenB maxLen b) (hf : FitB b.say) (_ : F64 n) (hL : Lims w) :
    Calls Tryd.prog 12 #[(.agg #[.int .i64 b.n, .int .i64 b.t, .slice b.Ap b.P.length b.cp, .slice b.Ao b.O.length b.co, .slice b.Ae b.E.length b.ce, .slice b.Af b.F.length b.cf]), .int .i64 n] w (LawEnds w) := by
  have HX := Lib.hid hx; clear hx
  have HL := Lib.hid hL; clear hL
  have HM := Lib.hid hm; clear hm
  have HF := Lib.hid hf; clear hf
  go_enter Tryd.func12, Tryd.ntmps12
  go_wp2_with fail
  have hBA : Below w.heap.size w (w.alloc (.cells #[.int .i64 b.n, .int .i64 b.t, .slice b.Ap b.P.length b.cp, .slice b.Ao b.O.length b.co, .slice b.Ae b.E.length b.ce, .slice b.Af b.F.length b.cf] 67)) := by go_grown
  have B0 := Box6.new w b 67
  generalize (w.alloc (.cells #[.int .i64 b.n, .int .i64 b.t, .slice b.Ap b.P.length b.cp, .slice b.Ao b.O.length b.co, .slice b.Ae b.E.length b.ce, .slice b.Af b.F.length b.cf] 67)) = W at hBA B0 ⊢
  have HBA := Lib.hid hBA; clear hBA
  have HB0 := Lib.hid B0; clear B0
  refine (szBinary_any _ _ ((HX.out.keep HBA.out).more HBA.out.size) HM.out).mono ?_
  rintro e w1 ⟨rfl, hB1⟩
  have HB1 := Lib.hid hB1; clear hB1
  by_cases hneg : szB (sayL b.P) (sayL b.O) b.E (sayL b.F) 1048576 < 0
  · go_wp2
    go_ret
    exact ⟨rfl, HBA.out.trans (HB1.out.mono HBA.out.size)⟩
  have HLN : Hid (LenB 1048576 b) := szB_bound (by omega)
  have KB1 := Lib.hid (HB0.out.keep HB1.out HB0.out.1)
  have HR1 := Lib.hid (((HX.out.keep HBA.out).more HBA.out.size).keep HB1.out |>.more HB1.out.size)
  have HW1 := Lib.hid (HBA.out.trans (HB1.out.mono HBA.out.size))
  obtain ⟨_, a0, a1, a2, a3, a4, a5⟩ := KB1.out
  clear HB1 HB0
  go_wp2_with fail
  refine (toBinary_any _ _ HR1.out HLN.out).mono ?_
  rintro e w2 ⟨b2, rfl, hs2, hO2, hC2, hB2⟩
  have HLN2 := Lib.hid (HLN.out.of_say hs2)
  have HS2 := Lib.hid hs2; clear hs2
  have HO2 := Lib.hid hO2; clear hO2
  have HC2 := Lib.hid hC2; clear hC2
  have HB2 := Lib.hid hB2; clear hB2
  go_wp2_with fail
  refine (specJoinSteps_any _ n _ HO2.out.read HLN2.out).mono ?_
  rintro e w3 ⟨rfl, hB3⟩
  rw [HS2.out]
  have HB3 := Lib.hid (HB2.out.trans (hB3.mono HB2.out.size)); clear hB3
  clear a0 a1 a2 a3 a4 a5 HO2 HS2 HLN2 HC2
  have KB3 := Lib.hid (KB1.out.keep HB3.out KB1.out.1)
  have HR3 := Lib.hid ((HR1.out.keep HB3.out).more HB3.out.size)
  have HW3 := Lib.hid (HW1.out.trans (HB3.out.mono HW1.out.size))
  clear KB1 HR1 HW1 HB3 HB2
  obtain ⟨_, a0, a1, a2, a3, a4, a5⟩ := KB3.out
  go_wp2_with fail
  refine (toBinary_any _ _ HR3.out HLN.out).mono ?_
  rintro e w4 ⟨b4, rfl, hs4, hO4, hC4, hB4⟩
  have HLN4 := Lib.hid (HLN.out.of_say hs4)
  have HF4 := Lib.hid (FitB.of HF.out hs4)
  have HS4 := Lib.hid hs4; clear hs4
  clear a0 a1 a2 a3 a4 a5 hC4
  go_wp2_with fail
  have hBX : Below w4.heap.size w4 (w4.alloc (.cells #[.int .i64 b4.n, .int .i64 b4.t, .slice b4.Ap b4.P.length b4.cp, .slice b4.Ao b4.O.length b4.co, .slice b4.Ae b4.E.length b4.ce, .slice b4.Af b4.F.length b4.cf] 41)) := by go_grown
  have B4 := Box6.new w4 b4 41
  generalize (w4.alloc (.cells #[.int .i64 b4.n, .int .i64 b4.t, .slice b4.Ap b4.P.length b4.cp, .slice b4.Ao b4.O.length b4.co, .slice b4.Ae b4.E.length b4.ce, .slice b4.Af b4.F.length b4.cf] 41)) = X at hBX B4 ⊢
  have HOX := Lib.hid (hO4.below hBX (Nat.le_refl _)); clear hO4
  have HBX := Lib.hid (hB4.trans (hBX.mono hB4.size)); clear hBX hB4
  have HB4 := Lib.hid B4; clear B4
  have HWX := Lib.hid (HW3.out.trans (HBX.out.mono HW3.out.size))
  refine (implJoinSteps_any _ n _ HOX.out.read (HL.out.keep HWX.out (Nat.le_refl _)) HLN4.out HF4.out).mono ?_
  rintro e w5 ⟨rfl, hB5⟩
  rw [HS4.out]
  have KX := Lib.hid (HB4.out.keep hB5 HB4.out.1)
  have KB5 := Lib.hid ((KB3.out.keep HBX.out KB3.out.1).keep hB5 (by have := KB3.out.1; have := HBX.out.size; omega))
  have HR5 := Lib.hid ((((HR3.out.keep HBX.out).more HBX.out.size).keep hB5).more hB5.size)
  have HO5 := Lib.hid (HOX.out.below hB5 (Nat.le_refl _))
  have HW5 := Lib.hid (HWX.out.trans (hB5.mono HWX.out.size))
  clear hB5 HOX HBX HB4 HWX KB3 HR3 HW3
  have hne : (okJ b.say n != okJ b.say n) = false := by simp
  have hne2 : (stpV b.say n != stpV b.say n) = false := by simp
  obtain ⟨_, x0, x1, x2, x3, x4, x5⟩ := KX.out
  obtain ⟨_, a0, a1, a2, a3, a4, a5⟩ := KB5.out
  go_wp2_with fail
  go_region_with (first
    | (go_at_call 48
       refine (toBinary_any _ _ ?_ HLN.out).mono ?_
       · exact HR5.out.keep (by go_grown)
       rintro e w6 ⟨b6, rfl, hs6, hO6, hC6, hB6'⟩
       have hB6 : Below w5.heap.size w5 w6 := Below.trans (by go_grown) hB6'
       obtain ⟨_, y0, y1, y2, y3, y4, y5⟩ := KX.out.keep hB6 KX.out.1
       have HO6 := Lib.hid hO6
       have HS6 := Lib.hid hs6
       have HB6 := Lib.hid hB6
       clear hO6 hs6 hB6 hB6' hC6)
    | (go_at_call 32
       refine (eqBinary_any _ _ _ ?_ ?_ HLN4.out (HS4.out.trans HS6.out.symm)).mono ?_
       · exact (HO5.out.read.keep HB6.out).more HB6.out.size
       · exact HO6.out.read
       rintro e w7 ⟨rfl, hB7⟩))
  all_goals
    go_wp2
    go_ret
    exact ⟨rfl, HW5.out.trans ((HB6.out.trans (hB7.mono HB6.out.size)).mono HW5.out.size)⟩

end Go.Proofs.YtaobkanliiiapaaDoor

/- The law of JoinSteps holds of every binary grammar that can be read and every int: the call returns true, and what was handed in reads afterwards as it read before. Conditions: the package's table of limits is as the program's text lays it (tied by the given tie). -/

namespace Go.Proofs.YtaobkanliiiapaaDoor
open Go.ChangeShapes Go.WideShapes Go.ChangeAt Go.RowKit

set_option maxRecDepth 100000 in
theorem joinSteps_lifted (os : Os) (started : os.Started) (H : Type) (enc : TypeId × Value → H) :
    ReturnsInHanded {} Tryd.checked os 12 .any (fun w args => (Rows.fnExactJoinStepsSpec.pre enc Tryd.prog Tryd.f12 [] false w args ∧ laidMetH Tryd.prog laid1 w) ∧ sizedMet enc Tryd.prog Tryd.f12 (OpenSpec.ofChange Rows.fnExactJoinStepsSpec) false w args)
      (Rows.fnExactJoinStepsSpec.post enc Tryd.prog Tryd.f12 false true false false) := by
  refine returnsInHanded_of_change_and (C := Tryd.checked) (X := fun w _ => laidMetH Tryd.prog laid1 w) (fun _ _ _ hh h => h.of_heap hh) Tryd.own started (by kernel_rfl) Tryd.func12
    (ChangeSpec.witness_shaped (enc := enc) (C := Tryd.checked) (os := os) (X := fun w _ => laidMetH Tryd.prog laid1 w) false (World.doorLaid Tryd.prog 400 os) #[.agg #[.int .i64 0, .int .i64 0, .slice none 0 0, .slice none 0 0, .slice none 0 0, .slice none 0 0], .int .i64 0] 8 rfl (World.shaped_of_RefB (by kernel_rfl) (by kernel_rfl)) (by kernel_rfl) (by kernel_rfl) (by kernel_rfl) (door_met os _)) ?_
  intro W base args ds gs before hval0 hW _ _ hL _
  have hval : ∀ (j : Nat) t v, Tryd.f12.params[j]? = some t → args[j]? = some v → Value.okWide Tryd.prog W .any base t v := hval0
  have hW' := hW
  obtain ⟨p, q, hA0, hV0, rfl, hfz, hnd⟩ := hW
  have hA : DataW.TrodAll enc Tryd.prog W 0 (fun _ => true) true Tryd.f12.params.toList args.toList ds p := hA0
  have hV : DataW.TrodVars enc Tryd.prog W (fun _ => true) ["loop.example/g00758/impl.limits"] gs q := hV0
  rw [Tryd.params12] at hA hval
  obtain ⟨v0, v1, d0, d1, p0, p1, rfl, rfl, rfl, h0, h1⟩ := trodAll_two hA
  obtain ⟨g, tg, cs, fuel, dg, pg, rfl, _⟩ := trodVars_one hV
  obtain ⟨b0, rfl, _, hR0, hM0, hF0, _, _⟩ := open_binary (hval 0 67 v0 rfl rfl) h0
  obtain ⟨x1, rfl, rfl, rfl, w1⟩ := open_int Tryd.underlying3 (hval 1 3 v1 rfl rfl) h1
  refine (law_JoinSteps b0 x1 W hR0 hM0 hF0 (bounds_i64 w1) (lims_of_laid hL)).mono fun e W' ⟨he, hb⟩ => ?_
  subst he
  exact ⟨_, rfl, ends_two hW' Tryd.params12 rfl rfl (by kernel_rfl) (of_decide_eq_true (by kernel_rfl)) (by kernel_rfl) (of_decide_eq_true (by kernel_rfl)) (by kernel_rfl) hb⟩

theorem joinSteps_holds : Rows.FnExactJoinStepsSaid :=
  OpenClaim.holds_of_wide 12 Tryd.f12 rfl rfl rfl rfl rfl rfl rfl ⟨rfl, rfl, rfl, rfl, rfl⟩ rfl rfl rfl rfl rfl (by kernel_rfl) Tryd.func12 (by kernel_rfl)
    (of_decide_eq_true (by kernel_rfl)) (by unfold Func.isWrapper; first | (rw [if_pos (by decide +kernel)]; kernel_rfl) | (rw [if_neg (by decide +kernel)]; exact ⟨rfl, rfl⟩))
    (fun os started H enc _ => joinSteps_lifted os started H enc)

theorem joinSteps_card : Rows.FnExactJoinStepsCardSaid :=
  Claim7.holds_tied_plain_at .later [] [.data] true (true, "0ddedf4d80d5d8f2e345429263da6b8cad2651b6835fb3eaec4afe850fb80d0b") false
    joinSteps_holds (fun _ h => by cases h) (by kernel_rfl) (fun _ h => by cases h) fnExactJoinSteps_row_tie rfl ⟨rfl, rfl⟩ (by kernel_rfl) rfl
    (fun f fn hf hfn => by
      obtain rfl : f = 12 := Option.some.inj ((show Tryd.prog.funcNamed "loop.example/g00758/laws.FnExactJoinSteps" = some 12 by kernel_rfl).symm.trans hf) |>.symm
      obtain rfl : fn = Tryd.f12 := (Option.some.inj (Tryd.func12.symm.trans hfn)).symm
      exact ⟨by kernel_rfl, fun j t ht => by
        rw [Tryd.params12] at ht
        have hm : t ∈ [67, 3] := by simpa using Array.mem_of_getElem? ht
        have hall : ([67, 3].all fun u => !Tryd.prog.wantsStandIn u) = true := by kernel_rfl
        exact (show Tryd.prog.wantsStandIn t = false by simpa using List.all_eq_true.1 hall t hm)⟩)
    (by kernel_rfl)

#print axioms joinSteps_card
end Go.Proofs.YtaobkanliiiapaaDoor
