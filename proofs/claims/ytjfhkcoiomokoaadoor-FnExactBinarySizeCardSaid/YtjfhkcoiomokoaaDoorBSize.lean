/- How large a binary grammar is: what the program and the reference answer. -/
import Derived.Test.YtjfhkcoiomokoaaDoorGbI3
import Derived.Test.YtjfhkcoiomokoaaDoorGbS3
namespace Go.Proofs.YtjfhkcoiomokoaaDoor
open Go.RowKit
open Go.Sort (grow)

noncomputable def sizeBV (s : Bs) : Int := if bP (GoodBs s) = true then 3 * s.P.length + 2 * s.O.length + s.E.length else 0
theorem ret_pair {a b : Int} {x y : Bool} (h : a = b) (h' : x = y) : Ending.returned (.tuple #[.int .i64 a, .bool x]) = .returned (.tuple #[.int .i64 b, .bool y]) := by rw [h, h']

set_option maxRecDepth 20000 in
set_option maxHeartbeats 1000000 in
theorem specSizeB_any (b : Bi) (w : World) (hx : ReadB w w.heap.size b) (hm : LenB 1048576 b) :
    Calls Tryd.prog 34 #[(.agg #[.int .i64 b.n, .int .i64 b.t, .slice b.Ap b.P.length b.cp, .slice b.Ao b.O.length b.co, .slice b.Ae b.E.length b.ce, .slice b.Af b.F.length b.cf])] w fun e w' => e = .returned (.tuple #[.int .i64 (sizeBV b.say), .bool (bP (GoodBs b.say))]) ∧ Below w.heap.size w w' := by
  have HX := Lib.hid hx; clear hx
  have HM := Lib.hid hm; clear hm
  have hB0 : Below w.heap.size w (w.alloc (.cells #[.int .i64 b.n, .int .i64 b.t, .slice b.Ap b.P.length b.cp, .slice b.Ao b.O.length b.co, .slice b.Ae b.E.length b.ce, .slice b.Af b.F.length b.cf] 45)) := by go_grown
  have BX0 := Box6.new w b 45
  go_enter Tryd.func34, Tryd.ntmps34
  go_wp2_with fail
  generalize (w.alloc (.cells #[.int .i64 b.n, .int .i64 b.t, .slice b.Ap b.P.length b.cp, .slice b.Ao b.O.length b.co, .slice b.Ae b.E.length b.ce, .slice b.Af b.F.length b.cf] 45)) = W at hB0 BX0 ⊢
  have HB0 := Lib.hid hB0; clear hB0
  have HBX0 := Lib.hid BX0; clear BX0
  refine (specGoodB_any _ _ ((HX.out.keep HB0.out).more HB0.out.size) HM.out).mono ?_
  rintro e w1 ⟨rfl, hB1⟩
  have HBX1 := Lib.hid (HBX0.out.keep hB1 HBX0.out.1)
  have HB1 := Lib.hid (HB0.out.trans (hB1.mono HB0.out.size)); clear hB1 HBX0 HB0
  obtain ⟨_, b0, b1, b2, b3, b4, b5⟩ := HBX1.out
  cases hg : bP (GoodBs b.say)
  · have HE : Hid (sizeBV b.say = 0) := by show _ = _; unfold sizeBV; rw [hg]; rfl
    have HG := Lib.hid hg; clear hg
    go_wp2
    go_ret2
    exact ⟨ret_pair HE.out.symm HG.out.symm, HB1.out⟩
  have HE : Hid (sizeBV b.say = 3 * b.P.length + 2 * b.O.length + b.E.length) := by show _ = _; unfold sizeBV; rw [hg, if_pos rfl]; simp [Bi.say, sayL_len]
  have HG := Lib.hid hg; clear hg
  have hp := HM.out.p
  have ho := HM.out.o
  have he := HM.out.e
  have hw1 : IntKind.i64.wrap (3 * (b.P.length : Int)) = 3 * (b.P.length : Int) := by rw [IntKind.wrap_i64]; omega
  have hw2 : IntKind.i64.wrap (2 * (b.O.length : Int)) = 2 * (b.O.length : Int) := by rw [IntKind.wrap_i64]; omega
  have hw3 : IntKind.i64.wrap (3 * (b.P.length : Int) + 2 * (b.O.length : Int)) = 3 * (b.P.length : Int) + 2 * (b.O.length : Int) := by rw [IntKind.wrap_i64]; omega
  have hw4 : IntKind.i64.wrap (3 * (b.P.length : Int) + 2 * (b.O.length : Int) + (b.E.length : Int)) = 3 * (b.P.length : Int) + 2 * (b.O.length : Int) + (b.E.length : Int) := by rw [IntKind.wrap_i64]; omega
  go_wp2
  go_ret2
  exact ⟨ret_pair HE.out.symm HG.out.symm, HB1.out⟩

set_option maxRecDepth 20000 in
set_option maxHeartbeats 1000000 in
theorem implSizeB_any (b : Bi) (w : World) (hx : ReadB w w.heap.size b) (hL : Lims w) (hm : LenB 1048576 b) (hf : FitB b.say) :
    Calls Tryd.prog 35 #[(.agg #[.int .i64 b.n, .int .i64 b.t, .slice b.Ap b.P.length b.cp, .slice b.Ao b.O.length b.co, .slice b.Ae b.E.length b.ce, .slice b.Af b.F.length b.cf])] w fun e w' => e = .returned (.tuple #[.int .i64 (sizeBV b.say), .bool (bP (GoodBs b.say))]) ∧ Below w.heap.size w w' := by
  have HX := Lib.hid hx; clear hx
  have HM := Lib.hid hm; clear hm
  have HL := Lib.hid hL; clear hL
  have HF := Lib.hid hf; clear hf
  have hB0 : Below w.heap.size w (w.alloc (.cells #[.int .i64 b.n, .int .i64 b.t, .slice b.Ap b.P.length b.cp, .slice b.Ao b.O.length b.co, .slice b.Ae b.E.length b.ce, .slice b.Af b.F.length b.cf] 45)) := by go_grown
  have BX0 := Box6.new w b 45
  go_enter Tryd.func35, Tryd.ntmps35
  go_wp2_with fail
  generalize (w.alloc (.cells #[.int .i64 b.n, .int .i64 b.t, .slice b.Ap b.P.length b.cp, .slice b.Ao b.O.length b.co, .slice b.Ae b.E.length b.ce, .slice b.Af b.F.length b.cf] 45)) = W at hB0 BX0 ⊢
  have HB0 := Lib.hid hB0; clear hB0
  have HBX0 := Lib.hid BX0; clear BX0
  refine (implGoodB_any _ _ ((HX.out.keep HB0.out).more HB0.out.size) (HL.out.keep HB0.out (Nat.le_refl _)) HM.out HF.out).mono ?_
  rintro e w1 ⟨rfl, hB1⟩
  have HBX1 := Lib.hid (HBX0.out.keep hB1 HBX0.out.1)
  have HB1 := Lib.hid (HB0.out.trans (hB1.mono HB0.out.size)); clear hB1 HBX0 HB0
  obtain ⟨_, b0, b1, b2, b3, b4, b5⟩ := HBX1.out
  cases hg : bP (GoodBs b.say)
  · have HE : Hid (sizeBV b.say = 0) := by show _ = _; unfold sizeBV; rw [hg]; rfl
    have HG := Lib.hid hg; clear hg
    go_wp2
    go_ret2
    exact ⟨ret_pair HE.out.symm HG.out.symm, HB1.out⟩
  have HE : Hid (sizeBV b.say = 3 * b.P.length + 2 * b.O.length + b.E.length) := by show _ = _; unfold sizeBV; rw [hg, if_pos rfl]; simp [Bi.say, sayL_len]
  have HG := Lib.hid hg; clear hg
  have hp := HM.out.p
  have ho := HM.out.o
  have he := HM.out.e
  have hw1 : IntKind.i64.wrap (3 * (b.P.length : Int)) = 3 * (b.P.length : Int) := by rw [IntKind.wrap_i64]; omega
  have hw2 : IntKind.i64.wrap (2 * (b.O.length : Int)) = 2 * (b.O.length : Int) := by rw [IntKind.wrap_i64]; omega
  have hw3 : IntKind.i64.wrap (3 * (b.P.length : Int) + 2 * (b.O.length : Int)) = 3 * (b.P.length : Int) + 2 * (b.O.length : Int) := by rw [IntKind.wrap_i64]; omega
  have hw4 : IntKind.i64.wrap (3 * (b.P.length : Int) + 2 * (b.O.length : Int) + (b.E.length : Int)) = 3 * (b.P.length : Int) + 2 * (b.O.length : Int) + (b.E.length : Int) := by rw [IntKind.wrap_i64]; omega
  go_wp2
  go_ret2
  exact ⟨ret_pair HE.out.symm HG.out.symm, HB1.out⟩

end Go.Proofs.YtjfhkcoiomokoaaDoor
