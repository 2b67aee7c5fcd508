/- What the reference's GoodBinary answers. -/
import Derived.Test.YtjfhkcoiomokoaaDoorGbS2
import Derived.Test.YtjfhkcoiomokoaaDoorGbI3
namespace Go.Proofs.YtjfhkcoiomokoaaDoor
open Go.RowKit
open Go.Sort (grow)

set_option maxRecDepth 20000 in
set_option maxHeartbeats 1000000 in
theorem specGoodB_any (b : Bi) (w : World) (hx : ReadB w w.heap.size b) (hm : LenB 1048576 b) :
    Calls Tryd.prog 31 #[(.agg #[.int .i64 b.n, .int .i64 b.t, .slice b.Ap b.P.length b.cp, .slice b.Ao b.O.length b.co, .slice b.Ae b.E.length b.ce, .slice b.Af b.F.length b.cf])] w fun e w' => e = .returned (.bool (bP (GoodBs b.say))) ∧ Below w.heap.size w w' := by
  have HX := Lib.hid hx; clear hx
  have HM := Lib.hid hm; clear hm
  have hB0 : Below w.heap.size w (w.alloc (.cells #[.int .i64 b.n, .int .i64 b.t, .slice b.Ap b.P.length b.cp, .slice b.Ao b.O.length b.co, .slice b.Ae b.E.length b.ce, .slice b.Af b.F.length b.cf] 45)) := by go_grown
  have BX0 := Box6.new w b 45
  go_enter Tryd.func31, Tryd.ntmps31
  go_wp2_with fail
  generalize (w.alloc (.cells #[.int .i64 b.n, .int .i64 b.t, .slice b.Ap b.P.length b.cp, .slice b.Ao b.O.length b.co, .slice b.Ae b.E.length b.ce, .slice b.Af b.F.length b.cf] 45)) = W at hB0 BX0 ⊢
  have HB0 := Lib.hid hB0; clear hB0
  have HBX0 := Lib.hid BX0; clear BX0
  obtain ⟨_, b0, b1, b2, b3, b4, b5⟩ := HBX0.out
  refine (l1In_any _ _ _ _).mono ?_
  rintro e w1 ⟨rfl, rfl⟩
  cases hn : inB 1 40 b.n
  · have HE : Hid (bP (GoodBs b.say) = false) := bP_f fun h => inB_not hn h.1
    clear hn
    go_wp2
    go_ret
    exact ⟨ret_b HE.out.symm, HB0.out⟩
  have HN := Lib.hid (inB_and hn); clear hn
  go_wp2_with fail
  refine (l1In_any _ _ _ _).mono ?_
  rintro e w1 ⟨rfl, rfl⟩
  cases ht : inB 1 4 b.t
  · have HE : Hid (bP (GoodBs b.say) = false) := bP_f fun h => inB_not ht h.2.1
    clear ht
    go_wp2
    go_ret
    exact ⟨ret_b HE.out.symm, HB0.out⟩
  have HT := Lib.hid (inB_and ht); clear ht
  have HFN : Hid ((sayL b.F).length = b.F.length) := sayL_len
  by_cases hfl : (b.F.length : Int) ≤ b.n
  case neg =>
    have HE : Hid (bP (GoodBs b.say) = false) := bP_f fun h => hfl (by have : ((sayL b.F).length : Int) ≤ b.n := h.2.2.2.2.2.1; rw [HFN.out] at this; exact this)
    go_wp2
    go_ret
    exact ⟨ret_b HE.out.symm, HB0.out⟩
  go_wp2
  have HFL : Hid ((b.F.length : Int) ≤ b.n) := hfl
  have hmF : b.F.length ≤ 1048576 := HM.out.f
  go_loopw [26] (fun i wr => ∃ (k : Nat), k ≤ b.F.length ∧ i = .int .i64 k ∧ Below w.heap.size w wr ∧ Box6 wr w.heap.size b ∧ Hid (LongTo 2 (sayL b.F) k)) (fun i _ => b.F.length - (intOf i).toNat)
  case atStart => exact ⟨0, by omega, rfl, HB0.out, HBX0.out, fun j x h => absurd h (by omega)⟩
  case round =>
    clear b0 b1 b2 b3 b4 b5 HBX0 HB0
    obtain ⟨k, hk, rfl, hB, hbox, H⟩ := hrel
    by_cases hlt : k < b.F.length
    · have HBX := Lib.hid hbox; clear hbox
      obtain ⟨p, o, ep, hb, c1, c2, c3⟩ := (HX.out.2.2.2.keep hB).at_ hlt
      have hmf := HM.out.fs _ (List.getElem_mem hlt)
      clear c2 c3
      rw [ep]
      by_cases hne : ((b.F[k].r.length : Nat) : Int) = 2
      · have HNX : Hid (LongTo 2 (sayL b.F) (k + 1)) := upto_next (Q := fun x : List Int => (x.length : Int) = 2) (sayL_at hlt) hne H.out
        go_wp2
        go_roundw
        case rel => exact ⟨k + 1, by omega, by go_num, hB, HBX.out, HNX.out⟩
        case measure => simp [intOf]; omega
      · have HE : Hid (bP (GoodBs b.say) = false) := bP_f fun h => hne (h.2.2.2.2.2.2 k _ (by rw [show b.say.F = sayL b.F from rfl, HFN.out]; exact hlt) (sayL_at hlt))
        go_wp2
        go_ret
        exact ⟨ret_b HE.out.symm, hB⟩
    · have HNX : Hid (LongTo 2 (sayL b.F) (sayL b.F).length) := upto_end (Q := fun x : List Int => (x.length : Int) = 2) (k := k) (by rw [HFN.out]; exact hlt) H.out
      have HBX := Lib.hid hbox
      have HB := Lib.hid hB
      obtain ⟨_, b0, b1, b2, b3, b4, b5⟩ := hbox
      clear hB
      go_wp2_with fail
      refine (l5Rising_any b 3 (by omega) (by omega) _ _ _ _ HN.out.1 HN.out.2 HT.out.1 HT.out.2 ((HX.out.1.keep HB.out).more HB.out.size) HM.out.p HM.out.ps).mono ?_
      rintro e w1 ⟨rfl, hB1⟩
      have HBX1 := Lib.hid (HBX.out.keep hB1 HBX.out.1)
      have HB1 := Lib.hid (HB.out.trans (hB1.mono HB.out.size)); clear hB1 HBX HB b0 b1 b2 b3 b4 b5
      obtain ⟨_, b0, b1, b2, b3, b4, b5⟩ := HBX1.out
      cases hP : bP (GoodLs b.n b.t (3 : Nat) (sayL b.P))
      · have HE : Hid (bP (GoodBs b.say) = false) := bP_f fun h => bP_no hP h.2.2.1
        clear hP
        go_wp2
        go_ret
        exact ⟨ret_b HE.out.symm, HB1.out⟩
      have HP := Lib.hid (bP_is hP); clear hP
      go_wp2_with fail
      refine (l5Rising_any b 2 (by omega) (by omega) _ _ _ _ HN.out.1 HN.out.2 HT.out.1 HT.out.2 ((HX.out.2.1.keep HB1.out).more HB1.out.size) HM.out.o HM.out.os).mono ?_
      rintro e w2 ⟨rfl, hB2⟩
      have HBX2 := Lib.hid (HBX1.out.keep hB2 HBX1.out.1)
      have HB2 := Lib.hid (HB1.out.trans (hB2.mono HB1.out.size)); clear hB2 HBX1 HB1 b0 b1 b2 b3 b4 b5
      obtain ⟨_, b0, b1, b2, b3, b4, b5⟩ := HBX2.out
      cases hO : bP (GoodLs b.n b.t (2 : Nat) (sayL b.O))
      · have HE : Hid (bP (GoodBs b.say) = false) := bP_f fun h => bP_no hO h.2.2.2.1
        clear hO
        go_wp2
        go_ret
        exact ⟨ret_b HE.out.symm, HB2.out⟩
      have HO := Lib.hid (bP_is hO); clear hO
      have hwn : IntKind.i64.wrap (b.n - 1) = b.n - 1 := by have := HN.out; rw [IntKind.wrap_i64]; omega
      have HE : Hid (bP (GoodBs b.say) = bP (GoodE b.n b.E)) := bP_congr ⟨fun h => h.2.2.2.2.1, fun h => ⟨HN.out, HT.out, HP.out, HO.out, h, (by show ((sayL b.F).length : Int) ≤ b.n; rw [HFN.out]; exact HFL.out), HNX.out⟩⟩
      go_wp2_with fail
      refine (l1Rising_any _ _ _ _ _ ((HX.out.2.2.1.keep HB2.out).more HB2.out.size) HM.out.e).mono ?_
      rintro e w3 ⟨rfl, hB3⟩
      go_wp2
      go_ret
      exact ⟨ret_b HE.out.symm, HB2.out.trans (hB3.mono HB2.out.size)⟩

end Go.Proofs.YtjfhkcoiomokoaaDoor
