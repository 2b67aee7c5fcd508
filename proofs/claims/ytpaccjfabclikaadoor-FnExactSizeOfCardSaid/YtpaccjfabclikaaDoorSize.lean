/- What SizeOf answers, the program's and the reference's. -/
import Derived.Test.YtpaccjfabclikaaDoorSpecGood2
namespace Go.Proofs.YtpaccjfabclikaaDoor
open Go.RowKit

/-- How many rules, and how many symbols their right sides have, added. -/
def sizeA (ss : List (Int × List Int)) : Nat := ss.length + (ss.map fun u => u.2.length).sum

def sumTo (rs : List Ru) (k : Nat) : Nat := ((rs.take k).map fun u => u.r.length).sum
theorem sumTo_succ {rs : List Ru} {k : Nat} (hk : k < rs.length) : sumTo rs (k + 1) = sumTo rs k + rs[k].r.length := by
  unfold sumTo
  rw [List.take_succ_eq_append_getElem hk, List.map_append, List.sum_append]
  simp
theorem sumTo_all {rs : List Ru} {k : Nat} (hk : ¬ k < rs.length) : rs.length + sumTo rs k = sizeA (rs.map Ru.abs) := by
  unfold sumTo sizeA
  rw [List.take_of_length_le (by omega), List.map_map, List.length_map]
  rfl

def sizeV (n t : Int) (ss : List (Int × List Int)) : Int := if goodG n t ss then (sizeA ss : Int) else 0

theorem good_lens {n t : Int} {rs : List Ru} (h : goodG n t (rs.map Ru.abs) = true) : rs.length ≤ 16 ∧ ∀ (k : Nat) (hk : k < rs.length), rs[k].r.length ≤ 4 := by
  obtain ⟨_, _, hl, hto⟩ := goodG_is h
  refine ⟨by simpa using hl, fun k hk => ?_⟩
  have := (hto k rs[k].abs (by simpa using hk) (by simp [hk])).1
  unfold goodU at this
  simp only [Bool.and_eq_true, decide_eq_true_eq] at this
  exact this.2.1

theorem ret_pair {a b : Int} {x y : Bool} (h : a = b) (h' : x = y) : Ending.returned (.tuple #[.int .i64 a, .bool x]) = .returned (.tuple #[.int .i64 b, .bool y]) := by rw [h, h']

set_option maxHeartbeats 400000 in
theorem specSize_any (n t : Int) (A : Option Addr) (c : Nat) (rs : List Ru) (w : World) (hx : Rls w w.heap.size A rs) (hc : rs.length ≤ c) (h1 : rs.length ≤ 1048576) (h2 : ∀ u ∈ rs, u.r.length ≤ 1048576) :
    Calls Tryd.prog 24 #[.agg #[.int .i64 n, .int .i64 t, .slice A rs.length c]] w fun e w' => e = .returned (.tuple #[.int .i64 (sizeV n t (rs.map Ru.abs)), .bool (goodG n t (rs.map Ru.abs))]) ∧ Below w.heap.size w w' := by
  have HX := Lib.hid hx; clear hx
  have H2 := Lib.hid h2; clear h2
  have HB0 : Hid (Below w.heap.size w (w.alloc (.cells #[.int .i64 n, .int .i64 t, .slice A rs.length c] 29))) := by show Below _ _ _; go_grown
  have B0 : Hid (Box3 (w.alloc (.cells #[.int .i64 n, .int .i64 t, .slice A rs.length c] 29)) w.heap.size (.int .i64 n) (.int .i64 t) (.slice A rs.length c)) := ⟨by simp, by simp [go_sem], by simp [go_sem], by simp [go_sem]⟩
  cases hg : goodG n t (rs.map Ru.abs)
  · have HE : Hid (sizeV n t (rs.map Ru.abs) = 0) := by show sizeV n t (rs.map Ru.abs) = 0; unfold sizeV; rw [hg]; rfl
    have HG := Lib.hid hg; clear hg
    go_enter Tryd.func24, Tryd.ntmps24
    go_wp2_with fail
    refine (specGood_any _ _ _ _ _ _ ((HX.out.keep HB0.out).more HB0.out.size) hc h1 H2.out).mono ?_
    rintro e w1 ⟨rfl, hB1⟩
    rw [HG.out]
    go_wp2
    go_ret2
    exact ⟨ret_pair HE.out.symm rfl, HB0.out.trans (hB1.mono HB0.out.size)⟩
  obtain ⟨hl16, hl4⟩ := good_lens hg
  have HE : Hid (sizeV n t (rs.map Ru.abs) = (sizeA (rs.map Ru.abs) : Int)) := by show sizeV n t (rs.map Ru.abs) = _; unfold sizeV; rw [hg]; rfl
  have HG := Lib.hid hg; clear hg
  have H4 := Lib.hid hl4; clear hl4
  go_enter Tryd.func24, Tryd.ntmps24
  go_wp2_with fail
  refine (specGood_any _ _ _ _ _ _ ((HX.out.keep HB0.out).more HB0.out.size) hc h1 H2.out).mono ?_
  rintro e w1 ⟨rfl, hB1⟩
  rw [HG.out]
  obtain ⟨_, b0, b1, b2⟩ := B0.out.keep hB1 (by simp)
  have HB1 := Lib.hid (HB0.out.trans (hB1.mono HB0.out.size)); clear hB1
  go_wp2
  go_loopw [4, 16] (fun s i wr => ∃ (k : Nat), k ≤ rs.length ∧ i = .int .i64 k ∧ s = .int .i64 ((rs.length + sumTo rs k : Nat) : Int) ∧ sumTo rs k ≤ 4 * k ∧ Below w.heap.size w wr) (fun _ i _ => rs.length - (intOf i).toNat)
  case atStart => exact ⟨0, by omega, rfl, by simp [sumTo], by simp [sumTo], HB1.out⟩
  case round =>
    clear b0 b1 b2
    obtain ⟨k, hk, rfl, rfl, hs, hB⟩ := hrel
    by_cases hlt : k < rs.length
    · obtain ⟨b, o, rfl, hb, c1, c2, c3⟩ := (HX.out.keep hB).at_ hlt
      have h4 := H4.out k hlt
      have HS := Lib.hid (sumTo_succ hlt)
      clear c3
      go_wp2
      go_roundw
      case rel => exact ⟨k + 1, by omega, by go_num, by rw [HS.out]; go_num, by rw [HS.out]; omega, hB.trans (Below.mono (B := wr.heap.size) (by go_grown) hB.size)⟩
      case measure => simp [intOf]; omega
    · have HS := Lib.hid (sumTo_all hlt)
      go_wp2
      go_ret2
      exact ⟨ret_pair (by rw [HE.out, HS.out]) rfl, hB⟩

set_option maxHeartbeats 400000 in
theorem implSize_any (n t : Int) (A : Option Addr) (c : Nat) (rs : List Ru) (w : World) (hx : Rls w w.heap.size A rs) (hL : Lims w) (hc : rs.length ≤ c) (h1 : rs.length ≤ 1048576) (h2 : ∀ u ∈ rs, u.r.length ≤ 1048576) (hf : FitR rs) :
    Calls Tryd.prog 25 #[.agg #[.int .i64 n, .int .i64 t, .slice A rs.length c]] w fun e w' => e = .returned (.tuple #[.int .i64 (sizeV n t (rs.map Ru.abs)), .bool (goodG n t (rs.map Ru.abs))]) ∧ Below w.heap.size w w' := by
  have HX := Lib.hid hx; clear hx
  have HL := Lib.hid hL; clear hL
  have HF := Lib.hid hf; clear hf
  have H2 := Lib.hid h2; clear h2
  have HB0 : Hid (Below w.heap.size w (w.alloc (.cells #[.int .i64 n, .int .i64 t, .slice A rs.length c] 29))) := by show Below _ _ _; go_grown
  have B0 : Hid (Box3 (w.alloc (.cells #[.int .i64 n, .int .i64 t, .slice A rs.length c] 29)) w.heap.size (.int .i64 n) (.int .i64 t) (.slice A rs.length c)) := ⟨by simp, by simp [go_sem], by simp [go_sem], by simp [go_sem]⟩
  cases hg : goodG n t (rs.map Ru.abs)
  · have HE : Hid (sizeV n t (rs.map Ru.abs) = 0) := by show sizeV n t (rs.map Ru.abs) = 0; unfold sizeV; rw [hg]; rfl
    have HG := Lib.hid hg; clear hg
    go_enter Tryd.func25, Tryd.ntmps25
    go_wp2_with fail
    refine (goodGrammar_any _ _ _ _ _ _ ((HX.out.keep HB0.out).more HB0.out.size) (HL.out.keep HB0.out (Nat.le_refl _)) hc h1 H2.out HF.out).mono ?_
    rintro e w1 ⟨rfl, hB1⟩
    rw [HG.out]
    go_wp2
    go_ret2
    exact ⟨ret_pair HE.out.symm rfl, HB0.out.trans (hB1.mono HB0.out.size)⟩
  obtain ⟨hl16, hl4⟩ := good_lens hg
  have HE : Hid (sizeV n t (rs.map Ru.abs) = (sizeA (rs.map Ru.abs) : Int)) := by show sizeV n t (rs.map Ru.abs) = _; unfold sizeV; rw [hg]; rfl
  have HG := Lib.hid hg; clear hg
  have H4 := Lib.hid hl4; clear hl4
  go_enter Tryd.func25, Tryd.ntmps25
  go_wp2_with fail
  refine (goodGrammar_any _ _ _ _ _ _ ((HX.out.keep HB0.out).more HB0.out.size) (HL.out.keep HB0.out (Nat.le_refl _)) hc h1 H2.out HF.out).mono ?_
  rintro e w1 ⟨rfl, hB1⟩
  rw [HG.out]
  obtain ⟨_, b0, b1, b2⟩ := B0.out.keep hB1 (by simp)
  have HB1 := Lib.hid (HB0.out.trans (hB1.mono HB0.out.size)); clear hB1
  go_wp2
  go_loopw [4, 16] (fun s i wr => ∃ (k : Nat), k ≤ rs.length ∧ i = .int .i64 k ∧ s = .int .i64 ((rs.length + sumTo rs k : Nat) : Int) ∧ sumTo rs k ≤ 4 * k ∧ Below w.heap.size w wr) (fun _ i _ => rs.length - (intOf i).toNat)
  case atStart => exact ⟨0, by omega, rfl, by simp [sumTo], by simp [sumTo], HB1.out⟩
  case round =>
    clear b0 b1 b2
    obtain ⟨k, hk, rfl, rfl, hs, hB⟩ := hrel
    by_cases hlt : k < rs.length
    · obtain ⟨b, o, rfl, hb, c1, c2, c3⟩ := (HX.out.keep hB).at_ hlt
      have h4 := H4.out k hlt
      have HS := Lib.hid (sumTo_succ hlt)
      clear c3
      go_wp2
      go_roundw
      case rel => exact ⟨k + 1, by omega, by go_num, by rw [HS.out]; go_num, by rw [HS.out]; omega, hB.trans (Below.mono (B := wr.heap.size) (by go_grown) hB.size)⟩
      case measure => simp [intOf]; omega
    · have HS := Lib.hid (sumTo_all hlt)
      go_wp2
      go_ret2
      exact ⟨ret_pair (by rw [HE.out, HS.out]) rfl, hB⟩

end Go.Proofs.YtpaccjfabclikaaDoor
