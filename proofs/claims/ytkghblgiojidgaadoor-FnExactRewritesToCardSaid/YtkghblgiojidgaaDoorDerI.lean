/- The program's deriveWhole, Derives, InLanguage and SequenceDerives. -/
import Derived.Test.YtkghblgiojidgaaDoorEndsIn
import Derived.Test.YtkghblgiojidgaaDoorWord
import Derived.Test.YtkghblgiojidgaaDoorVans
namespace Go.Proofs.YtkghblgiojidgaaDoor
open Go.RowKit

/-- A bool that tells P, where the arguments are as said; and whether they are. -/
def QD (ok : Bool) (P : Prop) (x o : Bool) : Prop := o = ok ∧ (ok = true → (x = true ↔ P)) ∧ (ok = false → x = false)
theorem QD.unique {ok : Bool} {P : Prop} {x o x' o' : Bool} (h : QD ok P x o) (k : QD ok P x' o') : x = x' ∧ o = o' := by
  refine ⟨?_, h.1.trans k.1.symm⟩
  cases ok
  · rw [h.2.2 rfl, k.2.2 rfl]
  · have h1 := (h.2.1 rfl).trans (k.2.1 rfl).symm
    cases x <;> cases x' <;> simp_all
theorem seqD_one {D : Int → Nat → Nat → Prop} {ws : List Int} {x : Int} {i j : Nat} (hx : 0 ≤ x) : SeqD D ws [x] i j ↔ D x i j := by
  constructor
  · rintro ⟨m, (⟨h, _⟩ | ⟨_, h⟩), k⟩
    · omega
    · have k' : m = j := k
      subst k'; exact h
  · exact fun h => ⟨j, .inr ⟨hx, h⟩, rfl⟩
theorem seqD_iff {D E : Int → Nat → Nat → Prop} {ws xs : List Int} {i j : Nat} (h : ∀ x i j, D x i j ↔ E x i j) : SeqD D ws xs i j ↔ SeqD E ws xs i j := ⟨fun k => k.mono fun x i j => (h x i j).1, fun k => k.mono fun x i j => (h x i j).2⟩

set_option maxRecDepth 20000 in
set_option maxHeartbeats 1000000 in
theorem deriveWhole_any (n t : Int) (A : Option Addr) (c : Nat) (rs : List Ru) (Ar : Option Addr) (cr : Nat) (xs : List Int) (Aw : Option Addr) (cw : Nat) (ws : List Int) (w : World) (hx : Rls w w.heap.size A rs) (hg : goodG n t (rs.map Ru.abs) = true) (hw : ws.length ≤ 10) (hW : Ints w w.heap.size Aw ws) (hr : Ints w w.heap.size Ar xs) (hs : ∀ x ∈ xs, -10 ≤ x ∧ x < 6) (hl : xs.length ≤ 40) :
    Calls Tryd.prog 60 #[.agg #[.int .i64 n, .int .i64 t, .slice A rs.length c], .slice Ar xs.length cr, .slice Aw ws.length cw] w fun e w' => ∃ b, e = .returned (.bool b) ∧ (b = true ↔ SeqD (Der (rs.map Ru.abs) ws) ws xs 0 ws.length) ∧ Below w.heap.size w w' := by
  have HR := Lib.hid hr; clear hr
  have HS := Lib.hid hs; clear hs
  have HB0 : Hid (Below w.heap.size w (w.alloc (.cells #[.int .i64 n, .int .i64 t, .slice A rs.length c] 30))) := by show Below _ _ _; go_grown
  have HC := Lib.hid (endsIn_any n t A c rs Aw cw ws _ ((hx.keep HB0.out).more HB0.out.size) hg hw ((hW.keep HB0.out).more HB0.out.size))
  clear hx hg hW
  go_enter Tryd.func60, Tryd.ntmps60
  go_wp2_with fail
  refine HC.out.mono ?_
  rintro e w1 ⟨R, P, W, O, K, rfl, hE, hK, hD, hR, hB⟩
  have HBW : Hid (Below w.heap.size w w1) := HB0.out.trans (hB.mono HB0.out.size)
  have HE := Lib.hid (ends_still R P W O Aw cw ws K Ar xs cr 0 w1 hE hK hw ((HR.out.keep HBW.out).more HBW.out.size) HS.out hl (by omega))
  have HM := Lib.hid (endsM_is (K := K) (ws := ws) (xs := xs) (i := 0) hK hw (by omega))
  have HQ : Hid ((endsM K ws xs 0).testBit ws.length = true ↔ SeqD (Der (rs.map Ru.abs) ws) ws xs 0 ws.length) := (HM.out.2 _).trans (seqD_iff hD)
  have hm : endsM K ws xs 0 < 2048 := HM.out.1
  clear HC hE hK hD hR hB HM
  generalize endsM K ws xs 0 = m at *
  go_wp2_with fail
  refine HE.out.mono ?_
  rintro e w2 ⟨rfl, rfl⟩
  go_wp2_with fail
  refine (has_any m ws.length hm (by omega) _).mono ?_
  rintro e w3 ⟨rfl, rfl⟩
  go_wp2
  go_ret
  exact ⟨_, rfl, HQ.out, HBW.out⟩

theorem ints_one (w : World) (x : Int) : Ints (w.alloc (.cells #[.int .i64 x] 3)) (w.heap.size + 1) (some ⟨w.heap.size, 0, none⟩) [x] := fun _ => ⟨w.heap.size, 0, rfl, by omega, fun k y hk => by
  have hk1 := (List.getElem?_eq_some_iff.1 hk).1
  have e : k = 0 := by simp at hk1; omega
  subst e
  simp at hk
  subst hk
  simp [go_sem]⟩

set_option maxRecDepth 20000 in
set_option maxHeartbeats 1000000 in
theorem implDerives_any (n t x : Int) (A : Option Addr) (c : Nat) (rs : List Ru) (Aw : Option Addr) (cw : Nat) (ws : List Int) (w : World) (hx : Rls w w.heap.size A rs) (hW : Ints w w.heap.size Aw ws) (hL : Lims w) (hc : rs.length ≤ c) (h1 : rs.length ≤ 1048576) (h2 : ∀ u ∈ rs, u.r.length ≤ 1048576) (hf : FitR rs) (h3 : ws.length ≤ 1048576) :
    Calls Tryd.prog 19 #[.agg #[.int .i64 n, .int .i64 t, .slice A rs.length c], .int .i64 x, .slice Aw ws.length cw] w (GaveXB w (QD (goodW n t (rs.map Ru.abs) ws && nonB n x) (Der (rs.map Ru.abs) ws x 0 ws.length))) := by
  have HX := Lib.hid hx; clear hx
  have HW := Lib.hid hW; clear hW
  have HB0 : Hid (Below w.heap.size w (w.alloc (.cells #[.int .i64 n, .int .i64 t, .slice A rs.length c] 30))) := by show Below _ _ _; go_grown
  have HX0 : Hid (Box3 (w.alloc (.cells #[.int .i64 n, .int .i64 t, .slice A rs.length c] 30)) w.heap.size (.int .i64 n) (.int .i64 t) (.slice A rs.length c)) := ⟨by simp, by simp [go_sem], by simp [go_sem], by simp [go_sem]⟩
  have HC := Lib.hid (implWord_any n t A Aw c cw rs ws _ ((HX.out.keep HB0.out).more HB0.out.size) ((HW.out.keep HB0.out).more HB0.out.size) (hL.keep HB0.out (Nat.le_refl _)) hc h1 h2 hf h3)
  clear hL
  cases hq : goodW n t (rs.map Ru.abs) ws
  · rw [hq] at HC
    go_enter Tryd.func19, Tryd.ntmps19
    go_wp2_with fail
    refine HC.out.mono ?_
    rintro e w1 ⟨rfl, hB1⟩
    have HB1 : Hid (Below w.heap.size w w1) := HB0.out.trans (hB1.mono HB0.out.size)
    clear hB1
    go_wp2
    go_ret2
    exact ⟨false, false, ⟨rfl, fun h => (by cases h), fun _ => rfl⟩, rfl, HB1.out⟩
  · have hg : goodG n t (rs.map Ru.abs) = true := by cases e : goodG n t (rs.map Ru.abs); rw [goodW_no e] at hq; cases hq; rfl
    have hwl : ws.length ≤ 10 := by
      by_cases e : ws.length ≤ 10
      · exact e
      · rw [goodW_yes hg, wordB_long e] at hq; cases hq
    rw [hq] at HC
    clear hq
    cases hn : nonB n x
    · have HN := Lib.hid hn; clear hn
      go_enter Tryd.func19, Tryd.ntmps19
      go_wp2_with fail
      refine HC.out.mono ?_
      rintro e w1 ⟨rfl, hB1⟩
      have HB1 : Hid (Below w.heap.size w w1) := HB0.out.trans (hB1.mono HB0.out.size)
      obtain ⟨_, b0, b1, b2⟩ := HX0.out.keep hB1 (by simp)
      clear hB1
      go_wp2_with fail
      refine (isNon_any _ _ _ _ _).mono ?_
      rintro e w2 ⟨rfl, hB2⟩
      rw [HN.out]
      have HB2 : Hid (Below w.heap.size w w2) := HB1.out.trans (hB2.mono HB1.out.size)
      clear hB2 b0 b1 b2
      go_wp2
      go_ret2
      exact ⟨false, false, ⟨rfl, fun h => (by cases h), fun _ => rfl⟩, rfl, HB2.out⟩
    · have HN := Lib.hid hn; clear hn
      have hx6 : 0 ≤ x ∧ x < 6 := by have h := HN.out; have := goodG_is hg; unfold nonB at h; simp at h; omega
      have HG := Lib.hid hg; clear hg
      go_enter Tryd.func19, Tryd.ntmps19
      go_wp2_with fail
      refine HC.out.mono ?_
      rintro e w1 ⟨rfl, hB1⟩
      have HB1 : Hid (Below w.heap.size w w1) := HB0.out.trans (hB1.mono HB0.out.size)
      have HX1 := Lib.hid (HX0.out.keep hB1 (by simp))
      clear hB1
      obtain ⟨_, b0, b1, b2⟩ := HX1.out
      go_wp2_with fail
      refine (isNon_any _ _ _ _ _).mono ?_
      rintro e w2 ⟨rfl, hB2⟩
      rw [HN.out]
      have HB2 : Hid (Below w.heap.size w w2) := HB1.out.trans (hB2.mono HB1.out.size)
      have HX2 := Lib.hid (HX1.out.keep hB2 HX1.out.1)
      clear hB2 b0 b1 b2 HX1
      have HB3 : Hid (Below w.heap.size w (w2.alloc (.cells #[.int .i64 x] 3))) := HB2.out.alloc HB2.out.size _
      obtain ⟨_, b0, b1, b2⟩ := HX2.out
      have HD := Lib.hid (deriveWhole_any n t A c rs (some ⟨w2.heap.size, 0, none⟩) 1 [x] Aw cw ws (w2.alloc (.cells #[.int .i64 x] 3)) ((HX.out.keep HB3.out).more HB3.out.size) HG.out hwl ((HW.out.keep HB3.out).more HB3.out.size) (by rw [World.size_alloc]; exact ints_one w2 x) (fun y hy => by simp at hy; omega) (by simp))
      go_wp2_with fail
      refine HD.out.mono ?_
      rintro e w3 ⟨b, rfl, hb, hB3⟩
      have HB4 : Hid (Below w.heap.size w w3) := HB3.out.trans (hB3.mono HB3.out.size)
      have HBB : Hid (b = true ↔ Der (rs.map Ru.abs) ws x 0 ws.length) := hb.trans (seqD_one hx6.1)
      clear hb hB3
      go_wp2
      go_ret2
      exact ⟨b, true, ⟨rfl, fun _ => HBB.out, fun h => by cases h⟩, rfl, HB4.out⟩

theorem goodW_goodG {n t : Int} {ss : List (Int × List Int)} {ws : List Int} (h : goodW n t ss ws = true) : goodG n t ss = true := by cases e : goodG n t ss; rw [goodW_no e] at h; cases h; rfl
theorem goodW_len {n t : Int} {ss : List (Int × List Int)} {ws : List Int} (h : goodW n t ss ws = true) : ws.length ≤ 10 := by
  by_cases e : ws.length ≤ 10
  · exact e
  · rw [goodW_yes (goodW_goodG h), wordB_long e] at h; cases h
theorem goodW_zero {n t : Int} {ss : List (Int × List Int)} {ws : List Int} : (goodW n t ss ws && nonB n 0) = goodW n t ss ws := by
  cases e : goodW n t ss ws
  · rfl
  · have := goodG_is (goodW_goodG e)
    rw [Bool.true_and]
    exact nonB_t (by omega) (by omega)

set_option maxRecDepth 20000 in
set_option maxHeartbeats 1000000 in
theorem implInLanguage_any (n t : Int) (A : Option Addr) (c : Nat) (rs : List Ru) (Aw : Option Addr) (cw : Nat) (ws : List Int) (w : World) (hx : Rls w w.heap.size A rs) (hW : Ints w w.heap.size Aw ws) (hL : Lims w) (hc : rs.length ≤ c) (h1 : rs.length ≤ 1048576) (h2 : ∀ u ∈ rs, u.r.length ≤ 1048576) (hf : FitR rs) (h3 : ws.length ≤ 1048576) :
    Calls Tryd.prog 22 #[.agg #[.int .i64 n, .int .i64 t, .slice A rs.length c], .slice Aw ws.length cw] w (GaveXB w (QD (goodW n t (rs.map Ru.abs) ws) (Der (rs.map Ru.abs) ws 0 0 ws.length))) := by
  have HB0 : Hid (Below w.heap.size w (w.alloc (.cells #[.int .i64 n, .int .i64 t, .slice A rs.length c] 30))) := by show Below _ _ _; go_grown
  have HC := Lib.hid (implDerives_any n t 0 A c rs Aw cw ws _ ((hx.keep HB0.out).more HB0.out.size) ((hW.keep HB0.out).more HB0.out.size) (hL.keep HB0.out (Nat.le_refl _)) hc h1 h2 hf h3)
  rw [goodW_zero] at HC
  clear hx hW hL
  go_enter Tryd.func22, Tryd.ntmps22
  go_wp2_with fail
  refine HC.out.mono ?_
  rintro e w1 ⟨x, o, hQ, rfl, hB1⟩
  have HQ := Lib.hid hQ
  have HB1 : Hid (Below w.heap.size w w1) := HB0.out.trans (hB1.mono HB0.out.size)
  clear hQ hB1
  go_wp2
  go_ret2
  exact ⟨x, o, HQ.out, rfl, HB1.out⟩

end Go.Proofs.YtkghblgiojidgaaDoor
