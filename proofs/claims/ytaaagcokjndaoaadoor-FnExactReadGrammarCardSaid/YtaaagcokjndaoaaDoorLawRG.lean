/- The law of ReadGrammar: its walk. -/
import Derived.Test.YtaaagcokjndaoaaDoorRgS5
import Derived.Test.YtaaagcokjndaoaaDoorGBase
namespace Go.Proofs.YtaaagcokjndaoaaDoor
open Go.RowKit

theorem linesF_len {n t : Int} {s : ByteArray} : ∀ (f : Nat) (ss : List (Int × List Int)) (k : Nat) (ss' : List (Int × List Int)) (k' : Nat), linesF n t s f ss k = .ok ss' k' → (∀ u ∈ ss, u.2.length ≤ 4) → ss'.length ≤ ss.length + f ∧ ∀ u ∈ ss', u.2.length ≤ 4
  | 0, ss, k, ss', k', h, hu => by
    injection h with h
    subst h
    exact ⟨by omega, hu⟩
  | f + 1, ss, k, ss', k', h, hu => by
    by_cases hlt : k < s.size
    · cases hl : lineF n t s ss k with
      | bad c p => rw [linesF_bad hlt hl] at h; cases h
      | ok u k2 =>
        rw [linesF_ok hlt hl] at h
        have := linesF_len f (ss ++ [u]) k2 ss' k' h (fun x hx => by
          rcases List.mem_append.1 hx with h1 | h1
          · exact hu x h1
          · simp at h1; subst h1; exact (lineF_bd hl).2.1)
        simp at this
        exact ⟨by have := this.1; omega, fun x hx => this.2 x.1 x.2 hx⟩
    · rw [linesF_end hlt] at h
      injection h with h
      subst h
      exact ⟨by omega, hu⟩

theorem outS_len (s : ByteArray) : (outS (rgO s)).length ≤ 17 ∧ ∀ u ∈ outS (rgO s), u.2.length ≤ 4 := by
  unfold rgO
  split
  · cases hh : headF s with
    | bad c p => rw [textF_hb hh]; simp [outS]
    | ok a k =>
      cases hl : linesF a.1 a.2 s 17 [] k with
      | bad c p => rw [textF_lb hh hl]; simp [outS]
      | ok ss k' =>
        rw [textF_lo hh hl]
        have := linesF_len 17 [] k ss k' hl (fun u hu => by simp at hu)
        exact ⟨by have := this.1; simp at this; exact this, this.2⟩
  · simp [outS]

set_option maxHeartbeats 2000000 in
theorem law_ReadGrammar (s : ByteArray) (w : World) (hL : Lims w) (hN : NonT w) (hT : TokT w) (hs : s.size ≤ maxLen) :
    Calls Tryd.prog 5 #[.string s] w (LawEnds w) := by
  have HTb : Hid (Tabs w) := ⟨hL, hN, hT⟩
  clear hL hN hT
  unfold maxLen at hs
  by_cases hbig : (1048576 : Int) < (s.size : Int)
  · go_enter Tryd.func5, Tryd.ntmps5
    go_wp2
    go_ret
    exact ⟨rfl, Below.refl _ _⟩
  have hsl : s.size ≤ 1048576 := by omega
  have HSPEC := Lib.hid (specRG_any s w hsl)
  have HIMP : Hid (∀ v : World, Tabs v → Calls Tryd.prog 13 #[.string s] v (GaveG4 v (outN (rgO s)) (outT (rgO s)) (outS (rgO s)) (outC (rgO s)) (outP (rgO s)) (outB (rgO s)))) := fun v hv => implRG_any s v hv hsl
  have HLS : Hid ((outS (rgO s)).length ≤ 1048576) := by have := (outS_len s).1; show _ ≤ _; omega
  have HLU : Hid (∀ u ∈ outS (rgO s), u.2.length ≤ 1048576) := fun u hu => by have := (outS_len s).2 u hu; omega
  generalize outN (rgO s) = n at *
  generalize outT (rgO s) = t at *
  generalize outS (rgO s) = ss at *
  generalize outC (rgO s) = code at *
  generalize outP (rgO s) = place at *
  generalize outB (rgO s) = ok at *
  go_enter Tryd.func5, Tryd.ntmps5
  go_wp2_with fail
  refine HSPEC.out.mono ?_
  rintro e w1 ⟨A1, c1, ds1, rfl, hcap1, hO1, ha1, hB1⟩
  go_wp2_with fail
  -- the reference's answer lies in a box
  have hK1 := box_new w1 (.int .i64 n) (.int .i64 t) (.slice A1 ds1.length c1) 26
  have hBx := below_new w1 (.cells #[.int .i64 n, .int .i64 t, .slice A1 ds1.length c1] 26)
  generalize (w1.alloc (.cells #[.int .i64 n, .int .i64 t, .slice A1 ds1.length c1] 26)) = X1 at hK1 hBx ⊢
  have HI1 : Hid (∀ b, ItsR A1 ds1 b → w.heap.size ≤ b ∧ b < w1.heap.size) := fun b hb => hO1.its hb
  have HO1 := Lib.hid (hO1.below hBx (Nat.le_refl _)); clear hO1
  have HS1 := Lib.hid hB1.size
  have HS1' := Lib.hid hK1.1
  have HW1 := Lib.hid (hB1.trans (hBx.mono hB1.size)); clear hB1 hBx
  have HK1 := Lib.hid hK1; clear hK1
  have HA1 := Lib.hid ha1; clear ha1
  -- the program's answer
  refine (HIMP.out _ (HTb.out.keep HW1.out)).mono ?_
  rintro e w2 ⟨A2, c2, ds2, rfl, hcap2, hO2, ha2, hB2⟩
  have HK12 := Lib.hid (HK1.out.keep hB2 HK1.out.1)
  have HO12 := Lib.hid (HO1.out.below hB2 (Nat.le_refl _))
  have hKq := HK12.out.keep (below_new w2 (.cells #[.int .i64 n, .int .i64 t, .slice A2 ds2.length c2] 26)) HK12.out.1
  obtain ⟨_, q0, q1, q2⟩ := hKq
  have hco : (code != code) = false := by simp
  have hpl : (place != place) = false := by simp
  have hok : (ok != ok) = false := by simp
  go_wp2_with fail
  clear q0 q1 q2
  have hK2 := box_new w2 (.int .i64 n) (.int .i64 t) (.slice A2 ds2.length c2) 26
  have hBx := below_new w2 (.cells #[.int .i64 n, .int .i64 t, .slice A2 ds2.length c2] 26)
  generalize (w2.alloc (.cells #[.int .i64 n, .int .i64 t, .slice A2 ds2.length c2] 26)) = X2 at hK2 hBx ⊢
  have HI2 : Hid (∀ b, ItsR A2 ds2 b → w1.heap.size + 1 ≤ b ∧ b < w2.heap.size) := fun b hb => ⟨by have := (hO2.its hb).1; have := HS1'.out; omega, (hO2.its hb).2⟩
  have HO2 := Lib.hid (hO2.below hBx (Nat.le_refl _)); clear hO2
  have HS2' := Lib.hid hK2.1
  have HK1X := Lib.hid (HK12.out.keep hBx HK12.out.1)
  have HO1X := Lib.hid (HO12.out.below hBx (Nat.le_refl _))
  have HW2 := Lib.hid (HW1.out.trans ((hB2.trans (hBx.mono hB2.size)).mono HW1.out.size)); clear hB2 hBx
  have HK2 := Lib.hid hK2; clear hK2
  have HA2 := Lib.hid ha2; clear ha2
  clear HK12 HO12 HK1 HO1
  have hlen2 : ds2.length ≤ 1048576 := says_len HA2.out HLS.out
  have HLN2 := Lib.hid (says_lens HA2.out HLU.out)
  -- they say the same
  refine (eqGrammar_any _ _ _ _ _ _ _ _ _ _ _ HO2.out.rls HO1X.out.rls hlen2 HLN2.out).mono ?_
  rintro e w3 ⟨rfl, hB3⟩
  rw [eqG_t (HA2.out.trans HA1.out.symm)]
  have HK23 := Lib.hid (HK2.out.keep hB3 HK2.out.1)
  have HK13 := Lib.hid (HK1X.out.keep hB3 HK1X.out.1)
  have HO23 := Lib.hid (HO2.out.below hB3 (Nat.le_refl _))
  have HO13 := Lib.hid (HO1X.out.below hB3 (Nat.le_refl _))
  have HW3 := Lib.hid (HW2.out.trans (hB3.mono HW2.out.size))
  clear hB3 HK2 HK1X HO2 HO1X
  obtain ⟨_, p0, p1, p2⟩ := HK23.out
  -- the answer is marked, and found again
  go_wp2_with fail
  refine (markGrammar_any _ _ _ _ _ _ _ _ HO23.out hlen2 HLN2.out (by omega) (by omega)).mono ?_
  rintro e w4 ⟨rfl, hO4, hS4⟩
  have HB4 : Hid (Below (w1.heap.size + 1) w3 w4) := hS4.below (by have := HK13.out.1; omega) fun i hi hI => by have := (HI2.out i hI).1; omega
  have HW4 : Hid (Below w.heap.size w w4) := HW3.out.trans (HB4.out.mono (by have := HS1.out; omega))
  have HK24 := Lib.hid (HK23.out.save hS4 fun hI => by have := (HI2.out _ hI).2; omega)
  have HK14 := Lib.hid (HK13.out.keep HB4.out (by omega))
  have HO14 := Lib.hid (HO13.out.kept hS4 fun b hb hI => by have := (HI1.out b hb).2; have := (HI2.out b hI).1; omega)
  have HO24 := Lib.hid hO4
  have hcn : cntTo ds2 ds2.length ≤ ds2.length * 1048577 := cntTo_le HLN2.out _
  clear hO4 hS4 HK23 HK13 HO13 HO23 HB4 p0 p1 p2
  obtain ⟨_, p0, p1, p2⟩ := HK24.out
  go_wp2_with fail
  refine (heldGrammar_any _ _ _ _ _ _ _ HO24.out.rls hlen2 HLN2.out (by omega) (by omega)).mono ?_
  rintro e w5 ⟨rfl, hB5⟩
  have hne : ((1 + (cntTo ds2 ds2.length : Int)) != (1 + (cntTo ds2 ds2.length : Int))) = false := by simp
  have HW5 := Lib.hid (HW4.out.trans (hB5.mono HW4.out.size))
  have HK25 := Lib.hid (HK24.out.keep hB5 HK24.out.1)
  have HK15 := Lib.hid (HK14.out.keep hB5 HK14.out.1)
  have HO15 := Lib.hid (HO14.out.below hB5 (Nat.le_refl _))
  have HO25 := Lib.hid (HO24.out.below hB5 (Nat.le_refl _))
  clear hB5 HK24 HK14 HO14 HO24 p0 p1 p2
  -- the program once more
  go_wp2_with fail
  refine (HIMP.out _ (HTb.out.keep HW5.out)).mono ?_
  rintro e w6 ⟨A6, c6, ds6, rfl, hcap6, hO6, ha6, hB6⟩
  have HK26 := Lib.hid (HK25.out.keep hB6 HK25.out.1)
  have HK16 := Lib.hid (HK15.out.keep hB6 HK15.out.1)
  have HO16 := Lib.hid (HO15.out.below hB6 (Nat.le_refl _))
  have HO26 := Lib.hid (HO25.out.below hB6 (Nat.le_refl _))
  have HW6 := Lib.hid (HW5.out.trans (hB6.mono HW5.out.size))
  clear hB6 HK25 HK15 HO15 HO25
  have hKq := HK16.out.keep (below_new w6 (.cells #[.int .i64 n, .int .i64 t, .slice A6 ds6.length c6] 26)) HK16.out.1
  obtain ⟨_, q0, q1, q2⟩ := hKq
  go_wp2_with fail
  clear q0 q1 q2
  have hK6 := box_new w6 (.int .i64 n) (.int .i64 t) (.slice A6 ds6.length c6) 26
  have hBx := below_new w6 (.cells #[.int .i64 n, .int .i64 t, .slice A6 ds6.length c6] 26)
  generalize (w6.alloc (.cells #[.int .i64 n, .int .i64 t, .slice A6 ds6.length c6] 26)) = X6 at hK6 hBx ⊢
  have HO6 := Lib.hid (hO6.below hBx (Nat.le_refl _)); clear hO6
  have HK2X := Lib.hid (HK26.out.keep hBx HK26.out.1)
  have HK1X := Lib.hid (HK16.out.keep hBx HK16.out.1)
  have HO1X := Lib.hid (HO16.out.below hBx (Nat.le_refl _))
  have HO2X := Lib.hid (HO26.out.below hBx (Nat.le_refl _))
  have HWX := Lib.hid (HW6.out.trans (hBx.mono HW6.out.size)); clear hBx
  have HK6 := Lib.hid hK6; clear hK6
  have HA6 := Lib.hid ha6; clear ha6
  clear HK26 HK16 HO16 HO26
  have hlen6 : ds6.length ≤ 1048576 := says_len HA6.out HLS.out
  have HLN6 := Lib.hid (says_lens HA6.out HLU.out)
  refine (eqGrammar_any _ _ _ _ _ _ _ _ _ _ _ HO6.out.rls HO1X.out.rls hlen6 HLN6.out).mono ?_
  rintro e w7 ⟨rfl, hB7⟩
  rw [eqG_t (HA6.out.trans HA1.out.symm)]
  have HK27 := Lib.hid (HK2X.out.keep hB7 HK2X.out.1)
  have HO27 := Lib.hid (HO2X.out.below hB7 (Nat.le_refl _))
  have HW7 := Lib.hid (HWX.out.trans (hB7.mono HWX.out.size))
  clear hB7 HK6 HK1X HK2X HO6 HO1X HO2X
  obtain ⟨_, p0, p1, p2⟩ := HK27.out
  go_wp2_with fail
  refine (heldGrammar_any _ _ _ _ _ _ _ HO27.out.rls hlen2 HLN2.out (by omega) (by omega)).mono ?_
  rintro e w8 ⟨rfl, hB8⟩
  have HW8 := Lib.hid (HW7.out.trans (hB8.mono HW7.out.size))
  clear hB8 p0 p1 p2
  go_wp2
  go_ret
  exact ⟨rfl, HW8.out⟩

end Go.Proofs.YtaaagcokjndaoaaDoor
