/- The reference's IsFinite. -/
import Derived.Test.YtkghblgiojidgaaDoorFinSX
import Derived.Test.YtkghblgiojidgaaDoorSpecUse
import Derived.Test.YtkghblgiojidgaaDoorVans
import Derived.Test.YtkghblgiojidgaaDoorSpecGood2
namespace Go.Proofs.YtkghblgiojidgaaDoor
open Go.RowKit

theorem fin_of_tabs {ss : List (Int × List Int)} {G : Int → Bool} {N : Nat} {t : Int} {T U : Tab} (hg : goodG (N : Int) t ss = true) (hs : SoundT (Edge ss) (GEdge G ss) T U) (hu : UptoT (Edge ss) (GEdge G ss) N T U) : Fin' ss G ↔ ∀ j : Nat, j < N → U j j = false := by
  have h := tab_round (n := (N : Int)) (edge_fit hg) gEdge_edge hs hu
  constructor
  · intro hf j hj
    cases e : U j j
    · rfl
    · exact absurd (h.1 ⟨(j : Int), by omega, e⟩) hf
  · rintro hf hr
    obtain ⟨k, hk, e⟩ := h.2 hr
    obtain ⟨j, rfl⟩ := Int.eq_ofNat_of_zero_le hk.1
    rw [hf j (by omega)] at e
    cases e

/-- What l3Finite ends in. -/
def GaveFin (w : World) (ss : List (Int × List Int)) (e : Ending) (w' : World) : Prop :=
  ∃ x us G, e = .returned (.bool x) ∧ IsUse ss us ∧ IsGrow us G ∧ (x = true ↔ Fin' us G) ∧ Below w.heap.size w w'

set_option maxRecDepth 20000 in
set_option maxHeartbeats 2000000 in
theorem l3Finite_any (hld : LeadsOK) (N : Nat) (t : Int) (A : Option Addr) (c : Nat) (rs : List Ru) (w : World) (hx : Rls w w.heap.size A rs) (hg : goodG (N : Int) t (rs.map Ru.abs) = true) :
    Calls Tryd.prog 48 #[.agg #[.int .i64 (N : Int), .int .i64 t, .slice A rs.length c]] w (GaveFin w (rs.map Ru.abs)) := by
  have hN : N ≤ 6 := by have := goodG_is hg; omega
  have HB0 : Hid (Below w.heap.size w (w.alloc (.cells #[.int .i64 N, .int .i64 t, .slice A rs.length c] 30))) := by show Below _ _ _; go_grown
  have HU := Lib.hid (l3Useful_any (N : Int) t A c rs _ ((hx.keep HB0.out).more HB0.out.size) hg)
  have HG := Lib.hid hg; clear hg hx
  go_enter Tryd.func48, Tryd.ntmps48
  go_wp2_with fail
  refine HU.out.mono ?_
  rintro e w1 ⟨A1, c1, us, rfl, hc1, hO1, hus, hB1⟩
  have HUS := Lib.hid hus
  have HGU : Hid (goodG (N : Int) t (us.map Ru.abs) = true) := by
    show _ = _
    obtain ⟨P, R, _, _, e⟩ := hus
    rw [e]
    exact goodG_filter (goodG_filter HG.out _) _
  have HO1 := Lib.hid hO1
  have HB1 := Lib.hid (HB0.out.trans (hB1.mono HB0.out.size))
  have HBA : Hid (Below w1.heap.size w1 (w1.alloc (.cells #[.int .i64 N, .int .i64 t, .slice A1 us.length c1] 30))) := by show Below _ _ _; go_grown
  have HB2 := Lib.hid (HB1.out.trans (HBA.out.mono HB1.out.size))
  have HLD := Lib.hid (hld N t A1 c1 us _ ((HO1.out.rls.keep HBA.out).more HBA.out.size) HGU.out)
  clear hO1 hus hB1 hc1 HU HB0
  go_wp2_with fail
  refine HLD.out.mono ?_
  rintro e w2 ⟨S, T, U, G, rfl, hG, hT, hs, hu, hB2⟩
  have HFT := Lib.hid (fin_of_tabs HGU.out hs hu)
  have HB3 := Lib.hid (HB2.out.trans (hB2.mono HB2.out.size))
  have HT := Lib.hid hT
  have HGR := Lib.hid hG
  clear hG hT hs hu hB2 HLD HO1 HB1 HB2 HBA
  go_wp2
  go_loopw [16] (fun i wr => ∃ (k : Nat), k ≤ N ∧ i = .int .i64 k ∧ wr = w2 ∧ Hid (∀ j : Nat, j < k → U j j = false)) (fun i _ => N - (intOf i).toNat)
  case atStart => exact ⟨0, by omega, rfl, rfl, fun j h => absurd h (by omega)⟩
  case round =>
    obtain ⟨k, hk, rfl, rfl, HK⟩ := hrel
    by_cases hlt : k < N
    · have t2 := HT.out.two hlt
      have u3 := (HT.out.atU hlt hlt).1
      cases hu : U k k
      · rw [hu] at u3
        have HN : Hid (∀ j : Nat, j < k + 1 → U j j = false) := fun j hj => by
          by_cases e : j = k
          · subst e; exact hu
          · exact HK.out j (by omega)
        clear hu
        go_wp2
        go_roundw
        case rel => exact ⟨k + 1, by omega, by go_num, by simp, HN.out⟩
        case measure => simp [intOf]; omega
      · rw [hu] at u3
        have HN : Hid (¬ Fin' (us.map Ru.abs) G) := fun h => by have := HFT.out.1 h k hlt; rw [hu] at this; cases this
        clear hu
        go_wp2
        go_ret
        exact ⟨false, _, G, rfl, HUS.out, HGR.out, ⟨fun h => (by cases h), fun h => absurd h HN.out⟩, HB3.out⟩
    · have HN := Lib.hid (HFT.out.2 fun j hj => HK.out j (by omega))
      go_wp2
      go_ret
      exact ⟨true, _, G, rfl, HUS.out, HGR.out, ⟨fun _ => HN.out, fun _ => rfl⟩, HB3.out⟩

set_option maxRecDepth 20000 in
set_option maxHeartbeats 2000000 in
theorem specIsFinite' (hld : LeadsOK) (n t : Int) (A : Option Addr) (c : Nat) (rs : List Ru) (w : World) (hx : Rls w w.heap.size A rs) (hc : rs.length ≤ c) (h1 : rs.length ≤ 1048576) (h2 : ∀ u ∈ rs, u.r.length ≤ 1048576) :
    Calls Tryd.prog 13 #[.agg #[.int .i64 n, .int .i64 t, .slice A rs.length c]] w (GaveXB w (QF n t (rs.map Ru.abs))) := by
  have HX := Lib.hid hx; clear hx
  have H2 := Lib.hid h2; clear h2
  have HB0 : Hid (Below w.heap.size w (w.alloc (.cells #[.int .i64 n, .int .i64 t, .slice A rs.length c] 30))) := by show Below _ _ _; go_grown
  have B0 : Hid (Box3 (w.alloc (.cells #[.int .i64 n, .int .i64 t, .slice A rs.length c] 30)) w.heap.size (.int .i64 n) (.int .i64 t) (.slice A rs.length c)) := ⟨by simp, by simp [go_sem], by simp [go_sem], by simp [go_sem]⟩
  cases hg : goodG n t (rs.map Ru.abs)
  · have HQ : Hid (QF n t (rs.map Ru.abs) false false) := ⟨hg.symm, fun h => (by rw [hg] at h; cases h), fun _ => rfl⟩
    have HG := Lib.hid hg; clear hg
    go_enter Tryd.func13, Tryd.ntmps13
    go_wp2_with fail
    refine (specGood_any _ _ _ _ _ _ ((HX.out.keep HB0.out).more HB0.out.size) hc h1 H2.out).mono ?_
    rintro e w1 ⟨rfl, hB1⟩
    rw [HG.out]
    have HB1 := Lib.hid (HB0.out.trans (hB1.mono HB0.out.size)); clear hB1
    go_wp2
    go_ret2
    exact ⟨false, false, HQ.out, rfl, HB1.out⟩
  · have HG := Lib.hid hg
    obtain ⟨N, hN⟩ : ∃ N : Nat, n = (N : Int) := ⟨_, Int.eq_ofNat_of_zero_le (by have := goodG_is hg; omega) |>.choose_spec⟩
    clear hg
    subst hN
    go_enter Tryd.func13, Tryd.ntmps13
    go_wp2_with fail
    refine (specGood_any _ _ _ _ _ _ ((HX.out.keep HB0.out).more HB0.out.size) hc h1 H2.out).mono ?_
    rintro e w1 ⟨rfl, hB1⟩
    rw [HG.out]
    have K0 := Lib.hid (B0.out.keep hB1 (by simp))
    have HB1 := Lib.hid (HB0.out.trans (hB1.mono HB0.out.size)); clear hB1
    clear B0 HB0
    obtain ⟨_, b0, b1, b2⟩ := K0.out
    have HFN := Lib.hid (l3Finite_any hld N t A c rs w1 ((HX.out.keep HB1.out).more HB1.out.size) HG.out)
    go_wp2_with fail
    refine HFN.out.mono ?_
    rintro e w2 ⟨x, us, G, rfl, hus, hG, hx, hB2⟩
    have HQ : Hid (QF (N : Int) t (rs.map Ru.abs) x true) := ⟨HG.out.symm, fun _ => ⟨us, G, hus, hG, hx⟩, fun h => by rw [HG.out] at h; cases h⟩
    have HB2 := Lib.hid (HB1.out.trans (hB2.mono HB1.out.size))
    clear hus hG hx hB2 b0 b1 b2
    go_wp2
    go_ret2
    exact ⟨x, true, HQ.out, rfl, HB2.out⟩

end Go.Proofs.YtkghblgiojidgaaDoor
