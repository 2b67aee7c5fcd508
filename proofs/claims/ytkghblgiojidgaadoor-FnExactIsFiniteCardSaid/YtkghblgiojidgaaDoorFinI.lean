/- The program's isGrowingRound and IsFinite. -/
import Derived.Test.YtkghblgiojidgaaDoorFinG
import Derived.Test.YtkghblgiojidgaaDoorUseI
import Derived.Test.YtkghblgiojidgaaDoorVans
import Derived.Test.YtkghblgiojidgaaDoorSpecSet
import Derived.Test.YtkghblgiojidgaaDoorImplGood3
import Derived.Deep.RegionHeld3
namespace Go.Proofs.YtkghblgiojidgaaDoor
open Go.RowKit

/-- What isGrowingRound ends in. -/
def GaveRound (w : World) (ss : List (Int × List Int)) (G : Int → Bool) (r : Int × List Int) (i : Nat) (e : Ending) (w' : World) : Prop :=
  ∃ x, e = .returned (.bool x) ∧ (x = true ↔ RoundAt ss G r i) ∧ Below w.heap.size w w'

theorem FitI.take {xs : List Int} (h : FitI xs) (k : Nat) : FitI (xs.take k) := fun x hx => h x (List.mem_of_mem_take hx)
theorem FitI.drop {xs : List Int} (h : FitI xs) (k : Nat) : FitI (xs.drop k) := fun x hx => h x (List.mem_of_mem_drop hx)

theorem round_neg {ss : List (Int × List Int)} {G : Int → Bool} {u : Ru} {i : Nat} (hi : i < u.r.length) (h : u.r[i] < 0) : false = true ↔ RoundAt ss G u.abs i := by
  refine ⟨fun e => (by cases e), ?_⟩
  rintro ⟨x, hx, h0, _⟩
  have hx' : u.r[i]? = some x := hx
  rw [List.getElem?_eq_getElem hi] at hx'
  have := Option.some.inj hx'
  omega
theorem round_no {ss : List (Int × List Int)} {G R : Int → Bool} {u : Ru} {i : Nat} (hi : i < u.r.length) (hR : IsLeast wayReach (oneS u.r[i]) ss R) (h : R u.l = false) : false = true ↔ RoundAt ss G u.abs i := by
  refine ⟨fun e => (by cases e), ?_⟩
  rintro ⟨x, hx, h0, hl, _⟩
  have hx' : u.r[i]? = some x := hx
  rw [List.getElem?_eq_getElem hi] at hx'
  have e := Option.some.inj hx'
  subst e
  have hl' : Least wayReach (oneS u.r[i]) ss u.l := hl
  have := (hR u.l).2 hl'
  rw [h] at this
  cases this
theorem round_yes {ss : List (Int × List Int)} {G R : Int → Bool} {u : Ru} {i : Nat} (hi : i < u.r.length) (h0 : ¬ u.r[i] < 0) (hR : IsLeast wayReach (oneS u.r[i]) ss R) (h : R u.l = true) : (((u.r.take i).any (tokS G) || (u.r.drop (i + 1)).any (tokS G)) = true) ↔ RoundAt ss G u.abs i := by
  rw [← beside_iff]
  constructor
  · intro hb
    exact ⟨u.r[i], List.getElem?_eq_getElem hi, by omega, (hR u.l).1 h, hb⟩
  · rintro ⟨x, _, _, _, hb⟩
    exact hb

set_option maxRecDepth 20000 in
set_option maxHeartbeats 2000000 in
theorem growRound_any (n t : Int) (A : Option Addr) (c : Nat) (rs : List Ru) (b : Nat) (G : Int → Bool) (u : Ru) (i : Nat) (hi : i < u.r.length) (hcap : u.r.length ≤ u.c) (hum : u.abs ∈ rs.map Ru.abs) (w : World) (hx : Rls w w.heap.size A rs) (hI : Ints w w.heap.size u.a u.r) (hG : SetM w b G) (hg : goodG n t (rs.map Ru.abs) = true) :
    Calls Tryd.prog 53 #[.slice A rs.length c, .map (some b), .agg #[.int .i64 u.l, .slice u.a u.r.length u.c], .int .i64 i] w (GaveRound w (rs.map Ru.abs) G u.abs i) := by
  have h4 := good_len hg hum
  have HF : Hid (FitI u.r) := good_fit hg hum
  have h6 : 0 ≤ u.l ∧ u.l < 6 := by have h5 := (goodG_mem hg hum).1; have h7 := goodG_is hg; have : u.abs.1 = u.l := rfl; omega
  have hx6 : u.r[i] < 6 := by have := (goodG_mem hg hum).2.2 u.r[i] (List.getElem_mem hi); have h7 := goodG_is hg; omega
  have HB0 : Hid (Below w.heap.size w (w.alloc (.cells #[.int .i64 u.l, .slice u.a u.r.length u.c] 61))) := (Below.refl _ _).alloc (Nat.le_refl _) _
  have HBU : Hid (Box2 (w.alloc (.cells #[.int .i64 u.l, .slice u.a u.r.length u.c] 61)) w.heap.size (.int .i64 u.l) (.slice u.a u.r.length u.c)) := ⟨by simp, by simp [go_sem], by simp [go_sem]⟩
  have HX := Lib.hid ((hx.keep HB0.out).more HB0.out.size)
  have HI := Lib.hid ((hI.keep HB0.out).more HB0.out.size)
  have HS := Lib.hid (hG.keep HB0.out)
  have HG := Lib.hid hg
  clear hx hI hG hg hum
  obtain ⟨p, o, hA, hp, c1⟩ := HI.out.at_ hi
  by_cases hneg : u.r[i] < 0
  · have HE := Lib.hid (round_neg (ss := rs.map Ru.abs) (G := G) hi hneg)
    generalize u.r[i] = x at *
    obtain ⟨m, rfl⟩ : ∃ m, x = Int.negSucc m := ⟨_, Int.eq_negSucc_of_lt_zero hneg |>.choose_spec⟩
    clear HX HI HS HF HG hneg hx6
    go_enter Tryd.func53, Tryd.ntmps53
    rw [hA] at HB0 HBU c1 ⊢
    go_wp2_with fail
    generalize (w.alloc (.cells #[.int .i64 u.l, .slice (some ⟨p, o, none⟩) u.r.length u.c] 61)) = W at *
    have HB1 : Hid (Below w.heap.size w W.drew) := HB0.out.trans (by go_grown)
    go_region
    go_wp2
    go_ret
    exact ⟨false, rfl, HE.out, HB1.out⟩
  have HY := Lib.hid (fun R => round_no (ss := rs.map Ru.abs) (G := G) (R := R) hi)
  have HZ := Lib.hid (fun R => round_yes (ss := rs.map Ru.abs) (G := G) (R := R) hi hneg)
  generalize u.r[i] = x at *
  obtain ⟨m, rfl⟩ : ∃ m, x = Int.ofNat m := ⟨_, Int.eq_ofNat_of_zero_le (Int.not_lt.1 hneg) |>.choose_spec⟩
  have hm6 : m < 6 := Int.ofNat_lt.1 hx6
  clear hneg hx6
  go_enter Tryd.func53, Tryd.ntmps53
  rw [hA] at HB0 HBU HX HI HS c1 ⊢
  go_wp2_with fail
  generalize (w.alloc (.cells #[.int .i64 u.l, .slice (some ⟨p, o, none⟩) u.r.length u.c] 61)) = W at *
  obtain ⟨hwl, e0, e1⟩ := HBU.out
  go_region_held3 (fun w' => w'.cell? ⟨w.heap.size, 0, none⟩ = some (.int .i64 u.l) ∧ w'.cell? ⟨w.heap.size, 1, none⟩ = some (.slice (some ⟨p, o, none⟩) u.r.length u.c))
    (first | exact ⟨e0, e1⟩ | exact ⟨y0, y1⟩)
    (first
    | (go_at_call 100
       refine (reachedFrom_any n t A c rs (m : Int) ⟨Int.natCast_nonneg m, Int.ofNat_lt.2 hm6⟩ _ ?_ HG.out).mono ?_
       · exact HX.out.keep (by go_grown)
       rintro e w2 ⟨q, R, rfl, hq, hR2, hL2, hB2'⟩
       have hB2 : Below W.heap.size W w2 := Below.trans (by go_grown) hB2'
       obtain ⟨_, y0, y1⟩ := HBU.out.keep hB2 HBU.out.1
       have HR2 := Lib.hid hR2
       have HL2 := Lib.hid hL2
       have HB2 := Lib.hid hB2
       have hl := hR2.look (x := u.l) (by unfold F64; omega)
       clear hR2 hL2 hB2 hB2'))
  rename_i hHeld
  clear hHeld e0 e1
  have HSX := Lib.hid (HS.out.keep HB2.out)
  have HIX := Lib.hid ((HI.out.keep HB2.out).more HB2.out.size)
  have HW2 := Lib.hid (HB0.out.trans (HB2.out.mono HB0.out.size))
  have hlt : (u.r.take i).length = i := by rw [List.length_take]; omega
  have hld : (u.r.drop (i + 1)).length = u.r.length - (i + 1) := List.length_drop ..
  have HT : Hid (∀ v, Below w2.heap.size w2 v → Calls Tryd.prog 99 #[.map (some b), .slice (some ⟨p, o, none⟩) i u.c] v fun e w' => e = .returned (.bool ((u.r.take i).any (tokS G))) ∧ w' = v) := fun v hv => by
    have h := someGrow_any b G _ (u.r.take i) u.c v (HSX.out.keep hv) ((HIX.out.take i).keep hv |>.more hv.size) (HF.out.take i) (by omega)
    rw [hlt] at h
    exact h
  have HD : Hid (∀ v, Below w2.heap.size w2 v → Calls Tryd.prog 99 #[.map (some b), .slice (some ⟨p, o + (i + 1), none⟩) (u.r.length - (i + 1)) (u.c - (i + 1))] v fun e w' => e = .returned (.bool ((u.r.drop (i + 1)).any (tokS G))) ∧ w' = v) := fun v hv => by
    have h := someGrow_any b G _ (u.r.drop (i + 1)) (u.c - (i + 1)) v (HSX.out.keep hv) ((HIX.out.drop (i + 1)).keep hv |>.more hv.size) (HF.out.drop (i + 1)) (by omega)
    rw [hld] at h
    exact h
  have HD2 : Hid (u.r.length ≤ i + 1 → ∀ v, Below w2.heap.size w2 v → Calls Tryd.prog 99 #[.map (some b), .slice (some ⟨p, o, none⟩) (u.r.length - (i + 1)) 0] v fun e w' => e = .returned (.bool ((u.r.drop (i + 1)).any (tokS G))) ∧ w' = v) := fun hle v hv => by
    have h := someGrow_any b G (some ⟨p, o, none⟩) (u.r.drop (i + 1)) 0 v (HSX.out.keep hv) (fun h => by omega) (HF.out.drop (i + 1)) (by omega)
    rw [hld] at h
    exact h
  clear hlt hld HX HI HS HF HG HBU HB0 HB2 hq
  cases hs : R u.l
  · have HE := Lib.hid (HY.out R HL2.out hs)
    clear hs hl HT HD HD2
    rw [show (decide ((m : Int) < 0) || !false) = true from rfl]
    go_wp2
    go_ret
    exact ⟨false, rfl, HE.out, HW2.out⟩
  · have HE := Lib.hid (HZ.out R HL2.out hs)
    clear hs hl
    rw [show (decide ((m : Int) < 0) || !true) = false from rfl]
    generalize (u.r.drop (i + 1)).any (tokS G) = d at *
    cases hT : (u.r.take i).any (tokS G)
    · rw [hT] at HE HT
      clear hT
      go_wp2_with fail
      refine (HT.out _ (Below.refl _ _)).mono ?_
      rintro e w3 ⟨rfl, rfl⟩
      go_wp2_with fail
      case inl =>
        refine (HD2.out (by omega) _ (Below.refl _ _)).mono ?_
        rintro e w4 ⟨rfl, rfl⟩
        go_wp2
        go_ret
        exact ⟨d, rfl, HE.out, HW2.out⟩
      case inr =>
        refine (HD.out _ (Below.refl _ _)).mono ?_
        rintro e w4 ⟨rfl, rfl⟩
        go_wp2
        go_ret
        exact ⟨d, rfl, HE.out, HW2.out⟩
    · rw [hT] at HE HT
      clear hT HD HD2
      go_wp2_with fail
      refine (HT.out _ (Below.refl _ _)).mono ?_
      rintro e w3 ⟨rfl, rfl⟩
      go_wp2
      go_ret
      exact ⟨true, rfl, HE.out, HW2.out⟩

end Go.Proofs.YtkghblgiojidgaaDoor
