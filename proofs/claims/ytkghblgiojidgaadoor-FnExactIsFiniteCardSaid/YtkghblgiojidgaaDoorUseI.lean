/- The program's usefulRules. -/
import Derived.Test.YtkghblgiojidgaaDoorUse
import Derived.Test.YtkghblgiojidgaaDoorKeep
namespace Go.Proofs.YtkghblgiojidgaaDoor
open Go.RowKit

set_option maxRecDepth 20000 in
theorem enter_use1 (xs : Array Value) (v : World) : Sem.run Tryd.prog (callFunc 93 xs) v = .ok (.enter 93 xs) v := rfl
set_option maxRecDepth 20000 in
theorem enter_use2 (xs : Array Value) (v : World) : Sem.run Tryd.prog (callFunc 96 xs) v = .ok (.enter 96 xs) v := rfl

theorem cell_lt {v : World} {B o : Nat} {x : Value} (hc : v.cell? ⟨B, o, none⟩ = some x) : B < v.heap.size := by
  by_cases hg : B < v.heap.size
  · exact hg
  · simp only [World.cell?] at hc
    rw [Array.getElem?_eq_none (by omega)] at hc
    cases hc

set_option maxRecDepth 20000 in
set_option maxHeartbeats 1000000 in
theorem keep1_any (P : Int → Bool) (n t : Int) (rs : List Ru) (hg : goodG n t (rs.map Ru.abs) = true) (p B : Nat) :
    KeepOK (fun u => soundA P u.abs) rs (fun v => SetM v p P ∧ v.cell? ⟨B, 0, none⟩ = some (.map (some p))) 93 #[.pointer (some ⟨B, 0, none⟩)] := by
  intro v u hE hI hm
  obtain ⟨hP, hc⟩ := hE
  have hum : u.abs ∈ rs.map Ru.abs := List.mem_map.2 ⟨u, hm, rfl⟩
  have HB0 : Hid (Below v.heap.size v (v.alloc (.cells #[.int .i64 u.l, .slice u.a u.r.length u.c] 61))) := (Below.refl _ _).alloc (Nat.le_refl _) _
  have HA := Lib.hid (allProd_any p P u.a u.r u.c _ (hP.keep HB0.out) ((hI.keep HB0.out).more HB0.out.size) (good_fit hg hum) (good_len hg hum))
  have hc1 : (v.alloc (.cells #[.int .i64 u.l, .slice u.a u.r.length u.c] 61)).cell? ⟨B, 0, none⟩ = some (.map (some p)) := (HB0.out.cell (p := ⟨B, 0, none⟩) (cell_lt hc)).trans hc
  have HV : Hid (soundA P u.abs = u.r.all (tokS P)) := rfl
  generalize u.r.all (tokS P) = q at HA HV
  clear hP hI hc hum
  show Calls _ _ #[_, _] _ _
  go_enter Tryd.func93, Tryd.ntmps93
  go_wp2_with fail
  refine HA.out.mono ?_
  rintro e w1 ⟨rfl, rfl⟩
  go_wp2
  go_ret
  exact ⟨ret_bool HV.out.symm, HB0.out⟩

set_option maxRecDepth 20000 in
set_option maxHeartbeats 1000000 in
theorem keep2_any (R : Int → Bool) (n t : Int) (rs : List Ru) (hg : goodG n t (rs.map Ru.abs) = true) (p B : Nat) :
    KeepOK (fun u => R u.abs.1) rs (fun v => SetM v p R ∧ v.cell? ⟨B, 0, none⟩ = some (.map (some p))) 96 #[.pointer (some ⟨B, 0, none⟩)] := by
  intro v u hE hI hm
  obtain ⟨hP, hc⟩ := hE
  have hum : u.abs ∈ rs.map Ru.abs := List.mem_map.2 ⟨u, hm, rfl⟩
  have HB0 : Hid (Below v.heap.size v (v.alloc (.cells #[.int .i64 u.l, .slice u.a u.r.length u.c] 61))) := (Below.refl _ _).alloc (Nat.le_refl _) _
  have hc1 : (v.alloc (.cells #[.int .i64 u.l, .slice u.a u.r.length u.c] 61)).cell? ⟨B, 0, none⟩ = some (.map (some p)) := (HB0.out.cell (p := ⟨B, 0, none⟩) (cell_lt hc)).trans hc
  have hl := (hP.keep HB0.out).look (x := u.l) (by have h1 := (goodG_mem hg hum).1; have h2 := goodG_is hg; have : u.abs.1 = u.l := rfl; unfold F64; omega)
  have HV : Hid (R u.abs.1 = R u.l) := rfl
  generalize R u.l = q at hl HV
  clear hP hI hc hum
  show Calls _ _ #[_, _] _ _
  go_enter Tryd.func96, Tryd.ntmps96
  go_wp2
  go_ret
  exact ⟨ret_bool HV.out.symm, HB0.out⟩

/-- The useful rules, where they lie. -/
def IsUseR (rs us : List Ru) : Prop := ∃ P R, IsLeast wayProd noS (rs.map Ru.abs) P ∧ IsLeast wayReach (oneS 0) ((rs.map Ru.abs).filter (soundA P)) R ∧ us = (rs.filter fun u => soundA P u.abs).filter fun u => R u.abs.1
theorem IsUseR.use {rs us : List Ru} (h : IsUseR rs us) : IsUse (rs.map Ru.abs) (us.map Ru.abs) := by
  obtain ⟨P, R, h1, h2, rfl⟩ := h
  refine ⟨P, R, h1, h2, ?_⟩
  rw [map_filter (fun r => R r.1), map_filter]
theorem IsUseR.sub {rs us : List Ru} (h : IsUseR rs us) : ∀ u ∈ us, u ∈ rs := by
  obtain ⟨P, R, _, _, rfl⟩ := h
  exact fun u hu => (List.mem_filter.1 (List.mem_filter.1 hu).1).1
theorem IsUseR.len {rs us : List Ru} (h : IsUseR rs us) : us.length ≤ rs.length := by
  obtain ⟨P, R, _, _, rfl⟩ := h
  exact Nat.le_trans (List.length_filter_le _ _) (List.length_filter_le _ _)

set_option maxRecDepth 20000 in
set_option maxHeartbeats 2000000 in
theorem usefulRules_any (n t : Int) (A : Option Addr) (c : Nat) (rs : List Ru) (w : World) (hx : Rls w w.heap.size A rs) (hg : goodG n t (rs.map Ru.abs) = true) :
    Calls Tryd.prog 51 #[.slice A rs.length c] w fun e w' => ∃ us, IsUseR rs us ∧ GaveRs w us e w' := by
  have hmf : ∀ (fn : Fn) (first cap : Array Value) (w : World), (Instr.makeFunc fn first cap).run Tryd.prog w = .ok (.func fn first cap) w := fun _ _ _ _ => rfl
  have HP := Lib.hid (productiveBy_any n t A c rs w hx hg)
  have HX := Lib.hid hx; clear hx
  have HG := Lib.hid hg; clear hg
  go_enter Tryd.func51, Tryd.ntmps51
  go_wp2_with fail
  refine HP.out.mono ?_
  rintro e w1 ⟨p, P, rfl, h1, h2, h3, h4⟩
  have hpl := h2.map.lt
  have HB2 : Hid (Below w1.heap.size w1 (w1.alloc (.cells #[.map (some p)] 74))) := (Below.refl _ _).alloc (Nat.le_refl _) _
  have HW2 := Lib.hid (h4.trans (HB2.out.mono h4.size))
  have HC := Lib.hid (keepRules_any (fun u => soundA P u.abs) A c rs 93 #[.pointer (some ⟨w1.heap.size, 0, none⟩)] (fun v => SetM v p P ∧ v.cell? ⟨w1.heap.size, 0, none⟩ = some (.map (some p))) (w1.alloc (.cells #[.map (some p)] 74)) ((HX.out.keep HW2.out).more HW2.out.size) (good_16 HG.out) enter_use1 ⟨h2.keep HB2.out, by simp [go_sem]⟩
    (fun v v' h hb => ⟨h.1.below hb (by simp; omega), (hb.cell (p := ⟨w1.heap.size, 0, none⟩) (by simp)).trans h.2⟩) (keep1_any P n t rs HG.out p w1.heap.size))
  have H3 := Lib.hid h3
  clear h1 h2 h3 h4
  go_wp2_with fail
  refine HC.out.mono ?_
  rintro e w3 ⟨A3, c3, rfl, hc3, hR3, hB3⟩
  have HR3 := Lib.hid hR3; clear hR3
  have HW3 := Lib.hid (HW2.out.trans (hB3.mono HW2.out.size)); clear hB3
  have HE3 : Hid ((rs.filter fun u => soundA P u.abs).map Ru.abs = (rs.map Ru.abs).filter (soundA P)) := map_filter (soundA P) rs
  have HG3 : Hid (goodG n t ((rs.filter fun u => soundA P u.abs).map Ru.abs) = true) := by show _ = _; rw [HE3.out]; exact goodG_filter HG.out _
  have HUR : Hid (∀ R us, IsLeast wayReach (oneS 0) ((rs.filter fun u => soundA P u.abs).map Ru.abs) R → us = (rs.filter fun u => soundA P u.abs).filter (fun u => R u.abs.1) → IsUseR rs us) := fun R us a b => ⟨P, R, H3.out, by rw [← HE3.out]; exact a, b⟩
  generalize (rs.filter fun u => soundA P u.abs) = ks at *
  have HRB := Lib.hid (reachedBy_any n t A3 c3 ks w3 HR3.out HG3.out)
  go_wp2_with fail
  refine HRB.out.mono ?_
  rintro e w4 ⟨q, R, rfl, h1, h2, h3, h4⟩
  have hql := h2.map.lt
  have HB5 : Hid (Below w4.heap.size w4 (w4.alloc (.cells #[.map (some q)] 74))) := (Below.refl _ _).alloc (Nat.le_refl _) _
  have HW5 := Lib.hid (h4.trans (HB5.out.mono h4.size))
  have HC5 := Lib.hid (keepRules_any (fun u => R u.abs.1) A3 c3 ks 96 #[.pointer (some ⟨w4.heap.size, 0, none⟩)] (fun v => SetM v q R ∧ v.cell? ⟨w4.heap.size, 0, none⟩ = some (.map (some q))) (w4.alloc (.cells #[.map (some q)] 74)) ((HR3.out.keep HW5.out).more HW5.out.size) (good_16 HG3.out) enter_use2 ⟨h2.keep HB5.out, by simp [go_sem]⟩
    (fun v v' h hb => ⟨h.1.below hb (by simp; omega), (hb.cell (p := ⟨w4.heap.size, 0, none⟩) (by simp)).trans h.2⟩) (keep2_any R n t ks HG3.out q w4.heap.size))
  have H5 := Lib.hid h3
  clear h1 h2 h3 h4
  go_wp2_with fail
  refine HC5.out.mono ?_
  rintro e w6 ⟨A6, c6, rfl, hc6, hR6, hB6⟩
  have HU := Lib.hid (HUR.out R _ H5.out rfl)
  have HR6 := Lib.hid hR6; clear hR6
  have HW6 := Lib.hid (HW3.out.trans ((HW5.out.trans (hB6.mono HW5.out.size)).mono HW3.out.size)); clear hB6
  generalize (ks.filter fun u => R u.abs.1) = us at *
  go_wp2
  go_ret
  exact ⟨us, HU.out, A6, c6, rfl, hc6, HR6.out, HW6.out⟩

end Go.Proofs.YtkghblgiojidgaaDoor
