/- The program's nullableBy, productiveBy, growingBy, reachedFrom, reachedBy. -/
import Derived.Test.YtkghblgiojidgaaDoorLefts
namespace Go.Proofs.YtkghblgiojidgaaDoor
open Go.RowKit

theorem SetM.below {w w' : World} {b B : Nat} {S : Int → Bool} (h : SetM w b S) (hb : Below B w w') (hB : b < B) : SetM w' b S :=
  h.save (T := fun i => B ≤ i) ⟨hb.os, hb.tape, hb.output, hb.size, fun i _ hs => hb.block i (by omega)⟩ (by omega)

theorem good_fit {n t : Int} {ss : List (Int × List Int)} (hg : goodG n t ss = true) {u : Ru} (hu : u.abs ∈ ss) : FitI u.r := fun x hx => by
  have h1 := goodG_is hg
  have h2 := (goodG_mem hg hu).2.2 x hx
  unfold F64
  omega
theorem good_len {n t : Int} {ss : List (Int × List Int)} (hg : goodG n t ss = true) {u : Ru} (hu : u.abs ∈ ss) : u.r.length ≤ 4 := (goodG_mem hg hu).2.1
theorem good_16 {n t : Int} {rs : List Ru} (hg : goodG n t (rs.map Ru.abs) = true) : rs.length ≤ 16 := by simpa using (goodG_is hg).2.2.1

set_option maxRecDepth 20000 in
theorem enter_prod (xs : Array Value) (v : World) : Sem.run Tryd.prog (callFunc 94 xs) v = .ok (.enter 94 xs) v := rfl
set_option maxRecDepth 20000 in
theorem enter_grow (xs : Array Value) (v : World) : Sem.run Tryd.prog (callFunc 98 xs) v = .ok (.enter 98 xs) v := rfl
set_option maxRecDepth 20000 in
theorem enter_reach (xs : Array Value) (v : World) : Sem.run Tryd.prog (callFunc 126 xs) v = .ok (.enter 126 xs) v := rfl


set_option maxRecDepth 20000 in
set_option maxHeartbeats 1000000 in
theorem productiveBy_any (n t : Int) (A : Option Addr) (c : Nat) (rs : List Ru) (w : World) (hx : Rls w w.heap.size A rs) (hg : goodG n t (rs.map Ru.abs) = true) :
    Calls Tryd.prog 91 #[.slice A rs.length c] w (GaveSet w (IsLeast wayProd noS (rs.map Ru.abs))) := by
  have HC := Lib.hid (closeLefts_any wayProd (fun _ => rfl) A c rs (fit_lefts hg fun _ => rfl) 94 #[] (fun _ => True) w hx (good_16 hg) enter_prod trivial (fun _ _ _ _ => trivial) fun b _ v S u _ hS hI hm => by
    have h := allProd_any b S u.a u.r u.c v hS hI (good_fit hg hm) (good_len hg hm)
    exact h.mono fun e v' ⟨h1, h2⟩ => ⟨h1, by subst h2; exact Below.refl _ _⟩)
  clear hx hg
  go_enter Tryd.func91, Tryd.ntmps91
  go_wp2_with fail
  refine HC.out.mono ?_
  rintro e w1 ⟨b, S, rfl, h1, h2, h3, h4⟩
  have H1 := Lib.hid h1; have H2 := Lib.hid h2; have H3 := Lib.hid h3; have H4 := Lib.hid h4
  clear h1 h2 h3 h4
  go_wp2
  go_ret
  exact ⟨b, S, rfl, H1.out, H2.out, H3.out, H4.out⟩

set_option maxRecDepth 20000 in
set_option maxHeartbeats 1000000 in
/-- The question of growingBy: the captured variable in block B holds the set of the productive ones, in block p. -/
theorem growFits_any (P : Int → Bool) (n t : Int) (ss : List (Int × List Int)) (hg : goodG n t ss = true) (b p B : Nat) :
    FitsOK (wayGrow P) ss (fun v => SetM v p P ∧ v.cell? ⟨B, 0, none⟩ = some (.map (some p))) b 98 #[.pointer (some ⟨B, 0, none⟩)] := by
  intro v S u hE hS hI hm
  obtain ⟨hP, hc⟩ := hE
  have HA := Lib.hid (allProd_any p P u.a u.r u.c v hP hI (good_fit hg hm) (good_len hg hm))
  have HG := Lib.hid (someGrow_any b S u.a u.r u.c v hS hI (good_fit hg hm) (good_len hg hm))
  have HV : Hid ((wayGrow P).fires S u.abs = (u.r.all (tokS P) && u.r.any (tokS S))) := rfl
  clear hP hI hS
  cases ha : u.r.all (tokS P)
  · rw [ha] at HA HV
    go_enter Tryd.func98, Tryd.ntmps98
    go_wp2_with fail
    refine HA.out.mono ?_
    rintro e w1 ⟨rfl, rfl⟩
    go_wp2
    go_ret
    exact ⟨ret_bool (by rw [HV.out]; rfl), Below.refl _ _⟩
  · rw [ha] at HA HV
    go_enter Tryd.func98, Tryd.ntmps98
    go_wp2_with fail
    refine HA.out.mono ?_
    rintro e w1 ⟨rfl, rfl⟩
    go_wp2_with fail
    refine HG.out.mono ?_
    rintro e w2 ⟨rfl, rfl⟩
    go_wp2
    go_ret
    exact ⟨ret_bool (by rw [HV.out]; rfl), Below.refl _ _⟩

set_option maxRecDepth 20000 in
set_option maxHeartbeats 1000000 in
theorem growingBy_any (n t : Int) (A : Option Addr) (c : Nat) (rs : List Ru) (w : World) (hx : Rls w w.heap.size A rs) (hg : goodG n t (rs.map Ru.abs) = true) :
    Calls Tryd.prog 52 #[.slice A rs.length c] w (GaveSet w fun S => ∃ P, IsLeast wayProd noS (rs.map Ru.abs) P ∧ IsLeast (wayGrow P) noS (rs.map Ru.abs) S) := by
  have hmf : ∀ (fn : Fn) (first cap : Array Value) (w : World), (Instr.makeFunc fn first cap).run Tryd.prog w = .ok (.func fn first cap) w := fun _ _ _ _ => rfl
  have HP := Lib.hid (productiveBy_any n t A c rs w hx hg)
  have HX := Lib.hid hx; clear hx
  have HG := Lib.hid hg; clear hg
  go_enter Tryd.func52, Tryd.ntmps52
  go_wp2_with fail
  refine HP.out.mono ?_
  rintro e w1 ⟨p, P, rfl, h1, h2, h3, h4⟩
  have hpl := h2.map.lt
  have HB2 : Hid (Below w1.heap.size w1 (w1.alloc (.cells #[.map (some p)] 74))) := (Below.refl _ _).alloc (Nat.le_refl _) _
  have HW2 := Lib.hid (h4.trans (HB2.out.mono h4.size))
  have HC := Lib.hid (closeLefts_any (wayGrow P) (fun _ => rfl) A c rs (fit_lefts HG.out fun _ => rfl) 98 #[.pointer (some ⟨w1.heap.size, 0, none⟩)] (fun v => SetM v p P ∧ v.cell? ⟨w1.heap.size, 0, none⟩ = some (.map (some p))) (w1.alloc (.cells #[.map (some p)] 74)) ((HX.out.keep HW2.out).more HW2.out.size) (good_16 HG.out) enter_grow ⟨h2.keep HB2.out, by simp [go_sem]⟩
    (fun v v' h hb => ⟨h.1.below hb (by simp; omega), (hb.cell (p := ⟨w1.heap.size, 0, none⟩) (by simp)).trans h.2⟩)
    (fun b _ v S u hE => growFits_any P n t (rs.map Ru.abs) HG.out b p w1.heap.size v S u hE.1))
  have H1 := Lib.hid h1; have H2 := Lib.hid h2; have H3 := Lib.hid h3; have H4 := Lib.hid h4
  clear h1 h2 h3 h4
  go_wp2_with fail
  refine HC.out.mono ?_
  rintro e w3 ⟨b, S, rfl, k1, k2, k3, k4⟩
  have K1 : Hid (w.heap.size ≤ b) := by have := HW2.out.size; show _ ≤ _; omega
  have K2 := Lib.hid k2; have K3 := Lib.hid k3; have K4 := Lib.hid (HW2.out.trans (k4.mono HW2.out.size))
  clear k1 k2 k3 k4
  go_wp2
  go_ret
  exact ⟨b, S, rfl, K1.out, K2.out, ⟨P, H3.out, K3.out⟩, K4.out⟩

/-- The first k symbols of a right side are put into a set, the tokens left out. -/
def putR (S : Int → Bool) (xs : List Int) : Int → Bool := fun x => S x || (decide (0 ≤ x) && xs.contains x)
theorem putR_nil (S : Int → Bool) : putR S [] = S := by
  funext x
  simp [putR]
theorem contains_take {xs : List Int} {k : Nat} (hk : k < xs.length) (x : Int) : (xs.take (k + 1)).contains x = ((xs.take k).contains x || decide (x = xs[k])) := by
  rw [List.take_succ_eq_append_getElem hk]
  generalize xs.take k = l
  generalize xs[k] = y
  rw [Bool.eq_iff_iff]
  simp
theorem putR_tok {S : Int → Bool} {xs : List Int} {k : Nat} (hk : k < xs.length) (h : xs[k] < 0) : putR S (xs.take (k + 1)) = putR S (xs.take k) := by
  funext x
  unfold putR
  rw [contains_take hk]
  by_cases e : x = xs[k]
  · have : decide (0 ≤ x) = false := decide_eq_false (by omega)
    rw [this]
    rfl
  · rw [decide_eq_false e, Bool.or_false]
theorem putR_non {S : Int → Bool} {xs : List Int} {k : Nat} (hk : k < xs.length) (h : ¬ xs[k] < 0) : putR S (xs.take (k + 1)) = addS (putR S (xs.take k)) xs[k] := by
  funext x
  unfold putR addS
  rw [contains_take hk]
  by_cases e : x = xs[k]
  · have h0 : decide (0 ≤ x) = true := decide_eq_true (by omega)
    rw [h0, decide_eq_true e]
    simp
  · rw [decide_eq_false e, Bool.or_false, Bool.false_or]
theorem putR_all {S : Int → Bool} {u : Ru} (h : S u.l = true) : putR S u.r = useW wayReach S u.abs := by
  funext x
  unfold putR useW
  have h1 : wayReach.fires S u.abs = true := h
  have h2 : (wayReach.adds u.abs).contains x = (decide (0 ≤ x) && u.r.contains x) := by
    show (u.r.filter fun x => decide (0 ≤ x)).contains x = _
    rw [Bool.eq_iff_iff]
    simp [and_comm]
  rw [h1, h2]
  rfl

set_option maxRecDepth 20000 in
set_option maxHeartbeats 1000000 in
theorem reachRight_any (n t : Int) (ss : List (Int × List Int)) (hg : goodG n t ss = true) (b : Nat) : UseOK wayReach ss (fun _ => True) b 126 #[] := by
  intro v S u _ hS hI hm
  show Calls _ _ #[_, _] _ _
  have h6 := goodG_is hg
  have h4 := good_len hg hm
  have hul := (goodG_mem hg hm).1
  have HF : Hid (FitI u.r) := good_fit hg hm
  have HM : Hid (∀ x ∈ u.r, x < 6) := fun x hx => by have := (goodG_mem hg hm).2.2 x hx; omega
  have HB0 : Hid (Below v.heap.size v (v.alloc (.cells #[.int .i64 u.l, .slice u.a u.r.length u.c] 61))) := (Below.refl _ _).alloc (Nat.le_refl _) _
  have HS := Lib.hid (hS.keep HB0.out)
  have HI := Lib.hid ((hI.keep HB0.out).more HB0.out.size)
  have hl := HS.out.look (x := u.l) (by unfold F64; have : u.abs.1 = u.l := rfl; omega)
  clear hS hI h6 hul hm
  cases hs : S u.l
  · rw [hs] at hl
    have HE : Hid (wayReach.fires S u.abs = false) := hs
    rw [useW_no HE.out]
    clear hs
    go_enter Tryd.func126, Tryd.ntmps126
    go_wp2
    go_ret
    exact ⟨ret_bool HE.out.symm, HS.out, Save.of_below HB0.out⟩
  · rw [hs] at hl
    have HE : Hid (wayReach.fires S u.abs = true) := hs
    rw [← putR_all hs]
    clear hs
    go_enter Tryd.func126, Tryd.ntmps126
    go_wp2
    clear hl
    generalize (v.alloc (.cells #[.int .i64 u.l, .slice u.a u.r.length u.c] 61)) = X at *
    go_loopw [15] (fun i wr => ∃ (k : Nat), k ≤ u.r.length ∧ i = .int .i64 k ∧ Hid (SetM wr b (putR S (u.r.take k))) ∧ Hid (Save (· = b) X wr)) (fun i _ => u.r.length - (intOf i).toNat)
    case atStart => exact ⟨0, by omega, rfl, by show SetM _ _ _; rw [List.take_zero, putR_nil]; exact HS.out, Save.refl _ _⟩
    case round =>
      obtain ⟨k, hk, rfl, HSk, HVk⟩ := hrel
      have HIk := Lib.hid (HI.out.saveMap HS.out.map (save_T HVk.out))
      by_cases hlt : k < u.r.length
      · obtain ⟨p, o, hA, hp, c1⟩ := HIk.out.at_ hlt
        rw [hA]
        by_cases hneg : u.r[k] < 0
        · have HP := Lib.hid (putR_tok (S := S) hlt hneg)
          go_wp2
          go_roundw
          case rel => exact ⟨k + 1, by omega, by go_num, by show SetM _ _ _; rw [HP.out]; exact HSk.out, HVk.out⟩
          case measure => simp [intOf]; omega
        · have HP := Lib.hid (putR_non (S := S) hlt hneg)
          have hx6 : 0 ≤ u.r[k] ∧ u.r[k] < 6 := ⟨by omega, HM.out _ (List.getElem_mem hlt)⟩
          go_wp2_with (at_mapUpdate
                       refine wpList_store_set _ rfl _ _ _ rfl b (putR S (u.r.take k)) u.r[k] rfl rfl rfl hx6 HSk.out ?_
                       intro w2 h1 h2 h3
                       have HS2 := Lib.hid h1
                       have HV2 := Lib.hid h2
                       clear h1 h2 h3)
          go_roundw
          case rel => exact ⟨k + 1, by omega, by go_num, by show SetM _ _ _; rw [HP.out]; exact HS2.out, HVk.out.trans HV2.out⟩
          case measure => simp [intOf]; omega
      · obtain rfl : k = u.r.length := by omega
        have HT : Hid (SetM wr b (putR S u.r)) := by have h := HSk.out; rw [List.take_length] at h; exact h
        go_wp2
        go_ret
        exact ⟨ret_bool HE.out.symm, HT.out, (Save.of_below HB0.out).trans HVk.out⟩

theorem SetM.oneNew (w : World) {s : Int} (hs : 0 ≤ s ∧ s < 6) : ∃ w', (Instr.mapUpdate 74 (.map (some w.heap.size)) (.int .i64 s) (.bool true)).run Tryd.prog (w.alloc (.map #[] 0)) = .ok () w' ∧ SetM w' w.heap.size (oneS s) ∧ Below w.heap.size w w' := by
  obtain ⟨w', h1, h2, h3, _⟩ := (SetM.made w).store hs
  refine ⟨w', h1, ?_, ?_⟩
  · have e : addS (fun _ => false) s = oneS s := by funext x; simp [addS, oneS]
    rw [← e]
    exact h2
  · exact ((Below.refl w.heap.size w).alloc (Nat.le_refl _) _).trans (h3.below (by simp) fun i hi e => by omega)

set_option maxRecDepth 20000 in
set_option maxHeartbeats 1000000 in
theorem reachedFrom_any (n t : Int) (A : Option Addr) (c : Nat) (rs : List Ru) (s : Int) (hs : 0 ≤ s ∧ s < 6) (w : World) (hx : Rls w w.heap.size A rs) (hg : goodG n t (rs.map Ru.abs) = true) :
    Calls Tryd.prog 100 #[.slice A rs.length c, .int .i64 s] w (GaveSet w (IsLeast wayReach (oneS s) (rs.map Ru.abs))) := by
  have hmm := @run_makeMap Tryd.prog
  obtain ⟨w1, hrun, hS, hB⟩ := SetM.oneNew w hs
  have HB1 := Lib.hid hB
  have HC := Lib.hid (closeSet_any wayReach A c rs w.heap.size 126 #[] (oneS s) (fun _ => True) w1 ((hx.keep hB).more hB.size) (good_16 hg) hS trivial (fun _ _ _ _ => trivial) (reachRight_any n t _ hg _) enter_reach)
  clear hx hg hS hB
  go_enter Tryd.func100, Tryd.ntmps100
  go_wp2_with fail
  refine HC.out.mono ?_
  rintro e w2 ⟨rfl, S, h1, h2, h3⟩
  have H1 := Lib.hid h1; have H2 := Lib.hid h2
  have H3 : Hid (Below w.heap.size w w2) := HB1.out.trans (h3.below HB1.out.size fun i hi e => by omega)
  clear h1 h2 h3
  go_wp2
  go_ret
  exact ⟨w.heap.size, S, rfl, Nat.le_refl _, H1.out, H2.out, H3.out⟩

set_option maxRecDepth 20000 in
set_option maxHeartbeats 1000000 in
theorem reachedBy_any (n t : Int) (A : Option Addr) (c : Nat) (rs : List Ru) (w : World) (hx : Rls w w.heap.size A rs) (hg : goodG n t (rs.map Ru.abs) = true) :
    Calls Tryd.prog 95 #[.slice A rs.length c] w (GaveSet w (IsLeast wayReach (oneS 0) (rs.map Ru.abs))) := by
  have HC := Lib.hid (reachedFrom_any n t A c rs 0 (by omega) w hx hg)
  clear hx hg
  go_enter Tryd.func95, Tryd.ntmps95
  go_wp2_with fail
  refine HC.out.mono ?_
  rintro e w1 ⟨b, S, rfl, h1, h2, h3, h4⟩
  have H1 := Lib.hid h1; have H2 := Lib.hid h2; have H3 := Lib.hid h3; have H4 := Lib.hid h4
  clear h1 h2 h3 h4
  go_wp2
  go_ret
  exact ⟨b, S, rfl, H1.out, H2.out, H3.out, H4.out⟩

end Go.Proofs.YtkghblgiojidgaaDoor
