/- The law of IsWave holds of every two ints and every list of steps: the call returns true, and what was handed in reads afterwards as it read before. Conditions: the package's table of limits is as the program's text lays it (tied by the given tie). -/
import Derived.Test.YtfbpcdmpkbjifaaDoorWBRowIsWave06
import Derived.Test.YtfbpcdmpkbjifaaDoorWBRowIsWave05
import Derived.Deep.RegionHeld3
import Derived.Test.YtfbpcdmpkbjifaaDoorWB04
import Derived.Test.YtfbpcdmpkbjifaaDoorWB01
import Derived.Test.YtfbpcdmpkbjifaaDoorWB03
import Derived.Test.YtfbpcdmpkbjifaaDoorCards

namespace Go.Proofs.YtfbpcdmpkbjifaaDoor
open Go.RowKit

/-- The next length begins. -/
def nextH (x : Hd) : Hd := ⟨x.long + 1, 0, false⟩
def goK (hd : List Hd) (k : Nat) : List Hd := hd.mapIdx fun i x => if i < k then nextH x else x
theorem goK_len (hd : List Hd) (k : Nat) : (goK hd k).length = hd.length := by simp [goK]
theorem goK_zero (hd : List Hd) : goK hd 0 = hd := by
  apply List.ext_getElem?
  intro i
  simp [goK]
theorem goK_all (hd : List Hd) : goK hd hd.length = hd.map nextH := by
  apply List.ext_getElem?
  intro i
  simp only [goK, List.getElem?_mapIdx, List.getElem?_map]
  by_cases h : i < hd.length
  · simp [h]
  · simp [List.getElem?_eq_none (show hd.length ≤ i by omega)]
theorem goK_at {hd : List Hd} {k : Nat} (hk : k < hd.length) : (goK hd k)[k]'(by rw [goK_len]; exact hk) = hd[k] := by simp [goK]
theorem goK_step {hd : List Hd} {k : Nat} (hk : k < hd.length) : (goK hd k).set k (nextH hd[k]) = goK hd (k + 1) := by
  apply List.ext_getElem?
  intro i
  rw [List.getElem?_set]
  simp only [goK, List.getElem?_mapIdx, List.length_mapIdx]
  by_cases e : k = i
  · subst e
    simp [hk]
  · rw [if_neg e]
    have : (i < k) ↔ (i < k + 1) := by omega
    simp only [this]
theorem goH_yes {hd : List Hd} (h : ∀ (j : Nat) (x : Hd), hd[j]? = some x → x.waits = true) : goH hd = goK hd hd.length := by
  rw [goK_all, goH, if_pos]
  · rfl
  · rw [List.all_eq_true]
    intro x hx
    obtain ⟨j, hj⟩ := List.mem_iff_getElem?.1 hx
    exact h j x hj
theorem goH_no {hd : List Hd} {k : Nat} (hk : k < hd.length) (h : hd[k].waits = false) : goH hd = hd := by
  rw [goH, if_neg]
  rw [List.all_eq_true]
  intro ha
  have := ha _ (List.getElem_mem hk)
  rw [h] at this
  cases this

/-- All hands are at the length L. -/
def AtL (L : Int) (hd : List Hd) : Prop := ∀ x ∈ hd, x.long = L ∧ x.done ≤ 11

set_option maxRecDepth 20000 in
set_option maxHeartbeats 1000000 in
theorem l8Go_any (g c : Nat) (hd : List Hd) (L : Int) (w : World) (hr : HandsR w g hd) (hl : hd.length ≤ 4) (hL : AtL L hd) (h1 : 1 ≤ L) (h11 : L ≤ 11) :
    Calls Tryd.prog 83 #[.slice (some ⟨g, 0, none⟩) hd.length c] w fun e w' => e = .returned (.tuple #[]) ∧ HandsR w' g (goH hd) ∧ Save (· = g) w w' := by
  have HGL := Lib.hid (Row.lt hr)
  have HR := Lib.hid hr; clear hr
  have HA := Lib.hid hL; clear hL
  go_enter Tryd.func83, Tryd.ntmps83
  go_wp2
  go_loopw [8] (fun i wr => ∃ (k : Nat), k ≤ hd.length ∧ i = .int .i64 k ∧ Hid (Below w.heap.size w wr) ∧ Hid (∀ (j : Nat) (x : Hd), j < k → hd[j]? = some x → x.waits = true)) (fun i _ => hd.length - (intOf i).toNat)
  case atStart => exact ⟨0, by omega, rfl, Below.refl _ _, fun j x h => absurd h (by omega)⟩
  case round =>
    obtain ⟨k, hk, rfl, HB, HW⟩ := hrel
    by_cases hlt : k < hd.length
    · obtain ⟨c0, c1, c2, -⟩ := (HR.out.below HB.out HGL.out).at_ hlt
      have hws := HB.out.size
      have HN : Hid (hd[k].waits = false → goH hd = hd) := fun h => goH_no hlt h
      have HY : Hid (hd[k].waits = true → ∀ (j : Nat) (x : Hd), j < k + 1 → hd[j]? = some x → x.waits = true) := fun h j x hj hx => by
        by_cases e : j = k
        · subst e; rw [List.getElem?_eq_getElem hlt] at hx; injection hx with hx; subst hx; exact h
        · exact HW.out j x (by omega) hx
      generalize hd[k] = x at c0 c1 c2 HN HY
      have HB1 : Hid (Below w.heap.size w (wr.alloc (.cells #[.int .i64 x.long, .int .i64 (x.done : Int), .bool x.waits] 138))) := HB.out.alloc hws _
      cases h2 : x.waits
      · have HE := Lib.hid (HN.out h2)
        rw [h2] at c2 HB1
        go_wp2
        (try simp only [Exit.inBlock, Exit.then])
        refine bodyPost_ret (results_none rfl _ _ _) rfl ?_
        exact ⟨rfl, by rw [HE.out]; exact HR.out.below HB1.out HGL.out, Save.of_below HB1.out⟩
      · have HE := Lib.hid (HY.out h2)
        rw [h2] at c2 HB1
        go_wp2
        go_roundw
        case rel => exact ⟨k + 1, by omega, by go_num, HB1.out, HE.out⟩
        case measure => simp [intOf]; omega
    · have HE : Hid (goH hd = goK hd hd.length) := goH_yes fun j x hx => HW.out j x (by have := (List.getElem?_eq_some_iff.1 hx).1; omega) hx
      obtain ⟨wA, hwA⟩ : ∃ x, x = wr := ⟨_, rfl⟩
      subst hwA
      have hws := HB.out.size
      go_wp2
      go_loopw [18] (fun i wr => ∃ (k : Nat), k ≤ hd.length ∧ i = .int .i64 k ∧ Hid (w.heap.size ≤ wr.heap.size) ∧ Hid (Save (· = g) w wr) ∧ Hid (HandsR wr g (goK hd k))) (fun i _ => hd.length - (intOf i).toNat)
      case atStart => exact ⟨0, by omega, rfl, hws, Save.of_below HB.out, by rw [goK_zero]; exact HR.out.below HB.out HGL.out⟩
      case round =>
        clear HW HB hws
        obtain ⟨k, hk, rfl, HS, HV, HK⟩ := hrel
        by_cases hlt : k < hd.length
        · have hlt2 : k < (goK hd k).length := by rw [goK_len]; exact hlt
          obtain ⟨c0, c1, c2, f0, f1, f2⟩ := HK.out.at_ hlt2
          have HST := Lib.hid (fun (w' : World) (h : HandsR w' g (goK hd k)) => h.set3 hlt2 (nextH hd[k]))
          rw [goK_step hlt] at HST
          have HXA := Lib.hid (HA.out _ (List.getElem_mem hlt))
          rw [goK_at hlt] at c0 c1 c2
          have hgw : g < wr.heap.size := by have := HGL.out; have := HS.out; omega
          have hxl := HXA.out.1
          unfold nextH at HST
          generalize hd[k] = x at c0 c1 c2 HST hxl
          clear hlt2
          rw [hxl] at c0 HST
          have HV1 : Hid (Save (· = g) w (wr.alloc (.cells #[.int .i64 L, .int .i64 (x.done : Int), .bool x.waits] 138))) := HV.out.alloc _
          have HK1 : Hid (HandsR (wr.alloc (.cells #[.int .i64 L, .int .i64 (x.done : Int), .bool x.waits] 138)) g (goK hd k)) := HK.out.keep ((Below.refl _ _).alloc (Nat.le_refl _) _)
          clear hxl
          go_wp2
          go_roundw
          case rel => exact ⟨k + 1, by omega, by go_num, by show _ ≤ _; have := HS.out; simp; omega, (((HV.out.setCell rfl _).setCell rfl _).setCell rfl _).alloc _, (HST.out _ HK.out).keep ((Below.refl _ _).alloc (Nat.le_refl _) _)⟩
          case measure => simp [intOf]; omega
        · obtain rfl : k = hd.length := by omega
          go_wp2
          go_end0
          exact ⟨rfl, by rw [HE.out]; exact HK.out, HV.out⟩

theorem partF_mem {n hs l : Int} (h0 : 0 ≤ hs) : ∀ {m : Nat} {f x : Int}, x ∈ partF n hs l m f → f ≤ x ∧ x + l ≤ n
  | 0, f, x, h => by simp [partF] at h
  | m + 1, f, x, h => by
    rw [partF] at h
    split at h
    · rename_i hc
      rcases List.mem_cons.1 h with rfl | h
      · exact ⟨by omega, hc⟩
      · have := partF_mem h0 h
        omega
    · simp at h
theorem stepOf_cell {n hs h : Int} {x : Hd} (hd : x.done < (partL n hs h x.long).length) : stepOf n hs h x = ⟨h, 1, (partL n hs h x.long)[x.done], (partL n hs h x.long)[x.done] + x.long⟩ := by
  unfold stepOf levL
  rw [List.getD_eq_getElem?_getD, List.getElem?_append_left (by simpa using hd)]
  simp [hd]
theorem stepOf_wait {n hs h : Int} {x : Hd} (hd : x.done = (partL n hs h x.long).length) : stepOf n hs h x = ⟨h, 2, 0, x.long⟩ := by
  unfold stepOf levL
  rw [List.getD_eq_getElem?_getD, List.getElem?_append_right (by simp [hd])]
  simp [hd]

theorem Save.cellW {S : Nat → Prop} {w w' : World} (h : Save S w w') {p : Addr} (hp : p.block < w.heap.size) (hS : ¬ S p.block) : w'.cell? p = w.cell? p := by
  simp only [World.cell?, h.block _ hp hS]
theorem Save.aside {S : Nat → Prop} {w W : World} (h : Save S w W) (i : Nat) (u : Value) : Save S w (W.setCell ⟨w.heap.size, i, none⟩ u) :=
  ⟨h.os, h.tape, h.output, by simpa [World.setCell] using h.size, fun b hb hs => (Below.heap_setCell _ _ _ _ (by show b ≠ w.heap.size; omega)).trans (h.block b hb hs)⟩
/-- Four cells of a box are written. -/
def put4 (W : World) (b : Nat) (v0 v1 v2 v3 : Value) : World := (((W.setCell ⟨b, 0, none⟩ v0).setCell ⟨b, 1, none⟩ v1).setCell ⟨b, 2, none⟩ v2).setCell ⟨b, 3, none⟩ v3
theorem put4_row {W : World} {b : Nat} {t : TypeId} {u0 u1 u2 u3 : Value} (v0 v1 v2 v3 : Value) (h : Row W b t #[u0, u1, u2, u3]) : Row (put4 W b v0 v1 v2 v3) b t #[v0, v1, v2, v3] := by
  have := (((h.set 0 v0).set 1 v1).set 2 v2).set 3 v3
  simpa [put4] using this
theorem put4_far {W : World} {b g : Nat} {t : TypeId} {cs : Array Value} (v0 v1 v2 v3 : Value) (h : Row W g t cs) (hg : g ≠ b) : Row (put4 W b v0 v1 v2 v3) g t cs := (((h.far hg v0).far hg v1).far hg v2).far hg v3
theorem put4_save {S : Nat → Prop} {w W : World} (v0 v1 v2 v3 : Value) (h : Save S w W) : Save S w (put4 W w.heap.size v0 v1 v2 v3) := (((h.aside 0 v0).aside 1 v1).aside 2 v2).aside 3 v3

set_option maxRecDepth 20000 in
set_option maxHeartbeats 2000000 in
theorem l8Step_any (n : Int) (g c k : Nat) (hd : List Hd) (L : Int) (w : World) (hr : HandsR w g hd) (hl : hd.length ≤ 4) (hL : AtL L hd) (h1 : 1 ≤ L) (h11 : L ≤ n) (hn0 : 0 ≤ n) (hn : n ≤ 10) (hk : k < hd.length) (hdn : hd[k].done ≤ (partL n hd.length k L).length) :
    Calls Tryd.prog 82 #[.int .i64 n, .slice (some ⟨g, 0, none⟩) hd.length c, .int .i64 (k : Int)] w fun e w' =>
      e = .returned (.agg #[.int .i64 (stepOf n hd.length k hd[k]).h, .int .i64 (stepOf n hd.length k hd[k]).k, .int .i64 (stepOf n hd.length k hd[k]).f, .int .i64 (stepOf n hd.length k hd[k]).t]) ∧ HandsR w' g (hd.set k (stepH n hd.length k hd[k])) ∧ Save (· = g) w w' := by
  have HGL := Lib.hid (Row.lt hr)
  obtain ⟨c0, c1, c2, -⟩ := hr.at_ hk
  have HXA := hL _ (List.getElem_mem hk)
  have HR := Lib.hid hr; clear hr hL
  have hxl := HXA.1
  have hxd := HXA.2
  clear HXA
  have HST1 := Lib.hid (fun (w' : World) (d : Nat) (h : HandsR w' g hd) => h.set1 hk d)
  have HST2 := Lib.hid (fun (w' : World) (b : Bool) (h : HandsR w' g hd) => h.set2 hk b)
  have HFR := Lib.hid (fun (w' : World) (h : HandsR w' g hd) => (HandsR.at_ h hk).2.2.2)
  have HAT : Hid (∀ (w' : World), HandsR w' g hd → w'.cell? ⟨g, k * 3 + 1, none⟩ = some (.int .i64 (hd[k].done : Int)) ∧ w'.cell? ⟨g, k * 3 + 2, none⟩ = some (.bool hd[k].waits)) := fun w' h => ⟨(HandsR.at_ h hk).2.1, (HandsR.at_ h hk).2.2.1⟩
  generalize hx : hd[k] = x at *
  clear hx
  have hlen1 : 1 ≤ hd.length := by omega
  have HP := Lib.hid (fun v => l8Part_any n hd.length k L v hn0 hn (by omega) (by omega) (by omega) (by omega) h1 (by omega))
  have HPM : Hid (∀ y ∈ partL n hd.length k L, 0 ≤ y ∧ y + L ≤ n) := fun y hy => by have := partF_mem (by omega) hy; omega
  have hpl := partL_len n hd.length k L
  have HSC : Hid (∀ h : x.done < (partL n hd.length k L).length, stepOf n hd.length k x = ⟨k, 1, (partL n hd.length k L)[x.done], (partL n hd.length k L)[x.done] + L⟩) := fun h => by
    subst hxl; exact stepOf_cell h
  have HSW : Hid (x.done = (partL n hd.length k L).length → stepOf n hd.length k x = ⟨k, 2, 0, L⟩) := fun h => by subst hxl; exact stepOf_wait h
  have HH1 : Hid (x.done < (partL n hd.length k L).length → stepH n hd.length k x = ⟨x.long, x.done + 1, x.waits⟩) := fun h => by subst hxl; unfold stepH; rw [if_pos h]
  have HH2 : Hid (¬ x.done < (partL n hd.length k L).length → stepH n hd.length k x = ⟨x.long, x.done, true⟩) := fun h => by subst hxl; unfold stepH; rw [if_neg h]
  generalize partL n hd.length k L = ps at *
  rw [hxl] at c0
  have HA0 : Hid (Below w.heap.size w (w.alloc (.cells #[.int .i64 0, .int .i64 0, .int .i64 0, .int .i64 0] 88))) := (Below.refl _ _).alloc (Nat.le_refl _) _
  replace c0 := (HA0.out.cell (p := ⟨g, k * 3, none⟩) HGL.out).trans c0
  replace c1 := (HA0.out.cell (p := ⟨g, k * 3 + 1, none⟩) HGL.out).trans c1
  replace c2 := (HA0.out.cell (p := ⟨g, k * 3 + 2, none⟩) HGL.out).trans c2
  have HB0 : Hid (Below w.heap.size w ((w.alloc (.cells #[.int .i64 0, .int .i64 0, .int .i64 0, .int .i64 0] 88)).alloc (.cells #[.int .i64 L, .int .i64 (x.done : Int), .bool x.waits] 138))) := ((Below.refl _ _).alloc (Nat.le_refl _) _).alloc (by simp) _
  have HR1 : Hid (Row ((w.alloc (.cells #[.int .i64 0, .int .i64 0, .int .i64 0, .int .i64 0] 88)).alloc (.cells #[.int .i64 L, .int .i64 (x.done : Int), .bool x.waits] 138)) w.heap.size 88 #[.int .i64 0, .int .i64 0, .int .i64 0, .int .i64 0]) := (Row.new _ _ _).alloc _
  have HR2 : Hid (Row ((w.alloc (.cells #[.int .i64 0, .int .i64 0, .int .i64 0, .int .i64 0] 88)).alloc (.cells #[.int .i64 L, .int .i64 (x.done : Int), .bool x.waits] 138)) (w.heap.size + 1) 138 #[.int .i64 L, .int .i64 (x.done : Int), .bool x.waits]) := by
    have h := Row.new (w.alloc (.cells #[.int .i64 0, .int .i64 0, .int .i64 0, .int .i64 0] 88)) 138 #[.int .i64 L, .int .i64 (x.done : Int), .bool x.waits]
    rwa [World.size_alloc] at h
  have q0 := HR2.out.cell 0
  simp only [List.getElem?_toArray, List.getElem?_cons_zero] at q0
  by_cases hlt : x.done < ps.length
  · have hpm := HPM.out _ (List.getElem_mem hlt)
    have HE1 := Lib.hid (HSC.out hlt)
    have HE2 := Lib.hid (HH1.out hlt)
    clear HSW HH2 HH1 HSC
    have hdi : decide ((x.done : Int) < (ps.length : Int)) = true := decide_eq_true (by omega)
    go_enter Tryd.func82, Tryd.ntmps82
    go_wp2_with (go_at_call 65
                 refine (HP.out _).mono ?_
                 rintro e w1 ⟨A, cA, rfl, hcA, hO, hB⟩
                 have HB1 := Lib.hid (HB0.out.trans (hB.mono HB0.out.size))
                 have HR11 := Lib.hid (HR1.out.below hB HR1.out.lt)
                 have HR21 := Lib.hid (HR2.out.below hB HR2.out.lt)
                 have HI := Lib.hid hO.ints
                 have p0 := HR21.out.cell 0
                 have p1 := HR21.out.cell 1
                 simp only [List.getElem?_toArray, List.getElem?_cons_succ, List.getElem?_cons_zero] at p0 p1
                 have HG1 := Lib.hid (HR.out.below HB1.out HGL.out)
                 have hgw : g < w.heap.size := HGL.out
                 obtain ⟨hd1, hd2⟩ := HAT.out _ HG1.out
                 obtain ⟨f0, f1, f2⟩ := HFR.out _ HG1.out
                 have r0 := HR11.out.frozen 0
                 have r1 := HR11.out.frozen 1
                 have r2 := HR11.out.frozen 2
                 have r3 := HR11.out.frozen 3
                 have z0 := HR11.out.cell 0
                 have z1 := HR11.out.cell 1
                 have z2 := HR11.out.cell 2
                 have z3 := HR11.out.cell 3
                 simp only [List.getElem?_toArray, List.getElem?_cons_succ, List.getElem?_cons_zero] at z0 z1 z2 z3
                 obtain ⟨pb, rfl, hpw, hpb, y0, -⟩ := OwnI.at_ hO hlt
                 have hpg : pb ≠ g := by simp at hpw; omega
                 clear hB hO q0 c0 c1 c2)
    have hsw : w.heap.size < w1.heap.size := HR11.out.lt
    have hsw : w.heap.size < w1.heap.size := HR11.out.lt
    have HGZ : Hid (HandsR (w1.setCell ⟨g, k * 3 + 1, none⟩ (.int .i64 ((x.done : Int) + 1))) g (hd.set k ⟨x.long, x.done + 1, x.waits⟩)) := by
      have := HST1.out w1 (x.done + 1) HG1.out
      exact this
    have HRZ : Hid (Row (w1.setCell ⟨g, k * 3 + 1, none⟩ (.int .i64 ((x.done : Int) + 1))) w.heap.size 88 #[.int .i64 0, .int .i64 0, .int .i64 0, .int .i64 0]) := Row.far HR11.out (by show w.heap.size ≠ g; omega) _
    have HRY : Hid (Row (w1.setCell ⟨g, k * 3 + 1, none⟩ (.int .i64 ((x.done : Int) + 1))) (w.heap.size + 1) 138 #[.int .i64 L, .int .i64 (x.done : Int), .bool x.waits]) := Row.far HR21.out (by show w.heap.size + 1 ≠ g; omega) _
    have HSZ : Hid (Save (· = g) w (w1.setCell ⟨g, k * 3 + 1, none⟩ (.int .i64 ((x.done : Int) + 1)))) := (Save.setCell (S := fun b => b = g) (p := ⟨g, k * 3 + 1, none⟩) (Save.of_below HB1.out) rfl _)
    have y0' := (Save.cellW (p := ⟨pb, x.done, none⟩) (Save.setCell (S := fun b => b = g) (p := ⟨g, k * 3 + 1, none⟩) (Save.refl _ w1) rfl (.int .i64 ((x.done : Int) + 1))) hpb hpg).trans y0
    clear y0 p0 p1 z0 z1 z2 z3 r0 r1 r2 r3 hd1 hd2 f0 f1 f2
    generalize w1.setCell ⟨g, k * 3 + 1, none⟩ (.int .i64 ((x.done : Int) + 1)) = W2 at HGZ HRZ HRY HSZ y0' ⊢
    have p0 := HRY.out.cell 0
    have p1 := HRY.out.cell 1
    have r0 := HRZ.out.frozen 0
    have r1 := HRZ.out.frozen 1
    have r2 := HRZ.out.frozen 2
    have r3 := HRZ.out.frozen 3
    have z0 := HRZ.out.cell 0
    have z1 := HRZ.out.cell 1
    have z2 := HRZ.out.cell 2
    have z3 := HRZ.out.cell 3
    simp only [List.getElem?_toArray, List.getElem?_cons_succ, List.getElem?_cons_zero] at z0 z1 z2 z3 p0 p1
    go_still_tail 15, (by kernel_rfl)
    change wpList _ _ _ _ _ W2.drew
    replace HGZ : Hid (HandsR W2.drew g (hd.set k ⟨x.long, x.done + 1, x.waits⟩)) := HGZ
    replace HRZ : Hid (Row W2.drew w.heap.size 88 #[.int .i64 0, .int .i64 0, .int .i64 0, .int .i64 0]) := HRZ
    replace HSZ : Hid (Save (· = g) w W2.drew) := HSZ.out.drew
    go_wp2
    have HRF := Lib.hid (put4_row (.int .i64 (k : Int)) (.int .i64 1) (.int .i64 ps[x.done]) (.int .i64 (ps[x.done] + L)) HRZ.out)
    have HGF := Lib.hid (put4_far (.int .i64 (k : Int)) (.int .i64 1) (.int .i64 ps[x.done]) (.int .i64 (ps[x.done] + L)) HGZ.out (by omega : g ≠ w.heap.size))
    have HSF := Lib.hid (put4_save (.int .i64 (k : Int)) (.int .i64 1) (.int .i64 ps[x.done]) (.int .i64 (ps[x.done] + L)) HSZ.out)
    change bodyPost _ _ _ _ _ (put4 W2.drew w.heap.size (.int .i64 (k : Int)) (.int .i64 1) (.int .i64 ps[x.done]) (.int .i64 (ps[x.done] + L)))
    generalize put4 W2.drew w.heap.size (.int .i64 (k : Int)) (.int .i64 1) (.int .i64 ps[x.done]) (.int .i64 (ps[x.done] + L)) = V at HRF HGF HSF ⊢
    have e0 := HRF.out.cell 0
    have e1 := HRF.out.cell 1
    have e2 := HRF.out.cell 2
    have e3 := HRF.out.cell 3
    simp only [List.getElem?_toArray, List.getElem?_cons_succ, List.getElem?_cons_zero] at e0 e1 e2 e3
    refine bodyPost_ret (v := .agg #[.int .i64 (k : Int), .int .i64 1, (.int .i64 ps[x.done]), (.int .i64 (ps[x.done] + L))]) (by simp [results, Tryd.results82, go_sem, e0, e1, e2, e3]) rfl ⟨by rw [HE1.out], by rw [HE2.out]; exact HGF.out, HSF.out⟩
  · have HE1 := Lib.hid (HSW.out (by omega))
    have HE2 := Lib.hid (HH2.out hlt)
    clear HSC HH1 HH2 HSW
    have hdi : decide ((x.done : Int) < (ps.length : Int)) = false := decide_eq_false (by omega)
    go_enter Tryd.func82, Tryd.ntmps82
    go_wp2_with (go_at_call 65
                 refine (HP.out _).mono ?_
                 rintro e w1 ⟨A, cA, rfl, hcA, hO, hB⟩
                 have HB1 := Lib.hid (HB0.out.trans (hB.mono HB0.out.size))
                 have HR11 := Lib.hid (HR1.out.below hB HR1.out.lt)
                 have HR21 := Lib.hid (HR2.out.below hB HR2.out.lt)
                 have HI := Lib.hid hO.ints
                 have p0 := HR21.out.cell 0
                 have p1 := HR21.out.cell 1
                 simp only [List.getElem?_toArray, List.getElem?_cons_succ, List.getElem?_cons_zero] at p0 p1
                 have HG1 := Lib.hid (HR.out.below HB1.out HGL.out)
                 have hgw : g < w.heap.size := HGL.out
                 obtain ⟨hd1, hd2⟩ := HAT.out _ HG1.out
                 obtain ⟨f0, f1, f2⟩ := HFR.out _ HG1.out
                 have r0 := HR11.out.frozen 0
                 have r1 := HR11.out.frozen 1
                 have r2 := HR11.out.frozen 2
                 have r3 := HR11.out.frozen 3
                 have z0 := HR11.out.cell 0
                 have z1 := HR11.out.cell 1
                 have z2 := HR11.out.cell 2
                 have z3 := HR11.out.cell 3
                 simp only [List.getElem?_toArray, List.getElem?_cons_succ, List.getElem?_cons_zero] at z0 z1 z2 z3
                 clear hB hO q0 c0 c1 c2)
    have HGZ : Hid (HandsR (w1.setCell ⟨g, k * 3 + 2, none⟩ (.bool true)) g (hd.set k ⟨x.long, x.done, true⟩)) := HST2.out w1 true HG1.out
    have HRZ : Hid (Row (w1.setCell ⟨g, k * 3 + 2, none⟩ (.bool true)) w.heap.size 88 #[.int .i64 0, .int .i64 0, .int .i64 0, .int .i64 0]) := Row.far HR11.out (by show w.heap.size ≠ g; omega) _
    have HSZ : Hid (Save (· = g) w (w1.setCell ⟨g, k * 3 + 2, none⟩ (.bool true))) := Save.setCell (S := fun b => b = g) (p := ⟨g, k * 3 + 2, none⟩) (Save.of_below HB1.out) rfl _
    have HRF := Lib.hid (put4_row (.int .i64 (k : Int)) (.int .i64 2) (.int .i64 0) (.int .i64 L) HRZ.out)
    have HGF := Lib.hid (put4_far (.int .i64 (k : Int)) (.int .i64 2) (.int .i64 0) (.int .i64 L) HGZ.out (by omega : g ≠ w.heap.size))
    have HSF := Lib.hid (put4_save (.int .i64 (k : Int)) (.int .i64 2) (.int .i64 0) (.int .i64 L) HSZ.out)
    change bodyPost _ _ _ _ _ (put4 (w1.setCell ⟨g, k * 3 + 2, none⟩ (.bool true)) w.heap.size (.int .i64 (k : Int)) (.int .i64 2) (.int .i64 0) (.int .i64 L))
    generalize put4 (w1.setCell ⟨g, k * 3 + 2, none⟩ (.bool true)) w.heap.size (.int .i64 (k : Int)) (.int .i64 2) (.int .i64 0) (.int .i64 L) = V at HRF HGF HSF ⊢
    have e0 := HRF.out.cell 0
    have e1 := HRF.out.cell 1
    have e2 := HRF.out.cell 2
    have e3 := HRF.out.cell 3
    simp only [List.getElem?_toArray, List.getElem?_cons_succ, List.getElem?_cons_zero] at e0 e1 e2 e3
    refine bodyPost_ret (v := .agg #[.int .i64 (k : Int), .int .i64 2, (.int .i64 0), (.int .i64 L)]) (by simp [results, Tryd.results82, go_sem, e0, e1, e2, e3]) rfl ⟨by rw [HE1.out], by rw [HE2.out]; exact HGF.out, HSF.out⟩

end Go.Proofs.YtfbpcdmpkbjifaaDoor

/- The reference's IsWave. -/

namespace Go.Proofs.YtfbpcdmpkbjifaaDoor
open Go.RowKit

/-- The hands are at the length L. -/
def OkH (n hs L : Int) (hd : List Hd) : Prop := (hd.length : Int) = hs ∧ ∀ (k : Nat) (x : Hd), hd[k]? = some x → x.long = L ∧ x.done ≤ (partL n hs k L).length
theorem OkH.atL {n hs L : Int} {hd : List Hd} (h : OkH n hs L hd) : AtL L hd := fun x hx => by
  obtain ⟨k, hk⟩ := List.mem_iff_getElem?.1 hx
  have h1 := h.2 k x hk
  have := partL_len n hs k L
  exact ⟨h1.1, by omega⟩
theorem OkH.start {n hs : Int} (h : 1 ≤ hs) : OkH n hs 1 (startH hs) := by
  refine ⟨by simp [startH]; omega, fun k x hx => ?_⟩
  unfold startH at hx
  obtain ⟨hk, hx⟩ := List.getElem?_eq_some_iff.1 hx
  rw [List.getElem_replicate] at hx
  subst hx
  exact ⟨rfl, Nat.zero_le _⟩
theorem OkH.step {n hs L : Int} {hd : List Hd} (h : OkH n hs L hd) {k : Nat} (hk : k < hd.length) : OkH n hs L (hd.set k (stepH n hs k hd[k])) := by
  refine ⟨by rw [List.length_set]; exact h.1, fun j x hx => ?_⟩
  by_cases e : k = j
  · subst e
    rw [List.getElem?_set_self hk] at hx
    injection hx with hx
    subst hx
    obtain ⟨h1, h2⟩ := h.2 k _ (List.getElem?_eq_getElem hk)
    unfold stepH
    split
    · rename_i hlt
      rw [h1] at hlt
      exact ⟨h1, hlt⟩
    · exact ⟨h1, h2⟩
  · rw [List.getElem?_set_ne e] at hx
    exact h.2 j x hx
theorem OkH.go {n hs L : Int} {hd : List Hd} (h : OkH n hs L hd) : ∃ L', (L' = L ∨ L' = L + 1) ∧ OkH n hs L' (goH hd) := by
  unfold goH
  split
  · refine ⟨L + 1, .inr rfl, by rw [List.length_map]; exact h.1, fun k x hx => ?_⟩
    rw [List.getElem?_map] at hx
    cases hz : hd[k]? with
    | none => rw [hz] at hx; cases hx
    | some z =>
      rw [hz] at hx
      injection hx with hx
      subst hx
      exact ⟨by rw [← (h.2 k z hz).1], Nat.zero_le _⟩
  · exact ⟨L, .inl rfl, h⟩

/-- The arguments of IsWave are as said; its answer. -/
def isOk (n hs : Int) (ds : List Dn) : Bool := stB n hs && decide (ds.length ≤ 200)
def isV (n hs : Int) (ds : List Dn) : Bool := isOk n hs ds && waveV n hs ds

theorem specRun_no {n hs : Int} {hd : List Hd} {ds : List Dn} {k : Nat} (hk : k < ds.length) (h : ¬ ((0 ≤ ds[k].h ∧ ds[k].h < hd.length) ∧ readyB n (hd.getD ds[k].h.toNat default) = true)) : specRun n hs hd (ds.drop k) = false := by
  rw [List.drop_eq_getElem_cons hk, specRun, if_neg h]
theorem specRun_unlike {n hs : Int} {hd : List Hd} {ds : List Dn} {k j : Nat} (hk : k < ds.length) (hj : ds[k].h = (j : Int)) (hl : j < hd.length) (hr : readyB n hd[j] = true) (h : stepOf n hs j hd[j] ≠ ds[k]) : specRun n hs hd (ds.drop k) = false := by
  have e : hd.getD j default = hd[j] := by rw [List.getD_eq_getElem?_getD, List.getElem?_eq_getElem hl]; rfl
  rw [List.drop_eq_getElem_cons hk, specRun, hj, Int.toNat_natCast, e, if_pos ⟨by omega, hr⟩, if_neg h]
theorem specRun_on {n hs : Int} {hd : List Hd} {ds : List Dn} {k j : Nat} (hk : k < ds.length) (hj : ds[k].h = (j : Int)) (hl : j < hd.length) (hr : readyB n hd[j] = true) (h : stepOf n hs j hd[j] = ds[k]) : specRun n hs hd (ds.drop k) = specRun n hs (goH (hd.set j (stepH n hs j hd[j]))) (ds.drop (k + 1)) := by
  have e : hd.getD j default = hd[j] := by rw [List.getD_eq_getElem?_getD, List.getElem?_eq_getElem hl]; rfl
  rw [List.drop_eq_getElem_cons hk, specRun, hj, Int.toNat_natCast, e, if_pos ⟨by omega, hr⟩, if_pos h]

/-- An operation that may come up is taken first; its slot is named. -/
theorem take_at8 {P : Program} {md : Region.Mode} {ops : Array Oper} {Q : Exit → Act → World → Prop} {S : World → Prop} {i : Nat} {oi : Oper} {d : Tmp} {v : Value} {fuel : Nat} {listed : Array Bool} {a : Act} {w : World} (hi : ops[i]? = some oi) (hd : oi.dst = some d)
    (hs : Region.noSelect ops = true) (hf : Region.free md ops listed i = true) (hr : (Region.ready md ops listed).contains i = true)
    (hQ : ∀ c a w, Q (.panic c) (a.put (some d) v) w → Q (.panic c) a w) (hy : YieldsIf P ops S oi v a) (hS : S w)
    (h : wpAnyH P md ops Q S fuel (listed.setIfInBounds i true) (a.put (some d) v) w) : wpAnyH P md ops Q S (fuel + 1) listed a w :=
  wpAnyH_take hi hs hf hr (by rw [hd]; exact hQ) hy hS (by rw [hd]; exact h)

/-- The cells of a box that holds a step. -/
def BoxS (b : Nat) (d : Dn) (w : World) : Prop := w.cell? ⟨b, 0, none⟩ = some (.int .i64 d.h) ∧ w.cell? ⟨b, 1, none⟩ = some (.int .i64 d.k) ∧ w.cell? ⟨b, 2, none⟩ = some (.int .i64 d.f) ∧ w.cell? ⟨b, 3, none⟩ = some (.int .i64 d.t)

set_option maxRecDepth 20000 in
set_option maxHeartbeats 2000000 in
theorem specIsWave_any (n hs : Int) (A : Option Addr) (ds : List Dn) (c : Nat) (w : World) (hx : Dos w w.heap.size A ds) (hm : ds.length ≤ 1048576) :
    Calls Tryd.prog 30 #[.int .i64 n, .int .i64 hs, .slice A ds.length c] w fun e w' => e = .returned (.tuple #[.bool (isV n hs ds), .bool (isOk n hs ds)]) ∧ Below w.heap.size w w' := by
  have HX := Lib.hid hx; clear hx
  cases h1 : stB n hs
  · have HE : Hid (isV n hs ds = false ∧ isOk n hs ds = false) := by show _ ∧ _; simp [isV, isOk, h1]
    go_enter Tryd.func30, Tryd.ntmps30
    go_wp2_with (go_at_call 63; refine (l8Hands_any _ _ _).mono ?_; rintro e w1 ⟨rfl, hw1⟩; replace hw1 := hw1.symm; subst hw1; rw [h1])
    go_ret2
    exact ⟨by rw [HE.out.1, HE.out.2]; rfl, Below.refl _ _⟩
  by_cases h2 : (ds.length : Int) > 200
  · have HE : Hid (isV n hs ds = false ∧ isOk n hs ds = false) := by
      have : ¬ ds.length ≤ 200 := by omega
      show _ ∧ _; simp [isV, isOk, this]
    go_enter Tryd.func30, Tryd.ntmps30
    go_wp2_with (go_at_call 63; refine (l8Hands_any _ _ _).mono ?_; rintro e w1 ⟨rfl, hw1⟩; replace hw1 := hw1.symm; subst hw1; rw [h1])
    go_ret2
    exact ⟨by rw [HE.out.1, HE.out.2]; rfl, Below.refl _ _⟩
  have hl200 : ds.length ≤ 200 := by omega
  clear h2
  obtain ⟨⟨hn0, hn1⟩, hs0, hs1⟩ := of_decide_eq_true h1
  have HE : Hid (isV n hs ds = specRun n hs (startH hs) (ds.drop 0) ∧ isOk n hs ds = true) := by
    refine ⟨?_, by simp [isOk, h1, hl200]⟩
    rw [List.drop_zero, wave_same hn0 hn1 hs0 hs1]
    simp [isV, isOk, h1, hl200]
  generalize isV n hs ds = V at HE ⊢
  generalize isOk n hs ds = ok at HE ⊢
  go_enter Tryd.func30, Tryd.ntmps30
  go_wp2_with (first
    | (go_at_call 63; refine (l8Hands_any _ _ _).mono ?_; rintro e w1 ⟨rfl, hw1⟩; replace hw1 := hw1.symm; subst hw1; rw [h1])
    | (go_at_call 79; refine (l8Start_any hs _ hs0 hs1).mono ?_; rintro e w2 ⟨cH, rfl, hR, hB⟩; have HR := Lib.hid hR; have HB := Lib.hid hB; clear hR hB))
  have HLS : Hid ((startH hs).length = hs.toNat) := by show _ = _; simp [startH]
  rw [HLS.out]
  go_loopw [24] (fun i wr => ∃ (k : Nat) (hd : List Hd) (L : Int), k ≤ ds.length ∧ i = .int .i64 k ∧ (1 ≤ L ∧ L ≤ n + 1) ∧ Hid (hd.length = hs.toNat) ∧ Hid (Below w.heap.size w wr) ∧ Hid (HandsR wr w.heap.size hd) ∧ Hid (OkH n hs L hd) ∧ Hid (V = specRun n hs hd (ds.drop k))) (fun i _ => ds.length - (intOf i).toNat)
  case atStart => exact ⟨0, startH hs, 1, by omega, rfl, ⟨by omega, by omega⟩, HLS.out, HB.out, HR.out, OkH.start hs0, HE.out.1⟩
  case round =>
    clear HB HR HLS
    obtain ⟨k, hd, L, hk, rfl, ⟨hL1, hLn⟩, HHL, HB, HR, HK, HV⟩ := hrel
    have hws := HB.out.size
    have hgl : w.heap.size < wr.heap.size := Row.lt HR.out
    have HH4 : Hid (hd.length ≤ 4) := by have := HHL.out; show _ ≤ _; omega
    by_cases hlt : k < ds.length
    · obtain ⟨b, o, rfl, hb, c0, c1, c2, c3⟩ := (HX.out.keep HB.out).at_ hlt
      have HNO := Lib.hid (fun h => specRun_no (n := n) (hs := hs) (hd := hd) hlt h)
      have HUN := Lib.hid (fun j hj hl hr h => specRun_unlike (n := n) (hs := hs) (hd := hd) (j := j) hlt hj hl hr h)
      have HON := Lib.hid (fun j hj hl hr h => specRun_on (n := n) (hs := hs) (hd := hd) (j := j) hlt hj hl hr h)
      generalize ds[k] = d at c0 c1 c2 c3 HNO HUN HON
      have HBW : Hid (Below wr.heap.size wr (wr.alloc (.cells #[.int .i64 d.h, .int .i64 d.k, .int .i64 d.f, .int .i64 d.t] 88))) := (Below.refl _ _).alloc (Nat.le_refl _) _
      have HRW : Hid (Row (wr.alloc (.cells #[.int .i64 d.h, .int .i64 d.k, .int .i64 d.f, .int .i64 d.t] 88)) wr.heap.size 88 #[.int .i64 d.h, .int .i64 d.k, .int .i64 d.f, .int .i64 d.t]) := Row.new _ _ _
      have HC1 : Hid (∀ V, Below wr.heap.size wr V → Calls Tryd.prog 81 #[.int .i64 n, .slice (some ⟨w.heap.size, 0, none⟩) hs.toNat cH] V (GaveI V (readyL n hd hd.length))) := fun V hV => by
        have h := l8Ready_any n w.heap.size cH hd V (HR.out.below hV hgl) HH4.out
        rw [show hd.length = hs.toNat from HHL.out] at h ⊢
        exact h
      have HC2 : Hid (∀ A' c' V, Ints V V.heap.size A' (readyL n hd hd.length) → Calls Tryd.prog 80 #[.slice A' (readyL n hd hd.length).length c', .int .i64 d.h] V fun e w' => e = .returned (.bool ((readyL n hd hd.length).contains d.h)) ∧ w' = V) := fun A' c' V h => l1HasW_any A' _ c' d.h V h (by have := readyL_len n hd hd.length; have := HH4.out; omega)
      go_wp2_with fail
      generalize (wr.alloc (.cells #[.int .i64 d.h, .int .i64 d.k, .int .i64 d.f, .int .i64 d.t] 88)) = W at HBW HRW ⊢
      clear c0 c1 c2 c3
      have HSK : Hid (∀ V, Below W.heap.size W V → BoxS wr.heap.size d V) := fun V hV => by
        have h := HRW.out.below hV HRW.out.lt
        have d0 := h.cell 0
        have d1 := h.cell 1
        have d2 := h.cell 2
        have d3 := h.cell 3
        simp only [List.getElem?_toArray, List.getElem?_cons_succ, List.getElem?_cons_zero] at d0 d1 d2 d3
        exact ⟨d0, d1, d2, d3⟩
      have HW0 : Hid (Below W.heap.size W W) := Below.refl _ _
      have HD0 : Hid (Below W.heap.size W W.drew) := by show Below _ _ _; go_grown
      have HWD : Hid (Below wr.heap.size wr W.drew) := HBW.out.trans (HD0.out.mono HBW.out.size)
      obtain ⟨d0, d1, d2, d3⟩ := HSK.out _ HW0.out
      cases hc : (readyL n hd hd.length).contains d.h
      · have HF : Hid (V = false) := by
          show _ = _
          rw [HV.out]
          refine HNO.out fun h => ?_
          have := List.contains_iff_mem.2 (readyL_mem.2 h)
          rw [hc] at this
          cases this
        clear HUN HON HNO HK
        -- BODYA
        refine wp_region_held_drew (S := fun w' => w'.cell? ⟨wr.heap.size, 0, none⟩ = some (.int .i64 d.h) ∧ w'.cell? ⟨wr.heap.size, 1, none⟩ = some (.int .i64 d.k) ∧ w'.cell? ⟨wr.heap.size, 2, none⟩ = some (.int .i64 d.f) ∧ w'.cell? ⟨wr.heap.size, 3, none⟩ = some (.int .i64 d.t)) (by kernel_rfl) (HSK.out _ HD0.out) (fun hHeld => ?_)
        refine take_at8 (i := 0) (d := 28) (v := ?_) rfl rfl (by kernel_rfl) (by kernel_rfl) (by kernel_rfl) (fun _ _ _ h => h) (Or.inl ⟨by rfl, ?_⟩) (by assumption) ?_
        rotate_left
        · (intro wz hSw; (try dsimp only at hSw); go_simp; try rfl)
        try simp only [Act.put, List.setIfInBounds_toArray, List.set_cons_zero, List.set_cons_succ]
        refine take_at8 (i := 1) (d := 29) (v := ?_) rfl rfl (by kernel_rfl) (by kernel_rfl) (by kernel_rfl) (fun _ _ _ h => h) (Or.inl ⟨by rfl, ?_⟩) (by assumption) ?_
        rotate_left
        · (intro wz hSw; (try dsimp only at hSw); go_simp; try rfl)
        try simp only [Act.put, List.setIfInBounds_toArray, List.set_cons_zero, List.set_cons_succ]
        refine take_at8 (i := 3) (d := 31) (v := ?_) rfl rfl (by kernel_rfl) (by kernel_rfl) (by kernel_rfl) (fun _ _ _ h => h) (Or.inl ⟨by rfl, ?_⟩) (by assumption) ?_
        rotate_left
        · (intro wz hSw; (try dsimp only at hSw); go_simp; try rfl)
        try simp only [Act.put, List.setIfInBounds_toArray, List.set_cons_zero, List.set_cons_succ]
        refine take_at8 (i := 4) (d := 32) (v := ?_) rfl rfl (by kernel_rfl) (by kernel_rfl) (by kernel_rfl) (fun _ _ _ h => h) (Or.inl ⟨by rfl, ?_⟩) (by assumption) ?_
        rotate_left
        · (intro wz hSw; (try dsimp only at hSw); go_simp; try rfl)
        try simp only [Act.put, List.setIfInBounds_toArray, List.set_cons_zero, List.set_cons_succ]
        refine wpAnyH_ready (rs := [2]) (by kernel_rfl) (by simp) (AllReadyH.cons rfl (fun K hK => ?_) AllReadyH.nil)
        go_simp
        refine (HC1.out _ HWD.out).mono ?_
        rintro e w4 ⟨A4, c4, rfl, hc4, hO4, hB4⟩
        have HW1 : Hid (Below W.heap.size W w4) := HD0.out.trans (hB4.mono HD0.out.size)
        have HI4 := Lib.hid hO4.ints
        refine hK.out _ _ (HSK.out _ HW1.out) (fun hHeld => ?_)
        clear hK K
        try simp only [Act.put, List.setIfInBounds_toArray, List.set_cons_zero, List.set_cons_succ]
        refine wpAnyH_ready (rs := [5]) (by kernel_rfl) (by simp) (AllReadyH.cons rfl (fun K hK => ?_) AllReadyH.nil)
        go_simp
        refine (HC2.out _ _ _ HI4.out).mono ?_
        rintro e w5 ⟨rfl, hw5⟩
        replace hw5 := hw5.symm
        subst hw5
        rw [hc]
        refine hK.out _ _ (HSK.out _ HW1.out) (fun hHeld => ?_)
        clear hK K
        try simp only [Act.put, List.setIfInBounds_toArray, List.set_cons_zero, List.set_cons_succ]
        refine take_at8 (i := 6) (d := 34) (v := ?_) rfl rfl (by kernel_rfl) (by kernel_rfl) (by kernel_rfl) (fun _ _ _ h => h) (Or.inl ⟨by rfl, ?_⟩) (by assumption) ?_
        rotate_left
        · (intro wz hSw; (try dsimp only at hSw); go_simp; try rfl)
        try simp only [Act.put, List.setIfInBounds_toArray, List.set_cons_zero, List.set_cons_succ]
        refine take_at8 (i := 7) (d := 35) (v := ?_) rfl rfl (by kernel_rfl) (by kernel_rfl) (by kernel_rfl) (fun _ _ _ h => h) (Or.inl ⟨by rfl, ?_⟩) (by assumption) ?_
        rotate_left
        · (intro wz hSw; (try dsimp only at hSw); go_simp; try rfl)
        try simp only [Act.put, List.setIfInBounds_toArray, List.set_cons_zero, List.set_cons_succ]
        refine take_at8 (i := 8) (d := 36) (v := undef) rfl rfl (by kernel_rfl) (by kernel_rfl) (by kernel_rfl) (fun _ _ _ h => h) (Or.inr ⟨by rfl, rfl⟩) (by assumption) ?_
        try simp only [Act.put, List.setIfInBounds_toArray, List.set_cons_zero, List.set_cons_succ]
        refine take_at8 (i := 9) (d := 37) (v := undef) rfl rfl (by kernel_rfl) (by kernel_rfl) (by kernel_rfl) (fun _ _ _ h => h) (Or.inr ⟨by rfl, rfl⟩) (by assumption) ?_
        try simp only [Act.put, List.setIfInBounds_toArray, List.set_cons_zero, List.set_cons_succ]
        refine take_at8 (i := 10) (d := 38) (v := undef) rfl rfl (by kernel_rfl) (by kernel_rfl) (by kernel_rfl) (fun _ _ _ h => h) (Or.inr ⟨by rfl, rfl⟩) (by assumption) ?_
        try simp only [Act.put, List.setIfInBounds_toArray, List.set_cons_zero, List.set_cons_succ]
        refine take_at8 (i := 11) (d := 39) (v := undef) rfl rfl (by kernel_rfl) (by kernel_rfl) (by kernel_rfl) (fun _ _ _ h => h) (Or.inr ⟨by rfl, rfl⟩) (by assumption) ?_
        try simp only [Act.put, List.setIfInBounds_toArray, List.set_cons_zero, List.set_cons_succ]
        refine take_at8 (i := 12) (d := 40) (v := undef) rfl rfl (by kernel_rfl) (by kernel_rfl) (by kernel_rfl) (fun _ _ _ h => h) (Or.inr ⟨by rfl, rfl⟩) (by assumption) ?_
        try simp only [Act.put, List.setIfInBounds_toArray, List.set_cons_zero, List.set_cons_succ]
        refine take_at8 (i := 13) (d := 41) (v := undef) rfl rfl (by kernel_rfl) (by kernel_rfl) (by kernel_rfl) (fun _ _ _ h => h) (Or.inr ⟨by rfl, rfl⟩) (by assumption) ?_
        try simp only [Act.put, List.setIfInBounds_toArray, List.set_cons_zero, List.set_cons_succ]
        refine take_at8 (i := 14) (d := 42) (v := undef) rfl rfl (by kernel_rfl) (by kernel_rfl) (by kernel_rfl) (fun _ _ _ h => h) (Or.inr ⟨by rfl, rfl⟩) (by assumption) ?_
        try simp only [Act.put, List.setIfInBounds_toArray, List.set_cons_zero, List.set_cons_succ]
        refine take_at8 (i := 15) (d := 43) (v := ?_) rfl rfl (by kernel_rfl) (by kernel_rfl) (by kernel_rfl) (fun _ _ _ h => h) (Or.inl ⟨by rfl, ?_⟩) (by assumption) ?_
        rotate_left
        · (intro wz hSw; (try dsimp only at hSw); go_simp; try rfl)
        try simp only [Act.put, List.setIfInBounds_toArray, List.set_cons_zero, List.set_cons_succ]
        refine wpAnyH_done (by kernel_rfl) ?_ _
        go_simp
        go_wp2
        go_ret2
        exact ⟨by rw [HF.out, HE.out.2]; rfl, HB.out.trans ((HBW.out.trans (HW1.out.mono HBW.out.size)).mono hws)⟩
        -- ENDA
      · have hmm := readyL_mem.1 (List.contains_iff_mem.1 hc)
        obtain ⟨j, hj⟩ := Int.eq_ofNat_of_zero_le hmm.1.1
        have hlj : j < hd.length := by omega
        have hrd : readyB n hd[j] = true := by
          have := hmm.2
          rw [hj, Int.toNat_natCast, List.getD_eq_getElem?_getD, List.getElem?_eq_getElem hlj, Option.getD_some] at this
          exact this
        have hjL := HK.out.2 j _ (List.getElem?_eq_getElem hlj)
        have hLn2 : L ≤ n := by
          have h := hrd
          unfold readyB at h
          rw [Bool.and_eq_true] at h
          have := of_decide_eq_true h.1
          rw [hjL.1] at this
          exact this
        have hhs : (hd.length : Int) = hs := HK.out.1
        have HC3 : Hid (∀ V, Below wr.heap.size wr V → Calls Tryd.prog 82 #[.int .i64 n, .slice (some ⟨w.heap.size, 0, none⟩) hs.toNat cH, .int .i64 d.h] V fun e w' =>
            e = .returned (.agg #[.int .i64 (stepOf n hs j hd[j]).h, .int .i64 (stepOf n hs j hd[j]).k, .int .i64 (stepOf n hs j hd[j]).f, .int .i64 (stepOf n hs j hd[j]).t]) ∧ HandsR w' w.heap.size (hd.set j (stepH n hs j hd[j])) ∧ Save (· = w.heap.size) V w') := fun V hV => by
          have h := l8Step_any n w.heap.size cH j hd L V (HR.out.below hV hgl) HH4.out HK.out.atL hL1 hLn2 hn0 hn1 hlj (by rw [hhs]; exact hjL.2)
          rw [hhs, show hd.length = hs.toNat from HHL.out] at h
          rw [hj]
          exact h
        obtain ⟨L', hL', hK'⟩ := (HK.out.step (n := n) (hs := hs) (L := L) hlj).go
        have HC4 : Hid (∀ V, HandsR V w.heap.size (hd.set j (stepH n hs j hd[j])) → Calls Tryd.prog 83 #[.slice (some ⟨w.heap.size, 0, none⟩) hs.toNat cH] V fun e w' => e = .returned (.tuple #[]) ∧ HandsR w' w.heap.size (goH (hd.set j (stepH n hs j hd[j]))) ∧ Save (· = w.heap.size) V w') := fun V hV => by
          have h := l8Go_any w.heap.size cH _ L V hV (by rw [List.length_set]; exact HH4.out) (HK.out.step hlj).atL hL1 (by omega)
          rw [List.length_set, show hd.length = hs.toNat from HHL.out] at h
          exact h
        have HK' := Lib.hid hK'
        have HUN2 : Hid (stepOf n hs j hd[j] ≠ d → specRun n hs hd (ds.drop k) = false) := HUN.out j hj hlj hrd
        have HON2 : Hid (stepOf n hs j hd[j] = d → specRun n hs hd (ds.drop k) = specRun n hs (goH (hd.set j (stepH n hs j hd[j]))) (ds.drop (k + 1))) := HON.out j hj hlj hrd
        have HGL : Hid ((goH (hd.set j (stepH n hs j hd[j]))).length = hs.toNat) := by
          have := HK'.out.1
          show _ = _
          omega
        clear HUN HON HNO HK hmm hrd hjL hK' hhs hj
        generalize stepOf n hs j hd[j] = so at HC3 HUN2 HON2
        generalize hd.set j (stepH n hs j hd[j]) = hd2 at HC3 HC4 HK' HON2 HGL
        cases e0 : (so.h == d.h)
        rotate_left
        cases e1 : (so.k == d.k)
        rotate_left
        cases e2 : (so.f == d.f)
        rotate_left
        cases e3 : (so.t == d.t)
        rotate_left
        · have hsd : so = d := Dn.ext' ⟨by simpa using e0, by simpa using e1, by simpa using e2, by simpa using e3⟩
          have HV2 := Lib.hid (HV.out.trans (HON2.out hsd))
          clear hsd HON2 HUN2
          go_region_held3 (fun w' => w'.cell? ⟨wr.heap.size, 0, none⟩ = some (.int .i64 d.h) ∧ w'.cell? ⟨wr.heap.size, 1, none⟩ = some (.int .i64 d.k) ∧ w'.cell? ⟨wr.heap.size, 2, none⟩ = some (.int .i64 d.f) ∧ w'.cell? ⟨wr.heap.size, 3, none⟩ = some (.int .i64 d.t))
            (first | exact HS6.out | exact HSK.out _ HW1.out | exact ⟨d0, d1, d2, d3⟩)
            (first
            | (go_at_call 81
               refine (HC1.out _ HWD.out).mono ?_
               rintro e w4 ⟨A4, c4, rfl, hc4, hO4, hB4⟩
               have HW1 : Hid (Below W.heap.size W w4) := HD0.out.trans (hB4.mono HD0.out.size)
               have HI4 := Lib.hid hO4.ints
               clear hB4 hO4)
            | (go_at_call 80
               refine (HC2.out _ _ _ HI4.out).mono ?_
               rintro e w5 ⟨rfl, hw5⟩
               replace hw5 := hw5.symm
               subst hw5
               rw [hc])
            | (go_at_call 82
               refine (HC3.out _ (HBW.out.trans (HW1.out.mono HBW.out.size))).mono ?_
               rintro e w6 ⟨rfl, hR6, hS6⟩
               have HR6 := Lib.hid hR6
               have HV6 := Lib.hid hS6
               have HS6 : Hid (BoxS wr.heap.size d w6) := by
                 have h := Row.save (HRW.out.below HW1.out HRW.out.lt) hS6 (by show ¬ wr.heap.size = w.heap.size; omega)
                 have d0 := h.cell 0
                 have d1 := h.cell 1
                 have d2 := h.cell 2
                 have d3 := h.cell 3
                 simp only [List.getElem?_toArray, List.getElem?_cons_succ, List.getElem?_cons_zero] at d0 d1 d2 d3
                 exact ⟨d0, d1, d2, d3⟩
               clear hR6 hS6))
          go_wp2_with (go_at_call 83; refine (HC4.out _ HR6.out).mono ?_; rintro e w7 ⟨rfl, hR7, hS7⟩; have HR7 := Lib.hid hR7; have HV7 := Lib.hid (HV6.out.trans hS7); clear hR7 hS7)
          go_roundw
          case rel =>
            have HB7 : Hid (Below w.heap.size w w7) := HB.out.trans (((HBW.out.trans (HW1.out.mono HBW.out.size)).mono hws).trans (HV7.out.below (Nat.le_trans hws (Nat.le_trans HBW.out.size HW1.out.size)) (fun i hi e => by subst e; omega)))
            exact ⟨k + 1, goH hd2, L', by omega, by go_num, ⟨by omega, by omega⟩, HGL.out, HB7.out, HR7.out, HK'.out, HV2.out⟩
          case measure => simp [intOf]; omega
        all_goals
          have HF : Hid (V = false) := by
            show _ = _
            rw [HV.out]
            refine HUN2.out fun h => ?_
            subst h
            first | (simp at e0; done) | (simp at e1; done) | (simp at e2; done) | (simp at e3; done)
          clear HON2 HUN2
          go_region_held3 (fun w' => w'.cell? ⟨wr.heap.size, 0, none⟩ = some (.int .i64 d.h) ∧ w'.cell? ⟨wr.heap.size, 1, none⟩ = some (.int .i64 d.k) ∧ w'.cell? ⟨wr.heap.size, 2, none⟩ = some (.int .i64 d.f) ∧ w'.cell? ⟨wr.heap.size, 3, none⟩ = some (.int .i64 d.t))
            (first | exact HS6.out | exact HSK.out _ HW1.out | exact ⟨d0, d1, d2, d3⟩)
            (first
            | (go_at_call 81
               refine (HC1.out _ HWD.out).mono ?_
               rintro e w4 ⟨A4, c4, rfl, hc4, hO4, hB4⟩
               have HW1 : Hid (Below W.heap.size W w4) := HD0.out.trans (hB4.mono HD0.out.size)
               have HI4 := Lib.hid hO4.ints
               clear hB4 hO4)
            | (go_at_call 80
               refine (HC2.out _ _ _ HI4.out).mono ?_
               rintro e w5 ⟨rfl, hw5⟩
               replace hw5 := hw5.symm
               subst hw5
               rw [hc])
            | (go_at_call 82
               refine (HC3.out _ (HBW.out.trans (HW1.out.mono HBW.out.size))).mono ?_
               rintro e w6 ⟨rfl, hR6, hS6⟩
               have HR6 := Lib.hid hR6
               have HV6 := Lib.hid hS6
               have HS6 : Hid (BoxS wr.heap.size d w6) := by
                 have h := Row.save (HRW.out.below HW1.out HRW.out.lt) hS6 (by show ¬ wr.heap.size = w.heap.size; omega)
                 have d0 := h.cell 0
                 have d1 := h.cell 1
                 have d2 := h.cell 2
                 have d3 := h.cell 3
                 simp only [List.getElem?_toArray, List.getElem?_cons_succ, List.getElem?_cons_zero] at d0 d1 d2 d3
                 exact ⟨d0, d1, d2, d3⟩
               clear hR6 hS6))
          go_wp2
          go_ret2
          have HB7 : Hid (Below w.heap.size w w6) := HB.out.trans (((HBW.out.trans (HW1.out.mono HBW.out.size)).mono hws).trans (HV6.out.below (Nat.le_trans hws (Nat.le_trans HBW.out.size HW1.out.size)) (fun i hi e => by subst e; omega)))
          exact ⟨by rw [HF.out, HE.out.2]; rfl, HB7.out⟩
    · obtain rfl : k = ds.length := by omega
      have HNE : Hid (V = decide ((readyL n hd hd.length).length = 0)) := by
        show _ = _
        rw [HV.out, List.drop_length, specRun]
        by_cases h0 : (readyL n hd hd.length).length = 0
        · rw [decide_eq_true h0, readyL_nil.1 h0]; rfl
        · rw [decide_eq_false h0]
          cases h : hd.any (readyB n)
          · exact absurd (readyL_nil.2 h) h0
          · rfl
      have HC1 : Hid (∀ V, Below wr.heap.size wr V → Calls Tryd.prog 81 #[.int .i64 n, .slice (some ⟨w.heap.size, 0, none⟩) hs.toNat cH] V (GaveI V (readyL n hd hd.length))) := fun V hV => by
        have h := l8Ready_any n w.heap.size cH hd V (HR.out.below hV hgl) HH4.out
        rw [show hd.length = hs.toNat from HHL.out] at h ⊢
        exact h
      have hrl := readyL_len n hd hd.length
      have hh4 := HH4.out
      generalize readyL n hd hd.length = rl at HNE HC1 hrl
      cases h0 : ((rl.length : Int) == 0)
      all_goals
        have HVV := Lib.hid HNE.out
        go_wp2_with (go_at_call 81
                     refine (HC1.out _ (Below.refl _ _)).mono ?_
                     rintro e w4 ⟨A4, c4, rfl, hc4, hO4, hB4⟩
                     have HW1 := Lib.hid (HB.out.trans (hB4.mono hws))
                     clear hB4 hO4)
        go_ret2
        refine ⟨?_, HW1.out⟩
        rw [HVV.out, HE.out.2]
        simp at h0
        simp [h0]

end Go.Proofs.YtfbpcdmpkbjifaaDoor

/- The program's IsWave. -/

namespace Go.Proofs.YtfbpcdmpkbjifaaDoor
open Go.RowKit

theorem Tryd.infoDoneS : (Tryd.prog.info? 35).map (fun i => (i.zero, i.size, i.bytes)) = some (some (.slice none 0 0), 1, 24) := by kernel_rfl

/-- The slice v of slices of steps is new from lo on and reads as ls. -/
def LeftW (w : World) (lo : Nat) (v : Value) (ls : List Ld) : Prop := w.ownsRow lo 35 1 v ls.length (ls.map cellE) ∧ ∀ u ∈ ls, u.r.length ≤ u.c ∧ OwnE w u.a u.r
theorem LeftW.nil (w : World) (lo : Nat) : LeftW w lo (.slice none 0 0) [] := ⟨⟨rfl, .inl ⟨rfl, rfl⟩⟩, fun u h => by cases h⟩
theorem LeftW.keep {w w' : World} {lo : Nat} {v : Value} {ls : List Ld} (h : LeftW w lo v ls) (hb : Below w.heap.size w w') : LeftW w' lo v ls := ⟨own_below h.1 hb, fun u hu => ⟨(h.2 u hu).1, (h.2 u hu).2.keep hb⟩⟩
theorem OwnE.grownL {w w' : World} {lo n : Nat} {A : Option Addr} {ds : List Dn} {v : Value} {ys : List Value} (h : OwnE w A ds) (hv : w.ownsRow lo 35 1 v n ys) (hg : w.grownBy w' v.ownBlock) : OwnE w' A ds := by
  rcases h with h | ⟨b, o, cs, e, hr, hc⟩
  · exact .inl h
  · refine .inr ⟨b, o, cs, e, (hg.block b hr.lt fun e2 => ?_).trans hr, hc⟩
    rcases hv.2 with ⟨rfl, _⟩ | ⟨g', cap, cur, rfl, _, hb, _⟩
    · cases e2
    · injection e2 with e2
      subst e2
      exact Row.ne (t := 88) (t' := 35) hr hb (by decide) rfl
theorem LeftW.push {w w1 w2 : World} {lo : Nat} {v v' : Value} {ls : List Ld} {A : Option Addr} {ds : List Dn} {c : Nat} (h : LeftW w lo v ls) (hb : Below w.heap.size w w1) (hO : OwnE w1 A ds) (hcap : ds.length ≤ c)
    (ho : w2.ownsRow lo 35 1 v' (ls.length + 1) (ls.map cellE ++ [.slice A ds.length c])) (hv : w1.ownsRow lo 35 1 v ls.length (ls.map cellE)) (hg : w1.grownBy w2 v.ownBlock) : LeftW w2 lo v' (ls ++ [⟨A, ds, c⟩]) := by
  refine ⟨?_, fun u hu => ?_⟩
  · rw [List.length_append, List.map_append]
    exact ho
  · rcases List.mem_append.1 hu with hu | hu
    · exact ⟨(h.2 u hu).1, ((h.2 u hu).2.keep hb).grownL hv hg⟩
    · rw [List.mem_singleton.1 hu]
      exact ⟨hcap, hO.grownL hv hg⟩
theorem LeftW.left {w : World} {lo : Nat} {v : Value} {ls : List Ld} (h : LeftW w lo v ls) (hn : 1 ≤ ls.length) : ∃ g c, v = .slice (some ⟨g, 0, none⟩) ls.length c ∧ LeftR w g ls ∧ lo ≤ g := by
  rcases h.1.2 with ⟨rfl, h0⟩ | ⟨g, cap, cur, rfl, hlo, hb, h1, h2, h3, h4⟩
  · omega
  · refine ⟨g, cap, rfl, ⟨cur, hb, fun k u hu => ?_, h.2⟩, hlo⟩
    have hk := (List.getElem?_eq_some_iff.1 hu).1
    have e := congrArg (fun l => l[k]?) h4
    simp only [List.getElem?_map, hu, Option.map_some] at e
    rw [List.getElem?_take, if_pos (by omega)] at e
    simpa using e

/-- What all have left lies within the word. -/
def BndL (left : List (List Dn)) : Prop := ∀ l ∈ left, ∀ e ∈ l, (0 ≤ e.f ∧ e.f ≤ 10) ∧ (0 ≤ e.t ∧ e.t ≤ 10)
theorem restL_bnd {n hs h : Int} (hn : n ≤ 10) (hs0 : 0 ≤ hs) (hh : 0 ≤ h) : ∀ {m : Nat}, (m : Int) ≤ n → ∀ e ∈ restL n hs h m, (0 ≤ e.f ∧ e.f ≤ 10) ∧ (0 ≤ e.t ∧ e.t ≤ 10)
  | 0, _, e, he => by simp [restL] at he
  | m + 1, hm, e, he => by
    rw [restL] at he
    rcases List.mem_append.1 he with he | he
    · unfold levL at he
      rcases List.mem_append.1 he with he | he
      · obtain ⟨f, hf, rfl⟩ := List.mem_map.1 he
        have := partF_memE hs0 hf
        simp only
        omega
      · rw [List.mem_singleton] at he
        subst he
        simp only
        omega
    · exact restL_bnd hn hs0 hh (by omega) e he
theorem startL_bnd {n hs : Int} (hn0 : 0 ≤ n) (hn : n ≤ 10) (hs0 : 0 ≤ hs) : BndL (startL n hs) := fun l hl e he => by
  unfold startL at hl
  obtain ⟨k, _, rfl⟩ := List.mem_map.1 hl
  exact restL_bnd hn hs0 (by omega) (by omega) e he
theorem takeO_bnd {left left' : List (List Dn)} {d : Dn} (h : takeO left d = some left') (hb : BndL left) : BndL left' ∧ (0 ≤ d.f ∧ d.f ≤ 10) ∧ (0 ≤ d.t ∧ d.t ≤ 10) := by
  obtain ⟨k, r, _, hk, rfl⟩ := takeO_some h
  have hm := List.mem_of_getElem? hk
  refine ⟨fun l hl e he => ?_, hb _ hm d List.mem_cons_self⟩
  rcases List.mem_or_eq_of_mem_set hl with hl | rfl
  · exact hb l hl e he
  · exact hb _ hm e (List.mem_cons_of_mem _ he)
theorem runL_no {left : List (List Dn)} {L : Int} {ds : List Dn} {k : Nat} (hk : k < ds.length) (h : takeO left ds[k] = none) : runL left L (ds.drop k) = false := by
  rw [List.drop_eq_getElem_cons hk, runL, h]
theorem runL_falls {left left' : List (List Dn)} {L : Int} {ds : List Dn} {k : Nat} (hk : k < ds.length) (h : takeO left ds[k] = some left') (hl : ds[k].t - ds[k].f < L) : runL left L (ds.drop k) = false := by
  rw [List.drop_eq_getElem_cons hk, runL, h]
  simp only
  rw [if_pos hl]
theorem runL_on {left left' : List (List Dn)} {L : Int} {ds : List Dn} {k : Nat} (hk : k < ds.length) (h : takeO left ds[k] = some left') (hl : ¬ ds[k].t - ds[k].f < L) : runL left L (ds.drop k) = runL left' (ds[k].t - ds[k].f) (ds.drop (k + 1)) := by
  rw [List.drop_eq_getElem_cons hk, runL, h]
  simp only
  rw [if_neg hl]

set_option maxRecDepth 20000 in
set_option maxHeartbeats 2000000 in
theorem implIsWave_any (n hs : Int) (A : Option Addr) (ds : List Dn) (c : Nat) (w : World) (hx : Dos w w.heap.size A ds) (hm : ds.length ≤ 1048576) (hL : Lims w) :
    Calls Tryd.prog 31 #[.int .i64 n, .int .i64 hs, .slice A ds.length c] w fun e w' => e = .returned (.tuple #[.bool (isV n hs ds), .bool (isOk n hs ds)]) ∧ Below w.heap.size w w' := by
  obtain ⟨i0, hi0, hz0, hz1, hz2⟩ := info_of Tryd.infoDoneS
  have HX := Lib.hid hx; clear hx
  have HL := Lib.hid hL; clear hL
  cases h1 : inB 0 10 n
  · have HE : Hid (isV n hs ds = false ∧ isOk n hs ds = false) := by
      have : stB n hs = false := decide_eq_false fun k => by have h2 := inB_t k.1.1 k.1.2; rw [h1] at h2; cases h2
      show _ ∧ _; simp [isV, isOk, this]
    go_enter Tryd.func31, Tryd.ntmps31
    go_wp2_with (go_at_call 66; (with_reducible refine (within4 n w HL.out).mono ?_); rintro e w1 ⟨rfl, hB⟩; rw [h1]; have HB := Lib.hid hB; clear hB)
    go_ret2
    exact ⟨by rw [HE.out.1, HE.out.2]; rfl, HB.out⟩
  cases h2 : inB 1 4 hs
  · have HE : Hid (isV n hs ds = false ∧ isOk n hs ds = false) := by
      have : stB n hs = false := decide_eq_false fun k => by have h3 := inB_t k.2.1 k.2.2; rw [h2] at h3; cases h3
      show _ ∧ _; simp [isV, isOk, this]
    go_enter Tryd.func31, Tryd.ntmps31
    go_wp2_with (first
      | (go_at_call 66; (with_reducible refine (within4 n w HL.out).mono ?_); rintro e w1 ⟨rfl, hB⟩; rw [h1]; have HB := Lib.hid hB; clear hB)
      | (go_at_call 66; (with_reducible refine (within6 hs _ (HL.out.keep HB.out (Nat.le_refl _))).mono ?_); rintro e w2 ⟨rfl, hB⟩; rw [h2]; have HB2 := Lib.hid (HB.out.trans (hB.mono HB.out.size)); clear hB))
    go_ret2
    exact ⟨by rw [HE.out.1, HE.out.2]; rfl, HB2.out⟩
  cases h3 : inB 0 200 ds.length
  · have HE : Hid (isV n hs ds = false ∧ isOk n hs ds = false) := by
      have : ¬ ds.length ≤ 200 := fun h => by have h4 := inB_t (lo := 0) (hi := 200) (n := (ds.length : Int)) (by omega) (by omega); rw [h3] at h4; cases h4
      show _ ∧ _; simp [isV, isOk, this]
    go_enter Tryd.func31, Tryd.ntmps31
    go_wp2_with (first
      | (go_at_call 66; (with_reducible refine (within4 n w HL.out).mono ?_); rintro e w1 ⟨rfl, hB⟩; rw [h1]; have HB := Lib.hid hB; clear hB)
      | (go_at_call 66; (with_reducible refine (within6 hs _ (HL.out.keep HB.out (Nat.le_refl _))).mono ?_); rintro e w2 ⟨rfl, hB⟩; rw [h2]; have HB2 := Lib.hid (HB.out.trans (hB.mono HB.out.size)); clear hB)
      | (go_at_call 66; (with_reducible refine (within7 ds.length _ (HL.out.keep HB2.out (Nat.le_refl _))).mono ?_); rintro e w3 ⟨rfl, hB⟩; rw [h3]; have HB3 := Lib.hid (HB2.out.trans (hB.mono HB2.out.size)); clear hB))
    go_ret2
    exact ⟨by rw [HE.out.1, HE.out.2]; rfl, HB3.out⟩
  have hn0 := inB_lo h1
  have hn1 := inB_hi h1
  have hs0 := inB_lo h2
  have hs1 := inB_hi h2
  have hl200 : ds.length ≤ 200 := by have := inB_hi h3; omega
  have HST : Hid (stB n hs = true) := decide_eq_true ⟨⟨hn0, hn1⟩, hs0, hs1⟩
  have HE : Hid (isV n hs ds = (runL (startL n hs) 0 (ds.drop 0) && decide ((ds.length : Int) = stN n hs)) ∧ isOk n hs ds = true) := by
    show _ ∧ _
    rw [List.drop_zero]
    simp [isV, isOk, HST.out, hl200, waveV]
  generalize isV n hs ds = V at HE ⊢
  generalize isOk n hs ds = ok at HE ⊢
  obtain ⟨M, rfl⟩ := Int.eq_ofNat_of_zero_le (show 0 ≤ hs by omega)
  go_enter Tryd.func31, Tryd.ntmps31
  go_wp2_with (first
    | (go_at_call 66; (with_reducible refine (within4 n w HL.out).mono ?_); rintro e w1 ⟨rfl, hB⟩; rw [h1]; have HB := Lib.hid hB; clear hB)
    | (go_at_call 66; (with_reducible refine (within6 (M : Int) _ (HL.out.keep HB.out (Nat.le_refl _))).mono ?_); rintro e w2 ⟨rfl, hB⟩; rw [h2]; have HB2 := Lib.hid (HB.out.trans (hB.mono HB.out.size)); clear hB)
    | (go_at_call 66; (with_reducible refine (within7 ds.length _ (HL.out.keep HB2.out (Nat.le_refl _))).mono ?_); rintro e w3 ⟨rfl, hB⟩; rw [h3]; have HB3 := Lib.hid (HB2.out.trans (hB.mono HB2.out.size)); clear hB))
  clear HB HB2
  go_loopw [8, 28] (fun v x wr => ∃ (m : Nat) (ls : List Ld), m ≤ M ∧ x = .int .i64 m ∧ Hid (ls.length = m) ∧ Hid (sayD ls = (List.range m).map fun k : Nat => restL n M k n.toNat) ∧ Hid (Below w.heap.size w wr) ∧ Hid (LeftW wr w.heap.size v ls)) (fun _ x _ => M - (intOf x).toNat)
  case atStart => exact ⟨0, [], by omega, rfl, rfl, rfl, HB3.out, LeftW.nil _ _⟩
  case round =>
    clear HB3
    obtain ⟨m, ls, hm, rfl, HLN, HSY, HB, HO⟩ := hrel
    have hws := HB.out.size
    by_cases hlt : m < M
    · have HSO := Lib.hid (stepsOf_any n M m wr hn0 hn1 hs0 hs1 (by omega) (by omega))
      have hlm : ls.length ≤ 4 := by have := HLN.out; omega
      have HSN : Hid (sayD ls ++ [restL n M m n.toNat] = (List.range (m + 1)).map fun k : Nat => restL n M k n.toNat) := by
        show _ = _
        rw [HSY.out, List.range_succ, List.map_append]
        rfl
      generalize restL n M m n.toNat = es at HSO HSN
      go_wp2_with (first
        | (go_at_call 84
           refine HSO.out.mono ?_
           rintro e w4 ⟨A4, c4, rfl, hc4, hO4, hB4⟩
           have HB4 := Lib.hid hB4
           have HBW := Lib.hid (HB.out.trans (hB4.mono hws))
           have HO4 := Lib.hid hO4
           have hws4 : w.heap.size ≤ w4.heap.size := HBW.out.size
           have HOA : Hid ((w4.alloc (.cells #[.slice A4 es.length c4] 35)).ownsRow w.heap.size 35 1 u8 ls.length (ls.map cellE)) := World.ownsRow.alloc (own_below HO.out.1 hB4) _
           have HNW := Lib.hid (cell_one_new w4 (.slice A4 es.length c4) 35)
           clear hB4 hO4)
        | (at_builtin
           refine wpList_append_own _ rfl (.tmp 31) (.tmp 36) _ rfl w.heap.size 35 i0 _ 1 24 Tryd.underlying100 hi0 hz0 hz1 hz2 rfl (by omega) _ _ _ rfl HOA.out ⟨w4.heap.size, 0, none⟩ 1 1 [.slice A4 es.length c4] rfl rfl HNW.out (by simp [Value.oneCell']) (by unfold maxLen; omega) (by omega) (by simp; omega) ?_
           intro v' w' h1 h2 h3
           have HB' : Hid (Below w.heap.size w w') := (HBW.out.alloc hws4 _).grown h2 (by simp; omega) fun j hj => (World.ownsRow.lt HO.out.1 j hj).1
           have HO' : Hid (LeftW w' w.heap.size v' (ls ++ [⟨A4, es, c4⟩])) := LeftW.push HO.out (HB4.out.trans (Below.mono ((Below.refl _ _).alloc (Nat.le_refl _) _) HB4.out.size)) (HO4.out.keep ((Below.refl _ _).alloc (Nat.le_refl _) _)) hc4 h1 HOA.out h2
           clear h1 h2 h3))
      go_roundw
      case rel => exact ⟨m + 1, ls ++ [⟨A4, es, c4⟩], by omega, by go_num, by show _ = _; rw [List.length_append, HLN.out]; rfl, by show _ = _; rw [← HSN.out]; simp [sayD], HB', HO'⟩
      case measure => simp [intOf]; omega
    · obtain rfl : m = M := by omega
      have HS0 : Hid (sayD ls = startL n m) := by show _ = _; rw [HSY.out]; simp [startL]
      obtain ⟨g, cg, rfl, hLR, hgl⟩ := HO.out.left (by have := HLN.out; omega)
      have HLR := Lib.hid hLR
      clear hLR HSY HO
      rw [HLN.out]
      obtain ⟨wA, hwA⟩ : ∃ x, x = wr := ⟨_, rfl⟩
      subst hwA
      obtain ⟨fs, hfs⟩ : ∃ x, x = ls := ⟨_, rfl⟩
      subst hfs
      go_wp2
      go_loopw [10, 41] (fun l x wr => ∃ (k : Nat) (ls : List Ld) (L : Int), k ≤ ds.length ∧ x = .int .i64 k ∧ l = .int .i64 L ∧ (0 ≤ L ∧ L ≤ 10 ∨ L = 0 ∨ (-10 ≤ L ∧ L ≤ 10)) ∧ Hid (ls.length = m) ∧ Hid (BndL (sayD ls)) ∧ Hid (Below w.heap.size w wr) ∧ Hid (LeftR wr g ls) ∧ Hid (V = (runL (sayD ls) L (ds.drop k) && decide ((ds.length : Int) = stN n m)))) (fun _ x _ => ds.length - (intOf x).toNat)
      case atStart => exact ⟨0, fs, 0, by omega, rfl, rfl, .inl ⟨by omega, by omega⟩, HLN.out, by show BndL _; rw [HS0.out]; exact startL_bnd hn0 hn1 (by omega), HB.out, HLR.out, by show _ = _; rw [HS0.out]; exact HE.out.1⟩
      case round =>
        clear HB HLR HLN HS0
        obtain ⟨k, ls, L, hk, rfl, rfl, hLb, HLN, HBN, HB, HLR, HV⟩ := hrel
        have hws := HB.out.size
        have hLb2 : -10 ≤ L ∧ L ≤ 10 := by omega
        clear hLb
        by_cases hlt : k < ds.length
        · obtain ⟨b, o, rfl, hb, c0, c1, c2, c3⟩ := (HX.out.keep HB.out).at_ hlt
          have HNO := Lib.hid (fun h => runL_no (left := sayD ls) (L := L) hlt h)
          have HFA := Lib.hid (fun left' h h' => runL_falls (left := sayD ls) (left' := left') (L := L) hlt h h')
          have HON := Lib.hid (fun left' h h' => runL_on (left := sayD ls) (left' := left') (L := L) hlt h h')
          generalize ds[k] = d at c0 c1 c2 c3 HNO HFA HON
          have HBW : Hid (Below wr.heap.size wr (wr.alloc (.cells #[.int .i64 d.h, .int .i64 d.k, .int .i64 d.f, .int .i64 d.t] 88))) := (Below.refl _ _).alloc (Nat.le_refl _) _
          have HRW : Hid (Row (wr.alloc (.cells #[.int .i64 d.h, .int .i64 d.k, .int .i64 d.f, .int .i64 d.t] 88)) wr.heap.size 88 #[.int .i64 d.h, .int .i64 d.k, .int .i64 d.f, .int .i64 d.t]) := Row.new _ _ _
          have hgw : g < wr.heap.size := HLR.out.lt
          have HTK : Hid (∀ V, Below wr.heap.size wr V → Calls Tryd.prog 85 #[.slice (some ⟨g, 0, none⟩) m cg, .agg #[.int .i64 d.h, .int .i64 d.k, .int .i64 d.f, .int .i64 d.t]] V (GaveT V g ls d)) := fun V hV => by
            have h := takeStep_any g cg ls d.h d.k d.f d.t V (HLR.out.keep hV) (by have := HLN.out; omega) (by have := HLN.out; omega) (HL.out.keep (HB.out.trans (hV.mono hws)) (Nat.le_refl _))
            rw [HLN.out] at h
            exact h
          go_wp2_with fail
          refine (HTK.out _ HBW.out).mono ?_
          rintro e w5 (⟨hno, rfl, hB5⟩ | ⟨ls', hso, hl', rfl, hR5, hS5⟩)
          · have HF : Hid (V = false) := by show _ = _; rw [HV.out, HNO.out hno]; rfl
            have HB5 := Lib.hid (HB.out.trans ((HBW.out.trans (hB5.mono HBW.out.size)).mono hws))
            clear hno hB5 HTK HNO HFA HON
            go_wp2
            go_ret2
            exact ⟨by rw [HF.out, HE.out.2]; rfl, HB5.out⟩
          · obtain ⟨hbn, hdf, hdt⟩ := takeO_bnd hso HBN.out
            have HBN' := Lib.hid hbn
            have HR5 := Lib.hid hR5
            have HL5 : Hid (ls'.length = m) := by show _ = _; rw [hl', HLN.out]
            have HB5 : Hid (Below w.heap.size w w5) := HB.out.trans ((HBW.out.mono hws).trans (hS5.below (Nat.le_trans hws HBW.out.size) (fun i hi e => by subst e; omega)))
            have HX5 := Row.save HRW.out hS5 (by show ¬ wr.heap.size = g; omega)
            have d2 := Row.cell HX5 2
            have d3 := Row.cell HX5 3
            simp only [List.getElem?_toArray, List.getElem?_cons_succ, List.getElem?_cons_zero] at d2 d3
            have HFA2 := Lib.hid (HFA.out _ hso)
            have HON2 := Lib.hid (HON.out _ hso)
            clear hbn hR5 hS5 hl' hso HFA HON HNO HTK HX5
            by_cases hfl : d.t - d.f < L
            · have HF : Hid (V = false) := by show _ = _; rw [HV.out, HFA2.out hfl]; rfl
              clear HFA2 HON2
              go_wp2
              go_ret2
              exact ⟨by rw [HF.out, HE.out.2]; rfl, HB5.out⟩
            · have HVN : Hid (V = (runL (sayD ls') (d.t - d.f) (ds.drop (k + 1)) && decide ((ds.length : Int) = stN n m))) := by show _ = _; rw [HV.out, HON2.out (by omega)]
              clear HFA2 HON2
              go_wp2
              go_roundw
              case rel => exact ⟨k + 1, ls', d.t - d.f, by omega, by go_num, by go_num, .inr (.inr ⟨by omega, by omega⟩), HL5.out, HBN'.out, HB5.out, HR5.out, HVN.out⟩
              case measure => simp [intOf]; omega
        · obtain rfl : k = ds.length := by omega
          have HVN : Hid (V = decide ((ds.length : Int) = stN n m)) := by show _ = _; rw [HV.out, List.drop_length, runL, Bool.true_and]
          have HSI := Lib.hid (stepsIn_any n (m : Int) wr hn0 hn1 hs0 hs1)
          generalize stN n m = sn at HSI HVN
          cases hq : ((ds.length : Int) == sn)
          all_goals
            go_wp2_with (go_at_call 69; refine HSI.out.mono ?_; rintro e w6 ⟨rfl, hw6⟩; replace hw6 := hw6.symm; subst hw6)
            go_ret2
            refine ⟨?_, HB.out⟩
            rw [HVN.out, HE.out.2]
            simp at hq
            simp [hq]

end Go.Proofs.YtfbpcdmpkbjifaaDoor

/- The law of IsWave: its walk. -/

namespace Go.Proofs.YtfbpcdmpkbjifaaDoor
open Go.RowKit

set_option maxRecDepth 20000 in
set_option maxHeartbeats 1000000 in
theorem law_IsWave (n hs : Int) (A : Option Addr) (ds : List Dn) (c : Nat) (w : World) (_ : F64 n) (_ : F64 hs) (hx : Dos w w.heap.size A ds) (hn : ds.length ≤ maxLen) (hL : Lims w) :
    Calls Tryd.prog 7 #[.int .i64 n, .int .i64 hs, .slice A ds.length c] w (LawEnds w) := by
  have HX := Lib.hid hx; clear hx
  have HL := Lib.hid hL; clear hL
  go_enter Tryd.func7, Tryd.ntmps7
  go_wp2_with fail
  refine (szDoneS_any A ds.length c _ w hn (by omega) (by omega)).mono ?_
  rintro e w1 ⟨rfl, rfl⟩
  by_cases hneg : szI ds.length 1048576 < 0
  · go_wp2
    go_ret
    exact ⟨rfl, Below.refl _ _⟩
  have hlen : ds.length ≤ 1048576 := by unfold szI at hneg; split at hneg <;> omega
  have HSP : Hid (∀ A' c' v, ds.length ≤ c' → Dos v v.heap.size A' ds → Calls Tryd.prog 30 #[.int .i64 n, .int .i64 hs, .slice A' ds.length c'] v fun e w' => e = .returned (.tuple #[.bool (isV n hs ds), .bool (isOk n hs ds)]) ∧ Below v.heap.size v w') := fun A' c' v _ h2 => specIsWave_any n hs A' ds c' v h2 hlen
  have HIM : Hid (∀ A' c' v, Lims v → Dos v v.heap.size A' ds → Calls Tryd.prog 31 #[.int .i64 n, .int .i64 hs, .slice A' ds.length c'] v fun e w' => e = .returned (.tuple #[.bool (isV n hs ds), .bool (isOk n hs ds)]) ∧ Below v.heap.size v w') := fun A' c' v h1 h2 => implIsWave_any n hs A' ds c' v h2 hlen h1
  generalize isV n hs ds = x at HSP HIM
  generalize isOk n hs ds = ok at HSP HIM
  have hxx : (x != x) = false := by simp
  have hok : (ok != ok) = false := by simp
  -- the reference's answer
  go_wp2_with fail
  refine (toDoneS_any _ _ _ _ HX.out hlen).mono ?_
  rintro e w2 ⟨A2, c2, rfl, hc2, hO2, hB2⟩
  have HO2 := Lib.hid hO2; clear hO2
  have HB2 := Lib.hid hB2; clear hB2
  go_wp2_with fail
  refine (HSP.out A2 c2 w2 hc2 HO2.out.dos).mono ?_
  rintro e w3 ⟨rfl, hB3⟩
  have HB3 := Lib.hid (HB2.out.trans (hB3.mono HB2.out.size)); clear hB3 HO2 HB2
  -- the program's
  go_wp2_with fail
  refine (toDoneS_any _ _ _ _ ((HX.out.keep HB3.out).more HB3.out.size) hlen).mono ?_
  rintro e w4 ⟨A4, c4, rfl, hc4, hO4, hB4⟩
  have HO4 := Lib.hid hO4; clear hO4
  have HB4 := Lib.hid (HB3.out.trans (hB4.mono HB3.out.size)); clear hB4
  go_wp2_with fail
  refine (HIM.out A4 c4 w4 (HL.out.keep HB4.out (Nat.le_refl _)) HO4.out.dos).mono ?_
  rintro e w5 ⟨rfl, hB5⟩
  have HO5 := Lib.hid (HO4.out.below hB5 (Nat.le_refl _))
  have HB5 := Lib.hid (HB4.out.trans (hB5.mono HB4.out.size)); clear hB5 HO4 HB4 HB3
  -- the argument reads as it did
  go_wp2_with fail
  refine (toDoneS_any _ _ _ _ ((HX.out.keep HB5.out).more HB5.out.size) hlen).mono ?_
  rintro e w6 ⟨A6, c6, rfl, hc6, hO6, hB6⟩
  have HO6 := Lib.hid hO6; clear hO6
  have HO56 := Lib.hid (HO5.out.below hB6 (Nat.le_refl _))
  have HB6 := Lib.hid (HB5.out.trans (hB6.mono HB5.out.size)); clear hB6
  go_wp2_with fail
  refine (eqDoneS_same _ _ _ _ _ _ HO56.out.dos HO6.out.dos hlen).mono ?_
  rintro e w7 ⟨rfl, hB7⟩
  have HB7 := Lib.hid (HB6.out.trans (hB7.mono HB6.out.size)); clear hB7
  go_wp2
  go_ret
  exact ⟨rfl, HB7.out⟩

end Go.Proofs.YtfbpcdmpkbjifaaDoor

/- From the reading of an argument to its cells: a slice of steps. -/

namespace Go.Proofs.YtfbpcdmpkbjifaaDoor
open Go.ChangeShapes Go.WideShapes Go.ChangeAt Go.RowKit Go.Deep Go.Joins

theorem Tryd.cellsDoneL : Tryd.prog.cellsOf 90 = 4 := by kernel_rfl
instance inhDn : Inhabited Dn := ⟨⟨0, 0, 0, 0⟩⟩

theorem dos_of {w : World} {B b o : Nat} {ds : List Dn} (hb : b < B) (h : ∀ (i : Nat) (u : Dn), ds[i]? = some u → w.cell? ⟨b, o + i * 4, none⟩ = some (.int .i64 u.h) ∧ w.cell? ⟨b, o + i * 4 + 1, none⟩ = some (.int .i64 u.k) ∧ w.cell? ⟨b, o + i * 4 + 2, none⟩ = some (.int .i64 u.f) ∧ w.cell? ⟨b, o + i * 4 + 3, none⟩ = some (.int .i64 u.t)) : Dos w B (some ⟨b, o, none⟩) ds := by
  intro _
  refine ⟨b, o, rfl, hb, fun k x hx => ?_⟩
  have hk := (List.getElem?_eq_some_iff.1 hx).1
  rw [flatD_len] at hk
  have hi : k / 4 < ds.length := by omega
  obtain ⟨f0, f1, f2, f3⟩ := flatD_at hi
  obtain ⟨c0, c1, c2, c3⟩ := h (k / 4) _ (List.getElem?_eq_getElem hi)
  rcases (show k = k / 4 * 4 ∨ k = k / 4 * 4 + 1 ∨ k = k / 4 * 4 + 2 ∨ k = k / 4 * 4 + 3 by omega) with e | e | e | e
  · rw [e] at hx ⊢; rw [f0] at hx; injection hx with hx; subst hx; exact c0
  · rw [e] at hx ⊢; rw [f1] at hx; injection hx with hx; subst hx; rw [← Nat.add_assoc]; exact c1
  · rw [e] at hx ⊢; rw [f2] at hx; injection hx with hx; subst hx; rw [← Nat.add_assoc]; exact c2
  · rw [e] at hx ⊢; rw [f3] at hx; injection hx with hx; subst hx; rw [← Nat.add_assoc]; exact c3

section
variable {H : Type} {enc : TypeId × Value → H} {W : World} {spare : Nat → Bool} {held : Bool}

set_option maxRecDepth 100000 in
theorem open_doneS {fuel : Nat} {v : Value} {y : DataW H × List MemPlace} (h : DataW.trod enc Tryd.prog W 0 spare held fuel 31 [v] = some y) :
    ∃ (A : Option Addr) (ds : List Dn) (c : Nat), v = .slice A ds.length c ∧ ds.length ≤ c ∧ Dos W W.heap.size A ds ∧ ds.length ≤ maxLen := by
  rcases open_slice Tryd.underlying31 h with ⟨hcs, _⟩ | ⟨a, len, cap, m, n, D, Pl, hcs, _, hl, hm, hz, _, hel⟩
  · injection hcs with hcs
    subst hcs
    exact ⟨none, [], 0, rfl, Nat.le_refl _, fun h => by simp [flatD] at h, by simp [maxLen]⟩
  · injection hcs with hcs
    subst hcs
    have hlm : len ≤ m := by rw [hz]; split <;> omega
    have each : ∀ i, i < len → ∃ u : Dn, W.cell? (a.add (i * 4)) = some (.int .i64 u.h) ∧ W.cell? ((a.add (i * 4)).add 1) = some (.int .i64 u.k) ∧ W.cell? ((a.add (i * 4)).add 2) = some (.int .i64 u.f) ∧ W.cell? ((a.add (i * 4)).add 3) = some (.int .i64 u.t) := by
      intro i hi
      obtain ⟨cs', hc, ht⟩ := hel i (by omega)
      rw [Tryd.cellsDoneL] at hc
      obtain ⟨_, hcl, hat⟩ := World.cells?_some hc
      obtain ⟨xs, n', _, _, _, hlen, hfs⟩ := DataW.trod_struct Tryd.underlying90 ht
      match cs', hcl, xs, hlen with
      | [q0, q1, q2, q3], _, [y0, y1, y2, y3], _ =>
        have e0 : DataW.trod enc Tryd.prog W 0 spare held n' 3 [q0] = some y0 := by simpa [Value.cells, Tryd.cellsInt] using hfs 0 _ rfl
        have e1 : DataW.trod enc Tryd.prog W 0 spare held n' 3 [q1] = some y1 := by simpa [Value.cells, Tryd.cellsInt] using hfs 1 _ rfl
        have e2 : DataW.trod enc Tryd.prog W 0 spare held n' 3 [q2] = some y2 := by simpa [Value.cells, Tryd.cellsInt] using hfs 2 _ rfl
        have e3 : DataW.trod enc Tryd.prog W 0 spare held n' 3 [q3] = some y3 := by simpa [Value.cells, Tryd.cellsInt] using hfs 3 _ rfl
        obtain ⟨l0, el0, _, _⟩ := DataW.trod_int Tryd.underlying3 e0
        obtain ⟨l1, el1, _, _⟩ := DataW.trod_int Tryd.underlying3 e1
        obtain ⟨l2, el2, _, _⟩ := DataW.trod_int Tryd.underlying3 e2
        obtain ⟨l3, el3, _, _⟩ := DataW.trod_int Tryd.underlying3 e3
        injection el0 with el0
        injection el1 with el1
        injection el2 with el2
        injection el3 with el3
        subst el0 el1 el2 el3
        exact ⟨⟨l0, l1, l2, l3⟩, by simpa [Addr.add] using hat 0 (by omega), by simpa using hat 1 (by omega), by simpa using hat 2 (by omega), by simpa using hat 3 (by omega)⟩
    obtain ⟨f, hf⟩ := choose_lt each
    have hlen : ((List.range len).map f).length = len := by simp
    by_cases h0 : len = 0
    · exact ⟨some a, (List.range len).map f, cap, by rw [hlen], by omega, fun hp => by rw [flatD_len, hlen] at hp; omega, by omega⟩
    · obtain ⟨b, off, spot⟩ := a
      have hspot : spot = none := by simpa [Addr.add] using World.cell?_spot (hf 0 (by omega)).1
      subst hspot
      refine ⟨_, (List.range len).map f, cap, by rw [hlen], by omega, dos_of ?_ fun i u hu => ?_, by omega⟩
      · have := (hf 0 (by omega)).1
        exact lt_of_cell (b := b) (o := off) (by simpa [Addr.add] using this)
      · have hk := (List.getElem?_eq_some_iff.1 hu).1
        rw [hlen] at hk
        have hu' : f i = u := by simpa [hk] using hu
        subst hu'
        obtain ⟨h1, h2, h3, h4⟩ := hf i hk
        rw [Go.WideShapes.add_plain] at h1 h2 h3 h4
        rw [Go.WideShapes.add_plain] at h2 h3 h4
        exact ⟨h1, h2, h3, h4⟩

set_option maxRecDepth 100000 in
theorem open_doneS' {r : Reach} {b0 : Nat} {v : Value} {d : DataW H} {p : List MemPlace} (hv : Value.okWide Tryd.prog W r b0 31 v) (h : DataW.Trod enc Tryd.prog W 0 spare held 31 v d p) :
    ∃ (A : Option Addr) (ds : List Dn) (c : Nat), v = .slice A ds.length c ∧ ds.length ≤ c ∧ Dos W W.heap.size A ds ∧ ds.length ≤ maxLen := by
  obtain ⟨a0, len, cap, rfl⟩ := okWide_slice Tryd.underlying31 hv
  obtain ⟨fuel, hf⟩ := h
  exact open_doneS (by simpa [Value.cells] using hf)
end

end Go.Proofs.YtfbpcdmpkbjifaaDoor

/- The law of IsWave holds of every two ints and every list of steps: the call returns true, and what was handed in reads afterwards as it read before. Conditions: the package's table of limits is as the program's text lays it (tied by the given tie). -/

namespace Go.Proofs.YtfbpcdmpkbjifaaDoor
open Go.ChangeShapes Go.WideShapes Go.ChangeAt Go.RowKit

set_option maxRecDepth 100000 in
theorem isWave_lifted (os : Os) (started : os.Started) (H : Type) (enc : TypeId × Value → H) :
    ReturnsInHanded {} Tryd.checked os 7 .any (fun w args => (Rows.fnExactIsWaveSpec.pre enc Tryd.prog Tryd.f7 [] false w args ∧ laidMetH Tryd.prog laid1 w) ∧ sizedMet enc Tryd.prog Tryd.f7 (OpenSpec.ofChange Rows.fnExactIsWaveSpec) false w args)
      (Rows.fnExactIsWaveSpec.post enc Tryd.prog Tryd.f7 false true false false) := by
  refine returnsInHanded_of_change_and (C := Tryd.checked) (X := fun w _ => laidMetH Tryd.prog laid1 w) (fun _ _ _ hh h => h.of_heap hh) Tryd.own started (by kernel_rfl) Tryd.func7
    (ChangeSpec.witness_shaped (enc := enc) (C := Tryd.checked) (os := os) (X := fun w _ => laidMetH Tryd.prog laid1 w) false (World.doorLaid Tryd.prog 400 os) #[.int .i64 0, .int .i64 0, .slice none 0 0] 8 rfl (World.shaped_of_RefB (by kernel_rfl) (by kernel_rfl)) (by kernel_rfl) (by kernel_rfl) (by kernel_rfl) (door_met os _)) ?_
  intro W base args ds gs before hval0 hW _ _ hL _
  have hval : ∀ (j : Nat) t v, Tryd.f7.params[j]? = some t → args[j]? = some v → Value.okWide Tryd.prog W .any base t v := hval0
  have hW' := hW
  obtain ⟨p, q, hA0, hV0, rfl, hfz, hnd⟩ := hW
  have hA : DataW.TrodAll enc Tryd.prog W 0 (fun _ => true) true Tryd.f7.params.toList args.toList ds p := hA0
  have hV : DataW.TrodVars enc Tryd.prog W (fun _ => true) ["loop.example/g00758/impl.limits"] gs q := hV0
  rw [Tryd.params7] at hA hval
  obtain ⟨v0, v1, v2, d0, d1, d2, p0, p1, p2, rfl, rfl, rfl, h0, h1, h2⟩ := trodAll_three hA
  obtain ⟨g, tg, cs, fuel, dg, pg, rfl, _⟩ := trodVars_one hV
  obtain ⟨x0, rfl, rfl, rfl, w0⟩ := open_int Tryd.underlying3 (hval 0 3 v0 rfl rfl) h0
  obtain ⟨x1, rfl, rfl, rfl, w1⟩ := open_int Tryd.underlying3 (hval 1 3 v1 rfl rfl) h1
  obtain ⟨A2, xs2, c2, rfl, _, hR2, hN2⟩ := open_doneS' (hval 2 31 v2 rfl rfl) h2
  refine (law_IsWave x0 x1 A2 xs2 c2 W (bounds_i64 w0) (bounds_i64 w1) hR2 hN2 (lims_of_laid hL)).mono fun e W' ⟨he, hb⟩ => ?_
  subst he
  exact ⟨_, rfl, ends_three hW' Tryd.params7 rfl rfl (by kernel_rfl) (of_decide_eq_true (by kernel_rfl)) (by kernel_rfl) (of_decide_eq_true (by kernel_rfl)) (by kernel_rfl) (of_decide_eq_true (by kernel_rfl)) (by kernel_rfl) hb⟩

theorem isWave_holds : Rows.FnExactIsWaveSaid :=
  OpenClaim.holds_of_wide 7 Tryd.f7 rfl rfl rfl rfl rfl rfl rfl ⟨rfl, rfl, rfl, rfl, rfl⟩ rfl rfl rfl rfl rfl (by kernel_rfl) Tryd.func7 (by kernel_rfl)
    (of_decide_eq_true (by kernel_rfl)) (by unfold Func.isWrapper; first | (rw [if_pos (by decide +kernel)]; kernel_rfl) | (rw [if_neg (by decide +kernel)]; exact ⟨rfl, rfl⟩))
    (fun os started H enc _ => isWave_lifted os started H enc)

theorem isWave_card : Rows.FnExactIsWaveCardSaid :=
  Claim7.holds_tied_plain_at .later [] [.data] true (true, "18902ad48fee14ba0ba1e5828de7a6a28e51b3a8703fe69bc2803f0493ca1330") false
    isWave_holds (fun _ h => by cases h) (by kernel_rfl) (fun _ h => by cases h) fnExactIsWave_row_tie rfl ⟨rfl, rfl⟩ (by kernel_rfl) rfl
    (fun f fn hf hfn => by
      obtain rfl : f = 7 := Option.some.inj ((show Tryd.prog.funcNamed "loop.example/g00758/laws.FnExactIsWave" = some 7 by kernel_rfl).symm.trans hf) |>.symm
      obtain rfl : fn = Tryd.f7 := (Option.some.inj (Tryd.func7.symm.trans hfn)).symm
      exact ⟨by kernel_rfl, fun j t ht => by
        rw [Tryd.params7] at ht
        have hm : t ∈ [3, 3, 31] := by simpa using Array.mem_of_getElem? ht
        have hall : ([3, 3, 31].all fun u => !Tryd.prog.wantsStandIn u) = true := by kernel_rfl
        exact (show Tryd.prog.wantsStandIn t = false by simpa using List.all_eq_true.1 hall t hm)⟩)
    (by kernel_rfl)

#print axioms isWave_card
end Go.Proofs.YtfbpcdmpkbjifaaDoor
