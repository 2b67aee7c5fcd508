/- The program's directRows. -/
import Derived.Test.YtgnpgehekfhedaaDoorU609
import Derived.Test.YtgnpgehekfhedaaDoorU608
import Derived.Test.YtgnpgehekfhedaaDoorU605
import Derived.Test.YtgnpgehekfhedaaDoorU603
import Derived.Lib.AppendZerosOnto
import Derived.Lib.AppendZeros

namespace Go.Proofs.YtgnpgehekfhedaaDoor
open Go.RowKit

theorem ints_three_lt {w : World} {B : Nat} {A : Option Addr} {a b c : Int} (h : Ints w B A [a, b, c]) : ∃ p o, A = some ⟨p, o, none⟩ ∧ p < B ∧ w.cell? ⟨p, o, none⟩ = some (.int .i64 a) ∧ w.cell? ⟨p, o + 1, none⟩ = some (.int .i64 b) ∧ w.cell? ⟨p, o + 2, none⟩ = some (.int .i64 c) := by
  obtain ⟨p, o, e, hp, hc⟩ := h (by simp)
  exact ⟨p, o, e, hp, hc 0 a rfl, hc 1 b rfl, hc 2 c rfl⟩
/-- What a pair adds by its second symbol, and then by its first. -/
def E1 (D : Int → Int → Prop) (ny : Bool) (z l0 : Int) : Int → Int → Prop := fun l x => (x = z ∧ l = l0 ∧ ny = true) ∨ D l x
theorem E1_true {D : Int → Int → Prop} {z l0 : Int} (l x : Int) : E1 D true z l0 l x ↔ (x = z ∧ l = l0) ∨ D l x := by simp [E1]
theorem E1_false {D : Int → Int → Prop} {z l0 : Int} : tabF (E1 D false z l0) = tabF D := by funext x l; exact bP_congr (by simp [E1])
theorem E2_is {N : Int → Bool} {P O : List (List Int)} {k : Nat} {l0 y0 z0 : Int} (h : P[k]? = some [l0, y0, z0]) : tabF (E1 (E1 (D2 N P O k) (N y0) z0 l0) (N z0) y0 l0) = tabF (D2 N P O (k + 1)) := by
  funext x l
  refine bP_congr ?_
  rw [D2_step h]
  unfold E1
  constructor
  · rintro (h | h | h)
    · exact .inl (.inl h)
    · exact .inl (.inr h)
    · exact .inr h
  · rintro ((h | h) | h)
    · exact .inl h
    · exact .inr (.inl h)
    · exact .inr (.inr h)

/-- The table of a good binary grammar. -/
def GaveTab (w : World) (s : Bs) (e : Ending) (w' : World) : Prop :=
  ∃ N, e = .returned (.agg (tabA (tabF (DirB N s.P s.O)))) ∧ IsLeast wayNull noS (bRules s.P s.O s.E) N ∧ Below w.heap.size w w'

set_option maxRecDepth 20000 in
set_option maxHeartbeats 2000000 in
theorem directRows_any (b : Bi) (w : World) (hx : ReadB w w.heap.size b) (hm : LenB 1048576 b) (ht : b.P.length + b.O.length + b.E.length ≤ 1048576) (hf : FitB b.say) (hg : GoodBs b.say) :
    Calls Tryd.prog 79 #[(.agg #[.int .i64 b.n, .int .i64 b.t, .slice b.Ap b.P.length b.cp, .slice b.Ao b.O.length b.co, .slice b.Ae b.E.length b.ce, .slice b.Af b.F.length b.cf])] w (GaveTab w b.say) := by
  have HX := Lib.hid hx; clear hx
  have HM := Lib.hid hm
  have HG := Lib.hid hg
  have HF := Lib.hid hf
  have HZ := Lib.hid info_tab
  have HS := Lib.hid size_tab
  have HSM := Lib.hid (smallB hg ht hf)
  have hP := hm.p
  have hO := hm.o
  clear hm hg ht hf
  have HBA : Hid (Below w.heap.size w (((w.alloc (.cells #[.int .i64 b.n, .int .i64 b.t, .slice b.Ap b.P.length b.cp, .slice b.Ao b.O.length b.co, .slice b.Ae b.E.length b.ce, .slice b.Af b.F.length b.cf] 29)).alloc (.cells (tabA fun _ _ => false) 99)).alloc (.cells (tabA fun _ _ => false) 99))) := by show Below _ _ _; go_grown
  have B0 : Hid (Box6 (((w.alloc (.cells #[.int .i64 b.n, .int .i64 b.t, .slice b.Ap b.P.length b.cp, .slice b.Ao b.O.length b.co, .slice b.Ae b.E.length b.ce, .slice b.Af b.F.length b.cf] 29)).alloc (.cells (tabA fun _ _ => false) 99)).alloc (.cells (tabA fun _ _ => false) 99)) w.heap.size b) := (((Box6.new w b 29).keep ((Below.refl _ _).alloc (Nat.le_refl _) _) (by simp)).keep ((Below.refl _ _).alloc (Nat.le_refl _) _) (by simp; omega))
  have R0 : Hid (Row (((w.alloc (.cells #[.int .i64 b.n, .int .i64 b.t, .slice b.Ap b.P.length b.cp, .slice b.Ao b.O.length b.co, .slice b.Ae b.E.length b.ce, .slice b.Af b.F.length b.cf] 29)).alloc (.cells (tabA fun _ _ => false) 99)).alloc (.cells (tabA fun _ _ => false) 99)) (w.heap.size + 1) 99 (tabA fun _ _ => false)) := by
    have h := Row.new (w.alloc (.cells #[.int .i64 b.n, .int .i64 b.t, .slice b.Ap b.P.length b.cp, .slice b.Ao b.O.length b.co, .slice b.Ae b.E.length b.ce, .slice b.Af b.F.length b.cf] 29)) 99 (tabA fun _ _ => false)
    rw [World.size_alloc] at h
    exact h.alloc _
  have R1 : Hid (Row (((w.alloc (.cells #[.int .i64 b.n, .int .i64 b.t, .slice b.Ap b.P.length b.cp, .slice b.Ao b.O.length b.co, .slice b.Ae b.E.length b.ce, .slice b.Af b.F.length b.cf] 29)).alloc (.cells (tabA fun _ _ => false) 99)).alloc (.cells (tabA fun _ _ => false) 99)) (w.heap.size + 2) 99 (tabA (tabF (D1 b.say.O 0)))) := by
    have h := Row.new ((w.alloc (.cells #[.int .i64 b.n, .int .i64 b.t, .slice b.Ap b.P.length b.cp, .slice b.Ao b.O.length b.co, .slice b.Ae b.E.length b.ce, .slice b.Af b.F.length b.cf] 29)).alloc (.cells (tabA fun _ _ => false) 99)) 99 (tabA fun _ _ => false)
    rw [World.size_alloc, World.size_alloc] at h
    rw [show tabF (D1 b.say.O 0) = fun _ _ => false from funext fun x => funext fun l => bP_f fun ⟨j, hj, _⟩ => by omega]
    exact h
  have hz3 : w.heap.size + 3 = (((w.alloc (.cells #[.int .i64 b.n, .int .i64 b.t, .slice b.Ap b.P.length b.cp, .slice b.Ao b.O.length b.co, .slice b.Ae b.E.length b.ce, .slice b.Af b.F.length b.cf] 29)).alloc (.cells (tabA fun _ _ => false) 99)).alloc (.cells (tabA fun _ _ => false) 99)).heap.size := by simp
  go_enter Tryd.func79, Tryd.ntmps79
  go_wp2_with (first
    | with_reducible refine wpList_boxA rfl 29 (.tmp 0) rfl #[.int .i64 b.n, .int .i64 b.t, .slice b.Ap b.P.length b.cp, .slice b.Ao b.O.length b.co, .slice b.Ae b.E.length b.ce, .slice b.Af b.F.length b.cf] rfl ?_
    | with_reducible refine wpList_allocA rfl 99 rfl (tabA fun _ _ => false) 1760 HZ.out ?_)
  generalize (((w.alloc (.cells #[.int .i64 b.n, .int .i64 b.t, .slice b.Ap b.P.length b.cp, .slice b.Ao b.O.length b.co, .slice b.Ae b.E.length b.ce, .slice b.Af b.F.length b.cf] 29)).alloc (.cells (tabA fun _ _ => false) 99)).alloc (.cells (tabA fun _ _ => false) 99)) = W at HBA B0 R0 R1 hz3 ⊢
  refine (binaryRules_any b w.heap.size W HBA.out.size (HX.out.keep HBA.out) HM.out (goodB_long HG.out)).mono ?_
  rintro e w2 ⟨v2, rs2, rfl, hO2, hD2, hB2⟩
  have hsz1 := HBA.out.size
  obtain ⟨A2, c2, rfl, hcap2, hRl⟩ := rls_of hD2 rfl hO2 (hB2.mono hsz1) (Nat.le_trans hsz1 hB2.size)
  have HRl := Lib.hid hRl
  have HSY := Lib.hid hD2.say
  have HB2 := Lib.hid hB2
  clear hO2 hD2 hB2 hRl
  go_wp2_with fail
  refine (nullB_any A2 c2 rs2 w2 HRl.out (by rw [HSY.out]; exact HSM.out)).mono ?_
  rintro e w3 ⟨q, N, rfl, hq, hS, hI, hB3⟩
  have HSN := Lib.hid hS
  have HI : Hid (IsLeast wayNull noS (bRules b.say.P b.say.O b.say.E) N) := by rw [HSY.out] at hI; exact hI
  have hq3 : w.heap.size + 3 ≤ q := by have := HB2.out.size; omega
  have HBW : Hid (Below W.heap.size W w3) := HB2.out.trans (hB3.mono HB2.out.size)
  have HB3 := Lib.hid (HBA.out.trans (HBW.out.mono hsz1))
  have B3 := Lib.hid (B0.out.keep HBW.out (by omega))
  have R03 := Lib.hid (R0.out.below HBW.out R0.out.lt)
  have R13 := Lib.hid (R1.out.below HBW.out R1.out.lt)
  clear hS hI hB3 HSY HRl HB2 B0 R0 R1 HBA HSM hcap2
  obtain ⟨_, _, _, b2, b3, _, _⟩ := B3.out
  have hw3 : w.heap.size + 3 ≤ w3.heap.size := by have := HBW.out.size; omega
  clear HBW
  go_wp2
  clear b2 b3
  go_loopw [15] (fun i wr => ∃ (k : Nat), k ≤ b.O.length ∧ i = .int .i64 k ∧ Hid (Save (· = w.heap.size + 2) w3 wr) ∧ Hid (Row wr (w.heap.size + 2) 99 (tabA (tabF (D1 b.say.O k))))) (fun i _ => b.O.length - (intOf i).toNat)
  case atStart => exact ⟨0, by omega, rfl, Save.refl _ _, R13.out⟩
  case round =>
    clear R13
    obtain ⟨k, hk, rfl, HV, HR⟩ := hrel
    by_cases hlt : k < b.O.length
    · have HBR : Hid (Below w.heap.size w wr) := HB3.out.trans (HV.out.below HB3.out.size fun i hi => by omega)
      have HBD : Hid (Below w.heap.size w wr.drew) := HBR.out.drew
      have HVD : Hid (Save (· = w.heap.size + 2) w3 wr.drew) := HV.out.drew
      have HRD : Hid (Row wr.drew (w.heap.size + 2) 99 (tabA (tabF (D1 b.say.O k)))) := HR.out
      obtain ⟨bb, oo, eA, hbb, d1, _, hI⟩ := (HX.out.2.1.keep HBR.out).at_ hlt
      have hsay : b.say.O[k]? = some b.O[k].r := sayL_at hlt
      obtain ⟨l, x, er, hnl, hsx⟩ := good_one HG.out hsay
      rw [er] at hI hsay d1
      clear er
      obtain ⟨pp, po, ea, c0, c1⟩ := ints_two hI
      rw [ea] at d1
      rw [eA]
      clear hI ea eA
      obtain ⟨m, hm, hme⟩ := sym_row hsx HG.out.1.2 HG.out.2.1.2
      obtain ⟨j, hj, rfl⟩ := non_row hnl HG.out.1.2
      have hj2 : (j : Int) < 40 := by omega
      have HST := Lib.hid (tabF_set (D1_step hsay))
      generalize b.O[k].c = uc at d1
      clear hnl hsx hsay
      have hxm : x = (m : Int) - 4 := by omega
      have c2 := HR.out.cell (m * 40 + j)
      rw [tabA_at _ hm hj] at c2
      have f2 := HR.out.frozen (m * 40 + j)
      have HR' : Hid (Row (wr.drew.setCell ⟨w.heap.size + 2, m * 40 + j, none⟩ (.bool true)) (w.heap.size + 2) 99 (tabA (tabF (D1 b.say.O (k + 1))))) := by
        have h := HRD.out.set (m * 40 + j) (.bool true)
        rw [tabA_set _ hm hj, ← hxm, HST.out] at h
        exact h
      have HV' : Hid (Save (· = w.heap.size + 2) w3 (wr.drew.setCell ⟨w.heap.size + 2, m * 40 + j, none⟩ (.bool true))) := HVD.out.setCell rfl _
      have HC := Lib.hid (of_any (w.heap.size + 2) m x wr.drew hm hme)
      clear HRD HVD HST hxm HBR HBD HR HV
      go_wp2_with fail
      refine wp_region_still_tail 9 (by kernel_rfl) (by kernel_rfl) ?_
      simp only [List.take_succ_cons, List.take_zero, List.drop_succ_cons, List.drop_zero]
      repeat still_step
      still_call HC.out
      repeat still_step
      refine wpStill_nil ?_
      change wpList _ _ _ _ _ wr.drew
      go_wp2
      go_roundw
      case rel => exact ⟨k + 1, by omega, by go_num, HV'.out, HR'.out⟩
      case measure => simp [intOf]; omega
    · obtain rfl : k = b.O.length := by omega
      have HBR : Hid (Below w.heap.size w wr) := HB3.out.trans (HV.out.below HB3.out.size fun i hi => by omega)
      have B4 : Hid (Box6 wr w.heap.size b) := B3.out.keep (B := w.heap.size + 1) (HV.out.below (by omega) fun i hi => by omega) (Nat.lt_succ_self _)
      have R1 : Hid (Row wr (w.heap.size + 2) 99 (tabA (tabF (D2 N b.say.P b.say.O 0)))) := by
        have h := HR.out
        rw [show b.O.length = b.say.O.length from sayL_len.symm, D2_zero (N := N) (P := b.say.P)] at h
        exact h
      obtain ⟨_, _, _, b2, b3, _, _⟩ := B4.out
      clear HR HBR
      obtain ⟨wA, hwA⟩ : ∃ x, x = wr := ⟨_, rfl⟩
      subst hwA
      go_wp2
      clear b2 b3
      go_loopw [32] (fun i wr => ∃ (k : Nat), k ≤ b.P.length ∧ i = .int .i64 k ∧ Hid (Save (· = w.heap.size + 2) w3 wr) ∧ Hid (Row wr (w.heap.size + 2) 99 (tabA (tabF (D2 N b.say.P b.say.O k))))) (fun i _ => b.P.length - (intOf i).toNat)
      case atStart => exact ⟨0, by omega, rfl, HV.out, R1.out⟩
      case round =>
        clear R1 HV B4
        obtain ⟨k, hk, rfl, HV, HR⟩ := hrel
        by_cases hlt : k < b.P.length
        · have HBR : Hid (Below w.heap.size w wr) := HB3.out.trans (HV.out.below HB3.out.size fun i hi => by omega)
          obtain ⟨bb, oo, eA, hbb, d1, _, hI⟩ := (HX.out.1.keep HBR.out).at_ hlt
          have hsay : b.say.P[k]? = some b.P[k].r := sayL_at hlt
          obtain ⟨l, y, z, er, hnl, hsy, hsz⟩ := good_pair HG.out hsay
          have hf2 := HF.out.1 _ (List.mem_of_getElem? hsay)
          rw [er] at hI hsay d1 hf2
          clear er
          have hfy := hf2 y (by simp)
          have hfz := hf2 z (by simp)
          obtain ⟨pp, po, ea, hpp, c0, c1, c2⟩ := ints_three_lt hI
          rw [ea] at d1
          rw [eA]
          clear hI ea eA hf2
          obtain ⟨my, hmy, hmye⟩ := sym_row hsy HG.out.1.2 HG.out.2.1.2
          obtain ⟨mz, hmz, hmze⟩ := sym_row hsz HG.out.1.2 HG.out.2.1.2
          obtain ⟨j, hj, rfl⟩ := non_row hnl HG.out.1.2
          have hj2 : (j : Int) < 40 := by omega
          have HST := Lib.hid (E2_is (N := N) (O := b.say.O) hsay)
          generalize b.P[k].c = uc at d1
          clear hnl hsy hsz hsay HBR
          have hl1 := (HSN.out.save HV.out (by omega)).look hfy
          generalize N y = ny at HST hl1
          cases ny
          · have hl2 := (HSN.out.save HV.out (by omega)).look hfz
            generalize N z = nz at HST hl2
            cases nz
            · have HR' : Hid (Row wr (w.heap.size + 2) 99 (tabA (tabF (D2 N b.say.P b.say.O (k + 1))))) := by rw [← HST.out, E1_false, E1_false]; exact HR.out
              go_wp2
              go_roundw
              case rel => exact ⟨k + 1, by omega, by go_num, HV.out, HR'.out⟩
              case measure => simp [intOf]; omega
            · go_wp2_with fail
              have q9 := HR.out.cell (my * 40 + j)
              rw [tabA_at _ hmy hj] at q9
              have f9 := HR.out.frozen (my * 40 + j)
              have hxm : y = (my : Int) - 4 := by omega
              have HR1 : Hid (Row (wr.drew.setCell ⟨w.heap.size + 2, my * 40 + j, none⟩ (.bool true)) (w.heap.size + 2) 99 (tabA (tabF (E1 (D2 N b.say.P b.say.O k) true y j)))) := by
                have h := HR.out.set (my * 40 + j) (.bool true)
                rw [tabA_set _ hmy hj, ← hxm, tabF_set (fun l x => E1_true l x)] at h
                exact h
              have HV1 : Hid (Save (· = w.heap.size + 2) w3 (wr.drew.setCell ⟨w.heap.size + 2, my * 40 + j, none⟩ (.bool true))) := HV.out.drew.setCell rfl _
              have HC := Lib.hid (of_any (w.heap.size + 2) my y wr.drew hmy hmye)
              have hB1 : Below w.heap.size wr (wr.drew.setCell ⟨w.heap.size + 2, my * 40 + j, none⟩ (.bool true)) := ((Below.refl _ _).drew).setCell (by simp) _
              have g0 := (hB1.cell (p := ⟨pp, po, none⟩) hpp).trans c0
              have g1 := (hB1.cell (p := ⟨pp, po + 1, none⟩) hpp).trans c1
              have g2 := (hB1.cell (p := ⟨pp, po + 2, none⟩) hpp).trans c2
              clear HR HV hxm hB1
              refine wp_region_still_tail 9 (by kernel_rfl) (by kernel_rfl) ?_
              simp only [List.take_succ_cons, List.take_zero, List.drop_succ_cons, List.drop_zero]
              repeat still_step
              still_call HC.out
              repeat still_step
              refine wpStill_nil ?_
              change wpList _ _ _ _ _ wr.drew
              clear HC
              have HR' : Hid (Row (wr.drew.setCell ⟨w.heap.size + 2, my * 40 + j, none⟩ (.bool true)) (w.heap.size + 2) 99 (tabA (tabF (D2 N b.say.P b.say.O (k + 1))))) := by
                rw [← HST.out, show tabF (E1 (E1 (D2 N b.say.P b.say.O k) false z j) true y j) = tabF (E1 (D2 N b.say.P b.say.O k) true y j) from by funext x l; exact bP_congr (by simp [E1])]
                exact HR1.out
              go_wp2
              go_roundw
              case rel => exact ⟨k + 1, by omega, by go_num, HV1.out, HR'.out⟩
              case measure => simp [intOf]; omega
          · go_wp2_with fail
            have q9 := HR.out.cell (mz * 40 + j)
            rw [tabA_at _ hmz hj] at q9
            have f9 := HR.out.frozen (mz * 40 + j)
            have hxm : z = (mz : Int) - 4 := by omega
            have HR1 : Hid (Row (wr.drew.setCell ⟨w.heap.size + 2, mz * 40 + j, none⟩ (.bool true)) (w.heap.size + 2) 99 (tabA (tabF (E1 (D2 N b.say.P b.say.O k) true z j)))) := by
              have h := HR.out.set (mz * 40 + j) (.bool true)
              rw [tabA_set _ hmz hj, ← hxm, tabF_set (fun l x => E1_true l x)] at h
              exact h
            have HV1 : Hid (Save (· = w.heap.size + 2) w3 (wr.drew.setCell ⟨w.heap.size + 2, mz * 40 + j, none⟩ (.bool true))) := HV.out.drew.setCell rfl _
            have HC := Lib.hid (of_any (w.heap.size + 2) mz z wr.drew hmz hmze)
            have hB1 : Below w.heap.size wr (wr.drew.setCell ⟨w.heap.size + 2, mz * 40 + j, none⟩ (.bool true)) := ((Below.refl _ _).drew).setCell (by simp) _
            have g0 := (hB1.cell (p := ⟨pp, po, none⟩) hpp).trans c0
            have g1 := (hB1.cell (p := ⟨pp, po + 1, none⟩) hpp).trans c1
            have g2 := (hB1.cell (p := ⟨pp, po + 2, none⟩) hpp).trans c2
            clear HR HV hxm hB1
            refine wp_region_still_tail 9 (by kernel_rfl) (by kernel_rfl) ?_
            simp only [List.take_succ_cons, List.take_zero, List.drop_succ_cons, List.drop_zero]
            repeat still_step
            still_call HC.out
            repeat still_step
            refine wpStill_nil ?_
            change wpList _ _ _ _ _ wr.drew
            clear HC
            have hl2 := (HSN.out.save HV1.out (by omega)).look hfz
            refine wpList_ranS (w' := wr.drew.setCell ⟨w.heap.size + 2, mz * 40 + j, none⟩ (.bool true)) rfl (by go_simp) ?_
            generalize (wr.drew.setCell ⟨w.heap.size + 2, mz * 40 + j, none⟩ (.bool true)) = W1 at *
            clear c0 c1 c2
            refine wpList_nil ?_
            generalize N z = nz at HST hl2
            cases nz
            · have HR' : Hid (Row W1 (w.heap.size + 2) 99 (tabA (tabF (D2 N b.say.P b.say.O (k + 1))))) := by rw [← HST.out, E1_false]; exact HR1.out
              go_wp2
              go_roundw
              case rel => exact ⟨k + 1, by omega, by go_num, HV1.out, HR'.out⟩
              case measure => simp [intOf]; omega
            · go_wp2_with fail
              have HR := HR1
              have HV := HV1
              clear HR1 HV1 q9 f9
              have q9 := HR.out.cell (my * 40 + j)
              rw [tabA_at _ hmy hj] at q9
              have f9 := HR.out.frozen (my * 40 + j)
              have hxm : y = (my : Int) - 4 := by omega
              have HR1 : Hid (Row (W1.drew.setCell ⟨w.heap.size + 2, my * 40 + j, none⟩ (.bool true)) (w.heap.size + 2) 99 (tabA (tabF (E1 (E1 (D2 N b.say.P b.say.O k) true z j) true y j)))) := by
                have h := HR.out.set (my * 40 + j) (.bool true)
                rw [tabA_set _ hmy hj, ← hxm, tabF_set (fun l x => E1_true l x)] at h
                exact h
              have HV1 : Hid (Save (· = w.heap.size + 2) w3 (W1.drew.setCell ⟨w.heap.size + 2, my * 40 + j, none⟩ (.bool true))) := HV.out.drew.setCell rfl _
              have HC := Lib.hid (of_any (w.heap.size + 2) my y W1.drew hmy hmye)
              clear HR HV hxm
              refine wp_region_still_tail 9 (by kernel_rfl) (by kernel_rfl) ?_
              simp only [List.take_succ_cons, List.take_zero, List.drop_succ_cons, List.drop_zero]
              repeat still_step
              still_call HC.out
              repeat still_step
              refine wpStill_nil ?_
              change wpList _ _ _ _ _ W1.drew
              clear HC
              rw [HST.out] at HR1
              go_wp2
              go_roundw
              case rel => exact ⟨k + 1, by omega, by go_num, HV1.out, HR1.out⟩
              case measure => simp [intOf]; omega
        · obtain rfl : k = b.P.length := by omega
          have HRE : Hid (Row wr (w.heap.size + 2) 99 (tabA (tabF (DirB N b.say.P b.say.O)))) := by
            have h := HR.out
            rw [show b.P.length = b.say.P.length from sayL_len.symm, D2_end] at h
            exact h
          have HR0 : Hid (Row wr (w.heap.size + 1) 99 (tabA fun _ _ => false)) := R03.out.save HV.out (by omega)
          have HBR : Hid (Below w.heap.size w wr) := HB3.out.trans (HV.out.below HB3.out.size fun i hi => by omega)
          generalize hT : tabF (DirB N b.say.P b.say.O) = T at HRE
          have HR2 := Lib.hid (HR0.out.setRow (tabA T))
          have HB2 := Lib.hid (below_setRow HBR.out (Nat.le_succ w.heap.size) (tabA T))
          have HCC : Hid (∀ (j : Nat) (v : Value), (tabA T)[j]? = some v → wr.cell? ⟨w.heap.size + 2, 0 + j, none⟩ = some v) := fun j v hv => by rw [Nat.zero_add, HRE.out.cell]; exact hv
          clear HR
          go_wp2_with (first
            | with_reducible refine wpList_loadA rfl 99 (.tmp 3) rfl (w.heap.size + 2) 0 rfl (tabA T) 44 97 Tryd.underlying99 (HS.out _) HCC.out ?_
            | with_reducible refine wpList_storeA rfl 99 (.tmp 2) (.tmp 65) rfl (w.heap.size + 1) (tabA T) rfl rfl 99 (tabA fun _ _ => false) HR0.out (HS.out _) (by rw [tabA_size, tabA_size]) (tabA_all _) ?_)
          refine bodyPost_ret (v := .agg (tabA T)) ?_ rfl ⟨N, by rw [← hT], HI.out, HB2.out⟩
          exact results_cell_row Tryd.results79 _ _ (w.heap.size + 1) 99 (tabA T) (0, 0) _ rfl HR2.out Tryd.underlying99 rfl (HS.out _)

end Go.Proofs.YtgnpgehekfhedaaDoor

/- The program's unitRow, UnitRow, ClosedSet. -/

namespace Go.Proofs.YtgnpgehekfhedaaDoor
open Go.RowKit

/-- S is all that stands for one of what a base gives, in a binary grammar. -/
def PUp (s : Bs) (base : (Int → Int → Prop) → Int → Bool) (S : Int → Bool) : Prop := ∃ N, IsLeast wayNull noS (bRules s.P s.O s.E) N ∧ IsUp (DirB N s.P s.O) (base (DirB N s.P s.O)) S
theorem PUp.unique {s : Bs} {base : (Int → Int → Prop) → Int → Bool} {S T : Int → Bool} (h : PUp s base S) (k : PUp s base T) : S = T := by
  obtain ⟨N, h1, h2⟩ := h
  obtain ⟨M, k1, k2⟩ := k
  have e := h1.unique k1
  subst e
  exact h2.unique k2

theorem DT6_tab (D : Int → Int → Prop) : DT6 (tabF D) = D := by
  funext l x
  exact propext ⟨bP_is, bP_t⟩
theorem dirB_fit {s : Bs} (h : GoodBs s) (N : Int → Bool) (x : Int) : Fit40 (tabF (DirB N s.P s.O) x) := fun l hl => by
  have hl : DirB N s.P s.O l x := bP_is hl
  have hn := h.1.2
  rcases hl with h1 | ⟨y, h1, _⟩ | ⟨y, h1, _⟩
  · obtain ⟨k, e⟩ := List.mem_iff_getElem?.1 h1
    obtain ⟨l', x', e', h2, _⟩ := good_one h e
    injection e' with e1 _
    subst e1
    have := nonB_is h2
    omega
  all_goals
    obtain ⟨k, e⟩ := List.mem_iff_getElem?.1 h1
    obtain ⟨l', y', z', e', h2, _⟩ := good_pair h e
    injection e' with e1 _
    subst e1
    have := nonB_is h2
    omega

theorem ints_oneU (w : World) (x : Int) (B : Nat) (hB : w.heap.size < B) : Ints (w.alloc (.cells #[.int .i64 x] 3)) B (some ⟨w.heap.size, 0, none⟩) [x] := fun _ => ⟨w.heap.size, 0, rfl, hB, fun k y hy => by
  rcases k with _ | k
  · simp at hy
    subst hy
    simp [go_sem]
  · simp at hy⟩

set_option maxRecDepth 20000 in
set_option maxHeartbeats 1000000 in
theorem unitRow_any (K : Nat) (D : Int → Int → Prop) (m : Nat) (x : Int) (w : World) (hT : TabC w K (tabF D)) (hfT : ∀ x, Fit40 (tabF D x)) (hm : m < 44) (hmx : 4 + x = (m : Int)) :
    Calls Tryd.prog 90 #[.pointer (some ⟨K, 0, none⟩), .int .i64 x] w fun e w' => ∃ S, e = .returned (.agg (rowA S)) ∧ Fit40 S ∧ IsUp D (rowOf D x) S ∧ Below w.heap.size w w' := by
  have HZ := Lib.hid info_row
  have HS := Lib.hid size_row
  have HT := Lib.hid hT; clear hT
  have HFT := Lib.hid hfT; clear hfT
  have HB0 : Hid (Below w.heap.size w (w.alloc (.cells (rowA noS) 97))) := by show Below _ _ _; go_grown
  have HR0 : Hid (Row (w.alloc (.cells (rowA noS) 97)) w.heap.size 97 (rowA noS)) := Row.new _ _ _
  go_enter Tryd.func90, Tryd.ntmps90
  by_cases hneg : x < 0
  · have HE : Hid (tabF D x = rowOf D x) := by
      show _ = _
      funext l
      exact bP_congr (by rw [if_pos hneg])
    go_wp2_with (with_reducible refine wpList_allocA rfl 97 rfl (rowA noS) 40 HZ.out ?_)
    generalize w.alloc (.cells (rowA noS) 97) = W at HB0 HR0 ⊢
    refine (of_any K m x W hm hmx).mono ?_
    rintro e w1 ⟨rfl, rfl⟩
    have HTC : Hid (∀ (j : Nat) (v : Value), (rowA (tabF D x))[j]? = some v → w1.cell? ⟨K, m * 40 + j, none⟩ = some v) := (HT.out.keep HB0.out HT.out.1).2 m x hm hmx
    go_wp2_with (first
      | with_reducible refine wpList_loadA rfl 97 (.tmp 11) rfl K (m * 40) rfl (rowA (tabF D x)) 40 4 Tryd.underlying97 (HS.out _) HTC.out ?_)
    refine (closed_any K (tabF D) (tabF D x) w1 (HT.out.keep HB0.out HT.out.1) HFT.out (HFT.out x)).mono ?_
    rintro e w2 ⟨S, rfl, hfS, hU, hB2⟩
    rw [DT6_tab, HE.out] at hU
    have hs := HB0.out.size
    have HR2 := Lib.hid (HR0.out.below hB2 HR0.out.lt)
    have HB2 := Lib.hid (HB0.out.trans (hB2.mono hs))
    have HR3 := Lib.hid (HR2.out.setRow (rowA S))
    have HB3 := Lib.hid (below_setRow HB2.out (Nat.le_refl w.heap.size) (rowA S))
    have HU := Lib.hid hU
    have HFS := Lib.hid hfS
    clear hU hB2 HTC hfS
    go_wp2_with (first
      | with_reducible refine wpList_storeA rfl 97 (.tmp 4) (.tmp 13) rfl w.heap.size (rowA S) rfl rfl 97 (rowA noS) HR2.out (HS.out _) (by rw [rowA_size, rowA_size]) (rowA_all _) ?_)
    refine bodyPost_ret (v := .agg (rowA S)) ?_ rfl ⟨S, rfl, HFS.out, HU.out, HB3.out⟩
    exact results_cell_row Tryd.results90 _ _ w.heap.size 97 (rowA S) (0, 0) _ rfl HR3.out Tryd.underlying97 rfl (HS.out _)
  · have HE : Hid ((fun y => [x].contains y) = rowOf D x) := by
      show _ = _
      funext l
      unfold rowOf
      rw [if_neg hneg]
      cases hb : bP (l = x)
      · have := bP_no hb
        simp [this]
      · have := bP_is hb
        simp [this]
    have HBI : Hid (Below w.heap.size w ((w.alloc (.cells (rowA noS) 97)).alloc (.cells #[.int .i64 x] 3))) := by show Below _ _ _; go_grown
    have HRI : Hid (Row ((w.alloc (.cells (rowA noS) 97)).alloc (.cells #[.int .i64 x] 3)) w.heap.size 97 (rowA noS)) := HR0.out.alloc _
    have HII : Hid (Ints ((w.alloc (.cells (rowA noS) 97)).alloc (.cells #[.int .i64 x] 3)) ((w.alloc (.cells (rowA noS) 97)).alloc (.cells #[.int .i64 x] 3)).heap.size (some ⟨w.heap.size + 1, 0, none⟩) [x]) := by
      have h := ints_oneU (w.alloc (.cells (rowA noS) 97)) x ((w.alloc (.cells (rowA noS) 97)).alloc (.cells #[.int .i64 x] 3)).heap.size (by simp)
      simp only [World.size_alloc] at h ⊢
      exact h
    go_wp2_with (with_reducible refine wpList_allocA rfl 97 rfl (rowA noS) 40 HZ.out ?_)
    generalize (w.alloc (.cells (rowA noS) 97)).alloc (.cells #[.int .i64 x] 3) = W at HBI HRI HII ⊢
    refine (rowWith_any (some ⟨w.heap.size + 1, 0, none⟩) 1 [x] W HII.out (by simp; omega) (by simp)).mono ?_
    rintro e w1 ⟨rfl, hB1⟩
    have hs := HBI.out.size
    have HB1 := Lib.hid (HBI.out.trans (hB1.mono hs))
    have HR1 := Lib.hid (HRI.out.below hB1 HRI.out.lt)
    rw [HE.out]
    clear hB1 HII HB0 HR0
    go_wp2_with fail
    refine (closed_any K (tabF D) (rowOf D x) w1 (HT.out.keep HB1.out HT.out.1) HFT.out (fun l hl => by
      have h := bP_is hl
      rw [if_neg (by omega)] at h
      omega)).mono ?_
    rintro e w2 ⟨S, rfl, hfS, hU, hB2⟩
    rw [DT6_tab] at hU
    have hs1 := HB1.out.size
    have HR2 := Lib.hid (HR1.out.below hB2 HR1.out.lt)
    have HB2 := Lib.hid (HB1.out.trans (hB2.mono hs1))
    have HR3 := Lib.hid (HR2.out.setRow (rowA S))
    have HB3 := Lib.hid (below_setRow HB2.out (Nat.le_refl w.heap.size) (rowA S))
    have HU := Lib.hid hU
    have HFS := Lib.hid hfS
    clear hU hB2 hfS
    go_wp2_with (first
      | with_reducible refine wpList_storeA rfl 97 (.tmp 4) (.tmp 18) rfl w.heap.size (rowA S) rfl rfl 97 (rowA noS) HR2.out (HS.out _) (by rw [rowA_size, rowA_size]) (rowA_all _) ?_)
    refine bodyPost_ret (v := .agg (rowA S)) ?_ rfl ⟨S, rfl, HFS.out, HU.out, HB3.out⟩
    exact results_cell_row Tryd.results90 _ _ w.heap.size 97 (rowA S) (0, 0) _ rfl HR3.out Tryd.underlying97 rfl (HS.out _)

end Go.Proofs.YtgnpgehekfhedaaDoor

/- The program's UnitRow and ClosedSet. -/

namespace Go.Proofs.YtgnpgehekfhedaaDoor
open Go.RowKit

theorem gaveP_none {w : World} {g : Bool} {P : (Int → Bool) → Prop} {w' : World} (hg : g = false) (hB : Below w.heap.size w w') : GaveP w g P (.returned (.tuple #[.slice none 0 0, .bool false])) w' := by
  subst hg
  exact ⟨[], fun h => (by cases h), fun _ => rfl, by simp, none, 0, rfl, .inl rfl, hB⟩
theorem gaveP_some {w : World} {g : Bool} {P : (Int → Bool) → Prop} {w' : World} {S : Int → Bool} {A : Option Addr} {c : Nat} (hg : g = true) (hS : P S) (hf : Fit40 S) (hO : OwnI w' w.heap.size A (upK S 40)) (hB : Below w.heap.size w w') :
    GaveP w g P (.returned (.tuple #[.slice A (upK S 40).length c, .bool true])) w' := by
  subst hg
  exact ⟨upK S 40, fun _ => ⟨S, hS, upK_rises S 40, fun x => ⟨fun h => ((upK_mem S 40 x).1 h).1, fun h => (upK_mem S 40 x).2 ⟨h, hf x h⟩⟩⟩, fun h => (by cases h), upK_len S 40, A, c, rfl, hO, hB⟩

set_option maxRecDepth 20000 in
set_option maxHeartbeats 1000000 in
theorem implUnitRow_any (b : Bi) (x : Int) (w : World) (hx : ReadB w w.heap.size b) (hL : Lims w) (hm : LenB 1048576 b) (ht : b.P.length + b.O.length + b.E.length ≤ 1048576) (hf : FitB b.say) (hxf : F64 x) :
    Calls Tryd.prog 36 #[(.agg #[.int .i64 b.n, .int .i64 b.t, .slice b.Ap b.P.length b.cp, .slice b.Ao b.O.length b.co, .slice b.Ae b.E.length b.ce, .slice b.Af b.F.length b.cf]), .int .i64 x] w (GaveP w (bP (GoodBs b.say ∧ symB b.n b.t x = true)) (PUp b.say fun D => rowOf D x)) := by
  have HX := Lib.hid hx; clear hx
  have HL := Lib.hid hL; clear hL
  have HF := Lib.hid hf; clear hf
  have HM := Lib.hid hm; clear hm
  have HZ := Lib.hid info_tab
  have HS := Lib.hid size_tab
  unfold F64 at hxf
  have HB0 : Hid (Below w.heap.size w (w.alloc (.cells #[.int .i64 b.n, .int .i64 b.t, .slice b.Ap b.P.length b.cp, .slice b.Ao b.O.length b.co, .slice b.Ae b.E.length b.ce, .slice b.Af b.F.length b.cf] 29))) := by show Below _ _ _; go_grown
  have B0 := Lib.hid (Box6.new w b 29)
  have HC := Lib.hid (implGoodB_any b (w.alloc (.cells #[.int .i64 b.n, .int .i64 b.t, .slice b.Ap b.P.length b.cp, .slice b.Ao b.O.length b.co, .slice b.Ae b.E.length b.ce, .slice b.Af b.F.length b.cf] 29)) ((HX.out.keep HB0.out).more HB0.out.size) (HL.out.keep HB0.out (Nat.le_refl _)) HM.out HF.out)
  go_enter Tryd.func36, Tryd.ntmps36
  go_wp2_with fail
  refine HC.out.mono ?_
  rintro e w1 ⟨rfl, hB1⟩
  have B1 := Lib.hid (B0.out.keep hB1 B0.out.1)
  have HB1 := Lib.hid (HB0.out.trans (hB1.mono HB0.out.size)); clear hB1
  clear B0 HB0 HC
  obtain ⟨_, b0, b1, b2, b3, b4, b5⟩ := B1.out
  cases hg : bP (GoodBs b.say)
  · have HG : Hid (bP (GoodBs b.say ∧ symB b.n b.t x = true) = false) := bP_f fun h => bP_no hg h.1
    clear hg
    go_wp2
    go_ret2
    exact gaveP_none HG.out HB1.out
  have HGB : Hid (GoodBs b.say) := bP_is hg
  clear hg
  go_wp2_with fail
  refine (symbolsOf_any b w1).mono ?_
  rintro e w2 ⟨rfl, hB2⟩
  have hs1 := HB1.out.size
  have B2 := Lib.hid (B1.out.keep hB2 B1.out.1)
  have HB2 := Lib.hid (HB1.out.trans (hB2.mono hs1)); clear hB2
  clear B1 HB1 b0 b1 b2 b3 b4 b5
  obtain ⟨_, b0, b1, b2, b3, b4, b5⟩ := B2.out
  go_wp2_with fail
  refine (isSymbol_any b.n b.t x none 0 0 w2 hxf.1 (by omega)).mono ?_
  rintro e w3 ⟨rfl, hB3⟩
  have hs2 := HB2.out.size
  have B3 := Lib.hid (B2.out.keep hB3 B2.out.1)
  have HB3 := Lib.hid (HB2.out.trans (hB3.mono hs2)); clear hB3
  clear B2 HB2 b0 b1 b2 b3 b4 b5
  obtain ⟨_, b0, b1, b2, b3, b4, b5⟩ := B3.out
  cases hsy : symB b.n b.t x
  · have HG : Hid (bP (GoodBs b.say ∧ symB b.n b.t x = true) = false) := bP_f fun h => by rw [hsy] at h; exact absurd h.2 (by simp)
    clear hsy
    go_wp2
    go_ret2
    exact gaveP_none HG.out HB3.out
  have HG : Hid (bP (GoodBs b.say ∧ symB b.n b.t x = true) = true) := bP_t ⟨HGB.out, hsy⟩
  obtain ⟨m, hm, hmx⟩ := sym_row hsy HGB.out.1.2 HGB.out.2.1.2
  clear hsy
  go_wp2_with fail
  refine (directRows_any b w3 ((HX.out.keep HB3.out).more HB3.out.size) HM.out ht HF.out HGB.out).mono ?_
  rintro e w4 ⟨N, rfl, hN, hB4⟩
  have hs3 := HB3.out.size
  have HB4 := Lib.hid (HB3.out.trans (hB4.mono hs3)); clear hB4
  have HN := Lib.hid hN; clear hN
  have HFT := Lib.hid (dirB_fit HGB.out N)
  generalize hD : DirB N b.say.P b.say.O = D at HFT
  have HDD := Lib.hid hD; clear hD
  have hs4 := HB4.out.size
  clear B3 HB3 b0 b1 b2 b3 b4 b5
  have HRN : Hid (Row (w4.alloc (.cells (tabA fun _ _ => false) 99)) w4.heap.size 99 (tabA fun _ _ => false)) := Row.new _ _ _
  have HB5 : Hid (Below w.heap.size w ((w4.alloc (.cells (tabA fun _ _ => false) 99)).setRow w4.heap.size (tabA (tabF D)))) := below_setRow (HB4.out.alloc hs4 _) hs4 _
  have HT5 : Hid (TabC ((w4.alloc (.cells (tabA fun _ _ => false) 99)).setRow w4.heap.size (tabA (tabF D))) w4.heap.size (tabF D)) := (HRN.out.setRow _).tab
  go_wp2_with (first
    | with_reducible refine wpList_allocA rfl 99 rfl (tabA fun _ _ => false) 1760 HZ.out ?_
    | with_reducible refine wpList_storeA rfl 99 (.tmp 6) (.tmp 18) rfl w4.heap.size (tabA (tabF D)) rfl rfl 99 (tabA fun _ _ => false) HRN.out (HS.out _) (by rw [tabA_size, tabA_size]) (tabA_all _) ?_)
  generalize (w4.alloc (.cells (tabA fun _ _ => false) 99)).setRow w4.heap.size (tabA (tabF D)) = W5 at HB5 HT5 ⊢
  generalize w4.heap.size = K at HT5 ⊢
  clear HRN HB4
  refine (unitRow_any K D m x W5 HT5.out HFT.out hm hmx).mono ?_
  rintro e w6 ⟨S, rfl, hfS, hU, hB6⟩
  have hs5 := HB5.out.size
  have HB6 := Lib.hid (HB5.out.trans (hB6.mono hs5)); clear hB6
  have HFS := Lib.hid hfS; clear hfS
  have HU : Hid (PUp b.say (fun D => rowOf D x) S) := ⟨N, HN.out, by rw [HDD.out]; exact hU⟩
  clear hU
  go_wp2_with fail
  refine (rowList_any S w6).mono ?_
  rintro e w7 ⟨A7, c7, rfl, _, hO7, hB7⟩
  have hs6 := HB6.out.size
  have HB7 := Lib.hid (HB6.out.trans (hB7.mono hs6)); clear hB7
  have HO7 := Lib.hid (hO7.lower hs6); clear hO7
  go_wp2
  go_ret2
  exact gaveP_some HG.out HU.out HFS.out HO7.out HB7.out

end Go.Proofs.YtgnpgehekfhedaaDoor

/- The program's HasUnitRound. -/

namespace Go.Proofs.YtgnpgehekfhedaaDoor
open Go.RowKit

/-- Whether some nonterminal of a binary grammar stands for itself by a step or more. -/
def QRound (s : Bs) (x ok : Bool) : Prop := (GoodBs s → ok = true ∧ ∃ N, IsLeast wayNull noS (bRules s.P s.O s.E) N ∧ (x = true ↔ RoundD (DirB N s.P s.O))) ∧ (¬ GoodBs s → x = false ∧ ok = false)
theorem QRound.unique {s : Bs} {x y a b : Bool} (h : QRound s x a) (k : QRound s y b) : x = y ∧ a = b := by
  by_cases hg : GoodBs s
  · obtain ⟨rfl, N, h1, h2⟩ := h.1 hg
    obtain ⟨rfl, M, k1, k2⟩ := k.1 hg
    have e := h1.unique k1
    subst e
    refine ⟨?_, rfl⟩
    cases x <;> cases y <;> simp_all
  · exact ⟨(h.2 hg).1.trans (k.2 hg).1.symm, (h.2 hg).2.trans (k.2 hg).2.symm⟩

theorem dirB_sym {s : Bs} (h : GoodBs s) {N : Int → Bool} {l x : Int} (hd : DirB N s.P s.O l x) : nonB s.n l = true ∧ symB s.n s.t x = true := by
  rcases hd with h1 | ⟨y, h1, _⟩ | ⟨y, h1, _⟩
  · obtain ⟨k, e⟩ := List.mem_iff_getElem?.1 h1
    obtain ⟨l', x', e', h2, h3⟩ := good_one h e
    simp at e'
    rw [e'.1, e'.2]
    exact ⟨h2, h3⟩
  all_goals
    obtain ⟨k, e⟩ := List.mem_iff_getElem?.1 h1
    obtain ⟨l', y', z', e', h2, h3, h4⟩ := good_pair h e
    simp at e'
    obtain ⟨rfl, rfl, rfl⟩ := e'
    first | exact ⟨h2, h3⟩ | exact ⟨h2, h4⟩

set_option maxRecDepth 20000 in
set_option maxHeartbeats 1000000 in
theorem implHasUnitRound_any (b : Bi) (w : World) (hx : ReadB w w.heap.size b) (hL : Lims w) (hm : LenB 1048576 b) (ht : b.P.length + b.O.length + b.E.length ≤ 1048576) (hf : FitB b.say) :
    Calls Tryd.prog 40 #[(.agg #[.int .i64 b.n, .int .i64 b.t, .slice b.Ap b.P.length b.cp, .slice b.Ao b.O.length b.co, .slice b.Ae b.E.length b.ce, .slice b.Af b.F.length b.cf])] w (GaveXB w (QRound b.say)) := by
  have HX := Lib.hid hx; clear hx
  have HL := Lib.hid hL; clear hL
  have HF := Lib.hid hf; clear hf
  have HM := Lib.hid hm; clear hm
  have HZ := Lib.hid info_tab
  have HS := Lib.hid size_tab
  have HSR := Lib.hid size_row
  have HB0 : Hid (Below w.heap.size w (w.alloc (.cells #[.int .i64 b.n, .int .i64 b.t, .slice b.Ap b.P.length b.cp, .slice b.Ao b.O.length b.co, .slice b.Ae b.E.length b.ce, .slice b.Af b.F.length b.cf] 29))) := by show Below _ _ _; go_grown
  have B0 := Lib.hid (Box6.new w b 29)
  have HC := Lib.hid (implGoodB_any b (w.alloc (.cells #[.int .i64 b.n, .int .i64 b.t, .slice b.Ap b.P.length b.cp, .slice b.Ao b.O.length b.co, .slice b.Ae b.E.length b.ce, .slice b.Af b.F.length b.cf] 29)) ((HX.out.keep HB0.out).more HB0.out.size) (HL.out.keep HB0.out (Nat.le_refl _)) HM.out HF.out)
  go_enter Tryd.func40, Tryd.ntmps40
  go_wp2_with fail
  refine HC.out.mono ?_
  rintro e w1 ⟨rfl, hB1⟩
  have B1 := Lib.hid (B0.out.keep hB1 B0.out.1)
  have HB1 := Lib.hid (HB0.out.trans (hB1.mono HB0.out.size)); clear hB1
  clear B0 HB0 HC
  obtain ⟨_, b0, b1, b2, b3, b4, b5⟩ := B1.out
  cases hg : bP (GoodBs b.say)
  · have HG : Hid (QRound b.say false false) := ⟨fun h => absurd h (bP_no hg), fun _ => ⟨rfl, rfl⟩⟩
    clear hg
    go_wp2
    go_ret2
    exact ⟨false, false, HG.out, rfl, HB1.out⟩
  have HGB : Hid (GoodBs b.say) := bP_is hg
  clear hg
  go_wp2_with fail
  refine (directRows_any b w1 ((HX.out.keep HB1.out).more HB1.out.size) HM.out ht HF.out HGB.out).mono ?_
  rintro e w4 ⟨N, rfl, hN, hB4⟩
  have hs3 := HB1.out.size
  have B4 := Lib.hid (B1.out.keep hB4 B1.out.1)
  have HB4 := Lib.hid (HB1.out.trans (hB4.mono hs3)); clear hB4
  have HN := Lib.hid hN; clear hN
  have HFT := Lib.hid (dirB_fit HGB.out N)
  generalize hD : DirB N b.say.P b.say.O = D at HFT
  have HDD := Lib.hid hD; clear hD
  have hs4 := HB4.out.size
  clear B1 HB1 b0 b1 b2 b3 b4 b5
  have HRN : Hid (Row (w4.alloc (.cells (tabA fun _ _ => false) 99)) w4.heap.size 99 (tabA fun _ _ => false)) := Row.new _ _ _
  have HB5 : Hid (Below w.heap.size w ((w4.alloc (.cells (tabA fun _ _ => false) 99)).setRow w4.heap.size (tabA (tabF D)))) := below_setRow (HB4.out.alloc hs4 _) hs4 _
  have HT5 : Hid (TabC ((w4.alloc (.cells (tabA fun _ _ => false) 99)).setRow w4.heap.size (tabA (tabF D))) w4.heap.size (tabF D)) := (HRN.out.setRow _).tab
  have B5 : Hid (Box6 ((w4.alloc (.cells (tabA fun _ _ => false) 99)).setRow w4.heap.size (tabA (tabF D))) w.heap.size b) := B4.out.keep (below_setRow ((Below.refl w4.heap.size w4).alloc (Nat.le_refl _) _) (Nat.le_refl _) _) B4.out.1
  obtain ⟨_, b0, b1, b2, b3, b4, b5⟩ := B5.out
  go_wp2_with (first
    | with_reducible refine wpList_allocA rfl 99 rfl (tabA fun _ _ => false) 1760 HZ.out ?_
    | with_reducible refine wpList_storeA rfl 99 (.tmp 4) (.tmp 10) rfl w4.heap.size (tabA (tabF D)) rfl rfl 99 (tabA fun _ _ => false) HRN.out (HS.out _) (by rw [tabA_size, tabA_size]) (tabA_all _) ?_)
  generalize (w4.alloc (.cells (tabA fun _ _ => false) 99)).setRow w4.heap.size (tabA (tabF D)) = W5 at *
  generalize w4.heap.size = K at HT5 ⊢
  clear HRN HB4 B4
  have hn1 : 1 ≤ b.n := HGB.out.1.1
  have hn2 : b.n ≤ 40 := HGB.out.1.2
  go_loopw [13] (fun i wr => ∃ (k : Nat), (k : Int) ≤ b.n ∧ i = .int .i64 k ∧ Hid (Below w.heap.size w wr) ∧ Hid (TabC wr K (tabF D)) ∧ Hid (∀ (j : Nat) (l : Int), j < k → D l j → ¬ Ups D l j)) (fun i _ => 40 - (intOf i).toNat)
  case atStart => exact ⟨0, by omega, rfl, HB5.out, HT5.out, fun j l h => absurd h (by omega)⟩
  case round =>
    clear HB5 HT5 B5 b0 b1 b2 b3 b4 b5
    obtain ⟨k, hk, rfl, HB, HT, HNO⟩ := hrel
    by_cases hlt : (k : Int) < b.n
    · have hk40 : k < 40 := by omega
      go_wp2_with fail
      refine (of_any K (k + 4) k wr (by omega) (by omega)).mono ?_
      rintro e w5 ⟨rfl, rfl⟩
      have HTC : Hid (∀ (j : Nat) (v : Value), (rowA (tabF D k))[j]? = some v → w5.cell? ⟨K, (k + 4) * 40 + j, none⟩ = some v) := HT.out.2 (k + 4) k (by omega) (by omega)
      go_wp2_with (first
        | with_reducible refine wpList_loadA rfl 97 (.tmp 18) rfl K ((k + 4) * 40) rfl (rowA (tabF D k)) 40 4 Tryd.underlying97 (HSR.out _) HTC.out ?_)
      refine (closed_any K (tabF D) (tabF D k) w5 HT.out HFT.out (HFT.out k)).mono ?_
      rintro e w6 ⟨S, rfl, hfS, hU, hB6⟩
      rw [DT6_tab] at hU
      have HRU := Lib.hid (round_up (x := k) hU)
      have hsz := HB.out.size
      have HB6 := Lib.hid (HB.out.trans (hB6.mono hsz))
      have HT6 := Lib.hid (HT.out.keep hB6 HT.out.1)
      have HV := Lib.hid (rowA_at S hk40)
      clear hU hB6 hfS HTC
      cases hsk : S k
      · rw [hsk] at HV HRU
        have HNO' : Hid (∀ (j : Nat) (l : Int), j < k + 1 → D l j → ¬ Ups D l j) := fun j l hj hd hu => by
          by_cases e : j = k
          · subst e
            exact absurd (HRU.out.2 ⟨l, hd, hu⟩) (by simp)
          · exact HNO.out j l (by omega) hd hu
        clear hsk
        go_wp2_with (first
          | with_reducible refine wpList_indexA rfl 97 (.tmp 20) (.tmp 21) rfl (rowA S) rfl k rfl 40 4 hk40 _ HV.out Tryd.underlying97 _ Tryd.underlying4 rfl (by kernel_rfl) ?_)
        go_roundw
        case rel => exact ⟨k + 1, by omega, by go_num, HB6.out, HT6.out, HNO'.out⟩
        case measure => simp [intOf]; omega
      · rw [hsk] at HV HRU
        obtain ⟨l, hd, hu⟩ := HRU.out.1 rfl
        have HQ : Hid (QRound b.say true true) := ⟨fun _ => ⟨rfl, N, HN.out, fun _ => by rw [HDD.out]; exact ⟨l, k, hd, by omega, hu⟩, fun _ => rfl⟩, fun h => absurd HGB.out h⟩
        clear hsk hd hu
        go_wp2_with (first
          | with_reducible refine wpList_indexA rfl 97 (.tmp 20) (.tmp 21) rfl (rowA S) rfl k rfl 40 4 hk40 _ HV.out Tryd.underlying97 _ Tryd.underlying4 rfl (by kernel_rfl) ?_)
        go_ret2
        exact ⟨true, true, HQ.out, rfl, HB6.out⟩
    · have HQ : Hid (QRound b.say false true) := ⟨fun _ => ⟨rfl, N, HN.out, fun h => (by cases h), fun h => by
          rw [HDD.out] at h
          obtain ⟨l, x, hd, hx, hu⟩ := h
          have hs := of_decide_eq_true (dirB_sym HGB.out (HDD.out ▸ hd : DirB N b.say.P b.say.O l x)).2
          have hxn : x < b.n := by have : b.say.n = b.n := rfl; omega
          obtain ⟨j, rfl⟩ : ∃ j : Nat, x = (j : Int) := ⟨x.toNat, by omega⟩
          exact absurd hu (HNO.out j l (by omega) hd)⟩, fun h => absurd HGB.out h⟩
      go_wp2
      go_ret2
      exact ⟨false, true, HQ.out, rfl, HB.out⟩

end Go.Proofs.YtgnpgehekfhedaaDoor

/- The program's UnitRows. -/

namespace Go.Proofs.YtgnpgehekfhedaaDoor
open Go.RowKit

/-- The rows of the first k symbols, from -t on. -/
def RowsTo (D : Int → Int → Prop) (t : Int) (xs : List (List Int)) (k : Nat) : Prop := xs.length = k ∧ ∀ (j : Nat) (r : List Int), xs[j]? = some r → ∃ S, Fit40 S ∧ IsUp D (rowOf D ((j : Int) - t)) S ∧ r = upK S 40
theorem RowsTo.zero (D : Int → Int → Prop) (t : Int) : RowsTo D t [] 0 := ⟨rfl, fun j r h => by simp at h⟩
theorem RowsTo.step {D : Int → Int → Prop} {t : Int} {xs : List (List Int)} {k : Nat} (h : RowsTo D t xs k) {S : Int → Bool} {x : Int} (hx : x = (k : Int) - t) (hf : Fit40 S) (hS : IsUp D (rowOf D x) S) : RowsTo D t (xs ++ [upK S 40]) (k + 1) := by
  refine ⟨by simp [h.1], fun j r hr => ?_⟩
  by_cases e : j < xs.length
  · rw [List.getElem?_append_left e] at hr
    exact h.2 j r hr
  · have hj : j = k := by have := (List.getElem?_eq_some_iff.1 hr).1; simp at this; have := h.1; omega
    subst hj
    rw [List.getElem?_append_right (by omega), show j - xs.length = 0 by have := h.1; omega] at hr
    simp at hr
    exact ⟨S, hf, hx ▸ hS, hr.symm⟩
theorem RowsTo.unique {D : Int → Int → Prop} {t : Int} {xs ys : List (List Int)} {k : Nat} (h : RowsTo D t xs k) (h' : RowsTo D t ys k) : xs = ys := by
  apply List.ext_getElem?
  intro j
  by_cases hj : j < k
  · have h1 := List.getElem?_eq_getElem (l := xs) (i := j) (by have := h.1; omega)
    have h2 := List.getElem?_eq_getElem (l := ys) (i := j) (by have := h'.1; omega)
    obtain ⟨S, _, hS, e⟩ := h.2 j _ h1
    obtain ⟨T, _, hT, e'⟩ := h'.2 j _ h2
    rw [h1, h2, e, e', hS.unique hT]
  · rw [List.getElem?_eq_none (by have := h.1; omega), List.getElem?_eq_none (by have := h'.1; omega)]
theorem RowsTo.short {D : Int → Int → Prop} {t : Int} {xs : List (List Int)} {k : Nat} (h : RowsTo D t xs k) : ∀ r ∈ xs, r.length ≤ 40 := fun r hr => by
  obtain ⟨j, hj⟩ := List.mem_iff_getElem?.1 hr
  obtain ⟨S, _, _, rfl⟩ := h.2 j r hj
  exact upK_len S 40

/-- A new list of lists of which P holds, where g; else none. -/
def GaveLP (w : World) (g : Bool) (P : List (List Int) → Prop) (e : Ending) (w' : World) : Prop :=
  ∃ xs, (g = true → P xs) ∧ (g = false → xs = []) ∧ GaveLB w xs g e w'
theorem gaveLP_none {w : World} {g : Bool} {P : List (List Int) → Prop} {w' : World} (hg : g = false) (hB : Below w.heap.size w w') : GaveLP w g P (.returned (.tuple #[.slice none 0 0, .bool false])) w' := by
  subst hg
  exact ⟨[], fun h => (by cases h), fun _ => rfl, none, 0, [], rfl, Nat.le_refl _, .inl rfl, rfl, hB⟩
theorem gaveLP_some {w : World} {g : Bool} {P : List (List Int) → Prop} {w' : World} {v : Value} {ds : List Li} {lo : Nat} (hg : g = true) (hP : P (sayL ds)) (hL : ListsW w' lo v ds) (hlo : w.heap.size ≤ lo) (hB : Below w.heap.size w w') : GaveLP w g P (.returned (.tuple #[v, .bool true])) w' := by
  subst hg
  obtain ⟨A, c, rfl, hc, hO⟩ := hL.slice
  exact ⟨sayL ds, fun _ => hP, fun h => (by cases h), A, c, ds, rfl, hc, hO.lower hlo, rfl, hB⟩

/-- All unit rows of a binary grammar. -/
def PRows (s : Bs) (xs : List (List Int)) : Prop := ∃ N, IsLeast wayNull noS (bRules s.P s.O s.E) N ∧ RowsTo (DirB N s.P s.O) s.t xs (s.n + s.t).toNat
theorem PRows.unique {s : Bs} {xs ys : List (List Int)} (h : PRows s xs) (k : PRows s ys) : xs = ys := by
  obtain ⟨N, h1, h2⟩ := h
  obtain ⟨M, k1, k2⟩ := k
  have e := h1.unique k1
  subst e
  exact h2.unique k2

set_option maxRecDepth 20000 in
set_option maxHeartbeats 1000000 in
theorem implUnitRows_any (b : Bi) (w : World) (hx : ReadB w w.heap.size b) (hL : Lims w) (hm : LenB 1048576 b) (ht : b.P.length + b.O.length + b.E.length ≤ 1048576) (hf : FitB b.say) :
    Calls Tryd.prog 38 #[(.agg #[.int .i64 b.n, .int .i64 b.t, .slice b.Ap b.P.length b.cp, .slice b.Ao b.O.length b.co, .slice b.Ae b.E.length b.ce, .slice b.Af b.F.length b.cf])] w (GaveLP w (bP (GoodBs b.say)) (PRows b.say)) := by
  have HX := Lib.hid hx; clear hx
  have HL := Lib.hid hL; clear hL
  have HF := Lib.hid hf; clear hf
  have HM := Lib.hid hm; clear hm
  have HZ := Lib.hid info_tab
  have HS := Lib.hid size_tab
  have HSR := Lib.hid size_row
  obtain ⟨i0, hi0, hz0, hz1, hz2⟩ := info_of Tryd.infoIntS
  have HB0 : Hid (Below w.heap.size w (w.alloc (.cells #[.int .i64 b.n, .int .i64 b.t, .slice b.Ap b.P.length b.cp, .slice b.Ao b.O.length b.co, .slice b.Ae b.E.length b.ce, .slice b.Af b.F.length b.cf] 29))) := by show Below _ _ _; go_grown
  have B0 := Lib.hid (Box6.new w b 29)
  have HC := Lib.hid (implGoodB_any b (w.alloc (.cells #[.int .i64 b.n, .int .i64 b.t, .slice b.Ap b.P.length b.cp, .slice b.Ao b.O.length b.co, .slice b.Ae b.E.length b.ce, .slice b.Af b.F.length b.cf] 29)) ((HX.out.keep HB0.out).more HB0.out.size) (HL.out.keep HB0.out (Nat.le_refl _)) HM.out HF.out)
  go_enter Tryd.func38, Tryd.ntmps38
  go_wp2_with fail
  refine HC.out.mono ?_
  rintro e w1 ⟨rfl, hB1⟩
  have B1 := Lib.hid (B0.out.keep hB1 B0.out.1)
  have HB1 := Lib.hid (HB0.out.trans (hB1.mono HB0.out.size)); clear hB1
  clear B0 HB0 HC
  obtain ⟨_, b0, b1, b2, b3, b4, b5⟩ := B1.out
  cases hg : bP (GoodBs b.say)
  · have HG := Lib.hid hg
    clear hg
    go_wp2
    go_ret2
    exact gaveLP_none HG.out HB1.out
  have HG := Lib.hid hg
  have HGB : Hid (GoodBs b.say) := bP_is hg
  clear hg
  go_wp2_with fail
  refine (directRows_any b w1 ((HX.out.keep HB1.out).more HB1.out.size) HM.out ht HF.out HGB.out).mono ?_
  rintro e w4 ⟨N, rfl, hN, hB4⟩
  have hs3 := HB1.out.size
  have B4 := Lib.hid (B1.out.keep hB4 B1.out.1)
  have HB4 := Lib.hid (HB1.out.trans (hB4.mono hs3)); clear hB4
  have HN := Lib.hid hN; clear hN
  have HFT := Lib.hid (dirB_fit HGB.out N)
  generalize hD : DirB N b.say.P b.say.O = D at HFT
  have HDD := Lib.hid hD; clear hD
  have hs4 := HB4.out.size
  clear B1 HB1 b0 b1 b2 b3 b4 b5
  have HRN : Hid (Row (w4.alloc (.cells (tabA fun _ _ => false) 99)) w4.heap.size 99 (tabA fun _ _ => false)) := Row.new _ _ _
  have HB5 : Hid (Below w.heap.size w ((w4.alloc (.cells (tabA fun _ _ => false) 99)).setRow w4.heap.size (tabA (tabF D)))) := below_setRow (HB4.out.alloc hs4 _) hs4 _
  have HT5 : Hid (TabC ((w4.alloc (.cells (tabA fun _ _ => false) 99)).setRow w4.heap.size (tabA (tabF D))) w4.heap.size (tabF D)) := (HRN.out.setRow _).tab
  have B5 : Hid (Box6 ((w4.alloc (.cells (tabA fun _ _ => false) 99)).setRow w4.heap.size (tabA (tabF D))) w.heap.size b) := B4.out.keep (below_setRow ((Below.refl w4.heap.size w4).alloc (Nat.le_refl _) _) (Nat.le_refl _) _) B4.out.1
  obtain ⟨_, b0, b1, b2, b3, b4, b5⟩ := B5.out
  go_wp2_with (first
    | with_reducible refine wpList_allocA rfl 99 rfl (tabA fun _ _ => false) 1760 HZ.out ?_
    | with_reducible refine wpList_storeA rfl 99 (.tmp 4) (.tmp 11) rfl w4.heap.size (tabA (tabF D)) rfl rfl 99 (tabA fun _ _ => false) HRN.out (HS.out _) (by rw [tabA_size, tabA_size]) (tabA_all _) ?_)
  generalize (w4.alloc (.cells (tabA fun _ _ => false) 99)).setRow w4.heap.size (tabA (tabF D)) = W5 at *
  generalize w4.heap.size = K at HT5 hs4 ⊢
  clear HRN HB4 B4
  have hn1 : 1 ≤ b.n := HGB.out.1.1
  have hn2 : b.n ≤ 40 := HGB.out.1.2
  have ht1 : 1 ≤ b.t := HGB.out.2.1.1
  have ht2 : b.t ≤ 4 := HGB.out.2.1.2
  go_loopw [5, 6] (fun v i wr => ∃ (k : Nat) (ds : List Li) (x : Int), (k : Int) ≤ b.n + b.t ∧ i = .int .i64 x ∧ (x ≤ (k : Int) - b.t ∧ (k : Int) - b.t ≤ x) ∧ Hid (Below w.heap.size w wr) ∧ Hid (Box6 wr w.heap.size b) ∧ Hid (TabC wr K (tabF D)) ∧ Hid (ListsW wr (K + 1) v ds) ∧ Hid (RowsTo D b.t (sayL ds) k)) (fun _ i _ => (40 - intOf i).toNat)
  case atStart => exact ⟨0, [], -b.t, by omega, by rw [show wrap64 (-b.t) = -b.t from by go_arith], ⟨by omega, by omega⟩, HB5.out, B5.out, HT5.out, ListsW.start _ _, RowsTo.zero _ _⟩
  case round =>
    clear HB5 HT5 B5 b0 b1 b2 b3 b4 b5
    obtain ⟨k, ds, x, hk, rfl, ⟨hxk1, hxk2⟩, HB, HBX, HT, HL, HRT⟩ := hrel
    obtain ⟨_, b0, _, _, _, _, _⟩ := HBX.out
    by_cases hlt : x < b.n
    · have hdl : ds.length ≤ 44 := by have := HRT.out.1; rw [sayL_len] at this; omega
      obtain ⟨m, hm, hmx⟩ : ∃ m : Nat, m < 44 ∧ 4 + x = (m : Int) := ⟨(4 + x).toNat, by omega, by omega⟩
      go_wp2_with fail
      refine (unitRow_any K D m x wr HT.out HFT.out hm hmx).mono ?_
      rintro e w5 ⟨S, rfl, hfS, hU, hB5⟩
      have HST := Lib.hid (HRT.out.step (x := x) (by omega) hfS hU)
      have hsz := HB.out.size
      have HB5 := Lib.hid hB5
      clear hB5 hfS hU
      go_wp2_with fail
      refine (rowList_any S w5).mono ?_
      rintro e w6 ⟨A6, c6, rfl, hcap6, hO6, hB6⟩
      have hs5 := HB5.out.size
      have HB6 : Hid (Below wr.heap.size wr w6) := HB5.out.trans (hB6.mono hs5)
      have HO6 := Lib.hid (hO6.lower hs5)
      clear hO6 hB6 HB5
      have hul := upK_len S 40
      generalize upK S 40 = rw_ at *
      have HWn : Hid ((w6.alloc (.cells #[.slice A6 rw_.length c6] 27)).ownsRow (K + 1) 27 1 _ ds.length (ds.map cellsL)) := (own_below HL.out.row HB6.out).alloc _
      have HNW := Lib.hid (one_new w6 (.slice A6 rw_.length c6) 27)
      have hs6 := HB6.out.size
      have hKr := HT.out.1
      go_wp2_with (at_builtin
                   refine wpList_append_lies _ rfl (.tmp 21) (.tmp 25) _ rfl (K + 1) 27 i0 _ 1 24 Tryd.underlying26 hi0 hz0 hz1 hz2 rfl (by omega) _ _ _ rfl HWn.out ⟨w6.heap.size, 0, none⟩ 1 1 [.slice A6 rw_.length c6] rfl rfl HNW.out (by intro u hu; simp at hu; subst hu; rfl) (by omega) (by unfold maxLen; omega) (by omega) (by simp; omega) _ rfl ?_
                   intro g7 cap7 w7 p1 p2 p3 p4
                   have HLN := Lib.hid (HL.out.pushI HB6.out hKr HO6.out hcap6 p1 p2)
                   have hB7 : Below (K + 1) wr w7 := ((HB6.out.mono hKr).alloc (by omega) _).grown p2 (by simp; omega) fun j hj => (HL.out.lt j hj).1
                   have HBN := Lib.hid (HB.out.trans (hB7.mono (by omega)))
                   have HXN := Lib.hid (HBX.out.keep hB7 (by omega))
                   have HTN := Lib.hid (HT.out.keep hB7 (Nat.lt_succ_self _))
                   have HSN : Hid (RowsTo D b.t (sayL (ds ++ [⟨A6, rw_, c6⟩])) (k + 1)) := by rw [sayL_snoc]; exact HST.out
                   clear p1 p2 p3 p4 hB7)
      go_roundw
      case rel => exact ⟨k + 1, _, x + 1, by omega, by go_num, ⟨by omega, by omega⟩, HBN.out, HXN.out, HTN.out, HLN.out, HSN.out⟩
      case measure => simp [intOf]; omega
    · have hk2 : k = (b.n + b.t).toNat := by omega
      have HP : Hid (PRows b.say (sayL ds)) := ⟨N, HN.out, by rw [HDD.out]; show RowsTo D b.t _ (b.n + b.t).toNat; rw [← hk2]; exact HRT.out⟩
      clear hk2
      go_wp2
      go_ret2
      exact gaveLP_some HG.out HP.out HL.out (by omega) HB.out

end Go.Proofs.YtgnpgehekfhedaaDoor

/- The program's UnitPairs. -/

namespace Go.Proofs.YtgnpgehekfhedaaDoor
open Go.RowKit

theorem own_newP2 (w : World) (a b : Int) : OwnI (w.alloc (.cells #[.int .i64 a, .int .i64 b] 3)) w.heap.size (some ⟨w.heap.size, 0, none⟩) [a, b] := by
  refine .inr ⟨w.heap.size, _, rfl, Nat.le_refl _, Row.new _ _ _, fun k x hx => ?_⟩
  rcases k with _ | _ | k
  · simpa using hx
  · simpa using hx
  · simp at hx

/-- The pairs that come ahead of a place, rising. -/
def PairsTo (D : Int → Int → Prop) (xs : List (List Int)) (a c : Int) : Prop := RisesL xs ∧ ∀ z, z ∈ xs ↔ ∃ l y, z = [l, y] ∧ D l y ∧ (l < a ∨ (l = a ∧ y < c))
theorem PairsTo.start {D : Int → Int → Prop} {t : Int} (hD : ∀ l y, D l y → 0 ≤ l ∧ -t ≤ y) : PairsTo D [] 0 (-t) := ⟨RisesL.nil, fun z => ⟨fun h => by simp at h, fun ⟨l, y, _, hd, h⟩ => by have := hD l y hd; omega⟩⟩
theorem PairsTo.no {D : Int → Int → Prop} {xs : List (List Int)} {a c : Int} (h : PairsTo D xs a c) (hn : ¬ D a c) : PairsTo D xs a (c + 1) := ⟨h.1, fun z => by
  rw [h.2]
  constructor
  · rintro ⟨l, y, e, hd, hl⟩
    exact ⟨l, y, e, hd, by omega⟩
  · rintro ⟨l, y, e, hd, hl⟩
    refine ⟨l, y, e, hd, ?_⟩
    rcases hl with hl | ⟨rfl, hl⟩
    · exact .inl hl
    · by_cases ey : y = c
      · subst ey; exact absurd hd hn
      · exact .inr ⟨rfl, by omega⟩⟩
theorem PairsTo.yes {D : Int → Int → Prop} {xs : List (List Int)} {a c : Int} (h : PairsTo D xs a c) (hd : D a c) : PairsTo D (xs ++ [[a, c]]) a (c + 1) := by
  refine ⟨List.pairwise_append.2 ⟨h.1, by simp, fun z hz u hu => ?_⟩, fun z => ?_⟩
  · rw [List.mem_singleton] at hu
    subst hu
    obtain ⟨l, y, rfl, _, hl⟩ := (h.2 z).1 hz
    simp only [cmpL]
    rcases hl with hl | ⟨rfl, hl⟩
    · rw [if_pos hl]; omega
    · rw [if_neg (by omega), if_neg (by omega), if_pos hl]; omega
  · rw [List.mem_append, List.mem_singleton, h.2]
    constructor
    · rintro (⟨l, y, e, h1, hl⟩ | rfl)
      · exact ⟨l, y, e, h1, by omega⟩
      · exact ⟨a, c, rfl, hd, .inr ⟨rfl, by omega⟩⟩
    · rintro ⟨l, y, rfl, h1, hl⟩
      by_cases e : l = a ∧ y = c
      · obtain ⟨rfl, rfl⟩ := e
        exact .inr rfl
      · exact .inl ⟨l, y, rfl, h1, by omega⟩
theorem PairsTo.next {D : Int → Int → Prop} {xs : List (List Int)} {a n t : Int} (hD : ∀ l y, D l y → -t ≤ y ∧ y < n) (h : PairsTo D xs a n) : PairsTo D xs (a + 1) (-t) := ⟨h.1, fun z => by
  rw [h.2]
  constructor
  · rintro ⟨l, y, e, hd, hl⟩
    exact ⟨l, y, e, hd, by omega⟩
  · rintro ⟨l, y, e, hd, hl⟩
    have := hD l y hd
    exact ⟨l, y, e, hd, by omega⟩⟩
theorem PairsTo.end_ {D : Int → Int → Prop} {xs : List (List Int)} {n c : Int} (hD : ∀ l y, D l y → l < n) (h : PairsTo D xs n c) : RisesL xs ∧ ∀ z, z ∈ xs ↔ ∃ l x, z = [l, x] ∧ D l x := ⟨h.1, fun z => by
  rw [h.2]
  constructor
  · rintro ⟨l, y, e, hd, hl⟩
    exact ⟨l, y, e, hd⟩
  · rintro ⟨l, y, e, hd⟩
    exact ⟨l, y, e, hd, .inl (hD l y hd)⟩⟩

/-- The pairs of a binary grammar, rising. -/
def PPairs (s : Bs) (xs : List (List Int)) : Prop := ∃ N, IsLeast wayNull noS (bRules s.P s.O s.E) N ∧ RisesL xs ∧ ∀ z, z ∈ xs ↔ ∃ l x, z = [l, x] ∧ DirB N s.P s.O l x
theorem PPairs.unique {s : Bs} {xs ys : List (List Int)} (h : PPairs s xs) (k : PPairs s ys) : xs = ys := by
  obtain ⟨N, h1, h2, h3⟩ := h
  obtain ⟨M, k1, k2, k3⟩ := k
  have e := h1.unique k1
  subst e
  exact risesL_unique h2 k2 fun z => (h3 z).trans (k3 z).symm

set_option maxRecDepth 20000 in
set_option maxHeartbeats 1000000 in
theorem implUnitPairs_any (b : Bi) (w : World) (hx : ReadB w w.heap.size b) (hL : Lims w) (hm : LenB 1048576 b) (ht : b.P.length + b.O.length + b.E.length ≤ 1048576) (hf : FitB b.say) :
    Calls Tryd.prog 28 #[(.agg #[.int .i64 b.n, .int .i64 b.t, .slice b.Ap b.P.length b.cp, .slice b.Ao b.O.length b.co, .slice b.Ae b.E.length b.ce, .slice b.Af b.F.length b.cf])] w (GaveLP w (bP (GoodBs b.say)) (PPairs b.say)) := by
  have HX := Lib.hid hx; clear hx
  have HL := Lib.hid hL; clear hL
  have HF := Lib.hid hf; clear hf
  have HM := Lib.hid hm; clear hm
  have HZ := Lib.hid info_tab
  have HS := Lib.hid size_tab
  have HSR := Lib.hid size_row
  obtain ⟨i0, hi0, hz0, hz1, hz2⟩ := info_of Tryd.infoIntS
  have HB0 : Hid (Below w.heap.size w (w.alloc (.cells #[.int .i64 b.n, .int .i64 b.t, .slice b.Ap b.P.length b.cp, .slice b.Ao b.O.length b.co, .slice b.Ae b.E.length b.ce, .slice b.Af b.F.length b.cf] 29))) := by show Below _ _ _; go_grown
  have B0 := Lib.hid (Box6.new w b 29)
  have HC := Lib.hid (implGoodB_any b (w.alloc (.cells #[.int .i64 b.n, .int .i64 b.t, .slice b.Ap b.P.length b.cp, .slice b.Ao b.O.length b.co, .slice b.Ae b.E.length b.ce, .slice b.Af b.F.length b.cf] 29)) ((HX.out.keep HB0.out).more HB0.out.size) (HL.out.keep HB0.out (Nat.le_refl _)) HM.out HF.out)
  go_enter Tryd.func28, Tryd.ntmps28
  go_wp2_with fail
  refine HC.out.mono ?_
  rintro e w1 ⟨rfl, hB1⟩
  have B1 := Lib.hid (B0.out.keep hB1 B0.out.1)
  have HB1 := Lib.hid (HB0.out.trans (hB1.mono HB0.out.size)); clear hB1
  clear B0 HB0 HC
  obtain ⟨_, b0, b1, b2, b3, b4, b5⟩ := B1.out
  cases hg : bP (GoodBs b.say)
  · have HG := Lib.hid hg
    clear hg
    go_wp2
    go_ret2
    exact gaveLP_none HG.out HB1.out
  have HG := Lib.hid hg
  have HGB : Hid (GoodBs b.say) := bP_is hg
  clear hg
  go_wp2_with fail
  refine (directRows_any b w1 ((HX.out.keep HB1.out).more HB1.out.size) HM.out ht HF.out HGB.out).mono ?_
  rintro e w4 ⟨N, rfl, hN, hB4⟩
  have hs3 := HB1.out.size
  have B4 := Lib.hid (B1.out.keep hB4 B1.out.1)
  have HB4 := Lib.hid (HB1.out.trans (hB4.mono hs3)); clear hB4
  have HN := Lib.hid hN; clear hN
  have HFT := Lib.hid (dirB_fit HGB.out N)
  generalize hD : DirB N b.say.P b.say.O = D at HFT
  have HDD := Lib.hid hD; clear hD
  have hs4 := HB4.out.size
  clear B1 HB1 b0 b1 b2 b3 b4 b5
  have HRN : Hid (Row (w4.alloc (.cells (tabA fun _ _ => false) 99)) w4.heap.size 99 (tabA fun _ _ => false)) := Row.new _ _ _
  have HB5 : Hid (Below w.heap.size w ((w4.alloc (.cells (tabA fun _ _ => false) 99)).setRow w4.heap.size (tabA (tabF D)))) := below_setRow (HB4.out.alloc hs4 _) hs4 _
  have HT5 : Hid (TabC ((w4.alloc (.cells (tabA fun _ _ => false) 99)).setRow w4.heap.size (tabA (tabF D))) w4.heap.size (tabF D)) := (HRN.out.setRow _).tab
  have B5 : Hid (Box6 ((w4.alloc (.cells (tabA fun _ _ => false) 99)).setRow w4.heap.size (tabA (tabF D))) w.heap.size b) := B4.out.keep (below_setRow ((Below.refl w4.heap.size w4).alloc (Nat.le_refl _) _) (Nat.le_refl _) _) B4.out.1
  obtain ⟨_, b0, b1, b2, b3, b4, b5⟩ := B5.out
  go_wp2_with (first
    | with_reducible refine wpList_allocA rfl 99 rfl (tabA fun _ _ => false) 1760 HZ.out ?_
    | with_reducible refine wpList_storeA rfl 99 (.tmp 4) (.tmp 12) rfl w4.heap.size (tabA (tabF D)) rfl rfl 99 (tabA fun _ _ => false) HRN.out (HS.out _) (by rw [tabA_size, tabA_size]) (tabA_all _) ?_)
  generalize (w4.alloc (.cells (tabA fun _ _ => false) 99)).setRow w4.heap.size (tabA (tabF D)) = W5 at *
  generalize w4.heap.size = K at HT5 hs4 ⊢
  clear HRN HB4 B4
  have hn1 : 1 ≤ b.n := HGB.out.1.1
  have hn2 : b.n ≤ 40 := HGB.out.1.2
  have hn1 : 1 ≤ b.n := HGB.out.1.1
  have hn2 : b.n ≤ 40 := HGB.out.1.2
  have ht1 : 1 ≤ b.t := HGB.out.2.1.1
  have ht2 : b.t ≤ 4 := HGB.out.2.1.2
  have HDB : Hid (∀ l y, D l y → (0 ≤ l ∧ l < b.n) ∧ (-b.t ≤ y ∧ y < b.n)) := fun l y hd => by
    have h := dirB_sym HGB.out (HDD.out ▸ hd : DirB N b.say.P b.say.O l y)
    have h1 := nonB_is h.1
    have h2 := of_decide_eq_true h.2
    have e1 : b.say.n = b.n := rfl
    have e2 : b.say.t = b.t := rfl
    omega
  go_loopw [5, 15] (fun v i wr => ∃ (k : Nat) (ds : List Li), (k : Int) ≤ b.n ∧ i = .int .i64 k ∧ ds.length ≤ k * 44 ∧ Hid (Below w.heap.size w wr) ∧ Hid (Box6 wr w.heap.size b) ∧ Hid (TabC wr K (tabF D)) ∧ Hid (ListsW wr (K + 1) v ds) ∧ Hid (PairsTo D (sayL ds) k (-b.t))) (fun _ i _ => (40 - intOf i).toNat)
  case atStart => exact ⟨0, [], by omega, rfl, by simp, HB5.out, B5.out, HT5.out, ListsW.start _ _, PairsTo.start fun l y hd => ⟨(HDB.out l y hd).1.1, (HDB.out l y hd).2.1⟩⟩
  case round =>
    clear HB5 HT5 B5 b0 b1 b2 b3 b4 b5
    obtain ⟨k, ds, hk, rfl, hdl, HB, HBX, HT, HL, HPT⟩ := hrel
    obtain ⟨_, b0, b1, _, _, _, _⟩ := HBX.out
    by_cases hlt : (k : Int) < b.n
    · have hk40 : k < 40 := by omega
      obtain ⟨wA, hwA⟩ : ∃ x, x = wr := ⟨_, rfl⟩
      subst hwA
      obtain ⟨fs, hfs⟩ : ∃ x, x = ds := ⟨_, rfl⟩
      subst hfs
      go_wp2_with fail
      clear b0 b1
      go_loopw [5, 7] (fun v i wr => ∃ (j : Nat) (ds : List Li) (x : Int), (j : Int) ≤ b.n + b.t ∧ i = .int .i64 x ∧ (x ≤ (j : Int) - b.t ∧ (j : Int) - b.t ≤ x) ∧ ds.length ≤ k * 44 + j ∧ Hid (Below w.heap.size w wr) ∧ Hid (Box6 wr w.heap.size b) ∧ Hid (TabC wr K (tabF D)) ∧ Hid (ListsW wr (K + 1) v ds) ∧ Hid (PairsTo D (sayL ds) k x)) (fun _ i _ => (40 - intOf i).toNat)
      case atStart => exact ⟨0, fs, -b.t, by omega, by first | rfl | rw [show wrap64 (-b.t) = -b.t from by go_arith], ⟨by omega, by omega⟩, by omega, HB.out, HBX.out, HT.out, HL.out, HPT.out⟩
      case round =>
        clear HB HBX HT HL HPT hdl
        obtain ⟨j, ds, x, hj, rfl, ⟨hx1, hx2⟩, hdl, HB, HBX, HT, HL, HPT⟩ := hrel
        obtain ⟨_, b0, _, _, _, _, _⟩ := HBX.out
        by_cases hxl : x < b.n
        · obtain ⟨m, hm, hmx⟩ : ∃ m : Nat, m < 44 ∧ 4 + x = (m : Int) := ⟨(4 + x).toNat, by omega, by omega⟩
          have c1 := HT.out.2 m x hm hmx k _ (rowA_at _ hk40)
          have hKr := HT.out.1
          go_wp2_with fail
          refine (of_any K m x wr hm hmx).mono ?_
          rintro e w5 ⟨rfl, rfl⟩
          cases hq : tabF D x k
          · rw [hq] at c1
            have HST := Lib.hid (HPT.out.no (bP_no hq))
            clear hq
            go_wp2
            go_roundw
            case rel => exact ⟨j + 1, ds, x + 1, by omega, by go_num, ⟨by omega, by omega⟩, by omega, HB.out, HBX.out, HT.out, HL.out, HST.out⟩
            case measure => simp [intOf]; omega
          · rw [hq] at c1
            have HST := Lib.hid (HPT.out.yes (bP_is hq))
            clear hq
            have hs5 := HB.out.size
            have HB6 : Hid (Below w5.heap.size w5 (w5.alloc (.cells #[.int .i64 k, .int .i64 x] 3))) := (Below.refl _ _).alloc (Nat.le_refl _) _
            have HO6 := Lib.hid (own_newP2 w5 k x)
            have HWn : Hid (((w5.alloc (.cells #[.int .i64 k, .int .i64 x] 3)).alloc (.cells #[.slice (some ⟨w5.heap.size, 0, none⟩) 2 2] 27)).ownsRow (K + 1) 27 1 _ ds.length (ds.map cellsL)) := (own_below HL.out.row HB6.out).alloc _
            have HNW : Hid (∀ j u, ([.slice (some ⟨w5.heap.size, 0, none⟩) 2 2] : List Value)[j]? = some u → ((w5.alloc (.cells #[.int .i64 k, .int .i64 x] 3)).alloc (.cells #[.slice (some ⟨w5.heap.size, 0, none⟩) 2 2] 27)).cell? ((⟨w5.heap.size + 1, 0, none⟩ : Addr).add j) = some u) := by
              have h := one_new (w5.alloc (.cells #[.int .i64 k, .int .i64 x] 3)) (.slice (some ⟨w5.heap.size, 0, none⟩) 2 2) 27
              rw [World.size_alloc] at h
              exact h
            go_wp2_with (at_builtin
                         refine wpList_append_lies _ rfl (.tmp 33) (.tmp 37) _ rfl (K + 1) 27 i0 _ 1 24 Tryd.underlying26 hi0 hz0 hz1 hz2 rfl (by omega) _ _ _ rfl HWn.out ⟨w5.heap.size + 1, 0, none⟩ 1 1 [.slice (some ⟨w5.heap.size, 0, none⟩) 2 2] rfl rfl HNW.out (by intro u hu; simp at hu; subst hu; rfl) (by omega) (by unfold maxLen; omega) (by omega) (by simp; omega) _ rfl ?_
                         intro g7 cap7 w7 p1 p2 p3 p4
                         have HLN := Lib.hid (HL.out.pushI (xs := [(k : Int), x]) (c := 2) HB6.out hKr HO6.out (by simp) p1 p2)
                         have hB7 : Below (K + 1) w5 w7 := ((HB6.out.mono hKr).alloc (by simp; omega) _).grown p2 (by simp; omega) fun j hj => (HL.out.lt j hj).1
                         have HBN := Lib.hid (HB.out.trans (hB7.mono (by omega)))
                         have HXN := Lib.hid (HBX.out.keep hB7 (by omega))
                         have HTN := Lib.hid (HT.out.keep hB7 (Nat.lt_succ_self _))
                         have HSN : Hid (PairsTo D (sayL (ds ++ [⟨some ⟨w5.heap.size, 0, none⟩, [(k : Int), x], 2⟩])) k (x + 1)) := by rw [sayL_snoc]; exact HST.out
                         clear p1 p2 p3 p4 hB7)
            go_roundw
            case rel => exact ⟨j + 1, _, x + 1, by omega, by go_num, ⟨by omega, by omega⟩, by simp; omega, HBN.out, HXN.out, HTN.out, HLN.out, HSN.out⟩
            case measure => simp [intOf]; omega
        · obtain rfl : x = b.n := by omega
          have HST := Lib.hid (HPT.out.next fun l y hd => (HDB.out l y hd).2)
          go_wp2
          go_roundw
          case rel => exact ⟨k + 1, ds, by omega, by go_num, by omega, HB.out, HBX.out, HT.out, HL.out, HST.out⟩
          case measure => simp [intOf]; omega
    · have hk2 : (k : Int) = b.n := by omega
      have HP : Hid (PPairs b.say (sayL ds)) := ⟨N, HN.out, by rw [HDD.out]; exact (hk2 ▸ HPT.out : PairsTo D (sayL ds) b.n (-b.t)).end_ fun l y hd => (HDB.out l y hd).1.2⟩
      clear hk2
      go_wp2
      go_ret2
      exact gaveLP_some HG.out HP.out HL.out (by omega) HB.out

end Go.Proofs.YtgnpgehekfhedaaDoor

/- slices.Grow of nothing, and slices.Concat, at lists of numbers. -/

namespace Go.Proofs.YtgnpgehekfhedaaDoor
open Go.RowKit

set_option maxRecDepth 20000 in
set_option maxHeartbeats 1000000 in
theorem growNil_any (n : Nat) (hn : n ≤ 1048576) (w : World) :
    Calls Tryd.prog 180 #[.slice none 0 0, .int .i64 (n : Int)] w fun e w' => ∃ v, e = .returned v ∧ w'.ownsRow w.heap.size 3 1 v 0 [] ∧ Below w.heap.size w w' := by
  obtain ⟨i0, hi0, hz0, hz1, hz2⟩ := info_of Tryd.infoInt
  by_cases h0 : n = 0
  · subst h0
    go_enter Tryd.func180, Tryd.ntmps180
    go_wp2
    go_ret
    exact ⟨_, rfl, ⟨rfl, .inl ⟨rfl, rfl⟩⟩, Below.refl _ _⟩
  · have hrz : ∀ ty, (Builtin.append_ #[27, 3] ty #[.slice none 0 0, .int .i64 (n : Int)]).run Tryd.prog w =
        .ok (.slice (some ⟨w.heap.size, 0, none⟩) n (grownCap w n 0 3)) (w.drew.alloc (.cells (([] : List Value).toArray ++ Builtin.zeroCells (Value.int .i64 0).cells n ++ Builtin.zeroCells (Value.int .i64 0).cells (grownCap w n 0 3 - n)) 3)) := fun ty => by
      have h := Lib.run_append_grow_zeros (P := Tryd.prog) w 27 3 ty 3 i0 (.int .i64 0) .i64 .i64 Tryd.underlying27 Tryd.underlying3 hi0 hz0 none 0 0 [] (run_firstCells_none w.drew i0.size 0 0 0) n (by omega) (by rw [hz1]; omega) (by omega) (by omega) (by rw [hz2]; omega) (growslice_fits (by omega) (by rw [hz2]; omega))
      rw [Nat.zero_add] at h
      exact h
    have hge : n ≤ grownCap w n 0 3 := grownCap_ge w _ _ _
    have hle := grownCap_le_maxLen w n 0 3 (by unfold maxLen; omega)
    unfold maxLen at hle
    have HO : Hid (∀ G, n ≤ G → G ≤ maxLen → (w.drew.alloc (.cells (([] : List Value).toArray ++ Builtin.zeroCells (Value.int .i64 0).cells n ++ Builtin.zeroCells (Value.int .i64 0).cells (G - n)) 3)).ownsRow w.heap.size 3 1 (.slice (some ⟨w.heap.size, 0, none⟩) 0 G) 0 []) := fun G h1 h2 =>
      ⟨rfl, .inr ⟨w.heap.size, G, _, rfl, Nat.le_refl _, heap_alloc_new w.drew _, by omega, h2, by simp [Builtin.zeroCells, Value.cells]; omega, by simp⟩⟩
    have HB : Hid (∀ G, Below w.heap.size w (w.drew.alloc (.cells (([] : List Value).toArray ++ Builtin.zeroCells (Value.int .i64 0).cells n ++ Builtin.zeroCells (Value.int .i64 0).cells (G - n)) 3))) := fun G => by go_grown
    generalize grownCap w n 0 3 = G at *
    have HOG := Lib.hid (HO.out G hge (by unfold maxLen; exact hle))
    have HBG := Lib.hid (HB.out G)
    clear HO HB
    generalize w.drew.alloc (.cells (([] : List Value).toArray ++ Builtin.zeroCells (Value.int .i64 0).cells n ++ Builtin.zeroCells (Value.int .i64 0).cells (G - n)) 3) = w2 at *
    go_enter Tryd.func180, Tryd.ntmps180
    go_wp2_with (at_builtin; refine Lib.wpList_append_run _ rfl _ _ _ _ rfl _ _ rfl rfl _ _ (hrz _) ?_)
    all_goals
      go_ret
      exact ⟨_, rfl, HOG.out, HBG.out⟩

/-- A list as a slice in memory: where it lies, what it reads as, its capacity. -/
structure Pt where
  a : Option Addr
  r : List Int
  c : Nat
/-- The cells of block B are the slices ps. -/
def PtsAt (w : World) (B : Nat) (ps : List Pt) : Prop := B < w.heap.size ∧ ∀ (k : Nat) (p : Pt), ps[k]? = some p → w.cell? ⟨B, k, none⟩ = some (.slice p.a p.r.length p.c) ∧ Ints w w.heap.size p.a p.r
theorem PtsAt.keep {w w' : World} {B : Nat} {ps : List Pt} (h : PtsAt w B ps) (hb : Below w.heap.size w w') : PtsAt w' B ps :=
  ⟨Nat.lt_of_lt_of_le h.1 hb.size, fun k p hk => ⟨(hb.cell (p := ⟨B, k, none⟩) h.1).trans (h.2 k p hk).1, ((h.2 k p hk).2.keep hb).more hb.size⟩⟩
def catL (ps : List Pt) : List Int := ps.flatMap Pt.r
theorem catL_take {ps : List Pt} {k : Nat} (h : k < ps.length) : catL (ps.take (k + 1)) = catL (ps.take k) ++ ps[k].r := by
  unfold catL
  rw [List.take_add_one, List.getElem?_eq_getElem h, List.flatMap_append]
  simp
theorem catL_le {ps : List Pt} (k : Nat) : (catL (ps.take k)).length ≤ (catL ps).length := by
  have h : catL ps = catL (ps.take k) ++ catL (ps.drop k) := by unfold catL; rw [← List.flatMap_append, List.take_append_drop]
  rw [h, List.length_append]
  omega

set_option maxRecDepth 20000 in
set_option maxHeartbeats 1000000 in
theorem concat_any (B : Nat) (ps : List Pt) (c : Nat) (w : World) (hP : PtsAt w B ps) (hn : (catL ps).length ≤ 1048576) (hl : ps.length ≤ 1048576) :
    Calls Tryd.prog 145 #[.slice (some ⟨B, 0, none⟩) ps.length c] w fun e w' => ∃ v, e = .returned v ∧ w'.ownsRow w.heap.size 3 1 v (catL ps).length (vals (catL ps)) ∧ Below w.heap.size w w' := by
  obtain ⟨i0, hi0, hz0, hz1, hz2⟩ := info_of Tryd.infoInt
  have HP := Lib.hid hP; clear hP
  go_enter Tryd.func145, Tryd.ntmps145
  go_wp2
  go_loopw [3, 11] (fun z i wr => ∃ (k m : Nat), k ≤ ps.length ∧ i = .int .i64 k ∧ z = .int .i64 m ∧ Hid (m = (catL (ps.take k)).length) ∧ wr = w) (fun _ i _ => ps.length - (intOf i).toNat)
  case atStart => exact ⟨0, 0, by omega, rfl, rfl, rfl, rfl⟩
  case round =>
    obtain ⟨k, m, hk, rfl, rfl, HM, hwr⟩ := hrel
    subst hwr
    by_cases hlt : k < ps.length
    · obtain ⟨c1, _⟩ := HP.out.2 k ps[k] (List.getElem?_eq_getElem hlt)
      have HN : Hid (m + ps[k].r.length = (catL (ps.take (k + 1))).length) := by show _ = _; rw [catL_take hlt, List.length_append, HM.out]
      have hm : m + ps[k].r.length ≤ 1048576 := by have := HN.out; have := catL_le (ps := ps) (k + 1); omega
      go_wp2
      go_roundw
      case rel => exact ⟨k + 1, m + ps[k].r.length, by omega, by go_num, by go_num, HN.out, trivial⟩
      case measure => simp [intOf]; omega
    · obtain rfl : k = ps.length := by omega
      have hm : m = (catL ps).length := by have := HM.out; rw [List.take_length] at this; exact this
      have hml : m ≤ 1048576 := by omega
      have HMM := Lib.hid hm; clear hm HM
      obtain ⟨wO, hwO⟩ : ∃ x, x = wr := ⟨_, rfl⟩
      subst hwO
      go_wp2_with fail
      refine (growNil_any m hml _).mono ?_
      rintro e w1 ⟨v1, rfl, hO1, hB1⟩
      have HO1 : Hid (w1.ownsRow wO.heap.size 3 1 v1 (catL (ps.take 0)).length (vals (catL (ps.take 0)))) := hO1
      have HB1 := Lib.hid hB1
      clear hO1 hB1
      go_wp2
      go_loopw [6, 27] (fun v i wr => ∃ (k : Nat), k ≤ ps.length ∧ i = .int .i64 k ∧ Hid (wr.ownsRow wO.heap.size 3 1 v (catL (ps.take k)).length (vals (catL (ps.take k)))) ∧ Hid (Below wO.heap.size wO wr)) (fun _ i _ => ps.length - (intOf i).toNat)
      case atStart => exact ⟨0, by omega, rfl, HO1.out, HB1.out⟩
      case round =>
        obtain ⟨k, hk, rfl, HO, HB⟩ := hrel
        clear HO1 HB1
        by_cases hlt : k < ps.length
        · have hPk := HP.out.keep HB.out
          obtain ⟨c1, c2⟩ := hPk.2 k ps[k] (List.getElem?_eq_getElem hlt)
          have HC := Lib.hid (catL_take hlt)
          have hlk : (catL (ps.take k)).length + ps[k].r.length ≤ 1048576 := by have h1 := catL_le (ps := ps) (k + 1); rw [HC.out, List.length_append] at h1; omega
          clear hPk
          generalize ps[k] = p at c1 c2 HC hlk
          obtain ⟨pa, pr, pc⟩ := p
          dsimp only at c1 c2 HC hlk
          have HC2 := Lib.hid c2; clear c2
          rcases pa with _ | ad
          · have hx : pr = [] := by
              rcases pr with _ | ⟨x, xs⟩
              · rfl
              · obtain ⟨_, _, e, _⟩ := HC2.out (by simp)
                cases e
            subst hx
            have HON : Hid (wr.ownsRow wO.heap.size 3 1 u6 (catL (ps.take (k + 1))).length (vals (catL (ps.take (k + 1))))) := by have h := HO.out; show World.ownsRow _ _ _ _ _ _ _; rw [HC.out, List.append_nil]; exact h
            go_wp2_with (at_builtin
                         refine append_nil_at rfl (.tmp 31) (.tmp 32) _ rfl wO.heap.size 3 i0 1 Tryd.underlying27 hi0 _ _ _ rfl HO.out pc rfl ?_)
            go_roundw
            case rel => exact ⟨k + 1, by omega, by go_num, HON.out, HB.out⟩
            case measure => simp [intOf]; omega
          · have HN : Hid (∀ (j : Nat) (v : Value), (vals pr)[j]? = some v → wr.cell? (ad.add j) = some v) := fun j v hv => by
              have hp : 0 < pr.length := by have := (List.getElem?_eq_some_iff.1 hv).1; rw [vals_length] at this; omega
              obtain ⟨ad', e, h⟩ := HC2.out.src hp
              injection e with e
              subst e
              exact h j v hv
            have hws : wO.heap.size ≤ wr.heap.size := HB.out.size
            have hvl : (vals (catL (ps.take k))).length = (catL (ps.take k)).length := vals_length _
            go_wp2_with (at_builtin
                         refine wpList_append_own _ rfl (.tmp 31) (.tmp 32) _ rfl wO.heap.size 3 i0 _ 1 8 Tryd.underlying27 hi0 hz0 hz1 hz2 rfl (by omega) _ _ _ rfl HO.out ad pr.length pc (vals pr) rfl (by rw [vals_length]; omega) HN.out (vals_one pr) (by unfold maxLen; omega) (by omega) (by omega) ?_
                         intro v' w' h1 h2 h3
                         have HO1 := Lib.hid h1
                         have HB2 : Hid (Below wO.heap.size wO w') := HB.out.grown h2 HB.out.size fun j hj => (HO.out.lt j hj).1
                         clear h1 h2 h3)
            go_roundw
            case rel =>
              refine ⟨k + 1, by omega, by go_num, ?_, HB2.out⟩
              show World.ownsRow _ _ _ _ _ _ _
              rw [HC.out, List.length_append]
              have h := HO1.out
              unfold vals at h ⊢
              rw [List.map_append]
              exact h
            case measure => simp [intOf]; omega
        · obtain rfl : k = ps.length := by omega
          have HOE : Hid (wr.ownsRow wO.heap.size 3 1 u6 (catL ps).length (vals (catL ps))) := by have h := HO.out; rw [List.take_length] at h; exact h
          go_wp2
          go_ret
          exact ⟨_, rfl, HOE.out, HB.out⟩

theorem own_slice {w : World} {lo : Nat} {v : Value} {ys : List Int} (h : w.ownsRow lo 3 1 v ys.length (vals ys)) : ∃ A c, v = .slice A ys.length c ∧ OwnI w lo A ys ∧ ys.length ≤ c := by
  obtain ⟨A, c, e, hO⟩ := ownI_of_row (ys := ys) h
  refine ⟨A, c, e, hO, ?_⟩
  obtain ⟨_, ⟨e2, h0⟩ | ⟨g, cap, cur, e2, _, _, hc, _⟩⟩ := h
  · omega
  · rw [e] at e2
    injection e2 with _ _ e3
    omega

end Go.Proofs.YtgnpgehekfhedaaDoor
