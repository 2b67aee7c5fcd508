/- The reference's l1Put2 and head. -/
import Derived.Test.YtaaagcokjndaoaaDoorRgS2
import Derived.Test.YtaaagcokjndaoaaDoorTextG2
namespace Go.Proofs.YtaaagcokjndaoaaDoor
open Go.RowKit

theorem eqU_comm (u v : Int × List Int) : eqU u v = eqU v u := by
  unfold eqU
  congr 1
  exact propext ⟨Eq.symm, Eq.symm⟩

def putN (ss : List (Int × List Int)) (u : Int × List Int) : Nat := if hasU ss u = true then ss.length else ss.length + 1
theorem putN_t {ds : List Ru} {u : Int × List Int} (h : hasU (ds.map Ru.abs) u = true) : putN (ds.map Ru.abs) u = ds.length := by unfold putN; rw [if_pos h, List.length_map]
theorem putN_f {ds : List Ru} {u : Int × List Int} (h : hasU (ds.map Ru.abs) u = false) : putN (ds.map Ru.abs) u = ds.length + 1 := by unfold putN; rw [if_neg (by rw [h]; decide), List.length_map]

/-- What l1Put2 answers: a slice as long as told; the old one reads as it did. -/
def Put2 (w : World) (lo : Nat) (v : Value) (ds : List Ru) (m : Nat) (e : Ending) (w' : World) : Prop :=
  ∃ A c, e = .returned (.slice A m c) ∧ RulesW w' lo v ds ∧ w.grownBy w' v.ownBlock

theorem grownBy_of_below {w w' : World} (h : Below w.heap.size w w') (row : Option Nat) : w.grownBy w' row := ⟨h.os, h.tape, h.output, h.size, fun k hk _ => h.block k hk⟩

set_option maxRecDepth 20000 in
set_option maxHeartbeats 2000000 in
theorem l1Put2_any (lo : Nat) (Av : Option Addr) (cv : Nat) (ds : List Ru) (l : Int) (A : Option Addr) (xs : List Int) (c : Nat) (w : World) (hRU : RulesW w lo (.slice Av ds.length cv) ds) (hI : Ints w w.heap.size A xs) (hlo : lo ≤ w.heap.size) (hdl : ds.length ≤ 16) (hxl : xs.length ≤ 4) :
    Calls Tryd.prog 83 #[.slice Av ds.length cv, .agg #[.int .i64 l, .slice A xs.length c]] w (Put2 w lo (.slice Av ds.length cv) ds (putN (ds.map Ru.abs) (l, xs))) := by
  obtain ⟨i0, hi0, hz0, hz1, hz2⟩ := info_of Tryd.infoRule
  obtain ⟨Av', cv', e0, _, hOR⟩ := hRU.slice
  injection e0 with e1 e2 e3
  subst e1 e3
  clear e2
  have HX := Lib.hid hOR.rls; clear hOR
  have HRU := Lib.hid hRU; clear hRU
  have HI := Lib.hid hI; clear hI
  have hB0 : Below w.heap.size w (w.alloc (.cells #[.int .i64 l, .slice A xs.length c] 61)) := by go_grown
  have HB0 := Lib.hid hB0; clear hB0
  have HR0 := Lib.hid (Row.new w 61 #[.int .i64 l, .slice A xs.length c])
  go_enter Tryd.func83, Tryd.ntmps83
  go_wp2
  go_loopw [9] (fun i wr => ∃ (k : Nat), k ≤ ds.length ∧ i = .int .i64 k ∧ w.heap.size < wr.heap.size ∧ Below w.heap.size w wr ∧ Hid (Row wr w.heap.size 61 #[.int .i64 l, .slice A xs.length c]) ∧ Hid (∀ j : Nat, j < k → (ds.map Ru.abs)[j]? ≠ some (l, xs))) (fun i _ => ds.length - (intOf i).toNat)
  case atStart => exact ⟨0, by omega, rfl, by simp, HB0.out, HR0.out, fun j h => absurd h (by omega)⟩
  case round =>
    clear HR0
    obtain ⟨k, hk, rfl, hsz, hB, HRw, H⟩ := hrel
    have b0 : wr.cell? ⟨w.heap.size, 0, none⟩ = some (.int .i64 l) := HRw.out.cell 0
    have b1 : wr.cell? ⟨w.heap.size, 1, none⟩ = some (.slice A xs.length c) := HRw.out.cell 1
    by_cases hlt : k < ds.length
    · obtain ⟨b, o, l2, a2, r2, cc2, rfl, hb, he, c1, c2, c3⟩ := (HX.out.keep hB).at' hlt
      have C3 := Lib.hid (c3.more hB.size); clear c3
      have hBA : Below wr.heap.size wr (wr.alloc (.cells #[.int .i64 l2, .slice a2 r2.length cc2] 61)) := by go_grown
      have HBA := Lib.hid hBA; clear hBA
      have HRA := Lib.hid (HRw.out.alloc (.cells #[.int .i64 l2, .slice a2 r2.length cc2] 61))
      have a0 : (wr.alloc (.cells #[.int .i64 l2, .slice a2 r2.length cc2] 61)).cell? ⟨w.heap.size, 0, none⟩ = some (.int .i64 l) := HRA.out.cell 0
      have a1 : (wr.alloc (.cells #[.int .i64 l2, .slice a2 r2.length cc2] 61)).cell? ⟨w.heap.size, 1, none⟩ = some (.slice A xs.length c) := HRA.out.cell 1
      have HIA := Lib.hid ((((HI.out.keep hB).more hB.size).keep HBA.out).more HBA.out.size)
      cases hq : eqU (l, xs) (l2, r2)
      · have HQ : Hid (eqU ds[k].abs (l, xs) = false) := by show _ = _; rw [he, eqU_comm]; exact hq
        have HQ2 := Lib.hid hq; clear hq he
        go_wp2_with fail
        refine (l1SameRule_any _ _ _ _ _ _ _ _ _ HIA.out ((C3.out.keep HBA.out).more HBA.out.size) (by omega)).mono ?_
        rintro e w1 ⟨rfl, hB1⟩
        rw [HQ2.out]
        have HB1 := Lib.hid (HBA.out.trans (hB1.mono HBA.out.size)); clear hB1
        clear a0 a1 b0 b1
        go_wp2
        go_roundw
        case rel => exact ⟨k + 1, by omega, by go_num, by have := HB1.out.size; omega, hB.trans (HB1.out.mono hB.size), HRw.out.below HB1.out hsz, hasU_step hlt HQ.out H.out⟩
        case measure => simp [intOf]; omega
      · have HE : Hid (hasU (ds.map Ru.abs) (l, xs) = true) := hasU_t hlt (by rw [he, eqU_comm]; exact hq)
        have HQ2 := Lib.hid hq; clear hq he
        go_wp2_with fail
        refine (l1SameRule_any _ _ _ _ _ _ _ _ _ HIA.out ((C3.out.keep HBA.out).more HBA.out.size) (by omega)).mono ?_
        rintro e w1 ⟨rfl, hB1⟩
        rw [HQ2.out]
        have HB1 := Lib.hid (hB.trans ((HBA.out.trans (hB1.mono HBA.out.size)).mono hB.size)); clear hB1
        go_wp2
        go_ret
        refine ⟨some ⟨b, o, none⟩, cv, ?_, HRU.out.keep HB1.out, grownBy_of_below HB1.out _⟩
        rw [putN_t HE.out]
        rfl
    · have HE : Hid (hasU (ds.map Ru.abs) (l, xs) = false) := hasU_f hlt H.out
      have HRUr := Lib.hid (HRU.out.keep hB)
      have hown := HRUr.out.row.alloc (.cells #[.int .i64 l, .slice A xs.length c] 61)
      have HWn := Lib.hid hown; clear hown
      have hnew := two_new wr (.int .i64 l) (.slice A xs.length c) 61
      have HNW := Lib.hid hnew; clear hnew
      go_wp2_with (at_builtin
                   refine append_keep_at rfl (.tmp 18) (.tmp 20) _ rfl lo 61 i0 _ 2 32 Tryd.underlying24 hi0 hz0 hz1 hz2 rfl (by omega) _ _ _ rfl HWn.out ⟨wr.heap.size, 0, none⟩ 1 1 [.int .i64 l, .slice A xs.length c] rfl rfl HNW.out (by simp [Value.oneCell']) (by unfold maxLen; omega) (by omega) (by simp; omega) ?_
                   intro v' w' h1 h2 h3
                   obtain ⟨A', c', rfl⟩ := own_slice h1
                   have HOK := Lib.hid h2
                   have HG1 := Lib.hid h3
                   clear h1 h2 h3)
      go_ret
      refine ⟨A', c', ?_, ⟨HOK.out, fun j u hu => ?_, HRU.out.far⟩, ?_⟩
      · rw [putN_f HE.out]
        rfl
      · exact ((HRUr.out.rts j u hu).below (B := wr.heap.size) (w' := wr.alloc (.cells #[.int .i64 l, .slice A xs.length c] 61)) (by go_grown) (Nat.le_refl _)).grown HWn.out HG1.out
      · exact (grownBy_of_below (hB.alloc hB.size _) _).trans HG1.out

/-- What head ends in. -/
def HeadRead (w : World) (R : Nat) (s : ByteArray) (o : Out (Int × Int)) (cd : Int) (e : Ending) (w' : World) : Prop :=
  Save (· = R) w w' ∧ match o with
    | .ok h k' => e = .returned (.bool true) ∧ Rd2 w' R s (k' : Int) cd h.1 h.2 (.slice none 0 0)
    | .bad code p => e = .returned (.bool false) ∧ ∃ n t v, Rd2 w' R s (p : Int) code n t v

theorem headF_0 {s : ByteArray} (h : inB 1 6 (chr s 0 - 48) = false) : headF s = .bad 2 0 := by unfold headF; simp [h]
theorem headF_1 {s : ByteArray} (h : inB 1 6 (chr s 0 - 48) = true) (h1 : chr s 1 ≠ 32) : headF s = .bad 2 1 := by unfold headF; simp [h, h1]
theorem headF_2 {s : ByteArray} (h : inB 1 6 (chr s 0 - 48) = true) (h1 : chr s 1 = 32) (h2 : inB 1 4 (chr s 2 - 48) = false) : headF s = .bad 2 2 := by unfold headF; simp [h, h1, h2]
theorem headF_3 {s : ByteArray} (h : inB 1 6 (chr s 0 - 48) = true) (h1 : chr s 1 = 32) (h2 : inB 1 4 (chr s 2 - 48) = true) (h3 : chr s 3 ≠ 10) : headF s = .bad 2 3 := by unfold headF; simp [h, h1, h2, h3]
theorem headF_4 {s : ByteArray} (h : inB 1 6 (chr s 0 - 48) = true) (h1 : chr s 1 = 32) (h2 : inB 1 4 (chr s 2 - 48) = true) (h3 : chr s 3 = 10) : headF s = .ok (chr s 0 - 48, chr s 2 - 48) 4 := by unfold headF; simp [h, h1, h2, h3]

set_option maxRecDepth 20000 in
set_option maxHeartbeats 2000000 in
theorem head_any (R : Nat) (s : ByteArray) (cd : Int) (w : World) (h : Rd2 w R s ((0 : Nat) : Int) cd 0 0 (.slice none 0 0)) (hz : s.size ≤ 1048576) :
    Calls Tryd.prog 49 #[.pointer (some ⟨R, 0, none⟩)] w (HeadRead w R s (headF s) cd) := by
  have HR := Lib.hid h; clear h
  cases p0 : inB 1 6 (chr s 0 - 48)
  · have HE := Lib.hid (headF_0 p0)
    go_enter Tryd.func49, Tryd.ntmps49
    go_wp2_with fail
    refine (digit_bad R s 0 _ _ _ _ _ 6 HR.out (by omega) (by omega) (by omega) p0).mono ?_
    rintro e w1 ⟨rfl, hB1⟩
    clear p0
    have HR1 := Lib.hid (HR.out.below hB1 (Nat.le_refl _))
    have HB1 := Lib.hid hB1; clear hB1
    have c1 : w1.cell? ⟨R, 1, none⟩ = some (.int .i64 ((0 : Nat) : Int)) := HR1.out.cell 1
    simp at c1
    go_wp2_with fail
    refine (fault_any _ _ _ _ _ _ _ _ _ _ HR1.out).mono ?_
    rintro e w2 ⟨rfl, hR2, hS2⟩
    go_wp2
    go_ret
    refine ⟨(Save.of_below HB1.out).trans hS2, ?_⟩
    rw [HE.out]
    exact ⟨rfl, _, _, _, hR2⟩
  have hd0 := inB_lo p0
  have HP0 := Lib.hid p0; clear p0
  have hnz : (chr s 0 - 48 == 0) = false := by simp; omega
  clear hd0
  go_enter Tryd.func49, Tryd.ntmps49
  go_wp2_with fail
  refine (digit_ok R s 0 _ _ _ _ _ 6 HR.out hz (by omega) (by omega) HP0.out).mono ?_
  rintro e w1 ⟨rfl, hR1, hS1⟩
  have HR1 := Lib.hid hR1; clear hR1
  have HS1 := Lib.hid hS1; clear hS1
  by_cases h1 : chr s 1 = 32
  · have H1 := Lib.hid h1
    go_wp2_with fail
    refine (is_ok R s 1 _ _ _ _ _ 32 HR1.out hz h1 (by omega)).mono ?_
    rintro e w2 ⟨rfl, hR2, hS2⟩
    clear h1
    have HR2 := Lib.hid hR2; clear hR2
    have HS2 := Lib.hid (HS1.out.trans hS2); clear hS2
    cases p2 : inB 1 4 (chr s 2 - 48)
    · have HE := Lib.hid (headF_2 HP0.out H1.out p2)
      have hk2 : 2 ≤ s.size := by have := chr_in (s := s) (k := 1) (by rw [H1.out]; omega); omega
      go_wp2_with fail
      refine (digit_bad R s 2 _ _ _ _ _ 4 HR2.out hk2 (by omega) (by omega) p2).mono ?_
      rintro e w3 ⟨rfl, hB3⟩
      clear p2
      have HR3 := Lib.hid (HR2.out.below hB3 (Nat.le_refl _))
      have HB3 := Lib.hid hB3; clear hB3
      have c1 : w3.cell? ⟨R, 1, none⟩ = some (.int .i64 2) := HR3.out.cell 1
      go_wp2_with fail
      refine (fault_any _ _ _ _ _ _ _ _ _ _ HR3.out).mono ?_
      rintro e w4 ⟨rfl, hR4, hS4⟩
      go_wp2
      go_ret
      refine ⟨(HS2.out.trans (Save.of_below HB3.out)).trans hS4, ?_⟩
      rw [HE.out]
      exact ⟨rfl, _, _, _, hR4⟩
    have hd2 := inB_lo p2
    have hnz2 : (chr s 2 - 48 == 0) = false := by simp; omega
    clear hd2
    go_wp2_with fail
    refine (digit_ok R s 2 _ _ _ _ _ 4 HR2.out hz (by omega) (by omega) p2).mono ?_
    rintro e w3 ⟨rfl, hR3, hS3⟩
    have HP2 := Lib.hid p2; clear p2
    have HR3 := Lib.hid hR3; clear hR3
    have HS3 := Lib.hid (HS2.out.trans hS3); clear hS3
    by_cases h3 : chr s 3 = 10
    · have HE := Lib.hid (headF_4 HP0.out H1.out HP2.out h3)
      go_wp2_with fail
      refine (is_ok R s 3 _ _ _ _ _ 10 HR3.out hz h3 (by omega)).mono ?_
      rintro e w4 ⟨rfl, hR4, hS4⟩
      clear h3
      have HR4 := Lib.hid hR4
      have HS4 := Lib.hid (HS3.out.trans hS4); clear hS4
      have c3 : w4.cell? ⟨R, 3, none⟩ = some (.int .i64 0) := hR4.cell 3
      have c4 : w4.cell? ⟨R, 4, none⟩ = some (.int .i64 0) := hR4.cell 4
      have c5 : w4.cell? ⟨R, 5, none⟩ = some (.slice none 0 0) := hR4.cell 5
      have f3 := hR4.frozen 3
      have f4 := hR4.frozen 4
      have f5 := hR4.frozen 5
      clear hR4
      go_wp2
      go_ret
      refine ⟨Save.setCell (S := (· = R)) (p := ⟨R, 5, none⟩) (Save.setCell (S := (· = R)) (p := ⟨R, 4, none⟩) (Save.setCell (S := (· = R)) (p := ⟨R, 3, none⟩) HS4.out rfl _) rfl _) rfl _, ?_⟩
      rw [HE.out]
      exact ⟨rfl, ((Row.set HR4.out 3 (.int .i64 (chr s 0 - 48))).set 4 (.int .i64 (chr s 2 - 48))).set 5 (.slice none 0 0)⟩
    · have HE := Lib.hid (headF_3 HP0.out H1.out HP2.out h3)
      have hk3 : 3 ≤ s.size := by have := chr_in (s := s) (k := 2) (by have := inB_lo HP2.out; omega); omega
      go_wp2_with fail
      refine (is_bad R s 3 _ _ _ _ _ 10 HR3.out hk3 h3).mono ?_
      rintro e w4 ⟨rfl, hB4⟩
      clear h3
      have HR4 := Lib.hid (HR3.out.below hB4 (Nat.le_refl _))
      have HB4 := Lib.hid hB4; clear hB4
      have c1 : w4.cell? ⟨R, 1, none⟩ = some (.int .i64 3) := HR4.out.cell 1
      go_wp2_with fail
      refine (fault_any _ _ _ _ _ _ _ _ _ _ HR4.out).mono ?_
      rintro e w5 ⟨rfl, hR5, hS5⟩
      go_wp2
      go_ret
      refine ⟨(HS3.out.trans (Save.of_below HB4.out)).trans hS5, ?_⟩
      rw [HE.out]
      exact ⟨rfl, _, _, _, hR5⟩
  · have HE := Lib.hid (headF_1 HP0.out h1)
    have hk1 : 1 ≤ s.size := by have := chr_in (s := s) (k := 0) (by have := inB_lo HP0.out; omega); omega
    go_wp2_with fail
    refine (is_bad R s 1 _ _ _ _ _ 32 HR1.out hk1 h1).mono ?_
    rintro e w2 ⟨rfl, hB2⟩
    clear h1
    have HR2 := Lib.hid (HR1.out.below hB2 (Nat.le_refl _))
    have HB2 := Lib.hid hB2; clear hB2
    have c1 : w2.cell? ⟨R, 1, none⟩ = some (.int .i64 1) := HR2.out.cell 1
    go_wp2_with fail
    refine (fault_any _ _ _ _ _ _ _ _ _ _ HR2.out).mono ?_
    rintro e w3 ⟨rfl, hR3, hS3⟩
    go_wp2
    go_ret
    refine ⟨(HS1.out.trans (Save.of_below HB2.out)).trans hS3, ?_⟩
    rw [HE.out]
    exact ⟨rfl, _, _, _, hR3⟩

end Go.Proofs.YtaaagcokjndaoaaDoor
