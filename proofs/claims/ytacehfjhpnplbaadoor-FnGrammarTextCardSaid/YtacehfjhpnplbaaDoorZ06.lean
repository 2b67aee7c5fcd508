/- The reference's l1Put2 and head. -/
import Derived.Test.YtacehfjhpnplbaaDoorZ05
import Derived.Deep.RegionHeld3
import Derived.Test.YtacehfjhpnplbaaDoorZ03
import Derived.Test.YtacehfjhpnplbaaDoorZ02
import Derived.Test.YtacehfjhpnplbaaDoorZ04

namespace Go.Proofs.YtacehfjhpnplbaaDoor
open Go.RowKit

theorem eqU_comm (u v : Int × List Int) : eqU u v = eqU v u := by
  unfold eqU
  congr 1
  exact propext ⟨Eq.symm, Eq.symm⟩

def putN (ss : List (Int × List Int)) (u : Int × List Int) : Nat := if hasU ss u = true then ss.length else ss.length + 1
theorem putN_t {ds : List Ru} {u : Int × List Int} (h : hasU (ds.map Ru.abs) u = true) : putN (ds.map Ru.abs) u = ds.length := by unfold putN; rw [if_pos h, List.length_map]
theorem putN_f {ds : List Ru} {u : Int × List Int} (h : hasU (ds.map Ru.abs) u = false) : putN (ds.map Ru.abs) u = ds.length + 1 := by unfold putN; rw [if_neg (by rw [h]; decide), List.length_map]

/-- What l1Put2 answers: a slice as long as told; the old one reads as it did. -/
def Put2 (w : World) (lo : Nat) (v : Value) (ds : List Ru) (m : Nat) (e : Ending) (w' : World) : Prop :=
  ∃ A c, e = .returned (.slice A m c) ∧ RulesW w' lo v ds ∧ w.grownBy w' v.ownBlock

theorem grownBy_of_below {w w' : World} (h : Below w.heap.size w w') (row : Option Nat) : w.grownBy w' row := ⟨h.os, h.tape, h.output, h.size, fun k hk _ => h.block k hk⟩

set_option maxRecDepth 20000 in
set_option maxHeartbeats 2000000 in
theorem l1Put2_any (lo : Nat) (Av : Option Addr) (cv : Nat) (ds : List Ru) (l : Int) (A : Option Addr) (xs : List Int) (c : Nat) (w : World) (hRU : RulesW w lo (.slice Av ds.length cv) ds) (hI : Ints w w.heap.size A xs) (hlo : lo ≤ w.heap.size) (hdl : ds.length ≤ 16) (hxl : xs.length ≤ 4) :
    Calls Tryd.prog 116 #[.slice Av ds.length cv, .agg #[.int .i64 l, .slice A xs.length c]] w (Put2 w lo (.slice Av ds.length cv) ds (putN (ds.map Ru.abs) (l, xs))) := by
  obtain ⟨i0, hi0, hz0, hz1, hz2⟩ := info_of Tryd.infoRule
  obtain ⟨Av', cv', e0, _, hOR⟩ := hRU.slice
  injection e0 with e1 e2 e3
  subst e1 e3
  clear e2
  have HX := Lib.hid hOR.rls; clear hOR
  have HRU := Lib.hid hRU; clear hRU
  have HI := Lib.hid hI; clear hI
  have hB0 : Below w.heap.size w (w.alloc (.cells #[.int .i64 l, .slice A xs.length c] 64)) := by go_grown
  have HB0 := Lib.hid hB0; clear hB0
  have HR0 := Lib.hid (Row.new w 64 #[.int .i64 l, .slice A xs.length c])
  go_enter Tryd.func116, Tryd.ntmps116
  go_wp2
  go_loopw [9] (fun i wr => ∃ (k : Nat), k ≤ ds.length ∧ i = .int .i64 k ∧ w.heap.size < wr.heap.size ∧ Below w.heap.size w wr ∧ Hid (Row wr w.heap.size 64 #[.int .i64 l, .slice A xs.length c]) ∧ Hid (∀ j : Nat, j < k → (ds.map Ru.abs)[j]? ≠ some (l, xs))) (fun i _ => ds.length - (intOf i).toNat)
  case atStart => exact ⟨0, by omega, rfl, by simp, HB0.out, HR0.out, fun j h => absurd h (by omega)⟩
  case round =>
    clear HR0
    obtain ⟨k, hk, rfl, hsz, hB, HRw, H⟩ := hrel
    have b0 : wr.cell? ⟨w.heap.size, 0, none⟩ = some (.int .i64 l) := HRw.out.cell 0
    have b1 : wr.cell? ⟨w.heap.size, 1, none⟩ = some (.slice A xs.length c) := HRw.out.cell 1
    by_cases hlt : k < ds.length
    · obtain ⟨b, o, l2, a2, r2, cc2, rfl, hb, he, c1, c2, c3⟩ := (HX.out.keep hB).at' hlt
      have C3 := Lib.hid (c3.more hB.size); clear c3
      have hBA : Below wr.heap.size wr (wr.alloc (.cells #[.int .i64 l2, .slice a2 r2.length cc2] 64)) := by go_grown
      have HBA := Lib.hid hBA; clear hBA
      have HRA := Lib.hid (HRw.out.alloc (.cells #[.int .i64 l2, .slice a2 r2.length cc2] 64))
      have a0 : (wr.alloc (.cells #[.int .i64 l2, .slice a2 r2.length cc2] 64)).cell? ⟨w.heap.size, 0, none⟩ = some (.int .i64 l) := HRA.out.cell 0
      have a1 : (wr.alloc (.cells #[.int .i64 l2, .slice a2 r2.length cc2] 64)).cell? ⟨w.heap.size, 1, none⟩ = some (.slice A xs.length c) := HRA.out.cell 1
      have HIA := Lib.hid ((((HI.out.keep hB).more hB.size).keep HBA.out).more HBA.out.size)
      cases hq : eqU (l, xs) (l2, r2)
      · have HQ : Hid (eqU ds[k].abs (l, xs) = false) := by show _ = _; rw [he, eqU_comm]; exact hq
        have HQ2 := Lib.hid hq; clear hq he
        go_wp2_with fail
        refine (l1SameRule_any _ _ _ _ _ _ _ _ _ HIA.out ((C3.out.keep HBA.out).more HBA.out.size) (by omega)).mono ?_
        rintro e w1 ⟨rfl, hB1⟩
        rw [HQ2.out]
        have HB1 := Lib.hid (HBA.out.trans (hB1.mono HBA.out.size)); clear hB1
        clear a0 a1 b0 b1
        go_wp2
        go_roundw
        case rel => exact ⟨k + 1, by omega, by go_num, by have := HB1.out.size; omega, hB.trans (HB1.out.mono hB.size), HRw.out.below HB1.out hsz, hasU_step hlt HQ.out H.out⟩
        case measure => simp [intOf]; omega
      · have HE : Hid (hasU (ds.map Ru.abs) (l, xs) = true) := hasU_t hlt (by rw [he, eqU_comm]; exact hq)
        have HQ2 := Lib.hid hq; clear hq he
        go_wp2_with fail
        refine (l1SameRule_any _ _ _ _ _ _ _ _ _ HIA.out ((C3.out.keep HBA.out).more HBA.out.size) (by omega)).mono ?_
        rintro e w1 ⟨rfl, hB1⟩
        rw [HQ2.out]
        have HB1 := Lib.hid (hB.trans ((HBA.out.trans (hB1.mono HBA.out.size)).mono hB.size)); clear hB1
        go_wp2
        go_ret
        refine ⟨some ⟨b, o, none⟩, cv, ?_, HRU.out.keep HB1.out, grownBy_of_below HB1.out _⟩
        rw [putN_t HE.out]
        rfl
    · have HE : Hid (hasU (ds.map Ru.abs) (l, xs) = false) := hasU_f hlt H.out
      have HRUr := Lib.hid (HRU.out.keep hB)
      have hown := HRUr.out.row.alloc (.cells #[.int .i64 l, .slice A xs.length c] 64)
      have HWn := Lib.hid hown; clear hown
      have hnew := two_new wr (.int .i64 l) (.slice A xs.length c) 64
      have HNW := Lib.hid hnew; clear hnew
      go_wp2_with (at_builtin
                   refine append_keep_at rfl (.tmp 18) (.tmp 20) _ rfl lo 64 i0 _ 2 32 Tryd.underlying24 hi0 hz0 hz1 hz2 rfl (by omega) _ _ _ rfl HWn.out ⟨wr.heap.size, 0, none⟩ 1 1 [.int .i64 l, .slice A xs.length c] rfl rfl HNW.out (by simp [Value.oneCell']) (by unfold maxLen; omega) (by omega) (by simp; omega) ?_
                   intro v' w' h1 h2 h3
                   obtain ⟨A', c', rfl⟩ := own_slice h1
                   have HOK := Lib.hid h2
                   have HG1 := Lib.hid h3
                   clear h1 h2 h3)
      go_ret
      refine ⟨A', c', ?_, ⟨HOK.out, fun j u hu => ?_, HRU.out.far⟩, ?_⟩
      · rw [putN_f HE.out]
        rfl
      · exact ((HRUr.out.rts j u hu).below (B := wr.heap.size) (w' := wr.alloc (.cells #[.int .i64 l, .slice A xs.length c] 64)) (by go_grown) (Nat.le_refl _)).grown HWn.out HG1.out
      · exact (grownBy_of_below (hB.alloc hB.size _) _).trans HG1.out

/-- What head ends in. -/
def HeadRead (w : World) (R : Nat) (s : ByteArray) (o : Out (Int × Int)) (cd : Int) (e : Ending) (w' : World) : Prop :=
  Save (· = R) w w' ∧ match o with
    | .ok h k' => e = .returned (.bool true) ∧ Rd2 w' R s (k' : Int) cd h.1 h.2 (.slice none 0 0)
    | .bad code p => e = .returned (.bool false) ∧ ∃ n t v, Rd2 w' R s (p : Int) code n t v

theorem headF_0 {s : ByteArray} (h : inB 1 6 (chr s 0 - 48) = false) : headF s = .bad 2 0 := by unfold headF; simp [h]
theorem headF_1 {s : ByteArray} (h : inB 1 6 (chr s 0 - 48) = true) (h1 : chr s 1 ≠ 32) : headF s = .bad 2 1 := by unfold headF; simp [h, h1]
theorem headF_2 {s : ByteArray} (h : inB 1 6 (chr s 0 - 48) = true) (h1 : chr s 1 = 32) (h2 : inB 1 4 (chr s 2 - 48) = false) : headF s = .bad 2 2 := by unfold headF; simp [h, h1, h2]
theorem headF_3 {s : ByteArray} (h : inB 1 6 (chr s 0 - 48) = true) (h1 : chr s 1 = 32) (h2 : inB 1 4 (chr s 2 - 48) = true) (h3 : chr s 3 ≠ 10) : headF s = .bad 2 3 := by unfold headF; simp [h, h1, h2, h3]
theorem headF_4 {s : ByteArray} (h : inB 1 6 (chr s 0 - 48) = true) (h1 : chr s 1 = 32) (h2 : inB 1 4 (chr s 2 - 48) = true) (h3 : chr s 3 = 10) : headF s = .ok (chr s 0 - 48, chr s 2 - 48) 4 := by unfold headF; simp [h, h1, h2, h3]

set_option maxRecDepth 20000 in
set_option maxHeartbeats 2000000 in
theorem head_any (R : Nat) (s : ByteArray) (cd : Int) (w : World) (h : Rd2 w R s ((0 : Nat) : Int) cd 0 0 (.slice none 0 0)) (hz : s.size ≤ 1048576) :
    Calls Tryd.prog 67 #[.pointer (some ⟨R, 0, none⟩)] w (HeadRead w R s (headF s) cd) := by
  have HR := Lib.hid h; clear h
  cases p0 : inB 1 6 (chr s 0 - 48)
  · have HE := Lib.hid (headF_0 p0)
    go_enter Tryd.func67, Tryd.ntmps67
    go_wp2_with fail
    refine (digit_bad R s 0 _ _ _ _ _ 6 HR.out (by omega) (by omega) (by omega) p0).mono ?_
    rintro e w1 ⟨rfl, hB1⟩
    clear p0
    have HR1 := Lib.hid (HR.out.below hB1 (Nat.le_refl _))
    have HB1 := Lib.hid hB1; clear hB1
    have c1 : w1.cell? ⟨R, 1, none⟩ = some (.int .i64 ((0 : Nat) : Int)) := HR1.out.cell 1
    simp at c1
    go_wp2_with fail
    refine (fault_any _ _ _ _ _ _ _ _ _ _ HR1.out).mono ?_
    rintro e w2 ⟨rfl, hR2, hS2⟩
    go_wp2
    go_ret
    refine ⟨(Save.of_below HB1.out).trans hS2, ?_⟩
    rw [HE.out]
    exact ⟨rfl, _, _, _, hR2⟩
  have hd0 := inB_lo p0
  have HP0 := Lib.hid p0; clear p0
  have hnz : (chr s 0 - 48 == 0) = false := by simp; omega
  clear hd0
  go_enter Tryd.func67, Tryd.ntmps67
  go_wp2_with fail
  refine (digit_ok R s 0 _ _ _ _ _ 6 HR.out hz (by omega) (by omega) HP0.out).mono ?_
  rintro e w1 ⟨rfl, hR1, hS1⟩
  have HR1 := Lib.hid hR1; clear hR1
  have HS1 := Lib.hid hS1; clear hS1
  by_cases h1 : chr s 1 = 32
  · have H1 := Lib.hid h1
    go_wp2_with fail
    refine (is_ok R s 1 _ _ _ _ _ 32 HR1.out hz h1 (by omega)).mono ?_
    rintro e w2 ⟨rfl, hR2, hS2⟩
    clear h1
    have HR2 := Lib.hid hR2; clear hR2
    have HS2 := Lib.hid (HS1.out.trans hS2); clear hS2
    cases p2 : inB 1 4 (chr s 2 - 48)
    · have HE := Lib.hid (headF_2 HP0.out H1.out p2)
      have hk2 : 2 ≤ s.size := by have := chr_in (s := s) (k := 1) (by rw [H1.out]; omega); omega
      go_wp2_with fail
      refine (digit_bad R s 2 _ _ _ _ _ 4 HR2.out hk2 (by omega) (by omega) p2).mono ?_
      rintro e w3 ⟨rfl, hB3⟩
      clear p2
      have HR3 := Lib.hid (HR2.out.below hB3 (Nat.le_refl _))
      have HB3 := Lib.hid hB3; clear hB3
      have c1 : w3.cell? ⟨R, 1, none⟩ = some (.int .i64 2) := HR3.out.cell 1
      go_wp2_with fail
      refine (fault_any _ _ _ _ _ _ _ _ _ _ HR3.out).mono ?_
      rintro e w4 ⟨rfl, hR4, hS4⟩
      go_wp2
      go_ret
      refine ⟨(HS2.out.trans (Save.of_below HB3.out)).trans hS4, ?_⟩
      rw [HE.out]
      exact ⟨rfl, _, _, _, hR4⟩
    have hd2 := inB_lo p2
    have hnz2 : (chr s 2 - 48 == 0) = false := by simp; omega
    clear hd2
    go_wp2_with fail
    refine (digit_ok R s 2 _ _ _ _ _ 4 HR2.out hz (by omega) (by omega) p2).mono ?_
    rintro e w3 ⟨rfl, hR3, hS3⟩
    have HP2 := Lib.hid p2; clear p2
    have HR3 := Lib.hid hR3; clear hR3
    have HS3 := Lib.hid (HS2.out.trans hS3); clear hS3
    by_cases h3 : chr s 3 = 10
    · have HE := Lib.hid (headF_4 HP0.out H1.out HP2.out h3)
      go_wp2_with fail
      refine (is_ok R s 3 _ _ _ _ _ 10 HR3.out hz h3 (by omega)).mono ?_
      rintro e w4 ⟨rfl, hR4, hS4⟩
      clear h3
      have HR4 := Lib.hid hR4
      have HS4 := Lib.hid (HS3.out.trans hS4); clear hS4
      have c3 : w4.cell? ⟨R, 3, none⟩ = some (.int .i64 0) := hR4.cell 3
      have c4 : w4.cell? ⟨R, 4, none⟩ = some (.int .i64 0) := hR4.cell 4
      have c5 : w4.cell? ⟨R, 5, none⟩ = some (.slice none 0 0) := hR4.cell 5
      have f3 := hR4.frozen 3
      have f4 := hR4.frozen 4
      have f5 := hR4.frozen 5
      clear hR4
      go_wp2
      go_ret
      refine ⟨Save.setCell (S := (· = R)) (p := ⟨R, 5, none⟩) (Save.setCell (S := (· = R)) (p := ⟨R, 4, none⟩) (Save.setCell (S := (· = R)) (p := ⟨R, 3, none⟩) HS4.out rfl _) rfl _) rfl _, ?_⟩
      rw [HE.out]
      exact ⟨rfl, ((Row.set HR4.out 3 (.int .i64 (chr s 0 - 48))).set 4 (.int .i64 (chr s 2 - 48))).set 5 (.slice none 0 0)⟩
    · have HE := Lib.hid (headF_3 HP0.out H1.out HP2.out h3)
      have hk3 : 3 ≤ s.size := by have := chr_in (s := s) (k := 2) (by have := inB_lo HP2.out; omega); omega
      go_wp2_with fail
      refine (is_bad R s 3 _ _ _ _ _ 10 HR3.out hk3 h3).mono ?_
      rintro e w4 ⟨rfl, hB4⟩
      clear h3
      have HR4 := Lib.hid (HR3.out.below hB4 (Nat.le_refl _))
      have HB4 := Lib.hid hB4; clear hB4
      have c1 : w4.cell? ⟨R, 1, none⟩ = some (.int .i64 3) := HR4.out.cell 1
      go_wp2_with fail
      refine (fault_any _ _ _ _ _ _ _ _ _ _ HR4.out).mono ?_
      rintro e w5 ⟨rfl, hR5, hS5⟩
      go_wp2
      go_ret
      refine ⟨(HS3.out.trans (Save.of_below HB4.out)).trans hS5, ?_⟩
      rw [HE.out]
      exact ⟨rfl, _, _, _, hR5⟩
  · have HE := Lib.hid (headF_1 HP0.out h1)
    have hk1 : 1 ≤ s.size := by have := chr_in (s := s) (k := 0) (by have := inB_lo HP0.out; omega); omega
    go_wp2_with fail
    refine (is_bad R s 1 _ _ _ _ _ 32 HR1.out hk1 h1).mono ?_
    rintro e w2 ⟨rfl, hB2⟩
    clear h1
    have HR2 := Lib.hid (HR1.out.below hB2 (Nat.le_refl _))
    have HB2 := Lib.hid hB2; clear hB2
    have c1 : w2.cell? ⟨R, 1, none⟩ = some (.int .i64 1) := HR2.out.cell 1
    go_wp2_with fail
    refine (fault_any _ _ _ _ _ _ _ _ _ _ HR2.out).mono ?_
    rintro e w3 ⟨rfl, hR3, hS3⟩
    go_wp2
    go_ret
    refine ⟨(HS1.out.trans (Save.of_below HB2.out)).trans hS3, ?_⟩
    rw [HE.out]
    exact ⟨rfl, _, _, _, hR3⟩

end Go.Proofs.YtacehfjhpnplbaaDoor

/- The reference's line. -/

namespace Go.Proofs.YtacehfjhpnplbaaDoor
open Go.RowKit

/-- What line ends in. -/
def Line2 (w : World) (R lo : Nat) (s : ByteArray) (o : Out (Int × List Int)) (cd n t : Int) (ds : List Ru) (e : Ending) (w' : World) : Prop :=
  Save (fun b => b = R ∨ lo ≤ b) w w' ∧ match o with
    | .ok u k' => e = .returned (.bool true) ∧ ∃ v' A c, Rd2 w' R s (k' : Int) cd n t v' ∧ RulesW w' lo v' (ds ++ [⟨u.1, A, u.2, c⟩])
    | .bad code p => e = .returned (.bool false) ∧ ∃ v, Rd2 w' R s (p : Int) code n t v

/-- Blocks that came later may turn. -/
theorem RulesW.saveB {S : Nat → Prop} {w w' : World} {lo : Nat} {v : Value} {ds : List Ru} (h : RulesW w lo v ds) (hs : Save S w w') (hS : ∀ b, lo ≤ b → b < w.heap.size → ¬ S b) : RulesW w' lo v ds := by
  refine ⟨?_, fun j x hx => ?_, h.far⟩
  · obtain ⟨hl, h1 | ⟨g, cap, cur, e1, hlo, hg, e2, e3, e4, e5⟩⟩ := h.row
    · exact ⟨hl, .inl h1⟩
    · exact ⟨hl, .inr ⟨g, cap, cur, e1, hlo, (hs.block g (Row.lt hg) (hS g hlo (Row.lt hg))).trans hg, e2, e3, e4, e5⟩⟩
  · refine (h.rts j x hx).save hs fun g e hn => ?_
    rcases h.rts j x hx with h6 | ⟨g1, _, e1, hl, hr, _⟩
    · exact absurd h6 hn
    · have := e.symm.trans e1
      injection this with this
      injection this with this
      subst this
      exact hS g hl hr.lt

theorem symG_end {n t : Int} {s : ByteArray} {k : Nat} (h : ¬ k < s.size) : symG n t (chr s k) = none := by
  rw [chr_end h]
  rfl

set_option maxRecDepth 20000 in
set_option maxHeartbeats 4000000 in
theorem line_any (R lo : Nat) (s : ByteArray) (k : Nat) (cd n t : Int) (Av : Option Addr) (cv : Nat) (ds : List Ru) (w : World) (h : Rd2 w R s (k : Int) cd n t (.slice Av ds.length cv)) (hRu : RulesW w lo (.slice Av ds.length cv) ds) (hk : k < s.size) (hz : s.size ≤ 1048576)
    (n0 : 0 ≤ n) (n6 : n ≤ 6) (t0 : 0 ≤ t) (t4 : t ≤ 4) (hRlo : R < lo) (hlo : lo ≤ w.heap.size) (hdl : ds.length ≤ 16) :
    Calls Tryd.prog 68 #[.pointer (some ⟨R, 0, none⟩)] w (Line2 w R lo s (lineF n t s (ds.map Ru.abs) k) cd n t ds) := by
  obtain ⟨i0, hi0, hz0, hz1, hz2⟩ := info_of Tryd.infoRule
  obtain ⟨j0, hj0, hy0, hy1, hy2⟩ := info_of Tryd.infoInt
  have HRU := Lib.hid hRu; clear hRu
  have HR := Lib.hid h; clear h
  have c0 : w.cell? ⟨R, 0, none⟩ = some (.string s) := HR.out.cell 0
  have c1 : w.cell? ⟨R, 1, none⟩ = some (.int .i64 (k : Int)) := HR.out.cell 1
  have c3 : w.cell? ⟨R, 3, none⟩ = some (.int .i64 n) := HR.out.cell 3
  cases hG : symG n 0 (chr s k) with
  | none =>
    have HE := Lib.hid (lineF_none (t := t) (ss := ds.map Ru.abs) hG)
    have HSG : Hid (symG n 0 (s[k].toNat : Int) = none) := by show _ = _; rw [← chr_at hk]; exact hG
    clear hG
    go_enter Tryd.func68, Tryd.ntmps68
    go_wp2
    go_quiet (exact (l2Symbol_any n 0 _ _ n0 n6 (by omega) (by omega)).mono fun _ _ h => ⟨h.1, _, h.2.symm⟩)
    rw [HSG.out]
    have HR1 : Hid (Rd2 (w.drewN nq) R s (k : Int) cd n t (.slice Av ds.length cv)) := HR.out
    go_wp2_with fail
    refine (fault_any _ _ _ _ _ _ _ _ _ _ HR1.out).mono ?_
    rintro e w2 ⟨rfl, hR2, hS2⟩
    go_wp2
    go_ret
    refine ⟨((Save.of_below (below_drewN (Below.refl _ _) _)).trans hS2).more, ?_⟩
    rw [HE.out]
    exact ⟨rfl, _, hR2⟩
  | some l =>
    have HG := Lib.hid hG
    have HSG : Hid (symG n 0 (s[k].toNat : Int) = some l) := by show _ = _; rw [← chr_at hk]; exact hG
    clear hG
    have f1 : w.frozen? ⟨R, 1, none⟩ = false := HR.out.frozen 1
    go_enter Tryd.func68, Tryd.ntmps68
    go_wp2
    go_quiet (exact (l2Symbol_any n 0 _ _ n0 n6 (by omega) (by omega)).mono fun _ _ h => ⟨h.1, _, h.2.symm⟩)
    rw [HSG.out]
    have HR1 : Hid (Rd2 ((w.drewN nq).setCell ⟨R, 1, none⟩ (.int .i64 ((k : Int) + 1))) R s ((k + 1 : Nat) : Int) cd n t (.slice Av ds.length cv)) := Row.set (w := w.drewN nq) HR.out 1 (.int .i64 ((k : Int) + 1))
    have HS1 : Hid (Save (· = R) w ((w.drewN nq).setCell ⟨R, 1, none⟩ (.int .i64 ((k : Int) + 1)))) := Save.setCell (S := (· = R)) (p := ⟨R, 1, none⟩) (Save.of_below (below_drewN (Below.refl _ _) _)) rfl _
    go_wp2_with fail
    clear c0 c1 c3 f1
    generalize (w.drewN nq).setCell ⟨R, 1, none⟩ (.int .i64 ((k : Int) + 1)) = W1 at HR1 HS1 ⊢
    by_cases h61 : chr s (k + 1) = 61
    · have HQ := Lib.hid h61
      refine (is_ok R s (k + 1) _ _ _ _ _ 61 HR1.out hz h61 (by omega)).mono ?_
      rintro e w2 ⟨rfl, hR2, hS2⟩
      have hk2 : k + 2 ≤ s.size := by have := chr_in (s := s) (k := k + 1) (by omega); omega
      clear h61
      have HR2 := Lib.hid hR2; clear hR2
      have HS2 := Lib.hid (HS1.out.trans hS2); clear hS2 HS1 HR1
      have HRU2 := Lib.hid (HRU.out.save HS2.out (fun b hb (e : b = R) => by omega))
      have hsz2 := HS2.out.size
      have hRl2 := Row.lt HR2.out
      have HBX0 := Lib.hid (Row.new w2 64 #[.int .i64 l, .slice none 0 0])
      have HRX0 : Hid (Rd2 (w2.alloc (.cells #[.int .i64 l, .slice none 0 0] 64)) R s ((k + 2 : Nat) : Int) cd n t (.slice Av ds.length cv)) := Row.alloc HR2.out _
      have HSX0 : Hid (Save (fun b => b = R ∨ w2.heap.size ≤ b) w2 (w2.alloc (.cells #[.int .i64 l, .slice none 0 0] 64))) := Save.of_below (by go_grown)
      go_wp2
      go_loopg [7] 5 (fun g _ wr => ∃ (k2 : Nat) (xs : List Int) (v : Value), g + xs.length = 5 ∧ xs.length ≤ 4 ∧ k2 ≤ s.size ∧ Hid (Rd2 wr R s (k2 : Int) cd n t (.slice Av ds.length cv)) ∧ Hid (Row wr w2.heap.size 64 #[.int .i64 l, v]) ∧ Hid (wr.ownsRow (w2.heap.size + 1) 3 1 v xs.length (xs.map fun y => Value.int .i64 y)) ∧ Hid (Save (fun b => b = R ∨ w2.heap.size ≤ b) w2 wr) ∧ Hid (rightF n t s 5 [] (k + 2) = rightF n t s g xs k2))
      case atStart => exact ⟨k + 2, [], .slice none 0 0, rfl, by simp, hk2, HRX0.out, HBX0.out, ⟨rfl, .inl ⟨rfl, rfl⟩⟩, HSX0.out, rfl⟩
      case round =>
        clear HBX0 HRX0 HSX0
        obtain ⟨k2, xs, v, hg, hxl, hkk, HRk, HBX, HO, HS, HE⟩ := hrel
        obtain ⟨f, hf⟩ : ∃ f, gk = f + 1 := ⟨gk - 1, by omega⟩
        have hbd := chr_bd s k2
        obtain ⟨Ax, cx, hv⟩ := own_slice HO.out
        subst hv
        have hBl := HBX.out.lt
        by_cases h10 : chr s k2 = 10
        · have HE2 : Hid (rightF n t s 5 [] (k + 2) = .ok xs (k2 + 1)) := by show _ = _; rw [HE.out, hf]; exact rightF_end h10
          clear HE hf
          go_wp2_with fail
          refine (is_ok R s k2 _ _ _ _ _ 10 HRk.out hz h10 (by omega)).mono ?_
          rintro e w3 ⟨rfl, hR3, hS3⟩
          clear h10
          have HR3 := Lib.hid hR3; clear hR3
          have HS3 := Lib.hid (HS.out.trans (hS3.wider fun _ e => .inl e))
          have HBX3 := Lib.hid (HBX.out.save hS3 (fun e : w2.heap.size = R => by omega))
          have HO3 := Lib.hid (ownsRow_save HO.out hS3 (fun b hb (e : b = R) => by omega))
          clear hS3 HRk HBX HO HS
          have HRU3 := Lib.hid (HRU2.out.saveB HS3.out (fun b hb hb2 e => by omega))
          obtain ⟨Ax', cx', e3, hOI⟩ := ownI_of_row HO3.out
          injection e3 with e4 e5 e6
          subst e4 e6
          clear e5
          have HOI := Lib.hid hOI; clear hOI
          have hsz3 := HS3.out.size
          have hB3 := HBX3.out.lt
          have r5 : w3.cell? ⟨R, 5, none⟩ = some (.slice Av ds.length cv) := HR3.out.cell 5
          have b0 : w3.cell? ⟨w2.heap.size, 0, none⟩ = some (.int .i64 l) := HBX3.out.cell 0
          have b1 : w3.cell? ⟨w2.heap.size, 1, none⟩ = some (.slice Ax xs.length cx) := HBX3.out.cell 1
          have HOW : Hid (∀ b, (Value.slice Av ds.length cv).ownBlock = some b → lo ≤ b ∧ b < w2.heap.size) := fun b e => HRU2.out.row.lt b e
          have HSAVE : Hid (Save (fun b => b = R ∨ lo ≤ b) w w3) := (HS2.out.wider fun _ e => .inl e).trans (HS3.out.wider fun b e => by rcases e with e | e <;> omega)
          cases hh : hasU (ds.map Ru.abs) (l, xs)
          all_goals
            have HH := Lib.hid hh; clear hh
          · have HPN := Lib.hid (putN_f HH.out)
            have hne : ((ds.length : Int) + 1 == (ds.length : Int)) = false := by simp; omega
            go_wp2_with fail
            go_region_held3 (fun w' => w'.cell? ⟨R, 5, none⟩ = some (.slice Av ds.length cv) ∧ w'.cell? ⟨w2.heap.size, 0, none⟩ = some (.int .i64 l) ∧ w'.cell? ⟨w2.heap.size, 1, none⟩ = some (.slice Ax xs.length cx))
              (first | exact ⟨y5, y0, y1⟩ | exact ⟨r5, b0, b1⟩)
              ((go_at_call 116
                refine (l1Put2_any lo Av cv ds l Ax xs cx _ ?_ ?_ ?_ hdl (by omega)).mono ?_
                · exact HRU3.out.keep (by go_grown)
                · exact HOI.out.ints.keep (by go_grown)
                · show lo ≤ w3.heap.size
                  omega
                rw [HPN.out]
                rintro e w4 ⟨A4, c4, rfl, hRU4, hg4'⟩
                have hg4 : w3.grownBy w4 (Value.slice Av ds.length cv).ownBlock := (grownBy_of_below (by go_grown) _).trans hg4'
                have HR4 : Hid (Rd2 w4 R s ((k2 + 1 : Nat) : Int) cd n t (.slice Av ds.length cv)) := (hg4.block R (by omega) (fun e => by have := HOW.out R e.symm; omega)).trans HR3.out
                have HBX4 : Hid (Row w4 w2.heap.size 64 #[.int .i64 l, .slice Ax xs.length cx]) := (hg4.block w2.heap.size (by omega) (fun e => by have := HOW.out _ e.symm; omega)).trans HBX3.out
                have y5 : w4.cell? ⟨R, 5, none⟩ = some (.slice Av ds.length cv) := HR4.out.cell 5
                have y0 : w4.cell? ⟨w2.heap.size, 0, none⟩ = some (.int .i64 l) := HBX4.out.cell 0
                have y1 : w4.cell? ⟨w2.heap.size, 1, none⟩ = some (.slice Ax xs.length cx) := HBX4.out.cell 1
                have HRU4 := Lib.hid hRU4
                have HG4 := Lib.hid hg4
                clear hRU4 hg4 hg4'))
            rename_i hHeld
            clear hHeld r5 b0 b1
            have HS4 : Hid (Save (fun b => b = R ∨ lo ≤ b) w w4) := HSAVE.out.grownS HG4.out fun j hj => .inr (HOW.out j hj).1
            have HOI4 := Lib.hid (HOI.out.grown HRU3.out.row HG4.out)
            have HAP := Lib.hid (HRU2.out.apart (HOI4.out.lower (by omega)))
            have hsz4 := HG4.out.size
            clear HG4 HOI
            by_cases h16 : ds.length = 16
            · have HE3 := Lib.hid (lineF_many HG.out HQ.out HE2.out HH.out (by rw [List.length_map]; exact h16))
              have h16' : ((ds.length : Int) == 16) = true := by simp; omega
              clear h16
              go_wp2_with fail
              refine (fault_any _ _ _ _ _ _ _ _ _ _ HR4.out).mono ?_
              rintro e w5 ⟨rfl, hR5, hS5⟩
              go_wp2
              go_ret
              refine ⟨HS4.out.trans hS5.more, ?_⟩
              rw [HE3.out]
              exact ⟨rfl, _, hR5⟩
            · have HE3 := Lib.hid (lineF_ok HG.out HQ.out HE2.out HH.out (by rw [List.length_map]; exact h16))
              have h16' : ((ds.length : Int) == 16) = false := by simp; omega
              have hd16 : ds.length < 16 := by omega
              clear h16
              have r5a : (w4.alloc (.cells #[.int .i64 l, .slice Ax xs.length cx] 64)).cell? ⟨R, 5, none⟩ = some (.slice Av ds.length cv) := (Row.alloc HR4.out _).cell 5
              have HNE : Hid (some R ≠ (Value.slice Av ds.length cv).ownBlock) := fun e => by have := HOW.out R e.symm; omega
              go_wp2_with fail
              go_region_law
                (refine step_append_lies _ rfl _ _ _ rfl lo 64 i0 _ 2 32 Tryd.underlying24 hi0 hz0 hz1 hz2 rfl (by omega) (.slice Av ds.length cv) ds.length (ds.flatMap cellsU) (by simp [Act.eval]) (HRU4.out.row.alloc _)
                   ⟨w4.heap.size, 0, none⟩ 1 1 [.int .i64 l, .slice Ax xs.length cx] (by simp [Act.eval]) rfl (two_new _ _ _ _) (by simp [Value.oneCell'])
                   (by omega) (by unfold maxLen; omega) (by omega) (by simp; omega) (w4.heap.size + 1) (by simp) ?_
                 intro gg cap w6 hown hgrow hat hgl
                 have HOG := Lib.hid hown
                 have HGR := Lib.hid hgrow
                 have HR6 : Hid (Row w6 R 85 #[.string s, .int .i64 ((k2 + 1 : Nat) : Int), .int .i64 cd, .int .i64 n, .int .i64 t, .slice Av ds.length cv]) := (hgrow.block R (by simp; omega) HNE.out).trans (Row.alloc HR4.out _)
                 have z5 : w6.cell? ⟨R, 5, none⟩ = some (.slice Av ds.length cv) := HR6.out.cell 5
                 have g5 := HR6.out.frozen 5
                 clear hown hgrow hat)
              all_goals
                go_wp2
                go_ret
                refine ⟨?_, ?_⟩
                · refine Save.setCell (S := fun b => b = R ∨ lo ≤ b) (p := ⟨R, 5, none⟩) (Save.grownS (HS4.out.trans (Save.of_below ?_)) HGR.out fun j hj => .inr (HRU4.out.row.lt j hj).1) (.inl rfl) _
                  go_grown
                · rw [HE3.out]
                  refine ⟨rfl, _, Ax, cx, HR6.out.set 5 _, RulesW.low ?_ (p := ⟨R, 5, none⟩) hRlo _⟩
                  refine RulesW.step (HRU4.out.keep ?_) (OwnI.below (OwnI.lower HOI4.out (by omega)) ?_ (Nat.le_refl _)) HAP.out HOG.out HGR.out
                  · go_grown
                  · go_grown
          · have HPN := Lib.hid (putN_t HH.out)
            have HE3 := Lib.hid (lineF_twice HG.out HQ.out HE2.out HH.out)
            go_wp2_with fail
            go_region_held3 (fun w' => w'.cell? ⟨R, 5, none⟩ = some (.slice Av ds.length cv) ∧ w'.cell? ⟨w2.heap.size, 0, none⟩ = some (.int .i64 l) ∧ w'.cell? ⟨w2.heap.size, 1, none⟩ = some (.slice Ax xs.length cx))
              (first | exact ⟨y5, y0, y1⟩ | exact ⟨r5, b0, b1⟩)
              ((go_at_call 116
                refine (l1Put2_any lo Av cv ds l Ax xs cx _ ?_ ?_ ?_ hdl (by omega)).mono ?_
                · exact HRU3.out.keep (by go_grown)
                · exact HOI.out.ints.keep (by go_grown)
                · show lo ≤ w3.heap.size
                  omega
                rw [HPN.out]
                rintro e w4 ⟨A4, c4, rfl, hRU4, hg4'⟩
                have hg4 : w3.grownBy w4 (Value.slice Av ds.length cv).ownBlock := (grownBy_of_below (by go_grown) _).trans hg4'
                have HR4 : Hid (Rd2 w4 R s ((k2 + 1 : Nat) : Int) cd n t (.slice Av ds.length cv)) := (hg4.block R (by omega) (fun e => by have := HOW.out R e.symm; omega)).trans HR3.out
                have HBX4 : Hid (Row w4 w2.heap.size 64 #[.int .i64 l, .slice Ax xs.length cx]) := (hg4.block w2.heap.size (by omega) (fun e => by have := HOW.out _ e.symm; omega)).trans HBX3.out
                have y5 : w4.cell? ⟨R, 5, none⟩ = some (.slice Av ds.length cv) := HR4.out.cell 5
                have y0 : w4.cell? ⟨w2.heap.size, 0, none⟩ = some (.int .i64 l) := HBX4.out.cell 0
                have y1 : w4.cell? ⟨w2.heap.size, 1, none⟩ = some (.slice Ax xs.length cx) := HBX4.out.cell 1
                have HRU4 := Lib.hid hRU4
                have HG4 := Lib.hid hg4
                clear hRU4 hg4 hg4'))
            rename_i hHeld
            clear hHeld r5 b0 b1
            have HS4 : Hid (Save (fun b => b = R ∨ lo ≤ b) w w4) := HSAVE.out.grownS HG4.out fun j hj => .inr (HOW.out j hj).1
            go_wp2_with fail
            refine (fault_any _ _ _ _ _ _ _ _ _ _ HR4.out).mono ?_
            rintro e w5 ⟨rfl, hR5, hS5⟩
            go_wp2
            go_ret
            refine ⟨HS4.out.trans hS5.more, ?_⟩
            rw [HE3.out]
            exact ⟨rfl, _, hR5⟩
        · have HSAVE : Hid (Save (fun b => b = R ∨ lo ≤ b) w wr) := (HS2.out.wider fun _ e => .inl e).trans (HS.out.wider fun b e => by rcases e with e | e <;> omega)
          by_cases h4 : xs.length = 4
          · have HE2 : Hid (rightF n t s 5 [] (k + 2) = .bad 4 k2) := by show _ = _; rw [HE.out, hf]; exact rightF_full h10 h4
            have HE3 := Lib.hid (lineF_bad (ss := ds.map Ru.abs) HG.out HQ.out HE2.out)
            have h4' : ((xs.length : Int) == 4) = true := by simp; omega
            go_wp2_with fail
            refine (is_bad R s k2 _ _ _ _ _ 10 HRk.out hkk h10).mono ?_
            rintro e w3 ⟨rfl, hB3⟩
            clear h10 HE hf h4
            have HR3 := Lib.hid (HRk.out.below hB3 (Nat.le_refl _))
            have HBX3 := Lib.hid (HBX.out.below hB3 HBX.out.lt)
            have HB3 := Lib.hid hB3; clear hB3
            have b1 : w3.cell? ⟨w2.heap.size, 1, none⟩ = some (.slice Ax xs.length cx) := HBX3.out.cell 1
            have c1 : w3.cell? ⟨R, 1, none⟩ = some (.int .i64 (k2 : Int)) := HR3.out.cell 1
            go_wp2_with fail
            refine (fault_any _ _ _ _ _ _ _ _ _ _ HR3.out).mono ?_
            rintro e w5 ⟨rfl, hR5, hS5⟩
            go_wp2
            go_ret
            refine ⟨(HSAVE.out.trans (Save.of_below HB3.out)).trans hS5.more, ?_⟩
            rw [HE3.out]
            exact ⟨rfl, _, hR5⟩
          · have h4' : ((xs.length : Int) == 4) = false := by simp; omega
            by_cases hlt : k2 < s.size
            · have he : ((k2 : Int) == (s.size : Int)) = false := by simp; omega
              cases hs : symG n t (chr s k2) with
              | none =>
                have HE2 : Hid (rightF n t s 5 [] (k + 2) = .bad 3 k2) := by show _ = _; rw [HE.out, hf]; exact rightF_none h10 h4 hs
                have HE3 := Lib.hid (lineF_bad (ss := ds.map Ru.abs) HG.out HQ.out HE2.out)
                have HSG2 : Hid (symG n t (s[k2].toNat : Int) = none) := by show _ = _; rw [← chr_at hlt]; exact hs
                go_wp2_with fail
                refine (is_bad R s k2 _ _ _ _ _ 10 HRk.out hkk h10).mono ?_
                rintro e w3 ⟨rfl, hB3⟩
                clear h10 HE hf h4 hs
                have HR3 := Lib.hid (HRk.out.below hB3 (Nat.le_refl _))
                have HBX3 := Lib.hid (HBX.out.below hB3 HBX.out.lt)
                have HB3 := Lib.hid hB3; clear hB3
                have b1 : w3.cell? ⟨w2.heap.size, 1, none⟩ = some (.slice Ax xs.length cx) := HBX3.out.cell 1
                have c0 : w3.cell? ⟨R, 0, none⟩ = some (.string s) := HR3.out.cell 0
                have c1 : w3.cell? ⟨R, 1, none⟩ = some (.int .i64 (k2 : Int)) := HR3.out.cell 1
                have c3 : w3.cell? ⟨R, 3, none⟩ = some (.int .i64 n) := HR3.out.cell 3
                have c4 : w3.cell? ⟨R, 4, none⟩ = some (.int .i64 t) := HR3.out.cell 4
                go_wp2
                go_quiet (fail)
                go_wp2
                obtain ⟨q1, hq1⟩ : ∃ x, x = nq := ⟨_, rfl⟩
                subst hq1
                go_quiet (exact (l2Symbol_any n t _ _ n0 n6 t0 t4).mono fun _ _ h => ⟨h.1, _, h.2.symm⟩)
                rw [HSG2.out]
                have hBd : Below w3.heap.size w3 ((w3.drewN q1).drewN nq) := below_drewN (below_drewN (Below.refl _ _) _) _
                generalize (w3.drewN q1).drewN nq = W at hBd ⊢
                have HRW := Lib.hid (HR3.out.below hBd (Nat.le_refl _))
                have HBd := Lib.hid (HB3.out.trans (hBd.mono HB3.out.size)); clear hBd
                clear b1 c0 c1 c3 c4
                have c1 : W.cell? ⟨R, 1, none⟩ = some (.int .i64 (k2 : Int)) := HRW.out.cell 1
                go_wp2_with fail
                refine (fault_any _ _ _ _ _ _ _ _ _ _ HRW.out).mono ?_
                rintro e w5 ⟨rfl, hR5, hS5⟩
                go_wp2
                go_ret
                refine ⟨(HSAVE.out.trans (Save.of_below HBd.out)).trans hS5.more, ?_⟩
                rw [HE3.out]
                exact ⟨rfl, _, hR5⟩
              | some x =>
                have HE2 : Hid (rightF n t s 5 [] (k + 2) = rightF n t s f (xs ++ [x]) (k2 + 1)) := by show _ = _; rw [HE.out, hf]; exact rightF_some h10 h4 hs
                have HSG2 : Hid (symG n t (s[k2].toNat : Int) = some x) := by show _ = _; rw [← chr_at hlt]; exact hs
                have hxl2 : xs.length < 4 := by omega
                go_wp2_with fail
                refine (is_bad R s k2 _ _ _ _ _ 10 HRk.out hkk h10).mono ?_
                rintro e w3 ⟨rfl, hB3⟩
                clear h10 HE h4 hs
                have HR3 := Lib.hid (HRk.out.below hB3 (Nat.le_refl _))
                have HBX3 := Lib.hid (HBX.out.below hB3 HBX.out.lt)
                have HO3 := Lib.hid (own_below HO.out hB3)
                have HB3 := Lib.hid hB3; clear hB3
                have b1 : w3.cell? ⟨w2.heap.size, 1, none⟩ = some (.slice Ax xs.length cx) := HBX3.out.cell 1
                have c0 : w3.cell? ⟨R, 0, none⟩ = some (.string s) := HR3.out.cell 0
                have c1 : w3.cell? ⟨R, 1, none⟩ = some (.int .i64 (k2 : Int)) := HR3.out.cell 1
                have c3 : w3.cell? ⟨R, 3, none⟩ = some (.int .i64 n) := HR3.out.cell 3
                have c4 : w3.cell? ⟨R, 4, none⟩ = some (.int .i64 t) := HR3.out.cell 4
                go_wp2
                go_quiet (fail)
                go_wp2
                obtain ⟨q1, hq1⟩ : ∃ x, x = nq := ⟨_, rfl⟩
                subst hq1
                go_quiet (exact (l2Symbol_any n t _ _ n0 n6 t0 t4).mono fun _ _ h => ⟨h.1, _, h.2.symm⟩)
                rw [HSG2.out]
                have hBd : Below w3.heap.size w3 ((w3.drewN q1).drewN nq) := below_drewN (below_drewN (Below.refl _ _) _) _
                generalize (w3.drewN q1).drewN nq = W at hBd ⊢
                have HRW := Lib.hid (HR3.out.below hBd (Nat.le_refl _))
                have HBXW := Lib.hid (HBX3.out.below hBd HBX3.out.lt)
                have HOWr := Lib.hid (own_below HO3.out hBd)
                have HBd := Lib.hid (HB3.out.trans (hBd.mono HB3.out.size)); clear hBd
                clear b1 c0 c1 c3 c4
                have hszW : w2.heap.size + 1 ≤ W.heap.size := by have := HBXW.out.lt; omega
                have b1 : W.cell? ⟨w2.heap.size, 1, none⟩ = some (.slice Ax xs.length cx) := HBXW.out.cell 1
                have hown := HOWr.out.alloc (.cells #[.int .i64 x] 3)
                have HWn := Lib.hid hown; clear hown
                have hnew := cell_one_new W (.int .i64 x) 3
                have HNW := Lib.hid hnew; clear hnew
                have HNE : Hid (∀ b, b < w2.heap.size + 1 → some b ≠ (Value.slice Ax xs.length cx).ownBlock) := fun b hb e => by have := (HOWr.out.lt b e.symm).1; omega
                have hRB : ¬ R = w2.heap.size := by omega
                have hBR : ¬ w2.heap.size = R := by omega
                go_wp2_with (at_builtin
                             refine wpList_append_own _ rfl (.tmp 118) (.tmp 120) _ rfl (w2.heap.size + 1) 3 j0 _ 1 8 Tryd.underlying34 hj0 hy0 hy1 hy2 rfl (by omega) _ _ _ rfl HWn.out ⟨W.heap.size, 0, none⟩ 1 1 [.int .i64 x] rfl rfl HNW.out (by intro u hu; simp at hu; subst hu; rfl) (by unfold maxLen; omega) (by omega) (by simp; omega) ?_
                             intro v' w' h1 h2 h3
                             obtain ⟨A', c', rfl⟩ := own_slice h1
                             have hrow : Row w' R 85 _ := (h2.block R (by simp; omega) (HNE.out R (by omega))).trans (Row.alloc HRW.out _)
                             have hbox : Row w' w2.heap.size 64 _ := (h2.block w2.heap.size (by simp; omega) (HNE.out _ (by omega))).trans (Row.alloc HBXW.out _)
                             have r1 : w'.cell? ⟨R, 1, none⟩ = some (.int .i64 (k2 : Int)) := hrow.cell 1
                             have z1 : w'.frozen? ⟨R, 1, none⟩ = false := hrow.frozen 1
                             have d1 : w'.cell? ⟨w2.heap.size, 1, none⟩ = some (.slice Ax xs.length cx) := hbox.cell 1
                             have y1 : w'.frozen? ⟨w2.heap.size, 1, none⟩ = false := hbox.frozen 1
                             have HO1 := Lib.hid h1
                             have HG1 := Lib.hid h2
                             have HRW' := Lib.hid hrow
                             have HBXW' := Lib.hid hbox
                             clear h1 h2 h3 hrow hbox)
                go_roundg f
                case measure => omega
                case rel =>
                  refine ⟨k2 + 1, xs ++ [x], .slice A' (xs.length + 1) c', by simp; omega, by simp; omega, by omega, ?_, ?_, ?_, ?_, HE2⟩
                  · show Rd2 _ _ _ _ _ _ _ _
                    exact (HRW'.out.far (p := ⟨w2.heap.size, 1, none⟩) hRB _).set 1 _
                  · show Row _ _ _ _
                    exact (HBXW'.out.set 1 _).far (p := ⟨R, 1, none⟩) hBR _
                  · show World.ownsRow _ _ _ _ _ _ _
                    refine ownsRow_setCell_below (ownsRow_setCell_below ?_ (a := ⟨w2.heap.size, 1, none⟩) (by simp) _) (a := ⟨R, 1, none⟩) (by show R < w2.heap.size + 1; omega) _
                    simpa using HO1.out
                  · show Save _ _ _
                    refine Save.setCell (S := fun b => b = R ∨ w2.heap.size ≤ b) (p := ⟨R, 1, none⟩) (Save.setCell (S := fun b => b = R ∨ w2.heap.size ≤ b) (p := ⟨w2.heap.size, 1, none⟩) (Save.grownS ((HS.out.trans (Save.of_below HBd.out)).trans (Save.of_below ?_)) HG1.out fun j hj => .inr ?_) (.inr (Nat.le_refl _)) _) (.inl rfl) _
                    · go_grown
                    · have := (HOWr.out.lt j hj).1; omega
            · have he : ((k2 : Int) == (s.size : Int)) = true := by simp; omega
              have HE2 : Hid (rightF n t s 5 [] (k + 2) = .bad 3 k2) := by show _ = _; rw [HE.out, hf]; exact rightF_none h10 h4 (symG_end hlt)
              have HE3 := Lib.hid (lineF_bad (ss := ds.map Ru.abs) HG.out HQ.out HE2.out)
              go_wp2_with fail
              refine (is_bad R s k2 _ _ _ _ _ 10 HRk.out hkk h10).mono ?_
              rintro e w3 ⟨rfl, hB3⟩
              clear h10 HE hf h4
              have HR3 := Lib.hid (HRk.out.below hB3 (Nat.le_refl _))
              have HBX3 := Lib.hid (HBX.out.below hB3 HBX.out.lt)
              have HB3 := Lib.hid hB3; clear hB3
              have b1 : w3.cell? ⟨w2.heap.size, 1, none⟩ = some (.slice Ax xs.length cx) := HBX3.out.cell 1
              have c0 : w3.cell? ⟨R, 0, none⟩ = some (.string s) := HR3.out.cell 0
              have c1 : w3.cell? ⟨R, 1, none⟩ = some (.int .i64 (k2 : Int)) := HR3.out.cell 1
              go_wp2
              go_quiet (fail)
              have HRW : Hid (Rd2 (w3.drewN nq) R s (k2 : Int) cd n t (.slice Av ds.length cv)) := HR3.out
              go_wp2_with fail
              refine (fault_any _ _ _ _ _ _ _ _ _ _ HRW.out).mono ?_
              rintro e w5 ⟨rfl, hR5, hS5⟩
              go_wp2
              go_ret
              refine ⟨(HSAVE.out.trans (Save.of_below (below_drewN HB3.out _))).trans hS5.more, ?_⟩
              rw [HE3.out]
              exact ⟨rfl, _, hR5⟩
    · have HE := Lib.hid (lineF_eq (t := t) (ss := ds.map Ru.abs) HG.out h61)
      refine (is_bad R s (k + 1) _ _ _ _ _ 61 HR1.out (by omega) h61).mono ?_
      rintro e w2 ⟨rfl, hB2⟩
      clear h61
      have HR2 := Lib.hid (HR1.out.below hB2 (Nat.le_refl _))
      have HB2 := Lib.hid hB2; clear hB2
      have c1 : w2.cell? ⟨R, 1, none⟩ = some (.int .i64 ((k + 1 : Nat) : Int)) := HR2.out.cell 1
      simp only [Int.natCast_add, Int.cast_ofNat_Int] at c1
      go_wp2_with fail
      refine (fault_any _ _ _ _ _ _ _ _ _ _ HR2.out).mono ?_
      rintro e w3 ⟨rfl, hR3, hS3⟩
      go_wp2
      go_ret
      refine ⟨((HS1.out.trans (Save.of_below HB2.out)).trans hS3).more, ?_⟩
      rw [HE.out]
      exact ⟨rfl, _, by simpa using hR3⟩

end Go.Proofs.YtacehfjhpnplbaaDoor

/- What the laws' marks write into a grammar, and what they find again. -/

namespace Go.Proofs.YtacehfjhpnplbaaDoor
open Go.RowKit

theorem OwnR.at_ {w : World} {lo : Nat} {A : Option Addr} {rs : List Ru} (h : OwnR w lo A rs) {i : Nat} (hi : i < rs.length) :
    ∃ g, A = some ⟨g, 0, none⟩ ∧ lo ≤ g ∧ g < w.heap.size ∧ w.cell? ⟨g, i * 2, none⟩ = some (.int .i64 rs[i].l) ∧ w.cell? ⟨g, i * 2 + 1, none⟩ = some (.slice rs[i].a rs[i].r.length rs[i].c) ∧ w.frozen? ⟨g, i * 2, none⟩ = false ∧ w.frozen? ⟨g, i * 2 + 1, none⟩ = false ∧ OwnI w lo rs[i].a rs[i].r := by
  rcases h with h | ⟨g, cs, ea, hl, hr, hc, _⟩
  · subst h; simp at hi
  · obtain ⟨h1, h2, h3⟩ := hc i _ (List.getElem?_eq_getElem hi)
    exact ⟨g, ea, hl, hr.lt, by rw [hr.cell]; exact h1, by rw [hr.cell]; exact h2, hr.frozen _, hr.frozen _, h3⟩

theorem OwnR.setLeft {w : World} {lo g : Nat} {rs : List Ru} (h : OwnR w lo (some ⟨g, 0, none⟩) rs) {i : Nat} (hi : i < rs.length) (x : Int) :
    OwnR (w.setCell ⟨g, i * 2, none⟩ (.int .i64 x)) lo (some ⟨g, 0, none⟩) (rs.set i { rs[i] with l := x }) := by
  rcases h with h | ⟨g', cs, ea, hl, hr, hc, hd⟩
  · subst h; simp at hi
  · injection ea with ea
    injection ea with ea
    subst ea
    have hlt : i * 2 < cs.size := (Array.getElem?_eq_some_iff.1 (hc i _ (List.getElem?_eq_getElem hi)).1).1
    have keep : ∀ {A' : Option Addr} {xs : List Int}, OwnI w lo A' xs → OwnI (w.setCell ⟨g, i * 2, none⟩ (.int .i64 x)) lo A' xs := by
      intro A' xs h
      rcases h with h | ⟨g', cs', e, hl', hr', hc'⟩
      · exact .inl h
      · exact .inr ⟨g', cs', e, hl', hr'.far (hr'.ne hr (by decide)) _, hc'⟩
    refine .inr ⟨g, cs.setIfInBounds (i * 2) (.int .i64 x), rfl, hl, hr.set _ _, fun k u hu => ?_, fun a b u v hu hv hab hun hvn => ?_⟩
    · rw [List.getElem?_set] at hu
      by_cases e : i = k
      · subst e
        rw [if_pos rfl, if_pos hi] at hu
        injection hu with hu
        subst hu
        obtain ⟨_, h2, h3⟩ := hc i _ (List.getElem?_eq_getElem hi)
        refine ⟨by rw [Array.getElem?_setIfInBounds, if_pos rfl, if_pos hlt], ?_, keep h3⟩
        rw [Array.getElem?_setIfInBounds, if_neg (by omega)]; exact h2
      · rw [if_neg e] at hu
        obtain ⟨h1, h2, h3⟩ := hc k u hu
        refine ⟨?_, ?_, keep h3⟩
        · rw [Array.getElem?_setIfInBounds, if_neg (by omega)]; exact h1
        · rw [Array.getElem?_setIfInBounds, if_neg (by omega)]; exact h2
    · have old : ∀ (j : Nat) (y : Ru), (rs.set i { rs[i] with l := x })[j]? = some y → ∃ z, rs[j]? = some z ∧ z.a = y.a ∧ z.r = y.r := by
        intro j y hy
        rw [List.getElem?_set] at hy
        by_cases e : i = j
        · subst e
          rw [if_pos rfl, if_pos hi] at hy
          injection hy with hy
          subst hy
          exact ⟨rs[i], List.getElem?_eq_getElem hi, rfl, rfl⟩
        · rw [if_neg e] at hy
          exact ⟨y, hy, rfl, rfl⟩
      obtain ⟨u', hu', e1, e2⟩ := old a u hu
      obtain ⟨v', hv', e3, e4⟩ := old b v hv
      rw [← e1, ← e3]
      exact hd a b u' v' hu' hv' hab (by rw [e2]; exact hun) (by rw [e4]; exact hvn)

theorem OwnR.setRight {w w' : World} {lo : Nat} {A : Option Addr} {rs : List Ru} (h : OwnR w lo A rs) {i : Nat} (hi : i < rs.length) {ys : List Int} (hy : ys.length = rs[i].r.length)
    (hO : OwnI w' lo rs[i].a ys) (hs : Save (Its rs[i].a rs[i].r) w w') : OwnR w' lo A (rs.set i { rs[i] with r := ys }) := by
  rcases h with h | ⟨g, cs, ea, hl, hr, hc, hd⟩
  · subst h; simp at hi
  · have hgi : ¬ Its rs[i].a rs[i].r g := by
      rintro ⟨e1, e2⟩
      rcases (hc i _ (List.getElem?_eq_getElem hi)).2.2 with h3 | ⟨g', cs', e3, _, hr', _⟩
      · exact e2 h3
      · rw [e1] at e3
        injection e3 with e3
        injection e3 with e3
        exact hr'.ne hr (by decide) e3.symm
    refine .inr ⟨g, cs, ea, hl, hr.save hs hgi, fun k u hu => ?_, fun a b u v hu hv hab hun hvn => ?_⟩
    · rw [List.getElem?_set] at hu
      by_cases e : i = k
      · subst e
        rw [if_pos rfl, if_pos hi] at hu
        injection hu with hu
        subst hu
        obtain ⟨h1, h2, _⟩ := hc i _ (List.getElem?_eq_getElem hi)
        exact ⟨h1, by rw [hy]; exact h2, hO⟩
      · rw [if_neg e] at hu
        obtain ⟨h1, h2, h3⟩ := hc k u hu
        refine ⟨h1, h2, h3.save hs fun g' e1 e2 hI => ?_⟩
        exact hd k i u rs[i] hu (List.getElem?_eq_getElem hi) (Ne.symm e) e2 hI.2 (e1.trans hI.1.symm)
    · have old : ∀ (j : Nat) (y : Ru), (rs.set i { rs[i] with r := ys })[j]? = some y → ∃ z, rs[j]? = some z ∧ z.a = y.a ∧ (y.r ≠ [] → z.r ≠ []) := by
        intro j y hy'
        rw [List.getElem?_set] at hy'
        by_cases e : i = j
        · subst e
          rw [if_pos rfl, if_pos hi] at hy'
          injection hy' with hy'
          subst hy'
          refine ⟨rs[i], List.getElem?_eq_getElem hi, rfl, fun hn e => hn ?_⟩
          have : ys.length = 0 := by rw [hy, e]; rfl
          exact List.eq_nil_of_length_eq_zero this
        · rw [if_neg e] at hy'
          exact ⟨y, hy', rfl, id⟩
      obtain ⟨u', hu', e1, e2⟩ := old a u hu
      obtain ⟨v', hv', e3, e4⟩ := old b v hv
      rw [← e1, ← e3]
      exact hd a b u' v' hu' hv' hab (e2 hun) (e4 hvn)

/-- How many numbers the first i rules hold. -/
def cntTo (rs : List Ru) (i : Nat) : Nat := ((rs.take i).map fun u => 1 + u.r.length).sum
theorem cntTo_succ {rs : List Ru} {i : Nat} (hi : i < rs.length) : cntTo rs (i + 1) = cntTo rs i + (1 + rs[i].r.length) := by
  unfold cntTo
  rw [List.take_succ_eq_append_getElem hi, List.map_append, List.sum_append]
  simp
theorem cntTo_zero (rs : List Ru) : cntTo rs 0 = 0 := by simp [cntTo]

def markU (k : Int) (u : Ru) : Ru := { u with l := k, r := seqL (k + 1) u.r.length }
/-- The rules with the first i of them marked from k on. -/
def markL (k : Int) (rs : List Ru) (i : Nat) : List Ru := rs.mapIdx fun j u => if j < i then markU (k + (cntTo rs j : Int)) u else u
theorem markL_length (k : Int) (rs : List Ru) (i : Nat) : (markL k rs i).length = rs.length := by simp [markL]
theorem markL_at {k : Int} {rs : List Ru} {i j : Nat} (h : j < rs.length) (hj : j < (markL k rs i).length) : (markL k rs i)[j] = if j < i then markU (k + (cntTo rs j : Int)) rs[j] else rs[j] := by simp [markL]
theorem markL_zero (k : Int) (rs : List Ru) : markL k rs 0 = rs := by
  apply List.ext_getElem?
  intro j
  simp [markL]
theorem markL_step {k : Int} {rs : List Ru} {i : Nat} (h : i < rs.length) : (markL k rs i).set i (markU (k + (cntTo rs i : Int)) rs[i]) = markL k rs (i + 1) := by
  apply List.ext_getElem?
  intro j
  rw [List.getElem?_set, markL_length]
  by_cases e : i = j
  · subst e
    rw [if_pos rfl, if_pos h]
    simp [markL, h]
  · rw [if_neg e]
    simp only [markL, List.getElem?_mapIdx]
    by_cases hj : j < rs.length
    · rw [List.getElem?_eq_getElem hj]
      simp only [Option.map_some]
      congr 1
      by_cases hji : j < i
      · rw [if_pos hji, if_pos (by omega)]
      · rw [if_neg hji, if_neg (by omega)]
    · rw [List.getElem?_eq_none (by omega)]
      rfl

/-- The blocks of a slice of rules and of their right sides. -/
def ItsR (A : Option Addr) (rs : List Ru) (b : Nat) : Prop := (A = some ⟨b, 0, none⟩ ∧ rs ≠ []) ∨ ∃ (i : Nat) (u : Ru), rs[i]? = some u ∧ Its u.a u.r b

def MarkedR (w : World) (lo : Nat) (A : Option Addr) (rs : List Ru) (k : Int) (e : Ending) (w' : World) : Prop :=
  e = .returned (.int .i64 (k + (cntTo rs rs.length : Int))) ∧ OwnR w' lo A (markL k rs rs.length) ∧ Save (ItsR A rs) w w'

theorem set_left_right {rs : List Ru} {i : Nat} (h : i < rs.length) (x : Int) (ys : List Int) :
    ((rs.set i { rs[i] with l := x }).set i { (rs.set i { rs[i] with l := x })[i]'(by simpa using h) with r := ys }) = rs.set i { rs[i] with l := x, r := ys } := by
  rw [List.set_set]
  congr 1
  simp

theorem mark_right {wr : World} {lo g j : Nat} {rs : List Ru} {k : Int} (H : OwnR wr lo (some ⟨g, 0, none⟩) (markL k rs j)) (hlt : j < rs.length) (x : Int) : OwnI (wr.setCell ⟨g, j * 2, none⟩ (.int .i64 x)) lo rs[j].a rs[j].r := by
  have hlt' : j < (markL k rs j).length := by rw [markL_length]; exact hlt
  have hat : (markL k rs j)[j] = rs[j] := by rw [markL_at hlt, if_neg (by omega)]
  obtain ⟨_, _, _, _, _, _, _, _, h3⟩ := (H.setLeft hlt' x).at_ (i := j) (by simpa using hlt')
  simpa [hat] using h3

theorem mark_next {wr w1 : World} {lo g j : Nat} {rs : List Ru} {k : Int} (H : OwnR wr lo (some ⟨g, 0, none⟩) (markL k rs j)) (hlt : j < rs.length)
    (hO : OwnI w1 lo rs[j].a (seqL (k + (cntTo rs j : Int) + 1) rs[j].r.length)) (hS : Save (Its rs[j].a rs[j].r) (wr.setCell ⟨g, j * 2, none⟩ (.int .i64 (k + (cntTo rs j : Int)))) w1) :
    OwnR w1 lo (some ⟨g, 0, none⟩) (markL k rs (j + 1)) := by
  have hlt' : j < (markL k rs j).length := by rw [markL_length]; exact hlt
  have hat : (markL k rs j)[j] = rs[j] := by rw [markL_at hlt, if_neg (by omega)]
  have h2 := (H.setLeft hlt' (k + (cntTo rs j : Int))).setRight (i := j) (w' := w1) (ys := seqL (k + (cntTo rs j : Int) + 1) rs[j].r.length) (by simpa using hlt') (by simp [hat, seqL_length]) (by simpa [hat] using hO) (by simpa [hat] using hS)
  rw [set_left_right] at h2
  rw [← markL_step hlt]
  simpa [hat, markU] using h2

set_option maxHeartbeats 400000 in
theorem markRuleS_any (A : Option Addr) (rs : List Ru) (c lo : Nat) (k : Int) (w : World) (h : OwnR w lo A rs) (hn : rs.length ≤ 1048576) (hu : ∀ u ∈ rs, u.r.length ≤ 1048576) (hk : 0 ≤ k) (hk' : k ≤ 16) :
    Calls Tryd.prog 86 #[.slice A rs.length c, .int .i64 k] w (MarkedR w lo A rs k) := by
  have HO := Lib.hid h; clear h
  have HU := Lib.hid hu; clear hu
  go_enter Tryd.func86, Tryd.ntmps86
  go_wp2
  go_loopw [1, 5] (fun v i wr => ∃ (j : Nat), j ≤ rs.length ∧ i = .int .i64 j ∧ v = .int .i64 (k + (cntTo rs j : Int)) ∧ cntTo rs j ≤ j * 1048577 ∧ Hid (OwnR wr lo A (markL k rs j)) ∧ Hid (Save (ItsR A rs) w wr)) (fun _ i _ => rs.length - (intOf i).toNat)
  case atStart => exact ⟨0, by omega, rfl, by simp [cntTo_zero], by simp [cntTo_zero], by show OwnR _ _ _ _; rw [markL_zero]; exact HO.out, Save.refl _ _⟩
  case round =>
    obtain ⟨j, hj, rfl, rfl, hcn, H, HS⟩ := hrel
    by_cases hlt : j < rs.length
    · have hlt' : j < (markL k rs j).length := by rw [markL_length]; exact hlt
      have hat : (markL k rs j)[j] = rs[j] := by rw [markL_at hlt, if_neg (by omega)]
      obtain ⟨g, rfl, _, _, c1, c2, f1, f2, c3⟩ := H.out.at_ hlt'
      rw [hat] at c1 c2
      have hul := HU.out rs[j] (List.getElem_mem hlt)
      have HCS := Lib.hid (cntTo_succ hlt)
      clear c3 hat hlt'
      go_wp2_with fail
      refine (markIntS_any _ _ _ lo _ _ (mark_right H.out hlt _) hul (by omega) (by omega)).mono ?_
      rintro e w1 ⟨rfl, hO1, hS1⟩
      have HO1 := Lib.hid hO1; clear hO1
      have HS1 := Lib.hid hS1; clear hS1
      go_wp2
      go_roundw
      case rel => exact ⟨j + 1, by omega, by go_num, by rw [HCS.out]; go_num, by rw [HCS.out]; omega, mark_next H.out hlt HO1.out HS1.out, (HS.out.setCell (.inl ⟨rfl, fun e => by subst e; simp at hlt⟩) _).trans (HS1.out.wider fun i hi => .inr ⟨j, rs[j], List.getElem?_eq_getElem hlt, hi⟩)⟩
      case measure => simp [intOf]; omega
    · obtain rfl : j = rs.length := by omega
      go_wp2
      go_ret
      exact ⟨rfl, H.out, HS.out⟩

theorem cntTo_le {rs : List Ru} (hu : ∀ u ∈ rs, u.r.length ≤ 1048576) (i : Nat) : cntTo rs i ≤ i * 1048577 := by
  induction i with
  | zero => simp [cntTo_zero]
  | succ i ih =>
    by_cases h : i < rs.length
    · have := hu rs[i] (List.getElem_mem h)
      rw [cntTo_succ h]; omega
    · have e : cntTo rs (i + 1) = cntTo rs i := by unfold cntTo; rw [List.take_of_length_le (by omega), List.take_of_length_le (by omega)]
      omega

set_option maxHeartbeats 400000 in
theorem markGrammar_any (n t : Int) (A : Option Addr) (rs : List Ru) (c lo : Nat) (k : Int) (w : World) (h : OwnR w lo A rs) (hn : rs.length ≤ 1048576) (hu : ∀ u ∈ rs, u.r.length ≤ 1048576) (hk : 0 ≤ k) (hk' : k ≤ 16) :
    Calls Tryd.prog 36 #[.agg #[.int .i64 n, .int .i64 t, .slice A rs.length c], .int .i64 k] w (MarkedR w lo A rs k) := by
  have HB0 : Hid (Below w.heap.size w (w.alloc (.cells #[.int .i64 n, .int .i64 t, .slice A rs.length c] 26))) := by show Below _ _ _; go_grown
  have HO := Lib.hid (h.below HB0.out (Nat.le_refl _)); clear h
  have HU := Lib.hid hu; clear hu
  go_enter Tryd.func36, Tryd.ntmps36
  go_wp2_with fail
  refine (markRuleS_any _ _ _ lo _ _ HO.out hn HU.out hk hk').mono ?_
  rintro e w1 ⟨rfl, hO1, hS1⟩
  have HO1 := Lib.hid hO1; clear hO1
  have HS1 := Lib.hid hS1; clear hS1
  go_wp2
  go_ret
  exact ⟨rfl, HO1.out, (Save.of_below HB0.out).trans HS1.out⟩

set_option maxHeartbeats 400000 in
theorem heldRuleS_any (A : Option Addr) (rs : List Ru) (c : Nat) (k : Int) (w : World) (h : Rls w w.heap.size A (markL k rs rs.length)) (hn : rs.length ≤ 1048576) (hu : ∀ u ∈ rs, u.r.length ≤ 1048576) (hk : 0 ≤ k) (hk' : k ≤ 16) :
    Calls Tryd.prog 93 #[.slice A rs.length c, .int .i64 k] w fun e w' => e = .returned (.int .i64 (k + (cntTo rs rs.length : Int))) ∧ Below w.heap.size w w' := by
  have HO := Lib.hid h; clear h
  have HU := Lib.hid hu; clear hu
  go_enter Tryd.func93, Tryd.ntmps93
  go_wp2
  go_loopw [1, 5] (fun v i wr => ∃ (j : Nat), j ≤ rs.length ∧ i = .int .i64 j ∧ v = .int .i64 (k + (cntTo rs j : Int)) ∧ cntTo rs j ≤ j * 1048577 ∧ Below w.heap.size w wr) (fun _ i _ => rs.length - (intOf i).toNat)
  case atStart => exact ⟨0, by omega, rfl, by simp [cntTo_zero], by simp [cntTo_zero], Below.refl _ _⟩
  case round =>
    obtain ⟨j, hj, rfl, rfl, hcn, hB⟩ := hrel
    by_cases hlt : j < rs.length
    · have hat : (markL k rs rs.length)[j]'(by rw [markL_length]; exact hlt) = markU (k + (cntTo rs j : Int)) rs[j] := by rw [markL_at hlt, if_pos hlt]
      obtain ⟨b, o, rfl, hb, c1, c2, c3⟩ := (HO.out.keep hB).at_ (k := j) (by rw [markL_length]; exact hlt)
      rw [hat] at c1 c2 c3
      simp only [markU, seqL_length] at c1 c2 c3
      have C3 := Lib.hid (c3.more hB.size)
      have hul := HU.out rs[j] (List.getElem_mem hlt)
      have HCS := Lib.hid (cntTo_succ hlt)
      have hne : ((k + (cntTo rs j : Int)) != (k + (cntTo rs j : Int))) = false := by simp
      clear c3 hat
      go_wp2_with fail
      refine (heldIntS_any _ _ _ _ _ C3.out hul (by omega) (by omega)).mono ?_
      rintro e w1 ⟨rfl, hB1⟩
      have HB1 := Lib.hid (hB.trans (hB1.mono hB.size)); clear hB1
      go_wp2
      go_roundw
      case rel => exact ⟨j + 1, by omega, by go_num, by rw [HCS.out]; go_num, by rw [HCS.out]; omega, HB1.out⟩
      case measure => simp [intOf]; omega
    · obtain rfl : j = rs.length := by omega
      go_wp2
      go_ret
      exact ⟨rfl, hB⟩

set_option maxHeartbeats 400000 in
theorem heldGrammar_any (n t : Int) (A : Option Addr) (rs : List Ru) (c : Nat) (k : Int) (w : World) (h : Rls w w.heap.size A (markL k rs rs.length)) (hn : rs.length ≤ 1048576) (hu : ∀ u ∈ rs, u.r.length ≤ 1048576) (hk : 0 ≤ k) (hk' : k ≤ 16) :
    Calls Tryd.prog 45 #[.agg #[.int .i64 n, .int .i64 t, .slice A rs.length c], .int .i64 k] w fun e w' => e = .returned (.int .i64 (k + (cntTo rs rs.length : Int))) ∧ Below w.heap.size w w' := by
  have HB0 : Hid (Below w.heap.size w (w.alloc (.cells #[.int .i64 n, .int .i64 t, .slice A rs.length c] 26))) := by show Below _ _ _; go_grown
  have HO := Lib.hid ((h.keep HB0.out).more HB0.out.size); clear h
  have HU := Lib.hid hu; clear hu
  go_enter Tryd.func45, Tryd.ntmps45
  go_wp2_with fail
  refine (heldRuleS_any _ _ _ _ _ HO.out hn HU.out hk hk').mono ?_
  rintro e w1 ⟨rfl, hB1⟩
  have HB1 := Lib.hid (HB0.out.trans (hB1.mono HB0.out.size)); clear hB1
  go_wp2
  go_ret
  exact ⟨rfl, HB1.out⟩

end Go.Proofs.YtacehfjhpnplbaaDoor

/- Which blocks an owned list or an owned list of rules takes. -/

namespace Go.Proofs.YtacehfjhpnplbaaDoor
open Go.RowKit

theorem OwnI.its {w : World} {lo : Nat} {A : Option Addr} {xs : List Int} (h : OwnI w lo A xs) {b : Nat} (hb : Its A xs b) : lo ≤ b ∧ b < w.heap.size := by
  rcases h with h | ⟨g, cs, e, hl, hr, _⟩
  · exact absurd h hb.2
  · have := hb.1.symm.trans e
    injection this with this
    injection this with this
    subst this
    exact ⟨hl, hr.lt⟩

theorem OwnR.its {w : World} {lo : Nat} {A : Option Addr} {rs : List Ru} (h : OwnR w lo A rs) {b : Nat} (hb : ItsR A rs b) : lo ≤ b ∧ b < w.heap.size := by
  rcases h with h | ⟨g, cs, e, hl, hr, hc, _⟩
  · subst h
    rcases hb with hb | ⟨i, u, hu, _⟩
    · exact absurd rfl hb.2
    · simp at hu
  · rcases hb with ⟨hb, _⟩ | ⟨i, u, hu, hI⟩
    · have := hb.symm.trans e
      injection this with this
      injection this with this
      subst this
      exact ⟨hl, hr.lt⟩
    · exact (hc i u hu).2.2.its hI

theorem OwnI.kept {S : Nat → Prop} {w w' : World} {lo : Nat} {A : Option Addr} {xs : List Int} (h : OwnI w lo A xs) (hs : Save S w w') (hd : ∀ b, Its A xs b → ¬ S b) : OwnI w' lo A xs :=
  h.save hs fun g e hn => hd g ⟨e, hn⟩

theorem eqL_refl (xs : List Int) : eqL xs xs = true := eqL_t rfl

end Go.Proofs.YtacehfjhpnplbaaDoor

/- What the walks of the laws with a grammar as their answer share, in any seat. -/

namespace Go.Proofs.YtacehfjhpnplbaaDoor
open Go.RowKit

theorem Box3.save {S : Nat → Prop} {w w' : World} {g : Nat} {a b c : Value} (h : Box3 w g a b c) (hs : Save S w w') (hg : ¬ S g) : Box3 w' g a b c := by
  obtain ⟨h0, h1, h2, h3⟩ := h
  have hb := hs.block g h0 hg
  exact ⟨by have := hs.size; omega, (World.cell?_of_block (a := ⟨g, 0, none⟩) hb).trans h1, (World.cell?_of_block (a := ⟨g, 1, none⟩) hb).trans h2, (World.cell?_of_block (a := ⟨g, 2, none⟩) hb).trans h3⟩

theorem OwnR.kept {S : Nat → Prop} {w w' : World} {lo : Nat} {A : Option Addr} {rs : List Ru} (h : OwnR w lo A rs) (hs : Save S w w') (hd : ∀ b, ItsR A rs b → ¬ S b) : OwnR w' lo A rs := by
  by_cases e : rs = []
  · exact .inl e
  · rcases h with h | ⟨g, cs, ea, hl, hr, hc, hdd⟩
    · exact .inl h
    · refine .inr ⟨g, cs, ea, hl, hr.save hs (hd g (.inl ⟨ea, e⟩)), fun k u hu => ?_, hdd⟩
      obtain ⟨h1, h2, h3⟩ := hc k u hu
      exact ⟨h1, h2, h3.kept hs fun b hb => hd b (.inr ⟨k, u, hu, hb⟩)⟩

theorem says_len {rs : List Ru} {ss : List (Int × List Int)} (h : rs.map Ru.abs = ss) (hs : ss.length ≤ 1048576) : rs.length ≤ 1048576 := by rw [← h, List.length_map] at hs; exact hs
theorem says_lens {rs : List Ru} {ss : List (Int × List Int)} (h : rs.map Ru.abs = ss) (hs : ∀ u ∈ ss, u.2.length ≤ 1048576) : ∀ u ∈ rs, u.r.length ≤ 1048576 := fun u hu => hs u.abs (h ▸ List.mem_map.2 ⟨u, hu, rfl⟩)

theorem box_new (w : World) (a b c : Value) (t : TypeId) : Box3 (w.alloc (.cells #[a, b, c] t)) w.heap.size a b c := ⟨by simp, by simp [go_sem], by simp [go_sem], by simp [go_sem]⟩
theorem below_new (w : World) (o : Obj) : Below w.heap.size w (w.alloc o) := (Below.refl _ _).alloc (Nat.le_refl _) _

end Go.Proofs.YtacehfjhpnplbaaDoor

/- The reference's cursor: word. -/

namespace Go.Proofs.YtacehfjhpnplbaaDoor
open Go.RowKit

theorem l1Most_any (x y : Int) (w : World) : Calls Tryd.prog 119 #[.int .i64 x, .int .i64 y] w fun e w' => e = .returned (.int .i64 (max x y)) ∧ w' = w := by
  by_cases h : y < x
  · have e : max x y = x := by omega
    rw [e]
    go_enter Tryd.func119, Tryd.ntmps119
    go_wp2
    go_ret
    exact ⟨rfl, rfl⟩
  · have e : max x y = y := by omega
    rw [e]
    go_enter Tryd.func119, Tryd.ntmps119
    go_wp2
    go_ret
    exact ⟨rfl, rfl⟩

theorem own_save {S : Nat → Prop} {w w' : World} {base : Nat} {e : TypeId} {size n : Nat} {v : Value} {xs : List Value} (h : w.ownsRow base e size v n xs) (hs : Save S w w') (hS : ∀ b, base ≤ b → ¬ S b) : w'.ownsRow base e size v n xs := by
  obtain ⟨hl, h1 | ⟨g, cap, cur, e1, hlo, hg, e2, e3, e4, e5⟩⟩ := h
  · exact ⟨hl, .inl h1⟩
  · exact ⟨hl, .inr ⟨g, cap, cur, e1, hlo, (hs.block g (Row.lt hg) (hS g hlo)).trans hg, e2, e3, e4, e5⟩⟩

def SmallI (xs : List Int) : Prop := ∀ x ∈ xs, -1 ≤ x ∧ x ≤ 65535
theorem Save.then {S : Nat → Prop} {a b c : World} {B : Nat} (h : Save S a b) (k : Below B b c) (hB : a.heap.size ≤ B) : Save S a c :=
  ⟨k.os.trans h.os, k.tape.trans h.tape, k.output.trans h.output, Nat.le_trans h.size k.size, fun i hi hn => (k.block i (by omega)).trans (h.block i hi hn)⟩
theorem OwnI.saveR {w w' : World} {lo R : Nat} {A : Option Addr} {xs : List Int} (h : OwnI w lo A xs) (hs : Save (· = R) w w') (hR : R < lo) : OwnI w' lo A xs :=
  h.save hs fun g e hne => by
    rcases h with h | ⟨g', _, e', hl, _⟩
    · exact absurd h hne
    · rw [e] at e'; cases e'; omega
theorem small_set {xs : List Int} (h : SmallI xs) {y : Int} (hy : -1 ≤ y ∧ y ≤ 65535) (i : Nat) : SmallI (xs.set i y) := by
  intro x hx
  rcases List.mem_or_eq_of_mem_set hx with h1 | h1
  · exact h x h1
  · subst h1; exact hy

/-- A new list of small numbers is told. -/
def ToldI (w : World) (R m k : Nat) (e : Ending) (w' : World) : Prop := ∃ A xs c, e = .returned (.slice A (List.length xs) c) ∧ xs.length ≤ k ∧ SmallI xs ∧ OwnI w' w.heap.size A xs ∧ CurS w' R m ∧ Save (· = R) w w'

set_option maxRecDepth 20000 in
set_option maxHeartbeats 4000000 in
theorem curWord_any (R m : Nat) (n t most : Int) (v : Value) (w : World) (h : CurS w R m) (hm : m ≤ 999900) (hm0 : 0 ≤ most) (hm1 : most ≤ 12) (ht : t ≤ 1000) :
    Calls Tryd.prog 73 #[.pointer (some ⟨R, 0, none⟩), .agg #[.int .i64 n, .int .i64 t, v], .int .i64 most] w (ToldI w R (m + 40) 12) := by
  obtain ⟨i0, hi0, hz0, hz1, hz2⟩ := info_of Tryd.infoInt
  have HC := Lib.hid h; clear h
  have hRw := HC.out.lt
  have HB0 : Hid (Below w.heap.size w (w.alloc (.cells #[.int .i64 n, .int .i64 t, v] 26))) := by show Below _ _ _; go_grown
  have BX0 := Lib.hid (Row.new w 26 #[.int .i64 n, .int .i64 t, v])
  have HC0 := Lib.hid (HC.out.keep HB0.out HC.out.lt)
  have HS0 : Hid (Save (· = R) w (w.alloc (.cells #[.int .i64 n, .int .i64 t, v] 26))) := Save.of_below HB0.out
  go_enter Tryd.func73, Tryd.ntmps73
  go_wp2_with fail
  refine (curPick_any R m _ _ HC0.out (by omega) (by omega)).mono ?_
  rintro _ w1 ⟨x, rfl, hx, hC1, hS1⟩
  obtain ⟨x0, hx0⟩ : ∃ x0 : Nat, x = (x0 : Int) := ⟨x.toNat, by have := hx.1; omega⟩
  subst hx0
  have hx1 : x0 ≤ 12 := by have := hx.2.2; omega
  clear hx
  have BX1 := Lib.hid (BX0.out.save hS1 (by omega))
  have hsz1 : w.heap.size < w1.heap.size := BX1.out.lt
  have HC1 := Lib.hid hC1; clear hC1
  have HS1 := Lib.hid (HS0.out.trans hS1); clear hS1
  clear HB0 BX0 HC0 HS0
  go_wp2_with fail
  go_loopw [7, 8] (fun v' i wr => ∃ (k : Nat) (xs : List Int), i = .int .i64 k ∧ xs.length + k ≤ 12 ∧ w.heap.size < wr.heap.size ∧ Hid (wr.ownsRow (w.heap.size + 1) 3 1 v' xs.length (xs.map fun y => Value.int .i64 y)) ∧ Hid (Row wr w.heap.size 26 #[.int .i64 n, .int .i64 t, v]) ∧ Hid (CurS wr R (m + 2 + (12 - k) * 2)) ∧ Hid (Save (· = R) w wr) ∧ Hid (SmallI xs)) (fun _ i _ => (intOf i).toNat)
  case atStart => exact ⟨x0, [], rfl, by simp; omega, hsz1, ⟨rfl, .inl ⟨rfl, rfl⟩⟩, BX1.out, HC1.out.mono (by omega), HS1.out, fun x hx => by simp at hx⟩
  case round =>
    clear BX1 HC1 HS1 hsz1
    obtain ⟨k, xs, rfl, hxl, hsz, HO, BX, H, HS, HM⟩ := hrel
    by_cases hk : 0 < k
    · have b1 : wr.cell? ⟨w.heap.size, 1, none⟩ = some (.int .i64 t) := BX.out.cell 1
      obtain ⟨wA, hA⟩ : ∃ x, x = wr := ⟨_, rfl⟩
      subst hA
      go_wp2_with fail
      refine (l1Most_any _ _ _).mono ?_
      rintro _ _ ⟨rfl, rfl⟩
      have hmx : max 1 t ≤ 1000 := by omega
      generalize max 1 t = t' at hmx ⊢
      go_wp2_with fail
      refine (curPick_any R _ _ _ H.out (by omega) (by omega)).mono ?_
      rintro _ w2 ⟨y, rfl, hy, hC2, hS2⟩
      have HY : Hid (-1 ≤ y ∧ y ≤ 65535) := ⟨by have := hy.1; omega, hy.2.1⟩
      clear hy
      have HO2 := Lib.hid (own_save HO.out hS2 (by intro b hb; omega))
      have BX2 := Lib.hid (BX.out.save hS2 (by omega))
      have HC2 := Lib.hid hC2; clear hC2
      have HS2 := Lib.hid (HS.out.trans hS2); clear hS2
      clear HO BX H HS b1
      have hs2 := BX2.out.lt
      have hown := HO2.out.alloc (.cells #[.int .i64 y] 3)
      have HWn := Lib.hid hown; clear hown
      have hnew := cell_one_new w2 (.int .i64 y) 3
      have HNW := Lib.hid hnew; clear hnew
      go_wp2_with (at_builtin
                   refine wpList_append_own _ rfl (.tmp 17) (.tmp 23) _ rfl (w.heap.size + 1) 3 i0 _ 1 8 Tryd.underlying34 hi0 hz0 hz1 hz2 rfl (by omega) _ _ _ rfl HWn.out ⟨w2.heap.size, 0, none⟩ 1 1 [.int .i64 y] rfl rfl HNW.out (by intro u hu; simp at hu; subst hu; rfl) (by unfold maxLen; omega) (by omega) (by simp; omega) ?_
                   intro v' w' h1 h2 h3
                   have HO1 := Lib.hid h1
                   have HG1 := Lib.hid h2
                   clear h1 h2 h3)
      have HB3 : Hid (Below (w.heap.size + 1) w2 w') := ((Below.refl _ _).alloc (by omega) _).grown HG1.out (by simp; omega) fun j hj => (HO2.out.lt j hj).1
      have hs3 := HB3.out.size
      go_roundw
      case rel =>
        refine ⟨k - 1, xs ++ [y], by go_num, by simp; omega, by omega, ?_, BX2.out.below HB3.out (by omega), (HC2.out.keep HB3.out (by omega)).mono (by omega), HS2.out.then HB3.out (by omega), ?_⟩
        · show World.ownsRow _ _ _ _ _ _ _
          simpa using HO1.out
        · intro x hx
          rcases List.mem_append.1 hx with h | h
          · exact HM.out x h
          · simp at h; subst h; exact HY.out
      case measure => simp [intOf]; omega
    · obtain rfl : k = 0 := by omega
      obtain ⟨Av, cv, rfl, hOI⟩ := ownI_of_row HO.out
      have HOI := Lib.hid hOI; clear hOI
      by_cases hx0 : xs.length = 0
      · have : xs = [] := List.eq_nil_of_length_eq_zero hx0
        subst this
        go_wp2
        go_ret
        exact ⟨Av, [], cv, rfl, by simp, HM.out, .inl rfl, H.out.mono (by omega), HS.out⟩
      · have hxp : 0 < xs.length := by omega
        clear HO
        go_wp2_with fail
        refine (curOne_any R _ _ _ H.out (by omega) (by omega)).mono ?_
        rintro _ w2 ⟨b, rfl, hC2, hS2⟩
        have HOI2 := Lib.hid (HOI.out.saveR hS2 (by omega))
        have hs2 : w.heap.size < w2.heap.size := Nat.lt_of_lt_of_le hsz hS2.size
        have HC2 := Lib.hid hC2; clear hC2
        have HS2 := Lib.hid (HS.out.trans hS2); clear hS2
        clear HOI H HS
        cases b
        · go_wp2
          go_ret
          exact ⟨Av, xs, cv, rfl, by omega, HM.out, HOI2.out.lower (by omega), HC2.out.mono (by omega), HS2.out⟩
        · have HB3 : Hid (Below w2.heap.size w2 (w2.alloc (.cells #[.int .i64 (-1), .int .i64 4] 3))) := by show Below _ _ _; go_grown
          have HO3 : Hid (OwnI (w2.alloc (.cells #[.int .i64 (-1), .int .i64 4] 3)) (R + 1) (some ⟨w2.heap.size, 0, none⟩) [-1, 4]) := by
            refine .inr ⟨w2.heap.size, _, rfl, by omega, Row.new _ _ _, ?_⟩
            intro i x hx
            rcases i with _ | _ | i <;> simp at hx <;> subst hx <;> rfl
          have HC3 := Lib.hid (HC2.out.keep HB3.out (by omega))
          have HOI3 := Lib.hid (HOI2.out.below HB3.out (Nat.le_refl _))
          have HS3 : Hid (Save (· = R) w (w2.alloc (.cells #[.int .i64 (-1), .int .i64 4] 3))) := HS2.out.trans (Save.of_below HB3.out)
          go_wp2_with fail
          refine (curAmong_any R _ _ [-1, 4] 2 _ HC3.out (by omega) HO3.out (by simp) (by simp)).mono ?_
          rintro _ w4 ⟨y, rfl, hy, hC4, hS4⟩
          have HY : Hid (-1 ≤ y ∧ y ≤ 65535) := by
            show _ ∧ _
            simp at hy
            omega
          clear hy
          have HOI4 := Lib.hid (HOI3.out.saveR hS4 (by omega))
          have HC4 := Lib.hid hC4; clear hC4
          have HS4 := Lib.hid (HS3.out.trans hS4); clear hS4
          clear HOI3 HOI2 HC3 HC2 HS2 HS3 HB3 HO3
          obtain ⟨g, rfl, hg1, hg2, c0, f0⟩ := HOI4.out.at_ hxp
          have HOI5 := Lib.hid (HOI4.out.set hxp y)
          go_wp2
          go_ret
          refine ⟨some ⟨g, 0, none⟩, xs.set 0 y, cv, by rw [List.length_set]; rfl, by rw [List.length_set]; omega, small_set HM.out HY.out 0, HOI5.out.lower (by omega), ?_, ?_⟩
          · exact (HC4.out.keep (B := R + 1) (by go_grown) (by omega)).mono (by omega)
          · exact HS4.out.then (B := g) (by go_grown) (by omega)

end Go.Proofs.YtacehfjhpnplbaaDoor

/- l1Put2, what it answers. -/

namespace Go.Proofs.YtacehfjhpnplbaaDoor
open Go.RowKit

/-- What l1Put2 answers: the old rules, or one more. -/
def PutF (w : World) (lo : Nat) (ds : List Ru) (u : Ru) (e : Ending) (w' : World) : Prop :=
  ∃ A c ds', e = .returned (.slice A (List.length ds') c) ∧ RulesW w' lo (.slice A ds'.length c) ds' ∧ (ds' = ds ∨ ds' = ds ++ [u]) ∧ 0 < ds'.length ∧ Save (fun b => lo ≤ b) w w'

set_option maxRecDepth 20000 in
set_option maxHeartbeats 2000000 in
theorem l1Put2_full (lo : Nat) (Av : Option Addr) (cv : Nat) (ds : List Ru) (l : Int) (A : Option Addr) (xs : List Int) (c : Nat) (w : World) (hRU : RulesW w lo (.slice Av ds.length cv) ds) (hI0 : OwnI w lo A xs) (hap : ∀ (j : Nat) (u : Ru), ds[j]? = some u → u.r ≠ [] → xs ≠ [] → u.a ≠ A) (hlo : lo ≤ w.heap.size) (hdl : ds.length ≤ 16) (hxl : xs.length ≤ 4) :
    Calls Tryd.prog 116 #[.slice Av ds.length cv, .agg #[.int .i64 l, .slice A xs.length c]] w (PutF w lo ds ⟨l, A, xs, c⟩) := by
  obtain ⟨i0, hi0, hz0, hz1, hz2⟩ := info_of Tryd.infoRule
  obtain ⟨Av', cv', e0, _, hOR⟩ := hRU.slice
  injection e0 with e1 e2 e3
  subst e1 e3
  clear e2
  have HX := Lib.hid hOR.rls; clear hOR
  have HRU := Lib.hid hRU; clear hRU
  have HI := Lib.hid hI0.ints
  have HI0 := Lib.hid hI0; clear hI0
  have HAP := Lib.hid hap; clear hap
  have hB0 : Below w.heap.size w (w.alloc (.cells #[.int .i64 l, .slice A xs.length c] 64)) := by go_grown
  have HB0 := Lib.hid hB0; clear hB0
  have HR0 := Lib.hid (Row.new w 64 #[.int .i64 l, .slice A xs.length c])
  go_enter Tryd.func116, Tryd.ntmps116
  go_wp2
  go_loopw [9] (fun i wr => ∃ (k : Nat), k ≤ ds.length ∧ i = .int .i64 k ∧ w.heap.size < wr.heap.size ∧ Below w.heap.size w wr ∧ Hid (Row wr w.heap.size 64 #[.int .i64 l, .slice A xs.length c]) ∧ Hid (∀ j : Nat, j < k → (ds.map Ru.abs)[j]? ≠ some (l, xs))) (fun i _ => ds.length - (intOf i).toNat)
  case atStart => exact ⟨0, by omega, rfl, by simp, HB0.out, HR0.out, fun j h => absurd h (by omega)⟩
  case round =>
    clear HR0
    obtain ⟨k, hk, rfl, hsz, hB, HRw, H⟩ := hrel
    have b0 : wr.cell? ⟨w.heap.size, 0, none⟩ = some (.int .i64 l) := HRw.out.cell 0
    have b1 : wr.cell? ⟨w.heap.size, 1, none⟩ = some (.slice A xs.length c) := HRw.out.cell 1
    by_cases hlt : k < ds.length
    · obtain ⟨b, o, l2, a2, r2, cc2, rfl, hb, he, c1, c2, c3⟩ := (HX.out.keep hB).at' hlt
      have C3 := Lib.hid (c3.more hB.size); clear c3
      have hBA : Below wr.heap.size wr (wr.alloc (.cells #[.int .i64 l2, .slice a2 r2.length cc2] 64)) := by go_grown
      have HBA := Lib.hid hBA; clear hBA
      have HRA := Lib.hid (HRw.out.alloc (.cells #[.int .i64 l2, .slice a2 r2.length cc2] 64))
      have a0 : (wr.alloc (.cells #[.int .i64 l2, .slice a2 r2.length cc2] 64)).cell? ⟨w.heap.size, 0, none⟩ = some (.int .i64 l) := HRA.out.cell 0
      have a1 : (wr.alloc (.cells #[.int .i64 l2, .slice a2 r2.length cc2] 64)).cell? ⟨w.heap.size, 1, none⟩ = some (.slice A xs.length c) := HRA.out.cell 1
      have HIA := Lib.hid ((((HI.out.keep hB).more hB.size).keep HBA.out).more HBA.out.size)
      cases hq : eqU (l, xs) (l2, r2)
      · have HQ : Hid (eqU ds[k].abs (l, xs) = false) := by show _ = _; rw [he, eqU_comm]; exact hq
        have HQ2 := Lib.hid hq; clear hq he
        go_wp2_with fail
        refine (l1SameRule_any _ _ _ _ _ _ _ _ _ HIA.out ((C3.out.keep HBA.out).more HBA.out.size) (by omega)).mono ?_
        rintro e w1 ⟨rfl, hB1⟩
        rw [HQ2.out]
        have HB1 := Lib.hid (HBA.out.trans (hB1.mono HBA.out.size)); clear hB1
        clear a0 a1 b0 b1
        go_wp2
        go_roundw
        case rel => exact ⟨k + 1, by omega, by go_num, by have := HB1.out.size; omega, hB.trans (HB1.out.mono hB.size), HRw.out.below HB1.out hsz, hasU_step hlt HQ.out H.out⟩
        case measure => simp [intOf]; omega
      · have HE : Hid (hasU (ds.map Ru.abs) (l, xs) = true) := hasU_t hlt (by rw [he, eqU_comm]; exact hq)
        have HQ2 := Lib.hid hq; clear hq he
        go_wp2_with fail
        refine (l1SameRule_any _ _ _ _ _ _ _ _ _ HIA.out ((C3.out.keep HBA.out).more HBA.out.size) (by omega)).mono ?_
        rintro e w1 ⟨rfl, hB1⟩
        rw [HQ2.out]
        have HB1 := Lib.hid (hB.trans ((HBA.out.trans (hB1.mono HBA.out.size)).mono hB.size)); clear hB1
        go_wp2
        go_ret
        exact ⟨some ⟨b, o, none⟩, cv, ds, rfl, HRU.out.keep HB1.out, .inl rfl, by omega, Save.of_below HB1.out⟩
    · have HE : Hid (hasU (ds.map Ru.abs) (l, xs) = false) := hasU_f hlt H.out
      have HRUr := Lib.hid (HRU.out.keep hB)
      have hown := HRUr.out.row.alloc (.cells #[.int .i64 l, .slice A xs.length c] 64)
      have HWn := Lib.hid hown; clear hown
      have hnew := two_new wr (.int .i64 l) (.slice A xs.length c) 64
      have HNW := Lib.hid hnew; clear hnew
      go_wp2_with (at_builtin
                   refine wpList_append_own _ rfl (.tmp 18) (.tmp 20) _ rfl lo 64 i0 _ 2 32 Tryd.underlying24 hi0 hz0 hz1 hz2 rfl (by omega) _ _ _ rfl HWn.out ⟨wr.heap.size, 0, none⟩ 1 1 [.int .i64 l, .slice A xs.length c] rfl rfl HNW.out (by simp [Value.oneCell']) (by unfold maxLen; omega) (by omega) (by simp; omega) ?_
                   intro v' w' h1 h2 h3
                   obtain ⟨A', c', rfl⟩ := own_slice h1
                   have HOK := Lib.hid h1
                   have HG1 := Lib.hid h2
                   clear h1 h2 h3)
      go_ret
      have hBn : Below wr.heap.size wr (wr.alloc (.cells #[.int .i64 l, .slice A xs.length c] 64)) := by go_grown
      refine ⟨A', c', ds ++ [⟨l, A, xs, c⟩], by rw [List.length_append]; rfl, by rw [List.length_append]; exact RulesW.step (HRUr.out.keep hBn) (((HI0.out.below hB (Nat.le_refl _))).below hBn (Nat.le_refl _)) HAP.out HOK.out HG1.out, .inr rfl, by simp, ?_⟩
      exact (Save.of_below (S := fun b => lo ≤ b) (hB.alloc hB.size _)).grownS HG1.out fun k hk => (HRUr.out.row.lt k hk).1

end Go.Proofs.YtacehfjhpnplbaaDoor
