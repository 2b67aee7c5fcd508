/- The program's readLine. -/
import Derived.Test.YtaaagcokjndaoaaDoorRgI2
import Derived.Test.YtaaagcokjndaoaaDoorRowR
import Derived.Lib.QuietBelow
import Derived.Deep.RegionLaw
import Derived.Deep.AppendLies
namespace Go.Proofs.YtaaagcokjndaoaaDoor
open Go.RowKit
open Go.Sort (grow)

/-- What readLine ends in. -/
def LineRead (w : World) (R lo : Nat) (s : ByteArray) (o : Out (Int × List Int)) (n t : Int) (ds : List Ru) (wv : Value) (e : Ending) (w' : World) : Prop :=
  Save (fun b => b = R ∨ lo ≤ b) w w' ∧ match o with
    | .ok u k' => ∃ v' A c, e = .returned (.tuple #[]) ∧ Rdr w' R s k' n t v' wv ∧ RulesW w' lo v' (ds ++ [⟨u.1, A, u.2, c⟩])
    | .bad code p => e = .panicked [{ v := faultV code p, recovered := false }]

theorem lineF_none {n t : Int} {s : ByteArray} {ss : List (Int × List Int)} {k : Nat} (h : symG n 0 (chr s k) = none) : lineF n t s ss k = .bad 3 k := by unfold lineF; rw [h]
theorem lineF_eq {n t : Int} {s : ByteArray} {ss : List (Int × List Int)} {k : Nat} {l : Int} (h : symG n 0 (chr s k) = some l) (h2 : chr s (k + 1) ≠ 61) : lineF n t s ss k = .bad 3 (k + 1) := by unfold lineF; rw [h]; exact if_neg h2
theorem lineF_bad {n t : Int} {s : ByteArray} {ss : List (Int × List Int)} {k : Nat} {l : Int} {c : Int} {p : Nat} (h : symG n 0 (chr s k) = some l) (h2 : chr s (k + 1) = 61) (h3 : rightF n t s 5 [] (k + 2) = .bad c p) : lineF n t s ss k = .bad c p := by
  unfold lineF; simp only [h, h2, h3, if_true]
theorem lineF_twice {n t : Int} {s : ByteArray} {ss : List (Int × List Int)} {k : Nat} {l : Int} {xs : List Int} {k' : Nat} (h : symG n 0 (chr s k) = some l) (h2 : chr s (k + 1) = 61) (h3 : rightF n t s 5 [] (k + 2) = .ok xs k') (h4 : hasU ss (l, xs) = true) : lineF n t s ss k = .bad 5 k := by
  unfold lineF; simp only [h, h2, h3, h4, if_true]
theorem lineF_many {n t : Int} {s : ByteArray} {ss : List (Int × List Int)} {k : Nat} {l : Int} {xs : List Int} {k' : Nat} (h : symG n 0 (chr s k) = some l) (h2 : chr s (k + 1) = 61) (h3 : rightF n t s 5 [] (k + 2) = .ok xs k') (h4 : hasU ss (l, xs) = false) (h5 : ss.length = 16) : lineF n t s ss k = .bad 6 k := by
  unfold lineF; simp [h, h2, h3, h4, h5]
theorem lineF_ok {n t : Int} {s : ByteArray} {ss : List (Int × List Int)} {k : Nat} {l : Int} {xs : List Int} {k' : Nat} (h : symG n 0 (chr s k) = some l) (h2 : chr s (k + 1) = 61) (h3 : rightF n t s 5 [] (k + 2) = .ok xs k') (h4 : hasU ss (l, xs) = false) (h5 : ss.length ≠ 16) : lineF n t s ss k = .ok (l, xs) k' := by
  unfold lineF; simp [h, h2, h3, h4, h5]

theorem Save.more {w w' : World} {R lo : Nat} (h : Save (· = R) w w') : Save (fun b => b = R ∨ lo ≤ b) w w' := h.wider fun _ e => .inl e

theorem Save.grownS {S : Nat → Prop} {a w w' : World} {row : Option Nat} (h : Save S a w) (hg : w.grownBy w' row) (hr : ∀ k, row = some k → S k) : Save S a w' :=
  ⟨hg.os.trans h.os, hg.tape.trans h.tape, hg.output.trans h.output, Nat.le_trans h.size hg.size, fun b hb hs => (hg.block b (Nat.lt_of_lt_of_le hb h.size) (fun e => hs (hr b e.symm))).trans (h.block b hb hs)⟩

set_option maxRecDepth 20000 in
set_option maxHeartbeats 4000000 in
theorem readLine_any (R lo : Nat) (s : ByteArray) (k : Nat) (n t : Int) (v wv : Value) (ds : List Ru) (w : World) (h : Rdr w R s k n t v wv) (hRu : RulesW w lo v ds) (hk : k < s.size) (hz : s.size ≤ 1048576) (hTb : Tabs w) (hR3 : 3 ≤ R) (hRlo : R < lo) (hlo : lo ≤ w.heap.size) (hdl : ds.length ≤ 16) (hds : ∀ u ∈ ds, u.r.length ≤ 1048576) (hx5 : ∀ xs k', rightF n t s 5 [] (k + 2) = .ok xs k' → xs.length ≤ 4) :
    Calls Tryd.prog 76 #[.pointer (some ⟨R, 0, none⟩)] w (LineRead w R lo s (lineF n t s (ds.map Ru.abs) k) n t ds wv) := by
  obtain ⟨i0, hi0, hz0, hz1, hz2⟩ := info_of Tryd.infoRule
  obtain ⟨Av, cv, rfl, hcap, hOR⟩ := hRu.slice
  have HRU := Lib.hid hRu; clear hRu
  have HR := Lib.hid h; clear h
  have HTb := Lib.hid hTb; clear hTb
  have HDS := Lib.hid hds; clear hds
  have HX5 := Lib.hid hx5; clear hx5
  clear hOR hcap
  have c1 : w.cell? ⟨R, 1, none⟩ = some (.int .i64 (k : Int)) := HR.out.cell 1
  rcases symG_cases n 0 (chr s k) with ⟨hs, hG⟩ | ⟨x, hs, hp, hG⟩ | ⟨x, hs, hp, hG⟩
  · have HE2 := Lib.hid (lineF_none (t := t) (ss := ds.map Ru.abs) hG)
    have HSY := Lib.hid hs; clear hs hG
    go_enter Tryd.func76, Tryd.ntmps76
    go_wp2_with fail
    refine (readSymN_none _ _ _ _ _ _ _ _ _ _ HR.out (by omega) HTb.out.non HTb.out.tok HSY.out).mono ?_
    rintro e w1 ⟨rfl, hB1⟩
    go_wp2
    refine ⟨rfl, Save.of_below hB1, ?_⟩
    rw [HE2.out]
  · have HE2 := Lib.hid (lineF_none (t := t) (ss := ds.map Ru.abs) hG)
    have HSY := Lib.hid hs; clear hs hG
    rw [symB_zero] at hp
    have HP := Lib.hid hp; clear hp
    go_enter Tryd.func76, Tryd.ntmps76
    go_wp2_with fail
    refine (readSymN_bad _ _ _ _ _ _ _ _ _ _ HR.out (by omega) HTb.out.non HTb.out.tok HSY.out HP.out).mono ?_
    rintro e w1 ⟨rfl, hB1⟩
    go_wp2
    refine ⟨rfl, Save.of_below hB1, ?_⟩
    rw [HE2.out]
  rw [symB_zero] at hp
  have HP := Lib.hid hp; clear hp
  have HSY := Lib.hid hs; clear hs
  have HSG := Lib.hid hG; clear hG
  go_enter Tryd.func76, Tryd.ntmps76
  go_wp2_with fail
  refine (readSymN_ok _ _ _ _ _ _ _ _ _ _ HR.out hz HTb.out.non HTb.out.tok HSY.out HP.out).mono ?_
  rintro e w1 ⟨rfl, hR1, hS1⟩
  have HR1 := Lib.hid hR1; clear hR1
  have HS1 := Lib.hid hS1; clear hS1
  clear c1
  by_cases h61 : chr s (k + 1) = 61
  · have HQ := Lib.hid h61
    go_wp2_with fail
    refine (readByte_ok _ _ _ _ _ _ _ _ 61 _ HR1.out hz (by omega) h61).mono ?_
    rintro e w2 ⟨rfl, hR2, hS2⟩
    have hk2 : k + 2 ≤ s.size := by have := chr_in (s := s) (k := k + 1) (by omega); omega
    clear h61
    have HR2 := Lib.hid hR2; clear hR2
    have HS2 := Lib.hid (HS1.out.trans hS2); clear hS2
    have HT2 := Lib.hid (HTb.out.saved HS2.out (fun b hb (e : b = R) => by omega))
    have HRU2 := Lib.hid (HRU.out.save HS2.out (fun b hb (e : b = R) => by omega))
    go_wp2_with fail
    refine (readRight_any _ _ _ _ _ _ _ _ _ _ HR2.out hk2 hz HT2.out hR3).mono ?_
    rintro e w3 ⟨hS3, h3⟩
    cases hr : rightF n t s 5 [] (k + 2) with
    | bad code p =>
      rw [hr] at h3
      obtain rfl := h3
      have HE2 := Lib.hid (lineF_bad (ss := ds.map Ru.abs) HSG.out HQ.out hr)
      clear hr
      go_wp2
      refine ⟨rfl, (HS2.out.trans hS3).more, ?_⟩
      rw [HE2.out]
    | ok xs k' =>
      rw [hr] at h3
      obtain ⟨A3, c3, rfl, hR3', hO3⟩ := h3
      have hxs := HX5.out xs k' hr
      have HRr := Lib.hid hr; clear hr
      have HR3 := Lib.hid hR3'; clear hR3'
      have HO3 := Lib.hid hO3; clear hO3
      have HS3 := Lib.hid (HS2.out.trans hS3)
      have HT3 := Lib.hid (HTb.out.saved HS3.out (fun b hb (e : b = R) => by omega))
      have HRU3 := Lib.hid (HRU2.out.save hS3 (fun b hb (e : b = R) => by omega))
      have HAP := Lib.hid (HRU2.out.apart HO3.out)
      have hsz3 := HS3.out.size
      have hsz2 := HS2.out.size
      clear hS3
      go_wp2_with fail
      have hBA : Below w3.heap.size w3 (w3.alloc (.cells #[.int .i64 x, .slice A3 xs.length c3] 61)) := by go_grown
      have BU : Box2 (w3.alloc (.cells #[.int .i64 x, .slice A3 xs.length c3] 61)) w3.heap.size (.int .i64 x) (.slice A3 xs.length c3) := ⟨by simp, by simp [go_sem], by simp [go_sem]⟩
      generalize (w3.alloc (.cells #[.int .i64 x, .slice A3 xs.length c3] 61)) = W at hBA BU ⊢
      have HRW := Lib.hid (HR3.out.below hBA (Nat.le_refl _))
      have HRUW := Lib.hid (HRU3.out.keep hBA)
      have HOW := Lib.hid (HO3.out.below hBA (Nat.le_refl _))
      have HTW := Lib.hid (HT3.out.keep hBA)
      have HSW := Lib.hid (HS3.out.trans (Save.of_below hBA))
      have hszW := hBA.size
      have HBU := Lib.hid BU; clear BU
      clear hBA HRU3 HR3 HT3 HO3
      obtain ⟨_, b0, b1⟩ := HBU.out
      have r4 : W.cell? ⟨R, 4, none⟩ = some (.slice Av ds.length cv) := HRW.out.cell 4
      have q0 := cell_regrown b0
      have q1 := cell_regrown b1
      have q4 := cell_regrown r4
      clear b0 b1 r4
      have HCH : Hid (∀ d os, Calls Tryd.prog 68 #[.slice Av ds.length cv, .agg #[.int .i64 x, .slice A3 xs.length c3]] (grow (redrawn W d) os) fun e w' => e = .returned (.bool (hasU (ds.map Ru.abs) (x, xs))) ∧ Below (grow (redrawn W d) os).heap.size (grow (redrawn W d) os) w') := fun d os => by
        have hb := below_regrown W d os
        obtain ⟨Av', cv', e, _, hOR⟩ := (HRUW.out.keep hb).slice
        injection e with e1 e2 e3
        subst e1 e3
        exact hasRule_any Av A3 ds x xs cv c3 _ hOR.rls ((HOW.out.below hb (Nat.le_refl _)).ints) (by omega) HDS.out
      cases hh : hasU (ds.map Ru.abs) (x, xs)
      all_goals
        have HH := Lib.hid hh; clear hh
        rw [HH.out] at HCH
        refine wp_region_quiet_below (by kernel_rfl) (by kernel_rfl) ?_
        iterate 7 (go_big_quiet_step (exact Calls.regrown_of (HCH.out _ _)))
        refine wpQuiet_nil ?_
        intro _ hw'
        obtain ⟨⟨dq, osq⟩, hw''⟩ := hw'
        subst hw''
        have hb4 := below_regrown W dq osq
        clear q0 q1 q4 HCH
        generalize grow (redrawn W dq) osq = W4 at hb4 ⊢
        have HB4 := Lib.hid hb4; clear hb4
      rotate_left
      · have HE2 := Lib.hid (lineF_twice HSG.out HQ.out HRr.out HH.out)
        go_wp2_with fail
        refine (giveUp_any _ _ _ _).mono ?_
        rintro e w5 ⟨rfl, rfl⟩
        go_wp2
        refine ⟨rfl, (HSW.out.trans (Save.of_below HB4.out)).more, ?_⟩
        rw [HE2.out]
      have HR4 := Lib.hid (HRW.out.below HB4.out (Nat.le_refl _))
      have r4 : W4.cell? ⟨R, 4, none⟩ = some (.slice Av ds.length cv) := HR4.out.cell 4
      by_cases h16 : ds.length = 16
      · have HE2 := Lib.hid (lineF_many HSG.out HQ.out HRr.out HH.out (by rw [List.length_map]; exact h16))
        have HI : Hid (inB 0 16 ((ds.length : Int) + 1) = false) := inB_f (by omega)
        clear h16
        go_wp2_with fail
        refine (within2 _ _ (HTW.out.keep HB4.out).lims).mono ?_
        rintro e w5 ⟨rfl, hB5⟩
        rw [HI.out]
        go_wp2_with fail
        refine (giveUp_any _ _ _ _).mono ?_
        rintro e w6 ⟨rfl, rfl⟩
        go_wp2
        refine ⟨rfl, (HSW.out.trans (Save.of_below (HB4.out.trans (hB5.mono HB4.out.size)))).more, ?_⟩
        rw [HE2.out]
      · have HE2 := Lib.hid (lineF_ok HSG.out HQ.out HRr.out HH.out (by rw [List.length_map]; exact h16))
        have HI : Hid (inB 0 16 ((ds.length : Int) + 1) = true) := inB_t (by omega) (by omega)
        have hd16 : ds.length < 16 := by omega
        clear h16
        go_wp2_with fail
        refine (within2 _ _ (HTW.out.keep HB4.out).lims).mono ?_
        rintro e w5 ⟨rfl, hB5⟩
        rw [HI.out]
        have HB5 := Lib.hid (HB4.out.trans (hB5.mono HB4.out.size)); clear hB5 r4
        have HR5 := Lib.hid (HRW.out.below HB5.out (Nat.le_refl _))
        have HRU5 := Lib.hid (HRUW.out.keep HB5.out)
        have HO5 := Lib.hid (HOW.out.below HB5.out (Nat.le_refl _))
        have r4 : w5.cell? ⟨R, 4, none⟩ = some (.slice Av ds.length cv) := HR5.out.cell 4
        have r4a : (w5.alloc (.cells #[.int .i64 x, .slice A3 xs.length c3] 61)).cell? ⟨R, 4, none⟩ = some (.slice Av ds.length cv) := (Row.alloc HR5.out _).cell 4
        obtain ⟨_, b0, b1⟩ := HBU.out.keep HB5.out HBU.out.1
        have hsz5 := HB5.out.size
        have HNE : Hid (∀ b, b < lo → some b ≠ (Value.slice Av ds.length cv).ownBlock) := fun b hb e => by have := (HRU5.out.row.lt b e.symm).1; omega
        go_wp2_with fail
        go_region_law
          (refine step_append_lies _ rfl _ _ _ rfl lo 61 i0 _ 2 32 Tryd.underlying24 hi0 hz0 hz1 hz2 rfl (by omega) (.slice Av ds.length cv) ds.length (ds.flatMap cellsU) (by simp [Act.eval]) (HRU5.out.row.alloc _)
             ⟨w5.heap.size, 0, none⟩ 1 1 [.int .i64 x, .slice A3 xs.length c3] (by simp [Act.eval]) rfl (two_new _ _ _ _) (by simp [Value.oneCell'])
             (by omega) (by unfold maxLen; omega) (by omega) (by simp; omega) (w5.heap.size + 1) (by simp) ?_
           intro gg cap w2 hown hgrow hat hgl
           have HOG := Lib.hid hown
           have HGR := Lib.hid hgrow
           have HR6 : Hid (Row w2 R 65 #[.string s, .int .i64 (k' : Int), .int .i64 n, .int .i64 t, .slice Av ds.length cv, wv]) := (hgrow.block R (by simp; omega) (HNE.out _ hRlo)).trans (Row.alloc HR5.out _)
           have z4 : w2.cell? ⟨R, 4, none⟩ = some (.slice Av ds.length cv) := HR6.out.cell 4
           have g4 := HR6.out.frozen 4
           clear hown hgrow hat)
        all_goals
          go_end0
          refine ⟨?_, ?_⟩
          · refine Save.setCell (S := fun b => b = R ∨ lo ≤ b) (p := ⟨R, 4, none⟩) (Save.grownS (HSW.out.more.trans (Save.of_below (HB5.out.trans ?_))) HGR.out fun j hj => .inr (HRU5.out.row.lt j hj).1) (.inl rfl) _
            exact Below.mono (by go_grown) hsz5
          · rw [HE2.out]
            refine ⟨_, A3, c3, rfl, HR6.out.set 4 _, RulesW.low ?_ (p := ⟨R, 4, none⟩) hRlo _⟩
            refine RulesW.step (HRU5.out.keep ?_) (OwnI.below (OwnI.lower HO5.out (by omega)) ?_ (Nat.le_refl _)) HAP.out HOG.out HGR.out
            · go_grown
            · go_grown
  · have HE2 := Lib.hid (lineF_eq (t := t) (ss := ds.map Ru.abs) HSG.out h61)
    go_wp2_with fail
    refine (readByte_bad _ _ _ _ _ _ _ _ 61 _ HR1.out (by omega) h61).mono ?_
    rintro e w2 ⟨rfl, hB2⟩
    go_wp2
    refine ⟨rfl, (HS1.out.trans (Save.of_below hB2)).more, ?_⟩
    rw [HE2.out]
    simp

end Go.Proofs.YtaaagcokjndaoaaDoor
