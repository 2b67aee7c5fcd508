/- The program's readLine. -/
import Derived.Test.YtacehfjhpnplbaaDoorZ04
import Derived.Lib.QuietBelow
import Derived.Deep.RegionLaw
import Derived.Deep.AppendLies
import Derived.Test.YtacehfjhpnplbaaDoorZ03
import Derived.Recover
import Derived.Test.YtacehfjhpnplbaaDoorZ02

namespace Go.Proofs.YtacehfjhpnplbaaDoor
open Go.RowKit
open Go.Sort (grow)

/-- What readLine ends in. -/
def LineRead (w : World) (R lo : Nat) (s : ByteArray) (o : Out (Int × List Int)) (n t : Int) (ds : List Ru) (wv : Value) (e : Ending) (w' : World) : Prop :=
  Save (fun b => b = R ∨ lo ≤ b) w w' ∧ match o with
    | .ok u k' => ∃ v' A c, e = .returned (.tuple #[]) ∧ Rdr w' R s k' n t v' wv ∧ RulesW w' lo v' (ds ++ [⟨u.1, A, u.2, c⟩])
    | .bad code p => e = .panicked [{ v := faultV code p, recovered := false }]

theorem lineF_none {n t : Int} {s : ByteArray} {ss : List (Int × List Int)} {k : Nat} (h : symG n 0 (chr s k) = none) : lineF n t s ss k = .bad 3 k := by unfold lineF; rw [h]
theorem lineF_eq {n t : Int} {s : ByteArray} {ss : List (Int × List Int)} {k : Nat} {l : Int} (h : symG n 0 (chr s k) = some l) (h2 : chr s (k + 1) ≠ 61) : lineF n t s ss k = .bad 3 (k + 1) := by unfold lineF; rw [h]; exact if_neg h2
theorem lineF_bad {n t : Int} {s : ByteArray} {ss : List (Int × List Int)} {k : Nat} {l : Int} {c : Int} {p : Nat} (h : symG n 0 (chr s k) = some l) (h2 : chr s (k + 1) = 61) (h3 : rightF n t s 5 [] (k + 2) = .bad c p) : lineF n t s ss k = .bad c p := by
  unfold lineF; simp only [h, h2, h3, if_true]
theorem lineF_twice {n t : Int} {s : ByteArray} {ss : List (Int × List Int)} {k : Nat} {l : Int} {xs : List Int} {k' : Nat} (h : symG n 0 (chr s k) = some l) (h2 : chr s (k + 1) = 61) (h3 : rightF n t s 5 [] (k + 2) = .ok xs k') (h4 : hasU ss (l, xs) = true) : lineF n t s ss k = .bad 5 k := by
  unfold lineF; simp only [h, h2, h3, h4, if_true]
theorem lineF_many {n t : Int} {s : ByteArray} {ss : List (Int × List Int)} {k : Nat} {l : Int} {xs : List Int} {k' : Nat} (h : symG n 0 (chr s k) = some l) (h2 : chr s (k + 1) = 61) (h3 : rightF n t s 5 [] (k + 2) = .ok xs k') (h4 : hasU ss (l, xs) = false) (h5 : ss.length = 16) : lineF n t s ss k = .bad 6 k := by
  unfold lineF; simp [h, h2, h3, h4, h5]
theorem lineF_ok {n t : Int} {s : ByteArray} {ss : List (Int × List Int)} {k : Nat} {l : Int} {xs : List Int} {k' : Nat} (h : symG n 0 (chr s k) = some l) (h2 : chr s (k + 1) = 61) (h3 : rightF n t s 5 [] (k + 2) = .ok xs k') (h4 : hasU ss (l, xs) = false) (h5 : ss.length ≠ 16) : lineF n t s ss k = .ok (l, xs) k' := by
  unfold lineF; simp [h, h2, h3, h4, h5]

theorem Save.more {w w' : World} {R lo : Nat} (h : Save (· = R) w w') : Save (fun b => b = R ∨ lo ≤ b) w w' := h.wider fun _ e => .inl e

theorem Save.grownS {S : Nat → Prop} {a w w' : World} {row : Option Nat} (h : Save S a w) (hg : w.grownBy w' row) (hr : ∀ k, row = some k → S k) : Save S a w' :=
  ⟨hg.os.trans h.os, hg.tape.trans h.tape, hg.output.trans h.output, Nat.le_trans h.size hg.size, fun b hb hs => (hg.block b (Nat.lt_of_lt_of_le hb h.size) (fun e => hs (hr b e.symm))).trans (h.block b hb hs)⟩

set_option maxRecDepth 20000 in
set_option maxHeartbeats 4000000 in
theorem readLine_any (R lo : Nat) (s : ByteArray) (k : Nat) (n t : Int) (v wv : Value) (ds : List Ru) (w : World) (h : Rdr w R s k n t v wv) (hRu : RulesW w lo v ds) (hk : k < s.size) (hz : s.size ≤ 1048576) (hTb : Tabs w) (hR3 : 3 ≤ R) (hRlo : R < lo) (hlo : lo ≤ w.heap.size) (hdl : ds.length ≤ 16) (hds : ∀ u ∈ ds, u.r.length ≤ 1048576) (hx5 : ∀ xs k', rightF n t s 5 [] (k + 2) = .ok xs k' → xs.length ≤ 4) :
    Calls Tryd.prog 109 #[.pointer (some ⟨R, 0, none⟩)] w (LineRead w R lo s (lineF n t s (ds.map Ru.abs) k) n t ds wv) := by
  obtain ⟨i0, hi0, hz0, hz1, hz2⟩ := info_of Tryd.infoRule
  obtain ⟨Av, cv, rfl, hcap, hOR⟩ := hRu.slice
  have HRU := Lib.hid hRu; clear hRu
  have HR := Lib.hid h; clear h
  have HTb := Lib.hid hTb; clear hTb
  have HDS := Lib.hid hds; clear hds
  have HX5 := Lib.hid hx5; clear hx5
  clear hOR hcap
  have c1 : w.cell? ⟨R, 1, none⟩ = some (.int .i64 (k : Int)) := HR.out.cell 1
  rcases symG_cases n 0 (chr s k) with ⟨hs, hG⟩ | ⟨x, hs, hp, hG⟩ | ⟨x, hs, hp, hG⟩
  · have HE2 := Lib.hid (lineF_none (t := t) (ss := ds.map Ru.abs) hG)
    have HSY := Lib.hid hs; clear hs hG
    go_enter Tryd.func109, Tryd.ntmps109
    go_wp2_with fail
    refine (readSymN_none _ _ _ _ _ _ _ _ _ _ HR.out (by omega) HTb.out.non HTb.out.tok HSY.out).mono ?_
    rintro e w1 ⟨rfl, hB1⟩
    go_wp2
    refine ⟨rfl, Save.of_below hB1, ?_⟩
    rw [HE2.out]
  · have HE2 := Lib.hid (lineF_none (t := t) (ss := ds.map Ru.abs) hG)
    have HSY := Lib.hid hs; clear hs hG
    rw [symB_zero] at hp
    have HP := Lib.hid hp; clear hp
    go_enter Tryd.func109, Tryd.ntmps109
    go_wp2_with fail
    refine (readSymN_bad _ _ _ _ _ _ _ _ _ _ HR.out (by omega) HTb.out.non HTb.out.tok HSY.out HP.out).mono ?_
    rintro e w1 ⟨rfl, hB1⟩
    go_wp2
    refine ⟨rfl, Save.of_below hB1, ?_⟩
    rw [HE2.out]
  rw [symB_zero] at hp
  have HP := Lib.hid hp; clear hp
  have HSY := Lib.hid hs; clear hs
  have HSG := Lib.hid hG; clear hG
  go_enter Tryd.func109, Tryd.ntmps109
  go_wp2_with fail
  refine (readSymN_ok _ _ _ _ _ _ _ _ _ _ HR.out hz HTb.out.non HTb.out.tok HSY.out HP.out).mono ?_
  rintro e w1 ⟨rfl, hR1, hS1⟩
  have HR1 := Lib.hid hR1; clear hR1
  have HS1 := Lib.hid hS1; clear hS1
  clear c1
  by_cases h61 : chr s (k + 1) = 61
  · have HQ := Lib.hid h61
    go_wp2_with fail
    refine (readByte_ok _ _ _ _ _ _ _ _ 61 _ HR1.out hz (by omega) h61).mono ?_
    rintro e w2 ⟨rfl, hR2, hS2⟩
    have hk2 : k + 2 ≤ s.size := by have := chr_in (s := s) (k := k + 1) (by omega); omega
    clear h61
    have HR2 := Lib.hid hR2; clear hR2
    have HS2 := Lib.hid (HS1.out.trans hS2); clear hS2
    have HT2 := Lib.hid (HTb.out.saved HS2.out (fun b hb (e : b = R) => by omega))
    have HRU2 := Lib.hid (HRU.out.save HS2.out (fun b hb (e : b = R) => by omega))
    go_wp2_with fail
    refine (readRight_any _ _ _ _ _ _ _ _ _ _ HR2.out hk2 hz HT2.out hR3).mono ?_
    rintro e w3 ⟨hS3, h3⟩
    cases hr : rightF n t s 5 [] (k + 2) with
    | bad code p =>
      rw [hr] at h3
      obtain rfl := h3
      have HE2 := Lib.hid (lineF_bad (ss := ds.map Ru.abs) HSG.out HQ.out hr)
      clear hr
      go_wp2
      refine ⟨rfl, (HS2.out.trans hS3).more, ?_⟩
      rw [HE2.out]
    | ok xs k' =>
      rw [hr] at h3
      obtain ⟨A3, c3, rfl, hR3', hO3⟩ := h3
      have hxs := HX5.out xs k' hr
      have HRr := Lib.hid hr; clear hr
      have HR3 := Lib.hid hR3'; clear hR3'
      have HO3 := Lib.hid hO3; clear hO3
      have HS3 := Lib.hid (HS2.out.trans hS3)
      have HT3 := Lib.hid (HTb.out.saved HS3.out (fun b hb (e : b = R) => by omega))
      have HRU3 := Lib.hid (HRU2.out.save hS3 (fun b hb (e : b = R) => by omega))
      have HAP := Lib.hid (HRU2.out.apart HO3.out)
      have hsz3 := HS3.out.size
      have hsz2 := HS2.out.size
      clear hS3
      go_wp2_with fail
      have hBA : Below w3.heap.size w3 (w3.alloc (.cells #[.int .i64 x, .slice A3 xs.length c3] 64)) := by go_grown
      have BU : Box2 (w3.alloc (.cells #[.int .i64 x, .slice A3 xs.length c3] 64)) w3.heap.size (.int .i64 x) (.slice A3 xs.length c3) := ⟨by simp, by simp [go_sem], by simp [go_sem]⟩
      generalize (w3.alloc (.cells #[.int .i64 x, .slice A3 xs.length c3] 64)) = W at hBA BU ⊢
      have HRW := Lib.hid (HR3.out.below hBA (Nat.le_refl _))
      have HRUW := Lib.hid (HRU3.out.keep hBA)
      have HOW := Lib.hid (HO3.out.below hBA (Nat.le_refl _))
      have HTW := Lib.hid (HT3.out.keep hBA)
      have HSW := Lib.hid (HS3.out.trans (Save.of_below hBA))
      have hszW := hBA.size
      have HBU := Lib.hid BU; clear BU
      clear hBA HRU3 HR3 HT3 HO3
      obtain ⟨_, b0, b1⟩ := HBU.out
      have r4 : W.cell? ⟨R, 4, none⟩ = some (.slice Av ds.length cv) := HRW.out.cell 4
      have q0 := cell_regrown b0
      have q1 := cell_regrown b1
      have q4 := cell_regrown r4
      clear b0 b1 r4
      have HCH : Hid (∀ d os, Calls Tryd.prog 101 #[.slice Av ds.length cv, .agg #[.int .i64 x, .slice A3 xs.length c3]] (grow (redrawn W d) os) fun e w' => e = .returned (.bool (hasU (ds.map Ru.abs) (x, xs))) ∧ Below (grow (redrawn W d) os).heap.size (grow (redrawn W d) os) w') := fun d os => by
        have hb := below_regrown W d os
        obtain ⟨Av', cv', e, _, hOR⟩ := (HRUW.out.keep hb).slice
        injection e with e1 e2 e3
        subst e1 e3
        exact hasRule_any Av A3 ds x xs cv c3 _ hOR.rls ((HOW.out.below hb (Nat.le_refl _)).ints) (by omega) HDS.out
      cases hh : hasU (ds.map Ru.abs) (x, xs)
      all_goals
        have HH := Lib.hid hh; clear hh
        rw [HH.out] at HCH
        refine wp_region_quiet_below (by kernel_rfl) (by kernel_rfl) ?_
        iterate 7 (go_big_quiet_step (exact Calls.regrown_of (HCH.out _ _)))
        refine wpQuiet_nil ?_
        intro _ hw'
        obtain ⟨⟨dq, osq⟩, hw''⟩ := hw'
        subst hw''
        have hb4 := below_regrown W dq osq
        clear q0 q1 q4 HCH
        generalize grow (redrawn W dq) osq = W4 at hb4 ⊢
        have HB4 := Lib.hid hb4; clear hb4
      rotate_left
      · have HE2 := Lib.hid (lineF_twice HSG.out HQ.out HRr.out HH.out)
        go_wp2_with fail
        refine (giveUp_any _ _ _ _).mono ?_
        rintro e w5 ⟨rfl, rfl⟩
        go_wp2
        refine ⟨rfl, (HSW.out.trans (Save.of_below HB4.out)).more, ?_⟩
        rw [HE2.out]
      have HR4 := Lib.hid (HRW.out.below HB4.out (Nat.le_refl _))
      have r4 : W4.cell? ⟨R, 4, none⟩ = some (.slice Av ds.length cv) := HR4.out.cell 4
      by_cases h16 : ds.length = 16
      · have HE2 := Lib.hid (lineF_many HSG.out HQ.out HRr.out HH.out (by rw [List.length_map]; exact h16))
        have HI : Hid (inB 0 16 ((ds.length : Int) + 1) = false) := inB_f (by omega)
        clear h16
        go_wp2_with fail
        refine (within2 _ _ (HTW.out.keep HB4.out).lims).mono ?_
        rintro e w5 ⟨rfl, hB5⟩
        rw [HI.out]
        go_wp2_with fail
        refine (giveUp_any _ _ _ _).mono ?_
        rintro e w6 ⟨rfl, rfl⟩
        go_wp2
        refine ⟨rfl, (HSW.out.trans (Save.of_below (HB4.out.trans (hB5.mono HB4.out.size)))).more, ?_⟩
        rw [HE2.out]
      · have HE2 := Lib.hid (lineF_ok HSG.out HQ.out HRr.out HH.out (by rw [List.length_map]; exact h16))
        have HI : Hid (inB 0 16 ((ds.length : Int) + 1) = true) := inB_t (by omega) (by omega)
        have hd16 : ds.length < 16 := by omega
        clear h16
        go_wp2_with fail
        refine (within2 _ _ (HTW.out.keep HB4.out).lims).mono ?_
        rintro e w5 ⟨rfl, hB5⟩
        rw [HI.out]
        have HB5 := Lib.hid (HB4.out.trans (hB5.mono HB4.out.size)); clear hB5 r4
        have HR5 := Lib.hid (HRW.out.below HB5.out (Nat.le_refl _))
        have HRU5 := Lib.hid (HRUW.out.keep HB5.out)
        have HO5 := Lib.hid (HOW.out.below HB5.out (Nat.le_refl _))
        have r4 : w5.cell? ⟨R, 4, none⟩ = some (.slice Av ds.length cv) := HR5.out.cell 4
        have r4a : (w5.alloc (.cells #[.int .i64 x, .slice A3 xs.length c3] 64)).cell? ⟨R, 4, none⟩ = some (.slice Av ds.length cv) := (Row.alloc HR5.out _).cell 4
        obtain ⟨_, b0, b1⟩ := HBU.out.keep HB5.out HBU.out.1
        have hsz5 := HB5.out.size
        have HNE : Hid (∀ b, b < lo → some b ≠ (Value.slice Av ds.length cv).ownBlock) := fun b hb e => by have := (HRU5.out.row.lt b e.symm).1; omega
        go_wp2_with fail
        go_region_law
          (refine step_append_lies _ rfl _ _ _ rfl lo 64 i0 _ 2 32 Tryd.underlying24 hi0 hz0 hz1 hz2 rfl (by omega) (.slice Av ds.length cv) ds.length (ds.flatMap cellsU) (by simp [Act.eval]) (HRU5.out.row.alloc _)
             ⟨w5.heap.size, 0, none⟩ 1 1 [.int .i64 x, .slice A3 xs.length c3] (by simp [Act.eval]) rfl (two_new _ _ _ _) (by simp [Value.oneCell'])
             (by omega) (by unfold maxLen; omega) (by omega) (by simp; omega) (w5.heap.size + 1) (by simp) ?_
           intro gg cap w2 hown hgrow hat hgl
           have HOG := Lib.hid hown
           have HGR := Lib.hid hgrow
           have HR6 : Hid (Row w2 R 68 #[.string s, .int .i64 (k' : Int), .int .i64 n, .int .i64 t, .slice Av ds.length cv, wv]) := (hgrow.block R (by simp; omega) (HNE.out _ hRlo)).trans (Row.alloc HR5.out _)
           have z4 : w2.cell? ⟨R, 4, none⟩ = some (.slice Av ds.length cv) := HR6.out.cell 4
           have g4 := HR6.out.frozen 4
           clear hown hgrow hat)
        all_goals
          go_end0
          refine ⟨?_, ?_⟩
          · refine Save.setCell (S := fun b => b = R ∨ lo ≤ b) (p := ⟨R, 4, none⟩) (Save.grownS (HSW.out.more.trans (Save.of_below (HB5.out.trans ?_))) HGR.out fun j hj => .inr (HRU5.out.row.lt j hj).1) (.inl rfl) _
            exact Below.mono (by go_grown) hsz5
          · rw [HE2.out]
            refine ⟨_, A3, c3, rfl, HR6.out.set 4 _, RulesW.low ?_ (p := ⟨R, 4, none⟩) hRlo _⟩
            refine RulesW.step (HRU5.out.keep ?_) (OwnI.below (OwnI.lower HO5.out (by omega)) ?_ (Nat.le_refl _)) HAP.out HOG.out HGR.out
            · go_grown
            · go_grown
  · have HE2 := Lib.hid (lineF_eq (t := t) (ss := ds.map Ru.abs) HSG.out h61)
    go_wp2_with fail
    refine (readByte_bad _ _ _ _ _ _ _ _ 61 _ HR1.out (by omega) h61).mono ?_
    rintro e w2 ⟨rfl, hB2⟩
    go_wp2
    refine ⟨rfl, (HS1.out.trans (Save.of_below hB2)).more, ?_⟩
    rw [HE2.out]
    simp

end Go.Proofs.YtacehfjhpnplbaaDoor

/- The program's readGrammar. -/

namespace Go.Proofs.YtacehfjhpnplbaaDoor
open Go.RowKit

theorem rightF_len {n t : Int} {s : ByteArray} : ∀ (f : Nat) (xs : List Int) (k : Nat) (ys : List Int) (k' : Nat), xs.length ≤ 4 → rightF n t s f xs k = .ok ys k' → ys.length ≤ 4
  | 0, _, _, _, _, _, h => by cases h
  | f + 1, xs, k, ys, k', hx, h => by
    by_cases h1 : chr s k = 10
    · rw [rightF_end h1] at h; injection h with h; subst h; exact hx
    · by_cases hl : xs.length = 4
      · rw [rightF_full h1 hl] at h; cases h
      · cases hs : symG n t (chr s k) with
        | none => rw [rightF_none h1 hl hs] at h; cases h
        | some x =>
          rw [rightF_some h1 hl hs] at h
          exact rightF_len f (xs ++ [x]) (k + 1) ys k' (by simp; omega) h

theorem lineF_bd {n t : Int} {s : ByteArray} {ss : List (Int × List Int)} {k k' : Nat} {u : Int × List Int} (h : lineF n t s ss k = .ok u k') : k' ≤ s.size ∧ u.2.length ≤ 4 ∧ ss.length ≠ 16 := by
  cases hG : symG n 0 (chr s k) with
  | none => rw [lineF_none hG] at h; cases h
  | some l =>
    by_cases h61 : chr s (k + 1) = 61
    · cases hr : rightF n t s 5 [] (k + 2) with
      | bad c p => rw [lineF_bad hG h61 hr] at h; cases h
      | ok xs k2 =>
        cases hh : hasU ss (l, xs) with
        | true => rw [lineF_twice hG h61 hr hh] at h; cases h
        | false =>
          by_cases h16 : ss.length = 16
          · rw [lineF_many hG h61 hr hh h16] at h; cases h
          · rw [lineF_ok hG h61 hr hh h16] at h
            injection h with h1 h2
            subst h1 h2
            have hk2 : k + 2 ≤ s.size := by have := chr_in (s := s) (k := k + 1) (by omega); omega
            have hb := rightF_bd (n := n) (t := t) (s := s) 5 [] (k + 2) hk2
            rw [hr] at hb
            exact ⟨hb.2, rightF_len 5 [] (k + 2) xs _ (by simp) hr, h16⟩
    · rw [lineF_eq hG h61] at h; cases h

theorem linesF_end {n t : Int} {s : ByteArray} {f : Nat} {ss : List (Int × List Int)} {k : Nat} (h : ¬ k < s.size) : linesF n t s (f + 1) ss k = .ok ss k := by show (if _ then _ else _) = _; rw [if_neg h]
theorem linesF_bad {n t : Int} {s : ByteArray} {f : Nat} {ss : List (Int × List Int)} {k : Nat} {c : Int} {p : Nat} (h : k < s.size) (hl : lineF n t s ss k = .bad c p) : linesF n t s (f + 1) ss k = .bad c p := by show (if _ then _ else _) = _; rw [if_pos h, hl]
theorem linesF_ok {n t : Int} {s : ByteArray} {f : Nat} {ss : List (Int × List Int)} {k : Nat} {u : Int × List Int} {k' : Nat} (h : k < s.size) (hl : lineF n t s ss k = .ok u k') : linesF n t s (f + 1) ss k = linesF n t s f (ss ++ [u]) k' := by show (if _ then _ else _) = _; rw [if_pos h, hl]

theorem textF_0 {s : ByteArray} (h : inB 1 6 (chr s 0 - 48) = false) : textF s = .bad 2 0 := by unfold textF headF; simp [h]
theorem textF_1 {s : ByteArray} (h : inB 1 6 (chr s 0 - 48) = true) (h1 : chr s 1 ≠ 32) : textF s = .bad 2 1 := by unfold textF headF; simp [h, h1]
theorem textF_2 {s : ByteArray} (h : inB 1 6 (chr s 0 - 48) = true) (h1 : chr s 1 = 32) (h2 : inB 1 4 (chr s 2 - 48) = false) : textF s = .bad 2 2 := by unfold textF headF; simp [h, h1, h2]
theorem textF_3 {s : ByteArray} (h : inB 1 6 (chr s 0 - 48) = true) (h1 : chr s 1 = 32) (h2 : inB 1 4 (chr s 2 - 48) = true) (h3 : chr s 3 ≠ 10) : textF s = .bad 2 3 := by unfold textF headF; simp [h, h1, h2, h3]
theorem textF_b {s : ByteArray} {c : Int} {p : Nat} (h : inB 1 6 (chr s 0 - 48) = true) (h1 : chr s 1 = 32) (h2 : inB 1 4 (chr s 2 - 48) = true) (h3 : chr s 3 = 10) (hl : linesF (chr s 0 - 48) (chr s 2 - 48) s 17 [] 4 = .bad c p) : textF s = .bad c p := by unfold textF headF; simp [h, h1, h2, h3, hl]
theorem textF_o {s : ByteArray} {ss : List (Int × List Int)} {k' : Nat} (h : inB 1 6 (chr s 0 - 48) = true) (h1 : chr s 1 = 32) (h2 : inB 1 4 (chr s 2 - 48) = true) (h3 : chr s 3 = 10) (hl : linesF (chr s 0 - 48) (chr s 2 - 48) s 17 [] 4 = .ok ss k') : textF s = .ok ((chr s 0 - 48, chr s 2 - 48), ss) k' := by unfold textF headF; simp [h, h1, h2, h3, hl]

/-- What readGrammar ends in. -/
def GramRead (w : World) (R lo : Nat) (s : ByteArray) (o : Out ((Int × Int) × List (Int × List Int))) (wv : Value) (e : Ending) (w' : World) : Prop :=
  Save (fun b => b = R ∨ lo ≤ b) w w' ∧ match o with
    | .ok a k' => ∃ v' ds, e = .returned (.tuple #[]) ∧ Rdr w' R s k' a.1.1 a.1.2 v' wv ∧ RulesW w' lo v' ds ∧ ds.map Ru.abs = a.2
    | .bad code p => e = .panicked [{ v := faultV code p, recovered := false }]

set_option maxRecDepth 20000 in
set_option maxHeartbeats 4000000 in
theorem readGrammar_any (R lo : Nat) (s : ByteArray) (wv : Value) (w : World) (h : Rdr w R s 0 0 0 (.slice none 0 0) wv) (hz : s.size ≤ 1048576) (hTb : Tabs w) (hR3 : 3 ≤ R) (hRlo : R < lo) (hlo : lo ≤ w.heap.size) :
    Calls Tryd.prog 61 #[.pointer (some ⟨R, 0, none⟩)] w (GramRead w R lo s (textF s) wv) := by
  have HR := Lib.hid h; clear h
  have HTb := Lib.hid hTb; clear hTb
  cases p0 : inB 1 6 (chr s 0 - 48)
  · have HE2 := Lib.hid (textF_0 p0)
    have HP := Lib.hid p0; clear p0
    go_enter Tryd.func61, Tryd.ntmps61
    go_wp2_with fail
    refine (readCount_bad R s 0 _ _ _ _ _ 0 6 (by omega) HR.out (by omega) (HTb.out.lims 0 1 rfl) (HTb.out.lims 1 6 rfl) HTb.out.lims.pos HP.out).mono ?_
    rintro e w1 ⟨rfl, hB1⟩
    go_wp2
    refine ⟨rfl, Save.of_below hB1, ?_⟩
    rw [HE2.out]
    simp
  have HP0 := Lib.hid p0; clear p0
  go_enter Tryd.func61, Tryd.ntmps61
  go_wp2_with fail
  refine (readCount_ok R s 0 _ _ _ _ _ 0 6 (by omega) HR.out hz (HTb.out.lims 0 1 rfl) (HTb.out.lims 1 6 rfl) HTb.out.lims.pos HP0.out).mono ?_
  rintro e w1 ⟨rfl, hR1, hS1⟩
  have HS1 := Lib.hid hS1; clear hS1
  have c2 : w1.cell? ⟨R, 2, none⟩ = some (.int .i64 0) := hR1.cell 2
  have f2 : w1.frozen? ⟨R, 2, none⟩ = false := hR1.frozen 2
  have HR1 := Lib.hid hR1; clear hR1
  obtain ⟨n, hn⟩ : ∃ n, n = chr s 0 - 48 := ⟨_, rfl⟩
  rw [← hn]
  have HN := Lib.hid hn; clear hn
  have HR2 : Hid (Rdr (w1.setCell ⟨R, 2, none⟩ (.int .i64 n)) R s 1 n 0 (.slice none 0 0) wv) := Row.set HR1.out 2 (.int .i64 n)
  have HS2 : Hid (Save (· = R) w (w1.setCell ⟨R, 2, none⟩ (.int .i64 n))) := Save.setCell (S := (· = R)) (p := ⟨R, 2, none⟩) HS1.out rfl _
  clear HR1 HS1
  go_wp2_with fail
  clear c2 f2
  generalize w1.setCell ⟨R, 2, none⟩ (.int .i64 n) = W2 at HR2 HS2 ⊢
  by_cases h1 : chr s 1 = 32
  · have H1 := Lib.hid h1
    refine (readByte_ok R s 1 _ _ _ _ _ 32 _ HR2.out hz (by omega) h1).mono ?_
    rintro e w3 ⟨rfl, hR3', hS3⟩
    clear h1
    have HR3 := Lib.hid hR3'; clear hR3'
    have HS3 := Lib.hid (HS2.out.trans hS3); clear hS3
    have HT3 := Lib.hid (HTb.out.saved HS3.out (fun b hb (e : b = R) => by omega))
    cases p2 : inB 1 4 (chr s 2 - 48)
    · have HE2 := Lib.hid (textF_2 HP0.out H1.out p2)
      have HP := Lib.hid p2; clear p2
      have hk2 : 2 ≤ s.size := by have := chr_in (s := s) (k := 1) (by rw [H1.out]; omega); omega
      go_wp2_with fail
      refine (readCount_bad R s 2 _ _ _ _ _ 1 4 (by omega) HR3.out hk2 (HT3.out.lims 2 1 rfl) (HT3.out.lims 3 4 rfl) HT3.out.lims.pos HP.out).mono ?_
      rintro e w4 ⟨rfl, hB4⟩
      go_wp2
      refine ⟨rfl, (HS3.out.trans (Save.of_below hB4)).more, ?_⟩
      rw [HE2.out]
      simp
    have HP2 := Lib.hid p2; clear p2
    go_wp2_with fail
    refine (readCount_ok R s 2 _ _ _ _ _ 1 4 (by omega) HR3.out hz (HT3.out.lims 2 1 rfl) (HT3.out.lims 3 4 rfl) HT3.out.lims.pos HP2.out).mono ?_
    rintro e w4 ⟨rfl, hR4, hS4⟩
    have HS4 := Lib.hid (HS3.out.trans hS4); clear hS4
    have c3 : w4.cell? ⟨R, 3, none⟩ = some (.int .i64 0) := hR4.cell 3
    have f3 : w4.frozen? ⟨R, 3, none⟩ = false := hR4.frozen 3
    have HR4 := Lib.hid hR4; clear hR4
    obtain ⟨t, ht⟩ : ∃ t, t = chr s 2 - 48 := ⟨_, rfl⟩
    rw [← ht]
    have HT := Lib.hid ht; clear ht
    have HR5 : Hid (Rdr (w4.setCell ⟨R, 3, none⟩ (.int .i64 t)) R s 3 n t (.slice none 0 0) wv) := Row.set HR4.out 3 (.int .i64 t)
    have HS5 : Hid (Save (· = R) w (w4.setCell ⟨R, 3, none⟩ (.int .i64 t))) := Save.setCell (S := (· = R)) (p := ⟨R, 3, none⟩) HS4.out rfl _
    clear HR4 HS4
    go_wp2_with fail
    clear c3 f3
    generalize w4.setCell ⟨R, 3, none⟩ (.int .i64 t) = W5 at HR5 HS5 ⊢
    by_cases h3 : chr s 3 = 10
    · have H3 := Lib.hid h3
      refine (readByte_ok R s 3 _ _ _ _ _ 10 _ HR5.out hz (by omega) h3).mono ?_
      rintro e w6 ⟨rfl, hR6, hS6⟩
      clear h3
      have hk4 : 4 ≤ s.size := by have := chr_in (s := s) (k := 3) (by rw [H3.out]; omega); omega
      have HR6 := Lib.hid hR6; clear hR6
      have HS6 := Lib.hid (HS5.out.trans hS6); clear hS6
      clear HR5 HS5 HR3 HS3 HT3 HR2 HS2
      go_wp2
      go_loopg [19] 17 (fun g _ wr => ∃ (k : Nat) (ds : List Ru) (v : Value), g + ds.length = 17 ∧ ds.length ≤ 16 ∧ k ≤ s.size ∧ Hid (Rdr wr R s k n t v wv) ∧ Hid (RulesW wr lo v ds) ∧ Hid (Save (fun b => b = R ∨ lo ≤ b) w wr) ∧ Hid (∀ u ∈ ds, u.r.length ≤ 4) ∧ Hid (linesF n t s 17 [] 4 = linesF n t s g (ds.map Ru.abs) k))
      case atStart => exact ⟨4, [], .slice none 0 0, rfl, by simp, hk4, HR6.out, RulesW.start _ _, HS6.out.more, (fun u hu => by simp at hu), rfl⟩
      case round =>
        clear HR6 HS6
        obtain ⟨k, ds, v, hg, hdl, hk, HRk, HRU, HS, HD4, HE⟩ := hrel
        have HTk : Hid (Tabs wr) := HTb.out.saved HS.out (fun b hb e => by omega)
        obtain ⟨f, hf⟩ : ∃ f, gk = f + 1 := ⟨gk - 1, by omega⟩
        by_cases hlt : k < s.size
        · have hne := neq_end (chr_nn hlt)
          cases hl : lineF n t s (ds.map Ru.abs) k with
          | bad c p =>
            have HE2 : Hid (textF s = .bad c p) := by
              show _ = _
              refine textF_b HP0.out H1.out HP2.out H3.out ?_
              rw [← HN.out, ← HT.out, HE.out, hf]
              exact linesF_bad hlt hl
            have HLL := Lib.hid hl; clear hl hf HE
            go_wp2_with fail
            refine (next_any _ _ _ _ _ _ _ _ HRk.out hk).mono ?_
            rintro e w7 ⟨rfl, hB7⟩
            have HB7 := Lib.hid hB7; clear hB7
            go_wp2_with fail
            refine (readLine_any R lo s k n t v wv ds _ (HRk.out.below HB7.out (Nat.le_refl _)) (HRU.out.keep HB7.out) hlt hz (HTk.out.keep HB7.out) hR3 hRlo (by have := HS.out.size; have := HB7.out.size; omega) hdl (fun u hu => by have := HD4.out u hu; omega) (fun xs k' h => rightF_len 5 [] _ xs k' (by simp) h)).mono ?_
            rw [HLL.out]
            rintro e w8 ⟨hS8, rfl⟩
            go_wp2
            refine ⟨rfl, HS.out.trans ((Save.of_below HB7.out).trans hS8), ?_⟩
            rw [HE2.out]
          | ok u k' =>
            obtain ⟨hk', hu4, hn16⟩ := lineF_bd hl
            rw [List.length_map] at hn16
            have hd16 : ds.length < 16 := by omega
            have HE2 : Hid (linesF n t s 17 [] 4 = linesF n t s f (ds.map Ru.abs ++ [u]) k') := by
              show _ = _
              rw [HE.out, hf]
              exact linesF_ok hlt hl
            have HLL := Lib.hid hl; clear hl HE hn16
            go_wp2_with fail
            refine (next_any _ _ _ _ _ _ _ _ HRk.out hk).mono ?_
            rintro e w7 ⟨rfl, hB7⟩
            have HB7 := Lib.hid hB7; clear hB7
            go_wp2_with fail
            refine (readLine_any R lo s k n t v wv ds _ (HRk.out.below HB7.out (Nat.le_refl _)) (HRU.out.keep HB7.out) hlt hz (HTk.out.keep HB7.out) hR3 hRlo (by have := HS.out.size; have := HB7.out.size; omega) hdl (fun u hu => by have := HD4.out u hu; omega) (fun xs k' h => rightF_len 5 [] _ xs k' (by simp) h)).mono ?_
            rw [HLL.out]
            rintro e w8 ⟨hS8, v', A', c', rfl, hR8, hRU8⟩
            have HR8 := Lib.hid hR8; clear hR8
            have HRU8 := Lib.hid hRU8; clear hRU8
            have HS8 := Lib.hid (HS.out.trans ((Save.of_below HB7.out).trans hS8)); clear hS8
            go_wp2
            go_roundg f
            case measure => omega
            case rel =>
              refine ⟨k', ds ++ [Ru.mk u.1 A' u.2 c'], v', by simp; omega, by simp; omega, hk', HR8, HRU8, HS8, ?_, ?_⟩
              · intro x hx
                rcases List.mem_append.1 hx with h | h
                · exact HD4.out x h
                · simp at h; subst h; exact hu4
              · show _ = _
                rw [HE2.out, List.map_append]
                rfl
        · have hce : chr s k = -1 := chr_end hlt
          have HE2 : Hid (textF s = .ok ((chr s 0 - 48, chr s 2 - 48), ds.map Ru.abs) k) := by
            show _ = _
            refine textF_o HP0.out H1.out HP2.out H3.out ?_
            rw [← HN.out, ← HT.out, HE.out, hf]
            exact linesF_end hlt
          clear hf HE
          go_wp2_with fail
          refine (next_any _ _ _ _ _ _ _ _ HRk.out hk).mono ?_
          rintro e w7 ⟨rfl, hB7⟩
          have HB7 := Lib.hid hB7; clear hB7
          go_wp2
          go_end0
          refine ⟨HS.out.trans (Save.of_below HB7.out), ?_⟩
          rw [HE2.out]
          refine ⟨v, ds, rfl, ?_, HRU.out.keep HB7.out, rfl⟩
          rw [← HN.out, ← HT.out]
          exact HRk.out.below HB7.out (Nat.le_refl _)
    · have HE2 := Lib.hid (textF_3 HP0.out H1.out HP2.out h3)
      have hk3 : 3 ≤ s.size := by have := chr_in (s := s) (k := 2) (by have := inB_lo HP2.out; omega); omega
      refine (readByte_bad R s 3 _ _ _ _ _ 10 _ HR5.out hk3 h3).mono ?_
      rintro e w6 ⟨rfl, hB6⟩
      go_wp2
      refine ⟨rfl, (HS5.out.trans (Save.of_below hB6)).more, ?_⟩
      rw [HE2.out]
      simp
  · have HE2 := Lib.hid (textF_1 HP0.out h1)
    have hk1 : 1 ≤ s.size := by have := chr_in (s := s) (k := 0) (by have := inB_lo HP0.out; omega); omega
    refine (readByte_bad R s 1 _ _ _ _ _ 32 _ HR2.out hk1 h1).mono ?_
    rintro e w3 ⟨rfl, hB3⟩
    go_wp2
    refine ⟨rfl, (HS2.out.trans (Save.of_below hB3)).more, ?_⟩
    rw [HE2.out]
    simp

end Go.Proofs.YtacehfjhpnplbaaDoor

/- The program's tryReading: the deferred function that catches what the reader gives up with. -/

namespace Go.Proofs.YtacehfjhpnplbaaDoor
open Go.RowKit

theorem assert_fault (code place : Int) (w : World) : (Instr.typeAssert (faultV code place) 20 70 true).run Tryd.prog w = .ok (.tuple #[.agg #[.int .i64 code, .int .i64 place], .bool true]) w := by
  kernel_rfl
theorem assert_nil (w : World) : (Instr.typeAssert .nilIface 20 70 true).run Tryd.prog w = .ok (.tuple #[.agg #[.int .i64 0, .int .i64 0], .bool false]) w := by
  kernel_rfl

set_option maxRecDepth 20000 in
set_option maxHeartbeats 1000000 in
theorem catch_panicking (F : Nat) (code place : Int) (w : World) (hR : Row w F 70 #[.int .i64 0, .int .i64 0]) :
    CallsD Tryd.prog 105 #[.pointer (some ⟨F, 0, none⟩)] (.panicking [{ v := faultV code place, recovered := false }]) w fun e u' w' =>
      e = .returned (.tuple #[]) ∧ u' = .panicking [{ v := faultV code place, recovered := true }] ∧ Row w' F 70 #[.int .i64 code, .int .i64 place] ∧ Save (· = F) w w' := by
  have kf := assert_fault code place
  have hA := hR.alloc (.cells #[.int .i64 code, .int .i64 place] 70)
  have c0 : (w.alloc (.cells #[.int .i64 code, .int .i64 place] 70)).cell? ⟨F, 0, none⟩ = some (.int .i64 0) := hA.cell 0
  have c1 : (w.alloc (.cells #[.int .i64 code, .int .i64 place] 70)).cell? ⟨F, 1, none⟩ = some (.int .i64 0) := hA.cell 1
  have z0 := hA.frozen 0
  have z1 := hA.frozen 1
  have hlt := hR.lt
  refine callsD_of_wpS Tryd.func105 rfl fun c₀ cs hu => ?_
  apply wpS_seq
  apply wpS_region
  simp [wpOpsS, go_sem, recoverD, hu, Tryd.ntmps105, Exit.thenS, kf]
  apply wpS_seq
  apply wpS_region
  simp [wpOpsS, go_sem, Exit.thenS]
  refine wpS_cond (t := true) (by simp [Act.eval, Array.replicate]) ?_
  simp only [if_true]
  apply wpS_region
  simp [wpOpsS, go_sem, c0, c1, z0, z1, bodyPostS, results, Tryd.results105]
  refine ⟨(hA.set 0 _).set 1 _, ?_⟩
  exact Save.setCell (S := (· = F)) (p := ⟨F, 1, none⟩) (Save.setCell (S := (· = F)) (p := ⟨F, 0, none⟩) (Save.of_below (by go_grown)) rfl _) rfl _

set_option maxRecDepth 20000 in
set_option maxHeartbeats 1000000 in
theorem catch_idle (F : Nat) (w : World) :
    CallsD Tryd.prog 105 #[.pointer (some ⟨F, 0, none⟩)] .returning w fun e u' w' => e = .returned (.tuple #[]) ∧ u' = .returning ∧ Below w.heap.size w w' := by
  have kn := assert_nil
  refine callsD_of_wpS Tryd.func105 rfl fun c₀ cs hu => ?_
  apply wpS_seq
  apply wpS_region
  simp [wpOpsS, go_sem, recoverD, hu, Tryd.ntmps105, Exit.thenS, kn]
  apply wpS_seq
  apply wpS_region
  simp [wpOpsS, go_sem, Exit.thenS]
  refine wpS_cond (t := false) (by simp [Act.eval, Array.replicate]) ?_
  simp only [Bool.false_eq_true, if_false]
  refine wpS_of_wp (wp_skip ?_)
  cases c₀
  simp_all [bodyPostS, results, Tryd.results105]
  go_grown

/-- What tryReading ends in where readWord was tried. -/
def WordTried (w : World) (R : Nat) (s : ByteArray) (n t : Int) (rv : Value) (e : Ending) (w' : World) : Prop :=
  Save (· = R) w w' ∧ ((badW t s = none ∧ e = .returned (.tuple #[.agg #[.int .i64 0, .int .i64 0], .bool true]) ∧ ∃ A c, Rdr w' R s s.size n t rv (.slice A (rwL t s).length c) ∧ OwnI w' w.heap.size A (rwL t s)) ∨
    (∃ k : Nat, badW t s = some k ∧ e = .returned (.tuple #[.agg #[.int .i64 3, .int .i64 k], .bool false])))

set_option maxRecDepth 20000 in
set_option maxHeartbeats 2000000 in
theorem tryWord_any (R : Nat) (s : ByteArray) (n t : Int) (Ar : Option Addr) (m c : Nat) (w : World) (h : Rdr w R s 0 n t (.slice Ar m c) (.slice none 0 0)) (hz : s.size ≤ 1048576) (hN : NonT w) (hT : TokT w) (hRN : R ≠ 1) (hRT : R ≠ 0) :
    Calls Tryd.prog 60 #[.func (.func 76) #[.pointer (some ⟨R, 0, none⟩)] #[]] w (WordTried w R s n t (.slice Ar m c)) := by
  have hmf : ∀ (fn : Fn) (first cap : Array Value) (w : World), (Instr.makeFunc fn first cap).run Tryd.prog w = .ok (.func fn first cap) w := fun _ _ _ _ => rfl
  have hRlt := Row.lt h
  have HB0 : Hid (Below w.heap.size w (w.alloc (.cells #[.int .i64 0, .int .i64 0] 70))) := by show Below _ _ _; go_grown
  have HF0 := Lib.hid (Row.new w 70 #[.int .i64 0, .int .i64 0])
  have HR := Lib.hid (Rdr.below h HB0.out (Nat.le_refl _)); clear h
  have HN := Lib.hid (hN.keep HB0.out (Nat.le_refl _)); clear hN
  have HT := Lib.hid (hT.keep HB0.out (Nat.le_refl _)); clear hT
  go_enter_defers Tryd.func60, Tryd.ntmps60
  go_wp2_with fail
  refine (readWord_any _ _ _ _ _ _ _ _ HR.out hz HN.out HT.out hRN hRT).mono ?_
  rintro e w1 ⟨hS, ⟨hb, rfl, Aw, cw, hRd, hO⟩ | ⟨k, hb, rfl⟩⟩
  · have HF1 := Lib.hid (HF0.out.save hS (fun e : w.heap.size = R => by omega))
    have c0 : w1.cell? ⟨w.heap.size, 0, none⟩ = some (.int .i64 0) := HF1.out.cell 0
    have c1 : w1.cell? ⟨w.heap.size, 1, none⟩ = some (.int .i64 0) := HF1.out.cell 1
    have z0 := HF1.out.frozen 0
    have z1 := HF1.out.frozen 1
    have HS := Lib.hid hS; clear hS
    have HBD := Lib.hid hb; clear hb
    have HRd := Lib.hid hRd; clear hRd
    have HO := Lib.hid hO; clear hO
    go_wp2
    clear c0 c1 z0 z1
    refine leaves_cons (f := 105) (args := #[.pointer (some ⟨w.heap.size, 0, none⟩)]) (by simp) (by simp [go_sem]) ?_
    refine (catch_idle w.heap.size _).mono ?_
    rintro e u' w2 ⟨rfl, rfl, hB2⟩
    have hSF : Save (· = w.heap.size) w1 w2 := (Save.setCell (S := (· = w.heap.size)) (p := ⟨w.heap.size, 1, none⟩) (Save.setCell (S := (· = w.heap.size)) (p := ⟨w.heap.size, 0, none⟩) (Save.refl _ _) rfl _) rfl _).trans (Save.of_below hB2)
    have hF2 : Row w2 w.heap.size 70 #[.int .i64 0, .int .i64 0] := ((HF1.out.set 0 (.int .i64 0)).set 1 (.int .i64 0)).below hB2 (by simp [World.setCell]; have := HF1.out.lt; omega)
    have g0 : w2.cell? ⟨w.heap.size, 0, none⟩ = some (.int .i64 0) := hF2.cell 0
    have g1 : w2.cell? ⟨w.heap.size, 1, none⟩ = some (.int .i64 0) := hF2.cell 1
    have hfin : WordTried w R s n t (.slice Ar m c) (.returned (.tuple #[.agg #[.int .i64 0, .int .i64 0], .bool true])) w2 := by
      refine ⟨?_, .inl ⟨HBD.out, rfl, Aw, cw, ?_, ?_⟩⟩
      · refine ⟨hSF.os.trans (HS.out.os.trans HB0.out.os), hSF.tape.trans (HS.out.tape.trans HB0.out.tape), hSF.output.trans (HS.out.output.trans HB0.out.output), Nat.le_trans HB0.out.size (Nat.le_trans HS.out.size hSF.size), fun b hb hs => ?_⟩
        have e1 := HB0.out.size
        have e2 := HS.out.size
        exact (hSF.block b (by omega) (fun e : b = w.heap.size => by omega)).trans ((HS.out.block b (by omega) hs).trans (HB0.out.block b hb))
      · exact Row.save HRd.out hSF (fun e : R = w.heap.size => by omega)
      · refine OwnI.lower (HO.out.save hSF ?_) HB0.out.size
        rintro g e hne (rfl : g = w.heap.size)
        rcases HO.out with h | ⟨g', cs, e', hl, _⟩
        · exact hne h
        · have := e.symm.trans e'
          injection this with this
          injection this with this
          rw [World.size_alloc] at hl
          omega
    simp [Leaves, settle, results, Tryd.results60, go_sem, g0, g1]
    exact hfin
  · have HF1 := Lib.hid (HF0.out.save hS (fun e : w.heap.size = R => by omega))
    have HS := Lib.hid hS; clear hS
    have HBD := Lib.hid hb; clear hb
    go_wp2
    refine leaves_cons (f := 105) (args := #[.pointer (some ⟨w.heap.size, 0, none⟩)]) (by simp) (by simp [go_sem]) ?_
    refine (catch_panicking w.heap.size 3 k _ HF1.out).mono ?_
    rintro e u' w2 ⟨rfl, rfl, hF2, hSF⟩
    have g0 : w2.cell? ⟨w.heap.size, 0, none⟩ = some (.int .i64 3) := hF2.cell 0
    have g1 : w2.cell? ⟨w.heap.size, 1, none⟩ = some (.int .i64 (k : Int)) := hF2.cell 1
    have hfin : WordTried w R s n t (.slice Ar m c) (.returned (.tuple #[.agg #[.int .i64 3, .int .i64 (k : Int)], .bool false])) w2 := by
      refine ⟨?_, .inr ⟨k, HBD.out, rfl⟩⟩
      refine ⟨hSF.os.trans (HS.out.os.trans HB0.out.os), hSF.tape.trans (HS.out.tape.trans HB0.out.tape), hSF.output.trans (HS.out.output.trans HB0.out.output), Nat.le_trans HB0.out.size (Nat.le_trans HS.out.size hSF.size), fun b hb hs => ?_⟩
      have e1 := HB0.out.size
      have e2 := HS.out.size
      exact (hSF.block b (by omega) (fun e : b = w.heap.size => by omega)).trans ((HS.out.block b (by omega) hs).trans (HB0.out.block b hb))
    simp [Leaves, settle, results, Tryd.results60, go_sem, g0, g1]
    exact hfin

end Go.Proofs.YtacehfjhpnplbaaDoor

/- What the program's ReadGrammar answers. -/

namespace Go.Proofs.YtacehfjhpnplbaaDoor
open Go.RowKit

/-- What tryReading ends in where readGrammar was tried. -/
def GramTried (w : World) (R lo : Nat) (s : ByteArray) (o : Out ((Int × Int) × List (Int × List Int))) (wv : Value) (e : Ending) (w' : World) : Prop :=
  Save (fun b => b = R ∨ lo ≤ b) w w' ∧ match o with
    | .ok a k' => ∃ v' ds, e = .returned (.tuple #[.agg #[.int .i64 0, .int .i64 0], .bool true]) ∧ Rdr w' R s k' a.1.1 a.1.2 v' wv ∧ RulesW w' lo v' ds ∧ ds.map Ru.abs = a.2
    | .bad code p => e = .returned (.tuple #[.agg #[.int .i64 code, .int .i64 p], .bool false])

theorem Save.three {S : Nat → Prop} {w W w1 w2 : World} {F : Nat} (hF : F = w.heap.size) (hB : Below w.heap.size w W) (hS : Save S W w1) (hSF : Save (· = F) w1 w2) : Save S w w2 := by
  refine ⟨hSF.os.trans (hS.os.trans hB.os), hSF.tape.trans (hS.tape.trans hB.tape), hSF.output.trans (hS.output.trans hB.output), Nat.le_trans hB.size (Nat.le_trans hS.size hSF.size), fun b hb hs => ?_⟩
  have e1 := hB.size
  have e2 := hS.size
  exact (hSF.block b (by omega) (fun e : b = F => by omega)).trans ((hS.block b (by omega) hs).trans (hB.block b hb))

set_option maxRecDepth 20000 in
set_option maxHeartbeats 2000000 in
theorem tryGram_any (R : Nat) (s : ByteArray) (wv : Value) (w : World) (h : Rdr w R s 0 0 0 (.slice none 0 0) wv) (hz : s.size ≤ 1048576) (hTb : Tabs w) (hR3 : 3 ≤ R) :
    Calls Tryd.prog 60 #[.func (.func 61) #[.pointer (some ⟨R, 0, none⟩)] #[]] w (GramTried w R (w.heap.size + 1) s (textF s) wv) := by
  have hmf : ∀ (fn : Fn) (first cap : Array Value) (w : World), (Instr.makeFunc fn first cap).run Tryd.prog w = .ok (.func fn first cap) w := fun _ _ _ _ => rfl
  have hRlt := Row.lt h
  have HB0 : Hid (Below w.heap.size w (w.alloc (.cells #[.int .i64 0, .int .i64 0] 70))) := by show Below _ _ _; go_grown
  have HF0 := Lib.hid (Row.new w 70 #[.int .i64 0, .int .i64 0])
  have HR := Lib.hid (Rdr.below h HB0.out (Nat.le_refl _)); clear h
  have HTb := Lib.hid (hTb.keep HB0.out); clear hTb
  go_enter_defers Tryd.func60, Tryd.ntmps60
  go_wp2_with fail
  refine (readGrammar_any R (w.heap.size + 1) s wv _ HR.out hz HTb.out hR3 (by omega) (by simp)).mono ?_
  rintro e w1 ⟨hS, h1⟩
  have HF1 := Lib.hid (HF0.out.save hS (fun e => by omega))
  cases ho : textF s with
  | ok a k' =>
    rw [ho] at h1
    obtain ⟨v', ds, rfl, hRd, hRU, hab⟩ := h1
    have HO := Lib.hid ho; clear ho
    have c0 : w1.cell? ⟨w.heap.size, 0, none⟩ = some (.int .i64 0) := HF1.out.cell 0
    have c1 : w1.cell? ⟨w.heap.size, 1, none⟩ = some (.int .i64 0) := HF1.out.cell 1
    have z0 := HF1.out.frozen 0
    have z1 := HF1.out.frozen 1
    have HS := Lib.hid hS; clear hS
    have HRd := Lib.hid hRd; clear hRd
    have HRU := Lib.hid hRU; clear hRU
    have HAB := Lib.hid hab; clear hab
    go_wp2
    clear c0 c1 z0 z1
    refine leaves_cons (f := 105) (args := #[.pointer (some ⟨w.heap.size, 0, none⟩)]) (by simp) (by simp [go_sem]) ?_
    refine (catch_idle w.heap.size _).mono ?_
    rintro e u' w2 ⟨rfl, rfl, hB2⟩
    have hSF : Save (· = w.heap.size) w1 w2 := (Save.setCell (S := (· = w.heap.size)) (p := ⟨w.heap.size, 1, none⟩) (Save.setCell (S := (· = w.heap.size)) (p := ⟨w.heap.size, 0, none⟩) (Save.refl _ _) rfl _) rfl _).trans (Save.of_below hB2)
    have hF2 : Row w2 w.heap.size 70 #[.int .i64 0, .int .i64 0] := ((HF1.out.set 0 (.int .i64 0)).set 1 (.int .i64 0)).below hB2 (by simp [World.setCell]; have := HF1.out.lt; omega)
    have g0 : w2.cell? ⟨w.heap.size, 0, none⟩ = some (.int .i64 0) := hF2.cell 0
    have g1 : w2.cell? ⟨w.heap.size, 1, none⟩ = some (.int .i64 0) := hF2.cell 1
    have hfin : GramTried w R (w.heap.size + 1) s (.ok a k') wv (.returned (.tuple #[.agg #[.int .i64 0, .int .i64 0], .bool true])) w2 :=
      ⟨Save.three rfl HB0.out HS.out hSF, v', ds, rfl, Row.save HRd.out hSF (fun e : R = w.heap.size => by omega), HRU.out.save hSF (fun b hb (e : b = w.heap.size) => by omega), HAB.out⟩
    simp [Leaves, settle, results, Tryd.results60, go_sem, g0, g1]
    rw [HO.out]
    exact hfin
  | bad code p =>
    rw [ho] at h1
    obtain rfl := h1
    clear ho
    have HS := Lib.hid hS; clear hS
    go_wp2
    refine leaves_cons (f := 105) (args := #[.pointer (some ⟨w.heap.size, 0, none⟩)]) (by simp) (by simp [go_sem]) ?_
    refine (catch_panicking w.heap.size code p _ HF1.out).mono ?_
    rintro e u' w2 ⟨rfl, rfl, hF2, hSF⟩
    have g0 : w2.cell? ⟨w.heap.size, 0, none⟩ = some (.int .i64 code) := hF2.cell 0
    have g1 : w2.cell? ⟨w.heap.size, 1, none⟩ = some (.int .i64 (p : Int)) := hF2.cell 1
    have hfin : GramTried w R (w.heap.size + 1) s (.bad code p) wv (.returned (.tuple #[.agg #[.int .i64 code, .int .i64 (p : Int)], .bool false])) w2 := ⟨Save.three rfl HB0.out HS.out hSF, rfl⟩
    simp [Leaves, settle, results, Tryd.results60, go_sem, g0, g1]
    exact hfin

/-- The answers, by what came out. -/
abbrev OutG := Out ((Int × Int) × List (Int × List Int))
def outN : OutG → Int | .ok a _ => a.1.1 | .bad _ _ => 0
def outT : OutG → Int | .ok a _ => a.1.2 | .bad _ _ => 0
def outS : OutG → List (Int × List Int) | .ok a _ => a.2 | .bad _ _ => []
def outC : OutG → Int | .ok _ _ => 0 | .bad c _ => c
def outP : OutG → Int | .ok _ _ => 0 | .bad _ p => (p : Int)
def outB : OutG → Bool | .ok _ _ => true | .bad _ _ => false
def rgO (s : ByteArray) : OutG := if s.size ≤ 600 then textF s else .bad 1 0

/-- A new grammar, two numbers and a bool. -/
def GaveG4 (w : World) (n t : Int) (ss : List (Int × List Int)) (code place : Int) (b : Bool) (e : Ending) (w' : World) : Prop :=
  ∃ A c ds, e = .returned (.tuple #[.agg #[.int .i64 n, .int .i64 t, .slice A ds.length c], .int .i64 code, .int .i64 place, .bool b]) ∧ ds.length ≤ c ∧ OwnR w' w.heap.size A ds ∧ ds.map Ru.abs = ss ∧ Below w.heap.size w w'

set_option maxRecDepth 20000 in
set_option maxHeartbeats 2000000 in
theorem implRG_any (s : ByteArray) (w : World) (hTb : Tabs w) (h3 : s.size ≤ 1048576) :
    Calls Tryd.prog 16 #[.string s] w (GaveG4 w (outN (rgO s)) (outT (rgO s)) (outS (rgO s)) (outC (rgO s)) (outP (rgO s)) (outB (rgO s))) := by
  have hmf : ∀ (fn : Fn) (first cap : Array Value) (w : World), (Instr.makeFunc fn first cap).run Tryd.prog w = .ok (.func fn first cap) w := fun _ _ _ _ => rfl
  have HTb := Lib.hid hTb; clear hTb
  have HB0 : Hid (Below w.heap.size w (w.alloc (.cells #[.int .i64 0, .int .i64 0, .slice none 0 0] 26))) := by show Below _ _ _; go_grown
  have HG0 := Lib.hid (Row.new w 26 #[.int .i64 0, .int .i64 0, .slice none 0 0])
  by_cases hl : s.size ≤ 600
  · have HE : Hid (rgO s = textF s) := if_pos hl
    have hw3 : 3 ≤ w.heap.size := by have := HTb.out.lims.pos; omega
    go_enter Tryd.func16, Tryd.ntmps16
    go_wp2_with fail
    have hRd : Rdr ((w.alloc (.cells #[.int .i64 0, .int .i64 0, .slice none 0 0] 26)).alloc (.cells #[.string s, .int .i64 0, .int .i64 0, .int .i64 0, .slice none 0 0, .slice none 0 0] 68)) (w.heap.size + 1) s 0 0 0 (.slice none 0 0) (.slice none 0 0) := by
      have := Row.new (w.alloc (.cells #[.int .i64 0, .int .i64 0, .slice none 0 0] 26)) 68 #[.string s, .int .i64 0, .int .i64 0, .int .i64 0, .slice none 0 0, .slice none 0 0]
      rw [World.size_alloc] at this
      exact this
    have hGW := HG0.out.alloc (.cells #[.string s, .int .i64 0, .int .i64 0, .int .i64 0, .slice none 0 0, .slice none 0 0] 68)
    have hBA : Below w.heap.size w ((w.alloc (.cells #[.int .i64 0, .int .i64 0, .slice none 0 0] 26)).alloc (.cells #[.string s, .int .i64 0, .int .i64 0, .int .i64 0, .slice none 0 0, .slice none 0 0] 68)) := by go_grown
    generalize ((w.alloc (.cells #[.int .i64 0, .int .i64 0, .slice none 0 0] 26)).alloc (.cells #[.string s, .int .i64 0, .int .i64 0, .int .i64 0, .slice none 0 0, .slice none 0 0] 68)) = W at hRd hGW hBA ⊢
    have HBA := Lib.hid hBA; clear hBA
    have HGW := Lib.hid hGW; clear hGW
    have hRl := Row.lt hRd
    refine (tryGram_any (w.heap.size + 1) s _ _ hRd h3 (HTb.out.keep HBA.out) (by omega)).mono ?_
    rintro e w3 ⟨hS, h1⟩
    clear hRd
    have HG3 := Lib.hid (HGW.out.save hS (fun e => by omega))
    have HW3 : Hid (Below w.heap.size w w3) := HBA.out.trans (hS.below HBA.out.size fun i hi e => by omega)
    clear hS
    cases ho : textF s with
    | ok a k' =>
      rw [ho] at h1
      obtain ⟨v', ds, rfl, hRd, hRU, hab⟩ := h1
      obtain ⟨⟨n, t⟩, ss⟩ := a
      have HO : Hid (rgO s = .ok ((n, t), ss) k') := HE.out.trans ho
      clear ho
      obtain ⟨Ad, cd, rfl, hcap, hOR⟩ := hRU.slice
      have hRA := Row.alloc hRd (.cells #[.int .i64 0, .int .i64 0] 70)
      have hGA := HG3.out.alloc (.cells #[.int .i64 0, .int .i64 0] 70)
      have HBx := Lib.hid (HW3.out.alloc HW3.out.size (.cells #[.int .i64 0, .int .i64 0] 70))
      have HOx := Lib.hid (hOR.below (B := w3.heap.size) (w' := w3.alloc (.cells #[.int .i64 0, .int .i64 0] 70)) (by go_grown) (Nat.le_refl _))
      have r2 : (w3.alloc (.cells #[.int .i64 0, .int .i64 0] 70)).cell? ⟨w.heap.size + 1, 2, none⟩ = some (.int .i64 n) := hRA.cell 2
      have r3 : (w3.alloc (.cells #[.int .i64 0, .int .i64 0] 70)).cell? ⟨w.heap.size + 1, 3, none⟩ = some (.int .i64 t) := hRA.cell 3
      have r4 : (w3.alloc (.cells #[.int .i64 0, .int .i64 0] 70)).cell? ⟨w.heap.size + 1, 4, none⟩ = some (.slice Ad ds.length cd) := hRA.cell 4
      have g0 : (w3.alloc (.cells #[.int .i64 0, .int .i64 0] 70)).cell? ⟨w.heap.size, 0, none⟩ = some (.int .i64 0) := hGA.cell 0
      have g1 : (w3.alloc (.cells #[.int .i64 0, .int .i64 0] 70)).cell? ⟨w.heap.size, 1, none⟩ = some (.int .i64 0) := hGA.cell 1
      have g2 : (w3.alloc (.cells #[.int .i64 0, .int .i64 0] 70)).cell? ⟨w.heap.size, 2, none⟩ = some (.slice none 0 0) := hGA.cell 2
      have z0 := hGA.frozen 0
      have z1 := hGA.frozen 1
      have z2 := hGA.frozen 2
      have HAB := Lib.hid hab; clear hab
      have HGA := Lib.hid hGA; clear hGA
      clear hRA hOR hRU hRd
      go_wp2
      have hfr := ((HGA.out.set 0 (.int .i64 n)).set 1 (.int .i64 t)).set 2 (.slice Ad ds.length cd)
      have d0 := hfr.cell 0
      have d1 := hfr.cell 1
      have d2 := hfr.cell 2
      simp at d0 d1 d2
      refine bodyPost_ret (v := .tuple #[.agg #[.int .i64 n, .int .i64 t, .slice Ad ds.length cd], .int .i64 0, .int .i64 0, .bool true]) (by simp [results, Tryd.results16, go_sem, d0, d1, d2]) rfl ?_
      rw [HO.out]
      refine ⟨Ad, cd, ds, rfl, hcap, ?_, HAB.out, ((HBx.out.setCell (by simp) _).setCell (by simp) _).setCell (by simp) _⟩
      exact OwnR.lower (((HOx.out.low (by simp; omega) _).low (by simp; omega) _).low (by simp; omega) _) (by omega)
    | bad code p =>
      rw [ho] at h1
      obtain rfl := h1
      have HO : Hid (rgO s = .bad code p) := HE.out.trans ho
      clear ho
      have hGA := HG3.out.alloc (.cells #[.int .i64 code, .int .i64 (p : Int)] 70)
      have HBx := Lib.hid (HW3.out.alloc HW3.out.size (.cells #[.int .i64 code, .int .i64 (p : Int)] 70))
      have g0 : (w3.alloc (.cells #[.int .i64 code, .int .i64 (p : Int)] 70)).cell? ⟨w.heap.size, 0, none⟩ = some (.int .i64 0) := hGA.cell 0
      have g1 : (w3.alloc (.cells #[.int .i64 code, .int .i64 (p : Int)] 70)).cell? ⟨w.heap.size, 1, none⟩ = some (.int .i64 0) := hGA.cell 1
      have g2 : (w3.alloc (.cells #[.int .i64 code, .int .i64 (p : Int)] 70)).cell? ⟨w.heap.size, 2, none⟩ = some (.slice none 0 0) := hGA.cell 2
      have z0 := hGA.frozen 0
      have z1 := hGA.frozen 1
      have z2 := hGA.frozen 2
      have HGA := Lib.hid hGA; clear hGA
      have hn1 : ¬ w3.heap.size = w.heap.size := by have := HG3.out.lt; omega
      have hn2 : ¬ w.heap.size = w3.heap.size := by omega
      go_wp2
      go_region
      all_goals
        go_wp2
        have hfr := ((HGA.out.set 0 (.int .i64 0)).set 1 (.int .i64 0)).set 2 (.slice none 0 0)
        have d0 := hfr.cell 0
        have d1 := hfr.cell 1
        have d2 := hfr.cell 2
        simp at d0 d1 d2
        refine bodyPost_ret (v := .tuple #[.agg #[.int .i64 0, .int .i64 0, .slice none 0 0], .int .i64 code, .int .i64 (p : Int), .bool false]) (by simp [results, Tryd.results16, go_sem, d0, d1, d2]) rfl ?_
        rw [HO.out]
        refine ⟨none, 0, [], rfl, by simp, .inl rfl, rfl, ?_⟩
        exact Below.trans (((HBx.out.setCell (by simp) _).setCell (by simp) _).setCell (by simp) _) ⟨rfl, rfl, rfl, Nat.le_refl _, fun _ _ => rfl⟩
  · have HE : Hid (rgO s = .bad 1 0) := if_neg hl
    have hl' : (600 : Int) < (s.size : Int) := by omega
    go_enter Tryd.func16, Tryd.ntmps16
    go_wp2
    have d0 := HG0.out.cell 0
    have d1 := HG0.out.cell 1
    have d2 := HG0.out.cell 2
    simp at d0 d1 d2
    refine bodyPost_ret (v := .tuple #[.agg #[.int .i64 0, .int .i64 0, .slice none 0 0], .int .i64 1, .int .i64 0, .bool false]) (by simp [results, Tryd.results16, go_sem]) rfl ?_
    rw [HE.out]
    exact ⟨none, 0, [], rfl, by simp, .inl rfl, rfl, HB0.out⟩

end Go.Proofs.YtacehfjhpnplbaaDoor

/- The reference's reader: digit, is, fault. -/

namespace Go.Proofs.YtacehfjhpnplbaaDoor
open Go.RowKit

/-- The reference's reader's block. -/
def Rd2 (w : World) (R : Nat) (s : ByteArray) (k : Int) (cd n t : Int) (v : Value) : Prop := Row w R 85 #[.string s, .int .i64 k, .int .i64 cd, .int .i64 n, .int .i64 t, v]
theorem Rd2.below {w w' : World} {R : Nat} {s : ByteArray} {k : Int} {cd n t : Int} {v : Value} {B : Nat} (h : Rd2 w R s k cd n t v) (hb : Below B w w') (hR : w.heap.size ≤ B) : Rd2 w' R s k cd n t v :=
  Row.below h hb (by have := Row.lt h; omega)

theorem in_dig (m c : Int) : inB 49 (48 + m) c = inB 1 m (c - 48) := by unfold inB; congr 1; exact propext (by omega)

/-- A number and a place further on. -/
def Dig2 (w : World) (R : Nat) (s : ByteArray) (k : Nat) (cd n t : Int) (v : Value) (x : Int) (e : Ending) (w' : World) : Prop := e = .returned (.int .i64 x) ∧ Rd2 w' R s ((k + 1 : Nat) : Int) cd n t v ∧ Save (· = R) w w'

set_option maxRecDepth 20000 in
set_option maxHeartbeats 2000000 in
theorem fault_any (R : Nat) (s : ByteArray) (k cd n t : Int) (v : Value) (w : World) (code place : Int) (h : Rd2 w R s k cd n t v) :
    Calls Tryd.prog 115 #[.pointer (some ⟨R, 0, none⟩), .int .i64 code, .int .i64 place] w fun e w' => e = .returned (.bool false) ∧ Rd2 w' R s place code n t v ∧ Save (· = R) w w' := by
  have c1 : w.cell? ⟨R, 1, none⟩ = some (.int .i64 k) := h.cell 1
  have c2 : w.cell? ⟨R, 2, none⟩ = some (.int .i64 cd) := h.cell 2
  have f1 : w.frozen? ⟨R, 1, none⟩ = false := h.frozen 1
  have f2 : w.frozen? ⟨R, 2, none⟩ = false := h.frozen 2
  have HR := Lib.hid h; clear h
  go_enter Tryd.func115, Tryd.ntmps115
  go_wp2
  go_ret
  exact ⟨rfl, (Row.set HR.out 2 (.int .i64 code)).set 1 (.int .i64 place), Save.setCell (S := (· = R)) (p := ⟨R, 1, none⟩) (Save.setCell (S := (· = R)) (p := ⟨R, 2, none⟩) (Save.refl _ _) rfl _) rfl _⟩

set_option maxRecDepth 20000 in
set_option maxHeartbeats 2000000 in
theorem is_bad (R : Nat) (s : ByteArray) (k : Nat) (cd n t : Int) (v : Value) (w : World) (b : Int) (h : Rd2 w R s k cd n t v) (hk : k ≤ s.size) (hb : chr s k ≠ b) :
    Calls Tryd.prog 114 #[.pointer (some ⟨R, 0, none⟩), .int .u8 b] w fun e w' => e = .returned (.bool false) ∧ Below w.heap.size w w' := by
  have c0 : w.cell? ⟨R, 0, none⟩ = some (.string s) := h.cell 0
  have c1 : w.cell? ⟨R, 1, none⟩ = some (.int .i64 (k : Int)) := h.cell 1
  clear h
  by_cases hlt : k < s.size
  · have he : ((k : Int) == (s.size : Int)) = false := by simp; omega
    have hne : ((s[k].toNat : Int) != b) = true := by rw [chr_at hlt] at hb; simp; exact hb
    clear hb
    go_enter Tryd.func114, Tryd.ntmps114
    go_wp2
    go_quiet (fail)
    go_wp2
    go_ret
    exact ⟨rfl, below_drewN (Below.refl _ _) _⟩
  · have he : ((k : Int) == (s.size : Int)) = true := by simp; omega
    clear hb
    go_enter Tryd.func114, Tryd.ntmps114
    go_wp2
    go_quiet (fail)
    go_wp2
    go_ret
    exact ⟨rfl, below_drewN (Below.refl _ _) _⟩

set_option maxRecDepth 20000 in
set_option maxHeartbeats 2000000 in
theorem is_ok (R : Nat) (s : ByteArray) (k : Nat) (cd n t : Int) (v : Value) (w : World) (b : Int) (h : Rd2 w R s k cd n t v) (hz : s.size ≤ 1048576) (hb : chr s k = b) (h0 : 0 ≤ b) :
    Calls Tryd.prog 114 #[.pointer (some ⟨R, 0, none⟩), .int .u8 b] w fun e w' => e = .returned (.bool true) ∧ Rd2 w' R s ((k + 1 : Nat) : Int) cd n t v ∧ Save (· = R) w w' := by
  have hlt : k < s.size := chr_in (by omega)
  have c0 : w.cell? ⟨R, 0, none⟩ = some (.string s) := h.cell 0
  have c1 : w.cell? ⟨R, 1, none⟩ = some (.int .i64 (k : Int)) := h.cell 1
  have f1 : w.frozen? ⟨R, 1, none⟩ = false := h.frozen 1
  have HR := Lib.hid h; clear h
  have he : ((k : Int) == (s.size : Int)) = false := by simp; omega
  have hne : ((s[k].toNat : Int) != b) = false := by rw [chr_at hlt] at hb; simp; exact hb
  clear hb
  go_enter Tryd.func114, Tryd.ntmps114
  go_wp2
  go_quiet (fail)
  go_wp2
  go_ret
  refine ⟨rfl, ?_, Save.setCell (S := (· = R)) (p := ⟨R, 1, none⟩) (Save.of_below (below_drewN (Below.refl _ _) _)) rfl _⟩
  exact Row.set (w := w.drewN nq) HR.out 1 (.int .i64 ((k : Int) + 1))

set_option maxRecDepth 20000 in
set_option maxHeartbeats 2000000 in
theorem digit_bad (R : Nat) (s : ByteArray) (k : Nat) (cd n t : Int) (v : Value) (w : World) (m : Int) (h : Rd2 w R s k cd n t v) (hk : k ≤ s.size) (hm0 : 0 ≤ m) (hm : m ≤ 9) (hp : inB 1 m (chr s k - 48) = false) :
    Calls Tryd.prog 113 #[.pointer (some ⟨R, 0, none⟩), .int .i64 m] w fun e w' => e = .returned (.int .i64 0) ∧ Below w.heap.size w w' := by
  have c0 : w.cell? ⟨R, 0, none⟩ = some (.string s) := h.cell 0
  have c1 : w.cell? ⟨R, 1, none⟩ = some (.int .i64 (k : Int)) := h.cell 1
  clear h
  by_cases hlt : k < s.size
  · have he : ((k : Int) == (s.size : Int)) = false := by simp; omega
    have hc := UInt8.toNat_lt s[k]
    have HW : Hid (inB 49 (48 + m) (s[k].toNat : Int) = false) := by show _ = _; rw [in_dig, ← chr_at hlt]; exact hp
    clear hp
    have HC : Hid (∀ i, Calls Tryd.prog 78 #[.int .i64 (s[k].toNat : Int), .int .i64 49, .int .i64 (48 + m)] (w.drewN i) fun e w'' => e = .returned (.bool false) ∧ ∃ j, w'' = w.drewN j) := fun i => by
      have h1 := l1In_any (s[k].toNat : Int) 49 (48 + m) (w.drewN i)
      rw [HW.out] at h1
      exact h1.mono fun _ _ h => ⟨h.1, _, h.2.symm⟩
    go_enter Tryd.func113, Tryd.ntmps113
    go_wp2
    go_quiet (exact HC.out _)
    go_wp2
    go_ret
    exact ⟨rfl, below_drewN (Below.refl _ _) _⟩
  · have he : ((k : Int) == (s.size : Int)) = true := by simp; omega
    clear hp
    go_enter Tryd.func113, Tryd.ntmps113
    go_wp2
    go_quiet (fail)
    go_wp2
    go_ret
    exact ⟨rfl, below_drewN (Below.refl _ _) _⟩

set_option maxRecDepth 20000 in
set_option maxHeartbeats 2000000 in
theorem digit_ok (R : Nat) (s : ByteArray) (k : Nat) (cd n t : Int) (v : Value) (w : World) (m : Int) (h : Rd2 w R s k cd n t v) (hz : s.size ≤ 1048576) (hm0 : 0 ≤ m) (hm : m ≤ 9) (hp : inB 1 m (chr s k - 48) = true) :
    Calls Tryd.prog 113 #[.pointer (some ⟨R, 0, none⟩), .int .i64 m] w (Dig2 w R s k cd n t v (chr s k - 48)) := by
  have hlt : k < s.size := chr_in (by have := inB_lo hp; omega)
  have c0 : w.cell? ⟨R, 0, none⟩ = some (.string s) := h.cell 0
  have c1 : w.cell? ⟨R, 1, none⟩ = some (.int .i64 (k : Int)) := h.cell 1
  have f1 : w.frozen? ⟨R, 1, none⟩ = false := h.frozen 1
  have HR := Lib.hid h; clear h
  have he : ((k : Int) == (s.size : Int)) = false := by simp; omega
  have hc := UInt8.toNat_lt s[k]
  have HW : Hid (inB 49 (48 + m) (s[k].toNat : Int) = true) := by show _ = _; rw [in_dig, ← chr_at hlt]; exact hp
  have HE : Hid (chr s k - 48 = (s[k].toNat : Int) - 48) := by show _ = _; rw [chr_at hlt]
  have HC : Hid (∀ i, Calls Tryd.prog 78 #[.int .i64 (s[k].toNat : Int), .int .i64 49, .int .i64 (48 + m)] (w.drewN i) fun e w'' => e = .returned (.bool true) ∧ ∃ j, w'' = w.drewN j) := fun i => by
    have h1 := l1In_any (s[k].toNat : Int) 49 (48 + m) (w.drewN i)
    rw [HW.out] at h1
    exact h1.mono fun _ _ h => ⟨h.1, _, h.2.symm⟩
  clear hp
  go_enter Tryd.func113, Tryd.ntmps113
  go_wp2
  go_quiet (exact HC.out _)
  go_wp2
  have hS : Save (· = R) w ((w.drewN nq).setCell ⟨R, 1, none⟩ (.int .i64 ((k : Int) + 1))) := Save.setCell (S := (· = R)) (p := ⟨R, 1, none⟩) (Save.of_below (below_drewN (Below.refl _ _) _)) rfl _
  have hR : Rd2 ((w.drewN nq).setCell ⟨R, 1, none⟩ (.int .i64 ((k : Int) + 1))) R s ((k : Int) + 1) cd n t v := Row.set (w := w.drewN nq) HR.out 1 (.int .i64 ((k : Int) + 1))
  clear c0 c1 f1 HC HW
  generalize (w.drewN nq).setCell ⟨R, 1, none⟩ (.int .i64 ((k : Int) + 1)) = W at hS hR ⊢
  have c0 : W.cell? ⟨R, 0, none⟩ = some (.string s) := hR.cell 0
  have c1 : W.cell? ⟨R, 1, none⟩ = some (.int .i64 ((k : Int) + 1)) := hR.cell 1
  have HR2 := Lib.hid hR; clear hR
  have HS2 := Lib.hid hS; clear hS
  go_quiet (fail)
  go_wp2
  go_ret
  refine ⟨?_, HR2.out.below (below_drewN (Below.refl _ _) _) (Nat.le_refl _), HS2.out.trans (Save.of_below (below_drewN (Below.refl _ _) _))⟩
  rw [HE.out]
  rfl

end Go.Proofs.YtacehfjhpnplbaaDoor

/- Appending onto a row that the call owns, with what is left of the old slice; the reference's l1Put2. -/

namespace Go.Proofs.YtacehfjhpnplbaaDoor
open Go.RowKit

/-- The old slice reads behind an append as it did: what is written lies behind its length, or in a new row. -/
theorem run_append_keep {P : Program} (w : World) (base : Nat) (t ty e : TypeId) (i : TypeInfo) (z : Value) (size bytes : Nat) (ht : P.underlying t = some (.slice e)) (hi : P.info? e = some i) (hz : i.zero = some z)
    (hsize : i.size = size) (hby : i.bytes = bytes) (hzs : z.cells.size = size) (hsz : 0 < size)
    (v : Value) (n : Nat) (xs : List Value) (hown : w.ownsRow base e size v n xs)
    (a : Addr) (m c : Nat) (news : List Value) (hl : news.length = m * size) (hnews : ∀ j u, news[j]? = some u → w.cell? (a.add j) = some u) (h1 : ∀ u ∈ news, u.oneCell' = true)
    (h63 : n + m ≤ maxLen) (hbytes : (n + m) * bytes ≤ 140737488355328) (hbase : base ≤ w.heap.size) :
    ∃ v' w', (Builtin.append_ #[t, t] ty #[v, .slice (some a) m c]).run P w = .ok v' w' ∧ w'.ownsRow base e size v' (n + m) (xs ++ news) ∧ w'.ownsRow base e size v n xs ∧ w.grownBy w' v.ownBlock := by
  obtain ⟨v', w', hr, h2, h3, _⟩ := run_append_own (P := P) w base t ty e i z size bytes ht hi hz hsize hby hzs hsz v n xs hown a m c news hl hnews h1 h63 hbytes hbase
  refine ⟨v', w', hr, h2, ?_, h3⟩
  subst hsize
  subst hby
  have hown' := hown
  obtain ⟨hlx, ⟨rfl, rfl⟩ | ⟨g, cap, cur, rfl, hbg, hg, hnc, hcm, hcs, htake⟩⟩ := hown
  · exact ⟨hlx, .inl ⟨rfl, rfl⟩⟩
  · by_cases hroom : n + m ≤ cap
    · have hfit : n * i.size + news.length ≤ cur.size := by rw [hl, hcs, ← Nat.add_mul]; exact Nat.mul_le_mul_right _ hroom
      have hr2 := run_append_room (P := P) w t ty e i ht hi g n cap cur hg a m c news hl hnews h1 hroom hfit
      have e1 := hr.symm.trans hr2
      injection e1 with e1 e2
      subst e1
      obtain ⟨_, ⟨e3, _⟩ | ⟨g', cap', cur', e3, _, hg', _, _, hcs', htake'⟩⟩ := h2
      · cases e3
      · injection e3 with e3 _ e5
        injection e3 with e3
        injection e3 with e3
        subst e3 e5
        refine ⟨hlx, .inr ⟨g, cap, cur', rfl, hbg, hg', hnc, hcm, hcs', ?_⟩⟩
        have e6 := congrArg (List.take (n * i.size)) htake'
        rw [List.take_take, Nat.min_eq_left (Nat.mul_le_mul_right _ (Nat.le_add_right n m))] at e6
        rw [e6, ← hlx, List.take_left]
    · have holds : ∀ j u, xs[j]? = some u → w.cell? ((⟨g, 0, none⟩ : Addr).add j) = some u := hown'.cells (g := g) rfl
      have hsmall : n + m ≤ 9223372036854775807 := by simp only [maxLen] at h63; omega
      have hr2 := run_append_grow (P := P) w t ty e i z ht hi hz ⟨g, 0, none⟩ n cap xs hlx holds a m c news hl hnews (by omega) (by omega) (growslice_fits (by omega) hbytes)
      have e1 := hr.symm.trans hr2
      injection e1 with e1 e2
      subst e2
      exact own_below hown' (by go_grown)

theorem append_keep_at {P : Program} {w : World} {ops : Array Oper} {rest : List Oper} {o : Oper} {a : Act} {Q : Exit → Act → World → Prop} (hgd : o.guard = none) (s x : Operand) (t : TypeId)
    (ho : o.op = .call { callee := .builtin .append, args := #[s, x], argTypes := #[t, t] })
    (base : Nat) (e : TypeId) (i : TypeInfo) (z : Value) (size bytes : Nat) (ht : P.underlying t = some (.slice e)) (hi : P.info? e = some i) (hz : i.zero = some z)
    (hsize : i.size = size) (hby : i.bytes = bytes) (hzs : z.cells.size = size) (hsz : 0 < size)
    (v : Value) (n : Nat) (xs : List Value) (hs : a.eval s = v) (hown : w.ownsRow base e size v n xs)
    (ad : Addr) (m c : Nat) (news : List Value) (hx : a.eval x = .slice (some ad) m c) (hl : news.length = m * size) (hnews : ∀ j u, news[j]? = some u → w.cell? (ad.add j) = some u) (h1 : ∀ u ∈ news, u.oneCell' = true)
    (h63 : n + m ≤ maxLen) (hbytes : (n + m) * bytes ≤ 140737488355328) (hbase : base ≤ w.heap.size)
    (h : ∀ v' w', w'.ownsRow base e size v' (n + m) (xs ++ news) → w'.ownsRow base e size v n xs → w.grownBy w' v.ownBlock → wpList P ops Q rest (a.put o.dst v') w') : wpList P ops Q (o :: rest) a w := by
  refine wpList_plain hgd fun K hK => ?_
  obtain ⟨v', w', hr, h2, h3, h4⟩ := run_append_keep (P := P) w base t o.type e i z size bytes ht hi hz hsize hby hzs hsz v n xs hown ad m c news hl hnews h1 h63 hbytes hbase
  unfold Oper.wp
  simp [execOp, ho, resolve, invoke, builtin, hs, hx, hr, Result.andThen]
  exact hK _ _ (h v' w' h2 h3 h4)

end Go.Proofs.YtacehfjhpnplbaaDoor

/- What the reference's GrammarText answers. -/

namespace Go.Proofs.YtacehfjhpnplbaaDoor
open Go.RowKit
open Go.Sort (grow)

theorem head_str (a b : UInt8) : (((⟨#[a]⟩ : ByteArray) ++ ⟨#[32]⟩) ++ ⟨#[b]⟩) ++ ⟨#[10]⟩ = str [a, 32, b, 10] := by
  rw [ByteArray.mk_append_mk, ByteArray.mk_append_mk, ByteArray.mk_append_mk]
  rfl
theorem two_str (l : List UInt8) (a b : UInt8) : str l ++ ((⟨#[a]⟩ : ByteArray) ++ ⟨#[b]⟩) = str (l ++ [a, b]) := by
  show (⟨l.toArray⟩ : ByteArray) ++ (⟨#[a]⟩ ++ ⟨#[b]⟩) = ⟨(l ++ [a, b]).toArray⟩
  rw [ByteArray.mk_append_mk, ByteArray.mk_append_mk]
  simp
/-- A rule's line, as far as its first j symbols. -/
def partL (l : Int) (r : List Int) (j : Nat) : List UInt8 := [letC l, 61] ++ (r.take j).map letC
theorem partL_zero (l : Int) (r : List Int) : partL l r 0 = [letC l, 61] := by simp [partL]
theorem partL_step {l : Int} {r : List Int} {j : Nat} (hj : j < r.length) : partL l r (j + 1) = partL l r j ++ [letC r[j]] := by
  unfold partL
  rw [List.take_succ_eq_append_getElem hj, List.map_append, ← List.append_assoc]
  rfl
theorem partL_all (l : Int) (r : List Int) : partL l r r.length ++ [10] = lineL (l, r) := by simp [partL, lineL]
theorem partL_len (l : Int) (r : List Int) (j : Nat) : (partL l r j).length ≤ 2 + j := by simp [partL]; omega

theorem Rls.at' {w : World} {B : Nat} {A : Option Addr} {rs : List Ru} (h : Rls w B A rs) {k : Nat} (hk : k < rs.length) :
    ∃ (b o : Nat) (l : Int) (a : Option Addr) (r : List Int) (cc : Nat), A = some ⟨b, o, none⟩ ∧ b < B ∧ rs[k] = ⟨l, a, r, cc⟩ ∧ w.cell? ⟨b, o + k * 2, none⟩ = some (.int .i64 l) ∧ w.cell? ⟨b, o + k * 2 + 1, none⟩ = some (.slice a r.length cc) ∧ Ints w B a r := by
  obtain ⟨b, o, e, hb, c1, c2, c3⟩ := h.at_ hk
  exact ⟨b, o, rs[k].l, rs[k].a, rs[k].r, rs[k].c, e, hb, rfl, c1, c2, c3⟩
def Syms (r : List Int) : Prop := ∀ (j : Nat) (x : Int), r[j]? = some x → -4 ≤ x ∧ x < 6
theorem Syms.at_ {r : List Int} (h : Syms r) {j : Nat} (hj : j < r.length) : -4 ≤ r[j] ∧ r[j] < 6 := h j _ (List.getElem?_eq_getElem hj)
theorem good_at' {n t : Int} {rs : List Ru} (h : goodG n t (rs.map Ru.abs) = true) {k : Nat} (hk : k < rs.length) {l : Int} {a : Option Addr} {r : List Int} {cc : Nat} (e : rs[k] = ⟨l, a, r, cc⟩) : 0 ≤ l ∧ l < 6 ∧ r.length ≤ 4 ∧ Syms r := by
  have := good_at h hk
  rw [e] at this
  exact ⟨this.l0, this.l1, this.len, this.sym⟩
theorem textR_step' {n t : Int} {rs : List Ru} {k : Nat} (hk : k < rs.length) {l : Int} {a : Option Addr} {r : List Int} {cc : Nat} (e : rs[k] = ⟨l, a, r, cc⟩) : textR n t rs (k + 1) = textR n t rs k ++ lineL (l, r) := by
  rw [textR_step hk, e]

set_option maxRecDepth 20000 in
set_option maxHeartbeats 2000000 in
theorem l2Text_any (n t : Int) (A : Option Addr) (c : Nat) (rs : List Ru) (w : World) (hx : Rls w w.heap.size A rs) (hg : goodG n t (rs.map Ru.abs) = true) :
    Calls Tryd.prog 59 #[.agg #[.int .i64 n, .int .i64 t, .slice A rs.length c]] w fun e w' => e = .returned (.string (str (textL n t (rs.map Ru.abs)))) ∧ Below w.heap.size w w' := by
  have hi := goodG_is hg
  have n1 := hi.1.1
  have n2 := hi.1.2
  have t1 := hi.2.1.1
  have t2 : t ≤ 6 := by have := hi.2.1.2; omega
  have hl16 : rs.length ≤ 16 := by simpa using hi.2.2.1
  clear hi
  have HG := Lib.hid hg; clear hg
  have HX := Lib.hid hx; clear hx
  go_enter Tryd.func59, Tryd.ntmps59
  go_wp2_with fail
  have hBA : Below w.heap.size w (w.alloc (.cells #[.int .i64 n, .int .i64 t, .slice A rs.length c] 26)) := by go_grown
  have B0 : Box3 (w.alloc (.cells #[.int .i64 n, .int .i64 t, .slice A rs.length c] 26)) w.heap.size (.int .i64 n) (.int .i64 t) (.slice A rs.length c) := ⟨by simp, by simp [go_sem], by simp [go_sem], by simp [go_sem]⟩
  generalize (w.alloc (.cells #[.int .i64 n, .int .i64 t, .slice A rs.length c] 26)) = W at hBA B0 ⊢
  obtain ⟨_, b0, b1, b2⟩ := B0
  have p0 := cell_regrown b0
  have p1 := cell_regrown b1
  have p2 := cell_regrown b2
  have HRG : Hid (∀ d os, Below w.heap.size w (grow (redrawn W d) os)) := fun d os => hBA.trans ((below_regrown W d os).mono hBA.size)
  clear b0 b1 b2 hBA
  have HCN : Hid (∀ d os, Calls Tryd.prog 104 #[.int .i64 n] (grow (redrawn W d) os) fun e w' => e = .returned (.string ⟨#[digC n]⟩) ∧ Below (grow (redrawn W d) os).heap.size (grow (redrawn W d) os) w') := fun d os => l1Num_any n _ n1 n2
  have HCT : Hid (∀ d os, Calls Tryd.prog 104 #[.int .i64 t] (grow (redrawn W d) os) fun e w' => e = .returned (.string ⟨#[digC t]⟩) ∧ Below (grow (redrawn W d) os).heap.size (grow (redrawn W d) os) w') := fun d os => l1Num_any t _ t1 t2
  refine wp_region_quiet_below (by kernel_rfl) (by kernel_rfl) ?_
  go_big_quiet_step (exact Calls.regrown_of (HCN.out _ _))
  go_big_quiet_step (exact Calls.regrown_of (HCN.out _ _))
  go_big_quiet_step (exact Calls.regrown_of (HCN.out _ _))
  go_big_quiet_step (exact Calls.regrown_of (HCN.out _ _))
  go_big_quiet_step (exact Calls.regrown_of (HCT.out _ _))
  go_big_quiet_step (exact Calls.regrown_of (HCT.out _ _))
  go_big_quiet_step (exact Calls.regrown_of (HCT.out _ _))
  go_big_quiet_step (exact Calls.regrown_of (HCT.out _ _))
  go_big_quiet_step (exact Calls.regrown_of (HCT.out _ _))
  go_big_quiet_step (exact Calls.regrown_of (HCT.out _ _))
  refine wpQuiet_nil ?_
  intro _ hw'
  obtain ⟨⟨dq, osq⟩, hw''⟩ := hw'
  subst hw''
  have q2 := p2 dq osq
  have HB1 := Lib.hid (HRG.out dq osq)
  clear p0 p1 p2 HCN HCT HRG
  go_wp2
  go_loopw [3, 20] (fun v i wr => ∃ (k : Nat) (s : ByteArray), k ≤ rs.length ∧ i = .int .i64 k ∧ v = .string s ∧ s.size ≤ 4 + 7 * k ∧ Below w.heap.size w wr ∧ Hid (s = str (textR n t rs k))) (fun _ i _ => rs.length - (intOf i).toNat)
  case atStart => exact ⟨0, _, by omega, rfl, rfl, by rw [head_str, str_size]; simp, HB1.out, by show _ = _; rw [head_str, textR_zero]⟩
  case round =>
    clear q2
    obtain ⟨k, s, hk, rfl, rfl, hs, hB, HS⟩ := hrel
    obtain ⟨wA, h⟩ : ∃ x, x = wr := ⟨_, rfl⟩
    subst h
    by_cases hlt : k < rs.length
    · obtain ⟨b, o, l, a, r, cc, rfl, hb, he, c1, c2, c3⟩ := (HX.out.keep hB).at' hlt
      have C3 := Lib.hid (c3.more hB.size); clear c3
      obtain ⟨l0, l1, hlen, hsy⟩ := good_at' HG.out hlt he
      have HSY := Lib.hid hsy; clear hsy
      have HST := Lib.hid (textR_step' (n := n) (t := t) hlt he); clear he
      go_wp2_with fail
      refine (l2Letter_any _ _ (by omega) l1).mono ?_
      rintro e w1 ⟨rfl, rfl⟩
      go_wp2
      go_loopw [3, 33] (fun v i wr => ∃ (j : Nat) (s2 : ByteArray), j ≤ r.length ∧ i = .int .i64 j ∧ v = .string s2 ∧ s2.size ≤ 4 + 7 * k + 2 + j ∧ Below w.heap.size w wr ∧ Below wA.heap.size wA wr ∧ Hid (s2 = str (textR n t rs k ++ partL l r j))) (fun _ i _ => r.length - (intOf i).toNat)
      case atStart =>
        refine ⟨0, _, by omega, rfl, rfl, ?_, hB.alloc hB.size _, by go_grown, ?_⟩
        · have e1 : (s ++ ((⟨#[letC l]⟩ : ByteArray) ++ ⟨#[61]⟩)).size = s.size + 2 := by rw [ByteArray.size_append, ByteArray.size_append]; rfl
          omega
        · show _ = _
          rw [HS.out, two_str, partL_zero]
      case round =>
        obtain ⟨j, s2, hj, rfl, rfl, hs2, hB2, hB3, HS2⟩ := hrel
        by_cases hjl : j < r.length
        · obtain ⟨b', o', rfl, hb', d1⟩ := (C3.out.keep hB3).at_ hjl
          obtain ⟨y1, y2⟩ := HSY.out.at_ hjl
          go_wp2_with fail
          refine (l2Letter_any _ _ y1 y2).mono ?_
          rintro e w1 ⟨rfl, rfl⟩
          go_wp2
          go_roundw
          case rel =>
            refine ⟨j + 1, _, by omega, by go_num, rfl, ?_, hB2, hB3, ?_⟩
            · have e1 : (s2 ++ (⟨#[letC r[j]]⟩ : ByteArray)).size = s2.size + 1 := by rw [ByteArray.size_append]; rfl
              omega
            · show _ = _
              rw [HS2.out, str_snoc, partL_step hjl, List.append_assoc]
          case measure => simp [intOf]; omega
        · obtain rfl : j = r.length := by omega
          go_wp2
          go_roundw
          case rel =>
            refine ⟨k + 1, _, by omega, by go_num, rfl, ?_, hB2, ?_⟩
            · have e1 : (s2 ++ (⟨#[10]⟩ : ByteArray)).size = s2.size + 1 := by rw [ByteArray.size_append]; rfl
              omega
            · show _ = _
              rw [HS2.out, str_snoc, HST.out, List.append_assoc, partL_all]
          case measure => simp [intOf]; omega
    · obtain rfl : k = rs.length := by omega
      have hE : str (textL n t (rs.map Ru.abs)) = s := by rw [HS.out, textR_all]
      have HE := Lib.hid hE; clear hE
      go_wp2
      go_ret
      exact ⟨by rw [HE.out]; rfl, hB⟩

set_option maxHeartbeats 400000 in
theorem specGT_any (n t : Int) (A : Option Addr) (c : Nat) (rs : List Ru) (w : World) (hx : Rls w w.heap.size A rs) (hc : rs.length ≤ c) (h1 : rs.length ≤ 1048576) (h2 : ∀ u ∈ rs, u.r.length ≤ 1048576) :
    Calls Tryd.prog 15 #[.agg #[.int .i64 n, .int .i64 t, .slice A rs.length c]] w (GaveSB w (gtS n t (rs.map Ru.abs)) (goodG n t (rs.map Ru.abs))) := by
  have HX := Lib.hid hx; clear hx
  have H2 := Lib.hid h2; clear h2
  have HB0 : Hid (Below w.heap.size w (w.alloc (.cells #[.int .i64 n, .int .i64 t, .slice A rs.length c] 26))) := by show Below _ _ _; go_grown
  have B0 : Hid (Box3 (w.alloc (.cells #[.int .i64 n, .int .i64 t, .slice A rs.length c] 26)) w.heap.size (.int .i64 n) (.int .i64 t) (.slice A rs.length c)) := ⟨by simp, by simp [go_sem], by simp [go_sem], by simp [go_sem]⟩
  cases hg : goodG n t (rs.map Ru.abs)
  · have HE := Lib.hid (gtS_f hg)
    have HG := Lib.hid hg; clear hg
    go_enter Tryd.func15, Tryd.ntmps15
    go_wp2_with fail
    refine (specGood_any _ _ _ _ _ _ ((HX.out.keep HB0.out).more HB0.out.size) hc h1 H2.out).mono ?_
    rintro e w1 ⟨rfl, hB1⟩
    rw [HG.out]
    go_wp2
    go_ret2
    exact ⟨by rw [HE.out]; rfl, HB0.out.trans (hB1.mono HB0.out.size)⟩
  have HE := Lib.hid (gtS_t hg)
  have HG := Lib.hid hg; clear hg
  go_enter Tryd.func15, Tryd.ntmps15
  go_wp2_with fail
  refine (specGood_any _ _ _ _ _ _ ((HX.out.keep HB0.out).more HB0.out.size) hc h1 H2.out).mono ?_
  rintro e w1 ⟨rfl, hB1⟩
  rw [HG.out]
  obtain ⟨_, b0, b1, b2⟩ := B0.out.keep hB1 (by simp)
  have HB1 := Lib.hid (HB0.out.trans (hB1.mono HB0.out.size)); clear hB1
  go_wp2_with fail
  refine (l2Text_any _ _ _ _ _ _ ((HX.out.keep HB1.out).more HB1.out.size) HG.out).mono ?_
  rintro e w2 ⟨rfl, hB2⟩
  go_wp2
  go_ret2
  exact ⟨by rw [HE.out]; rfl, HB1.out.trans (hB2.mono HB1.out.size)⟩

end Go.Proofs.YtacehfjhpnplbaaDoor
