/- The program's readGrammar. -/
import Derived.Test.YtaaagcokjndaoaaDoorRgI3
namespace Go.Proofs.YtaaagcokjndaoaaDoor
open Go.RowKit

theorem rightF_len {n t : Int} {s : ByteArray} : ∀ (f : Nat) (xs : List Int) (k : Nat) (ys : List Int) (k' : Nat), xs.length ≤ 4 → rightF n t s f xs k = .ok ys k' → ys.length ≤ 4
  | 0, _, _, _, _, _, h => by cases h
  | f + 1, xs, k, ys, k', hx, h => by
    by_cases h1 : chr s k = 10
    · rw [rightF_end h1] at h; injection h with h; subst h; exact hx
    · by_cases hl : xs.length = 4
      · rw [rightF_full h1 hl] at h; cases h
      · cases hs : symG n t (chr s k) with
        | none => rw [rightF_none h1 hl hs] at h; cases h
        | some x =>
          rw [rightF_some h1 hl hs] at h
          exact rightF_len f (xs ++ [x]) (k + 1) ys k' (by simp; omega) h

theorem lineF_bd {n t : Int} {s : ByteArray} {ss : List (Int × List Int)} {k k' : Nat} {u : Int × List Int} (h : lineF n t s ss k = .ok u k') : k' ≤ s.size ∧ u.2.length ≤ 4 ∧ ss.length ≠ 16 := by
  cases hG : symG n 0 (chr s k) with
  | none => rw [lineF_none hG] at h; cases h
  | some l =>
    by_cases h61 : chr s (k + 1) = 61
    · cases hr : rightF n t s 5 [] (k + 2) with
      | bad c p => rw [lineF_bad hG h61 hr] at h; cases h
      | ok xs k2 =>
        cases hh : hasU ss (l, xs) with
        | true => rw [lineF_twice hG h61 hr hh] at h; cases h
        | false =>
          by_cases h16 : ss.length = 16
          · rw [lineF_many hG h61 hr hh h16] at h; cases h
          · rw [lineF_ok hG h61 hr hh h16] at h
            injection h with h1 h2
            subst h1 h2
            have hk2 : k + 2 ≤ s.size := by have := chr_in (s := s) (k := k + 1) (by omega); omega
            have hb := rightF_bd (n := n) (t := t) (s := s) 5 [] (k + 2) hk2
            rw [hr] at hb
            exact ⟨hb.2, rightF_len 5 [] (k + 2) xs _ (by simp) hr, h16⟩
    · rw [lineF_eq hG h61] at h; cases h

theorem linesF_end {n t : Int} {s : ByteArray} {f : Nat} {ss : List (Int × List Int)} {k : Nat} (h : ¬ k < s.size) : linesF n t s (f + 1) ss k = .ok ss k := by show (if _ then _ else _) = _; rw [if_neg h]
theorem linesF_bad {n t : Int} {s : ByteArray} {f : Nat} {ss : List (Int × List Int)} {k : Nat} {c : Int} {p : Nat} (h : k < s.size) (hl : lineF n t s ss k = .bad c p) : linesF n t s (f + 1) ss k = .bad c p := by show (if _ then _ else _) = _; rw [if_pos h, hl]
theorem linesF_ok {n t : Int} {s : ByteArray} {f : Nat} {ss : List (Int × List Int)} {k : Nat} {u : Int × List Int} {k' : Nat} (h : k < s.size) (hl : lineF n t s ss k = .ok u k') : linesF n t s (f + 1) ss k = linesF n t s f (ss ++ [u]) k' := by show (if _ then _ else _) = _; rw [if_pos h, hl]

theorem textF_0 {s : ByteArray} (h : inB 1 6 (chr s 0 - 48) = false) : textF s = .bad 2 0 := by unfold textF headF; simp [h]
theorem textF_1 {s : ByteArray} (h : inB 1 6 (chr s 0 - 48) = true) (h1 : chr s 1 ≠ 32) : textF s = .bad 2 1 := by unfold textF headF; simp [h, h1]
theorem textF_2 {s : ByteArray} (h : inB 1 6 (chr s 0 - 48) = true) (h1 : chr s 1 = 32) (h2 : inB 1 4 (chr s 2 - 48) = false) : textF s = .bad 2 2 := by unfold textF headF; simp [h, h1, h2]
theorem textF_3 {s : ByteArray} (h : inB 1 6 (chr s 0 - 48) = true) (h1 : chr s 1 = 32) (h2 : inB 1 4 (chr s 2 - 48) = true) (h3 : chr s 3 ≠ 10) : textF s = .bad 2 3 := by unfold textF headF; simp [h, h1, h2, h3]
theorem textF_b {s : ByteArray} {c : Int} {p : Nat} (h : inB 1 6 (chr s 0 - 48) = true) (h1 : chr s 1 = 32) (h2 : inB 1 4 (chr s 2 - 48) = true) (h3 : chr s 3 = 10) (hl : linesF (chr s 0 - 48) (chr s 2 - 48) s 17 [] 4 = .bad c p) : textF s = .bad c p := by unfold textF headF; simp [h, h1, h2, h3, hl]
theorem textF_o {s : ByteArray} {ss : List (Int × List Int)} {k' : Nat} (h : inB 1 6 (chr s 0 - 48) = true) (h1 : chr s 1 = 32) (h2 : inB 1 4 (chr s 2 - 48) = true) (h3 : chr s 3 = 10) (hl : linesF (chr s 0 - 48) (chr s 2 - 48) s 17 [] 4 = .ok ss k') : textF s = .ok ((chr s 0 - 48, chr s 2 - 48), ss) k' := by unfold textF headF; simp [h, h1, h2, h3, hl]

/-- What readGrammar ends in. -/
def GramRead (w : World) (R lo : Nat) (s : ByteArray) (o : Out ((Int × Int) × List (Int × List Int))) (wv : Value) (e : Ending) (w' : World) : Prop :=
  Save (fun b => b = R ∨ lo ≤ b) w w' ∧ match o with
    | .ok a k' => ∃ v' ds, e = .returned (.tuple #[]) ∧ Rdr w' R s k' a.1.1 a.1.2 v' wv ∧ RulesW w' lo v' ds ∧ ds.map Ru.abs = a.2
    | .bad code p => e = .panicked [{ v := faultV code p, recovered := false }]

set_option maxRecDepth 20000 in
set_option maxHeartbeats 4000000 in
theorem readGrammar_any (R lo : Nat) (s : ByteArray) (wv : Value) (w : World) (h : Rdr w R s 0 0 0 (.slice none 0 0) wv) (hz : s.size ≤ 1048576) (hTb : Tabs w) (hR3 : 3 ≤ R) (hRlo : R < lo) (hlo : lo ≤ w.heap.size) :
    Calls Tryd.prog 43 #[.pointer (some ⟨R, 0, none⟩)] w (GramRead w R lo s (textF s) wv) := by
  have HR := Lib.hid h; clear h
  have HTb := Lib.hid hTb; clear hTb
  cases p0 : inB 1 6 (chr s 0 - 48)
  · have HE2 := Lib.hid (textF_0 p0)
    have HP := Lib.hid p0; clear p0
    go_enter Tryd.func43, Tryd.ntmps43
    go_wp2_with fail
    refine (readCount_bad R s 0 _ _ _ _ _ 0 6 (by omega) HR.out (by omega) (HTb.out.lims 0 1 rfl) (HTb.out.lims 1 6 rfl) HTb.out.lims.pos HP.out).mono ?_
    rintro e w1 ⟨rfl, hB1⟩
    go_wp2
    refine ⟨rfl, Save.of_below hB1, ?_⟩
    rw [HE2.out]
    simp
  have HP0 := Lib.hid p0; clear p0
  go_enter Tryd.func43, Tryd.ntmps43
  go_wp2_with fail
  refine (readCount_ok R s 0 _ _ _ _ _ 0 6 (by omega) HR.out hz (HTb.out.lims 0 1 rfl) (HTb.out.lims 1 6 rfl) HTb.out.lims.pos HP0.out).mono ?_
  rintro e w1 ⟨rfl, hR1, hS1⟩
  have HS1 := Lib.hid hS1; clear hS1
  have c2 : w1.cell? ⟨R, 2, none⟩ = some (.int .i64 0) := hR1.cell 2
  have f2 : w1.frozen? ⟨R, 2, none⟩ = false := hR1.frozen 2
  have HR1 := Lib.hid hR1; clear hR1
  obtain ⟨n, hn⟩ : ∃ n, n = chr s 0 - 48 := ⟨_, rfl⟩
  rw [← hn]
  have HN := Lib.hid hn; clear hn
  have HR2 : Hid (Rdr (w1.setCell ⟨R, 2, none⟩ (.int .i64 n)) R s 1 n 0 (.slice none 0 0) wv) := Row.set HR1.out 2 (.int .i64 n)
  have HS2 : Hid (Save (· = R) w (w1.setCell ⟨R, 2, none⟩ (.int .i64 n))) := Save.setCell (S := (· = R)) (p := ⟨R, 2, none⟩) HS1.out rfl _
  clear HR1 HS1
  go_wp2_with fail
  clear c2 f2
  generalize w1.setCell ⟨R, 2, none⟩ (.int .i64 n) = W2 at HR2 HS2 ⊢
  by_cases h1 : chr s 1 = 32
  · have H1 := Lib.hid h1
    refine (readByte_ok R s 1 _ _ _ _ _ 32 _ HR2.out hz (by omega) h1).mono ?_
    rintro e w3 ⟨rfl, hR3', hS3⟩
    clear h1
    have HR3 := Lib.hid hR3'; clear hR3'
    have HS3 := Lib.hid (HS2.out.trans hS3); clear hS3
    have HT3 := Lib.hid (HTb.out.saved HS3.out (fun b hb (e : b = R) => by omega))
    cases p2 : inB 1 4 (chr s 2 - 48)
    · have HE2 := Lib.hid (textF_2 HP0.out H1.out p2)
      have HP := Lib.hid p2; clear p2
      have hk2 : 2 ≤ s.size := by have := chr_in (s := s) (k := 1) (by rw [H1.out]; omega); omega
      go_wp2_with fail
      refine (readCount_bad R s 2 _ _ _ _ _ 1 4 (by omega) HR3.out hk2 (HT3.out.lims 2 1 rfl) (HT3.out.lims 3 4 rfl) HT3.out.lims.pos HP.out).mono ?_
      rintro e w4 ⟨rfl, hB4⟩
      go_wp2
      refine ⟨rfl, (HS3.out.trans (Save.of_below hB4)).more, ?_⟩
      rw [HE2.out]
      simp
    have HP2 := Lib.hid p2; clear p2
    go_wp2_with fail
    refine (readCount_ok R s 2 _ _ _ _ _ 1 4 (by omega) HR3.out hz (HT3.out.lims 2 1 rfl) (HT3.out.lims 3 4 rfl) HT3.out.lims.pos HP2.out).mono ?_
    rintro e w4 ⟨rfl, hR4, hS4⟩
    have HS4 := Lib.hid (HS3.out.trans hS4); clear hS4
    have c3 : w4.cell? ⟨R, 3, none⟩ = some (.int .i64 0) := hR4.cell 3
    have f3 : w4.frozen? ⟨R, 3, none⟩ = false := hR4.frozen 3
    have HR4 := Lib.hid hR4; clear hR4
    obtain ⟨t, ht⟩ : ∃ t, t = chr s 2 - 48 := ⟨_, rfl⟩
    rw [← ht]
    have HT := Lib.hid ht; clear ht
    have HR5 : Hid (Rdr (w4.setCell ⟨R, 3, none⟩ (.int .i64 t)) R s 3 n t (.slice none 0 0) wv) := Row.set HR4.out 3 (.int .i64 t)
    have HS5 : Hid (Save (· = R) w (w4.setCell ⟨R, 3, none⟩ (.int .i64 t))) := Save.setCell (S := (· = R)) (p := ⟨R, 3, none⟩) HS4.out rfl _
    clear HR4 HS4
    go_wp2_with fail
    clear c3 f3
    generalize w4.setCell ⟨R, 3, none⟩ (.int .i64 t) = W5 at HR5 HS5 ⊢
    by_cases h3 : chr s 3 = 10
    · have H3 := Lib.hid h3
      refine (readByte_ok R s 3 _ _ _ _ _ 10 _ HR5.out hz (by omega) h3).mono ?_
      rintro e w6 ⟨rfl, hR6, hS6⟩
      clear h3
      have hk4 : 4 ≤ s.size := by have := chr_in (s := s) (k := 3) (by rw [H3.out]; omega); omega
      have HR6 := Lib.hid hR6; clear hR6
      have HS6 := Lib.hid (HS5.out.trans hS6); clear hS6
      clear HR5 HS5 HR3 HS3 HT3 HR2 HS2
      go_wp2
      go_loopg [19] 17 (fun g _ wr => ∃ (k : Nat) (ds : List Ru) (v : Value), g + ds.length = 17 ∧ ds.length ≤ 16 ∧ k ≤ s.size ∧ Hid (Rdr wr R s k n t v wv) ∧ Hid (RulesW wr lo v ds) ∧ Hid (Save (fun b => b = R ∨ lo ≤ b) w wr) ∧ Hid (∀ u ∈ ds, u.r.length ≤ 4) ∧ Hid (linesF n t s 17 [] 4 = linesF n t s g (ds.map Ru.abs) k))
      case atStart => exact ⟨4, [], .slice none 0 0, rfl, by simp, hk4, HR6.out, RulesW.start _ _, HS6.out.more, (fun u hu => by simp at hu), rfl⟩
      case round =>
        clear HR6 HS6
        obtain ⟨k, ds, v, hg, hdl, hk, HRk, HRU, HS, HD4, HE⟩ := hrel
        have HTk : Hid (Tabs wr) := HTb.out.saved HS.out (fun b hb e => by omega)
        obtain ⟨f, hf⟩ : ∃ f, gk = f + 1 := ⟨gk - 1, by omega⟩
        by_cases hlt : k < s.size
        · have hne := neq_end (chr_nn hlt)
          cases hl : lineF n t s (ds.map Ru.abs) k with
          | bad c p =>
            have HE2 : Hid (textF s = .bad c p) := by
              show _ = _
              refine textF_b HP0.out H1.out HP2.out H3.out ?_
              rw [← HN.out, ← HT.out, HE.out, hf]
              exact linesF_bad hlt hl
            have HLL := Lib.hid hl; clear hl hf HE
            go_wp2_with fail
            refine (next_any _ _ _ _ _ _ _ _ HRk.out hk).mono ?_
            rintro e w7 ⟨rfl, hB7⟩
            have HB7 := Lib.hid hB7; clear hB7
            go_wp2_with fail
            refine (readLine_any R lo s k n t v wv ds _ (HRk.out.below HB7.out (Nat.le_refl _)) (HRU.out.keep HB7.out) hlt hz (HTk.out.keep HB7.out) hR3 hRlo (by have := HS.out.size; have := HB7.out.size; omega) hdl (fun u hu => by have := HD4.out u hu; omega) (fun xs k' h => rightF_len 5 [] _ xs k' (by simp) h)).mono ?_
            rw [HLL.out]
            rintro e w8 ⟨hS8, rfl⟩
            go_wp2
            refine ⟨rfl, HS.out.trans ((Save.of_below HB7.out).trans hS8), ?_⟩
            rw [HE2.out]
          | ok u k' =>
            obtain ⟨hk', hu4, hn16⟩ := lineF_bd hl
            rw [List.length_map] at hn16
            have hd16 : ds.length < 16 := by omega
            have HE2 : Hid (linesF n t s 17 [] 4 = linesF n t s f (ds.map Ru.abs ++ [u]) k') := by
              show _ = _
              rw [HE.out, hf]
              exact linesF_ok hlt hl
            have HLL := Lib.hid hl; clear hl HE hn16
            go_wp2_with fail
            refine (next_any _ _ _ _ _ _ _ _ HRk.out hk).mono ?_
            rintro e w7 ⟨rfl, hB7⟩
            have HB7 := Lib.hid hB7; clear hB7
            go_wp2_with fail
            refine (readLine_any R lo s k n t v wv ds _ (HRk.out.below HB7.out (Nat.le_refl _)) (HRU.out.keep HB7.out) hlt hz (HTk.out.keep HB7.out) hR3 hRlo (by have := HS.out.size; have := HB7.out.size; omega) hdl (fun u hu => by have := HD4.out u hu; omega) (fun xs k' h => rightF_len 5 [] _ xs k' (by simp) h)).mono ?_
            rw [HLL.out]
            rintro e w8 ⟨hS8, v', A', c', rfl, hR8, hRU8⟩
            have HR8 := Lib.hid hR8; clear hR8
            have HRU8 := Lib.hid hRU8; clear hRU8
            have HS8 := Lib.hid (HS.out.trans ((Save.of_below HB7.out).trans hS8)); clear hS8
            go_wp2
            go_roundg f
            case measure => omega
            case rel =>
              refine ⟨k', ds ++ [Ru.mk u.1 A' u.2 c'], v', by simp; omega, by simp; omega, hk', HR8, HRU8, HS8, ?_, ?_⟩
              · intro x hx
                rcases List.mem_append.1 hx with h | h
                · exact HD4.out x h
                · simp at h; subst h; exact hu4
              · show _ = _
                rw [HE2.out, List.map_append]
                rfl
        · have hce : chr s k = -1 := chr_end hlt
          have HE2 : Hid (textF s = .ok ((chr s 0 - 48, chr s 2 - 48), ds.map Ru.abs) k) := by
            show _ = _
            refine textF_o HP0.out H1.out HP2.out H3.out ?_
            rw [← HN.out, ← HT.out, HE.out, hf]
            exact linesF_end hlt
          clear hf HE
          go_wp2_with fail
          refine (next_any _ _ _ _ _ _ _ _ HRk.out hk).mono ?_
          rintro e w7 ⟨rfl, hB7⟩
          have HB7 := Lib.hid hB7; clear hB7
          go_wp2
          go_end0
          refine ⟨HS.out.trans (Save.of_below HB7.out), ?_⟩
          rw [HE2.out]
          refine ⟨v, ds, rfl, ?_, HRU.out.keep HB7.out, rfl⟩
          rw [← HN.out, ← HT.out]
          exact HRk.out.below HB7.out (Nat.le_refl _)
    · have HE2 := Lib.hid (textF_3 HP0.out H1.out HP2.out h3)
      have hk3 : 3 ≤ s.size := by have := chr_in (s := s) (k := 2) (by have := inB_lo HP2.out; omega); omega
      refine (readByte_bad R s 3 _ _ _ _ _ 10 _ HR5.out hk3 h3).mono ?_
      rintro e w6 ⟨rfl, hB6⟩
      go_wp2
      refine ⟨rfl, (HS5.out.trans (Save.of_below hB6)).more, ?_⟩
      rw [HE2.out]
      simp
  · have HE2 := Lib.hid (textF_1 HP0.out h1)
    have hk1 : 1 ≤ s.size := by have := chr_in (s := s) (k := 0) (by have := inB_lo HP0.out; omega); omega
    refine (readByte_bad R s 1 _ _ _ _ _ 32 _ HR2.out hk1 h1).mono ?_
    rintro e w3 ⟨rfl, hB3⟩
    go_wp2
    refine ⟨rfl, (HS2.out.trans (Save.of_below hB3)).more, ?_⟩
    rw [HE2.out]
    simp

end Go.Proofs.YtaaagcokjndaoaaDoor
