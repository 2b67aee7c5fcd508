/- The program's readRight. -/
import Derived.Test.YtaaagcokjndaoaaDoorRgI1
namespace Go.Proofs.YtaaagcokjndaoaaDoor
open Go.RowKit

/-- The tables, in a world in which the reader's block has turned. -/
theorem Lims.saved {S : Nat → Prop} {w w' : World} (h : Lims w) (hs : Save S w w') (hg : ¬ S 2) : Lims w' := fun k v hk => (World.cell?_of_block (hs.block _ h.pos hg)).trans (h k v hk)
theorem NonT.saved {S : Nat → Prop} {w w' : World} (h : NonT w) (hs : Save S w w') (hg : ¬ S 1) : NonT w' := fun k v hk => (World.cell?_of_block (hs.block _ h.pos hg)).trans (h k v hk)
theorem TokT.saved {S : Nat → Prop} {w w' : World} (h : TokT w) (hs : Save S w w') (hg : ¬ S 0) : TokT w' := fun k v hk => (World.cell?_of_block (hs.block _ h.pos hg)).trans (h k v hk)
/-- The three tables. -/
structure Tabs (w : World) : Prop where
  lims : Lims w
  non : NonT w
  tok : TokT w
theorem Tabs.keep {w w' : World} (h : Tabs w) (hb : Below w.heap.size w w') : Tabs w' := ⟨h.lims.keep hb (Nat.le_refl _), h.non.keep hb (Nat.le_refl _), h.tok.keep hb (Nat.le_refl _)⟩
theorem Tabs.saved {S : Nat → Prop} {w w' : World} (h : Tabs w) (hs : Save S w w') (hg : ∀ b, b < 3 → ¬ S b) : Tabs w' := ⟨h.lims.saved hs (hg _ (by decide)), h.non.saved hs (hg _ (by decide)), h.tok.saved hs (hg _ (by decide))⟩

/-- What readRight ends in. -/
def RightRead (w : World) (R : Nat) (s : ByteArray) (o : Out (List Int)) (n t : Int) (rv wv : Value) (e : Ending) (w' : World) : Prop :=
  Save (· = R) w w' ∧ match o with
    | .ok xs k' => ∃ A c, e = .returned (.slice A xs.length c) ∧ Rdr w' R s k' n t rv wv ∧ OwnI w' w.heap.size A xs
    | .bad code p => e = .panicked [{ v := faultV code p, recovered := false }]

set_option maxRecDepth 20000 in
set_option maxHeartbeats 4000000 in
theorem readRight_any (R : Nat) (s : ByteArray) (k : Nat) (n t : Int) (Ar : Option Addr) (m c : Nat) (wv : Value) (w : World) (h : Rdr w R s k n t (.slice Ar m c) wv) (hk : k ≤ s.size) (hz : s.size ≤ 1048576) (hTb : Tabs w) (hR3 : 3 ≤ R) :
    Calls Tryd.prog 97 #[.pointer (some ⟨R, 0, none⟩)] w (RightRead w R s (rightF n t s 5 [] k) n t (.slice Ar m c) wv) := by
  obtain ⟨i0, hi0, hz0, hz1, hz2⟩ := info_of Tryd.infoInt
  have hRlt := Row.lt h
  have HR := Lib.hid h; clear h
  have HTb := Lib.hid hTb; clear hTb
  go_enter Tryd.func97, Tryd.ntmps97
  go_wp2
  go_loopg [3] 5 (fun g v wr => ∃ (k2 : Nat) (xs : List Int), g + xs.length = 5 ∧ xs.length ≤ 4 ∧ k2 ≤ s.size ∧ Hid (Rdr wr R s k2 n t (.slice Ar m c) wv) ∧ Hid (wr.ownsRow w.heap.size 3 1 v xs.length (xs.map fun y => Value.int .i64 y)) ∧ Hid (Save (· = R) w wr) ∧ Hid (rightF n t s 5 [] k = rightF n t s g xs k2))
  case atStart => exact ⟨k, [], rfl, by simp, hk, HR.out, ⟨rfl, .inl ⟨rfl, rfl⟩⟩, Save.refl _ _, rfl⟩
  case round =>
    obtain ⟨k2, xs, hg, hxl, hk2, HRk, HO, HS, HE⟩ := hrel
    have HTk : Hid (Tabs wr) := HTb.out.saved HS.out (fun b hb (e : b = R) => by omega)
    obtain ⟨f, hf⟩ : ∃ f, gk = f + 1 := ⟨gk - 1, by omega⟩
    have hbd := chr_bd s k2
    by_cases h10 : chr s k2 = 10
    · have HE2 : Hid (rightF n t s 5 [] k = .ok xs (k2 + 1)) := by show _ = _; rw [HE.out, hf]; exact rightF_end h10
      have hlt : k2 < s.size := chr_in (by omega)
      have hne : (chr s k2 != 10) = false := by simp; exact h10
      clear h10 HE hf
      obtain ⟨Av, cv, hv, hOI⟩ := ownI_of_row HO.out
      subst hv
      have HOI := Lib.hid hOI; clear hOI
      go_wp2_with fail
      refine (next_any _ _ _ _ _ _ _ _ HRk.out hk2).mono ?_
      rintro e w1 ⟨rfl, hB1⟩
      have HB1 := Lib.hid hB1; clear hB1
      have HR1 := Lib.hid (HRk.out.below HB1.out (Nat.le_refl _))
      have c1 : w1.cell? ⟨R, 1, none⟩ = some (.int .i64 (k2 : Int)) := HR1.out.cell 1
      have f1 : w1.frozen? ⟨R, 1, none⟩ = false := HR1.out.frozen 1
      go_wp2
      go_ret
      refine ⟨Save.setCell (S := (· = R)) (p := ⟨R, 1, none⟩) (HS.out.trans (Save.of_below HB1.out)) rfl _, ?_⟩
      rw [HE2.out]
      exact ⟨Av, cv, rfl, HR1.out.set 1 (.int .i64 ((k2 : Int) + 1)), (HOI.out.below HB1.out (Nat.le_refl _)).low (p := ⟨R, 1, none⟩) hRlt _⟩
    · have hne : (chr s k2 != 10) = true := by simp; exact h10
      by_cases h4 : xs.length = 4
      · have HE2 : Hid (rightF n t s 5 [] k = .bad 4 k2) := by show _ = _; rw [HE.out, hf]; exact rightF_full h10 h4
        have HI : Hid (inB 0 4 ((xs.length : Int) + 1) = false) := inB_f (by omega)
        clear h10 HE hf h4
        obtain ⟨Av, cv, hv⟩ := own_slice HO.out
        subst hv
        go_wp2_with fail
        refine (next_any _ _ _ _ _ _ _ _ HRk.out hk2).mono ?_
        rintro e w1 ⟨rfl, hB1⟩
        have HB1 := Lib.hid hB1; clear hB1
        go_wp2_with fail
        refine (within3 _ _ (HTk.out.keep HB1.out).lims).mono ?_
        rintro e w2 ⟨rfl, hB2⟩
        rw [HI.out]
        have HB2 := Lib.hid (HB1.out.trans (hB2.mono HB1.out.size)); clear hB2
        have c1 : w2.cell? ⟨R, 1, none⟩ = some (.int .i64 (k2 : Int)) := (HRk.out.below HB2.out (Nat.le_refl _)).cell 1
        go_wp2_with fail
        refine (giveUp_any _ _ _ _).mono ?_
        rintro e w3 ⟨rfl, rfl⟩
        go_wp2
        refine ⟨rfl, HS.out.trans (Save.of_below HB2.out), ?_⟩
        rw [HE2.out]
      · have HI : Hid (inB 0 4 ((xs.length : Int) + 1) = true) := inB_t (by omega) (by omega)
        rcases symG_cases n t (chr s k2) with ⟨hs, hG⟩ | ⟨x, hs, hp, hG⟩ | ⟨x, hs, hp, hG⟩
        · have HE2 : Hid (rightF n t s 5 [] k = .bad 3 k2) := by show _ = _; rw [HE.out, hf]; exact rightF_none h10 h4 hG
          have HSY := Lib.hid hs; clear hs hG
          clear h10 HE hf h4
          obtain ⟨Av, cv, hv⟩ := own_slice HO.out
          subst hv
          go_wp2_with fail
          refine (next_any _ _ _ _ _ _ _ _ HRk.out hk2).mono ?_
          rintro e w1 ⟨rfl, hB1⟩
          have HB1 := Lib.hid hB1; clear hB1
          go_wp2_with fail
          refine (within3 _ _ (HTk.out.keep HB1.out).lims).mono ?_
          rintro e w2 ⟨rfl, hB2⟩
          rw [HI.out]
          have HB2 := Lib.hid (HB1.out.trans (hB2.mono HB1.out.size)); clear hB2
          go_wp2_with fail
          refine (readSymS_none _ _ _ _ _ _ _ _ _ _ (HRk.out.below HB2.out (Nat.le_refl _)) hk2 (HTk.out.keep HB2.out).non (HTk.out.keep HB2.out).tok HSY.out).mono ?_
          rintro e w3 ⟨rfl, hB3⟩
          go_wp2
          refine ⟨rfl, HS.out.trans (Save.of_below (HB2.out.trans (hB3.mono HB2.out.size))), ?_⟩
          rw [HE2.out]
        · have HE2 : Hid (rightF n t s 5 [] k = .bad 3 k2) := by show _ = _; rw [HE.out, hf]; exact rightF_none h10 h4 hG
          have HSY := Lib.hid hs; clear hs hG
          have HP := Lib.hid hp; clear hp
          clear h10 HE hf h4
          obtain ⟨Av, cv, hv⟩ := own_slice HO.out
          subst hv
          go_wp2_with fail
          refine (next_any _ _ _ _ _ _ _ _ HRk.out hk2).mono ?_
          rintro e w1 ⟨rfl, hB1⟩
          have HB1 := Lib.hid hB1; clear hB1
          go_wp2_with fail
          refine (within3 _ _ (HTk.out.keep HB1.out).lims).mono ?_
          rintro e w2 ⟨rfl, hB2⟩
          rw [HI.out]
          have HB2 := Lib.hid (HB1.out.trans (hB2.mono HB1.out.size)); clear hB2
          go_wp2_with fail
          refine (readSymS_bad _ _ _ _ _ _ _ _ _ _ (HRk.out.below HB2.out (Nat.le_refl _)) hk2 (HTk.out.keep HB2.out).non (HTk.out.keep HB2.out).tok HSY.out HP.out).mono ?_
          rintro e w3 ⟨rfl, hB3⟩
          go_wp2
          refine ⟨rfl, HS.out.trans (Save.of_below (HB2.out.trans (hB3.mono HB2.out.size))), ?_⟩
          rw [HE2.out]
        · have HE2 : Hid (rightF n t s 5 [] k = rightF n t s f (xs ++ [x]) (k2 + 1)) := by show _ = _; rw [HE.out, hf]; exact rightF_some h10 h4 hG
          have hlt := symN_lt hs
          have HSY := Lib.hid hs; clear hs hG
          have HP := Lib.hid hp; clear hp
          have hxl2 : xs.length < 4 := by omega
          clear h10 HE h4
          obtain ⟨Av, cv, hv⟩ := own_slice HO.out
          subst hv
          go_wp2_with fail
          refine (next_any _ _ _ _ _ _ _ _ HRk.out hk2).mono ?_
          rintro e w1 ⟨rfl, hB1⟩
          have HB1 := Lib.hid hB1; clear hB1
          go_wp2_with fail
          refine (within3 _ _ (HTk.out.keep HB1.out).lims).mono ?_
          rintro e w2 ⟨rfl, hB2⟩
          rw [HI.out]
          have HB2 := Lib.hid (HB1.out.trans (hB2.mono HB1.out.size)); clear hB2
          go_wp2_with fail
          refine (readSymS_ok _ _ _ _ _ _ _ _ _ _ (HRk.out.below HB2.out (Nat.le_refl _)) hz (HTk.out.keep HB2.out).non (HTk.out.keep HB2.out).tok HSY.out HP.out).mono ?_
          rintro e w3 ⟨rfl, hR3', hS3⟩
          have HR3 := Lib.hid hR3'; clear hR3'
          have HS3 := Lib.hid ((Save.of_below (S := (· = R)) HB2.out).trans hS3); clear hS3
          have HO3 := Lib.hid (ownsRow_save HO.out HS3.out (fun b hb (hS : b = R) => by omega))
          have HSw := Lib.hid (HS.out.trans HS3.out)
          have hsz3 := HSw.out.size
          have hown := HO3.out.alloc (.cells #[.int .i64 x] 3)
          have HWn := Lib.hid hown; clear hown
          have hnew := cell_one_new w3 (.int .i64 x) 3
          have HNW := Lib.hid hnew; clear hnew
          have HNE := Lib.hid (own_far HO3.out hRlt)
          go_wp2_with (at_builtin
                       refine wpList_append_own _ rfl (.tmp 18) (.tmp 21) _ rfl w.heap.size 3 i0 _ 1 8 Tryd.underlying34 hi0 hz0 hz1 hz2 rfl (by omega) _ _ _ rfl HWn.out ⟨w3.heap.size, 0, none⟩ 1 1 [.int .i64 x] rfl rfl HNW.out (by intro u hu; simp at hu; subst hu; rfl) (by unfold maxLen; omega) (by omega) (by simp; omega) ?_
                       intro v' w' h1 h2 h3
                       have HO1 := Lib.hid h1
                       have HG1 := Lib.hid h2
                       clear h1 h2 h3)
          go_roundg f
          case measure => omega
          case rel =>
            refine ⟨k2 + 1, xs ++ [x], by simp; omega, by simp; omega, by omega, ?_, ?_, ?_, HE2.out⟩
            · show Rdr _ _ _ _ _ _ _ _
              exact (HG1.out.block R (by simp; omega) HNE.out).trans (Row.alloc HR3.out _)
            · show World.ownsRow _ _ _ _ _ _ _
              simpa using HO1.out
            · exact (HSw.out.trans (Save.of_below (by go_grown))).grown HG1.out fun j hj => (HO3.out.lt j hj).1

end Go.Proofs.YtaaagcokjndaoaaDoor
