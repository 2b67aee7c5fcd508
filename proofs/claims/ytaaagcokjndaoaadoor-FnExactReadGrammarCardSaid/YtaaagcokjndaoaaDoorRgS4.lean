/- The reference's line. -/
import Derived.Test.YtaaagcokjndaoaaDoorRgS3
import Derived.Deep.RegionHeld3
namespace Go.Proofs.YtaaagcokjndaoaaDoor
open Go.RowKit

/-- What line ends in. -/
def Line2 (w : World) (R lo : Nat) (s : ByteArray) (o : Out (Int × List Int)) (cd n t : Int) (ds : List Ru) (e : Ending) (w' : World) : Prop :=
  Save (fun b => b = R ∨ lo ≤ b) w w' ∧ match o with
    | .ok u k' => e = .returned (.bool true) ∧ ∃ v' A c, Rd2 w' R s (k' : Int) cd n t v' ∧ RulesW w' lo v' (ds ++ [⟨u.1, A, u.2, c⟩])
    | .bad code p => e = .returned (.bool false) ∧ ∃ v, Rd2 w' R s (p : Int) code n t v

/-- Blocks that came later may turn. -/
theorem RulesW.saveB {S : Nat → Prop} {w w' : World} {lo : Nat} {v : Value} {ds : List Ru} (h : RulesW w lo v ds) (hs : Save S w w') (hS : ∀ b, lo ≤ b → b < w.heap.size → ¬ S b) : RulesW w' lo v ds := by
  refine ⟨?_, fun j x hx => ?_, h.far⟩
  · obtain ⟨hl, h1 | ⟨g, cap, cur, e1, hlo, hg, e2, e3, e4, e5⟩⟩ := h.row
    · exact ⟨hl, .inl h1⟩
    · exact ⟨hl, .inr ⟨g, cap, cur, e1, hlo, (hs.block g (Row.lt hg) (hS g hlo (Row.lt hg))).trans hg, e2, e3, e4, e5⟩⟩
  · refine (h.rts j x hx).save hs fun g e hn => ?_
    rcases h.rts j x hx with h6 | ⟨g1, _, e1, hl, hr, _⟩
    · exact absurd h6 hn
    · have := e.symm.trans e1
      injection this with this
      injection this with this
      subst this
      exact hS g hl hr.lt

theorem symG_end {n t : Int} {s : ByteArray} {k : Nat} (h : ¬ k < s.size) : symG n t (chr s k) = none := by
  rw [chr_end h]
  rfl

set_option maxRecDepth 20000 in
set_option maxHeartbeats 4000000 in
theorem line_any (R lo : Nat) (s : ByteArray) (k : Nat) (cd n t : Int) (Av : Option Addr) (cv : Nat) (ds : List Ru) (w : World) (h : Rd2 w R s (k : Int) cd n t (.slice Av ds.length cv)) (hRu : RulesW w lo (.slice Av ds.length cv) ds) (hk : k < s.size) (hz : s.size ≤ 1048576)
    (n0 : 0 ≤ n) (n6 : n ≤ 6) (t0 : 0 ≤ t) (t4 : t ≤ 4) (hRlo : R < lo) (hlo : lo ≤ w.heap.size) (hdl : ds.length ≤ 16) :
    Calls Tryd.prog 50 #[.pointer (some ⟨R, 0, none⟩)] w (Line2 w R lo s (lineF n t s (ds.map Ru.abs) k) cd n t ds) := by
  obtain ⟨i0, hi0, hz0, hz1, hz2⟩ := info_of Tryd.infoRule
  obtain ⟨j0, hj0, hy0, hy1, hy2⟩ := info_of Tryd.infoInt
  have HRU := Lib.hid hRu; clear hRu
  have HR := Lib.hid h; clear h
  have c0 : w.cell? ⟨R, 0, none⟩ = some (.string s) := HR.out.cell 0
  have c1 : w.cell? ⟨R, 1, none⟩ = some (.int .i64 (k : Int)) := HR.out.cell 1
  have c3 : w.cell? ⟨R, 3, none⟩ = some (.int .i64 n) := HR.out.cell 3
  cases hG : symG n 0 (chr s k) with
  | none =>
    have HE := Lib.hid (lineF_none (t := t) (ss := ds.map Ru.abs) hG)
    have HSG : Hid (symG n 0 (s[k].toNat : Int) = none) := by show _ = _; rw [← chr_at hk]; exact hG
    clear hG
    go_enter Tryd.func50, Tryd.ntmps50
    go_wp2
    go_quiet (exact (l2Symbol_any n 0 _ _ n0 n6 (by omega) (by omega)).mono fun _ _ h => ⟨h.1, _, h.2.symm⟩)
    rw [HSG.out]
    have HR1 : Hid (Rd2 (w.drewN nq) R s (k : Int) cd n t (.slice Av ds.length cv)) := HR.out
    go_wp2_with fail
    refine (fault_any _ _ _ _ _ _ _ _ _ _ HR1.out).mono ?_
    rintro e w2 ⟨rfl, hR2, hS2⟩
    go_wp2
    go_ret
    refine ⟨((Save.of_below (below_drewN (Below.refl _ _) _)).trans hS2).more, ?_⟩
    rw [HE.out]
    exact ⟨rfl, _, hR2⟩
  | some l =>
    have HG := Lib.hid hG
    have HSG : Hid (symG n 0 (s[k].toNat : Int) = some l) := by show _ = _; rw [← chr_at hk]; exact hG
    clear hG
    have f1 : w.frozen? ⟨R, 1, none⟩ = false := HR.out.frozen 1
    go_enter Tryd.func50, Tryd.ntmps50
    go_wp2
    go_quiet (exact (l2Symbol_any n 0 _ _ n0 n6 (by omega) (by omega)).mono fun _ _ h => ⟨h.1, _, h.2.symm⟩)
    rw [HSG.out]
    have HR1 : Hid (Rd2 ((w.drewN nq).setCell ⟨R, 1, none⟩ (.int .i64 ((k : Int) + 1))) R s ((k + 1 : Nat) : Int) cd n t (.slice Av ds.length cv)) := Row.set (w := w.drewN nq) HR.out 1 (.int .i64 ((k : Int) + 1))
    have HS1 : Hid (Save (· = R) w ((w.drewN nq).setCell ⟨R, 1, none⟩ (.int .i64 ((k : Int) + 1)))) := Save.setCell (S := (· = R)) (p := ⟨R, 1, none⟩) (Save.of_below (below_drewN (Below.refl _ _) _)) rfl _
    go_wp2_with fail
    clear c0 c1 c3 f1
    generalize (w.drewN nq).setCell ⟨R, 1, none⟩ (.int .i64 ((k : Int) + 1)) = W1 at HR1 HS1 ⊢
    by_cases h61 : chr s (k + 1) = 61
    · have HQ := Lib.hid h61
      refine (is_ok R s (k + 1) _ _ _ _ _ 61 HR1.out hz h61 (by omega)).mono ?_
      rintro e w2 ⟨rfl, hR2, hS2⟩
      have hk2 : k + 2 ≤ s.size := by have := chr_in (s := s) (k := k + 1) (by omega); omega
      clear h61
      have HR2 := Lib.hid hR2; clear hR2
      have HS2 := Lib.hid (HS1.out.trans hS2); clear hS2 HS1 HR1
      have HRU2 := Lib.hid (HRU.out.save HS2.out (fun b hb (e : b = R) => by omega))
      have hsz2 := HS2.out.size
      have hRl2 := Row.lt HR2.out
      have HBX0 := Lib.hid (Row.new w2 61 #[.int .i64 l, .slice none 0 0])
      have HRX0 : Hid (Rd2 (w2.alloc (.cells #[.int .i64 l, .slice none 0 0] 61)) R s ((k + 2 : Nat) : Int) cd n t (.slice Av ds.length cv)) := Row.alloc HR2.out _
      have HSX0 : Hid (Save (fun b => b = R ∨ w2.heap.size ≤ b) w2 (w2.alloc (.cells #[.int .i64 l, .slice none 0 0] 61))) := Save.of_below (by go_grown)
      go_wp2
      go_loopg [7] 5 (fun g _ wr => ∃ (k2 : Nat) (xs : List Int) (v : Value), g + xs.length = 5 ∧ xs.length ≤ 4 ∧ k2 ≤ s.size ∧ Hid (Rd2 wr R s (k2 : Int) cd n t (.slice Av ds.length cv)) ∧ Hid (Row wr w2.heap.size 61 #[.int .i64 l, v]) ∧ Hid (wr.ownsRow (w2.heap.size + 1) 3 1 v xs.length (xs.map fun y => Value.int .i64 y)) ∧ Hid (Save (fun b => b = R ∨ w2.heap.size ≤ b) w2 wr) ∧ Hid (rightF n t s 5 [] (k + 2) = rightF n t s g xs k2))
      case atStart => exact ⟨k + 2, [], .slice none 0 0, rfl, by simp, hk2, HRX0.out, HBX0.out, ⟨rfl, .inl ⟨rfl, rfl⟩⟩, HSX0.out, rfl⟩
      case round =>
        clear HBX0 HRX0 HSX0
        obtain ⟨k2, xs, v, hg, hxl, hkk, HRk, HBX, HO, HS, HE⟩ := hrel
        obtain ⟨f, hf⟩ : ∃ f, gk = f + 1 := ⟨gk - 1, by omega⟩
        have hbd := chr_bd s k2
        obtain ⟨Ax, cx, hv⟩ := own_slice HO.out
        subst hv
        have hBl := HBX.out.lt
        by_cases h10 : chr s k2 = 10
        · have HE2 : Hid (rightF n t s 5 [] (k + 2) = .ok xs (k2 + 1)) := by show _ = _; rw [HE.out, hf]; exact rightF_end h10
          clear HE hf
          go_wp2_with fail
          refine (is_ok R s k2 _ _ _ _ _ 10 HRk.out hz h10 (by omega)).mono ?_
          rintro e w3 ⟨rfl, hR3, hS3⟩
          clear h10
          have HR3 := Lib.hid hR3; clear hR3
          have HS3 := Lib.hid (HS.out.trans (hS3.wider fun _ e => .inl e))
          have HBX3 := Lib.hid (HBX.out.save hS3 (fun e : w2.heap.size = R => by omega))
          have HO3 := Lib.hid (ownsRow_save HO.out hS3 (fun b hb (e : b = R) => by omega))
          clear hS3 HRk HBX HO HS
          have HRU3 := Lib.hid (HRU2.out.saveB HS3.out (fun b hb hb2 e => by omega))
          obtain ⟨Ax', cx', e3, hOI⟩ := ownI_of_row HO3.out
          injection e3 with e4 e5 e6
          subst e4 e6
          clear e5
          have HOI := Lib.hid hOI; clear hOI
          have hsz3 := HS3.out.size
          have hB3 := HBX3.out.lt
          have r5 : w3.cell? ⟨R, 5, none⟩ = some (.slice Av ds.length cv) := HR3.out.cell 5
          have b0 : w3.cell? ⟨w2.heap.size, 0, none⟩ = some (.int .i64 l) := HBX3.out.cell 0
          have b1 : w3.cell? ⟨w2.heap.size, 1, none⟩ = some (.slice Ax xs.length cx) := HBX3.out.cell 1
          have HOW : Hid (∀ b, (Value.slice Av ds.length cv).ownBlock = some b → lo ≤ b ∧ b < w2.heap.size) := fun b e => HRU2.out.row.lt b e
          have HSAVE : Hid (Save (fun b => b = R ∨ lo ≤ b) w w3) := (HS2.out.wider fun _ e => .inl e).trans (HS3.out.wider fun b e => by rcases e with e | e <;> omega)
          cases hh : hasU (ds.map Ru.abs) (l, xs)
          all_goals
            have HH := Lib.hid hh; clear hh
          · have HPN := Lib.hid (putN_f HH.out)
            have hne : ((ds.length : Int) + 1 == (ds.length : Int)) = false := by simp; omega
            go_wp2_with fail
            go_region_held3 (fun w' => w'.cell? ⟨R, 5, none⟩ = some (.slice Av ds.length cv) ∧ w'.cell? ⟨w2.heap.size, 0, none⟩ = some (.int .i64 l) ∧ w'.cell? ⟨w2.heap.size, 1, none⟩ = some (.slice Ax xs.length cx))
              (first | exact ⟨y5, y0, y1⟩ | exact ⟨r5, b0, b1⟩)
              ((go_at_call 83
                refine (l1Put2_any lo Av cv ds l Ax xs cx _ ?_ ?_ ?_ hdl (by omega)).mono ?_
                · exact HRU3.out.keep (by go_grown)
                · exact HOI.out.ints.keep (by go_grown)
                · show lo ≤ w3.heap.size
                  omega
                rw [HPN.out]
                rintro e w4 ⟨A4, c4, rfl, hRU4, hg4'⟩
                have hg4 : w3.grownBy w4 (Value.slice Av ds.length cv).ownBlock := (grownBy_of_below (by go_grown) _).trans hg4'
                have HR4 : Hid (Rd2 w4 R s ((k2 + 1 : Nat) : Int) cd n t (.slice Av ds.length cv)) := (hg4.block R (by omega) (fun e => by have := HOW.out R e.symm; omega)).trans HR3.out
                have HBX4 : Hid (Row w4 w2.heap.size 61 #[.int .i64 l, .slice Ax xs.length cx]) := (hg4.block w2.heap.size (by omega) (fun e => by have := HOW.out _ e.symm; omega)).trans HBX3.out
                have y5 : w4.cell? ⟨R, 5, none⟩ = some (.slice Av ds.length cv) := HR4.out.cell 5
                have y0 : w4.cell? ⟨w2.heap.size, 0, none⟩ = some (.int .i64 l) := HBX4.out.cell 0
                have y1 : w4.cell? ⟨w2.heap.size, 1, none⟩ = some (.slice Ax xs.length cx) := HBX4.out.cell 1
                have HRU4 := Lib.hid hRU4
                have HG4 := Lib.hid hg4
                clear hRU4 hg4 hg4'))
            rename_i hHeld
            clear hHeld r5 b0 b1
            have HS4 : Hid (Save (fun b => b = R ∨ lo ≤ b) w w4) := HSAVE.out.grownS HG4.out fun j hj => .inr (HOW.out j hj).1
            have HOI4 := Lib.hid (HOI.out.grown HRU3.out.row HG4.out)
            have HAP := Lib.hid (HRU2.out.apart (HOI4.out.lower (by omega)))
            have hsz4 := HG4.out.size
            clear HG4 HOI
            by_cases h16 : ds.length = 16
            · have HE3 := Lib.hid (lineF_many HG.out HQ.out HE2.out HH.out (by rw [List.length_map]; exact h16))
              have h16' : ((ds.length : Int) == 16) = true := by simp; omega
              clear h16
              go_wp2_with fail
              refine (fault_any _ _ _ _ _ _ _ _ _ _ HR4.out).mono ?_
              rintro e w5 ⟨rfl, hR5, hS5⟩
              go_wp2
              go_ret
              refine ⟨HS4.out.trans hS5.more, ?_⟩
              rw [HE3.out]
              exact ⟨rfl, _, hR5⟩
            · have HE3 := Lib.hid (lineF_ok HG.out HQ.out HE2.out HH.out (by rw [List.length_map]; exact h16))
              have h16' : ((ds.length : Int) == 16) = false := by simp; omega
              have hd16 : ds.length < 16 := by omega
              clear h16
              have r5a : (w4.alloc (.cells #[.int .i64 l, .slice Ax xs.length cx] 61)).cell? ⟨R, 5, none⟩ = some (.slice Av ds.length cv) := (Row.alloc HR4.out _).cell 5
              have HNE : Hid (some R ≠ (Value.slice Av ds.length cv).ownBlock) := fun e => by have := HOW.out R e.symm; omega
              go_wp2_with fail
              go_region_law
                (refine step_append_lies _ rfl _ _ _ rfl lo 61 i0 _ 2 32 Tryd.underlying24 hi0 hz0 hz1 hz2 rfl (by omega) (.slice Av ds.length cv) ds.length (ds.flatMap cellsU) (by simp [Act.eval]) (HRU4.out.row.alloc _)
                   ⟨w4.heap.size, 0, none⟩ 1 1 [.int .i64 l, .slice Ax xs.length cx] (by simp [Act.eval]) rfl (two_new _ _ _ _) (by simp [Value.oneCell'])
                   (by omega) (by unfold maxLen; omega) (by omega) (by simp; omega) (w4.heap.size + 1) (by simp) ?_
                 intro gg cap w6 hown hgrow hat hgl
                 have HOG := Lib.hid hown
                 have HGR := Lib.hid hgrow
                 have HR6 : Hid (Row w6 R 82 #[.string s, .int .i64 ((k2 + 1 : Nat) : Int), .int .i64 cd, .int .i64 n, .int .i64 t, .slice Av ds.length cv]) := (hgrow.block R (by simp; omega) HNE.out).trans (Row.alloc HR4.out _)
                 have z5 : w6.cell? ⟨R, 5, none⟩ = some (.slice Av ds.length cv) := HR6.out.cell 5
                 have g5 := HR6.out.frozen 5
                 clear hown hgrow hat)
              all_goals
                go_wp2
                go_ret
                refine ⟨?_, ?_⟩
                · refine Save.setCell (S := fun b => b = R ∨ lo ≤ b) (p := ⟨R, 5, none⟩) (Save.grownS (HS4.out.trans (Save.of_below ?_)) HGR.out fun j hj => .inr (HRU4.out.row.lt j hj).1) (.inl rfl) _
                  go_grown
                · rw [HE3.out]
                  refine ⟨rfl, _, Ax, cx, HR6.out.set 5 _, RulesW.low ?_ (p := ⟨R, 5, none⟩) hRlo _⟩
                  refine RulesW.step (HRU4.out.keep ?_) (OwnI.below (OwnI.lower HOI4.out (by omega)) ?_ (Nat.le_refl _)) HAP.out HOG.out HGR.out
                  · go_grown
                  · go_grown
          · have HPN := Lib.hid (putN_t HH.out)
            have HE3 := Lib.hid (lineF_twice HG.out HQ.out HE2.out HH.out)
            go_wp2_with fail
            go_region_held3 (fun w' => w'.cell? ⟨R, 5, none⟩ = some (.slice Av ds.length cv) ∧ w'.cell? ⟨w2.heap.size, 0, none⟩ = some (.int .i64 l) ∧ w'.cell? ⟨w2.heap.size, 1, none⟩ = some (.slice Ax xs.length cx))
              (first | exact ⟨y5, y0, y1⟩ | exact ⟨r5, b0, b1⟩)
              ((go_at_call 83
                refine (l1Put2_any lo Av cv ds l Ax xs cx _ ?_ ?_ ?_ hdl (by omega)).mono ?_
                · exact HRU3.out.keep (by go_grown)
                · exact HOI.out.ints.keep (by go_grown)
                · show lo ≤ w3.heap.size
                  omega
                rw [HPN.out]
                rintro e w4 ⟨A4, c4, rfl, hRU4, hg4'⟩
                have hg4 : w3.grownBy w4 (Value.slice Av ds.length cv).ownBlock := (grownBy_of_below (by go_grown) _).trans hg4'
                have HR4 : Hid (Rd2 w4 R s ((k2 + 1 : Nat) : Int) cd n t (.slice Av ds.length cv)) := (hg4.block R (by omega) (fun e => by have := HOW.out R e.symm; omega)).trans HR3.out
                have HBX4 : Hid (Row w4 w2.heap.size 61 #[.int .i64 l, .slice Ax xs.length cx]) := (hg4.block w2.heap.size (by omega) (fun e => by have := HOW.out _ e.symm; omega)).trans HBX3.out
                have y5 : w4.cell? ⟨R, 5, none⟩ = some (.slice Av ds.length cv) := HR4.out.cell 5
                have y0 : w4.cell? ⟨w2.heap.size, 0, none⟩ = some (.int .i64 l) := HBX4.out.cell 0
                have y1 : w4.cell? ⟨w2.heap.size, 1, none⟩ = some (.slice Ax xs.length cx) := HBX4.out.cell 1
                have HRU4 := Lib.hid hRU4
                have HG4 := Lib.hid hg4
                clear hRU4 hg4 hg4'))
            rename_i hHeld
            clear hHeld r5 b0 b1
            have HS4 : Hid (Save (fun b => b = R ∨ lo ≤ b) w w4) := HSAVE.out.grownS HG4.out fun j hj => .inr (HOW.out j hj).1
            go_wp2_with fail
            refine (fault_any _ _ _ _ _ _ _ _ _ _ HR4.out).mono ?_
            rintro e w5 ⟨rfl, hR5, hS5⟩
            go_wp2
            go_ret
            refine ⟨HS4.out.trans hS5.more, ?_⟩
            rw [HE3.out]
            exact ⟨rfl, _, hR5⟩
        · have HSAVE : Hid (Save (fun b => b = R ∨ lo ≤ b) w wr) := (HS2.out.wider fun _ e => .inl e).trans (HS.out.wider fun b e => by rcases e with e | e <;> omega)
          by_cases h4 : xs.length = 4
          · have HE2 : Hid (rightF n t s 5 [] (k + 2) = .bad 4 k2) := by show _ = _; rw [HE.out, hf]; exact rightF_full h10 h4
            have HE3 := Lib.hid (lineF_bad (ss := ds.map Ru.abs) HG.out HQ.out HE2.out)
            have h4' : ((xs.length : Int) == 4) = true := by simp; omega
            go_wp2_with fail
            refine (is_bad R s k2 _ _ _ _ _ 10 HRk.out hkk h10).mono ?_
            rintro e w3 ⟨rfl, hB3⟩
            clear h10 HE hf h4
            have HR3 := Lib.hid (HRk.out.below hB3 (Nat.le_refl _))
            have HBX3 := Lib.hid (HBX.out.below hB3 HBX.out.lt)
            have HB3 := Lib.hid hB3; clear hB3
            have b1 : w3.cell? ⟨w2.heap.size, 1, none⟩ = some (.slice Ax xs.length cx) := HBX3.out.cell 1
            have c1 : w3.cell? ⟨R, 1, none⟩ = some (.int .i64 (k2 : Int)) := HR3.out.cell 1
            go_wp2_with fail
            refine (fault_any _ _ _ _ _ _ _ _ _ _ HR3.out).mono ?_
            rintro e w5 ⟨rfl, hR5, hS5⟩
            go_wp2
            go_ret
            refine ⟨(HSAVE.out.trans (Save.of_below HB3.out)).trans hS5.more, ?_⟩
            rw [HE3.out]
            exact ⟨rfl, _, hR5⟩
          · have h4' : ((xs.length : Int) == 4) = false := by simp; omega
            by_cases hlt : k2 < s.size
            · have he : ((k2 : Int) == (s.size : Int)) = false := by simp; omega
              cases hs : symG n t (chr s k2) with
              | none =>
                have HE2 : Hid (rightF n t s 5 [] (k + 2) = .bad 3 k2) := by show _ = _; rw [HE.out, hf]; exact rightF_none h10 h4 hs
                have HE3 := Lib.hid (lineF_bad (ss := ds.map Ru.abs) HG.out HQ.out HE2.out)
                have HSG2 : Hid (symG n t (s[k2].toNat : Int) = none) := by show _ = _; rw [← chr_at hlt]; exact hs
                go_wp2_with fail
                refine (is_bad R s k2 _ _ _ _ _ 10 HRk.out hkk h10).mono ?_
                rintro e w3 ⟨rfl, hB3⟩
                clear h10 HE hf h4 hs
                have HR3 := Lib.hid (HRk.out.below hB3 (Nat.le_refl _))
                have HBX3 := Lib.hid (HBX.out.below hB3 HBX.out.lt)
                have HB3 := Lib.hid hB3; clear hB3
                have b1 : w3.cell? ⟨w2.heap.size, 1, none⟩ = some (.slice Ax xs.length cx) := HBX3.out.cell 1
                have c0 : w3.cell? ⟨R, 0, none⟩ = some (.string s) := HR3.out.cell 0
                have c1 : w3.cell? ⟨R, 1, none⟩ = some (.int .i64 (k2 : Int)) := HR3.out.cell 1
                have c3 : w3.cell? ⟨R, 3, none⟩ = some (.int .i64 n) := HR3.out.cell 3
                have c4 : w3.cell? ⟨R, 4, none⟩ = some (.int .i64 t) := HR3.out.cell 4
                go_wp2
                go_quiet (fail)
                go_wp2
                obtain ⟨q1, hq1⟩ : ∃ x, x = nq := ⟨_, rfl⟩
                subst hq1
                go_quiet (exact (l2Symbol_any n t _ _ n0 n6 t0 t4).mono fun _ _ h => ⟨h.1, _, h.2.symm⟩)
                rw [HSG2.out]
                have hBd : Below w3.heap.size w3 ((w3.drewN q1).drewN nq) := below_drewN (below_drewN (Below.refl _ _) _) _
                generalize (w3.drewN q1).drewN nq = W at hBd ⊢
                have HRW := Lib.hid (HR3.out.below hBd (Nat.le_refl _))
                have HBd := Lib.hid (HB3.out.trans (hBd.mono HB3.out.size)); clear hBd
                clear b1 c0 c1 c3 c4
                have c1 : W.cell? ⟨R, 1, none⟩ = some (.int .i64 (k2 : Int)) := HRW.out.cell 1
                go_wp2_with fail
                refine (fault_any _ _ _ _ _ _ _ _ _ _ HRW.out).mono ?_
                rintro e w5 ⟨rfl, hR5, hS5⟩
                go_wp2
                go_ret
                refine ⟨(HSAVE.out.trans (Save.of_below HBd.out)).trans hS5.more, ?_⟩
                rw [HE3.out]
                exact ⟨rfl, _, hR5⟩
              | some x =>
                have HE2 : Hid (rightF n t s 5 [] (k + 2) = rightF n t s f (xs ++ [x]) (k2 + 1)) := by show _ = _; rw [HE.out, hf]; exact rightF_some h10 h4 hs
                have HSG2 : Hid (symG n t (s[k2].toNat : Int) = some x) := by show _ = _; rw [← chr_at hlt]; exact hs
                have hxl2 : xs.length < 4 := by omega
                go_wp2_with fail
                refine (is_bad R s k2 _ _ _ _ _ 10 HRk.out hkk h10).mono ?_
                rintro e w3 ⟨rfl, hB3⟩
                clear h10 HE h4 hs
                have HR3 := Lib.hid (HRk.out.below hB3 (Nat.le_refl _))
                have HBX3 := Lib.hid (HBX.out.below hB3 HBX.out.lt)
                have HO3 := Lib.hid (own_below HO.out hB3)
                have HB3 := Lib.hid hB3; clear hB3
                have b1 : w3.cell? ⟨w2.heap.size, 1, none⟩ = some (.slice Ax xs.length cx) := HBX3.out.cell 1
                have c0 : w3.cell? ⟨R, 0, none⟩ = some (.string s) := HR3.out.cell 0
                have c1 : w3.cell? ⟨R, 1, none⟩ = some (.int .i64 (k2 : Int)) := HR3.out.cell 1
                have c3 : w3.cell? ⟨R, 3, none⟩ = some (.int .i64 n) := HR3.out.cell 3
                have c4 : w3.cell? ⟨R, 4, none⟩ = some (.int .i64 t) := HR3.out.cell 4
                go_wp2
                go_quiet (fail)
                go_wp2
                obtain ⟨q1, hq1⟩ : ∃ x, x = nq := ⟨_, rfl⟩
                subst hq1
                go_quiet (exact (l2Symbol_any n t _ _ n0 n6 t0 t4).mono fun _ _ h => ⟨h.1, _, h.2.symm⟩)
                rw [HSG2.out]
                have hBd : Below w3.heap.size w3 ((w3.drewN q1).drewN nq) := below_drewN (below_drewN (Below.refl _ _) _) _
                generalize (w3.drewN q1).drewN nq = W at hBd ⊢
                have HRW := Lib.hid (HR3.out.below hBd (Nat.le_refl _))
                have HBXW := Lib.hid (HBX3.out.below hBd HBX3.out.lt)
                have HOWr := Lib.hid (own_below HO3.out hBd)
                have HBd := Lib.hid (HB3.out.trans (hBd.mono HB3.out.size)); clear hBd
                clear b1 c0 c1 c3 c4
                have hszW : w2.heap.size + 1 ≤ W.heap.size := by have := HBXW.out.lt; omega
                have b1 : W.cell? ⟨w2.heap.size, 1, none⟩ = some (.slice Ax xs.length cx) := HBXW.out.cell 1
                have hown := HOWr.out.alloc (.cells #[.int .i64 x] 3)
                have HWn := Lib.hid hown; clear hown
                have hnew := cell_one_new W (.int .i64 x) 3
                have HNW := Lib.hid hnew; clear hnew
                have HNE : Hid (∀ b, b < w2.heap.size + 1 → some b ≠ (Value.slice Ax xs.length cx).ownBlock) := fun b hb e => by have := (HOWr.out.lt b e.symm).1; omega
                have hRB : ¬ R = w2.heap.size := by omega
                have hBR : ¬ w2.heap.size = R := by omega
                go_wp2_with (at_builtin
                             refine wpList_append_own _ rfl (.tmp 118) (.tmp 120) _ rfl (w2.heap.size + 1) 3 j0 _ 1 8 Tryd.underlying34 hj0 hy0 hy1 hy2 rfl (by omega) _ _ _ rfl HWn.out ⟨W.heap.size, 0, none⟩ 1 1 [.int .i64 x] rfl rfl HNW.out (by intro u hu; simp at hu; subst hu; rfl) (by unfold maxLen; omega) (by omega) (by simp; omega) ?_
                             intro v' w' h1 h2 h3
                             obtain ⟨A', c', rfl⟩ := own_slice h1
                             have hrow : Row w' R 82 _ := (h2.block R (by simp; omega) (HNE.out R (by omega))).trans (Row.alloc HRW.out _)
                             have hbox : Row w' w2.heap.size 61 _ := (h2.block w2.heap.size (by simp; omega) (HNE.out _ (by omega))).trans (Row.alloc HBXW.out _)
                             have r1 : w'.cell? ⟨R, 1, none⟩ = some (.int .i64 (k2 : Int)) := hrow.cell 1
                             have z1 : w'.frozen? ⟨R, 1, none⟩ = false := hrow.frozen 1
                             have d1 : w'.cell? ⟨w2.heap.size, 1, none⟩ = some (.slice Ax xs.length cx) := hbox.cell 1
                             have y1 : w'.frozen? ⟨w2.heap.size, 1, none⟩ = false := hbox.frozen 1
                             have HO1 := Lib.hid h1
                             have HG1 := Lib.hid h2
                             have HRW' := Lib.hid hrow
                             have HBXW' := Lib.hid hbox
                             clear h1 h2 h3 hrow hbox)
                go_roundg f
                case measure => omega
                case rel =>
                  refine ⟨k2 + 1, xs ++ [x], .slice A' (xs.length + 1) c', by simp; omega, by simp; omega, by omega, ?_, ?_, ?_, ?_, HE2⟩
                  · show Rd2 _ _ _ _ _ _ _ _
                    exact (HRW'.out.far (p := ⟨w2.heap.size, 1, none⟩) hRB _).set 1 _
                  · show Row _ _ _ _
                    exact (HBXW'.out.set 1 _).far (p := ⟨R, 1, none⟩) hBR _
                  · show World.ownsRow _ _ _ _ _ _ _
                    refine ownsRow_setCell_below (ownsRow_setCell_below ?_ (a := ⟨w2.heap.size, 1, none⟩) (by simp) _) (a := ⟨R, 1, none⟩) (by show R < w2.heap.size + 1; omega) _
                    simpa using HO1.out
                  · show Save _ _ _
                    refine Save.setCell (S := fun b => b = R ∨ w2.heap.size ≤ b) (p := ⟨R, 1, none⟩) (Save.setCell (S := fun b => b = R ∨ w2.heap.size ≤ b) (p := ⟨w2.heap.size, 1, none⟩) (Save.grownS ((HS.out.trans (Save.of_below HBd.out)).trans (Save.of_below ?_)) HG1.out fun j hj => .inr ?_) (.inr (Nat.le_refl _)) _) (.inl rfl) _
                    · go_grown
                    · have := (HOWr.out.lt j hj).1; omega
            · have he : ((k2 : Int) == (s.size : Int)) = true := by simp; omega
              have HE2 : Hid (rightF n t s 5 [] (k + 2) = .bad 3 k2) := by show _ = _; rw [HE.out, hf]; exact rightF_none h10 h4 (symG_end hlt)
              have HE3 := Lib.hid (lineF_bad (ss := ds.map Ru.abs) HG.out HQ.out HE2.out)
              go_wp2_with fail
              refine (is_bad R s k2 _ _ _ _ _ 10 HRk.out hkk h10).mono ?_
              rintro e w3 ⟨rfl, hB3⟩
              clear h10 HE hf h4
              have HR3 := Lib.hid (HRk.out.below hB3 (Nat.le_refl _))
              have HBX3 := Lib.hid (HBX.out.below hB3 HBX.out.lt)
              have HB3 := Lib.hid hB3; clear hB3
              have b1 : w3.cell? ⟨w2.heap.size, 1, none⟩ = some (.slice Ax xs.length cx) := HBX3.out.cell 1
              have c0 : w3.cell? ⟨R, 0, none⟩ = some (.string s) := HR3.out.cell 0
              have c1 : w3.cell? ⟨R, 1, none⟩ = some (.int .i64 (k2 : Int)) := HR3.out.cell 1
              go_wp2
              go_quiet (fail)
              have HRW : Hid (Rd2 (w3.drewN nq) R s (k2 : Int) cd n t (.slice Av ds.length cv)) := HR3.out
              go_wp2_with fail
              refine (fault_any _ _ _ _ _ _ _ _ _ _ HRW.out).mono ?_
              rintro e w5 ⟨rfl, hR5, hS5⟩
              go_wp2
              go_ret
              refine ⟨(HSAVE.out.trans (Save.of_below (below_drewN HB3.out _))).trans hS5.more, ?_⟩
              rw [HE3.out]
              exact ⟨rfl, _, hR5⟩
    · have HE := Lib.hid (lineF_eq (t := t) (ss := ds.map Ru.abs) HG.out h61)
      refine (is_bad R s (k + 1) _ _ _ _ _ 61 HR1.out (by omega) h61).mono ?_
      rintro e w2 ⟨rfl, hB2⟩
      clear h61
      have HR2 := Lib.hid (HR1.out.below hB2 (Nat.le_refl _))
      have HB2 := Lib.hid hB2; clear hB2
      have c1 : w2.cell? ⟨R, 1, none⟩ = some (.int .i64 ((k + 1 : Nat) : Int)) := HR2.out.cell 1
      simp only [Int.natCast_add, Int.cast_ofNat_Int] at c1
      go_wp2_with fail
      refine (fault_any _ _ _ _ _ _ _ _ _ _ HR2.out).mono ?_
      rintro e w3 ⟨rfl, hR3, hS3⟩
      go_wp2
      go_ret
      refine ⟨((HS1.out.trans (Save.of_below HB2.out)).trans hS3).more, ?_⟩
      rw [HE.out]
      exact ⟨rfl, _, by simpa using hR3⟩

end Go.Proofs.YtaaagcokjndaoaaDoor
