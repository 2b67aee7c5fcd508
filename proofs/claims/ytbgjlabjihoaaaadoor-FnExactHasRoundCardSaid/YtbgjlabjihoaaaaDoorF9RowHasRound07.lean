/- The law of HasRound holds of every grammar and forest: the call returns true, and what was handed in reads afterwards as it read before. Conditions: the package's table of limits is as the program's text lays it (tied by the given tie). -/
import Derived.Test.YtbgjlabjihoaaaaDoorF9RowHasRound06
import Derived.Deep.LoopGhost
import Derived.Deep.RegionHeld3
import Derived.Test.YtbgjlabjihoaaaaDoorF901
import Derived.Test.YtbgjlabjihoaaaaDoorF902
import Derived.Deep.RegionLaw
import Derived.Test.YtbgjlabjihoaaaaDoorF903
import Derived.Test.YtbgjlabjihoaaaaDoorCards

namespace Go.Proofs.YtbgjlabjihoaaaaDoor
open Go.RowKit

set_option maxRecDepth 20000 in
set_option maxHeartbeats 4000000 in
theorem l9Round_any (n t : Int) (A : Option Addr) (rs : List Ru) (c : Nat) (f : Fo) (w : World) (hx : Rls w w.heap.size A rs) (hgl : rs.length ≤ 1048576) (hgr : ∀ v ∈ rs, v.r.length ≤ 1000) (hf : ReadF w w.heap.size f) (hfn : f.ns.length ≤ 600) (hfe : f.es.length ≤ 600) (hm : LenF 1048576 f) :
    Calls Tryd.prog 47 #[.agg #[.int .i64 n, .int .i64 t, .slice A rs.length c], (.agg #[.slice f.a f.ns.length f.c, .slice f.b f.es.length f.d])] w fun e w' => e = .returned (.bool (bP (HasCyc f.ns.length (LeadsTo (leadL (rs.map Ru.abs) f.say))))) ∧ Below w.heap.size w w' := by
  obtain ⟨fa, fns, fc, fb, fes, fd⟩ := f
  replace hfn : fns.length ≤ 600 := hfn
  replace hfe : fes.length ≤ 600 := hfe
  show Calls Tryd.prog 47 #[.agg #[.int .i64 n, .int .i64 t, .slice A rs.length c], .agg #[.slice fa fns.length fc, .slice fb fes.length fd]] w fun e w' => e = .returned (.bool (bP (HasCyc fns.length (LeadsTo (leadL (rs.map Ru.abs) (Fs.mk fns (fes.map Eg.abs))))))) ∧ Below w.heap.size w w'
  have hmk := make_boolQ fns.length (by omega)
  have HX := Lib.hid hx; clear hx
  have HGR := Lib.hid hgr; clear hgr
  have HFN : Hid (Nds w w.heap.size fa fns) := hf.1
  have HFE : Hid (Egs w w.heap.size fb fes) := hf.2
  have HML : Hid (∀ u ∈ fes, u.r.length ≤ 1048576) := hm.r
  have HED : Hid (∀ (x : Int) v, Below w.heap.size w v → Calls Tryd.prog 30 #[.agg #[.slice fa fns.length fc, .slice fb fes.length fd], .int .i64 x] v (GaveI' v (edgesTo (fes.map Eg.abs) x (fes.map Eg.abs).length))) := fun x v hv => by
    have h := l9Edges_any (Fo.mk fa fns fc fb fes fd) x v ((hf.keep hv).more hv.size) hfe
    rw [List.length_map]
    exact h
  have HSP : Hid (∀ (u : Eg) v, Below w.heap.size w v → Ints v v.heap.size u.a u.r → u.r.length ≤ 1048576 → Calls Tryd.prog 41 #[.agg #[.int .i64 n, .int .i64 t, .slice A rs.length c], .agg #[.slice fa fns.length fc, .slice fb fes.length fd], .agg #[.int .i64 u.n, .int .i64 u.e, .slice u.a u.r.length u.c]] v (GaveIB v (chV (rs.map Ru.abs) fns u.abs) (chB (rs.map Ru.abs) fns u.abs))) := fun u v hv h1 h2 =>
    specChildren_any n t A rs c (Fo.mk fa fns fc fb fes fd) u v ((HX.out.keep hv).more hv.size) hgl HGR.out ((hf.1.keep hv).more hv.size) (by show fns.length ≤ _; omega) h1 h2
  clear hf hm
  go_enter Tryd.func47, Tryd.ntmps47
  go_wp2
  have hB0 : Below w.heap.size w (((w.alloc (.cells #[.int .i64 n, .int .i64 t, .slice A rs.length c] 47)).alloc (.cells #[.slice fa fns.length fc, .slice fb fes.length fd] 33)).alloc (.cells (zBq fns.length) 4)) := by go_grown
  have hB2 : Below (((w.alloc (.cells #[.int .i64 n, .int .i64 t, .slice A rs.length c] 47)).alloc (.cells #[.slice fa fns.length fc, .slice fb fes.length fd] 33)).heap.size) ((w.alloc (.cells #[.int .i64 n, .int .i64 t, .slice A rs.length c] 47)).alloc (.cells #[.slice fa fns.length fc, .slice fb fes.length fd] 33)) (((w.alloc (.cells #[.int .i64 n, .int .i64 t, .slice A rs.length c] 47)).alloc (.cells #[.slice fa fns.length fc, .slice fb fes.length fd] 33)).alloc (.cells (zBq fns.length) 4)) := by go_grown
  have R0 : Row ((w.alloc (.cells #[.int .i64 n, .int .i64 t, .slice A rs.length c] 47)).alloc (.cells #[.slice fa fns.length fc, .slice fb fes.length fd] 33)) w.heap.size 47 #[.int .i64 n, .int .i64 t, .slice A rs.length c] := (Row.new _ _ _).alloc _
  have R1 : Row ((w.alloc (.cells #[.int .i64 n, .int .i64 t, .slice A rs.length c] 47)).alloc (.cells #[.slice fa fns.length fc, .slice fb fes.length fd] 33)) (w.heap.size + 1) 33 #[.slice fa fns.length fc, .slice fb fes.length fd] := by
    have h := Row.new (w.alloc (.cells #[.int .i64 n, .int .i64 t, .slice A rs.length c] 47)) 33 #[.slice fa fns.length fc, .slice fb fes.length fd]
    rw [World.size_alloc] at h; exact h
  have HL0 := BoolW.new ((w.alloc (.cells #[.int .i64 n, .int .i64 t, .slice A rs.length c] 47)).alloc (.cells #[.slice fa fns.length fc, .slice fb fes.length fd] 33)) fns.length
  have hS2 : ((w.alloc (.cells #[.int .i64 n, .int .i64 t, .slice A rs.length c] 47)).alloc (.cells #[.slice fa fns.length fc, .slice fb fes.length fd] 33)).heap.size = w.heap.size + 2 := by simp
  rw [hS2] at HL0
  have HR0 := Lib.hid (R0.below hB2 R0.lt)
  have HR1 := Lib.hid (R1.below hB2 R1.lt)
  clear R0 R1 hB2 hS2
  have hS3 : (((w.alloc (.cells #[.int .i64 n, .int .i64 t, .slice A rs.length c] 47)).alloc (.cells #[.slice fa fns.length fc, .slice fb fes.length fd] 33)).alloc (.cells (zBq fns.length) 4)).heap.size = w.heap.size + 3 := by simp
  generalize (((w.alloc (.cells #[.int .i64 n, .int .i64 t, .slice A rs.length c] 47)).alloc (.cells #[.slice fa fns.length fc, .slice fb fes.length fd] 33)).alloc (.cells (zBq fns.length) 4)) = W at hB0 HL0 HR0 HR1 hS3 ⊢
  have HB0 := Lib.hid hB0; clear hB0
  have HSK : Hid (∀ v, Below (w.heap.size + 2) W v → v.cell? ⟨w.heap.size, 0, none⟩ = some (.int .i64 n) ∧ v.cell? ⟨w.heap.size, 1, none⟩ = some (.int .i64 t) ∧ v.cell? ⟨w.heap.size, 2, none⟩ = some (.slice A rs.length c) ∧ v.cell? ⟨w.heap.size + 1, 0, none⟩ = some (.slice fa fns.length fc) ∧ v.cell? ⟨w.heap.size + 1, 1, none⟩ = some (.slice fb fes.length fd)) := fun v hv => by
    have r := HR0.out.below hv (by omega)
    have q := HR1.out.below hv (by omega)
    refine ⟨?_, ?_, ?_, ?_, ?_⟩
    · simpa using r.cell 0
    · simpa using r.cell 1
    · simpa using r.cell 2
    · simpa using q.cell 0
    · simpa using q.cell 1
  have HDN : Hid (∀ v, Below (w.heap.size + 2) W v → Below w.heap.size w v) := fun v hv => HB0.out.trans (hv.mono (by omega))
  clear HR0 HR1
  go_loopw [24] (fun i wr => ∃ (k : Nat), k ≤ fns.length ∧ i = .int .i64 k ∧ w.heap.size + 3 ≤ wr.heap.size ∧ Below (w.heap.size + 2) W wr ∧ Hid (BoolW wr (w.heap.size + 2) fns.length fun m => decide (m < k))) (fun i _ => fns.length - (intOf i).toNat)
  case atStart => exact ⟨0, by omega, rfl, by omega, Below.refl _ _, HL0.congr fun m _ => by simp⟩
  case round =>
    obtain ⟨k, hk, rfl, hsz, hB, H⟩ := hrel
    clear hmk
    by_cases hlt : k < fns.length
    · obtain ⟨i1, i2, i3⟩ := H.out.at_ hlt
      have HN := Lib.hid (H.out.set hlt true)
      go_wp2
      go_roundw
      case rel => exact ⟨k + 1, by omega, by go_num, by simpa [World.setCell] using hsz, hB.setCell (Nat.le_refl _) _, HN.out.congr fun m _ => by
        by_cases e : m = k
        · subst e; simp
        · rw [if_neg e]; exact decide_eq_decide.2 (by omega)⟩
      case measure => simp [intOf]; omega
    · obtain rfl : k = fns.length := by omega
      have HB1 : Hid (BoolW wr (w.heap.size + 2) fns.length fun _ => true) := H.out.congr fun m hm => by simp [hm]
      have HBA := Lib.hid hB
      have hszA := hsz
      clear H
      obtain ⟨wA, hA⟩ : ∃ x, x = wr := ⟨_, rfl⟩
      subst hA
      go_wp2
      go_loopg [7] (2 * cntS (fun _ => true = true) fns.length + 1) (fun g m wr => ∃ (more : Bool) (L : Nat → Bool), m = .bool more ∧ g = 2 * cntS (fun j => L j = true) fns.length + (if more then 1 else 0) ∧ Hid (BoolW wr (w.heap.size + 2) fns.length L) ∧ Hid (PeelS fns.length (LeadsTo (leadL (rs.map Ru.abs) (Fs.mk fns (fes.map Eg.abs)))) L) ∧ w.heap.size + 3 ≤ wr.heap.size ∧ Below (w.heap.size + 2) W wr ∧ Hid (more = false → ∀ k, k < fns.length → L k = true → ∃ m, m < fns.length ∧ (LeadsTo (leadL (rs.map Ru.abs) (Fs.mk fns (fes.map Eg.abs)))) k m ∧ L m = true))
      case atStart => exact ⟨true, fun _ => true, by first | rfl | trivial, by first | rfl | simp, HB1, fun S h1 h2 k hk => rfl, hszA, HBA.out, fun h => by cases h⟩
      case round =>
        clear hB HBA hsz hszA HB1
        obtain ⟨more, L, rfl, hg, HL, HP, hsz, hB, HC⟩ := hrel
        cases more
        · have HDO := Lib.hid (HP.out.done (HC.out rfl))
          obtain ⟨wB, hBB⟩ : ∃ x, x = wr := ⟨_, rfl⟩
          subst hBB
          have HBB := Lib.hid hB
          have HLB := Lib.hid HL.out
          clear HC HP
          go_wp2
          go_loopw [83] (fun i wr => ∃ (k : Nat), k ≤ fns.length ∧ i = .int .i64 k ∧ wr = wB ∧ Hid (∀ j, j < k → L j = false)) (fun i _ => fns.length - (intOf i).toNat)
          case atStart => exact ⟨0, by omega, rfl, rfl, fun j hj => absurd hj (by omega)⟩
          case round =>
            obtain ⟨k, hk, rfl, hw, H⟩ := hrel
            subst hw
            by_cases hlt : k < fns.length
            · obtain ⟨i1, i2, i3⟩ := HLB.out.at_ hlt
              cases hLk : L k
              · rw [hLk] at i1
                go_wp2
                go_roundw
                case rel => exact ⟨k + 1, by omega, by go_num, by first | rfl | trivial, fun j hj => by
                  by_cases e : j = k
                  · subst e; exact hLk
                  · exact H.out j (by omega)⟩
                case measure => simp [intOf]; omega
              · rw [hLk] at i1
                have HE : Hid (bP (HasCyc fns.length (LeadsTo (leadL (rs.map Ru.abs) (Fs.mk fns (fes.map Eg.abs))))) = true) := bP_t (HDO.out.1 ⟨k, hlt, hLk⟩)
                go_wp2
                go_ret
                exact ⟨ret_bool HE.out.symm, HDN.out _ HBB.out⟩
            · obtain rfl : k = fns.length := by omega
              have HE : Hid (bP (HasCyc fns.length (LeadsTo (leadL (rs.map Ru.abs) (Fs.mk fns (fes.map Eg.abs))))) = false) := bP_f fun hc => by
                obtain ⟨j, hj, hLj⟩ := HDO.out.2 hc
                rw [H.out j hj] at hLj; cases hLj
              go_wp2
              go_ret
              exact ⟨ret_bool HE.out.symm, HDN.out _ HBB.out⟩
        · rw [if_pos rfl] at hg
          obtain ⟨wB, hBB⟩ : ∃ x, x = wr := ⟨_, rfl⟩
          subst hBB
          clear HC
          go_wp2
          go_loopw [7, 34] (fun m i wr => ∃ (k : Nat) (L' : Nat → Bool) (more : Bool), m = .bool more ∧ i = .int .i64 k ∧ k ≤ fns.length ∧ Hid (BoolW wr (w.heap.size + 2) fns.length L') ∧ Hid (PeelS fns.length (LeadsTo (leadL (rs.map Ru.abs) (Fs.mk fns (fes.map Eg.abs)))) L') ∧ w.heap.size + 3 ≤ wr.heap.size ∧ Below (w.heap.size + 2) W wr ∧ Hid (more = false → L' = L ∧ ∀ j, j < k → L j = true → ∃ m, m < fns.length ∧ (LeadsTo (leadL (rs.map Ru.abs) (Fs.mk fns (fes.map Eg.abs)))) j m ∧ L m = true) ∧ Hid (more = true → cntS (fun j => L' j = true) fns.length < cntS (fun j => L j = true) fns.length)) (fun _ i _ => fns.length - (intOf i).toNat)
          case atStart => exact ⟨0, L, false, rfl, rfl, by omega, HL, HP, hsz, hB, fun _ => ⟨rfl, fun j hj => absurd hj (by omega)⟩, fun h => by cases h⟩
          case round =>
            clear HL HP hsz hB
            obtain ⟨k, L', more, rfl, rfl, hk, HL, HP, hsz, hB, HM0, HM1⟩ := hrel
            by_cases hlt : k < fns.length
            · obtain ⟨i1, i2, i3⟩ := HL.out.at_ hlt
              obtain ⟨s0, s1, s2, s3, s4⟩ := HSK.out wr hB
              have hq1 : w.heap.size < wr.heap.size := by omega
              have hq2 : w.heap.size + 1 < wr.heap.size := by omega
              have HFR := Lib.hid (free_iff (ss := (rs.map Ru.abs)) (f := (Fs.mk fns (fes.map Eg.abs))) (L := L') (k := k) hlt)
              have hel := edgesTo_len (fes.map Eg.abs) (k : Int) (fes.map Eg.abs).length
              have hem : ∀ i ∈ edgesTo (fes.map Eg.abs) (k : Int) (fes.map Eg.abs).length, ∃ j : Nat, i = (j : Int) ∧ j < fes.length := fun i hi => by
                obtain ⟨j, rfl, hj, _⟩ := edgesTo_mem.1 hi
                exact ⟨j, rfl, by simpa using hj⟩
              have HEM := Lib.hid hem; clear hem
              go_wp2_with fail
              refine (HED.out _ _ (HDN.out _ hB)).mono ?_
              generalize edgesTo (fes.map Eg.abs) (k : Int) (fes.map Eg.abs).length = eks at HFR hel HEM
              rintro e w3 ⟨A3, c3, rfl, hO3, hB3⟩
              rw [List.length_map] at hel
              have HI3 := Lib.hid hO3.ints; clear hO3
              have hB3' : Below (w.heap.size + 2) W w3 := hB.trans (hB3.mono (by omega))
              have HL3 := Lib.hid (HL.out.keep hB3 (by omega))
              have hsz3 : w.heap.size + 3 ≤ w3.heap.size := by have := hB3.size; omega
              clear i1 i2 i3 s0 s1 s2 s3 s4 hB3 hB hsz HL hq1 hq2
              have HB3 := Lib.hid hB3'; clear hB3'
              go_wp2
              go_loopw [9, 45] (fun b i wr => ∃ (j : Nat), i = .int .i64 j ∧ j ≤ eks.length ∧ b = .bool (freeTo (rs.map Ru.abs) (Fs.mk fns (fes.map Eg.abs)) L' (L' k) eks j) ∧ Below w3.heap.size w3 wr) (fun _ i _ => eks.length - (intOf i).toNat)
              case atStart => exact ⟨0, rfl, by omega, by rw [freeTo_zero], Below.refl _ _⟩
              case round =>
                obtain ⟨j, rfl, hj, rfl, hB⟩ := hrel
                by_cases hjl : j < eks.length
                · obtain ⟨b2, o2, rfl, hb2, d1⟩ := (HI3.out.keep hB).at_ hjl
                  obtain ⟨q, hqe, hql⟩ := HEM.out _ (List.getElem_mem hjl)
                  have HFS := Lib.hid (freeTo_succ (ss := (rs.map Ru.abs)) (f := (Fs.mk fns (fes.map Eg.abs))) (L := L') (b := L' k) hjl)
                  rw [hqe] at d1
                  obtain ⟨eb, eo, rfl, HEA⟩ := HFE.out.edge hql
                  have HEA := Lib.hid HEA
                  have hul := HML.out fes[q] (List.getElem_mem hql)
                  have hBW : Below (w.heap.size + 2) W wr := HB3.out.trans (hB.mono (by omega))
                  have HBW := Lib.hid hBW; clear hBW
                  have hwl : w.heap.size + 3 ≤ wr.heap.size := by have := hB.size; omega
                  have HAT : Hid (edgAt (Fs.mk fns (fes.map Eg.abs)) eks[j] = fes[q].abs) := by
                    show _ = _
                    rw [hqe]
                    unfold edgAt
                    simp [List.getD_eq_getElem?_getD, hql]
                  have HKS : Hid (∀ v, Below wr.heap.size wr v → (v.cell? ⟨w.heap.size, 0, none⟩ = some (.int .i64 n) ∧ v.cell? ⟨w.heap.size, 1, none⟩ = some (.int .i64 t) ∧ v.cell? ⟨w.heap.size, 2, none⟩ = some (.slice A rs.length c) ∧ v.cell? ⟨w.heap.size + 1, 0, none⟩ = some (.slice fa fns.length fc) ∧ v.cell? ⟨w.heap.size + 1, 1, none⟩ = some (.slice (some ⟨eb, eo, none⟩) fes.length fd)) ∧ v.cell? ⟨eb, eo + q * 3, none⟩ = some (.int .i64 fes[q].n) ∧ v.cell? ⟨eb, eo + q * 3 + 1, none⟩ = some (.int .i64 fes[q].e) ∧ v.cell? ⟨eb, eo + q * 3 + 2, none⟩ = some (.slice fes[q].a fes[q].r.length fes[q].c)) := fun v hv => by
                    have h1 := HBW.out.trans (hv.mono (by omega))
                    have e := HEA.out.keep (HDN.out v h1)
                    exact ⟨HSK.out v h1, e.2.1, e.2.2.1, e.2.2.2.1⟩
                  have HCH : Hid (∀ v, Below wr.heap.size wr v → Calls Tryd.prog 41 #[.agg #[.int .i64 n, .int .i64 t, .slice A rs.length c], .agg #[.slice fa fns.length fc, .slice (some ⟨eb, eo, none⟩) fes.length fd], .agg #[.int .i64 fes[q].n, .int .i64 fes[q].e, .slice fes[q].a fes[q].r.length fes[q].c]] v (GaveIB v (chV (rs.map Ru.abs) fns fes[q].abs) (chB (rs.map Ru.abs) fns fes[q].abs))) := fun v hv => by
                    have h1 := HDN.out v (HBW.out.trans (hv.mono (by omega)))
                    exact HSP.out fes[q] v h1 ((HEA.out.keep h1).2.2.2.2) hul
                  have hkin : ∀ x ∈ chV (rs.map Ru.abs) fns fes[q].abs, 0 ≤ x ∧ x < (fns.length : Int) := chV_in
                  have HKI := Lib.hid hkin; clear hkin
                  have hkl : (chV (rs.map Ru.abs) fns fes[q].abs).length ≤ 1000 := chV_len fun u hu => by
                    obtain ⟨v, hv, rfl⟩ := List.mem_map.1 hu
                    exact HGR.out v hv
                  rw [show (Fs.mk fns (fes.map Eg.abs)).ns = fns from rfl, HAT.out] at HFS
                  generalize chV (rs.map Ru.abs) fns fes[q].abs = kids at HCH HKI hkl HFS
                  generalize chB (rs.map Ru.abs) fns fes[q].abs = kok at HCH
                  clear hqe HAT hul
                  obtain ⟨wE, hE⟩ : ∃ x, x = wr := ⟨_, rfl⟩
                  subst hE
                  obtain ⟨⟨x0, x1, x2, x3, x4⟩, x5, x6, x7⟩ := HKS.out wE (Below.refl _ _)
                  generalize hfr : freeTo (rs.map Ru.abs) (Fs.mk fns (fes.map Eg.abs)) L' (L' k) eks j = fr at HFS
                  go_wp2
                  go_region_held3 (fun w' => (w'.cell? ⟨w.heap.size, 0, none⟩ = some (.int .i64 n) ∧ w'.cell? ⟨w.heap.size, 1, none⟩ = some (.int .i64 t) ∧ w'.cell? ⟨w.heap.size, 2, none⟩ = some (.slice A rs.length c) ∧ w'.cell? ⟨w.heap.size + 1, 0, none⟩ = some (.slice fa fns.length fc) ∧ w'.cell? ⟨w.heap.size + 1, 1, none⟩ = some (.slice (some ⟨eb, eo, none⟩) fes.length fd)) ∧ w'.cell? ⟨eb, eo + q * 3, none⟩ = some (.int .i64 fes[q].n) ∧ w'.cell? ⟨eb, eo + q * 3 + 1, none⟩ = some (.int .i64 fes[q].e) ∧ w'.cell? ⟨eb, eo + q * 3 + 2, none⟩ = some (.slice fes[q].a fes[q].r.length fes[q].c))
                    (first | exact HKS.out _ HY4.out | exact ⟨⟨x0, x1, x2, x3, x4⟩, x5, x6, x7⟩)
                    (first | (go_at_call 41
                              with_reducible refine (HCH.out _ ?_).mono ?_
                              · go_grown
                              rintro e w4 ⟨A4, c4, rfl, hO4, hB4'⟩
                              have hB4 : Below wE.heap.size wE w4 := Below.trans (by go_grown) hB4'
                              have HY4 := Lib.hid hB4
                              have HI4 := Lib.hid hO4.ints
                              clear hB4 hB4' hO4))
                  rename_i hHeld
                  clear hHeld x0 x1 x2 x3 x4 x5 x6 x7 HCH HKS d1
                  have HX4 := Lib.hid (hB.trans (HY4.out.mono hB.size))
                  clear HY4 hB hwl HBW
                  have hsz4 := HX4.out.size
                  go_wp2
                  go_loopw [9, 62] (fun b i wr => ∃ (p : Nat), i = .int .i64 p ∧ p ≤ kids.length ∧ b = .bool (fr && (kids.take p).all fun x => !L' x.toNat) ∧ Below w4.heap.size w4 wr) (fun _ i _ => kids.length - (intOf i).toNat)
                  case atStart => exact ⟨0, rfl, by omega, by simp, Below.refl _ _⟩
                  case round =>
                    obtain ⟨p, rfl, hp, rfl, hB⟩ := hrel
                    by_cases hpl : p < kids.length
                    · obtain ⟨b3, o3, rfl, hb3, d2⟩ := (HI4.out.keep hB).at_ hpl
                      obtain ⟨h0, h1⟩ := HKI.out _ (List.getElem_mem hpl)
                      obtain ⟨x, hx⟩ : ∃ x : Nat, kids[p] = (x : Int) := ⟨_, (Int.toNat_of_nonneg h0).symm⟩
                      have hxl : x < fns.length := by omega
                      clear h0 h1
                      rw [hx] at d2
                      obtain ⟨i1, i2, i3⟩ := (HL3.out.keep (HX4.out.trans (hB.mono hsz4)) (by omega)).at_ hxl
                      have HTS : Hid ((fr && (kids.take (p + 1)).all fun x => !L' x.toNat) = ((fr && (kids.take p).all fun x => !L' x.toNat) && !L' x)) := by
                        show _ = _
                        rw [List.take_succ_eq_append_getElem hpl, List.all_append, hx, ← Bool.and_assoc]
                        simp
                      clear hx
                      generalize (fr && (kids.take p).all fun x => !L' x.toNat) = cur at HTS ⊢
                      generalize L' x = lx at i1 HTS
                      cases cur
                      · go_wp2
                        go_roundw
                        case rel => exact ⟨p + 1, by go_num, by omega, by rw [HTS.out]; rfl, hB⟩
                        case measure => simp [intOf]; omega
                      · go_wp2
                        go_roundw
                        case rel => exact ⟨p + 1, by go_num, by omega, by rw [HTS.out]; rfl, hB⟩
                        case measure => simp [intOf]; omega
                    · obtain rfl : p = kids.length := by omega
                      rw [List.take_length] at *
                      go_wp2
                      go_roundw
                      case rel => exact ⟨j + 1, by go_num, by omega, by rw [HFS.out], HX4.out.trans (hB.mono hsz4)⟩
                      case measure => simp [intOf]; omega
                · obtain rfl : j = eks.length := by omega
                  have HLW := Lib.hid (HL3.out.keep hB (by omega))
                  obtain ⟨i1, i2, i3⟩ := HLW.out.at_ hlt
                  have hBW : Below (w.heap.size + 2) W wr := HB3.out.trans (hB.mono (by omega))
                  have hwl : w.heap.size + 3 ≤ wr.heap.size := by have := hB.size; omega
                  cases hfr : freeTo (rs.map Ru.abs) (Fs.mk fns (fes.map Eg.abs)) L' (L' k) eks eks.length
                  · have HNX : Hid (L' k = true → ∃ m, m < fns.length ∧ (LeadsTo (leadL (rs.map Ru.abs) (Fs.mk fns (fes.map Eg.abs)))) k m ∧ L' m = true) := fun hLk => by
                      apply Classical.byContradiction
                      intro hno
                      have h := HFR.out.2 ⟨hLk, fun m hm => by
                        cases hLm : L' m
                        · rfl
                        · obtain ⟨e, he, _, hmem⟩ := (leads_iff (ss := (rs.map Ru.abs)) (f := (Fs.mk fns (fes.map Eg.abs))) hlt).1 hm
                          exact absurd ⟨m, by have := (chV_in _ hmem).2; have h3 : (m : Int) < (fns.length : Int) := this; omega, hm, hLm⟩ hno⟩
                      rw [hfr] at h; cases h
                    rw [hfr] at *
                    go_wp2
                    go_roundw
                    case rel =>
                      refine ⟨k + 1, L', more, rfl, by go_num, by omega, HLW, HP, hwl, hBW, fun hm => ?_, HM1.out⟩
                      obtain ⟨he, hj⟩ := HM0.out hm
                      refine ⟨he, fun j hjk hLj => ?_⟩
                      by_cases e : j = k
                      · subst e
                        rw [← he] at hLj ⊢
                        exact HNX.out hLj
                      · exact hj j (by omega) hLj
                    case measure => simp [intOf]; omega
                  · have HFF := Lib.hid (HFR.out.1 hfr)
                    rw [hfr] at *
                    have HNS := Lib.hid (HLW.out.set hlt false)
                    go_wp2
                    go_roundw
                    case rel =>
                      refine ⟨k + 1, _, true, rfl, by go_num, by omega, HNS, HP.out.step HFF.out.2, by simpa [World.setCell] using hwl, hBW.setCell (Nat.le_refl _) _, (fun hm => by cases hm), (fun _ => ?_)⟩
                      have h1 := cntB_step (L := L') hlt HFF.out.1
                      cases more
                      · rw [(HM0.out rfl).1] at h1 ⊢; exact h1
                      · have := HM1.out rfl; omega
                    case measure => simp [intOf]; omega
            · obtain rfl : k = fns.length := by omega
              go_wp2
              go_roundg (2 * cntS (fun j => L' j = true) fns.length + (if more then 1 else 0))
              case measure =>
                cases more
                · rw [(HM0.out rfl).1, hg]; simp
                · have := HM1.out rfl; rw [hg]; simp; omega
              case rel =>
                refine ⟨more, L', rfl, rfl, HL, HP, hsz, hB, fun hm j hj hLj => ?_⟩
                obtain ⟨he, h⟩ := HM0.out hm
                rw [he] at hLj ⊢
                exact h j hj hLj

end Go.Proofs.YtbgjlabjihoaaaaDoor

/- The reference's HasRound. -/

namespace Go.Proofs.YtbgjlabjihoaaaaDoor
open Go.RowKit

set_option maxRecDepth 20000 in
set_option maxHeartbeats 4000000 in
theorem specHasRound_any (n t : Int) (A : Option Addr) (rs : List Ru) (c : Nat) (f : Fo) (w : World) (hx : Rls w w.heap.size A rs) (hc : rs.length ≤ c) (h1 : rs.length ≤ 1048576) (h2 : ∀ u ∈ rs, u.r.length ≤ 1048576) (hf : ReadF w w.heap.size f) (hm : LenF 1048576 f) :
    Calls Tryd.prog 22 #[.agg #[.int .i64 n, .int .i64 t, .slice A rs.length c], (.agg #[.slice f.a f.ns.length f.c, .slice f.b f.es.length f.d])] w fun e w' => e = .returned (.tuple #[.bool (hrV n t (rs.map Ru.abs) f.say), .bool (hrOk n t (rs.map Ru.abs) f.say)]) ∧ Below w.heap.size w w' := by
  obtain ⟨fa, fns, fc, fb, fes, fd⟩ := f
  show Calls Tryd.prog 22 #[.agg #[.int .i64 n, .int .i64 t, .slice A rs.length c], .agg #[.slice fa fns.length fc, .slice fb fes.length fd]] w fun e w' => e = .returned (.tuple #[.bool (hrV n t (rs.map Ru.abs) (Fs.mk fns (fes.map Eg.abs))), .bool (hrOk n t (rs.map Ru.abs) (Fs.mk fns (fes.map Eg.abs)))]) ∧ Below w.heap.size w w'
  have HX := Lib.hid hx; clear hx
  have H2 := Lib.hid h2; clear h2
  have HF := Lib.hid hf; clear hf
  have hme : fes.length ≤ 1048576 := hm.e
  have hmn : fns.length ≤ 1048576 := hm.n
  have HMR : Hid (∀ u ∈ fes, u.r.length ≤ 1048576) := hm.r
  have HM := Lib.hid hm; clear hm
  have HGD : Hid (∀ v, Below w.heap.size w v → Calls Tryd.prog 40 #[.agg #[.int .i64 n, .int .i64 t, .slice A rs.length c]] v fun e v' => e = .returned (.bool (goodG n t (rs.map Ru.abs))) ∧ Below v.heap.size v v') := fun v hv => specGood_any n t A c rs v ((HX.out.keep hv).more hv.size) hc h1 H2.out
  have HSM : Hid (∀ v, Below w.heap.size w v → Calls Tryd.prog 28 #[.agg #[.slice fa fns.length fc, .slice fb fes.length fd]] v fun e v' => e = .returned (.bool (smF (Fs.mk fns (fes.map Eg.abs)))) ∧ Below v.heap.size v v') := fun v hv => l9Sized_any (Fo.mk fa fns fc fb fes fd) v HM.out
  have HCH : Hid (∀ (u : Eg) v, Below w.heap.size w v → Ints v v.heap.size u.a u.r → u.r.length ≤ 1048576 → (∀ z ∈ rs, z.r.length ≤ 1000) → Calls Tryd.prog 41 #[.agg #[.int .i64 n, .int .i64 t, .slice A rs.length c], .agg #[.slice fa fns.length fc, .slice fb fes.length fd], .agg #[.int .i64 u.n, .int .i64 u.e, .slice u.a u.r.length u.c]] v (GaveIB v (chV (rs.map Ru.abs) fns u.abs) (chB (rs.map Ru.abs) fns u.abs))) := fun u v hv h3 h4 h5 =>
    specChildren_any n t A rs c (Fo.mk fa fns fc fb fes fd) u v ((HX.out.keep hv).more hv.size) h1 h5 ((HF.out.1.keep hv).more hv.size) hmn h3 h4
  have HRD : Hid (∀ v, Below w.heap.size w v → fns.length ≤ 600 → fes.length ≤ 600 → (∀ z ∈ rs, z.r.length ≤ 1000) → Calls Tryd.prog 47 #[.agg #[.int .i64 n, .int .i64 t, .slice A rs.length c], .agg #[.slice fa fns.length fc, .slice fb fes.length fd]] v fun e v' => e = .returned (.bool (bP (HasCyc fns.length (LeadsTo (leadL (rs.map Ru.abs) (Fs.mk fns (fes.map Eg.abs))))))) ∧ Below v.heap.size v v') := fun v hv h3 h4 h5 =>
    l9Round_any n t A rs c (Fo.mk fa fns fc fb fes fd) v ((HX.out.keep hv).more hv.size) h1 h5 ((HF.out.keep hv).more hv.size) h3 h4 HM.out
  have HNO : Hid (hrOk n t (rs.map Ru.abs) (Fs.mk fns (fes.map Eg.abs)) = false → hrV n t (rs.map Ru.abs) (Fs.mk fns (fes.map Eg.abs)) = false) := fun h => by unfold hrV; rw [h]; rfl
  have HEG : Hid (Egs w w.heap.size fb fes) := HF.out.2
  go_enter Tryd.func22, Tryd.ntmps22
  go_wp2_with fail
  have hB0 : Below w.heap.size w ((w.alloc (.cells #[.int .i64 n, .int .i64 t, .slice A rs.length c] 47)).alloc (.cells #[.slice fa fns.length fc, .slice fb fes.length fd] 33)) := by go_grown
  have R0 : Row ((w.alloc (.cells #[.int .i64 n, .int .i64 t, .slice A rs.length c] 47)).alloc (.cells #[.slice fa fns.length fc, .slice fb fes.length fd] 33)) w.heap.size 47 #[.int .i64 n, .int .i64 t, .slice A rs.length c] := (Row.new _ _ _).alloc _
  have R1 : Row ((w.alloc (.cells #[.int .i64 n, .int .i64 t, .slice A rs.length c] 47)).alloc (.cells #[.slice fa fns.length fc, .slice fb fes.length fd] 33)) (w.heap.size + 1) 33 #[.slice fa fns.length fc, .slice fb fes.length fd] := by
    have h := Row.new (w.alloc (.cells #[.int .i64 n, .int .i64 t, .slice A rs.length c] 47)) 33 #[.slice fa fns.length fc, .slice fb fes.length fd]
    rw [World.size_alloc] at h; exact h
  have hS2 : ((w.alloc (.cells #[.int .i64 n, .int .i64 t, .slice A rs.length c] 47)).alloc (.cells #[.slice fa fns.length fc, .slice fb fes.length fd] 33)).heap.size = w.heap.size + 2 := by simp
  generalize ((w.alloc (.cells #[.int .i64 n, .int .i64 t, .slice A rs.length c] 47)).alloc (.cells #[.slice fa fns.length fc, .slice fb fes.length fd] 33)) = W at hB0 R0 R1 hS2 ⊢
  have HB0 := Lib.hid hB0; clear hB0
  have HSK : Hid (∀ v, Below (w.heap.size + 2) W v → v.cell? ⟨w.heap.size, 0, none⟩ = some (.int .i64 n) ∧ v.cell? ⟨w.heap.size, 1, none⟩ = some (.int .i64 t) ∧ v.cell? ⟨w.heap.size, 2, none⟩ = some (.slice A rs.length c) ∧ v.cell? ⟨w.heap.size + 1, 0, none⟩ = some (.slice fa fns.length fc) ∧ v.cell? ⟨w.heap.size + 1, 1, none⟩ = some (.slice fb fes.length fd)) := fun v hv => by
    have r := R0.below hv (by omega)
    have q := R1.below hv (by omega)
    refine ⟨?_, ?_, ?_, ?_, ?_⟩
    · simpa using r.cell 0
    · simpa using r.cell 1
    · simpa using r.cell 2
    · simpa using q.cell 0
    · simpa using q.cell 1
  have HDN : Hid (∀ v, Below (w.heap.size + 2) W v → Below w.heap.size w v) := fun v hv => HB0.out.trans (hv.mono (by omega))
  clear R0 R1
  refine (HGD.out _ HB0.out).mono ?_
  rintro e w1 ⟨rfl, hB1⟩
  have HW1 : Hid (Below (w.heap.size + 2) W w1) := hS2 ▸ hB1
  have hz1 : w.heap.size + 2 ≤ w1.heap.size := by have := hB1.size; omega
  clear hB1
  cases hg : goodG n t (rs.map Ru.abs)
  · have HC : Hid (hrOk n t (rs.map Ru.abs) (Fs.mk fns (fes.map Eg.abs)) = false) := by show _ = _; unfold hrOk; rw [hg]; rfl
    clear hg
    go_wp2
    go_ret2
    exact ⟨by rw [HNO.out HC.out, HC.out]; rfl, HDN.out _ HW1.out⟩
  have HG := Lib.hid hg; clear hg
  obtain ⟨s0, s1, s2, s3, s4⟩ := HSK.out w1 HW1.out
  go_wp2_with fail
  refine (HSM.out _ (HDN.out _ HW1.out)).mono ?_
  rintro e w2 ⟨rfl, hB2⟩
  have HW2 : Hid (Below (w.heap.size + 2) W w2) := HW1.out.trans (hB2.mono hz1)
  have hz2 : w.heap.size + 2 ≤ w2.heap.size := Nat.le_trans hz1 hB2.size
  clear s0 s1 s2 s3 s4 hB2 HW1 hz1
  cases hs : smF (Fs.mk fns (fes.map Eg.abs))
  · have HC : Hid (hrOk n t (rs.map Ru.abs) (Fs.mk fns (fes.map Eg.abs)) = false) := by show _ = _; unfold hrOk; rw [HG.out, hs]; rfl
    clear hs
    go_wp2
    go_ret2
    exact ⟨by rw [HNO.out HC.out, HC.out]; rfl, HDN.out _ HW2.out⟩
  have HS := Lib.hid hs
  obtain ⟨hfn, hfe⟩ := smF_is hs
  replace hfn : fns.length ≤ 600 := hfn
  replace hfe : fes.length ≤ 600 := by simpa using hfe
  clear hs
  have HR16 : Hid (∀ v ∈ rs, v.r.length ≤ 1000) := fun v hv => by
    have h := goodG_four HG.out v.abs (List.mem_map_of_mem hv)
    simp only [Ru.abs] at h
    omega
  have HBAD : Hid (∀ k (h : k < fes.length), edOk (rs.map Ru.abs) (Fs.mk fns (fes.map Eg.abs)) fes[k].abs = false → hrOk n t (rs.map Ru.abs) (Fs.mk fns (fes.map Eg.abs)) = false) := fun k h hb => by
    unfold hrOk
    rw [HG.out, HS.out, Bool.true_and, Bool.true_and, List.all_eq_false]
    exact ⟨fes[k].abs, List.mem_map_of_mem (List.getElem_mem h), by rw [hb]; simp⟩
  have HALL : Hid ((∀ k (h : k < fes.length), edOk (rs.map Ru.abs) (Fs.mk fns (fes.map Eg.abs)) fes[k].abs = true) → hrOk n t (rs.map Ru.abs) (Fs.mk fns (fes.map Eg.abs)) = true) := fun h => by
    unfold hrOk
    rw [HG.out, HS.out, Bool.true_and, Bool.true_and, List.all_eq_true]
    intro e he
    obtain ⟨u, hu, rfl⟩ := List.mem_map.1 he
    obtain ⟨k, hk, rfl⟩ := List.getElem_of_mem hu
    exact h k hk
  obtain ⟨s0, s1, s2, s3, s4⟩ := HSK.out w2 HW2.out
  have hw0 : IntKind.i64.wrap ((fns.length : Int) - 1) = (fns.length : Int) - 1 := by rw [IntKind.wrap_i64]; omega
  have HIN : Hid (∀ (x : Int) v, Calls Tryd.prog 29 #[.int .i64 x, .int .i64 0, .int .i64 ((fns.length : Int) - 1)] v fun e v' => e = .returned (.bool (nodB (Fs.mk fns (fes.map Eg.abs)) x)) ∧ v = v') := fun x v => by
    refine (l1In_any x 0 ((fns.length : Int) - 1) v).mono ?_
    rintro e v' ⟨rfl, rfl⟩
    refine ⟨ret_b ?_, rfl⟩
    unfold inB nodB
    exact decide_eq_decide.2 ⟨fun h => ⟨h.1, by show x < (fns.length : Int); omega⟩, fun h => ⟨h.1, by have h2 : x < (fns.length : Int) := h.2; omega⟩⟩
  go_wp2
  go_loopw [21] (fun i wr => ∃ (k : Nat), k ≤ fes.length ∧ i = .int .i64 k ∧ w.heap.size + 2 ≤ wr.heap.size ∧ Below (w.heap.size + 2) W wr ∧ Hid (∀ j (h : j < fes.length), j < k → edOk (rs.map Ru.abs) (Fs.mk fns (fes.map Eg.abs)) fes[j].abs = true)) (fun i _ => fes.length - (intOf i).toNat)
  case atStart => exact ⟨0, by omega, rfl, hz2, HW2.out, fun j h hj => absurd hj (by omega)⟩
  case round =>
    clear s0 s1 s2 s3 s4
    obtain ⟨k, hk, rfl, hz, hB, H⟩ := hrel
    obtain ⟨s0, s1, s2, s3, s4⟩ := HSK.out wr hB
    by_cases hlt : k < fes.length
    · obtain ⟨eb, eo, rfl, hE⟩ := HEG.out.edge hlt
      have hE' := hE.keep (HDN.out wr hB)
      obtain ⟨hebl, e0, e1, e2, e3⟩ := hE'
      have HE3 := Lib.hid e3; clear e3 hE
      have hul := HMR.out fes[k] (List.getElem_mem hlt)
      have hq1 : w.heap.size < wr.heap.size := by omega
      have hq2 : w.heap.size + 1 < wr.heap.size := by omega
      go_wp2_with fail
      have hBX : Below wr.heap.size wr (wr.alloc (.cells #[.int .i64 fes[k].n, .int .i64 fes[k].e, .slice fes[k].a fes[k].r.length fes[k].c] 67)) := by go_grown
      have RX : Row (wr.alloc (.cells #[.int .i64 fes[k].n, .int .i64 fes[k].e, .slice fes[k].a fes[k].r.length fes[k].c] 67)) wr.heap.size 67 #[.int .i64 fes[k].n, .int .i64 fes[k].e, .slice fes[k].a fes[k].r.length fes[k].c] := Row.new _ _ _
      generalize (wr.alloc (.cells #[.int .i64 fes[k].n, .int .i64 fes[k].e, .slice fes[k].a fes[k].r.length fes[k].c] 67)) = X at hBX RX ⊢
      have HBX : Hid (Below (w.heap.size + 2) W X) := hB.trans (hBX.mono hz)
      have HEX := Lib.hid ((HE3.out.keep hBX).more hBX.size); clear HE3
      clear s0 s1 s2 s3 s4 e0 e1 e2 hq1 hq2
      refine (HCH.out fes[k] X (HDN.out X HBX.out) HEX.out hul HR16.out).mono ?_
      rintro e w3 ⟨A3, c3, rfl, _, hB3⟩
      have RX3 := RX.below hB3 RX.lt
      have hXz : w.heap.size + 2 ≤ X.heap.size := Nat.le_trans hz hBX.size
      have HB3 : Hid (Below (w.heap.size + 2) W w3) := HBX.out.trans (hB3.mono hXz)
      have hz3 : w.heap.size + 2 ≤ w3.heap.size := Nat.le_trans hXz hB3.size
      have q0 := RX3.cell 0
      simp only [List.getElem?_toArray, List.getElem?_cons_zero] at q0
      obtain ⟨s0, s1, s2, s3, s4⟩ := HSK.out w3 HB3.out
      have HOKE : Hid (edOk (rs.map Ru.abs) (Fs.mk fns (fes.map Eg.abs)) fes[k].abs = (chB (rs.map Ru.abs) fns fes[k].abs && nodB (Fs.mk fns (fes.map Eg.abs)) fes[k].n)) := rfl
      have HBADK := Lib.hid (HBAD.out k hlt)
      generalize chB (rs.map Ru.abs) fns fes[k].abs = kok at HOKE ⊢
      clear hBX RX RX3 hB3 hB hz
      cases kok
      · have HC : Hid (hrOk n t (rs.map Ru.abs) (Fs.mk fns (fes.map Eg.abs)) = false) := HBADK.out (by rw [HOKE.out]; rfl)
        go_wp2
        go_ret2
        exact ⟨by rw [HNO.out HC.out, HC.out]; rfl, HDN.out _ HB3.out⟩
      · go_wp2_with fail
        refine (HIN.out _ _).mono ?_
        rintro e w4 ⟨rfl, hw4⟩
        subst hw4
        cases hnb : nodB (Fs.mk fns (fes.map Eg.abs)) fes[k].n
        · have HC : Hid (hrOk n t (rs.map Ru.abs) (Fs.mk fns (fes.map Eg.abs)) = false) := HBADK.out (by rw [HOKE.out, hnb]; rfl)
          clear hnb
          go_wp2
          go_ret2
          exact ⟨by rw [HNO.out HC.out, HC.out]; rfl, HDN.out _ HB3.out⟩
        · have HOK1 : Hid (edOk (rs.map Ru.abs) (Fs.mk fns (fes.map Eg.abs)) fes[k].abs = true) := HOKE.out.trans (by rw [hnb]; rfl)
          clear hnb
          go_wp2
          go_roundw
          case rel => exact ⟨k + 1, by omega, by go_num, hz3, HB3.out, fun j h hj => by
            by_cases e : j = k
            · subst e; exact HOK1.out
            · exact H.out j h (by omega)⟩
          case measure => simp [intOf]; omega
    · obtain rfl : k = fes.length := by omega
      have HC : Hid (hrOk n t (rs.map Ru.abs) (Fs.mk fns (fes.map Eg.abs)) = true) := HALL.out fun k h => H.out k h h
      have HV : Hid (hrV n t (rs.map Ru.abs) (Fs.mk fns (fes.map Eg.abs)) = bP (HasCyc fns.length (LeadsTo (leadL (rs.map Ru.abs) (Fs.mk fns (fes.map Eg.abs)))))) := by show _ = _; unfold hrV; rw [HC.out]; rfl
      have hq1 : w.heap.size < wr.heap.size := by omega
      have hq2 : w.heap.size + 1 < wr.heap.size := by omega
      go_wp2_with fail
      refine (HRD.out wr (HDN.out wr hB) hfn hfe HR16.out).mono ?_
      rintro e w3 ⟨rfl, hB3⟩
      clear s0 s1 s2 s3 s4
      go_wp2
      go_ret2
      exact ⟨by rw [HV.out, HC.out]; rfl, HDN.out _ (hB.trans (hB3.mono hz))⟩

end Go.Proofs.YtbgjlabjihoaaaaDoor

/- The law of HasRound: its walk. -/

namespace Go.Proofs.YtbgjlabjihoaaaaDoor
open Go.RowKit

set_option maxRecDepth 20000 in
set_option maxHeartbeats 2000000 in
theorem law_HasRound (n t : Int) (A : Option Addr) (c : Nat) (rs : List Ru) (f : Fo) (w : World) (hx : Rls w w.heap.size A rs) (hn : rs.length ≤ maxLen) (hu : ∀ u ∈ rs, u.r.length ≤ maxLen) (hfr : FitR rs) (hf : ReadF w w.heap.size f) (hm : LenF maxLen f) (hfe : FitE f.es) (hL : Lims w) :
    Calls Tryd.prog 5 #[.agg #[.int .i64 n, .int .i64 t, .slice A rs.length c], (.agg #[.slice f.a f.ns.length f.c, .slice f.b f.es.length f.d])] w (LawEnds w) := by
  have HX := Lib.hid hx; clear hx
  have HF := Lib.hid hf; clear hf
  have HL := Lib.hid hL; clear hL
  have HU := Lib.hid hu; clear hu
  have HM := Lib.hid hm; clear hm
  have HFR := Lib.hid hfr; clear hfr
  have HFE := Lib.hid hfe; clear hfe
  go_enter Tryd.func5, Tryd.ntmps5
  go_wp2_with fail
  have hBA : Below w.heap.size w ((w.alloc (.cells #[.int .i64 n, .int .i64 t, .slice A rs.length c] 42)).alloc (.cells #[.slice f.a f.ns.length f.c, .slice f.b f.es.length f.d] 25)) := by go_grown
  have R0 : Row ((w.alloc (.cells #[.int .i64 n, .int .i64 t, .slice A rs.length c] 42)).alloc (.cells #[.slice f.a f.ns.length f.c, .slice f.b f.es.length f.d] 25)) w.heap.size 42 #[.int .i64 n, .int .i64 t, .slice A rs.length c] := (Row.new _ _ _).alloc _
  have B1 : BoxF ((w.alloc (.cells #[.int .i64 n, .int .i64 t, .slice A rs.length c] 42)).alloc (.cells #[.slice f.a f.ns.length f.c, .slice f.b f.es.length f.d] 25)) (w.heap.size + 1) f := by
    have h := BoxF.new (w.alloc (.cells #[.int .i64 n, .int .i64 t, .slice A rs.length c] 42)) f 25
    rw [World.size_alloc] at h; exact h
  generalize ((w.alloc (.cells #[.int .i64 n, .int .i64 t, .slice A rs.length c] 42)).alloc (.cells #[.slice f.a f.ns.length f.c, .slice f.b f.es.length f.d] 25)) = W at hBA R0 B1 ⊢
  have HBA := Lib.hid hBA; clear hBA
  have HSK : Hid (∀ v, Below W.heap.size W v → (v.cell? ⟨w.heap.size, 0, none⟩ = some (.int .i64 n) ∧ v.cell? ⟨w.heap.size, 1, none⟩ = some (.int .i64 t) ∧ v.cell? ⟨w.heap.size, 2, none⟩ = some (.slice A rs.length c)) ∧ (v.cell? ⟨w.heap.size + 1, 0, none⟩ = some (.slice f.a f.ns.length f.c) ∧ v.cell? ⟨w.heap.size + 1, 1, none⟩ = some (.slice f.b f.es.length f.d))) := fun v hv => by
    have r := R0.below hv R0.lt
    have b := B1.keep hv B1.1
    refine ⟨⟨?_, ?_, ?_⟩, b.2⟩
    · simpa using r.cell 0
    · simpa using r.cell 1
    · simpa using r.cell 2
  have HWL : Hid (w.heap.size + 1 < W.heap.size) := B1.1
  clear R0 B1
  refine (szGrammar_any _ _ _ _ _ _ _ ((HX.out.keep HBA.out).more HBA.out.size) hn HU.out (by omega) (by omega)).mono ?_
  rintro e w1 ⟨rfl, hB1⟩
  have HW1 := Lib.hid hB1; clear hB1
  by_cases hneg : szRs rs 1048576 < 0
  · go_wp2
    go_ret
    exact ⟨rfl, HBA.out.trans (HW1.out.mono HBA.out.size)⟩
  obtain ⟨hlen0, hlens0⟩ := szRs_bound (L := 1048576) (by omega) (by omega : 0 ≤ szRs rs 1048576)
  have hszl : szRs rs 1048576 ≤ 1048576 := szRs_low (by omega) (by omega)
  have hlen : rs.length ≤ 1048576 := by omega
  have HLN : Hid (∀ u ∈ rs, u.r.length ≤ 1048576) := fun u hu => by have := hlens0 u hu; omega
  clear hlen0 hlens0
  obtain ⟨⟨a0, a1, a2⟩, b0, b1⟩ := HSK.out w1 HW1.out
  go_wp2_with fail
  refine (szForest_any _ _ _ ((HF.out.keep (HBA.out.trans (HW1.out.mono HBA.out.size))).more (Nat.le_trans HBA.out.size HW1.out.size)) HM.out (by omega) hszl).mono ?_
  rintro e w2 ⟨rfl, hB2⟩
  have HW2 := Lib.hid (HW1.out.trans (hB2.mono HW1.out.size)); clear hB2 HW1
  clear a0 a1 a2 b0 b1
  by_cases hneg2 : szFo f.ns.length f.es (szRs rs 1048576) < 0
  · go_wp2
    go_ret
    exact ⟨rfl, HBA.out.trans (HW2.out.mono HBA.out.size)⟩
  have HLM : Hid (LenF 1048576 f) := (szFo_bound (f := f) (L := szRs rs 1048576) (by omega) hszl (by omega)).1
  have HTG : Hid (∀ v, Below W.heap.size W v → Calls Tryd.prog 18 #[.agg #[.int .i64 n, .int .i64 t, .slice A rs.length c]] v (GaveG v n t (rs.map Ru.abs))) := fun v hv => by
    have hb := HBA.out.trans (hv.mono HBA.out.size)
    exact toGrammar_any n t A rs c v ((HX.out.keep hb).more hb.size) hlen HLN.out
  have HTF : Hid (∀ v, Below W.heap.size W v → Calls Tryd.prog 9 #[(.agg #[.slice f.a f.ns.length f.c, .slice f.b f.es.length f.d])] v (GaveF v f.say)) := fun v hv => by
    have hb := HBA.out.trans (hv.mono HBA.out.size)
    exact toForest_any f v ((HF.out.keep hb).more hb.size) HLM.out
  have HSPE : Hid (∀ (A' : Option Addr) (rs' : List Ru) (c' : Nat) (f' : Fo) (lo lo' : Nat) (v : World), OwnR v lo A' rs' → rs'.length ≤ c' → rs'.map Ru.abs = rs.map Ru.abs → OwnF v lo' f' → f'.say = f.say → Calls Tryd.prog 22 #[.agg #[.int .i64 n, .int .i64 t, .slice A' rs'.length c'], (.agg #[.slice f'.a f'.ns.length f'.c, .slice f'.b f'.es.length f'.d])] v (fun e v' => e = .returned (.tuple #[.bool (hrV n t (rs.map Ru.abs) f.say), .bool (hrOk n t (rs.map Ru.abs) f.say)]) ∧ Below v.heap.size v v')) := fun A' rs' c' f' lo lo' v h1 h2 h3 h4 h5 => by
    have h6 := specHasRound_any n t A' rs' c' f' v h1.rls h2 (by have := abs_len h3; omega) (abs_lens h3 HLN.out) h4.read (HLM.out.of_say h5)
    rw [h3, h5] at h6
    exact h6
  have HIMP : Hid (∀ (A' : Option Addr) (rs' : List Ru) (c' : Nat) (f' : Fo) (lo lo' : Nat) (v : World), OwnR v lo A' rs' → rs'.length ≤ c' → rs'.map Ru.abs = rs.map Ru.abs → OwnF v lo' f' → f'.say = f.say → Below W.heap.size W v → Calls Tryd.prog 23 #[.agg #[.int .i64 n, .int .i64 t, .slice A' rs'.length c'], (.agg #[.slice f'.a f'.ns.length f'.c, .slice f'.b f'.es.length f'.d])] v (fun e v' => e = .returned (.tuple #[.bool (hrV n t (rs.map Ru.abs) f.say), .bool (hrOk n t (rs.map Ru.abs) f.say)]) ∧ Below v.heap.size v v')) := fun A' rs' c' f' lo lo' v h1 h2 h3 h4 h5 hv => by
    have h6 := implHasRound_any n t A' rs' c' f' v h1.rls (HL.out.keep (HBA.out.trans (hv.mono HBA.out.size)) (Nat.le_refl _)) h2 (by have := abs_len h3; omega) (abs_lens h3 HLN.out) (abs_fit h3 HFR.out) h4.read (HLM.out.of_say h5)
    rw [h3, h5] at h6
    exact h6
  generalize hrV n t (rs.map Ru.abs) f.say = bv at HIMP HSPE
  generalize hrOk n t (rs.map Ru.abs) f.say = ok at HIMP HSPE
  have hbv : (bv != bv) = false := by simp
  -- the reference's answer
  obtain ⟨⟨a0, a1, a2⟩, b0, b1⟩ := HSK.out w2 HW2.out
  go_wp2_with fail
  go_region_held3 (fun w' => (w'.cell? ⟨w.heap.size, 0, none⟩ = some (.int .i64 n) ∧ w'.cell? ⟨w.heap.size, 1, none⟩ = some (.int .i64 t) ∧ w'.cell? ⟨w.heap.size, 2, none⟩ = some (.slice A rs.length c)) ∧ (w'.cell? ⟨w.heap.size + 1, 0, none⟩ = some (.slice f.a f.ns.length f.c) ∧ w'.cell? ⟨w.heap.size + 1, 1, none⟩ = some (.slice f.b f.es.length f.d)))
    (first | exact HSK.out _ HV5.out | exact HSK.out _ HV4.out | exact HSK.out _ HV3.out | exact ⟨⟨a0, a1, a2⟩, b0, b1⟩)
    (first
    | (go_at_call 18
       with_reducible refine (HTG.out _ ?_).mono ?_
       · exact HW2.out.trans (Below.mono (B := w2.heap.size) (by go_grown) HW2.out.size)
       rintro e w3 ⟨A3, c3, rs3, rfl, hc3, hO3, hs3, hB3'⟩
       have hB3 : Below w2.heap.size w2 w3 := Below.trans (by go_grown) hB3'
       have HV3 := Lib.hid (HW2.out.trans (hB3.mono HW2.out.size))
       have hsz2 := hB3.size
       have HO3 := Lib.hid hO3
       have HS3 := Lib.hid hs3
       have HC3 := Lib.hid hc3
       clear hO3 hs3 hB3 hB3' hc3)
    | (go_at_call 9
       with_reducible refine (HTF.out _ HV3.out).mono ?_
       rintro e w4 ⟨f4, rfl, hs4, hO4, _, hB4'⟩
       have HV4 := Lib.hid (HV3.out.trans (hB4'.mono HV3.out.size))
       replace hsz2 := Nat.le_trans hsz2 hB4'.size
       have HP3 := Lib.hid (HO3.out.below hB4' (Nat.le_refl _))
       have HO4 := Lib.hid hO4
       have HS4 := Lib.hid hs4
       clear hO4 hs4 hB4')
    | (go_at_call 22
       with_reducible refine (HSPE.out _ _ _ _ _ _ _ HP3.out HC3.out HS3.out HO4.out HS4.out).mono ?_
       rintro e w5 ⟨rfl, hB5'⟩
       have HV5 := Lib.hid (HV4.out.trans (hB5'.mono HV4.out.size))
       have HZ5 := Lib.hid (Nat.le_trans hsz2 hB5'.size)
       clear hB5'))
  rename_i hHeld
  clear hHeld a0 a1 a2 b0 b1 HO3 HP3 HC3 HS3 HO4 HS4 HV3 HV4
  clear HW2 HSPE HZ5
  -- the program's arguments, copies
  obtain ⟨⟨a0, a1, a2⟩, b0, b1⟩ := HSK.out w5 HV5.out
  go_wp2_with fail
  refine (HTG.out _ HV5.out).mono ?_
  rintro e w6 ⟨A6, c6, rs6, rfl, hc6, hO6, hs6, hB6⟩
  clear a0 a1 a2 b0 b1
  have HW6 := Lib.hid (HV5.out.trans (hB6.mono HV5.out.size))
  have HI6 : Hid (∀ b, ItsR A6 rs6 b → w5.heap.size ≤ b ∧ b < w6.heap.size) := fun b hb => hO6.its hb
  have HS6 := Lib.hid hs6; clear hs6
  have HC6 := Lib.hid hc6; clear hc6
  have hl6 : rs6.length ≤ 1048576 := by have := abs_len HS6.out; omega
  have HLN6 := Lib.hid (abs_lens HS6.out HLN.out)
  have HZ6 := Lib.hid hB6.size
  clear hB6
  obtain ⟨⟨a0, a1, a2⟩, b0, b1⟩ := HSK.out w6 HW6.out
  have hq6 : w.heap.size + 1 < w6.heap.size := Nat.lt_of_lt_of_le HWL.out HW6.out.size
  go_wp2_with fail
  clear hq6
  clear a0 a1 a2 b0 b1
  have hBX : Below w6.heap.size w6 (w6.alloc (.cells #[.int .i64 n, .int .i64 t, .slice A6 rs6.length c6] 47)) := by go_grown
  have R6 : Row (w6.alloc (.cells #[.int .i64 n, .int .i64 t, .slice A6 rs6.length c6] 47)) w6.heap.size 47 #[.int .i64 n, .int .i64 t, .slice A6 rs6.length c6] := Row.new _ _ _
  generalize (w6.alloc (.cells #[.int .i64 n, .int .i64 t, .slice A6 rs6.length c6] 47)) = X at hBX R6 ⊢
  have HOX := Lib.hid (hO6.below hBX (Nat.le_refl _)); clear hO6
  have HWX := Lib.hid (HW6.out.trans (hBX.mono HW6.out.size))
  have HR6 := Lib.hid R6; clear R6
  have HZX : Hid (w6.heap.size < X.heap.size) := HR6.out.lt
  clear hBX HW6
  refine (HTF.out _ HWX.out).mono ?_
  rintro e w7 ⟨f7, rfl, hs7, hO7, _, hB7⟩
  have HW7 := Lib.hid (HWX.out.trans (hB7.mono HWX.out.size))
  have HI7 : Hid (∀ b, ItsF f7 b → X.heap.size ≤ b ∧ b < w7.heap.size) := fun b hb => hO7.its hb
  have HS7 := Lib.hid hs7; clear hs7
  have HLM7 := Lib.hid (HLM.out.of_say HS7.out)
  have HO67 := Lib.hid (HOX.out.below hB7 (Nat.le_refl _)); clear HOX
  have HR67 := Lib.hid (HR6.out.below hB7 HR6.out.lt); clear HR6
  have HZ7 := Lib.hid hB7.size
  clear hB7 HWX
  have x0 := HR67.out.cell 0
  have x1 := HR67.out.cell 1
  have x2 := HR67.out.cell 2
  simp only [List.getElem?_toArray, List.getElem?_cons_succ, List.getElem?_cons_zero] at x0 x1 x2
  have hr6 := HR67.out.lt
  go_wp2_with fail
  clear x0 x1 x2 hr6
  have hBY : Below w7.heap.size w7 (w7.alloc (.cells #[.slice f7.a f7.ns.length f7.c, .slice f7.b f7.es.length f7.d] 33)) := by go_grown
  have B7 := BoxF.new w7 f7 33
  generalize (w7.alloc (.cells #[.slice f7.a f7.ns.length f7.c, .slice f7.b f7.es.length f7.d] 33)) = Y at hBY B7 ⊢
  have HOY := Lib.hid (HO67.out.below hBY (Nat.le_refl _)); clear HO67
  have HOF := Lib.hid (hO7.below hBY (Nat.le_refl _)); clear hO7
  have HRY := Lib.hid (HR67.out.below hBY HR67.out.lt); clear HR67
  have HBY := Lib.hid B7; clear B7
  have HWY := Lib.hid (HW7.out.trans (hBY.mono HW7.out.size))
  clear hBY HW7
  have HZY := Lib.hid HBY.out.1
  have HSX : Hid (∀ v, Below Y.heap.size Y v → (v.cell? ⟨w6.heap.size, 0, none⟩ = some (.int .i64 n) ∧ v.cell? ⟨w6.heap.size, 1, none⟩ = some (.int .i64 t) ∧ v.cell? ⟨w6.heap.size, 2, none⟩ = some (.slice A6 rs6.length c6)) ∧ (v.cell? ⟨w7.heap.size, 0, none⟩ = some (.slice f7.a f7.ns.length f7.c) ∧ v.cell? ⟨w7.heap.size, 1, none⟩ = some (.slice f7.b f7.es.length f7.d))) := fun v hv => by
    have r := HRY.out.below hv HRY.out.lt
    have b := HBY.out.keep hv HBY.out.1
    refine ⟨⟨?_, ?_, ?_⟩, b.2⟩
    · simpa using r.cell 0
    · simpa using r.cell 1
    · simpa using r.cell 2
  refine (HIMP.out _ _ _ _ _ _ _ HOY.out HC6.out HS6.out HOF.out HS7.out HWY.out).mono ?_
  rintro e w9 ⟨rfl, hB9⟩
  have HY9 := Lib.hid hB9; clear hB9
  have hok : (ok != ok) = false := by simp
  have HTG9 : Hid (∀ v, Below Y.heap.size Y v → Calls Tryd.prog 18 #[.agg #[.int .i64 n, .int .i64 t, .slice A rs.length c]] v (GaveG v n t (rs.map Ru.abs))) := fun v hv => HTG.out v (HWY.out.trans (hv.mono HWY.out.size))
  have HTF9 : Hid (∀ v, Below Y.heap.size Y v → Calls Tryd.prog 9 #[(.agg #[.slice f.a f.ns.length f.c, .slice f.b f.es.length f.d])] v (GaveF v f.say)) := fun v hv => HTF.out v (HWY.out.trans (hv.mono HWY.out.size))
  have HQG : Hid (∀ (B : Option Addr) (ss : List Ru) (d lo : Nat) (v : World), Below Y.heap.size Y v → OwnR v lo B ss → ss.map Ru.abs = rs.map Ru.abs → Calls Tryd.prog 20 #[.agg #[.int .i64 n, .int .i64 t, .slice A6 rs6.length c6], .agg #[.int .i64 n, .int .i64 t, .slice B ss.length d]] v fun e v' => e = .returned (.bool true) ∧ Below v.heap.size v v') := fun B ss d lo v hv h1 h2 => by
    have h := eqGrammar_any n t n t A6 B rs6 ss c6 d v ((HOY.out.rls.keep hv).more hv.size) h1.rls hl6 HLN6.out
    rw [eqG_t (HS6.out.trans h2.symm)] at h
    exact h
  have HQF : Hid (∀ g v, Below Y.heap.size Y v → ReadF v v.heap.size g → g.say = f.say → Calls Tryd.prog 12 #[(.agg #[.slice f7.a f7.ns.length f7.c, .slice f7.b f7.es.length f7.d]), (.agg #[.slice g.a g.ns.length g.c, .slice g.b g.es.length g.d])] v fun e v' => e = .returned (.bool true) ∧ Below v.heap.size v v') := fun g v hv h1 h2 =>
    eqForest_same f7 g v ((HOF.out.read.keep hv).more hv.size) h1 HLM7.out (HS7.out.trans h2.symm)
  have HSZ : Hid (∀ v, Below Y.heap.size Y v → ((v.cell? ⟨w6.heap.size, 0, none⟩ = some (.int .i64 n) ∧ v.cell? ⟨w6.heap.size, 1, none⟩ = some (.int .i64 t) ∧ v.cell? ⟨w6.heap.size, 2, none⟩ = some (.slice A6 rs6.length c6)) ∧ (v.cell? ⟨w7.heap.size, 0, none⟩ = some (.slice f7.a f7.ns.length f7.c) ∧ v.cell? ⟨w7.heap.size, 1, none⟩ = some (.slice f7.b f7.es.length f7.d))) ∧ (v.cell? ⟨w.heap.size, 0, none⟩ = some (.int .i64 n) ∧ v.cell? ⟨w.heap.size, 1, none⟩ = some (.int .i64 t) ∧ v.cell? ⟨w.heap.size, 2, none⟩ = some (.slice A rs.length c)) ∧ (v.cell? ⟨w.heap.size + 1, 0, none⟩ = some (.slice f.a f.ns.length f.c) ∧ v.cell? ⟨w.heap.size + 1, 1, none⟩ = some (.slice f.b f.es.length f.d))) := fun v hv => ⟨HSX.out v hv, HSK.out v (HWY.out.trans (hv.mono HWY.out.size))⟩
  obtain ⟨⟨⟨x0, x1, x2⟩, x3, x4⟩, ⟨a0, a1, a2⟩, b0, b1⟩ := HSZ.out w9 HY9.out
  go_wp2_with fail
  go_region_held3 (fun w' => ((w'.cell? ⟨w6.heap.size, 0, none⟩ = some (.int .i64 n) ∧ w'.cell? ⟨w6.heap.size, 1, none⟩ = some (.int .i64 t) ∧ w'.cell? ⟨w6.heap.size, 2, none⟩ = some (.slice A6 rs6.length c6)) ∧ (w'.cell? ⟨w7.heap.size, 0, none⟩ = some (.slice f7.a f7.ns.length f7.c) ∧ w'.cell? ⟨w7.heap.size, 1, none⟩ = some (.slice f7.b f7.es.length f7.d))) ∧ (w'.cell? ⟨w.heap.size, 0, none⟩ = some (.int .i64 n) ∧ w'.cell? ⟨w.heap.size, 1, none⟩ = some (.int .i64 t) ∧ w'.cell? ⟨w.heap.size, 2, none⟩ = some (.slice A rs.length c)) ∧ (w'.cell? ⟨w.heap.size + 1, 0, none⟩ = some (.slice f.a f.ns.length f.c) ∧ w'.cell? ⟨w.heap.size + 1, 1, none⟩ = some (.slice f.b f.es.length f.d)))
    (first | exact HSZ.out _ HY11.out | exact HSZ.out _ HY10.out | exact ⟨⟨⟨x0, x1, x2⟩, x3, x4⟩, ⟨a0, a1, a2⟩, b0, b1⟩)
    (first
    | (go_at_call 18
       with_reducible refine (HTG9.out _ ?_).mono ?_
       · exact HY9.out.trans (Below.mono (B := w9.heap.size) (by go_grown) HY9.out.size)
       rintro e w10 ⟨A10, c10, rs10, rfl, _, hO10, hs10, hB10'⟩
       have hB10 : Below w9.heap.size w9 w10 := Below.trans (by go_grown) hB10'
       have HY10 := Lib.hid (HY9.out.trans (hB10.mono HY9.out.size))
       have HD10 := Lib.hid hB10
       have HO10 := Lib.hid hO10
       have HS10 := Lib.hid hs10
       clear hO10 hs10 hB10 hB10')
    | (go_at_call 20
       with_reducible refine (HQG.out _ _ _ _ _ HY10.out HO10.out HS10.out).mono ?_
       rintro e w11 ⟨rfl, hB11'⟩
       have HD11 := Lib.hid (HD10.out.trans (hB11'.mono HD10.out.size))
       have HY11 := Lib.hid (HY10.out.trans (hB11'.mono HY10.out.size))
       clear hB11'))
  rename_i hHeld
  clear hHeld x0 x1 x2 x3 x4 a0 a1 a2 b0 b1 HO10 HS10 HY10 HTG9 HQG HD10
  clear HD11
  obtain ⟨⟨⟨x0, x1, x2⟩, x3, x4⟩, ⟨a0, a1, a2⟩, b0, b1⟩ := HSZ.out w11 HY11.out
  go_wp2_with fail
  go_region_held3 (fun w' => ((w'.cell? ⟨w6.heap.size, 0, none⟩ = some (.int .i64 n) ∧ w'.cell? ⟨w6.heap.size, 1, none⟩ = some (.int .i64 t) ∧ w'.cell? ⟨w6.heap.size, 2, none⟩ = some (.slice A6 rs6.length c6)) ∧ (w'.cell? ⟨w7.heap.size, 0, none⟩ = some (.slice f7.a f7.ns.length f7.c) ∧ w'.cell? ⟨w7.heap.size, 1, none⟩ = some (.slice f7.b f7.es.length f7.d))) ∧ (w'.cell? ⟨w.heap.size, 0, none⟩ = some (.int .i64 n) ∧ w'.cell? ⟨w.heap.size, 1, none⟩ = some (.int .i64 t) ∧ w'.cell? ⟨w.heap.size, 2, none⟩ = some (.slice A rs.length c)) ∧ (w'.cell? ⟨w.heap.size + 1, 0, none⟩ = some (.slice f.a f.ns.length f.c) ∧ w'.cell? ⟨w.heap.size + 1, 1, none⟩ = some (.slice f.b f.es.length f.d)))
    (first | exact HSZ.out _ HY13.out | exact HSZ.out _ HY12.out | exact ⟨⟨⟨x0, x1, x2⟩, x3, x4⟩, ⟨a0, a1, a2⟩, b0, b1⟩)
    (first
    | (go_at_call 9
       with_reducible refine (HTF9.out _ ?_).mono ?_
       · exact HY11.out.trans (Below.mono (B := w11.heap.size) (by go_grown) HY11.out.size)
       rintro e w12 ⟨f12, rfl, hs12, hO12, _, hB12'⟩
       have hB12 : Below w11.heap.size w11 w12 := Below.trans (by go_grown) hB12'
       have HY12 := Lib.hid (HY11.out.trans (hB12.mono HY11.out.size))
       have HD12 := Lib.hid hB12
       have HO12 := Lib.hid hO12.read
       have HS12 := Lib.hid hs12
       clear hO12 hs12 hB12 hB12')
    | (go_at_call 12
       with_reducible refine (HQF.out _ _ HY12.out HO12.out HS12.out).mono ?_
       rintro e w13 ⟨rfl, hB13'⟩
       have HD13 := Lib.hid (HD12.out.trans (hB13'.mono HD12.out.size))
       have HY13 := Lib.hid (HY12.out.trans (hB13'.mono HY12.out.size))
       clear hB13'))
  rename_i hHeld
  clear hHeld x0 x1 x2 x3 x4 a0 a1 a2 b0 b1 HO12 HS12 HY12 HTF9 HQF HD12
  go_wp2
  go_ret
  exact ⟨rfl, HBA.out.trans ((HWY.out.trans (HY13.out.mono HWY.out.size)).mono HBA.out.size)⟩

end Go.Proofs.YtbgjlabjihoaaaaDoor

/- The law of HasRound holds of every grammar and forest: the call returns true, and what was handed in reads afterwards as it read before. Conditions: the package's table of limits is as the program's text lays it (tied by the given tie). -/

namespace Go.Proofs.YtbgjlabjihoaaaaDoor
open Go.ChangeShapes Go.WideShapes Go.ChangeAt Go.RowKit

set_option maxRecDepth 100000 in
theorem hasRound_lifted (os : Os) (started : os.Started) (H : Type) (enc : TypeId × Value → H) :
    ReturnsInHanded {} Tryd.checked os 5 .any (fun w args => (Rows.fnExactHasRoundSpec.pre enc Tryd.prog Tryd.f5 [] false w args ∧ laidMetH Tryd.prog laid1 w) ∧ sizedMet enc Tryd.prog Tryd.f5 (OpenSpec.ofChange Rows.fnExactHasRoundSpec) false w args)
      (Rows.fnExactHasRoundSpec.post enc Tryd.prog Tryd.f5 false true false false) := by
  refine returnsInHanded_of_change_and (C := Tryd.checked) (X := fun w _ => laidMetH Tryd.prog laid1 w) (fun _ _ _ hh h => h.of_heap hh) Tryd.own started (by kernel_rfl) Tryd.func5
    (ChangeSpec.witness_shaped (enc := enc) (C := Tryd.checked) (os := os) (X := fun w _ => laidMetH Tryd.prog laid1 w) false (World.doorLaid Tryd.prog 400 os) #[.agg #[.int .i64 0, .int .i64 0, .slice none 0 0], .agg #[.slice none 0 0, .slice none 0 0]] 8 rfl (World.shaped_of_RefB (by kernel_rfl) (by kernel_rfl)) (by kernel_rfl) (by kernel_rfl) (by kernel_rfl) (door_met os _)) ?_
  intro W base args ds gs before hval0 hW _ _ hL _
  have hval : ∀ (j : Nat) t v, Tryd.f5.params[j]? = some t → args[j]? = some v → Value.okWide Tryd.prog W .any base t v := hval0
  have hW' := hW
  obtain ⟨p, q, hA0, hV0, rfl, hfz, hnd⟩ := hW
  have hA : DataW.TrodAll enc Tryd.prog W 0 (fun _ => true) true Tryd.f5.params.toList args.toList ds p := hA0
  have hV : DataW.TrodVars enc Tryd.prog W (fun _ => true) ["loop.example/g00758/impl.limits"] gs q := hV0
  rw [Tryd.params5] at hA hval
  obtain ⟨v0, v1, d0, d1, p0, p1, rfl, rfl, rfl, h0, h1⟩ := trodAll_two hA
  obtain ⟨g, tg, cs, fuel, dg, pg, rfl, _⟩ := trodVars_one hV
  obtain ⟨n0, t0, A0, rs0, c0, rfl, _, hR0, hN0, hU0, hF0, _, _⟩ := open_grammar (hval 0 42 v0 rfl rfl) h0
  obtain ⟨f1, rfl, _, hR1, hM1, hF1⟩ := open_forest (hval 1 25 v1 rfl rfl) h1
  refine (law_HasRound n0 t0 A0 c0 rs0 f1 W hR0 hN0 hU0 hF0 hR1 hM1 hF1 (lims_of_laid hL)).mono fun e W' ⟨he, hb⟩ => ?_
  subst he
  exact ⟨_, rfl, ends_two hW' Tryd.params5 rfl rfl (by kernel_rfl) (of_decide_eq_true (by kernel_rfl)) (by kernel_rfl) (of_decide_eq_true (by kernel_rfl)) (by kernel_rfl) hb⟩

theorem hasRound_holds : Rows.FnExactHasRoundSaid :=
  OpenClaim.holds_of_wide 5 Tryd.f5 rfl rfl rfl rfl rfl rfl rfl ⟨rfl, rfl, rfl, rfl, rfl⟩ rfl rfl rfl rfl rfl (by kernel_rfl) Tryd.func5 (by kernel_rfl)
    (of_decide_eq_true (by kernel_rfl)) (by unfold Func.isWrapper; first | (rw [if_pos (by decide +kernel)]; kernel_rfl) | (rw [if_neg (by decide +kernel)]; exact ⟨rfl, rfl⟩))
    (fun os started H enc _ => hasRound_lifted os started H enc)

theorem hasRound_card : Rows.FnExactHasRoundCardSaid :=
  Claim7.holds_tied_plain_at .later [] [.data] true (true, "0708bc447225853a1ae87032d251b7168e6f47bb1f3e94d606ee5a28467e1d1b") false
    hasRound_holds (fun _ h => by cases h) (by kernel_rfl) (fun _ h => by cases h) fnExactHasRound_row_tie rfl ⟨rfl, rfl⟩ (by kernel_rfl) rfl
    (fun f fn hf hfn => by
      obtain rfl : f = 5 := Option.some.inj ((show Tryd.prog.funcNamed "loop.example/g00758/laws.FnExactHasRound" = some 5 by kernel_rfl).symm.trans hf) |>.symm
      obtain rfl : fn = Tryd.f5 := (Option.some.inj (Tryd.func5.symm.trans hfn)).symm
      exact ⟨by kernel_rfl, fun j t ht => by
        rw [Tryd.params5] at ht
        have hm : t ∈ [42, 25] := by simpa using Array.mem_of_getElem? ht
        have hall : ([42, 25].all fun u => !Tryd.prog.wantsStandIn u) = true := by kernel_rfl
        exact (show Tryd.prog.wantsStandIn t = false by simpa using List.all_eq_true.1 hall t hm)⟩)
    (by kernel_rfl)

#print axioms hasRound_card
end Go.Proofs.YtbgjlabjihoaaaaDoor
