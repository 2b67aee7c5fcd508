/- The program's copy of a grammar. -/
import Derived.Test.YtacehfjhpnplbaaDoorCopy
import Derived.Test.YtacehfjhpnplbaaDoorImplGood2
import Derived.Deep.RegionHeld3
namespace Go.Proofs.YtacehfjhpnplbaaDoor
open Go.RowKit

theorem Copying.keep {w w' : World} {lo g k : Nat} {rs : List Ru} (h : Copying w lo g rs k) (hb : Below w.heap.size w w') : Copying w' lo g rs k := by
  obtain ⟨cs, done, hr, hs, hl, ha, hc, hd⟩ := h
  refine ⟨cs, done, hr.below hb hr.lt, hs, hl, ha, fun j u hu => ?_, hd⟩
  obtain ⟨h1, h2, h3⟩ := hc j u hu
  exact ⟨h1, h2, h3.below hb (Nat.le_refl _)⟩

theorem Copying.start (w : World) (lo : Nat) (rs : List Ru) : Copying (w.alloc (.cells (zR rs.length) 64)) lo w.heap.size rs 0 :=
  ⟨zR rs.length, [], Row.new _ _ _, zR_size _, rfl, rfl, fun j u h => by simp at h, fun i j u v h => by simp at h⟩

set_option maxHeartbeats 1000000 in
theorem copyGrammar_any (n t : Int) (A : Option Addr) (rs : List Ru) (c : Nat) (w : World) (hr : Rls w w.heap.size A rs) (hn : rs.length ≤ 1048576) (hu : ∀ u ∈ rs, u.r.length ≤ 1048576) :
    Calls Tryd.prog 91 #[.agg #[.int .i64 n, .int .i64 t, .slice A rs.length c]] w (GaveG w n t (rs.map Ru.abs)) := by
  have hmk := make_rules rs.length hn
  have HR := Lib.hid hr; clear hr
  have HU := Lib.hid hu; clear hu
  go_enter Tryd.func91, Tryd.ntmps91
  go_wp2
  go_loopw [13] (fun i wr => ∃ (k : Nat), k ≤ rs.length ∧ i = .int .i64 k ∧ w.heap.size + 2 < wr.heap.size ∧ Below w.heap.size w wr ∧ Hid (Copying wr (w.heap.size + 2) (w.heap.size + 2) rs k) ∧ Hid (Box3 wr w.heap.size (.int .i64 n) (.int .i64 t) (.slice A rs.length c)) ∧ Hid (Row wr (w.heap.size + 1) 26 #[.int .i64 0, .int .i64 0, .slice none 0 0])) (fun i _ => rs.length - (intOf i).toNat)
  case atStart =>
    refine ⟨0, by omega, rfl, by simp, by go_grown, ?_, ⟨by simp; omega, by simp [go_sem], by simp [go_sem], by simp [go_sem]⟩, ?_⟩
    · have h := Copying.start ((w.alloc (.cells #[.int .i64 n, .int .i64 t, .slice A rs.length c] 26)).alloc (.cells #[.int .i64 0, .int .i64 0, .slice none 0 0] 26)) (w.heap.size + 2) rs
      simp only [World.size_alloc] at h
      exact h
    · have h := (Row.new (w.alloc (.cells #[.int .i64 n, .int .i64 t, .slice A rs.length c] 26)) 26 #[.int .i64 0, .int .i64 0, .slice none 0 0]).alloc (.cells (zR rs.length) 64)
      simp only [World.size_alloc] at h
      exact h
  case round =>
    obtain ⟨k, hk, rfl, hsz, hB, HC, HBX, HRW⟩ := hrel
    clear hmk
    by_cases hlt : k < rs.length
    · obtain ⟨b, o, rfl, hb, c1, c2, c3⟩ := (HR.out.keep hB).at_ hlt
      have C3 := Lib.hid (c3.more hB.size); clear c3
      have hul := HU.out rs[k] (List.getElem_mem hlt)
      go_wp2_with fail
      have hBA : Below wr.heap.size wr (wr.alloc (.cells #[.int .i64 rs[k].l, .slice rs[k].a rs[k].r.length rs[k].c] 64)) := by go_grown
      have BU : Box2 (wr.alloc (.cells #[.int .i64 rs[k].l, .slice rs[k].a rs[k].r.length rs[k].c] 64)) wr.heap.size (.int .i64 rs[k].l) (.slice rs[k].a rs[k].r.length rs[k].c) := ⟨by simp, by simp [go_sem], by simp [go_sem]⟩
      generalize (wr.alloc (.cells #[.int .i64 rs[k].l, .slice rs[k].a rs[k].r.length rs[k].c] 64)) = W at hBA BU ⊢
      have HBA := Lib.hid hBA; clear hBA
      have HBU := Lib.hid BU; clear BU
      have HCW := Lib.hid (HC.out.keep HBA.out)
      have C3W := Lib.hid ((C3.out.keep HBA.out).more HBA.out.size)
      obtain ⟨_, e0, e1⟩ := HBU.out
      clear c1 c2
      go_region_held3 (fun w' => w'.cell? ⟨wr.heap.size, 0, none⟩ = some (.int .i64 rs[k].l) ∧ w'.cell? ⟨wr.heap.size, 1, none⟩ = some (.slice rs[k].a rs[k].r.length rs[k].c))
        (first | exact ⟨e0, e1⟩ | exact ⟨y0, y1⟩ | (refine ⟨?_, ?_⟩ <;> (rw [World.cell?_setCell_far _ _ _ _ (by simp; omega), World.cell?_setCell_far _ _ _ _ (by simp; omega)]; first | exact y0 | exact y1)))
        (first
        | (go_at_call 133
           refine (copyList_any _ _ _ _ ?_ hul).mono ?_
           · exact C3W.out.keep (by go_grown)
           rintro e w1 ⟨A1, k1, rfl, hcap1, hO1, hB1'⟩
           have hB1 : Below W.heap.size W w1 := Below.trans (by go_grown) hB1'
           obtain ⟨_, y0, y1⟩ := HBU.out.keep hB1 HBU.out.1
           obtain ⟨cs, hcs, hcz⟩ := (HCW.out.keep hB1).row
           obtain ⟨x0, d0⟩ : ∃ x0, w1.cell? ⟨w.heap.size + 2, k * 2, none⟩ = some x0 := ⟨_, (hcs.cell (k * 2)).trans (Array.getElem?_eq_getElem (by omega))⟩
           obtain ⟨x1, d1⟩ : ∃ x1, w1.cell? ⟨w.heap.size + 2, k * 2 + 1, none⟩ = some x1 := ⟨_, (hcs.cell (k * 2 + 1)).trans (Array.getElem?_eq_getElem (by omega))⟩
           have f0 := hcs.frozen (k * 2)
           have f1 := hcs.frozen (k * 2 + 1)
           have HO1 := Lib.hid hO1
           have HB1 := Lib.hid hB1
           clear hO1 hB1 hB1' hcs hcz))
      rename_i hHeld
      clear hHeld e0 e1 y0 y1 d0 d1 f0 f1
      have HST := Lib.hid (HCW.out.step (by have := hB.size; have := HBA.out.size; omega) hlt HB1.out (A := A1) (c := k1) HO1.out)
      have HB2 := Lib.hid (hB.trans ((HBA.out.trans (HB1.out.mono HBA.out.size)).mono hB.size))
      have HBX2 := Lib.hid ((HBX.out.keep HBA.out HBX.out.1).keep HB1.out (by have := HBX.out.1; have := HBA.out.size; omega))
      have HRW2 := Lib.hid ((HRW.out.below HBA.out HRW.out.lt).below HB1.out (by have := HRW.out.lt; have := HBA.out.size; omega))
      have hs1 := HB1.out.size
      have hs2 := HBA.out.size
      go_wp2
      go_roundw
      case rel =>
        refine ⟨k + 1, by omega, by go_num, by simp; omega, (HB2.out.setCell (by simp; omega) _).setCell (by simp; omega) _, HST.out, ?_, ?_⟩
        · obtain ⟨h1, h2, h3, h4⟩ := HBX2.out
          exact ⟨by simp; exact h1, by rw [World.cell?_setCell_far _ _ _ _ (by simp; omega), World.cell?_setCell_far _ _ _ _ (by simp; omega)]; exact h2, by rw [World.cell?_setCell_far _ _ _ _ (by simp; omega), World.cell?_setCell_far _ _ _ _ (by simp; omega)]; exact h3, by rw [World.cell?_setCell_far _ _ _ _ (by simp; omega), World.cell?_setCell_far _ _ _ _ (by simp; omega)]; exact h4⟩
        · exact (HRW2.out.far (by simp) _).far (by simp) _
      case measure => simp [intOf]; omega
    · obtain rfl : k = rs.length := by omega
      obtain ⟨ds, hO, hl, ha⟩ := HC.out.done (Nat.le_refl _)
      obtain ⟨_, x0, x1, x2⟩ := HBX.out
      have d0 := HRW.out.cell 0
      have d1 := HRW.out.cell 1
      have d2 := HRW.out.cell 2
      have g0 := HRW.out.frozen 0
      have g1 := HRW.out.frozen 1
      have g2 := HRW.out.frozen 2
      simp at d0 d1 d2
      have HO := Lib.hid hO; clear hO
      have HLL := Lib.hid hl; clear hl
      have HAA := Lib.hid ha; clear ha
      go_wp2
      refine bodyPost_ret (v := .agg #[.int .i64 n, .int .i64 t, .slice (some ⟨w.heap.size + 1 + 1, 0, none⟩) rs.length rs.length]) (by simp [results, Tryd.results91, go_sem, d0, d1, d2]) rfl ⟨some ⟨w.heap.size + 1 + 1, 0, none⟩, rs.length, ds, by rw [HLL.out], by rw [HLL.out]; exact Nat.le_refl _, ?_, HAA.out, ?_⟩
      · exact (((HO.out.low (by simp) _).low (by simp) _).low (by simp) _).lower (by omega)
      · exact ((hB.setCell (by simp) _).setCell (by simp) _).setCell (by simp) _

end Go.Proofs.YtacehfjhpnplbaaDoor
