/- The reference's copy of a grammar: its walk. -/
import Derived.Test.YtpaccjfabclikaaDoorSpecOwn
import Derived.Deep.RegionLaw
import Derived.Deep.AppendLies
namespace Go.Proofs.YtpaccjfabclikaaDoor
open Go.RowKit

theorem two_new (w : World) (x y : Value) (t : TypeId) : ∀ j u, [x, y][j]? = some u → (w.alloc (.cells #[x, y] t)).cell? ((⟨w.heap.size, 0, none⟩ : Addr).add j) = some u := by
  intro j u h
  rw [Go.WideShapes.add_plain, Nat.zero_add]
  rcases j with _ | _ | j
  · simpa [go_sem] using h
  · simpa [go_sem] using h
  · simp at h

set_option maxHeartbeats 2000000 in
theorem l1OwnG_any (n t : Int) (A : Option Addr) (rs : List Ru) (c : Nat) (w : World) (hr : Rls w w.heap.size A rs) (hn : rs.length ≤ 1048576) (hu : ∀ u ∈ rs, u.r.length ≤ 1048576) :
    Calls Tryd.prog 47 #[.agg #[.int .i64 n, .int .i64 t, .slice A rs.length c]] w (GaveG w n t (rs.map Ru.abs)) := by
  obtain ⟨i0, hi0, hz0, hz1, hz2⟩ := info_of Tryd.infoRule
  have HR := Lib.hid hr; clear hr
  have HU := Lib.hid hu; clear hu
  go_enter Tryd.func47, Tryd.ntmps47
  go_wp2
  go_loopw [14] (fun i wr => ∃ (k : Nat) (v : Value), k ≤ rs.length ∧ i = .int .i64 k ∧ w.heap.size + 2 < wr.heap.size ∧ Below w.heap.size w wr ∧ Hid (Grow wr (w.heap.size + 3) v rs k) ∧ Hid (Row wr (w.heap.size + 1) 29 #[.int .i64 0, .int .i64 0, .slice none 0 0]) ∧ Hid (Row wr (w.heap.size + 2) 29 #[.int .i64 n, .int .i64 t, v])) (fun i _ => rs.length - (intOf i).toNat)
  case atStart =>
    refine ⟨0, .slice none 0 0, by omega, rfl, by simp, by go_grown, Grow.start _ _ _, ?_, ?_⟩
    · have h := (Row.new (w.alloc (.cells #[.int .i64 n, .int .i64 t, .slice A rs.length c] 29)) 29 #[.int .i64 0, .int .i64 0, .slice none 0 0]).alloc (.cells #[.int .i64 n, .int .i64 t, .slice none 0 0] 29)
      simp only [World.size_alloc] at h
      exact h
    · have h := Row.new ((w.alloc (.cells #[.int .i64 n, .int .i64 t, .slice A rs.length c] 29)).alloc (.cells #[.int .i64 0, .int .i64 0, .slice none 0 0] 29)) 29 #[.int .i64 n, .int .i64 t, .slice none 0 0]
      simp only [World.size_alloc] at h
      exact h
  case round =>
    obtain ⟨k, v, hk, rfl, hsz, hB, HG, HR1, HR2⟩ := hrel
    by_cases hlt : k < rs.length
    · obtain ⟨b, o, rfl, hb, c1, c2, c3⟩ := (HR.out.keep hB).at_ hlt
      have C3 := Lib.hid (c3.more hB.size); clear c3
      have hul := HU.out rs[k] (List.getElem_mem hlt)
      go_wp2_with fail
      have hBA : Below wr.heap.size wr (wr.alloc (.cells #[.int .i64 rs[k].l, .slice rs[k].a rs[k].r.length rs[k].c] 52)) := by go_grown
      have BU : Box2 (wr.alloc (.cells #[.int .i64 rs[k].l, .slice rs[k].a rs[k].r.length rs[k].c] 52)) wr.heap.size (.int .i64 rs[k].l) (.slice rs[k].a rs[k].r.length rs[k].c) := ⟨by simp, by simp [go_sem], by simp [go_sem]⟩
      generalize (wr.alloc (.cells #[.int .i64 rs[k].l, .slice rs[k].a rs[k].r.length rs[k].c] 52)) = W at hBA BU ⊢
      have HBA := Lib.hid hBA; clear hBA
      have HBU := Lib.hid BU; clear BU
      have HGW := Lib.hid (HG.out.keep HBA.out)
      have HR2W := Lib.hid (HR2.out.below HBA.out HR2.out.lt)
      have C3W := Lib.hid ((C3.out.keep HBA.out).more HBA.out.size)
      obtain ⟨_, e0, e1⟩ := HBU.out
      have o2 := HR2W.out.cell 2
      simp at o2
      have hs1 := HBA.out.size
      have HVB : Hid (∀ b, v.ownBlock = some b → w.heap.size + 3 ≤ b ∧ b < wr.heap.size) := fun b e => by
        obtain ⟨_, _, h, _⟩ := HG.out
        exact h.lt b e
      obtain ⟨ds, q1, q2, q3, q4, q5⟩ := HGW.out
      have Q1 := Lib.hid q1; clear q1
      have Q2 := Lib.hid q2; clear q2
      have Q3 := Lib.hid q3; clear q3
      have Q4 := Lib.hid q4; clear q4
      have Q5 := Lib.hid q5; clear q5
      clear c1 c2
      go_region_law (first
        | (refine step_append_lies _ rfl _ _ _ rfl (w.heap.size + 3) 52 i0 _ 2 32 Tryd.underlying27 hi0 hz0 hz1 hz2 rfl (by omega) v k (ds.flatMap cellsU) (by simp [Act.eval]) ((own_below Q2.out HB1.out).alloc _)
             ⟨w1.heap.size, 0, none⟩ 1 1 [.int .i64 rs[k].l, .slice A1 rs[k].r.length k1] (by simp [Act.eval]) rfl (two_new _ _ _ _) (by simp [Value.oneCell'])
             (by omega) (by unfold maxLen; omega) (by omega) (by simp; omega) (w1.heap.size + 1) (by simp) ?_
           intro gg cap w2 hown hgrow hat hgl
           have HOW := Lib.hid hown
           have HGR := Lib.hid hgrow
           have HNE : Hid (∀ b, b < w.heap.size + 3 ∨ wr.heap.size ≤ b → some b ≠ v.ownBlock) := fun b hb e => by have := HVB.out b e.symm; omega
           have HR3 : Hid (Row w2 (w.heap.size + 2) 29 #[.int .i64 n, .int .i64 t, v]) := (hgrow.block (w.heap.size + 2) (by simp; omega) (HNE.out _ (.inl (by omega)))).trans ((HR2W.out.below HB1.out HR2W.out.lt).alloc _)
           have r2 := HR3.out.cell 2
           simp at r2
           have g2 := HR3.out.frozen 2
           clear hown hgrow hat)
        | (go_simp
           go_at_call 63
           refine (l1Own_any _ _ _ _ ?_ hul).mono ?_
           · exact C3W.out.keep (by go_grown)
           rintro e w1 ⟨A1, k1, rfl, hO1, hB1'⟩
           have hB1 : Below W.heap.size W w1 := Below.trans (by go_grown) hB1'
           obtain ⟨_, y0, y1⟩ := HBU.out.keep hB1 HBU.out.1
           have p2 := (HR2W.out.below hB1 HR2W.out.lt).cell 2
           simp at p2
           have hs2 := hB1.size
           have hs3 : w.heap.size + 2 < w1.heap.size := by omega
           have HO1 := Lib.hid hO1
           have HB1 := Lib.hid hB1
           clear hO1 hB1 hB1'))
      all_goals
        have hs4 := HGR.out.size
        rw [World.size_alloc] at hs4
        have HST : Hid (Grow w2 (w.heap.size + 3) (.slice (some ⟨gg, 0, none⟩) (k + 1) cap) rs (k + 1)) := Grow.step (c := k1) hlt HB1.out (by omega) HO1.out ds Q1.out Q2.out Q3.out Q4.out Q5.out _ HOW.out HGR.out
        have HB2 : Hid (Below w.heap.size w w2) := ((hB.trans ((HBA.out.trans (HB1.out.mono HBA.out.size)).mono hB.size)).alloc (by omega) _).grown HGR.out (by simp; omega) fun b hb => by have := (HVB.out b hb).1; omega
        have HR12 : Hid (Row w2 (w.heap.size + 1) 29 #[.int .i64 0, .int .i64 0, .slice none 0 0]) := (HGR.out.block (w.heap.size + 1) (by simp; omega) (HNE.out _ (.inl (by omega)))).trans (((HR1.out.below HBA.out HR1.out.lt).below HB1.out (by omega)).alloc _)
        clear HGR HOW HNE Q1 Q2 Q3 Q4 Q5 HO1 HB1 y0 y1 p2 r2 g2 e0 e1 o2 HGW HBU HR2W C3W HVB
        go_wp2
        go_roundw
        case rel => exact ⟨k + 1, _, by omega, by go_num, by simp; omega, HB2.out.setCell (by simp; omega) _, HST.out.low (by simp) _, HR12.out.far (by simp) _, HR3.out.set 2 _⟩
        case measure => simp [intOf]; omega
    · obtain rfl : k = rs.length := by omega
      obtain ⟨A', c', ds, rfl, hcap, hO, ha⟩ := HG.out.done
      have o0 := HR2.out.cell 0
      have o1 := HR2.out.cell 1
      have o2 := HR2.out.cell 2
      have d0 := HR1.out.cell 0
      have d1 := HR1.out.cell 1
      have d2 := HR1.out.cell 2
      have g0 := HR1.out.frozen 0
      have g1 := HR1.out.frozen 1
      have g2 := HR1.out.frozen 2
      simp at o0 o1 o2 d0 d1 d2
      have HO := Lib.hid hO; clear hO
      have HAA := Lib.hid ha; clear ha
      go_wp2
      refine bodyPost_ret (v := .agg #[.int .i64 n, .int .i64 t, .slice A' ds.length c']) (by simp [results, Tryd.results47, go_sem, d0, d1, d2]) rfl ⟨A', c', ds, rfl, hcap, ?_, HAA.out, ?_⟩
      · exact (((HO.out.low (by simp) _).low (by simp) _).low (by simp) _).lower (by omega)
      · exact ((hB.setCell (by simp) _).setCell (by simp) _).setCell (by simp) _

end Go.Proofs.YtpaccjfabclikaaDoor
