/- The law of ChildrenOf holds of every grammar, forest and number: the call returns true, and what was handed in reads afterwards as it read before. Conditions: the package's table of limits is as the program's text lays it (tied by the given tie). -/
import Derived.Test.YtbgjlabjihoaaaaDoorF9RowChildrenOf04
import Derived.Deep.RegionHeld3
import Derived.Test.YtbgjlabjihoaaaaDoorF901
import Derived.Test.YtbgjlabjihoaaaaDoorF902
import Derived.Test.YtbgjlabjihoaaaaDoorF903
import Derived.Test.YtbgjlabjihoaaaaDoorCards

namespace Go.Proofs.YtbgjlabjihoaaaaDoor
open Go.RowKit
open Go.Sort (grow)

set_option maxRecDepth 20000 in
set_option maxHeartbeats 2000000 in
theorem specChildren_any (n t : Int) (A : Option Addr) (rs : List Ru) (c : Nat) (f : Fo) (u : Eg) (w : World) (hg : Rls w w.heap.size A rs) (hgl : rs.length ≤ 1048576) (hgr : ∀ v ∈ rs, v.r.length ≤ 1000) (hf : Nds w w.heap.size f.a f.ns) (hfl : f.ns.length ≤ 1048576) (hE : Ints w w.heap.size u.a u.r) (hel : u.r.length ≤ 1048576) :
    Calls Tryd.prog 41 #[.agg #[.int .i64 n, .int .i64 t, .slice A rs.length c], (.agg #[.slice f.a f.ns.length f.c, .slice f.b f.es.length f.d]), .agg #[.int .i64 u.n, .int .i64 u.e, .slice u.a u.r.length u.c]] w (GaveIB w (chV (rs.map Ru.abs) f.ns u.abs) (chB (rs.map Ru.abs) f.ns u.abs)) := by
  obtain ⟨i0, hi0, hz0, hz1, hz2⟩ := info_of Tryd.infoInt
  obtain ⟨un, ue, ua, ur, uc⟩ := u
  show Calls Tryd.prog 41 #[.agg #[.int .i64 n, .int .i64 t, .slice A rs.length c], (.agg #[.slice f.a f.ns.length f.c, .slice f.b f.es.length f.d]), .agg #[.int .i64 un, .int .i64 ue, .slice ua ur.length uc]] w (GaveIB w (chV (rs.map Ru.abs) f.ns ⟨un, ue, ur⟩) (chB (rs.map Ru.abs) f.ns ⟨un, ue, ur⟩))
  replace hel : ur.length ≤ 1048576 := hel
  have HG := Lib.hid hg; clear hg
  have HF := Lib.hid hf; clear hf
  have HE : Hid (Ints w w.heap.size ua ur) := hE
  clear hE
  have HGR := Lib.hid hgr; clear hgr
  have HIN : Hid (∀ v, Calls Tryd.prog 29 #[.int .i64 ue, .int .i64 0, .int .i64 ((rs.length : Int) - 1)] v fun e v' => e = .returned (.bool (rulN rs.length ue)) ∧ v = v') := fun v => by
    refine (l1In_any ue 0 ((rs.length : Int) - 1) v).mono ?_
    rintro e v' ⟨rfl, rfl⟩
    refine ⟨ret_b ?_, rfl⟩
    unfold inB rulN
    exact decide_eq_decide.2 ⟨fun h => ⟨h.1, by omega⟩, fun h => ⟨h.1, by omega⟩⟩
  have hw0 : IntKind.i64.wrap ((rs.length : Int) - 1) = (rs.length : Int) - 1 := by rw [IntKind.wrap_i64]; omega
  go_enter Tryd.func41, Tryd.ntmps41
  go_wp2
  have hB0 : Below w.heap.size w (((w.alloc (.cells #[.int .i64 n, .int .i64 t, .slice A rs.length c] 47)).alloc (.cells #[.slice f.a f.ns.length f.c, .slice f.b f.es.length f.d] 33)).alloc (.cells #[.int .i64 un, .int .i64 ue, .slice ua ur.length uc] 67)) := by go_grown
  have R0 : Row (((w.alloc (.cells #[.int .i64 n, .int .i64 t, .slice A rs.length c] 47)).alloc (.cells #[.slice f.a f.ns.length f.c, .slice f.b f.es.length f.d] 33)).alloc (.cells #[.int .i64 un, .int .i64 ue, .slice ua ur.length uc] 67)) w.heap.size 47 #[.int .i64 n, .int .i64 t, .slice A rs.length c] := ((Row.new _ _ _).alloc _).alloc _
  have B1 : BoxF (((w.alloc (.cells #[.int .i64 n, .int .i64 t, .slice A rs.length c] 47)).alloc (.cells #[.slice f.a f.ns.length f.c, .slice f.b f.es.length f.d] 33)).alloc (.cells #[.int .i64 un, .int .i64 ue, .slice ua ur.length uc] 67)) (w.heap.size + 1) f := by
    have h := BoxF.new (w.alloc (.cells #[.int .i64 n, .int .i64 t, .slice A rs.length c] 47)) f 33
    rw [World.size_alloc] at h
    exact h.keep (B := w.heap.size + 1 + 1) (by go_grown) (by omega)
  have R2 : Row (((w.alloc (.cells #[.int .i64 n, .int .i64 t, .slice A rs.length c] 47)).alloc (.cells #[.slice f.a f.ns.length f.c, .slice f.b f.es.length f.d] 33)).alloc (.cells #[.int .i64 un, .int .i64 ue, .slice ua ur.length uc] 67)) (w.heap.size + 1 + 1) 67 #[.int .i64 un, .int .i64 ue, .slice ua ur.length uc] := by
    have h := Row.new ((w.alloc (.cells #[.int .i64 n, .int .i64 t, .slice A rs.length c] 47)).alloc (.cells #[.slice f.a f.ns.length f.c, .slice f.b f.es.length f.d] 33)) 67 #[.int .i64 un, .int .i64 ue, .slice ua ur.length uc]
    rw [World.size_alloc, World.size_alloc] at h; exact h
  generalize (((w.alloc (.cells #[.int .i64 n, .int .i64 t, .slice A rs.length c] 47)).alloc (.cells #[.slice f.a f.ns.length f.c, .slice f.b f.es.length f.d] 33)).alloc (.cells #[.int .i64 un, .int .i64 ue, .slice ua ur.length uc] 67)) = W at hB0 R0 B1 R2 ⊢
  have HB0 := Lib.hid hB0; clear hB0
  have HR0 := Lib.hid R0; clear R0
  have HB1 := Lib.hid B1; clear B1
  have HR2 := Lib.hid R2; clear R2
  have HSK : Hid (∀ v, Below W.heap.size W v → (v.cell? ⟨w.heap.size, 0, none⟩ = some (.int .i64 n) ∧ v.cell? ⟨w.heap.size, 1, none⟩ = some (.int .i64 t) ∧ v.cell? ⟨w.heap.size, 2, none⟩ = some (.slice A rs.length c)) ∧ (v.cell? ⟨w.heap.size + 1 + 1, 0, none⟩ = some (.int .i64 un) ∧ v.cell? ⟨w.heap.size + 1 + 1, 1, none⟩ = some (.int .i64 ue) ∧ v.cell? ⟨w.heap.size + 1 + 1, 2, none⟩ = some (.slice ua ur.length uc)) ∧ w.heap.size + 1 + 1 < v.heap.size) := fun v hv => by
    have r := HR0.out.below hv HR0.out.lt
    have r2 := HR2.out.below hv HR2.out.lt
    refine ⟨⟨?_, ?_, ?_⟩, ⟨?_, ?_, ?_⟩, r2.lt⟩
    · simpa using r.cell 0
    · simpa using r.cell 1
    · simpa using r.cell 2
    · simpa using r2.cell 0
    · simpa using r2.cell 1
    · simpa using r2.cell 2
  cases hq : rulN rs.length ue
  · have HC : Hid (chV (rs.map Ru.abs) f.ns ⟨un, ue, ur⟩ = [] ∧ chB (rs.map Ru.abs) f.ns ⟨un, ue, ur⟩ = false) := chB_no (by unfold fitsE; rw [List.length_map, show rulN rs.length ue = false from hq]; rfl)
    have HQ := Lib.hid hq; clear hq
    have HWD : Hid (Below W.heap.size W W.drew) := by show Below _ _ _; go_grown
    refine wp_region_held_drew (S := fun w' => (w'.cell? ⟨w.heap.size, 0, none⟩ = some (.int .i64 n) ∧ w'.cell? ⟨w.heap.size, 1, none⟩ = some (.int .i64 t) ∧ w'.cell? ⟨w.heap.size, 2, none⟩ = some (.slice A rs.length c)) ∧ (w'.cell? ⟨w.heap.size + 1 + 1, 0, none⟩ = some (.int .i64 un) ∧ w'.cell? ⟨w.heap.size + 1 + 1, 1, none⟩ = some (.int .i64 ue) ∧ w'.cell? ⟨w.heap.size + 1 + 1, 2, none⟩ = some (.slice ua ur.length uc)) ∧ w.heap.size + 1 + 1 < w'.heap.size) (by kernel_rfl) (HSK.out _ HWD.out) (fun hHeld => ?_)
    refine take_one (i := 0) (d := 12) (v := ?_) rfl rfl (by kernel_rfl) (by kernel_rfl) (by kernel_rfl) (fun _ _ _ h => h) (Or.inl ⟨by rfl, ?_⟩) (by assumption) ?_
    rotate_left
    · (intro wz hSw; (try dsimp only at hSw); (try obtain ⟨⟨s0, s1, s2⟩, ⟨s3, s4, s5⟩, s6⟩ := hSw); go_simp; try rfl)
    try simp only [Act.put, List.setIfInBounds_toArray, List.set_cons_zero, List.set_cons_succ]
    refine take_one (i := 1) (d := 13) (v := ?_) rfl rfl (by kernel_rfl) (by kernel_rfl) (by kernel_rfl) (fun _ _ _ h => h) (Or.inl ⟨by rfl, ?_⟩) (by assumption) ?_
    rotate_left
    · (intro wz hSw; (try dsimp only at hSw); (try obtain ⟨⟨s0, s1, s2⟩, ⟨s3, s4, s5⟩, s6⟩ := hSw); go_simp; try rfl)
    try simp only [Act.put, List.setIfInBounds_toArray, List.set_cons_zero, List.set_cons_succ]
    refine take_one (i := 2) (d := 14) (v := ?_) rfl rfl (by kernel_rfl) (by kernel_rfl) (by kernel_rfl) (fun _ _ _ h => h) (Or.inl ⟨by rfl, ?_⟩) (by assumption) ?_
    rotate_left
    · (intro wz hSw; (try dsimp only at hSw); (try obtain ⟨⟨s0, s1, s2⟩, ⟨s3, s4, s5⟩, s6⟩ := hSw); go_simp; try rfl)
    try simp only [Act.put, List.setIfInBounds_toArray, List.set_cons_zero, List.set_cons_succ]
    refine take_one (i := 3) (d := 15) (v := ?_) rfl rfl (by kernel_rfl) (by kernel_rfl) (by kernel_rfl) (fun _ _ _ h => h) (Or.inl ⟨by rfl, ?_⟩) (by assumption) ?_
    rotate_left
    · (intro wz hSw; (try dsimp only at hSw); (try obtain ⟨⟨s0, s1, s2⟩, ⟨s3, s4, s5⟩, s6⟩ := hSw); go_simp; try rfl)
    try simp only [Act.put, List.setIfInBounds_toArray, List.set_cons_zero, List.set_cons_succ]
    refine take_one (i := 4) (d := 16) (v := ?_) rfl rfl (by kernel_rfl) (by kernel_rfl) (by kernel_rfl) (fun _ _ _ h => h) (Or.inl ⟨by rfl, ?_⟩) (by assumption) ?_
    rotate_left
    · (intro wz hSw; (try dsimp only at hSw); (try obtain ⟨⟨s0, s1, s2⟩, ⟨s3, s4, s5⟩, s6⟩ := hSw); go_simp; try rfl)
    try simp only [Act.put, List.setIfInBounds_toArray, List.set_cons_zero, List.set_cons_succ]
    refine take_one (i := 5) (d := 17) (v := ?_) rfl rfl (by kernel_rfl) (by kernel_rfl) (by kernel_rfl) (fun _ _ _ h => h) (Or.inl ⟨by rfl, ?_⟩) (by assumption) ?_
    rotate_left
    · (intro wz hSw; (try dsimp only at hSw); (try obtain ⟨⟨s0, s1, s2⟩, ⟨s3, s4, s5⟩, s6⟩ := hSw); go_simp; try rfl)
    try simp only [Act.put, List.setIfInBounds_toArray, List.set_cons_zero, List.set_cons_succ]
    refine wpAnyH_ready (rs := [6]) (by kernel_rfl) (by simp) (AllReadyH.cons rfl (fun K hK => ?_) AllReadyH.nil)
    go_simp
    refine (HIN.out _).mono ?_
    rintro e w1 ⟨rfl, hw1⟩
    replace hw1 := hw1.symm
    subst hw1
    rw [HQ.out]
    refine hK.out _ _ (HSK.out _ HWD.out) (fun hHeld => ?_)
    clear hK K
    try simp only [Act.put, List.setIfInBounds_toArray, List.set_cons_zero, List.set_cons_succ]
    refine take_one (i := 7) (d := 19) (v := ?_) rfl rfl (by kernel_rfl) (by kernel_rfl) (by kernel_rfl) (fun _ _ _ h => h) (Or.inl ⟨by rfl, ?_⟩) (by assumption) ?_
    rotate_left
    · (intro wz hSw; (try dsimp only at hSw); (try obtain ⟨⟨s0, s1, s2⟩, ⟨s3, s4, s5⟩, s6⟩ := hSw); go_simp; try rfl)
    try simp only [Act.put, List.setIfInBounds_toArray, List.set_cons_zero, List.set_cons_succ]
    refine take_one (i := 8) (d := 20) (v := ?_) rfl rfl (by kernel_rfl) (by kernel_rfl) (by kernel_rfl) (fun _ _ _ h => h) (Or.inl ⟨by rfl, ?_⟩) (by assumption) ?_
    rotate_left
    · (intro wz hSw; (try dsimp only at hSw); (try obtain ⟨⟨s0, s1, s2⟩, ⟨s3, s4, s5⟩, s6⟩ := hSw); go_simp; try rfl)
    try simp only [Act.put, List.setIfInBounds_toArray, List.set_cons_zero, List.set_cons_succ]
    refine take_one (i := 9) (d := 21) (v := undef) rfl rfl (by kernel_rfl) (by kernel_rfl) (by kernel_rfl) (fun _ _ _ h => h) (Or.inr ⟨by rfl, rfl⟩) (by assumption) ?_
    try simp only [Act.put, List.setIfInBounds_toArray, List.set_cons_zero, List.set_cons_succ]
    refine take_one (i := 10) (d := 22) (v := undef) rfl rfl (by kernel_rfl) (by kernel_rfl) (by kernel_rfl) (fun _ _ _ h => h) (Or.inr ⟨by rfl, rfl⟩) (by assumption) ?_
    try simp only [Act.put, List.setIfInBounds_toArray, List.set_cons_zero, List.set_cons_succ]
    refine take_one (i := 11) (d := 23) (v := undef) rfl rfl (by kernel_rfl) (by kernel_rfl) (by kernel_rfl) (fun _ _ _ h => h) (Or.inr ⟨by rfl, rfl⟩) (by assumption) ?_
    try simp only [Act.put, List.setIfInBounds_toArray, List.set_cons_zero, List.set_cons_succ]
    refine take_one (i := 12) (d := 24) (v := undef) rfl rfl (by kernel_rfl) (by kernel_rfl) (by kernel_rfl) (fun _ _ _ h => h) (Or.inr ⟨by rfl, rfl⟩) (by assumption) ?_
    try simp only [Act.put, List.setIfInBounds_toArray, List.set_cons_zero, List.set_cons_succ]
    refine take_one (i := 13) (d := 25) (v := undef) rfl rfl (by kernel_rfl) (by kernel_rfl) (by kernel_rfl) (fun _ _ _ h => h) (Or.inr ⟨by rfl, rfl⟩) (by assumption) ?_
    try simp only [Act.put, List.setIfInBounds_toArray, List.set_cons_zero, List.set_cons_succ]
    refine take_one (i := 14) (d := 26) (v := undef) rfl rfl (by kernel_rfl) (by kernel_rfl) (by kernel_rfl) (fun _ _ _ h => h) (Or.inr ⟨by rfl, rfl⟩) (by assumption) ?_
    try simp only [Act.put, List.setIfInBounds_toArray, List.set_cons_zero, List.set_cons_succ]
    refine take_one (i := 15) (d := 27) (v := undef) rfl rfl (by kernel_rfl) (by kernel_rfl) (by kernel_rfl) (fun _ _ _ h => h) (Or.inr ⟨by rfl, rfl⟩) (by assumption) ?_
    try simp only [Act.put, List.setIfInBounds_toArray, List.set_cons_zero, List.set_cons_succ]
    refine take_one (i := 16) (d := 28) (v := undef) rfl rfl (by kernel_rfl) (by kernel_rfl) (by kernel_rfl) (fun _ _ _ h => h) (Or.inr ⟨by rfl, rfl⟩) (by assumption) ?_
    try simp only [Act.put, List.setIfInBounds_toArray, List.set_cons_zero, List.set_cons_succ]
    refine take_one (i := 17) (d := 29) (v := undef) rfl rfl (by kernel_rfl) (by kernel_rfl) (by kernel_rfl) (fun _ _ _ h => h) (Or.inr ⟨by rfl, rfl⟩) (by assumption) ?_
    try simp only [Act.put, List.setIfInBounds_toArray, List.set_cons_zero, List.set_cons_succ]
    refine take_one (i := 18) (d := 30) (v := undef) rfl rfl (by kernel_rfl) (by kernel_rfl) (by kernel_rfl) (fun _ _ _ h => h) (Or.inr ⟨by rfl, rfl⟩) (by assumption) ?_
    try simp only [Act.put, List.setIfInBounds_toArray, List.set_cons_zero, List.set_cons_succ]
    refine take_one (i := 19) (d := 31) (v := undef) rfl rfl (by kernel_rfl) (by kernel_rfl) (by kernel_rfl) (fun _ _ _ h => h) (Or.inr ⟨by rfl, rfl⟩) (by assumption) ?_
    try simp only [Act.put, List.setIfInBounds_toArray, List.set_cons_zero, List.set_cons_succ]
    refine take_one (i := 20) (d := 32) (v := undef) rfl rfl (by kernel_rfl) (by kernel_rfl) (by kernel_rfl) (fun _ _ _ h => h) (Or.inr ⟨by rfl, rfl⟩) (by assumption) ?_
    try simp only [Act.put, List.setIfInBounds_toArray, List.set_cons_zero, List.set_cons_succ]
    refine take_one (i := 21) (d := 33) (v := undef) rfl rfl (by kernel_rfl) (by kernel_rfl) (by kernel_rfl) (fun _ _ _ h => h) (Or.inr ⟨by rfl, rfl⟩) (by assumption) ?_
    try simp only [Act.put, List.setIfInBounds_toArray, List.set_cons_zero, List.set_cons_succ]
    refine take_one (i := 22) (d := 34) (v := ?_) rfl rfl (by kernel_rfl) (by kernel_rfl) (by kernel_rfl) (fun _ _ _ h => h) (Or.inl ⟨by rfl, ?_⟩) (by assumption) ?_
    rotate_left
    · (intro wz hSw; (try dsimp only at hSw); (try obtain ⟨⟨s0, s1, s2⟩, ⟨s3, s4, s5⟩, s6⟩ := hSw); go_simp; try rfl)
    try simp only [Act.put, List.setIfInBounds_toArray, List.set_cons_zero, List.set_cons_succ]
    refine wpAnyH_done (by kernel_rfl) ?_ _
    go_simp
    go_wp2
    go_ret2
    exact ⟨none, 0, by rw [HC.out.1, HC.out.2]; rfl, .inl HC.out.1, HB0.out.trans (HWD.out.mono HB0.out.size)⟩
  obtain ⟨hq0, hq1⟩ := of_decide_eq_true hq
  obtain ⟨q, rfl⟩ : ∃ q : Nat, ue = (q : Int) := ⟨ue.toNat, by omega⟩
  have hql : q < rs.length := by omega
  have HQ := Lib.hid hq; clear hq
  have hrl := HGR.out rs[q] (List.getElem_mem hql)
  have HRO := Lib.hid (rightOf_at hql)
  have HKID : Hid (∀ v, Below w.heap.size w v → ur.length = rs[q].r.length + 1 → Calls Tryd.prog 58 #[.agg #[.int .i64 n, .int .i64 t, .slice A rs.length c], .int .i64 (q : Int), .slice ua ur.length uc] v fun e v' => ∃ A' c', e = .returned (.slice A' (kidsV rs[q].r ur).length c') ∧ OwnNd v' v.heap.size A' (kidsV rs[q].r ur) ∧ Below v.heap.size v v') := fun v hv hl =>
    l9Kids_any n t A rs c q ua ur uc v ((HG.out.keep hv).more hv.size) hql ((HE.out.keep hv).more hv.size) (by omega) hrl hel
  obtain ⟨gb, go, rfl, hgb, g1, g2, g3⟩ := HG.out.at_ hql
  clear g3 g1
  generalize rs[q].a = ra at g2
  generalize rs[q].c = rc at g2
  generalize rs[q].r = rr at g2 hrl HRO HKID
  have HG2 := Lib.hid g2; clear g2
  have HSL : Hid (∀ v, Below W.heap.size W v → (v.cell? ⟨w.heap.size, 0, none⟩ = some (.int .i64 n) ∧ v.cell? ⟨w.heap.size, 1, none⟩ = some (.int .i64 t) ∧ v.cell? ⟨w.heap.size, 2, none⟩ = some (.slice (some ⟨gb, go, none⟩) rs.length c)) ∧ (v.cell? ⟨w.heap.size + 1 + 1, 0, none⟩ = some (.int .i64 un) ∧ v.cell? ⟨w.heap.size + 1 + 1, 1, none⟩ = some (.int .i64 (q : Int)) ∧ v.cell? ⟨w.heap.size + 1 + 1, 2, none⟩ = some (.slice ua ur.length uc)) ∧ v.cell? ⟨gb, go + q * 2 + 1, none⟩ = some (.slice ra rr.length rc)) := fun v hv => by
    obtain ⟨s0, s1, _⟩ := HSK.out v hv
    exact ⟨s0, s1, ((HB0.out.trans (hv.mono HB0.out.size)).cell (p := ⟨gb, go + q * 2 + 1, none⟩) hgb).trans HG2.out⟩
  have HCR : Hid (∀ v, Calls Tryd.prog 29 #[.int .i64 (q : Int), .int .i64 0, .int .i64 ((rs.length : Int) - 1)] v fun e v' => e = .returned (.bool true) ∧ v = v') := fun v => by
    have h := HIN.out v
    rw [HQ.out] at h
    exact h
  have hw1 : IntKind.i64.wrap ((rr.length : Int) + 1) = (rr.length : Int) + 1 := by rw [IntKind.wrap_i64]; omega
  obtain ⟨⟨x0, x1, x2⟩, ⟨x3, x4, x5⟩, x6⟩ := HSL.out W (Below.refl _ _)
  by_cases hfl2 : ur.length = rr.length + 1
  · have hne : ((ur.length : Int) != (rr.length : Int) + 1) = false := bne_f (by omega)
    have hFit : Hid (chO (rs.map Ru.abs) f.ns ⟨un, (q : Int), ur⟩ = numsOf f.ns (kidsV rr ur)) := by
      show _ = _
      rw [chB_yes (by unfold fitsE; rw [List.length_map, HRO.out, show rulN rs.length (q : Int) = true from HQ.out, show decide (ur.length = rr.length + 1) = true from decide_eq_true hfl2]; rfl)]
      rw [show rightOf (rs.map Ru.abs) (q : Int) = rr from HRO.out]
    have HFL := Lib.hid hfl2; clear hfl2
    go_region_held3 (fun w' => (w'.cell? ⟨w.heap.size, 0, none⟩ = some (.int .i64 n) ∧ w'.cell? ⟨w.heap.size, 1, none⟩ = some (.int .i64 t) ∧ w'.cell? ⟨w.heap.size, 2, none⟩ = some (.slice (some ⟨gb, go, none⟩) rs.length c)) ∧ (w'.cell? ⟨w.heap.size + 1 + 1, 0, none⟩ = some (.int .i64 un) ∧ w'.cell? ⟨w.heap.size + 1 + 1, 1, none⟩ = some (.int .i64 (q : Int)) ∧ w'.cell? ⟨w.heap.size + 1 + 1, 2, none⟩ = some (.slice ua ur.length uc)) ∧ w'.cell? ⟨gb, go + q * 2 + 1, none⟩ = some (.slice ra rr.length rc))
      (first | exact ⟨⟨x0, x1, x2⟩, ⟨x3, x4, x5⟩, x6⟩ | exact HSL.out _ (by go_grown))
      (first | (go_at_call 29
                with_reducible refine (HCR.out _).mono ?_
                rintro e w1 ⟨rfl, hw1'⟩
                replace hw1' := hw1'.symm
                subst hw1'))
    rename_i hHeld
    clear hHeld x0 x1 x2 x3 x4 x5 x6
    have HWD : Hid (Below W.heap.size W W.drew) := by show Below _ _ _; go_grown
    have HBD := Lib.hid (HB0.out.trans (HWD.out.mono HB0.out.size))
    have hkl : (kidsV rr ur).length ≤ 1000 := Nat.le_trans (kidsTo_len rr ur rr.length) hrl
    generalize W.drew = w1 at HWD HBD ⊢
    obtain ⟨⟨x0, x1, x2⟩, ⟨x3, x4, x5⟩, x6⟩ := HSL.out w1 HWD.out
    go_wp2_with fail
    refine (HKID.out _ HBD.out HFL.out).mono ?_
    generalize kidsV rr ur = ks at hFit hkl
    rintro e w2 ⟨A2, c2, rfl, hO2, hB2⟩
    clear x0 x1 x2 x3 x4 x5 x6 HKID
    have HN2 : Hid (Nds w2 w2.heap.size A2 ks) := hO2.nds
    have HW2 := Lib.hid (HWD.out.trans (hB2.mono HWD.out.size))
    clear hO2 hB2
    have HF2 := Lib.hid (HB1.out.keep HW2.out HB1.out.1)
    have HB2W := Lib.hid (HB0.out.trans (HW2.out.mono HB0.out.size))
    clear HSL HSK HCR HQ HG2 HR0 HR2 HWD HBD
    go_wp2
    go_loopw [8, 42] (fun v i wr => ∃ (k : Nat) (acc : List Int), k ≤ ks.length ∧ i = .int .i64 k ∧ acc.length = k ∧ Hid (wr.ownsRow w2.heap.size 3 1 v acc.length (acc.map fun y => Value.int .i64 y)) ∧ Hid (NumTo f.ns ks k acc) ∧ Below w2.heap.size w2 wr) (fun _ i _ => ks.length - (intOf i).toNat)
    case atStart => exact ⟨0, [], by omega, rfl, rfl, ⟨by simp, .inl ⟨rfl, rfl⟩⟩, NumTo.start _ _, Below.refl _ _⟩
    case round =>
      obtain ⟨k, acc, hk, rfl, hac, HO, H, hB⟩ := hrel
      by_cases hlt : k < ks.length
      · obtain ⟨kb, ko, rfl, hkb, k0, k1, k2⟩ := (HN2.out.keep hB).at_ hlt
        obtain ⟨hfb, f0, f1⟩ := HF2.out.keep hB HF2.out.1
        have hkw := Nat.lt_of_lt_of_le hkb hB.size
        go_wp2_with fail
        have hBX : Below wr.heap.size wr (wr.alloc (.cells #[.int .i64 ks[k].n, .int .i64 ks[k].f, .int .i64 ks[k].t] 86)) := by go_grown
        have HOX := Lib.hid (own_below HO.out hBX)
        generalize (wr.alloc (.cells #[.int .i64 ks[k].n, .int .i64 ks[k].f, .int .i64 ks[k].t] 86)) = X at hBX HOX ⊢
        have HBX := Lib.hid (hB.trans (hBX.mono hB.size)); clear hBX
        refine (l9At_any f.a f.ns f.c ks[k] X ((HF.out.keep (HB2W.out.trans (HBX.out.mono HB2W.out.size))).more (Nat.le_trans HB2W.out.size HBX.out.size)) hfl).mono ?_
        rintro e w3 ⟨rfl, hB3⟩
        have HO3 := Lib.hid (own_below HOX.out hB3)
        have HB3 := Lib.hid (HBX.out.trans (hB3.mono HBX.out.size)); clear hB3 HOX HBX
        clear k0 k1 k2 f0 f1
        cases hix : nodeIx f.ns ks[k] with
        | none =>
          have HC : Hid (chV (rs.map Ru.abs) f.ns ⟨un, (q : Int), ur⟩ = [] ∧ chB (rs.map Ru.abs) f.ns ⟨un, (q : Int), ur⟩ = false) := by
            show _ ∧ _
            unfold chV chB
            rw [hFit.out, H.out.no hlt hix]
            exact ⟨rfl, rfl⟩
          simp only [ixM]
          go_wp2
          go_ret2
          exact ⟨none, 0, by rw [HC.out.1, HC.out.2]; rfl, .inl HC.out.1, HB2W.out.trans (HB3.out.mono HB2W.out.size)⟩
        | some i =>
          have HS : Hid (NumTo f.ns ks (k + 1) (acc ++ [(i : Int)])) := H.out.yes hlt hix
          have hil := nodeIx_lt hix
          have hown := HO3.out.alloc (.cells #[.int .i64 (i : Int)] 3)
          have HW := Lib.hid hown; clear hown
          have HNW := Lib.hid (cell_one_new w3 (.int .i64 (i : Int)) 3)
          have hsz := HB3.out.size
          simp only [ixM]
          have hnn : ¬ (i : Int) < 0 := by omega
          go_wp2_with (at_builtin
                       refine wpList_append_own _ rfl (.tmp 52) (.tmp 54) _ rfl w2.heap.size 3 i0 _ 1 8 Tryd.underlying27 hi0 hz0 hz1 hz2 rfl (by omega) _ _ _ rfl HW.out ⟨w3.heap.size, 0, none⟩ 1 1 [.int .i64 (i : Int)] rfl rfl HNW.out (by intro u hu; simp at hu; subst hu; rfl) (by unfold maxLen; omega) (by omega) (by simp; omega) ?_
                       intro v' w' h1 h2 h3
                       have HO1 := Lib.hid h1
                       have HG1 := Lib.hid h2
                       clear h1 h2 h3)
          go_roundw
          case rel =>
            refine ⟨k + 1, acc ++ [(i : Int)], by omega, by go_num, by simp; omega, ?_, HS, ?_⟩
            · show World.ownsRow _ _ _ _ _ _ _
              simpa using HO1.out
            · exact (HB3.out.alloc hsz _).grown HG1.out (by simp; omega) fun j hj => (HO3.out.lt j hj).1
          case measure => simp [intOf]; omega
      · obtain rfl : k = ks.length := by omega
        have HC : Hid (chV (rs.map Ru.abs) f.ns ⟨un, (q : Int), ur⟩ = acc ∧ chB (rs.map Ru.abs) f.ns ⟨un, (q : Int), ur⟩ = true) := by
          show _ ∧ _
          unfold chV chB
          rw [hFit.out, H.out.done]
          exact ⟨rfl, rfl⟩
        obtain ⟨A', c', rfl, hO⟩ := ownI_of_row HO.out
        have HO' := Lib.hid hO; clear hO
        go_wp2
        go_ret2
        exact ⟨A', c', by rw [HC.out.1, HC.out.2]; rfl, by rw [HC.out.1]; exact HO'.out.lower HB2W.out.size, HB2W.out.trans (hB.mono HB2W.out.size)⟩
  · have hne : ((ur.length : Int) != (rr.length : Int) + 1) = true := bne_t (by omega)
    have HC : Hid (chV (rs.map Ru.abs) f.ns ⟨un, (q : Int), ur⟩ = [] ∧ chB (rs.map Ru.abs) f.ns ⟨un, (q : Int), ur⟩ = false) := chB_no (by unfold fitsE; rw [List.length_map, HRO.out, show rulN rs.length (q : Int) = true from HQ.out, show decide (ur.length = rr.length + 1) = false from decide_eq_false hfl2]; rfl)
    clear hfl2
    have HWD : Hid (Below W.heap.size W W.drew) := by show Below _ _ _; go_grown
    go_region_held3 (fun w' => (w'.cell? ⟨w.heap.size, 0, none⟩ = some (.int .i64 n) ∧ w'.cell? ⟨w.heap.size, 1, none⟩ = some (.int .i64 t) ∧ w'.cell? ⟨w.heap.size, 2, none⟩ = some (.slice (some ⟨gb, go, none⟩) rs.length c)) ∧ (w'.cell? ⟨w.heap.size + 1 + 1, 0, none⟩ = some (.int .i64 un) ∧ w'.cell? ⟨w.heap.size + 1 + 1, 1, none⟩ = some (.int .i64 (q : Int)) ∧ w'.cell? ⟨w.heap.size + 1 + 1, 2, none⟩ = some (.slice ua ur.length uc)) ∧ w'.cell? ⟨gb, go + q * 2 + 1, none⟩ = some (.slice ra rr.length rc))
      (first | exact ⟨⟨x0, x1, x2⟩, ⟨x3, x4, x5⟩, x6⟩ | exact HSL.out _ (by go_grown))
      (first | (go_at_call 29
                with_reducible refine (HCR.out _).mono ?_
                rintro e w1 ⟨rfl, hw1'⟩
                replace hw1' := hw1'.symm
                subst hw1'))
    go_wp2
    go_ret2
    exact ⟨none, 0, by rw [HC.out.1, HC.out.2]; rfl, .inl HC.out.1, HB0.out.trans (HWD.out.mono HB0.out.size)⟩

end Go.Proofs.YtbgjlabjihoaaaaDoor

/- What ChildrenOf answers, the program's and the reference's. -/

namespace Go.Proofs.YtbgjlabjihoaaaaDoor
open Go.RowKit

theorem goodG_four {n t : Int} {ss : List (Int × List Int)} (h : goodG n t ss = true) : ∀ u ∈ ss, u.2.length ≤ 4 := fun u hu => by
  obtain ⟨j, hj, e⟩ := List.getElem_of_mem hu
  have h1 := ((goodG_is h).2.2.2 j u hj (by rw [List.getElem?_eq_getElem hj, e])).1
  unfold goodU at h1
  exact of_decide_eq_true (Bool.and_eq_true_iff.1 (Bool.and_eq_true_iff.1 h1).2).1
def edgB (f : Fs) (x : Int) : Bool := decide (0 ≤ x ∧ x < f.es.length)
def edgAt (f : Fs) (x : Int) : Es := f.es.getD x.toNat ⟨0, 0, []⟩
def vCO (n t : Int) (ss : List (Int × List Int)) (f : Fs) (x : Int) : List Int := if goodG n t ss && (smF f && edgB f x) then chV ss f.ns (edgAt f x) else []
def okCO (n t : Int) (ss : List (Int × List Int)) (f : Fs) (x : Int) : Bool := (goodG n t ss && (smF f && edgB f x)) && chB ss f.ns (edgAt f x)
theorem vCO_len {n t : Int} {ss : List (Int × List Int)} {f : Fs} {x : Int} : (vCO n t ss f x).length ≤ 1048576 := by
  unfold vCO
  split
  · rename_i h
    have hg := (Bool.and_eq_true_iff.1 h).1
    exact Nat.le_trans (chV_len (goodG_four hg)) (by omega)
  · simp

set_option maxRecDepth 20000 in
set_option maxHeartbeats 2000000 in
theorem implChildrenOf_any (n t : Int) (A : Option Addr) (rs : List Ru) (c : Nat) (f : Fo) (x : Int) (w : World) (hx : Rls w w.heap.size A rs) (hL : Lims w) (hc : rs.length ≤ c) (h1 : rs.length ≤ 1048576) (h2 : ∀ u ∈ rs, u.r.length ≤ 1048576) (hfr : FitR rs) (hf : ReadF w w.heap.size f) (hm : LenF 1048576 f) :
    Calls Tryd.prog 19 #[.agg #[.int .i64 n, .int .i64 t, .slice A rs.length c], (.agg #[.slice f.a f.ns.length f.c, .slice f.b f.es.length f.d]), .int .i64 x] w (GaveIB w (vCO n t (rs.map Ru.abs) f.say x) (okCO n t (rs.map Ru.abs) f.say x)) := by
  have HX := Lib.hid hx; clear hx
  have H2 := Lib.hid h2; clear h2
  have HF := Lib.hid hf; clear hf
  have hme := hm.e
  have hmn := hm.n
  have HM := Lib.hid hm; clear hm
  have HL := Lib.hid hL; clear hL
  have HFR := Lib.hid hfr; clear hfr
  have HGD : Hid (∀ v, Below w.heap.size w v → Calls Tryd.prog 43 #[.agg #[.int .i64 n, .int .i64 t, .slice A rs.length c]] v fun e v' => e = .returned (.bool (goodG n t (rs.map Ru.abs))) ∧ Below v.heap.size v v') := fun v hv => goodGrammar_any n t A c rs v ((HX.out.keep hv).more hv.size) (HL.out.keep hv (Nat.le_refl _)) hc h1 H2.out HFR.out
  have HSM : Hid (∀ v, Below w.heap.size w v → Calls Tryd.prog 33 #[(.agg #[.slice f.a f.ns.length f.c, .slice f.b f.es.length f.d])] v fun e v' => e = .returned (.bool (smF f.say)) ∧ Below v.heap.size v v') := fun v hv => isSmall_any f v (HL.out.keep hv (Nat.le_refl _)) HM.out
  go_enter Tryd.func19, Tryd.ntmps19
  go_wp2_with fail
  have hB0 : Below w.heap.size w ((w.alloc (.cells #[.int .i64 n, .int .i64 t, .slice A rs.length c] 47)).alloc (.cells #[.slice f.a f.ns.length f.c, .slice f.b f.es.length f.d] 33)) := by go_grown
  have R0 : Row ((w.alloc (.cells #[.int .i64 n, .int .i64 t, .slice A rs.length c] 47)).alloc (.cells #[.slice f.a f.ns.length f.c, .slice f.b f.es.length f.d] 33)) w.heap.size 47 #[.int .i64 n, .int .i64 t, .slice A rs.length c] := (Row.new _ _ _).alloc _
  have B1 : BoxF ((w.alloc (.cells #[.int .i64 n, .int .i64 t, .slice A rs.length c] 47)).alloc (.cells #[.slice f.a f.ns.length f.c, .slice f.b f.es.length f.d] 33)) (w.heap.size + 1) f := by
    have h := BoxF.new (w.alloc (.cells #[.int .i64 n, .int .i64 t, .slice A rs.length c] 47)) f 33
    rw [World.size_alloc] at h; exact h
  generalize ((w.alloc (.cells #[.int .i64 n, .int .i64 t, .slice A rs.length c] 47)).alloc (.cells #[.slice f.a f.ns.length f.c, .slice f.b f.es.length f.d] 33)) = W at hB0 R0 B1 ⊢
  have HB0 := Lib.hid hB0; clear hB0
  have HR0 := Lib.hid R0; clear R0
  have HB1 := Lib.hid B1; clear B1
  refine (HGD.out _ HB0.out).mono ?_
  rintro e w1 ⟨rfl, hB1⟩
  have HR1 := Lib.hid (HR0.out.below hB1 HR0.out.lt)
  have HF1 := Lib.hid (HB1.out.keep hB1 HB1.out.1)
  have HW1 := Lib.hid (HB0.out.trans (hB1.mono HB0.out.size))
  clear hB1 HR0 HB1 HB0
  cases hg : goodG n t (rs.map Ru.abs)
  · have HC : Hid (vCO n t (rs.map Ru.abs) f.say x = [] ∧ okCO n t (rs.map Ru.abs) f.say x = false) := by show _ ∧ _; unfold vCO okCO; rw [hg]; exact ⟨rfl, rfl⟩
    clear hg
    go_wp2
    go_ret2
    exact ⟨none, 0, by rw [HC.out.1, HC.out.2]; rfl, .inl HC.out.1, HW1.out⟩
  have HG := Lib.hid hg; clear hg
  obtain ⟨_, b0, b1⟩ := HF1.out
  go_wp2_with fail
  refine (HSM.out _ HW1.out).mono ?_
  rintro e w2 ⟨rfl, hB2⟩
  clear b0 b1
  have HR2 := Lib.hid (HR1.out.below hB2 HR1.out.lt)
  have HF2 := Lib.hid (HF1.out.keep hB2 HF1.out.1)
  have HW2 := Lib.hid (HW1.out.trans (hB2.mono HW1.out.size))
  clear hB2 HR1 HF1 HW1
  cases hs : smF f.say
  · have HC : Hid (vCO n t (rs.map Ru.abs) f.say x = [] ∧ okCO n t (rs.map Ru.abs) f.say x = false) := by show _ ∧ _; unfold vCO okCO; rw [HG.out, hs]; exact ⟨rfl, rfl⟩
    clear hs
    go_wp2
    go_ret2
    exact ⟨none, 0, by rw [HC.out.1, HC.out.2]; rfl, .inl HC.out.1, HW2.out⟩
  have HS := Lib.hid hs; clear hs
  obtain ⟨_, b0, b1⟩ := HF2.out
  by_cases hx0 : x < 0
  · have HC : Hid (vCO n t (rs.map Ru.abs) f.say x = [] ∧ okCO n t (rs.map Ru.abs) f.say x = false) := by show _ ∧ _; unfold vCO okCO; rw [HG.out, HS.out, show edgB f.say x = false from decide_eq_false (by omega)]; exact ⟨rfl, rfl⟩
    go_wp2
    go_ret2
    exact ⟨none, 0, by rw [HC.out.1, HC.out.2]; rfl, .inl HC.out.1, HW2.out⟩
  by_cases hx1 : (f.es.length : Int) ≤ x
  · have HC : Hid (vCO n t (rs.map Ru.abs) f.say x = [] ∧ okCO n t (rs.map Ru.abs) f.say x = false) := by show _ ∧ _; unfold vCO okCO; rw [HG.out, HS.out, show edgB f.say x = false from decide_eq_false (by rw [f.say_es]; omega)]; exact ⟨rfl, rfl⟩
    go_wp2
    go_ret2
    exact ⟨none, 0, by rw [HC.out.1, HC.out.2]; rfl, .inl HC.out.1, HW2.out⟩
  have HED : Hid (edgB f.say x = true) := decide_eq_true (by rw [f.say_es]; omega)
  obtain ⟨q, rfl⟩ : ∃ q : Nat, x = (q : Int) := ⟨x.toNat, by omega⟩
  have hql : q < f.es.length := by omega
  have HR16 : Hid (∀ v ∈ rs, v.r.length ≤ 1000) := fun v hv => by
    have h := goodG_four HG.out v.abs (List.mem_map_of_mem hv)
    simp only [Ru.abs] at h
    omega
  have hul := HM.out.r f.es[q] (List.getElem_mem hql)
  have HAT : Hid (edgAt f.say (q : Int) = f.es[q].abs) := by
    show _ = _
    unfold edgAt
    simp [Fo.say, List.getD_eq_getElem?_getD, hql]
  have HV : Hid (vCO n t (rs.map Ru.abs) f.say (q : Int) = chV (rs.map Ru.abs) f.ns f.es[q].abs ∧ okCO n t (rs.map Ru.abs) f.say (q : Int) = chB (rs.map Ru.abs) f.ns f.es[q].abs) := by
    show _ ∧ _
    unfold vCO okCO
    rw [HG.out, HS.out, HED.out, HAT.out]
    exact ⟨rfl, rfl⟩
  have hb0 := Lib.hid b0; clear b0
  obtain ⟨fa, fns, fc, fb, fes, fd⟩ := f
  obtain ⟨eb, eo, rfl, HEA0⟩ := HF.out.2.edge hql
  have HEA : Hid (∀ v, Below w.heap.size w v → EdgeAt v eb (eo + q * 3) fes[q]) := fun v hv => HEA0.keep hv
  clear HEA0
  replace hul : fes[q].r.length ≤ 1048576 := hul
  replace HV : Hid (vCO n t (rs.map Ru.abs) (Fo.mk fa fns fc (some ⟨eb, eo, none⟩) fes fd).say (q : Int) = chV (rs.map Ru.abs) fns fes[q].abs ∧ okCO n t (rs.map Ru.abs) (Fo.mk fa fns fc (some ⟨eb, eo, none⟩) fes fd).say (q : Int) = chB (rs.map Ru.abs) fns fes[q].abs) := HV.out
  replace hql : q < fes.length := hql
  replace hme : fes.length ≤ 1048576 := hme
  obtain ⟨f0, hf0⟩ : ∃ x, x = Fo.mk fa fns fc (some ⟨eb, eo, none⟩) fes fd := ⟨_, rfl⟩
  have HCH : Hid (∀ v, Below w.heap.size w v → Calls Tryd.prog 44 #[.agg #[.int .i64 n, .int .i64 t, .slice A rs.length c], .agg #[.slice fa fns.length fc, .slice (some ⟨eb, eo, none⟩) fes.length fd], .pointer (some ⟨eb, eo + q * 3, none⟩)] v (GaveIB v (chV (rs.map Ru.abs) fns fes[q].abs) (chB (rs.map Ru.abs) fns fes[q].abs))) := fun v hv =>
    implChildren_any n t A rs c (Fo.mk fa fns fc (some ⟨eb, eo, none⟩) fes fd) eb (eo + q * 3) fes[q] v ((HX.out.keep hv).more hv.size) h1 HR16.out ((HF.out.1.keep hv).more hv.size) hmn (HEA.out v hv) hul
  clear hf0 f0
  have HKS : Hid (∀ v, Below w2.heap.size w2 v → v.cell? ⟨w.heap.size, 0, none⟩ = some (.int .i64 n) ∧ v.cell? ⟨w.heap.size, 1, none⟩ = some (.int .i64 t) ∧ v.cell? ⟨w.heap.size, 2, none⟩ = some (.slice A rs.length c) ∧ v.cell? ⟨w.heap.size + 1, 0, none⟩ = some (.slice fa fns.length fc) ∧ v.cell? ⟨w.heap.size + 1, 1, none⟩ = some (.slice (some ⟨eb, eo, none⟩) fes.length fd) ∧
      v.cell? ⟨eb, eo + q * 3, none⟩ = some (.int .i64 fes[q].n) ∧ v.cell? ⟨eb, eo + q * 3 + 1, none⟩ = some (.int .i64 fes[q].e) ∧ v.cell? ⟨eb, eo + q * 3 + 2, none⟩ = some (.slice fes[q].a fes[q].r.length fes[q].c)) := fun v hv => by
    have r := HR2.out.below hv HR2.out.lt
    have e := HEA.out v (HW2.out.trans (hv.mono HW2.out.size))
    have k := HF2.out.keep hv HF2.out.1
    refine ⟨?_, ?_, ?_, k.2.1, k.2.2, e.2.1, e.2.2.1, e.2.2.2.1⟩
    · simpa using r.cell 0
    · simpa using r.cell 1
    · simpa using r.cell 2
  clear b1
  obtain ⟨x0, x1, x2, x3, x4, x5, x6, x7⟩ := HKS.out w2 (Below.refl _ _)
  have hxa : ¬ (q : Int) < 0 := by omega
  have hxb : ¬ (fes.length : Int) ≤ (q : Int) := by omega
  clear hx0 hx1
  go_wp2_with fail
  go_region_held3 (fun w' => w'.cell? ⟨w.heap.size, 0, none⟩ = some (.int .i64 n) ∧ w'.cell? ⟨w.heap.size, 1, none⟩ = some (.int .i64 t) ∧ w'.cell? ⟨w.heap.size, 2, none⟩ = some (.slice A rs.length c) ∧ w'.cell? ⟨w.heap.size + 1, 0, none⟩ = some (.slice fa fns.length fc) ∧ w'.cell? ⟨w.heap.size + 1, 1, none⟩ = some (.slice (some ⟨eb, eo, none⟩) fes.length fd) ∧ w'.cell? ⟨eb, eo + q * 3, none⟩ = some (.int .i64 fes[q].n) ∧ w'.cell? ⟨eb, eo + q * 3 + 1, none⟩ = some (.int .i64 fes[q].e) ∧ w'.cell? ⟨eb, eo + q * 3 + 2, none⟩ = some (.slice fes[q].a fes[q].r.length fes[q].c))
    (first | exact HKS.out _ HX3.out | exact ⟨x0, x1, x2, x3, x4, x5, x6, x7⟩)
    (first | (go_at_call 44
              with_reducible refine (HCH.out _ ?_).mono ?_
              · exact HW2.out.trans (Below.mono (B := w2.heap.size) (by go_grown) HW2.out.size)
              rintro e w4 ⟨A4, c4, rfl, hO4, hB4'⟩
              have hB4 : Below w2.heap.size w2 w4 := Below.trans (by go_grown) hB4'
              have HO4 : Hid (OwnI w4 w.heap.size A4 (chV (rs.map Ru.abs) fns fes[q].abs)) := hO4.lower (by have := HW2.out.size; simp; omega)
              have HX3 := Lib.hid hB4
              clear hB4 hB4' hO4))
  rename_i hHeld
  clear hHeld x0 x1 x2 x3 x4 x5 x6 x7
  go_wp2
  go_ret2
  exact ⟨A4, c4, by rw [HV.out.1, HV.out.2]; rfl, by rw [HV.out.1]; exact HO4.out, HW2.out.trans (HX3.out.mono HW2.out.size)⟩

set_option maxRecDepth 20000 in
set_option maxHeartbeats 2000000 in
theorem specChildrenOf_any (n t : Int) (A : Option Addr) (rs : List Ru) (c : Nat) (f : Fo) (x : Int) (w : World) (hx : Rls w w.heap.size A rs) (hc : rs.length ≤ c) (h1 : rs.length ≤ 1048576) (h2 : ∀ u ∈ rs, u.r.length ≤ 1048576) (hf : ReadF w w.heap.size f) (hm : LenF 1048576 f) :
    Calls Tryd.prog 17 #[.agg #[.int .i64 n, .int .i64 t, .slice A rs.length c], (.agg #[.slice f.a f.ns.length f.c, .slice f.b f.es.length f.d]), .int .i64 x] w (GaveIB w (vCO n t (rs.map Ru.abs) f.say x) (okCO n t (rs.map Ru.abs) f.say x)) := by
  have HX := Lib.hid hx; clear hx
  have H2 := Lib.hid h2; clear h2
  have HF := Lib.hid hf; clear hf
  have hme := hm.e
  have hmn := hm.n
  have HM := Lib.hid hm; clear hm
  have HGD : Hid (∀ v, Below w.heap.size w v → Calls Tryd.prog 40 #[.agg #[.int .i64 n, .int .i64 t, .slice A rs.length c]] v fun e v' => e = .returned (.bool (goodG n t (rs.map Ru.abs))) ∧ Below v.heap.size v v') := fun v hv => specGood_any n t A c rs v ((HX.out.keep hv).more hv.size) hc h1 H2.out
  have HSM : Hid (∀ v, Below w.heap.size w v → Calls Tryd.prog 28 #[(.agg #[.slice f.a f.ns.length f.c, .slice f.b f.es.length f.d])] v fun e v' => e = .returned (.bool (smF f.say)) ∧ Below v.heap.size v v') := fun v hv => l9Sized_any f v HM.out
  have HIN : Hid (∀ v, Calls Tryd.prog 29 #[.int .i64 x, .int .i64 0, .int .i64 ((f.es.length : Int) - 1)] v fun e v' => e = .returned (.bool (edgB f.say x)) ∧ v = v') := fun v => by
    refine (l1In_any x 0 ((f.es.length : Int) - 1) v).mono ?_
    rintro e v' ⟨rfl, rfl⟩
    refine ⟨ret_b ?_, rfl⟩
    unfold inB edgB
    rw [f.say_es]
    exact decide_eq_decide.2 ⟨fun h => ⟨h.1, by omega⟩, fun h => ⟨h.1, by omega⟩⟩
  have hw0 : IntKind.i64.wrap ((f.es.length : Int) - 1) = (f.es.length : Int) - 1 := by rw [IntKind.wrap_i64]; omega
  go_enter Tryd.func17, Tryd.ntmps17
  go_wp2_with fail
  have hB0 : Below w.heap.size w ((w.alloc (.cells #[.int .i64 n, .int .i64 t, .slice A rs.length c] 47)).alloc (.cells #[.slice f.a f.ns.length f.c, .slice f.b f.es.length f.d] 33)) := by go_grown
  have R0 : Row ((w.alloc (.cells #[.int .i64 n, .int .i64 t, .slice A rs.length c] 47)).alloc (.cells #[.slice f.a f.ns.length f.c, .slice f.b f.es.length f.d] 33)) w.heap.size 47 #[.int .i64 n, .int .i64 t, .slice A rs.length c] := (Row.new _ _ _).alloc _
  have B1 : BoxF ((w.alloc (.cells #[.int .i64 n, .int .i64 t, .slice A rs.length c] 47)).alloc (.cells #[.slice f.a f.ns.length f.c, .slice f.b f.es.length f.d] 33)) (w.heap.size + 1) f := by
    have h := BoxF.new (w.alloc (.cells #[.int .i64 n, .int .i64 t, .slice A rs.length c] 47)) f 33
    rw [World.size_alloc] at h; exact h
  generalize ((w.alloc (.cells #[.int .i64 n, .int .i64 t, .slice A rs.length c] 47)).alloc (.cells #[.slice f.a f.ns.length f.c, .slice f.b f.es.length f.d] 33)) = W at hB0 R0 B1 ⊢
  have HB0 := Lib.hid hB0; clear hB0
  have HR0 := Lib.hid R0; clear R0
  have HB1 := Lib.hid B1; clear B1
  refine (HGD.out _ HB0.out).mono ?_
  rintro e w1 ⟨rfl, hB1⟩
  have HR1 := Lib.hid (HR0.out.below hB1 HR0.out.lt)
  have HF1 := Lib.hid (HB1.out.keep hB1 HB1.out.1)
  have HW1 := Lib.hid (HB0.out.trans (hB1.mono HB0.out.size))
  clear hB1 HR0 HB1 HB0
  cases hg : goodG n t (rs.map Ru.abs)
  · have HC : Hid (vCO n t (rs.map Ru.abs) f.say x = [] ∧ okCO n t (rs.map Ru.abs) f.say x = false) := by show _ ∧ _; unfold vCO okCO; rw [hg]; exact ⟨rfl, rfl⟩
    clear hg
    go_wp2
    go_ret2
    exact ⟨none, 0, by rw [HC.out.1, HC.out.2]; rfl, .inl HC.out.1, HW1.out⟩
  have HG := Lib.hid hg; clear hg
  obtain ⟨_, b0, b1⟩ := HF1.out
  go_wp2_with fail
  refine (HSM.out _ HW1.out).mono ?_
  rintro e w2 ⟨rfl, hB2⟩
  clear b0 b1
  have HR2 := Lib.hid (HR1.out.below hB2 HR1.out.lt)
  have HF2 := Lib.hid (HF1.out.keep hB2 HF1.out.1)
  have HW2 := Lib.hid (HW1.out.trans (hB2.mono HW1.out.size))
  clear hB2 HR1 HF1 HW1
  cases hs : smF f.say
  · have HC : Hid (vCO n t (rs.map Ru.abs) f.say x = [] ∧ okCO n t (rs.map Ru.abs) f.say x = false) := by show _ ∧ _; unfold vCO okCO; rw [HG.out, hs]; exact ⟨rfl, rfl⟩
    clear hs
    go_wp2
    go_ret2
    exact ⟨none, 0, by rw [HC.out.1, HC.out.2]; rfl, .inl HC.out.1, HW2.out⟩
  have HS := Lib.hid hs; clear hs
  obtain ⟨_, b0, b1⟩ := HF2.out
  go_wp2_with fail
  refine (HIN.out _).mono ?_
  rintro e w3 ⟨rfl, hw3⟩
  subst hw3
  cases hd : edgB f.say x
  · have HC : Hid (vCO n t (rs.map Ru.abs) f.say x = [] ∧ okCO n t (rs.map Ru.abs) f.say x = false) := by show _ ∧ _; unfold vCO okCO; rw [HG.out, HS.out, hd]; exact ⟨rfl, rfl⟩
    clear hd
    go_wp2
    go_ret2
    exact ⟨none, 0, by rw [HC.out.1, HC.out.2]; rfl, .inl HC.out.1, HW2.out⟩
  have hxx := of_decide_eq_true hd
  rw [f.say_es] at hxx
  have hx0 : ¬ x < 0 := by omega
  have hx1 : ¬ (f.es.length : Int) ≤ x := by omega
  clear hxx
  have HED := Lib.hid hd; clear hd
  obtain ⟨q, rfl⟩ : ∃ q : Nat, x = (q : Int) := ⟨x.toNat, by omega⟩
  have hql : q < f.es.length := by omega
  have HR16 : Hid (∀ v ∈ rs, v.r.length ≤ 1000) := fun v hv => by
    have h := goodG_four HG.out v.abs (List.mem_map_of_mem hv)
    simp only [Ru.abs] at h
    omega
  have hul := HM.out.r f.es[q] (List.getElem_mem hql)
  have HAT : Hid (edgAt f.say (q : Int) = f.es[q].abs) := by
    show _ = _
    unfold edgAt
    simp [Fo.say, List.getD_eq_getElem?_getD, hql]
  have HV : Hid (vCO n t (rs.map Ru.abs) f.say (q : Int) = chV (rs.map Ru.abs) f.ns f.es[q].abs ∧ okCO n t (rs.map Ru.abs) f.say (q : Int) = chB (rs.map Ru.abs) f.ns f.es[q].abs) := by
    show _ ∧ _
    unfold vCO okCO
    rw [HG.out, HS.out, HED.out, HAT.out]
    exact ⟨rfl, rfl⟩
  have hb0 := Lib.hid b0; clear b0
  obtain ⟨fa, fns, fc, fb, fes, fd⟩ := f
  obtain ⟨eb, eo, rfl, HEA0⟩ := HF.out.2.edge hql
  have HEA : Hid (∀ v, Below w.heap.size w v → EdgeAt v eb (eo + q * 3) fes[q]) := fun v hv => HEA0.keep hv
  clear HEA0
  replace hul : fes[q].r.length ≤ 1048576 := hul
  replace HV : Hid (vCO n t (rs.map Ru.abs) (Fo.mk fa fns fc (some ⟨eb, eo, none⟩) fes fd).say (q : Int) = chV (rs.map Ru.abs) fns fes[q].abs ∧ okCO n t (rs.map Ru.abs) (Fo.mk fa fns fc (some ⟨eb, eo, none⟩) fes fd).say (q : Int) = chB (rs.map Ru.abs) fns fes[q].abs) := HV.out
  replace hql : q < fes.length := hql
  replace hme : fes.length ≤ 1048576 := hme
  obtain ⟨f0, hf0⟩ : ∃ x, x = Fo.mk fa fns fc (some ⟨eb, eo, none⟩) fes fd := ⟨_, rfl⟩
  have HCH : Hid (∀ v, Below w.heap.size w v → Calls Tryd.prog 41 #[.agg #[.int .i64 n, .int .i64 t, .slice A rs.length c], .agg #[.slice fa fns.length fc, .slice (some ⟨eb, eo, none⟩) fes.length fd], .agg #[.int .i64 fes[q].n, .int .i64 fes[q].e, .slice fes[q].a fes[q].r.length fes[q].c]] v (GaveIB v (chV (rs.map Ru.abs) fns fes[q].abs) (chB (rs.map Ru.abs) fns fes[q].abs))) := fun v hv =>
    specChildren_any n t A rs c (Fo.mk fa fns fc (some ⟨eb, eo, none⟩) fes fd) fes[q] v ((HX.out.keep hv).more hv.size) h1 HR16.out ((HF.out.1.keep hv).more hv.size) hmn ((HEA.out v hv).2.2.2.2) hul
  clear hf0 f0
  have HKS : Hid (∀ v, Below w2.heap.size w2 v → v.cell? ⟨w.heap.size, 0, none⟩ = some (.int .i64 n) ∧ v.cell? ⟨w.heap.size, 1, none⟩ = some (.int .i64 t) ∧ v.cell? ⟨w.heap.size, 2, none⟩ = some (.slice A rs.length c) ∧ v.cell? ⟨w.heap.size + 1, 0, none⟩ = some (.slice fa fns.length fc) ∧ v.cell? ⟨w.heap.size + 1, 1, none⟩ = some (.slice (some ⟨eb, eo, none⟩) fes.length fd) ∧
      v.cell? ⟨eb, eo + q * 3, none⟩ = some (.int .i64 fes[q].n) ∧ v.cell? ⟨eb, eo + q * 3 + 1, none⟩ = some (.int .i64 fes[q].e) ∧ v.cell? ⟨eb, eo + q * 3 + 2, none⟩ = some (.slice fes[q].a fes[q].r.length fes[q].c)) := fun v hv => by
    have r := HR2.out.below hv HR2.out.lt
    have e := HEA.out v (HW2.out.trans (hv.mono HW2.out.size))
    have k := HF2.out.keep hv HF2.out.1
    refine ⟨?_, ?_, ?_, k.2.1, k.2.2, e.2.1, e.2.2.1, e.2.2.2.1⟩
    · simpa using r.cell 0
    · simpa using r.cell 1
    · simpa using r.cell 2
  clear b1
  obtain ⟨x0, x1, x2, x3, x4, x5, x6, x7⟩ := HKS.out w2 (Below.refl _ _)
  clear hx0 hx1
  go_wp2_with fail
  go_region_held3 (fun w' => w'.cell? ⟨w.heap.size, 0, none⟩ = some (.int .i64 n) ∧ w'.cell? ⟨w.heap.size, 1, none⟩ = some (.int .i64 t) ∧ w'.cell? ⟨w.heap.size, 2, none⟩ = some (.slice A rs.length c) ∧ w'.cell? ⟨w.heap.size + 1, 0, none⟩ = some (.slice fa fns.length fc) ∧ w'.cell? ⟨w.heap.size + 1, 1, none⟩ = some (.slice (some ⟨eb, eo, none⟩) fes.length fd) ∧ w'.cell? ⟨eb, eo + q * 3, none⟩ = some (.int .i64 fes[q].n) ∧ w'.cell? ⟨eb, eo + q * 3 + 1, none⟩ = some (.int .i64 fes[q].e) ∧ w'.cell? ⟨eb, eo + q * 3 + 2, none⟩ = some (.slice fes[q].a fes[q].r.length fes[q].c))
    (first | exact HKS.out _ HX3.out | exact ⟨x0, x1, x2, x3, x4, x5, x6, x7⟩)
    (first | (go_at_call 41
              with_reducible refine (HCH.out _ ?_).mono ?_
              · exact HW2.out.trans (Below.mono (B := w2.heap.size) (by go_grown) HW2.out.size)
              rintro e w4 ⟨A4, c4, rfl, hO4, hB4'⟩
              have hB4 : Below w2.heap.size w2 w4 := Below.trans (by go_grown) hB4'
              have HO4 : Hid (OwnI w4 w.heap.size A4 (chV (rs.map Ru.abs) fns fes[q].abs)) := hO4.lower (by have := HW2.out.size; simp; omega)
              have HX3 := Lib.hid hB4
              clear hB4 hB4' hO4))
  rename_i hHeld
  clear hHeld x0 x1 x2 x3 x4 x5 x6 x7
  go_wp2
  go_ret2
  exact ⟨A4, c4, by rw [HV.out.1, HV.out.2]; rfl, by rw [HV.out.1]; exact HO4.out, HW2.out.trans (HX3.out.mono HW2.out.size)⟩

end Go.Proofs.YtbgjlabjihoaaaaDoor

/- The law of ChildrenOf: its walk. -/

namespace Go.Proofs.YtbgjlabjihoaaaaDoor
open Go.RowKit

set_option maxRecDepth 20000 in
set_option maxHeartbeats 2000000 in
theorem law_ChildrenOf (n t : Int) (A : Option Addr) (c : Nat) (rs : List Ru) (f : Fo) (x : Int) (w : World) (hx : Rls w w.heap.size A rs) (hn : rs.length ≤ maxLen) (hu : ∀ u ∈ rs, u.r.length ≤ maxLen) (hfr : FitR rs) (hf : ReadF w w.heap.size f) (hm : LenF maxLen f) (hfe : FitE f.es) (_ : F64 x) (hL : Lims w) :
    Calls Tryd.prog 4 #[.agg #[.int .i64 n, .int .i64 t, .slice A rs.length c], (.agg #[.slice f.a f.ns.length f.c, .slice f.b f.es.length f.d]), .int .i64 x] w (LawEnds w) := by
  have HX := Lib.hid hx; clear hx
  have HF := Lib.hid hf; clear hf
  have HL := Lib.hid hL; clear hL
  have HU := Lib.hid hu; clear hu
  have HM := Lib.hid hm; clear hm
  have HFR := Lib.hid hfr; clear hfr
  have HFE := Lib.hid hfe; clear hfe
  go_enter Tryd.func4, Tryd.ntmps4
  go_wp2_with fail
  have hBA : Below w.heap.size w ((w.alloc (.cells #[.int .i64 n, .int .i64 t, .slice A rs.length c] 42)).alloc (.cells #[.slice f.a f.ns.length f.c, .slice f.b f.es.length f.d] 25)) := by go_grown
  have R0 : Row ((w.alloc (.cells #[.int .i64 n, .int .i64 t, .slice A rs.length c] 42)).alloc (.cells #[.slice f.a f.ns.length f.c, .slice f.b f.es.length f.d] 25)) w.heap.size 42 #[.int .i64 n, .int .i64 t, .slice A rs.length c] := (Row.new _ _ _).alloc _
  have B1 : BoxF ((w.alloc (.cells #[.int .i64 n, .int .i64 t, .slice A rs.length c] 42)).alloc (.cells #[.slice f.a f.ns.length f.c, .slice f.b f.es.length f.d] 25)) (w.heap.size + 1) f := by
    have h := BoxF.new (w.alloc (.cells #[.int .i64 n, .int .i64 t, .slice A rs.length c] 42)) f 25
    rw [World.size_alloc] at h; exact h
  generalize ((w.alloc (.cells #[.int .i64 n, .int .i64 t, .slice A rs.length c] 42)).alloc (.cells #[.slice f.a f.ns.length f.c, .slice f.b f.es.length f.d] 25)) = W at hBA R0 B1 ⊢
  have HBA := Lib.hid hBA; clear hBA
  have HSK : Hid (∀ v, Below W.heap.size W v → (v.cell? ⟨w.heap.size, 0, none⟩ = some (.int .i64 n) ∧ v.cell? ⟨w.heap.size, 1, none⟩ = some (.int .i64 t) ∧ v.cell? ⟨w.heap.size, 2, none⟩ = some (.slice A rs.length c)) ∧ (v.cell? ⟨w.heap.size + 1, 0, none⟩ = some (.slice f.a f.ns.length f.c) ∧ v.cell? ⟨w.heap.size + 1, 1, none⟩ = some (.slice f.b f.es.length f.d))) := fun v hv => by
    have r := R0.below hv R0.lt
    have b := B1.keep hv B1.1
    refine ⟨⟨?_, ?_, ?_⟩, b.2⟩
    · simpa using r.cell 0
    · simpa using r.cell 1
    · simpa using r.cell 2
  have HWL : Hid (w.heap.size + 1 < W.heap.size) := B1.1
  clear R0 B1
  refine (szGrammar_any _ _ _ _ _ _ _ ((HX.out.keep HBA.out).more HBA.out.size) hn HU.out (by omega) (by omega)).mono ?_
  rintro e w1 ⟨rfl, hB1⟩
  have HW1 := Lib.hid hB1; clear hB1
  by_cases hneg : szRs rs 1048576 < 0
  · go_wp2
    go_ret
    exact ⟨rfl, HBA.out.trans (HW1.out.mono HBA.out.size)⟩
  obtain ⟨hlen0, hlens0⟩ := szRs_bound (L := 1048576) (by omega) (by omega : 0 ≤ szRs rs 1048576)
  have hszl : szRs rs 1048576 ≤ 1048576 := szRs_low (by omega) (by omega)
  have hlen : rs.length ≤ 1048576 := by omega
  have HLN : Hid (∀ u ∈ rs, u.r.length ≤ 1048576) := fun u hu => by have := hlens0 u hu; omega
  clear hlen0 hlens0
  obtain ⟨⟨a0, a1, a2⟩, b0, b1⟩ := HSK.out w1 HW1.out
  go_wp2_with fail
  refine (szForest_any _ _ _ ((HF.out.keep (HBA.out.trans (HW1.out.mono HBA.out.size))).more (Nat.le_trans HBA.out.size HW1.out.size)) HM.out (by omega) hszl).mono ?_
  rintro e w2 ⟨rfl, hB2⟩
  have HW2 := Lib.hid (HW1.out.trans (hB2.mono HW1.out.size)); clear hB2 HW1
  clear a0 a1 a2 b0 b1
  by_cases hneg2 : szFo f.ns.length f.es (szRs rs 1048576) < 0
  · go_wp2
    go_ret
    exact ⟨rfl, HBA.out.trans (HW2.out.mono HBA.out.size)⟩
  have HLM : Hid (LenF 1048576 f) := (szFo_bound (f := f) (L := szRs rs 1048576) (by omega) hszl (by omega)).1
  have HTG : Hid (∀ v, Below W.heap.size W v → Calls Tryd.prog 18 #[.agg #[.int .i64 n, .int .i64 t, .slice A rs.length c]] v (GaveG v n t (rs.map Ru.abs))) := fun v hv => by
    have hb := HBA.out.trans (hv.mono HBA.out.size)
    exact toGrammar_any n t A rs c v ((HX.out.keep hb).more hb.size) hlen HLN.out
  have HTF : Hid (∀ v, Below W.heap.size W v → Calls Tryd.prog 9 #[(.agg #[.slice f.a f.ns.length f.c, .slice f.b f.es.length f.d])] v (GaveF v f.say)) := fun v hv => by
    have hb := HBA.out.trans (hv.mono HBA.out.size)
    exact toForest_any f v ((HF.out.keep hb).more hb.size) HLM.out
  have hyl : (vCO n t (rs.map Ru.abs) f.say x).length ≤ 1048576 := vCO_len
  have HSPE : Hid (∀ (A' : Option Addr) (rs' : List Ru) (c' : Nat) (f' : Fo) (lo lo' : Nat) (v : World), OwnR v lo A' rs' → rs'.length ≤ c' → rs'.map Ru.abs = rs.map Ru.abs → OwnF v lo' f' → f'.say = f.say → Calls Tryd.prog 17 #[.agg #[.int .i64 n, .int .i64 t, .slice A' rs'.length c'], (.agg #[.slice f'.a f'.ns.length f'.c, .slice f'.b f'.es.length f'.d]), .int .i64 x] v (GaveIB v (vCO n t (rs.map Ru.abs) f.say x) (okCO n t (rs.map Ru.abs) f.say x))) := fun A' rs' c' f' lo lo' v h1 h2 h3 h4 h5 => by
    have h6 := specChildrenOf_any n t A' rs' c' f' x v h1.rls h2 (by have := abs_len h3; omega) (abs_lens h3 HLN.out) h4.read (HLM.out.of_say h5)
    rw [h3, h5] at h6
    exact h6
  have HIMP : Hid (∀ (A' : Option Addr) (rs' : List Ru) (c' : Nat) (f' : Fo) (lo lo' : Nat) (v : World), OwnR v lo A' rs' → rs'.length ≤ c' → rs'.map Ru.abs = rs.map Ru.abs → OwnF v lo' f' → f'.say = f.say → Below W.heap.size W v → Calls Tryd.prog 19 #[.agg #[.int .i64 n, .int .i64 t, .slice A' rs'.length c'], (.agg #[.slice f'.a f'.ns.length f'.c, .slice f'.b f'.es.length f'.d]), .int .i64 x] v (GaveIB v (vCO n t (rs.map Ru.abs) f.say x) (okCO n t (rs.map Ru.abs) f.say x))) := fun A' rs' c' f' lo lo' v h1 h2 h3 h4 h5 hv => by
    have h6 := implChildrenOf_any n t A' rs' c' f' x v h1.rls (HL.out.keep (HBA.out.trans (hv.mono HBA.out.size)) (Nat.le_refl _)) h2 (by have := abs_len h3; omega) (abs_lens h3 HLN.out) (abs_fit h3 HFR.out) h4.read (HLM.out.of_say h5)
    rw [h3, h5] at h6
    exact h6
  generalize vCO n t (rs.map Ru.abs) f.say x = ys at hyl HIMP HSPE
  generalize okCO n t (rs.map Ru.abs) f.say x = ok at HIMP HSPE
  have HEI : Hid (∀ (A A' : Option Addr) (c c' lo lo' : Nat) (v : World), OwnI v lo A ys → OwnI v lo' A' ys → Calls Tryd.prog 11 #[.slice A ys.length c, .slice A' ys.length c'] v fun e v' => e = .returned (.bool true) ∧ Below v.heap.size v v') := fun A A' c c' lo lo' v h1 h2 => by
    have h := eqIntS_any A A' ys ys c c' v h1.ints h2.ints hyl
    rw [eqL_refl] at h
    exact h
  -- the reference's answer
  obtain ⟨⟨a0, a1, a2⟩, b0, b1⟩ := HSK.out w2 HW2.out
  go_wp2_with fail
  go_region_held3 (fun w' => (w'.cell? ⟨w.heap.size, 0, none⟩ = some (.int .i64 n) ∧ w'.cell? ⟨w.heap.size, 1, none⟩ = some (.int .i64 t) ∧ w'.cell? ⟨w.heap.size, 2, none⟩ = some (.slice A rs.length c)) ∧ (w'.cell? ⟨w.heap.size + 1, 0, none⟩ = some (.slice f.a f.ns.length f.c) ∧ w'.cell? ⟨w.heap.size + 1, 1, none⟩ = some (.slice f.b f.es.length f.d)))
    (first | exact HSK.out _ HV5.out | exact HSK.out _ HV4.out | exact HSK.out _ HV3.out | exact ⟨⟨a0, a1, a2⟩, b0, b1⟩)
    (first
    | (go_at_call 18
       with_reducible refine (HTG.out _ ?_).mono ?_
       · exact HW2.out.trans (Below.mono (B := w2.heap.size) (by go_grown) HW2.out.size)
       rintro e w3 ⟨A3, c3, rs3, rfl, hc3, hO3, hs3, hB3'⟩
       have hB3 : Below w2.heap.size w2 w3 := Below.trans (by go_grown) hB3'
       have HV3 := Lib.hid (HW2.out.trans (hB3.mono HW2.out.size))
       have hsz2 := hB3.size
       have HO3 := Lib.hid hO3
       have HS3 := Lib.hid hs3
       have HC3 := Lib.hid hc3
       clear hO3 hs3 hB3 hB3' hc3)
    | (go_at_call 9
       with_reducible refine (HTF.out _ HV3.out).mono ?_
       rintro e w4 ⟨f4, rfl, hs4, hO4, _, hB4'⟩
       have HV4 := Lib.hid (HV3.out.trans (hB4'.mono HV3.out.size))
       replace hsz2 := Nat.le_trans hsz2 hB4'.size
       have HP3 := Lib.hid (HO3.out.below hB4' (Nat.le_refl _))
       have HO4 := Lib.hid hO4
       have HS4 := Lib.hid hs4
       clear hO4 hs4 hB4')
    | (go_at_call 17
       with_reducible refine (HSPE.out _ _ _ _ _ _ _ HP3.out HC3.out HS3.out HO4.out HS4.out).mono ?_
       rintro e w5 ⟨A5, c5, rfl, hO5, hB5'⟩
       have HV5 := Lib.hid (HV4.out.trans (hB5'.mono HV4.out.size))
       have HO5 : Hid (OwnI w5 w2.heap.size A5 ys) := hO5.lower (by have := HV4.out.size; have := hsz2; omega)
       have HZ5 := Lib.hid (Nat.le_trans hsz2 hB5'.size)
       clear hB5' hO5))
  rename_i hHeld
  clear hHeld a0 a1 a2 b0 b1 HO3 HP3 HC3 HS3 HO4 HS4 HV3 HV4
  have HI5 : Hid (∀ b, Its A5 ys b → W.heap.size ≤ b ∧ b < w5.heap.size) := fun b hb => ⟨by have := (HO5.out.its hb).1; have := HW2.out.size; omega, (HO5.out.its hb).2⟩
  clear HW2 HSPE HZ5
  -- the program's arguments, copies
  obtain ⟨⟨a0, a1, a2⟩, b0, b1⟩ := HSK.out w5 HV5.out
  go_wp2_with fail
  refine (HTG.out _ HV5.out).mono ?_
  rintro e w6 ⟨A6, c6, rs6, rfl, hc6, hO6, hs6, hB6⟩
  clear a0 a1 a2 b0 b1
  have HW6 := Lib.hid (HV5.out.trans (hB6.mono HV5.out.size))
  have HI6 : Hid (∀ b, ItsR A6 rs6 b → w5.heap.size ≤ b ∧ b < w6.heap.size) := fun b hb => hO6.its hb
  have HS6 := Lib.hid hs6; clear hs6
  have HC6 := Lib.hid hc6; clear hc6
  have hl6 : rs6.length ≤ 1048576 := by have := abs_len HS6.out; omega
  have HLN6 := Lib.hid (abs_lens HS6.out HLN.out)
  have HO56 := Lib.hid (HO5.out.below hB6 (Nat.le_refl _))
  have HZ6 := Lib.hid hB6.size
  clear hB6
  obtain ⟨⟨a0, a1, a2⟩, b0, b1⟩ := HSK.out w6 HW6.out
  have hq6 : w.heap.size + 1 < w6.heap.size := Nat.lt_of_lt_of_le HWL.out HW6.out.size
  go_wp2_with fail
  clear hq6
  clear a0 a1 a2 b0 b1
  have hBX : Below w6.heap.size w6 (w6.alloc (.cells #[.int .i64 n, .int .i64 t, .slice A6 rs6.length c6] 47)) := by go_grown
  have R6 : Row (w6.alloc (.cells #[.int .i64 n, .int .i64 t, .slice A6 rs6.length c6] 47)) w6.heap.size 47 #[.int .i64 n, .int .i64 t, .slice A6 rs6.length c6] := Row.new _ _ _
  generalize (w6.alloc (.cells #[.int .i64 n, .int .i64 t, .slice A6 rs6.length c6] 47)) = X at hBX R6 ⊢
  have HOX := Lib.hid (hO6.below hBX (Nat.le_refl _)); clear hO6
  have HO5X := Lib.hid (HO56.out.below hBX (Nat.le_refl _)); clear HO56
  have HWX := Lib.hid (HW6.out.trans (hBX.mono HW6.out.size))
  have HR6 := Lib.hid R6; clear R6
  have HZX : Hid (w6.heap.size < X.heap.size) := HR6.out.lt
  clear hBX HW6
  refine (HTF.out _ HWX.out).mono ?_
  rintro e w7 ⟨f7, rfl, hs7, hO7, _, hB7⟩
  have HW7 := Lib.hid (HWX.out.trans (hB7.mono HWX.out.size))
  have HI7 : Hid (∀ b, ItsF f7 b → X.heap.size ≤ b ∧ b < w7.heap.size) := fun b hb => hO7.its hb
  have HS7 := Lib.hid hs7; clear hs7
  have HLM7 := Lib.hid (HLM.out.of_say HS7.out)
  have HO67 := Lib.hid (HOX.out.below hB7 (Nat.le_refl _)); clear HOX
  have HO57 := Lib.hid (HO5X.out.below hB7 (Nat.le_refl _)); clear HO5X
  have HR67 := Lib.hid (HR6.out.below hB7 HR6.out.lt); clear HR6
  have HZ7 := Lib.hid hB7.size
  clear hB7 HWX
  have x0 := HR67.out.cell 0
  have x1 := HR67.out.cell 1
  have x2 := HR67.out.cell 2
  simp only [List.getElem?_toArray, List.getElem?_cons_succ, List.getElem?_cons_zero] at x0 x1 x2
  have hr6 := HR67.out.lt
  go_wp2_with fail
  clear x0 x1 x2 hr6
  have hBY : Below w7.heap.size w7 (w7.alloc (.cells #[.slice f7.a f7.ns.length f7.c, .slice f7.b f7.es.length f7.d] 33)) := by go_grown
  have B7 := BoxF.new w7 f7 33
  generalize (w7.alloc (.cells #[.slice f7.a f7.ns.length f7.c, .slice f7.b f7.es.length f7.d] 33)) = Y at hBY B7 ⊢
  have HOY := Lib.hid (HO67.out.below hBY (Nat.le_refl _)); clear HO67
  have HOF := Lib.hid (hO7.below hBY (Nat.le_refl _)); clear hO7
  have HO5Y := Lib.hid (HO57.out.below hBY (Nat.le_refl _)); clear HO57
  have HRY := Lib.hid (HR67.out.below hBY HR67.out.lt); clear HR67
  have HBY := Lib.hid B7; clear B7
  have HWY := Lib.hid (HW7.out.trans (hBY.mono HW7.out.size))
  clear hBY HW7
  have HZY := Lib.hid HBY.out.1
  have HSX : Hid (∀ v, Below Y.heap.size Y v → (v.cell? ⟨w6.heap.size, 0, none⟩ = some (.int .i64 n) ∧ v.cell? ⟨w6.heap.size, 1, none⟩ = some (.int .i64 t) ∧ v.cell? ⟨w6.heap.size, 2, none⟩ = some (.slice A6 rs6.length c6)) ∧ (v.cell? ⟨w7.heap.size, 0, none⟩ = some (.slice f7.a f7.ns.length f7.c) ∧ v.cell? ⟨w7.heap.size, 1, none⟩ = some (.slice f7.b f7.es.length f7.d))) := fun v hv => by
    have r := HRY.out.below hv HRY.out.lt
    have b := HBY.out.keep hv HBY.out.1
    refine ⟨⟨?_, ?_, ?_⟩, b.2⟩
    · simpa using r.cell 0
    · simpa using r.cell 1
    · simpa using r.cell 2
  refine (HIMP.out _ _ _ _ _ _ _ HOY.out HC6.out HS6.out HOF.out HS7.out HWY.out).mono ?_
  rintro e w8 ⟨A8, c8, rfl, hO8, hB8⟩
  have HI8 : Hid (∀ b, Its A8 ys b → Y.heap.size ≤ b) := fun b hb => (hO8.its hb).1
  have HY8 := Lib.hid hB8
  have HO88 := Lib.hid hO8; clear hO8
  have HO58 := Lib.hid (HO5Y.out.below hB8 (Nat.le_refl _)); clear HO5Y
  clear hB8
  -- they say the same
  go_wp2_with fail
  refine (HEI.out _ _ _ _ _ _ _ HO88.out HO58.out).mono ?_
  rintro e w9 ⟨rfl, hB9⟩
  have HO89 := Lib.hid (HO88.out.below hB9 (Nat.le_refl _)); clear HO88
  have HO59 := Lib.hid (HO58.out.below hB9 (Nat.le_refl _)); clear HO58
  have HY9 := Lib.hid (HY8.out.trans (hB9.mono HY8.out.size)); clear hB9 HY8
  have hok : (ok != ok) = false := by simp
  have HTG9 : Hid (∀ v, Below Y.heap.size Y v → Calls Tryd.prog 18 #[.agg #[.int .i64 n, .int .i64 t, .slice A rs.length c]] v (GaveG v n t (rs.map Ru.abs))) := fun v hv => HTG.out v (HWY.out.trans (hv.mono HWY.out.size))
  have HTF9 : Hid (∀ v, Below Y.heap.size Y v → Calls Tryd.prog 9 #[(.agg #[.slice f.a f.ns.length f.c, .slice f.b f.es.length f.d])] v (GaveF v f.say)) := fun v hv => HTF.out v (HWY.out.trans (hv.mono HWY.out.size))
  have HQG : Hid (∀ (B : Option Addr) (ss : List Ru) (d lo : Nat) (v : World), Below Y.heap.size Y v → OwnR v lo B ss → ss.map Ru.abs = rs.map Ru.abs → Calls Tryd.prog 20 #[.agg #[.int .i64 n, .int .i64 t, .slice A6 rs6.length c6], .agg #[.int .i64 n, .int .i64 t, .slice B ss.length d]] v fun e v' => e = .returned (.bool true) ∧ Below v.heap.size v v') := fun B ss d lo v hv h1 h2 => by
    have h := eqGrammar_any n t n t A6 B rs6 ss c6 d v ((HOY.out.rls.keep hv).more hv.size) h1.rls hl6 HLN6.out
    rw [eqG_t (HS6.out.trans h2.symm)] at h
    exact h
  have HQF : Hid (∀ g v, Below Y.heap.size Y v → ReadF v v.heap.size g → g.say = f.say → Calls Tryd.prog 12 #[(.agg #[.slice f7.a f7.ns.length f7.c, .slice f7.b f7.es.length f7.d]), (.agg #[.slice g.a g.ns.length g.c, .slice g.b g.es.length g.d])] v fun e v' => e = .returned (.bool true) ∧ Below v.heap.size v v') := fun g v hv h1 h2 =>
    eqForest_same f7 g v ((HOF.out.read.keep hv).more hv.size) h1 HLM7.out (HS7.out.trans h2.symm)
  have HSZ : Hid (∀ v, Below Y.heap.size Y v → ((v.cell? ⟨w6.heap.size, 0, none⟩ = some (.int .i64 n) ∧ v.cell? ⟨w6.heap.size, 1, none⟩ = some (.int .i64 t) ∧ v.cell? ⟨w6.heap.size, 2, none⟩ = some (.slice A6 rs6.length c6)) ∧ (v.cell? ⟨w7.heap.size, 0, none⟩ = some (.slice f7.a f7.ns.length f7.c) ∧ v.cell? ⟨w7.heap.size, 1, none⟩ = some (.slice f7.b f7.es.length f7.d))) ∧ (v.cell? ⟨w.heap.size, 0, none⟩ = some (.int .i64 n) ∧ v.cell? ⟨w.heap.size, 1, none⟩ = some (.int .i64 t) ∧ v.cell? ⟨w.heap.size, 2, none⟩ = some (.slice A rs.length c)) ∧ (v.cell? ⟨w.heap.size + 1, 0, none⟩ = some (.slice f.a f.ns.length f.c) ∧ v.cell? ⟨w.heap.size + 1, 1, none⟩ = some (.slice f.b f.es.length f.d))) := fun v hv => ⟨HSX.out v hv, HSK.out v (HWY.out.trans (hv.mono HWY.out.size))⟩
  obtain ⟨⟨⟨x0, x1, x2⟩, x3, x4⟩, ⟨a0, a1, a2⟩, b0, b1⟩ := HSZ.out w9 HY9.out
  go_wp2_with fail
  go_region_held3 (fun w' => ((w'.cell? ⟨w6.heap.size, 0, none⟩ = some (.int .i64 n) ∧ w'.cell? ⟨w6.heap.size, 1, none⟩ = some (.int .i64 t) ∧ w'.cell? ⟨w6.heap.size, 2, none⟩ = some (.slice A6 rs6.length c6)) ∧ (w'.cell? ⟨w7.heap.size, 0, none⟩ = some (.slice f7.a f7.ns.length f7.c) ∧ w'.cell? ⟨w7.heap.size, 1, none⟩ = some (.slice f7.b f7.es.length f7.d))) ∧ (w'.cell? ⟨w.heap.size, 0, none⟩ = some (.int .i64 n) ∧ w'.cell? ⟨w.heap.size, 1, none⟩ = some (.int .i64 t) ∧ w'.cell? ⟨w.heap.size, 2, none⟩ = some (.slice A rs.length c)) ∧ (w'.cell? ⟨w.heap.size + 1, 0, none⟩ = some (.slice f.a f.ns.length f.c) ∧ w'.cell? ⟨w.heap.size + 1, 1, none⟩ = some (.slice f.b f.es.length f.d)))
    (first | exact HSZ.out _ HY11.out | exact HSZ.out _ HY10.out | exact ⟨⟨⟨x0, x1, x2⟩, x3, x4⟩, ⟨a0, a1, a2⟩, b0, b1⟩)
    (first
    | (go_at_call 18
       with_reducible refine (HTG9.out _ ?_).mono ?_
       · exact HY9.out.trans (Below.mono (B := w9.heap.size) (by go_grown) HY9.out.size)
       rintro e w10 ⟨A10, c10, rs10, rfl, _, hO10, hs10, hB10'⟩
       have hB10 : Below w9.heap.size w9 w10 := Below.trans (by go_grown) hB10'
       have HY10 := Lib.hid (HY9.out.trans (hB10.mono HY9.out.size))
       have HD10 := Lib.hid hB10
       have HO10 := Lib.hid hO10
       have HS10 := Lib.hid hs10
       clear hO10 hs10 hB10 hB10')
    | (go_at_call 20
       with_reducible refine (HQG.out _ _ _ _ _ HY10.out HO10.out HS10.out).mono ?_
       rintro e w11 ⟨rfl, hB11'⟩
       have HD11 := Lib.hid (HD10.out.trans (hB11'.mono HD10.out.size))
       have HY11 := Lib.hid (HY10.out.trans (hB11'.mono HY10.out.size))
       clear hB11'))
  rename_i hHeld
  clear hHeld x0 x1 x2 x3 x4 a0 a1 a2 b0 b1 HO10 HS10 HY10 HTG9 HQG HD10
  have HO811 := Lib.hid (HO89.out.below HD11.out (Nat.le_refl _)); clear HO89
  have HO511 := Lib.hid (HO59.out.below HD11.out (Nat.le_refl _)); clear HO59
  clear HD11
  obtain ⟨⟨⟨x0, x1, x2⟩, x3, x4⟩, ⟨a0, a1, a2⟩, b0, b1⟩ := HSZ.out w11 HY11.out
  go_wp2_with fail
  go_region_held3 (fun w' => ((w'.cell? ⟨w6.heap.size, 0, none⟩ = some (.int .i64 n) ∧ w'.cell? ⟨w6.heap.size, 1, none⟩ = some (.int .i64 t) ∧ w'.cell? ⟨w6.heap.size, 2, none⟩ = some (.slice A6 rs6.length c6)) ∧ (w'.cell? ⟨w7.heap.size, 0, none⟩ = some (.slice f7.a f7.ns.length f7.c) ∧ w'.cell? ⟨w7.heap.size, 1, none⟩ = some (.slice f7.b f7.es.length f7.d))) ∧ (w'.cell? ⟨w.heap.size, 0, none⟩ = some (.int .i64 n) ∧ w'.cell? ⟨w.heap.size, 1, none⟩ = some (.int .i64 t) ∧ w'.cell? ⟨w.heap.size, 2, none⟩ = some (.slice A rs.length c)) ∧ (w'.cell? ⟨w.heap.size + 1, 0, none⟩ = some (.slice f.a f.ns.length f.c) ∧ w'.cell? ⟨w.heap.size + 1, 1, none⟩ = some (.slice f.b f.es.length f.d)))
    (first | exact HSZ.out _ HY13.out | exact HSZ.out _ HY12.out | exact ⟨⟨⟨x0, x1, x2⟩, x3, x4⟩, ⟨a0, a1, a2⟩, b0, b1⟩)
    (first
    | (go_at_call 9
       with_reducible refine (HTF9.out _ ?_).mono ?_
       · exact HY11.out.trans (Below.mono (B := w11.heap.size) (by go_grown) HY11.out.size)
       rintro e w12 ⟨f12, rfl, hs12, hO12, _, hB12'⟩
       have hB12 : Below w11.heap.size w11 w12 := Below.trans (by go_grown) hB12'
       have HY12 := Lib.hid (HY11.out.trans (hB12.mono HY11.out.size))
       have HD12 := Lib.hid hB12
       have HO12 := Lib.hid hO12.read
       have HS12 := Lib.hid hs12
       clear hO12 hs12 hB12 hB12')
    | (go_at_call 12
       with_reducible refine (HQF.out _ _ HY12.out HO12.out HS12.out).mono ?_
       rintro e w13 ⟨rfl, hB13'⟩
       have HD13 := Lib.hid (HD12.out.trans (hB13'.mono HD12.out.size))
       have HY13 := Lib.hid (HY12.out.trans (hB13'.mono HY12.out.size))
       clear hB13'))
  rename_i hHeld
  clear hHeld x0 x1 x2 x3 x4 a0 a1 a2 b0 b1 HO12 HS12 HY12 HTF9 HQF HD12
  have HO813 := Lib.hid (HO811.out.below HD13.out (Nat.le_refl _)); clear HO811
  have HO513 := Lib.hid (HO511.out.below HD13.out (Nat.le_refl _)); clear HO511
  clear HD13
  have HG13 := Lib.hid (HOY.out.below HY13.out (Nat.le_refl _)); clear HOY
  have HF13 := Lib.hid (HOF.out.below HY13.out (Nat.le_refl _)); clear HOF
  have HB13 := Lib.hid (HBY.out.keep HY13.out HBY.out.1); clear HBY
  have HW13 := Lib.hid (HWY.out.trans (HY13.out.mono HWY.out.size))
  have hwW := HWL.out
  have hzv5 := HV5.out.size
  have hz6 := HZ6.out
  have hzx := HZX.out
  have hz7 := HZ7.out
  have hzy := HZY.out
  have hz13 := HY13.out.size
  obtain ⟨⟨⟨x0, x1, x2⟩, x3, x4⟩, ⟨a0, a1, a2⟩, b0, b1⟩ := HSZ.out w13 HY13.out
  -- the arguments are marked
  clear a0 a1 a2 b0 b1 x3 x4
  go_wp2_with fail
  refine (markGrammar_any _ _ _ _ _ _ _ _ HG13.out hl6 HLN6.out (by omega) (by omega)).mono ?_
  rintro e w14 ⟨rfl, _, hS14⟩
  clear x0 x1 x2 HG13
  have HW14 : Hid (Below W.heap.size W w14) := HW13.out.trans (hS14.below (by omega) fun i hi hI => by have := (HI6.out i hI).1; omega)
  have HF14 := Lib.hid (HF13.out.kept hS14 fun b hb hI => by have := (HI7.out b hb).1; have := (HI6.out b hI).2; omega); clear HF13
  have HB14 := Lib.hid (HB13.out.save hS14 fun hI => by have := (HI6.out _ hI).2; omega); clear HB13
  have HO514 := Lib.hid (HO513.out.kept hS14 fun b hb hI => by have := (HI5.out b hb).2; have := (HI6.out b hI).1; omega); clear HO513
  have HO814 := Lib.hid (HO813.out.kept hS14 fun b hb hI => by have := HI8.out b hb; have := (HI6.out b hI).2; omega); clear HO813
  have hz14 := hS14.size
  clear hS14
  have hck : (cntTo rs6 rs6.length : Int) ≤ 1099512676352 := by have := cntTo_le HLN6.out rs6.length; have := Nat.mul_le_mul_right 1048577 hl6; omega
  have hck0 : (0 : Int) ≤ (cntTo rs6 rs6.length : Int) := by omega
  generalize (cntTo rs6 rs6.length : Int) = cg at hck hck0 ⊢
  obtain ⟨_, x3, x4⟩ := HB14.out
  go_wp2_with fail
  refine (markForest_any _ _ _ _ HF14.out HLM7.out (by omega) (by omega)).mono ?_
  rintro e w15 ⟨rfl, _, hS15⟩
  clear x3 x4 HF14 HB14
  have HW15 : Hid (Below W.heap.size W w15) := HW14.out.trans (hS15.below (by omega) fun i hi hI => by have := (HI7.out i hI).1; omega)
  have HO515 := Lib.hid (HO514.out.kept hS15 fun b hb hI => by have := (HI5.out b hb).2; have := (HI7.out b hI).1; omega); clear HO514
  have HO815 := Lib.hid (HO814.out.kept hS15 fun b hb hI => by have := HI8.out b hb; have := (HI7.out b hI).2; omega); clear HO814
  have hz15 := hS15.size
  clear hS15
  have hcf0 : (0 : Int) ≤ (cntF f7 : Int) := by omega
  generalize (cntF f7 : Int) = cf at hcf0 ⊢
  go_wp2_with fail
  refine (HEI.out _ _ _ _ _ _ _ HO815.out HO515.out).mono ?_
  rintro e w16 ⟨rfl, hB16⟩
  have HW16 := Lib.hid (HW15.out.trans (hB16.mono HW15.out.size))
  have HO516 := Lib.hid (HO515.out.below hB16 (Nat.le_refl _)); clear HO515
  have HO816 := Lib.hid (HO815.out.below hB16 (Nat.le_refl _)); clear HO815
  have hz16 := hB16.size
  clear hB16
  -- the answer is marked, and found again
  go_wp2_with fail
  refine (markIntS_any _ _ _ _ _ _ HO816.out hyl (by omega) (by omega)).mono ?_
  rintro e w17 ⟨rfl, hO17, hS17⟩
  have HW17 : Hid (Below W.heap.size W w17) := HW16.out.trans (hS17.below (by omega) fun i hi hI => by have := HI8.out i hI; omega)
  have HO517 := Lib.hid (HO516.out.kept hS17 fun b hb hI => by have := (HI5.out b hb).2; have := HI8.out b hI; omega); clear HO516
  have HO817 := Lib.hid hO17; clear hO17 HO816
  clear hS17
  go_wp2_with fail
  refine (heldIntS_any _ _ _ _ _ HO817.out.ints hyl (by omega) (by omega)).mono ?_
  rintro e w18 ⟨rfl, hB18⟩
  have hne : ((1 + (ys.length : Int)) != (1 + (ys.length : Int))) = false := by simp
  have HW18 := Lib.hid (HW17.out.trans (hB18.mono HW17.out.size))
  have HO518 := Lib.hid (HO517.out.below hB18 (Nat.le_refl _)); clear HO517
  have HO818 := Lib.hid (HO817.out.below hB18 (Nat.le_refl _)); clear HO817
  clear hB18
  -- the program once more
  obtain ⟨⟨a0, a1, a2⟩, b0, b1⟩ := HSK.out w18 HW18.out
  go_wp2_with fail
  go_region_held3 (fun w' => (w'.cell? ⟨w.heap.size, 0, none⟩ = some (.int .i64 n) ∧ w'.cell? ⟨w.heap.size, 1, none⟩ = some (.int .i64 t) ∧ w'.cell? ⟨w.heap.size, 2, none⟩ = some (.slice A rs.length c)) ∧ (w'.cell? ⟨w.heap.size + 1, 0, none⟩ = some (.slice f.a f.ns.length f.c) ∧ w'.cell? ⟨w.heap.size + 1, 1, none⟩ = some (.slice f.b f.es.length f.d)))
    (first | exact HSK.out _ HV21.out | exact HSK.out _ HV20.out | exact HSK.out _ HV19.out | exact ⟨⟨a0, a1, a2⟩, b0, b1⟩)
    (first
    | (go_at_call 18
       with_reducible refine (HTG.out _ ?_).mono ?_
       · exact HW18.out.trans (Below.mono (B := w18.heap.size) (by go_grown) HW18.out.size)
       rintro e w19 ⟨A19, c19, rs19, rfl, hc19, hO19, hs19, hB19'⟩
       have hB19 : Below w18.heap.size w18 w19 := Below.trans (by go_grown) hB19'
       have HDC := Lib.hid hB19
       have HV19 := Lib.hid (HW18.out.trans (hB19.mono HW18.out.size))
       have hsz18 := hB19.size
       have HO19 := Lib.hid hO19
       have HS19 := Lib.hid hs19
       have HC19 := Lib.hid hc19
       clear hO19 hs19 hB19 hB19' hc19)
    | (go_at_call 9
       with_reducible refine (HTF.out _ HV19.out).mono ?_
       rintro e w20 ⟨f20, rfl, hs20, hO20, _, hB20'⟩
       have HDD := Lib.hid (HDC.out.trans (hB20'.mono HDC.out.size))
       have HV20 := Lib.hid (HV19.out.trans (hB20'.mono HV19.out.size))
       replace hsz18 := Nat.le_trans hsz18 hB20'.size
       have HP19 := Lib.hid (HO19.out.below hB20' (Nat.le_refl _))
       have HO20 := Lib.hid hO20
       have HS20 := Lib.hid hs20
       clear hO20 hs20 hB20')
    | (go_at_call 19
       with_reducible refine (HIMP.out _ _ _ _ _ _ _ HP19.out HC19.out HS19.out HO20.out HS20.out HV20.out).mono ?_
       rintro e w21 ⟨A21, c21, rfl, hO21, hB21'⟩
       have HV21 := Lib.hid (HV20.out.trans (hB21'.mono HV20.out.size))
       have HO21 : Hid (OwnI w21 w18.heap.size A21 ys) := hO21.lower (by have := HV20.out.size; have := hsz18; omega)
       have HD21 : Hid (Below w18.heap.size w18 w21) := HDD.out.trans (hB21'.mono HDD.out.size)
       have HZ21 := Lib.hid (Nat.le_trans hsz18 hB21'.size)
       clear hB21' hO21))
  rename_i hHeld
  clear hHeld a0 a1 a2 b0 b1 HO19 HP19 HC19 HS19 HO20 HS20 HV19 HV20
  have HO521 := Lib.hid (HO518.out.below HD21.out (Nat.le_refl _)); clear HO518
  have HO821 := Lib.hid (HO818.out.below HD21.out (Nat.le_refl _)); clear HO818
  go_wp2_with fail
  refine (HEI.out _ _ _ _ _ _ _ HO21.out HO521.out).mono ?_
  rintro e w22 ⟨rfl, hB22⟩
  have HO822 := Lib.hid (HO821.out.below hB22 (Nat.le_refl _)); clear HO821
  have HW22 := Lib.hid (HV21.out.trans (hB22.mono HV21.out.size)); clear hB22
  go_wp2_with fail
  refine (heldIntS_any _ _ _ _ _ HO822.out.ints hyl (by omega) (by omega)).mono ?_
  rintro e w23 ⟨rfl, hB23⟩
  have HW23 := Lib.hid (HW22.out.trans (hB23.mono HW22.out.size)); clear hB23
  go_wp2
  go_ret
  exact ⟨rfl, HBA.out.trans (HW23.out.mono HBA.out.size)⟩

end Go.Proofs.YtbgjlabjihoaaaaDoor

/- The law of ChildrenOf holds of every grammar, forest and number: the call returns true, and what was handed in reads afterwards as it read before. Conditions: the package's table of limits is as the program's text lays it (tied by the given tie). -/

namespace Go.Proofs.YtbgjlabjihoaaaaDoor
open Go.ChangeShapes Go.WideShapes Go.ChangeAt Go.RowKit

set_option maxRecDepth 100000 in
theorem childrenOf_lifted (os : Os) (started : os.Started) (H : Type) (enc : TypeId × Value → H) :
    ReturnsInHanded {} Tryd.checked os 4 .any (fun w args => (Rows.fnExactChildrenOfSpec.pre enc Tryd.prog Tryd.f4 [] false w args ∧ laidMetH Tryd.prog laid1 w) ∧ sizedMet enc Tryd.prog Tryd.f4 (OpenSpec.ofChange Rows.fnExactChildrenOfSpec) false w args)
      (Rows.fnExactChildrenOfSpec.post enc Tryd.prog Tryd.f4 false true false false) := by
  refine returnsInHanded_of_change_and (C := Tryd.checked) (X := fun w _ => laidMetH Tryd.prog laid1 w) (fun _ _ _ hh h => h.of_heap hh) Tryd.own started (by kernel_rfl) Tryd.func4
    (ChangeSpec.witness_shaped (enc := enc) (C := Tryd.checked) (os := os) (X := fun w _ => laidMetH Tryd.prog laid1 w) false (World.doorLaid Tryd.prog 400 os) #[.agg #[.int .i64 0, .int .i64 0, .slice none 0 0], .agg #[.slice none 0 0, .slice none 0 0], .int .i64 0] 8 rfl (World.shaped_of_RefB (by kernel_rfl) (by kernel_rfl)) (by kernel_rfl) (by kernel_rfl) (by kernel_rfl) (door_met os _)) ?_
  intro W base args ds gs before hval0 hW _ _ hL _
  have hval : ∀ (j : Nat) t v, Tryd.f4.params[j]? = some t → args[j]? = some v → Value.okWide Tryd.prog W .any base t v := hval0
  have hW' := hW
  obtain ⟨p, q, hA0, hV0, rfl, hfz, hnd⟩ := hW
  have hA : DataW.TrodAll enc Tryd.prog W 0 (fun _ => true) true Tryd.f4.params.toList args.toList ds p := hA0
  have hV : DataW.TrodVars enc Tryd.prog W (fun _ => true) ["loop.example/g00758/impl.limits"] gs q := hV0
  rw [Tryd.params4] at hA hval
  obtain ⟨v0, v1, v2, d0, d1, d2, p0, p1, p2, rfl, rfl, rfl, h0, h1, h2⟩ := trodAll_three hA
  obtain ⟨g, tg, cs, fuel, dg, pg, rfl, _⟩ := trodVars_one hV
  obtain ⟨n0, t0, A0, rs0, c0, rfl, _, hR0, hN0, hU0, hF0, _, _⟩ := open_grammar (hval 0 42 v0 rfl rfl) h0
  obtain ⟨f1, rfl, _, hR1, hM1, hF1⟩ := open_forest (hval 1 25 v1 rfl rfl) h1
  obtain ⟨x2, rfl, rfl, rfl, w2⟩ := open_int Tryd.underlying3 (hval 2 3 v2 rfl rfl) h2
  refine (law_ChildrenOf n0 t0 A0 c0 rs0 f1 x2 W hR0 hN0 hU0 hF0 hR1 hM1 hF1 (bounds_i64 w2) (lims_of_laid hL)).mono fun e W' ⟨he, hb⟩ => ?_
  subst he
  exact ⟨_, rfl, ends_three hW' Tryd.params4 rfl rfl (by kernel_rfl) (of_decide_eq_true (by kernel_rfl)) (by kernel_rfl) (of_decide_eq_true (by kernel_rfl)) (by kernel_rfl) (of_decide_eq_true (by kernel_rfl)) (by kernel_rfl) hb⟩

theorem childrenOf_holds : Rows.FnExactChildrenOfSaid :=
  OpenClaim.holds_of_wide 4 Tryd.f4 rfl rfl rfl rfl rfl rfl rfl ⟨rfl, rfl, rfl, rfl, rfl⟩ rfl rfl rfl rfl rfl (by kernel_rfl) Tryd.func4 (by kernel_rfl)
    (of_decide_eq_true (by kernel_rfl)) (by unfold Func.isWrapper; first | (rw [if_pos (by decide +kernel)]; kernel_rfl) | (rw [if_neg (by decide +kernel)]; exact ⟨rfl, rfl⟩))
    (fun os started H enc _ => childrenOf_lifted os started H enc)

theorem childrenOf_card : Rows.FnExactChildrenOfCardSaid :=
  Claim7.holds_tied_plain_at .later [] [.data] true (true, "0708bc447225853a1ae87032d251b7168e6f47bb1f3e94d606ee5a28467e1d1b") false
    childrenOf_holds (fun _ h => by cases h) (by kernel_rfl) (fun _ h => by cases h) fnExactChildrenOf_row_tie rfl ⟨rfl, rfl⟩ (by kernel_rfl) rfl
    (fun f fn hf hfn => by
      obtain rfl : f = 4 := Option.some.inj ((show Tryd.prog.funcNamed "loop.example/g00758/laws.FnExactChildrenOf" = some 4 by kernel_rfl).symm.trans hf) |>.symm
      obtain rfl : fn = Tryd.f4 := (Option.some.inj (Tryd.func4.symm.trans hfn)).symm
      exact ⟨by kernel_rfl, fun j t ht => by
        rw [Tryd.params4] at ht
        have hm : t ∈ [42, 25, 3] := by simpa using Array.mem_of_getElem? ht
        have hall : ([42, 25, 3].all fun u => !Tryd.prog.wantsStandIn u) = true := by kernel_rfl
        exact (show Tryd.prog.wantsStandIn t = false by simpa using List.all_eq_true.1 hall t hm)⟩)
    (by kernel_rfl)

#print axioms childrenOf_card
end Go.Proofs.YtbgjlabjihoaaaaDoor
