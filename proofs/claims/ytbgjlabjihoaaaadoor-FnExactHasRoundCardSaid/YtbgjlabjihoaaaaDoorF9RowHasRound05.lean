/- The nodes to which an edge leads, by the reference; the number of a node, by both. -/
import Derived.Test.YtbgjlabjihoaaaaDoorF9RowHasRound04
import Derived.Test.YtbgjlabjihoaaaaDoorF902
import Derived.Test.YtbgjlabjihoaaaaDoorF903
import Derived.Maps.AppendAt
import Derived.Test.YtbgjlabjihoaaaaDoorF901
import Derived.Deep.RegionHeld3

namespace Go.Proofs.YtbgjlabjihoaaaaDoor
open Go.RowKit

set_option maxHeartbeats 1000000 in
theorem l9Kids_any (n t : Int) (G : Option Addr) (rs : List Ru) (gc : Nat) (q : Nat) (B : Option Addr) (ys : List Int) (d : Nat) (w : World) (hg : Rls w w.heap.size G rs) (hq : q < rs.length) (hy : Ints w w.heap.size B ys) (hl : rs[q].r.length + 1 ≤ ys.length) (h1 : rs[q].r.length ≤ 1000) (h2 : ys.length ≤ 1048576) :
    Calls Tryd.prog 58 #[.agg #[.int .i64 n, .int .i64 t, .slice G rs.length gc], .int .i64 (q : Int), .slice B ys.length d] w fun e w' => ∃ A' c', e = .returned (.slice A' (kidsV rs[q].r ys).length c') ∧ OwnNd w' w.heap.size A' (kidsV rs[q].r ys) ∧ Below w.heap.size w w' := by
  obtain ⟨i0, hi0, hz0, hz1, hz2⟩ := info_of Tryd.infoNode
  obtain ⟨gb, go, rfl, hgb, g1, g2, g3⟩ := hg.at_ hq
  generalize rs[q].a = A at g2 g3
  generalize rs[q].c = c at g2
  generalize rs[q].r = xs at *
  generalize rs[q].l = rl at g1
  have HX := Lib.hid g3; clear g3
  have HY := Lib.hid hy; clear hy
  have HB0 : Hid (Below w.heap.size w (w.alloc (.cells #[.int .i64 n, .int .i64 t, .slice (some ⟨gb, go, none⟩) rs.length gc] 47))) := by show Below _ _ _; go_grown
  go_enter Tryd.func58, Tryd.ntmps58
  go_wp2
  go_loopw [7, 17] (fun v i wr => ∃ (k : Nat), k ≤ xs.length ∧ i = .int .i64 k ∧ Hid (NodRow wr w.heap.size v (kidsTo xs ys k)) ∧ Below w.heap.size w wr) (fun _ i _ => xs.length - (intOf i).toNat)
  case atStart => exact ⟨0, by omega, rfl, NodRow.start _ _, HB0.out⟩
  case round =>
    obtain ⟨k, hk, rfl, HO, hB⟩ := hrel
    have hrl := kidsTo_len xs ys k
    by_cases hlt : k < xs.length
    · obtain ⟨b, o, rfl, hb, c1⟩ := (HX.out.keep hB).at_ hlt
      obtain ⟨b', o', rfl, hb', d1⟩ := (HY.out.keep hB).at_ (k := k) (by omega)
      obtain ⟨b2, o2, eb, _, d2⟩ := (HY.out.keep hB).at_ (k := k + 1) (by omega)
      cases eb
      by_cases h0 : 0 ≤ xs[k]
      · have HS : Hid (kidsTo xs ys (k + 1) = kidsTo xs ys k ++ [⟨xs[k], ys[k], ys[k + 1]⟩]) := by show _ = _; rw [kidsTo_succ, kidAt_yes hlt hl h0]; rfl
        have hsz := hB.size
        have hky : k < ys.length := by omega
        have hky1 : k + 1 < ys.length := by omega
        have hw1 : IntKind.i64.wrap ((k : Int) + 1) = ((k + 1 : Nat) : Int) := by rw [IntKind.wrap_i64]; omega
        have hi0' : (0 : Int) ≤ (k : Int) + 1 := by omega
        have hi1' : (k : Int) + 1 < (ys.length : Int) := by omega
        have hbd := build_node
        go_wp2
        go_region_law (first
          | (refine step_append_lies _ rfl _ _ _ rfl w.heap.size 86 i0 _ 3 24 Tryd.underlying30 hi0 hz0 hz1 hz2 rfl (by omega) _ (kidsTo xs ys k).length ((flatN (kidsTo xs ys k)).map fun y => Value.int .i64 y) (by simp [Act.eval]) (own_below HO.out (by go_grown))
                ⟨wr.heap.size, 0, none⟩ 1 1 [.int .i64 xs[k], .int .i64 ys[k], .int .i64 ys[k + 1]] (by simp [Act.eval]) rfl (three_new wr _ _ _ _) (by simp [Value.oneCell'])
                (by omega) (by unfold maxLen; omega) (by omega) (by simp; omega) (wr.heap.size + 1) (by simp) ?_
             intro gg cap w2 hown hgrow hat hgl
             have HOW := Lib.hid hown
             have HGR := Lib.hid hgrow
             clear hown hgrow hat))
        all_goals
          go_wp2
          go_roundw
          case rel =>
            refine ⟨k + 1, by omega, by go_num, ?_, ?_⟩
            · show World.ownsRow _ _ _ _ _ _ _
              rw [HS.out, flatN_app, List.map_append, List.length_append]
              exact HOW.out
            · refine (hB.trans (Below.mono (B := wr.heap.size) (by go_grown) hB.size)).grown HGR.out (by simp; omega) fun j hj => (HO.out.lt j hj).1
          case measure => simp [intOf]; omega
      · have HS : Hid (kidsTo xs ys (k + 1) = kidsTo xs ys k) := by show _ = _; rw [kidsTo_succ, kidAt_no hlt (by omega)]; simp
        go_wp2
        go_roundw
        case rel => exact ⟨k + 1, by omega, by go_num, by rw [HS.out]; exact HO, hB⟩
        case measure => simp [intOf]; omega
    · obtain rfl : k = xs.length := by omega
      obtain ⟨A', c', rfl, hO⟩ := HO.out.own
      have HO' := Lib.hid hO; clear hO
      go_wp2
      go_ret
      exact ⟨A', c', rfl, HO'.out, hB⟩

/-- The place of a node in a list. -/
def nodeIx : List Nd → Nd → Option Nat
  | [], _ => none
  | d :: r, u => if d = u then some 0 else (nodeIx r u).map (· + 1)
theorem nodeIx_lt : ∀ {ns : List Nd} {u : Nd} {i : Nat}, nodeIx ns u = some i → i < ns.length
  | [], _, _, h => by simp [nodeIx] at h
  | d :: r, u, i, h => by
    unfold nodeIx at h
    split at h
    · injection h with h; simp; omega
    · cases hq : nodeIx r u with
      | none => rw [hq] at h; cases h
      | some j =>
        rw [hq] at h
        have h' : j + 1 = i := Option.some.inj h
        have := nodeIx_lt hq
        simp only [List.length_cons]; omega
theorem nodeIx_at {ns : List Nd} {u : Nd} {k : Nat} (hk : k < ns.length) : nodeIx (ns.drop k) u = if ns[k] = u then some 0 else (nodeIx (ns.drop (k + 1)) u).map (· + 1) := by
  rw [List.drop_eq_getElem_cons hk]; rfl
/-- What is known of the place of u when k nodes have been looked at. -/
def NotYet (ns : List Nd) (u : Nd) (k : Nat) : Prop := nodeIx ns u = (nodeIx (ns.drop k) u).map (· + k)
theorem NotYet.start (ns : List Nd) (u : Nd) : NotYet ns u 0 := by
  unfold NotYet
  cases h : nodeIx ns u <;> simp [h]
theorem NotYet.yes {ns : List Nd} {u : Nd} {k : Nat} (h : NotYet ns u k) (hk : k < ns.length) (he : ns[k] = u) : nodeIx ns u = some k := by
  rw [h, nodeIx_at hk, if_pos he]; simp
theorem NotYet.no {ns : List Nd} {u : Nd} {k : Nat} (h : NotYet ns u k) (hk : k < ns.length) (he : ns[k] ≠ u) : NotYet ns u (k + 1) := by
  unfold NotYet at *
  rw [h, nodeIx_at hk, if_neg he]
  cases hq : nodeIx (ns.drop (k + 1)) u with
  | none => rfl
  | some j => simp; omega
theorem NotYet.done {ns : List Nd} {u : Nd} (h : NotYet ns u ns.length) : nodeIx ns u = none := by
  rw [h, List.drop_length]; rfl

def ixI (o : Option Nat) : Int := match o with | some i => (i : Int) | none => 0
def ixM (o : Option Nat) : Int := match o with | some i => (i : Int) | none => -1

set_option maxHeartbeats 1000000 in
theorem l9At_any (A : Option Addr) (ns : List Nd) (c : Nat) (u : Nd) (w : World) (hx : Nds w w.heap.size A ns) (h1 : ns.length ≤ 1048576) :
    Calls Tryd.prog 59 #[.slice A ns.length c, .agg #[.int .i64 u.n, .int .i64 u.f, .int .i64 u.t]] w fun e w' => e = .returned (.int .i64 (ixM (nodeIx ns u))) ∧ Below w.heap.size w w' := by
  have HX := Lib.hid hx; clear hx
  have HG := eqNd_guard
  go_enter Tryd.func59, Tryd.ntmps59
  go_wp2
  have hB0 : Below w.heap.size w (w.alloc (.cells #[.int .i64 u.n, .int .i64 u.f, .int .i64 u.t] 86)) := by go_grown
  have R0 : Row (w.alloc (.cells #[.int .i64 u.n, .int .i64 u.f, .int .i64 u.t] 86)) w.heap.size 86 #[.int .i64 u.n, .int .i64 u.f, .int .i64 u.t] := Row.new _ _ _
  generalize (w.alloc (.cells #[.int .i64 u.n, .int .i64 u.f, .int .i64 u.t] 86)) = W at hB0 R0 ⊢
  have HB0 := Lib.hid hB0; clear hB0
  have HR0 := Lib.hid R0; clear R0
  have hRL := HR0.out.lt
  go_loopw [9] (fun i wr => ∃ (k : Nat), k ≤ ns.length ∧ i = .int .i64 k ∧ Below W.heap.size W wr ∧ Hid (NotYet ns u k)) (fun i _ => ns.length - (intOf i).toNat)
  case atStart => exact ⟨0, by omega, rfl, Below.refl _ _, NotYet.start _ _⟩
  case round =>
    obtain ⟨k, hk, rfl, hB, H⟩ := hrel
    by_cases hlt : k < ns.length
    · obtain ⟨b, o, rfl, hb, c1, c2, c3⟩ := ((HX.out.keep HB0.out).more HB0.out.size |>.keep hB).at_ hlt
      have R1 := HR0.out.below hB hRL
      have hRw := R1.lt
      have r0 := R1.cell 0
      have r1 := R1.cell 1
      have r2 := R1.cell 2
      simp only [List.getElem?_toArray, List.getElem?_cons_succ, List.getElem?_cons_zero] at r0 r1 r2
      clear R1
      by_cases hne : ns[k] = u
      · have hN : ∀ w, (binOp .eql 86 (.agg #[.int .i64 ns[k].n, .int .i64 ns[k].f, .int .i64 ns[k].t]) (.agg #[.int .i64 u.n, .int .i64 u.f, .int .i64 u.t])).run Tryd.prog w = .ok (.bool true) w := fun w => by rw [eqlNd, decide_eq_true hne]
        have HE : Hid (nodeIx ns u = some k) := H.out.yes hlt hne
        clear hne
        go_wp2
        go_ret
        exact ⟨by rw [HE.out]; rfl, HB0.out.trans ((hB.trans (Below.mono (B := wr.heap.size) (by go_grown) hB.size)).mono HB0.out.size)⟩
      · have hN : ∀ w, (binOp .eql 86 (.agg #[.int .i64 ns[k].n, .int .i64 ns[k].f, .int .i64 ns[k].t]) (.agg #[.int .i64 u.n, .int .i64 u.f, .int .i64 u.t])).run Tryd.prog w = .ok (.bool false) w := fun w => by rw [eqlNd, decide_eq_false hne]
        have HE : Hid (NotYet ns u (k + 1)) := H.out.no hlt hne
        clear hne
        go_wp2
        go_roundw
        case rel => exact ⟨k + 1, by omega, by go_num, hB.trans (Below.mono (B := wr.heap.size) (by go_grown) hB.size), HE⟩
        case measure => simp [intOf]; omega
    · obtain rfl : k = ns.length := by omega
      have HE : Hid (nodeIx ns u = none) := H.out.done
      go_wp2
      go_ret
      exact ⟨by rw [HE.out]; rfl, HB0.out.trans (hB.mono HB0.out.size)⟩

set_option maxHeartbeats 1000000 in
theorem nodeNumber_any (A : Option Addr) (ns : List Nd) (c : Nat) (E : Option Addr) (m d : Nat) (u : Nd) (w : World) (hx : Nds w w.heap.size A ns) (h1 : ns.length ≤ 1048576) :
    Calls Tryd.prog 65 #[.agg #[.slice A ns.length c, .slice E m d], .agg #[.int .i64 u.n, .int .i64 u.f, .int .i64 u.t]] w fun e w' => e = .returned (.tuple #[.int .i64 (ixI (nodeIx ns u)), .bool (nodeIx ns u).isSome]) ∧ Below w.heap.size w w' := by
  have HX := Lib.hid hx; clear hx
  have HG := eqNd_guard
  go_enter Tryd.func65, Tryd.ntmps65
  go_wp2
  have hB0 : Below w.heap.size w ((w.alloc (.cells #[.slice A ns.length c, .slice E m d] 33)).alloc (.cells #[.int .i64 u.n, .int .i64 u.f, .int .i64 u.t] 86)) := by go_grown
  have R0 : Row ((w.alloc (.cells #[.slice A ns.length c, .slice E m d] 33)).alloc (.cells #[.int .i64 u.n, .int .i64 u.f, .int .i64 u.t] 86)) (w.heap.size + 1) 86 #[.int .i64 u.n, .int .i64 u.f, .int .i64 u.t] := by
    have h := Row.new (w.alloc (.cells #[.slice A ns.length c, .slice E m d] 33)) 86 #[.int .i64 u.n, .int .i64 u.f, .int .i64 u.t]
    rw [World.size_alloc] at h; exact h
  generalize ((w.alloc (.cells #[.slice A ns.length c, .slice E m d] 33)).alloc (.cells #[.int .i64 u.n, .int .i64 u.f, .int .i64 u.t] 86)) = W at hB0 R0 ⊢
  have HB0 := Lib.hid hB0; clear hB0
  have HR0 := Lib.hid R0; clear R0
  have hRL := HR0.out.lt
  go_loopw [11] (fun i wr => ∃ (k : Nat), k ≤ ns.length ∧ i = .int .i64 k ∧ Below W.heap.size W wr ∧ Hid (NotYet ns u k)) (fun i _ => ns.length - (intOf i).toNat)
  case atStart => exact ⟨0, by omega, rfl, Below.refl _ _, NotYet.start _ _⟩
  case round =>
    obtain ⟨k, hk, rfl, hB, H⟩ := hrel
    by_cases hlt : k < ns.length
    · obtain ⟨b, o, rfl, hb, c1, c2, c3⟩ := ((HX.out.keep HB0.out).more HB0.out.size |>.keep hB).at_ hlt
      have R1 := HR0.out.below hB hRL
      have hRw := R1.lt
      have r0 := R1.cell 0
      have r1 := R1.cell 1
      have r2 := R1.cell 2
      simp only [List.getElem?_toArray, List.getElem?_cons_succ, List.getElem?_cons_zero] at r0 r1 r2
      clear R1
      by_cases hne : ns[k] = u
      · have hN : ∀ w, (binOp .eql 86 (.agg #[.int .i64 ns[k].n, .int .i64 ns[k].f, .int .i64 ns[k].t]) (.agg #[.int .i64 u.n, .int .i64 u.f, .int .i64 u.t])).run Tryd.prog w = .ok (.bool true) w := fun w => by rw [eqlNd, decide_eq_true hne]
        have HE : Hid (nodeIx ns u = some k) := H.out.yes hlt hne
        clear hne
        go_wp2
        go_ret2
        exact ⟨by rw [HE.out]; rfl, HB0.out.trans ((hB.trans (Below.mono (B := wr.heap.size) (by go_grown) hB.size)).mono HB0.out.size)⟩
      · have hN : ∀ w, (binOp .eql 86 (.agg #[.int .i64 ns[k].n, .int .i64 ns[k].f, .int .i64 ns[k].t]) (.agg #[.int .i64 u.n, .int .i64 u.f, .int .i64 u.t])).run Tryd.prog w = .ok (.bool false) w := fun w => by rw [eqlNd, decide_eq_false hne]
        have HE : Hid (NotYet ns u (k + 1)) := H.out.no hlt hne
        clear hne
        go_wp2
        go_roundw
        case rel => exact ⟨k + 1, by omega, by go_num, hB.trans (Below.mono (B := wr.heap.size) (by go_grown) hB.size), HE⟩
        case measure => simp [intOf]; omega
    · obtain rfl : k = ns.length := by omega
      have HE : Hid (nodeIx ns u = none) := H.out.done
      go_wp2
      go_ret2
      exact ⟨by rw [HE.out]; rfl, HB0.out.trans (hB.mono HB0.out.size)⟩

end Go.Proofs.YtbgjlabjihoaaaaDoor

/- What EdgesOf answers, the program's and the reference's. -/

namespace Go.Proofs.YtbgjlabjihoaaaaDoor
open Go.RowKit

/-- The numbers, below k, of the edges of node x. -/
def edgesTo (ss : List Es) (x : Int) (k : Nat) : List Int := ((List.range k).filter fun i => decide ((ss.getD i ⟨0, 0, []⟩).n = x)).map fun (i : Nat) => (i : Int)
theorem edgesTo_zero (ss : List Es) (x : Int) : edgesTo ss x 0 = [] := rfl
theorem edgesTo_len (ss : List Es) (x : Int) (k : Nat) : (edgesTo ss x k).length ≤ k := by
  unfold edgesTo
  have := List.length_filter_le (fun i => decide ((ss.getD i ⟨0, 0, []⟩).n = x)) (List.range k)
  simpa using this
theorem edgesTo_yes {rs : List Eg} {x : Int} {k : Nat} (hk : k < rs.length) (h : rs[k].n = x) : edgesTo (rs.map Eg.abs) x (k + 1) = edgesTo (rs.map Eg.abs) x k ++ [(k : Int)] := by
  unfold edgesTo
  rw [List.range_succ, List.filter_append, List.map_append]
  congr 1
  simp [List.getD_eq_getElem?_getD, hk, Eg.abs, h]
theorem edgesTo_no {rs : List Eg} {x : Int} {k : Nat} (hk : k < rs.length) (h : rs[k].n ≠ x) : edgesTo (rs.map Eg.abs) x (k + 1) = edgesTo (rs.map Eg.abs) x k := by
  unfold edgesTo
  rw [List.range_succ, List.filter_append, List.map_append]
  simp [List.getD_eq_getElem?_getD, hk, Eg.abs, h]
theorem edgesTo_mem {ss : List Es} {x : Int} {k : Nat} {i : Int} : i ∈ edgesTo ss x k ↔ ∃ j : Nat, i = (j : Int) ∧ j < k ∧ (ss.getD j ⟨0, 0, []⟩).n = x := by
  unfold edgesTo
  simp only [List.mem_map, List.mem_filter, List.mem_range, decide_eq_true_eq]
  constructor
  · rintro ⟨j, ⟨h1, h2⟩, rfl⟩; exact ⟨j, rfl, h1, h2⟩
  · rintro ⟨j, rfl, h1, h2⟩; exact ⟨j, ⟨h1, h2⟩, rfl⟩

/-- Whether x is the number of a node. -/
def nodB (f : Fs) (x : Int) : Bool := decide (0 ≤ x ∧ x < f.ns.length)
def okEd (f : Fs) (x : Int) : Bool := smF f && nodB f x
def edV (f : Fs) (x : Int) : List Int := if okEd f x then edgesTo f.es x f.es.length else []
theorem edV_no {f : Fs} {x : Int} (h : okEd f x = false) : edV f x = [] := by unfold edV; rw [h]; rfl
theorem edV_yes {f : Fs} {x : Int} (h : okEd f x = true) : edV f x = edgesTo f.es x f.es.length := by unfold edV; rw [h]; rfl
theorem edV_len {f : Fs} {x : Int} : (edV f x).length ≤ 600 := by
  unfold edV
  split
  · rename_i h
    have := edgesTo_len f.es x f.es.length
    have := (smF_is (Bool.and_eq_true_iff.1 h).1).2
    omega
  · simp

set_option maxHeartbeats 1000000 in
theorem l9Edges_any (f : Fo) (x : Int) (w : World) (hx : ReadF w w.heap.size f) (h1 : f.es.length ≤ 600) :
    Calls Tryd.prog 30 #[(.agg #[.slice f.a f.ns.length f.c, .slice f.b f.es.length f.d]), .int .i64 x] w (GaveI' w (edgesTo f.say.es x f.es.length)) := by
  obtain ⟨i0, hi0, hz0, hz1, hz2⟩ := info_of Tryd.infoInt
  obtain ⟨FA, ns, fc, A, rs, c⟩ := f
  replace hx : Egs w w.heap.size A rs := hx.2
  show Calls Tryd.prog 30 #[.agg #[.slice FA ns.length fc, .slice A rs.length c], .int .i64 x] w (GaveI' w (edgesTo (rs.map Eg.abs) x rs.length))
  replace h1 : rs.length ≤ 600 := h1
  have HX := Lib.hid hx; clear hx
  have HB1 : Hid (Below w.heap.size w (w.alloc (.cells #[.slice FA ns.length fc, .slice A rs.length c] 33))) := by show Below _ _ _; go_grown
  go_enter Tryd.func30, Tryd.ntmps30
  go_wp2
  go_loopw [5, 11] (fun v i wr => ∃ (k : Nat), k ≤ rs.length ∧ i = .int .i64 k ∧ Hid (wr.ownsRow w.heap.size 3 1 v (edgesTo (rs.map Eg.abs) x k).length ((edgesTo (rs.map Eg.abs) x k).map fun y => Value.int .i64 y)) ∧ Below w.heap.size w wr) (fun _ i _ => rs.length - (intOf i).toNat)
  case atStart => exact ⟨0, by omega, rfl, ⟨by simp [edgesTo_zero], .inl ⟨rfl, rfl⟩⟩, HB1.out⟩
  case round =>
    obtain ⟨k, hk, rfl, HO, hB⟩ := hrel
    have hrl := edgesTo_len (rs.map Eg.abs) x k
    by_cases hlt : k < rs.length
    · obtain ⟨b, o, rfl, hb, c1, c2, c3, c4⟩ := (HX.out.keep hB).at_ hlt
      clear c4
      by_cases hl : rs[k].n = x
      · have HS := Lib.hid (edgesTo_yes hlt hl)
        have ht := beq_t hl
        clear hl
        have hown := (HO.out.alloc (.cells #[.int .i64 rs[k].n, .int .i64 rs[k].e, .slice rs[k].a rs[k].r.length rs[k].c] 67)).alloc (.cells #[.int .i64 (k : Int)] 3)
        have HW := Lib.hid hown; clear hown
        have hnew := cell_one_new (wr.alloc (.cells #[.int .i64 rs[k].n, .int .i64 rs[k].e, .slice rs[k].a rs[k].r.length rs[k].c] 67)) (.int .i64 (k : Int)) 3
        rw [World.size_alloc] at hnew
        have HNW := Lib.hid hnew; clear hnew
        have hsz := hB.size
        go_wp2_with (at_builtin
                     refine wpList_append_own _ rfl (.tmp 20) (.tmp 22) _ rfl w.heap.size 3 i0 _ 1 8 Tryd.underlying27 hi0 hz0 hz1 hz2 rfl (by omega) _ _ _ rfl HW.out ⟨wr.heap.size + 1, 0, none⟩ 1 1 [.int .i64 (k : Int)] rfl rfl HNW.out (by intro u hu; simp at hu; subst hu; rfl) (by unfold maxLen; omega) (by omega) (by simp; omega) ?_
                     intro v' w' h1 h2 h3
                     have HO1 := Lib.hid h1
                     have HG1 := Lib.hid h2
                     clear h1 h2 h3)
        go_roundw
        case rel =>
          refine ⟨k + 1, by omega, by go_num, ?_, ?_⟩
          · show World.ownsRow _ _ _ _ _ _ _
            rw [HS.out]
            simpa using HO1.out
          · refine ((hB.alloc hB.size _).alloc (by simp; omega) _).grown HG1.out (by simp; omega) fun j hj => (HO.out.lt j hj).1
        case measure => simp [intOf]; omega
      · have HS := Lib.hid (edgesTo_no hlt hl)
        have ht := beq_f hl
        clear hl
        go_wp2
        go_roundw
        case rel => exact ⟨k + 1, by omega, by go_num, by show World.ownsRow _ _ _ _ _ _ _; rw [HS.out]; exact HO.out.alloc _, hB.alloc hB.size _⟩
        case measure => simp [intOf]; omega
    · obtain rfl : k = rs.length := by omega
      obtain ⟨A', c', rfl, hO⟩ := ownI_of_row HO.out
      have HO' := Lib.hid hO; clear hO
      go_wp2
      go_ret
      exact ⟨A', c', rfl, HO'.out, hB⟩

set_option maxHeartbeats 1000000 in
theorem specEdgesOf_any (f : Fo) (x : Int) (w : World) (hx : ReadF w w.heap.size f) (hm : LenF 1048576 f) :
    Calls Tryd.prog 8 #[(.agg #[.slice f.a f.ns.length f.c, .slice f.b f.es.length f.d]), .int .i64 x] w (GaveIB w (edV f.say x) (okEd f.say x)) := by
  have HX := Lib.hid hx; clear hx
  have hn := hm.n
  have HB0 : Hid (Below w.heap.size w (w.alloc (.cells #[.slice f.a f.ns.length f.c, .slice f.b f.es.length f.d] 33))) := by show Below _ _ _; go_grown
  have B0 := Lib.hid (BoxF.new w f 33)
  have HC := Lib.hid (l9Sized_any f (w.alloc (.cells #[.slice f.a f.ns.length f.c, .slice f.b f.es.length f.d] 33)) hm)
  have HIN : Hid (∀ v, Calls Tryd.prog 29 #[.int .i64 x, .int .i64 0, .int .i64 ((f.ns.length : Int) - 1)] v fun e v' => e = .returned (.bool (nodB f.say x)) ∧ v = v') := fun v => by
    refine (l1In_any x 0 ((f.ns.length : Int) - 1) v).mono ?_
    rintro e v' ⟨rfl, rfl⟩
    refine ⟨ret_b ?_, rfl⟩
    unfold inB nodB
    exact decide_eq_decide.2 ⟨fun h => ⟨h.1, by show x < (f.ns.length : Int); omega⟩, fun h => ⟨h.1, by have h2 : x < (f.ns.length : Int) := h.2; omega⟩⟩
  cases hg : smF f.say
  · have HE : Hid (okEd f.say x = false) := by show _ = _; unfold okEd; rw [hg]; rfl
    have HG := Lib.hid hg; clear hg
    go_enter Tryd.func8, Tryd.ntmps8
    go_wp2_with fail
    refine HC.out.mono ?_
    rintro e w1 ⟨rfl, hB1⟩
    rw [HG.out]
    have HB1 := Lib.hid (HB0.out.trans (hB1.mono HB0.out.size)); clear hB1
    go_wp2
    go_ret2
    exact ⟨none, 0, by rw [edV_no HE.out, HE.out]; rfl, .inl (edV_no HE.out), HB1.out⟩
  have he600 : f.es.length ≤ 600 := by have := (smF_is hg).2; rw [f.say_es] at this; exact this
  cases hq : nodB f.say x
  all_goals
    have HE : Hid (okEd f.say x = nodB f.say x) := by show _ = _; unfold okEd; rw [hg]; rfl
    have HG := Lib.hid hg; clear hg
    have HQ := Lib.hid hq; clear hq
    go_enter Tryd.func8, Tryd.ntmps8
    go_wp2_with fail
    refine HC.out.mono ?_
    rintro e w1 ⟨rfl, hB1⟩
    rw [HG.out]
    obtain ⟨_, b0, b1⟩ := B0.out.keep hB1 B0.out.1
    have HB1 := Lib.hid (HB0.out.trans (hB1.mono HB0.out.size)); clear hB1
    go_wp2_with fail
    refine (HIN.out _).mono ?_
    rintro e w2 ⟨rfl, rfl⟩
    rw [HQ.out]
  · have HE' : Hid (okEd f.say x = false) := HE.out.trans HQ.out
    go_wp2
    go_ret2
    exact ⟨none, 0, by rw [edV_no HE'.out, HE'.out]; rfl, .inl (edV_no HE'.out), HB1.out⟩
  · have HE' : Hid (okEd f.say x = true) := HE.out.trans HQ.out
    go_wp2_with fail
    refine (l9Edges_any _ _ _ ((HX.out.keep HB1.out).more HB1.out.size) he600).mono ?_
    rintro e w3 ⟨A3, c3, rfl, hO3, hB3⟩
    have HO3 := Lib.hid (hO3.lower HB1.out.size); clear hO3
    have HB3 := Lib.hid (HB1.out.trans (hB3.mono HB1.out.size)); clear hB3
    have HV : Hid (edV f.say x = edgesTo f.say.es x f.es.length) := by show _ = _; rw [edV_yes HE'.out, f.say_es]
    go_wp2
    go_ret2
    exact ⟨A3, c3, by rw [HV.out, HE'.out]; rfl, by rw [HV.out]; exact HO3.out, HB3.out⟩

set_option maxHeartbeats 1000000 in
theorem hasNode_any (f : Fo) (x : Int) (w : World) (hm : LenF 1048576 f) :
    Calls Tryd.prog 34 #[(.agg #[.slice f.a f.ns.length f.c, .slice f.b f.es.length f.d]), .int .i64 x] w fun e w' => e = .returned (.bool (nodB f.say x)) ∧ Below w.heap.size w w' := by
  have hn := hm.n
  have HB0 : Hid (Below w.heap.size w (w.alloc (.cells #[.slice f.a f.ns.length f.c, .slice f.b f.es.length f.d] 33))) := by show Below _ _ _; go_grown
  clear hm
  by_cases h1 : 0 ≤ x
  · by_cases h2 : x < f.ns.length
    · have HE : Hid (nodB f.say x = true) := decide_eq_true ⟨h1, h2⟩
      go_enter Tryd.func34, Tryd.ntmps34
      go_wp2
      go_ret
      exact ⟨ret_b HE.out.symm, HB0.out⟩
    · have HE : Hid (nodB f.say x = false) := decide_eq_false fun h => h2 h.2
      go_enter Tryd.func34, Tryd.ntmps34
      go_wp2
      go_ret
      exact ⟨ret_b HE.out.symm, HB0.out⟩
  · have HE : Hid (nodB f.say x = false) := decide_eq_false fun h => h1 h.1
    go_enter Tryd.func34, Tryd.ntmps34
    go_wp2
    go_ret
    exact ⟨ret_b HE.out.symm, HB0.out⟩

set_option maxHeartbeats 1000000 in
theorem implEdgesOf_any (f : Fo) (x : Int) (w : World) (hx : ReadF w w.heap.size f) (hL : Lims w) (hm : LenF 1048576 f) :
    Calls Tryd.prog 10 #[(.agg #[.slice f.a f.ns.length f.c, .slice f.b f.es.length f.d]), .int .i64 x] w (GaveIB w (edV f.say x) (okEd f.say x)) := by
  obtain ⟨i0, hi0, hz0, hz1, hz2⟩ := info_of Tryd.infoInt
  have hn := hm.n
  have HB0 : Hid (Below w.heap.size w (w.alloc (.cells #[.slice f.a f.ns.length f.c, .slice f.b f.es.length f.d] 33))) := by show Below _ _ _; go_grown
  have B0 := Lib.hid (BoxF.new w f 33)
  have HC := Lib.hid (isSmall_any f (w.alloc (.cells #[.slice f.a f.ns.length f.c, .slice f.b f.es.length f.d] 33)) (hL.keep HB0.out (Nat.le_refl _)) hm)
  clear hL
  cases hg : smF f.say
  · have HE : Hid (okEd f.say x = false) := by show _ = _; unfold okEd; rw [hg]; rfl
    have HG := Lib.hid hg; clear hg
    go_enter Tryd.func10, Tryd.ntmps10
    go_wp2_with fail
    refine HC.out.mono ?_
    rintro e w1 ⟨rfl, hB1⟩
    rw [HG.out]
    have HB1 := Lib.hid (HB0.out.trans (hB1.mono HB0.out.size)); clear hB1
    go_wp2
    go_ret2
    exact ⟨none, 0, by rw [edV_no HE.out, HE.out]; rfl, .inl (edV_no HE.out), HB1.out⟩
  have he600 : f.es.length ≤ 600 := by have := (smF_is hg).2; rw [f.say_es] at this; exact this
  cases hq : nodB f.say x
  · have HE : Hid (okEd f.say x = false) := by show _ = _; unfold okEd; rw [hg, hq]; rfl
    have HG := Lib.hid hg; clear hg
    have HQ := Lib.hid hq; clear hq
    go_enter Tryd.func10, Tryd.ntmps10
    go_wp2_with fail
    refine HC.out.mono ?_
    rintro e w1 ⟨rfl, hB1⟩
    rw [HG.out]
    obtain ⟨_, b0, b1⟩ := B0.out.keep hB1 B0.out.1
    have HB1 := Lib.hid (HB0.out.trans (hB1.mono HB0.out.size)); clear hB1
    go_wp2_with fail
    refine (hasNode_any f x _ hm).mono ?_
    rintro e w2 ⟨rfl, hB2⟩
    rw [HQ.out]
    have HB2 := Lib.hid (HB1.out.trans (hB2.mono HB1.out.size)); clear hB2
    go_wp2
    go_ret2
    exact ⟨none, 0, by rw [edV_no HE.out, HE.out]; rfl, .inl (edV_no HE.out), HB2.out⟩
  have HE : Hid (okEd f.say x = true) := by show _ = _; unfold okEd; rw [hg, hq]; rfl
  have HG := Lib.hid hg; clear hg
  have HQ := Lib.hid hq; clear hq
  have HM := Lib.hid hm; clear hm
  obtain ⟨FA, ns, fc, A, rs, c⟩ := f
  replace hx : Egs w w.heap.size A rs := hx.2
  have HX := Lib.hid hx; clear hx
  replace he600 : rs.length ≤ 600 := he600
  have HV : Hid (edV (Fo.mk FA ns fc A rs c).say x = edgesTo (rs.map Eg.abs) x rs.length) := by show _ = _; rw [edV_yes HE.out, Fo.say_es]; rfl
  go_enter Tryd.func10, Tryd.ntmps10
  go_wp2_with fail
  refine HC.out.mono ?_
  rintro e w1 ⟨rfl, hB1⟩
  rw [HG.out]
  have K1 := Lib.hid (B0.out.keep hB1 B0.out.1)
  obtain ⟨_, b0, b1⟩ := K1.out
  dsimp only at b0 b1
  have HB1 := Lib.hid (HB0.out.trans (hB1.mono HB0.out.size)); clear hB1 B0 HB0 HC
  go_wp2_with fail
  refine (hasNode_any (Fo.mk FA ns fc A rs c) x _ HM.out).mono ?_
  rintro e w2 ⟨rfl, hB2⟩
  rw [HQ.out]
  clear b0 b1
  obtain ⟨_, b0, b1⟩ := K1.out.keep hB2 K1.out.1
  dsimp only at b0 b1
  have HB2 := Lib.hid (HB1.out.trans (hB2.mono HB1.out.size)); clear hB2 K1 HB1
  go_wp2
  go_loopw [6, 21] (fun v i wr => ∃ (k : Nat), k ≤ rs.length ∧ i = .int .i64 k ∧ Hid (wr.ownsRow w.heap.size 3 1 v (edgesTo (rs.map Eg.abs) x k).length ((edgesTo (rs.map Eg.abs) x k).map fun y => Value.int .i64 y)) ∧ Below w.heap.size w wr) (fun _ i _ => rs.length - (intOf i).toNat)
  case atStart => exact ⟨0, by omega, rfl, ⟨by simp [edgesTo_zero], .inl ⟨rfl, rfl⟩⟩, HB2.out⟩
  case round =>
    clear b0 b1
    obtain ⟨k, hk, rfl, HO, hB⟩ := hrel
    have hrl := edgesTo_len (rs.map Eg.abs) x k
    by_cases hlt : k < rs.length
    · obtain ⟨b, o, rfl, hb, c1, c2, c3, c4⟩ := (HX.out.keep hB).at_ hlt
      clear c4
      by_cases hl : rs[k].n = x
      · have HS := Lib.hid (edgesTo_yes hlt hl)
        have ht := beq_t hl
        clear hl
        have hown := (HO.out.alloc (.cells #[.int .i64 rs[k].n, .int .i64 rs[k].e, .slice rs[k].a rs[k].r.length rs[k].c] 67)).alloc (.cells #[.int .i64 (k : Int)] 3)
        have HW := Lib.hid hown; clear hown
        have hnew := cell_one_new (wr.alloc (.cells #[.int .i64 rs[k].n, .int .i64 rs[k].e, .slice rs[k].a rs[k].r.length rs[k].c] 67)) (.int .i64 (k : Int)) 3
        rw [World.size_alloc] at hnew
        have HNW := Lib.hid hnew; clear hnew
        have hsz := hB.size
        go_wp2_with (at_builtin
                     refine wpList_append_own _ rfl (.tmp 30) (.tmp 32) _ rfl w.heap.size 3 i0 _ 1 8 Tryd.underlying27 hi0 hz0 hz1 hz2 rfl (by omega) _ _ _ rfl HW.out ⟨wr.heap.size + 1, 0, none⟩ 1 1 [.int .i64 (k : Int)] rfl rfl HNW.out (by intro u hu; simp at hu; subst hu; rfl) (by unfold maxLen; omega) (by omega) (by simp; omega) ?_
                     intro v' w' h1 h2 h3
                     have HO1 := Lib.hid h1
                     have HG1 := Lib.hid h2
                     clear h1 h2 h3)
        go_roundw
        case rel =>
          refine ⟨k + 1, by omega, by go_num, ?_, ?_⟩
          · show World.ownsRow _ _ _ _ _ _ _
            rw [HS.out]
            simpa using HO1.out
          · refine ((hB.alloc hB.size _).alloc (by simp; omega) _).grown HG1.out (by simp; omega) fun j hj => (HO.out.lt j hj).1
        case measure => simp [intOf]; omega
      · have HS := Lib.hid (edgesTo_no hlt hl)
        have ht := beq_f hl
        clear hl
        go_wp2
        go_roundw
        case rel => exact ⟨k + 1, by omega, by go_num, by show World.ownsRow _ _ _ _ _ _ _; rw [HS.out]; exact HO.out.alloc _, hB.alloc hB.size _⟩
        case measure => simp [intOf]; omega
    · obtain rfl : k = rs.length := by omega
      obtain ⟨A', c', rfl, hO⟩ := ownI_of_row HO.out
      have HO' := Lib.hid hO; clear hO
      go_wp2
      go_ret2
      exact ⟨A', c', by rw [HV.out, HE.out]; rfl, by rw [HV.out]; exact HO'.out, hB⟩

end Go.Proofs.YtbgjlabjihoaaaaDoor

/- Whether a number is that of a rule: the program. -/

namespace Go.Proofs.YtbgjlabjihoaaaaDoor
open Go.RowKit

/-- The number of a rule. -/
def rulN (m : Nat) (x : Int) : Bool := decide (0 ≤ x ∧ x < (m : Int))
set_option maxHeartbeats 400000 in
theorem isRulN_any (n t x : Int) (A : Option Addr) (m c : Nat) (w : World) :
    Calls Tryd.prog 63 #[.agg #[.int .i64 n, .int .i64 t, .slice A m c], .int .i64 x] w fun e w' => e = .returned (.bool (rulN m x)) ∧ Below w.heap.size w w' := by
  have HB : Hid (Below w.heap.size w (w.alloc (.cells #[.int .i64 n, .int .i64 t, .slice A m c] 47))) := by show Below _ _ _; go_grown
  by_cases h1 : 0 ≤ x
  · by_cases h2 : x < (m : Int)
    · have HE : Hid (rulN m x = true) := decide_eq_true ⟨h1, h2⟩
      go_enter Tryd.func63, Tryd.ntmps63
      go_wp2
      go_ret
      exact ⟨ret_bool HE.out.symm, HB.out⟩
    · have HE : Hid (rulN m x = false) := decide_eq_false (by omega)
      go_enter Tryd.func63, Tryd.ntmps63
      go_wp2
      go_ret
      exact ⟨ret_bool HE.out.symm, HB.out⟩
  · have HE : Hid (rulN m x = false) := decide_eq_false (by omega)
    go_enter Tryd.func63, Tryd.ntmps63
    go_wp2
    go_ret
    exact ⟨ret_bool HE.out.symm, HB.out⟩


end Go.Proofs.YtbgjlabjihoaaaaDoor

/- To which nodes an edge leads: the plain side. -/

namespace Go.Proofs.YtbgjlabjihoaaaaDoor
open Go.RowKit

/-- The numbers of nodes, where all are there. -/
def numsOf (ns : List Nd) : List Nd → Option (List Int)
  | [] => some []
  | u :: r => match nodeIx ns u with
    | none => none
    | some i => (numsOf ns r).map fun l => (i : Int) :: l
/-- What is known of the numbers when those of k nodes have been found. -/
def NumTo (ns ks : List Nd) (k : Nat) (acc : List Int) : Prop := numsOf ns ks = (numsOf ns (ks.drop k)).map fun l => acc ++ l
theorem NumTo.start (ns ks : List Nd) : NumTo ns ks 0 [] := by
  unfold NumTo
  cases h : numsOf ns ks <;> simp [h]
theorem NumTo.yes {ns ks : List Nd} {k : Nat} {acc : List Int} (h : NumTo ns ks k acc) (hk : k < ks.length) {i : Nat} (he : nodeIx ns ks[k] = some i) : NumTo ns ks (k + 1) (acc ++ [(i : Int)]) := by
  unfold NumTo at *
  rw [h, List.drop_eq_getElem_cons hk]
  simp only [numsOf, he]
  cases hq : numsOf ns (ks.drop (k + 1)) <;> simp
theorem NumTo.no {ns ks : List Nd} {k : Nat} {acc : List Int} (h : NumTo ns ks k acc) (hk : k < ks.length) (he : nodeIx ns ks[k] = none) : numsOf ns ks = none := by
  unfold NumTo at h
  rw [h, List.drop_eq_getElem_cons hk]
  simp only [numsOf, he]
  rfl
theorem NumTo.done {ns ks : List Nd} {acc : List Int} (h : NumTo ns ks ks.length acc) : numsOf ns ks = some acc := by
  unfold NumTo at h
  rw [h, List.drop_length]
  simp [numsOf]
theorem numsOf_len {ns : List Nd} : ∀ {ks : List Nd} {l : List Int}, numsOf ns ks = some l → l.length = ks.length
  | [], _, h => by simp [numsOf] at h; subst h; rfl
  | u :: r, l, h => by
    simp only [numsOf] at h
    cases hi : nodeIx ns u with
    | none => rw [hi] at h; cases h
    | some i =>
      rw [hi] at h
      cases hq : numsOf ns r with
      | none => rw [hq] at h; cases h
      | some l' =>
        rw [hq] at h
        have h' : (i : Int) :: l' = l := Option.some.inj h
        subst h'
        simp [numsOf_len hq]
theorem numsOf_in {ns : List Nd} : ∀ {ks : List Nd} {l : List Int}, numsOf ns ks = some l → ∀ x ∈ l, 0 ≤ x ∧ x < (ns.length : Int)
  | [], _, h => by simp [numsOf] at h; subst h; simp
  | u :: r, l, h => by
    simp only [numsOf] at h
    cases hi : nodeIx ns u with
    | none => rw [hi] at h; cases h
    | some i =>
      rw [hi] at h
      cases hq : numsOf ns r with
      | none => rw [hq] at h; cases h
      | some l' =>
        rw [hq] at h
        have h' : (i : Int) :: l' = l := Option.some.inj h
        subst h'
        intro x hx
        rcases List.mem_cons.1 hx with rfl | hx
        · have := nodeIx_lt hi; omega
        · exact numsOf_in hq x hx

/-- The right side of rule x. -/
def rightOf (ss : List (Int × List Int)) (x : Int) : List Int := (ss.getD x.toNat (0, [])).2
/-- Whether an edge has a rule of the grammar, and as many cuts as fit it. -/
def fitsE (ss : List (Int × List Int)) (e : Es) : Bool := rulN ss.length e.e && decide (e.r.length = (rightOf ss e.e).length + 1)
/-- The numbers of the nodes to which an edge leads. -/
def chO (ss : List (Int × List Int)) (ns : List Nd) (e : Es) : Option (List Int) := if fitsE ss e then numsOf ns (kidsV (rightOf ss e.e) e.r) else none
def chV (ss : List (Int × List Int)) (ns : List Nd) (e : Es) : List Int := (chO ss ns e).getD []
def chB (ss : List (Int × List Int)) (ns : List Nd) (e : Es) : Bool := (chO ss ns e).isSome
theorem chB_no {ss : List (Int × List Int)} {ns : List Nd} {e : Es} (h : fitsE ss e = false) : chV ss ns e = [] ∧ chB ss ns e = false := by
  unfold chV chB chO; rw [h]; exact ⟨rfl, rfl⟩
theorem chB_yes {ss : List (Int × List Int)} {ns : List Nd} {e : Es} (h : fitsE ss e = true) : chO ss ns e = numsOf ns (kidsV (rightOf ss e.e) e.r) := by
  unfold chO; rw [h]; rfl
theorem rightOf_at {rs : List Ru} {q : Nat} (hq : q < rs.length) : rightOf (rs.map Ru.abs) (q : Int) = rs[q].r := by
  unfold rightOf
  simp [List.getD_eq_getElem?_getD, hq, Ru.abs]
theorem chV_len {ss : List (Int × List Int)} {ns : List Nd} {e : Es} {m : Nat} (h : ∀ u ∈ ss, u.2.length ≤ m) : (chV ss ns e).length ≤ m := by
  unfold chV
  cases hq : chO ss ns e with
  | none => simp
  | some l =>
    have hf : fitsE ss e = true := by
      unfold chO at hq
      cases hf : fitsE ss e
      · rw [hf] at hq; cases hq
      · rfl
    rw [chB_yes hf] at hq
    have h1 := numsOf_len hq
    have h2 := kidsTo_len (rightOf ss e.e) e.r (rightOf ss e.e).length
    have h3 : (rightOf ss e.e).length ≤ m := by
      unfold rightOf
      rw [List.getD_eq_getElem?_getD]
      cases hs : ss[e.e.toNat]? with
      | none => simp
      | some u => exact h u (List.mem_of_getElem? hs)
    have h4 : (kidsV (rightOf ss e.e) e.r).length ≤ (rightOf ss e.e).length := h2
    simp only [Option.getD_some]
    omega

end Go.Proofs.YtbgjlabjihoaaaaDoor

/- One operation of a region, taken by hand. No condition. -/

namespace Go.Proofs.YtbgjlabjihoaaaaDoor
open Go.RowKit

theorem take_one {P : Program} {md : Region.Mode} {ops : Array Oper} {Q : Exit → Act → World → Prop} {S : World → Prop} {i : Nat} {oi : Oper} {d : Tmp} {v : Value} {fuel : Nat} {listed : Array Bool} {a : Act} {w : World} (hi : ops[i]? = some oi) (hd : oi.dst = some d)
    (hs : Region.noSelect ops = true) (hf : Region.free md ops listed i = true) (hr : (Region.ready md ops listed).contains i = true)
    (hQ : ∀ c a w, Q (.panic c) (a.put (some d) v) w → Q (.panic c) a w) (hy : YieldsIf P ops S oi v a) (hS : S w)
    (h : wpAnyH P md ops Q S fuel (listed.setIfInBounds i true) (a.put (some d) v) w) : wpAnyH P md ops Q S (fuel + 1) listed a w :=
  wpAnyH_take hi hs hf hr (by rw [hd]; exact hQ) hy hS (by rw [hd]; exact h)


end Go.Proofs.YtbgjlabjihoaaaaDoor

/- To which nodes an edge leads: the program. -/

namespace Go.Proofs.YtbgjlabjihoaaaaDoor
open Go.RowKit
open Go.Sort (grow)

/-- An edge lies at place o of block b. -/
def EdgeAt (w : World) (b o : Nat) (u : Eg) : Prop := b < w.heap.size ∧ w.cell? ⟨b, o, none⟩ = some (.int .i64 u.n) ∧ w.cell? ⟨b, o + 1, none⟩ = some (.int .i64 u.e) ∧ w.cell? ⟨b, o + 2, none⟩ = some (.slice u.a u.r.length u.c) ∧ Ints w w.heap.size u.a u.r
theorem EdgeAt.keep {w w' : World} {b o : Nat} {u : Eg} (h : EdgeAt w b o u) (hb : Below w.heap.size w w') : EdgeAt w' b o u :=
  ⟨Nat.lt_of_lt_of_le h.1 hb.size, (hb.cell (p := ⟨b, o, none⟩) h.1).trans h.2.1, (hb.cell (p := ⟨b, o + 1, none⟩) h.1).trans h.2.2.1, (hb.cell (p := ⟨b, o + 2, none⟩) h.1).trans h.2.2.2.1, (h.2.2.2.2.keep hb).more hb.size⟩
theorem Egs.edge {w : World} {A : Option Addr} {es : List Eg} (h : Egs w w.heap.size A es) {k : Nat} (hk : k < es.length) : ∃ b o, A = some ⟨b, o, none⟩ ∧ EdgeAt w b (o + k * 3) es[k] := by
  obtain ⟨b, o, e, hb, c1, c2, c3, c4⟩ := h.at_ hk
  exact ⟨b, o, e, hb, c1, c2, c3, c4⟩


set_option maxRecDepth 20000 in
set_option maxHeartbeats 2000000 in
theorem implChildren_any (n t : Int) (A : Option Addr) (rs : List Ru) (c : Nat) (f : Fo) (b o : Nat) (u : Eg) (w : World) (hg : Rls w w.heap.size A rs) (_ : rs.length ≤ 1048576) (hgr : ∀ v ∈ rs, v.r.length ≤ 1000) (hf : Nds w w.heap.size f.a f.ns) (hfl : f.ns.length ≤ 1048576) (hE : EdgeAt w b o u) (hel : u.r.length ≤ 1048576) :
    Calls Tryd.prog 44 #[.agg #[.int .i64 n, .int .i64 t, .slice A rs.length c], (.agg #[.slice f.a f.ns.length f.c, .slice f.b f.es.length f.d]), .pointer (some ⟨b, o, none⟩)] w (GaveIB w (chV (rs.map Ru.abs) f.ns u.abs) (chB (rs.map Ru.abs) f.ns u.abs)) := by
  obtain ⟨i0, hi0, hz0, hz1, hz2⟩ := info_of Tryd.infoInt
  obtain ⟨un, ue, ua, ur, uc⟩ := u
  show Calls Tryd.prog 44 #[.agg #[.int .i64 n, .int .i64 t, .slice A rs.length c], (.agg #[.slice f.a f.ns.length f.c, .slice f.b f.es.length f.d]), .pointer (some ⟨b, o, none⟩)] w (GaveIB w (chV (rs.map Ru.abs) f.ns ⟨un, ue, ur⟩) (chB (rs.map Ru.abs) f.ns ⟨un, ue, ur⟩))
  replace hel : ur.length ≤ 1048576 := hel
  have hbw : b < w.heap.size := hE.1
  have HG := Lib.hid hg; clear hg
  have HF := Lib.hid hf; clear hf
  have HE := Lib.hid hE; clear hE
  have HGR := Lib.hid hgr; clear hgr
  go_enter Tryd.func44, Tryd.ntmps44
  go_wp2
  have hB0 : Below w.heap.size w ((w.alloc (.cells #[.int .i64 n, .int .i64 t, .slice A rs.length c] 47)).alloc (.cells #[.slice f.a f.ns.length f.c, .slice f.b f.es.length f.d] 33)) := by go_grown
  have R0 : Row ((w.alloc (.cells #[.int .i64 n, .int .i64 t, .slice A rs.length c] 47)).alloc (.cells #[.slice f.a f.ns.length f.c, .slice f.b f.es.length f.d] 33)) w.heap.size 47 #[.int .i64 n, .int .i64 t, .slice A rs.length c] := (Row.new _ _ _).alloc _
  have B1 : BoxF ((w.alloc (.cells #[.int .i64 n, .int .i64 t, .slice A rs.length c] 47)).alloc (.cells #[.slice f.a f.ns.length f.c, .slice f.b f.es.length f.d] 33)) (w.heap.size + 1) f := by
    have h := BoxF.new (w.alloc (.cells #[.int .i64 n, .int .i64 t, .slice A rs.length c] 47)) f 33
    rw [World.size_alloc] at h; exact h
  generalize ((w.alloc (.cells #[.int .i64 n, .int .i64 t, .slice A rs.length c] 47)).alloc (.cells #[.slice f.a f.ns.length f.c, .slice f.b f.es.length f.d] 33)) = W at hB0 R0 B1 ⊢
  have HB0 := Lib.hid hB0; clear hB0
  have HR0 := Lib.hid R0; clear R0
  have HB1 := Lib.hid B1; clear B1
  have HSK : Hid (∀ v, Below W.heap.size W v → v.cell? ⟨w.heap.size, 0, none⟩ = some (.int .i64 n) ∧ v.cell? ⟨w.heap.size, 1, none⟩ = some (.int .i64 t) ∧ v.cell? ⟨w.heap.size, 2, none⟩ = some (.slice A rs.length c) ∧ v.cell? ⟨b, o + 1, none⟩ = some (.int .i64 ue) ∧ v.cell? ⟨b, o + 2, none⟩ = some (.slice ua ur.length uc) ∧ w.heap.size ≤ v.heap.size) := fun v hv => by
    have r := HR0.out.below hv HR0.out.lt
    have e := HE.out.keep (HB0.out.trans (hv.mono HB0.out.size))
    refine ⟨?_, ?_, ?_, e.2.2.1, e.2.2.2.1, Nat.le_trans HB0.out.size hv.size⟩
    · simpa using r.cell 0
    · simpa using r.cell 1
    · simpa using r.cell 2
  cases hq : rulN rs.length ue
  · have HC : Hid (chV (rs.map Ru.abs) f.ns ⟨un, ue, ur⟩ = [] ∧ chB (rs.map Ru.abs) f.ns ⟨un, ue, ur⟩ = false) := chB_no (by unfold fitsE; rw [List.length_map, show rulN rs.length ue = false from hq]; rfl)
    have HQ := Lib.hid hq; clear hq
    have HWD : Hid (Below W.heap.size W W.drew) := by show Below _ _ _; go_grown
    refine wp_region_held_drew (S := (fun w' => w'.cell? ⟨w.heap.size, 0, none⟩ = some (.int .i64 n) ∧ w'.cell? ⟨w.heap.size, 1, none⟩ = some (.int .i64 t) ∧ w'.cell? ⟨w.heap.size, 2, none⟩ = some (.slice A rs.length c) ∧ w'.cell? ⟨b, o + 1, none⟩ = some (.int .i64 ue) ∧ w'.cell? ⟨b, o + 2, none⟩ = some (.slice ua ur.length uc) ∧ w.heap.size ≤ w'.heap.size)) (by kernel_rfl) (HSK.out _ HWD.out) (fun hHeld => ?_)
    refine take_one (i := 0) (d := 13) (v := ?_) rfl rfl (by kernel_rfl) (by kernel_rfl) (by kernel_rfl) (fun _ _ _ h => h) (Or.inl ⟨by rfl, ?_⟩) (by assumption) ?_
    rotate_left
    · (intro wz hSw; (try dsimp only at hSw); (try obtain ⟨s0, s1, s2, s3, s4, s5⟩ := hSw); go_simp; try rfl)
    try simp only [Act.put, List.setIfInBounds_toArray, List.set_cons_zero, List.set_cons_succ]
    refine take_one (i := 1) (d := 14) (v := ?_) rfl rfl (by kernel_rfl) (by kernel_rfl) (by kernel_rfl) (fun _ _ _ h => h) (Or.inl ⟨by rfl, ?_⟩) (by assumption) ?_
    rotate_left
    · (intro wz hSw; (try dsimp only at hSw); (try obtain ⟨s0, s1, s2, s3, s4, s5⟩ := hSw); go_simp; try rfl)
    try simp only [Act.put, List.setIfInBounds_toArray, List.set_cons_zero, List.set_cons_succ]
    refine take_one (i := 2) (d := 15) (v := ?_) rfl rfl (by kernel_rfl) (by kernel_rfl) (by kernel_rfl) (fun _ _ _ h => h) (Or.inl ⟨by rfl, ?_⟩) (by assumption) ?_
    rotate_left
    · (intro wz hSw; (try dsimp only at hSw); (try obtain ⟨s0, s1, s2, s3, s4, s5⟩ := hSw); go_simp; try rfl)
    try simp only [Act.put, List.setIfInBounds_toArray, List.set_cons_zero, List.set_cons_succ]
    refine take_one (i := 3) (d := 16) (v := ?_) rfl rfl (by kernel_rfl) (by kernel_rfl) (by kernel_rfl) (fun _ _ _ h => h) (Or.inl ⟨by rfl, ?_⟩) (by assumption) ?_
    rotate_left
    · (intro wz hSw; (try dsimp only at hSw); (try obtain ⟨s0, s1, s2, s3, s4, s5⟩ := hSw); go_simp; try rfl)
    try simp only [Act.put, List.setIfInBounds_toArray, List.set_cons_zero, List.set_cons_succ]
    refine take_one (i := 4) (d := 17) (v := ?_) rfl rfl (by kernel_rfl) (by kernel_rfl) (by kernel_rfl) (fun _ _ _ h => h) (Or.inl ⟨by rfl, ?_⟩) (by assumption) ?_
    rotate_left
    · (intro wz hSw; (try dsimp only at hSw); (try obtain ⟨s0, s1, s2, s3, s4, s5⟩ := hSw); go_simp; try rfl)
    try simp only [Act.put, List.setIfInBounds_toArray, List.set_cons_zero, List.set_cons_succ]
    refine wpAnyH_ready (rs := [5]) (by kernel_rfl) (by simp) (AllReadyH.cons rfl (fun K hK => ?_) AllReadyH.nil)
    go_simp
    refine (isRulN_any n t ue A rs.length c _).mono ?_
    rintro e w1 ⟨rfl, hB1⟩
    have HW1 : Hid (Below W.heap.size W w1) := HWD.out.trans (hB1.mono HWD.out.size)
    rw [HQ.out]
    refine hK.out _ _ (HSK.out _ HW1.out) (fun hHeld => ?_)
    clear hK K
    try simp only [Act.put, List.setIfInBounds_toArray, List.set_cons_zero, List.set_cons_succ]
    refine take_one (i := 6) (d := 19) (v := ?_) rfl rfl (by kernel_rfl) (by kernel_rfl) (by kernel_rfl) (fun _ _ _ h => h) (Or.inl ⟨by rfl, ?_⟩) (by assumption) ?_
    rotate_left
    · (intro wz hSw; (try dsimp only at hSw); (try obtain ⟨s0, s1, s2, s3, s4, s5⟩ := hSw); go_simp; try rfl)
    try simp only [Act.put, List.setIfInBounds_toArray, List.set_cons_zero, List.set_cons_succ]
    refine take_one (i := 7) (d := 20) (v := ?_) rfl rfl (by kernel_rfl) (by kernel_rfl) (by kernel_rfl) (fun _ _ _ h => h) (Or.inl ⟨by rfl, ?_⟩) (by assumption) ?_
    rotate_left
    · (intro wz hSw; (try dsimp only at hSw); (try obtain ⟨s0, s1, s2, s3, s4, s5⟩ := hSw); go_simp; try rfl)
    try simp only [Act.put, List.setIfInBounds_toArray, List.set_cons_zero, List.set_cons_succ]
    refine take_one (i := 8) (d := 21) (v := undef) rfl rfl (by kernel_rfl) (by kernel_rfl) (by kernel_rfl) (fun _ _ _ h => h) (Or.inr ⟨by rfl, rfl⟩) (by assumption) ?_
    try simp only [Act.put, List.setIfInBounds_toArray, List.set_cons_zero, List.set_cons_succ]
    refine take_one (i := 9) (d := 22) (v := undef) rfl rfl (by kernel_rfl) (by kernel_rfl) (by kernel_rfl) (fun _ _ _ h => h) (Or.inr ⟨by rfl, rfl⟩) (by assumption) ?_
    try simp only [Act.put, List.setIfInBounds_toArray, List.set_cons_zero, List.set_cons_succ]
    refine take_one (i := 10) (d := 23) (v := undef) rfl rfl (by kernel_rfl) (by kernel_rfl) (by kernel_rfl) (fun _ _ _ h => h) (Or.inr ⟨by rfl, rfl⟩) (by assumption) ?_
    try simp only [Act.put, List.setIfInBounds_toArray, List.set_cons_zero, List.set_cons_succ]
    refine take_one (i := 11) (d := 24) (v := undef) rfl rfl (by kernel_rfl) (by kernel_rfl) (by kernel_rfl) (fun _ _ _ h => h) (Or.inr ⟨by rfl, rfl⟩) (by assumption) ?_
    try simp only [Act.put, List.setIfInBounds_toArray, List.set_cons_zero, List.set_cons_succ]
    refine take_one (i := 12) (d := 25) (v := undef) rfl rfl (by kernel_rfl) (by kernel_rfl) (by kernel_rfl) (fun _ _ _ h => h) (Or.inr ⟨by rfl, rfl⟩) (by assumption) ?_
    try simp only [Act.put, List.setIfInBounds_toArray, List.set_cons_zero, List.set_cons_succ]
    refine take_one (i := 13) (d := 26) (v := undef) rfl rfl (by kernel_rfl) (by kernel_rfl) (by kernel_rfl) (fun _ _ _ h => h) (Or.inr ⟨by rfl, rfl⟩) (by assumption) ?_
    try simp only [Act.put, List.setIfInBounds_toArray, List.set_cons_zero, List.set_cons_succ]
    refine take_one (i := 14) (d := 27) (v := undef) rfl rfl (by kernel_rfl) (by kernel_rfl) (by kernel_rfl) (fun _ _ _ h => h) (Or.inr ⟨by rfl, rfl⟩) (by assumption) ?_
    try simp only [Act.put, List.setIfInBounds_toArray, List.set_cons_zero, List.set_cons_succ]
    refine take_one (i := 15) (d := 28) (v := undef) rfl rfl (by kernel_rfl) (by kernel_rfl) (by kernel_rfl) (fun _ _ _ h => h) (Or.inr ⟨by rfl, rfl⟩) (by assumption) ?_
    try simp only [Act.put, List.setIfInBounds_toArray, List.set_cons_zero, List.set_cons_succ]
    refine take_one (i := 16) (d := 29) (v := undef) rfl rfl (by kernel_rfl) (by kernel_rfl) (by kernel_rfl) (fun _ _ _ h => h) (Or.inr ⟨by rfl, rfl⟩) (by assumption) ?_
    try simp only [Act.put, List.setIfInBounds_toArray, List.set_cons_zero, List.set_cons_succ]
    refine take_one (i := 17) (d := 30) (v := undef) rfl rfl (by kernel_rfl) (by kernel_rfl) (by kernel_rfl) (fun _ _ _ h => h) (Or.inr ⟨by rfl, rfl⟩) (by assumption) ?_
    try simp only [Act.put, List.setIfInBounds_toArray, List.set_cons_zero, List.set_cons_succ]
    refine take_one (i := 18) (d := 31) (v := undef) rfl rfl (by kernel_rfl) (by kernel_rfl) (by kernel_rfl) (fun _ _ _ h => h) (Or.inr ⟨by rfl, rfl⟩) (by assumption) ?_
    try simp only [Act.put, List.setIfInBounds_toArray, List.set_cons_zero, List.set_cons_succ]
    refine take_one (i := 19) (d := 32) (v := undef) rfl rfl (by kernel_rfl) (by kernel_rfl) (by kernel_rfl) (fun _ _ _ h => h) (Or.inr ⟨by rfl, rfl⟩) (by assumption) ?_
    try simp only [Act.put, List.setIfInBounds_toArray, List.set_cons_zero, List.set_cons_succ]
    refine take_one (i := 20) (d := 33) (v := undef) rfl rfl (by kernel_rfl) (by kernel_rfl) (by kernel_rfl) (fun _ _ _ h => h) (Or.inr ⟨by rfl, rfl⟩) (by assumption) ?_
    try simp only [Act.put, List.setIfInBounds_toArray, List.set_cons_zero, List.set_cons_succ]
    refine take_one (i := 21) (d := 34) (v := undef) rfl rfl (by kernel_rfl) (by kernel_rfl) (by kernel_rfl) (fun _ _ _ h => h) (Or.inr ⟨by rfl, rfl⟩) (by assumption) ?_
    try simp only [Act.put, List.setIfInBounds_toArray, List.set_cons_zero, List.set_cons_succ]
    refine take_one (i := 22) (d := 35) (v := undef) rfl rfl (by kernel_rfl) (by kernel_rfl) (by kernel_rfl) (fun _ _ _ h => h) (Or.inr ⟨by rfl, rfl⟩) (by assumption) ?_
    try simp only [Act.put, List.setIfInBounds_toArray, List.set_cons_zero, List.set_cons_succ]
    refine take_one (i := 23) (d := 36) (v := undef) rfl rfl (by kernel_rfl) (by kernel_rfl) (by kernel_rfl) (fun _ _ _ h => h) (Or.inr ⟨by rfl, rfl⟩) (by assumption) ?_
    try simp only [Act.put, List.setIfInBounds_toArray, List.set_cons_zero, List.set_cons_succ]
    refine take_one (i := 24) (d := 37) (v := undef) rfl rfl (by kernel_rfl) (by kernel_rfl) (by kernel_rfl) (fun _ _ _ h => h) (Or.inr ⟨by rfl, rfl⟩) (by assumption) ?_
    try simp only [Act.put, List.setIfInBounds_toArray, List.set_cons_zero, List.set_cons_succ]
    refine take_one (i := 25) (d := 38) (v := ?_) rfl rfl (by kernel_rfl) (by kernel_rfl) (by kernel_rfl) (fun _ _ _ h => h) (Or.inl ⟨by rfl, ?_⟩) (by assumption) ?_
    rotate_left
    · (intro wz hSw; (try dsimp only at hSw); (try obtain ⟨s0, s1, s2, s3, s4, s5⟩ := hSw); go_simp; try rfl)
    try simp only [Act.put, List.setIfInBounds_toArray, List.set_cons_zero, List.set_cons_succ]
    refine wpAnyH_done (by kernel_rfl) ?_ _
    go_simp
    go_wp2
    go_ret2
    exact ⟨none, 0, by rw [HC.out.1, HC.out.2]; rfl, .inl HC.out.1, HB0.out.trans (HW1.out.mono HB0.out.size)⟩
  obtain ⟨hq0, hq1⟩ := of_decide_eq_true hq
  obtain ⟨q, rfl⟩ : ∃ q : Nat, ue = (q : Int) := ⟨ue.toNat, by omega⟩
  have hql : q < rs.length := by omega
  have HQ := Lib.hid hq; clear hq
  have hrl := HGR.out rs[q] (List.getElem_mem hql)
  have HRO := Lib.hid (rightOf_at hql)
  obtain ⟨gb, go, rfl, hgb, g1, g2, g3⟩ := HG.out.at_ hql
  generalize rs[q].a = ra at g2 g3
  generalize rs[q].c = rc at g2
  generalize rs[q].r = rr at g2 g3 hrl HRO
  have HG3 := Lib.hid g3; clear g3
  have HG2 := Lib.hid g2; clear g2 g1
  have HSL : Hid (∀ v, Below W.heap.size W v → v.cell? ⟨w.heap.size, 0, none⟩ = some (.int .i64 n) ∧ v.cell? ⟨w.heap.size, 1, none⟩ = some (.int .i64 t) ∧ v.cell? ⟨w.heap.size, 2, none⟩ = some (.slice (some ⟨gb, go, none⟩) rs.length c) ∧ v.cell? ⟨b, o + 1, none⟩ = some (.int .i64 (q : Int)) ∧ v.cell? ⟨b, o + 2, none⟩ = some (.slice ua ur.length uc) ∧ v.cell? ⟨gb, go + q * 2 + 1, none⟩ = some (.slice ra rr.length rc)) := fun v hv => by
    obtain ⟨s0, s1, s2, s3, s4, _⟩ := HSK.out v hv
    exact ⟨s0, s1, s2, s3, s4, ((HB0.out.trans (hv.mono HB0.out.size)).cell (p := ⟨gb, go + q * 2 + 1, none⟩) hgb).trans HG2.out⟩
  have HWW : Hid (∀ v, Below W.heap.size W v → w.heap.size < v.heap.size) := fun v hv => Nat.lt_of_lt_of_le HR0.out.lt hv.size
  have HCR : Hid (∀ v, Calls Tryd.prog 63 #[.agg #[.int .i64 n, .int .i64 t, .slice (some ⟨gb, go, none⟩) rs.length c], .int .i64 (q : Int)] v fun e v' => e = .returned (.bool true) ∧ Below v.heap.size v v') := fun v => by
    have h := isRulN_any n t (q : Int) (some ⟨gb, go, none⟩) rs.length c v
    rw [HQ.out] at h
    exact h
  have hw1 : IntKind.i64.wrap ((rr.length : Int) + 1) = (rr.length : Int) + 1 := by rw [IntKind.wrap_i64]; omega
  obtain ⟨x0, x1, x2, x3, x4, x5⟩ := HSL.out W (Below.refl _ _)
  by_cases hfl2 : ur.length = rr.length + 1
  · have hne : ((ur.length : Int) != (rr.length : Int) + 1) = false := bne_f (by omega)
    have hFit : Hid (chO (rs.map Ru.abs) f.ns ⟨un, (q : Int), ur⟩ = numsOf f.ns (kidsV rr ur)) := by
      show _ = _
      rw [chB_yes (by unfold fitsE; rw [List.length_map, HRO.out, show rulN rs.length (q : Int) = true from HQ.out, show decide (ur.length = rr.length + 1) = true from decide_eq_true hfl2]; rfl)]
      rw [show rightOf (rs.map Ru.abs) (q : Int) = rr from HRO.out]
    have HFL := Lib.hid hfl2; clear hfl2
    go_region_held3 (fun w' => w'.cell? ⟨w.heap.size, 0, none⟩ = some (.int .i64 n) ∧ w'.cell? ⟨w.heap.size, 1, none⟩ = some (.int .i64 t) ∧ w'.cell? ⟨w.heap.size, 2, none⟩ = some (.slice (some ⟨gb, go, none⟩) rs.length c) ∧ w'.cell? ⟨b, o + 1, none⟩ = some (.int .i64 (q : Int)) ∧ w'.cell? ⟨b, o + 2, none⟩ = some (.slice ua ur.length uc) ∧ w'.cell? ⟨gb, go + q * 2 + 1, none⟩ = some (.slice ra rr.length rc))
      (first | exact ⟨y0, y1, y2, y3, y4, y5⟩ | exact ⟨x0, x1, x2, x3, x4, x5⟩)
      (first | (go_at_call 63
                with_reducible refine (HCR.out _).mono ?_
                rintro e w1 ⟨rfl, hB1'⟩
                have hB1 : Below W.heap.size W w1 := Below.trans (by go_grown) hB1'
                obtain ⟨y0, y1, y2, y3, y4, y5⟩ := HSL.out w1 hB1
                have HW1 := Lib.hid hB1
                clear hB1 hB1'))
    rename_i hHeld
    clear hHeld x0 x1 x2 x3 x4 x5
    have HW1s := Lib.hid HW1.out.size
    have HB1W := Lib.hid (HB0.out.trans (HW1.out.mono HB0.out.size))
    have HCN : Hid (∀ v, Below w1.heap.size w1 v → Calls Tryd.prog 64 #[.slice ra rr.length rc, .slice ua ur.length uc] v fun e v' => ∃ A' c', e = .returned (.slice A' (kidsV rr ur).length c') ∧ OwnNd v' v.heap.size A' (kidsV rr ur) ∧ Below v.heap.size v v') := fun v hv => by
      have hb := HB1W.out.trans (hv.mono HB1W.out.size)
      exact childNodes_any ra ua rr ur rc uc v ((HG3.out.keep hb).more hb.size) ((HE.out.keep hb).2.2.2.2) (by rw [HFL.out]; exact Nat.le_refl _) hrl hel
    have hkl : (kidsV rr ur).length ≤ 1000 := Nat.le_trans (kidsTo_len rr ur rr.length) hrl
    generalize kidsV rr ur = ks at HCN hFit hkl
    go_wp2_with fail
    go_region_held3 (fun w' => w'.cell? ⟨w.heap.size, 0, none⟩ = some (.int .i64 n) ∧ w'.cell? ⟨w.heap.size, 1, none⟩ = some (.int .i64 t) ∧ w'.cell? ⟨w.heap.size, 2, none⟩ = some (.slice (some ⟨gb, go, none⟩) rs.length c) ∧ w'.cell? ⟨b, o + 1, none⟩ = some (.int .i64 (q : Int)) ∧ w'.cell? ⟨b, o + 2, none⟩ = some (.slice ua ur.length uc) ∧ w'.cell? ⟨gb, go + q * 2 + 1, none⟩ = some (.slice ra rr.length rc))
      (first | exact ⟨z0, z1, z2, z3, z4, z5⟩ | exact ⟨y0, y1, y2, y3, y4, y5⟩)
      (first | (go_at_call 64
                with_reducible refine (HCN.out _ ?_).mono ?_
                · go_grown
                rintro e w2 ⟨A2, c2, rfl, hO2, hB2'⟩
                have hB2 : Below w1.heap.size w1 w2 := Below.trans (by go_grown) hB2'
                have hB2W : Below W.heap.size W w2 := HW1.out.trans (hB2.mono HW1s.out)
                obtain ⟨z0, z1, z2, z3, z4, z5⟩ := HSL.out w2 hB2W
                have HN2 : Hid (Nds w2 w2.heap.size A2 ks) := hO2.nds
                have HW2 := Lib.hid hB2W
                clear hB2 hB2' hB2W hO2))
    rename_i hHeld
    clear hHeld y0 y1 y2 y3 y4 y5 z0 z1 z2 z3 z4 z5 HCN HW1 HW1s HB1W
    have HF2 := Lib.hid (HB1.out.keep HW2.out HB1.out.1)
    have HB2W := Lib.hid (HB0.out.trans (HW2.out.mono HB0.out.size))
    clear HSL HSK HWW HCR HQ HG3 HG2 HR0
    go_wp2
    go_loopw [8, 54] (fun v i wr => ∃ (k : Nat) (acc : List Int), k ≤ ks.length ∧ i = .int .i64 k ∧ acc.length = k ∧ Hid (wr.ownsRow w2.heap.size 3 1 v acc.length (acc.map fun y => Value.int .i64 y)) ∧ Hid (NumTo f.ns ks k acc) ∧ Below w2.heap.size w2 wr) (fun _ i _ => ks.length - (intOf i).toNat)
    case atStart => exact ⟨0, [], by omega, rfl, rfl, ⟨by simp, .inl ⟨rfl, rfl⟩⟩, NumTo.start _ _, Below.refl _ _⟩
    case round =>
      obtain ⟨k, acc, hk, rfl, hac, HO, H, hB⟩ := hrel
      by_cases hlt : k < ks.length
      · obtain ⟨kb, ko, rfl, hkb, k0, k1, k2⟩ := (HN2.out.keep hB).at_ hlt
        obtain ⟨hfb, f0, f1⟩ := HF2.out.keep hB HF2.out.1
        have hkw := Nat.lt_of_lt_of_le hkb hB.size
        go_wp2_with fail
        have hBX : Below wr.heap.size wr (wr.alloc (.cells #[.int .i64 ks[k].n, .int .i64 ks[k].f, .int .i64 ks[k].t] 86)) := by go_grown
        have HOX := Lib.hid (own_below HO.out hBX)
        generalize (wr.alloc (.cells #[.int .i64 ks[k].n, .int .i64 ks[k].f, .int .i64 ks[k].t] 86)) = X at hBX HOX ⊢
        have HBX := Lib.hid (hB.trans (hBX.mono hB.size)); clear hBX
        refine (nodeNumber_any f.a f.ns f.c f.b f.es.length f.d ks[k] X ((HF.out.keep (HB2W.out.trans (HBX.out.mono HB2W.out.size))).more (Nat.le_trans HB2W.out.size HBX.out.size)) hfl).mono ?_
        rintro e w3 ⟨rfl, hB3⟩
        have HO3 := Lib.hid (own_below HOX.out hB3)
        have HB3 := Lib.hid (HBX.out.trans (hB3.mono HBX.out.size)); clear hB3 HOX HBX
        clear k0 k1 k2 f0 f1
        cases hix : nodeIx f.ns ks[k] with
        | none =>
          have HC : Hid (chV (rs.map Ru.abs) f.ns ⟨un, (q : Int), ur⟩ = [] ∧ chB (rs.map Ru.abs) f.ns ⟨un, (q : Int), ur⟩ = false) := by
            show _ ∧ _
            unfold chV chB
            rw [hFit.out, H.out.no hlt hix]
            exact ⟨rfl, rfl⟩
          simp only [ixI, Option.isSome_none]
          go_wp2
          go_ret2
          exact ⟨none, 0, by rw [HC.out.1, HC.out.2]; rfl, .inl HC.out.1, HB2W.out.trans (HB3.out.mono HB2W.out.size)⟩
        | some i =>
          have HS : Hid (NumTo f.ns ks (k + 1) (acc ++ [(i : Int)])) := H.out.yes hlt hix
          have hil := nodeIx_lt hix
          have hown := HO3.out.alloc (.cells #[.int .i64 (i : Int)] 3)
          have HW := Lib.hid hown; clear hown
          have HNW := Lib.hid (cell_one_new w3 (.int .i64 (i : Int)) 3)
          have hsz := HB3.out.size
          simp only [ixI, Option.isSome_some]
          go_wp2_with (at_builtin
                       refine wpList_append_own _ rfl (.tmp 66) (.tmp 68) _ rfl w2.heap.size 3 i0 _ 1 8 Tryd.underlying27 hi0 hz0 hz1 hz2 rfl (by omega) _ _ _ rfl HW.out ⟨w3.heap.size, 0, none⟩ 1 1 [.int .i64 (i : Int)] rfl rfl HNW.out (by intro u hu; simp at hu; subst hu; rfl) (by unfold maxLen; omega) (by omega) (by simp; omega) ?_
                       intro v' w' h1 h2 h3
                       have HO1 := Lib.hid h1
                       have HG1 := Lib.hid h2
                       clear h1 h2 h3)
          go_roundw
          case rel =>
            refine ⟨k + 1, acc ++ [(i : Int)], by omega, by go_num, by simp; omega, ?_, HS, ?_⟩
            · show World.ownsRow _ _ _ _ _ _ _
              simpa using HO1.out
            · exact (HB3.out.alloc hsz _).grown HG1.out (by simp; omega) fun j hj => (HO3.out.lt j hj).1
          case measure => simp [intOf]; omega
      · obtain rfl : k = ks.length := by omega
        have HC : Hid (chV (rs.map Ru.abs) f.ns ⟨un, (q : Int), ur⟩ = acc ∧ chB (rs.map Ru.abs) f.ns ⟨un, (q : Int), ur⟩ = true) := by
          show _ ∧ _
          unfold chV chB
          rw [hFit.out, H.out.done]
          exact ⟨rfl, rfl⟩
        obtain ⟨A', c', rfl, hO⟩ := ownI_of_row HO.out
        have HO' := Lib.hid hO; clear hO
        go_wp2
        go_ret2
        exact ⟨A', c', by rw [HC.out.1, HC.out.2]; rfl, by rw [HC.out.1]; exact HO'.out.lower HB2W.out.size, HB2W.out.trans (hB.mono HB2W.out.size)⟩
  · have hne : ((ur.length : Int) != (rr.length : Int) + 1) = true := bne_t (by omega)
    have HC : Hid (chV (rs.map Ru.abs) f.ns ⟨un, (q : Int), ur⟩ = [] ∧ chB (rs.map Ru.abs) f.ns ⟨un, (q : Int), ur⟩ = false) := chB_no (by unfold fitsE; rw [List.length_map, HRO.out, show rulN rs.length (q : Int) = true from HQ.out, show decide (ur.length = rr.length + 1) = false from decide_eq_false hfl2]; rfl)
    clear hfl2
    go_region_held3 (fun w' => w'.cell? ⟨w.heap.size, 0, none⟩ = some (.int .i64 n) ∧ w'.cell? ⟨w.heap.size, 1, none⟩ = some (.int .i64 t) ∧ w'.cell? ⟨w.heap.size, 2, none⟩ = some (.slice (some ⟨gb, go, none⟩) rs.length c) ∧ w'.cell? ⟨b, o + 1, none⟩ = some (.int .i64 (q : Int)) ∧ w'.cell? ⟨b, o + 2, none⟩ = some (.slice ua ur.length uc) ∧ w'.cell? ⟨gb, go + q * 2 + 1, none⟩ = some (.slice ra rr.length rc))
      (first | exact ⟨y0, y1, y2, y3, y4, y5⟩ | exact ⟨x0, x1, x2, x3, x4, x5⟩)
      (first | (go_at_call 63
                with_reducible refine (HCR.out _).mono ?_
                rintro e w1 ⟨rfl, hB1'⟩
                have hB1 : Below W.heap.size W w1 := Below.trans (by go_grown) hB1'
                obtain ⟨y0, y1, y2, y3, y4, y5⟩ := HSL.out w1 hB1
                have HW1 := Lib.hid hB1
                clear hB1 hB1'))
    go_wp2
    go_ret2
    exact ⟨none, 0, by rw [HC.out.1, HC.out.2]; rfl, .inl HC.out.1, HB0.out.trans (HW1.out.mono HB0.out.size)⟩

end Go.Proofs.YtbgjlabjihoaaaaDoor

/- To which nodes an edge leads: the reference. -/

namespace Go.Proofs.YtbgjlabjihoaaaaDoor
open Go.RowKit
open Go.Sort (grow)

set_option maxRecDepth 20000 in
set_option maxHeartbeats 2000000 in
theorem specChildren_any (n t : Int) (A : Option Addr) (rs : List Ru) (c : Nat) (f : Fo) (u : Eg) (w : World) (hg : Rls w w.heap.size A rs) (hgl : rs.length ≤ 1048576) (hgr : ∀ v ∈ rs, v.r.length ≤ 1000) (hf : Nds w w.heap.size f.a f.ns) (hfl : f.ns.length ≤ 1048576) (hE : Ints w w.heap.size u.a u.r) (hel : u.r.length ≤ 1048576) :
    Calls Tryd.prog 41 #[.agg #[.int .i64 n, .int .i64 t, .slice A rs.length c], (.agg #[.slice f.a f.ns.length f.c, .slice f.b f.es.length f.d]), .agg #[.int .i64 u.n, .int .i64 u.e, .slice u.a u.r.length u.c]] w (GaveIB w (chV (rs.map Ru.abs) f.ns u.abs) (chB (rs.map Ru.abs) f.ns u.abs)) := by
  obtain ⟨i0, hi0, hz0, hz1, hz2⟩ := info_of Tryd.infoInt
  obtain ⟨un, ue, ua, ur, uc⟩ := u
  show Calls Tryd.prog 41 #[.agg #[.int .i64 n, .int .i64 t, .slice A rs.length c], (.agg #[.slice f.a f.ns.length f.c, .slice f.b f.es.length f.d]), .agg #[.int .i64 un, .int .i64 ue, .slice ua ur.length uc]] w (GaveIB w (chV (rs.map Ru.abs) f.ns ⟨un, ue, ur⟩) (chB (rs.map Ru.abs) f.ns ⟨un, ue, ur⟩))
  replace hel : ur.length ≤ 1048576 := hel
  have HG := Lib.hid hg; clear hg
  have HF := Lib.hid hf; clear hf
  have HE : Hid (Ints w w.heap.size ua ur) := hE
  clear hE
  have HGR := Lib.hid hgr; clear hgr
  have HIN : Hid (∀ v, Calls Tryd.prog 29 #[.int .i64 ue, .int .i64 0, .int .i64 ((rs.length : Int) - 1)] v fun e v' => e = .returned (.bool (rulN rs.length ue)) ∧ v = v') := fun v => by
    refine (l1In_any ue 0 ((rs.length : Int) - 1) v).mono ?_
    rintro e v' ⟨rfl, rfl⟩
    refine ⟨ret_b ?_, rfl⟩
    unfold inB rulN
    exact decide_eq_decide.2 ⟨fun h => ⟨h.1, by omega⟩, fun h => ⟨h.1, by omega⟩⟩
  have hw0 : IntKind.i64.wrap ((rs.length : Int) - 1) = (rs.length : Int) - 1 := by rw [IntKind.wrap_i64]; omega
  go_enter Tryd.func41, Tryd.ntmps41
  go_wp2
  have hB0 : Below w.heap.size w (((w.alloc (.cells #[.int .i64 n, .int .i64 t, .slice A rs.length c] 47)).alloc (.cells #[.slice f.a f.ns.length f.c, .slice f.b f.es.length f.d] 33)).alloc (.cells #[.int .i64 un, .int .i64 ue, .slice ua ur.length uc] 67)) := by go_grown
  have R0 : Row (((w.alloc (.cells #[.int .i64 n, .int .i64 t, .slice A rs.length c] 47)).alloc (.cells #[.slice f.a f.ns.length f.c, .slice f.b f.es.length f.d] 33)).alloc (.cells #[.int .i64 un, .int .i64 ue, .slice ua ur.length uc] 67)) w.heap.size 47 #[.int .i64 n, .int .i64 t, .slice A rs.length c] := ((Row.new _ _ _).alloc _).alloc _
  have B1 : BoxF (((w.alloc (.cells #[.int .i64 n, .int .i64 t, .slice A rs.length c] 47)).alloc (.cells #[.slice f.a f.ns.length f.c, .slice f.b f.es.length f.d] 33)).alloc (.cells #[.int .i64 un, .int .i64 ue, .slice ua ur.length uc] 67)) (w.heap.size + 1) f := by
    have h := BoxF.new (w.alloc (.cells #[.int .i64 n, .int .i64 t, .slice A rs.length c] 47)) f 33
    rw [World.size_alloc] at h
    exact h.keep (B := w.heap.size + 1 + 1) (by go_grown) (by omega)
  have R2 : Row (((w.alloc (.cells #[.int .i64 n, .int .i64 t, .slice A rs.length c] 47)).alloc (.cells #[.slice f.a f.ns.length f.c, .slice f.b f.es.length f.d] 33)).alloc (.cells #[.int .i64 un, .int .i64 ue, .slice ua ur.length uc] 67)) (w.heap.size + 1 + 1) 67 #[.int .i64 un, .int .i64 ue, .slice ua ur.length uc] := by
    have h := Row.new ((w.alloc (.cells #[.int .i64 n, .int .i64 t, .slice A rs.length c] 47)).alloc (.cells #[.slice f.a f.ns.length f.c, .slice f.b f.es.length f.d] 33)) 67 #[.int .i64 un, .int .i64 ue, .slice ua ur.length uc]
    rw [World.size_alloc, World.size_alloc] at h; exact h
  generalize (((w.alloc (.cells #[.int .i64 n, .int .i64 t, .slice A rs.length c] 47)).alloc (.cells #[.slice f.a f.ns.length f.c, .slice f.b f.es.length f.d] 33)).alloc (.cells #[.int .i64 un, .int .i64 ue, .slice ua ur.length uc] 67)) = W at hB0 R0 B1 R2 ⊢
  have HB0 := Lib.hid hB0; clear hB0
  have HR0 := Lib.hid R0; clear R0
  have HB1 := Lib.hid B1; clear B1
  have HR2 := Lib.hid R2; clear R2
  have HSK : Hid (∀ v, Below W.heap.size W v → (v.cell? ⟨w.heap.size, 0, none⟩ = some (.int .i64 n) ∧ v.cell? ⟨w.heap.size, 1, none⟩ = some (.int .i64 t) ∧ v.cell? ⟨w.heap.size, 2, none⟩ = some (.slice A rs.length c)) ∧ (v.cell? ⟨w.heap.size + 1 + 1, 0, none⟩ = some (.int .i64 un) ∧ v.cell? ⟨w.heap.size + 1 + 1, 1, none⟩ = some (.int .i64 ue) ∧ v.cell? ⟨w.heap.size + 1 + 1, 2, none⟩ = some (.slice ua ur.length uc)) ∧ w.heap.size + 1 + 1 < v.heap.size) := fun v hv => by
    have r := HR0.out.below hv HR0.out.lt
    have r2 := HR2.out.below hv HR2.out.lt
    refine ⟨⟨?_, ?_, ?_⟩, ⟨?_, ?_, ?_⟩, r2.lt⟩
    · simpa using r.cell 0
    · simpa using r.cell 1
    · simpa using r.cell 2
    · simpa using r2.cell 0
    · simpa using r2.cell 1
    · simpa using r2.cell 2
  cases hq : rulN rs.length ue
  · have HC : Hid (chV (rs.map Ru.abs) f.ns ⟨un, ue, ur⟩ = [] ∧ chB (rs.map Ru.abs) f.ns ⟨un, ue, ur⟩ = false) := chB_no (by unfold fitsE; rw [List.length_map, show rulN rs.length ue = false from hq]; rfl)
    have HQ := Lib.hid hq; clear hq
    have HWD : Hid (Below W.heap.size W W.drew) := by show Below _ _ _; go_grown
    refine wp_region_held_drew (S := fun w' => (w'.cell? ⟨w.heap.size, 0, none⟩ = some (.int .i64 n) ∧ w'.cell? ⟨w.heap.size, 1, none⟩ = some (.int .i64 t) ∧ w'.cell? ⟨w.heap.size, 2, none⟩ = some (.slice A rs.length c)) ∧ (w'.cell? ⟨w.heap.size + 1 + 1, 0, none⟩ = some (.int .i64 un) ∧ w'.cell? ⟨w.heap.size + 1 + 1, 1, none⟩ = some (.int .i64 ue) ∧ w'.cell? ⟨w.heap.size + 1 + 1, 2, none⟩ = some (.slice ua ur.length uc)) ∧ w.heap.size + 1 + 1 < w'.heap.size) (by kernel_rfl) (HSK.out _ HWD.out) (fun hHeld => ?_)
    refine take_one (i := 0) (d := 12) (v := ?_) rfl rfl (by kernel_rfl) (by kernel_rfl) (by kernel_rfl) (fun _ _ _ h => h) (Or.inl ⟨by rfl, ?_⟩) (by assumption) ?_
    rotate_left
    · (intro wz hSw; (try dsimp only at hSw); (try obtain ⟨⟨s0, s1, s2⟩, ⟨s3, s4, s5⟩, s6⟩ := hSw); go_simp; try rfl)
    try simp only [Act.put, List.setIfInBounds_toArray, List.set_cons_zero, List.set_cons_succ]
    refine take_one (i := 1) (d := 13) (v := ?_) rfl rfl (by kernel_rfl) (by kernel_rfl) (by kernel_rfl) (fun _ _ _ h => h) (Or.inl ⟨by rfl, ?_⟩) (by assumption) ?_
    rotate_left
    · (intro wz hSw; (try dsimp only at hSw); (try obtain ⟨⟨s0, s1, s2⟩, ⟨s3, s4, s5⟩, s6⟩ := hSw); go_simp; try rfl)
    try simp only [Act.put, List.setIfInBounds_toArray, List.set_cons_zero, List.set_cons_succ]
    refine take_one (i := 2) (d := 14) (v := ?_) rfl rfl (by kernel_rfl) (by kernel_rfl) (by kernel_rfl) (fun _ _ _ h => h) (Or.inl ⟨by rfl, ?_⟩) (by assumption) ?_
    rotate_left
    · (intro wz hSw; (try dsimp only at hSw); (try obtain ⟨⟨s0, s1, s2⟩, ⟨s3, s4, s5⟩, s6⟩ := hSw); go_simp; try rfl)
    try simp only [Act.put, List.setIfInBounds_toArray, List.set_cons_zero, List.set_cons_succ]
    refine take_one (i := 3) (d := 15) (v := ?_) rfl rfl (by kernel_rfl) (by kernel_rfl) (by kernel_rfl) (fun _ _ _ h => h) (Or.inl ⟨by rfl, ?_⟩) (by assumption) ?_
    rotate_left
    · (intro wz hSw; (try dsimp only at hSw); (try obtain ⟨⟨s0, s1, s2⟩, ⟨s3, s4, s5⟩, s6⟩ := hSw); go_simp; try rfl)
    try simp only [Act.put, List.setIfInBounds_toArray, List.set_cons_zero, List.set_cons_succ]
    refine take_one (i := 4) (d := 16) (v := ?_) rfl rfl (by kernel_rfl) (by kernel_rfl) (by kernel_rfl) (fun _ _ _ h => h) (Or.inl ⟨by rfl, ?_⟩) (by assumption) ?_
    rotate_left
    · (intro wz hSw; (try dsimp only at hSw); (try obtain ⟨⟨s0, s1, s2⟩, ⟨s3, s4, s5⟩, s6⟩ := hSw); go_simp; try rfl)
    try simp only [Act.put, List.setIfInBounds_toArray, List.set_cons_zero, List.set_cons_succ]
    refine take_one (i := 5) (d := 17) (v := ?_) rfl rfl (by kernel_rfl) (by kernel_rfl) (by kernel_rfl) (fun _ _ _ h => h) (Or.inl ⟨by rfl, ?_⟩) (by assumption) ?_
    rotate_left
    · (intro wz hSw; (try dsimp only at hSw); (try obtain ⟨⟨s0, s1, s2⟩, ⟨s3, s4, s5⟩, s6⟩ := hSw); go_simp; try rfl)
    try simp only [Act.put, List.setIfInBounds_toArray, List.set_cons_zero, List.set_cons_succ]
    refine wpAnyH_ready (rs := [6]) (by kernel_rfl) (by simp) (AllReadyH.cons rfl (fun K hK => ?_) AllReadyH.nil)
    go_simp
    refine (HIN.out _).mono ?_
    rintro e w1 ⟨rfl, hw1⟩
    replace hw1 := hw1.symm
    subst hw1
    rw [HQ.out]
    refine hK.out _ _ (HSK.out _ HWD.out) (fun hHeld => ?_)
    clear hK K
    try simp only [Act.put, List.setIfInBounds_toArray, List.set_cons_zero, List.set_cons_succ]
    refine take_one (i := 7) (d := 19) (v := ?_) rfl rfl (by kernel_rfl) (by kernel_rfl) (by kernel_rfl) (fun _ _ _ h => h) (Or.inl ⟨by rfl, ?_⟩) (by assumption) ?_
    rotate_left
    · (intro wz hSw; (try dsimp only at hSw); (try obtain ⟨⟨s0, s1, s2⟩, ⟨s3, s4, s5⟩, s6⟩ := hSw); go_simp; try rfl)
    try simp only [Act.put, List.setIfInBounds_toArray, List.set_cons_zero, List.set_cons_succ]
    refine take_one (i := 8) (d := 20) (v := ?_) rfl rfl (by kernel_rfl) (by kernel_rfl) (by kernel_rfl) (fun _ _ _ h => h) (Or.inl ⟨by rfl, ?_⟩) (by assumption) ?_
    rotate_left
    · (intro wz hSw; (try dsimp only at hSw); (try obtain ⟨⟨s0, s1, s2⟩, ⟨s3, s4, s5⟩, s6⟩ := hSw); go_simp; try rfl)
    try simp only [Act.put, List.setIfInBounds_toArray, List.set_cons_zero, List.set_cons_succ]
    refine take_one (i := 9) (d := 21) (v := undef) rfl rfl (by kernel_rfl) (by kernel_rfl) (by kernel_rfl) (fun _ _ _ h => h) (Or.inr ⟨by rfl, rfl⟩) (by assumption) ?_
    try simp only [Act.put, List.setIfInBounds_toArray, List.set_cons_zero, List.set_cons_succ]
    refine take_one (i := 10) (d := 22) (v := undef) rfl rfl (by kernel_rfl) (by kernel_rfl) (by kernel_rfl) (fun _ _ _ h => h) (Or.inr ⟨by rfl, rfl⟩) (by assumption) ?_
    try simp only [Act.put, List.setIfInBounds_toArray, List.set_cons_zero, List.set_cons_succ]
    refine take_one (i := 11) (d := 23) (v := undef) rfl rfl (by kernel_rfl) (by kernel_rfl) (by kernel_rfl) (fun _ _ _ h => h) (Or.inr ⟨by rfl, rfl⟩) (by assumption) ?_
    try simp only [Act.put, List.setIfInBounds_toArray, List.set_cons_zero, List.set_cons_succ]
    refine take_one (i := 12) (d := 24) (v := undef) rfl rfl (by kernel_rfl) (by kernel_rfl) (by kernel_rfl) (fun _ _ _ h => h) (Or.inr ⟨by rfl, rfl⟩) (by assumption) ?_
    try simp only [Act.put, List.setIfInBounds_toArray, List.set_cons_zero, List.set_cons_succ]
    refine take_one (i := 13) (d := 25) (v := undef) rfl rfl (by kernel_rfl) (by kernel_rfl) (by kernel_rfl) (fun _ _ _ h => h) (Or.inr ⟨by rfl, rfl⟩) (by assumption) ?_
    try simp only [Act.put, List.setIfInBounds_toArray, List.set_cons_zero, List.set_cons_succ]
    refine take_one (i := 14) (d := 26) (v := undef) rfl rfl (by kernel_rfl) (by kernel_rfl) (by kernel_rfl) (fun _ _ _ h => h) (Or.inr ⟨by rfl, rfl⟩) (by assumption) ?_
    try simp only [Act.put, List.setIfInBounds_toArray, List.set_cons_zero, List.set_cons_succ]
    refine take_one (i := 15) (d := 27) (v := undef) rfl rfl (by kernel_rfl) (by kernel_rfl) (by kernel_rfl) (fun _ _ _ h => h) (Or.inr ⟨by rfl, rfl⟩) (by assumption) ?_
    try simp only [Act.put, List.setIfInBounds_toArray, List.set_cons_zero, List.set_cons_succ]
    refine take_one (i := 16) (d := 28) (v := undef) rfl rfl (by kernel_rfl) (by kernel_rfl) (by kernel_rfl) (fun _ _ _ h => h) (Or.inr ⟨by rfl, rfl⟩) (by assumption) ?_
    try simp only [Act.put, List.setIfInBounds_toArray, List.set_cons_zero, List.set_cons_succ]
    refine take_one (i := 17) (d := 29) (v := undef) rfl rfl (by kernel_rfl) (by kernel_rfl) (by kernel_rfl) (fun _ _ _ h => h) (Or.inr ⟨by rfl, rfl⟩) (by assumption) ?_
    try simp only [Act.put, List.setIfInBounds_toArray, List.set_cons_zero, List.set_cons_succ]
    refine take_one (i := 18) (d := 30) (v := undef) rfl rfl (by kernel_rfl) (by kernel_rfl) (by kernel_rfl) (fun _ _ _ h => h) (Or.inr ⟨by rfl, rfl⟩) (by assumption) ?_
    try simp only [Act.put, List.setIfInBounds_toArray, List.set_cons_zero, List.set_cons_succ]
    refine take_one (i := 19) (d := 31) (v := undef) rfl rfl (by kernel_rfl) (by kernel_rfl) (by kernel_rfl) (fun _ _ _ h => h) (Or.inr ⟨by rfl, rfl⟩) (by assumption) ?_
    try simp only [Act.put, List.setIfInBounds_toArray, List.set_cons_zero, List.set_cons_succ]
    refine take_one (i := 20) (d := 32) (v := undef) rfl rfl (by kernel_rfl) (by kernel_rfl) (by kernel_rfl) (fun _ _ _ h => h) (Or.inr ⟨by rfl, rfl⟩) (by assumption) ?_
    try simp only [Act.put, List.setIfInBounds_toArray, List.set_cons_zero, List.set_cons_succ]
    refine take_one (i := 21) (d := 33) (v := undef) rfl rfl (by kernel_rfl) (by kernel_rfl) (by kernel_rfl) (fun _ _ _ h => h) (Or.inr ⟨by rfl, rfl⟩) (by assumption) ?_
    try simp only [Act.put, List.setIfInBounds_toArray, List.set_cons_zero, List.set_cons_succ]
    refine take_one (i := 22) (d := 34) (v := ?_) rfl rfl (by kernel_rfl) (by kernel_rfl) (by kernel_rfl) (fun _ _ _ h => h) (Or.inl ⟨by rfl, ?_⟩) (by assumption) ?_
    rotate_left
    · (intro wz hSw; (try dsimp only at hSw); (try obtain ⟨⟨s0, s1, s2⟩, ⟨s3, s4, s5⟩, s6⟩ := hSw); go_simp; try rfl)
    try simp only [Act.put, List.setIfInBounds_toArray, List.set_cons_zero, List.set_cons_succ]
    refine wpAnyH_done (by kernel_rfl) ?_ _
    go_simp
    go_wp2
    go_ret2
    exact ⟨none, 0, by rw [HC.out.1, HC.out.2]; rfl, .inl HC.out.1, HB0.out.trans (HWD.out.mono HB0.out.size)⟩
  obtain ⟨hq0, hq1⟩ := of_decide_eq_true hq
  obtain ⟨q, rfl⟩ : ∃ q : Nat, ue = (q : Int) := ⟨ue.toNat, by omega⟩
  have hql : q < rs.length := by omega
  have HQ := Lib.hid hq; clear hq
  have hrl := HGR.out rs[q] (List.getElem_mem hql)
  have HRO := Lib.hid (rightOf_at hql)
  have HKID : Hid (∀ v, Below w.heap.size w v → ur.length = rs[q].r.length + 1 → Calls Tryd.prog 58 #[.agg #[.int .i64 n, .int .i64 t, .slice A rs.length c], .int .i64 (q : Int), .slice ua ur.length uc] v fun e v' => ∃ A' c', e = .returned (.slice A' (kidsV rs[q].r ur).length c') ∧ OwnNd v' v.heap.size A' (kidsV rs[q].r ur) ∧ Below v.heap.size v v') := fun v hv hl =>
    l9Kids_any n t A rs c q ua ur uc v ((HG.out.keep hv).more hv.size) hql ((HE.out.keep hv).more hv.size) (by omega) hrl hel
  obtain ⟨gb, go, rfl, hgb, g1, g2, g3⟩ := HG.out.at_ hql
  clear g3 g1
  generalize rs[q].a = ra at g2
  generalize rs[q].c = rc at g2
  generalize rs[q].r = rr at g2 hrl HRO HKID
  have HG2 := Lib.hid g2; clear g2
  have HSL : Hid (∀ v, Below W.heap.size W v → (v.cell? ⟨w.heap.size, 0, none⟩ = some (.int .i64 n) ∧ v.cell? ⟨w.heap.size, 1, none⟩ = some (.int .i64 t) ∧ v.cell? ⟨w.heap.size, 2, none⟩ = some (.slice (some ⟨gb, go, none⟩) rs.length c)) ∧ (v.cell? ⟨w.heap.size + 1 + 1, 0, none⟩ = some (.int .i64 un) ∧ v.cell? ⟨w.heap.size + 1 + 1, 1, none⟩ = some (.int .i64 (q : Int)) ∧ v.cell? ⟨w.heap.size + 1 + 1, 2, none⟩ = some (.slice ua ur.length uc)) ∧ v.cell? ⟨gb, go + q * 2 + 1, none⟩ = some (.slice ra rr.length rc)) := fun v hv => by
    obtain ⟨s0, s1, _⟩ := HSK.out v hv
    exact ⟨s0, s1, ((HB0.out.trans (hv.mono HB0.out.size)).cell (p := ⟨gb, go + q * 2 + 1, none⟩) hgb).trans HG2.out⟩
  have HCR : Hid (∀ v, Calls Tryd.prog 29 #[.int .i64 (q : Int), .int .i64 0, .int .i64 ((rs.length : Int) - 1)] v fun e v' => e = .returned (.bool true) ∧ v = v') := fun v => by
    have h := HIN.out v
    rw [HQ.out] at h
    exact h
  have hw1 : IntKind.i64.wrap ((rr.length : Int) + 1) = (rr.length : Int) + 1 := by rw [IntKind.wrap_i64]; omega
  obtain ⟨⟨x0, x1, x2⟩, ⟨x3, x4, x5⟩, x6⟩ := HSL.out W (Below.refl _ _)
  by_cases hfl2 : ur.length = rr.length + 1
  · have hne : ((ur.length : Int) != (rr.length : Int) + 1) = false := bne_f (by omega)
    have hFit : Hid (chO (rs.map Ru.abs) f.ns ⟨un, (q : Int), ur⟩ = numsOf f.ns (kidsV rr ur)) := by
      show _ = _
      rw [chB_yes (by unfold fitsE; rw [List.length_map, HRO.out, show rulN rs.length (q : Int) = true from HQ.out, show decide (ur.length = rr.length + 1) = true from decide_eq_true hfl2]; rfl)]
      rw [show rightOf (rs.map Ru.abs) (q : Int) = rr from HRO.out]
    have HFL := Lib.hid hfl2; clear hfl2
    go_region_held3 (fun w' => (w'.cell? ⟨w.heap.size, 0, none⟩ = some (.int .i64 n) ∧ w'.cell? ⟨w.heap.size, 1, none⟩ = some (.int .i64 t) ∧ w'.cell? ⟨w.heap.size, 2, none⟩ = some (.slice (some ⟨gb, go, none⟩) rs.length c)) ∧ (w'.cell? ⟨w.heap.size + 1 + 1, 0, none⟩ = some (.int .i64 un) ∧ w'.cell? ⟨w.heap.size + 1 + 1, 1, none⟩ = some (.int .i64 (q : Int)) ∧ w'.cell? ⟨w.heap.size + 1 + 1, 2, none⟩ = some (.slice ua ur.length uc)) ∧ w'.cell? ⟨gb, go + q * 2 + 1, none⟩ = some (.slice ra rr.length rc))
      (first | exact ⟨⟨x0, x1, x2⟩, ⟨x3, x4, x5⟩, x6⟩ | exact HSL.out _ (by go_grown))
      (first | (go_at_call 29
                with_reducible refine (HCR.out _).mono ?_
                rintro e w1 ⟨rfl, hw1'⟩
                replace hw1' := hw1'.symm
                subst hw1'))
    rename_i hHeld
    clear hHeld x0 x1 x2 x3 x4 x5 x6
    have HWD : Hid (Below W.heap.size W W.drew) := by show Below _ _ _; go_grown
    have HBD := Lib.hid (HB0.out.trans (HWD.out.mono HB0.out.size))
    have hkl : (kidsV rr ur).length ≤ 1000 := Nat.le_trans (kidsTo_len rr ur rr.length) hrl
    generalize W.drew = w1 at HWD HBD ⊢
    obtain ⟨⟨x0, x1, x2⟩, ⟨x3, x4, x5⟩, x6⟩ := HSL.out w1 HWD.out
    go_wp2_with fail
    refine (HKID.out _ HBD.out HFL.out).mono ?_
    generalize kidsV rr ur = ks at hFit hkl
    rintro e w2 ⟨A2, c2, rfl, hO2, hB2⟩
    clear x0 x1 x2 x3 x4 x5 x6 HKID
    have HN2 : Hid (Nds w2 w2.heap.size A2 ks) := hO2.nds
    have HW2 := Lib.hid (HWD.out.trans (hB2.mono HWD.out.size))
    clear hO2 hB2
    have HF2 := Lib.hid (HB1.out.keep HW2.out HB1.out.1)
    have HB2W := Lib.hid (HB0.out.trans (HW2.out.mono HB0.out.size))
    clear HSL HSK HCR HQ HG2 HR0 HR2 HWD HBD
    go_wp2
    go_loopw [8, 42] (fun v i wr => ∃ (k : Nat) (acc : List Int), k ≤ ks.length ∧ i = .int .i64 k ∧ acc.length = k ∧ Hid (wr.ownsRow w2.heap.size 3 1 v acc.length (acc.map fun y => Value.int .i64 y)) ∧ Hid (NumTo f.ns ks k acc) ∧ Below w2.heap.size w2 wr) (fun _ i _ => ks.length - (intOf i).toNat)
    case atStart => exact ⟨0, [], by omega, rfl, rfl, ⟨by simp, .inl ⟨rfl, rfl⟩⟩, NumTo.start _ _, Below.refl _ _⟩
    case round =>
      obtain ⟨k, acc, hk, rfl, hac, HO, H, hB⟩ := hrel
      by_cases hlt : k < ks.length
      · obtain ⟨kb, ko, rfl, hkb, k0, k1, k2⟩ := (HN2.out.keep hB).at_ hlt
        obtain ⟨hfb, f0, f1⟩ := HF2.out.keep hB HF2.out.1
        have hkw := Nat.lt_of_lt_of_le hkb hB.size
        go_wp2_with fail
        have hBX : Below wr.heap.size wr (wr.alloc (.cells #[.int .i64 ks[k].n, .int .i64 ks[k].f, .int .i64 ks[k].t] 86)) := by go_grown
        have HOX := Lib.hid (own_below HO.out hBX)
        generalize (wr.alloc (.cells #[.int .i64 ks[k].n, .int .i64 ks[k].f, .int .i64 ks[k].t] 86)) = X at hBX HOX ⊢
        have HBX := Lib.hid (hB.trans (hBX.mono hB.size)); clear hBX
        refine (l9At_any f.a f.ns f.c ks[k] X ((HF.out.keep (HB2W.out.trans (HBX.out.mono HB2W.out.size))).more (Nat.le_trans HB2W.out.size HBX.out.size)) hfl).mono ?_
        rintro e w3 ⟨rfl, hB3⟩
        have HO3 := Lib.hid (own_below HOX.out hB3)
        have HB3 := Lib.hid (HBX.out.trans (hB3.mono HBX.out.size)); clear hB3 HOX HBX
        clear k0 k1 k2 f0 f1
        cases hix : nodeIx f.ns ks[k] with
        | none =>
          have HC : Hid (chV (rs.map Ru.abs) f.ns ⟨un, (q : Int), ur⟩ = [] ∧ chB (rs.map Ru.abs) f.ns ⟨un, (q : Int), ur⟩ = false) := by
            show _ ∧ _
            unfold chV chB
            rw [hFit.out, H.out.no hlt hix]
            exact ⟨rfl, rfl⟩
          simp only [ixM]
          go_wp2
          go_ret2
          exact ⟨none, 0, by rw [HC.out.1, HC.out.2]; rfl, .inl HC.out.1, HB2W.out.trans (HB3.out.mono HB2W.out.size)⟩
        | some i =>
          have HS : Hid (NumTo f.ns ks (k + 1) (acc ++ [(i : Int)])) := H.out.yes hlt hix
          have hil := nodeIx_lt hix
          have hown := HO3.out.alloc (.cells #[.int .i64 (i : Int)] 3)
          have HW := Lib.hid hown; clear hown
          have HNW := Lib.hid (cell_one_new w3 (.int .i64 (i : Int)) 3)
          have hsz := HB3.out.size
          simp only [ixM]
          have hnn : ¬ (i : Int) < 0 := by omega
          go_wp2_with (at_builtin
                       refine wpList_append_own _ rfl (.tmp 52) (.tmp 54) _ rfl w2.heap.size 3 i0 _ 1 8 Tryd.underlying27 hi0 hz0 hz1 hz2 rfl (by omega) _ _ _ rfl HW.out ⟨w3.heap.size, 0, none⟩ 1 1 [.int .i64 (i : Int)] rfl rfl HNW.out (by intro u hu; simp at hu; subst hu; rfl) (by unfold maxLen; omega) (by omega) (by simp; omega) ?_
                       intro v' w' h1 h2 h3
                       have HO1 := Lib.hid h1
                       have HG1 := Lib.hid h2
                       clear h1 h2 h3)
          go_roundw
          case rel =>
            refine ⟨k + 1, acc ++ [(i : Int)], by omega, by go_num, by simp; omega, ?_, HS, ?_⟩
            · show World.ownsRow _ _ _ _ _ _ _
              simpa using HO1.out
            · exact (HB3.out.alloc hsz _).grown HG1.out (by simp; omega) fun j hj => (HO3.out.lt j hj).1
          case measure => simp [intOf]; omega
      · obtain rfl : k = ks.length := by omega
        have HC : Hid (chV (rs.map Ru.abs) f.ns ⟨un, (q : Int), ur⟩ = acc ∧ chB (rs.map Ru.abs) f.ns ⟨un, (q : Int), ur⟩ = true) := by
          show _ ∧ _
          unfold chV chB
          rw [hFit.out, H.out.done]
          exact ⟨rfl, rfl⟩
        obtain ⟨A', c', rfl, hO⟩ := ownI_of_row HO.out
        have HO' := Lib.hid hO; clear hO
        go_wp2
        go_ret2
        exact ⟨A', c', by rw [HC.out.1, HC.out.2]; rfl, by rw [HC.out.1]; exact HO'.out.lower HB2W.out.size, HB2W.out.trans (hB.mono HB2W.out.size)⟩
  · have hne : ((ur.length : Int) != (rr.length : Int) + 1) = true := bne_t (by omega)
    have HC : Hid (chV (rs.map Ru.abs) f.ns ⟨un, (q : Int), ur⟩ = [] ∧ chB (rs.map Ru.abs) f.ns ⟨un, (q : Int), ur⟩ = false) := chB_no (by unfold fitsE; rw [List.length_map, HRO.out, show rulN rs.length (q : Int) = true from HQ.out, show decide (ur.length = rr.length + 1) = false from decide_eq_false hfl2]; rfl)
    clear hfl2
    have HWD : Hid (Below W.heap.size W W.drew) := by show Below _ _ _; go_grown
    go_region_held3 (fun w' => (w'.cell? ⟨w.heap.size, 0, none⟩ = some (.int .i64 n) ∧ w'.cell? ⟨w.heap.size, 1, none⟩ = some (.int .i64 t) ∧ w'.cell? ⟨w.heap.size, 2, none⟩ = some (.slice (some ⟨gb, go, none⟩) rs.length c)) ∧ (w'.cell? ⟨w.heap.size + 1 + 1, 0, none⟩ = some (.int .i64 un) ∧ w'.cell? ⟨w.heap.size + 1 + 1, 1, none⟩ = some (.int .i64 (q : Int)) ∧ w'.cell? ⟨w.heap.size + 1 + 1, 2, none⟩ = some (.slice ua ur.length uc)) ∧ w'.cell? ⟨gb, go + q * 2 + 1, none⟩ = some (.slice ra rr.length rc))
      (first | exact ⟨⟨x0, x1, x2⟩, ⟨x3, x4, x5⟩, x6⟩ | exact HSL.out _ (by go_grown))
      (first | (go_at_call 29
                with_reducible refine (HCR.out _).mono ?_
                rintro e w1 ⟨rfl, hw1'⟩
                replace hw1' := hw1'.symm
                subst hw1'))
    go_wp2
    go_ret2
    exact ⟨none, 0, by rw [HC.out.1, HC.out.2]; rfl, .inl HC.out.1, HB0.out.trans (HWD.out.mono HB0.out.size)⟩

end Go.Proofs.YtbgjlabjihoaaaaDoor
