/- The law of SameForest holds of every two forests that can be read: the call returns true, and what was handed in reads afterwards as it read before. No condition. -/
import Derived.Test.YtbgjlabjihoaaaaSF01
import Derived.OwnWalk
import Derived.Laws.StructEq
import Derived.KernelRfl
import Derived.Deep.RegionWith
import Derived.Deep.RegionHeld3

namespace Go.Proofs.Ytbgjlabjihoaaaa
open Go.RowKit

/-- An edge seen as a rule: its cuts are counted as a rule's right side is. -/
def Eg.ru (u : Eg) : Ru := ⟨u.n, u.a, u.r, u.c⟩

def szFo (n : Nat) (es : List Eg) (L : Int) : Int :=
  if szI n L < 0 then -1 else if szRs (es.map Eg.ru) (szI n L) < 0 then -1 else szRs (es.map Eg.ru) (szI n L)

theorem szFo_bound {f : Fo} {L : Int} (hL : 0 ≤ L) (hL1 : L ≤ 1048576) (hp : 0 ≤ szFo f.ns.length f.es L) : LenF 1048576 f ∧ szFo f.ns.length f.es L ≤ L := by
  unfold szFo at hp ⊢
  split at hp
  · omega
  rename_i h1
  split at hp
  · omega
  rename_i h2
  rw [if_neg h1, if_neg h2]
  have a1 := szI_le (n := f.ns.length) hL
  have e1 : szI f.ns.length L = L - f.ns.length := by unfold szI at h1 ⊢; split <;> simp_all
  have b2 := szRs_bound (rs := f.es.map Eg.ru) (L := szI f.ns.length L) (by omega) (by omega)
  have b3 : szRs (f.es.map Eg.ru) (szI f.ns.length L) ≤ szI f.ns.length L := by
    unfold szRs at h2 ⊢
    split at h2
    · omega
    · rename_i h3
      rw [if_neg h3]
      have := ((szR_ge (f.es.map Eg.ru) (L := szI f.ns.length L - (f.es.map Eg.ru).length) (by omega)).2 (by omega)).1
      omega
  refine ⟨⟨by omega, by have := b2.1; rw [List.length_map] at this; omega, fun u hu => ?_⟩, by omega⟩
  have := b2.2 u.ru (List.mem_map_of_mem hu)
  have e : u.ru.r = u.r := rfl
  rw [e] at this
  omega

set_option maxHeartbeats 400000 in
theorem szNodeS_any (A : Option Addr) (n c : Nat) (L : Int) (w : World) (hn : n ≤ maxLen) (h0 : 0 ≤ L) (h1 : L ≤ 1048576) :
    Calls Try.prog 9 #[.slice A n c, .int .i64 L] w fun e w' => e = .returned (.int .i64 (szI n L)) ∧ w = w' := by
  unfold maxLen at hn
  by_cases h : L - n < 0
  · have hs : Hid (szI n L = -1) := by show szI n L = -1; unfold szI; rw [if_pos h]
    go_enter Try.func9, Try.ntmps9
    go_wp2
    go_ret
    exact ⟨by rw [hs.out]; rfl, rfl⟩
  · have hs : Hid (szI n L = L - n) := by show szI n L = L - n; unfold szI; rw [if_neg h]
    go_enter Try.func9, Try.ntmps9
    go_wp2
    go_ret
    exact ⟨by rw [hs.out]; rfl, rfl⟩

set_option maxHeartbeats 400000 in
theorem szEdge_any (n e : Int) (A : Option Addr) (k c : Nat) (L : Int) (w : World) (hn : k ≤ maxLen) (h0 : 0 ≤ L) (h1 : L ≤ 1048576) :
    Calls Try.prog 19 #[.agg #[.int .i64 n, .int .i64 e, .slice A k c], .int .i64 L] w fun e w' => e = .returned (.int .i64 (szI k L)) ∧ Below w.heap.size w w' := by
  have hl := szI_le (n := k) h0
  by_cases h : szI k L < 0
  all_goals
    go_enter Try.func19, Try.ntmps19
    go_wp2_with (go_at_call 25; refine (szIntS_any _ _ _ _ _ hn h0 h1).mono ?_; rintro e w' ⟨rfl, rfl⟩)
    go_ret
    refine ⟨?_, (Below.refl _ _).alloc (Nat.le_refl _) _⟩
  · exact ret_int (by omega)
  · exact ret_int (by omega)

theorem szE_drop {rs : List Eg} {k : Nat} (hk : k < rs.length) (L : Int) : szR ((rs.drop k).map Eg.ru) L = if szI rs[k].r.length L < 0 then -1 else szR ((rs.drop (k + 1)).map Eg.ru) (szI rs[k].r.length L) := by
  rw [List.drop_eq_getElem_cons hk]; rfl

set_option maxHeartbeats 400000 in
theorem szEdgeS_any (A : Option Addr) (rs : List Eg) (c : Nat) (L : Int) (w : World) (hr : Egs w w.heap.size A rs) (hn : rs.length ≤ maxLen) (hu : ∀ u ∈ rs, u.r.length ≤ maxLen) (h0 : 0 ≤ L) (h1 : L ≤ 1048576) :
    Calls Try.prog 10 #[.slice A rs.length c, .int .i64 L] w fun e w' => e = .returned (.int .i64 (szRs (rs.map Eg.ru) L)) ∧ Below w.heap.size w w' := by
  unfold maxLen at hn
  by_cases h : L - rs.length < 0
  · have hs : Hid (szRs (rs.map Eg.ru) L = -1) := by show szRs _ L = -1; unfold szRs; rw [List.length_map, if_pos h]
    have HU := Lib.hid hu; clear hu
    have HR := Lib.hid hr; clear hr
    go_enter Try.func10, Try.ntmps10
    go_wp2
    go_ret
    exact ⟨by rw [hs.out]; rfl, Below.refl _ _⟩
  · have hs : Hid (szRs (rs.map Eg.ru) L = szR (rs.map Eg.ru) (L - rs.length)) := by show szRs _ L = _; unfold szRs; rw [List.length_map, if_neg h]
    have HU := Lib.hid hu; clear hu
    have HR := Lib.hid hr; clear hr
    go_enter Try.func10, Try.ntmps10
    go_wp2
    go_loopw [1, 5] (fun l i wr => ∃ (k : Nat) (M : Int), k ≤ rs.length ∧ i = .int .i64 k ∧ l = .int .i64 M ∧ 0 ≤ M ∧ M ≤ 1048576 ∧ Hid (szRs (rs.map Eg.ru) L = szR ((rs.drop k).map Eg.ru) M) ∧ Below w.heap.size w wr) (fun _ i _ => rs.length - (intOf i).toNat)
    case atStart => exact ⟨0, L - rs.length, by omega, rfl, rfl, by omega, by omega, hs, Below.refl _ _⟩
    case round =>
      obtain ⟨k, M, hk, rfl, rfl, hM0, hM1, hS, hB⟩ := hrel
      by_cases hlt : k < rs.length
      · obtain ⟨b, o, rfl, hb, c1, c2, c3, c4⟩ := (HR.out.keep hB).at_ hlt
        have hl := szI_le (n := rs[k].r.length) hM0
        have hlen := HU.out rs[k] (List.getElem_mem hlt)
        have HS : Hid (szRs (rs.map Eg.ru) L = if szI rs[k].r.length M < 0 then -1 else szR ((rs.drop (k + 1)).map Eg.ru) (szI rs[k].r.length M)) := by show _ = _; rw [hS.out, szE_drop hlt]
        clear hS c4
        by_cases hneg : szI rs[k].r.length M < 0
        · go_wp2_with (go_at_call 19; refine (szEdge_any _ _ _ _ _ _ _ hlen hM0 hM1).mono ?_; rintro e w' ⟨rfl, hB'⟩)
          go_ret
          exact ⟨ret_int (by rw [HS.out, if_pos hneg]), hB.trans (hB'.mono hB.size)⟩
        · go_wp2_with (go_at_call 19; refine (szEdge_any _ _ _ _ _ _ _ hlen hM0 hM1).mono ?_; rintro e w' ⟨rfl, hB'⟩)
          go_roundw
          case rel => exact ⟨k + 1, _, by omega, by go_num, rfl, by omega, by omega, by show _ = _; rw [HS.out, if_neg (by omega)], hB.trans (hB'.mono hB.size)⟩
          case measure => simp [intOf]; omega
      · have HS : Hid (szRs (rs.map Eg.ru) L = M) := by show _ = _; rw [hS.out, List.drop_eq_nil_of_le (by omega)]; rfl
        go_wp2
        go_ret
        exact ⟨ret_int HS.out.symm, hB⟩

set_option maxHeartbeats 1000000 in
theorem szForest_any (f : Fo) (L : Int) (w : World) (hr : ReadF w w.heap.size f) (hm : LenF maxLen f) (h0 : 0 ≤ L) (h1 : L ≤ 1048576) :
    Calls Try.prog 4 #[(.agg #[.slice f.a f.ns.length f.c, .slice f.b f.es.length f.d]), .int .i64 L] w fun e w' => e = .returned (.int .i64 (szFo f.ns.length f.es L)) ∧ Below w.heap.size w w' := by
  have HR := Lib.hid hr; clear hr
  have HM := Lib.hid hm; clear hm
  have g1 := szI_le (n := f.ns.length) h0
  go_enter Try.func4, Try.ntmps4
  go_wp2_with fail
  have hB0 : Below w.heap.size w (w.alloc (.cells #[.slice f.a f.ns.length f.c, .slice f.b f.es.length f.d] 25)) := by go_grown
  have R0 : Row (w.alloc (.cells #[.slice f.a f.ns.length f.c, .slice f.b f.es.length f.d] 25)) w.heap.size 25 #[.slice f.a f.ns.length f.c, .slice f.b f.es.length f.d] := Row.new _ _ _
  generalize (w.alloc (.cells #[.slice f.a f.ns.length f.c, .slice f.b f.es.length f.d] 25)) = W at hB0 R0 ⊢
  have HB0 := Lib.hid hB0; clear hB0
  have HR0 := Lib.hid R0; clear R0
  refine (szNodeS_any _ _ _ _ _ HM.out.n h0 h1).mono ?_
  rintro e w1 ⟨rfl, rfl⟩
  have a1 := HR0.out.cell 1
  simp only [List.getElem?_toArray, List.getElem?_cons_succ, List.getElem?_cons_zero] at a1
  by_cases h2 : szI f.ns.length L < 0
  · have HE : Hid (szFo f.ns.length f.es L = -1) := by show _ = _; unfold szFo; rw [if_pos h2]
    go_wp2
    go_ret
    exact ⟨ret_int HE.out.symm, HB0.out⟩
  have g2 := szRs_ge (f.es.map Eg.ru) (L := szI f.ns.length L) (by omega)
  go_wp2_with fail
  refine (szEdgeS_any _ _ _ _ _ ((HR.out.2.keep HB0.out).more HB0.out.size) HM.out.e HM.out.r (by omega) (by omega)).mono ?_
  rintro e w2 ⟨rfl, hB2⟩
  have HB2 := Lib.hid (HB0.out.trans (hB2.mono HB0.out.size)); clear hB2 HR0 HB0 a1
  by_cases h3 : szRs (f.es.map Eg.ru) (szI f.ns.length L) < 0
  · have HE : Hid (szFo f.ns.length f.es L = -1) := by show _ = _; unfold szFo; rw [if_neg (by omega), if_pos h3]
    go_wp2
    go_ret
    exact ⟨ret_int HE.out.symm, HB2.out⟩
  · have HE : Hid (szFo f.ns.length f.es L = szRs (f.es.map Eg.ru) (szI f.ns.length L)) := by show _ = _; unfold szFo; rw [if_neg (by omega), if_neg (by omega)]
    go_wp2
    go_ret
    exact ⟨ret_int HE.out.symm, HB2.out⟩

set_option maxHeartbeats 400000 in
theorem eqNode_same (n f t : Int) (w : World) :
    Calls Try.prog 23 #[.agg #[.int .i64 n, .int .i64 f, .int .i64 t], .agg #[.int .i64 n, .int .i64 f, .int .i64 t]] w fun e w' => e = .returned (.bool true) ∧ Below w.heap.size w w' := by
  have h1 : (n != n) = false := by simp
  have h2 : (f != f) = false := by simp
  have h3 : (t != t) = false := by simp
  go_enter Try.func23, Try.ntmps23
  go_wp2
  go_ret
  exact ⟨rfl, by go_grown⟩

set_option maxRecDepth 10000 in
set_option maxHeartbeats 1000000 in
theorem eqNodeS_same (A A' : Option Addr) (ds : List Nd) (c c' : Nat) (w : World) (hx : Nds w w.heap.size A ds) (hy : Nds w w.heap.size A' ds) (h1 : ds.length ≤ 1048576) :
    Calls Try.prog 17 #[.slice A ds.length c, .slice A' ds.length c'] w fun e w' => e = .returned (.bool true) ∧ Below w.heap.size w w' := by
  have HX := Lib.hid hx; clear hx
  have HY := Lib.hid hy; clear hy
  have hd : ((ds.length : Int) != (ds.length : Int)) = false := by simp
  go_enter Try.func17, Try.ntmps17
  go_wp2
  go_loopw [5] (fun i wr => ∃ (k : Nat), k ≤ ds.length ∧ i = .int .i64 k ∧ Below w.heap.size w wr) (fun i _ => ds.length - (intOf i).toNat)
  case atStart => exact ⟨0, by omega, rfl, Below.refl _ _⟩
  case round =>
    obtain ⟨k, hk, rfl, hB⟩ := hrel
    by_cases hlt : k < ds.length
    · obtain ⟨b, o, rfl, hb, c0, c1, c2⟩ := (HX.out.keep hB).at_ hlt
      obtain ⟨b', o', rfl, hb', e0, e1, e2⟩ := (HY.out.keep hB).at_ hlt
      go_wp2
      go_still_tail 8, (by kernel_rfl)
      change wpList _ _ _ _ _ wr.drew
      go_wp2_with fail
      refine (eqNode_same _ _ _ _).mono ?_
      rintro e w1 ⟨rfl, hB1⟩
      have hB2 : Below w.heap.size w w1 := hB.trans (Below.trans (by go_grown) (hB1.mono hB.size))
      clear hB1
      go_wp2
      go_roundw
      case rel => exact ⟨k + 1, by omega, by go_num, hB2⟩
      case measure => simp [intOf]; omega
    · go_wp2
      go_ret
      exact ⟨rfl, hB⟩

set_option maxHeartbeats 1000000 in
theorem eqEdge_same (n m : Int) (A A' : Option Addr) (xs ys : List Int) (c c' : Nat) (w : World) (hx : Ints w w.heap.size A xs) (hy : Ints w w.heap.size A' ys) (h1 : xs.length ≤ 1048576) (n' m' : Int) (en : n = n') (em : m = m') (ex : xs = ys) :
    Calls Try.prog 24 #[.agg #[.int .i64 n, .int .i64 m, .slice A xs.length c], .agg #[.int .i64 n', .int .i64 m', .slice A' ys.length c']] w fun e w' => e = .returned (.bool true) ∧ Below w.heap.size w w' := by
  have HX := Lib.hid hx; clear hx
  have HY := Lib.hid hy; clear hy
  have e1 := bne_f en
  have e2 := bne_f em
  have E3 : Hid (eqL xs ys = true) := eqL_t ex
  clear en em ex
  go_enter Try.func24, Try.ntmps24
  go_wp2_with fail
  refine (eqIntS_any _ _ _ _ _ _ _ ?_ ?_ h1).mono ?_
  · exact (HX.out.keep (by go_grown)).more (by go_size)
  · exact (HY.out.keep (by go_grown)).more (by go_size)
  rintro e w1 ⟨rfl, hB⟩
  rw [E3.out]
  go_wp2
  go_ret
  exact ⟨rfl, Below.trans (by go_grown) (hB.mono (by go_size))⟩

theorem absE_at {rs ss : List Eg} (h : rs.map Eg.abs = ss.map Eg.abs) {k : Nat} (hr : k < rs.length) (hs : k < ss.length) : rs[k].n = ss[k].n ∧ rs[k].e = ss[k].e ∧ rs[k].r = ss[k].r := by
  have e := congrArg (fun l => l[k]?) h
  simp only [List.getElem?_map, List.getElem?_eq_getElem hr, List.getElem?_eq_getElem hs, Option.map_some] at e
  injection e with e
  exact ⟨congrArg Es.n e, congrArg Es.e e, congrArg Es.r e⟩

set_option maxRecDepth 10000 in
set_option maxHeartbeats 1000000 in
theorem eqEdgeS_same (A A' : Option Addr) (rs ss : List Eg) (c c' : Nat) (w : World) (hx : Egs w w.heap.size A rs) (hy : Egs w w.heap.size A' ss) (h1 : rs.length ≤ 1048576) (h2 : ∀ u ∈ rs, u.r.length ≤ 1048576) (he : rs.map Eg.abs = ss.map Eg.abs) :
    Calls Try.prog 18 #[.slice A rs.length c, .slice A' ss.length c'] w fun e w' => e = .returned (.bool true) ∧ Below w.heap.size w w' := by
  have hl : rs.length = ss.length := by simpa using congrArg List.length he
  have HX := Lib.hid hx; clear hx
  have HY := Lib.hid hy; clear hy
  have H2 := Lib.hid h2; clear h2
  have HE := Lib.hid he; clear he
  have hd : ((rs.length : Int) != (ss.length : Int)) = false := bne_f (by omega)
  have hlen : rs.length ≤ ss.length := by omega
  have hlen' : ss.length ≤ rs.length := by omega
  clear hl
  go_enter Try.func18, Try.ntmps18
  go_wp2
  go_loopw [5] (fun i wr => ∃ (k : Nat), k ≤ rs.length ∧ i = .int .i64 k ∧ Below w.heap.size w wr) (fun i _ => rs.length - (intOf i).toNat)
  case atStart => exact ⟨0, by omega, rfl, Below.refl _ _⟩
  case round =>
    obtain ⟨k, hk, rfl, hB⟩ := hrel
    by_cases hlt : k < rs.length
    · have hlt' : k < ss.length := by omega
      obtain ⟨b, o, rfl, hb, c1, c2, c3, c4⟩ := (HX.out.keep hB).at_ hlt
      obtain ⟨b', o', rfl, hb', d1, d2, d3, d4⟩ := (HY.out.keep hB).at_ hlt'
      have C4 := Lib.hid (c4.more hB.size); clear c4
      have D4 := Lib.hid (d4.more hB.size); clear d4
      have hlen2 := H2.out rs[k] (List.getElem_mem hlt)
      have HA := Lib.hid (absE_at HE.out hlt hlt')
      go_wp2
      go_still_tail 8, (by kernel_rfl)
      change wpList _ _ _ _ _ wr.drew
      go_wp2_with fail
      refine (eqEdge_same _ _ _ _ _ _ _ _ _ ?_ ?_ hlen2 _ _ HA.out.1 HA.out.2.1 HA.out.2.2).mono ?_
      · exact C4.out.keep (by go_grown)
      · exact D4.out.keep (by go_grown)
      rintro e w1 ⟨rfl, hB1⟩
      have hB2 : Below w.heap.size w w1 := hB.trans (Below.trans (by go_grown) (hB1.mono hB.size))
      clear hB1
      go_wp2
      go_roundw
      case rel => exact ⟨k + 1, by omega, by go_num, hB2⟩
      case measure => simp [intOf]; omega
    · go_wp2
      go_ret
      exact ⟨rfl, hB⟩

set_option maxHeartbeats 1000000 in
theorem eqForest_same (f f' : Fo) (w : World) (hx : ReadF w w.heap.size f) (hy : ReadF w w.heap.size f') (hm : LenF 1048576 f) (he : f.say = f'.say) :
    Calls Try.prog 8 #[(.agg #[.slice f.a f.ns.length f.c, .slice f.b f.es.length f.d]), (.agg #[.slice f'.a f'.ns.length f'.c, .slice f'.b f'.es.length f'.d])] w fun e w' => e = .returned (.bool true) ∧ Below w.heap.size w w' := by
  obtain ⟨a, ns, c, b, es, d⟩ := f
  obtain ⟨a', ns', c', b', es', d'⟩ := f'
  have e1 : ns = ns' := congrArg Fs.ns he
  have e2 : es.map Eg.abs = es'.map Eg.abs := congrArg Fs.es he
  subst e1
  clear he
  have HX := Lib.hid hx; clear hx
  have HY := Lib.hid hy; clear hy
  have HM := Lib.hid hm; clear hm
  have HE := Lib.hid e2; clear e2
  go_enter Try.func8, Try.ntmps8
  go_wp2_with fail
  have hB0 : Below w.heap.size w ((w.alloc (.cells #[.slice a ns.length c, .slice b es.length d] 31)).alloc (.cells #[.slice a' ns.length c', .slice b' es'.length d'] 31)) := by go_grown
  have R0 : Row ((w.alloc (.cells #[.slice a ns.length c, .slice b es.length d] 31)).alloc (.cells #[.slice a' ns.length c', .slice b' es'.length d'] 31)) w.heap.size 31 #[.slice a ns.length c, .slice b es.length d] := (Row.new _ _ _).alloc _
  have R1 : Row ((w.alloc (.cells #[.slice a ns.length c, .slice b es.length d] 31)).alloc (.cells #[.slice a' ns.length c', .slice b' es'.length d'] 31)) (w.heap.size + 1) 31 #[.slice a' ns.length c', .slice b' es'.length d'] := by
    have h := Row.new (w.alloc (.cells #[.slice a ns.length c, .slice b es.length d] 31)) 31 #[.slice a' ns.length c', .slice b' es'.length d']
    rw [World.size_alloc] at h; exact h
  generalize ((w.alloc (.cells #[.slice a ns.length c, .slice b es.length d] 31)).alloc (.cells #[.slice a' ns.length c', .slice b' es'.length d'] 31)) = W at hB0 R0 R1 ⊢
  have HB0 := Lib.hid hB0; clear hB0
  have HR0 := Lib.hid R0; clear R0
  have HR1 := Lib.hid R1; clear R1
  refine (eqNodeS_same _ _ _ _ _ _ ((HX.out.1.keep HB0.out).more HB0.out.size) ((HY.out.1.keep HB0.out).more HB0.out.size) HM.out.n).mono ?_
  rintro e w1 ⟨rfl, hB1⟩
  have HP0 := Lib.hid (HR0.out.below hB1 HR0.out.lt); clear HR0
  have HP1 := Lib.hid (HR1.out.below hB1 HR1.out.lt); clear HR1
  have HB1 := Lib.hid (HB0.out.trans (hB1.mono HB0.out.size)); clear hB1 HB0
  have p1 := HP0.out.cell 1
  have q1 := HP1.out.cell 1
  simp only [List.getElem?_toArray, List.getElem?_cons_succ, List.getElem?_cons_zero] at p1 q1
  go_wp2_with fail
  refine (eqEdgeS_same _ _ _ _ _ _ _ ((HX.out.2.keep HB1.out).more HB1.out.size) ((HY.out.2.keep HB1.out).more HB1.out.size) HM.out.e HM.out.r HE.out).mono ?_
  rintro e w2 ⟨rfl, hB2⟩
  have HB2 := Lib.hid (HB1.out.trans (hB2.mono HB1.out.size)); clear hB2 HB1 p1 q1
  go_wp2
  go_ret
  exact ⟨rfl, HB2.out⟩

end Go.Proofs.Ytbgjlabjihoaaaa

/- A box that holds a forest; whether a forest is small, and its sizes, by the program and by the reference. -/

namespace Go.Proofs.Ytbgjlabjihoaaaa
open Go.RowKit

/-- A box that holds a forest. -/
def BoxF (w : World) (g : Nat) (f : Fo) : Prop := g < w.heap.size ∧ w.cell? ⟨g, 0, none⟩ = some (.slice f.a f.ns.length f.c) ∧ w.cell? ⟨g, 1, none⟩ = some (.slice f.b f.es.length f.d)
theorem BoxF.keep {w w' : World} {g B : Nat} {f : Fo} (h : BoxF w g f) (hb : Below B w w') (hB : g < B) : BoxF w' g f :=
  ⟨Nat.lt_of_lt_of_le h.1 hb.size, (hb.cell (p := ⟨g, 0, none⟩) hB).trans h.2.1, (hb.cell (p := ⟨g, 1, none⟩) hB).trans h.2.2⟩
theorem BoxF.new (w : World) (f : Fo) (t : TypeId) : BoxF (w.alloc (.cells #[.slice f.a f.ns.length f.c, .slice f.b f.es.length f.d] t)) w.heap.size f := ⟨by simp, by simp [go_sem], by simp [go_sem]⟩
theorem BoxF.save {S : Nat → Prop} {w w' : World} {g : Nat} {f : Fo} (h : BoxF w g f) (hs : Save S w w') (hg : ¬ S g) : BoxF w' g f := by
  have hb := hs.block g h.1 hg
  refine ⟨Nat.lt_of_lt_of_le h.1 hs.size, ?_, ?_⟩
  · rw [← h.2.1]; simp only [World.cell?, hb]
  · rw [← h.2.2]; simp only [World.cell?, hb]

/-- Whether a forest has no more than 600 nodes and edges. -/
def smF (f : Fs) : Bool := decide (f.ns.length ≤ 600) && decide (f.es.length ≤ 600)
theorem Fo.say_es (f : Fo) : f.say.es.length = f.es.length := List.length_map ..
theorem smF_is {f : Fs} (h : smF f = true) : f.ns.length ≤ 600 ∧ f.es.length ≤ 600 := by
  have := Bool.and_eq_true_iff.1 h
  exact ⟨of_decide_eq_true this.1, of_decide_eq_true this.2⟩



/-- How many nodes and edges, and whether the forest is small. -/
def GavePk (w : World) (f : Fs) (e : Ending) (w' : World) : Prop :=
  e = .returned (.tuple #[.int .i64 (if smF f then f.ns.length else 0), .int .i64 (if smF f then f.es.length else 0), .bool (smF f)]) ∧ Below w.heap.size w w'



end Go.Proofs.Ytbgjlabjihoaaaa

/- Two nodes compared. -/

namespace Go.Proofs.Ytbgjlabjihoaaaa
open Go.RowKit

theorem eqNd_run (a b c a' b' c' : Int) (w : World) : (Op.equalIn 10000 37 (.agg #[.int .i64 a, .int .i64 b, .int .i64 c]) (.agg #[.int .i64 a', .int .i64 b', .int .i64 c'])).run Try.prog w = .ok (a == a' && (b == b' && c == c')) w := by
  have u3 := Try.underlying3
  have a3 := Try.isAgg3
  have z3 := Try.sizeOf3
  have hS : Try.prog.underlying 37 = some (.struct (Try.prog.fieldsOf 37)) := by kernel_rfl
  rw [show (10000 : Nat) = 9999 + 1 from rfl, run_equalIn_agg w 9999 37 _ _ hS (by kernel_rfl)]
  simp only [Program.fieldsOf, Try.underlying37]
  go_simp
  by_cases h1 : a = a' <;> by_cases h2 : b = b' <;> by_cases h3 : c = c' <;> simp [h1, h2, h3]

theorem eqNd_guard (op : BinOp) (x y : Operand) (xs ys : Array Value) (w : World) : (eqGuard op 37 x y (.agg xs) (.agg ys)).run Try.prog w = .ok () w :=
  run_eqGuard_agg w op 37 x y xs ys (by kernel_rfl)

/-- A node as a value. -/
def Nd.val (u : Nd) : Value := .agg #[.int .i64 u.n, .int .i64 u.f, .int .i64 u.t]

theorem eqNd_b (u v : Nd) : (u.n == v.n && (u.f == v.f && u.t == v.t)) = decide (u = v) := by
  obtain ⟨a, b, c⟩ := u
  obtain ⟨a', b', c'⟩ := v
  simp only [Nd.mk.injEq]
  by_cases h1 : a = a' <;> by_cases h2 : b = b' <;> by_cases h3 : c = c' <;> simp [h1, h2, h3]

section
variable {a : Act} {w : World} {o : Oper} {ops rest : List Oper} {Q : Act → World → Prop}
end

theorem neqNd (u v : Nd) (w : World) : (binOp .neq 37 (.agg #[.int .i64 u.n, .int .i64 u.f, .int .i64 u.t]) (.agg #[.int .i64 v.n, .int .i64 v.f, .int .i64 v.t])).run Try.prog w = .ok (.bool (!decide (u = v))) w := by
  rw [run_neq_struct, eqNd_run, eqNd_b]; rfl
theorem eqlNd (u v : Nd) (w : World) : (binOp .eql 37 (.agg #[.int .i64 u.n, .int .i64 u.f, .int .i64 u.t]) (.agg #[.int .i64 v.n, .int .i64 v.f, .int .i64 v.t])).run Try.prog w = .ok (.bool (decide (u = v))) w := by
  rw [run_eql_struct, eqNd_run, eqNd_b]; rfl

end Go.Proofs.Ytbgjlabjihoaaaa

/- SameForest of the program and of the reference. -/

namespace Go.Proofs.Ytbgjlabjihoaaaa
open Go.RowKit

def eqN (xs ys : List Nd) : Bool := decide (xs = ys)
theorem eqN_t {xs ys : List Nd} (h : xs = ys) : eqN xs ys = true := decide_eq_true h
theorem eqN_f {xs ys : List Nd} (h : xs ≠ ys) : eqN xs ys = false := decide_eq_false h
theorem eqN_of {xs ys : List Nd} {k : Nat} (hl : xs.length = ys.length) (hk : ¬ k < xs.length) (h : ∀ j : Nat, j < k → xs[j]? = ys[j]?) : eqN xs ys = true := by
  refine eqN_t (List.ext_getElem? fun j => ?_)
  by_cases hj : j < k
  · exact h j hj
  · rw [List.getElem?_eq_none (by omega), List.getElem?_eq_none (by omega)]
theorem eqN_not {xs ys : List Nd} {k : Nat} (hx : k < xs.length) (hy : k < ys.length) (h : xs[k] ≠ ys[k]) : eqN xs ys = false := by
  refine eqN_f fun e => h ?_
  subst e; rfl
theorem stepN {xs ys : List Nd} {k : Nat} (hx : k < xs.length) (hy : k < ys.length) (he : xs[k] = ys[k]) (h : ∀ j : Nat, j < k → xs[j]? = ys[j]?) : ∀ j : Nat, j < k + 1 → xs[j]? = ys[j]? := by
  intro j hj
  by_cases e : j = k
  · subst e; rw [List.getElem?_eq_getElem hx, List.getElem?_eq_getElem hy, he]
  · exact h j (by omega)

set_option maxHeartbeats 400000 in
theorem equalN_any (A A' : Option Addr) (xs ys : List Nd) (c c' : Nat) (w : World) (hx : Nds w w.heap.size A xs) (hy : Nds w w.heap.size A' ys) (h1 : xs.length ≤ 1048576) :
    Calls Try.prog 14 #[.slice A xs.length c, .slice A' ys.length c'] w fun e w' => e = .returned (.bool (eqN xs ys)) ∧ Below w.heap.size w w' := by
  have HX := Lib.hid hx; clear hx
  have HY := Lib.hid hy; clear hy
  by_cases hl : xs.length = ys.length
  · have hd : ((xs.length : Int) != (ys.length : Int)) = false := bne_f (by omega)
    have hlen : xs.length ≤ ys.length := by omega
    have hlen' : ys.length ≤ xs.length := by omega
    have HL := Lib.hid hl; clear hl
    go_enter Try.func14, Try.ntmps14
    go_wp2
    go_loopw [13] (fun i wr => ∃ (k : Nat), k ≤ xs.length ∧ i = .int .i64 k ∧ Below w.heap.size w wr ∧ Hid (∀ j : Nat, j < k → xs[j]? = ys[j]?)) (fun i _ => xs.length - (intOf i).toNat)
    case atStart => exact ⟨0, by omega, rfl, Below.refl _ _, fun j h => absurd h (by omega)⟩
    case round =>
      obtain ⟨k, hk, rfl, hB, H⟩ := hrel
      by_cases hlt : k < xs.length
      · have hlt' : k < ys.length := by omega
        obtain ⟨b, o, rfl, hb, c1, c2, c3⟩ := (HX.out.keep hB).at_ hlt
        obtain ⟨b', o', rfl, hb', d1, d2, d3⟩ := (HY.out.keep hB).at_ hlt'
        by_cases hne : xs[k] = ys[k]
        · have hN : ∀ w, (binOp .neq 37 (.agg #[.int .i64 xs[k].n, .int .i64 xs[k].f, .int .i64 xs[k].t]) (.agg #[.int .i64 ys[k].n, .int .i64 ys[k].f, .int .i64 ys[k].t])).run Try.prog w = .ok (.bool false) w := fun w => by rw [neqNd, decide_eq_true hne]; rfl
          have hG := eqNd_guard
          have HE := Lib.hid hne; clear hne
          go_wp2
          go_quiet (fail)
          go_wp2
          go_roundw
          case rel => exact ⟨k + 1, by omega, by go_num, below_drewN hB _, stepN hlt hlt' HE.out H.out⟩
          case measure => simp [intOf]; omega
        · have hN : ∀ w, (binOp .neq 37 (.agg #[.int .i64 xs[k].n, .int .i64 xs[k].f, .int .i64 xs[k].t]) (.agg #[.int .i64 ys[k].n, .int .i64 ys[k].f, .int .i64 ys[k].t])).run Try.prog w = .ok (.bool true) w := fun w => by rw [neqNd, decide_eq_false hne]; rfl
          have hG := eqNd_guard
          have HE : Hid (eqN xs ys = false) := eqN_not hlt hlt' hne
          clear hne
          go_wp2
          go_quiet (fail)
          go_wp2
          go_ret
          exact ⟨ret_bool HE.out.symm, below_drewN hB _⟩
      · have HE : Hid (eqN xs ys = true) := eqN_of HL.out hlt H.out
        go_wp2
        go_ret
        exact ⟨ret_bool HE.out.symm, hB⟩
  · have hd : ((xs.length : Int) != (ys.length : Int)) = true := bne_t (by omega)
    have HE : Hid (eqN xs ys = false) := eqN_f fun e => hl (by rw [e])
    clear hl
    go_enter Try.func14, Try.ntmps14
    go_wp2
    go_ret
    exact ⟨ret_bool HE.out.symm, Below.refl _ _⟩


def eqEs (u v : Es) : Bool := decide (u = v)
theorem eqEs_t {u v : Es} (h : u = v) : eqEs u v = true := decide_eq_true h
theorem eqEs_f {u v : Es} (h : u ≠ v) : eqEs u v = false := decide_eq_false h

set_option maxHeartbeats 1000000 in
theorem sameEdge_any (n m n' m' : Int) (A A' : Option Addr) (xs ys : List Int) (c c' : Nat) (w : World) (hx : Ints w w.heap.size A xs) (hy : Ints w w.heap.size A' ys) (h1 : xs.length ≤ 1048576) :
    Calls Try.prog 16 #[.agg #[.int .i64 n, .int .i64 m, .slice A xs.length c], .agg #[.int .i64 n', .int .i64 m', .slice A' ys.length c']] w fun e w' => e = .returned (.bool (eqEs ⟨n, m, xs⟩ ⟨n', m', ys⟩)) ∧ Below w.heap.size w w' := by
  have HX := Lib.hid hx; clear hx
  have HY := Lib.hid hy; clear hy
  by_cases hl : n = n'
  · have hd := beq_t hl
    have HL := Lib.hid hl; clear hl
    by_cases hm : m = m'
    · have hd2 := beq_t hm
      have HM := Lib.hid hm; clear hm
      cases hq : eqL xs ys
      all_goals
        have HQ := Lib.hid hq; clear hq
        go_enter Try.func16, Try.ntmps16
        go_wp2_with fail
        refine (equal_any _ _ _ _ _ _ _ ?_ ?_ h1).mono ?_
        · exact (HX.out.keep (by go_grown)).more (by go_size)
        · exact (HY.out.keep (by go_grown)).more (by go_size)
        rintro e w1 ⟨rfl, hB⟩
        rw [HQ.out]
        go_wp2
        go_ret
        refine ⟨ret_bool ?_, Below.trans (by go_grown) (hB.mono (by go_size))⟩
      · exact (eqEs_f fun e => by have h : xs = ys := congrArg Es.r e; rw [eqL_t h] at HQ; cases HQ.out).symm
      · exact (eqEs_t (by rw [HL.out, HM.out, of_decide_eq_true HQ.out])).symm
    · have hd2 := beq_f hm
      have HE : Hid (eqEs ⟨n, m, xs⟩ ⟨n', m', ys⟩ = false) := eqEs_f fun e => hm (congrArg Es.e e)
      clear hm
      go_enter Try.func16, Try.ntmps16
      go_wp2
      go_ret
      exact ⟨ret_bool HE.out.symm, by go_grown⟩
  · have hd := beq_f hl
    have HE : Hid (eqEs ⟨n, m, xs⟩ ⟨n', m', ys⟩ = false) := eqEs_f fun e => hl (congrArg Es.n e)
    clear hl
    go_enter Try.func16, Try.ntmps16
    go_wp2
    go_ret
    exact ⟨ret_bool HE.out.symm, by go_grown⟩

theorem absL {rs ss : List Eg} {k : Nat} (hl : rs.length = ss.length) (hk : ¬ k < rs.length) (h : ∀ j : Nat, j < k → (rs.map Eg.abs)[j]? = (ss.map Eg.abs)[j]?) : decide (rs.map Eg.abs = ss.map Eg.abs) = true := by
  refine decide_eq_true (List.ext_getElem? fun j => ?_)
  by_cases hj : j < k
  · exact h j hj
  · rw [List.getElem?_eq_none (by simp; omega), List.getElem?_eq_none (by simp; omega)]
theorem absL_not {rs ss : List Eg} {k : Nat} (hx : k < rs.length) (hy : k < ss.length) (h : eqEs rs[k].abs ss[k].abs = false) : decide (rs.map Eg.abs = ss.map Eg.abs) = false := by
  refine decide_eq_false fun e => ?_
  have e' := congrArg (fun l => l[k]?) e
  simp [List.getElem?_eq_getElem hx, List.getElem?_eq_getElem hy] at e'
  rw [eqEs_t e'] at h
  cases h
theorem step_eqE {rs ss : List Eg} {k : Nat} (hx : k < rs.length) (hy : k < ss.length) (he : eqEs rs[k].abs ss[k].abs = true) (h : ∀ j : Nat, j < k → (rs.map Eg.abs)[j]? = (ss.map Eg.abs)[j]?) :
    ∀ j : Nat, j < k + 1 → (rs.map Eg.abs)[j]? = (ss.map Eg.abs)[j]? := by
  intro j hj
  by_cases e : j = k
  · subst e; rw [List.getElem?_map, List.getElem?_map, List.getElem?_eq_getElem hx, List.getElem?_eq_getElem hy]; simp [of_decide_eq_true he]
  · exact h j (by omega)

set_option maxRecDepth 10000 in
set_option maxHeartbeats 1000000 in
theorem equalFunc_any (A A' : Option Addr) (rs ss : List Eg) (c c' : Nat) (w : World) (hx : Egs w w.heap.size A rs) (hy : Egs w w.heap.size A' ss) (h1 : rs.length ≤ 1048576) (h2 : ∀ u ∈ rs, u.r.length ≤ 1048576) :
    Calls Try.prog 15 #[.slice A rs.length c, .slice A' ss.length c', .func (.func 16) #[] #[]] w fun e w' => e = .returned (.bool (decide (rs.map Eg.abs = ss.map Eg.abs))) ∧ Below w.heap.size w w' := by
  have HX := Lib.hid hx; clear hx
  have HY := Lib.hid hy; clear hy
  have H2 := Lib.hid h2; clear h2
  by_cases hl : rs.length = ss.length
  · have hd : ((rs.length : Int) != (ss.length : Int)) = false := bne_f (by omega)
    have hlen : rs.length ≤ ss.length := by omega
    have hlen' : ss.length ≤ rs.length := by omega
    have HL := Lib.hid hl; clear hl
    go_enter Try.func15, Try.ntmps15
    go_wp2
    go_loopw [17] (fun i wr => ∃ (k : Nat), k ≤ rs.length ∧ i = .int .i64 k ∧ Below w.heap.size w wr ∧ Hid (∀ j : Nat, j < k → (rs.map Eg.abs)[j]? = (ss.map Eg.abs)[j]?)) (fun i _ => rs.length - (intOf i).toNat)
    case atStart => exact ⟨0, by omega, rfl, Below.refl _ _, fun j h => absurd h (by omega)⟩
    case round =>
      obtain ⟨k, hk, rfl, hB, H⟩ := hrel
      by_cases hlt : k < rs.length
      · have hlt' : k < ss.length := by omega
        obtain ⟨b, o, rfl, hb, c1, c2, c3, c4⟩ := (HX.out.keep hB).at_ hlt
        obtain ⟨b', o', rfl, hb', d1, d2, d3, d4⟩ := (HY.out.keep hB).at_ hlt'
        have C4 := Lib.hid (c4.more hB.size); clear c4
        have D4 := Lib.hid (d4.more hB.size); clear d4
        have hbw := Nat.lt_of_lt_of_le hb hB.size
        have hbw' := Nat.lt_of_lt_of_le hb' hB.size
        have hlen2 := H2.out rs[k] (List.getElem_mem hlt)
        cases hq : eqEs rs[k].abs ss[k].abs
        all_goals
          have HQ := Lib.hid hq; clear hq
          go_wp2_with fail
          refine (sameEdge_any _ _ _ _ _ _ _ _ _ _ _ ?_ ?_ hlen2).mono ?_
          · exact (C4.out.keep (by go_grown)).more (by go_size)
          · exact (D4.out.keep (by go_grown)).more (by go_size)
          rintro e w1 ⟨rfl, hB1⟩
          have hB2 : Below w.heap.size w w1 := hB.trans (Below.trans (Below.mono (B := wr.heap.size) (by go_grown) hB.size) (hB1.mono (by have := hB.size; simp; omega)))
          clear hB1
          rw [show eqEs ⟨rs[k].n, rs[k].e, rs[k].r⟩ ⟨ss[k].n, ss[k].e, ss[k].r⟩ = _ from HQ.out]
        · have HE : Hid (decide (rs.map Eg.abs = ss.map Eg.abs) = false) := absL_not hlt hlt' HQ.out
          go_wp2
          go_ret
          exact ⟨ret_bool HE.out.symm, hB2⟩
        · go_wp2
          go_roundw
          case rel => exact ⟨k + 1, by omega, by go_num, hB2, step_eqE hlt hlt' HQ.out H.out⟩
          case measure => simp [intOf]; omega
      · have HE : Hid (decide (rs.map Eg.abs = ss.map Eg.abs) = true) := absL HL.out hlt H.out
        go_wp2
        go_ret
        exact ⟨ret_bool HE.out.symm, hB⟩
  · have hd : ((rs.length : Int) != (ss.length : Int)) = true := bne_t (by omega)
    have HE : Hid (decide (rs.map Eg.abs = ss.map Eg.abs) = false) := decide_eq_false fun e => hl (by simpa using congrArg List.length e)
    clear hl
    go_enter Try.func15, Try.ntmps15
    go_wp2
    go_ret
    exact ⟨ret_bool HE.out.symm, Below.refl _ _⟩

set_option maxHeartbeats 1000000 in
theorem implSameForest_any (f f' : Fo) (w : World) (hx : ReadF w w.heap.size f) (hy : ReadF w w.heap.size f') (hm : LenF 1048576 f) :
    Calls Try.prog 7 #[(.agg #[.slice f.a f.ns.length f.c, .slice f.b f.es.length f.d]), (.agg #[.slice f'.a f'.ns.length f'.c, .slice f'.b f'.es.length f'.d])] w fun e w' => e = .returned (.bool (decide (f.say = f'.say))) ∧ Below w.heap.size w w' := by
  have HX := Lib.hid hx; clear hx
  have HY := Lib.hid hy; clear hy
  have hmn := hm.n
  have HM := Lib.hid hm; clear hm
  go_enter Try.func7, Try.ntmps7
  go_wp2_with fail
  have hB0 : Below w.heap.size w ((w.alloc (.cells #[.slice f.a f.ns.length f.c, .slice f.b f.es.length f.d] 31)).alloc (.cells #[.slice f'.a f'.ns.length f'.c, .slice f'.b f'.es.length f'.d] 31)) := by go_grown
  have B0 : BoxF ((w.alloc (.cells #[.slice f.a f.ns.length f.c, .slice f.b f.es.length f.d] 31)).alloc (.cells #[.slice f'.a f'.ns.length f'.c, .slice f'.b f'.es.length f'.d] 31)) w.heap.size f := (BoxF.new w f _).keep (B := w.heap.size + 1) (by go_grown) (by omega)
  have B1 : BoxF ((w.alloc (.cells #[.slice f.a f.ns.length f.c, .slice f.b f.es.length f.d] 31)).alloc (.cells #[.slice f'.a f'.ns.length f'.c, .slice f'.b f'.es.length f'.d] 31)) (w.heap.size + 1) f' := by
    have h := BoxF.new (w.alloc (.cells #[.slice f.a f.ns.length f.c, .slice f.b f.es.length f.d] 31)) f' 31
    rw [World.size_alloc] at h; exact h
  generalize ((w.alloc (.cells #[.slice f.a f.ns.length f.c, .slice f.b f.es.length f.d] 31)).alloc (.cells #[.slice f'.a f'.ns.length f'.c, .slice f'.b f'.es.length f'.d] 31)) = W at hB0 B0 B1 ⊢
  have HB0 := Lib.hid hB0; clear hB0
  refine (equalN_any _ _ _ _ _ _ _ ((HX.out.1.keep HB0.out).more HB0.out.size) ((HY.out.1.keep HB0.out).more HB0.out.size) hmn).mono ?_
  rintro e w1 ⟨rfl, hB1⟩
  obtain ⟨_, b0, b1⟩ := B0.keep hB1 B0.1
  obtain ⟨_, c0, c1⟩ := B1.keep hB1 B1.1
  have HB1 := Lib.hid (HB0.out.trans (hB1.mono HB0.out.size)); clear hB1 B0 B1
  cases hq : eqN f.ns f'.ns
  · have HE : Hid (decide (f.say = f'.say) = false) := decide_eq_false fun e => by have h : f.ns = f'.ns := congrArg Fs.ns e; rw [eqN_t h] at hq; cases hq
    clear hq
    go_wp2
    go_ret
    exact ⟨ret_bool HE.out.symm, HB1.out⟩
  have HNE := Lib.hid (show f.ns = f'.ns from of_decide_eq_true hq); clear hq
  go_wp2_with fail
  refine (equalFunc_any _ _ _ _ _ _ _ ((HX.out.2.keep HB1.out).more HB1.out.size) ((HY.out.2.keep HB1.out).more HB1.out.size) HM.out.e HM.out.r).mono ?_
  rintro e w2 ⟨rfl, hB2⟩
  have HE : Hid (decide (f.say = f'.say) = decide (f.es.map Eg.abs = f'.es.map Eg.abs)) := decide_eq_decide.2 ⟨fun e => congrArg Fs.es e, fun e => by show Fs.mk _ _ = Fs.mk _ _; rw [HNE.out, e]⟩
  have HB2 := Lib.hid (HB1.out.trans (hB2.mono HB1.out.size)); clear hB2
  generalize decide (f.es.map Eg.abs = f'.es.map Eg.abs) = q at HE ⊢
  go_wp2
  go_ret
  exact ⟨ret_bool HE.out.symm, HB2.out⟩

set_option maxHeartbeats 1000000 in
theorem specSameForest_any (f f' : Fo) (w : World) (hx : ReadF w w.heap.size f) (hy : ReadF w w.heap.size f') (hm : LenF 1048576 f) :
    Calls Try.prog 5 #[(.agg #[.slice f.a f.ns.length f.c, .slice f.b f.es.length f.d]), (.agg #[.slice f'.a f'.ns.length f'.c, .slice f'.b f'.es.length f'.d])] w fun e w' => e = .returned (.bool (decide (f.say = f'.say))) ∧ Below w.heap.size w w' := by
  obtain ⟨A, ns, c, B, es, d⟩ := f
  obtain ⟨A', ns', c', B', es', d'⟩ := f'
  have HX := Lib.hid hx; clear hx
  have HY := Lib.hid hy; clear hy
  have hmn : ns.length ≤ 1048576 := hm.n
  have hme : es.length ≤ 1048576 := hm.e
  have HM := Lib.hid hm; clear hm
  by_cases hn : ns.length = ns'.length
  · have hnb : ((ns.length : Int) != (ns'.length : Int)) = false := bne_f (by omega)
    by_cases he : es.length = es'.length
    · have heb : ((es.length : Int) != (es'.length : Int)) = false := bne_f (by omega)
      have HNL := Lib.hid hn; clear hn
      have HEL := Lib.hid he; clear he
      have hnl : ns.length ≤ ns'.length := by have := HNL.out; omega
      have hel : es.length ≤ es'.length := by have := HEL.out; omega
      have hnl' : ns'.length ≤ ns.length := by have := HNL.out; omega
      have hel' : es'.length ≤ es.length := by have := HEL.out; omega
      go_enter Try.func5, Try.ntmps5
      go_wp2
      have hB0 : Below w.heap.size w ((w.alloc (.cells #[.slice A ns.length c, .slice B es.length d] 31)).alloc (.cells #[.slice A' ns'.length c', .slice B' es'.length d'] 31)) := by go_grown
      have B0 : BoxF ((w.alloc (.cells #[.slice A ns.length c, .slice B es.length d] 31)).alloc (.cells #[.slice A' ns'.length c', .slice B' es'.length d'] 31)) w.heap.size (Fo.mk A ns c B es d) := (BoxF.new w (Fo.mk A ns c B es d) _).keep (B := w.heap.size + 1) (by go_grown) (by omega)
      have B1 : BoxF ((w.alloc (.cells #[.slice A ns.length c, .slice B es.length d] 31)).alloc (.cells #[.slice A' ns'.length c', .slice B' es'.length d'] 31)) (w.heap.size + 1) (Fo.mk A' ns' c' B' es' d') := by
        have h := BoxF.new (w.alloc (.cells #[.slice A ns.length c, .slice B es.length d] 31)) (Fo.mk A' ns' c' B' es' d') 31
        rw [World.size_alloc] at h; exact h
      have hWS : ((w.alloc (.cells #[.slice A ns.length c, .slice B es.length d] 31)).alloc (.cells #[.slice A' ns'.length c', .slice B' es'.length d'] 31)).heap.size = w.heap.size + 2 := by simp
      generalize ((w.alloc (.cells #[.slice A ns.length c, .slice B es.length d] 31)).alloc (.cells #[.slice A' ns'.length c', .slice B' es'.length d'] 31)) = W at hB0 B0 B1 hWS ⊢
      have HB0 := Lib.hid hB0; clear hB0
      have KB0 := Lib.hid B0; clear B0
      have KB1 := Lib.hid B1; clear B1
      go_loopw [28] (fun i wr => ∃ (k : Nat), k ≤ ns.length ∧ i = .int .i64 k ∧ Below W.heap.size W wr ∧ Hid (∀ j : Nat, j < k → ns[j]? = ns'[j]?)) (fun i _ => ns.length - (intOf i).toNat)
      case atStart => exact ⟨0, by omega, rfl, Below.refl _ _, fun j h => absurd h (by omega)⟩
      case round =>
        obtain ⟨k, hk, rfl, hB, H⟩ := hrel
        obtain ⟨_, a0, a1⟩ := KB0.out.keep hB KB0.out.1
        dsimp only at a0 a1
        obtain ⟨_, b0, b1⟩ := KB1.out.keep hB KB1.out.1
        dsimp only at b0 b1
        by_cases hlt : k < ns.length
        · have hlt' : k < ns'.length := by omega
          obtain ⟨b, o, rfl, hb, c1, c2, c3⟩ := ((HX.out.1.keep HB0.out).more HB0.out.size |>.keep hB).at_ hlt
          obtain ⟨b', o', rfl, hb', d1, d2, d3⟩ := ((HY.out.1.keep HB0.out).more HB0.out.size |>.keep hB).at_ hlt'
          by_cases hne : ns[k] = ns'[k]
          · have hN : ∀ w, (binOp .neq 37 (.agg #[.int .i64 ns[k].n, .int .i64 ns[k].f, .int .i64 ns[k].t]) (.agg #[.int .i64 ns'[k].n, .int .i64 ns'[k].f, .int .i64 ns'[k].t])).run Try.prog w = .ok (.bool false) w := fun w => by rw [neqNd, decide_eq_true hne]; rfl
            have hG := eqNd_guard
            have HE := Lib.hid hne; clear hne
            go_wp2
            go_quiet (fail)
            go_wp2
            go_roundw
            case rel => exact ⟨k + 1, by omega, by go_num, below_drewN hB _, stepN hlt hlt' HE.out H.out⟩
            case measure => simp [intOf]; omega
          · have hN : ∀ w, (binOp .neq 37 (.agg #[.int .i64 ns[k].n, .int .i64 ns[k].f, .int .i64 ns[k].t]) (.agg #[.int .i64 ns'[k].n, .int .i64 ns'[k].f, .int .i64 ns'[k].t])).run Try.prog w = .ok (.bool true) w := fun w => by rw [neqNd, decide_eq_false hne]; rfl
            have hG := eqNd_guard
            have HE : Hid (decide (Fs.mk ns (es.map Eg.abs) = Fs.mk ns' (es'.map Eg.abs)) = false) := decide_eq_false fun e => by have h := eqN_not hlt hlt' hne; rw [eqN_t (show ns = ns' from congrArg Fs.ns e)] at h; cases h
            clear hne
            go_wp2
            go_quiet (fail)
            go_wp2
            go_ret
            exact ⟨ret_bool HE.out.symm, HB0.out.trans ((below_drewN hB _).mono HB0.out.size)⟩
        · have HNE : Hid (ns = ns') := by show ns = ns'; exact of_decide_eq_true (eqN_of HNL.out hlt H.out)
          clear H
          obtain ⟨wA, hA⟩ : ∃ x, x = wr := ⟨_, rfl⟩
          subst hA
          have HBA := Lib.hid hB
          go_wp2
          go_loopw [46] (fun i wr => ∃ (k : Nat), k ≤ es.length ∧ i = .int .i64 k ∧ Below W.heap.size W wr ∧ Hid (∀ j : Nat, j < k → (es.map Eg.abs)[j]? = (es'.map Eg.abs)[j]?)) (fun i _ => es.length - (intOf i).toNat)
          case atStart => exact ⟨0, by omega, rfl, HBA.out, fun j h => absurd h (by omega)⟩
          case round =>
            clear a0 a1 b0 b1 hB HBA
            obtain ⟨k, hk, rfl, hB, H⟩ := hrel
            obtain ⟨hg0, a0, a1⟩ := KB0.out.keep hB KB0.out.1
            dsimp only at a0 a1
            obtain ⟨hg1, b0, b1⟩ := KB1.out.keep hB KB1.out.1
            dsimp only at b0 b1
            by_cases hlt : k < es.length
            · have hlt' : k < es'.length := by omega
              obtain ⟨b, o, rfl, hb, c1, c2, c3, c4⟩ := ((HX.out.2.keep HB0.out).more HB0.out.size |>.keep hB).at_ hlt
              obtain ⟨b', o', rfl, hb', d1, d2, d3, d4⟩ := ((HY.out.2.keep HB0.out).more HB0.out.size |>.keep hB).at_ hlt'
              have hbw := Nat.lt_of_lt_of_le hb hB.size
              have hbw' := Nat.lt_of_lt_of_le hb' hB.size
              have C4 := Lib.hid (c4.more hB.size); clear c4
              have D4 := Lib.hid (d4.more hB.size); clear d4
              have hlen2 : es[k].r.length ≤ 1048576 := HM.out.r es[k] (List.getElem_mem hlt)
              by_cases h1 : es[k].n = es'[k].n
              · have e1 := bne_f h1
                by_cases h2 : es[k].e = es'[k].e
                · have e2 := bne_f h2
                  cases hq : eqL es[k].r es'[k].r
                  all_goals
                    have HQ := Lib.hid hq; clear hq
                    have H1 := Lib.hid h1
                    have H2 := Lib.hid h2
                    clear h1 h2
                    go_wp2_with fail
                    refine (l1Same_any _ _ _ _ _ _ _ ?_ ?_ hlen2).mono ?_
                    · exact (C4.out.keep (by go_grown)).more (by go_size)
                    · exact (D4.out.keep (by go_grown)).more (by go_size)
                    rintro e w1 ⟨rfl, hB1⟩
                    have hB2 : Below W.heap.size W w1 := hB.trans (Below.trans (Below.mono (B := wr.heap.size) (by go_grown) hB.size) (hB1.mono (by have := hB.size; simp; omega)))
                    clear hB1
                    rw [HQ.out]
                  · have HE : Hid (decide (Fs.mk ns (es.map Eg.abs) = Fs.mk ns' (es'.map Eg.abs)) = false) := decide_eq_false fun e => by
                      have h := absE_at (show es.map Eg.abs = es'.map Eg.abs from congrArg Fs.es e) hlt hlt'
                      have h' := HQ.out
                      rw [eqL_t h.2.2] at h'; cases h'
                    go_wp2
                    go_ret
                    exact ⟨ret_bool HE.out.symm, HB0.out.trans (hB2.mono HB0.out.size)⟩
                  · go_wp2
                    go_roundw
                    case rel => exact ⟨k + 1, by omega, by go_num, hB2, step_eqE hlt hlt' (eqEs_t (by show Es.mk _ _ _ = Es.mk _ _ _; rw [H1.out, H2.out, show es[k].r = es'[k].r from of_decide_eq_true HQ.out])) H.out⟩
                    case measure => simp [intOf]; omega
                · have e2 := bne_t h2
                  have HE : Hid (decide (Fs.mk ns (es.map Eg.abs) = Fs.mk ns' (es'.map Eg.abs)) = false) := decide_eq_false fun e => h2 (absE_at (show es.map Eg.abs = es'.map Eg.abs from congrArg Fs.es e) hlt hlt').2.1
                  have H1 := Lib.hid h1
                  clear h1 h2
                  go_wp2
                  go_ret
                  exact ⟨ret_bool HE.out.symm, HB0.out.trans ((hB.trans (Below.mono (B := wr.heap.size) (by go_grown) hB.size)).mono HB0.out.size)⟩
              · have e1 := bne_t h1
                have HE : Hid (decide (Fs.mk ns (es.map Eg.abs) = Fs.mk ns' (es'.map Eg.abs)) = false) := decide_eq_false fun e => h1 (absE_at (show es.map Eg.abs = es'.map Eg.abs from congrArg Fs.es e) hlt hlt').1
                clear h1
                go_wp2
                go_ret
                exact ⟨ret_bool HE.out.symm, HB0.out.trans ((hB.trans (Below.mono (B := wr.heap.size) (by go_grown) hB.size)).mono HB0.out.size)⟩
            · have HE : Hid (decide (Fs.mk ns (es.map Eg.abs) = Fs.mk ns' (es'.map Eg.abs)) = true) := decide_eq_true (by show Fs.mk _ _ = Fs.mk _ _; rw [HNE.out, of_decide_eq_true (absL HEL.out hlt H.out)])
              go_wp2
              go_ret
              exact ⟨ret_bool HE.out.symm, HB0.out.trans (hB.mono HB0.out.size)⟩
    · have heb : ((es.length : Int) != (es'.length : Int)) = true := bne_t (by omega)
      have HE : Hid (decide (Fs.mk ns (es.map Eg.abs) = Fs.mk ns' (es'.map Eg.abs)) = false) := decide_eq_false fun e => he (by simpa using congrArg List.length (show es.map Eg.abs = es'.map Eg.abs from congrArg Fs.es e))
      clear he
      go_enter Try.func5, Try.ntmps5
      go_wp2
      go_ret
      exact ⟨ret_bool HE.out.symm, by go_grown⟩
  · have hnb : ((ns.length : Int) != (ns'.length : Int)) = true := bne_t (by omega)
    have HE : Hid (decide (Fs.mk ns (es.map Eg.abs) = Fs.mk ns' (es'.map Eg.abs)) = false) := decide_eq_false fun e => hn (congrArg List.length (show ns = ns' from congrArg Fs.ns e))
    clear hn
    go_enter Try.func5, Try.ntmps5
    go_wp2
    go_ret
    exact ⟨ret_bool HE.out.symm, by go_grown⟩

end Go.Proofs.Ytbgjlabjihoaaaa

/- What the laws' copies of a forest make: new memory that reads as what was copied. -/

namespace Go.Proofs.Ytbgjlabjihoaaaa
open Go.RowKit

theorem Try.infoNode : (Try.prog.info? 37).map (fun i => (i.zero, i.size, i.bytes)) = some (some (.agg #[.int .i64 0, .int .i64 0, .int .i64 0]), 3, 24) := by kernel_rfl
theorem Try.infoEdge : (Try.prog.info? 40).map (fun i => (i.zero, i.size, i.bytes)) = some (some (.agg #[.int .i64 0, .int .i64 0, .slice none 0 0]), 3, 40) := by kernel_rfl

def zN (n : Nat) : Array Value := madeCells #[.int .i64 0, .int .i64 0, .int .i64 0] (n * 3)
theorem zN_size (n : Nat) : (zN n).size = n * 3 := size_madeCells _ _
def zE (n : Nat) : Array Value := madeCells #[.int .i64 0, .int .i64 0, .slice none 0 0] (n * 3)
theorem zE_size (n : Nat) : (zE n).size = n * 3 := size_madeCells _ _

theorem make_nodes (n : Nat) (hn : n ≤ 1048576) (w : World) :
    (Instr.makeSlice 28 (.int .i64 (n : Int)) (.int .i64 (n : Int))).run Try.prog w = .ok (.slice (some ⟨w.heap.size, 0, none⟩) n n) (w.alloc (.cells (zN n) 37)) := by
  obtain ⟨i, hi, hz, hs, hb⟩ := info_of Try.infoNode
  have h := run_make (P := Try.prog) w 28 37 i _ Try.underlying28 hi hz .i64 .i64 n n (by omega) (by omega) (by rw [hb]; omega) (by omega)
  rw [hs] at h
  simpa [zN, Value.cells] using h
theorem make_edges (n : Nat) (hn : n ≤ 1048576) (w : World) :
    (Instr.makeSlice 29 (.int .i64 (n : Int)) (.int .i64 (n : Int))).run Try.prog w = .ok (.slice (some ⟨w.heap.size, 0, none⟩) n n) (w.alloc (.cells (zE n) 40)) := by
  obtain ⟨i, hi, hz, hs, hb⟩ := info_of Try.infoEdge
  have h := run_make (P := Try.prog) w 29 40 i _ Try.underlying29 hi hz .i64 .i64 n n (by omega) (by omega) (by rw [hb]; omega) (by omega)
  rw [hs] at h
  simpa [zE, Value.cells] using h

set_option maxHeartbeats 400000 in
theorem toNode_any (n f t : Int) (w : World) :
    Calls Try.prog 20 #[.agg #[.int .i64 n, .int .i64 f, .int .i64 t]] w fun e w' => e = .returned (.agg #[.int .i64 n, .int .i64 f, .int .i64 t]) ∧ Below w.heap.size w w' := by
  go_enter Try.func20, Try.ntmps20
  go_wp2
  refine bodyPost_ret (v := .agg #[.int .i64 n, .int .i64 f, .int .i64 t]) (by simp [results, Try.results20, go_sem]) rfl ⟨rfl, ?_⟩
  go_grown

theorem copied3 {ds : List Nd} {cs : Array Value} {k : Nat} (hlt : k < ds.length) (hs : cs.size = ds.length * 3) (h : ∀ (j : Nat) (x : Int), j < k * 3 → (flatN ds)[j]? = some x → cs[j]? = some (.int .i64 x)) :
    ∀ (j : Nat) (x : Int), j < (k + 1) * 3 → (flatN ds)[j]? = some x → (((cs.setIfInBounds (k * 3) (.int .i64 ds[k].n)).setIfInBounds (k * 3 + 1) (.int .i64 ds[k].f)).setIfInBounds (k * 3 + 2) (.int .i64 ds[k].t))[j]? = some (.int .i64 x) := by
  intro j x hj hx
  obtain ⟨h0, h1, h2⟩ := flatN_at hlt
  simp only [Array.getElem?_setIfInBounds, Array.size_setIfInBounds]
  by_cases e2 : k * 3 + 2 = j
  · subst e2; rw [h2] at hx; rw [if_pos rfl, if_pos (by omega)]; simpa using hx
  rw [if_neg e2]
  by_cases e1 : k * 3 + 1 = j
  · subst e1; rw [h1] at hx; rw [if_pos rfl, if_pos (by omega)]; simpa using hx
  rw [if_neg e1]
  by_cases e0 : k * 3 = j
  · subst e0; rw [h0] at hx; rw [if_pos rfl, if_pos (by omega)]; simpa using hx
  rw [if_neg e0]
  exact h j x (by omega) hx

/-- A new slice of nodes that reads as ds; nothing older has turned. -/
def GaveNd (w : World) (ds : List Nd) (e : Ending) (w' : World) : Prop :=
  ∃ A c, e = .returned (.slice A ds.length c) ∧ ds.length ≤ c ∧ OwnNd w' w.heap.size A ds ∧ Below w.heap.size w w'

set_option maxHeartbeats 1000000 in
theorem toNodeS_any (A : Option Addr) (ds : List Nd) (c : Nat) (w : World) (hr : Nds w w.heap.size A ds) (hn : ds.length ≤ 1048576) :
    Calls Try.prog 12 #[.slice A ds.length c] w (GaveNd w ds) := by
  have hmk := make_nodes ds.length hn
  have HR := Lib.hid hr; clear hr
  go_enter Try.func12, Try.ntmps12
  go_wp2
  go_loopw [4] (fun i wr => ∃ (k : Nat) (cs : Array Value), k ≤ ds.length ∧ i = .int .i64 k ∧ w.heap.size < wr.heap.size ∧ Below w.heap.size w wr ∧ Hid (Row wr w.heap.size 37 cs ∧ cs.size = ds.length * 3 ∧ ∀ (j : Nat) (x : Int), j < k * 3 → (flatN ds)[j]? = some x → cs[j]? = some (.int .i64 x))) (fun i _ => ds.length - (intOf i).toNat)
  case atStart => exact ⟨0, zN ds.length, by omega, rfl, by simp, (Below.refl _ _).alloc (Nat.le_refl _) _, Row.new _ _ _, zN_size _, fun j x h => absurd h (by omega)⟩
  case round =>
    obtain ⟨k, cs, hk, rfl, hsz, hB, H⟩ := hrel
    clear hmk
    by_cases hlt : k < ds.length
    · obtain ⟨b, o, rfl, hb, c0, c1, c2⟩ := (HR.out.keep hB).at_ hlt
      go_wp2_with fail
      refine (toNode_any _ _ _ _).mono ?_
      rintro e w1 ⟨rfl, hB1⟩
      have hr1 := H.out.1.below hB1 hsz
      have hcz := H.out.2.1
      obtain ⟨x0, d0⟩ : ∃ x0, w1.cell? ⟨w.heap.size, k * 3, none⟩ = some x0 := ⟨_, (hr1.cell (k * 3)).trans (Array.getElem?_eq_getElem (by omega))⟩
      obtain ⟨x1, d1⟩ : ∃ x1, w1.cell? ⟨w.heap.size, k * 3 + 1, none⟩ = some x1 := ⟨_, (hr1.cell (k * 3 + 1)).trans (Array.getElem?_eq_getElem (by omega))⟩
      obtain ⟨x2, d2⟩ : ∃ x2, w1.cell? ⟨w.heap.size, k * 3 + 2, none⟩ = some x2 := ⟨_, (hr1.cell (k * 3 + 2)).trans (Array.getElem?_eq_getElem (by omega))⟩
      have f0 := hr1.frozen (k * 3)
      have f1 := hr1.frozen (k * 3 + 1)
      have f2 := hr1.frozen (k * 3 + 2)
      have HRW := Lib.hid hr1
      have HCZ := Lib.hid hcz
      have HB1 := Lib.hid hB1; clear hB1
      clear hr1 hcz
      go_wp2
      go_roundw
      case rel => exact ⟨k + 1, _, by omega, by go_num, by have := HB1.out.size; simp; omega, (((hB.trans (HB1.out.mono hB.size)).setCell (Nat.le_refl _) _).setCell (Nat.le_refl _) _).setCell (Nat.le_refl _) _, (((HRW.out.set _ _).set _ _).set _ _), by simp only [Array.size_setIfInBounds]; exact HCZ.out, copied3 hlt HCZ.out H.out.2.2⟩
      case measure => simp [intOf]; omega
    · go_wp2
      go_ret
      exact ⟨some ⟨w.heap.size, 0, none⟩, ds.length, rfl, Nat.le_refl _, .inr ⟨w.heap.size, cs, rfl, Nat.le_refl _, H.out.1, fun j x hj => H.out.2.2 j x (by have := (List.getElem?_eq_some_iff.1 hj).1; rw [flatN_len] at this; omega) hj⟩, hB⟩

/-- An edge's copy. -/
def GaveEd (w : World) (n e : Int) (xs : List Int) (r : Ending) (w' : World) : Prop :=
  ∃ A c, r = .returned (.agg #[.int .i64 n, .int .i64 e, .slice A xs.length c]) ∧ xs.length ≤ c ∧ OwnI w' w.heap.size A xs ∧ Below w.heap.size w w'

set_option maxHeartbeats 1000000 in
theorem toEdge_any (n e : Int) (A : Option Addr) (xs : List Int) (c : Nat) (w : World) (hr : Ints w w.heap.size A xs) (hn : xs.length ≤ 1048576) :
    Calls Try.prog 21 #[.agg #[.int .i64 n, .int .i64 e, .slice A xs.length c]] w (GaveEd w n e xs) := by
  have HR := Lib.hid hr; clear hr
  go_enter Try.func21, Try.ntmps21
  go_wp2_with fail
  refine (toIntS_any _ _ _ _ ?_ hn).mono ?_
  · exact (HR.out.keep (by go_grown)).more (by simp; omega)
  · rintro r w1 ⟨A', c', rfl, hcap, hO, hB⟩
    have hz := hB.size
    have c0 := (hB.cell (p := ⟨w.heap.size + 1 + 1, 0, none⟩) (by simp)).trans (show _ = some (.int .i64 n) from by simp [go_sem])
    have c1 := (hB.cell (p := ⟨w.heap.size + 1 + 1, 1, none⟩) (by simp)).trans (show _ = some (.int .i64 e) from by simp [go_sem])
    have c2 := (hB.cell (p := ⟨w.heap.size + 1 + 1, 2, none⟩) (by simp)).trans (show _ = some (.slice none 0 0) from by simp [go_sem])
    have f0 := (hB.frozen (p := ⟨w.heap.size + 1 + 1, 2, none⟩) (by simp)).trans (show _ = false from by simp [go_sem])
    have d0 := (hB.cell (p := ⟨w.heap.size + 1, 0, none⟩) (by simp)).trans (show _ = some (.int .i64 0) from by simp [go_sem])
    have d1 := (hB.cell (p := ⟨w.heap.size + 1, 1, none⟩) (by simp)).trans (show _ = some (.int .i64 0) from by simp [go_sem])
    have d2 := (hB.cell (p := ⟨w.heap.size + 1, 2, none⟩) (by simp)).trans (show _ = some (.slice none 0 0) from by simp [go_sem])
    have g0 := (hB.frozen (p := ⟨w.heap.size + 1, 0, none⟩) (by simp)).trans (show _ = false from by simp [go_sem])
    have g1 := (hB.frozen (p := ⟨w.heap.size + 1, 1, none⟩) (by simp)).trans (show _ = false from by simp [go_sem])
    have g2 := (hB.frozen (p := ⟨w.heap.size + 1, 2, none⟩) (by simp)).trans (show _ = false from by simp [go_sem])
    have HO := Lib.hid hO; clear hO
    have HB := Lib.hid hB; clear hB
    go_wp2_with fail
    simp only [World.size_alloc] at hz
    refine bodyPost_ret (v := .agg #[.int .i64 n, .int .i64 e, .slice A' xs.length c']) (by simp [results, Try.results21, go_sem, d0, d1, d2]) rfl ⟨A', c', rfl, hcap, ?_, ?_⟩
    · have h := HO.out
      simp only [World.size_alloc] at h
      exact ((((h.low (by simp) _).low (by simp) _).low (by simp) _).low (by simp) _).lower (by omega)
    · have h := HB.out
      simp only [World.size_alloc] at h
      have hB0 : Below w.heap.size w w1 := Below.trans (by go_grown) (h.mono (by omega))
      exact (((hB0.setCell (by simp; omega) _).setCell (by simp) _).setCell (by simp) _).setCell (by simp) _

/-- A new slice of edges that says what es say; nothing older has turned. -/
def GaveEg (w : World) (ss : List Es) (e : Ending) (w' : World) : Prop :=
  ∃ A c es, e = .returned (.slice A es.length c) ∧ es.length ≤ c ∧ OwnEg w' w.heap.size A es ∧ es.map Eg.abs = ss ∧ Below w.heap.size w w'

/-- The first k edges of es are copied into block g. -/
def CopyingE (w : World) (lo g : Nat) (rs : List Eg) (k : Nat) : Prop :=
  ∃ (cs : Array Value) (done : List Eg), Row w g 40 cs ∧ cs.size = rs.length * 3 ∧ done.length = k ∧ done.map Eg.abs = (rs.take k).map Eg.abs ∧
    (∀ (j : Nat) (u : Eg), done[j]? = some u → cs[j * 3]? = some (.int .i64 u.n) ∧ cs[j * 3 + 1]? = some (.int .i64 u.e) ∧ cs[j * 3 + 2]? = some (.slice u.a u.r.length u.c) ∧ OwnI w lo u.a u.r) ∧
    ∀ (i j : Nat) (u v : Eg), done[i]? = some u → done[j]? = some v → i ≠ j → u.r ≠ [] → v.r ≠ [] → u.a ≠ v.a

theorem CopyingE.step {w w1 : World} {lo g k : Nat} {rs : List Eg} (h : CopyingE w lo g rs k) (hlo : lo ≤ w.heap.size) (hk : k < rs.length) (hb : Below w.heap.size w w1) {A : Option Addr} {c : Nat} (hO : OwnI w1 w.heap.size A rs[k].r) :
    CopyingE (((w1.setCell ⟨g, k * 3, none⟩ (.int .i64 rs[k].n)).setCell ⟨g, k * 3 + 1, none⟩ (.int .i64 rs[k].e)).setCell ⟨g, k * 3 + 2, none⟩ (.slice A rs[k].r.length c)) lo g rs (k + 1) := by
  obtain ⟨cs, done, hr, hs, hl, ha, hc, hd⟩ := h
  have hg : g < w.heap.size := hr.lt
  have hr1 : Row w1 g 40 cs := hr.below hb hg
  have keep : ∀ {A' : Option Addr} {xs : List Int}, OwnI w1 lo A' xs → OwnI (((w1.setCell ⟨g, k * 3, none⟩ (.int .i64 rs[k].n)).setCell ⟨g, k * 3 + 1, none⟩ (.int .i64 rs[k].e)).setCell ⟨g, k * 3 + 2, none⟩ (.slice A rs[k].r.length c)) lo A' xs := by
    intro A' xs h
    rcases h with h | ⟨g', cs', e, hl', hr', hc'⟩
    · exact .inl h
    · have hne : g' ≠ g := hr'.ne hr1 (by decide)
      exact .inr ⟨g', cs', e, hl', ((hr'.far hne _).far hne _).far hne _, hc'⟩
  refine ⟨((cs.setIfInBounds (k * 3) (.int .i64 rs[k].n)).setIfInBounds (k * 3 + 1) (.int .i64 rs[k].e)).setIfInBounds (k * 3 + 2) (.slice A rs[k].r.length c), done ++ [⟨rs[k].n, rs[k].e, A, rs[k].r, c⟩], ((hr1.set _ _).set _ _).set _ _, by simp [hs], by simp [hl], ?_, ?_, ?_⟩
  · rw [List.map_append, ha, List.take_succ_eq_append_getElem hk, List.map_append]; rfl
  · intro j u hu
    by_cases e : j < k
    · rw [List.getElem?_append_left (by omega)] at hu
      obtain ⟨h1, h2, h3, h4⟩ := hc j u hu
      refine ⟨?_, ?_, ?_, keep (h4.below hb (Nat.le_refl _))⟩
      · rw [Array.getElem?_setIfInBounds, if_neg (by omega), Array.getElem?_setIfInBounds, if_neg (by omega), Array.getElem?_setIfInBounds, if_neg (by omega)]; exact h1
      · rw [Array.getElem?_setIfInBounds, if_neg (by omega), Array.getElem?_setIfInBounds, if_neg (by omega), Array.getElem?_setIfInBounds, if_neg (by omega)]; exact h2
      · rw [Array.getElem?_setIfInBounds, if_neg (by omega), Array.getElem?_setIfInBounds, if_neg (by omega), Array.getElem?_setIfInBounds, if_neg (by omega)]; exact h3
    · rw [List.getElem?_append_right (by omega)] at hu
      have hj : j - done.length = 0 := by
        rcases Nat.eq_zero_or_pos (j - done.length) with h0 | h0
        · exact h0
        · rw [List.getElem?_eq_none (by simp; omega)] at hu; cases hu
      rw [hj] at hu
      simp at hu
      subst hu
      have : j = k := by omega
      subst this
      refine ⟨?_, ?_, ?_, keep (hO.lower hlo)⟩
      · rw [Array.getElem?_setIfInBounds, if_neg (by omega), Array.getElem?_setIfInBounds, if_neg (by omega), Array.getElem?_setIfInBounds, if_pos rfl, if_pos (by omega)]
      · rw [Array.getElem?_setIfInBounds, if_neg (by omega), Array.getElem?_setIfInBounds, if_pos rfl, if_pos (by simp; omega)]
      · rw [Array.getElem?_setIfInBounds, if_pos rfl, if_pos (by simp; omega)]
  · have old : ∀ (i : Nat) (u : Eg), i < k → (done ++ [⟨rs[k].n, rs[k].e, A, rs[k].r, c⟩])[i]? = some u → u.r ≠ [] → rs[k].r ≠ [] → u.a ≠ A := by
      intro i u hi hu hne hne' he
      rw [List.getElem?_append_left (by omega)] at hu
      obtain ⟨_, _, _, h3⟩ := hc i u hu
      rcases h3 with h3 | ⟨g1, _, e1, _, r1, _⟩
      · exact hne h3
      · rcases hO with h4 | ⟨g2, _, e2, l2, _, _⟩
        · exact hne' h4
        · rw [e1, e2] at he
          have := r1.lt
          injection he with he
          injection he with he
          omega
    have last : ∀ (i : Nat) (u : Eg), ¬ i < k → (done ++ [⟨rs[k].n, rs[k].e, A, rs[k].r, c⟩])[i]? = some u → i = k ∧ u = ⟨rs[k].n, rs[k].e, A, rs[k].r, c⟩ := by
      intro i u hi hu
      rw [List.getElem?_append_right (by omega)] at hu
      have hj : i - done.length = 0 := by
        rcases Nat.eq_zero_or_pos (i - done.length) with h0 | h0
        · exact h0
        · rw [List.getElem?_eq_none (by simp; omega)] at hu; cases hu
      rw [hj] at hu
      simp at hu
      exact ⟨by omega, hu.symm⟩
    intro i j u v hu hv hij hun hvn
    by_cases hi : i < k <;> by_cases hj : j < k
    · rw [List.getElem?_append_left (by omega)] at hu hv
      exact hd i j u v hu hv hij hun hvn
    · obtain ⟨rfl, rfl⟩ := last j v hj hv
      exact old i u hi hu hun hvn
    · obtain ⟨rfl, rfl⟩ := last i u hi hu
      exact fun e => old j v hj hv hvn hun e.symm
    · have := (last i u hi hu).1; have := (last j v hj hv).1; omega

theorem CopyingE.row {w : World} {lo g k : Nat} {rs : List Eg} (h : CopyingE w lo g rs k) : ∃ cs, Row w g 40 cs ∧ cs.size = rs.length * 3 := by
  obtain ⟨cs, _, hr, hs, _⟩ := h
  exact ⟨cs, hr, hs⟩
theorem CopyingE.done {w : World} {lo g : Nat} {rs : List Eg} (h : CopyingE w lo g rs rs.length) (hg : lo ≤ g) : ∃ ds : List Eg, OwnEg w lo (some ⟨g, 0, none⟩) ds ∧ ds.length = rs.length ∧ ds.map Eg.abs = rs.map Eg.abs := by
  obtain ⟨cs, ds, hr, _, hl, ha, hc, hd⟩ := h
  exact ⟨ds, .inr ⟨g, cs, rfl, hg, hr, hc, hd⟩, hl, by rw [ha, List.take_length]⟩

set_option maxHeartbeats 1000000 in
theorem toEdgeS_any (A : Option Addr) (rs : List Eg) (c : Nat) (w : World) (hr : Egs w w.heap.size A rs) (hn : rs.length ≤ 1048576) (hu : ∀ u ∈ rs, u.r.length ≤ 1048576) :
    Calls Try.prog 13 #[.slice A rs.length c] w (GaveEg w (rs.map Eg.abs)) := by
  have hmk := make_edges rs.length hn
  have HR := Lib.hid hr; clear hr
  have HU := Lib.hid hu; clear hu
  go_enter Try.func13, Try.ntmps13
  go_wp2
  go_loopw [4] (fun i wr => ∃ (k : Nat), k ≤ rs.length ∧ i = .int .i64 k ∧ w.heap.size < wr.heap.size ∧ Below w.heap.size w wr ∧ Hid (CopyingE wr w.heap.size w.heap.size rs k)) (fun i _ => rs.length - (intOf i).toNat)
  case atStart => exact ⟨0, by omega, rfl, by simp, (Below.refl _ _).alloc (Nat.le_refl _) _, zE rs.length, [], Row.new _ _ _, zE_size _, rfl, rfl, fun j u h => by simp at h, fun i j u v h => by simp at h⟩
  case round =>
    obtain ⟨k, hk, rfl, hsz, hB, H⟩ := hrel
    clear hmk
    by_cases hlt : k < rs.length
    · obtain ⟨b, o, rfl, hb, c1, c2, c3, c4⟩ := (HR.out.keep hB).at_ hlt
      have C4 := Lib.hid (c4.more hB.size); clear c4
      have hlen := HU.out rs[k] (List.getElem_mem hlt)
      go_wp2_with fail
      refine (toEdge_any _ _ _ _ _ _ C4.out hlen).mono ?_
      rintro e w1 ⟨A1, k1, rfl, _, hO, hB1⟩
      obtain ⟨cs, hcs, hcz⟩ := H.out.row
      have hr1 := hcs.below hB1 hsz
      obtain ⟨x0, d0⟩ : ∃ x0, w1.cell? ⟨w.heap.size, k * 3, none⟩ = some x0 := ⟨_, (hr1.cell (k * 3)).trans (Array.getElem?_eq_getElem (by omega))⟩
      obtain ⟨x1, d1⟩ : ∃ x1, w1.cell? ⟨w.heap.size, k * 3 + 1, none⟩ = some x1 := ⟨_, (hr1.cell (k * 3 + 1)).trans (Array.getElem?_eq_getElem (by omega))⟩
      obtain ⟨x2, d2⟩ : ∃ x2, w1.cell? ⟨w.heap.size, k * 3 + 2, none⟩ = some x2 := ⟨_, (hr1.cell (k * 3 + 2)).trans (Array.getElem?_eq_getElem (by omega))⟩
      have f0 := hr1.frozen (k * 3)
      have f1 := hr1.frozen (k * 3 + 1)
      have f2 := hr1.frozen (k * 3 + 2)
      have HO := Lib.hid hO; clear hO
      have HB1 := Lib.hid hB1; clear hB1
      clear hr1 hcs hcz
      go_wp2
      go_roundw
      case rel => exact ⟨k + 1, by omega, by go_num, by have := HB1.out.size; simp; omega, (((hB.trans (HB1.out.mono hB.size)).setCell (Nat.le_refl _) _).setCell (Nat.le_refl _) _).setCell (Nat.le_refl _) _, H.out.step hB.size hlt HB1.out HO.out⟩
      case measure => simp [intOf]; omega
    · go_wp2
      go_ret
      obtain rfl : k = rs.length := by omega
      obtain ⟨ds, hO, hl, ha⟩ := H.out.done (Nat.le_refl _)
      exact ⟨some ⟨w.heap.size, 0, none⟩, rs.length, ds, by rw [hl]; rfl, by omega, hO, ha, hB⟩

/-- A forest's copy: it says the same, its lists are the call's own; nothing older has turned. -/
def GaveF (w : World) (s : Fs) (e : Ending) (w' : World) : Prop :=
  ∃ f : Fo, e = .returned (.agg #[.slice f.a f.ns.length f.c, .slice f.b f.es.length f.d]) ∧ f.say = s ∧ OwnF w' w.heap.size f ∧ CapF f ∧ Below w.heap.size w w'

set_option maxHeartbeats 2000000 in
theorem toForest_any (f : Fo) (w : World) (hr : ReadF w w.heap.size f) (hm : LenF 1048576 f) :
    Calls Try.prog 6 #[(.agg #[.slice f.a f.ns.length f.c, .slice f.b f.es.length f.d])] w (GaveF w f.say) := by
  have HR := Lib.hid hr; clear hr
  have HM := Lib.hid hm; clear hm
  go_enter Try.func6, Try.ntmps6
  go_wp2_with fail
  have hB0 : Below w.heap.size w (((w.alloc (.cells #[.slice f.a f.ns.length f.c, .slice f.b f.es.length f.d] 25)).alloc (.cells #[.slice none 0 0, .slice none 0 0] 31)).alloc (.cells #[.slice none 0 0, .slice none 0 0] 31)) := by go_grown
  have hz0 : (((w.alloc (.cells #[.slice f.a f.ns.length f.c, .slice f.b f.es.length f.d] 25)).alloc (.cells #[.slice none 0 0, .slice none 0 0] 31)).alloc (.cells #[.slice none 0 0, .slice none 0 0] 31)).heap.size = w.heap.size + 3 := by simp
  have Rf : Row (((w.alloc (.cells #[.slice f.a f.ns.length f.c, .slice f.b f.es.length f.d] 25)).alloc (.cells #[.slice none 0 0, .slice none 0 0] 31)).alloc (.cells #[.slice none 0 0, .slice none 0 0] 31)) w.heap.size 25 #[.slice f.a f.ns.length f.c, .slice f.b f.es.length f.d] := ((Row.new _ _ _).alloc _).alloc _
  have Rr : Row (((w.alloc (.cells #[.slice f.a f.ns.length f.c, .slice f.b f.es.length f.d] 25)).alloc (.cells #[.slice none 0 0, .slice none 0 0] 31)).alloc (.cells #[.slice none 0 0, .slice none 0 0] 31)) (w.heap.size + 1) 31 #[.slice none 0 0, .slice none 0 0] := by
    have h := Row.new (w.alloc (.cells #[.slice f.a f.ns.length f.c, .slice f.b f.es.length f.d] 25)) 31 #[.slice none 0 0, .slice none 0 0]
    rw [World.size_alloc] at h; exact h.alloc _
  have Ro : Row (((w.alloc (.cells #[.slice f.a f.ns.length f.c, .slice f.b f.es.length f.d] 25)).alloc (.cells #[.slice none 0 0, .slice none 0 0] 31)).alloc (.cells #[.slice none 0 0, .slice none 0 0] 31)) (w.heap.size + 1 + 1) 31 #[.slice none 0 0, .slice none 0 0] := by
    have h := Row.new ((w.alloc (.cells #[.slice f.a f.ns.length f.c, .slice f.b f.es.length f.d] 25)).alloc (.cells #[.slice none 0 0, .slice none 0 0] 31)) 31 #[.slice none 0 0, .slice none 0 0]
    rw [World.size_alloc, World.size_alloc] at h; exact h
  generalize (((w.alloc (.cells #[.slice f.a f.ns.length f.c, .slice f.b f.es.length f.d] 25)).alloc (.cells #[.slice none 0 0, .slice none 0 0] 31)).alloc (.cells #[.slice none 0 0, .slice none 0 0] 31)) = W at hB0 hz0 Rf Rr Ro ⊢
  have HB0 := Lib.hid hB0; clear hB0
  have HZ0 : Hid (W.heap.size = w.heap.size + 3) := hz0
  clear hz0
  have HRf0 := Lib.hid Rf; clear Rf
  have HRr0 := Lib.hid Rr; clear Rr
  have HRo0 := Lib.hid Ro; clear Ro
  refine (toNodeS_any _ _ _ _ ((HR.out.1.keep HB0.out).more HB0.out.size) HM.out.n).mono ?_
  rintro e w1 ⟨A1, c1, rfl, k1, o1, hB1⟩
  have HO1 : Hid (OwnNd w1 (w.heap.size + 3) A1 f.ns) := o1.lower (by rw [HZ0.out]; exact Nat.le_refl _)
  have HZ1 : Hid (w.heap.size + 3 ≤ w1.heap.size) := by have := hB1.size; have := HZ0.out; show _ ≤ _; omega
  have HRf1 := Lib.hid (HRf0.out.below hB1 HRf0.out.lt); clear HRf0
  have HRr1 := Lib.hid (HRr0.out.below hB1 HRr0.out.lt); clear HRr0
  have HRo1 := Lib.hid (HRo0.out.below hB1 HRo0.out.lt); clear HRo0
  have HB1 := Lib.hid (HB0.out.trans (hB1.mono HB0.out.size)); clear hB1 HB0 o1
  have K1 := Lib.hid k1; clear k1
  have p1 := HRf1.out.cell 1
  have x0 := HRo1.out.cell 0
  have y0 := HRo1.out.frozen 0
  simp only [List.getElem?_toArray, List.getElem?_cons_succ, List.getElem?_cons_zero] at p1 x0
  go_wp2_with fail
  have HB1' : Hid (Below w.heap.size w (w1.setCell ⟨w.heap.size + 1 + 1, 0, none⟩ (.slice A1 f.ns.length c1))) := HB1.out.setCell (by simp; omega) _
  have HO1' : Hid (OwnNd (w1.setCell ⟨w.heap.size + 1 + 1, 0, none⟩ (.slice A1 f.ns.length c1)) (w.heap.size + 3) A1 f.ns) := HO1.out.low (by simp) _
  have HZ1' : Hid (w.heap.size + 3 ≤ (w1.setCell ⟨w.heap.size + 1 + 1, 0, none⟩ (.slice A1 f.ns.length c1)).heap.size) := by show _ ≤ _; have := HZ1.out; simp [World.setCell]; omega
  have HRf1' : Hid (Row (w1.setCell ⟨w.heap.size + 1 + 1, 0, none⟩ (.slice A1 f.ns.length c1)) w.heap.size 25 #[.slice f.a f.ns.length f.c, .slice f.b f.es.length f.d]) := HRf1.out.far (by simp; omega) _
  have HRr1' : Hid (Row (w1.setCell ⟨w.heap.size + 1 + 1, 0, none⟩ (.slice A1 f.ns.length c1)) (w.heap.size + 1) 31 #[.slice none 0 0, .slice none 0 0]) := HRr1.out.far (by simp) _
  have HRo1' : Hid (Row (w1.setCell ⟨w.heap.size + 1 + 1, 0, none⟩ (.slice A1 f.ns.length c1)) (w.heap.size + 1 + 1) 31 #[.slice A1 f.ns.length c1, .slice none 0 0]) := by
    have h := HRo1.out.set 0 (.slice A1 f.ns.length c1)
    show Row _ _ _ _; simpa using h
  clear HB1 HO1 HZ1 HRf1 HRr1 HRo1 p1 x0 y0
  generalize (w1.setCell ⟨w.heap.size + 1 + 1, 0, none⟩ (.slice A1 f.ns.length c1)) = w2 at HB1' HO1' HZ1' HRf1' HRr1' HRo1' ⊢
  refine (toEdgeS_any _ _ _ _ ((HR.out.2.keep HB1'.out).more HB1'.out.size) HM.out.e HM.out.r).mono ?_
  rintro e w3 ⟨A3, c3, es, rfl, k3, o3, s3, hB3⟩
  have HO3 : Hid (OwnEg w3 (w.heap.size + 3) A3 es) := o3.lower HZ1'.out
  have HO3' := Lib.hid (HO1'.out.below hB3 (Nat.le_refl _))
  have HRr3 := Lib.hid (HRr1'.out.below hB3 HRr1'.out.lt)
  have HRo3 := Lib.hid (HRo1'.out.below hB3 HRo1'.out.lt)
  have HB3 := Lib.hid (HB1'.out.trans (hB3.mono HB1'.out.size)); clear hB3 HB1' HRr1' HRo1' HRf1' HO1' HZ1' o3
  have K3 := Lib.hid k3; clear k3
  have S3 := Lib.hid s3; clear s3
  have x0 := HRo3.out.cell 0
  have x1 := HRo3.out.cell 1
  have y0 := HRo3.out.frozen 0
  have y1 := HRo3.out.frozen 1
  have r0 := HRr3.out.cell 0
  have r1 := HRr3.out.cell 1
  have q0 := HRr3.out.frozen 0
  have q1 := HRr3.out.frozen 1
  simp only [List.getElem?_toArray, List.getElem?_cons_succ, List.getElem?_cons_zero] at x0 x1 r0 r1
  go_wp2_with fail
  refine bodyPost_ret (v := .agg #[.slice A1 f.ns.length c1, .slice A3 es.length c3]) (by simp [results, Try.results6, go_sem, r0, r1]) rfl ⟨⟨A1, f.ns, c1, A3, es, c3⟩, rfl, ?_, ⟨?_, ?_⟩, ⟨K1.out, K3.out⟩, ?_⟩
  · show Fs.mk _ _ = Fs.mk _ _; rw [S3.out]
  · exact (((HO3'.out.low (by simp) _).low (by simp) _).low (by simp) _).lower (by omega)
  · exact (((HO3.out.low (by simp) _).low (by simp) _).low (by simp) _).lower (by omega)
  · exact ((HB3.out.setCell (by simp; omega) _).setCell (by simp) _).setCell (by simp) _

end Go.Proofs.Ytbgjlabjihoaaaa

/- The law of SameForest: its walk. -/

namespace Go.Proofs.Ytbgjlabjihoaaaa
open Go.RowKit

set_option maxRecDepth 20000 in
set_option maxHeartbeats 2000000 in
theorem law_SameForest (f f' : Fo) (w : World) (hx : ReadF w w.heap.size f) (hm : LenF maxLen f) (hy : ReadF w w.heap.size f') (hm' : LenF maxLen f') :
    Calls Try.prog 3 #[(.agg #[.slice f.a f.ns.length f.c, .slice f.b f.es.length f.d]), (.agg #[.slice f'.a f'.ns.length f'.c, .slice f'.b f'.es.length f'.d])] w (LawEnds w) := by
  have HX := Lib.hid hx; clear hx
  have HY := Lib.hid hy; clear hy
  have HM := Lib.hid hm; clear hm
  have HN := Lib.hid hm'; clear hm'
  go_enter Try.func3, Try.ntmps3
  go_wp2_with fail
  have hBA : Below w.heap.size w ((w.alloc (.cells #[.slice f.a f.ns.length f.c, .slice f.b f.es.length f.d] 25)).alloc (.cells #[.slice f'.a f'.ns.length f'.c, .slice f'.b f'.es.length f'.d] 25)) := by go_grown
  have B0 : BoxF ((w.alloc (.cells #[.slice f.a f.ns.length f.c, .slice f.b f.es.length f.d] 25)).alloc (.cells #[.slice f'.a f'.ns.length f'.c, .slice f'.b f'.es.length f'.d] 25)) w.heap.size f := (BoxF.new w f _).keep (B := w.heap.size + 1) (by go_grown) (by omega)
  have B1 : BoxF ((w.alloc (.cells #[.slice f.a f.ns.length f.c, .slice f.b f.es.length f.d] 25)).alloc (.cells #[.slice f'.a f'.ns.length f'.c, .slice f'.b f'.es.length f'.d] 25)) (w.heap.size + 1) f' := by
    have h := BoxF.new (w.alloc (.cells #[.slice f.a f.ns.length f.c, .slice f.b f.es.length f.d] 25)) f' 25
    rw [World.size_alloc] at h; exact h
  generalize ((w.alloc (.cells #[.slice f.a f.ns.length f.c, .slice f.b f.es.length f.d] 25)).alloc (.cells #[.slice f'.a f'.ns.length f'.c, .slice f'.b f'.es.length f'.d] 25)) = W at hBA B0 B1 ⊢
  have HBA := Lib.hid hBA; clear hBA
  have HB0 := Lib.hid B0; clear B0
  have HB1 := Lib.hid B1; clear B1
  refine (szForest_any _ _ _ ((HX.out.keep HBA.out).more HBA.out.size) HM.out (by omega) (by omega)).mono ?_
  rintro e w1 ⟨rfl, hB1⟩
  by_cases hneg : szFo f.ns.length f.es 1048576 < 0
  · go_wp2
    go_ret
    exact ⟨rfl, HBA.out.trans (hB1.mono HBA.out.size)⟩
  have hb1 := (szFo_bound (f := f) (L := 1048576) (by omega) (by omega) (by omega))
  have HLN : Hid (LenF 1048576 f) := hb1.1
  have hle := hb1.2
  clear hb1
  have K0 := Lib.hid (HB0.out.keep hB1 HB0.out.1)
  have K1 := Lib.hid (HB1.out.keep hB1 HB1.out.1)
  have HW1 := Lib.hid (HBA.out.trans (hB1.mono HBA.out.size))
  clear hB1 HB0 HB1 HBA
  obtain ⟨_, a0, a1⟩ := K0.out
  obtain ⟨_, b0, b1⟩ := K1.out
  go_wp2_with fail
  refine (szForest_any _ _ _ ((HY.out.keep HW1.out).more HW1.out.size) HN.out (by omega) hle).mono ?_
  rintro e w2 ⟨rfl, hB2⟩
  clear a0 a1 b0 b1
  by_cases hneg2 : szFo f'.ns.length f'.es (szFo f.ns.length f.es 1048576) < 0
  · go_wp2
    go_ret
    exact ⟨rfl, HW1.out.trans (hB2.mono HW1.out.size)⟩
  have HLM : Hid (LenF 1048576 f') := (szFo_bound (f := f') (L := szFo f.ns.length f.es 1048576) (by omega) hle (by omega)).1
  have J0 := Lib.hid (K0.out.keep hB2 K0.out.1)
  have J1 := Lib.hid (K1.out.keep hB2 K1.out.1)
  have HW2 := Lib.hid (HW1.out.trans (hB2.mono HW1.out.size))
  have HX2 := Lib.hid ((HX.out.keep HW2.out).more HW2.out.size)
  have HY2 := Lib.hid ((HY.out.keep HW2.out).more HW2.out.size)
  clear hB2 K0 K1 HW1
  obtain ⟨_, a0, a1⟩ := J0.out
  obtain ⟨_, b0, b1⟩ := J1.out
  have hd : ((decide (f.say = f'.say)) != (decide (f.say = f'.say))) = false := by simp
  have HD : Hid (∀ (g g' : Fo), g.say = f.say → g'.say = f'.say → decide (g.say = g'.say) = decide (f.say = f'.say)) := fun g g' e1 e2 => by rw [e1, e2]
  generalize decide (f.say = f'.say) = same at hd HD
  have HT0 : Hid (∀ v, Below w2.heap.size w2 v → Calls Try.prog 6 #[(.agg #[.slice f.a f.ns.length f.c, .slice f.b f.es.length f.d])] v (GaveF v f.say)) := fun v hv => toForest_any f v ((HX2.out.keep hv).more hv.size) HLN.out
  have HT1 : Hid (∀ v, Below w2.heap.size w2 v → Calls Try.prog 6 #[(.agg #[.slice f'.a f'.ns.length f'.c, .slice f'.b f'.es.length f'.d])] v (GaveF v f'.say)) := fun v hv => toForest_any f' v ((HY2.out.keep hv).more hv.size) HLM.out
  have HSP : Hid (∀ (g g' : Fo) v, OwnF v w2.heap.size g → OwnF v w2.heap.size g' → g.say = f.say → g'.say = f'.say → Calls Try.prog 5 #[(.agg #[.slice g.a g.ns.length g.c, .slice g.b g.es.length g.d]), (.agg #[.slice g'.a g'.ns.length g'.c, .slice g'.b g'.es.length g'.d])] v fun e v' => e = .returned (.bool same) ∧ Below v.heap.size v v') := fun g g' v h1 h2 h3 h4 => by
    have h5 := specSameForest_any g g' v h1.read h2.read (HLN.out.of_say h3)
    rw [HD.out _ _ h3 h4] at h5
    exact h5
  go_wp2_with fail
  go_region_held3 (fun w' => w'.cell? ⟨w.heap.size, 0, none⟩ = some (.slice f.a f.ns.length f.c) ∧ w'.cell? ⟨w.heap.size, 1, none⟩ = some (.slice f.b f.es.length f.d) ∧ w'.cell? ⟨w.heap.size + 1, 0, none⟩ = some (.slice f'.a f'.ns.length f'.c) ∧ w'.cell? ⟨w.heap.size + 1, 1, none⟩ = some (.slice f'.b f'.es.length f'.d))
    (first | exact ⟨v0, v1, v2, v3⟩ | exact ⟨z0, z1, z2, z3⟩ | exact ⟨y0, y1, y2, y3⟩ | exact ⟨a0, a1, b0, b1⟩)
    (first
    | (go_at_call 6
       with_reducible refine (HT0.out _ ?_).mono ?_
       · go_grown
       rintro e w3 ⟨f3, rfl, hs3, hO3, _, hB3'⟩
       have hB3 : Below w2.heap.size w2 w3 := Below.trans (by go_grown) hB3'
       obtain ⟨_, y0, y1⟩ := J0.out.keep hB3 J0.out.1
       obtain ⟨_, y2, y3⟩ := J1.out.keep hB3 J1.out.1
       have HO3 := Lib.hid hO3
       have HS3 := Lib.hid hs3
       have HB3 := Lib.hid hB3
       clear hO3 hs3 hB3 hB3')
    | (go_at_call 6
       with_reducible refine (HT1.out _ HB3.out).mono ?_
       rintro e w4 ⟨f4, rfl, hs4, hO4, _, hB4'⟩
       have hB4 : Below w2.heap.size w2 w4 := HB3.out.trans (hB4'.mono HB3.out.size)
       obtain ⟨_, z0, z1⟩ := J0.out.keep hB4 J0.out.1
       obtain ⟨_, z2, z3⟩ := J1.out.keep hB4 J1.out.1
       have HO34 : Hid (OwnF w4 w2.heap.size f3) := (HO3.out.below hB4' (Nat.le_refl _)).lower (by simp)
       have HO4 : Hid (OwnF w4 w2.heap.size f4) := hO4.lower HB3.out.size
       have HS4 := Lib.hid hs4
       have HB4 := Lib.hid hB4
       clear hO4 hs4 hB4 hB4')
    | (go_at_call 5
       with_reducible refine (HSP.out f3 f4 _ HO34.out HO4.out HS3.out HS4.out).mono ?_
       rintro e w5 ⟨rfl, hB5'⟩
       have hB5 : Below w2.heap.size w2 w5 := HB4.out.trans (hB5'.mono HB4.out.size)
       obtain ⟨_, v0, v1⟩ := J0.out.keep hB5 J0.out.1
       obtain ⟨_, v2, v3⟩ := J1.out.keep hB5 J1.out.1
       have HB5 := Lib.hid hB5
       clear hB5 hB5'))
  rename_i hHeld
  clear hHeld a0 a1 b0 b1 y0 y1 y2 y3 z0 z1 z2 z3 HO3 HS3 HB3 HO34 HO4 HS4 HB4 HSP HT0 HT1
  have L0 := Lib.hid (J0.out.keep HB5.out J0.out.1)
  have L1 := Lib.hid (J1.out.keep HB5.out J1.out.1)
  have HW5 := Lib.hid (HW2.out.trans (HB5.out.mono HW2.out.size))
  have HX5 := Lib.hid ((HX.out.keep HW5.out).more HW5.out.size)
  have HY5 := Lib.hid ((HY.out.keep HW5.out).more HW5.out.size)
  clear HB5 J0 J1 HW2 HX2 HY2
  -- the program's arguments, copies
  go_wp2_with fail
  refine (toForest_any _ _ HX5.out HLN.out).mono ?_
  rintro e w6 ⟨f6, rfl, hs6, hO6, _, hB6⟩
  have HLN6 := Lib.hid (HLN.out.of_say hs6)
  have HS6 := Lib.hid hs6; clear hs6
  clear v0 v1 v2 v3
  obtain ⟨_, b0, b1⟩ := L1.out.keep hB6 L1.out.1
  go_wp2_with fail
  clear b0 b1
  have hBX : Below w6.heap.size w6 (w6.alloc (.cells #[.slice f6.a f6.ns.length f6.c, .slice f6.b f6.es.length f6.d] 31)) := by go_grown
  have B6 := BoxF.new w6 f6 31
  have hXS : (w6.alloc (.cells #[.slice f6.a f6.ns.length f6.c, .slice f6.b f6.es.length f6.d] 31)).heap.size = w6.heap.size + 1 := by simp
  generalize (w6.alloc (.cells #[.slice f6.a f6.ns.length f6.c, .slice f6.b f6.es.length f6.d] 31)) = X at hBX B6 hXS ⊢
  have HOX := Lib.hid (hO6.below hBX (Nat.le_refl _)); clear hO6
  have HBX := Lib.hid (hB6.trans (hBX.mono hB6.size)); clear hBX hB6
  have KX := Lib.hid B6; clear B6
  have M0 := Lib.hid (L0.out.keep HBX.out L0.out.1)
  have M1 := Lib.hid (L1.out.keep HBX.out L1.out.1)
  have HWX := Lib.hid (HW5.out.trans (HBX.out.mono HW5.out.size))
  have HYX := Lib.hid ((HY.out.keep HWX.out).more HWX.out.size)
  clear HBX L0 L1 HW5 HX5 HY5
  refine (toForest_any _ _ HYX.out HLM.out).mono ?_
  rintro e w7 ⟨f7, rfl, hs7, hO7, _, hB7⟩
  have HLM7 := Lib.hid (HLM.out.of_say hs7)
  have HS7 := Lib.hid hs7; clear hs7
  have HOX7 := Lib.hid (HOX.out.below hB7 (Nat.le_refl _))
  have KX7 := Lib.hid (KX.out.keep hB7 KX.out.1)
  have M07 := Lib.hid (M0.out.keep hB7 M0.out.1)
  have M17 := Lib.hid (M1.out.keep hB7 M1.out.1)
  have HW7 := Lib.hid (HWX.out.trans (hB7.mono HWX.out.size))
  clear hB7 M0 M1 HWX HYX HOX KX
  obtain ⟨_, x0, x1⟩ := KX7.out
  go_wp2_with fail
  clear x0 x1
  have hBX : Below w7.heap.size w7 (w7.alloc (.cells #[.slice f7.a f7.ns.length f7.c, .slice f7.b f7.es.length f7.d] 31)) := by go_grown
  have B7 := BoxF.new w7 f7 31
  generalize (w7.alloc (.cells #[.slice f7.a f7.ns.length f7.c, .slice f7.b f7.es.length f7.d] 31)) = Y at hBX B7 ⊢
  have HO7 := Lib.hid (hO7.below hBX (Nat.le_refl _)); clear hO7
  have HO6 := Lib.hid (HOX7.out.below hBX (Nat.le_refl _))
  have N6 := Lib.hid (KX7.out.keep hBX KX7.out.1)
  have N7 := Lib.hid B7; clear B7
  have N0 := Lib.hid (M07.out.keep hBX M07.out.1)
  have N1 := Lib.hid (M17.out.keep hBX M17.out.1)
  have HWY := Lib.hid (HW7.out.trans (hBX.mono HW7.out.size))
  clear hBX HOX7 KX7 M07 M17 HW7
  have HIM : Hid (Calls Try.prog 7 #[(.agg #[.slice f6.a f6.ns.length f6.c, .slice f6.b f6.es.length f6.d]), (.agg #[.slice f7.a f7.ns.length f7.c, .slice f7.b f7.es.length f7.d])] Y fun e v' => e = .returned (.bool same) ∧ Below Y.heap.size Y v') := by
    have h5 := implSameForest_any f6 f7 Y HO6.out.read HO7.out.read HLN6.out
    rw [HD.out _ _ HS6.out HS7.out] at h5
    exact h5
  refine HIM.out.mono ?_
  rintro e w8 ⟨rfl, hB8⟩
  clear HIM
  have P6 := Lib.hid (N6.out.keep hB8 N6.out.1)
  have P7 := Lib.hid (N7.out.keep hB8 N7.out.1)
  have P0 := Lib.hid (N0.out.keep hB8 N0.out.1)
  have P1 := Lib.hid (N1.out.keep hB8 N1.out.1)
  have HO68 := Lib.hid (HO6.out.below hB8 (Nat.le_refl _)).read
  have HO78 := Lib.hid (HO7.out.below hB8 (Nat.le_refl _)).read
  have HW8 := Lib.hid (HWY.out.trans (hB8.mono HWY.out.size))
  have HX8 := Lib.hid ((HX.out.keep HW8.out).more HW8.out.size)
  clear hB8 N6 N7 N0 N1 HWY HO6 HO7
  obtain ⟨_, x0, x1⟩ := P6.out
  obtain ⟨_, a0, a1⟩ := P0.out
  have HT8 : Hid (∀ v, Below w8.heap.size w8 v → Calls Try.prog 6 #[(.agg #[.slice f.a f.ns.length f.c, .slice f.b f.es.length f.d])] v (GaveF v f.say)) := fun v hv => toForest_any f v ((HX8.out.keep hv).more hv.size) HLN.out
  have HEQ9 : Hid (∀ g v, Below w8.heap.size w8 v → ReadF v v.heap.size g → g.say = f.say → Calls Try.prog 8 #[(.agg #[.slice f6.a f6.ns.length f6.c, .slice f6.b f6.es.length f6.d]), (.agg #[.slice g.a g.ns.length g.c, .slice g.b g.es.length g.d])] v fun e v' => e = .returned (.bool true) ∧ Below v.heap.size v v') := fun g v hv h1 h2 =>
    eqForest_same f6 g v ((HO68.out.keep hv).more hv.size) h1 HLN6.out (HS6.out.trans h2.symm)
  go_wp2_with fail
  go_region_held3 (fun w' => w'.cell? ⟨w6.heap.size, 0, none⟩ = some (.slice f6.a f6.ns.length f6.c) ∧ w'.cell? ⟨w6.heap.size, 1, none⟩ = some (.slice f6.b f6.es.length f6.d) ∧ w'.cell? ⟨w.heap.size, 0, none⟩ = some (.slice f.a f.ns.length f.c) ∧ w'.cell? ⟨w.heap.size, 1, none⟩ = some (.slice f.b f.es.length f.d))
    (first | exact ⟨v0, v1, v2, v3⟩ | exact ⟨y0, y1, y2, y3⟩ | exact ⟨x0, x1, a0, a1⟩)
    (first
    | (go_at_call 6
       with_reducible refine (HT8.out _ ?_).mono ?_
       · go_grown
       rintro e w9 ⟨f9, rfl, hs9, hO9, _, hB9'⟩
       have hB9 : Below w8.heap.size w8 w9 := Below.trans (by go_grown) hB9'
       obtain ⟨_, y0, y1⟩ := P6.out.keep hB9 P6.out.1
       obtain ⟨_, y2, y3⟩ := P0.out.keep hB9 P0.out.1
       have HO9 := Lib.hid hO9.read
       have HS9 := Lib.hid hs9
       have HB9 := Lib.hid hB9
       clear hO9 hs9 hB9 hB9')
    | (go_at_call 8
       with_reducible refine (HEQ9.out _ _ HB9.out HO9.out HS9.out).mono ?_
       rintro e w10 ⟨rfl, hB10'⟩
       have hB10 : Below w8.heap.size w8 w10 := HB9.out.trans (hB10'.mono HB9.out.size)
       obtain ⟨_, v0, v1⟩ := P6.out.keep hB10 P6.out.1
       obtain ⟨_, v2, v3⟩ := P0.out.keep hB10 P0.out.1
       have HB10 := Lib.hid hB10
       clear hB10 hB10'))
  rename_i hHeld
  clear hHeld x0 x1 a0 a1 y0 y1 y2 y3
  clear v0 v1 v2 v3 HO9 HS9 HB9 HT8 HEQ9
  have R7 := Lib.hid (P7.out.keep HB10.out P7.out.1)
  have R1 := Lib.hid (P1.out.keep HB10.out P1.out.1)
  have HO710 := Lib.hid ((HO78.out.keep HB10.out).more HB10.out.size)
  have HW10 := Lib.hid (HW8.out.trans (HB10.out.mono HW8.out.size))
  have HY10 := Lib.hid ((HY.out.keep HW10.out).more HW10.out.size)
  clear HB10 P6 P7 P0 P1 HO68 HO78 HW8 HX8
  obtain ⟨_, x0, x1⟩ := R7.out
  obtain ⟨_, a0, a1⟩ := R1.out
  have HT10 : Hid (∀ v, Below w10.heap.size w10 v → Calls Try.prog 6 #[(.agg #[.slice f'.a f'.ns.length f'.c, .slice f'.b f'.es.length f'.d])] v (GaveF v f'.say)) := fun v hv => toForest_any f' v ((HY10.out.keep hv).more hv.size) HLM.out
  have HEQ11 : Hid (∀ g v, Below w10.heap.size w10 v → ReadF v v.heap.size g → g.say = f'.say → Calls Try.prog 8 #[(.agg #[.slice f7.a f7.ns.length f7.c, .slice f7.b f7.es.length f7.d]), (.agg #[.slice g.a g.ns.length g.c, .slice g.b g.es.length g.d])] v fun e v' => e = .returned (.bool true) ∧ Below v.heap.size v v') := fun g v hv h1 h2 =>
    eqForest_same f7 g v ((HO710.out.keep hv).more hv.size) h1 HLM7.out (HS7.out.trans h2.symm)
  go_wp2_with fail
  go_region_held3 (fun w' => w'.cell? ⟨w7.heap.size, 0, none⟩ = some (.slice f7.a f7.ns.length f7.c) ∧ w'.cell? ⟨w7.heap.size, 1, none⟩ = some (.slice f7.b f7.es.length f7.d) ∧ w'.cell? ⟨w.heap.size + 1, 0, none⟩ = some (.slice f'.a f'.ns.length f'.c) ∧ w'.cell? ⟨w.heap.size + 1, 1, none⟩ = some (.slice f'.b f'.es.length f'.d))
    (first | exact ⟨v0, v1, v2, v3⟩ | exact ⟨y0, y1, y2, y3⟩ | exact ⟨x0, x1, a0, a1⟩)
    (first
    | (go_at_call 6
       with_reducible refine (HT10.out _ ?_).mono ?_
       · go_grown
       rintro e w11 ⟨f11, rfl, hs11, hO11, _, hB11'⟩
       have hB11 : Below w10.heap.size w10 w11 := Below.trans (by go_grown) hB11'
       obtain ⟨_, y0, y1⟩ := R7.out.keep hB11 R7.out.1
       obtain ⟨_, y2, y3⟩ := R1.out.keep hB11 R1.out.1
       have HO11 := Lib.hid hO11.read
       have HS11 := Lib.hid hs11
       have HB11 := Lib.hid hB11
       clear hO11 hs11 hB11 hB11')
    | (go_at_call 8
       with_reducible refine (HEQ11.out _ _ HB11.out HO11.out HS11.out).mono ?_
       rintro e w12 ⟨rfl, hB12'⟩
       have hB12 : Below w10.heap.size w10 w12 := HB11.out.trans (hB12'.mono HB11.out.size)
       obtain ⟨_, v0, v1⟩ := R7.out.keep hB12 R7.out.1
       obtain ⟨_, v2, v3⟩ := R1.out.keep hB12 R1.out.1
       have HB12 := Lib.hid hB12
       clear hB12 hB12'))
  rename_i hHeld
  clear hHeld x0 x1 a0 a1 y0 y1 y2 y3
  go_wp2
  go_ret
  exact ⟨rfl, HW10.out.trans (HB12.out.mono HW10.out.size)⟩

end Go.Proofs.Ytbgjlabjihoaaaa

/- The law of SameForest holds of every two forests that can be read: the call returns true, and what was handed in reads afterwards as it read before. No condition. -/

namespace Go.Proofs.Ytbgjlabjihoaaaa
open Go.ChangeShapes Go.WideShapes Go.ChangeAt Go.RowKit

set_option maxRecDepth 100000 in
theorem sameForest_lifted (os : Os) (started : os.Started) (H : Type) (enc : TypeId × Value → H) :
    ReturnsInHanded {} Try.checked os 3 .any (Rows.fnExactSameForestSpec.pre6 enc Try.prog Try.f3 Rows.fnExactSameForestRow.domain false)
      (Rows.fnExactSameForestSpec.post enc Try.prog Try.f3 false true false false) := by
  refine returnsInHanded_of_change (C := Try.checked) Try.own started (by kernel_rfl) Try.func3
    (ChangeSpec.witness6 (enc := enc) (C := Try.checked) false ⟨#[], #[.agg #[.slice none 0 0, .slice none 0 0], .agg #[.slice none 0 0, .slice none 0 0]], []⟩ 8 (by kernel_rfl) (by kernel_rfl) (by kernel_rfl) (by kernel_rfl)) ?_
  intro W base args ds gs before hval0 hW hcnd _
  have hval : ∀ (j : Nat) t v, Try.f3.params[j]? = some t → args[j]? = some v → Value.okWide Try.prog W .any base t v := hval0
  have hW' := hW
  obtain ⟨p, q, hA0, hV, rfl, hfz, hnd⟩ := hW
  have hA : DataW.TrodAll enc Try.prog W 0 (fun _ => true) true Try.f3.params.toList args.toList ds p := hA0
  rw [Try.params3] at hA hval
  obtain ⟨v0, v1, d0, d1, p0, p1, rfl, rfl, rfl, h0, h1⟩ := trodAll_two hA
  obtain ⟨rfl, rfl⟩ := trodVars_none hV
  obtain ⟨f0, rfl, _, hR0, hM0, _⟩ := open_forest (hval 0 25 v0 rfl rfl) h0
  obtain ⟨f1, rfl, _, hR1, hM1, _⟩ := open_forest (hval 1 25 v1 rfl rfl) h1
  refine (law_SameForest f0 f1 W hR0 hM0 hR1 hM1).mono fun e W' ⟨he, hb⟩ => ?_
  subst he
  exact ⟨_, rfl, ends_two hW' Try.params3 rfl rfl (by kernel_rfl) (of_decide_eq_true (by kernel_rfl)) (by kernel_rfl) (of_decide_eq_true (by kernel_rfl)) (by kernel_rfl) hb⟩

theorem sameForest_holds : Rows.FnExactSameForestSaid :=
  OpenClaim.holds_of_wide 3 Try.f3 rfl rfl rfl rfl rfl rfl rfl ⟨rfl, rfl, rfl, rfl, rfl⟩ rfl rfl rfl rfl rfl (by kernel_rfl) Try.func3 (by kernel_rfl)
    (of_decide_eq_true (by kernel_rfl)) (by unfold Func.isWrapper; first | (rw [if_pos (by decide +kernel)]; kernel_rfl) | (rw [if_neg (by decide +kernel)]; exact ⟨rfl, rfl⟩))
    (fun os started H enc _ => sameForest_lifted os started H enc)

#print axioms sameForest_holds
end Go.Proofs.Ytbgjlabjihoaaaa
