/- The reference's l5Insert: a list put into its place among rising lists. -/
import Derived.Test.YtfbpcdmpkbjifaaDoorC803
import Derived.Test.YtfbpcdmpkbjifaaDoorC805
import Derived.Test.YtfbpcdmpkbjifaaDoorC806
import Derived.Test.YtfbpcdmpkbjifaaDoorC804
import Derived.Deep.WholeRow
import Derived.Laws.StructEq
import Derived.Deep.LoopGhost
import Derived.Sort.Grow
import Derived.Sort.OwnSorted
import Derived.OwnWalk
import Derived.LoopN

namespace Go.Proofs.YtfbpcdmpkbjifaaDoor
open Go.RowKit

/-- A slice of lists that is the call's own; the lists can be read. -/
structure LsR (w : World) (lo : Nat) (v : Value) (ds : List Li) : Prop where
  row : w.ownsRow lo 22 1 v ds.length (ds.map cellsL)
  caps : ∀ u ∈ ds, u.r.length ≤ u.c
  own : ∀ u ∈ ds, OwnI w lo u.a u.r
  far : ds.Pairwise fun u v => u.r ≠ [] → v.r ≠ [] → u.a ≠ v.a
theorem LsR.start (w : World) (lo : Nat) : LsR w lo (.slice none 0 0) [] := ⟨⟨rfl, .inl ⟨rfl, rfl⟩⟩, fun u h => by simp at h, fun u h => by simp at h, List.Pairwise.nil⟩
/-- A list that was made later lies apart. -/
theorem LsR.apart {w w1 : World} {lo : Nat} {v : Value} {ds : List Li} {A : Option Addr} {xs : List Int} (h : LsR w lo v ds) (hO : OwnI w1 w.heap.size A xs) : ∀ u ∈ ds, u.r ≠ [] → xs ≠ [] → u.a ≠ A := by
  intro u hu hne hne' he
  rcases h.own u hu with h6 | ⟨g1, _, e1, _, r1, _⟩
  · exact hne h6
  · rcases hO with h7 | ⟨g2, _, e2, l2, _, _⟩
    · exact hne' h7
    · rw [e1, e2] at he
      have := r1.lt
      injection he with he
      injection he with he
      omega
theorem LsR.keep {w w' : World} {lo : Nat} {v : Value} {ds : List Li} (h : LsR w lo v ds) (hb : Below w.heap.size w w') : LsR w' lo v ds :=
  ⟨own_below h.row hb, h.caps, fun u hu => (h.own u hu).below hb (Nat.le_refl _), h.far⟩
theorem LsR.shape {w : World} {lo : Nat} {v : Value} {ds : List Li} (h : LsR w lo v ds) : ∃ A c, v = .slice A ds.length c ∧ ds.length ≤ c ∧ Lls w w.heap.size A ds ∧ (A = none ∨ ∃ b q, A = some ⟨b, q, none⟩) := by
  rcases h.row.2 with ⟨rfl, h0⟩ | ⟨g, cap, cur, rfl, hlo, hg, hcap, _, _, hx⟩
  · exact ⟨none, 0, by rw [h0], by omega, fun h => by omega, .inl rfl⟩
  · refine ⟨_, cap, rfl, hcap, fun _ => ⟨g, 0, rfl, Row.lt (t := 22) hg, fun k u hu => ?_⟩, .inr ⟨g, 0, rfl⟩⟩
    have hk := (List.getElem?_eq_some_iff.1 hu).1
    have f1 : (ds.map cellsL)[k]? = some (cellsL u) := by rw [List.getElem?_map, hu]; rfl
    rw [← hx, List.getElem?_take, if_pos (by omega)] at f1
    refine ⟨?_, h.caps u (List.mem_of_getElem? hu), (h.own u (List.mem_of_getElem? hu)).ints⟩
    rw [Nat.zero_add, Row.cell (t := 22) hg]
    simpa [cellsL] using f1

theorem far_put {ds : List Li} {k : Nat} {A : Option Addr} {xs : List Int} {c : Nat} (h : ds.Pairwise fun u v => u.r ≠ [] → v.r ≠ [] → u.a ≠ v.a) (hap : ∀ u ∈ ds, u.r ≠ [] → xs ≠ [] → u.a ≠ A) : (ds.take k ++ [(⟨A, xs, c⟩ : Li)] ++ ds.drop k).Pairwise fun u v => u.r ≠ [] → v.r ≠ [] → u.a ≠ v.a := by
  have hsp : (ds.take k ++ ds.drop k).Pairwise (fun u v => u.r ≠ [] → v.r ≠ [] → u.a ≠ v.a) := by rw [List.take_append_drop]; exact h
  obtain ⟨p1, p2, p3⟩ := List.pairwise_append.1 hsp
  rw [List.append_assoc]
  refine List.pairwise_append.2 ⟨p1, List.pairwise_append.2 ⟨by simp, p2, fun a h b hb => ?_⟩, fun a h b hb => ?_⟩
  · rw [List.mem_singleton] at h
    subst h
    exact fun h1 h2 e => hap b (List.mem_of_mem_drop hb) h2 h1 e.symm
  · rcases List.mem_append.1 hb with h' | h'
    · rw [List.mem_singleton] at h'
      subst h'
      exact fun h1 h2 => hap a (List.mem_of_mem_take h) h1 h2
    · exact p3 a h b h'
theorem LsR.ownL {w : World} {lo : Nat} {v : Value} {ds : List Li} (h : LsR w lo v ds) : ∃ A c, v = .slice A ds.length c ∧ ds.length ≤ c ∧ OwnL w lo A ds := by
  obtain ⟨_, ⟨rfl, h0⟩ | ⟨g, cap, cur, rfl, hlo, hg, hcap, _, _, hx⟩⟩ := h.row
  · have : ds = [] := List.eq_nil_of_length_eq_zero h0
    subst this
    exact ⟨none, 0, rfl, Nat.le_refl _, .inl rfl⟩
  · refine ⟨_, cap, rfl, hcap, .inr ⟨g, cur, rfl, hlo, hg, fun k u hu => ?_, fun i j u v hu hv hij => ?_⟩⟩
    · have hk := (List.getElem?_eq_some_iff.1 hu).1
      have f1 : (ds.map cellsL)[k]? = some (cellsL u) := by rw [List.getElem?_map, hu]; rfl
      rw [← hx, List.getElem?_take, if_pos (by omega)] at f1
      exact ⟨by simpa [cellsL] using f1, h.caps u (List.mem_of_getElem? hu), h.own u (List.mem_of_getElem? hu)⟩
    · obtain ⟨hi, eu⟩ := List.getElem?_eq_some_iff.1 hu
      obtain ⟨hj, ev⟩ := List.getElem?_eq_some_iff.1 hv
      subst eu ev
      rcases Nat.lt_or_gt_of_ne hij with h1 | h1
      · exact List.pairwise_iff_getElem.1 h.far i j hi hj h1
      · exact fun a b e => List.pairwise_iff_getElem.1 h.far j i hj hi h1 b a e.symm

theorem own_emptyL (w : World) : (w.alloc (.cells #[] 22)).ownsRow w.heap.size 22 1 (.slice (some ⟨w.heap.size, 0, none⟩) 0 0) 0 [] :=
  ⟨rfl, .inr ⟨w.heap.size, 0, #[], rfl, Nat.le_refl _, heap_alloc_new w _, Nat.le_refl _, by unfold maxLen; omega, rfl, rfl⟩⟩
theorem cellsL_one (ds : List Li) : ∀ u ∈ ds.map cellsL, u.oneCell' = true := fun u hu => by
  obtain ⟨x, _, rfl⟩ := List.mem_map.1 hu
  rfl
/-- What an owned row of lists looks like, and its cells. -/
theorem own_cellsL {w : World} {lo n : Nat} {v : Value} {xs : List Value} (h : w.ownsRow lo 22 1 v n xs) : ∃ ao c, v = .slice ao n c ∧ (0 < n → ∃ ad : Addr, ao = some ad ∧ ad.block < w.heap.size ∧ ∀ (j : Nat) (u : Value), xs[j]? = some u → w.cell? (ad.add j) = some u) := by
  obtain ⟨hl, ⟨rfl, h0⟩ | ⟨g, cap, cur, rfl, hlo, hg, hcap, _, _, hx⟩⟩ := h
  · exact ⟨none, 0, by rw [h0], fun h => by omega⟩
  · refine ⟨_, cap, rfl, fun _ => ⟨⟨g, 0, none⟩, rfl, Row.lt (t := 22) hg, fun j u hu => ?_⟩⟩
    have hj := (List.getElem?_eq_some_iff.1 hu).1
    rw [Go.WideShapes.add_plain, Nat.zero_add, Row.cell (t := 22) hg]
    rw [← hx, List.getElem?_take] at hu
    split at hu
    · simpa using hu
    · cases hu

/-- What l5Insert ends in. -/
def InsOK (w : World) (lo : Nat) (ds : List Li) (xs : List Int) (e : Ending) (w' : World) : Prop :=
  ∃ v' ds', e = .returned v' ∧ LsR w' lo v' ds' ∧ RisesL (sayL ds') ∧ (∀ z, z ∈ sayL ds' ↔ z = xs ∨ z ∈ sayL ds) ∧ ds'.length ≤ ds.length + 1 ∧ Below w.heap.size w w'

theorem sayL_take (ds : List Li) (k : Nat) : sayL (ds.take k) = (sayL ds).take k := by simp [sayL, List.map_take]
theorem sayL_drop (ds : List Li) (k : Nat) : sayL (ds.drop k) = (sayL ds).drop k := by simp [sayL, List.map_drop]

set_option maxRecDepth 20000 in
set_option maxHeartbeats 2000000 in
theorem l5Insert_any (lo : Nat) (v : Value) (ds : List Li) (Ax : Option Addr) (xs : List Int) (cx : Nat) (w : World) (hv : LsR w lo v ds) (hr : RisesL (sayL ds)) (hxo : OwnI w lo Ax xs) (hap : ∀ u ∈ ds, u.r ≠ [] → xs ≠ [] → u.a ≠ Ax) (hcx : xs.length ≤ cx) (hlen : ∀ u ∈ ds, u.r.length = xs.length) (hxl : xs.length ≤ 1000) (hdl : ds.length ≤ 4000) (hlo : lo ≤ w.heap.size) :
    Calls Tryd.prog 149 #[v, .slice Ax xs.length cx] w (InsOK w lo ds xs) := by
  obtain ⟨i0, hi0, hz0, hz1, hz2⟩ := info_of Tryd.infoIntS
  have HI1 : Hid ((Tryd.prog.info? 22).map (·.size) = some 1) := by show _ = _; kernel_rfl
  obtain ⟨A, c, rfl, hc, hLl, hAf⟩ := hv.shape
  have HV := Lib.hid hv; clear hv
  have HLL := Lib.hid hLl; clear hLl
  have HX := Lib.hid hxo.ints
  have HXO := Lib.hid hxo; clear hxo
  have HAP := Lib.hid hap; clear hap
  have HR := Lib.hid hr; clear hr
  have HLN := Lib.hid hlen; clear hlen
  have HAF := Lib.hid hAf; clear hAf
  go_enter Tryd.func149, Tryd.ntmps149
  go_wp2
  go_loopw [5] (fun i wr => ∃ (k : Nat), k ≤ ds.length ∧ i = .int .i64 k ∧ Hid (Below w.heap.size w wr) ∧ Hid (∀ (j : Nat) (y : List Int), k ≤ j → (sayL ds)[j]? = some y → cmpL xs y < 0)) (fun i _ => (intOf i).toNat)
  case atStart => exact ⟨ds.length, Nat.le_refl _, rfl, Below.refl _ _, fun j y h hy => by have := (List.getElem?_eq_some_iff.1 hy).1; rw [sayL_len] at this; omega⟩
  case round =>
    obtain ⟨k, hk, rfl, HB, H⟩ := hrel
    by_cases hlt : 0 < k
    · have hk1 : k - 1 < ds.length := by omega
      obtain ⟨b, q, eA, hb, d1, _, hI⟩ := (HLL.out.keep HB.out).at_ hk1
      subst eA
      have HSAY := Lib.hid (sayL_at hk1)
      have HLK := Lib.hid (HLN.out _ (List.getElem_mem hk1))
      have hws0 := HB.out.size
      have HIK := Lib.hid (hI.more hws0)
      clear hI
      generalize ds[k - 1] = u at d1 HSAY HLK HIK
      obtain ⟨ua, ur, uc⟩ := u
      dsimp only at d1 HSAY HLK HIK
      have HXK := Lib.hid ((HX.out.keep HB.out).more hws0)
      have hkm : ((k : Int) - 1) = ((k - 1 : Nat) : Int) := by omega
      have HC := Lib.hid (l5Less_any Ax ua xs ur cx uc wr HXK.out HIK.out (by omega) (by have := HLK.out; omega) (by have := HLK.out; omega))
      go_wp2_with fail
      refine HC.out.mono ?_
      rintro e w1 ⟨rfl, hB1⟩
      have hb1 : b < wr.heap.size := by omega
      have d2 := (hB1.cell (p := ⟨b, q + (k - 1), none⟩) hb1).trans d1
      have HB1 := Lib.hid (HB.out.trans (hB1.mono hws0))
      have hws1 := HB1.out.size
      have HI1' := Lib.hid ((HIK.out.keep hB1).more hB1.size)
      have HX1 := Lib.hid ((HXK.out.keep hB1).more hB1.size)
      clear hB1 HC HIK HXK d1
      cases hq : bP (cmpL xs ur < 0)
      · have HNL : Hid (¬ cmpL xs ur < 0) := bP_no hq
        clear hq
        have HC := Lib.hid (l1Same_any ua Ax ur xs uc cx w1 HI1'.out HX1.out (by have := HLK.out; omega))
        go_wp2_with fail
        refine HC.out.mono ?_
        rintro e w2 ⟨rfl, hB2⟩
        have HB2x := Lib.hid (HB1.out.trans (hB2.mono hws1))
        clear hB2 HC HI1' HX1 d2
        cases he : eqL ur xs
        · have H2 : Hid (∀ (j : Nat) (y : List Int), j + 1 = k → (sayL ds)[j]? = some y → cmpL y xs < 0) := fun j y h hy => by
            have hs := HSAY.out
            rw [show k - 1 = j by omega, hy] at hs
            injection hs with hs
            subst hs
            have hn : y ≠ xs := fun e => by subst e; rw [eqL_t rfl] at he; cases he
            have h1 := HNL.out
            have h3 := cmpL_anti xs y
            have h4 : cmpL xs y ≠ 0 := fun e => hn (cmpL_eq e).symm
            omega
          clear he HNL HSAY HLK hkm
          have HPUT := Lib.hid (risesL_put (k := k) (by rw [sayL_len]; exact hk) HR.out H.out H2.out)
          have hws := HB2x.out.size
          have HXW := Lib.hid ((HX.out.keep HB2x.out).more HB2x.out.size)
          have HLW := Lib.hid (HLL.out.keep HB2x.out)
          have HE0 := Lib.hid (own_emptyL w2)
          have hdr : (ds.drop k).length = ds.length - k := List.length_drop
          have hta : (ds.take k).length = k := by rw [List.length_take]; omega
          have HDR := Lib.hid hdr; clear hdr
          have HTA := Lib.hid hta; clear hta
          have HN1 : Hid (∀ A' : Option Addr, (∀ bb qq, (some ⟨b, q, none⟩ : Option Addr) = some ⟨bb, qq, none⟩ → k < c → A' = some ⟨bb, qq + k, none⟩) → 0 < ds.length - k → ∃ ad : Addr, A' = some ad ∧ ∀ (j : Nat) (u : Value), ((ds.drop k).map cellsL)[j]? = some u → (w2.alloc (.cells #[] 22)).cell? (ad.add j) = some u) := fun A' h1 h2 => by
            obtain ⟨bb, qq, e, hb, hcc⟩ := HLW.out (by omega)
            refine ⟨⟨bb, qq + k, none⟩, h1 bb qq e (by omega), fun j u hu => ?_⟩
            rw [List.getElem?_map, List.getElem?_drop] at hu
            cases hd : ds[k + j]? with
            | none => rw [hd] at hu; cases hu
            | some z =>
              rw [hd] at hu
              injection hu with hu
              subst hu
              have hb' : bb < w2.heap.size := Nat.lt_of_lt_of_le hb hws
              rw [Go.WideShapes.add_plain, Nat.add_assoc]
              exact (((Below.refl w2.heap.size w2).alloc (Nat.le_refl _) _).cell (p := ⟨bb, qq + (k + j), none⟩) hb').trans (hcc (k + j) z hd).1
          go_wp2_with (first
            | (with_reducible refine wpList_from rfl 39 (.tmp 36) (.tmp 37) rfl 22 Tryd.underlying39 HI1.out (some ⟨b, q, none⟩) ds.length c k rfl rfl hk ?_
               intro A' hA1 hA2
               have HN1' := Lib.hid (HN1.out A' hA1)
               clear hA1 hA2)
            | (at_builtin
               refine wpList_app rfl (.tmp 35) (.tmp 38) _ rfl w2.heap.size 22 i0 _ 1 24 Tryd.underlying39 hi0 hz0 hz1 hz2 rfl (by omega) _ _ _ rfl HE0.out _ (ds.length - k) (c - k) ((ds.drop k).map cellsL) rfl (by rw [List.length_map, HDR.out]; omega) HN1'.out (cellsL_one _) (by unfold maxLen; omega) (by omega) (by simp) ?_
               intro v1 w1 p1 p2
               have HO1 := Lib.hid p1
               have HB1 : Hid (Below w2.heap.size w2 w1) := (((Below.refl w2.heap.size w2).alloc (Nat.le_refl _) _)).grown p2 (by simp) fun j hj => (HE0.out.lt j hj).1
               have hs1 : w2.heap.size ≤ w1.heap.size := HB1.out.size
               have HE1 := Lib.hid (own_emptyL w1)
               have HN2 : Hid (0 < k → ∃ ad : Addr, (some ⟨b, q, none⟩) = some ad ∧ ∀ (j : Nat) (u : Value), ((ds.take k).map cellsL)[j]? = some u → (w1.alloc (.cells #[] 22)).cell? (ad.add j) = some u) := fun h2 => by
                 obtain ⟨bb, qq, e, hb, hcc⟩ := HLW.out (by omega)
                 refine ⟨⟨bb, qq, none⟩, e, fun j u hu => ?_⟩
                 rw [List.getElem?_map, List.getElem?_take] at hu
                 split at hu
                 · cases hd : ds[j]? with
                   | none => rw [hd] at hu; cases hu
                   | some z =>
                     rw [hd] at hu
                     injection hu with hu
                     subst hu
                     have hb' : bb < w2.heap.size := Nat.lt_of_lt_of_le hb hws
                     rw [Go.WideShapes.add_plain]
                     exact ((HB1.out.alloc hs1 _).cell (p := ⟨bb, qq + j, none⟩) hb').trans (hcc j z hd).1
                 · cases hu
               clear p1 p2)
            | with_reducible refine wpList_upto rfl 39 (.tmp 41) (.tmp 42) rfl 22 Tryd.underlying39 HI1.out (some ⟨b, q, none⟩) HAF.out ds.length c k rfl rfl (by omega) ?_
            | (at_builtin
               refine wpList_app rfl (.tmp 40) (.tmp 43) _ rfl w1.heap.size 22 i0 _ 1 24 Tryd.underlying39 hi0 hz0 hz1 hz2 rfl (by omega) _ _ _ rfl HE1.out (some ⟨b, q, none⟩) k c ((ds.take k).map cellsL) rfl (by rw [List.length_map, HTA.out]; omega) HN2.out (cellsL_one _) (by unfold maxLen; omega) (by omega) (by simp) ?_
               intro v2 w2 p1 p2
               have HB2 : Hid (Below w1.heap.size w1 w2) := (((Below.refl w1.heap.size w1).alloc (Nat.le_refl _) _)).grown p2 (by simp) fun j hj => (HE1.out.lt j hj).1
               have hs2 : w1.heap.size ≤ w2.heap.size := HB2.out.size
               have HA2 := Lib.hid (p1.alloc (.cells #[.slice Ax xs.length cx] 22))
               have HN3 := Lib.hid (one_new w2 (.slice Ax xs.length cx) 22)
               have HO2 := Lib.hid p1
               clear p1 p2)
            | (at_builtin
               refine wpList_append_own _ rfl (.tmp 44) (.tmp 46) _ rfl w1.heap.size 22 i0 _ 1 24 Tryd.underlying39 hi0 hz0 hz1 hz2 rfl (by omega) _ _ _ rfl HA2.out ⟨w2.heap.size, 0, none⟩ 1 1 [.slice Ax xs.length cx] rfl rfl HN3.out (by intro u hu; simp at hu; subst hu; rfl) (by unfold maxLen; omega) (by omega) (by simp; omega) ?_
               intro v3 w3 p1 p2 _
               have HB3 : Hid (Below w1.heap.size w1 w3) := (HB2.out.alloc hs2 _).grown p2 (by simp; omega) fun j hj => (HO2.out.lt j hj).1
               have hs3 : w1.heap.size ≤ w3.heap.size := HB3.out.size
               have HO3 := Lib.hid p1
               obtain ⟨ao, c4, hv1, hc4⟩ := own_cellsL (own_below HO1.out HB3.out)
               rw [show 0 + (ds.length - k) = ds.length - k by omega] at hv1 hc4
               subst hv1
               have HN4 := Lib.hid hc4
               clear p1 p2 hc4)
            | (at_builtin
               refine wpList_app rfl (.tmp 48) (.tmp 49) _ rfl w1.heap.size 22 i0 _ 1 24 Tryd.underlying39 hi0 hz0 hz1 hz2 rfl (by omega) _ _ _ rfl HO3.out ao (ds.length - k) c4 ([] ++ (ds.drop k).map cellsL) rfl (by rw [List.nil_append, List.length_map, HDR.out]; omega) (fun h => by obtain ⟨ad, e1, _, e2⟩ := HN4.out h; exact ⟨ad, e1, e2⟩) (by rw [List.nil_append]; exact cellsL_one _) (by unfold maxLen; omega) (by omega) (by omega) ?_
               intro v4 w4 p1 p2
               have HB4 : Hid (Below w1.heap.size w1 w4) := HB3.out.grown p2 hs3 fun j hj => (HO3.out.lt j hj).1
               have HO4 := Lib.hid p1
               clear p1 p2))
          go_ret
          have HBF := Lib.hid (HB1.out.trans (HB4.out.mono hs1))
          have HFIN := Lib.hid (HB2x.out.trans (HBF.out.mono hws))
          refine ⟨v4, ds.take k ++ [⟨Ax, xs, cx⟩] ++ ds.drop k, rfl, ⟨?_, ?_, ?_, ?_⟩, ?_, ?_, ?_, HFIN.out⟩
          · have e1 : (ds.take k ++ [(⟨Ax, xs, cx⟩ : Li)] ++ ds.drop k).length = 0 + k + 1 + (ds.length - k) := by simp; omega
            have e2 : (ds.take k ++ [(⟨Ax, xs, cx⟩ : Li)] ++ ds.drop k).map cellsL = [] ++ (ds.take k).map cellsL ++ [.slice Ax xs.length cx] ++ ([] ++ (ds.drop k).map cellsL) := by simp [cellsL]
            rw [e1, e2]
            exact own_lower HO4.out (by omega)
          · intro u hu
            rcases List.mem_append.1 hu with hu | hu
            · rcases List.mem_append.1 hu with hu | hu
              · exact HV.out.caps u (List.mem_of_mem_take hu)
              · rw [List.mem_singleton.1 hu]; exact hcx
            · exact HV.out.caps u (List.mem_of_mem_drop hu)
          · intro u hu
            rcases List.mem_append.1 hu with hu | hu
            · rcases List.mem_append.1 hu with hu | hu
              · exact (HV.out.own u (List.mem_of_mem_take hu)).below HFIN.out (Nat.le_refl _)
              · rw [List.mem_singleton.1 hu]; exact HXO.out.below HFIN.out (Nat.le_refl _)
            · exact (HV.out.own u (List.mem_of_mem_drop hu)).below HFIN.out (Nat.le_refl _)
          · exact far_put HV.out.far HAP.out
          · have e : sayL (ds.take k ++ [(⟨Ax, xs, cx⟩ : Li)] ++ ds.drop k) = (sayL ds).take k ++ [xs] ++ (sayL ds).drop k := by simp [sayL, List.map_take, List.map_drop]
            rw [e]; exact HPUT.out.1
          · have e : sayL (ds.take k ++ [(⟨Ax, xs, cx⟩ : Li)] ++ ds.drop k) = (sayL ds).take k ++ [xs] ++ (sayL ds).drop k := by simp [sayL, List.map_take, List.map_drop]
            rw [e]; exact HPUT.out.2
          · simp; omega
        · have HEQ : Hid (ur = xs) := by show _ = _; simpa [eqL] using he
          clear he
          go_wp2
          go_ret
          have HM : xs ∈ sayL ds := by have h := List.mem_of_getElem? HSAY.out; rw [HEQ.out] at h; exact h
          exact ⟨_, ds, rfl, HV.out.keep (HB2x.out.mono (Nat.le_refl _)), HR.out, fun z => ⟨fun h => .inr h, fun h => h.elim (fun e => e ▸ HM) id⟩, by omega, HB2x.out⟩
      · have HL1 : Hid (cmpL xs ur < 0) := bP_is hq
        clear hq
        have HH : Hid (∀ (j : Nat) (y : List Int), k - 1 ≤ j → (sayL ds)[j]? = some y → cmpL xs y < 0) := fun j y h hy => by
          by_cases e : j = k - 1
          · have hs := HSAY.out
            rw [← e, hy] at hs
            injection hs with hs
            rw [hs]; exact HL1.out
          · exact H.out j y (by omega) hy
        go_wp2
        go_roundw
        case rel => exact ⟨k - 1, by omega, by go_num, HB1.out, HH.out⟩
        case measure => simp [intOf]; omega
    · have H2 : Hid (∀ (j : Nat) (y : List Int), j + 1 = k → (sayL ds)[j]? = some y → cmpL y xs < 0) := fun j y h => by omega
      have HPUT := Lib.hid (risesL_put (k := k) (by rw [sayL_len]; exact hk) HR.out H.out H2.out)
      have hws := HB.out.size
      have HXW := Lib.hid ((HX.out.keep HB.out).more HB.out.size)
      have HLW := Lib.hid (HLL.out.keep HB.out)
      have HE0 := Lib.hid (own_emptyL wr)
      have hdr : (ds.drop k).length = ds.length - k := List.length_drop
      have hta : (ds.take k).length = k := by rw [List.length_take]; omega
      have HDR := Lib.hid hdr; clear hdr
      have HTA := Lib.hid hta; clear hta
      have HN1 : Hid (∀ A' : Option Addr, (∀ b q, A = some ⟨b, q, none⟩ → k < c → A' = some ⟨b, q + k, none⟩) → 0 < ds.length - k → ∃ ad : Addr, A' = some ad ∧ ∀ (j : Nat) (u : Value), ((ds.drop k).map cellsL)[j]? = some u → (wr.alloc (.cells #[] 22)).cell? (ad.add j) = some u) := fun A' h1 h2 => by
        obtain ⟨bb, qq, e, hb, hcc⟩ := HLW.out (by omega)
        refine ⟨⟨bb, qq + k, none⟩, h1 bb qq e (by omega), fun j u hu => ?_⟩
        rw [List.getElem?_map, List.getElem?_drop] at hu
        cases hd : ds[k + j]? with
        | none => rw [hd] at hu; cases hu
        | some z =>
          rw [hd] at hu
          injection hu with hu
          subst hu
          have hb' : bb < wr.heap.size := Nat.lt_of_lt_of_le hb hws
          rw [Go.WideShapes.add_plain, Nat.add_assoc]
          exact (((Below.refl wr.heap.size wr).alloc (Nat.le_refl _) _).cell (p := ⟨bb, qq + (k + j), none⟩) hb').trans (hcc (k + j) z hd).1
      go_wp2_with (first
        | (with_reducible refine wpList_from rfl 39 (.tmp 36) (.tmp 37) rfl 22 Tryd.underlying39 HI1.out A ds.length c k rfl rfl hk ?_
           intro A' hA1 hA2
           have HN1' := Lib.hid (HN1.out A' hA1)
           clear hA1 hA2)
        | (at_builtin
           refine wpList_app rfl (.tmp 35) (.tmp 38) _ rfl wr.heap.size 22 i0 _ 1 24 Tryd.underlying39 hi0 hz0 hz1 hz2 rfl (by omega) _ _ _ rfl HE0.out _ (ds.length - k) (c - k) ((ds.drop k).map cellsL) rfl (by rw [List.length_map, HDR.out]; omega) HN1'.out (cellsL_one _) (by unfold maxLen; omega) (by omega) (by simp) ?_
           intro v1 w1 p1 p2
           have HO1 := Lib.hid p1
           have HB1 : Hid (Below wr.heap.size wr w1) := (((Below.refl wr.heap.size wr).alloc (Nat.le_refl _) _)).grown p2 (by simp) fun j hj => (HE0.out.lt j hj).1
           have hs1 : wr.heap.size ≤ w1.heap.size := HB1.out.size
           have HE1 := Lib.hid (own_emptyL w1)
           have HN2 : Hid (0 < k → ∃ ad : Addr, A = some ad ∧ ∀ (j : Nat) (u : Value), ((ds.take k).map cellsL)[j]? = some u → (w1.alloc (.cells #[] 22)).cell? (ad.add j) = some u) := fun h2 => by
             obtain ⟨bb, qq, e, hb, hcc⟩ := HLW.out (by omega)
             refine ⟨⟨bb, qq, none⟩, e, fun j u hu => ?_⟩
             rw [List.getElem?_map, List.getElem?_take] at hu
             split at hu
             · cases hd : ds[j]? with
               | none => rw [hd] at hu; cases hu
               | some z =>
                 rw [hd] at hu
                 injection hu with hu
                 subst hu
                 have hb' : bb < wr.heap.size := Nat.lt_of_lt_of_le hb hws
                 rw [Go.WideShapes.add_plain]
                 exact ((HB1.out.alloc hs1 _).cell (p := ⟨bb, qq + j, none⟩) hb').trans (hcc j z hd).1
             · cases hu
           clear p1 p2)
        | with_reducible refine wpList_upto rfl 39 (.tmp 41) (.tmp 42) rfl 22 Tryd.underlying39 HI1.out A HAF.out ds.length c k rfl rfl (by omega) ?_
        | (at_builtin
           refine wpList_app rfl (.tmp 40) (.tmp 43) _ rfl w1.heap.size 22 i0 _ 1 24 Tryd.underlying39 hi0 hz0 hz1 hz2 rfl (by omega) _ _ _ rfl HE1.out A k c ((ds.take k).map cellsL) rfl (by rw [List.length_map, HTA.out]; omega) HN2.out (cellsL_one _) (by unfold maxLen; omega) (by omega) (by simp) ?_
           intro v2 w2 p1 p2
           have HB2 : Hid (Below w1.heap.size w1 w2) := (((Below.refl w1.heap.size w1).alloc (Nat.le_refl _) _)).grown p2 (by simp) fun j hj => (HE1.out.lt j hj).1
           have hs2 : w1.heap.size ≤ w2.heap.size := HB2.out.size
           have HA2 := Lib.hid (p1.alloc (.cells #[.slice Ax xs.length cx] 22))
           have HN3 := Lib.hid (one_new w2 (.slice Ax xs.length cx) 22)
           have HO2 := Lib.hid p1
           clear p1 p2)
        | (at_builtin
           refine wpList_append_own _ rfl (.tmp 44) (.tmp 46) _ rfl w1.heap.size 22 i0 _ 1 24 Tryd.underlying39 hi0 hz0 hz1 hz2 rfl (by omega) _ _ _ rfl HA2.out ⟨w2.heap.size, 0, none⟩ 1 1 [.slice Ax xs.length cx] rfl rfl HN3.out (by intro u hu; simp at hu; subst hu; rfl) (by unfold maxLen; omega) (by omega) (by simp; omega) ?_
           intro v3 w3 p1 p2 _
           have HB3 : Hid (Below w1.heap.size w1 w3) := (HB2.out.alloc hs2 _).grown p2 (by simp; omega) fun j hj => (HO2.out.lt j hj).1
           have hs3 : w1.heap.size ≤ w3.heap.size := HB3.out.size
           have HO3 := Lib.hid p1
           obtain ⟨ao, c4, hv1, hc4⟩ := own_cellsL (own_below HO1.out HB3.out)
           rw [show 0 + (ds.length - k) = ds.length - k by omega] at hv1 hc4
           subst hv1
           have HN4 := Lib.hid hc4
           clear p1 p2 hc4)
        | (at_builtin
           refine wpList_app rfl (.tmp 48) (.tmp 49) _ rfl w1.heap.size 22 i0 _ 1 24 Tryd.underlying39 hi0 hz0 hz1 hz2 rfl (by omega) _ _ _ rfl HO3.out ao (ds.length - k) c4 ([] ++ (ds.drop k).map cellsL) rfl (by rw [List.nil_append, List.length_map, HDR.out]; omega) (fun h => by obtain ⟨ad, e1, _, e2⟩ := HN4.out h; exact ⟨ad, e1, e2⟩) (by rw [List.nil_append]; exact cellsL_one _) (by unfold maxLen; omega) (by omega) (by omega) ?_
           intro v4 w4 p1 p2
           have HB4 : Hid (Below w1.heap.size w1 w4) := HB3.out.grown p2 hs3 fun j hj => (HO3.out.lt j hj).1
           have HO4 := Lib.hid p1
           clear p1 p2))
      go_ret
      have HBF := Lib.hid (HB1.out.trans (HB4.out.mono hs1))
      have HFIN := Lib.hid (HB.out.trans (HBF.out.mono hws))
      refine ⟨v4, ds.take k ++ [⟨Ax, xs, cx⟩] ++ ds.drop k, rfl, ⟨?_, ?_, ?_, ?_⟩, ?_, ?_, ?_, HFIN.out⟩
      · have e1 : (ds.take k ++ [(⟨Ax, xs, cx⟩ : Li)] ++ ds.drop k).length = 0 + k + 1 + (ds.length - k) := by simp; omega
        have e2 : (ds.take k ++ [(⟨Ax, xs, cx⟩ : Li)] ++ ds.drop k).map cellsL = [] ++ (ds.take k).map cellsL ++ [.slice Ax xs.length cx] ++ ([] ++ (ds.drop k).map cellsL) := by simp [cellsL]
        rw [e1, e2]
        exact own_lower HO4.out (by omega)
      · intro u hu
        rcases List.mem_append.1 hu with hu | hu
        · rcases List.mem_append.1 hu with hu | hu
          · exact HV.out.caps u (List.mem_of_mem_take hu)
          · rw [List.mem_singleton.1 hu]; exact hcx
        · exact HV.out.caps u (List.mem_of_mem_drop hu)
      · intro u hu
        rcases List.mem_append.1 hu with hu | hu
        · rcases List.mem_append.1 hu with hu | hu
          · exact (HV.out.own u (List.mem_of_mem_take hu)).below HFIN.out (Nat.le_refl _)
          · rw [List.mem_singleton.1 hu]; exact HXO.out.below HFIN.out (Nat.le_refl _)
        · exact (HV.out.own u (List.mem_of_mem_drop hu)).below HFIN.out (Nat.le_refl _)
      · exact far_put HV.out.far HAP.out
      · have e : sayL (ds.take k ++ [(⟨Ax, xs, cx⟩ : Li)] ++ ds.drop k) = (sayL ds).take k ++ [xs] ++ (sayL ds).drop k := by simp [sayL, List.map_take, List.map_drop]
        rw [e]; exact HPUT.out.1
      · have e : sayL (ds.take k ++ [(⟨Ax, xs, cx⟩ : Li)] ++ ds.drop k) = (sayL ds).take k ++ [xs] ++ (sayL ds).drop k := by simp [sayL, List.map_take, List.map_drop]
        rw [e]; exact HPUT.out.2
      · simp; omega

end Go.Proofs.YtfbpcdmpkbjifaaDoor

/- Rows of truths as arrays in memory: single steps of a walk over whole arrays. -/

namespace Go.Proofs.YtfbpcdmpkbjifaaDoor
open Go.RowKit

/-- A set of the numbers below 40, as the cells of an array. -/
def rowA (S : Int → Bool) : Array Value := ((List.range 40).map fun (k : Nat) => Value.bool (S k)).toArray
theorem rowA_size (S : Int → Bool) : (rowA S).size = 40 := by simp [rowA]
theorem rowA_at (S : Int → Bool) {k : Nat} (h : k < 40) : (rowA S)[k]? = some (.bool (S k)) := by simp [rowA, h]
theorem rowA_none (S : Int → Bool) {k : Nat} (h : ¬ k < 40) : (rowA S)[k]? = none := by simp [rowA]; omega
theorem rowA_all (S : Int → Bool) : (rowA S).all (·.oneCell') = true := by simp [rowA, Value.oneCell']
theorem rowA_one (S : Int → Bool) : ∀ u ∈ (rowA S).toList, u.oneCell' = true := fun u hu => by
  simp [rowA] at hu
  obtain ⟨_, _, rfl⟩ := hu
  rfl
theorem rowA_zero : rowA noS = Array.replicate 40 (.bool false) := by rfl
theorem rowA_ext {S T : Int → Bool} (h : ∀ k : Nat, k < 40 → S k = T k) : rowA S = rowA T := by
  apply Array.ext_getElem?
  intro k
  by_cases hk : k < 40
  · rw [rowA_at S hk, rowA_at T hk, h k hk]
  · rw [rowA_none S hk, rowA_none T hk]
theorem rowA_inj {S T : Int → Bool} (h : rowA S = rowA T) (k : Nat) (hk : k < 40) : S k = T k := by
  have e := congrArg (fun c => c[k]?) h
  simp only [rowA_at S hk, rowA_at T hk] at e
  injection e with e
  injection e
theorem rowA_set (S : Int → Bool) {k : Nat} (b : Bool) (h : k < 40) : (rowA S).setIfInBounds k (.bool b) = rowA fun x => if x = (k : Int) then b else S x := by
  generalize hT : (fun x => if x = (k : Int) then b else S x) = T
  apply Array.ext_getElem?
  intro j
  rw [Array.getElem?_setIfInBounds]
  by_cases hj : j < 40
  · rw [rowA_at T hj, ← hT]
    by_cases e : k = j
    · subst e; simp [rowA_size, h]
    · rw [if_neg e, rowA_at S hj]
      show _ = some (Value.bool (if (j : Int) = (k : Int) then b else S j))
      rw [if_neg (by omega)]
  · rw [rowA_none T hj]
    by_cases e : k = j
    · omega
    · rw [if_neg e, rowA_none S hj]

theorem fold_get : ∀ (l : List Value) (k : Nat) (z : Array Value) (i : Nat), k + l.length ≤ z.size → ((l.zipIdx k).foldl (fun cs (p : Value × Nat) => cs.setIfInBounds (0 + p.2) p.1) z)[i]? = if k ≤ i ∧ i < k + l.length then l[i - k]? else z[i]?
  | [], k, z, i, _ => by simp; omega
  | v :: l, k, z, i, h => by
    rw [List.zipIdx_cons, List.foldl_cons, fold_get l (k + 1) _ i (by simp at h ⊢; omega)]
    simp only [List.length_cons] at h ⊢
    by_cases h1 : k + 1 ≤ i ∧ i < k + 1 + l.length
    · rw [if_pos h1, if_pos (by omega), show i - k = (i - (k + 1)) + 1 by omega, List.getElem?_cons_succ]
    · rw [if_neg h1, Array.getElem?_setIfInBounds]
      by_cases h2 : k = i
      · subst h2
        rw [if_pos (by omega), if_pos (by omega), if_pos (by omega)]
        simp
      · rw [if_neg (by omega), if_neg (by omega)]
theorem fill_whole (v z : Array Value) (h : v.size = z.size) : v.zipIdx.foldl (fun cs (p : Value × Nat) => cs.setIfInBounds (0 + p.2) p.1) z = v := by
  apply Array.ext_getElem?
  intro i
  rw [← Array.foldl_toList, Array.toList_zipIdx]
  have := fold_get v.toList 0 z i (by simp; omega)
  rw [this]
  by_cases hi : i < v.size
  · rw [if_pos (by simp; omega)]; simp
  · rw [if_neg (by simp; omega), Array.getElem?_eq_none (by omega), Array.getElem?_eq_none (by omega)]

section
variable {P : Program} {ops : Array Oper} {Q : Exit → Act → World → Prop} {a : Act} {w : World} {rest : List Oper} {o : Oper}

theorem wpList_ran (hg : o.guard = none) {v : Value} {w' : World} (h0 : (execOp a.eval o).run P w = .ok (.value v) w') (h : wpList P ops Q rest (a.put o.dst v) w') : wpList P ops Q (o :: rest) a w :=
  wpList_plain hg fun K hK => by
    unfold Oper.wp
    rw [h0]
    exact hK _ _ h
theorem wpList_ranS (hg : o.guard = none) {w' : World} (h0 : (execOp a.eval o).run P w = .ok .skip w') (h : wpList P ops Q rest (a.put o.dst undef) w') : wpList P ops Q (o :: rest) a w :=
  wpList_plain hg fun K hK => by
    unfold Oper.wp
    rw [h0]
    exact hK _ _ h

/-- A new variable of a wide type. -/
theorem wpList_allocA (hg : o.guard = none) (ty : TypeId) (ho : o.op = .alloc ty) (cs : Array Value) (n : Nat) (hz : (P.info? ty).map (fun i => (i.zero, i.size)) = some (some (.agg cs), n))
    (h : wpList P ops Q rest (a.put o.dst (.pointer (some ⟨w.heap.size, 0, none⟩))) (w.alloc (.cells cs ty))) : wpList P ops Q (o :: rest) a w := by
  refine wpList_ran hg ?_ h
  have hz1 := (zero_of_info hz).1 w
  simp [execOp, ho, Instr.alloc, hz1, Result.andThen, newVar, newRow, Value.cells]
/-- A variable of a wide type that holds a value. -/
theorem wpList_boxA (hg : o.guard = none) (ty : TypeId) (x : Operand) (ho : o.op = .box ty x) (cs : Array Value) (hx : a.eval x = .agg cs)
    (h : wpList P ops Q rest (a.put o.dst (.pointer (some ⟨w.heap.size, 0, none⟩))) (w.alloc (.cells cs ty))) : wpList P ops Q (o :: rest) a w := by
  refine wpList_ran hg ?_ h
  simp [execOp, ho, Instr.box, hx, Result.andThen, newVar, newRow, Value.cells]

theorem run_loadVar_part (w : World) (g off : Nat) (ty : TypeId) (cs : Array Value) (n : Nat) (e : TypeId) (hu : P.underlying ty = some (.array n e)) (hi : (P.info? ty).map (·.size) = some cs.size)
    (hc : ∀ (j : Nat) (v : Value), cs[j]? = some v → w.cell? ⟨g, off + j, none⟩ = some v) : (loadVar ty ⟨g, off, none⟩).run P w = .ok (.agg cs) w := by
  have hl : (loadCells ⟨g, off, none⟩ cs.toList.length).run P w = .ok cs.toList.toArray w :=
    run_loadCells_list (P := P) w ⟨g, off, none⟩ cs.toList (fun j v hv => by
      rw [Go.WideShapes.add_plain]
      exact hc j v (by simpa using hv))
  cases hq : P.info? ty with
  | none => simp [hq] at hi
  | some i =>
    have hs : i.size = cs.size := by simpa [hq] using hi
    have hagg : (isAgg ty).run P w = .ok true w := by
      simp [isAgg, run_underlying hu]
    rw [Array.length_toList, ← hs] at hl
    simp [loadVar, hagg, sizeOf, typeInfo, hq, hl]
/-- A whole array out of a part of a block. -/
theorem wpList_loadA (hg : o.guard = none) (ty : TypeId) (x : Operand) (ho : o.op = .load ty x) (g off : Nat) (hx : a.eval x = .pointer (some ⟨g, off, none⟩)) (cs : Array Value) (n : Nat) (e : TypeId) (hu : P.underlying ty = some (.array n e))
    (hi : (P.info? ty).map (·.size) = some cs.size) (hc : ∀ (j : Nat) (v : Value), cs[j]? = some v → w.cell? ⟨g, off + j, none⟩ = some v)
    (h : wpList P ops Q rest (a.put o.dst (.agg cs)) w) : wpList P ops Q (o :: rest) a w := by
  refine wpList_ran hg ?_ h
  have hl := run_loadVar_part (P := P) w g off ty cs n e hu hi hc
  simp [execOp, ho, Instr.loadAt, Instr.sureAddr, hx, hl, Result.andThen]
/-- A whole array into a block. -/
theorem wpList_storeA (hg : o.guard = none) (ty : TypeId) (x y : Operand) (ho : o.op = .store ty x y) (g : Nat) (cs : Array Value) (hx : a.eval x = .pointer (some ⟨g, 0, none⟩)) (hy : a.eval y = .agg cs) (t : TypeId) (old : Array Value)
    (hw : Row w g t old) (hi : (P.info? ty).map (·.size) = some cs.size) (hold : old.size = cs.size) (h1 : cs.all (·.oneCell') = true)
    (h : wpList P ops Q rest (a.put o.dst undef) (w.setRow g cs)) : wpList P ops Q (o :: rest) a w :=
  wpList_store_row hg ty x y ho g cs hx hy t old hw hi hold h1 h
/-- An element of an array by value. -/
theorem wpList_indexA (hg : o.guard = none) (ty : TypeId) (x y : Operand) (ho : o.op = .index ty x y) (cs : Array Value) (hx : a.eval x = .agg cs) (k : Nat) (hy : a.eval y = .int .i64 k) (n : Nat) (e : TypeId) (hk : k < n) (v : Value) (hv : cs[k]? = some v)
    (hu : P.underlying ty = some (.array n e)) (d : TypeDesc) (hue : P.underlying e = some d) (hd : (match d with | .struct _ | .array _ _ => false | _ => true) = true) (hi : (P.info? e).map (·.size) = some 1)
    (h : wpList P ops Q rest (a.put o.dst v) w) : wpList P ops Q (o :: rest) a w := by
  refine wpList_ran hg ?_ h
  have hagg : (isAgg e).run P w = .ok false w := by
    cases d <;> simp_all [isAgg, run_underlying hue]
  cases hq : P.info? e with
  | none => simp [hq] at hi
  | some i =>
    have hs : i.size = 1 := by simpa [hq] using hi
    simp [execOp, ho, Instr.index, hx, hy, asIntOf, run_underlying hu, Result.andThen, sizeOf, typeInfo, hq, hs, part, hagg, hv, hk]
/-- A slice of one wide element. -/
theorem wpList_sliceA (hg : o.guard = none) (t ty : TypeId) (x : Operand) (ho : o.op = .buildSlice t 1 #[(0, x)]) (cs zs : Array Value) (hx : a.eval x = .agg cs) (n : Nat) (hut : P.underlying t = some (.slice ty))
    (hz : (P.info? ty).map (fun i => (i.zero, i.size)) = some (some (.agg zs), n)) (hcs : cs.size = n) (hn : 0 < n) (hzs : zs.size = n) (hlim : n ≤ 16777216)
    (h : wpList P ops Q rest (a.put o.dst (.slice (some ⟨w.heap.size, 0, none⟩) 1 1)) (w.alloc (.cells cs ty))) : wpList P ops Q (o :: rest) a w := by
  refine wpList_ran hg ?_ h
  have hz0 := (zero_of_info hz).1 w
  have hz1 := (zero_of_info hz).2
  cases hq : P.info? ty with
  | none => simp [hq] at hz1
  | some i =>
    have hs : i.size = n := by simpa [hq] using hz1
    have hf : Instr.fill (fun i => some (i * n, n)) ((Array.range n).map (zs[· % zs.size]!)) [(0, Value.agg cs)] = some cs := by
      have h5 : (Array.map (fun x => zs[x % zs.size]!) (Array.range n)).size = n := by simp
      simp only [Instr.fill, Value.cells, Nat.zero_mul, h5, hcs]
      rw [if_neg (by simp), fill_whole _ _ (by rw [h5, hcs])]
    have h3 : ¬ 16777216 < n := by omega
    have h4 : n ≠ 0 := by omega
    simp [execOp, ho, Instr.buildSlice, hx, run_underlying hut, sizeOf, typeInfo, hq, hs, h3, h4, hz0, Value.cells, hf, newRow, Result.andThen]

theorem run_equalIn_bools (d : Nat) (t e : TypeId) (n : Nat) (f g : Nat → Bool) (xs ys : Array Value) (hx : ∀ k, k < n → xs[k]? = some (.bool (f k))) (hy : ∀ k, k < n → ys[k]? = some (.bool (g k)))
    (hu : P.underlying t = some (.array n e)) (hue : P.underlying e = some .bool) (hi : (P.info? e).map (·.size) = some 1) :
    (Op.equalIn (d + 2) t (.agg xs) (.agg ys)).run P w = .ok ((List.range n).all fun k => f k == g k) w := by
  have hagg : ∀ w, (isAgg e).run P w = .ok false w := fun w => by simp [isAgg, run_underlying hue]
  cases hq : P.info? e with
  | none => simp [hq] at hi
  | some i =>
    have hs : i.size = 1 := by simpa [hq] using hi
    have hsz : ∀ w, (sizeOf e).run P w = .ok 1 w := fun w => by simp [sizeOf, typeInfo, hq, hs]
    have hb : ∀ (a b : Bool) (w : World), (Op.equalIn (d + 1) e (.bool a) (.bool b)).run P w = .ok (a == b) w := fun a b w => run_equalIn_bool' w d e a b hue
    have hpx : ∀ k, k < n → ∀ w, (part e xs (k * 1)).run P w = .ok (.bool (f k)) w := fun k hk w => by simp [part, hagg, hx k hk]
    have hpy : ∀ k, k < n → ∀ w, (part e ys (k * 1)).run P w = .ok (.bool (g k)) w := fun k hk w => by simp [part, hagg, hy k hk]
    obtain ⟨D, hD⟩ : ∃ D, D = d + 1 := ⟨_, rfl⟩
    rw [← hD] at hb
    rw [show d + 2 = D + 1 by omega]
    clear hD
    simp only [Op.equalIn, Sem.run_bind, run_underlying hu, Result.andThen_ok, hsz]
    rw [Std.Legacy.Range.forIn_eq_forIn_range']
    have loop : ∀ (l : List Nat) (w : World), (∀ k ∈ l, k < n) → (forIn l ((none : Option Bool), ()) fun i (_ : Option Bool × Unit) => do
            let a ← part e xs (i * 1)
            let b ← part e ys (i * 1)
            let c ← Op.equalIn D e a b
            if (!c) = true then pure (ForInStep.done (some false, ())) else do
                pure PUnit.unit
                pure (ForInStep.yield (none, ()))).run P w = .ok (if l.all (fun k => f k == g k) then (none, ()) else (some false, ())) w := by
      intro l
      induction l with
      | nil => intro w _; simp
      | cons k l ih =>
        intro w h
        have hk := h k (by simp)
        simp only [List.forIn_cons, Sem.run_bind, hpx k hk, hpy k hk, hb, Result.andThen_ok, Sem.run_ite]
        by_cases e : f k = g k
        · have e' : (f k == g k) = true := by simp [e]
          rw [e']
          simp only [Bool.not_true, Bool.false_eq_true, if_false, Sem.run_pure, Result.andThen_ok]
          rw [ih w fun j hj => h j (by simp [hj])]
          simp [e]
        · have e' : (f k == g k) = false := by simp [e]
          rw [e']
          simp [e']
    rw [loop _ w (fun k hk => by simp [Std.Legacy.Range.size] at hk; omega)]
    have er : List.range' [:n].start [:n].size [:n].step = List.range n := by simp [Std.Legacy.Range.size, List.range_eq_range']
    rw [er]
    cases (List.range n).all fun k => f k == g k <;> simp

/-- Two sets compared. -/
theorem wpList_neqA (hg : o.guard = none) (ty : TypeId) (x y : Operand) (r : TypeId) (ho : o.op = .binOp .neq ty x y r) (S T : Int → Bool) (hx : a.eval x = .agg (rowA S)) (hy : a.eval y = .agg (rowA T)) (e : TypeId)
    (hu : P.underlying ty = some (.array 40 e)) (hue : P.underlying e = some .bool) (hi : (P.info? e).map (·.size) = some 1) (hm : P.eqGuardType P.depth ty = false)
    (h : wpList P ops Q rest (a.put o.dst (.bool (!bP (rowA S = rowA T)))) w) : wpList P ops Q (o :: rest) a w := by
  refine wpList_ran hg ?_ h
  have h1 := run_eqGuard_agg (P := P) w .neq ty x y (rowA S) (rowA T) hm
  have h2 := run_neq_struct (P := P) w ty (rowA S) (rowA T)
  rw [run_equalIn_bools 9998 ty e 40 (fun k => S k) (fun k => T k) (rowA S) (rowA T) (fun k hk => rowA_at S hk) (fun k hk => rowA_at T hk) hu hue hi] at h2
  have h3 : ((List.range 40).all fun k => S (k : Int) == T (k : Int)) = bP (rowA S = rowA T) := by
    cases hb : bP (rowA S = rowA T)
    · have hn := bP_no hb
      rw [List.all_eq_false]
      apply Classical.byContradiction
      intro hc
      exact hn (rowA_ext fun k hk => by
        apply Classical.byContradiction
        intro hne
        exact hc ⟨k, List.mem_range.2 hk, by simpa using hne⟩)
    · have hp := bP_is hb
      rw [List.all_eq_true]
      intro k hk
      simp [rowA_inj hp k (List.mem_range.1 hk)]
  rw [h3] at h2
  simp [execOp, ho, hx, hy, h1, h2, Result.andThen]

theorem step_ran {K : Act → World → Prop} {E : Prop} (hg : o.guard = none) {v : Value} {w' : World} (h0 : (execOp a.eval o).run P w = .ok (.value v) w') (h : K (a.put o.dst v) w') :
    if Region.wanted o (yielded ops a.tmps) = true then Oper.wp P o a w K Q else E := by
  have hw : Region.wanted o (yielded ops a.tmps) = true := by simp [Region.wanted, hg]
  rw [if_pos hw]
  unfold Oper.wp
  rw [h0]
  exact h
theorem step_ranS {K : Act → World → Prop} {E : Prop} (hg : o.guard = none) {w' : World} (h0 : (execOp a.eval o).run P w = .ok .skip w') (h : K (a.put o.dst undef) w') :
    if Region.wanted o (yielded ops a.tmps) = true then Oper.wp P o a w K Q else E := by
  have hw : Region.wanted o (yielded ops a.tmps) = true := by simp [Region.wanted, hg]
  rw [if_pos hw]
  unfold Oper.wp
  rw [h0]
  exact h
/-- A whole array out of a block, at a step of a region that draws. -/
theorem step_loadA {K : Act → World → Prop} {E : Prop} (hg : o.guard = none) (ty : TypeId) (x : Operand) (ho : o.op = .load ty x) (g off : Nat) (hx : a.eval x = .pointer (some ⟨g, off, none⟩)) (cs : Array Value) (n : Nat) (e : TypeId) (hu : P.underlying ty = some (.array n e))
    (hi : (P.info? ty).map (·.size) = some cs.size) (hc : ∀ (j : Nat) (v : Value), cs[j]? = some v → w.cell? ⟨g, off + j, none⟩ = some v)
    (h : K (a.put o.dst (.agg cs)) w) : if Region.wanted o (yielded ops a.tmps) = true then Oper.wp P o a w K Q else E := by
  refine step_ran hg ?_ h
  have hl := run_loadVar_part (P := P) w g off ty cs n e hu hi hc
  simp [execOp, ho, Instr.loadAt, Instr.sureAddr, hx, hl, Result.andThen]
/-- A whole array into a block, at a step of a region that draws. -/
theorem step_storeA {K : Act → World → Prop} {E : Prop} (hg : o.guard = none) (ty : TypeId) (x y : Operand) (ho : o.op = .store ty x y) (g : Nat) (cs : Array Value) (hx : a.eval x = .pointer (some ⟨g, 0, none⟩)) (hy : a.eval y = .agg cs) (t : TypeId) (old : Array Value)
    (hw : Row w g t old) (hi : (P.info? ty).map (·.size) = some cs.size) (hold : old.size = cs.size) (h1 : cs.all (·.oneCell') = true)
    (h : K (a.put o.dst undef) (w.setRow g cs)) : if Region.wanted o (yielded ops a.tmps) = true then Oper.wp P o a w K Q else E := by
  refine step_ranS hg ?_ h
  have hs := run_storeVar_row (P := P) w g t ty old cs hw hi hold h1
  simp [execOp, ho, Instr.storeAt, Instr.sureAddr, hx, hy, hs, Result.andThen]

theorem run_loadFrom_row (w : World) (g : Nat) (t : TypeId) (S : Int → Bool) (h : Row w g t (rowA S)) : (loadCellsFrom ⟨g, 0, none⟩ 0 40 #[]).run P w = .ok (rowA S) w := by
  have h1 := run_loadCells_list (P := P) w ⟨g, 0, none⟩ (rowA S).toList (fun j v hv => by
    rw [Go.WideShapes.add_plain, Nat.zero_add, h.cell]
    simpa using hv)
  rw [Array.length_toList, rowA_size] at h1
  simpa [loadCells] using h1
theorem run_store_row (w : World) (g : Nat) (t : TypeId) (S : Int → Bool) (old : Array Value) (h : Row w g t old) (hs : old.size = 40) : (storeCells ⟨g, 0, none⟩ (rowA S).toList 0).run P w = .ok () (w.setRow g (rowA S)) := by
  have := run_storeCells_from (P := P) g t (rowA S).toList 0 old w h (by rw [Array.length_toList, rowA_size]; omega) (fun v hv => rowA_one S v hv)
  simpa using this
end

end Go.Proofs.YtfbpcdmpkbjifaaDoor

/- Rising lists, and what sorting leaves of the memory. -/

namespace Go.Proofs.YtfbpcdmpkbjifaaDoor
open Go.RowKit
open Go.Sort (Holds putRow putCells grow)

theorem holdsI {w : World} {g : Nat} {cur : Array Value} {e : TypeId} {ss : List Int} (hb : w.heap[g]? = some (.cells cur e (0, 0))) (ht : cur.toList.take ss.length = ss.map (Value.int .i64)) : Holds (Value.int .i64) w g 0 ss.toArray := by
  intro j hj
  have hj' : j < ss.length := by simpa using hj
  refine ⟨?_, by simp [World.frozen?, hb]⟩
  have h1 : (cur.toList.take ss.length)[j]? = (ss.map (Value.int .i64))[j]? := by rw [ht]
  rw [List.getElem?_take_of_lt hj'] at h1
  simp only [World.cell?, hb, Nat.zero_add]
  simp only [Option.isSome_none, Bool.false_eq_true, if_false]
  rw [← Array.getElem?_toList, h1]
  simp [hj']
theorem heap_sortedI {w : World} {g n : Nat} {os : Array Obj} {cur : Array Value} {e : TypeId} {fr : Nat × Nat} (d : Array Int) (hb : w.heap[g]? = some (.cells cur e fr)) :
    (grow (putRow (Value.int .i64) (Sort.ahead w n) g 0 d) os).heap[g]? = some (.cells (putCells (Value.int .i64) 0 d cur) e fr) := by
  have hg : g < w.heap.size := (Array.getElem?_eq_some_iff.1 hb).1
  rw [Sort.heap_grow_old _ _ (by simpa using hg)]
  simp [putRow, Sort.mapBlock, Sort.ahead, Array.getElem?_modify, hb, Sort.onCells]
theorem save_sortedI {w : World} {g n : Nat} {os : Array Obj} (d : Array Int) : Save (· = g) w (grow (putRow (Value.int .i64) (Sort.ahead w n) g 0 d) os) := by
  refine ⟨rfl, rfl, rfl, by simp, fun k hk hne => ?_⟩
  rw [Sort.heap_grow_old _ _ (by simpa using hk)]
  have : g ≠ k := fun e => hne e.symm
  simp [putRow, Sort.mapBlock, Sort.ahead, Array.getElem?_modify, this]
theorem take_putI (cur : Array Value) (ts : List Int) (h : ts.length ≤ cur.size) : (putCells (Value.int .i64) 0 ts.toArray cur).toList.take ts.length = ts.map (Value.int .i64) := by
  apply List.ext_getElem?
  intro j
  by_cases hj : j < ts.length
  · rw [List.getElem?_take_of_lt hj, Array.getElem?_toList]
    simp [putCells, hj, show j < cur.size by omega]
  · rw [List.getElem?_take_eq_none (by omega), List.getElem?_eq_none (by simp; omega)]

/-- A list is rising. -/
def Rises (xs : List Int) : Prop := xs.Pairwise (· < ·)
/-- Two rising lists with the same members are one. -/
theorem rises_unique : ∀ {xs ys : List Int}, Rises xs → Rises ys → (∀ x, x ∈ xs ↔ x ∈ ys) → xs = ys := fun {xs ys} hx hy h => by
  refine List.Perm.eq_of_pairwise (le := fun a b => a < b) (fun a b _ _ h1 h2 => absurd h1 (by omega)) hx hy ((List.perm_ext_iff_of_nodup (hx.imp fun h => by omega) (hy.imp fun h => by omega)).2 h)
theorem rises_sort {xs : List Int} (hn : xs.Nodup) : Rises (xs.mergeSort fun x y => decide (x ≤ y)) := by
  have hs := List.pairwise_mergeSort (le := fun x y : Int => decide (x ≤ y)) (fun a b c h1 h2 => by simp at *; omega) (fun a b => by simp; omega) xs
  have hd : (xs.mergeSort fun x y => decide (x ≤ y)).Nodup := ((List.mergeSort_perm xs _).nodup_iff).2 hn
  exact (hs.and hd).imp fun h => by
    have h1 := of_decide_eq_true h.1
    have h2 := h.2
    omega

/-- A new rising list of just the members of S. -/
def GaveS (w : World) (S : Int → Bool) (e : Ending) (w' : World) : Prop :=
  ∃ ys, Rises ys ∧ (∀ x, x ∈ ys ↔ S x = true) ∧ GaveI' w ys e w'

theorem len6 {ys : List Int} {S : Int → Bool} (hn : ys.Nodup) (hm : ∀ x ∈ ys, S x = true) (hf : ∀ x, S x = true → 0 ≤ x ∧ x < 40) : ys.length ≤ 40 := by
  have := nodup_le ys ((List.range 40).map fun (k : Nat) => (k : Int)) hn fun x hx => by
    have h := hf x (hm x hx)
    exact List.mem_map.2 ⟨x.toNat, List.mem_range.2 (by omega), by omega⟩
  simpa using this

theorem own_saveB {S : Nat → Prop} {w w' : World} {base : Nat} {e : TypeId} {size n : Nat} {v : Value} {xs : List Value} (h : w.ownsRow base e size v n xs) (hs : Save S w w') (hv : ∀ g, v.ownBlock = some g → ¬ S g) : w'.ownsRow base e size v n xs := by
  refine ⟨h.1, ?_⟩
  rcases h.2 with hn | ⟨g, cap, cur, rfl, hb, hgg, rest⟩
  · exact .inl hn
  · exact .inr ⟨g, cap, cur, rfl, hb, (hs.block g (Array.getElem?_eq_some_iff.1 hgg).1 (hv g rfl)).trans hgg, rest⟩
theorem own_ne_rng {w : World} {q r n cnt base : Nat} {f : Int → Option Value} {left : Int → Bool} {e : TypeId} {size m : Nat} {v : Value} {xs : List Value} (h : w.ownsRow base e size v m xs) (hr : Rng w q r n f left cnt) : some r ≠ v.ownBlock := by
  obtain ⟨_, _, h1, _⟩ := hr
  exact row_ne_iter h h1
theorem save_row {w w' : World} {row : Option Nat} (h : w.grownBy w' row) : Save (fun i => some i = row) w w' := ⟨h.os, h.tape, h.output, h.size, fun i hi hs => h.block i hi hs⟩

end Go.Proofs.YtfbpcdmpkbjifaaDoor

/- The program's rows as arrays: rowWith, list, of. -/

namespace Go.Proofs.YtfbpcdmpkbjifaaDoor
open Go.RowKit

theorem info_row : (Tryd.prog.info? 150).map (fun i => (i.zero, i.size)) = some (some (.agg (rowA noS)), 40) := by kernel_rfl
theorem size_row (S : Int → Bool) : (Tryd.prog.info? 150).map (·.size) = some (rowA S).size := by rw [rowA_size]; kernel_rfl

theorem Row.rowCells {w : World} {g : Nat} {t : TypeId} {S : Int → Bool} (h : Row w g t (rowA S)) : ∀ (j : Nat) (v : Value), (rowA S)[j]? = some v → w.cell? ⟨g, 0 + j, none⟩ = some v := fun j v hv => by
  rw [Nat.zero_add, h.cell]; exact hv
theorem Row.setRow {w : World} {g : Nat} {t : TypeId} {cs : Array Value} (h : Row w g t cs) (ds : Array Value) : Row (w.setRow g ds) g t ds := setRow_heap w g cs ds t (0, 0) h
theorem Row.setRow_far {w : World} {g k : Nat} {t : TypeId} {cs : Array Value} (h : Row w g t cs) (hk : g ≠ k) (ds : Array Value) : Row (w.setRow k ds) g t cs := (setRow_other w k g ds hk).trans h
theorem below_setRow {B : Nat} {a w : World} (h : Below B a w) {g : Nat} (hg : B ≤ g) (cs : Array Value) : Below B a (w.setRow g cs) :=
  ⟨h.os, h.tape, h.output, by rw [setRow_size]; exact h.size, fun k hk => (setRow_other w g k cs (by omega)).trans (h.block k hk)⟩

/-- What is in a list so far. -/
def inK (xs : List Int) (k : Nat) : Int → Bool := fun x => (xs.take k).contains x
theorem inK_zero (xs : List Int) : inK xs 0 = noS := by funext x; simp [inK, noS]
theorem inK_step {xs : List Int} {k m : Nat} (hk : k < xs.length) (hm : xs[k] = (m : Int)) : (fun x => if x = (m : Int) then true else inK xs k x) = inK xs (k + 1) := by
  funext x
  simp only [inK]
  rw [List.take_succ_eq_append_getElem hk]
  by_cases e : x = (m : Int)
  · rw [if_pos e]; simp [e, hm]
  · rw [if_neg e, hm]; simp [e]

set_option maxRecDepth 20000 in
set_option maxHeartbeats 1000000 in
theorem rowWith_any (A : Option Addr) (c : Nat) (xs : List Int) (w : World) (hx : Ints w w.heap.size A xs) (h40 : ∀ x ∈ xs, 0 ≤ x ∧ x < 40) (hl : xs.length ≤ 1048576) :
    Calls Tryd.prog 155 #[.slice A xs.length c] w fun e w' => e = .returned (.agg (rowA fun x => xs.contains x)) ∧ Below w.heap.size w w' := by
  have HX := Lib.hid hx; clear hx
  have HF := Lib.hid h40; clear h40
  have HZ := Lib.hid info_row
  have HS := Lib.hid size_row
  go_enter Tryd.func155, Tryd.ntmps155
  have HB0 : Hid (Below w.heap.size w ((w.alloc (.cells (rowA noS) 150)).alloc (.cells (rowA noS) 150))) := by show Below _ _ _; go_grown
  have HR0 : Hid (Row ((w.alloc (.cells (rowA noS) 150)).alloc (.cells (rowA noS) 150)) w.heap.size 150 (rowA noS)) := (Row.new _ _ _).alloc _
  have HR1 : Hid (Row ((w.alloc (.cells (rowA noS) 150)).alloc (.cells (rowA noS) 150)) (w.heap.size + 1) 150 (rowA (inK xs 0))) := by have h := Row.new (w.alloc (.cells (rowA noS) 150)) 150 (rowA noS); rw [World.size_alloc] at h; rw [inK_zero]; exact h
  go_wp2_with (with_reducible refine wpList_allocA rfl 150 rfl (rowA noS) 40 HZ.out ?_)
  generalize (w.alloc (.cells (rowA noS) 150)).alloc (.cells (rowA noS) 150) = W at HB0 HR0 HR1 ⊢
  go_loopw [8] (fun i wr => ∃ (k : Nat), k ≤ xs.length ∧ i = .int .i64 k ∧ Hid (Below w.heap.size w wr) ∧ Hid (Row wr w.heap.size 150 (rowA noS)) ∧ Hid (Row wr (w.heap.size + 1) 150 (rowA (inK xs k)))) (fun i _ => xs.length - (intOf i).toNat)
  case atStart => exact ⟨0, by omega, rfl, HB0.out, HR0.out, HR1.out⟩
  case round =>
    clear HB0 HR0 HR1
    obtain ⟨k, hk, rfl, HB, HR0, HR1⟩ := hrel
    by_cases hlt : k < xs.length
    · obtain ⟨p, o, rfl, hb, c1⟩ := (HX.out.keep HB.out).at_ hlt
      obtain ⟨m, hm, hme⟩ : ∃ m : Nat, m < 40 ∧ xs[k] = (m : Int) := by
        have h := HF.out xs[k] (List.getElem_mem hlt)
        exact ⟨xs[k].toNat, by omega, by omega⟩
      have HST := Lib.hid (inK_step hlt hme)
      rw [hme] at c1
      clear hme
      have c2 := HR1.out.cell m
      rw [rowA_at _ hm] at c2
      have f2 := HR1.out.frozen m
      have HR0' := Lib.hid (HR0.out.far (p := ⟨w.heap.size + 1, m, none⟩) (by simp) (.bool true))
      have HR1' : Hid (Row (wr.setCell ⟨w.heap.size + 1, m, none⟩ (.bool true)) (w.heap.size + 1) 150 (rowA (inK xs (k + 1)))) := by
        have h := HR1.out.set m (.bool true)
        rw [rowA_set _ _ hm, HST.out] at h
        exact h
      have HB' : Hid (Below w.heap.size w (wr.setCell ⟨w.heap.size + 1, m, none⟩ (.bool true))) := HB.out.setCell (by simp) _
      clear HR0 HR1 HST
      go_wp2
      go_roundw
      case rel => exact ⟨k + 1, by omega, by go_num, HB'.out, HR0'.out, HR1'.out⟩
      case measure => simp [intOf]; omega
    · obtain rfl : k = xs.length := by omega
      have HE : Hid (inK xs xs.length = fun x => xs.contains x) := by show _ = _; funext x; simp [inK]
      rw [HE.out] at HR1
      have HR2 := Lib.hid (HR0.out.setRow (rowA fun x => xs.contains x))
      have HB' := Lib.hid (below_setRow HB.out (Nat.le_refl w.heap.size) (rowA fun x => xs.contains x))
      generalize hS : (fun x => xs.contains x) = S at HR1 HR2 HB' ⊢
      go_wp2_with (first
        | with_reducible refine wpList_loadA rfl 150 (.tmp 3) rfl (w.heap.size + 1) 0 rfl (rowA S) 40 4 Tryd.underlying150 (HS.out _) HR1.out.rowCells ?_
        | with_reducible refine wpList_storeA rfl 150 (.tmp 2) (.tmp 15) rfl w.heap.size (rowA S) rfl rfl 150 (rowA noS) HR0.out (HS.out _) (by rw [rowA_size, rowA_size]) (rowA_all _) ?_)
      refine bodyPost_ret (v := .agg (rowA S)) ?_ rfl ⟨by rw [← hS], HB'.out⟩
      exact results_cell_row Tryd.results155 _ _ w.heap.size 150 (rowA S) (0, 0) _ rfl HR2.out Tryd.underlying150 rfl (HS.out _)

end Go.Proofs.YtfbpcdmpkbjifaaDoor

/- The reference's l1Has and l1Put: members of a rising list. -/

namespace Go.Proofs.YtfbpcdmpkbjifaaDoor
open Go.RowKit

/-- A slice that owns numbers, new since block lo. -/
def OwnV (w : World) (lo : Nat) (v : Value) (xs : List Int) : Prop := w.ownsRow lo 3 1 v xs.length (vals xs)
theorem OwnV.shape {w : World} {lo : Nat} {v : Value} {xs : List Int} (h : OwnV w lo v xs) : ∃ A c, v = .slice A xs.length c ∧ xs.length ≤ c ∧ Ints w w.heap.size A xs := by
  rcases h.2 with ⟨rfl, h0⟩ | ⟨g, cap, cur, rfl, hlo, hb, h1, h2, h3, h4⟩
  · refine ⟨none, 0, by rw [h0], by omega, fun h => by omega⟩
  · refine ⟨_, cap, rfl, h1, fun hn => ⟨g, 0, rfl, (Array.getElem?_eq_some_iff.1 hb).1, fun k x hx => ?_⟩⟩
    rw [cell_of_row w g (0 + k) cur _ _ hb, Nat.zero_add]
    have hk := (List.getElem?_eq_some_iff.1 hx).1
    have e := congrArg (fun l => l[k]?) h4
    simp only [vals, List.getElem?_map, hx, Option.map_some] at e
    rw [List.getElem?_take, if_pos (by omega)] at e
    simpa using e
theorem OwnV.nil (w : World) (lo : Nat) : OwnV w lo (.slice none 0 0) [] := ⟨rfl, .inl ⟨rfl, rfl⟩⟩
theorem OwnV.keep {w w' : World} {lo : Nat} {v : Value} {xs : List Int} (h : OwnV w lo v xs) (hb : Below w.heap.size w w') : OwnV w' lo v xs := own_below h hb
theorem OwnV.lower {w : World} {lo lo' : Nat} {v : Value} {xs : List Int} (h : OwnV w lo v xs) (hl : lo' ≤ lo) : OwnV w lo' v xs := by
  refine ⟨h.1, ?_⟩
  rcases h.2 with h | ⟨g, cap, cur, e, hlo, r⟩
  · exact .inl h
  · exact .inr ⟨g, cap, cur, e, by omega, r⟩
theorem OwnV.own {w : World} {lo : Nat} {v : Value} {xs : List Int} (h : OwnV w lo v xs) : ∃ A c, v = .slice A xs.length c ∧ OwnI w lo A xs := ownI_of_row h

set_option maxRecDepth 20000 in
set_option maxHeartbeats 400000 in
theorem l1Has6_any (A : Option Addr) (xs : List Int) (c : Nat) (n : Int) (w : World) (hx : Ints w w.heap.size A xs) (h1 : xs.length ≤ 40) :
    Calls Tryd.prog 80 #[.slice A xs.length c, .int .i64 n] w fun e w' => e = .returned (.bool (xs.contains n)) ∧ w' = w := by
  have HX := Lib.hid hx; clear hx
  go_enter Tryd.func80, Tryd.ntmps80
  go_wp2
  go_loopw [9] (fun i wr => ∃ (k : Nat), k ≤ xs.length ∧ i = .int .i64 k ∧ wr = w ∧ Hid (∀ (j : Nat) (x : Int), j < k → xs[j]? = some x → x ≠ n)) (fun i _ => xs.length - (intOf i).toNat)
  case atStart => exact ⟨0, by omega, rfl, rfl, fun j x h => absurd h (by omega)⟩
  case round =>
    obtain ⟨k, hk, rfl, rfl, H⟩ := hrel
    by_cases hlt : k < xs.length
    · obtain ⟨p, o, rfl, hb, c1⟩ := HX.out.at_ hlt
      by_cases he : xs[k] = n
      · have HE : Hid (xs.contains n = true) := by
          show _ = _
          rw [List.contains_iff_mem]
          exact he ▸ List.getElem_mem hlt
        have ht := beq_t he
        clear he
        go_wp2
        go_ret
        exact ⟨ret_bool HE.out.symm, rfl⟩
      · have HE := Lib.hid (upto_step (Q := fun x => x ≠ n) hlt he H.out)
        have ht := beq_f he
        clear he
        go_wp2
        go_roundw
        case rel => exact ⟨k + 1, by omega, by go_num, by simp, HE.out⟩
        case measure => simp [intOf]; omega
    · have HE : Hid (xs.contains n = false) := by
        show _ = _
        cases h : xs.contains n
        · rfl
        · rw [List.contains_iff_mem] at h
          obtain ⟨j, hj⟩ := List.mem_iff_getElem?.1 h
          exact absurd rfl (H.out j n (by have := (List.getElem?_eq_some_iff.1 hj).1; omega) hj)
      go_wp2
      go_ret
      exact ⟨ret_bool HE.out.symm, rfl⟩

theorem rises_put {xs : List Int} {n : Int} {k : Nat} (hx : Rises xs) (h1 : ∀ (j : Nat) (x : Int), j < k → xs[j]? = some x → x < n) (h2 : ∀ x, xs[k]? = some x → n < x) :
    Rises (xs.take k ++ [n] ++ xs.drop k) ∧ (∀ x, x ∈ xs.take k ++ [n] ++ xs.drop k ↔ x = n ∨ x ∈ xs) := by
  have ha : ∀ x ∈ xs.take k, x < n := fun x hm => by
    obtain ⟨j, hj⟩ := List.mem_iff_getElem?.1 hm
    rw [List.getElem?_take] at hj
    split at hj
    · exact h1 j x (by assumption) hj
    · cases hj
  have hsp : (xs.take k ++ xs.drop k).Pairwise (· < ·) := by rw [List.take_append_drop]; exact hx
  obtain ⟨p1, p2, p3⟩ := List.pairwise_append.1 hsp
  have hb : ∀ x ∈ xs.drop k, n < x := fun x hm => by
    cases hd : xs.drop k with
    | nil => rw [hd] at hm; cases hm
    | cons y l =>
      have h0 : xs[k]? = some y := by
        have := congrArg (fun l => l[0]?) hd
        simpa using this
      have hy := h2 y h0
      rw [hd] at hm p2
      rcases List.mem_cons.1 hm with rfl | hm
      · exact hy
      · have := (List.pairwise_cons.1 p2).1 x hm
        omega
  refine ⟨?_, fun x => ?_⟩
  · show List.Pairwise _ _
    rw [List.append_assoc]
    refine List.pairwise_append.2 ⟨p1, List.pairwise_append.2 ⟨by simp, p2, fun a h b hb' => by simp at h; subst h; exact hb b hb'⟩, fun a h b hb' => ?_⟩
    rcases List.mem_append.1 hb' with h' | h'
    · simp at h'; subst h'; exact ha a h
    · exact p3 a h b h'
  · have e : x ∈ xs ↔ x ∈ xs.take k ∨ x ∈ xs.drop k := by rw [← List.mem_append, List.take_append_drop]
    simp only [List.mem_append, List.mem_singleton, e]
    constructor
    · rintro ((h | h) | h)
      · exact .inr (.inl h)
      · exact .inl h
      · exact .inr (.inr h)
    · rintro (h | h | h)
      · exact .inl (.inr h)
      · exact .inl (.inl h)
      · exact .inr h

/-- What l1Put ends in: a new rising list with one member more. -/
def PutOne (w : World) (xs : List Int) (n : Int) (e : Ending) (w' : World) : Prop :=
  ∃ v ys, e = .returned v ∧ Rises ys ∧ (∀ x, x ∈ ys ↔ x = n ∨ x ∈ xs) ∧ ys.length = xs.length + 1 ∧ OwnV w' w.heap.size v ys ∧ Below w.heap.size w w'

theorem Ints.src2 {w : World} {B : Nat} {ad : Addr} {xs : List Int} (h : Ints w B (some ad) xs) : ∀ (j : Nat) (v : Value), (vals xs)[j]? = some v → w.cell? (ad.add j) = some v := fun j v hv => by
  have hp : 0 < xs.length := by have := (List.getElem?_eq_some_iff.1 hv).1; rw [vals_length] at this; omega
  obtain ⟨ad', e, h⟩ := h.src hp
  injection e with e
  subst e
  exact h j v hv
theorem Ints.take {w : World} {B : Nat} {A : Option Addr} {xs : List Int} (h : Ints w B A xs) (k : Nat) : Ints w B A (xs.take k) := by
  intro hn
  obtain ⟨b, o, e, hb, hc⟩ := h (by rw [List.length_take] at hn; omega)
  refine ⟨b, o, e, hb, fun j x hx => hc j x ?_⟩
  rw [List.getElem?_take] at hx
  split at hx
  · exact hx
  · cases hx
theorem Ints.drop {w : World} {B p o : Nat} {xs : List Int} (h : Ints w B (some ⟨p, o, none⟩) xs) (k : Nat) : Ints w B (some ⟨p, o + k, none⟩) (xs.drop k) := by
  intro hn
  obtain ⟨b, o', e, hb, hc⟩ := h (by rw [List.length_drop] at hn; omega)
  injection e with e
  injection e with e1 e2
  subst e1 e2
  refine ⟨p, o + k, rfl, hb, fun j x hx => ?_⟩
  rw [List.getElem?_drop] at hx
  rw [Nat.add_assoc]
  exact hc (k + j) x hx

set_option maxRecDepth 20000 in
set_option maxHeartbeats 1000000 in
theorem l1Put_any (lo : Nat) (v : Value) (xs : List Int) (n : Int) (w : World) (hv : OwnV w lo v xs) (hr : Rises xs) (hn : n ∉ xs) (h1 : xs.length ≤ 40) :
    Calls Tryd.prog 123 #[v, .int .i64 n] w (PutOne w xs n) := by
  obtain ⟨i0, hi0, hz0, hz1, hz2⟩ := info_of Tryd.infoInt
  rcases hv.2 with ⟨rfl, h0⟩ | ⟨g, c, cur, rfl, hlo, hb, hc, hm, h3, h4⟩
  · have e : xs = [] := List.eq_nil_of_length_eq_zero h0
    subst e
    clear hv hr hn h0 h1
    have HE0 := Lib.hid (own_empty w)
    have HB0 : Hid (Below w.heap.size w (w.alloc (.cells #[] 3))) := (Below.refl w.heap.size w).alloc (Nat.le_refl _) _
    go_enter Tryd.func123, Tryd.ntmps123
    go_wp2
    refine wp_loop_rounds 1 ?_
    rw [rounds_succ]
    have HA1 := Lib.hid (HE0.out.alloc (.cells #[.int .i64 n] 3))
    have hnew := cell_one_new (w.alloc (.cells #[] 3)) (.int .i64 n) 3
    rw [World.size_alloc] at hnew
    have HN2 := Lib.hid hnew; clear hnew
    go_wp2_with (first
      | (at_builtin
         refine append_nil_at rfl (.tmp 34) (.tmp 37) _ rfl w.heap.size 3 i0 1 Tryd.underlying22 hi0 _ _ _ rfl HE0.out 0 rfl ?_)
      | (at_builtin
         refine wpList_append_own _ rfl (.tmp 39) (.tmp 41) _ rfl w.heap.size 3 i0 _ 1 8 Tryd.underlying22 hi0 hz0 hz1 hz2 rfl (by omega) _ _ _ rfl HA1.out ⟨w.heap.size + 1, 0, none⟩ 1 1 [.int .i64 n] rfl rfl HN2.out (by intro u hu; simp at hu; subst hu; rfl) (by unfold maxLen; omega) (by omega) (by simp; omega) ?_
         intro v2 w2 h1 h2 h3
         have HB2 : Hid (Below w.heap.size w w2) := (HB0.out.alloc HB0.out.size _).grown h2 (by simp; omega) fun j hj => (HE0.out.lt j hj).1
         have HO2 := Lib.hid h1
         clear h1 h2 h3)
      | (at_builtin
         refine append_nil_at rfl (.tmp 43) (.tmp 46) _ rfl w.heap.size 3 i0 1 Tryd.underlying22 hi0 _ _ _ rfl HO2.out 0 rfl ?_))
    go_ret
    refine ⟨v2, [n], rfl, by simp [Rises], fun x => by simp, rfl, HO2.out, HB2.out⟩
  obtain ⟨A, c', e', hc', hx⟩ := hv.shape
  injection e' with e1 _ e3
  subst e1 e3
  obtain ⟨p, o, hpo⟩ : ∃ p o, (⟨g, 0, none⟩ : Addr) = ⟨p, o, none⟩ := ⟨_, _, rfl⟩
  rw [hpo] at hx ⊢
  clear hv hlo hb h3 h4 hc' hpo
  unfold maxLen at hm
  have HX := Lib.hid hx; clear hx
  have HR := Lib.hid hr; clear hr
  have HN := Lib.hid hn; clear hn
  go_enter Tryd.func123, Tryd.ntmps123
  go_wp2
  go_loopw [5] (fun i wr => ∃ (k : Nat), k ≤ xs.length ∧ i = .int .i64 k ∧ wr = w ∧ Hid (∀ (j : Nat) (x : Int), j < k → xs[j]? = some x → x < n)) (fun i _ => xs.length - (intOf i).toNat)
  case atStart => exact ⟨0, by omega, rfl, rfl, fun j x h => absurd h (by omega)⟩
  case round =>
    obtain ⟨k, hk, rfl, rfl, H⟩ := hrel
    by_cases hlt : k < xs.length
    · have c1 : wr.cell? ⟨p, o + k, none⟩ = some (.int .i64 xs[k]) := by
        obtain ⟨p', o', e, _, h⟩ := HX.out.at_ hlt
        injection e with e
        injection e with e1 e2
        subst e1 e2
        exact h
      by_cases hl : xs[k] < n
      · have HE := Lib.hid (upto_step (Q := fun x => x < n) hlt hl H.out)
        go_wp2
        go_roundw
        case rel => exact ⟨k + 1, by omega, by go_num, by simp, HE.out⟩
        case measure => simp [intOf]; omega
      · have hne : xs[k] ≠ n := fun e => HN.out (e ▸ List.getElem_mem hlt)
        have hq := beq_f hne
        have HP := Lib.hid (rises_put (k := k) HR.out H.out fun x hx => by
          rw [List.getElem?_eq_getElem hlt] at hx
          injection hx with hx
          omega)
        clear hne
        have HN1 : Hid (∀ (j : Nat) (u : Value), (vals (xs.take k))[j]? = some u → (wr.alloc (.cells #[] 3)).cell? ((⟨p, o, none⟩ : Addr).add j) = some u) := (((HX.out.take k).keep ((Below.refl wr.heap.size wr).alloc (Nat.le_refl _) _))).src2
        have HE0 := Lib.hid (own_empty wr)
        have HD := Lib.hid (HX.out.drop k)
        have hkl : (xs.take k).length = k := by rw [List.length_take]; omega
        have hdl : (xs.drop k).length = xs.length - k := List.length_drop
        have HKL := Lib.hid hkl; clear hkl
        have HDL := Lib.hid hdl; clear hdl
        go_wp2_with (first
          | (at_builtin
             refine wpList_append_own _ rfl (.tmp 34) (.tmp 37) _ rfl wr.heap.size 3 i0 _ 1 8 Tryd.underlying22 hi0 hz0 hz1 hz2 rfl (by omega) _ _ _ rfl HE0.out ⟨p, o, none⟩ k c (vals (xs.take k)) rfl (by rw [vals_length, HKL.out]; omega) HN1.out (vals_one _) (by unfold maxLen; omega) (by omega) (by simp) ?_
             intro v1 w1 h1 h2 h3
             have HO1 := Lib.hid h1
             have HB1 : Hid (Below wr.heap.size wr w1) := (((Below.refl wr.heap.size wr).alloc (Nat.le_refl _) _)).grown h2 (by simp) fun j hj => (HE0.out.lt j hj).1
             have hs1 : wr.heap.size ≤ w1.heap.size := HB1.out.size
             have HA1 := Lib.hid (h1.alloc (.cells #[.int .i64 n] 3))
             have HN2 := Lib.hid (cell_one_new w1 (.int .i64 n) 3)
             clear h1 h2 h3)
          | (at_builtin
             refine wpList_append_own _ rfl (.tmp 39) (.tmp 41) _ rfl wr.heap.size 3 i0 _ 1 8 Tryd.underlying22 hi0 hz0 hz1 hz2 rfl (by omega) _ _ _ rfl HA1.out ⟨w1.heap.size, 0, none⟩ 1 1 [.int .i64 n] rfl rfl HN2.out (by intro u hu; simp at hu; subst hu; rfl) (by unfold maxLen; omega) (by omega) (by simp; omega) ?_
             intro v2 w2 h1 h2 h3
             have HB2 : Hid (Below wr.heap.size wr w2) := (HB1.out.alloc HB1.out.size _).grown h2 (by simp; omega) fun j hj => (HO1.out.lt j hj).1
             have HO2 := Lib.hid h1
             have hs2 : wr.heap.size ≤ w2.heap.size := HB2.out.size
             have HN3 : Hid (∀ (j : Nat) (u : Value), (vals (xs.drop k))[j]? = some u → w2.cell? ((⟨p, o + k, none⟩ : Addr).add j) = some u) := (HD.out.keep HB2.out).src2
             clear h1 h2 h3)
          | (at_builtin
             refine wpList_append_own _ rfl (.tmp 43) (.tmp 46) _ rfl wr.heap.size 3 i0 _ 1 8 Tryd.underlying22 hi0 hz0 hz1 hz2 rfl (by omega) _ _ _ rfl HO2.out ⟨p, o + k, none⟩ (xs.length - k) (c - k) (vals (xs.drop k)) rfl (by rw [vals_length, HDL.out]; omega) HN3.out (vals_one _) (by unfold maxLen; omega) (by omega) hs2 ?_
             intro v3 w3 h1 h2 h3
             have HB3 : Hid (Below wr.heap.size wr w3) := HB2.out.grown h2 (by omega) fun j hj => (HO2.out.lt j hj).1
             have HO3 := Lib.hid h1
             clear h1 h2 h3))
        go_ret
        refine ⟨v3, xs.take k ++ [n] ++ xs.drop k, rfl, HP.out.1, HP.out.2, by simp; omega, ?_, HB3.out⟩
        show World.ownsRow _ _ _ _ _ _ _
        have e1 : (xs.take k ++ [n] ++ xs.drop k).length = 0 + k + 1 + (xs.length - k) := by simp; omega
        have e2 : vals (xs.take k ++ [n] ++ xs.drop k) = [] ++ vals (xs.take k) ++ [.int .i64 n] ++ vals (xs.drop k) := by simp [vals]
        rw [e1, e2]
        exact HO3.out
    · obtain rfl : k = xs.length := by omega
      have HP := Lib.hid (rises_put (k := xs.length) HR.out H.out fun x hx => by simp at hx)
      have HN1 : Hid (∀ (j : Nat) (u : Value), (vals xs)[j]? = some u → (wr.alloc (.cells #[] 3)).cell? ((⟨p, o, none⟩ : Addr).add j) = some u) := ((HX.out.keep ((Below.refl wr.heap.size wr).alloc (Nat.le_refl _) _))).src2
      have HE0 := Lib.hid (own_empty wr)
      by_cases hcx : c = xs.length
      · subst hcx
        go_wp2_with (first
          | (at_builtin
             refine wpList_append_own _ rfl (.tmp 34) (.tmp 37) _ rfl wr.heap.size 3 i0 _ 1 8 Tryd.underlying22 hi0 hz0 hz1 hz2 rfl (by omega) _ _ _ rfl HE0.out ⟨p, o, none⟩ xs.length xs.length (vals xs) rfl (by rw [vals_length]; omega) HN1.out (vals_one _) (by unfold maxLen; omega) (by omega) (by simp) ?_
             intro v1 w1 h1 h2 h3
             have HO1 := Lib.hid h1
             have HB1 : Hid (Below wr.heap.size wr w1) := (((Below.refl wr.heap.size wr).alloc (Nat.le_refl _) _)).grown h2 (by simp) fun j hj => (HE0.out.lt j hj).1
             have hs1 : wr.heap.size ≤ w1.heap.size := HB1.out.size
             have HA1 := Lib.hid (h1.alloc (.cells #[.int .i64 n] 3))
             have HN2 := Lib.hid (cell_one_new w1 (.int .i64 n) 3)
             clear h1 h2 h3)
          | (at_builtin
             refine wpList_append_own _ rfl (.tmp 39) (.tmp 41) _ rfl wr.heap.size 3 i0 _ 1 8 Tryd.underlying22 hi0 hz0 hz1 hz2 rfl (by omega) _ _ _ rfl HA1.out ⟨w1.heap.size, 0, none⟩ 1 1 [.int .i64 n] rfl rfl HN2.out (by intro u hu; simp at hu; subst hu; rfl) (by unfold maxLen; omega) (by omega) (by simp; omega) ?_
             intro v2 w2 h1 h2 h3
             have HB2 : Hid (Below wr.heap.size wr w2) := (HB1.out.alloc HB1.out.size _).grown h2 (by simp; omega) fun j hj => (HO1.out.lt j hj).1
             have HO2 := Lib.hid h1
             have hs2 : wr.heap.size ≤ w2.heap.size := HB2.out.size
             clear h1 h2 h3)
          | (at_builtin
             refine wpList_append_own _ rfl (.tmp 43) (.tmp 46) _ rfl wr.heap.size 3 i0 _ 1 8 Tryd.underlying22 hi0 hz0 hz1 hz2 rfl (by omega) _ _ _ rfl HO2.out ⟨p, o, none⟩ 0 0 [] rfl rfl (fun j u h => by simp at h) (by simp) (by unfold maxLen; omega) (by omega) hs2 ?_
             intro v3 w3 h1 h2 h3
             have HB3 : Hid (Below wr.heap.size wr w3) := HB2.out.grown h2 (by omega) fun j hj => (HO2.out.lt j hj).1
             have HO3 := Lib.hid h1
             clear h1 h2 h3))
        go_ret
        refine ⟨v3, xs.take xs.length ++ [n] ++ xs.drop xs.length, rfl, HP.out.1, HP.out.2, by simp, ?_, HB3.out⟩
        show World.ownsRow _ _ _ _ _ _ _
        have e1 : (xs.take xs.length ++ [n] ++ xs.drop xs.length).length = 0 + xs.length + 1 + 0 := by simp
        have e2 : vals (xs.take xs.length ++ [n] ++ xs.drop xs.length) = [] ++ vals xs ++ [.int .i64 n] ++ [] := by simp [vals]
        rw [e1, e2]
        exact HO3.out

      · have hcp : ¬ c - xs.length = 0 := by omega
        go_wp2_with (first
          | (at_builtin
             refine wpList_append_own _ rfl (.tmp 34) (.tmp 37) _ rfl wr.heap.size 3 i0 _ 1 8 Tryd.underlying22 hi0 hz0 hz1 hz2 rfl (by omega) _ _ _ rfl HE0.out ⟨p, o, none⟩ xs.length c (vals xs) rfl (by rw [vals_length]; omega) HN1.out (vals_one _) (by unfold maxLen; omega) (by omega) (by simp) ?_
             intro v1 w1 h1 h2 h3
             have HO1 := Lib.hid h1
             have HB1 : Hid (Below wr.heap.size wr w1) := (((Below.refl wr.heap.size wr).alloc (Nat.le_refl _) _)).grown h2 (by simp) fun j hj => (HE0.out.lt j hj).1
             have hs1 : wr.heap.size ≤ w1.heap.size := HB1.out.size
             have HA1 := Lib.hid (h1.alloc (.cells #[.int .i64 n] 3))
             have HN2 := Lib.hid (cell_one_new w1 (.int .i64 n) 3)
             clear h1 h2 h3)
          | (at_builtin
             refine wpList_append_own _ rfl (.tmp 39) (.tmp 41) _ rfl wr.heap.size 3 i0 _ 1 8 Tryd.underlying22 hi0 hz0 hz1 hz2 rfl (by omega) _ _ _ rfl HA1.out ⟨w1.heap.size, 0, none⟩ 1 1 [.int .i64 n] rfl rfl HN2.out (by intro u hu; simp at hu; subst hu; rfl) (by unfold maxLen; omega) (by omega) (by simp; omega) ?_
             intro v2 w2 h1 h2 h3
             have HB2 : Hid (Below wr.heap.size wr w2) := (HB1.out.alloc HB1.out.size _).grown h2 (by simp; omega) fun j hj => (HO1.out.lt j hj).1
             have HO2 := Lib.hid h1
             have hs2 : wr.heap.size ≤ w2.heap.size := HB2.out.size
             clear h1 h2 h3)
          | (at_builtin
             refine wpList_append_own _ rfl (.tmp 43) (.tmp 46) _ rfl wr.heap.size 3 i0 _ 1 8 Tryd.underlying22 hi0 hz0 hz1 hz2 rfl (by omega) _ _ _ rfl HO2.out ⟨p, o + xs.length, none⟩ 0 (c - xs.length) [] rfl rfl (fun j u h => by simp at h) (by simp) (by unfold maxLen; omega) (by omega) hs2 ?_
             intro v3 w3 h1 h2 h3
             have HB3 : Hid (Below wr.heap.size wr w3) := HB2.out.grown h2 (by omega) fun j hj => (HO2.out.lt j hj).1
             have HO3 := Lib.hid h1
             clear h1 h2 h3))
        go_ret
        refine ⟨v3, xs.take xs.length ++ [n] ++ xs.drop xs.length, rfl, HP.out.1, HP.out.2, by simp, ?_, HB3.out⟩
        show World.ownsRow _ _ _ _ _ _ _
        have e1 : (xs.take xs.length ++ [n] ++ xs.drop xs.length).length = 0 + xs.length + 1 + 0 := by simp
        have e2 : vals (xs.take xs.length ++ [n] ++ xs.drop xs.length) = [] ++ vals xs ++ [.int .i64 n] ++ [] := by simp [vals]
        rw [e1, e2]
        exact HO3.out

end Go.Proofs.YtfbpcdmpkbjifaaDoor

/- The program's rows as arrays: list, joined. -/

namespace Go.Proofs.YtfbpcdmpkbjifaaDoor
open Go.RowKit

/-- The numbers below k that are in S. -/
def upK (S : Int → Bool) : Nat → List Int
  | 0 => []
  | k + 1 => if S k then upK S k ++ [(k : Int)] else upK S k
theorem upK_mem (S : Int → Bool) : ∀ (k : Nat) (x : Int), x ∈ upK S k ↔ (S x = true ∧ 0 ≤ x ∧ x < k)
  | 0, x => by simp [upK]
  | k + 1, x => by
    have ih := upK_mem S k x
    unfold upK
    by_cases h : S k = true
    · rw [if_pos h, List.mem_append, ih, List.mem_singleton]
      constructor
      · rintro (⟨h1, h2, h3⟩ | rfl)
        · exact ⟨h1, h2, by omega⟩
        · exact ⟨h, by omega, by omega⟩
      · rintro ⟨h1, h2, h3⟩
        by_cases e : x = k
        · exact .inr e
        · exact .inl ⟨h1, h2, by omega⟩
    · rw [if_neg h, ih]
      constructor
      · rintro ⟨h1, h2, h3⟩
        exact ⟨h1, h2, by omega⟩
      · rintro ⟨h1, h2, h3⟩
        refine ⟨h1, h2, ?_⟩
        have : x ≠ k := fun e => by subst e; exact h h1
        omega
theorem upK_rises (S : Int → Bool) : ∀ k, Rises (upK S k)
  | 0 => List.Pairwise.nil
  | k + 1 => by
    have ih := upK_rises S k
    unfold upK
    by_cases h : S k = true
    · rw [if_pos h]
      refine List.pairwise_append.2 ⟨ih, by simp, fun a ha b hb => ?_⟩
      rw [List.mem_singleton] at hb
      subst hb
      exact ((upK_mem S k a).1 ha).2.2
    · rw [if_neg h]; exact ih
theorem upK_len (S : Int → Bool) : ∀ k, (upK S k).length ≤ k
  | 0 => Nat.le_refl _
  | k + 1 => by
    have ih := upK_len S k
    unfold upK
    split
    · rw [List.length_append]; simp; omega
    · omega
theorem upK_yes {S : Int → Bool} {k : Nat} (h : S k = true) : upK S (k + 1) = upK S k ++ [(k : Int)] := by rw [upK, if_pos h]
theorem upK_no {S : Int → Bool} {k : Nat} (h : S k = false) : upK S (k + 1) = upK S k := by rw [upK, if_neg (by simp [h])]

theorem own_snocI {w : World} {lo n : Nat} {v : Value} {xs : List Int} {x : Int} (h : w.ownsRow lo 3 1 v (n + 1) (vals xs ++ [.int .i64 x])) (hn : n = xs.length) : OwnV w lo v (xs ++ [x]) := by
  subst hn
  show World.ownsRow _ _ _ _ _ _ _
  rw [List.length_append]
  have e : vals (xs ++ [x]) = vals xs ++ [.int .i64 x] := by simp [vals]
  rw [e]
  exact h

set_option maxRecDepth 20000 in
set_option maxHeartbeats 1000000 in
theorem rowList_any (S : Int → Bool) (w : World) :
    Calls Tryd.prog 131 #[.agg (rowA S)] w (GaveI w (upK S 40)) := by
  obtain ⟨i0, hi0, hz0, hz1, hz2⟩ := info_of Tryd.infoInt
  have HS := Lib.hid size_row
  go_enter Tryd.func131, Tryd.ntmps131
  have HB0 : Hid (Below w.heap.size w (w.alloc (.cells (rowA S) 150))) := by show Below _ _ _; go_grown
  have HR0 : Hid (Row (w.alloc (.cells (rowA S) 150)) w.heap.size 150 (rowA S)) := Row.new _ _ _
  go_wp2_with (first
    | with_reducible refine wpList_boxA rfl 150 (.tmp 0) rfl (rowA S) rfl ?_
    | with_reducible refine wpList_loadA rfl 150 (.tmp 1) rfl w.heap.size 0 rfl (rowA S) 40 4 Tryd.underlying150 (HS.out _) HR0.out.rowCells ?_)
  generalize w.alloc (.cells (rowA S) 150) = W at HB0 HR0 ⊢
  go_loopw [3, 7] (fun v i wr => ∃ (k : Nat), k ≤ 40 ∧ i = .int .i64 k ∧ Hid (Below w.heap.size w wr) ∧ Hid (OwnV wr w.heap.size v (upK S k))) (fun _ i _ => 40 - (intOf i).toNat)
  case atStart => exact ⟨0, by omega, rfl, HB0.out, OwnV.nil _ _⟩
  case round =>
    clear HB0 HR0
    obtain ⟨k, hk, rfl, HB, HO⟩ := hrel
    by_cases hlt : k < 40
    · have hk2 : (k : Int) < 40 := by omega
      have hws : w.heap.size ≤ wr.heap.size := HB.out.size
      have hul := upK_len S k
      cases hs : S k
      · have HN := Lib.hid (upK_no hs)
        have HV := Lib.hid (rowA_at S hlt)
        rw [hs] at HV
        clear hs
        go_wp2_with (first
          | with_reducible refine wpList_indexA rfl 150 (.tmp 6) (.tmp 7) rfl (rowA S) rfl k rfl 40 4 hlt _ HV.out Tryd.underlying150 _ Tryd.underlying4 rfl (by kernel_rfl) ?_)
        go_roundw
        case rel => exact ⟨k + 1, by omega, by go_num, HB.out, by show OwnV _ _ _ _; rw [HN.out]; exact HO.out⟩
        case measure => simp [intOf]; omega
      · have HN := Lib.hid (upK_yes hs)
        have HV := Lib.hid (rowA_at S hlt)
        rw [hs] at HV
        clear hs
        have HOA : Hid ((wr.alloc (.cells #[.int .i64 k] 3)).ownsRow w.heap.size 3 1 u3 (upK S k).length (vals (upK S k))) := World.ownsRow.alloc HO.out _
        have HNW := Lib.hid (cell_one_new wr (.int .i64 k) 3)
        go_wp2_with (first
          | with_reducible refine wpList_indexA rfl 150 (.tmp 6) (.tmp 7) rfl (rowA S) rfl k rfl 40 4 hlt _ HV.out Tryd.underlying150 _ Tryd.underlying4 rfl (by kernel_rfl) ?_
          | (at_builtin
             refine wpList_append_own _ rfl (.tmp 12) (.tmp 14) _ rfl w.heap.size 3 i0 _ 1 8 Tryd.underlying22 hi0 hz0 hz1 hz2 rfl (by omega) _ _ _ rfl HOA.out ⟨wr.heap.size, 0, none⟩ 1 1 [.int .i64 k] rfl rfl HNW.out (by simp [Value.oneCell']) (by unfold maxLen; omega) (by omega) (by simp; omega) ?_
             intro v' w' h1 h2 h3
             have HO' : Hid (OwnV w' w.heap.size v' (upK S (k + 1))) := by rw [HN.out]; exact own_snocI h1 rfl
             have HB' : Hid (Below w.heap.size w w') := (HB.out.alloc hws _).grown h2 (by simp; omega) fun j hj => (HO.out.lt j hj).1
             clear h1 h2 h3))
        go_roundw
        case rel => exact ⟨k + 1, by omega, by go_num, HB'.out, HO'.out⟩
        case measure => simp [intOf]; omega
    · obtain rfl : k = 40 := by omega
      go_wp2
      go_ret
      obtain ⟨A, c, e, h⟩ := HO.out.own
      obtain ⟨A', c', e', hc, _⟩ := HO.out.shape
      have e2 := e.symm.trans e'
      injection e2 with _ _ e3
      exact ⟨A, c, congrArg Ending.returned e, by omega, h, HB.out⟩

end Go.Proofs.YtfbpcdmpkbjifaaDoor
