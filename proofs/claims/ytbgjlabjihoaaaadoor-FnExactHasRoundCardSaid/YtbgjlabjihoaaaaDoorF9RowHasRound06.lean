/- What ChildrenOf answers, the program's and the reference's. -/
import Derived.Test.YtbgjlabjihoaaaaDoorF9RowHasRound05
import Derived.Test.YtbgjlabjihoaaaaDoorF901
import Derived.Deep.RegionHeld3
import Derived.Test.YtbgjlabjihoaaaaDoorF9RowHasRound04
import Derived.Deep.AppendLies
import Derived.Laws.OwnMore
import Derived.Test.YtbgjlabjihoaaaaDoorF902
import Derived.Deep.RegionLaw

namespace Go.Proofs.YtbgjlabjihoaaaaDoor
open Go.RowKit

theorem goodG_four {n t : Int} {ss : List (Int × List Int)} (h : goodG n t ss = true) : ∀ u ∈ ss, u.2.length ≤ 4 := fun u hu => by
  obtain ⟨j, hj, e⟩ := List.getElem_of_mem hu
  have h1 := ((goodG_is h).2.2.2 j u hj (by rw [List.getElem?_eq_getElem hj, e])).1
  unfold goodU at h1
  exact of_decide_eq_true (Bool.and_eq_true_iff.1 (Bool.and_eq_true_iff.1 h1).2).1
def edgB (f : Fs) (x : Int) : Bool := decide (0 ≤ x ∧ x < f.es.length)
def edgAt (f : Fs) (x : Int) : Es := f.es.getD x.toNat ⟨0, 0, []⟩
def vCO (n t : Int) (ss : List (Int × List Int)) (f : Fs) (x : Int) : List Int := if goodG n t ss && (smF f && edgB f x) then chV ss f.ns (edgAt f x) else []
def okCO (n t : Int) (ss : List (Int × List Int)) (f : Fs) (x : Int) : Bool := (goodG n t ss && (smF f && edgB f x)) && chB ss f.ns (edgAt f x)
theorem vCO_len {n t : Int} {ss : List (Int × List Int)} {f : Fs} {x : Int} : (vCO n t ss f x).length ≤ 1048576 := by
  unfold vCO
  split
  · rename_i h
    have hg := (Bool.and_eq_true_iff.1 h).1
    exact Nat.le_trans (chV_len (goodG_four hg)) (by omega)
  · simp

set_option maxRecDepth 20000 in
set_option maxHeartbeats 2000000 in
theorem implChildrenOf_any (n t : Int) (A : Option Addr) (rs : List Ru) (c : Nat) (f : Fo) (x : Int) (w : World) (hx : Rls w w.heap.size A rs) (hL : Lims w) (hc : rs.length ≤ c) (h1 : rs.length ≤ 1048576) (h2 : ∀ u ∈ rs, u.r.length ≤ 1048576) (hfr : FitR rs) (hf : ReadF w w.heap.size f) (hm : LenF 1048576 f) :
    Calls Tryd.prog 19 #[.agg #[.int .i64 n, .int .i64 t, .slice A rs.length c], (.agg #[.slice f.a f.ns.length f.c, .slice f.b f.es.length f.d]), .int .i64 x] w (GaveIB w (vCO n t (rs.map Ru.abs) f.say x) (okCO n t (rs.map Ru.abs) f.say x)) := by
  have HX := Lib.hid hx; clear hx
  have H2 := Lib.hid h2; clear h2
  have HF := Lib.hid hf; clear hf
  have hme := hm.e
  have hmn := hm.n
  have HM := Lib.hid hm; clear hm
  have HL := Lib.hid hL; clear hL
  have HFR := Lib.hid hfr; clear hfr
  have HGD : Hid (∀ v, Below w.heap.size w v → Calls Tryd.prog 43 #[.agg #[.int .i64 n, .int .i64 t, .slice A rs.length c]] v fun e v' => e = .returned (.bool (goodG n t (rs.map Ru.abs))) ∧ Below v.heap.size v v') := fun v hv => goodGrammar_any n t A c rs v ((HX.out.keep hv).more hv.size) (HL.out.keep hv (Nat.le_refl _)) hc h1 H2.out HFR.out
  have HSM : Hid (∀ v, Below w.heap.size w v → Calls Tryd.prog 33 #[(.agg #[.slice f.a f.ns.length f.c, .slice f.b f.es.length f.d])] v fun e v' => e = .returned (.bool (smF f.say)) ∧ Below v.heap.size v v') := fun v hv => isSmall_any f v (HL.out.keep hv (Nat.le_refl _)) HM.out
  go_enter Tryd.func19, Tryd.ntmps19
  go_wp2_with fail
  have hB0 : Below w.heap.size w ((w.alloc (.cells #[.int .i64 n, .int .i64 t, .slice A rs.length c] 47)).alloc (.cells #[.slice f.a f.ns.length f.c, .slice f.b f.es.length f.d] 33)) := by go_grown
  have R0 : Row ((w.alloc (.cells #[.int .i64 n, .int .i64 t, .slice A rs.length c] 47)).alloc (.cells #[.slice f.a f.ns.length f.c, .slice f.b f.es.length f.d] 33)) w.heap.size 47 #[.int .i64 n, .int .i64 t, .slice A rs.length c] := (Row.new _ _ _).alloc _
  have B1 : BoxF ((w.alloc (.cells #[.int .i64 n, .int .i64 t, .slice A rs.length c] 47)).alloc (.cells #[.slice f.a f.ns.length f.c, .slice f.b f.es.length f.d] 33)) (w.heap.size + 1) f := by
    have h := BoxF.new (w.alloc (.cells #[.int .i64 n, .int .i64 t, .slice A rs.length c] 47)) f 33
    rw [World.size_alloc] at h; exact h
  generalize ((w.alloc (.cells #[.int .i64 n, .int .i64 t, .slice A rs.length c] 47)).alloc (.cells #[.slice f.a f.ns.length f.c, .slice f.b f.es.length f.d] 33)) = W at hB0 R0 B1 ⊢
  have HB0 := Lib.hid hB0; clear hB0
  have HR0 := Lib.hid R0; clear R0
  have HB1 := Lib.hid B1; clear B1
  refine (HGD.out _ HB0.out).mono ?_
  rintro e w1 ⟨rfl, hB1⟩
  have HR1 := Lib.hid (HR0.out.below hB1 HR0.out.lt)
  have HF1 := Lib.hid (HB1.out.keep hB1 HB1.out.1)
  have HW1 := Lib.hid (HB0.out.trans (hB1.mono HB0.out.size))
  clear hB1 HR0 HB1 HB0
  cases hg : goodG n t (rs.map Ru.abs)
  · have HC : Hid (vCO n t (rs.map Ru.abs) f.say x = [] ∧ okCO n t (rs.map Ru.abs) f.say x = false) := by show _ ∧ _; unfold vCO okCO; rw [hg]; exact ⟨rfl, rfl⟩
    clear hg
    go_wp2
    go_ret2
    exact ⟨none, 0, by rw [HC.out.1, HC.out.2]; rfl, .inl HC.out.1, HW1.out⟩
  have HG := Lib.hid hg; clear hg
  obtain ⟨_, b0, b1⟩ := HF1.out
  go_wp2_with fail
  refine (HSM.out _ HW1.out).mono ?_
  rintro e w2 ⟨rfl, hB2⟩
  clear b0 b1
  have HR2 := Lib.hid (HR1.out.below hB2 HR1.out.lt)
  have HF2 := Lib.hid (HF1.out.keep hB2 HF1.out.1)
  have HW2 := Lib.hid (HW1.out.trans (hB2.mono HW1.out.size))
  clear hB2 HR1 HF1 HW1
  cases hs : smF f.say
  · have HC : Hid (vCO n t (rs.map Ru.abs) f.say x = [] ∧ okCO n t (rs.map Ru.abs) f.say x = false) := by show _ ∧ _; unfold vCO okCO; rw [HG.out, hs]; exact ⟨rfl, rfl⟩
    clear hs
    go_wp2
    go_ret2
    exact ⟨none, 0, by rw [HC.out.1, HC.out.2]; rfl, .inl HC.out.1, HW2.out⟩
  have HS := Lib.hid hs; clear hs
  obtain ⟨_, b0, b1⟩ := HF2.out
  by_cases hx0 : x < 0
  · have HC : Hid (vCO n t (rs.map Ru.abs) f.say x = [] ∧ okCO n t (rs.map Ru.abs) f.say x = false) := by show _ ∧ _; unfold vCO okCO; rw [HG.out, HS.out, show edgB f.say x = false from decide_eq_false (by omega)]; exact ⟨rfl, rfl⟩
    go_wp2
    go_ret2
    exact ⟨none, 0, by rw [HC.out.1, HC.out.2]; rfl, .inl HC.out.1, HW2.out⟩
  by_cases hx1 : (f.es.length : Int) ≤ x
  · have HC : Hid (vCO n t (rs.map Ru.abs) f.say x = [] ∧ okCO n t (rs.map Ru.abs) f.say x = false) := by show _ ∧ _; unfold vCO okCO; rw [HG.out, HS.out, show edgB f.say x = false from decide_eq_false (by rw [f.say_es]; omega)]; exact ⟨rfl, rfl⟩
    go_wp2
    go_ret2
    exact ⟨none, 0, by rw [HC.out.1, HC.out.2]; rfl, .inl HC.out.1, HW2.out⟩
  have HED : Hid (edgB f.say x = true) := decide_eq_true (by rw [f.say_es]; omega)
  obtain ⟨q, rfl⟩ : ∃ q : Nat, x = (q : Int) := ⟨x.toNat, by omega⟩
  have hql : q < f.es.length := by omega
  have HR16 : Hid (∀ v ∈ rs, v.r.length ≤ 1000) := fun v hv => by
    have h := goodG_four HG.out v.abs (List.mem_map_of_mem hv)
    simp only [Ru.abs] at h
    omega
  have hul := HM.out.r f.es[q] (List.getElem_mem hql)
  have HAT : Hid (edgAt f.say (q : Int) = f.es[q].abs) := by
    show _ = _
    unfold edgAt
    simp [Fo.say, List.getD_eq_getElem?_getD, hql]
  have HV : Hid (vCO n t (rs.map Ru.abs) f.say (q : Int) = chV (rs.map Ru.abs) f.ns f.es[q].abs ∧ okCO n t (rs.map Ru.abs) f.say (q : Int) = chB (rs.map Ru.abs) f.ns f.es[q].abs) := by
    show _ ∧ _
    unfold vCO okCO
    rw [HG.out, HS.out, HED.out, HAT.out]
    exact ⟨rfl, rfl⟩
  have hb0 := Lib.hid b0; clear b0
  obtain ⟨fa, fns, fc, fb, fes, fd⟩ := f
  obtain ⟨eb, eo, rfl, HEA0⟩ := HF.out.2.edge hql
  have HEA : Hid (∀ v, Below w.heap.size w v → EdgeAt v eb (eo + q * 3) fes[q]) := fun v hv => HEA0.keep hv
  clear HEA0
  replace hul : fes[q].r.length ≤ 1048576 := hul
  replace HV : Hid (vCO n t (rs.map Ru.abs) (Fo.mk fa fns fc (some ⟨eb, eo, none⟩) fes fd).say (q : Int) = chV (rs.map Ru.abs) fns fes[q].abs ∧ okCO n t (rs.map Ru.abs) (Fo.mk fa fns fc (some ⟨eb, eo, none⟩) fes fd).say (q : Int) = chB (rs.map Ru.abs) fns fes[q].abs) := HV.out
  replace hql : q < fes.length := hql
  replace hme : fes.length ≤ 1048576 := hme
  obtain ⟨f0, hf0⟩ : ∃ x, x = Fo.mk fa fns fc (some ⟨eb, eo, none⟩) fes fd := ⟨_, rfl⟩
  have HCH : Hid (∀ v, Below w.heap.size w v → Calls Tryd.prog 44 #[.agg #[.int .i64 n, .int .i64 t, .slice A rs.length c], .agg #[.slice fa fns.length fc, .slice (some ⟨eb, eo, none⟩) fes.length fd], .pointer (some ⟨eb, eo + q * 3, none⟩)] v (GaveIB v (chV (rs.map Ru.abs) fns fes[q].abs) (chB (rs.map Ru.abs) fns fes[q].abs))) := fun v hv =>
    implChildren_any n t A rs c (Fo.mk fa fns fc (some ⟨eb, eo, none⟩) fes fd) eb (eo + q * 3) fes[q] v ((HX.out.keep hv).more hv.size) h1 HR16.out ((HF.out.1.keep hv).more hv.size) hmn (HEA.out v hv) hul
  clear hf0 f0
  have HKS : Hid (∀ v, Below w2.heap.size w2 v → v.cell? ⟨w.heap.size, 0, none⟩ = some (.int .i64 n) ∧ v.cell? ⟨w.heap.size, 1, none⟩ = some (.int .i64 t) ∧ v.cell? ⟨w.heap.size, 2, none⟩ = some (.slice A rs.length c) ∧ v.cell? ⟨w.heap.size + 1, 0, none⟩ = some (.slice fa fns.length fc) ∧ v.cell? ⟨w.heap.size + 1, 1, none⟩ = some (.slice (some ⟨eb, eo, none⟩) fes.length fd) ∧
      v.cell? ⟨eb, eo + q * 3, none⟩ = some (.int .i64 fes[q].n) ∧ v.cell? ⟨eb, eo + q * 3 + 1, none⟩ = some (.int .i64 fes[q].e) ∧ v.cell? ⟨eb, eo + q * 3 + 2, none⟩ = some (.slice fes[q].a fes[q].r.length fes[q].c)) := fun v hv => by
    have r := HR2.out.below hv HR2.out.lt
    have e := HEA.out v (HW2.out.trans (hv.mono HW2.out.size))
    have k := HF2.out.keep hv HF2.out.1
    refine ⟨?_, ?_, ?_, k.2.1, k.2.2, e.2.1, e.2.2.1, e.2.2.2.1⟩
    · simpa using r.cell 0
    · simpa using r.cell 1
    · simpa using r.cell 2
  clear b1
  obtain ⟨x0, x1, x2, x3, x4, x5, x6, x7⟩ := HKS.out w2 (Below.refl _ _)
  have hxa : ¬ (q : Int) < 0 := by omega
  have hxb : ¬ (fes.length : Int) ≤ (q : Int) := by omega
  clear hx0 hx1
  go_wp2_with fail
  go_region_held3 (fun w' => w'.cell? ⟨w.heap.size, 0, none⟩ = some (.int .i64 n) ∧ w'.cell? ⟨w.heap.size, 1, none⟩ = some (.int .i64 t) ∧ w'.cell? ⟨w.heap.size, 2, none⟩ = some (.slice A rs.length c) ∧ w'.cell? ⟨w.heap.size + 1, 0, none⟩ = some (.slice fa fns.length fc) ∧ w'.cell? ⟨w.heap.size + 1, 1, none⟩ = some (.slice (some ⟨eb, eo, none⟩) fes.length fd) ∧ w'.cell? ⟨eb, eo + q * 3, none⟩ = some (.int .i64 fes[q].n) ∧ w'.cell? ⟨eb, eo + q * 3 + 1, none⟩ = some (.int .i64 fes[q].e) ∧ w'.cell? ⟨eb, eo + q * 3 + 2, none⟩ = some (.slice fes[q].a fes[q].r.length fes[q].c))
    (first | exact HKS.out _ HX3.out | exact ⟨x0, x1, x2, x3, x4, x5, x6, x7⟩)
    (first | (go_at_call 44
              with_reducible refine (HCH.out _ ?_).mono ?_
              · exact HW2.out.trans (Below.mono (B := w2.heap.size) (by go_grown) HW2.out.size)
              rintro e w4 ⟨A4, c4, rfl, hO4, hB4'⟩
              have hB4 : Below w2.heap.size w2 w4 := Below.trans (by go_grown) hB4'
              have HO4 : Hid (OwnI w4 w.heap.size A4 (chV (rs.map Ru.abs) fns fes[q].abs)) := hO4.lower (by have := HW2.out.size; simp; omega)
              have HX3 := Lib.hid hB4
              clear hB4 hB4' hO4))
  rename_i hHeld
  clear hHeld x0 x1 x2 x3 x4 x5 x6 x7
  go_wp2
  go_ret2
  exact ⟨A4, c4, by rw [HV.out.1, HV.out.2]; rfl, by rw [HV.out.1]; exact HO4.out, HW2.out.trans (HX3.out.mono HW2.out.size)⟩

set_option maxRecDepth 20000 in
set_option maxHeartbeats 2000000 in
theorem specChildrenOf_any (n t : Int) (A : Option Addr) (rs : List Ru) (c : Nat) (f : Fo) (x : Int) (w : World) (hx : Rls w w.heap.size A rs) (hc : rs.length ≤ c) (h1 : rs.length ≤ 1048576) (h2 : ∀ u ∈ rs, u.r.length ≤ 1048576) (hf : ReadF w w.heap.size f) (hm : LenF 1048576 f) :
    Calls Tryd.prog 17 #[.agg #[.int .i64 n, .int .i64 t, .slice A rs.length c], (.agg #[.slice f.a f.ns.length f.c, .slice f.b f.es.length f.d]), .int .i64 x] w (GaveIB w (vCO n t (rs.map Ru.abs) f.say x) (okCO n t (rs.map Ru.abs) f.say x)) := by
  have HX := Lib.hid hx; clear hx
  have H2 := Lib.hid h2; clear h2
  have HF := Lib.hid hf; clear hf
  have hme := hm.e
  have hmn := hm.n
  have HM := Lib.hid hm; clear hm
  have HGD : Hid (∀ v, Below w.heap.size w v → Calls Tryd.prog 40 #[.agg #[.int .i64 n, .int .i64 t, .slice A rs.length c]] v fun e v' => e = .returned (.bool (goodG n t (rs.map Ru.abs))) ∧ Below v.heap.size v v') := fun v hv => specGood_any n t A c rs v ((HX.out.keep hv).more hv.size) hc h1 H2.out
  have HSM : Hid (∀ v, Below w.heap.size w v → Calls Tryd.prog 28 #[(.agg #[.slice f.a f.ns.length f.c, .slice f.b f.es.length f.d])] v fun e v' => e = .returned (.bool (smF f.say)) ∧ Below v.heap.size v v') := fun v hv => l9Sized_any f v HM.out
  have HIN : Hid (∀ v, Calls Tryd.prog 29 #[.int .i64 x, .int .i64 0, .int .i64 ((f.es.length : Int) - 1)] v fun e v' => e = .returned (.bool (edgB f.say x)) ∧ v = v') := fun v => by
    refine (l1In_any x 0 ((f.es.length : Int) - 1) v).mono ?_
    rintro e v' ⟨rfl, rfl⟩
    refine ⟨ret_b ?_, rfl⟩
    unfold inB edgB
    rw [f.say_es]
    exact decide_eq_decide.2 ⟨fun h => ⟨h.1, by omega⟩, fun h => ⟨h.1, by omega⟩⟩
  have hw0 : IntKind.i64.wrap ((f.es.length : Int) - 1) = (f.es.length : Int) - 1 := by rw [IntKind.wrap_i64]; omega
  go_enter Tryd.func17, Tryd.ntmps17
  go_wp2_with fail
  have hB0 : Below w.heap.size w ((w.alloc (.cells #[.int .i64 n, .int .i64 t, .slice A rs.length c] 47)).alloc (.cells #[.slice f.a f.ns.length f.c, .slice f.b f.es.length f.d] 33)) := by go_grown
  have R0 : Row ((w.alloc (.cells #[.int .i64 n, .int .i64 t, .slice A rs.length c] 47)).alloc (.cells #[.slice f.a f.ns.length f.c, .slice f.b f.es.length f.d] 33)) w.heap.size 47 #[.int .i64 n, .int .i64 t, .slice A rs.length c] := (Row.new _ _ _).alloc _
  have B1 : BoxF ((w.alloc (.cells #[.int .i64 n, .int .i64 t, .slice A rs.length c] 47)).alloc (.cells #[.slice f.a f.ns.length f.c, .slice f.b f.es.length f.d] 33)) (w.heap.size + 1) f := by
    have h := BoxF.new (w.alloc (.cells #[.int .i64 n, .int .i64 t, .slice A rs.length c] 47)) f 33
    rw [World.size_alloc] at h; exact h
  generalize ((w.alloc (.cells #[.int .i64 n, .int .i64 t, .slice A rs.length c] 47)).alloc (.cells #[.slice f.a f.ns.length f.c, .slice f.b f.es.length f.d] 33)) = W at hB0 R0 B1 ⊢
  have HB0 := Lib.hid hB0; clear hB0
  have HR0 := Lib.hid R0; clear R0
  have HB1 := Lib.hid B1; clear B1
  refine (HGD.out _ HB0.out).mono ?_
  rintro e w1 ⟨rfl, hB1⟩
  have HR1 := Lib.hid (HR0.out.below hB1 HR0.out.lt)
  have HF1 := Lib.hid (HB1.out.keep hB1 HB1.out.1)
  have HW1 := Lib.hid (HB0.out.trans (hB1.mono HB0.out.size))
  clear hB1 HR0 HB1 HB0
  cases hg : goodG n t (rs.map Ru.abs)
  · have HC : Hid (vCO n t (rs.map Ru.abs) f.say x = [] ∧ okCO n t (rs.map Ru.abs) f.say x = false) := by show _ ∧ _; unfold vCO okCO; rw [hg]; exact ⟨rfl, rfl⟩
    clear hg
    go_wp2
    go_ret2
    exact ⟨none, 0, by rw [HC.out.1, HC.out.2]; rfl, .inl HC.out.1, HW1.out⟩
  have HG := Lib.hid hg; clear hg
  obtain ⟨_, b0, b1⟩ := HF1.out
  go_wp2_with fail
  refine (HSM.out _ HW1.out).mono ?_
  rintro e w2 ⟨rfl, hB2⟩
  clear b0 b1
  have HR2 := Lib.hid (HR1.out.below hB2 HR1.out.lt)
  have HF2 := Lib.hid (HF1.out.keep hB2 HF1.out.1)
  have HW2 := Lib.hid (HW1.out.trans (hB2.mono HW1.out.size))
  clear hB2 HR1 HF1 HW1
  cases hs : smF f.say
  · have HC : Hid (vCO n t (rs.map Ru.abs) f.say x = [] ∧ okCO n t (rs.map Ru.abs) f.say x = false) := by show _ ∧ _; unfold vCO okCO; rw [HG.out, hs]; exact ⟨rfl, rfl⟩
    clear hs
    go_wp2
    go_ret2
    exact ⟨none, 0, by rw [HC.out.1, HC.out.2]; rfl, .inl HC.out.1, HW2.out⟩
  have HS := Lib.hid hs; clear hs
  obtain ⟨_, b0, b1⟩ := HF2.out
  go_wp2_with fail
  refine (HIN.out _).mono ?_
  rintro e w3 ⟨rfl, hw3⟩
  subst hw3
  cases hd : edgB f.say x
  · have HC : Hid (vCO n t (rs.map Ru.abs) f.say x = [] ∧ okCO n t (rs.map Ru.abs) f.say x = false) := by show _ ∧ _; unfold vCO okCO; rw [HG.out, HS.out, hd]; exact ⟨rfl, rfl⟩
    clear hd
    go_wp2
    go_ret2
    exact ⟨none, 0, by rw [HC.out.1, HC.out.2]; rfl, .inl HC.out.1, HW2.out⟩
  have hxx := of_decide_eq_true hd
  rw [f.say_es] at hxx
  have hx0 : ¬ x < 0 := by omega
  have hx1 : ¬ (f.es.length : Int) ≤ x := by omega
  clear hxx
  have HED := Lib.hid hd; clear hd
  obtain ⟨q, rfl⟩ : ∃ q : Nat, x = (q : Int) := ⟨x.toNat, by omega⟩
  have hql : q < f.es.length := by omega
  have HR16 : Hid (∀ v ∈ rs, v.r.length ≤ 1000) := fun v hv => by
    have h := goodG_four HG.out v.abs (List.mem_map_of_mem hv)
    simp only [Ru.abs] at h
    omega
  have hul := HM.out.r f.es[q] (List.getElem_mem hql)
  have HAT : Hid (edgAt f.say (q : Int) = f.es[q].abs) := by
    show _ = _
    unfold edgAt
    simp [Fo.say, List.getD_eq_getElem?_getD, hql]
  have HV : Hid (vCO n t (rs.map Ru.abs) f.say (q : Int) = chV (rs.map Ru.abs) f.ns f.es[q].abs ∧ okCO n t (rs.map Ru.abs) f.say (q : Int) = chB (rs.map Ru.abs) f.ns f.es[q].abs) := by
    show _ ∧ _
    unfold vCO okCO
    rw [HG.out, HS.out, HED.out, HAT.out]
    exact ⟨rfl, rfl⟩
  have hb0 := Lib.hid b0; clear b0
  obtain ⟨fa, fns, fc, fb, fes, fd⟩ := f
  obtain ⟨eb, eo, rfl, HEA0⟩ := HF.out.2.edge hql
  have HEA : Hid (∀ v, Below w.heap.size w v → EdgeAt v eb (eo + q * 3) fes[q]) := fun v hv => HEA0.keep hv
  clear HEA0
  replace hul : fes[q].r.length ≤ 1048576 := hul
  replace HV : Hid (vCO n t (rs.map Ru.abs) (Fo.mk fa fns fc (some ⟨eb, eo, none⟩) fes fd).say (q : Int) = chV (rs.map Ru.abs) fns fes[q].abs ∧ okCO n t (rs.map Ru.abs) (Fo.mk fa fns fc (some ⟨eb, eo, none⟩) fes fd).say (q : Int) = chB (rs.map Ru.abs) fns fes[q].abs) := HV.out
  replace hql : q < fes.length := hql
  replace hme : fes.length ≤ 1048576 := hme
  obtain ⟨f0, hf0⟩ : ∃ x, x = Fo.mk fa fns fc (some ⟨eb, eo, none⟩) fes fd := ⟨_, rfl⟩
  have HCH : Hid (∀ v, Below w.heap.size w v → Calls Tryd.prog 41 #[.agg #[.int .i64 n, .int .i64 t, .slice A rs.length c], .agg #[.slice fa fns.length fc, .slice (some ⟨eb, eo, none⟩) fes.length fd], .agg #[.int .i64 fes[q].n, .int .i64 fes[q].e, .slice fes[q].a fes[q].r.length fes[q].c]] v (GaveIB v (chV (rs.map Ru.abs) fns fes[q].abs) (chB (rs.map Ru.abs) fns fes[q].abs))) := fun v hv =>
    specChildren_any n t A rs c (Fo.mk fa fns fc (some ⟨eb, eo, none⟩) fes fd) fes[q] v ((HX.out.keep hv).more hv.size) h1 HR16.out ((HF.out.1.keep hv).more hv.size) hmn ((HEA.out v hv).2.2.2.2) hul
  clear hf0 f0
  have HKS : Hid (∀ v, Below w2.heap.size w2 v → v.cell? ⟨w.heap.size, 0, none⟩ = some (.int .i64 n) ∧ v.cell? ⟨w.heap.size, 1, none⟩ = some (.int .i64 t) ∧ v.cell? ⟨w.heap.size, 2, none⟩ = some (.slice A rs.length c) ∧ v.cell? ⟨w.heap.size + 1, 0, none⟩ = some (.slice fa fns.length fc) ∧ v.cell? ⟨w.heap.size + 1, 1, none⟩ = some (.slice (some ⟨eb, eo, none⟩) fes.length fd) ∧
      v.cell? ⟨eb, eo + q * 3, none⟩ = some (.int .i64 fes[q].n) ∧ v.cell? ⟨eb, eo + q * 3 + 1, none⟩ = some (.int .i64 fes[q].e) ∧ v.cell? ⟨eb, eo + q * 3 + 2, none⟩ = some (.slice fes[q].a fes[q].r.length fes[q].c)) := fun v hv => by
    have r := HR2.out.below hv HR2.out.lt
    have e := HEA.out v (HW2.out.trans (hv.mono HW2.out.size))
    have k := HF2.out.keep hv HF2.out.1
    refine ⟨?_, ?_, ?_, k.2.1, k.2.2, e.2.1, e.2.2.1, e.2.2.2.1⟩
    · simpa using r.cell 0
    · simpa using r.cell 1
    · simpa using r.cell 2
  clear b1
  obtain ⟨x0, x1, x2, x3, x4, x5, x6, x7⟩ := HKS.out w2 (Below.refl _ _)
  clear hx0 hx1
  go_wp2_with fail
  go_region_held3 (fun w' => w'.cell? ⟨w.heap.size, 0, none⟩ = some (.int .i64 n) ∧ w'.cell? ⟨w.heap.size, 1, none⟩ = some (.int .i64 t) ∧ w'.cell? ⟨w.heap.size, 2, none⟩ = some (.slice A rs.length c) ∧ w'.cell? ⟨w.heap.size + 1, 0, none⟩ = some (.slice fa fns.length fc) ∧ w'.cell? ⟨w.heap.size + 1, 1, none⟩ = some (.slice (some ⟨eb, eo, none⟩) fes.length fd) ∧ w'.cell? ⟨eb, eo + q * 3, none⟩ = some (.int .i64 fes[q].n) ∧ w'.cell? ⟨eb, eo + q * 3 + 1, none⟩ = some (.int .i64 fes[q].e) ∧ w'.cell? ⟨eb, eo + q * 3 + 2, none⟩ = some (.slice fes[q].a fes[q].r.length fes[q].c))
    (first | exact HKS.out _ HX3.out | exact ⟨x0, x1, x2, x3, x4, x5, x6, x7⟩)
    (first | (go_at_call 41
              with_reducible refine (HCH.out _ ?_).mono ?_
              · exact HW2.out.trans (Below.mono (B := w2.heap.size) (by go_grown) HW2.out.size)
              rintro e w4 ⟨A4, c4, rfl, hO4, hB4'⟩
              have hB4 : Below w2.heap.size w2 w4 := Below.trans (by go_grown) hB4'
              have HO4 : Hid (OwnI w4 w.heap.size A4 (chV (rs.map Ru.abs) fns fes[q].abs)) := hO4.lower (by have := HW2.out.size; simp; omega)
              have HX3 := Lib.hid hB4
              clear hB4 hB4' hO4))
  rename_i hHeld
  clear hHeld x0 x1 x2 x3 x4 x5 x6 x7
  go_wp2
  go_ret2
  exact ⟨A4, c4, by rw [HV.out.1, HV.out.2]; rfl, by rw [HV.out.1]; exact HO4.out, HW2.out.trans (HX3.out.mono HW2.out.size)⟩

end Go.Proofs.YtbgjlabjihoaaaaDoor

/- Rounds of a forest: the plain side. -/

namespace Go.Proofs.YtbgjlabjihoaaaaDoor
open Go.RowKit

/-- To which nodes each node leads. -/
def leadL (ss : List (Int × List Int)) (f : Fs) : List (List Int) := (List.range f.ns.length).map fun (k : Nat) => (f.es.filter fun e => decide (e.n = (k : Int))).flatMap (chV ss f.ns)
theorem leadL_len (ss : List (Int × List Int)) (f : Fs) : (leadL ss f).length = f.ns.length := by simp [leadL]
theorem leadL_at (ss : List (Int × List Int)) (f : Fs) {k : Nat} (h : k < f.ns.length) : (leadL ss f).getD k [] = (f.es.filter fun e => decide (e.n = (k : Int))).flatMap (chV ss f.ns) := by
  simp [leadL, List.getD_eq_getElem?_getD, h]
theorem leads_iff {ss : List (Int × List Int)} {f : Fs} {k m : Nat} (h : k < f.ns.length) : LeadsTo (leadL ss f) k m ↔ ∃ e ∈ f.es, e.n = (k : Int) ∧ (m : Int) ∈ chV ss f.ns e := by
  unfold LeadsTo
  rw [leadL_at ss f h, List.mem_flatMap]
  constructor
  · rintro ⟨e, he, hm⟩
    obtain ⟨h1, h2⟩ := List.mem_filter.1 he
    exact ⟨e, h1, of_decide_eq_true h2, hm⟩
  · rintro ⟨e, h1, h2, hm⟩
    exact ⟨e, List.mem_filter.2 ⟨h1, decide_eq_true h2⟩, hm⟩
theorem chV_in {ss : List (Int × List Int)} {ns : List Nd} {e : Es} : ∀ x ∈ chV ss ns e, 0 ≤ x ∧ x < (ns.length : Int) := by
  intro x hx
  unfold chV chO at hx
  split at hx
  · cases hq : numsOf ns (kidsV (rightOf ss e.e) e.r) with
    | none => rw [hq] at hx; simp at hx
    | some l => rw [hq] at hx; exact numsOf_in hq x hx
  · simp at hx

def edOk (ss : List (Int × List Int)) (f : Fs) (e : Es) : Bool := chB ss f.ns e && nodB f e.n
def hrOk (n t : Int) (ss : List (Int × List Int)) (f : Fs) : Bool := goodG n t ss && (smF f && f.es.all (edOk ss f))
noncomputable def hrV (n t : Int) (ss : List (Int × List Int)) (f : Fs) : Bool := hrOk n t ss f && bP (HasCyc f.ns.length (LeadsTo (leadL ss f)))

/-- What is left holds every set in which each leads to one of it. -/
def PeelS (N : Nat) (R : Nat → Nat → Prop) (L : Nat → Bool) : Prop := ∀ S : Nat → Prop, (∀ k, S k → k < N) → (∀ k, S k → ∃ m, S m ∧ R k m) → ∀ k, S k → L k = true
theorem PeelS.step {N : Nat} {R : Nat → Nat → Prop} {L : Nat → Bool} (h : PeelS N R L) {k : Nat} (hf : ∀ m, R k m → L m = false) : PeelS N R (fun j => if j = k then false else L j) := by
  intro S h1 h2 j hj
  by_cases e : j = k
  · subst e
    obtain ⟨m, hm, hR⟩ := h2 j hj
    have := h S h1 h2 m hm
    rw [hf m hR] at this
    cases this
  · show (if j = k then false else L j) = true
    rw [if_neg e]; exact h S h1 h2 j hj
theorem PeelS.done {N : Nat} {R : Nat → Nat → Prop} {L : Nat → Bool} (h : PeelS N R L) (hc : ∀ k, k < N → L k = true → ∃ m, m < N ∧ R k m ∧ L m = true) : (∃ k, k < N ∧ L k = true) ↔ HasCyc N R := by
  constructor
  · rintro ⟨k, hk, hL⟩
    exact ⟨fun k => k < N ∧ L k = true, ⟨k, hk, hL⟩, fun k hk => hk.1, fun k hk => by
      obtain ⟨m, h1, h2, h3⟩ := hc k hk.1 hk.2
      exact ⟨m, ⟨h1, h3⟩, h2⟩⟩
  · rintro ⟨S, ⟨k, hk⟩, h1, h2⟩
    exact ⟨k, h1 k hk, h S h1 h2 k hk⟩
theorem cntB_step {L : Nat → Bool} {k N : Nat} (hk : k < N) (hL : L k = true) : cntS (fun j => (if j = k then false else L j) = true) N < cntS (fun j => L j = true) N :=
  cntS_lt (S := fun j => L j = true) (T := fun j => (if j = k then false else L j) = true) (m := k) (fun j hj => by
    by_cases e : j = k
    · subst e; simp at hj
    · rw [if_neg e] at hj; exact hj) hL (by simp) hk

/-- Whether node k can go: it is left, and none of those to which the first j of its edges lead is. -/
def freeTo (ss : List (Int × List Int)) (f : Fs) (L : Nat → Bool) (b : Bool) (is : List Int) (j : Nat) : Bool := b && (is.take j).all fun i => (chV ss f.ns (edgAt f i)).all fun x => !L x.toNat
theorem freeTo_zero (ss : List (Int × List Int)) (f : Fs) (L : Nat → Bool) (b : Bool) (is : List Int) : freeTo ss f L b is 0 = b := by simp [freeTo]
theorem freeTo_succ {ss : List (Int × List Int)} {f : Fs} {L : Nat → Bool} {b : Bool} {is : List Int} {j : Nat} (hj : j < is.length) : freeTo ss f L b is (j + 1) = (freeTo ss f L b is j && (chV ss f.ns (edgAt f is[j])).all fun x => !L x.toNat) := by
  unfold freeTo
  rw [List.take_succ_eq_append_getElem hj, List.all_append, ← Bool.and_assoc]
  simp
theorem free_iff {ss : List (Int × List Int)} {f : Fs} {L : Nat → Bool} {k : Nat} (hk : k < f.ns.length) : freeTo ss f L (L k) (edgesTo f.es (k : Int) f.es.length) (edgesTo f.es (k : Int) f.es.length).length = true ↔ L k = true ∧ ∀ m, LeadsTo (leadL ss f) k m → L m = false := by
  unfold freeTo
  rw [List.take_length, Bool.and_eq_true, List.all_eq_true]
  refine and_congr_right fun _ => ?_
  constructor
  · intro h m hm
    obtain ⟨e, he, hen, hx⟩ := (leads_iff hk).1 hm
    obtain ⟨i, hi, rfl⟩ := List.getElem_of_mem he
    have h1 := h (i : Int) (edgesTo_mem.2 ⟨i, rfl, hi, by simp [List.getD_eq_getElem?_getD, hi, hen]⟩)
    have e1 : edgAt f (i : Int) = f.es[i] := by unfold edgAt; simp [List.getD_eq_getElem?_getD, hi]
    rw [e1, List.all_eq_true] at h1
    have h2 := h1 _ hx
    simpa using h2
  · intro h i hi
    obtain ⟨j, rfl, hj, hn⟩ := edgesTo_mem.1 hi
    have e1 : edgAt f (j : Int) = f.es[j] := by unfold edgAt; simp [List.getD_eq_getElem?_getD, hj]
    rw [e1, List.all_eq_true]
    intro x hx
    obtain ⟨h0, h1⟩ := chV_in x hx
    have hm : LeadsTo (leadL ss f) k x.toNat := (leads_iff hk).2 ⟨f.es[j], List.getElem_mem hj, by simpa [List.getD_eq_getElem?_getD, hj] using hn, by rw [Int.toNat_of_nonneg h0]; exact hx⟩
    rw [h _ hm]; rfl

/-- Block g is a row of N bools, the m-th being what L says. -/
def BoolW (w : World) (g N : Nat) (L : Nat → Bool) : Prop := ∃ cs : Array Value, Row w g 4 cs ∧ cs.size = N ∧ ∀ m, m < N → cs[m]? = some (.bool (L m))
theorem BoolW.at_ {w : World} {g N : Nat} {f : Nat → Bool} (h : BoolW w g N f) {m : Nat} (hm : m < N) : w.cell? ⟨g, m, none⟩ = some (.bool (f m)) ∧ w.frozen? ⟨g, m, none⟩ = false ∧ g < w.heap.size := by
  obtain ⟨cs, h1, _, h3⟩ := h
  exact ⟨(h1.cell m).trans (h3 m hm), h1.frozen m, h1.lt⟩
theorem BoolW.lt {w : World} {g N : Nat} {f : Nat → Bool} (h : BoolW w g N f) : g < w.heap.size := by
  obtain ⟨cs, h1, _⟩ := h
  exact h1.lt
theorem BoolW.set {w : World} {g N : Nat} {f : Nat → Bool} (h : BoolW w g N f) {m : Nat} (hm : m < N) (v : Bool) : BoolW (w.setCell ⟨g, m, none⟩ (.bool v)) g N (fun k => if k = m then v else f k) := by
  obtain ⟨cs, h1, h2, h3⟩ := h
  refine ⟨cs.setIfInBounds m (.bool v), h1.set m _, by simp [h2], fun k hk => ?_⟩
  show _ = some (Value.bool (if k = m then v else f k))
  rw [Array.getElem?_setIfInBounds]
  by_cases e : m = k
  · subst e; rw [if_pos rfl, if_pos (by omega), if_pos rfl]
  · rw [if_neg e, if_neg (fun (h : k = m) => e h.symm)]; exact h3 k hk
theorem BoolW.keep {w w' : World} {g N B : Nat} {f : Nat → Bool} (h : BoolW w g N f) (hb : Below B w w') (hg : g < B) : BoolW w' g N f := by
  obtain ⟨cs, h1, h2, h3⟩ := h
  exact ⟨cs, h1.below hb hg, h2, h3⟩
theorem BoolW.congr {w : World} {g N : Nat} {f f' : Nat → Bool} (h : BoolW w g N f) (he : ∀ m, m < N → f' m = f m) : BoolW w g N f' := by
  obtain ⟨cs, h1, h2, h3⟩ := h
  exact ⟨cs, h1, h2, fun m hm => by rw [he m hm]; exact h3 m hm⟩

theorem infoBoolQ : (Tryd.prog.info? 4).map (fun i => (i.zero, i.size, i.bytes)) = some (some (.bool false), 1, 1) := by kernel_rfl
def zBq (n : Nat) : Array Value := madeCells #[.bool false] n
theorem make_boolQ (n : Nat) (hn : n ≤ 1048576) (w : World) :
    (Instr.makeSlice 107 (.int .i64 (n : Int)) (.int .i64 (n : Int))).run Tryd.prog w = .ok (.slice (some ⟨w.heap.size, 0, none⟩) n n) (w.alloc (.cells (zBq n) 4)) := by
  obtain ⟨i, hi, hz, hs, hb⟩ := info_of infoBoolQ
  have h := run_make (P := Tryd.prog) w 107 4 i _ Tryd.underlying107 hi hz .i64 .i64 n n (by omega) (by omega) (by rw [hb]; omega) (by omega)
  rw [hs] at h
  simpa [zBq, Value.cells] using h
theorem BoolW.new (w : World) (n : Nat) : BoolW (w.alloc (.cells (zBq n) 4)) w.heap.size n fun _ => false :=
  ⟨zBq n, Row.new _ _ _, size_madeCells _ _, fun m hm => by simp [zBq, madeCells, hm, Nat.mod_one]⟩

end Go.Proofs.YtbgjlabjihoaaaaDoor

/- A list of numbers appended to a list of the call's own, in a region that draws its order. -/

namespace Go.Proofs.YtbgjlabjihoaaaaDoor
open Go.RowKit

theorem run_append_empty {P : Program} {w : World} (base : Nat) (t ty e : TypeId) (i : TypeInfo) (size : Nat) (ht : P.underlying t = some (.slice e)) (hi : P.info? e = some i)
    (v : Value) (n : Nat) (xs : List Value) (hown : w.ownsRow base e size v n xs) (X : Option Addr) (cc : Nat) :
    (Builtin.append_ #[t, t] ty #[v, .slice X 0 cc]).run P w = .ok v w := by
  rcases hown.2 with ⟨rfl, rfl⟩ | ⟨g, cap, cur, rfl, _, _, hnc, _⟩
  · cases X <;> simp [Builtin.append_, run_underlying ht, sizeOf, typeInfo, hi, Builtin.lenOf, Builtin.firstCells, loadCells, loadCellsFrom]
  · cases X <;> simp [Builtin.append_, run_underlying ht, sizeOf, typeInfo, hi, Builtin.lenOf, Builtin.firstCells, hnc, storeCells, loadCells, loadCellsFrom]

theorem step_append_ints {P : Program} {w : World} {ops : Array Oper} {o : Oper} {a : Act} {K : Act → World → Prop} {Q : Exit → Act → World → Prop} {E : Prop} (hgd : o.guard = none) (s x : Operand) (t : TypeId)
    (ho : o.op = .call { callee := .builtin .append, args := #[s, x], argTypes := #[t, t] })
    (base : Nat) (e : TypeId) (i : TypeInfo) (z : Value) (ht : P.underlying t = some (.slice e)) (hi : P.info? e = some i) (hz : i.zero = some z)
    (hsize : i.size = 1) (hby : i.bytes = 8) (hzs : z.cells.size = 1)
    (v : Value) (ds : List Int) (hs : a.eval s = v) (hown : w.ownsRow base e 1 v ds.length (ds.map fun y => Value.int .i64 y))
    (A : Option Addr) (ks : List Int) (c B : Nat) (hx : a.eval x = .slice A ks.length c) (hk : Ints w B A ks)
    (h63 : ds.length + ks.length ≤ 1048576) (hbase : base ≤ w.heap.size)
    (h : ∀ v' w', w'.ownsRow base e 1 v' (ds ++ ks).length ((ds ++ ks).map fun y => Value.int .i64 y) → w.grownBy w' v.ownBlock → (v'.ownBlock = v.ownBlock ∨ v'.ownBlock = some w.heap.size) → K (a.put o.dst v') w') :
    if Region.wanted o (yielded ops a.tmps) = true then Oper.wp P o a w K Q else E := by
  by_cases h0 : ks.length = 0
  · have hk0 : ks = [] := List.eq_nil_of_length_eq_zero h0
    subst hk0
    have hw : Region.wanted o (yielded ops a.tmps) = true := by simp [Region.wanted, hgd]
    rw [if_pos hw]
    have hrun := run_append_empty (P := P) (w := w) base t o.type e i 1 ht hi v ds.length _ hown A c
    unfold Oper.wp
    simp only [List.length_nil] at hx
    simp [execOp, ho, resolve, invoke, builtin, hs, hx, hrun, Result.andThen]
    exact h v w (by simpa using hown) ⟨rfl, rfl, rfl, Nat.le_refl _, fun _ _ _ => rfl⟩ (.inl rfl)
  · obtain ⟨b, off, rfl, hb, hc⟩ := hk (by omega)
    refine step_append_lies w hgd s x t ho base e i z 1 8 ht hi hz hsize hby hzs (by omega) v ds.length _ hs hown ⟨b, off, none⟩ ks.length c (ks.map fun y => Value.int .i64 y) hx (by simp) (fun j u hu => ?_) (fun u hu => ?_) (by omega) (by unfold maxLen; omega) (by omega) hbase w.heap.size rfl fun g cap w' h1 h2 h3 _ => ?_
    · rw [List.getElem?_map] at hu
      cases hq : ks[j]? with
      | none => rw [hq] at hu; cases hu
      | some y =>
        rw [hq] at hu
        injection hu with hu
        subst hu
        rw [Go.WideShapes.add_plain]
        exact hc j y hq
    · obtain ⟨y, _, rfl⟩ := List.mem_map.1 hu; rfl
    · refine h _ w' (by rw [List.length_append, List.map_append]; exact h1) h2 ?_
      rcases h3 with h3 | h3
      · exact .inl (by rw [h3]; rfl)
      · exact .inr (by rw [← h3]; rfl)

/-- Lists that grow: block g holds them, each is the call's own, and no two lie in one block. -/
structure LeadsW (w : World) (lo g : Nat) (vs : List Value) (ds : List (List Int)) : Prop where
  row : Row w g 27 vs.toArray
  len : vs.length = ds.length
  own : ∀ (k : Nat) (v : Value) (d : List Int), vs[k]? = some v → ds[k]? = some d → w.ownsRow lo 3 1 v d.length (d.map fun y => Value.int .i64 y)
  apart : ∀ (i j : Nat) (u v : Value), vs[i]? = some u → vs[j]? = some v → i ≠ j → u.ownBlock = v.ownBlock → u.ownBlock = none

theorem LeadsW.keep {w w' : World} {lo g : Nat} {vs : List Value} {ds : List (List Int)} (h : LeadsW w lo g vs ds) (hb : Below w.heap.size w w') : LeadsW w' lo g vs ds :=
  ⟨h.row.below hb h.row.lt, h.len, fun k v d h1 h2 => own_below (h.own k v d h1 h2) hb, h.apart⟩
theorem LeadsW.grow {w w' : World} {lo g : Nat} {vs : List Value} {ds : List (List Int)} (h : LeadsW w lo g vs ds) (hg : g < lo) {k : Nat} (hk : k < vs.length) (hkd : k < ds.length) {v' : Value} {ks : List Int}
    (h1 : w'.ownsRow lo 3 1 v' (ds[k] ++ ks).length ((ds[k] ++ ks).map fun y => Value.int .i64 y)) (h2 : w.grownBy w' vs[k].ownBlock) (h3 : v'.ownBlock = vs[k].ownBlock ∨ v'.ownBlock = some w.heap.size) :
    LeadsW (w'.setCell ⟨g, k, none⟩ v') lo g (vs.set k v') (ds.set k (ds[k] ++ ks)) := by
  have hvk := List.getElem?_eq_getElem hk
  have hdk := List.getElem?_eq_getElem hkd
  have hlow : ∀ (i : Nat) (v : Value) (d : List Int), vs[i]? = some v → ds[i]? = some d → ∀ b, v.ownBlock = some b → lo ≤ b ∧ b < w.heap.size := fun i v d e1 e2 b hb => (h.own i v d e1 e2).lt b hb
  have hng : some g ≠ vs[k].ownBlock := fun e => by have := (hlow k _ _ hvk hdk g e.symm).1; omega
  refine ⟨?_, by simp [h.len], fun i v d e1 e2 => ?_, fun i j u v e1 e2 hij he => ?_⟩
  · have r : Row w' g 27 vs.toArray := (h2.block g h.row.lt hng).trans h.row
    have r2 := r.set k v'
    simpa using r2
  · rw [List.getElem?_set] at e1 e2
    by_cases e : k = i
    · subst e
      rw [if_pos rfl, if_pos hk] at e1
      rw [if_pos rfl, if_pos hkd] at e2
      injection e1 with e1
      injection e2 with e2
      subst e1 e2
      obtain ⟨o1, o2 | ⟨gg, cap, cur, o3, o4, o5, o6⟩⟩ := h1
      · exact ⟨o1, .inl o2⟩
      · exact ⟨o1, .inr ⟨gg, cap, cur, o3, o4, (Below.heap_setCell w' ⟨g, k, none⟩ v' gg (by simp; omega)).trans o5, o6⟩⟩
    · rw [if_neg e] at e1 e2
      have o := h.own i v d e1 e2
      have hne : v.ownBlock = none ∨ v.ownBlock ≠ vs[k].ownBlock := by
        by_cases hq : v.ownBlock = vs[k].ownBlock
        · exact .inl (h.apart i k v _ e1 hvk (fun h => e h.symm) hq)
        · exact .inr hq
      have o' := o.kept h2 hne
      obtain ⟨o1, o2 | ⟨gg, cap, cur, o3, o4, o5, o6⟩⟩ := o'
      · exact ⟨o1, .inl o2⟩
      · exact ⟨o1, .inr ⟨gg, cap, cur, o3, o4, (Below.heap_setCell w' ⟨g, k, none⟩ v' gg (by simp; omega)).trans o5, o6⟩⟩
  · rw [List.getElem?_set] at e1 e2
    have new : ∀ i u, vs[i]? = some u → i ≠ k → v'.ownBlock = u.ownBlock → v'.ownBlock = none := fun i u hi hik hq => by
      rcases h3 with h3 | h3
      · rw [h3]; exact h.apart k i _ u hvk hi (fun h => hik h.symm) (h3.symm.trans hq)
      · have hil := (List.getElem?_eq_some_iff.1 hi).1
        have := hlow i u _ hi (List.getElem?_eq_getElem (by rw [← h.len]; exact hil)) w.heap.size (by rw [← hq, h3])
        omega
    by_cases ei : k = i
    · subst ei
      rw [if_pos rfl, if_pos hk] at e1
      injection e1 with e1
      subst e1
      rw [if_neg hij] at e2
      exact new j v e2 (fun h => hij h.symm) he
    · rw [if_neg ei] at e1
      by_cases ej : k = j
      · subst ej
        rw [if_pos rfl, if_pos hk] at e2
        injection e2 with e2
        subst e2
        rw [he]
        exact new i u e1 hij he.symm
      · rw [if_neg ej] at e2
        exact h.apart i j u v e1 e2 hij he

end Go.Proofs.YtbgjlabjihoaaaaDoor

/- The lists of what each node leads to, while they are made. -/

namespace Go.Proofs.YtbgjlabjihoaaaaDoor
open Go.RowKit

/-- What the first k edges say of where the nodes lead. -/
def leadTo (ss : List (Int × List Int)) (f : Fs) (k : Nat) : List (List Int) := (List.range f.ns.length).map fun (m : Nat) => ((f.es.take k).filter fun e => decide (e.n = (m : Int))).flatMap (chV ss f.ns)
theorem leadTo_all (ss : List (Int × List Int)) (f : Fs) : leadTo ss f f.es.length = leadL ss f := by unfold leadTo leadL; rw [List.take_length]
theorem leadTo_len (ss : List (Int × List Int)) (f : Fs) (k : Nat) : (leadTo ss f k).length = f.ns.length := by simp [leadTo]
theorem leadTo_zero (ss : List (Int × List Int)) (f : Fs) : leadTo ss f 0 = List.replicate f.ns.length [] := by
  apply List.ext_getElem?
  intro i
  by_cases h : i < f.ns.length
  · simp [leadTo, h]
  · rw [List.getElem?_eq_none (by simp [leadTo]; omega), List.getElem?_eq_none (by simp; omega)]
theorem leadTo_at (ss : List (Int × List Int)) (f : Fs) (k : Nat) {m : Nat} (h : m < (leadTo ss f k).length) : (leadTo ss f k)[m] = ((f.es.take k).filter fun e => decide (e.n = (m : Int))).flatMap (chV ss f.ns) := by simp [leadTo]
theorem leadTo_succ {ss : List (Int × List Int)} {f : Fs} {k : Nat} (hk : k < f.es.length) {x : Nat} (hx : f.es[k].n = (x : Int)) (hxl : x < (leadTo ss f k).length) : leadTo ss f (k + 1) = (leadTo ss f k).set x ((leadTo ss f k)[x] ++ chV ss f.ns f.es[k]) := by
  apply List.ext_getElem (by simp [leadTo])
  intro m h1 h2
  rw [leadTo_at, List.getElem_set]
  rw [List.take_succ_eq_append_getElem hk, List.filter_append, List.flatMap_append]
  by_cases e : x = m
  · subst e
    rw [if_pos rfl, leadTo_at]
    simp [hx]
  · rw [if_neg e, leadTo_at]
    have : ¬ ((x : Int) = (m : Int)) := by omega
    simp [hx, this]
theorem flat_len {ss : List (Int × List Int)} {ns : List Nd} {M : Nat} (hM : ∀ u ∈ ss, u.2.length ≤ M) : ∀ es : List Es, (es.flatMap (chV ss ns)).length ≤ es.length * M
  | [] => by simp
  | e :: r => by
    have ih := flat_len (ns := ns) hM r
    have h1 := chV_len (ns := ns) (e := e) hM
    simp only [List.flatMap_cons, List.length_append, List.length_cons, Nat.succ_mul]
    omega
theorem leadTo_lens {ss : List (Int × List Int)} {f : Fs} {k M : Nat} (hM : ∀ u ∈ ss, u.2.length ≤ M) : ∀ d ∈ leadTo ss f k, d.length ≤ f.es.length * M := by
  intro d hd
  obtain ⟨m, _, rfl⟩ := List.mem_map.1 hd
  have h1 := flat_len (ns := f.ns) hM ((f.es.take k).filter fun e => decide (e.n = (m : Int)))
  have h2 := List.length_filter_le (fun (e : Es) => decide (e.n = (m : Int))) (f.es.take k)
  rw [List.length_take] at h2
  exact Nat.le_trans h1 (Nat.mul_le_mul_right M (by omega))
theorem leadTo_in {ss : List (Int × List Int)} {f : Fs} {k : Nat} : ∀ d ∈ leadTo ss f k, ∀ x ∈ d, 0 ≤ x ∧ x < (f.ns.length : Int) := by
  intro d hd x hx
  obtain ⟨m, _, rfl⟩ := List.mem_map.1 hd
  obtain ⟨e, _, he⟩ := List.mem_flatMap.1 hx
  exact chV_in x he

theorem infoLq : (Tryd.prog.info? 27).map (fun i => (i.zero, i.size, i.bytes)) = some (some (.slice none 0 0), 1, 24) := by kernel_rfl
def zLq (n : Nat) : Array Value := madeCells #[.slice none 0 0] n
theorem make_leads (n : Nat) (hn : n ≤ 1048576) (w : World) :
    (Instr.makeSlice 81 (.int .i64 (n : Int)) (.int .i64 (n : Int))).run Tryd.prog w = .ok (.slice (some ⟨w.heap.size, 0, none⟩) n n) (w.alloc (.cells (zLq n) 27)) := by
  obtain ⟨i, hi, hz, hs, hb⟩ := info_of infoLq
  have h := run_make (P := Tryd.prog) w 81 27 i _ Tryd.underlying81 hi hz .i64 .i64 n n (by omega) (by omega) (by rw [hb]; omega) (by omega)
  rw [hs] at h
  simpa [zLq, Value.cells] using h
theorem LeadsW.new (w : World) (n : Nat) : LeadsW (w.alloc (.cells (zLq n) 27)) (w.heap.size + 1) w.heap.size (List.replicate n (.slice none 0 0)) (List.replicate n []) := by
  refine ⟨?_, by simp, fun k v d h1 h2 => ?_, fun i j u v h1 _ _ _ => ?_⟩
  · have e : zLq n = (List.replicate n (Value.slice none 0 0)).toArray := by
      rw [← toList_madeCells_one]; rfl
    rw [← e]
    exact Row.new _ _ _
  · have e1 := List.eq_of_mem_replicate (List.mem_of_getElem? h1)
    have e2 := List.eq_of_mem_replicate (List.mem_of_getElem? h2)
    subst e1 e2
    exact ⟨rfl, .inl ⟨rfl, rfl⟩⟩
  · have e1 := List.eq_of_mem_replicate (List.mem_of_getElem? h1)
    subst e1
    rfl

theorem own_shape {w : World} {lo : Nat} {v : Value} {d : List Int} (h : w.ownsRow lo 3 1 v d.length (d.map fun y => Value.int .i64 y)) : ∃ A c, v = .slice A d.length c ∧ d.length ≤ c ∧ Ints w w.heap.size A d := by
  have hh := h
  obtain ⟨_, h2 | ⟨g, cap, cur, h3, _, _, h6, _⟩⟩ := hh
  · obtain ⟨h2, h0⟩ := h2
    exact ⟨none, 0, by rw [h2, h0], by omega, fun hp => by omega⟩
  · obtain ⟨A, c, e, hO⟩ := ownI_of_row h
    refine ⟨A, c, e, ?_, hO.ints⟩
    rw [h3] at e
    injection e with _ _ e
    omega
def liOf (v : Value) (d : List Int) : Li := match v with
  | .slice a _ c => ⟨a, d, c⟩
  | _ => ⟨none, d, 0⟩
theorem liOf_r (v : Value) (d : List Int) : (liOf v d).r = d := by unfold liOf; split <;> rfl
theorem LeadsW.lls {w : World} {lo g : Nat} {vs : List Value} {ds : List (List Int)} (h : LeadsW w lo g vs ds) : ∃ ls : List Li, sayL ls = ds ∧ Lls w w.heap.size (some ⟨g, 0, none⟩) ls := by
  refine ⟨List.zipWith liOf vs ds, ?_, fun _ => ⟨g, 0, rfl, h.row.lt, fun k u hu => ?_⟩⟩
  · apply List.ext_getElem (by simp [sayL, h.len])
    intro i h1 h2
    simp [sayL, liOf_r]
  · rw [List.getElem?_zipWith] at hu
    have hk : k < vs.length := by
      apply Classical.byContradiction
      intro hn
      rw [List.getElem?_eq_none (by omega)] at hu
      cases hu
    have hkd : k < ds.length := by have := h.len; omega
    rw [List.getElem?_eq_getElem hk, List.getElem?_eq_getElem hkd] at hu
    have e : liOf vs[k] ds[k] = u := Option.some.inj hu
    subst e
    obtain ⟨A, c, hv, hcap, hI⟩ := own_shape (h.own k _ _ (List.getElem?_eq_getElem hk) (List.getElem?_eq_getElem hkd))
    have hc : w.cell? ⟨g, 0 + k, none⟩ = some vs[k] := by
      rw [Nat.zero_add, h.row.cell]
      simp [hk]
    rw [hc, hv]
    exact ⟨rfl, hcap, hI⟩

end Go.Proofs.YtbgjlabjihoaaaaDoor

/- The program's HasRound. -/

namespace Go.Proofs.YtbgjlabjihoaaaaDoor
open Go.RowKit

set_option maxRecDepth 20000 in
set_option maxHeartbeats 4000000 in
theorem implHasRound_any (n t : Int) (A : Option Addr) (rs : List Ru) (c : Nat) (f : Fo) (w : World) (hx : Rls w w.heap.size A rs) (hL : Lims w) (hc : rs.length ≤ c) (h1 : rs.length ≤ 1048576) (h2 : ∀ u ∈ rs, u.r.length ≤ 1048576) (hfr : FitR rs) (hf : ReadF w w.heap.size f) (hm : LenF 1048576 f) :
    Calls Tryd.prog 23 #[.agg #[.int .i64 n, .int .i64 t, .slice A rs.length c], (.agg #[.slice f.a f.ns.length f.c, .slice f.b f.es.length f.d])] w fun e w' => e = .returned (.tuple #[.bool (hrV n t (rs.map Ru.abs) f.say), .bool (hrOk n t (rs.map Ru.abs) f.say)]) ∧ Below w.heap.size w w' := by
  obtain ⟨fa, fns, fc, fb, fes, fd⟩ := f
  show Calls Tryd.prog 23 #[.agg #[.int .i64 n, .int .i64 t, .slice A rs.length c], .agg #[.slice fa fns.length fc, .slice fb fes.length fd]] w fun e w' => e = .returned (.tuple #[.bool (hrV n t (rs.map Ru.abs) (Fs.mk fns (fes.map Eg.abs))), .bool (hrOk n t (rs.map Ru.abs) (Fs.mk fns (fes.map Eg.abs)))]) ∧ Below w.heap.size w w'
  have HX := Lib.hid hx; clear hx
  have H2 := Lib.hid h2; clear h2
  have HF := Lib.hid hf; clear hf
  have hme : fes.length ≤ 1048576 := hm.e
  have hmn : fns.length ≤ 1048576 := hm.n
  have HMR : Hid (∀ u ∈ fes, u.r.length ≤ 1048576) := hm.r
  have HM := Lib.hid hm; clear hm
  have HL := Lib.hid hL; clear hL
  have HFR := Lib.hid hfr; clear hfr
  have HGD : Hid (∀ v, Below w.heap.size w v → Calls Tryd.prog 43 #[.agg #[.int .i64 n, .int .i64 t, .slice A rs.length c]] v fun e v' => e = .returned (.bool (goodG n t (rs.map Ru.abs))) ∧ Below v.heap.size v v') := fun v hv => goodGrammar_any n t A c rs v ((HX.out.keep hv).more hv.size) (HL.out.keep hv (Nat.le_refl _)) hc h1 H2.out HFR.out
  have HSM : Hid (∀ v, Below w.heap.size w v → Calls Tryd.prog 33 #[.agg #[.slice fa fns.length fc, .slice fb fes.length fd]] v fun e v' => e = .returned (.bool (smF (Fs.mk fns (fes.map Eg.abs)))) ∧ Below v.heap.size v v') := fun v hv => isSmall_any (Fo.mk fa fns fc fb fes fd) v (HL.out.keep hv (Nat.le_refl _)) HM.out
  have HCH : Hid (∀ (b o : Nat) (u : Eg) v, Below w.heap.size w v → EdgeAt v b o u → u.r.length ≤ 1048576 → (∀ z ∈ rs, z.r.length ≤ 1000) → Calls Tryd.prog 44 #[.agg #[.int .i64 n, .int .i64 t, .slice A rs.length c], .agg #[.slice fa fns.length fc, .slice fb fes.length fd], .pointer (some ⟨b, o, none⟩)] v (GaveIB v (chV (rs.map Ru.abs) fns u.abs) (chB (rs.map Ru.abs) fns u.abs))) := fun b o u v hv h3 h4 h5 =>
    implChildren_any n t A rs c (Fo.mk fa fns fc fb fes fd) b o u v ((HX.out.keep hv).more hv.size) h1 h5 ((HF.out.1.keep hv).more hv.size) hmn h3 h4
  have HNO : Hid (hrOk n t (rs.map Ru.abs) (Fs.mk fns (fes.map Eg.abs)) = false → hrV n t (rs.map Ru.abs) (Fs.mk fns (fes.map Eg.abs)) = false) := fun h => by unfold hrV; rw [h]; rfl
  have HEG : Hid (Egs w w.heap.size fb fes) := HF.out.2
  go_enter Tryd.func23, Tryd.ntmps23
  go_wp2_with fail
  have hB0 : Below w.heap.size w ((w.alloc (.cells #[.int .i64 n, .int .i64 t, .slice A rs.length c] 47)).alloc (.cells #[.slice fa fns.length fc, .slice fb fes.length fd] 33)) := by go_grown
  have R0 : Row ((w.alloc (.cells #[.int .i64 n, .int .i64 t, .slice A rs.length c] 47)).alloc (.cells #[.slice fa fns.length fc, .slice fb fes.length fd] 33)) w.heap.size 47 #[.int .i64 n, .int .i64 t, .slice A rs.length c] := (Row.new _ _ _).alloc _
  have R1 : Row ((w.alloc (.cells #[.int .i64 n, .int .i64 t, .slice A rs.length c] 47)).alloc (.cells #[.slice fa fns.length fc, .slice fb fes.length fd] 33)) (w.heap.size + 1) 33 #[.slice fa fns.length fc, .slice fb fes.length fd] := by
    have h := Row.new (w.alloc (.cells #[.int .i64 n, .int .i64 t, .slice A rs.length c] 47)) 33 #[.slice fa fns.length fc, .slice fb fes.length fd]
    rw [World.size_alloc] at h; exact h
  have hS2 : ((w.alloc (.cells #[.int .i64 n, .int .i64 t, .slice A rs.length c] 47)).alloc (.cells #[.slice fa fns.length fc, .slice fb fes.length fd] 33)).heap.size = w.heap.size + 2 := by simp
  generalize ((w.alloc (.cells #[.int .i64 n, .int .i64 t, .slice A rs.length c] 47)).alloc (.cells #[.slice fa fns.length fc, .slice fb fes.length fd] 33)) = W at hB0 R0 R1 hS2 ⊢
  have HB0 := Lib.hid hB0; clear hB0
  have HSK : Hid (∀ v, Below (w.heap.size + 2) W v → v.cell? ⟨w.heap.size, 0, none⟩ = some (.int .i64 n) ∧ v.cell? ⟨w.heap.size, 1, none⟩ = some (.int .i64 t) ∧ v.cell? ⟨w.heap.size, 2, none⟩ = some (.slice A rs.length c) ∧ v.cell? ⟨w.heap.size + 1, 0, none⟩ = some (.slice fa fns.length fc) ∧ v.cell? ⟨w.heap.size + 1, 1, none⟩ = some (.slice fb fes.length fd)) := fun v hv => by
    have r := R0.below hv (by omega)
    have q := R1.below hv (by omega)
    refine ⟨?_, ?_, ?_, ?_, ?_⟩
    · simpa using r.cell 0
    · simpa using r.cell 1
    · simpa using r.cell 2
    · simpa using q.cell 0
    · simpa using q.cell 1
  have HDN : Hid (∀ v, Below (w.heap.size + 2) W v → Below w.heap.size w v) := fun v hv => HB0.out.trans (hv.mono (by omega))
  clear R0 R1
  refine (HGD.out _ HB0.out).mono ?_
  rintro e w1 ⟨rfl, hB1⟩
  have HW1 : Hid (Below (w.heap.size + 2) W w1) := hS2 ▸ hB1
  have hz1 : w.heap.size + 2 ≤ w1.heap.size := by have := hB1.size; omega
  clear hB1
  cases hg : goodG n t (rs.map Ru.abs)
  · have HC : Hid (hrOk n t (rs.map Ru.abs) (Fs.mk fns (fes.map Eg.abs)) = false) := by show _ = _; unfold hrOk; rw [hg]; rfl
    clear hg
    go_wp2
    go_ret2
    exact ⟨by rw [HNO.out HC.out, HC.out]; rfl, HDN.out _ HW1.out⟩
  have HG := Lib.hid hg; clear hg
  obtain ⟨s0, s1, s2, s3, s4⟩ := HSK.out w1 HW1.out
  go_wp2_with fail
  refine (HSM.out _ (HDN.out _ HW1.out)).mono ?_
  rintro e w2 ⟨rfl, hB2⟩
  have HW2 : Hid (Below (w.heap.size + 2) W w2) := HW1.out.trans (hB2.mono hz1)
  have hz2 : w.heap.size + 2 ≤ w2.heap.size := Nat.le_trans hz1 hB2.size
  clear s0 s1 s2 s3 s4 hB2 HW1 hz1
  cases hs : smF (Fs.mk fns (fes.map Eg.abs))
  · have HC : Hid (hrOk n t (rs.map Ru.abs) (Fs.mk fns (fes.map Eg.abs)) = false) := by show _ = _; unfold hrOk; rw [HG.out, hs]; rfl
    clear hs
    go_wp2
    go_ret2
    exact ⟨by rw [HNO.out HC.out, HC.out]; rfl, HDN.out _ HW2.out⟩
  have HS := Lib.hid hs
  obtain ⟨hfn, hfe⟩ := smF_is hs
  replace hfn : fns.length ≤ 600 := hfn
  replace hfe : fes.length ≤ 600 := by simpa using hfe
  clear hs
  have HR16 : Hid (∀ v ∈ rs, v.r.length ≤ 1000) := fun v hv => by
    have h := goodG_four HG.out v.abs (List.mem_map_of_mem hv)
    simp only [Ru.abs] at h
    omega
  have HBAD : Hid (∀ k (h : k < fes.length), edOk (rs.map Ru.abs) (Fs.mk fns (fes.map Eg.abs)) fes[k].abs = false → hrOk n t (rs.map Ru.abs) (Fs.mk fns (fes.map Eg.abs)) = false) := fun k h hb => by
    unfold hrOk
    rw [HG.out, HS.out, Bool.true_and, Bool.true_and, List.all_eq_false]
    exact ⟨fes[k].abs, List.mem_map_of_mem (List.getElem_mem h), by rw [hb]; simp⟩
  have HALL : Hid ((∀ k (h : k < fes.length), edOk (rs.map Ru.abs) (Fs.mk fns (fes.map Eg.abs)) fes[k].abs = true) → hrOk n t (rs.map Ru.abs) (Fs.mk fns (fes.map Eg.abs)) = true) := fun h => by
    unfold hrOk
    rw [HG.out, HS.out, Bool.true_and, Bool.true_and, List.all_eq_true]
    intro e he
    obtain ⟨u, hu, rfl⟩ := List.mem_map.1 he
    obtain ⟨k, hk, rfl⟩ := List.getElem_of_mem hu
    exact h k hk
  obtain ⟨s0, s1, s2, s3, s4⟩ := HSK.out w2 HW2.out
  have hmk := make_leads fns.length (by omega)
  have hM4 := Lib.hid (goodG_four HG.out)
  obtain ⟨i0, hi0, hz0, hzi1, hzi2⟩ := info_of Tryd.infoInt
  have hq2 : w.heap.size + 1 < w2.heap.size := by omega
  go_wp2
  have HLD0 : Hid (LeadsW (w2.alloc (.cells (zLq fns.length) 27)) (w2.heap.size + 1) w2.heap.size (List.replicate fns.length (.slice none 0 0)) (leadTo (rs.map Ru.abs) (Fs.mk fns (fes.map Eg.abs)) 0)) := by
    have h := LeadsW.new w2 fns.length
    rw [leadTo_zero]
    exact h
  have HWL : Hid (Below (w.heap.size + 2) W (w2.alloc (.cells (zLq fns.length) 27))) := by
    have h : Below w2.heap.size w2 (w2.alloc (.cells (zLq fns.length) 27)) := by go_grown
    exact HW2.out.trans (h.mono hz2)
  have hLz : (w2.alloc (.cells (zLq fns.length) 27)).heap.size = w2.heap.size + 1 := by simp
  generalize (w2.alloc (.cells (zLq fns.length) 27)) = W3 at HLD0 HWL hLz ⊢
  clear s0 s1 s2 s3 s4 HW2 hmk
  go_loopw [26] (fun i wr => ∃ (k : Nat) (vs : List Value), k ≤ fes.length ∧ i = .int .i64 k ∧ w2.heap.size + 1 ≤ wr.heap.size ∧ Below (w.heap.size + 2) W wr ∧ Hid (LeadsW wr (w2.heap.size + 1) w2.heap.size vs (leadTo (rs.map Ru.abs) (Fs.mk fns (fes.map Eg.abs)) k)) ∧ Hid (∀ j (h : j < fes.length), j < k → edOk (rs.map Ru.abs) (Fs.mk fns (fes.map Eg.abs)) fes[j].abs = true)) (fun i _ => fes.length - (intOf i).toNat)
  case atStart => exact ⟨0, _, by omega, rfl, by omega, HWL.out, HLD0, fun j h hj => absurd hj (by omega)⟩
  case round =>
    clear HLD0 HWL hLz
    obtain ⟨k, vs, hk, rfl, hz, hB, HLD, H⟩ := hrel
    obtain ⟨s0, s1, s2, s3, s4⟩ := HSK.out wr hB
    by_cases hlt : k < fes.length
    · obtain ⟨eb, eo, rfl, hE⟩ := HEG.out.edge hlt
      have HE0 := Lib.hid hE
      have hE' := hE.keep (HDN.out wr hB)
      obtain ⟨hebl, e0, e1, e2, _⟩ := hE'
      have HEX := Lib.hid (hE.keep (HDN.out wr hB)); clear hE
      have hul := HMR.out fes[k] (List.getElem_mem hlt)
      go_wp2_with fail
      clear s0 s1 s2 s3 s4 e0 e1 e2
      refine (HCH.out eb (eo + k * 3) fes[k] wr (HDN.out wr hB) HEX.out hul HR16.out).mono ?_
      rintro e w3 ⟨A3, c3, rfl, hO3, hB3⟩
      have HI3 := Lib.hid hO3.ints; clear hO3
      have HLD3 := Lib.hid (HLD.out.keep hB3)
      have HB3 : Hid (Below (w.heap.size + 2) W w3) := hB.trans (hB3.mono (by omega))
      have hz3' : w2.heap.size + 1 ≤ w3.heap.size := Nat.le_trans hz hB3.size
      have hz3 : w.heap.size + 2 ≤ w3.heap.size := by omega
      have HKS : Hid (∀ v, Below w3.heap.size w3 v → (v.cell? ⟨w.heap.size, 0, none⟩ = some (.int .i64 n) ∧ v.cell? ⟨w.heap.size, 1, none⟩ = some (.int .i64 t) ∧ v.cell? ⟨w.heap.size, 2, none⟩ = some (.slice A rs.length c) ∧ v.cell? ⟨w.heap.size + 1, 0, none⟩ = some (.slice fa fns.length fc) ∧ v.cell? ⟨w.heap.size + 1, 1, none⟩ = some (.slice (some ⟨eb, eo, none⟩) fes.length fd)) ∧ v.cell? ⟨eb, eo + k * 3, none⟩ = some (.int .i64 fes[k].n)) := fun v hv => by
        have h1 := HB3.out.trans (hv.mono hz3)
        exact ⟨HSK.out v h1, (HE0.out.keep (HDN.out v h1)).2.1⟩
      have HOKE : Hid (edOk (rs.map Ru.abs) (Fs.mk fns (fes.map Eg.abs)) fes[k].abs = (chB (rs.map Ru.abs) fns fes[k].abs && nodB (Fs.mk fns (fes.map Eg.abs)) fes[k].n)) := rfl
      have HBADK := Lib.hid (HBAD.out k hlt)
      have hkl : (chV (rs.map Ru.abs) fns fes[k].abs).length ≤ 4 := chV_len hM4.out
      have HSU := Lib.hid (fun x hx hxl => leadTo_succ (ss := (rs.map Ru.abs)) (f := (Fs.mk fns (fes.map Eg.abs))) (k := k) (by simpa using hlt) (x := x) hx hxl)
      have HABS : Hid ((Fs.mk fns (fes.map Eg.abs)).es[k]'(by simpa using hlt) = fes[k].abs) := by show _ = _; simp
      rw [show (Fs.mk fns (fes.map Eg.abs)).ns = fns from rfl, HABS.out] at HSU
      have hlens := leadTo_lens (ss := (rs.map Ru.abs)) (f := (Fs.mk fns (fes.map Eg.abs))) (k := k) hM4.out
      generalize chB (rs.map Ru.abs) fns fes[k].abs = kok at HOKE ⊢
      generalize chV (rs.map Ru.abs) fns fes[k].abs = kids at hkl HI3 HSU ⊢
      clear hB3 hB hz HEX HLD
      cases kok
      · have HC : Hid (hrOk n t (rs.map Ru.abs) (Fs.mk fns (fes.map Eg.abs)) = false) := HBADK.out (by rw [HOKE.out]; rfl)
        go_wp2
        refine wp_region_held_drew (S := fun w' => True) (by kernel_rfl) trivial (fun hHeld => ?_)
        refine take_one (i := 0) (d := 40) (v := ?_) rfl rfl (by kernel_rfl) (by kernel_rfl) (by kernel_rfl) (fun _ _ _ h => h) (Or.inl ⟨by rfl, ?_⟩) (by assumption) ?_
        rotate_left
        · (intro wz hSw; go_simp; try rfl)
        try simp only [Act.put, List.setIfInBounds_toArray, List.set_cons_zero, List.set_cons_succ]
        refine take_one (i := 1) (d := 41) (v := ?_) rfl rfl (by kernel_rfl) (by kernel_rfl) (by kernel_rfl) (fun _ _ _ h => h) (Or.inl ⟨by rfl, ?_⟩) (by assumption) ?_
        rotate_left
        · (intro wz hSw; go_simp; try rfl)
        try simp only [Act.put, List.setIfInBounds_toArray, List.set_cons_zero, List.set_cons_succ]
        refine take_one (i := 2) (d := 42) (v := ?_) rfl rfl (by kernel_rfl) (by kernel_rfl) (by kernel_rfl) (fun _ _ _ h => h) (Or.inl ⟨by rfl, ?_⟩) (by assumption) ?_
        rotate_left
        · (intro wz hSw; go_simp; try rfl)
        try simp only [Act.put, List.setIfInBounds_toArray, List.set_cons_zero, List.set_cons_succ]
        refine take_one (i := 3) (d := 43) (v := undef) rfl rfl (by kernel_rfl) (by kernel_rfl) (by kernel_rfl) (fun _ _ _ h => h) (Or.inr ⟨by rfl, rfl⟩) (by assumption) ?_
        try simp only [Act.put, List.setIfInBounds_toArray, List.set_cons_zero, List.set_cons_succ]
        refine take_one (i := 4) (d := 44) (v := undef) rfl rfl (by kernel_rfl) (by kernel_rfl) (by kernel_rfl) (fun _ _ _ h => h) (Or.inr ⟨by rfl, rfl⟩) (by assumption) ?_
        try simp only [Act.put, List.setIfInBounds_toArray, List.set_cons_zero, List.set_cons_succ]
        refine take_one (i := 5) (d := 45) (v := undef) rfl rfl (by kernel_rfl) (by kernel_rfl) (by kernel_rfl) (fun _ _ _ h => h) (Or.inr ⟨by rfl, rfl⟩) (by assumption) ?_
        try simp only [Act.put, List.setIfInBounds_toArray, List.set_cons_zero, List.set_cons_succ]
        refine take_one (i := 6) (d := 46) (v := undef) rfl rfl (by kernel_rfl) (by kernel_rfl) (by kernel_rfl) (fun _ _ _ h => h) (Or.inr ⟨by rfl, rfl⟩) (by assumption) ?_
        try simp only [Act.put, List.setIfInBounds_toArray, List.set_cons_zero, List.set_cons_succ]
        refine take_one (i := 7) (d := 47) (v := undef) rfl rfl (by kernel_rfl) (by kernel_rfl) (by kernel_rfl) (fun _ _ _ h => h) (Or.inr ⟨by rfl, rfl⟩) (by assumption) ?_
        try simp only [Act.put, List.setIfInBounds_toArray, List.set_cons_zero, List.set_cons_succ]
        refine take_one (i := 8) (d := 48) (v := undef) rfl rfl (by kernel_rfl) (by kernel_rfl) (by kernel_rfl) (fun _ _ _ h => h) (Or.inr ⟨by rfl, rfl⟩) (by assumption) ?_
        try simp only [Act.put, List.setIfInBounds_toArray, List.set_cons_zero, List.set_cons_succ]
        refine take_one (i := 9) (d := 49) (v := undef) rfl rfl (by kernel_rfl) (by kernel_rfl) (by kernel_rfl) (fun _ _ _ h => h) (Or.inr ⟨by rfl, rfl⟩) (by assumption) ?_
        try simp only [Act.put, List.setIfInBounds_toArray, List.set_cons_zero, List.set_cons_succ]
        refine take_one (i := 10) (d := 50) (v := ?_) rfl rfl (by kernel_rfl) (by kernel_rfl) (by kernel_rfl) (fun _ _ _ h => h) (Or.inl ⟨by rfl, ?_⟩) (by assumption) ?_
        rotate_left
        · (intro wz hSw; go_simp; try rfl)
        try simp only [Act.put, List.setIfInBounds_toArray, List.set_cons_zero, List.set_cons_succ]
        refine wpAnyH_done (by kernel_rfl) ?_ _
        go_simp
        go_wp2
        go_ret2
        exact ⟨by rw [HNO.out HC.out, HC.out]; rfl, HDN.out _ (HB3.out.trans (Below.mono (B := w3.heap.size) (by go_grown) hz3))⟩
      obtain ⟨⟨s0, s1, s2, s3, s4⟩, s5⟩ := HKS.out w3 (Below.refl _ _)
      have HHN : Hid (∀ v, Calls Tryd.prog 34 #[.agg #[.slice fa fns.length fc, .slice (some ⟨eb, eo, none⟩) fes.length fd], .int .i64 fes[k].n] v fun e v' => e = .returned (.bool (nodB (Fs.mk fns (fes.map Eg.abs)) fes[k].n)) ∧ Below v.heap.size v v') := fun v => hasNode_any (Fo.mk fa fns fc (some ⟨eb, eo, none⟩) fes fd) fes[k].n v HM.out
      have hnl : ∀ x, nodB (Fs.mk fns (fes.map Eg.abs)) x = true → 0 ≤ x ∧ x < (fns.length : Int) := fun x hx => of_decide_eq_true hx
      cases hnb : nodB (Fs.mk fns (fes.map Eg.abs)) fes[k].n
      · have HC : Hid (hrOk n t (rs.map Ru.abs) (Fs.mk fns (fes.map Eg.abs)) = false) := HBADK.out (by rw [HOKE.out, hnb]; rfl)
        rw [hnb] at HHN
        clear hnb hnl
        go_wp2
        go_region_held3 (fun w' => (w'.cell? ⟨w.heap.size, 0, none⟩ = some (.int .i64 n) ∧ w'.cell? ⟨w.heap.size, 1, none⟩ = some (.int .i64 t) ∧ w'.cell? ⟨w.heap.size, 2, none⟩ = some (.slice A rs.length c) ∧ w'.cell? ⟨w.heap.size + 1, 0, none⟩ = some (.slice fa fns.length fc) ∧ w'.cell? ⟨w.heap.size + 1, 1, none⟩ = some (.slice (some ⟨eb, eo, none⟩) fes.length fd)) ∧ w'.cell? ⟨eb, eo + k * 3, none⟩ = some (.int .i64 fes[k].n))
          (first | exact HKS.out _ HY4.out | exact ⟨⟨s0, s1, s2, s3, s4⟩, s5⟩)
          (first | (go_at_call 34
                    with_reducible refine (HHN.out _).mono ?_
                    rintro e w4 ⟨rfl, hB4'⟩
                    have hB4 : Below w3.heap.size w3 w4 := Below.trans (by go_grown) hB4'
                    have HY4 := Lib.hid hB4
                    clear hB4 hB4'))
        go_wp2
        go_ret2
        exact ⟨by rw [HNO.out HC.out, HC.out]; rfl, HDN.out _ (HB3.out.trans (HY4.out.mono hz3))⟩
      · have HOK1 : Hid (edOk (rs.map Ru.abs) (Fs.mk fns (fes.map Eg.abs)) fes[k].abs = true) := HOKE.out.trans (by rw [hnb]; rfl)
        obtain ⟨hn0, hn1⟩ := hnl _ hnb
        rw [hnb] at HHN
        clear hnb hnl
        obtain ⟨x, hx⟩ : ∃ x : Nat, fes[k].n = (x : Int) := ⟨_, (Int.toNat_of_nonneg hn0).symm⟩
        have hxl : x < fns.length := by omega
        clear hn0 hn1
        have HXE := Lib.hid hx
        simp only [hx] at HHN HKS s5
        clear hx
        go_wp2
        go_region_held3 (fun w' => (w'.cell? ⟨w.heap.size, 0, none⟩ = some (.int .i64 n) ∧ w'.cell? ⟨w.heap.size, 1, none⟩ = some (.int .i64 t) ∧ w'.cell? ⟨w.heap.size, 2, none⟩ = some (.slice A rs.length c) ∧ w'.cell? ⟨w.heap.size + 1, 0, none⟩ = some (.slice fa fns.length fc) ∧ w'.cell? ⟨w.heap.size + 1, 1, none⟩ = some (.slice (some ⟨eb, eo, none⟩) fes.length fd)) ∧ w'.cell? ⟨eb, eo + k * 3, none⟩ = some (.int .i64 (x : Int)))
          (first | exact HKS.out _ HY4.out | exact ⟨⟨s0, s1, s2, s3, s4⟩, s5⟩)
          (first | (go_at_call 34
                    with_reducible refine (HHN.out _).mono ?_
                    rintro e w4 ⟨rfl, hB4'⟩
                    have hB4 : Below w3.heap.size w3 w4 := Below.trans (by go_grown) hB4'
                    have HY4 := Lib.hid hB4
                    clear hB4 hB4'))
        rename_i hHeld
        clear hHeld s0 s1 s2 s3 s4 s5 HHN
        have HLD4 := Lib.hid (HLD3.out.keep HY4.out)
        have hz4 : w3.heap.size ≤ w4.heap.size := HY4.out.size
        have HI4 := Lib.hid (HI3.out.keep HY4.out)
        have s5 := (HKS.out w4 HY4.out).2
        have hebw : eb < w.heap.size := HE0.out.1
        have hvl : x < vs.length := by have := HLD4.out.len; rw [leadTo_len] at this; have h2 : vs.length = fns.length := this; omega
        have hdl : x < (leadTo (rs.map Ru.abs) (Fs.mk fns (fes.map Eg.abs)) k).length := by rw [leadTo_len]; exact hxl
        have HSX := Lib.hid (HSU.out x HXE.out hdl)
        have hdn := hlens _ (List.getElem_mem hdl)
        have hsl : (Fs.mk fns (fes.map Eg.abs)).es.length = fes.length := by simp
        rw [hsl] at hdn
        have c0 : w4.cell? ⟨w2.heap.size, x, none⟩ = some vs[x] := by rw [HLD4.out.row.cell]; simp [hvl]
        have f0 : w4.frozen? ⟨w2.heap.size, x, none⟩ = false := HLD4.out.row.frozen x
        have HOV := Lib.hid (HLD4.out.own x _ _ (List.getElem?_eq_getElem hvl) (List.getElem?_eq_getElem hdl))
        have HLO : Hid (∀ j, vs[x].ownBlock = some j → w2.heap.size + 1 ≤ j) := fun j hj => (HOV.out.lt j hj).1
        generalize hdd : (leadTo (rs.map Ru.abs) (Fs.mk fns (fes.map Eg.abs)) k)[x] = dd at HOV hdn HSX
        have HDD := Lib.hid hdd; clear hdd
        have hdd600 : dd.length ≤ 2400 := Nat.le_trans hdn (by omega)
        clear hlens hsl hdn HSU
        go_wp2
        go_region_law (first
          | (refine step_append_ints rfl (.tmp 62) (.tmp 63) _ rfl (w2.heap.size + 1) 3 i0 _ Tryd.underlying27 hi0 hz0 hzi1 hzi2 rfl vs[x] dd (by simp [Act.eval]) (own_below HOV.out (by go_grown)) A3 kids c3 w3.heap.size (by simp [Act.eval]) (HI4.out.keep (Below.mono (B := w4.heap.size) (by go_grown) hz4)) (by omega) (by simp; omega) ?_
             intro v' w5 hown hgrow hat
             obtain ⟨A5, k5, hv5, _, _⟩ := own_shape hown
             rw [List.length_append] at hv5
             subst hv5
             have hB5 : Below (w2.heap.size + 1) w4 w5 := (show Below (w2.heap.size + 1) w4 w4.drew from Below.mono (B := w4.heap.size) (by go_grown) (by omega)).grown hgrow (by simp; omega) HLO.out
             have c5 := (hB5.cell (p := ⟨w2.heap.size, x, none⟩) (by simp)).trans c0
             have f5 := (hB5.frozen (p := ⟨w2.heap.size, x, none⟩) (by simp)).trans f0
             have t5 := (hB5.cell (p := ⟨eb, eo + k * 3, none⟩) (by simp; omega)).trans s5
             have HOW := Lib.hid hown
             have HGR := Lib.hid hgrow
             have HAT := Lib.hid hat
             have HB5 := Lib.hid hB5
             clear hown hgrow hat hB5))
        all_goals
          have HLN : Hid (LeadsW (w5.setCell ⟨w2.heap.size, x, none⟩ (.slice A5 (dd.length + kids.length) k5)) (w2.heap.size + 1) w2.heap.size (vs.set x (.slice A5 (dd.length + kids.length) k5)) (leadTo (rs.map Ru.abs) (Fs.mk fns (fes.map Eg.abs)) (k + 1))) := by
            show LeadsW _ _ _ _ _
            rw [HSX.out]
            have h := (HLD4.out.keep (w' := w4.drew) (by go_grown)).grow (w' := w5) (by omega) hvl hdl (by rw [HDD.out]; exact HOW.out) HGR.out HAT.out
            rw [HDD.out] at h
            exact h
          have hz5 := HB5.out.size
          go_wp2
          go_roundw
          case rel => exact ⟨k + 1, _, by omega, by go_num, by rw [World.size_setCell]; omega, ((HB3.out.trans (HY4.out.mono hz3)).trans (HB5.out.mono (by omega))).setCell (by simp; omega) _, HLN, fun j h hj => by
            by_cases e : j = k
            · subst e; exact HOK1.out
            · exact H.out j h (by omega)⟩
          case measure => simp [intOf]; omega
    · obtain rfl : k = fes.length := by omega
      have HC : Hid (hrOk n t (rs.map Ru.abs) (Fs.mk fns (fes.map Eg.abs)) = true) := HALL.out fun k h => H.out k h h
      have HV : Hid (hrV n t (rs.map Ru.abs) (Fs.mk fns (fes.map Eg.abs)) = bP (HasCyc fns.length (LeadsTo (leadL (rs.map Ru.abs) (Fs.mk fns (fes.map Eg.abs)))))) := by show _ = _; unfold hrV; rw [HC.out]; rfl
      have HGO : Hid (Calls Tryd.prog 48 #[.slice (some ⟨w2.heap.size, 0, none⟩) fns.length fns.length] wr fun e v' => e = .returned (.bool (bP (HasCyc fns.length (LeadsTo (leadL (rs.map Ru.abs) (Fs.mk fns (fes.map Eg.abs))))))) ∧ Below wr.heap.size wr v') := by
        obtain ⟨ls, hls, hL⟩ := HLD.out.lls
        have hes : (Fs.mk fns (fes.map Eg.abs)).es.length = fes.length := by simp
        have hll : ls.length = fns.length := by rw [sayL_len' hls, leadTo_len]
        have hlu : ∀ u ∈ ls, u.r.length ≤ 1048576 := fun u hu => by
          have h := leadTo_lens (ss := (rs.map Ru.abs)) (f := (Fs.mk fns (fes.map Eg.abs))) (k := fes.length) hM4.out u.r (hls ▸ sayL_mem hu)
          rw [hes] at h
          omega
        have hel : ∀ u ∈ ls, ∀ x ∈ u.r, 0 ≤ x ∧ x < (ls.length : Int) := fun u hu x hx => by
          rw [hll]
          exact leadTo_in (ss := (rs.map Ru.abs)) (f := (Fs.mk fns (fes.map Eg.abs))) (k := fes.length) u.r (hls ▸ sayL_mem hu) x hx
        have h := goesRound_any (some ⟨w2.heap.size, 0, none⟩) ls fns.length wr hL (by omega) hlu hel
        rw [hls, hll] at h
        have e := leadTo_all (rs.map Ru.abs) (Fs.mk fns (fes.map Eg.abs))
        rw [hes] at e
        rw [e] at h
        exact h
      clear s0 s1 s2 s3 s4
      go_wp2_with fail
      refine HGO.out.mono ?_
      rintro e w3 ⟨rfl, hB3⟩
      go_wp2
      go_ret2
      exact ⟨by rw [HV.out, HC.out]; rfl, HDN.out _ (hB.trans (hB3.mono (by omega)))⟩

end Go.Proofs.YtbgjlabjihoaaaaDoor
