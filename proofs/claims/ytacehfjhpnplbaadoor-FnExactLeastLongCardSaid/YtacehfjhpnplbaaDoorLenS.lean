/- The reference's LeastLong. -/
import Derived.Test.YtacehfjhpnplbaaDoorLenI2
import Derived.Test.YtacehfjhpnplbaaDoorSpecGood2
namespace Go.Proofs.YtacehfjhpnplbaaDoor
open Go.RowKit

/-- Block g is a row of N numbers: f tells them. -/
def RowF (w : World) (g N : Nat) (f : Nat → Int) : Prop := ∃ cs : Array Value, Row w g 3 cs ∧ cs.size = N ∧ ∀ k, k < N → cs[k]? = some (.int .i64 (f k))
theorem RowF.cell {w : World} {g N : Nat} {f : Nat → Int} (h : RowF w g N f) {k : Nat} (hk : k < N) : w.cell? ⟨g, k, none⟩ = some (.int .i64 (f k)) := by
  obtain ⟨cs, h1, _, h3⟩ := h
  exact (h1.cell k).trans (h3 k hk)
theorem RowF.frozen {w : World} {g N : Nat} {f : Nat → Int} (h : RowF w g N f) (k : Nat) : w.frozen? ⟨g, k, none⟩ = false := by
  obtain ⟨cs, h1, _, _⟩ := h
  exact h1.frozen k
theorem RowF.lt {w : World} {g N : Nat} {f : Nat → Int} (h : RowF w g N f) : g < w.heap.size := by
  obtain ⟨cs, h1, _, _⟩ := h
  exact h1.lt
theorem RowF.keep {w w' : World} {g N : Nat} {f : Nat → Int} (h : RowF w g N f) (hb : Below w.heap.size w w') : RowF w' g N f := by
  obtain ⟨cs, h1, h2, h3⟩ := h
  exact ⟨cs, h1.below hb h1.lt, h2, h3⟩
theorem RowF.set {w : World} {g N : Nat} {f : Nat → Int} (h : RowF w g N f) {k : Nat} (hk : k < N) (v : Int) : RowF (w.setCell ⟨g, k, none⟩ (.int .i64 v)) g N (fun j => if j = k then v else f j) := by
  obtain ⟨cs, h1, h2, h3⟩ := h
  refine ⟨_, h1.set k _, by simpa using h2, fun j hj => ?_⟩
  rw [Array.getElem?_setIfInBounds]
  by_cases e : k = j
  · subst e
    rw [if_pos rfl, if_pos (by omega)]
    simp
  · rw [if_neg e]
    show _ = some (Value.int .i64 (if j = k then v else f j))
    rw [if_neg (fun h => e h.symm)]
    exact h3 j hj
theorem RowF.same {w : World} {g N : Nat} {f f' : Nat → Int} (h : RowF w g N f) (e : ∀ k, k < N → f k = f' k) : RowF w g N f' := by
  obtain ⟨cs, h1, h2, h3⟩ := h
  exact ⟨cs, h1, h2, fun k hk => by rw [← e k hk]; exact h3 k hk⟩
theorem zI_get {k i : Nat} (h : i < k) : (zI k)[i]? = some (.int .i64 0) := by
  simp [zI, madeCells, h, Nat.mod_one]
theorem RowF.new (w : World) (N : Nat) : RowF (w.alloc (.cells (zI N) 3)) w.heap.size N fun _ => 0 := ⟨_, Row.new _ _ _, zI_size N, fun _ hk => zI_get hk⟩

/-- A length, or -1. -/
def valL (o : Option Nat) : Int := match o with
  | some m => (m : Int)
  | none => -1
theorem lenBy_snoc_none {L : Known} {x : Int} : ∀ {xs : List Int}, lenBy L xs = none → lenBy L (xs ++ [x]) = none
  | [], h => by cases h
  | y :: ys, h => by
    show lenBy L (y :: (ys ++ [x])) = none
    unfold lenBy at h ⊢
    cases hy : (if y < 0 then some 1 else L y) with
    | none => rfl
    | some q =>
      cases hb : lenBy L ys with
      | none => rw [lenBy_snoc_none hb]
      | some b => rw [hy, hb] at h; cases h
theorem lenBy_take_no {L : Known} {xs : List Int} {k : Nat} (hk : k < xs.length) (h : lenBy L (xs.take k) = none) : lenBy L (xs.take (k + 1)) = none := by
  rw [List.take_succ_eq_append_getElem hk]
  exact lenBy_snoc_none h
theorem lenBy_take_un {L : Known} {xs : List Int} {k : Nat} (hk : k < xs.length) (h0 : ¬ xs[k] < 0) (h : L xs[k] = none) : lenBy L (xs.take (k + 1)) = none := by
  rw [List.take_succ_eq_append_getElem hk]
  exact lenBy_none h0 h (List.mem_append_right _ (List.mem_singleton.2 rfl))
theorem RowF.put {w : World} {g N : Nat} {L : Known} (h : RowF w g N fun k => valL (L (k : Int))) {p : Nat} (hp : p < N) (m : Nat) : RowF (w.setCell ⟨g, p, none⟩ (.int .i64 (m : Int))) g N fun k => valL (putL L (p : Int) m (k : Int)) :=
  (h.set hp (m : Int)).same fun k _ => by
    unfold putL
    by_cases e : k = p
    · subst e; rw [if_pos rfl, if_pos rfl]; rfl
    · rw [if_neg e, if_neg (by omega)]

set_option maxRecDepth 20000 in
set_option maxHeartbeats 4000000 in
theorem specLeastLong_any (n t : Int) (A : Option Addr) (c : Nat) (rs : List Ru) (w : World) (hx : Rls w w.heap.size A rs) (hc : rs.length ≤ c) (h1 : rs.length ≤ 1048576) (h2 : ∀ u ∈ rs, u.r.length ≤ 1048576) :
    Calls Tryd.prog 50 #[.agg #[.int .i64 n, .int .i64 t, .slice A rs.length c]] w (GaveXI w (QL n t (rs.map Ru.abs))) := by
  have HX := Lib.hid hx; clear hx
  have H2 := Lib.hid h2; clear h2
  have HB0 : Hid (Below w.heap.size w (w.alloc (.cells #[.int .i64 n, .int .i64 t, .slice A rs.length c] 26))) := by show Below _ _ _; go_grown
  have B0 : Hid (Box3 (w.alloc (.cells #[.int .i64 n, .int .i64 t, .slice A rs.length c] 26)) w.heap.size (.int .i64 n) (.int .i64 t) (.slice A rs.length c)) := ⟨by simp, by simp [go_sem], by simp [go_sem], by simp [go_sem]⟩
  cases hg : goodG n t (rs.map Ru.abs)
  · have HQ : Hid (QL n t (rs.map Ru.abs) 0 false) := ⟨fun h => (by rw [hg] at h; cases h), fun _ => ⟨rfl, rfl⟩⟩
    have HG := Lib.hid hg; clear hg
    go_enter Tryd.func50, Tryd.ntmps50
    go_wp2_with fail
    refine (specGood_any _ _ _ _ _ _ ((HX.out.keep HB0.out).more HB0.out.size) hc h1 H2.out).mono ?_
    rintro e w1 ⟨rfl, hB1⟩
    rw [HG.out]
    have HB1 := Lib.hid (HB0.out.trans (hB1.mono HB0.out.size)); clear hB1
    go_wp2
    go_ret2
    exact ⟨0, false, HQ.out, rfl, HB1.out⟩
  obtain ⟨⟨n1, n2⟩, _, _, _⟩ := goodG_is hg
  have h16 := good_16 hg
  obtain ⟨N, rfl⟩ : ∃ N : Nat, n = (N : Int) := ⟨n.toNat, by omega⟩
  have hN1 : 1 ≤ N := by omega
  have hN6 : N ≤ 6 := by omega
  have HG := Lib.hid hg; clear hg
  have HMK := Lib.hid (make_ints N (by omega))
  go_enter Tryd.func50, Tryd.ntmps50
  go_wp2_with fail
  refine (specGood_any _ _ _ _ _ _ ((HX.out.keep HB0.out).more HB0.out.size) hc h1 H2.out).mono ?_
  rintro e w1 ⟨rfl, hB1⟩
  rw [HG.out]
  have K0 := Lib.hid (B0.out.keep hB1 (by simp))
  have HB1 := Lib.hid (HB0.out.trans (hB1.mono HB0.out.size)); clear hB1
  have hw1 : w.heap.size < w1.heap.size := K0.out.1
  clear B0 HB0 n1 n2
  obtain ⟨_, b0, b1, b2⟩ := K0.out
  have hmk := HMK.out w1
  go_wp2
  clear b0 b1 b2 hmk
  go_loopw [20] (fun i wr => ∃ (k : Nat), k ≤ N ∧ i = .int .i64 k ∧ Hid (RowF wr w1.heap.size N fun j => if j < k then -1 else 0) ∧ Hid (Below w1.heap.size w1 wr)) (fun i _ => N - (intOf i).toNat)
  case atStart => exact ⟨0, by omega, rfl, (RowF.new w1 N).same fun k _ => by simp, (Below.refl _ _).alloc (Nat.le_refl _) _⟩
  case round =>
    obtain ⟨k, hk, rfl, HR, HB⟩ := hrel
    by_cases hlt : k < N
    · have c1 := HR.out.cell hlt
      have f1 := HR.out.frozen k
      have HR2 := Lib.hid ((HR.out.set hlt (-1)).same (f' := fun j => if j < k + 1 then -1 else 0) fun j _ => by
        by_cases e : j = k
        · subst e; rw [if_pos rfl, if_pos (by omega)]
        · rw [if_neg e]
          by_cases e2 : j < k
          · rw [if_pos e2, if_pos (by omega)]
          · rw [if_neg e2, if_neg (by omega)])
      go_wp2
      go_roundw
      case rel => exact ⟨k + 1, by omega, by go_num, HR2.out, HB.out.setCell (by simp) _⟩
      case measure => simp [intOf]; omega
    · obtain rfl : k = N := by omega
      obtain ⟨wF, hwF⟩ : ∃ x, x = wr := ⟨_, rfl⟩
      subst hwF
      have HRF : Hid (RowF wF w1.heap.size k fun j => valL ((fun _ : Int => (none : Option Nat)) (j : Int))) := HR.out.same fun j hj => by rw [if_pos hj]; rfl
      clear HR
      go_wp2
      go_loopg [6] (2 * gain (fun _ => none) + 1) (fun g m wr => ∃ (more : Bool) (L : Known), m = .bool more ∧ g = 2 * gain L + (if more then 1 else 0) ∧ Hid (RowF wr w1.heap.size k fun j => valL (L (j : Int))) ∧ Hid (Lens (rs.map Ru.abs) L) ∧ Hid (Below w1.heap.size w1 wr) ∧ Hid (more = false → ∀ u ∈ rs, Tight L u))
      case atStart => exact ⟨true, _, rfl, rfl, HRF.out, Lens.start _, HB.out, fun h => by cases h⟩
      case round =>
        obtain ⟨more, L, rfl, hgk, HM, HL, HB2, HC⟩ := hrel
        clear HRF
        cases more
        · have HD : Hid (IsMin (rs.map Ru.abs) L) := isMin_of HL.out.sound fun r hr m hm => by
            obtain ⟨u, hu, rfl⟩ := List.mem_map.1 hr
            exact HC.out rfl u hu m hm
          have c0 := HM.out.cell (k := 0) (by omega)
          have HBF : Hid (Below w.heap.size w wr) := HB1.out.trans (HB2.out.mono HB1.out.size)
          have e0 : ((0 : Nat) : Int) = 0 := rfl
          rw [e0] at c0
          cases hl0 : L 0 with
          | none =>
            rw [hl0] at c0
            have HQ : Hid (QL (k : Int) t (rs.map Ru.abs) 0 false) := ⟨fun _ => ⟨L, HD.out, by rw [hl0]; rfl, by rw [hl0]; rfl⟩, fun h => by rw [HG.out] at h; cases h⟩
            simp only [valL] at c0
            clear hl0 e0
            go_wp2
            go_ret2
            exact ⟨0, false, HQ.out, rfl, HBF.out⟩
          | some m =>
            rw [hl0] at c0
            have HQ : Hid (QL (k : Int) t (rs.map Ru.abs) (m : Int) true) := ⟨fun _ => ⟨L, HD.out, by rw [hl0]; rfl, by rw [hl0]; rfl⟩, fun h => by rw [HG.out] at h; cases h⟩
            simp only [valL] at c0
            clear hl0 e0
            go_wp2
            go_ret2
            exact ⟨(m : Int), true, HQ.out, rfl, HBF.out⟩
        · rw [if_pos rfl] at hgk
          obtain ⟨wO, hwO⟩ : ∃ x, x = wr := ⟨_, rfl⟩
          subst hwO
          obtain ⟨_, b0, b1, b2⟩ := K0.out.keep HB2.out hw1
          go_wp2
          clear b0 b1 b2
          go_loopw [6, 31] (fun m i wr => ∃ (q : Nat) (more : Bool) (M : Known), q ≤ rs.length ∧ i = .int .i64 q ∧ m = .bool more ∧ Hid (RowF wr w1.heap.size k fun j => valL (M (j : Int))) ∧ Hid (Lens (rs.map Ru.abs) M) ∧ Hid (Below w1.heap.size w1 wr) ∧ Hid (more = true → gain M < gain L) ∧ Hid (more = false → M = L ∧ ∀ (j : Nat) (u : Ru), j < q → rs[j]? = some u → Tight M u)) (fun _ i _ => rs.length - (intOf i).toNat)
          case atStart => exact ⟨0, false, L, by omega, rfl, rfl, HM.out, HL.out, HB2.out, fun h => (by cases h), fun _ => ⟨rfl, fun j u h => absurd h (by omega)⟩⟩
          case round =>
            obtain ⟨q, more, M, hq, rfl, rfl, HM3, HL3, HB3, HG3, HC3⟩ := hrel
            by_cases hql : q < rs.length
            · have HW3 : Hid (Below w.heap.size w wr) := HB1.out.trans (HB3.out.mono HB1.out.size)
              obtain ⟨p, o, hA, hp, c1, c2, c3⟩ := ((HX.out.keep HW3.out).more HW3.out.size).at_ hql
              have hum : rs[q].abs ∈ rs.map Ru.abs := List.mem_map.2 ⟨_, List.getElem_mem hql, rfl⟩
              have h4 := good_len HG.out hum
              have h6 : 0 ≤ rs[q].l ∧ rs[q].l < (k : Int) := (goodG_mem HG.out hum).1
              have HSY : Hid (∀ x ∈ rs[q].r, (0 ≤ x ∧ x < (k : Int)) ∨ x < 0) := fun x hx => ((goodG_mem HG.out hum).2.2 x hx).imp id And.left
              have HUM := Lib.hid hum
              have HBR : Hid (Below wr.heap.size wr (wr.alloc (.cells #[.int .i64 rs[q].l, .slice rs[q].a rs[q].r.length rs[q].c] 64))) := (Below.refl _ _).alloc (Nat.le_refl _) _
              have HBU : Hid (Box2 (wr.alloc (.cells #[.int .i64 rs[q].l, .slice rs[q].a rs[q].r.length rs[q].c] 64)) wr.heap.size (.int .i64 rs[q].l) (.slice rs[q].a rs[q].r.length rs[q].c)) := ⟨by simp, by simp [go_sem], by simp [go_sem]⟩
              have HMY := Lib.hid (HM3.out.keep HBR.out)
              have HRY := Lib.hid ((c3.keep HBR.out).more HBR.out.size)
              have HBY : Hid (Below w1.heap.size w1 (wr.alloc (.cells #[.int .i64 rs[q].l, .slice rs[q].a rs[q].r.length rs[q].c] 64))) := HB3.out.trans (HBR.out.mono HB3.out.size)
              clear c3 hum
              have HTK : Hid (∀ (N : Known), (N = M → Tight N rs[q]) → (more = false → N = M) → (more = false → N = L ∧ ∀ (j : Nat) (u : Ru), j < q + 1 → rs[j]? = some u → Tight N u)) := fun N h1 h2 h => by
                have e := h2 h
                subst e
                refine ⟨(HC3.out h).1, fun j u hj hu => ?_⟩
                by_cases e : j = q
                · subst e
                  rw [List.getElem?_eq_getElem hql] at hu
                  injection hu with hu
                  subst hu
                  exact h1 rfl
                · exact (HC3.out h).2 j u (by omega) hu
              rw [hA]
              go_wp2
              clear c1 c2
              obtain ⟨wM, hwM⟩ : ∃ x, x = wr := ⟨_, rfl⟩
              subst hwM
              obtain ⟨_, r0, r1⟩ := HBU.out
              generalize (wM.alloc (.cells #[.int .i64 rs[q].l, .slice rs[q].a rs[q].r.length rs[q].c] 64)) = Y at *
              go_loopw [9, 38] (fun v i wr => ∃ (j : Nat), j ≤ rs[q].r.length ∧ i = .int .i64 j ∧ v = .int .i64 (valL (lenBy M (rs[q].r.take j))) ∧ wr = Y) (fun _ i _ => rs[q].r.length - (intOf i).toNat)
              case atStart => exact ⟨0, by omega, rfl, rfl, rfl⟩
              case round =>
                obtain ⟨j, hj, rfl, rfl, rfl⟩ := hrel
                by_cases hjl : j < rs[q].r.length
                · obtain ⟨p2, o2, hA2, hp2, d1⟩ := HRY.out.at_ hjl
                  rw [hA2]
                  cases hlb : lenBy M (rs[q].r.take j) with
                  | none =>
                    have HN := Lib.hid (lenBy_take_no hjl hlb)
                    clear hlb
                    simp only [valL]
                    go_wp2
                    go_roundw
                    case rel => exact ⟨j + 1, by omega, by go_num, by rw [HN.out], by simp⟩
                    case measure => simp [intOf]; omega
                  | some s =>
                    have hs : s ≤ 16384 := HL3.out.len_top (by rw [List.length_take]; omega) hlb
                    simp only [valL]
                    by_cases hneg : rs[q].r[j] < 0
                    · have HN := Lib.hid (lenBy_take hjl hlb (a := 1) (if_pos hneg))
                      clear hlb
                      go_wp2
                      go_roundw
                      case rel => exact ⟨j + 1, by omega, by go_num, by rw [HN.out]; show _ = Value.int .i64 ((s + 1 : Nat) : Int); go_num, by simp⟩
                      case measure => simp [intOf]; omega
                    · have hsy := HSY.out _ (List.getElem_mem hjl)
                      obtain ⟨z, hz⟩ : ∃ z : Nat, rs[q].r[j] = (z : Int) := ⟨rs[q].r[j].toNat, by omega⟩
                      have hzk : z < k := by omega
                      have cz := HMY.out.cell hzk
                      cases hM : M (z : Int) with
                      | none =>
                        have HN := Lib.hid (lenBy_take_un hjl hneg (by rw [hz]; exact hM))
                        rw [hM] at cz
                        simp only [valL] at cz
                        rw [hz] at d1
                        clear hlb hM hneg hsy hz
                        go_wp2
                        go_roundw
                        case rel => exact ⟨j + 1, by omega, by go_num, by rw [HN.out], by simp⟩
                        case measure => simp [intOf]; omega
                      | some a =>
                        have HN := Lib.hid (lenBy_take hjl hlb (a := a) (by rw [if_neg hneg, hz]; exact hM))
                        have ha := HL3.out.top hM
                        rw [hM] at cz
                        simp only [valL] at cz
                        rw [hz] at d1
                        clear hlb hM hneg hsy hz
                        go_wp2
                        go_roundw
                        case rel => exact ⟨j + 1, by omega, by go_num, by rw [HN.out]; show _ = Value.int .i64 ((s + a : Nat) : Int); go_num, by simp⟩
                        case measure => simp [intOf]; omega
                · obtain rfl : j = rs[q].r.length := by omega
                  rw [List.take_length]
                  obtain ⟨z, hz⟩ : ∃ z : Nat, rs[q].l = (z : Int) := ⟨rs[q].l.toNat, by omega⟩
                  have hzk : z < k := by omega
                  have hz6 : (0 : Int) ≤ (z : Int) ∧ (z : Int) < 6 := by omega
                  have cz := HMY.out.cell hzk
                  have fz := HMY.out.frozen z
                  rw [hz] at r0
                  have HZ := Lib.hid hz
                  cases hlb : lenBy M rs[q].r with
                  | none =>
                    have HT : Hid (Tight M rs[q]) := fun m hm => by rw [hlb] at hm; cases hm
                    clear hlb hz
                    simp only [valL]
                    go_wp2
                    go_roundw
                    case rel => exact ⟨q + 1, more, M, by omega, by go_num, rfl, HMY.out, HL3.out, HBY.out, HG3.out, HTK.out M (fun _ => HT.out) fun _ => rfl⟩
                    case measure => simp [intOf]; omega
                  | some m =>
                    have hm := HL3.out.len_top h4 hlb
                    have HST : Hid ((∀ a, M (z : Int) = some a → m < a) → Lens (rs.map Ru.abs) (putL M (z : Int) m) ∧ gain (putL M (z : Int) m) < gain L) := fun hlt => by
                      have h5 := HL3.out.put (r := rs[q].abs) HUM.out (by show 0 ≤ rs[q].l ∧ rs[q].l < 6; rw [HZ.out]; exact hz6) h4 (m := m) hlb (fun a ha => hlt a (by have h : M rs[q].l = some a := ha; rw [HZ.out] at h; exact h))
                      have e : rs[q].abs.1 = (z : Int) := HZ.out
                      rw [e] at h5
                      refine ⟨h5.1, ?_⟩
                      have h6 := h5.2
                      cases more
                      · rw [(HC3.out rfl).1] at h6 ⊢; exact h6
                      · have := HG3.out rfl; omega
                    have HPT := Lib.hid (HMY.out.put hzk m)
                    simp only [valL]
                    cases hM : M (z : Int) with
                    | none =>
                      obtain ⟨g1, g2⟩ := HST.out (fun a ha => by rw [hM] at ha; cases ha)
                      have HG1 := Lib.hid g1
                      have HG2 := Lib.hid g2
                      rw [hM] at cz
                      simp only [valL] at cz
                      clear hlb hM hz g1 g2
                      go_wp2
                      go_roundw
                      case rel => exact ⟨q + 1, true, _, by omega, by go_num, rfl, HPT.out, HG1.out, HBY.out.setCell (by simp) _, fun _ => HG2.out, fun h => by cases h⟩
                      case measure => simp [intOf]; omega
                    | some a =>
                      have ha := HL3.out.top hM
                      rw [hM] at cz
                      simp only [valL] at cz
                      by_cases hma : m < a
                      · obtain ⟨g1, g2⟩ := HST.out (fun b hb => by rw [hM] at hb; have := Option.some.inj hb; omega)
                        have HG1 := Lib.hid g1
                        have HG2 := Lib.hid g2
                        clear hlb hM hz g1 g2
                        go_wp2
                        go_roundw
                        case rel => exact ⟨q + 1, true, _, by omega, by go_num, rfl, HPT.out, HG1.out, HBY.out.setCell (by simp) _, fun _ => HG2.out, fun h => by cases h⟩
                        case measure => simp [intOf]; omega
                      · have HT : Hid (Tight M rs[q]) := fun b hb => ⟨a, by rw [HZ.out]; exact hM, by rw [hlb] at hb; have := Option.some.inj hb; omega⟩
                        clear hlb hM hz
                        go_wp2
                        go_roundw
                        case rel => exact ⟨q + 1, more, M, by omega, by go_num, rfl, HMY.out, HL3.out, HBY.out, HG3.out, HTK.out M (fun _ => HT.out) fun _ => rfl⟩
                        case measure => simp [intOf]; omega
            · obtain rfl : q = rs.length := by omega
              go_wp2
              go_roundg (2 * gain M + (if more then 1 else 0))
              case measure =>
                cases more
                · rw [(HC3.out rfl).1]
                  simp
                  omega
                · have := HG3.out rfl
                  simp
                  omega
              case rel =>
                refine ⟨more, M, rfl, rfl, HM3.out, HL3.out, HB3.out, fun h u hu => ?_⟩
                obtain ⟨j, hj⟩ := List.mem_iff_getElem?.1 hu
                exact (HC3.out h).2 j u (List.getElem?_eq_some_iff.1 hj).1 hj

end Go.Proofs.YtacehfjhpnplbaaDoor
