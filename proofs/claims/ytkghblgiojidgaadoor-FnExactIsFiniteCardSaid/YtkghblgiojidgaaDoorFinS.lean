/- The reference's l3Leads. -/
import Derived.Test.YtkghblgiojidgaaDoorFinSX
import Derived.Test.YtkghblgiojidgaaDoorSpecGro
import Derived.Deep.RegionHeld
import Derived.StillTailTactics
import Derived.Deep.Cut
namespace Go.Proofs.YtkghblgiojidgaaDoor
open Go.RowKit

theorem below_drew (w : World) : Below w.heap.size w w.drew := by go_grown
theorem Box2.far {w : World} {g : Nat} {a b : Value} (h : Box2 w g a b) {p : Addr} (hp : p.block ≠ g) (v : Value) : Box2 (w.setCell p v) g a b :=
  ⟨by rw [World.size_setCell]; exact h.1, (World.cell?_setCell_far _ _ _ _ (by simpa using hp)).trans h.2.1, (World.cell?_setCell_far _ _ _ _ (by simpa using hp)).trans h.2.2⟩

set_option maxRecDepth 20000 in
set_option maxHeartbeats 4000000 in
theorem l3Leads_any (N : Nat) (t : Int) (A : Option Addr) (c : Nat) (rs : List Ru) (w : World) (hx : Rls w w.heap.size A rs) (hg : goodG (N : Int) t (rs.map Ru.abs) = true) :
    Calls Tryd.prog 86 #[.agg #[.int .i64 (N : Int), .int .i64 t, .slice A rs.length c]] w (GaveLeads w N (rs.map Ru.abs)) := by
  have h16 := good_16 hg
  have hN : N ≤ 6 := by have := goodG_is hg; omega
  have hN1 : 1 ≤ N := by have := goodG_is hg; omega
  have HX := Lib.hid hx; clear hx
  have HG := Lib.hid hg; clear hg
  have HB0 : Hid (Below w.heap.size w (w.alloc (.cells #[.int .i64 N, .int .i64 t, .slice A rs.length c] 30))) := by show Below _ _ _; go_grown
  have B00 : Hid (Box3 (w.alloc (.cells #[.int .i64 N, .int .i64 t, .slice A rs.length c] 30)) w.heap.size (.int .i64 N) (.int .i64 t) (.slice A rs.length c)) := ⟨by simp, by simp [go_sem], by simp [go_sem], by simp [go_sem]⟩
  have hmb := make_bools N hN
  have hmr := make_rows N hN
  go_enter Tryd.func86, Tryd.ntmps86
  go_wp2_with fail
  refine (l3Growing_any (N : Int) t A c rs _ ((HX.out.keep HB0.out).more HB0.out.size) HG.out).mono ?_
  rintro e X ⟨v, ys, rfl, ⟨hy1, hy2, hy3⟩, hV, hB1⟩
  have hX0 : w.heap.size < X.heap.size := by have := hB1.size; simp at this; omega
  have B0 := Lib.hid (B00.out.keep hB1 (by simp))
  have HBX : Hid (Below w.heap.size w X) := HB0.out.trans (hB1.mono HB0.out.size)
  have HGR : Hid (IsGrow (rs.map Ru.abs) (setL ys)) := hy3
  have hys6 : ys.length ≤ 6 := len6 (S := setL ys) (hy1.imp fun h => by omega) (fun _ hx => setL_iff.2 hx) fun x hx => hy2 x (setL_iff.1 hx)
  obtain ⟨Ay, cy, hvy, hcy, hIy⟩ := hV.shape
  subst hvy
  have HIY := Lib.hid hIy
  clear hy1 hy2 hy3 hV hB1 hIy B00 HB0 hcy
  have HT0 := Lib.hid (Tabs2.made X N)
  have HBM : Hid (Below X.heap.size X ((X.alloc (.cells (zS N) 85)).alloc (.cells (zS N) 85))) := by show Below _ _ _; go_grown
  obtain ⟨_, b0, b1, b2⟩ := B0.out
  obtain ⟨S, hS⟩ : ∃ x, x = X.heap.size := ⟨_, rfl⟩
  have HS := Lib.hid hS
  go_wp2
  rw [← hS] at HT0 ⊢
  clear hS b0 b1 b2
  go_loopw [27] (fun i wr => ∃ (k : Nat), k ≤ N ∧ i = .int .i64 k ∧ Hid (Tabs2 wr S N k noT noT) ∧ Hid (wr.heap.size = S + 2 + 2 * k) ∧ Hid (Below X.heap.size X wr)) (fun i _ => N - (intOf i).toNat)
  case atStart => exact ⟨0, by omega, rfl, HT0.out, by show _ = _; simp [HS.out], HBM.out⟩
  case round =>
    obtain ⟨k, hk, rfl, HT, HZ, HB⟩ := hrel
    clear HT0 HBM
    by_cases hlt : k < N
    · obtain ⟨_, b0, b1, b2⟩ := B0.out.keep HB.out hX0
      have HN := Lib.hid (HT.out.grow HZ.out hlt)
      obtain ⟨⟨cs, d1, d2, _⟩, ⟨ds, e1, e2, _⟩, _⟩ := HT.out
      obtain ⟨x0, c1⟩ : ∃ x0, wr.cell? ⟨S, k, none⟩ = some x0 := ⟨_, (d1.cell k).trans (Array.getElem?_eq_getElem (by omega))⟩
      obtain ⟨x1, c2⟩ : ∃ x1, wr.cell? ⟨S + 1, k, none⟩ = some x1 := ⟨_, (e1.cell k).trans (Array.getElem?_eq_getElem (by omega))⟩
      have f1 := d1.frozen k
      have f2 := e1.frozen k
      have hz1 : S + 1 < wr.heap.size := e1.lt
      have hz0 : w.heap.size < S := by have := HS.out; omega
      have hz2 : S < wr.heap.size := by omega
      have hz3 : w.heap.size < wr.heap.size := by omega
      have hn1 : w.heap.size ≠ S := by omega
      have hn2 : w.heap.size ≠ S + 1 := by omega
      clear d1 d2 e1 e2
      go_wp2
      go_roundw
      case rel => exact ⟨k + 1, by omega, by go_num, HN.out, by have h1 := HZ.out; show _ = _; simp; omega, (((HB.out.setCell (by have := HS.out; simp; omega) _).setCell (by have := HS.out; simp; omega) _).alloc (by have := HB.out.size; simp; omega) _).alloc (by have := HB.out.size; simp; omega) _⟩
      case measure => simp [intOf]; omega
    · obtain rfl : k = N := by omega
      obtain ⟨_, b0, b1, b2⟩ := B0.out.keep HB.out hX0
      obtain ⟨wO, hwO⟩ : ∃ x, x = wr := ⟨_, rfl⟩
      subst hwO
      have HK : Hid (Tabs2 wO S k k noT noT) := HT.out
      clear hmb hmr HT HZ
      go_wp2
      clear b0 b1 b2
      go_loopw [46] (fun i wr => ∃ (k' : Nat) (T U : Tab), k' ≤ rs.length ∧ i = .int .i64 k' ∧ Hid (Tabs2 wr S k k T U) ∧ Hid (Below X.heap.size X wr) ∧ Hid (StepsT rs (setL ys) k' T U)) (fun i _ => rs.length - (intOf i).toNat)
      case atStart => exact ⟨0, noT, noT, by omega, rfl, HK.out, HB.out, StepsT.start _ _⟩
      case round =>
        obtain ⟨j, T, U, hj, rfl, HTj, HBj, HSj⟩ := hrel
        clear HB HK
        by_cases hlt2 : j < rs.length
        · obtain ⟨p, o, hA, hp, c1, c2, c3⟩ := (HX.out.keep (HBX.out.trans (HBj.out.mono HBX.out.size))).at_ hlt2
          have hum : rs[j].abs ∈ rs.map Ru.abs := List.mem_map.2 ⟨_, List.getElem_mem hlt2, rfl⟩
          have h4 := good_len HG.out hum
          have HGM := Lib.hid (goodG_mem HG.out hum)
          obtain ⟨L, hL⟩ : ∃ L : Nat, rs[j].l = (L : Int) := ⟨_, Int.eq_ofNat_of_zero_le HGM.out.1.1 |>.choose_spec⟩
          have hLk : L < k := by have h : rs[j].l < k := HGM.out.1.2; omega
          have HLE := Lib.hid hL
          rw [hL] at c1
          have HBR : Hid (Below wr.heap.size wr (wr.alloc (.cells #[.int .i64 L, .slice rs[j].a rs[j].r.length rs[j].c] 61))) := (Below.refl _ _).alloc (Nat.le_refl _) _
          have HBU : Hid (Box2 (wr.alloc (.cells #[.int .i64 L, .slice rs[j].a rs[j].r.length rs[j].c] 61)) wr.heap.size (.int .i64 L) (.slice rs[j].a rs[j].r.length rs[j].c)) := ⟨by simp, by simp [go_sem], by simp [go_sem]⟩
          have HBY : Hid (Below X.heap.size X (wr.alloc (.cells #[.int .i64 L, .slice rs[j].a rs[j].r.length rs[j].c] 61))) := HBj.out.trans (HBR.out.mono HBj.out.size)
          have HTY : Hid (Tabs2 (wr.alloc (.cells #[.int .i64 L, .slice rs[j].a rs[j].r.length rs[j].c] 61)) S k k T U) := HTj.out.keep HBR.out HTj.out.lt
          have HI : Hid (∀ v, Below X.heap.size X v → Ints v w.heap.size rs[j].a rs[j].r) := fun v hv => by
            obtain ⟨_, _, _, _, _, _, h⟩ := (HX.out.keep (HBX.out.trans (hv.mono HBX.out.size))).at_ hlt2
            exact h
          have hwl : S + 2 + 2 * k ≤ wr.heap.size := HTj.out.lt
          clear c3 hum hL
          rw [hA]
          obtain ⟨wP, hwP⟩ : ∃ x, x = wr := ⟨_, rfl⟩
          subst hwP
          obtain ⟨_, r0, r1⟩ := HBU.out
          go_wp2
          generalize (wP.alloc (.cells #[.int .i64 L, .slice rs[j].a rs[j].r.length rs[j].c] 61)) = Y at *
          clear r0 r1 c1 c2
          obtain ⟨Q, hQ⟩ : ∃ x, x = wP.heap.size := ⟨_, rfl⟩
          rw [← hQ] at HBU hwl ⊢
          have HQ := Lib.hid hQ
          clear hQ HBR
          go_loopw [53] (fun i wr => ∃ (m : Nat) (T U : Tab), m ≤ rs[j].r.length ∧ i = .int .i64 m ∧ Hid (Tabs2 wr S k k T U) ∧ Hid (Below X.heap.size X wr) ∧ Hid (Box2 wr Q (.int .i64 L) (.slice rs[j].a rs[j].r.length rs[j].c)) ∧ Hid (StepsI rs (setL ys) j m T U)) (fun i _ => rs[j].r.length - (intOf i).toNat)
          case atStart => exact ⟨0, T, U, by omega, rfl, HTY.out, HBY.out, HBU.out, StepsI.start HSj.out⟩
          case round =>
            obtain ⟨m, T, U, hm, rfl, HTm, HBm, HUm, HSm⟩ := hrel
            clear HBU HBY HTY HTj HBj HSj
            by_cases hltm : m < rs[j].r.length
            · obtain ⟨q, o', hA', hq, d1⟩ := (HI.out _ HBm.out).at_ hltm
              rw [hA'] at HUm ⊢
              obtain ⟨_, r0, r1⟩ := HUm.out
              by_cases hneg : rs[j].r[m] < 0
              · have HN := Lib.hid (HSm.out.skip hlt2 hltm hneg)
                go_wp2
                go_roundw
                case rel => exact ⟨m + 1, T, U, by omega, by go_num, HTm.out, HBm.out, HUm.out, HN.out⟩
                case measure => simp [intOf]; omega
              · obtain ⟨x, hx⟩ : ∃ x : Nat, rs[j].r[m] = (x : Int) := ⟨_, Int.eq_ofNat_of_zero_le (Int.not_lt.1 hneg) |>.choose_spec⟩
                have hxk : x < k := by have h := HGM.out.2.2 rs[j].r[m] (List.getElem_mem hltm); omega
                have HN : Hid (StepsJ rs (setL ys) j m 0 (setT T L x true) U) := by have h := StepsJ.start HSm.out hlt2 hltm hneg; rw [HLE.out, hx] at h; exact h
                have HXE := Lib.hid hx
                have HNG := Lib.hid hneg
                rw [hx] at d1
                have t1 := HTm.out.one hLk
                obtain ⟨t3, t4⟩ := HTm.out.atT hLk hxk
                have HTN := Lib.hid (HTm.out.putT hLk x true)
                clear hx hneg
                have HBN : Hid (Below X.heap.size X (wr.setCell ⟨S + 2 + 2 * L, x, none⟩ (.bool true))) := HBm.out.setCell (by have := HS.out; simp; omega) _
                have HUN : Hid (Box2 (wr.setCell ⟨S + 2 + 2 * L, x, none⟩ (.bool true)) Q (.int .i64 L) (.slice (some ⟨q, o', none⟩) rs[j].r.length rs[j].c)) := HUm.out.far (by simp; omega) _
                go_wp2
                generalize (wr.setCell ⟨S + 2 + 2 * L, x, none⟩ (.bool true)) = Z at *
                obtain ⟨wM, hwM⟩ : ∃ x, x = wr := ⟨_, rfl⟩
                subst hwM
                clear r0 r1 d1 t1 t3 t4 HTm HBm HUm HSm
                go_loopw [70] (fun i wr => ∃ (l : Nat) (T U : Tab), l ≤ rs[j].r.length ∧ i = .int .i64 l ∧ Hid (Tabs2 wr S k k T U) ∧ Hid (Below X.heap.size X wr) ∧ Hid (Box2 wr Q (.int .i64 L) (.slice (some ⟨q, o', none⟩) rs[j].r.length rs[j].c)) ∧ Hid (StepsJ rs (setL ys) j m l T U)) (fun i _ => rs[j].r.length - (intOf i).toNat)
                case atStart => exact ⟨0, _, U, by omega, rfl, HTN.out, HBN.out, HUN.out, HN.out⟩
                case round =>
                  obtain ⟨l, T, U, hl, rfl, HTl, HBl, HUl, HSl⟩ := hrel
                  clear HTN HBN HUN HN
                  obtain ⟨_, r0, r1⟩ := HUl.out
                  by_cases hltl : l < rs[j].r.length
                  · have d1 : wr.cell? ⟨q, o' + l, none⟩ = some (.int .i64 rs[j].r[l]) := by
                      obtain ⟨q', o'', e, _, h⟩ := (HI.out _ HBl.out).at_ hltl
                      rw [hA'] at e
                      injection e with e
                      injection e with e1 e2
                      subst e1 e2
                      exact h
                    have t2 := HTl.out.two hLk
                    obtain ⟨u3, u4⟩ := HTl.out.atU hLk hxk
                    have HNX : Hid (∀ v : Bool, (v = true ↔ (U L x = true ∨ (m ≠ l ∧ tokS (setL ys) rs[j].r[l] = true))) → StepsJ rs (setL ys) j m (l + 1) T (setT U L x v)) := fun v hv => by
                      have h := HSl.out.step hlt2 hltm (Int.not_lt.2 HNG.out) hltl (v := v)
                      rw [HLE.out, HXE.out] at h
                      exact h hv
                    have HTX : Hid (∀ v : Bool, Tabs2 (wr.setCell ⟨S + 3 + 2 * L, x, none⟩ (.bool v)).drew S k k T (setT U L x v)) := fun v => (HTl.out.putU hLk x v).keep (below_drew _) (HTl.out.putU hLk x v).lt
                    have HBV : Hid (∀ v : Bool, Below X.heap.size X (wr.setCell ⟨S + 3 + 2 * L, x, none⟩ (.bool v)).drew) := fun v => (HBl.out.setCell (by have := HS.out; simp; omega) _).trans ((below_drew _).mono (by have := HBl.out.size; simpa using this))
                    have HUX : Hid (∀ v : Bool, Box2 (wr.setCell ⟨S + 3 + 2 * L, x, none⟩ (.bool v)).drew Q (.int .i64 L) (.slice (some ⟨q, o', none⟩) rs[j].r.length rs[j].c)) := fun v => (HUl.out.far (p := ⟨S + 3 + 2 * L, x, none⟩) (by simp; omega) (.bool v)).keep (below_drew _) (HUl.out.far (p := ⟨S + 3 + 2 * L, x, none⟩) (by simp; omega) (.bool v)).1
                    cases hu : U L x
                    case true =>
                      rw [hu] at u3
                      have HN1 := Lib.hid (HNX.out true ⟨fun _ => .inl hu, fun _ => rfl⟩)
                      clear hu
                      go_wp2_with fail
                      go_region
                      go_wp2
                      go_roundw
                      case rel => exact ⟨l + 1, T, _, by omega, by go_num, HTX.out true, HBV.out true, HUX.out true, HN1.out⟩
                      case measure => simp [intOf]; omega
                    case false =>
                      rw [hu] at u3
                      by_cases hml : m = l
                      · have HN1 := Lib.hid (HNX.out false ⟨fun h => (by cases h), fun h => by rcases h with h | h; rw [hu] at h; cases h; exact absurd hml h.1⟩)
                        clear hu
                        have hb := bne_f (a := (m : Int)) (b := (l : Int)) (by omega)
                        go_wp2_with fail
                        go_region
                        go_wp2
                        go_roundw
                        case rel => exact ⟨l + 1, T, _, by omega, by go_num, HTX.out false, HBV.out false, HUX.out false, HN1.out⟩
                        case measure => simp [intOf]; omega
                      · have hb := bne_t (a := (m : Int)) (b := (l : Int)) (by omega)
                        by_cases hny : rs[j].r[l] < 0
                        · have HN1 := Lib.hid (HNX.out true ⟨fun _ => .inr ⟨hml, tokS_lt hny⟩, fun _ => rfl⟩)
                          clear hu
                          obtain ⟨y, hy⟩ : ∃ y, rs[j].r[l] = Int.negSucc y := ⟨_, Int.eq_negSucc_of_lt_zero hny |>.choose_spec⟩
                          rw [hy] at d1
                          clear hy hny
                          go_wp2_with fail
                          go_region
                          go_wp2
                          go_roundw
                          case rel => exact ⟨l + 1, T, _, by omega, by go_num, HTX.out true, HBV.out true, HUX.out true, HN1.out⟩
                          case measure => simp [intOf]; omega
                        · obtain ⟨y, hy⟩ : ∃ y : Nat, rs[j].r[l] = Int.ofNat y := ⟨_, Int.eq_ofNat_of_zero_le (Int.not_lt.1 hny) |>.choose_spec⟩
                          have HTK : Hid (tokS (setL ys) rs[j].r[l] = ys.contains (y : Int)) := by show _ = _; rw [tokS_ge hny, hy]; rfl
                          have HC : Hid (∀ v, Below X.heap.size X v → Calls Tryd.prog 120 #[.slice Ay ys.length cy, .int .i64 (y : Int)] v fun e w' => e = .returned (.bool (ys.contains (y : Int))) ∧ w' = v) := fun v hv => l1Has6_any Ay ys cy y v ((HIY.out.keep hv).more hv.size) hys6
                          generalize ys.contains (y : Int) = b at HTK HC
                          have HN1 := Lib.hid (HNX.out b ⟨fun h => .inr ⟨hml, by rw [HTK.out]; exact h⟩, fun h => by rcases h with h | h; rw [hu] at h; cases h; rw [HTK.out] at h; exact h.2⟩)
                          have HBD : Hid (Below X.heap.size X wr.drew) := HBl.out.trans ((below_drew _).mono HBl.out.size)
                          rw [hy] at d1
                          clear hy hny hu
                          go_wp2_with fail
                          refine wp_region_still_tail 29 (by kernel_rfl) (by kernel_rfl) ?_
                          simp only [List.take_succ_cons, List.take_zero, List.drop_succ_cons, List.drop_zero]
                          repeat still_step
                          still_call (HC.out _ HBD.out)
                          repeat still_step
                          refine wpStill_nil ?_
                          change wpList _ _ _ _ _ wr.drew
                          go_wp2
                          go_roundw
                          case rel => exact ⟨l + 1, T, _, by omega, by go_num, HTX.out b, HBV.out b, HUX.out b, HN1.out⟩
                          case measure => simp [intOf]; omega
                  · obtain rfl : l = rs[j].r.length := by omega
                    have HN1 := Lib.hid (HSl.out.done hlt2)
                    go_wp2
                    go_roundw
                    case rel => exact ⟨m + 1, T, U, by omega, by go_num, HTl.out, HBl.out, HUl.out, HN1.out⟩
                    case measure => simp [intOf]; omega
            · obtain rfl : m = rs[j].r.length := by omega
              have HN1 := Lib.hid (HSm.out.done hlt2)
              go_wp2
              go_roundw
              case rel => exact ⟨j + 1, T, U, by omega, by go_num, HTm.out, HBm.out, HN1.out⟩
              case measure => simp [intOf]; omega
        · obtain rfl : j = rs.length := by omega
          have HAL := Lib.hid HSj.out.all
          obtain ⟨wQ, hwQ⟩ : ∃ x, x = wr := ⟨_, rfl⟩
          subst hwQ
          clear HSj
          go_wp2
          go_loopw [14] (fun i wr => ∃ (d : Nat) (T U : Tab), d ≤ k ∧ i = .int .i64 d ∧ Hid (Tabs2 wr S k k T U) ∧ Hid (Below X.heap.size X wr) ∧ Hid (SoundT (Edge (rs.map Ru.abs)) (GEdge (setL ys) (rs.map Ru.abs)) T U ∧ UptoT (Edge (rs.map Ru.abs)) (GEdge (setL ys) (rs.map Ru.abs)) d T U)) (fun i _ => k - (intOf i).toNat)
          case atStart => exact ⟨0, T, U, by omega, rfl, HTj.out, HBj.out, HAL.out⟩
          case round =>
            obtain ⟨d, T, U, hd, rfl, HTd, HBd, HSd⟩ := hrel
            clear HTj HBj HAL
            obtain ⟨_, b0, b1, b2⟩ := B0.out.keep HBd.out hX0
            by_cases hdk : d < k
            · obtain ⟨wD, hwD⟩ : ∃ x, x = wr := ⟨_, rfl⟩
              subst hwD
              have HM0 := Lib.hid (MidT.start (N := k) HSd.out.1 HSd.out.2)
              clear HSd
              go_wp2
              clear b0 b1 b2
              go_loopw [15] (fun i wr => ∃ (a : Nat) (T U : Tab), a ≤ k ∧ i = .int .i64 a ∧ Hid (Tabs2 wr S k k T U) ∧ Hid (Below X.heap.size X wr) ∧ Hid (MidT (Edge (rs.map Ru.abs)) (GEdge (setL ys) (rs.map Ru.abs)) k d a 0 T U)) (fun i _ => k - (intOf i).toNat)
              case atStart => exact ⟨0, T, U, by omega, rfl, HTd.out, HBd.out, HM0.out⟩
              case round =>
                obtain ⟨a, T, U, ha, rfl, HTa, HBa, HMa⟩ := hrel
                clear HTd HBd HM0
                obtain ⟨_, b0, b1, b2⟩ := B0.out.keep HBa.out hX0
                by_cases hak : a < k
                · obtain ⟨wE, hwE⟩ : ∃ x, x = wr := ⟨_, rfl⟩
                  subst hwE
                  go_wp2
                  clear b0 b1 b2
                  go_loopw [16] (fun i wr => ∃ (b : Nat) (T U : Tab), b ≤ k ∧ i = .int .i64 b ∧ Hid (Tabs2 wr S k k T U) ∧ Hid (Below X.heap.size X wr) ∧ Hid (MidT (Edge (rs.map Ru.abs)) (GEdge (setL ys) (rs.map Ru.abs)) k d a b T U)) (fun i _ => k - (intOf i).toNat)
                  case atStart => exact ⟨0, T, U, by omega, rfl, HTa.out, HBa.out, HMa.out⟩
                  case round =>
                    obtain ⟨b, T, U, hb, rfl, HTb, HBb, HMb⟩ := hrel
                    clear HTa HBa HMa
                    obtain ⟨_, b0, b1, b2⟩ := B0.out.keep HBb.out hX0
                    by_cases hbk : b < k
                    · have ta1 := HTb.out.one hak
                      have ta2 := HTb.out.two hak
                      have td1 := HTb.out.one hdk
                      have td2 := HTb.out.two hdk
                      obtain ⟨uab, fab⟩ := HTb.out.atU hak hbk
                      have tad := (HTb.out.atT hak hdk).1
                      have uad := (HTb.out.atU hak hdk).1
                      have udb := (HTb.out.atU hdk hbk).1
                      have tdb := (HTb.out.atT hdk hbk).1
                      have HV : Hid (byU T U d a b = (U a b || (T a d && U d b) || (U a d && T d b))) := rfl
                      obtain ⟨vU, hvU⟩ : ∃ v, v = byU T U d a b := ⟨_, rfl⟩
                      rw [← hvU] at HV
                      have HVU := Lib.hid hvU
                      clear hvU
                      go_upto_region 34 with fail
                      go_cut [205, 206] from 125 (fun s5 s6 wx => s5 = undef ∧ s6 = undef ∧ wx = (wr.setCell ⟨S + 3 + 2 * a, b, none⟩ (.bool vU)).drew)
                      case first =>
                        as_aux_lemma =>
                          generalize U a b = x1 at *
                          generalize T a d = x2 at *
                          generalize U d b = x3 at *
                          generalize U a d = x4 at *
                          generalize T d b = x5 at *
                          clear HVU HTb HBb HMb
                          cases x1
                          case true =>
                            go_region
                            go_wp2_with fail
                            go_meet
                            case rel => exact ⟨rfl, rfl, by rw [HV.out]; rfl⟩
                          case false =>
                            cases x2
                            case true =>
                              cases x3
                              case true =>
                                go_region
                                go_wp2_with fail
                                go_meet
                                case rel => exact ⟨rfl, rfl, by rw [HV.out]; rfl⟩
                              case false =>
                                cases x4
                                case false =>
                                  go_region
                                  go_wp2_with fail
                                  go_meet
                                  case rel => exact ⟨rfl, rfl, by rw [HV.out]; rfl⟩
                                case true =>
                                  cases x5
                                  all_goals
                                    go_region
                                    go_wp2_with fail
                                    go_meet
                                    case rel => exact ⟨rfl, rfl, by rw [HV.out]; rfl⟩
                            case false =>
                              cases x4
                              case false =>
                                go_region
                                go_wp2_with fail
                                go_meet
                                case rel => exact ⟨rfl, rfl, by rw [HV.out]; rfl⟩
                              case true =>
                                cases x5
                                all_goals
                                  go_region
                                  go_wp2_with fail
                                  go_meet
                                  case rel => exact ⟨rfl, rfl, by rw [HV.out]; rfl⟩
                      case rest =>
                        as_aux_lemma =>
                          obtain ⟨hs5, hs6, hcut⟩ := hcut
                          subst hs5 hs6 hcut
                          have HTU := Lib.hid (HTb.out.putU hak b vU)
                          have HTD : Hid (Tabs2 (wr.setCell ⟨S + 3 + 2 * a, b, none⟩ (.bool vU)).drew S k k T (setT U a b vU)) := HTU.out.keep (below_drew _) HTU.out.lt
                          have HBD : Hid (Below X.heap.size X (wr.setCell ⟨S + 3 + 2 * a, b, none⟩ (.bool vU)).drew) := (HBb.out.setCell (by have := HS.out; simp; omega) _).trans ((below_drew _).mono (by have := HBb.out.size; simpa using this))
                          generalize (wr.setCell ⟨S + 3 + 2 * a, b, none⟩ (.bool vU)).drew = Z at *
                          clear ta1 ta2 td1 td2 uab fab tad uad udb tdb HTU HTb HBb b0 b1 b2
                          have ta1 := HTD.out.one hak
                          have td1 := HTD.out.one hdk
                          obtain ⟨tab, fab⟩ := HTD.out.atT hak hbk
                          have tad := (HTD.out.atT hak hdk).1
                          have tdb := (HTD.out.atT hdk hbk).1
                          have HV2 : Hid (byT T d a b = (T a b || (T a d && T d b))) := rfl
                          obtain ⟨vT, hvT⟩ : ∃ v, v = byT T d a b := ⟨_, rfl⟩
                          rw [← hvT] at HV2
                          have HVT := Lib.hid hvT
                          clear hvT
                          have HTE : Hid (∀ v, Tabs2 (Z.setCell ⟨S + 2 + 2 * a, b, none⟩ (.bool v)) S k k (setT T a b v) (setT U a b vU)) := fun v => HTD.out.putT hak b v
                          have HBE : Hid (∀ v, Below X.heap.size X (Z.setCell ⟨S + 2 + 2 * a, b, none⟩ (.bool v)).drew) := fun v => (HBD.out.setCell (by have := HS.out; simp; omega) _).trans ((below_drew _).mono (by have := HBD.out.size; simpa using this))
                          have HME : Hid (∀ v, vT = v → MidT (Edge (rs.map Ru.abs)) (GEdge (setL ys) (rs.map Ru.abs)) k d a (b + 1) (setT T a b v) (setT U a b vU)) := fun v hv => by subst hv; rw [HVT.out, HVU.out]; exact HMb.out.step
                          have hx1 : Hid (∀ x, T a b = x → vT = (x || (T a d && T d b))) := fun x hx => by rw [← hx]; exact HV2.out
                          clear HVT HVU HTD HBD HMb
                          cases e1 : T a b
                          case true =>
                            rw [e1] at tab HV2
                            clear e1 hx1
                            go_wp2_with fail
                            go_region
                            go_wp2
                            go_roundw
                            case rel => exact ⟨b + 1, _, _, by omega, by go_num, (HTE.out _).keep (below_drew _) (HTE.out _).lt, HBE.out _, HME.out _ HV2.out⟩
                            case measure => simp [intOf]; omega
                          case false =>
                            rw [e1] at tab HV2
                            clear e1 hx1
                            cases e2 : T a d
                            case false =>
                              rw [e2] at tad HV2
                              clear e2
                              go_wp2_with fail
                              go_region
                              go_wp2
                              go_roundw
                              case rel => exact ⟨b + 1, _, _, by omega, by go_num, (HTE.out _).keep (below_drew _) (HTE.out _).lt, HBE.out _, HME.out _ HV2.out⟩
                              case measure => simp [intOf]; omega
                            case true =>
                              rw [e2] at tad HV2
                              clear e2
                              cases e3 : T d b
                              all_goals
                                rw [e3] at tdb HV2
                                clear e3
                                go_wp2_with fail
                                go_region
                                go_wp2
                                go_roundw
                                case rel => exact ⟨b + 1, _, _, by omega, by go_num, (HTE.out _).keep (below_drew _) (HTE.out _).lt, HBE.out _, HME.out _ HV2.out⟩
                                case measure => simp [intOf]; omega
                    · obtain rfl : b = k := by omega
                      have HME := Lib.hid HMb.out.line
                      go_wp2
                      go_roundw
                      case rel => exact ⟨a + 1, T, U, by omega, by go_num, HTb.out, HBb.out, HME.out⟩
                      case measure => simp [intOf]; omega
                · obtain rfl : a = k := by omega
                  have HME := Lib.hid (HMa.out.done (edge_fit HG.out) gEdge_edge)
                  go_wp2
                  go_roundw
                  case rel => exact ⟨d + 1, T, U, by omega, by go_num, HTa.out, HBa.out, HME.out⟩
                  case measure => simp [intOf]; omega
            · obtain rfl : d = k := by omega
              have HW : Hid (Below w.heap.size w wr) := HBX.out.trans (HBd.out.mono HBX.out.size)
              go_wp2
              go_ret2
              exact ⟨S, T, U, _, rfl, HGR.out, HTd.out, HSd.out.1, HSd.out.2, HW.out⟩

theorem leads_ok : LeadsOK := fun N t A c rs w hx hg => l3Leads_any N t A c rs w hx hg

end Go.Proofs.YtkghblgiojidgaaDoor
