/- The program's leastBy and LeastLong. -/
import Derived.Test.YtacehfjhpnplbaaDoorLenI
namespace Go.Proofs.YtacehfjhpnplbaaDoor
open Go.RowKit

/-- No rule makes a length less. -/
def Tight (L : Known) (u : Ru) : Prop := ∀ m, lenBy L u.r = some m → ∃ k, L u.l = some k ∧ k ≤ m
theorem Lens.small' {ss : List (Int × List Int)} {L : Known} (h : Lens ss L) : SmallL L := ⟨fun _ _ e => h.top e, h.fit⟩
theorem MapL.keep {w w' : World} {b : Nat} {L : Known} (h : MapL w b L) (hb : Below w.heap.size w w') : MapL w' b L := MapI.keep h hb

/-- What leastBy ends in. -/
def GaveLen (w : World) (ss : List (Int × List Int)) (e : Ending) (w' : World) : Prop := ∃ b L, e = .returned (.map (some b)) ∧ MapL w' b L ∧ IsMin ss L ∧ SmallL L ∧ Below w.heap.size w w'

set_option maxRecDepth 20000 in
set_option maxHeartbeats 2000000 in
theorem leastBy_any (n t : Int) (A : Option Addr) (c : Nat) (rs : List Ru) (w : World) (hx : Rls w w.heap.size A rs) (hg : goodG n t (rs.map Ru.abs) = true) :
    Calls Tryd.prog 98 #[.slice A rs.length c] w (GaveLen w (rs.map Ru.abs)) := by
  have hmm := @run_makeMap Tryd.prog
  have h16 := good_16 hg
  have HX := Lib.hid hx; clear hx
  have HG := Lib.hid hg; clear hg
  have HM0 : Hid (MapL (w.alloc (.map #[] 0)) w.heap.size fun _ => none) := (MapI.made w).mono (by omega)
  have HB0 : Hid (Below w.heap.size w (w.alloc (.map #[] 0))) := (Below.refl _ _).alloc (Nat.le_refl _) _
  go_enter Tryd.func98, Tryd.ntmps98
  go_wp2
  clear hmm
  go_loopg [4] (2 * gain (fun _ => none) + 1) (fun g m wr => ∃ (more : Bool) (L : Known), m = .bool more ∧ g = 2 * gain L + (if more then 1 else 0) ∧ Hid (MapL wr w.heap.size L) ∧ Hid (Lens (rs.map Ru.abs) L) ∧ Hid (Below w.heap.size w wr) ∧ Hid (more = false → ∀ u ∈ rs, Tight L u))
  case atStart => exact ⟨true, _, rfl, rfl, HM0.out, Lens.start _, HB0.out, fun h => by cases h⟩
  case round =>
    obtain ⟨more, L, rfl, hgk, HM, HL, HB, HC⟩ := hrel
    clear HM0 HB0
    cases more
    · have HD : Hid (IsMin (rs.map Ru.abs) L) := isMin_of HL.out.sound fun r hr m hm => by
        obtain ⟨u, hu, rfl⟩ := List.mem_map.1 hr
        exact HC.out rfl u hu m hm
      go_wp2
      go_ret
      exact ⟨w.heap.size, L, rfl, HM.out, HD.out, HL.out.small', HB.out⟩
    · rw [if_pos rfl] at hgk
      obtain ⟨wO, hwO⟩ : ∃ x, x = wr := ⟨_, rfl⟩
      subst hwO
      go_wp2
      go_loopw [4, 15] (fun m i wr => ∃ (k : Nat) (more : Bool) (M : Known), k ≤ rs.length ∧ i = .int .i64 k ∧ m = .bool more ∧ Hid (MapL wr w.heap.size M) ∧ Hid (Lens (rs.map Ru.abs) M) ∧ Hid (Below w.heap.size w wr) ∧ Hid (more = true → gain M < gain L) ∧ Hid (more = false → M = L ∧ ∀ (j : Nat) (u : Ru), j < k → rs[j]? = some u → Tight M u)) (fun _ i _ => rs.length - (intOf i).toNat)
      case atStart => exact ⟨0, false, L, by omega, rfl, rfl, HM.out, HL.out, HB.out, fun h => (by cases h), fun _ => ⟨rfl, fun j u h => absurd h (by omega)⟩⟩
      case round =>
        obtain ⟨k, more, M, hk, rfl, rfl, HM2, HL2, HB2, HG2, HC2⟩ := hrel
        by_cases hlt : k < rs.length
        · obtain ⟨p, o, hA, hp, c1, c2, c3⟩ := ((HX.out.keep HB2.out).more HB2.out.size).at_ hlt
          have hum : rs[k].abs ∈ rs.map Ru.abs := List.mem_map.2 ⟨_, List.getElem_mem hlt, rfl⟩
          have h4 := good_len HG.out hum
          have h6 : 0 ≤ rs[k].l ∧ rs[k].l < 6 := by have h5 := (goodG_mem HG.out hum).1; have h7 := goodG_is HG.out; have : rs[k].abs.1 = rs[k].l := rfl; omega
          have HUM := Lib.hid hum
          have HBR : Hid (Below wr.heap.size wr (wr.alloc (.cells #[.int .i64 rs[k].l, .slice rs[k].a rs[k].r.length rs[k].c] 64))) := (Below.refl _ _).alloc (Nat.le_refl _) _
          have HBU : Hid (Box2 (wr.alloc (.cells #[.int .i64 rs[k].l, .slice rs[k].a rs[k].r.length rs[k].c] 64)) wr.heap.size (.int .i64 rs[k].l) (.slice rs[k].a rs[k].r.length rs[k].c)) := ⟨by simp, by simp [go_sem], by simp [go_sem]⟩
          have HMY := Lib.hid (HM2.out.keep HBR.out)
          have HBY : Hid (Below w.heap.size w (wr.alloc (.cells #[.int .i64 rs[k].l, .slice rs[k].a rs[k].r.length rs[k].c] 64))) := HB2.out.trans (HBR.out.mono HB2.out.size)
          have HC1 := Lib.hid (lengthBy_any w.heap.size M rs[k].a rs[k].r rs[k].c _ HMY.out HL2.out.small' ((c3.keep HBR.out).more HBR.out.size) (good_fit HG.out hum) h4)
          have hl := HMY.out.look (x := rs[k].l) (by unfold F64; omega)
          clear c3 hum
          have HTK : Hid (∀ (N : Known), (N = M → Tight N rs[k]) → (more = false → N = M) → (more = false → N = L ∧ ∀ (j : Nat) (u : Ru), j < k + 1 → rs[j]? = some u → Tight N u)) := fun N h1 h2 h => by
            have e := h2 h
            subst e
            refine ⟨(HC2.out h).1, fun j u hj hu => ?_⟩
            by_cases e : j = k
            · subst e
              rw [List.getElem?_eq_getElem hlt] at hu
              injection hu with hu
              subst hu
              exact h1 rfl
            · exact (HC2.out h).2 j u (by omega) hu
          rw [hA]
          cases hlb : lenBy M rs[k].r with
          | none =>
            rw [hlb] at HC1
            have HT : Hid (Tight M rs[k]) := fun m hm => by rw [hlb] at hm; cases hm
            clear hlb hl
            simp only [Option.getD_none, Option.isSome_none] at HC1
            go_wp2_with fail
            refine HC1.out.mono ?_
            rintro e w1 ⟨rfl, hw1⟩
            rw [hw1]
            clear hw1 w1
            go_wp2
            go_roundw
            case rel => exact ⟨k + 1, more, M, by omega, by go_num, rfl, HMY.out, HL2.out, HBY.out, HG2.out, HTK.out M (fun _ => HT.out) fun _ => rfl⟩
            case measure => simp [intOf]; omega
          | some m =>
            rw [hlb] at HC1
            simp only [Option.getD_some, Option.isSome_some] at HC1
            have hm := HL2.out.len_top h4 hlb
            cases hll : M rs[k].l with
            | none =>
              rw [hll] at hl
              simp only [Option.getD_none, Option.isSome_none] at hl
              obtain ⟨HLP, HGP⟩ := HL2.out.put HUM.out h6 h4 hlb (fun a ha => by have : M rs[k].l = some a := ha; rw [hll] at this; cases this)
              obtain ⟨w5, hst, hM5, hS5⟩ := HMY.out.store HL2.out.small' h6 m
              have HM5 := Lib.hid hM5
              have HB5 : Hid (Below w.heap.size w w5) := HBY.out.trans (hS5.below HBY.out.size fun i hi e => by omega)
              have HLP' : Hid (Lens (rs.map Ru.abs) (putL M rs[k].l m)) := HLP
              have HGN : Hid (gain (putL M rs[k].l m) < gain L) := by
                show _ < _
                have h1 : gain (putL M rs[k].l m) < gain M := HGP
                cases more
                · rw [(HC2.out rfl).1] at h1 ⊢; exact h1
                · have := HG2.out rfl; omega
              clear hlb hll hM5 hS5 HLP HGP
              go_wp2_with fail
              refine HC1.out.mono ?_
              rintro e w1 ⟨rfl, hw1⟩
              rw [hw1]
              clear hw1 w1 HC1
              obtain ⟨_, r0, r1⟩ := HBU.out
              generalize (wr.alloc (.cells #[.int .i64 rs[k].l, .slice rs[k].a rs[k].r.length rs[k].c] 64)) = Y at *
              go_wp2
              go_roundw
              case rel => exact ⟨k + 1, true, _, by omega, by go_num, rfl, HM5.out, HLP'.out, HB5.out, fun _ => HGN.out, fun h => by cases h⟩
              case measure => simp [intOf]; omega
            | some a =>
              rw [hll] at hl
              simp only [Option.getD_some, Option.isSome_some] at hl
              have ha := HL2.out.top hll
              by_cases hma : m < a
              · obtain ⟨HLP, HGP⟩ := HL2.out.put HUM.out h6 h4 hlb (fun q hq => by have h : M rs[k].l = some q := hq; rw [hll] at h; have := Option.some.inj h; omega)
                obtain ⟨w5, hst, hM5, hS5⟩ := HMY.out.store HL2.out.small' h6 m
                have HM5 := Lib.hid hM5
                have HB5 : Hid (Below w.heap.size w w5) := HBY.out.trans (hS5.below HBY.out.size fun i hi e => by omega)
                have HLP' : Hid (Lens (rs.map Ru.abs) (putL M rs[k].l m)) := HLP
                have HGN : Hid (gain (putL M rs[k].l m) < gain L) := by
                  show _ < _
                  have h1 : gain (putL M rs[k].l m) < gain M := HGP
                  cases more
                  · rw [(HC2.out rfl).1] at h1 ⊢; exact h1
                  · have := HG2.out rfl; omega
                clear hlb hll hM5 hS5 HLP HGP
                go_wp2_with fail
                refine HC1.out.mono ?_
                rintro e w1 ⟨rfl, hw1⟩
                rw [hw1]
                clear hw1 w1 HC1
                obtain ⟨_, r0, r1⟩ := HBU.out
                generalize (wr.alloc (.cells #[.int .i64 rs[k].l, .slice rs[k].a rs[k].r.length rs[k].c] 64)) = Y at *
                go_wp2
                go_roundw
                case rel => exact ⟨k + 1, true, _, by omega, by go_num, rfl, HM5.out, HLP'.out, HB5.out, fun _ => HGN.out, fun h => by cases h⟩
                case measure => simp [intOf]; omega
              · have HT : Hid (Tight M rs[k]) := fun q hq => ⟨a, hll, by rw [hlb] at hq; have := Option.some.inj hq; omega⟩
                clear hlb hll
                go_wp2_with fail
                refine HC1.out.mono ?_
                rintro e w1 ⟨rfl, hw1⟩
                rw [hw1]
                clear hw1 w1 HC1
                obtain ⟨_, r0, r1⟩ := HBU.out
                generalize (wr.alloc (.cells #[.int .i64 rs[k].l, .slice rs[k].a rs[k].r.length rs[k].c] 64)) = Y at *
                go_wp2
                go_roundw
                case rel => exact ⟨k + 1, more, M, by omega, by go_num, rfl, HMY.out, HL2.out, HBY.out, HG2.out, HTK.out M (fun _ => HT.out) fun _ => rfl⟩
                case measure => simp [intOf]; omega
        · obtain rfl : k = rs.length := by omega
          go_wp2
          go_roundg (2 * gain M + (if more then 1 else 0))
          case measure =>
            cases more
            · rw [(HC2.out rfl).1]
              simp
              omega
            · have := HG2.out rfl
              simp
              omega
          case rel =>
            refine ⟨more, M, rfl, rfl, HM2.out, HL2.out, HB2.out, fun h u hu => ?_⟩
            obtain ⟨j, hj⟩ := List.mem_iff_getElem?.1 hu
            exact (HC2.out h).2 j u (List.getElem?_eq_some_iff.1 hj).1 hj

/-- What LeastLong answers. -/
def QL (n t : Int) (ss : List (Int × List Int)) (x : Int) (ok : Bool) : Prop := (goodG n t ss = true → ∃ L, IsMin ss L ∧ x = (((L 0).getD 0 : Nat) : Int) ∧ ok = (L 0).isSome) ∧ (goodG n t ss = false → x = 0 ∧ ok = false)
theorem QL.unique {n t : Int} {ss : List (Int × List Int)} {x y : Int} {a b : Bool} (h : QL n t ss x a) (k : QL n t ss y b) : x = y ∧ a = b := by
  cases hg : goodG n t ss
  · obtain ⟨h1, h2⟩ := h.2 hg
    obtain ⟨k1, k2⟩ := k.2 hg
    rw [h1, h2, k1, k2]; exact ⟨rfl, rfl⟩
  · obtain ⟨L, h1, h2, h3⟩ := h.1 hg
    obtain ⟨M, k1, k2, k3⟩ := k.1 hg
    have e := h1.unique k1
    subst e
    rw [h2, h3, k2, k3]; exact ⟨rfl, rfl⟩

set_option maxRecDepth 20000 in
set_option maxHeartbeats 1000000 in
theorem implLeastLong_any (n t : Int) (A : Option Addr) (c : Nat) (rs : List Ru) (w : World) (hx : Rls w w.heap.size A rs) (hL : Lims w) (hc : rs.length ≤ c) (h1 : rs.length ≤ 1048576) (h2 : ∀ u ∈ rs, u.r.length ≤ 1048576) (hf : FitR rs) :
    Calls Tryd.prog 51 #[.agg #[.int .i64 n, .int .i64 t, .slice A rs.length c]] w (GaveXI w (QL n t (rs.map Ru.abs))) := by
  have HX := Lib.hid hx; clear hx
  have HL := Lib.hid hL; clear hL
  have HF := Lib.hid hf; clear hf
  have H2 := Lib.hid h2; clear h2
  have HB0 : Hid (Below w.heap.size w (w.alloc (.cells #[.int .i64 n, .int .i64 t, .slice A rs.length c] 26))) := by show Below _ _ _; go_grown
  have B0 : Hid (Box3 (w.alloc (.cells #[.int .i64 n, .int .i64 t, .slice A rs.length c] 26)) w.heap.size (.int .i64 n) (.int .i64 t) (.slice A rs.length c)) := ⟨by simp, by simp [go_sem], by simp [go_sem], by simp [go_sem]⟩
  cases hg : goodG n t (rs.map Ru.abs)
  · have HQ : Hid (QL n t (rs.map Ru.abs) 0 false) := ⟨fun h => (by rw [hg] at h; cases h), fun _ => ⟨rfl, rfl⟩⟩
    have HG := Lib.hid hg; clear hg
    go_enter Tryd.func51, Tryd.ntmps51
    go_wp2_with fail
    refine (goodGrammar_any _ _ _ _ _ _ ((HX.out.keep HB0.out).more HB0.out.size) (HL.out.keep HB0.out (Nat.le_refl _)) hc h1 H2.out HF.out).mono ?_
    rintro e w1 ⟨rfl, hB1⟩
    rw [HG.out]
    have HB1 := Lib.hid (HB0.out.trans (hB1.mono HB0.out.size)); clear hB1
    go_wp2
    go_ret2
    exact ⟨0, false, HQ.out, rfl, HB1.out⟩
  · have HG := Lib.hid hg; clear hg
    go_enter Tryd.func51, Tryd.ntmps51
    go_wp2_with fail
    refine (goodGrammar_any _ _ _ _ _ _ ((HX.out.keep HB0.out).more HB0.out.size) (HL.out.keep HB0.out (Nat.le_refl _)) hc h1 H2.out HF.out).mono ?_
    rintro e w1 ⟨rfl, hB1⟩
    rw [HG.out]
    obtain ⟨_, b0, b1, b2⟩ := B0.out.keep hB1 (by simp)
    have HB1 := Lib.hid (HB0.out.trans (hB1.mono HB0.out.size)); clear hB1
    go_wp2_with fail
    refine (leastBy_any n t A c rs w1 ((HX.out.keep HB1.out).more HB1.out.size) HG.out).mono ?_
    rintro e w2 ⟨b, L, rfl, k1, k2, k3, k4⟩
    have hl := k1.look (x := 0) (by unfold F64; omega)
    have HQ : Hid (QL n t (rs.map Ru.abs) (((L 0).getD 0 : Nat) : Int) (L 0).isSome) := ⟨fun _ => ⟨L, k2, rfl, rfl⟩, fun h => by rw [HG.out] at h; cases h⟩
    have HB2 := Lib.hid (HB1.out.trans (k4.mono HB1.out.size))
    generalize (((L 0).getD 0 : Nat) : Int) = x at hl HQ
    generalize (L 0).isSome = ok at hl HQ
    clear k1 k2 k3 k4
    go_wp2
    go_ret2
    exact ⟨x, ok, HQ.out, rfl, HB2.out⟩

end Go.Proofs.YtacehfjhpnplbaaDoor
