/- The reference's l3Close. -/
import Derived.Test.YtkghblgiojidgaaDoorSpecSet
import Derived.Deep.LoopGhost
namespace Go.Proofs.YtkghblgiojidgaaDoor
open Go.RowKit

def setL (xs : List Int) : Int → Bool := fun x => xs.contains x
theorem setL_iff {xs : List Int} {x : Int} : setL xs x = true ↔ x ∈ xs := by unfold setL; rw [List.contains_iff_mem]

/-- A rising list of numbers below 6, all of them in the least set. -/
structure Inside (W : Way) (S0 : Int → Bool) (ss : List (Int × List Int)) (xs : List Int) : Prop where
  rises : Rises xs
  fit : ∀ x ∈ xs, 0 ≤ x ∧ x < 6
  sound : ∀ x ∈ xs, Least W S0 ss x
  start : ∀ x, S0 x = true → x ∈ xs
theorem Inside.len {W : Way} {S0 : Int → Bool} {ss : List (Int × List Int)} {xs : List Int} (h : Inside W S0 ss xs) : xs.length ≤ 6 :=
  len6 (S := setL xs) (h.rises.imp fun h => by omega) (fun _ hx => setL_iff.2 hx) fun x hx => h.fit x (setL_iff.1 hx)
theorem Inside.put {W : Way} {S0 : Int → Bool} {ss : List (Int × List Int)} {xs ys : List Int} (h : Inside W S0 ss xs) {n : Int} (hr : Rises ys) (hm : ∀ x, x ∈ ys ↔ x = n ∨ x ∈ xs) {r : Int × List Int} (hrs : r ∈ ss) (hf : W.fires (setL xs) r = true) (hn : n ∈ W.adds r) (h6 : 0 ≤ n ∧ n < 6) : Inside W S0 ss ys :=
  ⟨hr, fun x hx => by rcases (hm x).1 hx with rfl | h'; exact h6; exact h.fit x h', fun x hx => by
    rcases (hm x).1 hx with rfl | h'
    · exact Least.step (S := setL xs) (fun y hy => h.sound y (setL_iff.1 hy)) hrs hf hn
    · exact h.sound x h', fun x hx => (hm x).2 (.inr (h.start x hx))⟩
theorem Inside.done {W : Way} {S0 : Int → Bool} {ss : List (Int × List Int)} {xs : List Int} (h : Inside W S0 ss xs) (hc : ∀ r ∈ ss, W.fires (setL xs) r = true → ∀ y ∈ W.adds r, y ∈ xs) : IsLeast W S0 ss (setL xs) :=
  isLeast_of (fun x hx => h.sound x (setL_iff.1 hx)) (fun x hx => setL_iff.2 (h.start x hx)) fun r hr hf y hy => setL_iff.2 (hc r hr hf y hy)

def wayT (tok : Bool) : Way := match tok with
  | true => wayProd
  | false => wayNull
theorem wayT_adds (tok : Bool) (r : Int × List Int) : (wayT tok).adds r = [r.1] := by cases tok <;> rfl
/-- The reference's question to one symbol. -/
def closeP (tok : Bool) (xs : List Int) (x : Int) : Bool := (decide (x < 0) && tok) || (decide (0 ≤ x) && xs.contains x)
theorem closeP_neg {tok : Bool} {xs : List Int} {x : Int} (h : x < 0) : closeP tok xs x = tok := by
  unfold closeP
  rw [decide_eq_true h, decide_eq_false (by omega)]
  cases tok <;> rfl
theorem closeP_non {tok : Bool} {xs : List Int} {x : Int} (h : ¬ x < 0) : closeP tok xs x = xs.contains x := by
  unfold closeP
  rw [decide_eq_false h, decide_eq_true (by omega)]
  rfl
theorem fires_close {tok : Bool} {xs : List Int} (hf : ∀ x ∈ xs, 0 ≤ x ∧ x < 6) (r : Int × List Int) : (wayT tok).fires (setL xs) r = r.2.all (closeP tok xs) := by
  cases tok
  · show r.2.all (setL xs) = _
    congr 1
    funext x
    by_cases h : x < 0
    · rw [closeP_neg h]
      cases hc : setL xs x
      · rfl
      · have := hf x (setL_iff.1 hc); omega
    · rw [closeP_non h]; rfl
  · show r.2.all (tokS (setL xs)) = _
    congr 1
    funext x
    by_cases h : x < 0
    · rw [closeP_neg h, tokS_lt h]
    · rw [closeP_non h, tokS_ge h]; rfl

theorem all_take {p : Int → Bool} {xs : List Int} {k : Nat} (hk : k < xs.length) : (xs.take (k + 1)).all p = ((xs.take k).all p && p xs[k]) := by
  rw [List.take_succ_eq_append_getElem hk, List.all_append]
  simp

/-- The reference's list, new since lo. -/
def GaveV (w : World) (P : List Int → Prop) (e : Ending) (w' : World) : Prop := ∃ v ys, e = .returned v ∧ P ys ∧ OwnV w' w.heap.size v ys ∧ Below w.heap.size w w'

set_option maxRecDepth 20000 in
set_option maxHeartbeats 2000000 in
theorem l3Close_any (n t : Int) (A : Option Addr) (c : Nat) (rs : List Ru) (tok : Bool) (w : World) (hx : Rls w w.heap.size A rs) (hg : goodG n t (rs.map Ru.abs) = true) :
    Calls Tryd.prog 119 #[.agg #[.int .i64 n, .int .i64 t, .slice A rs.length c], .bool tok] w (GaveV w fun ys => Rises ys ∧ (∀ x ∈ ys, 0 ≤ x ∧ x < 6) ∧ IsLeast (wayT tok) noS (rs.map Ru.abs) (setL ys)) := by
  have h16 := good_16 hg
  have HX := Lib.hid hx; clear hx
  have HG := Lib.hid hg; clear hg
  have HB0 : Hid (Below w.heap.size w (w.alloc (.cells #[.int .i64 n, .int .i64 t, .slice A rs.length c] 30))) := by show Below _ _ _; go_grown
  have B0 : Hid (Box3 (w.alloc (.cells #[.int .i64 n, .int .i64 t, .slice A rs.length c] 30)) w.heap.size (.int .i64 n) (.int .i64 t) (.slice A rs.length c)) := ⟨by simp, by simp [go_sem], by simp [go_sem], by simp [go_sem]⟩
  have HI0 : Hid (Inside (wayT tok) noS (rs.map Ru.abs) []) := ⟨List.Pairwise.nil, (fun x h => by cases h), (fun x h => by cases h), (fun x h => by cases h)⟩
  go_enter Tryd.func119, Tryd.ntmps119
  go_wp2
  generalize (w.alloc (.cells #[.int .i64 n, .int .i64 t, .slice A rs.length c] 30)) = X at *
  have hXs := B0.out.1
  go_loopg [5, 6] 13 (fun g v m wr => ∃ (more : Bool) (xs : List Int), m = .bool more ∧ g + 2 * xs.length = 12 + (if more then 1 else 0) ∧ Hid (OwnV wr w.heap.size v xs) ∧ Hid (Inside (wayT tok) noS (rs.map Ru.abs) xs) ∧ Hid (Below X.heap.size X wr) ∧ Hid (more = false → ∀ u ∈ rs, (wayT tok).fires (setL xs) u.abs = true → u.l ∈ xs))
  case atStart => exact ⟨true, [], rfl, rfl, OwnV.nil _ _, HI0.out, Below.refl _ _, fun h => by cases h⟩
  case round =>
    obtain ⟨more, xs, rfl, hgk, HV, HI, HB, HC⟩ := hrel
    have hl6 := HI.out.len
    cases more
    · have HD : Hid (IsLeast (wayT tok) noS (rs.map Ru.abs) (setL xs)) := HI.out.done fun r hr hf y hy => by
        obtain ⟨u, hu, rfl⟩ := List.mem_map.1 hr
        rw [wayT_adds] at hy
        simp at hy
        subst hy
        exact HC.out rfl u hu hf
      have HW : Hid (Below w.heap.size w wr) := HB0.out.trans (HB.out.mono HB0.out.size)
      go_wp2
      go_ret
      exact ⟨_, xs, rfl, ⟨HI.out.rises, HI.out.fit, HD.out⟩, HV.out, HW.out⟩
    · rw [if_pos rfl] at hgk
      obtain ⟨wO, hwO⟩ : ∃ x, x = wr := ⟨_, rfl⟩
      subst hwO
      obtain ⟨_, b0, b1, b2⟩ := B0.out.keep HB.out hXs
      go_wp2
      clear b0 b1 b2
      go_loopw [5, 6, 16] (fun v m i wr => ∃ (k : Nat) (more : Bool) (ys : List Int), k ≤ rs.length ∧ i = .int .i64 k ∧ m = .bool more ∧ Hid (OwnV wr w.heap.size v ys) ∧ Hid (Inside (wayT tok) noS (rs.map Ru.abs) ys) ∧ Hid (Below X.heap.size X wr) ∧ Hid (more = true → xs.length < ys.length) ∧ Hid (more = false → ys = xs ∧ ∀ (j : Nat) (u : Ru), j < k → rs[j]? = some u → (wayT tok).fires (setL ys) u.abs = true → u.l ∈ ys)) (fun _ _ i _ => rs.length - (intOf i).toNat)
      case atStart => exact ⟨0, false, xs, by omega, rfl, rfl, HV.out, HI.out, HB.out, fun h => (by cases h), fun _ => ⟨rfl, fun j u h => absurd h (by omega)⟩⟩
      case round =>
        obtain ⟨k, more, ys, hk, rfl, rfl, HV2, HI2, HB2, HM2, HC2⟩ := hrel
        by_cases hlt : k < rs.length
        · have HW2 : Hid (Below w.heap.size w wr) := HB0.out.trans (HB2.out.mono HB0.out.size)
          obtain ⟨p, o, hA, hp, c1, c2, c3⟩ := ((HX.out.keep HW2.out).more HW2.out.size).at_ hlt
          have HR := Lib.hid c3; clear c3
          obtain ⟨Av, cv, hvv, hcv, hIv⟩ := HV2.out.shape
          subst hvv
          have HIV := Lib.hid hIv; clear hIv
          have hy6 := HI2.out.len
          have hum : rs[k].abs ∈ rs.map Ru.abs := List.mem_map.2 ⟨_, List.getElem_mem hlt, rfl⟩
          have h4 := good_len HG.out hum
          have HUM := Lib.hid hum; clear hum
          have HBR : Hid (Below wr.heap.size wr (wr.alloc (.cells #[.int .i64 rs[k].l, .slice rs[k].a rs[k].r.length rs[k].c] 61))) := (Below.refl _ _).alloc (Nat.le_refl _) _
          have HFI := Lib.hid (fires_close (tok := tok) HI2.out.fit rs[k].abs)
          generalize hhb : ys.contains rs[k].l = hb
          have HHB := Lib.hid hhb
          have HC1 : Hid (Calls Tryd.prog 120 #[.slice Av ys.length cv, .int .i64 rs[k].l] (wr.alloc (.cells #[.int .i64 rs[k].l, .slice rs[k].a rs[k].r.length rs[k].c] 61)) fun e w' => e = .returned (.bool hb) ∧ w' = (wr.alloc (.cells #[.int .i64 rs[k].l, .slice rs[k].a rs[k].r.length rs[k].c] 61))) := by
            have h := l1Has6_any Av ys cv rs[k].l _ ((HIV.out.keep HBR.out).more HBR.out.size) hy6
            rw [hhb] at h
            exact h
          clear hhb
          rw [hA]
          go_wp2_with fail
          refine HC1.out.mono ?_
          rintro e w1 ⟨rfl, hw1⟩
          rw [hw1]
          clear hw1 w1
          go_wp2
          obtain ⟨wM, hwM⟩ : ∃ x, x = wr := ⟨_, rfl⟩
          subst hwM
          have r0 : (wM.alloc (.cells #[.int .i64 rs[k].l, .slice rs[k].a rs[k].r.length rs[k].c] 61)).cell? ⟨wM.heap.size, 0, none⟩ = some (.int .i64 rs[k].l) := by simp [go_sem]
          have r1 : (wM.alloc (.cells #[.int .i64 rs[k].l, .slice rs[k].a rs[k].r.length rs[k].c] 61)).cell? ⟨wM.heap.size, 1, none⟩ = some (.slice rs[k].a rs[k].r.length rs[k].c) := by simp [go_sem]
          clear HC1 c1 c2
          generalize (wM.alloc (.cells #[.int .i64 rs[k].l, .slice rs[k].a rs[k].r.length rs[k].c] 61)) = Y at *
          have HIY := Lib.hid ((HIV.out.keep HBR.out).more HBR.out.size)
          have HRY := Lib.hid ((HR.out.keep HBR.out).more HBR.out.size)
          go_loopw [9, 28] (fun a i wr => ∃ (j : Nat), j ≤ rs[k].r.length ∧ i = .int .i64 j ∧ a = .bool (!hb && (rs[k].r.take j).all (closeP tok ys)) ∧ wr = Y) (fun _ i _ => rs[k].r.length - (intOf i).toNat)
          case atStart => exact ⟨0, by omega, rfl, by simp, rfl⟩
          case round =>
            obtain ⟨j, hj, rfl, rfl, rfl⟩ := hrel
            by_cases hjl : j < rs[k].r.length
            · obtain ⟨p2, o2, hA2, hp2, c1⟩ := HRY.out.at_ hjl
              have HAT := Lib.hid (all_take (p := closeP tok ys) hjl)
              generalize hal : (!hb && (rs[k].r.take j).all (closeP tok ys)) = al
              have HNX : Hid ((!hb && (rs[k].r.take (j + 1)).all (closeP tok ys)) = (al && closeP tok ys rs[k].r[j])) := by
                show _ = _
                rw [HAT.out, ← hal, Bool.and_assoc]
              clear hal
              rw [hA2]
              cases al
              · go_wp2
                go_roundw
                case rel => exact ⟨j + 1, by omega, by go_num, by rw [HNX.out]; rfl, by simp⟩
                case measure => simp [intOf]; omega
              · by_cases hneg : rs[k].r[j] < 0
                · have HQ : Hid (closeP tok ys rs[k].r[j] = tok) := closeP_neg hneg
                  cases tok
                  all_goals
                    go_wp2
                    go_roundw
                    case rel => exact ⟨j + 1, by omega, by go_num, by rw [HNX.out, HQ.out]; rfl, by simp⟩
                    case measure => simp [intOf]; omega
                · have HCQ := Lib.hid (l1Has6_any Av ys cv rs[k].r[j] wr HIY.out hy6)
                  have HQ : Hid (closeP tok ys rs[k].r[j] = ys.contains rs[k].r[j]) := closeP_non hneg
                  generalize ys.contains rs[k].r[j] = q at HQ HCQ
                  go_wp2_with fail
                  refine HCQ.out.mono ?_
                  rintro e w1 ⟨rfl, rfl⟩
                  go_wp2
                  go_roundw
                  case rel => exact ⟨j + 1, by omega, by go_num, by rw [HNX.out, HQ.out]; rfl, by simp⟩
                  case measure => simp [intOf]; omega
            · obtain rfl : j = rs[k].r.length := by omega
              rw [List.take_length]
              have HFB : Hid ((wayT tok).fires (setL ys) rs[k].abs = rs[k].r.all (closeP tok ys)) := HFI.out
              generalize rs[k].r.all (closeP tok ys) = fb at HFB ⊢
              have HBY : Hid (Below X.heap.size X wr) := HB2.out.trans (HBR.out.mono HB2.out.size)
              have HVY := Lib.hid (HV2.out.keep HBR.out)
              cases hq : (!hb && fb)
              · have HST : Hid (fb = true → hb = true) := by
                  intro h
                  rw [h] at hq
                  cases hb
                  · cases hq
                  · rfl
                clear hq
                go_wp2
                go_roundw
                case rel =>
                  refine ⟨k + 1, more, ys, by omega, by go_num, rfl, HVY.out, HI2.out, HBY.out, HM2.out, fun h => ⟨(HC2.out h).1, fun i u hi hu hf => ?_⟩⟩
                  by_cases e : i = k
                  · subst e
                    rw [List.getElem?_eq_getElem hlt] at hu
                    injection hu with hu
                    subst hu
                    rw [HFB.out] at hf
                    have h2 := HHB.out
                    rw [HST.out hf] at h2
                    exact List.contains_iff_mem.1 h2
                  · exact (HC2.out h).2 i u (by omega) hu hf
                case measure => simp [intOf]; omega
              · obtain ⟨h1, h2⟩ := Bool.and_eq_true _ _ ▸ hq
                have hn : rs[k].l ∉ ys := fun hm => by
                  have h3 := HHB.out
                  rw [List.contains_iff_mem.2 hm] at h3
                  subst h3
                  cases h1
                have HF2 : Hid ((wayT tok).fires (setL ys) rs[k].abs = true) := by show _ = _; rw [HFB.out, h2]
                clear hq h1 h2
                have HPC := Lib.hid (l1Put_any w.heap.size _ ys rs[k].l wr HVY.out HI2.out.rises hn hy6)
                clear hn
                go_wp2_with fail
                refine HPC.out.mono ?_
                rintro e w1 ⟨v1, zs, rfl, hz1, hz2, hz3, hz4, hz5⟩
                have HIZ : Hid (Inside (wayT tok) noS (rs.map Ru.abs) zs) := HI2.out.put hz1 hz2 HUM.out HF2.out (by rw [wayT_adds]; exact List.mem_singleton.2 rfl) (by have h5 := (goodG_mem HG.out HUM.out).1; have h6 := goodG_is HG.out; have : rs[k].abs.1 = rs[k].l := rfl; omega)
                have HVZ := Lib.hid (hz4.lower (lo' := w.heap.size) (by have := HBY.out.size; omega))
                have HBZ : Hid (Below X.heap.size X w1) := HBY.out.trans (hz5.mono HBY.out.size)
                have HLZ : Hid (xs.length < zs.length) := by
                  show _ < _
                  cases more
                  · rw [← (HC2.out rfl).1]; omega
                  · have := HM2.out rfl; omega
                clear hz1 hz2 hz3 hz4 hz5
                go_wp2
                go_roundw
                case rel => exact ⟨k + 1, true, zs, by omega, by go_num, rfl, HVZ.out, HIZ.out, HBZ.out, fun _ => HLZ.out, fun h => by cases h⟩
                case measure => simp [intOf]; omega
        · obtain rfl : k = rs.length := by omega
          go_wp2
          go_roundg (12 + (if more then 1 else 0) - 2 * ys.length)
          case measure =>
            have := HI2.out.len
            cases more
            · rw [(HC2.out rfl).1]
              simp
              omega
            · have := HM2.out rfl
              simp
              omega
          case rel =>
            have := HI2.out.len
            refine ⟨more, ys, rfl, by omega, HV2.out, HI2.out, HB2.out, fun h u hu hf => ?_⟩
            obtain ⟨j, hj⟩ := List.mem_iff_getElem?.1 hu
            exact (HC2.out h).2 j u (List.getElem?_eq_some_iff.1 hj).1 hj hf

end Go.Proofs.YtkghblgiojidgaaDoor
