/- The reference's BinaryNull. -/
import Derived.Test.YtfbpcdmpkbjifaaDoorC808
import Derived.Test.YtfbpcdmpkbjifaaDoorC805
import Derived.Test.YtfbpcdmpkbjifaaDoorC803
import Derived.Lib.AppendZerosOnto
import Derived.Lib.AppendZeros
import Derived.Test.YtfbpcdmpkbjifaaDoorC807
import Derived.Deep.Cut

namespace Go.Proofs.YtfbpcdmpkbjifaaDoor
open Go.RowKit

theorem riseI_rises {xs : List Int} (h : RiseI xs xs.length) : Rises xs := by
  have key : ∀ (j i : Nat) (x y : Int), i < j → j < xs.length → xs[i]? = some x → xs[j]? = some y → x < y := by
    intro j
    induction j with
    | zero => intro i x y h1; omega
    | succ j ih =>
      intro i x y h1 h2 hx hy
      have hz : xs[j]? = some xs[j] := List.getElem?_eq_getElem (by omega)
      have h3 : xs[j] < y := h j _ _ h2 hz hy
      by_cases e : i = j
      · subst e; rw [hz] at hx; injection hx with hx; omega
      · have := ih i x xs[j] (by omega) (by omega) hx hz
        omega
  rw [Rises, List.pairwise_iff_getElem]
  intro i j hi hj hij
  exact key j i _ _ hij hj (List.getElem?_eq_getElem hi) (List.getElem?_eq_getElem hj)

/-- What the first k lists add is there. -/
def ClosedTo (ys : List Int) (ls : List Li) (k : Nat) : Prop := ∀ (j : Nat) (u : Li), j < k → ls[j]? = some u → wayNull.fires (setL ys) (ruleOf u.r) = true → (ruleOf u.r).1 ∈ ys
theorem ClosedTo.zero (ys : List Int) (ls : List Li) : ClosedTo ys ls 0 := fun j u h => absurd h (by omega)
theorem ClosedTo.step {ys : List Int} {ls : List Li} {k : Nat} (h : ClosedTo ys ls k) {u : Li} (hu : ls[k]? = some u) (h2 : wayNull.fires (setL ys) (ruleOf u.r) = true → (ruleOf u.r).1 ∈ ys) : ClosedTo ys ls (k + 1) := fun j v hj hv hf => by
  by_cases e : j = k
  · subst e; rw [hu] at hv; injection hv with hv; subst hv; exact h2 hf
  · exact h j v (by omega) hv hf

theorem fires3 (ys : List Int) (a b c : Int) : wayNull.fires (setL ys) (ruleOf [a, b, c]) = (ys.contains b && ys.contains c) := by
  show [b, c].all (setL ys) = _
  simp [setL]
theorem fires2 (ys : List Int) (a b : Int) : wayNull.fires (setL ys) (ruleOf [a, b]) = ys.contains b := by
  show [b].all (setL ys) = _
  simp [setL]
theorem rule_memP {P O : List (List Int)} {E : List Int} {x : List Int} (h : x ∈ P) : ruleOf x ∈ bRules P O E := List.mem_append.2 (.inl (List.mem_map.2 ⟨x, List.mem_append.2 (.inl h), rfl⟩))
theorem rule_memO {P O : List (List Int)} {E : List Int} {x : List Int} (h : x ∈ O) : ruleOf x ∈ bRules P O E := List.mem_append.2 (.inl (List.mem_map.2 ⟨x, List.mem_append.2 (.inr h), rfl⟩))
theorem rule_memE {P O : List (List Int)} {E : List Int} {x : Int} (h : x ∈ E) : (x, []) ∈ bRules P O E := List.mem_append.2 (.inr (List.mem_map.2 ⟨x, h, rfl⟩))
theorem len_three {x : List Int} (h : (x.length : Int) = 3) : ∃ a b c, x = [a, b, c] := by
  rcases x with _ | ⟨a, _ | ⟨b, _ | ⟨c, _ | ⟨d, x⟩⟩⟩⟩
  · simp at h
  · simp at h
  · simp at h
  · exact ⟨a, b, c, rfl⟩
  · simp at h; omega
theorem len_two {x : List Int} (h : (x.length : Int) = 2) : ∃ a b, x = [a, b] := by
  rcases x with _ | ⟨a, _ | ⟨b, _ | ⟨c, x⟩⟩⟩
  · simp at h
  · simp at h
  · exact ⟨a, b, rfl⟩
  · simp at h; omega
theorem ints_three {w : World} {B : Nat} {A : Option Addr} {a b c : Int} (h : Ints w B A [a, b, c]) : ∃ p o, A = some ⟨p, o, none⟩ ∧ w.cell? ⟨p, o, none⟩ = some (.int .i64 a) ∧ w.cell? ⟨p, o + 1, none⟩ = some (.int .i64 b) ∧ w.cell? ⟨p, o + 2, none⟩ = some (.int .i64 c) := by
  obtain ⟨p, o, e, _, hc⟩ := h (by simp)
  exact ⟨p, o, e, hc 0 a rfl, hc 1 b rfl, hc 2 c rfl⟩
theorem ints_two {w : World} {B : Nat} {A : Option Addr} {a b : Int} (h : Ints w B A [a, b]) : ∃ p o, A = some ⟨p, o, none⟩ ∧ w.cell? ⟨p, o, none⟩ = some (.int .i64 a) ∧ w.cell? ⟨p, o + 1, none⟩ = some (.int .i64 b) := by
  obtain ⟨p, o, e, _, hc⟩ := h (by simp)
  exact ⟨p, o, e, hc 0 a rfl, hc 1 b rfl⟩

/-- The list so far: in the least set, with all that derives nothing by itself. -/
structure InN (s : Bs) (ys : List Int) : Prop where
  ins : Inside wayNull noS (bRules s.P s.O s.E) ys
  es : ∀ x ∈ s.E, x ∈ ys
theorem InN.done {b : Bi} {ys : List Int} (h : InN b.say ys) (hP : ClosedTo ys b.P b.P.length) (hO : ClosedTo ys b.O b.O.length) : IsLeast wayNull noS (bRules (sayL b.P) (sayL b.O) b.E) (setL ys) := by
  refine h.ins.done fun r hr hf y hy => ?_
  have e : y = r.1 := by simpa [wayNull] using hy
  subst e
  rcases List.mem_append.1 hr with hr | hr
  · obtain ⟨x, hx, rfl⟩ := List.mem_map.1 hr
    rcases List.mem_append.1 hx with hx | hx
    · obtain ⟨u, hu, rfl⟩ := List.mem_map.1 hx
      obtain ⟨k, hk, e⟩ := List.getElem_of_mem hu
      exact hP k u hk (by rw [← e]; exact List.getElem?_eq_getElem hk) hf
    · obtain ⟨u, hu, rfl⟩ := List.mem_map.1 hx
      obtain ⟨k, hk, e⟩ := List.getElem_of_mem hu
      exact hO k u hk (by rw [← e]; exact List.getElem?_eq_getElem hk) hf
  · obtain ⟨x, hx, rfl⟩ := List.mem_map.1 hr
    exact h.es x hx
theorem InN.put {s : Bs} (hg : GoodBs s) {xs ys : List Int} (h : InN s xs) {n : Int} (hr : Rises ys) (hm : ∀ x, x ∈ ys ↔ x = n ∨ x ∈ xs) {r : Int × List Int} (hrs : r ∈ bRules s.P s.O s.E) (hf : wayNull.fires (setL xs) r = true) (hn : r.1 = n) : InN s ys := by
  refine ⟨h.ins.put hr hm hrs hf (by show n ∈ [r.1]; rw [hn]; exact List.mem_singleton.2 rfl) (by rw [← hn]; exact goodB_lefts hg r hrs), fun x hx => (hm x).2 (.inr (h.es x hx))⟩
theorem InN.start {s : Bs} (hg : GoodBs s) : InN s s.E := by
  refine ⟨⟨riseI_rises hg.2.2.2.2.1.2, fun x hx => goodB_lefts hg (x, []) (rule_memE hx), fun x hx => Least.step (S := noS) (fun y hy => by cases hy) (rule_memE hx) rfl (by show x ∈ [x]; exact List.mem_singleton.2 rfl), fun x hx => by cases hx⟩, fun x hx => hx⟩

set_option maxRecDepth 20000 in
set_option maxHeartbeats 2000000 in
theorem l5Null_any (b : Bi) (w : World) (hx : ReadB w w.heap.size b) (hm : LenB 1048576 b) (hg : GoodBs b.say) :
    Calls Tryd.prog 136 #[(.agg #[.int .i64 b.n, .int .i64 b.t, .slice b.Ap b.P.length b.cp, .slice b.Ao b.O.length b.co, .slice b.Ae b.E.length b.ce, .slice b.Af b.F.length b.cf])] w (GaveV w fun ys => Rises ys ∧ (∀ x ∈ ys, 0 ≤ x ∧ x < 40) ∧ IsLeast wayNull noS (bRules (sayL b.P) (sayL b.O) b.E) (setL ys)) := by
  have HX := Lib.hid hx; clear hx
  have hpl := hm.p
  have hol := hm.o
  have hel := hm.e
  clear hm
  have HG := Lib.hid hg; clear hg
  have HB0 : Hid (Below w.heap.size w (w.alloc (.cells #[.int .i64 b.n, .int .i64 b.t, .slice b.Ap b.P.length b.cp, .slice b.Ao b.O.length b.co, .slice b.Ae b.E.length b.ce, .slice b.Af b.F.length b.cf] 55))) := by show Below _ _ _; go_grown
  have B0 := Lib.hid (Box6.new w b 55)
  have HI0 : Hid (InN b.say b.E) := InN.start HG.out
  go_enter Tryd.func136, Tryd.ntmps136
  go_wp2_with fail
  generalize (w.alloc (.cells #[.int .i64 b.n, .int .i64 b.t, .slice b.Ap b.P.length b.cp, .slice b.Ao b.O.length b.co, .slice b.Ae b.E.length b.ce, .slice b.Af b.F.length b.cf] 55)) = X at *
  have hXs := B0.out.1
  refine (l1OwnW_any _ _ _ _ ((HX.out.2.2.1.keep HB0.out).more HB0.out.size) hel).mono ?_
  rintro e w1 ⟨v1, rfl, hO1, hB1⟩
  have HV1 : Hid (OwnV w1 w.heap.size v1 b.E) := OwnV.lower (lo := X.heap.size) hO1 HB0.out.size
  have HB1 := Lib.hid hB1
  have hE40 := HI0.out.ins.len
  clear hO1 hB1
  go_wp2
  go_loopg [3, 4] (2 * (40 - b.E.length) + 1) (fun g v m wr => ∃ (more : Bool) (xs : List Int), m = .bool more ∧ g + 2 * xs.length = 80 + (if more then 1 else 0) ∧ Hid (OwnV wr w.heap.size v xs) ∧ Hid (InN b.say xs) ∧ Hid (Below X.heap.size X wr) ∧ Hid (more = false → ClosedTo xs b.P b.P.length ∧ ClosedTo xs b.O b.O.length))
  case atStart => exact ⟨true, b.E, rfl, by simp; omega, HV1.out, HI0.out, HB1.out, fun h => by cases h⟩
  case round =>
    clear HV1 HB1 HI0
    obtain ⟨more, xs, rfl, hgk, HV, HI, HB, HC⟩ := hrel
    have hl40 := HI.out.ins.len
    cases more
    · have HD := Lib.hid (HI.out.done (HC.out rfl).1 (HC.out rfl).2)
      have HW : Hid (Below w.heap.size w wr) := HB0.out.trans (HB.out.mono HB0.out.size)
      go_wp2
      go_ret
      exact ⟨_, xs, rfl, ⟨HI.out.ins.rises, HI.out.ins.fit, HD.out⟩, HV.out, HW.out⟩
    · rw [if_pos rfl] at hgk
      clear HC
      obtain ⟨wO, hwO⟩ : ∃ x, x = wr := ⟨_, rfl⟩
      subst hwO
      obtain ⟨_, b0, b1, b2, b3, b4, b5⟩ := B0.out.keep HB.out hXs
      go_wp2
      clear b0 b1 b2 b3 b4 b5
      go_loopw [3, 4, 16] (fun v m i wr => ∃ (k : Nat) (more : Bool) (ys : List Int), k ≤ b.P.length ∧ i = .int .i64 k ∧ m = .bool more ∧ Hid (OwnV wr w.heap.size v ys) ∧ Hid (InN b.say ys) ∧ Hid (Below X.heap.size X wr) ∧ Hid (more = true → xs.length < ys.length) ∧ Hid (more = false → ys = xs ∧ ClosedTo ys b.P k)) (fun _ _ i _ => b.P.length - (intOf i).toNat)
      case atStart => exact ⟨0, false, xs, by omega, rfl, rfl, HV.out, HI.out, HB.out, fun h => (by cases h), fun _ => ⟨rfl, ClosedTo.zero _ _⟩⟩
      case round =>
        clear HV HB
        obtain ⟨k, more, ys, hk, rfl, rfl, HV2, HI2, HB2, HM2, HC2⟩ := hrel
        have HW2 : Hid (Below w.heap.size w wr) := HB0.out.trans (HB2.out.mono HB0.out.size)
        have hy40 := HI2.out.ins.len
        by_cases hlt : k < b.P.length
        · obtain ⟨p, o, hA, hp, c1, c2, c3⟩ := ((HX.out.1.keep HW2.out).more HW2.out.size).at_ hlt
          have hmem := sayL_mem (List.getElem_mem hlt)
          have HRM := Lib.hid (rule_memP (O := sayL b.O) (E := b.E) hmem)
          obtain ⟨y0, y1, y2, hy⟩ := len_three (long_mem HG.out.2.2.1.1 hmem)
          have HUK := Lib.hid (List.getElem?_eq_getElem hlt)
          generalize b.P[k] = u at c1 c2 c3 hy HUK HRM
          clear hmem
          obtain ⟨ua, ur, uc⟩ := u
          dsimp only at c1 c2 c3 hy HRM
          subst hy
          obtain ⟨q, oo, rfl, e0, e1, e2⟩ := ints_three c3
          have c1' : wr.cell? ⟨p, o + k, none⟩ = some (.slice (some ⟨q, oo, none⟩) 3 uc) := c1
          clear c1 c3 c2
          obtain ⟨Av, cv, hvv, hcv, hIv⟩ := HV2.out.shape
          subst hvv
          have HIV := Lib.hid hIv; clear hIv
          have HF3 := Lib.hid (fires3 ys y0 y1 y2)
          have HN0 : Hid (ys.contains y0 = true → y0 ∈ ys) := fun h => List.contains_iff_mem.1 h
          have HN1 : Hid (y0 ∈ ys → ys.contains y0 = true) := fun h => List.contains_iff_mem.2 h
          have HH0 := Lib.hid (l1Has6_any Av ys cv y0 wr HIV.out hy40)
          have HH1 := Lib.hid (l1Has6_any Av ys cv y1 wr HIV.out hy40)
          have HH2 := Lib.hid (l1Has6_any Av ys cv y2 wr HIV.out hy40)
          generalize ys.contains y0 = h0 at HH0 HN0 HN1
          generalize ys.contains y1 = h1 at HH1 HF3
          generalize ys.contains y2 = h2 at HH2 HF3
          rw [hA]
          cases h0
          case' true =>
            have HNX : Hid (more = false → ys = xs ∧ ClosedTo ys b.P (k + 1)) := fun h => ⟨(HC2.out h).1, (HC2.out h).2.step HUK.out fun _ => HN0.out rfl⟩
            go_wp2_with fail
            refine HH0.out.mono ?_
            rintro e w2 ⟨rfl, rfl⟩
            go_wp2
            go_roundw
            case rel => exact ⟨k + 1, more, ys, by omega, by go_num, rfl, HV2.out, HI2.out, HB2.out, HM2.out, HNX.out⟩
            case measure => simp [intOf]; omega
          case' false =>
            cases h1
            case' false =>
              have HNX : Hid (more = false → ys = xs ∧ ClosedTo ys b.P (k + 1)) := fun h => ⟨(HC2.out h).1, (HC2.out h).2.step HUK.out fun hf => by rw [HF3.out] at hf; cases hf⟩
              go_wp2_with fail
              refine HH0.out.mono ?_
              rintro e w2 ⟨rfl, rfl⟩
              go_wp2_with fail
              refine HH1.out.mono ?_
              rintro e w2 ⟨rfl, rfl⟩
              go_wp2
              go_roundw
              case rel => exact ⟨k + 1, more, ys, by omega, by go_num, rfl, HV2.out, HI2.out, HB2.out, HM2.out, HNX.out⟩
              case measure => simp [intOf]; omega
            case' true =>
              cases h2
              case' false =>
                have HNX : Hid (more = false → ys = xs ∧ ClosedTo ys b.P (k + 1)) := fun h => ⟨(HC2.out h).1, (HC2.out h).2.step HUK.out fun hf => by rw [HF3.out] at hf; cases hf⟩
                go_wp2_with fail
                refine HH0.out.mono ?_
                rintro e w2 ⟨rfl, rfl⟩
                go_wp2_with fail
                refine HH1.out.mono ?_
                rintro e w2 ⟨rfl, rfl⟩
                go_wp2_with fail
                refine HH2.out.mono ?_
                rintro e w2 ⟨rfl, rfl⟩
                go_wp2
                go_roundw
                case rel => exact ⟨k + 1, more, ys, by omega, by go_num, rfl, HV2.out, HI2.out, HB2.out, HM2.out, HNX.out⟩
                case measure => simp [intOf]; omega
              case' true =>
                have hn : y0 ∉ ys := fun hm => by have := HN1.out hm; cases this
                have HPC := Lib.hid (l1Put_any w.heap.size _ ys y0 wr HV2.out HI2.out.ins.rises hn hy40)
                clear hn
                go_wp2_with fail
                refine HH0.out.mono ?_
                rintro e w2 ⟨rfl, rfl⟩
                go_wp2_with fail
                refine HH1.out.mono ?_
                rintro e w2 ⟨rfl, rfl⟩
                go_wp2_with fail
                refine HH2.out.mono ?_
                rintro e w2 ⟨rfl, rfl⟩
                go_wp2_with fail
                refine HPC.out.mono ?_
                rintro e w2 ⟨v2, zs, rfl, hz1, hz2, hz3, hz4, hz5⟩
                have HIZ : Hid (InN b.say zs) := InN.put HG.out HI2.out hz1 hz2 HRM.out HF3.out rfl
                have HVZ := Lib.hid (hz4.lower (lo' := w.heap.size) HW2.out.size)
                have HBZ : Hid (Below X.heap.size X w2) := HB2.out.trans (hz5.mono HB2.out.size)
                have HLZ : Hid (xs.length < zs.length) := by
                  show _ < _
                  cases more
                  · rw [← (HC2.out rfl).1]; omega
                  · have := HM2.out rfl; omega
                clear hz1 hz2 hz3 hz4 hz5
                go_wp2
                go_roundw
                case rel => exact ⟨k + 1, true, zs, by omega, by go_num, rfl, HVZ.out, HIZ.out, HBZ.out, fun _ => HLZ.out, fun h => by cases h⟩
                case measure => simp [intOf]; omega
        · obtain rfl : k = b.P.length := by omega
          obtain ⟨wQ, hwQ⟩ : ∃ x, x = wr := ⟨_, rfl⟩
          subst hwQ
          obtain ⟨_, b0, b1, b2, b3, b4, b5⟩ := B0.out.keep HB2.out hXs
          go_wp2
          clear b0 b1 b2 b3 b4 b5
          go_loopw [3, 4, 49] (fun v m i wr => ∃ (k : Nat) (more : Bool) (ys : List Int), k ≤ b.O.length ∧ i = .int .i64 k ∧ m = .bool more ∧ Hid (OwnV wr w.heap.size v ys) ∧ Hid (InN b.say ys) ∧ Hid (Below X.heap.size X wr) ∧ Hid (more = true → xs.length < ys.length) ∧ Hid (more = false → ys = xs ∧ ClosedTo ys b.P b.P.length ∧ ClosedTo ys b.O k)) (fun _ _ i _ => b.O.length - (intOf i).toNat)
          case atStart => exact ⟨0, more, ys, by omega, rfl, rfl, HV2.out, HI2.out, HB2.out, HM2.out, fun h => ⟨(HC2.out h).1, (HC2.out h).2, ClosedTo.zero _ _⟩⟩
          case round =>
            clear HV2 HB2 HM2 HC2 HI2 hy40 HW2
            obtain ⟨k, more, ys, hk, rfl, rfl, HV2, HI2, HB2, HM2, HC2⟩ := hrel
            have HW2 : Hid (Below w.heap.size w wr) := HB0.out.trans (HB2.out.mono HB0.out.size)
            have hy40 := HI2.out.ins.len
            by_cases hlt : k < b.O.length
            · obtain ⟨p, o, hA, hp, c1, c2, c3⟩ := ((HX.out.2.1.keep HW2.out).more HW2.out.size).at_ hlt
              have hmem := sayL_mem (List.getElem_mem hlt)
              have HRM := Lib.hid (rule_memO (P := sayL b.P) (E := b.E) hmem)
              obtain ⟨y0, y1, hy⟩ := len_two (long_mem HG.out.2.2.2.1.1 hmem)
              have HUK := Lib.hid (List.getElem?_eq_getElem hlt)
              generalize b.O[k] = u at c1 c2 c3 hy HUK HRM
              clear hmem
              obtain ⟨ua, ur, uc⟩ := u
              dsimp only at c1 c2 c3 hy HRM
              subst hy
              obtain ⟨q, oo, rfl, e0, e1⟩ := ints_two c3
              have c1' : wr.cell? ⟨p, o + k, none⟩ = some (.slice (some ⟨q, oo, none⟩) 2 uc) := c1
              clear c1 c3 c2
              obtain ⟨Av, cv, hvv, hcv, hIv⟩ := HV2.out.shape
              subst hvv
              have HIV := Lib.hid hIv; clear hIv
              have HF2 := Lib.hid (fires2 ys y0 y1)
              have HN0 : Hid (ys.contains y0 = true → y0 ∈ ys) := fun h => List.contains_iff_mem.1 h
              have HN1 : Hid (y0 ∈ ys → ys.contains y0 = true) := fun h => List.contains_iff_mem.2 h
              have HH0 := Lib.hid (l1Has6_any Av ys cv y0 wr HIV.out hy40)
              have HH1 := Lib.hid (l1Has6_any Av ys cv y1 wr HIV.out hy40)
              generalize ys.contains y0 = h0 at HH0 HN0 HN1
              generalize ys.contains y1 = h1 at HH1 HF2
              rw [hA]
              cases h0
              case' true =>
                have HNX : Hid (more = false → ys = xs ∧ ClosedTo ys b.P b.P.length ∧ ClosedTo ys b.O (k + 1)) := fun h => ⟨(HC2.out h).1, (HC2.out h).2.1, (HC2.out h).2.2.step HUK.out fun _ => HN0.out rfl⟩
                go_wp2_with fail
                refine HH0.out.mono ?_
                rintro e w2 ⟨rfl, rfl⟩
                go_wp2
                go_roundw
                case rel => exact ⟨k + 1, more, ys, by omega, by go_num, rfl, HV2.out, HI2.out, HB2.out, HM2.out, HNX.out⟩
                case measure => simp [intOf]; omega
              case' false =>
                cases h1
                case' false =>
                  have HNX : Hid (more = false → ys = xs ∧ ClosedTo ys b.P b.P.length ∧ ClosedTo ys b.O (k + 1)) := fun h => ⟨(HC2.out h).1, (HC2.out h).2.1, (HC2.out h).2.2.step HUK.out fun hf => by rw [HF2.out] at hf; cases hf⟩
                  go_wp2_with fail
                  refine HH0.out.mono ?_
                  rintro e w2 ⟨rfl, rfl⟩
                  go_wp2_with fail
                  refine HH1.out.mono ?_
                  rintro e w2 ⟨rfl, rfl⟩
                  go_wp2
                  go_roundw
                  case rel => exact ⟨k + 1, more, ys, by omega, by go_num, rfl, HV2.out, HI2.out, HB2.out, HM2.out, HNX.out⟩
                  case measure => simp [intOf]; omega
                case' true =>
                  have hn : y0 ∉ ys := fun hm => by have := HN1.out hm; cases this
                  have HPC := Lib.hid (l1Put_any w.heap.size _ ys y0 wr HV2.out HI2.out.ins.rises hn hy40)
                  clear hn
                  go_wp2_with fail
                  refine HH0.out.mono ?_
                  rintro e w2 ⟨rfl, rfl⟩
                  go_wp2_with fail
                  refine HH1.out.mono ?_
                  rintro e w2 ⟨rfl, rfl⟩
                  go_wp2_with fail
                  refine HPC.out.mono ?_
                  rintro e w2 ⟨v2, zs, rfl, hz1, hz2, hz3, hz4, hz5⟩
                  have HIZ : Hid (InN b.say zs) := InN.put HG.out HI2.out hz1 hz2 HRM.out HF2.out rfl
                  have HVZ := Lib.hid (hz4.lower (lo' := w.heap.size) HW2.out.size)
                  have HBZ : Hid (Below X.heap.size X w2) := HB2.out.trans (hz5.mono HB2.out.size)
                  have HLZ : Hid (xs.length < zs.length) := by
                    show _ < _
                    cases more
                    · rw [← (HC2.out rfl).1]; omega
                    · have := HM2.out rfl; omega
                  clear hz1 hz2 hz3 hz4 hz5
                  go_wp2
                  go_roundw
                  case rel => exact ⟨k + 1, true, zs, by omega, by go_num, rfl, HVZ.out, HIZ.out, HBZ.out, fun _ => HLZ.out, fun h => by cases h⟩
                  case measure => simp [intOf]; omega
            · obtain rfl : k = b.O.length := by omega
              go_wp2
              go_roundg (80 + (if more then 1 else 0) - 2 * ys.length)
              case measure =>
                cases more
                · rw [(HC2.out rfl).1]
                  simp
                  omega
                · have := HM2.out rfl
                  simp
                  omega
              case rel =>
                refine ⟨more, ys, rfl, by omega, HV2.out, HI2.out, HB2.out, fun h => ⟨(HC2.out h).2.1, (HC2.out h).2.2⟩⟩


end Go.Proofs.YtfbpcdmpkbjifaaDoor

/- The program's table of what stands directly for each symbol. -/

namespace Go.Proofs.YtfbpcdmpkbjifaaDoor
open Go.RowKit

/-- A table of rows, as the cells of an array. -/
def tabA (T : Int → Int → Bool) : Array Value := (rowsL ((List.range 44).map fun (m : Nat) => T ((m : Int) - 4))).toArray
theorem tabA_size (T : Int → Int → Bool) : (tabA T).size = 1760 := by simp [tabA, rowsL_len]
theorem tabA_at (T : Int → Int → Bool) {m j : Nat} (hm : m < 44) (hj : j < 40) : (tabA T)[m * 40 + j]? = some (.bool (T ((m : Int) - 4) j)) := by
  have h : ((List.range 44).map fun (m : Nat) => T ((m : Int) - 4))[m]? = some (T ((m : Int) - 4)) := by simp [hm]
  have := rowsL_at h (rowA_at _ hj)
  simpa [tabA] using this
theorem tabA_none (T : Int → Int → Bool) {i : Nat} (h : ¬ i < 1760) : (tabA T)[i]? = none := Array.getElem?_eq_none (by rw [tabA_size]; omega)
theorem tabA_ext {T U : Int → Int → Bool} (h : ∀ x l, T x l = U x l) : tabA T = tabA U := by
  rw [show T = U from funext fun x => funext fun l => h x l]
theorem tabA_set (T : Int → Int → Bool) {m j : Nat} (hm : m < 44) (hj : j < 40) : (tabA T).setIfInBounds (m * 40 + j) (.bool true) = tabA fun x l => if x = (m : Int) - 4 ∧ l = (j : Int) then true else T x l := by
  generalize hU : (fun x l => if x = (m : Int) - 4 ∧ l = (j : Int) then true else T x l) = U
  apply Array.ext_getElem?
  intro i
  rw [Array.getElem?_setIfInBounds]
  by_cases hi : i < 1760
  · obtain ⟨p, q, hp, hq, rfl⟩ : ∃ p q : Nat, p < 44 ∧ q < 40 ∧ i = p * 40 + q := ⟨i / 40, i % 40, by omega, by omega, by omega⟩
    rw [tabA_at U hp hq, ← hU, tabA_at T hp hq, tabA_size]
    show _ = some (Value.bool (if (p : Int) - 4 = (m : Int) - 4 ∧ (q : Int) = (j : Int) then true else T ((p : Int) - 4) q))
    by_cases e : m * 40 + j = p * 40 + q
    · rw [if_pos e, if_pos (by omega), if_pos (by omega)]
    · rw [if_neg e, if_neg (by omega)]
  · rw [tabA_none T hi, tabA_none U hi]
    by_cases e : m * 40 + j = i
    · omega
    · rw [if_neg e]
theorem Row.tab {w : World} {K : Nat} {t : TypeId} {T : Int → Int → Bool} (h : Row w K t (tabA T)) : TabC w K T := by
  refine ⟨h.lt, fun m x hm hx j v hj => ?_⟩
  have hj40 : j < 40 := by have := (Array.getElem?_eq_some_iff.1 hj).1; rw [rowA_size] at this; exact this
  rw [rowA_at _ hj40] at hj
  rw [h.cell, tabA_at T hm hj40, show (m : Int) - 4 = x by omega]
  exact hj
theorem tabA_all (T : Int → Int → Bool) : (tabA T).all (·.oneCell') = true := by
  rw [Array.all_eq_true_iff_forall_mem]
  intro v hv
  simp only [tabA, List.mem_toArray, rowsL, List.mem_flatMap] at hv
  obtain ⟨S, _, hv⟩ := hv
  exact rowA_one S v hv

theorem info_tab : (Tryd.prog.info? 152).map (fun i => (i.zero, i.size)) = some (some (.agg (tabA fun _ _ => false)), 1760) := by kernel_rfl
theorem size_tab (T : Int → Int → Bool) : (Tryd.prog.info? 152).map (·.size) = some (tabA T).size := by rw [tabA_size]; kernel_rfl

/-- A relation as a table. -/
noncomputable def tabF (D : Int → Int → Prop) : Int → Int → Bool := fun x l => bP (D l x)
theorem tabF_set {D E : Int → Int → Prop} {x0 l0 : Int} (h : ∀ l x, E l x ↔ (x = x0 ∧ l = l0) ∨ D l x) : (fun x l => if x = x0 ∧ l = l0 then true else tabF D x l) = tabF E := by
  funext x l
  unfold tabF
  rw [bP_congr (h l x)]
  by_cases e : x = x0 ∧ l = l0
  · rw [if_pos e, bP_t (.inl e)]
  · rw [if_neg e]
    exact bP_congr ⟨fun hd => .inr hd, fun hd => hd.resolve_left e⟩

/-- What the first k Ones say. -/
def D1 (O : List (List Int)) (k : Nat) : Int → Int → Prop := fun l x => ∃ j : Nat, j < k ∧ O[j]? = some [l, x]
theorem D1_step {O : List (List Int)} {k : Nat} {l0 x0 : Int} (h : O[k]? = some [l0, x0]) (l x : Int) : D1 O (k + 1) l x ↔ (x = x0 ∧ l = l0) ∨ D1 O k l x := by
  constructor
  · rintro ⟨j, hj, e⟩
    by_cases ej : j = k
    · subst ej
      rw [h] at e
      simp at e
      exact .inl ⟨e.2.symm, e.1.symm⟩
    · exact .inr ⟨j, by omega, e⟩
  · rintro (⟨rfl, rfl⟩ | ⟨j, hj, e⟩)
    · exact ⟨k, by omega, h⟩
    · exact ⟨j, by omega, e⟩
/-- What all Ones and the first k Pairs say. -/
def D2 (N : Int → Bool) (P O : List (List Int)) (k : Nat) : Int → Int → Prop := fun l x => [l, x] ∈ O ∨ ∃ (j : Nat) (y : Int), j < k ∧ ((P[j]? = some [l, x, y] ∧ N y = true) ∨ (P[j]? = some [l, y, x] ∧ N y = true))
theorem D2_zero {N : Int → Bool} {P O : List (List Int)} : tabF (D1 O O.length) = tabF (D2 N P O 0) := by
  funext x l
  refine bP_congr ⟨fun ⟨j, _, e⟩ => .inl (List.mem_of_getElem? e), fun h => ?_⟩
  rcases h with h | ⟨j, y, hj, _⟩
  · obtain ⟨j, e⟩ := List.mem_iff_getElem?.1 h
    exact ⟨j, (List.getElem?_eq_some_iff.1 e).1, e⟩
  · omega
theorem D2_step {N : Int → Bool} {P O : List (List Int)} {k : Nat} {l0 y0 z0 : Int} (h : P[k]? = some [l0, y0, z0]) (l x : Int) :
    D2 N P O (k + 1) l x ↔ ((x = y0 ∧ l = l0 ∧ N z0 = true) ∨ (x = z0 ∧ l = l0 ∧ N y0 = true)) ∨ D2 N P O k l x := by
  constructor
  · rintro (h1 | ⟨j, y, hj, e⟩)
    · exact .inr (.inl h1)
    · by_cases ej : j = k
      · subst ej
        rw [h] at e
        simp at e
        rcases e with ⟨⟨rfl, rfl, rfl⟩, hn⟩ | ⟨⟨rfl, rfl, rfl⟩, hn⟩
        · exact .inl (.inl ⟨rfl, rfl, hn⟩)
        · exact .inl (.inr ⟨rfl, rfl, hn⟩)
      · exact .inr (.inr ⟨j, y, by omega, e⟩)
  · rintro ((⟨rfl, rfl, hn⟩ | ⟨rfl, rfl, hn⟩) | h1 | ⟨j, y, hj, e⟩)
    · exact .inr ⟨k, z0, by omega, .inl ⟨h, hn⟩⟩
    · exact .inr ⟨k, y0, by omega, .inr ⟨h, hn⟩⟩
    · exact .inl h1
    · exact .inr ⟨j, y, by omega, e⟩
theorem D2_end {N : Int → Bool} {P O : List (List Int)} : tabF (D2 N P O P.length) = tabF (DirB N P O) := by
  funext x l
  refine bP_congr ⟨fun h => ?_, fun h => ?_⟩
  · rcases h with h | ⟨j, y, hj, ⟨e, hn⟩ | ⟨e, hn⟩⟩
    · exact .inl h
    · exact .inr (.inl ⟨y, List.mem_of_getElem? e, hn⟩)
    · exact .inr (.inr ⟨y, List.mem_of_getElem? e, hn⟩)
  · rcases h with h | ⟨y, h, hn⟩ | ⟨y, h, hn⟩
    · exact .inl h
    · obtain ⟨j, e⟩ := List.mem_iff_getElem?.1 h
      exact .inr ⟨j, y, (List.getElem?_eq_some_iff.1 e).1, .inl ⟨e, hn⟩⟩
    · obtain ⟨j, e⟩ := List.mem_iff_getElem?.1 h
      exact .inr ⟨j, y, (List.getElem?_eq_some_iff.1 e).1, .inr ⟨e, hn⟩⟩

/-- Symbols of a good binary grammar have a row in the table. -/
theorem sym_row {n t x : Int} (h : symB n t x = true) (hn : n ≤ 40) (ht : t ≤ 4) : ∃ m : Nat, m < 44 ∧ 4 + x = (m : Int) := by
  have h := of_decide_eq_true h
  exact ⟨(4 + x).toNat, by omega, by omega⟩
theorem non_row {n x : Int} (h : nonB n x = true) (hn : n ≤ 40) : ∃ m : Nat, m < 40 ∧ x = (m : Int) := by
  have h := nonB_is h
  exact ⟨x.toNat, by omega, by omega⟩
theorem good_one {s : Bs} (h : GoodBs s) {k : Nat} {r : List Int} (hr : s.O[k]? = some r) : ∃ l x, r = [l, x] ∧ nonB s.n l = true ∧ symB s.n s.t x = true := by
  have hk := (List.getElem?_eq_some_iff.1 hr).1
  obtain ⟨l, x, e⟩ := len_two (h.2.2.2.1.1 k r hk hr)
  subst e
  have h2 := h.2.2.2.1.2.1 k _ hk hr
  exact ⟨l, x, rfl, h2.1, by have := h2.2; simpa [symsB] using this⟩
theorem good_pair {s : Bs} (h : GoodBs s) {k : Nat} {r : List Int} (hr : s.P[k]? = some r) : ∃ l y z, r = [l, y, z] ∧ nonB s.n l = true ∧ symB s.n s.t y = true ∧ symB s.n s.t z = true := by
  have hk := (List.getElem?_eq_some_iff.1 hr).1
  obtain ⟨l, y, z, e⟩ := len_three (h.2.2.1.1 k r hk hr)
  subst e
  have h2 := h.2.2.1.2.1 k _ hk hr
  have h3 : symB s.n s.t y = true ∧ symB s.n s.t z = true := by have := h2.2; simpa [symsB] using this
  exact ⟨l, y, z, rfl, h2.1, h3.1, h3.2⟩

end Go.Proofs.YtfbpcdmpkbjifaaDoor

/- The program's directRows. -/

namespace Go.Proofs.YtfbpcdmpkbjifaaDoor
open Go.RowKit

theorem ints_three_lt {w : World} {B : Nat} {A : Option Addr} {a b c : Int} (h : Ints w B A [a, b, c]) : ∃ p o, A = some ⟨p, o, none⟩ ∧ p < B ∧ w.cell? ⟨p, o, none⟩ = some (.int .i64 a) ∧ w.cell? ⟨p, o + 1, none⟩ = some (.int .i64 b) ∧ w.cell? ⟨p, o + 2, none⟩ = some (.int .i64 c) := by
  obtain ⟨p, o, e, hp, hc⟩ := h (by simp)
  exact ⟨p, o, e, hp, hc 0 a rfl, hc 1 b rfl, hc 2 c rfl⟩
/-- What a pair adds by its second symbol, and then by its first. -/
def E1 (D : Int → Int → Prop) (ny : Bool) (z l0 : Int) : Int → Int → Prop := fun l x => (x = z ∧ l = l0 ∧ ny = true) ∨ D l x
theorem E1_true {D : Int → Int → Prop} {z l0 : Int} (l x : Int) : E1 D true z l0 l x ↔ (x = z ∧ l = l0) ∨ D l x := by simp [E1]
theorem E1_false {D : Int → Int → Prop} {z l0 : Int} : tabF (E1 D false z l0) = tabF D := by funext x l; exact bP_congr (by simp [E1])
theorem E2_is {N : Int → Bool} {P O : List (List Int)} {k : Nat} {l0 y0 z0 : Int} (h : P[k]? = some [l0, y0, z0]) : tabF (E1 (E1 (D2 N P O k) (N y0) z0 l0) (N z0) y0 l0) = tabF (D2 N P O (k + 1)) := by
  funext x l
  refine bP_congr ?_
  rw [D2_step h]
  unfold E1
  constructor
  · rintro (h | h | h)
    · exact .inl (.inl h)
    · exact .inl (.inr h)
    · exact .inr h
  · rintro ((h | h) | h)
    · exact .inl h
    · exact .inr (.inl h)
    · exact .inr (.inr h)

/-- The table of a good binary grammar. -/
def GaveTab (w : World) (s : Bs) (e : Ending) (w' : World) : Prop :=
  ∃ N, e = .returned (.agg (tabA (tabF (DirB N s.P s.O)))) ∧ IsLeast wayNull noS (bRules s.P s.O s.E) N ∧ Below w.heap.size w w'

set_option maxRecDepth 20000 in
set_option maxHeartbeats 2000000 in
theorem directRows_any (b : Bi) (w : World) (hx : ReadB w w.heap.size b) (hm : LenB 1048576 b) (ht : b.P.length + b.O.length + b.E.length ≤ 1048576) (hf : FitB b.say) (hg : GoodBs b.say) :
    Calls Tryd.prog 128 #[(.agg #[.int .i64 b.n, .int .i64 b.t, .slice b.Ap b.P.length b.cp, .slice b.Ao b.O.length b.co, .slice b.Ae b.E.length b.ce, .slice b.Af b.F.length b.cf])] w (GaveTab w b.say) := by
  have HX := Lib.hid hx; clear hx
  have HM := Lib.hid hm
  have HG := Lib.hid hg
  have HF := Lib.hid hf
  have HZ := Lib.hid info_tab
  have HS := Lib.hid size_tab
  have HSM := Lib.hid (smallB hg ht hf)
  have hP := hm.p
  have hO := hm.o
  clear hm hg ht hf
  have HBA : Hid (Below w.heap.size w (((w.alloc (.cells #[.int .i64 b.n, .int .i64 b.t, .slice b.Ap b.P.length b.cp, .slice b.Ao b.O.length b.co, .slice b.Ae b.E.length b.ce, .slice b.Af b.F.length b.cf] 55)).alloc (.cells (tabA fun _ _ => false) 152)).alloc (.cells (tabA fun _ _ => false) 152))) := by show Below _ _ _; go_grown
  have B0 : Hid (Box6 (((w.alloc (.cells #[.int .i64 b.n, .int .i64 b.t, .slice b.Ap b.P.length b.cp, .slice b.Ao b.O.length b.co, .slice b.Ae b.E.length b.ce, .slice b.Af b.F.length b.cf] 55)).alloc (.cells (tabA fun _ _ => false) 152)).alloc (.cells (tabA fun _ _ => false) 152)) w.heap.size b) := (((Box6.new w b 55).keep ((Below.refl _ _).alloc (Nat.le_refl _) _) (by simp)).keep ((Below.refl _ _).alloc (Nat.le_refl _) _) (by simp; omega))
  have R0 : Hid (Row (((w.alloc (.cells #[.int .i64 b.n, .int .i64 b.t, .slice b.Ap b.P.length b.cp, .slice b.Ao b.O.length b.co, .slice b.Ae b.E.length b.ce, .slice b.Af b.F.length b.cf] 55)).alloc (.cells (tabA fun _ _ => false) 152)).alloc (.cells (tabA fun _ _ => false) 152)) (w.heap.size + 1) 152 (tabA fun _ _ => false)) := by
    have h := Row.new (w.alloc (.cells #[.int .i64 b.n, .int .i64 b.t, .slice b.Ap b.P.length b.cp, .slice b.Ao b.O.length b.co, .slice b.Ae b.E.length b.ce, .slice b.Af b.F.length b.cf] 55)) 152 (tabA fun _ _ => false)
    rw [World.size_alloc] at h
    exact h.alloc _
  have R1 : Hid (Row (((w.alloc (.cells #[.int .i64 b.n, .int .i64 b.t, .slice b.Ap b.P.length b.cp, .slice b.Ao b.O.length b.co, .slice b.Ae b.E.length b.ce, .slice b.Af b.F.length b.cf] 55)).alloc (.cells (tabA fun _ _ => false) 152)).alloc (.cells (tabA fun _ _ => false) 152)) (w.heap.size + 2) 152 (tabA (tabF (D1 b.say.O 0)))) := by
    have h := Row.new ((w.alloc (.cells #[.int .i64 b.n, .int .i64 b.t, .slice b.Ap b.P.length b.cp, .slice b.Ao b.O.length b.co, .slice b.Ae b.E.length b.ce, .slice b.Af b.F.length b.cf] 55)).alloc (.cells (tabA fun _ _ => false) 152)) 152 (tabA fun _ _ => false)
    rw [World.size_alloc, World.size_alloc] at h
    rw [show tabF (D1 b.say.O 0) = fun _ _ => false from funext fun x => funext fun l => bP_f fun ⟨j, hj, _⟩ => by omega]
    exact h
  have hz3 : w.heap.size + 3 = (((w.alloc (.cells #[.int .i64 b.n, .int .i64 b.t, .slice b.Ap b.P.length b.cp, .slice b.Ao b.O.length b.co, .slice b.Ae b.E.length b.ce, .slice b.Af b.F.length b.cf] 55)).alloc (.cells (tabA fun _ _ => false) 152)).alloc (.cells (tabA fun _ _ => false) 152)).heap.size := by simp
  go_enter Tryd.func128, Tryd.ntmps128
  go_wp2_with (first
    | with_reducible refine wpList_boxA rfl 55 (.tmp 0) rfl #[.int .i64 b.n, .int .i64 b.t, .slice b.Ap b.P.length b.cp, .slice b.Ao b.O.length b.co, .slice b.Ae b.E.length b.ce, .slice b.Af b.F.length b.cf] rfl ?_
    | with_reducible refine wpList_allocA rfl 152 rfl (tabA fun _ _ => false) 1760 HZ.out ?_)
  generalize (((w.alloc (.cells #[.int .i64 b.n, .int .i64 b.t, .slice b.Ap b.P.length b.cp, .slice b.Ao b.O.length b.co, .slice b.Ae b.E.length b.ce, .slice b.Af b.F.length b.cf] 55)).alloc (.cells (tabA fun _ _ => false) 152)).alloc (.cells (tabA fun _ _ => false) 152)) = W at HBA B0 R0 R1 hz3 ⊢
  refine (binaryRules_any b w.heap.size W HBA.out.size (HX.out.keep HBA.out) HM.out (goodB_long HG.out)).mono ?_
  rintro e w2 ⟨v2, rs2, rfl, hO2, hD2, hB2⟩
  have hsz1 := HBA.out.size
  obtain ⟨A2, c2, rfl, hcap2, hRl⟩ := rls_of hD2 rfl hO2 (hB2.mono hsz1) (Nat.le_trans hsz1 hB2.size)
  have HRl := Lib.hid hRl
  have HSY := Lib.hid hD2.say
  have HB2 := Lib.hid hB2
  clear hO2 hD2 hB2 hRl
  go_wp2_with fail
  refine (nullB_any A2 c2 rs2 w2 HRl.out (by rw [HSY.out]; exact HSM.out)).mono ?_
  rintro e w3 ⟨q, N, rfl, hq, hS, hI, hB3⟩
  have HSN := Lib.hid hS
  have HI : Hid (IsLeast wayNull noS (bRules b.say.P b.say.O b.say.E) N) := by rw [HSY.out] at hI; exact hI
  have hq3 : w.heap.size + 3 ≤ q := by have := HB2.out.size; omega
  have HBW : Hid (Below W.heap.size W w3) := HB2.out.trans (hB3.mono HB2.out.size)
  have HB3 := Lib.hid (HBA.out.trans (HBW.out.mono hsz1))
  have B3 := Lib.hid (B0.out.keep HBW.out (by omega))
  have R03 := Lib.hid (R0.out.below HBW.out R0.out.lt)
  have R13 := Lib.hid (R1.out.below HBW.out R1.out.lt)
  clear hS hI hB3 HSY HRl HB2 B0 R0 R1 HBA HSM hcap2
  obtain ⟨_, _, _, b2, b3, _, _⟩ := B3.out
  have hw3 : w.heap.size + 3 ≤ w3.heap.size := by have := HBW.out.size; omega
  clear HBW
  go_wp2
  clear b2 b3
  go_loopw [15] (fun i wr => ∃ (k : Nat), k ≤ b.O.length ∧ i = .int .i64 k ∧ Hid (Save (· = w.heap.size + 2) w3 wr) ∧ Hid (Row wr (w.heap.size + 2) 152 (tabA (tabF (D1 b.say.O k))))) (fun i _ => b.O.length - (intOf i).toNat)
  case atStart => exact ⟨0, by omega, rfl, Save.refl _ _, R13.out⟩
  case round =>
    clear R13
    obtain ⟨k, hk, rfl, HV, HR⟩ := hrel
    by_cases hlt : k < b.O.length
    · have HBR : Hid (Below w.heap.size w wr) := HB3.out.trans (HV.out.below HB3.out.size fun i hi => by omega)
      have HBD : Hid (Below w.heap.size w wr.drew) := HBR.out.drew
      have HVD : Hid (Save (· = w.heap.size + 2) w3 wr.drew) := HV.out.drew
      have HRD : Hid (Row wr.drew (w.heap.size + 2) 152 (tabA (tabF (D1 b.say.O k)))) := HR.out
      obtain ⟨bb, oo, eA, hbb, d1, _, hI⟩ := (HX.out.2.1.keep HBR.out).at_ hlt
      have hsay : b.say.O[k]? = some b.O[k].r := sayL_at hlt
      obtain ⟨l, x, er, hnl, hsx⟩ := good_one HG.out hsay
      rw [er] at hI hsay d1
      clear er
      obtain ⟨pp, po, ea, c0, c1⟩ := ints_two hI
      rw [ea] at d1
      rw [eA]
      clear hI ea eA
      obtain ⟨m, hm, hme⟩ := sym_row hsx HG.out.1.2 HG.out.2.1.2
      obtain ⟨j, hj, rfl⟩ := non_row hnl HG.out.1.2
      have hj2 : (j : Int) < 40 := by omega
      have HST := Lib.hid (tabF_set (D1_step hsay))
      generalize b.O[k].c = uc at d1
      clear hnl hsx hsay
      have hxm : x = (m : Int) - 4 := by omega
      have c2 := HR.out.cell (m * 40 + j)
      rw [tabA_at _ hm hj] at c2
      have f2 := HR.out.frozen (m * 40 + j)
      have HR' : Hid (Row (wr.drew.setCell ⟨w.heap.size + 2, m * 40 + j, none⟩ (.bool true)) (w.heap.size + 2) 152 (tabA (tabF (D1 b.say.O (k + 1))))) := by
        have h := HRD.out.set (m * 40 + j) (.bool true)
        rw [tabA_set _ hm hj, ← hxm, HST.out] at h
        exact h
      have HV' : Hid (Save (· = w.heap.size + 2) w3 (wr.drew.setCell ⟨w.heap.size + 2, m * 40 + j, none⟩ (.bool true))) := HVD.out.setCell rfl _
      have HC := Lib.hid (of_any (w.heap.size + 2) m x wr.drew hm hme)
      clear HRD HVD HST hxm HBR HBD HR HV
      go_wp2_with fail
      refine wp_region_still_tail 9 (by kernel_rfl) (by kernel_rfl) ?_
      simp only [List.take_succ_cons, List.take_zero, List.drop_succ_cons, List.drop_zero]
      repeat still_step
      still_call HC.out
      repeat still_step
      refine wpStill_nil ?_
      change wpList _ _ _ _ _ wr.drew
      go_wp2
      go_roundw
      case rel => exact ⟨k + 1, by omega, by go_num, HV'.out, HR'.out⟩
      case measure => simp [intOf]; omega
    · obtain rfl : k = b.O.length := by omega
      have HBR : Hid (Below w.heap.size w wr) := HB3.out.trans (HV.out.below HB3.out.size fun i hi => by omega)
      have B4 : Hid (Box6 wr w.heap.size b) := B3.out.keep (B := w.heap.size + 1) (HV.out.below (by omega) fun i hi => by omega) (Nat.lt_succ_self _)
      have R1 : Hid (Row wr (w.heap.size + 2) 152 (tabA (tabF (D2 N b.say.P b.say.O 0)))) := by
        have h := HR.out
        rw [show b.O.length = b.say.O.length from sayL_len.symm, D2_zero (N := N) (P := b.say.P)] at h
        exact h
      obtain ⟨_, _, _, b2, b3, _, _⟩ := B4.out
      clear HR HBR
      obtain ⟨wA, hwA⟩ : ∃ x, x = wr := ⟨_, rfl⟩
      subst hwA
      go_wp2
      clear b2 b3
      go_loopw [32] (fun i wr => ∃ (k : Nat), k ≤ b.P.length ∧ i = .int .i64 k ∧ Hid (Save (· = w.heap.size + 2) w3 wr) ∧ Hid (Row wr (w.heap.size + 2) 152 (tabA (tabF (D2 N b.say.P b.say.O k))))) (fun i _ => b.P.length - (intOf i).toNat)
      case atStart => exact ⟨0, by omega, rfl, HV.out, R1.out⟩
      case round =>
        clear R1 HV B4
        obtain ⟨k, hk, rfl, HV, HR⟩ := hrel
        by_cases hlt : k < b.P.length
        · have HBR : Hid (Below w.heap.size w wr) := HB3.out.trans (HV.out.below HB3.out.size fun i hi => by omega)
          obtain ⟨bb, oo, eA, hbb, d1, _, hI⟩ := (HX.out.1.keep HBR.out).at_ hlt
          have hsay : b.say.P[k]? = some b.P[k].r := sayL_at hlt
          obtain ⟨l, y, z, er, hnl, hsy, hsz⟩ := good_pair HG.out hsay
          have hf2 := HF.out.1 _ (List.mem_of_getElem? hsay)
          rw [er] at hI hsay d1 hf2
          clear er
          have hfy := hf2 y (by simp)
          have hfz := hf2 z (by simp)
          obtain ⟨pp, po, ea, hpp, c0, c1, c2⟩ := ints_three_lt hI
          rw [ea] at d1
          rw [eA]
          clear hI ea eA hf2
          obtain ⟨my, hmy, hmye⟩ := sym_row hsy HG.out.1.2 HG.out.2.1.2
          obtain ⟨mz, hmz, hmze⟩ := sym_row hsz HG.out.1.2 HG.out.2.1.2
          obtain ⟨j, hj, rfl⟩ := non_row hnl HG.out.1.2
          have hj2 : (j : Int) < 40 := by omega
          have HST := Lib.hid (E2_is (N := N) (O := b.say.O) hsay)
          generalize b.P[k].c = uc at d1
          clear hnl hsy hsz hsay HBR
          have hl1 := (HSN.out.save HV.out (by omega)).look hfy
          generalize N y = ny at HST hl1
          cases ny
          · have hl2 := (HSN.out.save HV.out (by omega)).look hfz
            generalize N z = nz at HST hl2
            cases nz
            · have HR' : Hid (Row wr (w.heap.size + 2) 152 (tabA (tabF (D2 N b.say.P b.say.O (k + 1))))) := by rw [← HST.out, E1_false, E1_false]; exact HR.out
              go_wp2
              go_roundw
              case rel => exact ⟨k + 1, by omega, by go_num, HV.out, HR'.out⟩
              case measure => simp [intOf]; omega
            · go_wp2_with fail
              have q9 := HR.out.cell (my * 40 + j)
              rw [tabA_at _ hmy hj] at q9
              have f9 := HR.out.frozen (my * 40 + j)
              have hxm : y = (my : Int) - 4 := by omega
              have HR1 : Hid (Row (wr.drew.setCell ⟨w.heap.size + 2, my * 40 + j, none⟩ (.bool true)) (w.heap.size + 2) 152 (tabA (tabF (E1 (D2 N b.say.P b.say.O k) true y j)))) := by
                have h := HR.out.set (my * 40 + j) (.bool true)
                rw [tabA_set _ hmy hj, ← hxm, tabF_set (fun l x => E1_true l x)] at h
                exact h
              have HV1 : Hid (Save (· = w.heap.size + 2) w3 (wr.drew.setCell ⟨w.heap.size + 2, my * 40 + j, none⟩ (.bool true))) := HV.out.drew.setCell rfl _
              have HC := Lib.hid (of_any (w.heap.size + 2) my y wr.drew hmy hmye)
              have hB1 : Below w.heap.size wr (wr.drew.setCell ⟨w.heap.size + 2, my * 40 + j, none⟩ (.bool true)) := ((Below.refl _ _).drew).setCell (by simp) _
              have g0 := (hB1.cell (p := ⟨pp, po, none⟩) hpp).trans c0
              have g1 := (hB1.cell (p := ⟨pp, po + 1, none⟩) hpp).trans c1
              have g2 := (hB1.cell (p := ⟨pp, po + 2, none⟩) hpp).trans c2
              clear HR HV hxm hB1
              refine wp_region_still_tail 9 (by kernel_rfl) (by kernel_rfl) ?_
              simp only [List.take_succ_cons, List.take_zero, List.drop_succ_cons, List.drop_zero]
              repeat still_step
              still_call HC.out
              repeat still_step
              refine wpStill_nil ?_
              change wpList _ _ _ _ _ wr.drew
              clear HC
              have HR' : Hid (Row (wr.drew.setCell ⟨w.heap.size + 2, my * 40 + j, none⟩ (.bool true)) (w.heap.size + 2) 152 (tabA (tabF (D2 N b.say.P b.say.O (k + 1))))) := by
                rw [← HST.out, show tabF (E1 (E1 (D2 N b.say.P b.say.O k) false z j) true y j) = tabF (E1 (D2 N b.say.P b.say.O k) true y j) from by funext x l; exact bP_congr (by simp [E1])]
                exact HR1.out
              go_wp2
              go_roundw
              case rel => exact ⟨k + 1, by omega, by go_num, HV1.out, HR'.out⟩
              case measure => simp [intOf]; omega
          · go_wp2_with fail
            have q9 := HR.out.cell (mz * 40 + j)
            rw [tabA_at _ hmz hj] at q9
            have f9 := HR.out.frozen (mz * 40 + j)
            have hxm : z = (mz : Int) - 4 := by omega
            have HR1 : Hid (Row (wr.drew.setCell ⟨w.heap.size + 2, mz * 40 + j, none⟩ (.bool true)) (w.heap.size + 2) 152 (tabA (tabF (E1 (D2 N b.say.P b.say.O k) true z j)))) := by
              have h := HR.out.set (mz * 40 + j) (.bool true)
              rw [tabA_set _ hmz hj, ← hxm, tabF_set (fun l x => E1_true l x)] at h
              exact h
            have HV1 : Hid (Save (· = w.heap.size + 2) w3 (wr.drew.setCell ⟨w.heap.size + 2, mz * 40 + j, none⟩ (.bool true))) := HV.out.drew.setCell rfl _
            have HC := Lib.hid (of_any (w.heap.size + 2) mz z wr.drew hmz hmze)
            have hB1 : Below w.heap.size wr (wr.drew.setCell ⟨w.heap.size + 2, mz * 40 + j, none⟩ (.bool true)) := ((Below.refl _ _).drew).setCell (by simp) _
            have g0 := (hB1.cell (p := ⟨pp, po, none⟩) hpp).trans c0
            have g1 := (hB1.cell (p := ⟨pp, po + 1, none⟩) hpp).trans c1
            have g2 := (hB1.cell (p := ⟨pp, po + 2, none⟩) hpp).trans c2
            clear HR HV hxm hB1
            refine wp_region_still_tail 9 (by kernel_rfl) (by kernel_rfl) ?_
            simp only [List.take_succ_cons, List.take_zero, List.drop_succ_cons, List.drop_zero]
            repeat still_step
            still_call HC.out
            repeat still_step
            refine wpStill_nil ?_
            change wpList _ _ _ _ _ wr.drew
            clear HC
            have hl2 := (HSN.out.save HV1.out (by omega)).look hfz
            refine wpList_ranS (w' := wr.drew.setCell ⟨w.heap.size + 2, mz * 40 + j, none⟩ (.bool true)) rfl (by go_simp) ?_
            generalize (wr.drew.setCell ⟨w.heap.size + 2, mz * 40 + j, none⟩ (.bool true)) = W1 at *
            clear c0 c1 c2
            refine wpList_nil ?_
            generalize N z = nz at HST hl2
            cases nz
            · have HR' : Hid (Row W1 (w.heap.size + 2) 152 (tabA (tabF (D2 N b.say.P b.say.O (k + 1))))) := by rw [← HST.out, E1_false]; exact HR1.out
              go_wp2
              go_roundw
              case rel => exact ⟨k + 1, by omega, by go_num, HV1.out, HR'.out⟩
              case measure => simp [intOf]; omega
            · go_wp2_with fail
              have HR := HR1
              have HV := HV1
              clear HR1 HV1 q9 f9
              have q9 := HR.out.cell (my * 40 + j)
              rw [tabA_at _ hmy hj] at q9
              have f9 := HR.out.frozen (my * 40 + j)
              have hxm : y = (my : Int) - 4 := by omega
              have HR1 : Hid (Row (W1.drew.setCell ⟨w.heap.size + 2, my * 40 + j, none⟩ (.bool true)) (w.heap.size + 2) 152 (tabA (tabF (E1 (E1 (D2 N b.say.P b.say.O k) true z j) true y j)))) := by
                have h := HR.out.set (my * 40 + j) (.bool true)
                rw [tabA_set _ hmy hj, ← hxm, tabF_set (fun l x => E1_true l x)] at h
                exact h
              have HV1 : Hid (Save (· = w.heap.size + 2) w3 (W1.drew.setCell ⟨w.heap.size + 2, my * 40 + j, none⟩ (.bool true))) := HV.out.drew.setCell rfl _
              have HC := Lib.hid (of_any (w.heap.size + 2) my y W1.drew hmy hmye)
              clear HR HV hxm
              refine wp_region_still_tail 9 (by kernel_rfl) (by kernel_rfl) ?_
              simp only [List.take_succ_cons, List.take_zero, List.drop_succ_cons, List.drop_zero]
              repeat still_step
              still_call HC.out
              repeat still_step
              refine wpStill_nil ?_
              change wpList _ _ _ _ _ W1.drew
              clear HC
              rw [HST.out] at HR1
              go_wp2
              go_roundw
              case rel => exact ⟨k + 1, by omega, by go_num, HV1.out, HR1.out⟩
              case measure => simp [intOf]; omega
        · obtain rfl : k = b.P.length := by omega
          have HRE : Hid (Row wr (w.heap.size + 2) 152 (tabA (tabF (DirB N b.say.P b.say.O)))) := by
            have h := HR.out
            rw [show b.P.length = b.say.P.length from sayL_len.symm, D2_end] at h
            exact h
          have HR0 : Hid (Row wr (w.heap.size + 1) 152 (tabA fun _ _ => false)) := R03.out.save HV.out (by omega)
          have HBR : Hid (Below w.heap.size w wr) := HB3.out.trans (HV.out.below HB3.out.size fun i hi => by omega)
          generalize hT : tabF (DirB N b.say.P b.say.O) = T at HRE
          have HR2 := Lib.hid (HR0.out.setRow (tabA T))
          have HB2 := Lib.hid (below_setRow HBR.out (Nat.le_succ w.heap.size) (tabA T))
          have HCC : Hid (∀ (j : Nat) (v : Value), (tabA T)[j]? = some v → wr.cell? ⟨w.heap.size + 2, 0 + j, none⟩ = some v) := fun j v hv => by rw [Nat.zero_add, HRE.out.cell]; exact hv
          clear HR
          go_wp2_with (first
            | with_reducible refine wpList_loadA rfl 152 (.tmp 3) rfl (w.heap.size + 2) 0 rfl (tabA T) 44 150 Tryd.underlying152 (HS.out _) HCC.out ?_
            | with_reducible refine wpList_storeA rfl 152 (.tmp 2) (.tmp 65) rfl (w.heap.size + 1) (tabA T) rfl rfl 152 (tabA fun _ _ => false) HR0.out (HS.out _) (by rw [tabA_size, tabA_size]) (tabA_all _) ?_)
          refine bodyPost_ret (v := .agg (tabA T)) ?_ rfl ⟨N, by rw [← hT], HI.out, HB2.out⟩
          exact results_cell_row Tryd.results128 _ _ (w.heap.size + 1) 152 (tabA T) (0, 0) _ rfl HR2.out Tryd.underlying152 rfl (HS.out _)

end Go.Proofs.YtfbpcdmpkbjifaaDoor

/- The program's unitRow, UnitRow, ClosedSet. -/

namespace Go.Proofs.YtfbpcdmpkbjifaaDoor
open Go.RowKit

/-- S is all that stands for one of what a base gives, in a binary grammar. -/
def PUp (s : Bs) (base : (Int → Int → Prop) → Int → Bool) (S : Int → Bool) : Prop := ∃ N, IsLeast wayNull noS (bRules s.P s.O s.E) N ∧ IsUp (DirB N s.P s.O) (base (DirB N s.P s.O)) S
theorem PUp.unique {s : Bs} {base : (Int → Int → Prop) → Int → Bool} {S T : Int → Bool} (h : PUp s base S) (k : PUp s base T) : S = T := by
  obtain ⟨N, h1, h2⟩ := h
  obtain ⟨M, k1, k2⟩ := k
  have e := h1.unique k1
  subst e
  exact h2.unique k2

theorem DT6_tab (D : Int → Int → Prop) : DT6 (tabF D) = D := by
  funext l x
  exact propext ⟨bP_is, bP_t⟩
theorem dirB_fit {s : Bs} (h : GoodBs s) (N : Int → Bool) (x : Int) : Fit40 (tabF (DirB N s.P s.O) x) := fun l hl => by
  have hl : DirB N s.P s.O l x := bP_is hl
  have hn := h.1.2
  rcases hl with h1 | ⟨y, h1, _⟩ | ⟨y, h1, _⟩
  · obtain ⟨k, e⟩ := List.mem_iff_getElem?.1 h1
    obtain ⟨l', x', e', h2, _⟩ := good_one h e
    injection e' with e1 _
    subst e1
    have := nonB_is h2
    omega
  all_goals
    obtain ⟨k, e⟩ := List.mem_iff_getElem?.1 h1
    obtain ⟨l', y', z', e', h2, _⟩ := good_pair h e
    injection e' with e1 _
    subst e1
    have := nonB_is h2
    omega

theorem ints_oneU (w : World) (x : Int) (B : Nat) (hB : w.heap.size < B) : Ints (w.alloc (.cells #[.int .i64 x] 3)) B (some ⟨w.heap.size, 0, none⟩) [x] := fun _ => ⟨w.heap.size, 0, rfl, hB, fun k y hy => by
  rcases k with _ | k
  · simp at hy
    subst hy
    simp [go_sem]
  · simp at hy⟩

set_option maxRecDepth 20000 in
set_option maxHeartbeats 1000000 in
theorem unitRow_any (K : Nat) (D : Int → Int → Prop) (m : Nat) (x : Int) (w : World) (hT : TabC w K (tabF D)) (hfT : ∀ x, Fit40 (tabF D x)) (hm : m < 44) (hmx : 4 + x = (m : Int)) :
    Calls Tryd.prog 130 #[.pointer (some ⟨K, 0, none⟩), .int .i64 x] w fun e w' => ∃ S, e = .returned (.agg (rowA S)) ∧ Fit40 S ∧ IsUp D (rowOf D x) S ∧ Below w.heap.size w w' := by
  have HZ := Lib.hid info_row
  have HS := Lib.hid size_row
  have HT := Lib.hid hT; clear hT
  have HFT := Lib.hid hfT; clear hfT
  have HB0 : Hid (Below w.heap.size w (w.alloc (.cells (rowA noS) 150))) := by show Below _ _ _; go_grown
  have HR0 : Hid (Row (w.alloc (.cells (rowA noS) 150)) w.heap.size 150 (rowA noS)) := Row.new _ _ _
  go_enter Tryd.func130, Tryd.ntmps130
  by_cases hneg : x < 0
  · have HE : Hid (tabF D x = rowOf D x) := by
      show _ = _
      funext l
      exact bP_congr (by rw [if_pos hneg])
    go_wp2_with (with_reducible refine wpList_allocA rfl 150 rfl (rowA noS) 40 HZ.out ?_)
    generalize w.alloc (.cells (rowA noS) 150) = W at HB0 HR0 ⊢
    refine (of_any K m x W hm hmx).mono ?_
    rintro e w1 ⟨rfl, rfl⟩
    have HTC : Hid (∀ (j : Nat) (v : Value), (rowA (tabF D x))[j]? = some v → w1.cell? ⟨K, m * 40 + j, none⟩ = some v) := (HT.out.keep HB0.out HT.out.1).2 m x hm hmx
    go_wp2_with (first
      | with_reducible refine wpList_loadA rfl 150 (.tmp 11) rfl K (m * 40) rfl (rowA (tabF D x)) 40 4 Tryd.underlying150 (HS.out _) HTC.out ?_)
    refine (closed_any K (tabF D) (tabF D x) w1 (HT.out.keep HB0.out HT.out.1) HFT.out (HFT.out x)).mono ?_
    rintro e w2 ⟨S, rfl, hfS, hU, hB2⟩
    rw [DT6_tab, HE.out] at hU
    have hs := HB0.out.size
    have HR2 := Lib.hid (HR0.out.below hB2 HR0.out.lt)
    have HB2 := Lib.hid (HB0.out.trans (hB2.mono hs))
    have HR3 := Lib.hid (HR2.out.setRow (rowA S))
    have HB3 := Lib.hid (below_setRow HB2.out (Nat.le_refl w.heap.size) (rowA S))
    have HU := Lib.hid hU
    have HFS := Lib.hid hfS
    clear hU hB2 HTC hfS
    go_wp2_with (first
      | with_reducible refine wpList_storeA rfl 150 (.tmp 4) (.tmp 13) rfl w.heap.size (rowA S) rfl rfl 150 (rowA noS) HR2.out (HS.out _) (by rw [rowA_size, rowA_size]) (rowA_all _) ?_)
    refine bodyPost_ret (v := .agg (rowA S)) ?_ rfl ⟨S, rfl, HFS.out, HU.out, HB3.out⟩
    exact results_cell_row Tryd.results130 _ _ w.heap.size 150 (rowA S) (0, 0) _ rfl HR3.out Tryd.underlying150 rfl (HS.out _)
  · have HE : Hid ((fun y => [x].contains y) = rowOf D x) := by
      show _ = _
      funext l
      unfold rowOf
      rw [if_neg hneg]
      cases hb : bP (l = x)
      · have := bP_no hb
        simp [this]
      · have := bP_is hb
        simp [this]
    have HBI : Hid (Below w.heap.size w ((w.alloc (.cells (rowA noS) 150)).alloc (.cells #[.int .i64 x] 3))) := by show Below _ _ _; go_grown
    have HRI : Hid (Row ((w.alloc (.cells (rowA noS) 150)).alloc (.cells #[.int .i64 x] 3)) w.heap.size 150 (rowA noS)) := HR0.out.alloc _
    have HII : Hid (Ints ((w.alloc (.cells (rowA noS) 150)).alloc (.cells #[.int .i64 x] 3)) ((w.alloc (.cells (rowA noS) 150)).alloc (.cells #[.int .i64 x] 3)).heap.size (some ⟨w.heap.size + 1, 0, none⟩) [x]) := by
      have h := ints_oneU (w.alloc (.cells (rowA noS) 150)) x ((w.alloc (.cells (rowA noS) 150)).alloc (.cells #[.int .i64 x] 3)).heap.size (by simp)
      simp only [World.size_alloc] at h ⊢
      exact h
    go_wp2_with (with_reducible refine wpList_allocA rfl 150 rfl (rowA noS) 40 HZ.out ?_)
    generalize (w.alloc (.cells (rowA noS) 150)).alloc (.cells #[.int .i64 x] 3) = W at HBI HRI HII ⊢
    refine (rowWith_any (some ⟨w.heap.size + 1, 0, none⟩) 1 [x] W HII.out (by simp; omega) (by simp)).mono ?_
    rintro e w1 ⟨rfl, hB1⟩
    have hs := HBI.out.size
    have HB1 := Lib.hid (HBI.out.trans (hB1.mono hs))
    have HR1 := Lib.hid (HRI.out.below hB1 HRI.out.lt)
    rw [HE.out]
    clear hB1 HII HB0 HR0
    go_wp2_with fail
    refine (closed_any K (tabF D) (rowOf D x) w1 (HT.out.keep HB1.out HT.out.1) HFT.out (fun l hl => by
      have h := bP_is hl
      rw [if_neg (by omega)] at h
      omega)).mono ?_
    rintro e w2 ⟨S, rfl, hfS, hU, hB2⟩
    rw [DT6_tab] at hU
    have hs1 := HB1.out.size
    have HR2 := Lib.hid (HR1.out.below hB2 HR1.out.lt)
    have HB2 := Lib.hid (HB1.out.trans (hB2.mono hs1))
    have HR3 := Lib.hid (HR2.out.setRow (rowA S))
    have HB3 := Lib.hid (below_setRow HB2.out (Nat.le_refl w.heap.size) (rowA S))
    have HU := Lib.hid hU
    have HFS := Lib.hid hfS
    clear hU hB2 hfS
    go_wp2_with (first
      | with_reducible refine wpList_storeA rfl 150 (.tmp 4) (.tmp 18) rfl w.heap.size (rowA S) rfl rfl 150 (rowA noS) HR2.out (HS.out _) (by rw [rowA_size, rowA_size]) (rowA_all _) ?_)
    refine bodyPost_ret (v := .agg (rowA S)) ?_ rfl ⟨S, rfl, HFS.out, HU.out, HB3.out⟩
    exact results_cell_row Tryd.results130 _ _ w.heap.size 150 (rowA S) (0, 0) _ rfl HR3.out Tryd.underlying150 rfl (HS.out _)

end Go.Proofs.YtfbpcdmpkbjifaaDoor

/- The program's UnitRow and ClosedSet. -/

namespace Go.Proofs.YtfbpcdmpkbjifaaDoor
open Go.RowKit

theorem gaveP_none {w : World} {g : Bool} {P : (Int → Bool) → Prop} {w' : World} (hg : g = false) (hB : Below w.heap.size w w') : GaveP w g P (.returned (.tuple #[.slice none 0 0, .bool false])) w' := by
  subst hg
  exact ⟨[], fun h => (by cases h), fun _ => rfl, by simp, none, 0, rfl, .inl rfl, hB⟩
theorem gaveP_some {w : World} {g : Bool} {P : (Int → Bool) → Prop} {w' : World} {S : Int → Bool} {A : Option Addr} {c : Nat} (hg : g = true) (hS : P S) (hf : Fit40 S) (hO : OwnI w' w.heap.size A (upK S 40)) (hB : Below w.heap.size w w') :
    GaveP w g P (.returned (.tuple #[.slice A (upK S 40).length c, .bool true])) w' := by
  subst hg
  exact ⟨upK S 40, fun _ => ⟨S, hS, upK_rises S 40, fun x => ⟨fun h => ((upK_mem S 40 x).1 h).1, fun h => (upK_mem S 40 x).2 ⟨h, hf x h⟩⟩⟩, fun h => (by cases h), upK_len S 40, A, c, rfl, hO, hB⟩

end Go.Proofs.YtfbpcdmpkbjifaaDoor

/- The program's HasUnitRound. -/

namespace Go.Proofs.YtfbpcdmpkbjifaaDoor
open Go.RowKit

/-- Whether some nonterminal of a binary grammar stands for itself by a step or more. -/
def QRound (s : Bs) (x ok : Bool) : Prop := (GoodBs s → ok = true ∧ ∃ N, IsLeast wayNull noS (bRules s.P s.O s.E) N ∧ (x = true ↔ RoundD (DirB N s.P s.O))) ∧ (¬ GoodBs s → x = false ∧ ok = false)
theorem QRound.unique {s : Bs} {x y a b : Bool} (h : QRound s x a) (k : QRound s y b) : x = y ∧ a = b := by
  by_cases hg : GoodBs s
  · obtain ⟨rfl, N, h1, h2⟩ := h.1 hg
    obtain ⟨rfl, M, k1, k2⟩ := k.1 hg
    have e := h1.unique k1
    subst e
    refine ⟨?_, rfl⟩
    cases x <;> cases y <;> simp_all
  · exact ⟨(h.2 hg).1.trans (k.2 hg).1.symm, (h.2 hg).2.trans (k.2 hg).2.symm⟩

theorem dirB_sym {s : Bs} (h : GoodBs s) {N : Int → Bool} {l x : Int} (hd : DirB N s.P s.O l x) : nonB s.n l = true ∧ symB s.n s.t x = true := by
  rcases hd with h1 | ⟨y, h1, _⟩ | ⟨y, h1, _⟩
  · obtain ⟨k, e⟩ := List.mem_iff_getElem?.1 h1
    obtain ⟨l', x', e', h2, h3⟩ := good_one h e
    simp at e'
    rw [e'.1, e'.2]
    exact ⟨h2, h3⟩
  all_goals
    obtain ⟨k, e⟩ := List.mem_iff_getElem?.1 h1
    obtain ⟨l', y', z', e', h2, h3, h4⟩ := good_pair h e
    simp at e'
    obtain ⟨rfl, rfl, rfl⟩ := e'
    first | exact ⟨h2, h3⟩ | exact ⟨h2, h4⟩

end Go.Proofs.YtfbpcdmpkbjifaaDoor

/- The program's UnitRows. -/

namespace Go.Proofs.YtfbpcdmpkbjifaaDoor
open Go.RowKit

/-- The rows of the first k symbols, from -t on. -/
def RowsTo (D : Int → Int → Prop) (t : Int) (xs : List (List Int)) (k : Nat) : Prop := xs.length = k ∧ ∀ (j : Nat) (r : List Int), xs[j]? = some r → ∃ S, Fit40 S ∧ IsUp D (rowOf D ((j : Int) - t)) S ∧ r = upK S 40
theorem RowsTo.zero (D : Int → Int → Prop) (t : Int) : RowsTo D t [] 0 := ⟨rfl, fun j r h => by simp at h⟩
theorem RowsTo.step {D : Int → Int → Prop} {t : Int} {xs : List (List Int)} {k : Nat} (h : RowsTo D t xs k) {S : Int → Bool} {x : Int} (hx : x = (k : Int) - t) (hf : Fit40 S) (hS : IsUp D (rowOf D x) S) : RowsTo D t (xs ++ [upK S 40]) (k + 1) := by
  refine ⟨by simp [h.1], fun j r hr => ?_⟩
  by_cases e : j < xs.length
  · rw [List.getElem?_append_left e] at hr
    exact h.2 j r hr
  · have hj : j = k := by have := (List.getElem?_eq_some_iff.1 hr).1; simp at this; have := h.1; omega
    subst hj
    rw [List.getElem?_append_right (by omega), show j - xs.length = 0 by have := h.1; omega] at hr
    simp at hr
    exact ⟨S, hf, hx ▸ hS, hr.symm⟩
theorem RowsTo.unique {D : Int → Int → Prop} {t : Int} {xs ys : List (List Int)} {k : Nat} (h : RowsTo D t xs k) (h' : RowsTo D t ys k) : xs = ys := by
  apply List.ext_getElem?
  intro j
  by_cases hj : j < k
  · have h1 := List.getElem?_eq_getElem (l := xs) (i := j) (by have := h.1; omega)
    have h2 := List.getElem?_eq_getElem (l := ys) (i := j) (by have := h'.1; omega)
    obtain ⟨S, _, hS, e⟩ := h.2 j _ h1
    obtain ⟨T, _, hT, e'⟩ := h'.2 j _ h2
    rw [h1, h2, e, e', hS.unique hT]
  · rw [List.getElem?_eq_none (by have := h.1; omega), List.getElem?_eq_none (by have := h'.1; omega)]
theorem RowsTo.short {D : Int → Int → Prop} {t : Int} {xs : List (List Int)} {k : Nat} (h : RowsTo D t xs k) : ∀ r ∈ xs, r.length ≤ 40 := fun r hr => by
  obtain ⟨j, hj⟩ := List.mem_iff_getElem?.1 hr
  obtain ⟨S, _, _, rfl⟩ := h.2 j r hj
  exact upK_len S 40

/-- A new list of lists of which P holds, where g; else none. -/
def GaveLP (w : World) (g : Bool) (P : List (List Int) → Prop) (e : Ending) (w' : World) : Prop :=
  ∃ xs, (g = true → P xs) ∧ (g = false → xs = []) ∧ GaveLB w xs g e w'
theorem gaveLP_none {w : World} {g : Bool} {P : List (List Int) → Prop} {w' : World} (hg : g = false) (hB : Below w.heap.size w w') : GaveLP w g P (.returned (.tuple #[.slice none 0 0, .bool false])) w' := by
  subst hg
  exact ⟨[], fun h => (by cases h), fun _ => rfl, none, 0, [], rfl, Nat.le_refl _, .inl rfl, rfl, hB⟩
theorem gaveLP_some {w : World} {g : Bool} {P : List (List Int) → Prop} {w' : World} {v : Value} {ds : List Li} {lo : Nat} (hg : g = true) (hP : P (sayL ds)) (hL : ListsW w' lo v ds) (hlo : w.heap.size ≤ lo) (hB : Below w.heap.size w w') : GaveLP w g P (.returned (.tuple #[v, .bool true])) w' := by
  subst hg
  obtain ⟨A, c, rfl, hc, hO⟩ := hL.slice
  exact ⟨sayL ds, fun _ => hP, fun h => (by cases h), A, c, ds, rfl, hc, hO.lower hlo, rfl, hB⟩

/-- All unit rows of a binary grammar. -/
def PRows (s : Bs) (xs : List (List Int)) : Prop := ∃ N, IsLeast wayNull noS (bRules s.P s.O s.E) N ∧ RowsTo (DirB N s.P s.O) s.t xs (s.n + s.t).toNat
theorem PRows.unique {s : Bs} {xs ys : List (List Int)} (h : PRows s xs) (k : PRows s ys) : xs = ys := by
  obtain ⟨N, h1, h2⟩ := h
  obtain ⟨M, k1, k2⟩ := k
  have e := h1.unique k1
  subst e
  exact h2.unique k2

end Go.Proofs.YtfbpcdmpkbjifaaDoor

/- The program's UnitPairs. -/

namespace Go.Proofs.YtfbpcdmpkbjifaaDoor
open Go.RowKit

theorem own_newP2 (w : World) (a b : Int) : OwnI (w.alloc (.cells #[.int .i64 a, .int .i64 b] 3)) w.heap.size (some ⟨w.heap.size, 0, none⟩) [a, b] := by
  refine .inr ⟨w.heap.size, _, rfl, Nat.le_refl _, Row.new _ _ _, fun k x hx => ?_⟩
  rcases k with _ | _ | k
  · simpa using hx
  · simpa using hx
  · simp at hx

/-- The pairs that come ahead of a place, rising. -/
def PairsTo (D : Int → Int → Prop) (xs : List (List Int)) (a c : Int) : Prop := RisesL xs ∧ ∀ z, z ∈ xs ↔ ∃ l y, z = [l, y] ∧ D l y ∧ (l < a ∨ (l = a ∧ y < c))
theorem PairsTo.start {D : Int → Int → Prop} {t : Int} (hD : ∀ l y, D l y → 0 ≤ l ∧ -t ≤ y) : PairsTo D [] 0 (-t) := ⟨RisesL.nil, fun z => ⟨fun h => by simp at h, fun ⟨l, y, _, hd, h⟩ => by have := hD l y hd; omega⟩⟩
theorem PairsTo.no {D : Int → Int → Prop} {xs : List (List Int)} {a c : Int} (h : PairsTo D xs a c) (hn : ¬ D a c) : PairsTo D xs a (c + 1) := ⟨h.1, fun z => by
  rw [h.2]
  constructor
  · rintro ⟨l, y, e, hd, hl⟩
    exact ⟨l, y, e, hd, by omega⟩
  · rintro ⟨l, y, e, hd, hl⟩
    refine ⟨l, y, e, hd, ?_⟩
    rcases hl with hl | ⟨rfl, hl⟩
    · exact .inl hl
    · by_cases ey : y = c
      · subst ey; exact absurd hd hn
      · exact .inr ⟨rfl, by omega⟩⟩
theorem PairsTo.yes {D : Int → Int → Prop} {xs : List (List Int)} {a c : Int} (h : PairsTo D xs a c) (hd : D a c) : PairsTo D (xs ++ [[a, c]]) a (c + 1) := by
  refine ⟨List.pairwise_append.2 ⟨h.1, by simp, fun z hz u hu => ?_⟩, fun z => ?_⟩
  · rw [List.mem_singleton] at hu
    subst hu
    obtain ⟨l, y, rfl, _, hl⟩ := (h.2 z).1 hz
    simp only [cmpL]
    rcases hl with hl | ⟨rfl, hl⟩
    · rw [if_pos hl]; omega
    · rw [if_neg (by omega), if_neg (by omega), if_pos hl]; omega
  · rw [List.mem_append, List.mem_singleton, h.2]
    constructor
    · rintro (⟨l, y, e, h1, hl⟩ | rfl)
      · exact ⟨l, y, e, h1, by omega⟩
      · exact ⟨a, c, rfl, hd, .inr ⟨rfl, by omega⟩⟩
    · rintro ⟨l, y, rfl, h1, hl⟩
      by_cases e : l = a ∧ y = c
      · obtain ⟨rfl, rfl⟩ := e
        exact .inr rfl
      · exact .inl ⟨l, y, rfl, h1, by omega⟩
theorem PairsTo.next {D : Int → Int → Prop} {xs : List (List Int)} {a n t : Int} (hD : ∀ l y, D l y → -t ≤ y ∧ y < n) (h : PairsTo D xs a n) : PairsTo D xs (a + 1) (-t) := ⟨h.1, fun z => by
  rw [h.2]
  constructor
  · rintro ⟨l, y, e, hd, hl⟩
    exact ⟨l, y, e, hd, by omega⟩
  · rintro ⟨l, y, e, hd, hl⟩
    have := hD l y hd
    exact ⟨l, y, e, hd, by omega⟩⟩
theorem PairsTo.end_ {D : Int → Int → Prop} {xs : List (List Int)} {n c : Int} (hD : ∀ l y, D l y → l < n) (h : PairsTo D xs n c) : RisesL xs ∧ ∀ z, z ∈ xs ↔ ∃ l x, z = [l, x] ∧ D l x := ⟨h.1, fun z => by
  rw [h.2]
  constructor
  · rintro ⟨l, y, e, hd, hl⟩
    exact ⟨l, y, e, hd⟩
  · rintro ⟨l, y, e, hd⟩
    exact ⟨l, y, e, hd, .inl (hD l y hd)⟩⟩

/-- The pairs of a binary grammar, rising. -/
def PPairs (s : Bs) (xs : List (List Int)) : Prop := ∃ N, IsLeast wayNull noS (bRules s.P s.O s.E) N ∧ RisesL xs ∧ ∀ z, z ∈ xs ↔ ∃ l x, z = [l, x] ∧ DirB N s.P s.O l x
theorem PPairs.unique {s : Bs} {xs ys : List (List Int)} (h : PPairs s xs) (k : PPairs s ys) : xs = ys := by
  obtain ⟨N, h1, h2, h3⟩ := h
  obtain ⟨M, k1, k2, k3⟩ := k
  have e := h1.unique k1
  subst e
  exact risesL_unique h2 k2 fun z => (h3 z).trans (k3 z).symm

end Go.Proofs.YtfbpcdmpkbjifaaDoor

/- slices.Grow of nothing, and slices.Concat, at lists of numbers. -/

namespace Go.Proofs.YtfbpcdmpkbjifaaDoor
open Go.RowKit

/-- A list as a slice in memory: where it lies, what it reads as, its capacity. -/
structure Pt where
  a : Option Addr
  r : List Int
  c : Nat
/-- The cells of block B are the slices ps. -/
def PtsAt (w : World) (B : Nat) (ps : List Pt) : Prop := B < w.heap.size ∧ ∀ (k : Nat) (p : Pt), ps[k]? = some p → w.cell? ⟨B, k, none⟩ = some (.slice p.a p.r.length p.c) ∧ Ints w w.heap.size p.a p.r
theorem PtsAt.keep {w w' : World} {B : Nat} {ps : List Pt} (h : PtsAt w B ps) (hb : Below w.heap.size w w') : PtsAt w' B ps :=
  ⟨Nat.lt_of_lt_of_le h.1 hb.size, fun k p hk => ⟨(hb.cell (p := ⟨B, k, none⟩) h.1).trans (h.2 k p hk).1, ((h.2 k p hk).2.keep hb).more hb.size⟩⟩
def catL (ps : List Pt) : List Int := ps.flatMap Pt.r
theorem catL_take {ps : List Pt} {k : Nat} (h : k < ps.length) : catL (ps.take (k + 1)) = catL (ps.take k) ++ ps[k].r := by
  unfold catL
  rw [List.take_add_one, List.getElem?_eq_getElem h, List.flatMap_append]
  simp
theorem catL_le {ps : List Pt} (k : Nat) : (catL (ps.take k)).length ≤ (catL ps).length := by
  have h : catL ps = catL (ps.take k) ++ catL (ps.drop k) := by unfold catL; rw [← List.flatMap_append, List.take_append_drop]
  rw [h, List.length_append]
  omega

theorem own_slice {w : World} {lo : Nat} {v : Value} {ys : List Int} (h : w.ownsRow lo 3 1 v ys.length (vals ys)) : ∃ A c, v = .slice A ys.length c ∧ OwnI w lo A ys ∧ ys.length ≤ c := by
  obtain ⟨A, c, e, hO⟩ := ownI_of_row (ys := ys) h
  refine ⟨A, c, e, hO, ?_⟩
  obtain ⟨_, ⟨e2, h0⟩ | ⟨g, cap, cur, e2, _, _, hc, _⟩⟩ := h
  · omega
  · rw [e] at e2
    injection e2 with _ _ e3
    omega

end Go.Proofs.YtfbpcdmpkbjifaaDoor

/- The reference's l6Pairs. -/

namespace Go.Proofs.YtfbpcdmpkbjifaaDoor
open Go.RowKit

/-- The rising pairs of a relation. -/
def PM (xs : List (List Int)) (D : Int → Int → Prop) : Prop := RisesL xs ∧ ∀ z, z ∈ xs ↔ ∃ l x, z = [l, x] ∧ D l x
theorem PM.congr {xs : List (List Int)} {D E : Int → Int → Prop} (h : PM xs D) (he : ∀ l x, E l x ↔ D l x) : PM xs E := by
  have e : E = D := funext fun l => funext fun x => propext (he l x)
  rw [e]; exact h
theorem PM.ins {xs ys : List (List Int)} {D : Int → Int → Prop} {l0 x0 : Int} (h : PM xs D) (hr : RisesL ys) (hm : ∀ z, z ∈ ys ↔ z = [l0, x0] ∨ z ∈ xs) : PM ys (E1 D true x0 l0) := by
  refine ⟨hr, fun z => ?_⟩
  rw [hm, h.2]
  constructor
  · rintro (rfl | ⟨l, x, rfl, hd⟩)
    · exact ⟨l0, x0, rfl, .inl ⟨rfl, rfl, rfl⟩⟩
    · exact ⟨l, x, rfl, .inr hd⟩
  · rintro ⟨l, x, rfl, ⟨rfl, rfl, _⟩ | hd⟩
    · exact .inl rfl
    · exact .inr ⟨l, x, rfl, hd⟩
theorem PM.start : PM [] (D1 [] 0) := ⟨RisesL.nil, fun z => ⟨fun h => by simp at h, fun ⟨l, x, _, j, hj, _⟩ => by omega⟩⟩
theorem PM.two {xs : List (List Int)} {D : Int → Int → Prop} (h : PM xs D) : ∀ z ∈ xs, z.length = 2 := fun z hz => by
  obtain ⟨l, x, rfl, _⟩ := (h.2 z).1 hz
  rfl
theorem PM.len {xs : List (List Int)} {D : Int → Int → Prop} (h : PM xs D) (hD : ∀ l x, D l x → (0 ≤ l ∧ l < 40) ∧ (-4 ≤ x ∧ x < 40)) : xs.length ≤ 1760 := by
  have := nodup_le xs (((List.range 40).map fun (a : Nat) => ((List.range 44).map fun (c : Nat) => [(a : Int), (c : Int) - 4])).flatten) (h.1.imp fun h e => by subst e; rw [cmpL_self] at h; omega) fun z hz => by
    obtain ⟨l, x, rfl, hd⟩ := (h.2 z).1 hz
    have hb := hD l x hd
    rw [List.mem_flatten]
    exact ⟨_, List.mem_map.2 ⟨l.toNat, List.mem_range.2 (by omega), rfl⟩, List.mem_map.2 ⟨(x + 4).toNat, List.mem_range.2 (by omega), by rw [show ((l.toNat : Nat) : Int) = l by omega, show (((x + 4).toNat : Nat) : Int) - 4 = x by omega]⟩⟩
  exact Nat.le_trans this (Nat.le_of_eq (by kernel_rfl))
theorem say_two {ds : List Li} {D : Int → Int → Prop} (h : PM (sayL ds) D) : ∀ u ∈ ds, u.r.length = 2 := fun _ hu => h.two _ (sayL_mem hu)

/-- A new slice of lists of which P holds. -/
def GaveLs (w : World) (P : List (List Int) → Prop) (e : Ending) (w' : World) : Prop := ∃ v ds, e = .returned v ∧ LsR w' w.heap.size v ds ∧ P (sayL ds) ∧ Below w.heap.size w w'

theorem D1_sym {s : Bs} (hg : GoodBs s) {k : Nat} {l x : Int} (h : D1 s.O k l x) : (0 ≤ l ∧ l < 40) ∧ (-4 ≤ x ∧ x < 40) := by
  obtain ⟨j, _, e⟩ := h
  have h := dirB_sym hg (N := noS) (l := l) (x := x) (.inl (List.mem_of_getElem? e))
  have h1 := nonB_is h.1
  have h2 := of_decide_eq_true h.2
  have := hg.1
  have := hg.2.1
  omega
theorem D2_sym {s : Bs} (hg : GoodBs s) {N : Int → Bool} {k : Nat} {l x : Int} (h : D2 N s.P s.O k l x) : (0 ≤ l ∧ l < 40) ∧ (-4 ≤ x ∧ x < 40) := by
  have hd : DirB N s.P s.O l x := by
    rcases h with h | ⟨j, y, hj, ⟨e, hn⟩ | ⟨e, hn⟩⟩
    · exact .inl h
    · exact .inr (.inl ⟨y, List.mem_of_getElem? e, hn⟩)
    · exact .inr (.inr ⟨y, List.mem_of_getElem? e, hn⟩)
  have h := dirB_sym hg hd
  have h1 := nonB_is h.1
  have h2 := of_decide_eq_true h.2
  have := hg.1
  have := hg.2.1
  omega

theorem E1_both {N : Int → Bool} {P O : List (List Int)} {k : Nat} {l y z : Int} (hD : ∀ l' x', D2 N P O (k + 1) l' x' ↔ ((x' = y ∧ l' = l ∧ N z = true) ∨ (x' = z ∧ l' = l ∧ N y = true)) ∨ D2 N P O k l' x') (l' x' : Int) : D2 N P O (k + 1) l' x' ↔ E1 (E1 (D2 N P O k) (N z) y l) (N y) z l l' x' := by
  rw [hD]
  unfold E1
  constructor
  · rintro ((h | h) | h)
    · exact .inr (.inl h)
    · exact .inl h
    · exact .inr (.inr h)
  · rintro (h | h | h)
    · exact .inl (.inr h)
    · exact .inl (.inl h)
    · exact .inr h

set_option maxRecDepth 20000 in
set_option maxHeartbeats 800000 in
theorem l6Pairs_any (b : Bi) (w : World) (hx : ReadB w w.heap.size b) (hm : LenB 1048576 b) (hg : GoodBs b.say) :
    Calls Tryd.prog 125 #[(.agg #[.int .i64 b.n, .int .i64 b.t, .slice b.Ap b.P.length b.cp, .slice b.Ao b.O.length b.co, .slice b.Ae b.E.length b.ce, .slice b.Af b.F.length b.cf])] w (GaveLs w (PPairs b.say)) := by
  have HX := Lib.hid hx; clear hx
  have HM := Lib.hid hm
  have HG := Lib.hid hg; clear hg
  have hP := hm.p
  have hO := hm.o
  clear hm
  have HB0 : Hid (Below w.heap.size w (w.alloc (.cells #[.int .i64 b.n, .int .i64 b.t, .slice b.Ap b.P.length b.cp, .slice b.Ao b.O.length b.co, .slice b.Ae b.E.length b.ce, .slice b.Af b.F.length b.cf] 55))) := by show Below _ _ _; go_grown
  have B0 := Lib.hid (Box6.new w b 55)
  go_enter Tryd.func125, Tryd.ntmps125
  go_wp2_with fail
  generalize w.alloc (.cells #[.int .i64 b.n, .int .i64 b.t, .slice b.Ap b.P.length b.cp, .slice b.Ao b.O.length b.co, .slice b.Ae b.E.length b.ce, .slice b.Af b.F.length b.cf] 55) = W at HB0 B0 ⊢
  refine (l5Null_any b W ((HX.out.keep HB0.out).more HB0.out.size) HM.out HG.out).mono ?_
  rintro e w1 ⟨v1, ns, rfl, ⟨hnr, hnf, hN⟩, hO1, hB1⟩
  obtain ⟨A1, cn1, rfl, hO1i, hc1⟩ := own_slice (ys := ns) hO1
  have hs0 := HB0.out.size
  have HNI := Lib.hid hO1i.ints
  have HN : Hid (IsLeast wayNull noS (bRules b.say.P b.say.O b.say.E) (setL ns)) := hN
  have hnl : ns.length ≤ 40 := len6 (S := setL ns) (hnr.imp fun h => by omega) (fun x hx => by simpa [setL] using hx) (fun x hx => hnf x (by simpa [setL] using hx))
  have HNF := Lib.hid hnf
  have HB1 := Lib.hid (HB0.out.trans (hB1.mono hs0))
  have B1 := Lib.hid (B0.out.keep hB1 B0.out.1)
  have hs1 := HB1.out.size
  clear hO1 hO1i hN hnr hnf hB1 B0 HB0 hs0 hc1
  obtain ⟨_, _, _, _, b3, _, _⟩ := B1.out
  go_wp2
  clear b3
  go_loopw [4, 14] (fun v i wr => ∃ (k : Nat) (ds : List Li), k ≤ b.O.length ∧ i = .int .i64 k ∧ Hid (Below w1.heap.size w1 wr) ∧ Hid (LsR wr w.heap.size v ds) ∧ Hid (PM (sayL ds) (D1 b.say.O k))) (fun _ i _ => b.O.length - (intOf i).toNat)
  case atStart => exact ⟨0, [], by omega, rfl, Below.refl _ _, LsR.start _ _, PM.start.congr fun l x => ⟨fun ⟨j, hj, _⟩ => by omega, fun ⟨j, hj, _⟩ => by omega⟩⟩
  case round =>
    obtain ⟨k, ds, hk, rfl, HB, HL, HP⟩ := hrel
    by_cases hlt : k < b.O.length
    · have hws := HB.out.size
      have HBR : Hid (Below w.heap.size w wr) := HB1.out.trans (HB.out.mono hs1)
      obtain ⟨bb, oo, eA, hbb, d1, hcap, hI⟩ := (HX.out.2.1.keep HBR.out).at_ hlt
      have hsay : b.say.O[k]? = some b.O[k].r := sayL_at hlt
      obtain ⟨l, x, er, hnl', hsx⟩ := good_one HG.out hsay
      rw [er] at hI hsay d1 hcap
      have HIW := Lib.hid (hI.more HBR.out.size)
      have HD := Lib.hid (D1_step hsay)
      rw [eA]
      clear hI er eA hsay hnl' hsx
      generalize b.O[k] = u at d1 HIW hcap
      obtain ⟨ua, ur, uc⟩ := u
      dsimp only at d1 HIW hcap
      have HCO := Lib.hid (l1OwnW_any ua [l, x] uc wr HIW.out (by simp))
      go_wp2_with fail
      refine HCO.out.mono ?_
      rintro e w2 ⟨v2, rfl, hO2, hB2⟩
      obtain ⟨A2, c2, rfl, hO2i, hc2⟩ := own_slice (ys := [l, x]) hO2
      have HL2 := Lib.hid (HL.out.keep hB2)
      have HB2 := Lib.hid (HB.out.trans (hB2.mono hws))
      have HI2 := Lib.hid hO2i
      have HAP2 := Lib.hid (HL.out.apart hO2i)
      have hs2 := HB2.out.size
      clear hO2 hO2i hB2 HCO HIW
      have hlen := HP.out.len fun l x h => D1_sym HG.out h
      rw [sayL_len] at hlen
      go_wp2_with fail
      refine (l5Insert_any w.heap.size _ ds A2 [l, x] c2 w2 HL2.out HP.out.1 (HI2.out.lower (by omega)) HAP2.out hc2 (say_two HP.out) (by simp) (by omega) (by omega)).mono ?_
      rintro e w3 ⟨v3, ds3, rfl, hL3, hr3, hm3, hl3, hB3⟩
      have HP3 : Hid (PM (sayL ds3) (D1 b.say.O (k + 1))) := (HP.out.ins hr3 hm3).congr fun l' x' => (HD.out l' x').trans (E1_true l' x').symm
      have HL3 := Lib.hid hL3
      have HB3 := Lib.hid (HB2.out.trans (hB3.mono hs2))
      clear hL3 hr3 hm3 hB3
      go_wp2
      go_roundw
      case rel => exact ⟨k + 1, ds3, by omega, by go_num, HB3.out, HL3.out, HP3.out⟩
      case measure => simp [intOf]; omega
    · obtain rfl : k = b.O.length := by omega
      have HBR : Hid (Below w.heap.size w wr) := HB1.out.trans (HB.out.mono hs1)
      have B4 := Lib.hid (B1.out.keep HB.out B1.out.1)
      have HP0 : Hid (PM (sayL ds) (D2 (setL ns) b.say.P b.say.O 0)) := by
        have h := HP.out
        rw [show b.O.length = b.say.O.length from sayL_len.symm] at h
        refine h.congr fun l x => ⟨fun h => ?_, fun ⟨j, _, e⟩ => .inl (List.mem_of_getElem? e)⟩
        rcases h with h | ⟨j, y, hj, _⟩
        · obtain ⟨j, e⟩ := List.mem_iff_getElem?.1 h
          exact ⟨j, (List.getElem?_eq_some_iff.1 e).1, e⟩
        · omega
      obtain ⟨_, _, _, b2, _, _, _⟩ := B4.out
      obtain ⟨wA, hwA⟩ : ∃ x, x = wr := ⟨_, rfl⟩
      subst hwA
      obtain ⟨fs, hfs⟩ : ∃ x, x = ds := ⟨_, rfl⟩
      subst hfs
      go_wp2
      clear b2 HP
      go_loopw [4, 26] (fun v i wr => ∃ (k : Nat) (ds : List Li), k ≤ b.P.length ∧ i = .int .i64 k ∧ Hid (Below w1.heap.size w1 wr) ∧ Hid (LsR wr w.heap.size v ds) ∧ Hid (PM (sayL ds) (D2 (setL ns) b.say.P b.say.O k))) (fun _ i _ => b.P.length - (intOf i).toNat)
      case atStart => exact ⟨0, fs, by omega, rfl, HB.out, HL.out, HP0.out⟩
      case round =>
        clear HP0 HB HL HBR B4
        obtain ⟨k, ds, hk, rfl, HB, HL, HP⟩ := hrel
        by_cases hlt : k < b.P.length
        · have hws := HB.out.size
          have HBR : Hid (Below w.heap.size w wr) := HB1.out.trans (HB.out.mono hs1)
          obtain ⟨bb, oo, eA, hbb, d1, hcap, hI⟩ := (HX.out.1.keep HBR.out).at_ hlt
          have hsay : b.say.P[k]? = some b.P[k].r := sayL_at hlt
          obtain ⟨l, y, z, er, hnl', hsy, hsz⟩ := good_pair HG.out hsay
          rw [er] at hI hsay d1
          have HIW := Lib.hid hI
          obtain ⟨pp, po, ea, hpp, c0, c1, c2⟩ := ints_three_lt hI
          have HD := Lib.hid (D2_step (N := setL ns) (O := b.say.O) hsay)
          have HSL : Hid ((0 ≤ l ∧ l < 40) ∧ (-4 ≤ y ∧ y < 40) ∧ (-4 ≤ z ∧ z < 40)) := by
            have h1 := nonB_is hnl'
            have h2 := of_decide_eq_true hsy
            have h3 := of_decide_eq_true hsz
            have := HG.out.1
            have := HG.out.2.1
            show _ ∧ _
            omega
          rw [eA]
          clear hI er eA hsay hnl' hsy hsz
          generalize b.P[k] = u at d1 hcap ea
          obtain ⟨ua, ur, uc⟩ := u
          dsimp only at d1 hcap ea
          subst ea
          have HDS_1 : Hid (∀ l' x', D2 (setL ns) b.say.P b.say.O k l' x' → (0 ≤ l' ∧ l' < 40) ∧ (-4 ≤ x' ∧ x' < 40)) := fun l' x' h => D2_sym HG.out h
          have HDS_2 : Hid (∀ l' x', E1 (D2 (setL ns) b.say.P b.say.O k) (setL ns z) y l l' x' → (0 ≤ l' ∧ l' < 40) ∧ (-4 ≤ x' ∧ x' < 40)) := fun l' x' h => by
            rcases h with ⟨rfl, rfl, _⟩ | h
            · exact ⟨HSL.out.1, HSL.out.2.1⟩
            · exact D2_sym HG.out h
          go_upto_region 11 with fail
          go_cut [40, 71] from 30 (fun v s71 wx => v = .bool (setL ns z) ∧ s71 = undef ∧ wx = wr)
          case first =>
            by_cases hneg : z < 0
            · have HF : Hid (setL ns z = false) := by
                cases h : setL ns z
                · rfl
                · have := HNF.out z (by simpa [setL] using h)
                  omega
              go_wp2_with fail
              go_meet
              case rel => exact ⟨by rw [HF.out], rfl, rfl⟩
            · have HC : Hid (Calls Tryd.prog 80 #[.slice A1 ns.length cn1, .int .i64 z] wr fun e w' => e = .returned (.bool (setL ns z)) ∧ w' = wr) := l1Has6_any A1 ns cn1 z wr ((HNI.out.keep HB.out).more HB.out.size) hnl
              go_wp2_with fail
              refine HC.out.mono ?_
              rintro e w5 ⟨rfl, rfl⟩
              go_wp2_with fail
              go_meet
              case rel => exact ⟨rfl, rfl, rfl⟩
          case rest =>
            obtain ⟨rfl, rfl, hwc⟩ := hcut
            have hwc' := hwc.symm
            subst hwc'
            go_upto_if 40 with fail
            go_cut [4, 71] from 40 (fun v s71 wy => s71 = undef ∧ ∃ es : List Li, Hid (LsR wy w.heap.size v es) ∧ Hid (PM (sayL es) (E1 (D2 (setL ns) b.say.P b.say.O k) (setL ns z) y l)) ∧ Hid (Below wr.heap.size wr wy))
            case first =>
              cases hnz : setL ns z
              · have HPN : Hid (PM (sayL ds) (E1 (D2 (setL ns) b.say.P b.say.O k) (setL ns z) y l)) := by rw [hnz]; exact HP.out.congr fun l' x' => by simp [E1]
                go_wp2_with fail
                go_meet
                case rel => exact ⟨rfl, ds, HL.out, HPN.out, Below.refl _ _⟩
              · have HBA : Hid (Below wr.heap.size wr (wr.drew.alloc (.cells #[.int .i64 l, .int .i64 y] 3))) := ((Below.refl _ _).drew).alloc (Nat.le_refl _) _
                have HLA := Lib.hid (HL.out.keep HBA.out)
                have HOA := Lib.hid (own_newP2 wr.drew l y)
                have hlen := HP.out.len fun l' x' h => HDS_1.out l' x' h
                rw [sayL_len] at hlen
                have hsx := HB.out.size
                have HC := Lib.hid (l5Insert_any w.heap.size _ ds (some ⟨wr.heap.size, 0, none⟩) [l, y] 2 _ HLA.out HP.out.1 (HOA.out.lower (by simp; omega)) (HL.out.apart HOA.out) (by simp) (say_two HP.out) (by simp) (by omega) (by simp; omega))
                have HTR := Lib.hid hnz
                clear hnz
                go_wp2_with fail
                go_region_law (first
                  | (go_simp
                     go_at_call 149
                     refine HC.out.mono ?_
                     rintro e w6 ⟨v6, es, rfl, hL6, hr6, hm6, hl6, hB6⟩
                     have HP6 : Hid (PM (sayL es) (E1 (D2 (setL ns) b.say.P b.say.O k) (setL ns z) y l)) := by rw [HTR.out]; exact HP.out.ins hr6 hm6
                     have HL6 := Lib.hid hL6
                     have HB6 := Lib.hid (HBA.out.trans (hB6.mono HBA.out.size))
                     clear hL6 hr6 hm6 hB6)
                  | fail)
                all_goals
                  go_wp2_with fail
                  go_meet
                  case rel => exact ⟨rfl, es, HL6.out, HP6.out, HB6.out⟩

            case rest =>
              obtain ⟨rfl, es, HL1, HP1, HBX1⟩ := hcut
              obtain ⟨wy, hwy⟩ : ∃ x, x = wc := ⟨_, rfl⟩
              subst hwy
              have hpw : pp < wr.heap.size := Nat.lt_of_lt_of_le hpp HBR.out.size
              have c0' := (HBX1.out.cell (p := ⟨pp, po, none⟩) hpw).trans c0
              have c1' := (HBX1.out.cell (p := ⟨pp, po + 1, none⟩) hpw).trans c1
              have c2' := (HBX1.out.cell (p := ⟨pp, po + 2, none⟩) hpw).trans c2
              have HBY : Hid (Below w1.heap.size w1 wy) := HB.out.trans (HBX1.out.mono hws)
              clear c0 c1 c2 HL HP HBX1
              go_upto_region 13 with fail
              go_cut [60, 71] from 50 (fun v s71 wx => v = .bool (setL ns y) ∧ s71 = undef ∧ wx = wy)
              case first =>
                by_cases hneg : y < 0
                · have HF : Hid (setL ns y = false) := by
                    cases h : setL ns y
                    · rfl
                    · have := HNF.out y (by simpa [setL] using h)
                      omega
                  go_wp2_with fail
                  go_meet
                  case rel => exact ⟨by rw [HF.out], rfl, rfl⟩
                · have HC : Hid (Calls Tryd.prog 80 #[.slice A1 ns.length cn1, .int .i64 y] wy fun e w' => e = .returned (.bool (setL ns y)) ∧ w' = wy) := l1Has6_any A1 ns cn1 y wy ((HNI.out.keep HBY.out).more HBY.out.size) hnl
                  go_wp2_with fail
                  refine HC.out.mono ?_
                  rintro e w5 ⟨rfl, rfl⟩
                  go_wp2_with fail
                  go_meet
                  case rel => exact ⟨rfl, rfl, rfl⟩
              case rest =>
                obtain ⟨rfl, rfl, hwc⟩ := hcut
                have hwc' := hwc.symm
                subst hwc'
                cases hnz : setL ns y
                · have HPN : Hid (PM (sayL es) (D2 (setL ns) b.say.P b.say.O (k + 1))) := (HP1.out.congr (E := E1 (E1 (D2 (setL ns) b.say.P b.say.O k) (setL ns z) y l) (setL ns y) z l) fun l' x' => by rw [hnz]; simp [E1]).congr (E1_both HD.out)
                  go_wp2_with fail
                  go_roundw
                  case rel => exact ⟨k + 1, es, by omega, by go_num, HBY.out, HL1.out, HPN.out⟩
                  case measure => simp [intOf]; omega
                · have HBA : Hid (Below wy.heap.size wy (wy.drew.alloc (.cells #[.int .i64 l, .int .i64 z] 3))) := ((Below.refl _ _).drew).alloc (Nat.le_refl _) _
                  have HLA := Lib.hid (HL1.out.keep HBA.out)
                  have HOA := Lib.hid (own_newP2 wy.drew l z)
                  have hlen := HP1.out.len fun l' x' h => HDS_2.out l' x' h
                  rw [sayL_len] at hlen
                  have hsx := HBY.out.size
                  have HC := Lib.hid (l5Insert_any w.heap.size _ es (some ⟨wy.heap.size, 0, none⟩) [l, z] 2 _ HLA.out HP1.out.1 (HOA.out.lower (by simp; omega)) (HL1.out.apart HOA.out) (by simp) (say_two HP1.out) (by simp) (by omega) (by simp; omega))
                  have HTR := Lib.hid hnz
                  clear hnz
                  go_wp2_with fail
                  go_region_law (first
                    | (go_simp
                       go_at_call 149
                       refine HC.out.mono ?_
                       rintro e w6 ⟨v6, es, rfl, hL6, hr6, hm6, hl6, hB6⟩
                       have HP6 : Hid (PM (sayL es) (E1 (E1 (D2 (setL ns) b.say.P b.say.O k) (setL ns z) y l) (setL ns y) z l)) := by rw [HTR.out]; exact HP1.out.ins hr6 hm6
                       have HL6 := Lib.hid hL6
                       have HB6 := Lib.hid (HBA.out.trans (hB6.mono HBA.out.size))
                       clear hL6 hr6 hm6 hB6)
                    | fail)
                  all_goals
                    have HBN := Lib.hid (HBY.out.trans (HB6.out.mono HBY.out.size))
                    have HPN : Hid (PM (sayL es) (D2 (setL ns) b.say.P b.say.O (k + 1))) := HP6.out.congr (E1_both HD.out)
                    go_wp2
                    go_roundw
                    case rel => exact ⟨k + 1, es, by omega, by go_num, HBN.out, HL6.out, HPN.out⟩
                    case measure => simp [intOf]; omega
        · obtain rfl : k = b.P.length := by omega
          have HPE : Hid (PPairs b.say (sayL ds)) := ⟨setL ns, HN.out, HP.out.congr fun l x => by
            rw [show b.P.length = b.say.P.length from sayL_len.symm]
            have h := congrFun (congrFun (D2_end (N := setL ns) (P := b.say.P) (O := b.say.O)) x) l
            exact ⟨fun hd => bP_is (h.trans (bP_t hd)), fun hd => bP_is (h.symm.trans (bP_t hd))⟩⟩
          go_wp2
          go_ret
          exact ⟨_, ds, rfl, HL.out, HPE.out, HB1.out.trans (HB.out.mono hs1)⟩

end Go.Proofs.YtfbpcdmpkbjifaaDoor
