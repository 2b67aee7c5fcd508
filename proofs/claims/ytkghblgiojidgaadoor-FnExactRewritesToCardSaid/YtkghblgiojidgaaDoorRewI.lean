/- The program's RewritesTo. -/
import Derived.Test.YtkghblgiojidgaaDoorStepI
import Derived.Test.YtkghblgiojidgaaDoorDerI
namespace Go.Proofs.YtkghblgiojidgaaDoor
open Go.RowKit

/-- i is the place of the first nonterminal; none is there where i is none. -/
def IsFirst (xs : List Int) (i : Option Nat) : Prop :=
  match i with
  | some k => (∃ x, xs[k]? = some x ∧ 0 ≤ x) ∧ ∀ (j : Nat) (x : Int), j < k → xs[j]? = some x → x < 0
  | none => ∀ (j : Nat) (x : Int), xs[j]? = some x → x < 0
theorem IsFirst.unique {xs : List Int} {i j : Option Nat} (h : IsFirst xs i) (k : IsFirst xs j) : i = j := by
  rcases i with _ | i <;> rcases j with _ | j
  · rfl
  · obtain ⟨⟨x, h1, h2⟩, _⟩ := k
    have := h j x h1
    omega
  · obtain ⟨⟨x, h1, h2⟩, _⟩ := h
    have := k i x h1
    omega
  · obtain ⟨⟨x, h1, h2⟩, h3⟩ := h
    obtain ⟨⟨y, k1, k2⟩, k3⟩ := k
    by_cases e : i = j
    · rw [e]
    · rcases Nat.lt_or_gt_of_ne e with e | e
      · have := k3 i x e h1; omega
      · have := h3 j y e k1; omega

set_option maxRecDepth 20000 in
set_option maxHeartbeats 1000000 in
theorem firstNon_any (A : Option Addr) (xs : List Int) (c : Nat) (w : World) (hx : Ints w w.heap.size A xs) (hl : xs.length ≤ 1048576) :
    Calls Tryd.prog 74 #[.slice A xs.length c] w fun e w' => ∃ o : Option Nat, IsFirst xs o ∧ e = .returned (.tuple #[.int .i64 (o.getD 0 : Nat), .bool o.isSome]) ∧ w' = w := by
  have HX := Lib.hid hx; clear hx
  go_enter Tryd.func74, Tryd.ntmps74
  go_wp2
  go_loopw [8] (fun n wr => ∃ (k : Nat), k ≤ xs.length ∧ n = .int .i64 k ∧ wr = w ∧ Hid (∀ (j : Nat) (x : Int), j < k → xs[j]? = some x → x < 0)) (fun n _ => xs.length - (intOf n).toNat)
  case atStart => exact ⟨0, by omega, rfl, rfl, fun j x h => absurd h (by omega)⟩
  case round =>
    obtain ⟨k, hk, rfl, hwr, H⟩ := hrel
    subst hwr
    by_cases hlt : k < xs.length
    · obtain ⟨b, o, rfl, hb, c1⟩ := HX.out.at_ hlt
      by_cases hn : 0 ≤ xs[k]
      · have HF : Hid (IsFirst xs (some k)) := ⟨⟨xs[k], List.getElem?_eq_getElem hlt, hn⟩, H.out⟩
        go_wp2
        go_ret2
        exact ⟨some k, HF.out, rfl, rfl⟩
      · have HN : Hid (∀ (j : Nat) (x : Int), j < k + 1 → xs[j]? = some x → x < 0) := fun j x h1 h2 => by
          by_cases e : j = k
          · subst e
            rw [List.getElem?_eq_getElem hlt] at h2
            have := Option.some.inj h2
            omega
          · exact H.out j x (by omega) h2
        go_wp2
        go_roundw
        case rel => exact ⟨k + 1, by omega, by go_num, trivial, HN.out⟩
        case measure => simp [intOf]; omega
    · have HF : Hid (IsFirst xs none) := fun j x h => H.out j x (by have := (List.getElem?_eq_some_iff.1 h).1; omega) h
      go_wp2
      go_ret2
      exact ⟨none, HF.out, rfl, rfl⟩

/-- What rules make of a form. -/
inductive Rew (ss : List (Int × List Int)) : List Int → List Int → Option (List Int) → Prop
  | done (f : List Int) : Rew ss [] f (some f)
  | stop (r : Int) (rs f : List Int) : IsFirst f none → Rew ss (r :: rs) f none
  | fail (r : Int) (rs f : List Int) (i : Nat) : IsFirst f (some i) → stepV ss f i r = none → Rew ss (r :: rs) f none
  | step (r : Int) (rs f f' : List Int) (i : Nat) (o : Option (List Int)) : IsFirst f (some i) → stepV ss f i r = some f' → Rew ss rs f' o → Rew ss (r :: rs) f o
theorem Rew.unique {ss : List (Int × List Int)} {rs f : List Int} {o o' : Option (List Int)} (h : Rew ss rs f o) (k : Rew ss rs f o') : o = o' := by
  induction h with
  | done f => cases k; rfl
  | stop r rs f h =>
    cases k with
    | stop => rfl
    | fail => rfl
    | step _ _ _ f' i _ h1 h2 h3 => have := h.unique h1; cases this
  | fail r rs f i h h2 =>
    cases k with
    | stop => rfl
    | fail => rfl
    | step _ _ _ f' j _ k1 k2 k3 =>
      have e := h.unique k1
      injection e with e
      subst e
      rw [h2] at k2
      cases k2
  | step r rs f f' i o h1 h2 h3 ih =>
    cases k with
    | stop _ _ _ k1 => have := h1.unique k1; cases this
    | fail _ _ _ j k1 k2 =>
      have e := h1.unique k1
      injection e with e
      subst e
      rw [h2] at k2
      cases k2
    | step _ _ _ f'' j _ k1 k2 k3 =>
      have e := h1.unique k1
      injection e with e
      subst e
      rw [h2] at k2
      injection k2 with k2
      subst k2
      exact ih k3
theorem stepV_len {ss : List (Int × List Int)} {xs ys : List Int} {i : Nat} {x : Int} (h : stepV ss xs i x = some ys) : ys.length ≤ 40 := by
  unfold stepV at h
  split at h
  · split at h
    · rename_i hh
      injection h with h
      rw [← h]
      exact hh.2.2
    · cases h
  · cases h

/-- What RewritesTo tells. -/
def QR (n t : Int) (ss : List (Int × List Int)) (rules : List Int) (o : Option (List Int)) : Prop := (goodG n t ss = true ∧ rules.length ≤ 60 → Rew ss rules [0] o) ∧ (¬ (goodG n t ss = true ∧ rules.length ≤ 60) → o = none)
theorem QR.unique {n t : Int} {ss : List (Int × List Int)} {rules : List Int} {o o' : Option (List Int)} (h : QR n t ss rules o) (k : QR n t ss rules o') : o = o' := by
  by_cases e : goodG n t ss = true ∧ rules.length ≤ 60
  · exact (h.1 e).unique (k.1 e)
  · rw [h.2 e, k.2 e]
def GaveOQ (w : World) (Q : Option (List Int) → Prop) (e : Ending) (w' : World) : Prop := ∃ o, Q o ∧ GaveO w o e w'
theorem first_lt {xs : List Int} {i : Nat} (h : IsFirst xs (some i)) : i < xs.length := by
  obtain ⟨⟨x, h1, _⟩, _⟩ := h
  exact (List.getElem?_eq_some_iff.1 h1).1
theorem own_one (w : World) (x : Int) : OwnI (w.alloc (.cells #[.int .i64 x] 3)) w.heap.size (some ⟨w.heap.size, 0, none⟩) [x] := .inr ⟨w.heap.size, #[.int .i64 x], rfl, Nat.le_refl _, Row.new w _ _, fun k y hk => by
  have hk1 := (List.getElem?_eq_some_iff.1 hk).1
  have e : k = 0 := by simp at hk1; omega
  subst e
  simp at hk
  subst hk
  rfl⟩

set_option maxRecDepth 20000 in
set_option maxHeartbeats 1000000 in
theorem implRewrites_any (n t : Int) (A : Option Addr) (c : Nat) (rs : List Ru) (Ar : Option Addr) (cr : Nat) (us : List Int) (w : World) (hx : Rls w w.heap.size A rs) (hI : Ints w w.heap.size Ar us) (hL : Lims w) (hc : rs.length ≤ c) (h1 : rs.length ≤ 1048576) (h2 : ∀ u ∈ rs, u.r.length ≤ 1048576) (hf : FitR rs) (h3 : us.length ≤ 1048576) :
    Calls Tryd.prog 38 #[.agg #[.int .i64 n, .int .i64 t, .slice A rs.length c], .slice Ar us.length cr] w (GaveOQ w (QR n t (rs.map Ru.abs) us)) := by
  have HX := Lib.hid hx; clear hx
  have HI := Lib.hid hI; clear hI
  have HB0 : Hid (Below w.heap.size w (w.alloc (.cells #[.int .i64 n, .int .i64 t, .slice A rs.length c] 30))) := by show Below _ _ _; go_grown
  have HX0 : Hid (Box3 (w.alloc (.cells #[.int .i64 n, .int .i64 t, .slice A rs.length c] 30)) w.heap.size (.int .i64 n) (.int .i64 t) (.slice A rs.length c)) := ⟨by simp, by simp [go_sem], by simp [go_sem], by simp [go_sem]⟩
  have HC := Lib.hid (goodGrammar_any n t A c rs _ ((HX.out.keep HB0.out).more HB0.out.size) (hL.keep HB0.out (Nat.le_refl _)) hc h1 h2 hf)
  clear hL
  by_cases hq : goodG n t (rs.map Ru.abs) = true ∧ us.length ≤ 60
  · obtain ⟨hg, h60⟩ := hq
    rw [hg] at HC
    have HQ : Hid (∀ o, Rew (rs.map Ru.abs) us [0] o → QR n t (rs.map Ru.abs) us o) := fun o h => ⟨fun _ => h, fun k => absurd ⟨hg, h60⟩ k⟩
    have HG := Lib.hid hg; clear hg
    go_enter Tryd.func38, Tryd.ntmps38
    go_wp2_with fail
    refine HC.out.mono ?_
    rintro e w1 ⟨rfl, hB1⟩
    have HB1 : Hid (Below w.heap.size w (w1.alloc (.cells #[.int .i64 0] 3))) := (HB0.out.trans (hB1.mono HB0.out.size)).alloc (by have := (HB0.out.trans (hB1.mono HB0.out.size)).size; omega) _
    have HX1 : Hid (Box3 (w1.alloc (.cells #[.int .i64 0] 3)) w.heap.size (.int .i64 n) (.int .i64 t) (.slice A rs.length c)) := (HX0.out.keep hB1 (by simp)).keep ((Below.refl _ _).alloc (Nat.le_refl _) _) (HX0.out.keep hB1 (by simp)).1
    have HO1 : Hid (OwnI (w1.alloc (.cells #[.int .i64 0] 3)) w.heap.size (some ⟨w1.heap.size, 0, none⟩) [0]) := (own_one w1 0).lower (HB0.out.trans (hB1.mono HB0.out.size)).size
    clear hB1
    go_wp2
    go_loopw [6, 22] (fun f i wr => ∃ (k : Nat) (A' : Option Addr) (fs : List Int) (c' : Nat), k ≤ us.length ∧ i = .int .i64 k ∧ f = .slice A' fs.length c' ∧ fs.length ≤ c' ∧ fs.length ≤ 40 ∧ Hid (∀ o, Rew (rs.map Ru.abs) (us.drop k) fs o → Rew (rs.map Ru.abs) us [0] o) ∧ Hid (OwnI wr w.heap.size A' fs) ∧ Hid (Below w.heap.size w wr) ∧ Hid (Box3 wr w.heap.size (.int .i64 n) (.int .i64 t) (.slice A rs.length c))) (fun _ i _ => us.length - (intOf i).toNat)
    case atStart => exact ⟨0, _, [0], 1, by omega, rfl, rfl, by simp, by simp, fun o h => h, HO1.out, HB1.out, HX1.out⟩
    case round =>
      obtain ⟨k, A', fs, c', hk, rfl, rfl, hfc, hf40, HR, HO, HB, HU⟩ := hrel
      clear HB1 HX1 HO1
      by_cases hlt : k < us.length
      · obtain ⟨b, o, rfl, hb, c1⟩ := (HI.out.keep HB.out).at_ hlt
        have hdr : us.drop k = us[k] :: us.drop (k + 1) := List.drop_eq_getElem_cons hlt
        have HDR := Lib.hid hdr; clear hdr
        have HFN := Lib.hid (firstNon_any A' fs c' wr HO.out.ints (by omega))
        obtain ⟨_, b0, b1, b2⟩ := HU.out
        go_wp2_with fail
        refine HFN.out.mono ?_
        rintro e w2 ⟨o1, hF1, rfl, rfl⟩
        have HF1 := Lib.hid hF1; clear hF1
        rcases o1 with _ | i
        · have HE := Lib.hid (HQ.out none (HR.out none (by rw [HDR.out]; exact .stop _ _ _ HF1.out)))
          go_wp2
          go_ret2
          exact ⟨none, HE.out, none, [], 0, false, rfl, rfl, rfl, .inl rfl, Nat.le_refl _, HB.out⟩
        · have hil := first_lt HF1.out
          have HP := Lib.hid (putRight_any n t us[k] A c rs A' c' fs i w2 ((HX.out.keep HB.out).more HB.out.size) HG.out HO.out.ints hil hfc hf40)
          go_wp2_with fail
          refine HP.out.mono ?_
          rintro e w3 ⟨A3, ys, c3, bb, rfl, hy, hbb, hO3, hyc, hB3⟩
          have HB3 : Hid (Below w.heap.size w w3) := HB.out.trans (hB3.mono HB.out.size)
          have HU3 := Lib.hid (HU.out.keep hB3 HU.out.1)
          have HO3 : Hid (OwnI w3 w.heap.size A3 ys) := hO3.lower HB.out.size
          clear hO3 hB3
          cases hs : stepV (rs.map Ru.abs) fs i us[k]
          · rw [hs] at hy hbb
            have hbb' : bb = false := hbb
            subst hbb'
            have HE := Lib.hid (HQ.out none (HR.out none (by rw [HDR.out]; exact .fail _ _ _ i HF1.out hs)))
            clear hs hy hbb
            go_wp2
            go_ret2
            exact ⟨none, HE.out, none, [], 0, false, rfl, rfl, rfl, .inl rfl, Nat.le_refl _, HB3.out⟩
          · rename_i ys'
            rw [hs] at hy hbb
            have hy' : ys = ys' := hy
            have hbb' : bb = true := hbb
            subst hbb' hy'
            have hy40 := stepV_len hs
            have HRN : Hid (∀ o, Rew (rs.map Ru.abs) (us.drop (k + 1)) ys o → Rew (rs.map Ru.abs) us [0] o) := fun o h => HR.out o (by rw [HDR.out]; exact .step _ _ _ _ i _ HF1.out hs h)
            clear hs hy hbb
            go_wp2
            go_roundw
            case rel => exact ⟨k + 1, A3, ys, c3, by omega, by go_num, rfl, hyc, hy40, HRN.out, HO3.out, HB3.out, HU3.out⟩
            case measure => simp [intOf]; omega
      · obtain rfl : k = us.length := by omega
        have HE := Lib.hid (HQ.out (some fs) (HR.out (some fs) (by rw [List.drop_length]; exact .done fs)))
        go_wp2
        go_ret2
        exact ⟨some fs, HE.out, A', fs, c', true, rfl, rfl, rfl, HO.out, hfc, HB.out⟩
  · have HE : Hid (QR n t (rs.map Ru.abs) us none) := ⟨fun h => absurd h hq, fun _ => rfl⟩
    cases hg : goodG n t (rs.map Ru.abs)
    case' true => have h60 : 60 < us.length := by by_cases e : us.length ≤ 60; exact absurd ⟨hg, e⟩ hq; omega
    all_goals
      rw [hg] at HC
      clear hg hq
      go_enter Tryd.func38, Tryd.ntmps38
      go_wp2_with fail
      refine HC.out.mono ?_
      rintro e w1 ⟨rfl, hB1⟩
      have HB1 : Hid (Below w.heap.size w w1) := HB0.out.trans (hB1.mono HB0.out.size)
      clear hB1
      go_wp2
      go_ret2
      exact ⟨none, HE.out, none, [], 0, false, rfl, rfl, rfl, .inl rfl, Nat.le_refl _, HB1.out⟩

end Go.Proofs.YtkghblgiojidgaaDoor
