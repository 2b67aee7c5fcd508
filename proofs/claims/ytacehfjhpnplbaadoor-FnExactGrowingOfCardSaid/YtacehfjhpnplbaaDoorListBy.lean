/- The program's listBy, and the four functions that tell the members of a set. -/
import Derived.Test.YtacehfjhpnplbaaDoorInOrd
import Derived.Test.YtacehfjhpnplbaaDoorImplGood3
namespace Go.Proofs.YtacehfjhpnplbaaDoor
open Go.RowKit

/-- Where g, a new rising list of just the members of a set of which P holds; else none. -/
def GaveP (w : World) (g : Bool) (P : (Int → Bool) → Prop) (e : Ending) (w' : World) : Prop :=
  ∃ ys, (g = true → ∃ S, P S ∧ Rises ys ∧ ∀ x, x ∈ ys ↔ S x = true) ∧ (g = false → ys = []) ∧ ys.length ≤ 6 ∧ GaveIB w ys g e w'

theorem same_list {g : Bool} {P : (Int → Bool) → Prop} {ys zs : List Int} (uniq : ∀ S T, P S → P T → S = T) (h1 : g = true → ∃ S, P S ∧ Rises ys ∧ ∀ x, x ∈ ys ↔ S x = true) (h2 : g = false → ys = [])
    (k1 : g = true → ∃ S, P S ∧ Rises zs ∧ ∀ x, x ∈ zs ↔ S x = true) (k2 : g = false → zs = []) : ys = zs := by
  cases g
  · rw [h2 rfl, k2 rfl]
  · obtain ⟨S, a1, a2, a3⟩ := h1 rfl
    obtain ⟨T, b1, b2, b3⟩ := k1 rfl
    have e := uniq S T a1 b1
    subst e
    exact rises_unique a2 b2 fun x => (a3 x).trans (b3 x).symm

/-- S are the growing ones. -/
def IsGrow (ss : List (Int × List Int)) (S : Int → Bool) : Prop := ∃ P, IsLeast wayProd noS ss P ∧ IsLeast (wayGrow P) noS ss S
theorem isGrow_unique {ss : List (Int × List Int)} {S T : Int → Bool} (h : IsGrow ss S) (k : IsGrow ss T) : S = T := by
  obtain ⟨P, h1, h2⟩ := h
  obtain ⟨Q, k1, k2⟩ := k
  have e := h1.unique k1
  subst e
  exact h2.unique k2

set_option maxRecDepth 20000 in
set_option maxHeartbeats 1000000 in
theorem listBy_any (n t : Int) (A : Option Addr) (c : Nat) (rs : List Ru) (P : (Int → Bool) → Prop) (fid : Nat) (hcf : ∀ (xs : Array Value) (v : World), Sem.run Tryd.prog (callFunc fid xs) v = .ok (.enter fid xs) v)
    (hF : ∀ v : World, Rls v v.heap.size A rs → goodG n t (rs.map Ru.abs) = true → Calls Tryd.prog fid #[.slice A rs.length c] v (GaveSet v P)) (w : World) (hx : Rls w w.heap.size A rs) (hL : Lims w) (hc : rs.length ≤ c) (h1 : rs.length ≤ 1048576) (h2 : ∀ u ∈ rs, u.r.length ≤ 1048576) (hf : FitR rs) :
    Calls Tryd.prog 83 #[.agg #[.int .i64 n, .int .i64 t, .slice A rs.length c], .func (.func fid) #[] #[]] w (GaveP w (goodG n t (rs.map Ru.abs)) P) := by
  have HX := Lib.hid hx; clear hx
  have HL := Lib.hid hL; clear hL
  have HF := Lib.hid hf; clear hf
  have H2 := Lib.hid h2; clear h2
  have HFN := Lib.hid hF; clear hF
  have HB0 : Hid (Below w.heap.size w (w.alloc (.cells #[.int .i64 n, .int .i64 t, .slice A rs.length c] 26))) := by show Below _ _ _; go_grown
  have B0 : Hid (Box3 (w.alloc (.cells #[.int .i64 n, .int .i64 t, .slice A rs.length c] 26)) w.heap.size (.int .i64 n) (.int .i64 t) (.slice A rs.length c)) := ⟨by simp, by simp [go_sem], by simp [go_sem], by simp [go_sem]⟩
  cases hg : goodG n t (rs.map Ru.abs)
  · have HG := Lib.hid hg; clear hg
    go_enter Tryd.func83, Tryd.ntmps83
    go_wp2_with fail
    refine (goodGrammar_any _ _ _ _ _ _ ((HX.out.keep HB0.out).more HB0.out.size) (HL.out.keep HB0.out (Nat.le_refl _)) hc h1 H2.out HF.out).mono ?_
    rintro e w1 ⟨rfl, hB1⟩
    rw [HG.out]
    have HB1 := Lib.hid (HB0.out.trans (hB1.mono HB0.out.size)); clear hB1
    go_wp2
    go_ret2
    exact ⟨[], (fun h => by cases h), fun _ => rfl, by simp, none, 0, rfl, .inl rfl, HB1.out⟩
  · have HG := Lib.hid hg; clear hg
    go_enter Tryd.func83, Tryd.ntmps83
    go_wp2_with fail
    refine (goodGrammar_any _ _ _ _ _ _ ((HX.out.keep HB0.out).more HB0.out.size) (HL.out.keep HB0.out (Nat.le_refl _)) hc h1 H2.out HF.out).mono ?_
    rintro e w1 ⟨rfl, hB1⟩
    rw [HG.out]
    obtain ⟨_, b0, b1, b2⟩ := B0.out.keep hB1 (by simp)
    have HB1 := Lib.hid (HB0.out.trans (hB1.mono HB0.out.size)); clear hB1
    have HFF := Lib.hid (HFN.out w1 ((HX.out.keep HB1.out).more HB1.out.size) HG.out)
    go_wp2_with fail
    refine HFF.out.mono ?_
    rintro e w2 ⟨b, S, rfl, k1, k2, k3, k4⟩
    have K2 := Lib.hid k2; have K3 := Lib.hid k3; have K4 := Lib.hid (HB1.out.trans (k4.mono HB1.out.size))
    clear k1 k2 k3 k4 b0 b1 b2
    go_wp2_with fail
    refine (inOrder_any b S w2 K2.out).mono ?_
    rintro e w3 ⟨ys, j1, j2, A3, c3, rfl, j3, j4⟩
    have h6 : ys.length ≤ 6 := len6 (j1.imp fun h => by omega) (fun x hx => (j2 x).1 hx) K2.out.fits
    have J1 := Lib.hid j1; have J2 := Lib.hid j2; have J3 := Lib.hid (j3.lower K4.out.size); have J4 := Lib.hid (K4.out.trans (j4.mono K4.out.size))
    clear j1 j2 j3 j4
    go_wp2
    go_ret2
    exact ⟨ys, fun _ => ⟨S, K3.out, J1.out, J2.out⟩, (fun h => by cases h), h6, A3, c3, rfl, J3.out, J4.out⟩

set_option maxRecDepth 20000 in
theorem enter_nullableBy (xs : Array Value) (v : World) : Sem.run Tryd.prog (callFunc 84 xs) v = .ok (.enter 84 xs) v := rfl
set_option maxRecDepth 20000 in
set_option maxHeartbeats 1000000 in
theorem implNullableOf_any (n t : Int) (A : Option Addr) (c : Nat) (rs : List Ru) (w : World) (hx : Rls w w.heap.size A rs) (hL : Lims w) (hc : rs.length ≤ c) (h1 : rs.length ≤ 1048576) (h2 : ∀ u ∈ rs, u.r.length ≤ 1048576) (hf : FitR rs) :
    Calls Tryd.prog 33 #[.agg #[.int .i64 n, .int .i64 t, .slice A rs.length c]] w (GaveP w (goodG n t (rs.map Ru.abs)) (IsLeast wayNull noS (rs.map Ru.abs))) := by
  have HB0 : Hid (Below w.heap.size w (w.alloc (.cells #[.int .i64 n, .int .i64 t, .slice A rs.length c] 26))) := by show Below _ _ _; go_grown
  have HC := Lib.hid (listBy_any n t A c rs (IsLeast wayNull noS (rs.map Ru.abs)) 84 enter_nullableBy (fun v hv hg => nullableBy_any n t A c rs v hv hg) _ ((hx.keep HB0.out).more HB0.out.size) (hL.keep HB0.out (Nat.le_refl _)) hc h1 h2 hf)
  clear hx hL h2 hf
  go_enter Tryd.func33, Tryd.ntmps33
  go_wp2_with fail
  refine HC.out.mono ?_
  rintro e w1 ⟨ys, k1, k2, k3, A1, c1, rfl, k4, k5⟩
  have K1 := Lib.hid k1; have K2 := Lib.hid k2; have K4 := Lib.hid (k4.lower HB0.out.size); have K5 := Lib.hid (HB0.out.trans (k5.mono HB0.out.size))
  clear k1 k2 k4 k5
  go_wp2
  go_ret2
  exact ⟨ys, K1.out, K2.out, k3, A1, c1, rfl, K4.out, K5.out⟩

set_option maxRecDepth 20000 in
theorem enter_productiveBy (xs : Array Value) (v : World) : Sem.run Tryd.prog (callFunc 87 xs) v = .ok (.enter 87 xs) v := rfl
set_option maxRecDepth 20000 in
set_option maxHeartbeats 1000000 in
theorem implProductiveOf_any (n t : Int) (A : Option Addr) (c : Nat) (rs : List Ru) (w : World) (hx : Rls w w.heap.size A rs) (hL : Lims w) (hc : rs.length ≤ c) (h1 : rs.length ≤ 1048576) (h2 : ∀ u ∈ rs, u.r.length ≤ 1048576) (hf : FitR rs) :
    Calls Tryd.prog 40 #[.agg #[.int .i64 n, .int .i64 t, .slice A rs.length c]] w (GaveP w (goodG n t (rs.map Ru.abs)) (IsLeast wayProd noS (rs.map Ru.abs))) := by
  have HB0 : Hid (Below w.heap.size w (w.alloc (.cells #[.int .i64 n, .int .i64 t, .slice A rs.length c] 26))) := by show Below _ _ _; go_grown
  have HC := Lib.hid (listBy_any n t A c rs (IsLeast wayProd noS (rs.map Ru.abs)) 87 enter_productiveBy (fun v hv hg => productiveBy_any n t A c rs v hv hg) _ ((hx.keep HB0.out).more HB0.out.size) (hL.keep HB0.out (Nat.le_refl _)) hc h1 h2 hf)
  clear hx hL h2 hf
  go_enter Tryd.func40, Tryd.ntmps40
  go_wp2_with fail
  refine HC.out.mono ?_
  rintro e w1 ⟨ys, k1, k2, k3, A1, c1, rfl, k4, k5⟩
  have K1 := Lib.hid k1; have K2 := Lib.hid k2; have K4 := Lib.hid (k4.lower HB0.out.size); have K5 := Lib.hid (HB0.out.trans (k5.mono HB0.out.size))
  clear k1 k2 k4 k5
  go_wp2
  go_ret2
  exact ⟨ys, K1.out, K2.out, k3, A1, c1, rfl, K4.out, K5.out⟩

set_option maxRecDepth 20000 in
theorem enter_reachedBy (xs : Array Value) (v : World) : Sem.run Tryd.prog (callFunc 89 xs) v = .ok (.enter 89 xs) v := rfl
set_option maxRecDepth 20000 in
set_option maxHeartbeats 1000000 in
theorem implReachedOf_any (n t : Int) (A : Option Addr) (c : Nat) (rs : List Ru) (w : World) (hx : Rls w w.heap.size A rs) (hL : Lims w) (hc : rs.length ≤ c) (h1 : rs.length ≤ 1048576) (h2 : ∀ u ∈ rs, u.r.length ≤ 1048576) (hf : FitR rs) :
    Calls Tryd.prog 42 #[.agg #[.int .i64 n, .int .i64 t, .slice A rs.length c]] w (GaveP w (goodG n t (rs.map Ru.abs)) (IsLeast wayReach (oneS 0) (rs.map Ru.abs))) := by
  have HB0 : Hid (Below w.heap.size w (w.alloc (.cells #[.int .i64 n, .int .i64 t, .slice A rs.length c] 26))) := by show Below _ _ _; go_grown
  have HC := Lib.hid (listBy_any n t A c rs (IsLeast wayReach (oneS 0) (rs.map Ru.abs)) 89 enter_reachedBy (fun v hv hg => reachedBy_any n t A c rs v hv hg) _ ((hx.keep HB0.out).more HB0.out.size) (hL.keep HB0.out (Nat.le_refl _)) hc h1 h2 hf)
  clear hx hL h2 hf
  go_enter Tryd.func42, Tryd.ntmps42
  go_wp2_with fail
  refine HC.out.mono ?_
  rintro e w1 ⟨ys, k1, k2, k3, A1, c1, rfl, k4, k5⟩
  have K1 := Lib.hid k1; have K2 := Lib.hid k2; have K4 := Lib.hid (k4.lower HB0.out.size); have K5 := Lib.hid (HB0.out.trans (k5.mono HB0.out.size))
  clear k1 k2 k4 k5
  go_wp2
  go_ret2
  exact ⟨ys, K1.out, K2.out, k3, A1, c1, rfl, K4.out, K5.out⟩

set_option maxRecDepth 20000 in
theorem enter_growingBy (xs : Array Value) (v : World) : Sem.run Tryd.prog (callFunc 95 xs) v = .ok (.enter 95 xs) v := rfl
set_option maxRecDepth 20000 in
set_option maxHeartbeats 1000000 in
theorem implGrowingOf_any (n t : Int) (A : Option Addr) (c : Nat) (rs : List Ru) (w : World) (hx : Rls w w.heap.size A rs) (hL : Lims w) (hc : rs.length ≤ c) (h1 : rs.length ≤ 1048576) (h2 : ∀ u ∈ rs, u.r.length ≤ 1048576) (hf : FitR rs) :
    Calls Tryd.prog 47 #[.agg #[.int .i64 n, .int .i64 t, .slice A rs.length c]] w (GaveP w (goodG n t (rs.map Ru.abs)) (IsGrow (rs.map Ru.abs))) := by
  have HB0 : Hid (Below w.heap.size w (w.alloc (.cells #[.int .i64 n, .int .i64 t, .slice A rs.length c] 26))) := by show Below _ _ _; go_grown
  have HC := Lib.hid (listBy_any n t A c rs (IsGrow (rs.map Ru.abs)) 95 enter_growingBy (fun v hv hg => growingBy_any n t A c rs v hv hg) _ ((hx.keep HB0.out).more HB0.out.size) (hL.keep HB0.out (Nat.le_refl _)) hc h1 h2 hf)
  clear hx hL h2 hf
  go_enter Tryd.func47, Tryd.ntmps47
  go_wp2_with fail
  refine HC.out.mono ?_
  rintro e w1 ⟨ys, k1, k2, k3, A1, c1, rfl, k4, k5⟩
  have K1 := Lib.hid k1; have K2 := Lib.hid k2; have K4 := Lib.hid (k4.lower HB0.out.size); have K5 := Lib.hid (HB0.out.trans (k5.mono HB0.out.size))
  clear k1 k2 k4 k5
  go_wp2
  go_ret2
  exact ⟨ys, K1.out, K2.out, k3, A1, c1, rfl, K4.out, K5.out⟩

end Go.Proofs.YtacehfjhpnplbaaDoor
