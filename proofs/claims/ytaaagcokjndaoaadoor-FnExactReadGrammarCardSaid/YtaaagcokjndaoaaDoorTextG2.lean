/- What the reference's GrammarText answers. -/
import Derived.Test.YtaaagcokjndaoaaDoorTextG
namespace Go.Proofs.YtaaagcokjndaoaaDoor
open Go.RowKit
open Go.Sort (grow)

theorem head_str (a b : UInt8) : (((⟨#[a]⟩ : ByteArray) ++ ⟨#[32]⟩) ++ ⟨#[b]⟩) ++ ⟨#[10]⟩ = str [a, 32, b, 10] := by
  rw [ByteArray.mk_append_mk, ByteArray.mk_append_mk, ByteArray.mk_append_mk]
  rfl
theorem two_str (l : List UInt8) (a b : UInt8) : str l ++ ((⟨#[a]⟩ : ByteArray) ++ ⟨#[b]⟩) = str (l ++ [a, b]) := by
  show (⟨l.toArray⟩ : ByteArray) ++ (⟨#[a]⟩ ++ ⟨#[b]⟩) = ⟨(l ++ [a, b]).toArray⟩
  rw [ByteArray.mk_append_mk, ByteArray.mk_append_mk]
  simp
/-- A rule's line, as far as its first j symbols. -/
def partL (l : Int) (r : List Int) (j : Nat) : List UInt8 := [letC l, 61] ++ (r.take j).map letC
theorem partL_zero (l : Int) (r : List Int) : partL l r 0 = [letC l, 61] := by simp [partL]
theorem partL_step {l : Int} {r : List Int} {j : Nat} (hj : j < r.length) : partL l r (j + 1) = partL l r j ++ [letC r[j]] := by
  unfold partL
  rw [List.take_succ_eq_append_getElem hj, List.map_append, ← List.append_assoc]
  rfl
theorem partL_all (l : Int) (r : List Int) : partL l r r.length ++ [10] = lineL (l, r) := by simp [partL, lineL]
theorem partL_len (l : Int) (r : List Int) (j : Nat) : (partL l r j).length ≤ 2 + j := by simp [partL]; omega

theorem Rls.at' {w : World} {B : Nat} {A : Option Addr} {rs : List Ru} (h : Rls w B A rs) {k : Nat} (hk : k < rs.length) :
    ∃ (b o : Nat) (l : Int) (a : Option Addr) (r : List Int) (cc : Nat), A = some ⟨b, o, none⟩ ∧ b < B ∧ rs[k] = ⟨l, a, r, cc⟩ ∧ w.cell? ⟨b, o + k * 2, none⟩ = some (.int .i64 l) ∧ w.cell? ⟨b, o + k * 2 + 1, none⟩ = some (.slice a r.length cc) ∧ Ints w B a r := by
  obtain ⟨b, o, e, hb, c1, c2, c3⟩ := h.at_ hk
  exact ⟨b, o, rs[k].l, rs[k].a, rs[k].r, rs[k].c, e, hb, rfl, c1, c2, c3⟩
def Syms (r : List Int) : Prop := ∀ (j : Nat) (x : Int), r[j]? = some x → -4 ≤ x ∧ x < 6
theorem Syms.at_ {r : List Int} (h : Syms r) {j : Nat} (hj : j < r.length) : -4 ≤ r[j] ∧ r[j] < 6 := h j _ (List.getElem?_eq_getElem hj)
theorem good_at' {n t : Int} {rs : List Ru} (h : goodG n t (rs.map Ru.abs) = true) {k : Nat} (hk : k < rs.length) {l : Int} {a : Option Addr} {r : List Int} {cc : Nat} (e : rs[k] = ⟨l, a, r, cc⟩) : 0 ≤ l ∧ l < 6 ∧ r.length ≤ 4 ∧ Syms r := by
  have := good_at h hk
  rw [e] at this
  exact ⟨this.l0, this.l1, this.len, this.sym⟩
theorem textR_step' {n t : Int} {rs : List Ru} {k : Nat} (hk : k < rs.length) {l : Int} {a : Option Addr} {r : List Int} {cc : Nat} (e : rs[k] = ⟨l, a, r, cc⟩) : textR n t rs (k + 1) = textR n t rs k ++ lineL (l, r) := by
  rw [textR_step hk, e]

set_option maxRecDepth 20000 in
set_option maxHeartbeats 2000000 in
theorem l2Text_any (n t : Int) (A : Option Addr) (c : Nat) (rs : List Ru) (w : World) (hx : Rls w w.heap.size A rs) (hg : goodG n t (rs.map Ru.abs) = true) :
    Calls Tryd.prog 41 #[.agg #[.int .i64 n, .int .i64 t, .slice A rs.length c]] w fun e w' => e = .returned (.string (str (textL n t (rs.map Ru.abs)))) ∧ Below w.heap.size w w' := by
  have hi := goodG_is hg
  have n1 := hi.1.1
  have n2 := hi.1.2
  have t1 := hi.2.1.1
  have t2 : t ≤ 6 := by have := hi.2.1.2; omega
  have hl16 : rs.length ≤ 16 := by simpa using hi.2.2.1
  clear hi
  have HG := Lib.hid hg; clear hg
  have HX := Lib.hid hx; clear hx
  go_enter Tryd.func41, Tryd.ntmps41
  go_wp2_with fail
  have hBA : Below w.heap.size w (w.alloc (.cells #[.int .i64 n, .int .i64 t, .slice A rs.length c] 26)) := by go_grown
  have B0 : Box3 (w.alloc (.cells #[.int .i64 n, .int .i64 t, .slice A rs.length c] 26)) w.heap.size (.int .i64 n) (.int .i64 t) (.slice A rs.length c) := ⟨by simp, by simp [go_sem], by simp [go_sem], by simp [go_sem]⟩
  generalize (w.alloc (.cells #[.int .i64 n, .int .i64 t, .slice A rs.length c] 26)) = W at hBA B0 ⊢
  obtain ⟨_, b0, b1, b2⟩ := B0
  have p0 := cell_regrown b0
  have p1 := cell_regrown b1
  have p2 := cell_regrown b2
  have HRG : Hid (∀ d os, Below w.heap.size w (grow (redrawn W d) os)) := fun d os => hBA.trans ((below_regrown W d os).mono hBA.size)
  clear b0 b1 b2 hBA
  have HCN : Hid (∀ d os, Calls Tryd.prog 71 #[.int .i64 n] (grow (redrawn W d) os) fun e w' => e = .returned (.string ⟨#[digC n]⟩) ∧ Below (grow (redrawn W d) os).heap.size (grow (redrawn W d) os) w') := fun d os => l1Num_any n _ n1 n2
  have HCT : Hid (∀ d os, Calls Tryd.prog 71 #[.int .i64 t] (grow (redrawn W d) os) fun e w' => e = .returned (.string ⟨#[digC t]⟩) ∧ Below (grow (redrawn W d) os).heap.size (grow (redrawn W d) os) w') := fun d os => l1Num_any t _ t1 t2
  refine wp_region_quiet_below (by kernel_rfl) (by kernel_rfl) ?_
  go_big_quiet_step (exact Calls.regrown_of (HCN.out _ _))
  go_big_quiet_step (exact Calls.regrown_of (HCN.out _ _))
  go_big_quiet_step (exact Calls.regrown_of (HCN.out _ _))
  go_big_quiet_step (exact Calls.regrown_of (HCN.out _ _))
  go_big_quiet_step (exact Calls.regrown_of (HCT.out _ _))
  go_big_quiet_step (exact Calls.regrown_of (HCT.out _ _))
  go_big_quiet_step (exact Calls.regrown_of (HCT.out _ _))
  go_big_quiet_step (exact Calls.regrown_of (HCT.out _ _))
  go_big_quiet_step (exact Calls.regrown_of (HCT.out _ _))
  go_big_quiet_step (exact Calls.regrown_of (HCT.out _ _))
  refine wpQuiet_nil ?_
  intro _ hw'
  obtain ⟨⟨dq, osq⟩, hw''⟩ := hw'
  subst hw''
  have q2 := p2 dq osq
  have HB1 := Lib.hid (HRG.out dq osq)
  clear p0 p1 p2 HCN HCT HRG
  go_wp2
  go_loopw [3, 20] (fun v i wr => ∃ (k : Nat) (s : ByteArray), k ≤ rs.length ∧ i = .int .i64 k ∧ v = .string s ∧ s.size ≤ 4 + 7 * k ∧ Below w.heap.size w wr ∧ Hid (s = str (textR n t rs k))) (fun _ i _ => rs.length - (intOf i).toNat)
  case atStart => exact ⟨0, _, by omega, rfl, rfl, by rw [head_str, str_size]; simp, HB1.out, by show _ = _; rw [head_str, textR_zero]⟩
  case round =>
    clear q2
    obtain ⟨k, s, hk, rfl, rfl, hs, hB, HS⟩ := hrel
    obtain ⟨wA, h⟩ : ∃ x, x = wr := ⟨_, rfl⟩
    subst h
    by_cases hlt : k < rs.length
    · obtain ⟨b, o, l, a, r, cc, rfl, hb, he, c1, c2, c3⟩ := (HX.out.keep hB).at' hlt
      have C3 := Lib.hid (c3.more hB.size); clear c3
      obtain ⟨l0, l1, hlen, hsy⟩ := good_at' HG.out hlt he
      have HSY := Lib.hid hsy; clear hsy
      have HST := Lib.hid (textR_step' (n := n) (t := t) hlt he); clear he
      go_wp2_with fail
      refine (l2Letter_any _ _ (by omega) l1).mono ?_
      rintro e w1 ⟨rfl, rfl⟩
      go_wp2
      go_loopw [3, 33] (fun v i wr => ∃ (j : Nat) (s2 : ByteArray), j ≤ r.length ∧ i = .int .i64 j ∧ v = .string s2 ∧ s2.size ≤ 4 + 7 * k + 2 + j ∧ Below w.heap.size w wr ∧ Below wA.heap.size wA wr ∧ Hid (s2 = str (textR n t rs k ++ partL l r j))) (fun _ i _ => r.length - (intOf i).toNat)
      case atStart =>
        refine ⟨0, _, by omega, rfl, rfl, ?_, hB.alloc hB.size _, by go_grown, ?_⟩
        · have e1 : (s ++ ((⟨#[letC l]⟩ : ByteArray) ++ ⟨#[61]⟩)).size = s.size + 2 := by rw [ByteArray.size_append, ByteArray.size_append]; rfl
          omega
        · show _ = _
          rw [HS.out, two_str, partL_zero]
      case round =>
        obtain ⟨j, s2, hj, rfl, rfl, hs2, hB2, hB3, HS2⟩ := hrel
        by_cases hjl : j < r.length
        · obtain ⟨b', o', rfl, hb', d1⟩ := (C3.out.keep hB3).at_ hjl
          obtain ⟨y1, y2⟩ := HSY.out.at_ hjl
          go_wp2_with fail
          refine (l2Letter_any _ _ y1 y2).mono ?_
          rintro e w1 ⟨rfl, rfl⟩
          go_wp2
          go_roundw
          case rel =>
            refine ⟨j + 1, _, by omega, by go_num, rfl, ?_, hB2, hB3, ?_⟩
            · have e1 : (s2 ++ (⟨#[letC r[j]]⟩ : ByteArray)).size = s2.size + 1 := by rw [ByteArray.size_append]; rfl
              omega
            · show _ = _
              rw [HS2.out, str_snoc, partL_step hjl, List.append_assoc]
          case measure => simp [intOf]; omega
        · obtain rfl : j = r.length := by omega
          go_wp2
          go_roundw
          case rel =>
            refine ⟨k + 1, _, by omega, by go_num, rfl, ?_, hB2, ?_⟩
            · have e1 : (s2 ++ (⟨#[10]⟩ : ByteArray)).size = s2.size + 1 := by rw [ByteArray.size_append]; rfl
              omega
            · show _ = _
              rw [HS2.out, str_snoc, HST.out, List.append_assoc, partL_all]
          case measure => simp [intOf]; omega
    · obtain rfl : k = rs.length := by omega
      have hE : str (textL n t (rs.map Ru.abs)) = s := by rw [HS.out, textR_all]
      have HE := Lib.hid hE; clear hE
      go_wp2
      go_ret
      exact ⟨by rw [HE.out]; rfl, hB⟩

set_option maxHeartbeats 400000 in
theorem specGT_any (n t : Int) (A : Option Addr) (c : Nat) (rs : List Ru) (w : World) (hx : Rls w w.heap.size A rs) (hc : rs.length ≤ c) (h1 : rs.length ≤ 1048576) (h2 : ∀ u ∈ rs, u.r.length ≤ 1048576) :
    Calls Tryd.prog 12 #[.agg #[.int .i64 n, .int .i64 t, .slice A rs.length c]] w (GaveSB w (gtS n t (rs.map Ru.abs)) (goodG n t (rs.map Ru.abs))) := by
  have HX := Lib.hid hx; clear hx
  have H2 := Lib.hid h2; clear h2
  have HB0 : Hid (Below w.heap.size w (w.alloc (.cells #[.int .i64 n, .int .i64 t, .slice A rs.length c] 26))) := by show Below _ _ _; go_grown
  have B0 : Hid (Box3 (w.alloc (.cells #[.int .i64 n, .int .i64 t, .slice A rs.length c] 26)) w.heap.size (.int .i64 n) (.int .i64 t) (.slice A rs.length c)) := ⟨by simp, by simp [go_sem], by simp [go_sem], by simp [go_sem]⟩
  cases hg : goodG n t (rs.map Ru.abs)
  · have HE := Lib.hid (gtS_f hg)
    have HG := Lib.hid hg; clear hg
    go_enter Tryd.func12, Tryd.ntmps12
    go_wp2_with fail
    refine (specGood_any _ _ _ _ _ _ ((HX.out.keep HB0.out).more HB0.out.size) hc h1 H2.out).mono ?_
    rintro e w1 ⟨rfl, hB1⟩
    rw [HG.out]
    go_wp2
    go_ret2
    exact ⟨by rw [HE.out]; rfl, HB0.out.trans (hB1.mono HB0.out.size)⟩
  have HE := Lib.hid (gtS_t hg)
  have HG := Lib.hid hg; clear hg
  go_enter Tryd.func12, Tryd.ntmps12
  go_wp2_with fail
  refine (specGood_any _ _ _ _ _ _ ((HX.out.keep HB0.out).more HB0.out.size) hc h1 H2.out).mono ?_
  rintro e w1 ⟨rfl, hB1⟩
  rw [HG.out]
  obtain ⟨_, b0, b1, b2⟩ := B0.out.keep hB1 (by simp)
  have HB1 := Lib.hid (HB0.out.trans (hB1.mono HB0.out.size)); clear hB1
  go_wp2_with fail
  refine (l2Text_any _ _ _ _ _ _ ((HX.out.keep HB1.out).more HB1.out.size) HG.out).mono ?_
  rintro e w2 ⟨rfl, hB2⟩
  go_wp2
  go_ret2
  exact ⟨by rw [HE.out]; rfl, HB1.out.trans (hB2.mono HB1.out.size)⟩

end Go.Proofs.YtaaagcokjndaoaaDoor
