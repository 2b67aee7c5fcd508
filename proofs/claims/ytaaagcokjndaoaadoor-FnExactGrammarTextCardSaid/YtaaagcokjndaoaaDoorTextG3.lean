/- What the program's GrammarText answers. -/
import Derived.Test.YtaaagcokjndaoaaDoorTextG2
import Derived.Deep.RegionHeld3
import Derived.Maps.AppendAt
namespace Go.Proofs.YtaaagcokjndaoaaDoor
open Go.RowKit

def bytesV (L : List UInt8) : List Value := L.map fun b => Value.int .u8 (b.toNat : Int)
theorem bytesV_length (L : List UInt8) : (bytesV L).length = L.length := by simp [bytesV]
theorem bytesV_append (L M : List UInt8) : bytesV (L ++ M) = bytesV L ++ bytesV M := by simp [bytesV]

/-- The slice v is the call's own and reads as the bytes L. -/
def OwnB (w : World) (lo : Nat) (v : Value) (L : List UInt8) : Prop := w.ownsRow lo 5 1 v L.length (bytesV L)

theorem OwnB.at_ {w : World} {lo : Nat} {v : Value} {L : List UInt8} (h : OwnB w lo v L) (hp : 0 < L.length) : ∃ g cap, v = .slice (some ⟨g, 0, none⟩) L.length cap ∧ ∀ (j : Nat) (b : UInt8), L[j]? = some b → w.cell? ⟨g, j, none⟩ = some (.int .u8 (b.toNat : Int)) := by
  obtain ⟨hl, ⟨rfl, h0⟩ | ⟨g, cap, cur, rfl, hlo, hg, _, _, _, hx⟩⟩ := h
  · omega
  · refine ⟨g, cap, rfl, fun j b hj => ?_⟩
    have hk := (List.getElem?_eq_some_iff.1 hj).1
    have e := congrArg (fun l => l[j]?) hx
    simp only [bytesV, List.getElem?_map, hj, Option.map_some] at e
    rw [List.getElem?_take, if_pos (by omega)] at e
    rw [cell_of_row w g j cur _ _ hg]
    simpa using e

theorem own_ne {w : World} {lo size n : Nat} {e : TypeId} {v : Value} {xs : List Value} (h : w.ownsRow lo e size v n xs) : some w.heap.size ≠ v.ownBlock := fun e => by
  have := (h.lt _ e.symm).2
  omega

set_option maxRecDepth 20000 in
set_option maxHeartbeats 2000000 in
theorem implGT_any (n t : Int) (A : Option Addr) (c : Nat) (rs : List Ru) (w : World) (hx : Rls w w.heap.size A rs) (hL : Lims w) (hN : NonT w) (hT : TokT w) (hc : rs.length ≤ c) (h1 : rs.length ≤ 1048576) (h2 : ∀ u ∈ rs, u.r.length ≤ 1048576) (hf : FitR rs) :
    Calls Tryd.prog 11 #[.agg #[.int .i64 n, .int .i64 t, .slice A rs.length c]] w (GaveSB w (gtS n t (rs.map Ru.abs)) (goodG n t (rs.map Ru.abs))) := by
  obtain ⟨i0, hi0, hz0, hz1, hz2⟩ := info_of Tryd.infoByte
  have HX := Lib.hid hx; clear hx
  have HL := Lib.hid hL; clear hL
  have HNT := Lib.hid hN; clear hN
  have HTT := Lib.hid hT; clear hT
  have HF := Lib.hid hf; clear hf
  have H2 := Lib.hid h2; clear h2
  have HB0 : Hid (Below w.heap.size w (w.alloc (.cells #[.int .i64 n, .int .i64 t, .slice A rs.length c] 26))) := by show Below _ _ _; go_grown
  have B0 : Hid (Box3 (w.alloc (.cells #[.int .i64 n, .int .i64 t, .slice A rs.length c] 26)) w.heap.size (.int .i64 n) (.int .i64 t) (.slice A rs.length c)) := ⟨by simp, by simp [go_sem], by simp [go_sem], by simp [go_sem]⟩
  cases hg : goodG n t (rs.map Ru.abs)
  · have HE := Lib.hid (gtS_f hg)
    have HG := Lib.hid hg; clear hg
    go_enter Tryd.func11, Tryd.ntmps11
    go_wp2_with fail
    refine (goodGrammar_any _ _ _ _ _ _ ((HX.out.keep HB0.out).more HB0.out.size) (HL.out.keep HB0.out (Nat.le_refl _)) hc h1 H2.out HF.out).mono ?_
    rintro e w1 ⟨rfl, hB1⟩
    rw [HG.out]
    go_wp2
    go_ret2
    exact ⟨by rw [HE.out]; rfl, HB0.out.trans (hB1.mono HB0.out.size)⟩
  have hi := goodG_is hg
  have n1 := hi.1.1
  have n2 := hi.1.2
  have t1 := hi.2.1.1
  have t2 : t ≤ 6 := by have := hi.2.1.2; omega
  have hl16 : rs.length ≤ 16 := by simpa using hi.2.2.1
  clear hi
  have HE := Lib.hid (gtS_t hg)
  have HG := Lib.hid hg; clear hg
  go_enter Tryd.func11, Tryd.ntmps11
  go_wp2_with fail
  refine (goodGrammar_any _ _ _ _ _ _ ((HX.out.keep HB0.out).more HB0.out.size) (HL.out.keep HB0.out (Nat.le_refl _)) hc h1 H2.out HF.out).mono ?_
  rintro e w1 ⟨rfl, hB1⟩
  rw [HG.out]
  have BX := Lib.hid (B0.out.keep hB1 (by simp))
  obtain ⟨hsz, b0, b1, b2⟩ := BX.out
  have HB1 := Lib.hid (HB0.out.trans (hB1.mono HB0.out.size)); clear hB1 B0 HB0
  go_wp2_with fail
  go_region_held3 (fun w' => w'.cell? ⟨w.heap.size, 0, none⟩ = some (.int .i64 n) ∧ w'.cell? ⟨w.heap.size, 1, none⟩ = some (.int .i64 t) ∧ w'.cell? ⟨w.heap.size, 2, none⟩ = some (.slice A rs.length c))
    (first | exact ⟨b0, b1, b2⟩ | exact (BX.out.keep (by go_grown) BX.out.1).2)
    ((go_at_call 38
      refine (digitOf_any _ _ ?_ ?_).mono ?_
      · omega
      · omega
      rintro e w9 ⟨rfl, rfl⟩))
  rename_i hHeld
  clear hHeld b0 b1 b2
  have hBW : Below w1.heap.size w1 (w1.alloc (.cells #[.int .u8 ((digC n).toNat : Int), .int .u8 32, .int .u8 ((digC t).toNat : Int), .int .u8 10] 5)).drew := by go_grown
  have hOW : (w1.alloc (.cells #[.int .u8 ((digC n).toNat : Int), .int .u8 32, .int .u8 ((digC t).toNat : Int), .int .u8 10] 5)).drew.ownsRow w.heap.size 5 1 (.slice (some ⟨w1.heap.size, 0, none⟩) 4 4) 4 (bytesV [digC n, 32, digC t, 10]) :=
    ⟨rfl, .inr ⟨w1.heap.size, 4, _, rfl, HB1.out.size, heap_alloc_new w1 _, Nat.le_refl _, by simp [maxLen], rfl, rfl⟩⟩
  generalize (w1.alloc (.cells #[.int .u8 ((digC n).toNat : Int), .int .u8 32, .int .u8 ((digC t).toNat : Int), .int .u8 10] 5)).drew = W at hBW hOW ⊢
  obtain ⟨_, b0, b1, b2⟩ := BX.out.keep hBW BX.out.1
  have HBW := Lib.hid (HB1.out.trans (hBW.mono HB1.out.size)); clear hBW
  have HOW := Lib.hid hOW; clear hOW
  clear BX
  go_wp2
  go_loopw [4, 22] (fun v i wr => ∃ (k : Nat) (L : List UInt8), k ≤ rs.length ∧ i = .int .i64 k ∧ L.length ≤ 4 + 7 * k ∧ Below w.heap.size w wr ∧ Hid (wr.ownsRow w.heap.size 5 1 v L.length (bytesV L)) ∧ Hid (L = textR n t rs k)) (fun _ i _ => rs.length - (intOf i).toNat)
  case atStart => exact ⟨0, [digC n, 32, digC t, 10], by omega, rfl, by simp, HBW.out, HOW.out, by show _ = _; rw [textR_zero]⟩
  case round =>
    clear b0 b1 b2 HOW HBW
    obtain ⟨k, L, hk, rfl, hs, hB, HO, HS⟩ := hrel
    obtain ⟨wA, h⟩ : ∃ x, x = wr := ⟨_, rfl⟩
    subst h
    have hsz := hB.size
    by_cases hlt : k < rs.length
    · obtain ⟨b, o, l, a, r, cc, rfl, hb, he, c1', c2', c3⟩ := HX.out.at' hlt
      have c1 := (hB.cell (p := ⟨b, o + k * 2, none⟩) hb).trans c1'
      have c2 := (hB.cell (p := ⟨b, o + k * 2 + 1, none⟩) hb).trans c2'
      clear c1' c2'
      have C3 := Lib.hid c3; clear c3
      obtain ⟨l0, l1, hlen, hsy⟩ := good_at' HG.out hlt he
      have HSY := Lib.hid hsy; clear hsy
      have HST := Lib.hid (textR_step' (n := n) (t := t) hlt he); clear he
      go_wp2_with fail
      refine (letterOf_any _ _ (HNT.out.keep (hB.alloc hB.size _) (Nat.le_refl _)) (HTT.out.keep (hB.alloc hB.size _) (Nat.le_refl _)) (by omega) l1).mono ?_
      rintro e w1 ⟨rfl, rfl⟩
      have hown := (HO.out.alloc (.cells #[.int .i64 l, .slice a r.length cc] 61)).alloc (.cells #[.int .u8 ((letC l).toNat : Int), .int .u8 61] 5)
      have HW := Lib.hid hown; clear hown
      have hnew := cell_two_new (wA.alloc (.cells #[.int .i64 l, .slice a r.length cc] 61)) (.int .u8 ((letC l).toNat : Int)) (.int .u8 61) 5
      rw [World.size_alloc] at hnew
      have HNW := Lib.hid hnew; clear hnew
      have HNE := Lib.hid (own_ne HO.out)
      have HD : Hid (((wA.alloc (.cells #[.int .i64 l, .slice a r.length cc] 61)).alloc (.cells #[.int .u8 ((letC l).toNat : Int), .int .u8 61] 5)).cell? ⟨wA.heap.size, 1, none⟩ = some (.slice a r.length cc)) := by
        show _ = _
        rw [World.cell?_alloc_past _ _ _ (by simp)]
        simp [go_sem]
      go_wp2_with (at_builtin
                   refine wpList_append_own _ rfl (.tmp 26) (.tmp 30) _ rfl w.heap.size 5 i0 _ 1 1 Tryd.underlying22 hi0 hz0 hz1 hz2 rfl (by omega) _ _ _ rfl HW.out ⟨wA.heap.size + 1, 0, none⟩ 2 2 [.int .u8 ((letC l).toNat : Int), .int .u8 61] rfl rfl HNW.out (by intro u hu; simp at hu; rcases hu with rfl | rfl <;> rfl) (by unfold maxLen; omega) (by omega) (by simp; omega) ?_
                   intro v' w' h1 h2 h3
                   have HO1 := Lib.hid h1
                   have HG1 := Lib.hid h2
                   have d1 : w'.cell? ⟨wA.heap.size, 1, none⟩ = some (.slice a r.length cc) := h2.cell HD.out HNE.out
                   clear h1 h2 h3)
      have HO2 : Hid (w'.ownsRow w.heap.size 5 1 v' (L ++ [letC l, 61]).length (bytesV (L ++ [letC l, 61]))) := by
        show World.ownsRow _ _ _ _ _ _ _
        rw [List.length_append, bytesV_append]
        exact HO1.out
      have HB2 := Lib.hid (((hB.alloc hB.size (.cells #[.int .i64 l, .slice a r.length cc] 61)).alloc (by simp; omega) (.cells #[.int .u8 ((letC l).toNat : Int), .int .u8 61] 5)).grown HG1.out (by simp; omega) fun j hj => (HO.out.lt j hj).1)
      clear HO1 HG1 HW HNW HD HNE d1
      go_loopw [4, 35] (fun v i wr => ∃ (j : Nat) (M : List UInt8), j ≤ r.length ∧ i = .int .i64 j ∧ M.length ≤ 4 + 7 * k + 2 + j ∧ Below w.heap.size w wr ∧ Hid (wr.ownsRow w.heap.size 5 1 v M.length (bytesV M)) ∧ Hid (M = textR n t rs k ++ partL l r j)) (fun _ i _ => r.length - (intOf i).toNat)
      case atStart =>
        refine ⟨0, L ++ [letC l, 61], by omega, rfl, by simp; omega, HB2.out, HO2.out, ?_⟩
        show _ = _
        rw [HS.out, partL_zero]
      case round =>
        clear HO2 HB2 HO HS
        obtain ⟨j, M, hj, rfl, hs2, hB2, HO2, HS2⟩ := hrel
        have hsz2 := hB2.size
        by_cases hjl : j < r.length
        · obtain ⟨b', o', rfl, hb', d1⟩ := (C3.out.keep hB2).at_ hjl
          obtain ⟨y1, y2⟩ := HSY.out.at_ hjl
          go_wp2_with fail
          refine (letterOf_any _ _ (HNT.out.keep hB2 (Nat.le_refl _)) (HTT.out.keep hB2 (Nat.le_refl _)) y1 y2).mono ?_
          rintro e w1 ⟨rfl, rfl⟩
          have hown := HO2.out.alloc (.cells #[.int .u8 ((letC r[j]).toNat : Int)] 5)
          have HW := Lib.hid hown; clear hown
          have hnew := cell_one_new wr (.int .u8 ((letC r[j]).toNat : Int)) 5
          have HNW := Lib.hid hnew; clear hnew
          go_wp2_with (at_builtin
                       refine wpList_append_own _ rfl (.tmp 39) (.tmp 42) _ rfl w.heap.size 5 i0 _ 1 1 Tryd.underlying22 hi0 hz0 hz1 hz2 rfl (by omega) _ _ _ rfl HW.out ⟨wr.heap.size, 0, none⟩ 1 1 [.int .u8 ((letC r[j]).toNat : Int)] rfl rfl HNW.out (by intro u hu; simp at hu; subst hu; rfl) (by unfold maxLen; omega) (by omega) (by simp; omega) ?_
                       intro v' w' h1 h2 h3
                       have HO1 := Lib.hid h1
                       have HG1 := Lib.hid h2
                       clear h1 h2 h3)
          go_roundw
          case rel =>
            refine ⟨j + 1, M ++ [letC r[j]], by omega, by go_num, by simp; omega, (hB2.alloc hB2.size _).grown HG1.out (by simp; omega) fun j hj => (HO2.out.lt j hj).1, ?_, ?_⟩
            · show World.ownsRow _ _ _ _ _ _ _
              rw [List.length_append, bytesV_append]
              exact HO1.out
            · show _ = _
              rw [HS2.out, partL_step hjl, List.append_assoc]
          case measure => simp [intOf]; omega
        · obtain rfl : j = r.length := by omega
          have hown := HO2.out.alloc (.cells #[.int .u8 10] 5)
          have HW := Lib.hid hown; clear hown
          have hnew := cell_one_new wr (.int .u8 10) 5
          have HNW := Lib.hid hnew; clear hnew
          go_wp2_with (at_builtin
                       refine wpList_append_own _ rfl (.tmp 45) (.tmp 46) _ rfl w.heap.size 5 i0 _ 1 1 Tryd.underlying22 hi0 hz0 hz1 hz2 rfl (by omega) _ _ _ rfl HW.out ⟨wr.heap.size, 0, none⟩ 1 1 [.int .u8 10] rfl rfl HNW.out (by intro u hu; simp at hu; subst hu; rfl) (by unfold maxLen; omega) (by omega) (by simp; omega) ?_
                       intro v' w' h1 h2 h3
                       have HO1 := Lib.hid h1
                       have HG1 := Lib.hid h2
                       clear h1 h2 h3)
          go_roundw
          case rel =>
            refine ⟨k + 1, M ++ [10], by omega, by go_num, by simp; omega, (hB2.alloc hB2.size _).grown HG1.out (by simp; omega) fun j hj => (HO2.out.lt j hj).1, ?_, ?_⟩
            · show World.ownsRow _ _ _ _ _ _ _
              rw [List.length_append, bytesV_append]
              exact HO1.out
            · show _ = _
              rw [HS2.out, HST.out, List.append_assoc, partL_all]
          case measure => simp [intOf]; omega
    · obtain rfl : k = rs.length := by omega
      have hLp : 0 < L.length := by
        have := HS.out
        rw [this]
        simp [textR, textL]
      obtain ⟨g, cap, rfl, hcells⟩ := OwnB.at_ HO.out hLp
      have kc := bytes_string wA g L.length cap L rfl hcells
      have HE2 : Hid (textL n t (rs.map Ru.abs) = L) := by show _ = _; rw [HS.out, textR_all]
      clear hcells
      go_wp2
      go_ret2
      exact ⟨by rw [HE.out, HE2.out]; rfl, hB⟩

end Go.Proofs.YtaaagcokjndaoaaDoor
