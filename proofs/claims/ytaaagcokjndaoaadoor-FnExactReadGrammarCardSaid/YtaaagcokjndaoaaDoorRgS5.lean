/- What the reference's ReadGrammar answers. -/
import Derived.Test.YtaaagcokjndaoaaDoorRgS4
namespace Go.Proofs.YtaaagcokjndaoaaDoor
open Go.RowKit

theorem textF_hb {s : ByteArray} {c : Int} {p : Nat} (h : headF s = .bad c p) : textF s = .bad c p := by unfold textF; rw [h]
theorem textF_lb {s : ByteArray} {a : Int × Int} {k : Nat} {c : Int} {p : Nat} (h : headF s = .ok a k) (hl : linesF a.1 a.2 s 17 [] k = .bad c p) : textF s = .bad c p := by unfold textF; simp only [h, hl]
theorem textF_lo {s : ByteArray} {a : Int × Int} {k k' : Nat} {ss : List (Int × List Int)} (h : headF s = .ok a k) (hl : linesF a.1 a.2 s 17 [] k = .ok ss k') : textF s = .ok (a, ss) k' := by unfold textF; simp only [h, hl]
theorem headF_ok {s : ByteArray} {a : Int × Int} {k : Nat} (h : headF s = .ok a k) : (1 ≤ a.1 ∧ a.1 ≤ 6) ∧ (1 ≤ a.2 ∧ a.2 ≤ 4) ∧ k = 4 ∧ 4 ≤ s.size := by
  cases p0 : inB 1 6 (chr s 0 - 48)
  · rw [headF_0 p0] at h; cases h
  by_cases h1 : chr s 1 = 32
  · cases p2 : inB 1 4 (chr s 2 - 48)
    · rw [headF_2 p0 h1 p2] at h; cases h
    by_cases h3 : chr s 3 = 10
    · rw [headF_4 p0 h1 p2 h3] at h
      injection h with e1 e2
      subst e1 e2
      have := chr_in (s := s) (k := 3) (by omega)
      exact ⟨⟨inB_lo p0, inB_hi p0⟩, ⟨inB_lo p2, inB_hi p2⟩, rfl, by omega⟩
    · rw [headF_3 p0 h1 p2 h3] at h; cases h
  · rw [headF_1 p0 h1] at h; cases h

/-- The reader, as it stands between two lines: all well; or given up. -/
def Between (W : World) (R lo : Nat) (s : ByteArray) (a : Int × Int) (g : Nat) (b : Bool) (wr : World) : Prop :=
  Save (fun b => b = R ∨ lo ≤ b) W wr ∧ match b with
    | true => ∃ (k f : Nat) (ds : List Ru) (Av : Option Addr) (cv : Nat), g = f + 1 ∧ f + ds.length = 17 ∧ ds.length ≤ 16 ∧ k ≤ s.size ∧ Rd2 wr R s (k : Int) 0 a.1 a.2 (.slice Av ds.length cv) ∧ RulesW wr lo (.slice Av ds.length cv) ds ∧ linesF a.1 a.2 s 17 [] 4 = linesF a.1 a.2 s f (ds.map Ru.abs) k
    | false => ∃ (code : Int) (p : Nat) (v : Value), textF s = .bad code p ∧ Rd2 wr R s (p : Int) code a.1 a.2 v

set_option maxRecDepth 20000 in
set_option maxHeartbeats 4000000 in
theorem specRG_any (s : ByteArray) (w : World) (h3 : s.size ≤ 1048576) :
    Calls Tryd.prog 16 #[.string s] w (GaveG4 w (outN (rgO s)) (outT (rgO s)) (outS (rgO s)) (outC (rgO s)) (outP (rgO s)) (outB (rgO s))) := by
  have HB0 : Hid (Below w.heap.size w (w.alloc (.cells #[.int .i64 0, .int .i64 0, .slice none 0 0] 26))) := by show Below _ _ _; go_grown
  have HG0 := Lib.hid (Row.new w 26 #[.int .i64 0, .int .i64 0, .slice none 0 0])
  by_cases hl : s.size ≤ 600
  · have HE : Hid (rgO s = textF s) := if_pos hl
    go_enter Tryd.func16, Tryd.ntmps16
    go_wp2_with fail
    have hRd : Rd2 ((w.alloc (.cells #[.int .i64 0, .int .i64 0, .slice none 0 0] 26)).alloc (.cells #[.string s, .int .i64 0, .int .i64 0, .int .i64 0, .int .i64 0, .slice none 0 0] 82)) (w.heap.size + 1) s ((0 : Nat) : Int) 0 0 0 (.slice none 0 0) := by
      have := Row.new (w.alloc (.cells #[.int .i64 0, .int .i64 0, .slice none 0 0] 26)) 82 #[.string s, .int .i64 0, .int .i64 0, .int .i64 0, .int .i64 0, .slice none 0 0]
      rw [World.size_alloc] at this
      exact this
    have hGW := HG0.out.alloc (.cells #[.string s, .int .i64 0, .int .i64 0, .int .i64 0, .int .i64 0, .slice none 0 0] 82)
    have hBA : Below w.heap.size w ((w.alloc (.cells #[.int .i64 0, .int .i64 0, .slice none 0 0] 26)).alloc (.cells #[.string s, .int .i64 0, .int .i64 0, .int .i64 0, .int .i64 0, .slice none 0 0] 82)) := by go_grown
    generalize ((w.alloc (.cells #[.int .i64 0, .int .i64 0, .slice none 0 0] 26)).alloc (.cells #[.string s, .int .i64 0, .int .i64 0, .int .i64 0, .int .i64 0, .slice none 0 0] 82)) = W at hRd hGW hBA ⊢
    have HBA := Lib.hid hBA; clear hBA
    have HGW := Lib.hid hGW; clear hGW
    have hRl := Row.lt hRd
    refine (head_any (w.heap.size + 1) s 0 _ hRd h3).mono ?_
    rintro e w1 ⟨hS1, h1⟩
    clear hRd
    cases hh : headF s with
    | bad code p =>
      rw [hh] at h1
      obtain ⟨rfl, n', t', v', hR1⟩ := h1
      have HO : Hid (rgO s = .bad code p) := HE.out.trans (textF_hb hh)
      clear hh
      have HG1 := Lib.hid (HGW.out.save hS1 (fun e : w.heap.size = w.heap.size + 1 => by omega))
      have HW1 : Hid (Below w.heap.size w w1) := HBA.out.trans (hS1.below HBA.out.size fun i hi (e : i = w.heap.size + 1) => by omega)
      clear hS1
      have c1 : w1.cell? ⟨w.heap.size + 1, 1, none⟩ = some (.int .i64 (p : Int)) := hR1.cell 1
      have c2 : w1.cell? ⟨w.heap.size + 1, 2, none⟩ = some (.int .i64 code) := hR1.cell 2
      have g0 : w1.cell? ⟨w.heap.size, 0, none⟩ = some (.int .i64 0) := HG1.out.cell 0
      have g1 : w1.cell? ⟨w.heap.size, 1, none⟩ = some (.int .i64 0) := HG1.out.cell 1
      have g2 : w1.cell? ⟨w.heap.size, 2, none⟩ = some (.slice none 0 0) := HG1.out.cell 2
      have z0 := HG1.out.frozen 0
      have z1 := HG1.out.frozen 1
      have z2 := HG1.out.frozen 2
      clear hR1
      go_wp2
      refine wp_loop_rounds 1 ?_
      rw [rounds_succ]
      go_wp2
      go_region
      all_goals
        go_wp2
        have hfr := ((HG1.out.set 0 (.int .i64 0)).set 1 (.int .i64 0)).set 2 (.slice none 0 0)
        have d0 := hfr.cell 0
        have d1 := hfr.cell 1
        have d2 := hfr.cell 2
        simp at d0 d1 d2
        refine bodyPost_ret (v := .tuple #[.agg #[.int .i64 0, .int .i64 0, .slice none 0 0], .int .i64 code, .int .i64 (p : Int), .bool false]) (by simp [results, Tryd.results16, go_sem, d0, d1, d2]) rfl ?_
        rw [HO.out]
        refine ⟨none, 0, [], rfl, by simp, .inl rfl, rfl, ?_⟩
        exact Below.trans (((HW1.out.setCell (by simp) _).setCell (by simp) _).setCell (by simp) _) ⟨rfl, rfl, rfl, Nat.le_refl _, fun _ _ => rfl⟩
    | ok a k0 =>
      rw [hh] at h1
      obtain ⟨rfl, hR1⟩ := h1
      obtain ⟨⟨n1, n2⟩, ⟨t1, t2⟩, rfl, hk4⟩ := headF_ok hh
      have HH := Lib.hid hh; clear hh
      have HS1 := Lib.hid hS1; clear hS1
      have HR1 := Lib.hid hR1; clear hR1
      have hWl : W.heap.size = w.heap.size + 2 ∨ w.heap.size + 2 ≤ W.heap.size := by omega
      go_wp2
      go_loopg [7] 18 (fun g okv wr => ∃ b, okv = .bool b ∧ Hid (Between W (w.heap.size + 1) (w.heap.size + 2) s a g b wr))
      case atStart => exact ⟨true, rfl, HS1.out.more, 4, 17, [], none, 0, rfl, rfl, by simp, hk4, HR1.out, RulesW.start _ _, rfl⟩
      case round =>
        clear HR1 HS1
        obtain ⟨b, rfl, HBt⟩ := hrel
        obtain ⟨hS, hb⟩ := HBt.out
        cases b with
        | false =>
          obtain ⟨code, p, v, hT, hR1⟩ := hb
          have HO : Hid (rgO s = .bad code p) := HE.out.trans hT
          clear hT
          have HG1 := Lib.hid (HGW.out.save hS (fun e => by omega))
          have HW1 : Hid (Below w.heap.size w wr) := HBA.out.trans (hS.below HBA.out.size fun i hi e => by omega)
          have c1 : wr.cell? ⟨w.heap.size + 1, 1, none⟩ = some (.int .i64 (p : Int)) := hR1.cell 1
          have c2 : wr.cell? ⟨w.heap.size + 1, 2, none⟩ = some (.int .i64 code) := hR1.cell 2
          have g0 : wr.cell? ⟨w.heap.size, 0, none⟩ = some (.int .i64 0) := HG1.out.cell 0
          have g1 : wr.cell? ⟨w.heap.size, 1, none⟩ = some (.int .i64 0) := HG1.out.cell 1
          have g2 : wr.cell? ⟨w.heap.size, 2, none⟩ = some (.slice none 0 0) := HG1.out.cell 2
          have z0 := HG1.out.frozen 0
          have z1 := HG1.out.frozen 1
          have z2 := HG1.out.frozen 2
          clear hR1 hS HBt
          go_wp2
          go_region
          all_goals
            go_wp2
            have hfr := ((HG1.out.set 0 (.int .i64 0)).set 1 (.int .i64 0)).set 2 (.slice none 0 0)
            have d0 := hfr.cell 0
            have d1 := hfr.cell 1
            have d2 := hfr.cell 2
            simp at d0 d1 d2
            refine bodyPost_ret (v := .tuple #[.agg #[.int .i64 0, .int .i64 0, .slice none 0 0], .int .i64 code, .int .i64 (p : Int), .bool false]) (by simp [results, Tryd.results16, go_sem, d0, d1, d2]) rfl ?_
            rw [HO.out]
            refine ⟨none, 0, [], rfl, by simp, .inl rfl, rfl, ?_⟩
            exact Below.trans (((HW1.out.setCell (by simp) _).setCell (by simp) _).setCell (by simp) _) ⟨rfl, rfl, rfl, Nat.le_refl _, fun _ _ => rfl⟩
        | true =>
          obtain ⟨k, f, ds, Av, cv, hg, hfd, hdl, hk, hR, hRU, hE⟩ := hb
          have HS := Lib.hid hS; clear hS
          have HRk := Lib.hid hR; clear hR
          have HRU := Lib.hid hRU; clear hRU
          have HEq := Lib.hid hE; clear hE
          clear HBt
          have hszr := HS.out.size
          obtain ⟨f', hf'⟩ : ∃ f', f = f' + 1 := ⟨f - 1, by omega⟩
          have c1 : wr.cell? ⟨w.heap.size + 1, 1, none⟩ = some (.int .i64 (k : Int)) := HRk.out.cell 1
          by_cases hlt : k < s.size
          · have hlt' : (k : Int) < (s.size : Int) := by omega
            have HLN := Lib.hid (line_any (w.heap.size + 1) (w.heap.size + 2) s k 0 a.1 a.2 Av cv ds wr HRk.out HRU.out hlt h3 (by omega) n2 (by omega) t2 (by omega) (by omega) hdl)
            cases hll : lineF a.1 a.2 s (ds.map Ru.abs) k with
            | bad code p =>
              have HTB : Hid (textF s = .bad code p) := textF_lb HH.out (by rw [HEq.out, hf']; exact linesF_bad hlt hll)
              rw [hll] at HLN
              clear hll
              go_wp2_with fail
              refine HLN.out.mono ?_
              rintro e w2 ⟨hS2, rfl, v2, hR2⟩
              have HS2 := Lib.hid (HS.out.trans hS2); clear hS2
              have HR2 := Lib.hid hR2; clear hR2
              go_wp2
              go_roundg f
              case measure => omega
              case rel => exact ⟨false, rfl, HS2.out, code, p, v2, HTB.out, HR2.out⟩
            | ok u k' =>
              obtain ⟨hk', hu4, hn16⟩ := lineF_bd hll
              rw [List.length_map] at hn16
              have HEq2 : Hid (linesF a.1 a.2 s 17 [] 4 = linesF a.1 a.2 s f' (ds.map Ru.abs ++ [u]) k') := by show _ = _; rw [HEq.out, hf']; exact linesF_ok hlt hll
              rw [hll] at HLN
              clear hll
              go_wp2_with fail
              refine HLN.out.mono ?_
              rintro e w2 ⟨hS2, rfl, v2, A2, cc2, hR2, hRU2⟩
              have HS2 := Lib.hid (HS.out.trans hS2); clear hS2
              have HR2 := Lib.hid hR2; clear hR2
              have HRU2 := Lib.hid hRU2; clear hRU2
              go_wp2
              go_roundg f
              case measure => omega
              case rel =>
                obtain ⟨Av2, cv2, e2, _, _⟩ := HRU2.out.slice
                have hR2 := HR2.out
                have hRU2 := HRU2.out
                rw [e2] at hR2 hRU2
                refine ⟨true, rfl, HS2.out, k', f', ds ++ [Ru.mk u.1 A2 u.2 cc2], Av2, cv2, hf', by simp; omega, by simp; omega, hk', hR2, hRU2, ?_⟩
                rw [HEq2.out, List.map_append]
                rfl
          · have hlt' : ¬ (k : Int) < (s.size : Int) := by omega
            have HO : Hid (rgO s = .ok (a, ds.map Ru.abs) k) := HE.out.trans (textF_lo HH.out (by rw [HEq.out, hf']; exact linesF_end hlt))
            obtain ⟨Ad, cd, e2, hcap, hOR⟩ := HRU.out.slice
            injection e2 with e4 e5 e6
            subst e4 e6
            clear e5
            have HOR := Lib.hid hOR; clear hOR
            have HG1 := Lib.hid (HGW.out.save HS.out (fun e => by omega))
            have HW1 : Hid (Below w.heap.size w wr) := HBA.out.trans (HS.out.below HBA.out.size fun i hi e => by omega)
            have c3 : wr.cell? ⟨w.heap.size + 1, 3, none⟩ = some (.int .i64 a.1) := HRk.out.cell 3
            have c4 : wr.cell? ⟨w.heap.size + 1, 4, none⟩ = some (.int .i64 a.2) := HRk.out.cell 4
            have c5 : wr.cell? ⟨w.heap.size + 1, 5, none⟩ = some (.slice Av ds.length cv) := HRk.out.cell 5
            have g0 : wr.cell? ⟨w.heap.size, 0, none⟩ = some (.int .i64 0) := HG1.out.cell 0
            have g1 : wr.cell? ⟨w.heap.size, 1, none⟩ = some (.int .i64 0) := HG1.out.cell 1
            have g2 : wr.cell? ⟨w.heap.size, 2, none⟩ = some (.slice none 0 0) := HG1.out.cell 2
            have z0 := HG1.out.frozen 0
            have z1 := HG1.out.frozen 1
            have z2 := HG1.out.frozen 2
            go_wp2
            have hfr := ((HG1.out.set 0 (.int .i64 a.1)).set 1 (.int .i64 a.2)).set 2 (.slice Av ds.length cv)
            have d0 := hfr.cell 0
            have d1 := hfr.cell 1
            have d2 := hfr.cell 2
            simp at d0 d1 d2
            refine bodyPost_ret (v := .tuple #[.agg #[.int .i64 a.1, .int .i64 a.2, .slice Av ds.length cv], .int .i64 0, .int .i64 0, .bool true]) (by simp [results, Tryd.results16, go_sem, d0, d1, d2]) rfl ?_
            rw [HO.out]
            refine ⟨Av, cv, ds, rfl, hcap, ?_, rfl, ((HW1.out.setCell (by simp) _).setCell (by simp) _).setCell (by simp) _⟩
            exact OwnR.lower (((HOR.out.low (by simp) _).low (by simp) _).low (by simp) _) (by omega)
  · have HE : Hid (rgO s = .bad 1 0) := if_neg hl
    have hl' : (600 : Int) < (s.size : Int) := by omega
    go_enter Tryd.func16, Tryd.ntmps16
    go_wp2
    have d0 := HG0.out.cell 0
    have d1 := HG0.out.cell 1
    have d2 := HG0.out.cell 2
    simp at d0 d1 d2
    refine bodyPost_ret (v := .tuple #[.agg #[.int .i64 0, .int .i64 0, .slice none 0 0], .int .i64 1, .int .i64 0, .bool false]) (by simp [results, Tryd.results16, go_sem]) rfl ?_
    rw [HE.out]
    exact ⟨none, 0, [], rfl, by simp, .inl rfl, rfl, HB0.out⟩

end Go.Proofs.YtaaagcokjndaoaaDoor
