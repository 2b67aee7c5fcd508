/- The law of FnGrammarText holds of every two slices of bytes: the call returns true, and what was handed in reads afterwards as it read before. Conditions: the package's tables are as the program's text lays them (tied by the given tie). -/
import Derived.Test.YtacehfjhpnplbaaDoorZ06
import Derived.Test.YtacehfjhpnplbaaDoorZ05
import Derived.Deep.RegionHeld3
import Derived.Maps.AppendAt
import Derived.Test.YtacehfjhpnplbaaDoorZ08
import Derived.Test.YtacehfjhpnplbaaDoorZ01
import Derived.Test.YtacehfjhpnplbaaDoorZ02
import Derived.Deep.Cut
import Derived.Test.YtacehfjhpnplbaaDoorZ04
import Derived.Test.YtacehfjhpnplbaaDoorCards

namespace Go.Proofs.YtacehfjhpnplbaaDoor
open Go.RowKit

theorem textF_hb {s : ByteArray} {c : Int} {p : Nat} (h : headF s = .bad c p) : textF s = .bad c p := by unfold textF; rw [h]
theorem textF_lb {s : ByteArray} {a : Int × Int} {k : Nat} {c : Int} {p : Nat} (h : headF s = .ok a k) (hl : linesF a.1 a.2 s 17 [] k = .bad c p) : textF s = .bad c p := by unfold textF; simp only [h, hl]
theorem textF_lo {s : ByteArray} {a : Int × Int} {k k' : Nat} {ss : List (Int × List Int)} (h : headF s = .ok a k) (hl : linesF a.1 a.2 s 17 [] k = .ok ss k') : textF s = .ok (a, ss) k' := by unfold textF; simp only [h, hl]
theorem headF_ok {s : ByteArray} {a : Int × Int} {k : Nat} (h : headF s = .ok a k) : (1 ≤ a.1 ∧ a.1 ≤ 6) ∧ (1 ≤ a.2 ∧ a.2 ≤ 4) ∧ k = 4 ∧ 4 ≤ s.size := by
  cases p0 : inB 1 6 (chr s 0 - 48)
  · rw [headF_0 p0] at h; cases h
  by_cases h1 : chr s 1 = 32
  · cases p2 : inB 1 4 (chr s 2 - 48)
    · rw [headF_2 p0 h1 p2] at h; cases h
    by_cases h3 : chr s 3 = 10
    · rw [headF_4 p0 h1 p2 h3] at h
      injection h with e1 e2
      subst e1 e2
      have := chr_in (s := s) (k := 3) (by omega)
      exact ⟨⟨inB_lo p0, inB_hi p0⟩, ⟨inB_lo p2, inB_hi p2⟩, rfl, by omega⟩
    · rw [headF_3 p0 h1 p2 h3] at h; cases h
  · rw [headF_1 p0 h1] at h; cases h

/-- The reader, as it stands between two lines: all well; or given up. -/
def Between (W : World) (R lo : Nat) (s : ByteArray) (a : Int × Int) (g : Nat) (b : Bool) (wr : World) : Prop :=
  Save (fun b => b = R ∨ lo ≤ b) W wr ∧ match b with
    | true => ∃ (k f : Nat) (ds : List Ru) (Av : Option Addr) (cv : Nat), g = f + 1 ∧ f + ds.length = 17 ∧ ds.length ≤ 16 ∧ k ≤ s.size ∧ Rd2 wr R s (k : Int) 0 a.1 a.2 (.slice Av ds.length cv) ∧ RulesW wr lo (.slice Av ds.length cv) ds ∧ linesF a.1 a.2 s 17 [] 4 = linesF a.1 a.2 s f (ds.map Ru.abs) k
    | false => ∃ (code : Int) (p : Nat) (v : Value), textF s = .bad code p ∧ Rd2 wr R s (p : Int) code a.1 a.2 v

set_option maxRecDepth 20000 in
set_option maxHeartbeats 4000000 in
theorem specRG_any (s : ByteArray) (w : World) (h3 : s.size ≤ 1048576) :
    Calls Tryd.prog 19 #[.string s] w (GaveG4 w (outN (rgO s)) (outT (rgO s)) (outS (rgO s)) (outC (rgO s)) (outP (rgO s)) (outB (rgO s))) := by
  have HB0 : Hid (Below w.heap.size w (w.alloc (.cells #[.int .i64 0, .int .i64 0, .slice none 0 0] 26))) := by show Below _ _ _; go_grown
  have HG0 := Lib.hid (Row.new w 26 #[.int .i64 0, .int .i64 0, .slice none 0 0])
  by_cases hl : s.size ≤ 600
  · have HE : Hid (rgO s = textF s) := if_pos hl
    go_enter Tryd.func19, Tryd.ntmps19
    go_wp2_with fail
    have hRd : Rd2 ((w.alloc (.cells #[.int .i64 0, .int .i64 0, .slice none 0 0] 26)).alloc (.cells #[.string s, .int .i64 0, .int .i64 0, .int .i64 0, .int .i64 0, .slice none 0 0] 85)) (w.heap.size + 1) s ((0 : Nat) : Int) 0 0 0 (.slice none 0 0) := by
      have := Row.new (w.alloc (.cells #[.int .i64 0, .int .i64 0, .slice none 0 0] 26)) 85 #[.string s, .int .i64 0, .int .i64 0, .int .i64 0, .int .i64 0, .slice none 0 0]
      rw [World.size_alloc] at this
      exact this
    have hGW := HG0.out.alloc (.cells #[.string s, .int .i64 0, .int .i64 0, .int .i64 0, .int .i64 0, .slice none 0 0] 85)
    have hBA : Below w.heap.size w ((w.alloc (.cells #[.int .i64 0, .int .i64 0, .slice none 0 0] 26)).alloc (.cells #[.string s, .int .i64 0, .int .i64 0, .int .i64 0, .int .i64 0, .slice none 0 0] 85)) := by go_grown
    generalize ((w.alloc (.cells #[.int .i64 0, .int .i64 0, .slice none 0 0] 26)).alloc (.cells #[.string s, .int .i64 0, .int .i64 0, .int .i64 0, .int .i64 0, .slice none 0 0] 85)) = W at hRd hGW hBA ⊢
    have HBA := Lib.hid hBA; clear hBA
    have HGW := Lib.hid hGW; clear hGW
    have hRl := Row.lt hRd
    refine (head_any (w.heap.size + 1) s 0 _ hRd h3).mono ?_
    rintro e w1 ⟨hS1, h1⟩
    clear hRd
    cases hh : headF s with
    | bad code p =>
      rw [hh] at h1
      obtain ⟨rfl, n', t', v', hR1⟩ := h1
      have HO : Hid (rgO s = .bad code p) := HE.out.trans (textF_hb hh)
      clear hh
      have HG1 := Lib.hid (HGW.out.save hS1 (fun e : w.heap.size = w.heap.size + 1 => by omega))
      have HW1 : Hid (Below w.heap.size w w1) := HBA.out.trans (hS1.below HBA.out.size fun i hi (e : i = w.heap.size + 1) => by omega)
      clear hS1
      have c1 : w1.cell? ⟨w.heap.size + 1, 1, none⟩ = some (.int .i64 (p : Int)) := hR1.cell 1
      have c2 : w1.cell? ⟨w.heap.size + 1, 2, none⟩ = some (.int .i64 code) := hR1.cell 2
      have g0 : w1.cell? ⟨w.heap.size, 0, none⟩ = some (.int .i64 0) := HG1.out.cell 0
      have g1 : w1.cell? ⟨w.heap.size, 1, none⟩ = some (.int .i64 0) := HG1.out.cell 1
      have g2 : w1.cell? ⟨w.heap.size, 2, none⟩ = some (.slice none 0 0) := HG1.out.cell 2
      have z0 := HG1.out.frozen 0
      have z1 := HG1.out.frozen 1
      have z2 := HG1.out.frozen 2
      clear hR1
      go_wp2
      refine wp_loop_rounds 1 ?_
      rw [rounds_succ]
      go_wp2
      go_region
      all_goals
        go_wp2
        have hfr := ((HG1.out.set 0 (.int .i64 0)).set 1 (.int .i64 0)).set 2 (.slice none 0 0)
        have d0 := hfr.cell 0
        have d1 := hfr.cell 1
        have d2 := hfr.cell 2
        simp at d0 d1 d2
        refine bodyPost_ret (v := .tuple #[.agg #[.int .i64 0, .int .i64 0, .slice none 0 0], .int .i64 code, .int .i64 (p : Int), .bool false]) (by simp [results, Tryd.results19, go_sem, d0, d1, d2]) rfl ?_
        rw [HO.out]
        refine ⟨none, 0, [], rfl, by simp, .inl rfl, rfl, ?_⟩
        exact Below.trans (((HW1.out.setCell (by simp) _).setCell (by simp) _).setCell (by simp) _) ⟨rfl, rfl, rfl, Nat.le_refl _, fun _ _ => rfl⟩
    | ok a k0 =>
      rw [hh] at h1
      obtain ⟨rfl, hR1⟩ := h1
      obtain ⟨⟨n1, n2⟩, ⟨t1, t2⟩, rfl, hk4⟩ := headF_ok hh
      have HH := Lib.hid hh; clear hh
      have HS1 := Lib.hid hS1; clear hS1
      have HR1 := Lib.hid hR1; clear hR1
      have hWl : W.heap.size = w.heap.size + 2 ∨ w.heap.size + 2 ≤ W.heap.size := by omega
      go_wp2
      go_loopg [7] 18 (fun g okv wr => ∃ b, okv = .bool b ∧ Hid (Between W (w.heap.size + 1) (w.heap.size + 2) s a g b wr))
      case atStart => exact ⟨true, rfl, HS1.out.more, 4, 17, [], none, 0, rfl, rfl, by simp, hk4, HR1.out, RulesW.start _ _, rfl⟩
      case round =>
        clear HR1 HS1
        obtain ⟨b, rfl, HBt⟩ := hrel
        obtain ⟨hS, hb⟩ := HBt.out
        cases b with
        | false =>
          obtain ⟨code, p, v, hT, hR1⟩ := hb
          have HO : Hid (rgO s = .bad code p) := HE.out.trans hT
          clear hT
          have HG1 := Lib.hid (HGW.out.save hS (fun e => by omega))
          have HW1 : Hid (Below w.heap.size w wr) := HBA.out.trans (hS.below HBA.out.size fun i hi e => by omega)
          have c1 : wr.cell? ⟨w.heap.size + 1, 1, none⟩ = some (.int .i64 (p : Int)) := hR1.cell 1
          have c2 : wr.cell? ⟨w.heap.size + 1, 2, none⟩ = some (.int .i64 code) := hR1.cell 2
          have g0 : wr.cell? ⟨w.heap.size, 0, none⟩ = some (.int .i64 0) := HG1.out.cell 0
          have g1 : wr.cell? ⟨w.heap.size, 1, none⟩ = some (.int .i64 0) := HG1.out.cell 1
          have g2 : wr.cell? ⟨w.heap.size, 2, none⟩ = some (.slice none 0 0) := HG1.out.cell 2
          have z0 := HG1.out.frozen 0
          have z1 := HG1.out.frozen 1
          have z2 := HG1.out.frozen 2
          clear hR1 hS HBt
          go_wp2
          go_region
          all_goals
            go_wp2
            have hfr := ((HG1.out.set 0 (.int .i64 0)).set 1 (.int .i64 0)).set 2 (.slice none 0 0)
            have d0 := hfr.cell 0
            have d1 := hfr.cell 1
            have d2 := hfr.cell 2
            simp at d0 d1 d2
            refine bodyPost_ret (v := .tuple #[.agg #[.int .i64 0, .int .i64 0, .slice none 0 0], .int .i64 code, .int .i64 (p : Int), .bool false]) (by simp [results, Tryd.results19, go_sem, d0, d1, d2]) rfl ?_
            rw [HO.out]
            refine ⟨none, 0, [], rfl, by simp, .inl rfl, rfl, ?_⟩
            exact Below.trans (((HW1.out.setCell (by simp) _).setCell (by simp) _).setCell (by simp) _) ⟨rfl, rfl, rfl, Nat.le_refl _, fun _ _ => rfl⟩
        | true =>
          obtain ⟨k, f, ds, Av, cv, hg, hfd, hdl, hk, hR, hRU, hE⟩ := hb
          have HS := Lib.hid hS; clear hS
          have HRk := Lib.hid hR; clear hR
          have HRU := Lib.hid hRU; clear hRU
          have HEq := Lib.hid hE; clear hE
          clear HBt
          have hszr := HS.out.size
          obtain ⟨f', hf'⟩ : ∃ f', f = f' + 1 := ⟨f - 1, by omega⟩
          have c1 : wr.cell? ⟨w.heap.size + 1, 1, none⟩ = some (.int .i64 (k : Int)) := HRk.out.cell 1
          by_cases hlt : k < s.size
          · have hlt' : (k : Int) < (s.size : Int) := by omega
            have HLN := Lib.hid (line_any (w.heap.size + 1) (w.heap.size + 2) s k 0 a.1 a.2 Av cv ds wr HRk.out HRU.out hlt h3 (by omega) n2 (by omega) t2 (by omega) (by omega) hdl)
            cases hll : lineF a.1 a.2 s (ds.map Ru.abs) k with
            | bad code p =>
              have HTB : Hid (textF s = .bad code p) := textF_lb HH.out (by rw [HEq.out, hf']; exact linesF_bad hlt hll)
              rw [hll] at HLN
              clear hll
              go_wp2_with fail
              refine HLN.out.mono ?_
              rintro e w2 ⟨hS2, rfl, v2, hR2⟩
              have HS2 := Lib.hid (HS.out.trans hS2); clear hS2
              have HR2 := Lib.hid hR2; clear hR2
              go_wp2
              go_roundg f
              case measure => omega
              case rel => exact ⟨false, rfl, HS2.out, code, p, v2, HTB.out, HR2.out⟩
            | ok u k' =>
              obtain ⟨hk', hu4, hn16⟩ := lineF_bd hll
              rw [List.length_map] at hn16
              have HEq2 : Hid (linesF a.1 a.2 s 17 [] 4 = linesF a.1 a.2 s f' (ds.map Ru.abs ++ [u]) k') := by show _ = _; rw [HEq.out, hf']; exact linesF_ok hlt hll
              rw [hll] at HLN
              clear hll
              go_wp2_with fail
              refine HLN.out.mono ?_
              rintro e w2 ⟨hS2, rfl, v2, A2, cc2, hR2, hRU2⟩
              have HS2 := Lib.hid (HS.out.trans hS2); clear hS2
              have HR2 := Lib.hid hR2; clear hR2
              have HRU2 := Lib.hid hRU2; clear hRU2
              go_wp2
              go_roundg f
              case measure => omega
              case rel =>
                obtain ⟨Av2, cv2, e2, _, _⟩ := HRU2.out.slice
                have hR2 := HR2.out
                have hRU2 := HRU2.out
                rw [e2] at hR2 hRU2
                refine ⟨true, rfl, HS2.out, k', f', ds ++ [Ru.mk u.1 A2 u.2 cc2], Av2, cv2, hf', by simp; omega, by simp; omega, hk', hR2, hRU2, ?_⟩
                rw [HEq2.out, List.map_append]
                rfl
          · have hlt' : ¬ (k : Int) < (s.size : Int) := by omega
            have HO : Hid (rgO s = .ok (a, ds.map Ru.abs) k) := HE.out.trans (textF_lo HH.out (by rw [HEq.out, hf']; exact linesF_end hlt))
            obtain ⟨Ad, cd, e2, hcap, hOR⟩ := HRU.out.slice
            injection e2 with e4 e5 e6
            subst e4 e6
            clear e5
            have HOR := Lib.hid hOR; clear hOR
            have HG1 := Lib.hid (HGW.out.save HS.out (fun e => by omega))
            have HW1 : Hid (Below w.heap.size w wr) := HBA.out.trans (HS.out.below HBA.out.size fun i hi e => by omega)
            have c3 : wr.cell? ⟨w.heap.size + 1, 3, none⟩ = some (.int .i64 a.1) := HRk.out.cell 3
            have c4 : wr.cell? ⟨w.heap.size + 1, 4, none⟩ = some (.int .i64 a.2) := HRk.out.cell 4
            have c5 : wr.cell? ⟨w.heap.size + 1, 5, none⟩ = some (.slice Av ds.length cv) := HRk.out.cell 5
            have g0 : wr.cell? ⟨w.heap.size, 0, none⟩ = some (.int .i64 0) := HG1.out.cell 0
            have g1 : wr.cell? ⟨w.heap.size, 1, none⟩ = some (.int .i64 0) := HG1.out.cell 1
            have g2 : wr.cell? ⟨w.heap.size, 2, none⟩ = some (.slice none 0 0) := HG1.out.cell 2
            have z0 := HG1.out.frozen 0
            have z1 := HG1.out.frozen 1
            have z2 := HG1.out.frozen 2
            go_wp2
            have hfr := ((HG1.out.set 0 (.int .i64 a.1)).set 1 (.int .i64 a.2)).set 2 (.slice Av ds.length cv)
            have d0 := hfr.cell 0
            have d1 := hfr.cell 1
            have d2 := hfr.cell 2
            simp at d0 d1 d2
            refine bodyPost_ret (v := .tuple #[.agg #[.int .i64 a.1, .int .i64 a.2, .slice Av ds.length cv], .int .i64 0, .int .i64 0, .bool true]) (by simp [results, Tryd.results19, go_sem, d0, d1, d2]) rfl ?_
            rw [HO.out]
            refine ⟨Av, cv, ds, rfl, hcap, ?_, rfl, ((HW1.out.setCell (by simp) _).setCell (by simp) _).setCell (by simp) _⟩
            exact OwnR.lower (((HOR.out.low (by simp) _).low (by simp) _).low (by simp) _) (by omega)
  · have HE : Hid (rgO s = .bad 1 0) := if_neg hl
    have hl' : (600 : Int) < (s.size : Int) := by omega
    go_enter Tryd.func19, Tryd.ntmps19
    go_wp2
    have d0 := HG0.out.cell 0
    have d1 := HG0.out.cell 1
    have d2 := HG0.out.cell 2
    simp at d0 d1 d2
    refine bodyPost_ret (v := .tuple #[.agg #[.int .i64 0, .int .i64 0, .slice none 0 0], .int .i64 1, .int .i64 0, .bool false]) (by simp [results, Tryd.results19, go_sem]) rfl ?_
    rw [HE.out]
    exact ⟨none, 0, [], rfl, by simp, .inl rfl, rfl, HB0.out⟩

end Go.Proofs.YtacehfjhpnplbaaDoor

/- How many rules a text that is read has. -/

namespace Go.Proofs.YtacehfjhpnplbaaDoor
open Go.RowKit

theorem linesF_len {n t : Int} {s : ByteArray} : ∀ (f : Nat) (ss : List (Int × List Int)) (k : Nat) (ss' : List (Int × List Int)) (k' : Nat), linesF n t s f ss k = .ok ss' k' → (∀ u ∈ ss, u.2.length ≤ 4) → ss'.length ≤ ss.length + f ∧ ∀ u ∈ ss', u.2.length ≤ 4
  | 0, ss, k, ss', k', h, hu => by
    injection h with h
    subst h
    exact ⟨by omega, hu⟩
  | f + 1, ss, k, ss', k', h, hu => by
    by_cases hlt : k < s.size
    · cases hl : lineF n t s ss k with
      | bad c p => rw [linesF_bad hlt hl] at h; cases h
      | ok u k2 =>
        rw [linesF_ok hlt hl] at h
        have := linesF_len f (ss ++ [u]) k2 ss' k' h (fun x hx => by
          rcases List.mem_append.1 hx with h1 | h1
          · exact hu x h1
          · simp at h1; subst h1; exact (lineF_bd hl).2.1)
        simp at this
        exact ⟨by have := this.1; omega, fun x hx => this.2 x.1 x.2 hx⟩
    · rw [linesF_end hlt] at h
      injection h with h
      subst h
      exact ⟨by omega, hu⟩

theorem outS_len (s : ByteArray) : (outS (rgO s)).length ≤ 17 ∧ ∀ u ∈ outS (rgO s), u.2.length ≤ 4 := by
  unfold rgO
  split
  · cases hh : headF s with
    | bad c p => rw [textF_hb hh]; simp [outS]
    | ok a k =>
      cases hl : linesF a.1 a.2 s 17 [] k with
      | bad c p => rw [textF_lb hh hl]; simp [outS]
      | ok ss k' =>
        rw [textF_lo hh hl]
        have := linesF_len 17 [] k ss k' hl (fun u hu => by simp at hu)
        exact ⟨by have := this.1; simp at this; exact this, this.2⟩
  · simp [outS]

end Go.Proofs.YtacehfjhpnplbaaDoor

/- What the program's GrammarText answers. -/

namespace Go.Proofs.YtacehfjhpnplbaaDoor
open Go.RowKit

def bytesV (L : List UInt8) : List Value := L.map fun b => Value.int .u8 (b.toNat : Int)
theorem bytesV_length (L : List UInt8) : (bytesV L).length = L.length := by simp [bytesV]
theorem bytesV_append (L M : List UInt8) : bytesV (L ++ M) = bytesV L ++ bytesV M := by simp [bytesV]

/-- The slice v is the call's own and reads as the bytes L. -/
def OwnB (w : World) (lo : Nat) (v : Value) (L : List UInt8) : Prop := w.ownsRow lo 5 1 v L.length (bytesV L)

theorem OwnB.at_ {w : World} {lo : Nat} {v : Value} {L : List UInt8} (h : OwnB w lo v L) (hp : 0 < L.length) : ∃ g cap, v = .slice (some ⟨g, 0, none⟩) L.length cap ∧ ∀ (j : Nat) (b : UInt8), L[j]? = some b → w.cell? ⟨g, j, none⟩ = some (.int .u8 (b.toNat : Int)) := by
  obtain ⟨hl, ⟨rfl, h0⟩ | ⟨g, cap, cur, rfl, hlo, hg, _, _, _, hx⟩⟩ := h
  · omega
  · refine ⟨g, cap, rfl, fun j b hj => ?_⟩
    have hk := (List.getElem?_eq_some_iff.1 hj).1
    have e := congrArg (fun l => l[j]?) hx
    simp only [bytesV, List.getElem?_map, hj, Option.map_some] at e
    rw [List.getElem?_take, if_pos (by omega)] at e
    rw [cell_of_row w g j cur _ _ hg]
    simpa using e

theorem own_ne {w : World} {lo size n : Nat} {e : TypeId} {v : Value} {xs : List Value} (h : w.ownsRow lo e size v n xs) : some w.heap.size ≠ v.ownBlock := fun e => by
  have := (h.lt _ e.symm).2
  omega

set_option maxRecDepth 20000 in
set_option maxHeartbeats 2000000 in
theorem implGT_any (n t : Int) (A : Option Addr) (c : Nat) (rs : List Ru) (w : World) (hx : Rls w w.heap.size A rs) (hL : Lims w) (hN : NonT w) (hT : TokT w) (hc : rs.length ≤ c) (h1 : rs.length ≤ 1048576) (h2 : ∀ u ∈ rs, u.r.length ≤ 1048576) (hf : FitR rs) :
    Calls Tryd.prog 14 #[.agg #[.int .i64 n, .int .i64 t, .slice A rs.length c]] w (GaveSB w (gtS n t (rs.map Ru.abs)) (goodG n t (rs.map Ru.abs))) := by
  obtain ⟨i0, hi0, hz0, hz1, hz2⟩ := info_of Tryd.infoByte
  have HX := Lib.hid hx; clear hx
  have HL := Lib.hid hL; clear hL
  have HNT := Lib.hid hN; clear hN
  have HTT := Lib.hid hT; clear hT
  have HF := Lib.hid hf; clear hf
  have H2 := Lib.hid h2; clear h2
  have HB0 : Hid (Below w.heap.size w (w.alloc (.cells #[.int .i64 n, .int .i64 t, .slice A rs.length c] 26))) := by show Below _ _ _; go_grown
  have B0 : Hid (Box3 (w.alloc (.cells #[.int .i64 n, .int .i64 t, .slice A rs.length c] 26)) w.heap.size (.int .i64 n) (.int .i64 t) (.slice A rs.length c)) := ⟨by simp, by simp [go_sem], by simp [go_sem], by simp [go_sem]⟩
  cases hg : goodG n t (rs.map Ru.abs)
  · have HE := Lib.hid (gtS_f hg)
    have HG := Lib.hid hg; clear hg
    go_enter Tryd.func14, Tryd.ntmps14
    go_wp2_with fail
    refine (goodGrammar_any _ _ _ _ _ _ ((HX.out.keep HB0.out).more HB0.out.size) (HL.out.keep HB0.out (Nat.le_refl _)) hc h1 H2.out HF.out).mono ?_
    rintro e w1 ⟨rfl, hB1⟩
    rw [HG.out]
    go_wp2
    go_ret2
    exact ⟨by rw [HE.out]; rfl, HB0.out.trans (hB1.mono HB0.out.size)⟩
  have hi := goodG_is hg
  have n1 := hi.1.1
  have n2 := hi.1.2
  have t1 := hi.2.1.1
  have t2 : t ≤ 6 := by have := hi.2.1.2; omega
  have hl16 : rs.length ≤ 16 := by simpa using hi.2.2.1
  clear hi
  have HE := Lib.hid (gtS_t hg)
  have HG := Lib.hid hg; clear hg
  go_enter Tryd.func14, Tryd.ntmps14
  go_wp2_with fail
  refine (goodGrammar_any _ _ _ _ _ _ ((HX.out.keep HB0.out).more HB0.out.size) (HL.out.keep HB0.out (Nat.le_refl _)) hc h1 H2.out HF.out).mono ?_
  rintro e w1 ⟨rfl, hB1⟩
  rw [HG.out]
  have BX := Lib.hid (B0.out.keep hB1 (by simp))
  obtain ⟨hsz, b0, b1, b2⟩ := BX.out
  have HB1 := Lib.hid (HB0.out.trans (hB1.mono HB0.out.size)); clear hB1 B0 HB0
  go_wp2_with fail
  go_region_held3 (fun w' => w'.cell? ⟨w.heap.size, 0, none⟩ = some (.int .i64 n) ∧ w'.cell? ⟨w.heap.size, 1, none⟩ = some (.int .i64 t) ∧ w'.cell? ⟨w.heap.size, 2, none⟩ = some (.slice A rs.length c))
    (first | exact ⟨b0, b1, b2⟩ | exact (BX.out.keep (by go_grown) BX.out.1).2)
    ((go_at_call 56
      refine (digitOf_any _ _ ?_ ?_).mono ?_
      · omega
      · omega
      rintro e w9 ⟨rfl, rfl⟩))
  rename_i hHeld
  clear hHeld b0 b1 b2
  have hBW : Below w1.heap.size w1 (w1.alloc (.cells #[.int .u8 ((digC n).toNat : Int), .int .u8 32, .int .u8 ((digC t).toNat : Int), .int .u8 10] 5)).drew := by go_grown
  have hOW : (w1.alloc (.cells #[.int .u8 ((digC n).toNat : Int), .int .u8 32, .int .u8 ((digC t).toNat : Int), .int .u8 10] 5)).drew.ownsRow w.heap.size 5 1 (.slice (some ⟨w1.heap.size, 0, none⟩) 4 4) 4 (bytesV [digC n, 32, digC t, 10]) :=
    ⟨rfl, .inr ⟨w1.heap.size, 4, _, rfl, HB1.out.size, heap_alloc_new w1 _, Nat.le_refl _, by simp [maxLen], rfl, rfl⟩⟩
  generalize (w1.alloc (.cells #[.int .u8 ((digC n).toNat : Int), .int .u8 32, .int .u8 ((digC t).toNat : Int), .int .u8 10] 5)).drew = W at hBW hOW ⊢
  obtain ⟨_, b0, b1, b2⟩ := BX.out.keep hBW BX.out.1
  have HBW := Lib.hid (HB1.out.trans (hBW.mono HB1.out.size)); clear hBW
  have HOW := Lib.hid hOW; clear hOW
  clear BX
  go_wp2
  go_loopw [4, 22] (fun v i wr => ∃ (k : Nat) (L : List UInt8), k ≤ rs.length ∧ i = .int .i64 k ∧ L.length ≤ 4 + 7 * k ∧ Below w.heap.size w wr ∧ Hid (wr.ownsRow w.heap.size 5 1 v L.length (bytesV L)) ∧ Hid (L = textR n t rs k)) (fun _ i _ => rs.length - (intOf i).toNat)
  case atStart => exact ⟨0, [digC n, 32, digC t, 10], by omega, rfl, by simp, HBW.out, HOW.out, by show _ = _; rw [textR_zero]⟩
  case round =>
    clear b0 b1 b2 HOW HBW
    obtain ⟨k, L, hk, rfl, hs, hB, HO, HS⟩ := hrel
    obtain ⟨wA, h⟩ : ∃ x, x = wr := ⟨_, rfl⟩
    subst h
    have hsz := hB.size
    by_cases hlt : k < rs.length
    · obtain ⟨b, o, l, a, r, cc, rfl, hb, he, c1', c2', c3⟩ := HX.out.at' hlt
      have c1 := (hB.cell (p := ⟨b, o + k * 2, none⟩) hb).trans c1'
      have c2 := (hB.cell (p := ⟨b, o + k * 2 + 1, none⟩) hb).trans c2'
      clear c1' c2'
      have C3 := Lib.hid c3; clear c3
      obtain ⟨l0, l1, hlen, hsy⟩ := good_at' HG.out hlt he
      have HSY := Lib.hid hsy; clear hsy
      have HST := Lib.hid (textR_step' (n := n) (t := t) hlt he); clear he
      go_wp2_with fail
      refine (letterOf_any _ _ (HNT.out.keep (hB.alloc hB.size _) (Nat.le_refl _)) (HTT.out.keep (hB.alloc hB.size _) (Nat.le_refl _)) (by omega) l1).mono ?_
      rintro e w1 ⟨rfl, rfl⟩
      have hown := (HO.out.alloc (.cells #[.int .i64 l, .slice a r.length cc] 64)).alloc (.cells #[.int .u8 ((letC l).toNat : Int), .int .u8 61] 5)
      have HW := Lib.hid hown; clear hown
      have hnew := cell_two_new (wA.alloc (.cells #[.int .i64 l, .slice a r.length cc] 64)) (.int .u8 ((letC l).toNat : Int)) (.int .u8 61) 5
      rw [World.size_alloc] at hnew
      have HNW := Lib.hid hnew; clear hnew
      have HNE := Lib.hid (own_ne HO.out)
      have HD : Hid (((wA.alloc (.cells #[.int .i64 l, .slice a r.length cc] 64)).alloc (.cells #[.int .u8 ((letC l).toNat : Int), .int .u8 61] 5)).cell? ⟨wA.heap.size, 1, none⟩ = some (.slice a r.length cc)) := by
        show _ = _
        rw [World.cell?_alloc_past _ _ _ (by simp)]
        simp [go_sem]
      go_wp2_with (at_builtin
                   refine wpList_append_own _ rfl (.tmp 26) (.tmp 30) _ rfl w.heap.size 5 i0 _ 1 1 Tryd.underlying22 hi0 hz0 hz1 hz2 rfl (by omega) _ _ _ rfl HW.out ⟨wA.heap.size + 1, 0, none⟩ 2 2 [.int .u8 ((letC l).toNat : Int), .int .u8 61] rfl rfl HNW.out (by intro u hu; simp at hu; rcases hu with rfl | rfl <;> rfl) (by unfold maxLen; omega) (by omega) (by simp; omega) ?_
                   intro v' w' h1 h2 h3
                   have HO1 := Lib.hid h1
                   have HG1 := Lib.hid h2
                   have d1 : w'.cell? ⟨wA.heap.size, 1, none⟩ = some (.slice a r.length cc) := h2.cell HD.out HNE.out
                   clear h1 h2 h3)
      have HO2 : Hid (w'.ownsRow w.heap.size 5 1 v' (L ++ [letC l, 61]).length (bytesV (L ++ [letC l, 61]))) := by
        show World.ownsRow _ _ _ _ _ _ _
        rw [List.length_append, bytesV_append]
        exact HO1.out
      have HB2 := Lib.hid (((hB.alloc hB.size (.cells #[.int .i64 l, .slice a r.length cc] 64)).alloc (by simp; omega) (.cells #[.int .u8 ((letC l).toNat : Int), .int .u8 61] 5)).grown HG1.out (by simp; omega) fun j hj => (HO.out.lt j hj).1)
      clear HO1 HG1 HW HNW HD HNE d1
      go_loopw [4, 35] (fun v i wr => ∃ (j : Nat) (M : List UInt8), j ≤ r.length ∧ i = .int .i64 j ∧ M.length ≤ 4 + 7 * k + 2 + j ∧ Below w.heap.size w wr ∧ Hid (wr.ownsRow w.heap.size 5 1 v M.length (bytesV M)) ∧ Hid (M = textR n t rs k ++ partL l r j)) (fun _ i _ => r.length - (intOf i).toNat)
      case atStart =>
        refine ⟨0, L ++ [letC l, 61], by omega, rfl, by simp; omega, HB2.out, HO2.out, ?_⟩
        show _ = _
        rw [HS.out, partL_zero]
      case round =>
        clear HO2 HB2 HO HS
        obtain ⟨j, M, hj, rfl, hs2, hB2, HO2, HS2⟩ := hrel
        have hsz2 := hB2.size
        by_cases hjl : j < r.length
        · obtain ⟨b', o', rfl, hb', d1⟩ := (C3.out.keep hB2).at_ hjl
          obtain ⟨y1, y2⟩ := HSY.out.at_ hjl
          go_wp2_with fail
          refine (letterOf_any _ _ (HNT.out.keep hB2 (Nat.le_refl _)) (HTT.out.keep hB2 (Nat.le_refl _)) y1 y2).mono ?_
          rintro e w1 ⟨rfl, rfl⟩
          have hown := HO2.out.alloc (.cells #[.int .u8 ((letC r[j]).toNat : Int)] 5)
          have HW := Lib.hid hown; clear hown
          have hnew := cell_one_new wr (.int .u8 ((letC r[j]).toNat : Int)) 5
          have HNW := Lib.hid hnew; clear hnew
          go_wp2_with (at_builtin
                       refine wpList_append_own _ rfl (.tmp 39) (.tmp 42) _ rfl w.heap.size 5 i0 _ 1 1 Tryd.underlying22 hi0 hz0 hz1 hz2 rfl (by omega) _ _ _ rfl HW.out ⟨wr.heap.size, 0, none⟩ 1 1 [.int .u8 ((letC r[j]).toNat : Int)] rfl rfl HNW.out (by intro u hu; simp at hu; subst hu; rfl) (by unfold maxLen; omega) (by omega) (by simp; omega) ?_
                       intro v' w' h1 h2 h3
                       have HO1 := Lib.hid h1
                       have HG1 := Lib.hid h2
                       clear h1 h2 h3)
          go_roundw
          case rel =>
            refine ⟨j + 1, M ++ [letC r[j]], by omega, by go_num, by simp; omega, (hB2.alloc hB2.size _).grown HG1.out (by simp; omega) fun j hj => (HO2.out.lt j hj).1, ?_, ?_⟩
            · show World.ownsRow _ _ _ _ _ _ _
              rw [List.length_append, bytesV_append]
              exact HO1.out
            · show _ = _
              rw [HS2.out, partL_step hjl, List.append_assoc]
          case measure => simp [intOf]; omega
        · obtain rfl : j = r.length := by omega
          have hown := HO2.out.alloc (.cells #[.int .u8 10] 5)
          have HW := Lib.hid hown; clear hown
          have hnew := cell_one_new wr (.int .u8 10) 5
          have HNW := Lib.hid hnew; clear hnew
          go_wp2_with (at_builtin
                       refine wpList_append_own _ rfl (.tmp 45) (.tmp 46) _ rfl w.heap.size 5 i0 _ 1 1 Tryd.underlying22 hi0 hz0 hz1 hz2 rfl (by omega) _ _ _ rfl HW.out ⟨wr.heap.size, 0, none⟩ 1 1 [.int .u8 10] rfl rfl HNW.out (by intro u hu; simp at hu; subst hu; rfl) (by unfold maxLen; omega) (by omega) (by simp; omega) ?_
                       intro v' w' h1 h2 h3
                       have HO1 := Lib.hid h1
                       have HG1 := Lib.hid h2
                       clear h1 h2 h3)
          go_roundw
          case rel =>
            refine ⟨k + 1, M ++ [10], by omega, by go_num, by simp; omega, (hB2.alloc hB2.size _).grown HG1.out (by simp; omega) fun j hj => (HO2.out.lt j hj).1, ?_, ?_⟩
            · show World.ownsRow _ _ _ _ _ _ _
              rw [List.length_append, bytesV_append]
              exact HO1.out
            · show _ = _
              rw [HS2.out, HST.out, List.append_assoc, partL_all]
          case measure => simp [intOf]; omega
    · obtain rfl : k = rs.length := by omega
      have hLp : 0 < L.length := by
        have := HS.out
        rw [this]
        simp [textR, textL]
      obtain ⟨g, cap, rfl, hcells⟩ := OwnB.at_ HO.out hLp
      have kc := bytes_string wA g L.length cap L rfl hcells
      have HE2 : Hid (textL n t (rs.map Ru.abs) = L) := by show _ = _; rw [HS.out, textR_all]
      clear hcells
      go_wp2
      go_ret2
      exact ⟨by rw [HE.out, HE2.out]; rfl, hB⟩

end Go.Proofs.YtacehfjhpnplbaaDoor

/- What the program's ReadWord answers. -/

namespace Go.Proofs.YtacehfjhpnplbaaDoor
open Go.RowKit

theorem gl_lt {w : World} (hN : NonT w) (hT : TokT w) : 1 < w.heap.size ∧ 0 < w.heap.size := ⟨hN.pos, hT.pos⟩

set_option maxRecDepth 20000 in
set_option maxHeartbeats 2000000 in
theorem implRW_any (n t : Int) (A : Option Addr) (c : Nat) (rs : List Ru) (s : ByteArray) (w : World) (hx : Rls w w.heap.size A rs) (hL : Lims w) (hN : NonT w) (hT : TokT w) (hc : rs.length ≤ c) (h1 : rs.length ≤ 1048576) (h2 : ∀ u ∈ rs, u.r.length ≤ 1048576) (hf : FitR rs) (h3 : s.size ≤ 1048576) :
    Calls Tryd.prog 24 #[.agg #[.int .i64 n, .int .i64 t, .slice A rs.length c], .string s] w (GaveIIB w (rdL n t (rs.map Ru.abs) s) (rdP n t (rs.map Ru.abs) s) (rdB n t (rs.map Ru.abs) s)) := by
  have hmf : ∀ (fn : Fn) (first cap : Array Value) (w : World), (Instr.makeFunc fn first cap).run Tryd.prog w = .ok (.func fn first cap) w := fun _ _ _ _ => rfl
  have HX := Lib.hid hx; clear hx
  have HL := Lib.hid hL; clear hL
  have HNT := Lib.hid hN; clear hN
  have HTT := Lib.hid hT; clear hT
  have HF := Lib.hid hf; clear hf
  have H2 := Lib.hid h2; clear h2
  have HB0 : Hid (Below w.heap.size w (w.alloc (.cells #[.int .i64 n, .int .i64 t, .slice A rs.length c] 26))) := by show Below _ _ _; go_grown
  have B0 : Hid (Box3 (w.alloc (.cells #[.int .i64 n, .int .i64 t, .slice A rs.length c] 26)) w.heap.size (.int .i64 n) (.int .i64 t) (.slice A rs.length c)) := ⟨by simp, by simp [go_sem], by simp [go_sem], by simp [go_sem]⟩
  cases hg : goodG n t (rs.map Ru.abs)
  · obtain ⟨e1, e2, e3⟩ := rd_no (rdOk_g (s := s) hg)
    have HE1 := Lib.hid e1; clear e1
    have HE2 := Lib.hid e2; clear e2
    have HE3 := Lib.hid e3; clear e3
    have HG := Lib.hid hg; clear hg
    go_enter Tryd.func24, Tryd.ntmps24
    go_wp2_with fail
    refine (goodGrammar_any _ _ _ _ _ _ ((HX.out.keep HB0.out).more HB0.out.size) (HL.out.keep HB0.out (Nat.le_refl _)) hc h1 H2.out HF.out).mono ?_
    rintro e w1 ⟨rfl, hB1⟩
    rw [HG.out]
    go_wp2
    go_ret3
    exact ⟨none, 0, by rw [HE1.out, HE2.out, HE3.out]; rfl, by rw [HE1.out]; exact .inl rfl, HB0.out.trans (hB1.mono HB0.out.size)⟩
  by_cases hl : s.size ≤ 10
  · have hok : rdOk n t (rs.map Ru.abs) s = true := (rdOk_s hg).trans (decide_eq_true hl)
    have HI : Hid (inB 0 10 (s.size : Int) = true) := inB_t (by omega) (by omega)
    have HOK := Lib.hid hok; clear hok
    have HG := Lib.hid hg; clear hg
    go_enter Tryd.func24, Tryd.ntmps24
    go_wp2_with fail
    refine (goodGrammar_any _ _ _ _ _ _ ((HX.out.keep HB0.out).more HB0.out.size) (HL.out.keep HB0.out (Nat.le_refl _)) hc h1 H2.out HF.out).mono ?_
    rintro e w1 ⟨rfl, hB1⟩
    rw [HG.out]
    have BX1 := Lib.hid (B0.out.keep hB1 (by simp))
    have HB1 := Lib.hid (HB0.out.trans (hB1.mono HB0.out.size)); clear hB1 B0 HB0
    go_wp2_with fail
    refine (within4 _ _ (HL.out.keep HB1.out (Nat.le_refl _))).mono ?_
    rintro e w2 ⟨rfl, hB2⟩
    rw [HI.out]
    obtain ⟨_, b0, b1, b2⟩ := BX1.out.keep hB2 BX1.out.1
    have HB2 := Lib.hid (HB1.out.trans (hB2.mono HB1.out.size)); clear hB2
    have hsz2 := HB2.out.size
    go_wp2_with fail
    have hBA : Below w2.heap.size w2 (w2.alloc (.cells #[.string s, .int .i64 0, .int .i64 n, .int .i64 t, .slice A rs.length c, .slice none 0 0] 68)) := by go_grown
    have hRd : Rdr (w2.alloc (.cells #[.string s, .int .i64 0, .int .i64 n, .int .i64 t, .slice A rs.length c, .slice none 0 0] 68)) w2.heap.size s 0 n t (.slice A rs.length c) (.slice none 0 0) := Row.new _ _ _
    generalize (w2.alloc (.cells #[.string s, .int .i64 0, .int .i64 n, .int .i64 t, .slice A rs.length c, .slice none 0 0] 68)) = W at hBA hRd ⊢
    have HBW := Lib.hid (HB2.out.trans (hBA.mono HB2.out.size))
    have hgl := gl_lt HNT.out HTT.out
    clear b0 b1 b2
    refine (tryWord_any _ _ _ _ _ _ _ _ hRd h3 (HNT.out.keep HBW.out (Nat.le_refl _)) (HTT.out.keep HBW.out (Nat.le_refl _)) (by omega) (by omega)).mono ?_
    rintro e w3 ⟨hS, ⟨hb, rfl, Aw, cw, hRw, hO⟩ | ⟨k, hb, rfl⟩⟩
    · obtain ⟨e1, e2, e3⟩ := rd_good HOK.out hb
      have HE1 := Lib.hid e1; clear e1
      have HE2 := Lib.hid e2; clear e2
      have HE3 := Lib.hid e3; clear e3
      have HRw := Lib.hid hRw; clear hRw
      have HO := Lib.hid hO; clear hO
      have HW3 : Hid (Below w.heap.size w w3) := HBW.out.trans (hS.below HBW.out.size fun i hi (e : i = w2.heap.size) => by omega)
      have HlW := Lib.hid HBW.out.size
      clear hS hb hBA hRd
      have c5 : (w3.alloc (.cells #[.int .i64 0, .int .i64 0] 70)).cell? ⟨w2.heap.size, 5, none⟩ = some (.slice Aw (rwL t s).length cw) := (Row.alloc HRw.out _).cell 5
      go_wp2
      go_ret3
      exact ⟨Aw, cw, by rw [HE1.out, HE2.out, HE3.out]; rfl, by rw [HE1.out]; exact (HO.out.below (by go_grown) (Nat.le_refl _)).lower HlW.out, HW3.out.alloc HW3.out.size _⟩
    · obtain ⟨e1, e2, e3⟩ := rd_bad HOK.out hb
      have HE1 := Lib.hid e1; clear e1
      have HE2 := Lib.hid e2; clear e2
      have HE3 := Lib.hid e3; clear e3
      have HW3 : Hid (Below w.heap.size w w3) := HBW.out.trans (hS.below HBW.out.size fun i hi (e : i = w2.heap.size) => by omega)
      clear hS hb hBA hRd
      go_wp2
      go_quiet (fail)
      go_wp2
      go_ret3
      exact ⟨none, 0, by rw [HE1.out, HE2.out, HE3.out]; rfl, by rw [HE1.out]; exact .inl rfl, below_drewN (HW3.out.alloc HW3.out.size _) _⟩
  · obtain ⟨e1, e2, e3⟩ := rd_no ((rdOk_s hg).trans (decide_eq_false hl))
    have HI : Hid (inB 0 10 (s.size : Int) = false) := inB_f (by omega)
    have HE1 := Lib.hid e1; clear e1
    have HE2 := Lib.hid e2; clear e2
    have HE3 := Lib.hid e3; clear e3
    have HG := Lib.hid hg; clear hg
    go_enter Tryd.func24, Tryd.ntmps24
    go_wp2_with fail
    refine (goodGrammar_any _ _ _ _ _ _ ((HX.out.keep HB0.out).more HB0.out.size) (HL.out.keep HB0.out (Nat.le_refl _)) hc h1 H2.out HF.out).mono ?_
    rintro e w1 ⟨rfl, hB1⟩
    rw [HG.out]
    have HB1 := Lib.hid (HB0.out.trans (hB1.mono HB0.out.size)); clear hB1
    go_wp2_with fail
    refine (within4 _ _ (HL.out.keep HB1.out (Nat.le_refl _))).mono ?_
    rintro e w2 ⟨rfl, hB2⟩
    rw [HI.out]
    go_wp2
    go_ret3
    exact ⟨none, 0, by rw [HE1.out, HE2.out, HE3.out]; rfl, by rw [HE1.out]; exact .inl rfl, HB1.out.trans (hB2.mono HB1.out.size)⟩

end Go.Proofs.YtacehfjhpnplbaaDoor

/- The laws' own comparisons of lists and of grammars. -/

namespace Go.Proofs.YtacehfjhpnplbaaDoor
open Go.RowKit

set_option maxHeartbeats 400000 in
theorem sameInts_any (A A' : Option Addr) (xs ys : List Int) (c c' : Nat) (w : World) (hx : Ints w w.heap.size A xs) (hy : Ints w w.heap.size A' ys) (h1 : xs.length ≤ 1048576) :
    Calls Tryd.prog 29 #[.slice A xs.length c, .slice A' ys.length c'] w fun e w' => e = .returned (.bool (eqL xs ys)) ∧ Below w.heap.size w w' := by
  have HX := Lib.hid hx; clear hx
  have HY := Lib.hid hy; clear hy
  by_cases hl : xs.length = ys.length
  · have hd : ((xs.length : Int) != (ys.length : Int)) = false := bne_f (by omega)
    have hlen : xs.length ≤ ys.length := by omega
    have hlen' : ys.length ≤ xs.length := by omega
    have HL := Lib.hid hl; clear hl
    go_enter Tryd.func29, Tryd.ntmps29
    go_wp2
    go_loopw [13] (fun i wr => ∃ (k : Nat), k ≤ xs.length ∧ i = .int .i64 k ∧ Below w.heap.size w wr ∧ Hid (∀ j : Nat, j < k → xs[j]? = ys[j]?)) (fun i _ => xs.length - (intOf i).toNat)
    case atStart => exact ⟨0, by omega, rfl, Below.refl _ _, fun j h => absurd h (by omega)⟩
    case round =>
      obtain ⟨k, hk, rfl, hB, H⟩ := hrel
      by_cases hlt : k < xs.length
      · have hlt' : k < ys.length := by omega
        obtain ⟨b, o, rfl, hb, c1⟩ := (HX.out.keep hB).at_ hlt
        obtain ⟨b', o', rfl, hb', c2⟩ := (HY.out.keep hB).at_ hlt'
        by_cases hne : xs[k] = ys[k]
        · have ht := bne_f hne
          have HE := Lib.hid hne; clear hne
          go_wp2
          go_quiet (fail)
          go_wp2
          go_roundw
          case rel => exact ⟨k + 1, by omega, by go_num, below_drewN hB _, step_eq hlt hlt' HE.out H.out⟩
          case measure => simp [intOf]; omega
        · have ht := bne_t hne
          have HE : Hid (eqL xs ys = false) := eqL_not hlt hlt' hne
          clear hne
          go_wp2
          go_quiet (fail)
          go_wp2
          go_ret
          exact ⟨ret_bool HE.out.symm, below_drewN hB _⟩
      · have HE : Hid (eqL xs ys = true) := eqL_of HL.out hlt H.out
        go_wp2
        go_ret
        exact ⟨ret_bool HE.out.symm, hB⟩
  · have hd : ((xs.length : Int) != (ys.length : Int)) = true := bne_t (by omega)
    have HE : Hid (eqL xs ys = false) := eqL_f fun e => hl (by rw [e])
    clear hl
    go_enter Tryd.func29, Tryd.ntmps29
    go_wp2
    go_ret
    exact ⟨ret_bool HE.out.symm, Below.refl _ _⟩

end Go.Proofs.YtacehfjhpnplbaaDoor

/- The laws' own comparison of rules and of grammars. -/

namespace Go.Proofs.YtacehfjhpnplbaaDoor
open Go.RowKit
open Go.Sort (grow)

set_option maxRecDepth 20000 in
set_option maxHeartbeats 2000000 in
theorem sameRules_any (A A' : Option Addr) (rs ss : List Ru) (c c' : Nat) (w : World) (hx : Rls w w.heap.size A rs) (hy : Rls w w.heap.size A' ss) (h1 : rs.length ≤ 1048576) (h2 : ∀ u ∈ rs, u.r.length ≤ 1048576) :
    Calls Tryd.prog 62 #[.slice A rs.length c, .slice A' ss.length c'] w fun e w' => e = .returned (.bool (eqRs (rs.map Ru.abs) (ss.map Ru.abs))) ∧ Below w.heap.size w w' := by
  have HX := Lib.hid hx; clear hx
  have HY := Lib.hid hy; clear hy
  have H2 := Lib.hid h2; clear h2
  by_cases hl : rs.length = ss.length
  · have hd : ((rs.length : Int) != (ss.length : Int)) = false := bne_f (by omega)
    have hlen : rs.length ≤ ss.length := by omega
    have hlen' : ss.length ≤ rs.length := by omega
    have HL := Lib.hid hl; clear hl
    go_enter Tryd.func62, Tryd.ntmps62
    go_wp2
    go_loopw [13] (fun i wr => ∃ (k : Nat), k ≤ rs.length ∧ i = .int .i64 k ∧ Below w.heap.size w wr ∧ Hid (∀ j : Nat, j < k → (rs.map Ru.abs)[j]? = (ss.map Ru.abs)[j]?)) (fun i _ => rs.length - (intOf i).toNat)
    case atStart => exact ⟨0, by omega, rfl, Below.refl _ _, fun j h => absurd h (by omega)⟩
    case round =>
      obtain ⟨k, hk, rfl, hB, H⟩ := hrel
      by_cases hlt : k < rs.length
      · have hlt' : k < ss.length := by omega
        obtain ⟨b, o, rfl, hb, c1, c2, c3⟩ := (HX.out.keep hB).at_ hlt
        obtain ⟨b', o', rfl, hb', d1, d2, d3⟩ := (HY.out.keep hB).at_ hlt'
        have C3 := Lib.hid (c3.more hB.size); clear c3
        have D3 := Lib.hid (d3.more hB.size); clear d3
        have hlen2 := H2.out rs[k] (List.getElem_mem hlt)
        by_cases hll : rs[k].l = ss[k].l
        · have ht := bne_f hll
          have HLL := Lib.hid hll; clear hll
          have q0 := cell_regrown c1
          have q1 := cell_regrown c2
          have p0 := cell_regrown d1
          have p1 := cell_regrown d2
          have HRG : Hid (∀ d os, Below w.heap.size w (grow (redrawn wr d) os)) := fun d os => hB.trans ((below_regrown wr d os).mono hB.size)
          have HCG : Hid (∀ d os, Calls Tryd.prog 29 #[.slice rs[k].a rs[k].r.length rs[k].c, .slice ss[k].a ss[k].r.length ss[k].c] (grow (redrawn wr d) os) fun e w' => e = .returned (.bool (eqL rs[k].r ss[k].r)) ∧ Below (grow (redrawn wr d) os).heap.size (grow (redrawn wr d) os) w') := fun d os =>
            sameInts_any _ _ _ _ _ _ _ ((C3.out.keep (below_regrown wr d os)).more (below_regrown wr d os).size) ((D3.out.keep (below_regrown wr d os)).more (below_regrown wr d os).size) hlen2
          cases hq : eqL rs[k].r ss[k].r
          all_goals
            have HQ := Lib.hid hq; clear hq
            rw [HQ.out] at HCG
            go_wp2_with fail
            refine wp_region_quiet_below (by kernel_rfl) (by kernel_rfl) ?_
            repeat (first | go_big_quiet_step (exact Calls.regrown_of (HCG.out _ _)) | quiet_step (exact Calls.regrown_of (HCG.out _ _)))
            refine wpQuiet_nil ?_
            intro _ hw'
            obtain ⟨⟨dq, osq⟩, hw''⟩ := hw'
            subst hw''
            clear c1 c2 d1 d2 q0 q1 p0 p1
          · have HE : Hid (eqRs (rs.map Ru.abs) (ss.map Ru.abs) = false) := eqRs_not hlt hlt' (eqU_f fun e => by have h : rs[k].r = ss[k].r := congrArg Prod.snd e; rw [eqL_t h] at HQ; cases HQ.out)
            go_wp2
            go_ret
            exact ⟨ret_bool HE.out.symm, HRG.out dq osq⟩
          · have HU : Hid (eqU rs[k].abs ss[k].abs = true) := eqU_t (by show (_, _) = (_, _); rw [HLL.out, of_decide_eq_true HQ.out])
            go_wp2
            go_roundw
            case rel => exact ⟨k + 1, by omega, by go_num, HRG.out dq osq, step_eqR hlt hlt' HU.out H.out⟩
            case measure => simp [intOf]; omega
        · have ht := bne_t hll
          have HE : Hid (eqRs (rs.map Ru.abs) (ss.map Ru.abs) = false) := eqRs_not hlt hlt' (eqU_f fun e => hll (congrArg Prod.fst e))
          clear hll
          go_wp2_with fail
          go_quiet (fail)
          go_wp2
          go_ret
          exact ⟨ret_bool HE.out.symm, below_drewN hB _⟩
      · have HE : Hid (eqRs (rs.map Ru.abs) (ss.map Ru.abs) = true) := eqRs_of HL.out hlt H.out
        go_wp2
        go_ret
        exact ⟨ret_bool HE.out.symm, hB⟩
  · have hd : ((rs.length : Int) != (ss.length : Int)) = true := bne_t (by omega)
    have HE : Hid (eqRs (rs.map Ru.abs) (ss.map Ru.abs) = false) := eqRs_f fun e => hl (by simpa using congrArg List.length e)
    clear hl
    go_enter Tryd.func62, Tryd.ntmps62
    go_wp2
    go_ret
    exact ⟨ret_bool HE.out.symm, Below.refl _ _⟩

end Go.Proofs.YtacehfjhpnplbaaDoor

/- The laws' own comparison of grammars; big. -/

namespace Go.Proofs.YtacehfjhpnplbaaDoor
open Go.RowKit

set_option maxRecDepth 20000 in
set_option maxHeartbeats 400000 in
theorem sameGrammar_any (n t n' t' : Int) (A A' : Option Addr) (rs ss : List Ru) (c c' : Nat) (w : World) (hx : Rls w w.heap.size A rs) (hy : Rls w w.heap.size A' ss) (h1 : rs.length ≤ 1048576) (h2 : ∀ u ∈ rs, u.r.length ≤ 1048576) :
    Calls Tryd.prog 17 #[.agg #[.int .i64 n, .int .i64 t, .slice A rs.length c], .agg #[.int .i64 n', .int .i64 t', .slice A' ss.length c']] w fun e w' => e = .returned (.bool (eqG n t (rs.map Ru.abs) n' t' (ss.map Ru.abs))) ∧ Below w.heap.size w w' := by
  have HX := Lib.hid hx; clear hx
  have HY := Lib.hid hy; clear hy
  have H2 := Lib.hid h2; clear h2
  by_cases hn : n = n'
  · have e1 := beq_t hn
    have HN := Lib.hid hn; clear hn
    by_cases ht : t = t'
    · have e2 := beq_t ht
      have HT := Lib.hid ht; clear ht
      cases hq : eqRs (rs.map Ru.abs) (ss.map Ru.abs)
      all_goals
        have HQ := Lib.hid hq; clear hq
        go_enter Tryd.func17, Tryd.ntmps17
        go_wp2_with fail
        refine (sameRules_any _ _ _ _ _ _ _ ?_ ?_ h1 H2.out).mono ?_
        · exact (HX.out.keep (by go_grown)).more (by go_size)
        · exact (HY.out.keep (by go_grown)).more (by go_size)
        rintro e w1 ⟨rfl, hB⟩
        rw [HQ.out]
        go_wp2
        go_ret
        refine ⟨ret_bool ?_, Below.trans (by go_grown) (hB.mono (by go_size))⟩
      · exact (decide_eq_false fun e => by rw [eqRs_t e.2.2] at HQ; cases HQ.out).symm
      · exact (decide_eq_true ⟨HN.out, HT.out, of_decide_eq_true HQ.out⟩).symm
    · have e2 := beq_f ht
      have HE : Hid (eqG n t (rs.map Ru.abs) n' t' (ss.map Ru.abs) = false) := decide_eq_false fun e => ht e.2.1
      clear ht
      go_enter Tryd.func17, Tryd.ntmps17
      go_wp2
      go_ret
      exact ⟨ret_bool HE.out.symm, by go_grown⟩
  · have e1 := beq_f hn
    have HE : Hid (eqG n t (rs.map Ru.abs) n' t' (ss.map Ru.abs) = false) := decide_eq_false fun e => hn e.1
    clear hn
    go_enter Tryd.func17, Tryd.ntmps17
    go_wp2
    go_ret
    exact ⟨ret_bool HE.out.symm, by go_grown⟩

set_option maxRecDepth 20000 in
theorem big_any (A A' : Option Addr) (n n' c c' : Nat) (w : World) (h1 : n ≤ maxLen) (h2 : n' ≤ maxLen) : Calls Tryd.prog 12 #[.slice A n c, .slice A' n' c'] w fun e w' => e = .returned (.bool (decide (1048576 < n + n'))) ∧ w' = w := by
  unfold maxLen at h1 h2
  by_cases h3 : (1048576 : Int) < (n : Int)
  · have e : decide (1048576 < n + n') = true := decide_eq_true (by omega)
    rw [e]
    go_enter Tryd.func12, Tryd.ntmps12
    go_wp2
    go_ret
    exact ⟨rfl, rfl⟩
  · by_cases h4 : (1048576 : Int) - (n : Int) < (n' : Int)
    · have e : decide (1048576 < n + n') = true := decide_eq_true (by omega)
      rw [e]
      go_enter Tryd.func12, Tryd.ntmps12
      go_wp2
      go_ret
      exact ⟨rfl, rfl⟩
    · have e : decide (1048576 < n + n') = false := decide_eq_false (by omega)
      rw [e]
      go_enter Tryd.func12, Tryd.ntmps12
      go_wp2
      go_ret
      exact ⟨rfl, rfl⟩

end Go.Proofs.YtacehfjhpnplbaaDoor

/- The law FnGrammarText: its walk. -/

namespace Go.Proofs.YtacehfjhpnplbaaDoor
open Go.RowKit

set_option maxRecDepth 100000 in
set_option maxHeartbeats 4000000 in
theorem law_FnGrammarText (A A' : Option Addr) (m m' c c' : Nat) (w : World) (hx : Byts w w.heap.size A m) (hy : Byts w w.heap.size A' m') (hT : Tabs w) (h1 : m ≤ maxLen) (h2 : m' ≤ maxLen) :
    Calls Tryd.prog 3 #[.slice A m c, .slice A' m' c'] w (LawEnds w) := by
  have HX := Lib.hid hx; clear hx
  have HY := Lib.hid hy; clear hy
  have HT := Lib.hid hT; clear hT
  by_cases hbig : 1048576 < m + m'
  · have HG := Lib.hid (decide_eq_true hbig); clear hbig
    go_enter Tryd.func3, Tryd.ntmps3
    go_wp2_with fail
    refine (big_any _ _ _ _ _ _ _ h1 h2).mono ?_
    rintro e w1 ⟨rfl, rfl⟩
    rw [HG.out]
    go_wp2
    go_ret
    exact ⟨rfl, Below.refl _ _⟩
  have HG := Lib.hid (decide_eq_false hbig)
  have hm : m ≤ 1048576 := by omega
  have hm' : m' ≤ 1048576 := by omega
  clear hbig
  go_enter Tryd.func3, Tryd.ntmps3
  go_wp2_with fail
  refine (big_any _ _ _ _ _ _ _ h1 h2).mono ?_
  rintro e w0 ⟨rfl, hw0⟩
  rw [hw0]
  clear hw0 w0
  rw [HG.out]
  clear HG h1 h2
  go_wp2_with fail
  refine (drawGT_any _ _ _ _ HX.out hm).mono ?_
  rintro e w1 ⟨n, t, B, d, rs, rfl, _, _, hlen, hcap, hsm, hO, hB⟩
  have HSM := Lib.hid hsm; clear hsm
  go_wp2_with fail
  have hK := box_new w1 (.int .i64 n) (.int .i64 t) (.slice B rs.length d) 26
  have hBx := below_new w1 (.cells #[.int .i64 n, .int .i64 t, .slice B rs.length d] 26)
  generalize (w1.alloc (.cells #[.int .i64 n, .int .i64 t, .slice B rs.length d] 26)) = X at hK hBx ⊢
  have HO := Lib.hid (hO.keep hBx); clear hO
  have HW := Lib.hid (hB.trans (hBx.mono hB.size)); clear hB hBx
  have HK := Lib.hid hK; clear hK
  have hl1 : rs.length ≤ 1048576 := by omega
  -- both texts
  obtain ⟨s, hs⟩ : ∃ s, s = gtS n t (rs.map Ru.abs) := ⟨_, rfl⟩
  obtain ⟨g, hg⟩ : ∃ g, g = goodG n t (rs.map Ru.abs) := ⟨_, rfl⟩
  have HI : Hid (∀ v : World, Rls v v.heap.size B rs → Tabs v → Calls Tryd.prog 14 #[.agg #[.int .i64 n, .int .i64 t, .slice B rs.length d]] v (GaveSB v s g)) := fun v hv ht => by
    rw [hs, hg]; exact implGT_any _ _ _ _ _ _ hv ht.lims ht.non ht.tok hcap hl1 (lens_of_sm HSM.out) (fit_of_sm HSM.out)
  have HS : Hid (∀ v : World, Rls v v.heap.size B rs → Calls Tryd.prog 15 #[.agg #[.int .i64 n, .int .i64 t, .slice B rs.length d]] v (GaveSB v s g)) := fun v hv => by
    rw [hs, hg]; exact specGT_any _ _ _ _ _ _ hv hcap hl1 (lens_of_sm HSM.out)
  have HBK : Hid (s.size ≤ 98 ∧ (g = true → ∃ k, rgO s = .ok ((n, t), rs.map Ru.abs) k)) := by
    have h98 := gt_small (n := n) (t := t) HSM.out hlen
    rw [hs, hg]
    exact ⟨h98, fun h => rg_back h (by omega)⟩
  clear hs hg
  refine (HI.out _ HO.out.rls (HT.out.keep HW.out)).mono ?_
  rintro e w2 ⟨rfl, hB2⟩
  have HK2 := Lib.hid (HK.out.keep hB2 HK.out.1)
  have HO2 := Lib.hid (HO.out.keep hB2)
  have HW2 := Lib.hid (HW.out.trans (hB2.mono HW.out.size)); clear hB2
  clear HK HO HW
  obtain ⟨_, x0, x1, x2⟩ := HK2.out
  go_wp2_with fail
  refine (HS.out _ HO2.out.rls).mono ?_
  rintro e w3 ⟨rfl, hB3⟩
  have HK3 := Lib.hid (HK2.out.keep hB3 HK2.out.1)
  have HO3 := Lib.hid (HO2.out.keep hB3)
  have HW3 := Lib.hid (HW2.out.trans (hB3.mono HW2.out.size)); clear hB3
  clear x0 x1 x2 HK2 HO2 HW2 HI HS
  have hgg : (g != g) = false := by simp
  go_upto_region 8 with fail
  go_cut [75] from 47 (fun v wx => v = .bool g ∧ wx = w3)
  case first =>
    as_aux_lemma =>
      have h98 := HBK.out.1
      have h6 : ((s.size : Int) ≤ 600) = True := by simp; omega
      cases g
      all_goals
        go_wp2_with fail
        go_meet
        case rel => exact ⟨rfl, rfl⟩
  case rest =>
    as_aux_lemma =>
      obtain ⟨rfl, rfl⟩ := hcut
      clear hgg
      go_upto_if 75 with fail
      go_cut [] from 47 (fun wx => Below w.heap.size w wx)
      case first =>
        as_aux_lemma =>
          cases g
          · go_wp2_with fail
            go_meet
            case rel => exact HW3.out
          · obtain ⟨k, hrg⟩ := HBK.out.2 rfl
            have HRD : Hid (Calls Tryd.prog 16 #[.string s] wc (GaveG4 wc n t (rs.map Ru.abs) 0 0 true)) := by
              have h := implRG_any s wc (HT.out.keep HW3.out) (by have := HBK.out.1; omega)
              rw [hrg] at h
              exact h
            clear hrg
            go_wp2_with fail
            refine HRD.out.mono ?_
            rintro e w4 ⟨A4, c4, ds4, rfl, hcap4, hO4, ha4, hB4⟩
            have HK4 := Lib.hid (HK3.out.keep hB4 HK3.out.1)
            have HO34 := Lib.hid (HO3.out.keep hB4)
            have HW4 := Lib.hid (HW3.out.trans (hB4.mono HW3.out.size)); clear hB4
            have HO4 := Lib.hid hO4; clear hO4
            have HA4 := Lib.hid ha4; clear ha4
            clear HK3 HO3 HW3 HRD
            obtain ⟨_, q0, q1, q2⟩ := HK4.out.keep (below_new w4 (.cells #[.int .i64 n, .int .i64 t, .slice A4 ds4.length c4] 26)) HK4.out.1
            go_wp2_with fail
            clear q0 q1 q2
            have HBx := Lib.hid (below_new w4 (.cells #[.int .i64 n, .int .i64 t, .slice A4 ds4.length c4] 26))
            generalize (w4.alloc (.cells #[.int .i64 n, .int .i64 t, .slice A4 ds4.length c4] 26)) = X4 at HBx ⊢
            refine (sameGrammar_any _ _ _ _ _ _ _ _ _ _ _ (HO4.out.below HBx.out (Nat.le_refl _)).rls (HO34.out.keep HBx.out).rls (by have := abs_len HA4.out; omega) (abs_lens HA4.out (lens_of_sm HSM.out))).mono ?_
            rintro e w5 ⟨rfl, hB5⟩
            rw [eqG_t HA4.out]
            have HW5 := Lib.hid (HW4.out.trans ((HBx.out.trans (hB5.mono HBx.out.size)).mono HW4.out.size)); clear hB5
            go_wp2_with fail
            go_meet
            case rel => exact HW5.out
      case rest =>
        as_aux_lemma =>
          have HW := Lib.hid hcut; clear hcut
          clear HK3 HO3 HW3 HBK HSM hcap hlen hl1
          -- a text that may be spoilt
          go_wp2_with fail
          refine (drawRG_any _ _ _ _ ((HY.out.keep HW.out).more HW.out.size) hm').mono ?_
          rintro e w4 ⟨s2, rfl, hs2, hB4⟩
          have HW4 := Lib.hid (HW.out.trans (hB4.mono HW.out.size)); clear hB4 HW
          have hs3 : s2.size ≤ 1048576 := by omega
          obtain ⟨n2, hn2⟩ : ∃ x, x = outN (rgO s2) := ⟨_, rfl⟩
          obtain ⟨t2, ht2⟩ : ∃ x, x = outT (rgO s2) := ⟨_, rfl⟩
          obtain ⟨ss2, hss2⟩ : ∃ x, x = outS (rgO s2) := ⟨_, rfl⟩
          obtain ⟨code, hcode⟩ : ∃ x, x = outC (rgO s2) := ⟨_, rfl⟩
          obtain ⟨place, hplace⟩ : ∃ x, x = outP (rgO s2) := ⟨_, rfl⟩
          obtain ⟨ok, hok⟩ : ∃ x, x = outB (rgO s2) := ⟨_, rfl⟩
          have HIR : Hid (∀ v : World, Tabs v → Calls Tryd.prog 16 #[.string s2] v (GaveG4 v n2 t2 ss2 code place ok)) := fun v hv => by
            rw [hn2, ht2, hss2, hcode, hplace, hok]; exact implRG_any s2 v hv hs3
          have HSR : Hid (∀ v : World, Calls Tryd.prog 19 #[.string s2] v (GaveG4 v n2 t2 ss2 code place ok)) := fun v => by
            rw [hn2, ht2, hss2, hcode, hplace, hok]; exact specRG_any s2 v hs3
          have HLS : Hid (ss2.length ≤ 1048576) := by have := (outS_len s2).1; rw [← hss2] at this; show _ ≤ _; omega
          have HLU : Hid (∀ u ∈ ss2, u.2.length ≤ 1048576) := fun u hu => by rw [hss2] at hu; have := (outS_len s2).2 u hu; omega
          have HOK : Hid (ok = true → goodG n2 t2 ss2 = true ∧ gtS n2 t2 ss2 = s2) := by
            intro h
            cases ho : rgO s2 with
            | bad c p => rw [hok, ho] at h; cases h
            | ok a k =>
              rw [hn2, ht2, hss2, ho]
              exact rg_inv (n := a.1.1) (t := a.1.2) (ss := a.2) ho
          have HBD : Hid (ok = false → code ≠ 0 ∧ 0 ≤ place ∧ place ≤ s2.size) := by
            intro h
            cases ho : rgO s2 with
            | ok a k => rw [hok, ho] at h; cases h
            | bad c p =>
              have h1 := rg_bad ho
              rw [hcode, hplace, ho]
              exact ⟨h1.1, Int.natCast_nonneg p, Int.ofNat_le.2 h1.2⟩
          clear hn2 ht2 hss2 hcode hplace hok
          go_wp2_with fail
          refine (HIR.out _ (HT.out.keep HW4.out)).mono ?_
          rintro e w5 ⟨A5, c5, ds5, rfl, hcap5, hO5, ha5, hB5⟩
          have HA5 := Lib.hid ha5; clear ha5
          have hlen5 : ds5.length ≤ 1048576 := says_len HA5.out HLS.out
          have HLN5 := Lib.hid (says_lens HA5.out HLU.out)
          go_wp2_with fail
          have hK5 := box_new w5 (.int .i64 n2) (.int .i64 t2) (.slice A5 ds5.length c5) 26
          have hBx := below_new w5 (.cells #[.int .i64 n2, .int .i64 t2, .slice A5 ds5.length c5] 26)
          generalize (w5.alloc (.cells #[.int .i64 n2, .int .i64 t2, .slice A5 ds5.length c5] 26)) = X5 at hK5 hBx ⊢
          have HO5 := Lib.hid (hO5.below hBx (Nat.le_refl _)); clear hO5
          have HK5 := Lib.hid hK5; clear hK5
          have HW5 := Lib.hid (HW4.out.trans ((hB5.trans (hBx.mono hB5.size)).mono HW4.out.size)); clear hB5 hBx HW4
          refine (HSR.out _).mono ?_
          rintro e w6 ⟨A6, c6, ds6, rfl, hcap6, hO6, ha6, hB6⟩
          have HA6 := Lib.hid ha6; clear ha6
          have HK56 := Lib.hid (HK5.out.keep hB6 HK5.out.1)
          have HO56 := Lib.hid (HO5.out.below hB6 (Nat.le_refl _))
          have HW6 := Lib.hid (HW5.out.trans (hB6.mono HW5.out.size)); clear hB6
          have HO6 := Lib.hid hO6; clear hO6
          clear HK5 HO5 HW5 HIR HSR
          go_upto_region 15 with fail
          have HK6 := Lib.hid (box_new w6 (.int .i64 n2) (.int .i64 t2) (.slice A6 ds6.length c6) 26)
          have HBx := Lib.hid (below_new w6 (.cells #[.int .i64 n2, .int .i64 t2, .slice A6 ds6.length c6] 26))
          generalize (w6.alloc (.cells #[.int .i64 n2, .int .i64 t2, .slice A6 ds6.length c6] 26)) = X6 at HK6 HBx ⊢
          have HK5X := Lib.hid (HK56.out.keep HBx.out HK56.out.1)
          have HO5X := Lib.hid (HO56.out.below HBx.out (Nat.le_refl _))
          have HO6X := Lib.hid (HO6.out.below HBx.out (Nat.le_refl _))
          have HW6X := Lib.hid (HW6.out.trans (HBx.out.mono HW6.out.size))
          clear HK56 HO56 HO6 HW6 HBx
          go_cut [151] from 47 (fun v wx => v = .bool false ∧ Below X6.heap.size X6 wx)
          case first =>
            as_aux_lemma =>
              have e1 : (ok != ok) = false := by simp
              have e2 : (code != code) = false := by simp
              have e3 : (place != place) = false := by simp
              obtain ⟨_, x0, x1, x2⟩ := HK5X.out
              obtain ⟨_, y0, y1, y2⟩ := HK6.out
              go_wp2_with fail
              refine (sameGrammar_any _ _ _ _ _ _ _ _ _ _ _ HO5X.out.rls HO6X.out.rls hlen5 HLN5.out).mono ?_
              rintro e w7 ⟨rfl, hB7⟩
              rw [eqG_t (HA5.out.trans HA6.out.symm)]
              have HB7 := Lib.hid hB7; clear hB7 x0 x1 x2 y0 y1 y2 e2 e3
              cases ok
              · obtain ⟨c1, p1, p2⟩ := HBD.out rfl
                have f1 : (code == 0) = false := by simp [c1]
                have a1 : ¬ place < 0 := by omega
                have a2 : ¬ (s2.size : Int) < place := by omega
                have HPL : Hid (Value.bool (decide (place < 0) || decide ((s2.size : Int) < place)) = Value.bool false) := by
                  show _ = _
                  simp [a1, a2]
                clear a1 a2
                go_wp2_with fail
                go_meet
                case rel => exact ⟨HPL.out, HB7.out⟩
              · go_wp2_with fail
                go_meet
                case rel => exact ⟨rfl, HB7.out⟩
          case rest =>
            as_aux_lemma =>
              obtain ⟨rfl, hB7⟩ := hcut
              have HK7 := Lib.hid (HK5X.out.keep hB7 HK5X.out.1)
              have HO7 := Lib.hid (HO5X.out.below hB7 (Nat.le_refl _))
              have HW7 := Lib.hid (HW6X.out.trans (hB7.mono HW6X.out.size)); clear hB7
              clear HK5X HO5X HO6X HW6X HK6 HBD HA6
              go_upto_if 152 with fail
              go_cut [] from 47 (fun wx => Below w.heap.size w wx)
              case first =>
                as_aux_lemma =>
                  cases ok
                  · go_wp2_with fail
                    go_meet
                    case rel => exact HW7.out
                  · obtain ⟨hg2, hgs⟩ := HOK.out rfl
                    have HGT : Hid (Calls Tryd.prog 14 #[.agg #[.int .i64 n2, .int .i64 t2, .slice A5 ds5.length c5]] wc (GaveSB wc s2 true)) := by
                      have htb := HT.out.keep HW7.out
                      have h := implGT_any n2 t2 A5 c5 ds5 wc HO7.out.rls htb.lims htb.non htb.tok hcap5 hlen5 HLN5.out (fit_of_good (by rw [HA5.out]; exact hg2))
                      rw [HA5.out, hg2, hgs] at h
                      exact h
                    clear hg2 hgs
                    obtain ⟨_, x0, x1, x2⟩ := HK7.out
                    go_wp2_with fail
                    refine HGT.out.mono ?_
                    rintro e w8 ⟨rfl, hB8⟩
                    have HW8 := Lib.hid (HW7.out.trans (hB8.mono HW7.out.size)); clear hB8 x0 x1 x2
                    go_wp2_with fail
                    go_meet
                    case rel => exact HW8.out
              case rest =>
                as_aux_lemma =>
                  have HW := Lib.hid hcut; clear hcut
                  clear HK7 HO7 HW7 HOK HLN5 HA5 hcap5 hlen5 HLS HLU hs2 hs3
                  -- a word
                  go_wp2_with fail
                  refine (drawWT_any _ _ _ _ ((HY.out.keep HW.out).more HW.out.size) hm').mono ?_
                  rintro e w1 ⟨n3, t3, B3, d3, rs3, C3, xs3, e3, rfl, _, _, hlen3, hcap3, hsm3, hxs3, _, hO3, hP3, hB3⟩
                  have HSM3 := Lib.hid hsm3; clear hsm3
                  go_wp2_with fail
                  have hK3 := box_new w1 (.int .i64 n3) (.int .i64 t3) (.slice B3 rs3.length d3) 26
                  have hBx := below_new w1 (.cells #[.int .i64 n3, .int .i64 t3, .slice B3 rs3.length d3] 26)
                  generalize (w1.alloc (.cells #[.int .i64 n3, .int .i64 t3, .slice B3 rs3.length d3] 26)) = Y1 at hK3 hBx ⊢
                  have HO3 := Lib.hid (hO3.keep hBx); clear hO3
                  have HP3 := Lib.hid (hP3.below hBx (Nat.le_refl _)); clear hP3
                  have HK3 := Lib.hid hK3; clear hK3
                  have HW1 := Lib.hid (HW.out.trans ((hB3.trans (hBx.mono hB3.size)).mono HW.out.size)); clear hB3 hBx HW
                  have hl3 : rs3.length ≤ 1048576 := by omega
                  have hx3 : xs3.length ≤ 1048576 := by omega
                  obtain ⟨u3, hu3⟩ : ∃ x, x = wtS n3 t3 (rs3.map Ru.abs) xs3 := ⟨_, rfl⟩
                  obtain ⟨g3, hg3⟩ : ∃ x, x = goodW n3 t3 (rs3.map Ru.abs) xs3 := ⟨_, rfl⟩
                  have HIW : Hid (∀ v : World, Rls v v.heap.size B3 rs3 → Ints v v.heap.size C3 xs3 → Tabs v → Calls Tryd.prog 21 #[.agg #[.int .i64 n3, .int .i64 t3, .slice B3 rs3.length d3], .slice C3 xs3.length e3] v (GaveSB v u3 g3)) := fun v h1 h2 h3 => by
                    rw [hu3, hg3]; exact implWT_any _ _ _ _ _ _ _ _ _ h1 h2 h3.lims h3.tok hcap3 hl3 (lens_of_sm HSM3.out) (fit_of_sm HSM3.out) hx3
                  have HSW : Hid (∀ v : World, Rls v v.heap.size B3 rs3 → Ints v v.heap.size C3 xs3 → Calls Tryd.prog 22 #[.agg #[.int .i64 n3, .int .i64 t3, .slice B3 rs3.length d3], .slice C3 xs3.length e3] v (GaveSB v u3 g3)) := fun v h1 h2 => by
                    rw [hu3, hg3]; exact specWT_any _ _ _ _ _ _ _ _ _ h1 h2 hcap3 hl3 (lens_of_sm HSM3.out) hx3
                  have HBW : Hid (u3.size ≤ 12) := by show _ ≤ _; rw [hu3]; exact wtS_size _ _ _ _ hxs3
                  have HRB : Hid (g3 = true → ∀ v : World, Rls v v.heap.size B3 rs3 → Tabs v → Calls Tryd.prog 24 #[.agg #[.int .i64 n3, .int .i64 t3, .slice B3 rs3.length d3], .string u3] v (fun e w' => ∃ p, GaveIIB v xs3 p true e w')) := fun hg v h1 h3 => by
                    have hb := wd_back (hg3.symm.trans hg)
                    have h := implRW_any n3 t3 B3 d3 rs3 u3 v h1 h3.lims h3.non h3.tok hcap3 hl3 (lens_of_sm HSM3.out) (fit_of_sm HSM3.out) (by have := HBW.out; omega)
                    rw [hu3, hb.1, hb.2] at h
                    rw [hu3]
                    exact h.mono fun _ _ h => ⟨_, h⟩
                  clear hu3 hg3
                  refine (HIW.out _ HO3.out.rls HP3.out.ints (HT.out.keep HW1.out)).mono ?_
                  rintro e w2 ⟨rfl, hB2⟩
                  have HK32 := Lib.hid (HK3.out.keep hB2 HK3.out.1)
                  have HO32 := Lib.hid (HO3.out.keep hB2)
                  have HP32 := Lib.hid (HP3.out.below hB2 (Nat.le_refl _))
                  have HW2 := Lib.hid (HW1.out.trans (hB2.mono HW1.out.size)); clear hB2 HK3 HO3 HP3 HW1 HIW
                  obtain ⟨_, x0, x1, x2⟩ := HK32.out
                  go_wp2_with fail
                  refine (HSW.out _ HO32.out.rls HP32.out.ints).mono ?_
                  rintro e w3 ⟨rfl, hB3⟩
                  have HK33 := Lib.hid (HK32.out.keep hB3 HK32.out.1)
                  have HO33 := Lib.hid (HO32.out.keep hB3)
                  have HP33 := Lib.hid (HP32.out.below hB3 (Nat.le_refl _))
                  have HW3 := Lib.hid (HW2.out.trans (hB3.mono HW2.out.size)); clear hB3 HK32 HO32 HP32 HW2 HSW x0 x1 x2
                  -- a text of a word that may be spoilt
                  go_wp2_with fail
                  refine (drawRW_any _ _ _ _ ((HY.out.keep HW3.out).more HW3.out.size) hm').mono ?_
                  rintro e w4 ⟨n4, t4, B4, d4, rs4, v4, rfl, _, _, hlen4, hcap4, hsm4, hv4, hO4, hB4⟩
                  have HSM4 := Lib.hid hsm4; clear hsm4
                  have HK34 := Lib.hid (HK33.out.keep hB4 HK33.out.1)
                  have HO34 := Lib.hid (HO33.out.keep hB4)
                  have HP34 := Lib.hid (HP33.out.below hB4 (Nat.le_refl _))
                  clear HK33 HO33 HP33
                  go_wp2_with fail
                  have hK4 := box_new w4 (.int .i64 n4) (.int .i64 t4) (.slice B4 rs4.length d4) 26
                  have hBx := below_new w4 (.cells #[.int .i64 n4, .int .i64 t4, .slice B4 rs4.length d4] 26)
                  generalize (w4.alloc (.cells #[.int .i64 n4, .int .i64 t4, .slice B4 rs4.length d4] 26)) = Y4 at hK4 hBx ⊢
                  have HO4 := Lib.hid (hO4.keep hBx); clear hO4
                  have HK4 := Lib.hid hK4; clear hK4
                  have HK3 := Lib.hid (HK34.out.keep hBx HK34.out.1)
                  have HO3 := Lib.hid (HO34.out.keep hBx)
                  have HP3 := Lib.hid (HP34.out.below hBx (Nat.le_refl _))
                  have HW4 := Lib.hid (HW3.out.trans ((hB4.trans (hBx.mono hB4.size)).mono HW3.out.size)); clear hB4 hBx HW3 HK34 HO34 HP34
                  have hl4 : rs4.length ≤ 1048576 := by omega
                  have hv4' : v4.size ≤ 1048576 := by omega
                  obtain ⟨y4, hy4⟩ : ∃ x, x = rdL n4 t4 (rs4.map Ru.abs) v4 := ⟨_, rfl⟩
                  obtain ⟨p4, hp4⟩ : ∃ x, x = rdP n4 t4 (rs4.map Ru.abs) v4 := ⟨_, rfl⟩
                  obtain ⟨b4, hb4⟩ : ∃ x, x = rdB n4 t4 (rs4.map Ru.abs) v4 := ⟨_, rfl⟩
                  have HIR : Hid (∀ v : World, Rls v v.heap.size B4 rs4 → Tabs v → Calls Tryd.prog 24 #[.agg #[.int .i64 n4, .int .i64 t4, .slice B4 rs4.length d4], .string v4] v (GaveIIB v y4 p4 b4)) := fun v h1 h3 => by
                    rw [hy4, hp4, hb4]; exact implRW_any _ _ _ _ _ _ _ h1 h3.lims h3.non h3.tok hcap4 hl4 (lens_of_sm HSM4.out) (fit_of_sm HSM4.out) hv4'
                  have HSR : Hid (∀ v : World, Rls v v.heap.size B4 rs4 → Calls Tryd.prog 25 #[.agg #[.int .i64 n4, .int .i64 t4, .slice B4 rs4.length d4], .string v4] v (GaveIIB v y4 p4 b4)) := fun v h1 => by
                    rw [hy4, hp4, hb4]; exact specRW_any _ _ _ _ _ _ _ h1 hcap4 hl4 (lens_of_sm HSM4.out) hv4'
                  have hyl : y4.length ≤ 1048576 := by
                    rw [hy4]
                    have := rdL_len (n := n4) (t := t4) (ss := rs4.map Ru.abs) (s := v4)
                    omega
                  clear hy4 hp4 hb4
                  refine (HIR.out _ HO4.out.rls (HT.out.keep HW4.out)).mono ?_
                  rintro e w5 ⟨A5, c5, rfl, hQ5, hB5⟩
                  have HQ5 := Lib.hid hQ5; clear hQ5
                  have HK45 := Lib.hid (HK4.out.keep hB5 HK4.out.1)
                  have HO45 := Lib.hid (HO4.out.keep hB5)
                  have HK35 := Lib.hid (HK3.out.keep hB5 HK3.out.1)
                  have HO35 := Lib.hid (HO3.out.keep hB5)
                  have HP35 := Lib.hid (HP3.out.below hB5 (Nat.le_refl _))
                  have HW5 := Lib.hid (HW4.out.trans (hB5.mono HW4.out.size)); clear hB5 HK4 HO4 HK3 HO3 HP3 HW4 HIR
                  obtain ⟨_, x0, x1, x2⟩ := HK45.out
                  go_wp2_with fail
                  refine (HSR.out _ HO45.out.rls).mono ?_
                  rintro e w6 ⟨A6, c6, rfl, hQ6, hB6⟩
                  have HQ6 := Lib.hid hQ6; clear hQ6
                  have HQ56 := Lib.hid (HQ5.out.below hB6 (Nat.le_refl _))
                  have HK36 := Lib.hid (HK35.out.keep hB6 HK35.out.1)
                  have HO36 := Lib.hid (HO35.out.keep hB6)
                  have HP36 := Lib.hid (HP35.out.below hB6 (Nat.le_refl _))
                  have HW6 := Lib.hid (HW5.out.trans (hB6.mono HW5.out.size)); clear hB6 HK45 HO45 HK35 HO35 HP35 HW5 HSR HQ5 x0 x1 x2
                  -- a symbol
                  go_wp2_with fail
                  refine (drawSym_any _ _ _ _ ((HY.out.keep HW6.out).more HW6.out.size) hm').mono ?_
                  rintro e w7 ⟨x, rfl, _, hB7⟩
                  have HW7 := Lib.hid (HW6.out.trans (hB7.mono HW6.out.size))
                  have HTB := Lib.hid (HT.out.keep HW7.out)
                  go_wp2_with fail
                  refine (implSym_any _ _ HTB.out.non HTB.out.tok).mono ?_
                  rintro e w8 ⟨rfl, hB8⟩
                  have HB8 := Lib.hid (hB7.trans (hB8.mono hB7.size)); clear hB7 hB8
                  go_wp2_with fail
                  refine (specSym_any _ _).mono ?_
                  rintro e w9 ⟨rfl, rfl⟩
                  have HW8 := Lib.hid (HW6.out.trans (HB8.out.mono HW6.out.size))
                  have HQ58 := Lib.hid (HQ56.out.below HB8.out (Nat.le_refl _))
                  have HQ68 := Lib.hid (HQ6.out.below HB8.out (Nat.le_refl _))
                  have HK38 := Lib.hid (HK36.out.keep HB8.out HK36.out.1)
                  have HO38 := Lib.hid (HO36.out.keep HB8.out)
                  have HP38 := Lib.hid (HP36.out.below HB8.out (Nat.le_refl _))
                  clear HQ56 HQ6 HK36 HO36 HP36 HW6 HW7 HTB HB8
                  generalize symS x = sx
                  generalize symI x = bx
                  have f1 : (g3 != g3) = false := by simp
                  have f2 : (b4 != b4) = false := by simp
                  have f3 : (p4 != p4) = false := by simp
                  have f4 : (bx != bx) = false := by simp
                  go_wp2_with fail
                  refine (sameInts_any _ _ _ _ _ _ _ HQ58.out.ints HQ68.out.ints hyl).mono ?_
                  rintro e w9 ⟨rfl, hB9⟩
                  rw [eqL_refl]
                  have HK39 := Lib.hid (HK38.out.keep hB9 HK38.out.1)
                  have HO39 := Lib.hid (HO38.out.keep hB9)
                  have HP39 := Lib.hid (HP38.out.below hB9 (Nat.le_refl _))
                  have HW9 := Lib.hid (HW8.out.trans (hB9.mono HW8.out.size)); clear hB9 HK38 HO38 HP38 HW8 HQ58 HQ68
                  obtain ⟨_, x0, x1, x2⟩ := HK39.out
                  cases g3
                  · go_wp2
                    go_ret
                    exact ⟨rfl, HW9.out⟩
                  · have HRC := Lib.hid (HRB.out rfl _ HO39.out.rls (HT.out.keep HW9.out))
                    go_wp2_with fail
                    refine HRC.out.mono ?_
                    rintro e w10 ⟨p, A10, c10, rfl, hQ10, hB10⟩
                    have HQ10 := Lib.hid hQ10; clear hQ10
                    have HP310 := Lib.hid (HP39.out.below hB10 (Nat.le_refl _))
                    have HW10 := Lib.hid (HW9.out.trans (hB10.mono HW9.out.size)); clear hB10
                    go_wp2_with fail
                    refine (sameInts_any _ _ _ _ _ _ _ HQ10.out.ints HP310.out.ints hx3).mono ?_
                    rintro e w11 ⟨rfl, hB11⟩
                    rw [eqL_refl]
                    have HW11 := Lib.hid (HW10.out.trans (hB11.mono HW10.out.size)); clear hB11
                    go_wp2
                    go_ret
                    exact ⟨rfl, HW11.out⟩

end Go.Proofs.YtacehfjhpnplbaaDoor

/- From the reading of an argument to its cells: a slice of bytes. -/

namespace Go.Proofs.YtacehfjhpnplbaaDoor
open Go.ChangeShapes Go.WideShapes Go.ChangeAt Go.RowKit Go.Deep Go.Joins
set_option maxRecDepth 100000

theorem Tryd.cellsByt : Tryd.prog.cellsOf 5 = 1 := by kernel_rfl

theorem open_byts {H : Type} {enc : TypeId × Value → H} {W : World} {spare : Nat → Bool} {held : Bool} {r : Reach} {b0 : Nat} {v : Value} {d : DataW H} {p : List MemPlace} (hv : Value.okWide Tryd.prog W r b0 22 v) (h : DataW.Trod enc Tryd.prog W 0 spare held 22 v d p) :
    ∃ (A : Option Addr) (n c : Nat), v = .slice A n c ∧ Byts W W.heap.size A n ∧ n ≤ maxLen := by
  obtain ⟨a0, len, cap, rfl⟩ := okWide_slice Tryd.underlying22 hv
  obtain ⟨fuel, hf⟩ := h
  rcases open_ints Tryd.underlying22 Tryd.underlying5 Tryd.cellsByt (by simpa [Value.cells] using hf) with ⟨hcs, _⟩ | ⟨a, len', cap', zs, hcs, _, hl, hm, hz, _, hcell, hwf⟩
  · injection hcs with hcs
    rw [hcs]
    exact ⟨none, 0, 0, rfl, fun h => by omega, by simp [maxLen]⟩
  · injection hcs with hcs
    rw [hcs]
    have hlz : len' ≤ zs.length := by rw [hz]; split <;> omega
    refine ⟨some a, len', cap', rfl, fun hp => ?_, by omega⟩
    obtain ⟨b, off, rfl, hc⟩ := ints_at hcell (by omega)
    refine ⟨b, off, rfl, lt_of_cell (hc 0 (by omega)), fun j hj => ?_⟩
    have hj' : j < zs.length := by omega
    have hm : zs.getD j 0 ∈ zs := by rw [List.getD_eq_getElem?_getD, List.getElem?_eq_getElem hj']; exact List.getElem_mem hj'
    have hw := hwf _ hm
    have hcj := hc j hj'
    generalize zs.getD j 0 = z at hw hcj
    simp [Lit.wf, IntKind.min, IntKind.max, IntKind.signed, IntKind.bits] at hw
    exact ⟨z, by omega, by omega, hcj⟩

end Go.Proofs.YtacehfjhpnplbaaDoor

/- The law of FnGrammarText holds of every two slices of bytes: the call returns true, and what was handed in reads afterwards as it read before. Conditions: the package's tables are as the program's text lays them (tied by the given tie). -/

namespace Go.Proofs.YtacehfjhpnplbaaDoor
open Go.ChangeShapes Go.WideShapes Go.ChangeAt Go.RowKit

set_option maxRecDepth 100000 in
theorem fnGrammarText_lifted (os : Os) (started : os.Started) (H : Type) (enc : TypeId × Value → H) :
    ReturnsInHanded {} Tryd.checked os 3 .any (fun w args => (Rows.fnGrammarTextSpec.pre enc Tryd.prog Tryd.f3 [] false w args ∧ laidMetH Tryd.prog laidLNT w) ∧ sizedMet enc Tryd.prog Tryd.f3 (OpenSpec.ofChange Rows.fnGrammarTextSpec) false w args)
      (Rows.fnGrammarTextSpec.post enc Tryd.prog Tryd.f3 false true false false) := by
  refine returnsInHanded_of_change_and (C := Tryd.checked) (X := fun w _ => laidMetH Tryd.prog laidLNT w) (fun _ _ _ hh h => h.of_heap hh) Tryd.own started (by kernel_rfl) Tryd.func3
    (ChangeSpec.witness_shaped (enc := enc) (C := Tryd.checked) (os := os) (X := fun w _ => laidMetH Tryd.prog laidLNT w) false (World.doorLaid Tryd.prog 400 os) #[.slice none 0 0, .slice none 0 0] 8 rfl (World.shaped_of_RefB (by kernel_rfl) (by kernel_rfl)) (by kernel_rfl) (by kernel_rfl) (by kernel_rfl) (door_LNT os _)) ?_
  intro W base args ds gs before hval0 hW _ _ hL _
  have hval : ∀ (j : Nat) t v, Tryd.f3.params[j]? = some t → args[j]? = some v → Value.okWide Tryd.prog W .any base t v := hval0
  have hW' := hW
  obtain ⟨p, q, hA0, hV0, rfl, hfz, hnd⟩ := hW
  have hA : DataW.TrodAll enc Tryd.prog W 0 (fun _ => true) true Tryd.f3.params.toList args.toList ds p := hA0
  have hV : DataW.TrodVars enc Tryd.prog W (fun _ => true) ["loop.example/g00758/impl.limits", "loop.example/g00758/impl.nonLetters", "loop.example/g00758/impl.tokLetters"] gs q := hV0
  rw [Tryd.params3] at hA hval
  obtain ⟨v0, v1, d0, d1, p0, p1, rfl, rfl, rfl, h0, h1⟩ := trodAll_two hA
  obtain ⟨g0, g1, g2, rfl⟩ := vars_three hV
  obtain ⟨A0, n0, c0, rfl, hB0, hm0⟩ := open_byts (hval 0 22 v0 rfl rfl) h0
  obtain ⟨A1, n1, c1, rfl, hB1, hm1⟩ := open_byts (hval 1 22 v1 rfl rfl) h1
  have hT := of_laidLNT hL
  refine (law_FnGrammarText A0 A1 n0 n1 c0 c1 W hB0 hB1 (Tabs.mk hT.1 hT.2.1 hT.2.2) hm0 hm1).mono fun e W' ⟨he, hb⟩ => ?_
  subst he
  exact ⟨_, rfl, ends_two hW' Tryd.params3 rfl rfl (by kernel_rfl) (of_decide_eq_true (by kernel_rfl)) (by kernel_rfl) (of_decide_eq_true (by kernel_rfl)) (by kernel_rfl) hb⟩

set_option maxRecDepth 100000 in
theorem fnGrammarText_holds : Rows.FnGrammarTextSaid :=
  OpenClaim.holds_of_wide 3 Tryd.f3 rfl rfl rfl rfl rfl rfl rfl ⟨rfl, rfl, rfl, rfl, rfl⟩ rfl rfl rfl rfl rfl (by kernel_rfl) Tryd.func3 (by kernel_rfl)
    (of_decide_eq_true (by kernel_rfl)) (by unfold Func.isWrapper; first | (rw [if_pos (by decide +kernel)]; kernel_rfl) | (rw [if_neg (by decide +kernel)]; exact ⟨rfl, rfl⟩))
    (fun os started H enc _ => fnGrammarText_lifted os started H enc)

set_option maxRecDepth 100000 in
theorem fnGrammarText_card : Rows.FnGrammarTextCardSaid :=
  Claim7.holds_tied_plain_at .later [] [.data, .data, .data] true (true, "506f21e04cab55988fc8f40970c57329631d7ba9fd3efc9b0d59a8a1f8b1144a") true
    fnGrammarText_holds (fun _ h => by cases h) (by kernel_rfl) (fun _ h => by cases h) fnGrammarText_row_tie rfl ⟨rfl, rfl⟩ (by kernel_rfl) rfl
    (fun f fn hf hfn => by
      obtain rfl : f = 3 := Option.some.inj ((show Tryd.prog.funcNamed "loop.example/g00758/laws.FnGrammarText" = some 3 by kernel_rfl).symm.trans hf) |>.symm
      obtain rfl : fn = Tryd.f3 := (Option.some.inj (Tryd.func3.symm.trans hfn)).symm
      exact ⟨by kernel_rfl, fun j t ht => by
        rw [Tryd.params3] at ht
        have hm : t ∈ [22, 22] := by simpa using Array.mem_of_getElem? ht
        have hall : ([22, 22].all fun u => !Tryd.prog.wantsStandIn u) = true := by kernel_rfl
        exact (show Tryd.prog.wantsStandIn t = false by simpa using List.all_eq_true.1 hall t hm)⟩)
    (by kernel_rfl)

#print axioms fnGrammarText_card
end Go.Proofs.YtacehfjhpnplbaaDoor
