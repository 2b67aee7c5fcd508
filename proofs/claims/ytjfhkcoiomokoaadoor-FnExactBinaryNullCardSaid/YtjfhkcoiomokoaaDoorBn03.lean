/- The program's binaryRules: the rules of a binary grammar. -/
import Derived.Test.YtjfhkcoiomokoaaDoorBn02
import Derived.Deep.AppendLies
import Derived.Deep.RegionLaw
import Derived.Test.YtjfhkcoiomokoaaDoorBn01
import Derived.Lib.QuietBelow
import Derived.Deep.RegionHeld3

namespace Go.Proofs.YtjfhkcoiomokoaaDoor
open Go.RowKit

def ruleOf (x : List Int) : Int × List Int := (x.headD 0, x.tail)
/-- The rules of a binary grammar. -/
def bRules (P O : List (List Int)) (E : List Int) : List (Int × List Int) := (P ++ O).map ruleOf ++ E.map fun e => (e, [])

theorem own_cells {w : World} {lo : Nat} {e : TypeId} {v : Value} {xs : List Value} (h : w.ownsRow lo e 1 v xs.length xs) :
    ∃ A c, v = .slice A xs.length c ∧ xs.length ≤ c ∧ ∀ (k : Nat) (x : Value), xs[k]? = some x → ∃ g, A = some ⟨g, 0, none⟩ ∧ lo ≤ g ∧ g < w.heap.size ∧ w.cell? ⟨g, k, none⟩ = some x := by
  obtain ⟨_, ⟨rfl, h0⟩ | ⟨g, cap, cur, rfl, hlo, hg, hcap, _, _, hx⟩⟩ := h
  · have : xs = [] := List.eq_nil_of_length_eq_zero h0
    subst this
    exact ⟨none, 0, rfl, Nat.le_refl _, fun k x hk => by simp at hk⟩
  · refine ⟨_, cap, rfl, hcap, fun k x hk => ⟨g, rfl, hlo, Row.lt (t := e) hg, ?_⟩⟩
    rw [Row.cell (t := e) hg]
    have hl := (List.getElem?_eq_some_iff.1 hk).1
    rw [← hx, List.getElem?_take, if_pos (by omega)] at hk
    simpa using hk

/-- The rules ds say ss, and their right sides can be read in w, below block B. -/
structure RulD (w : World) (B : Nat) (ds : List Ru) (ss : List (Int × List Int)) : Prop where
  say : ds.map Ru.abs = ss
  read : ∀ u ∈ ds, Ints w B u.a u.r
  caps : ∀ u ∈ ds, u.r.length ≤ u.c
theorem RulD.start (w : World) (B : Nat) : RulD w B [] [] := ⟨rfl, fun u h => by simp at h, fun u h => by simp at h⟩
theorem RulD.snoc {w : World} {B : Nat} {ds : List Ru} {ss : List (Int × List Int)} (h : RulD w B ds ss) {u : Ru} (hu : Ints w B u.a u.r) (hc : u.r.length ≤ u.c) : RulD w B (ds ++ [u]) (ss ++ [u.abs]) :=
  ⟨by rw [List.map_append, h.say]; rfl, fun v hv => (List.mem_append.1 hv).elim (h.read v) fun e => by rw [List.mem_singleton.1 e]; exact hu, fun v hv => (List.mem_append.1 hv).elim (h.caps v) fun e => by rw [List.mem_singleton.1 e]; exact hc⟩
theorem RulD.len {w : World} {B : Nat} {ds : List Ru} {ss : List (Int × List Int)} (h : RulD w B ds ss) : ds.length = ss.length := by rw [← h.say, List.length_map]

/-- A new slice of rules that say ss, with right sides that were there before; nothing older has turned. -/
def GaveRul (w : World) (B : Nat) (ss : List (Int × List Int)) (e : Ending) (w' : World) : Prop :=
  ∃ v rs, e = .returned v ∧ w'.ownsRow w.heap.size 83 2 v rs.length (rs.flatMap cellsU) ∧ RulD w B rs ss ∧ Below w.heap.size w w'

theorem rls_of {w w' : World} {B lo k : Nat} {v : Value} {ds : List Ru} {ss : List (Int × List Int)} (h : RulD w B ds ss) (h1 : ds.length = k) (h2 : w'.ownsRow lo 83 2 v k (ds.flatMap cellsU)) (hB : Below B w w') (hB2 : B ≤ w'.heap.size) : ∃ A c, v = .slice A ds.length c ∧ ds.length ≤ c ∧ Rls w' w'.heap.size A ds := by
  subst h1
  obtain ⟨_, ⟨rfl, h0⟩ | ⟨g, cap, cur, rfl, hlo, hg, hcap, _, _, hx⟩⟩ := h2
  · have : ds = [] := List.eq_nil_of_length_eq_zero h0
    subst this
    exact ⟨none, 0, rfl, Nat.le_refl _, fun hn => by simp at hn⟩
  · refine ⟨_, cap, rfl, hcap, fun _ => ⟨g, 0, rfl, Row.lt (t := 83) hg, fun k u hu => ?_⟩⟩
    have hk := (List.getElem?_eq_some_iff.1 hu).1
    obtain ⟨f1, f2⟩ := flat_get hu
    rw [← hx] at f1 f2
    rw [List.getElem?_take, if_pos (by omega)] at f1 f2
    rw [Nat.zero_add, Row.cell (t := 83) hg, Row.cell (t := 83) hg]
    exact ⟨by simpa using f1, by simpa using f2, ((h.read u (List.mem_of_getElem? hu)).keep hB).more hB2⟩

theorem own_lower {w : World} {lo lo' : Nat} {e : TypeId} {size n : Nat} {v : Value} {xs : List Value} (h : w.ownsRow lo e size v n xs) (hl : lo' ≤ lo) : w.ownsRow lo' e size v n xs := by
  obtain ⟨h1, h2 | ⟨g, cap, cur, e1, h3, h4⟩⟩ := h
  · exact ⟨h1, .inl h2⟩
  · exact ⟨h1, .inr ⟨g, cap, cur, e1, by omega, h4⟩⟩
theorem own_snocR {w : World} {lo k : Nat} {v : Value} {ds : List Ru} (u : Ru) (h : w.ownsRow lo 83 2 v k (ds.flatMap cellsU ++ [.int .i64 u.l, .slice u.a u.r.length u.c])) : w.ownsRow lo 83 2 v k ((ds ++ [u]).flatMap cellsU) := by
  rw [List.flatMap_append]
  simpa [cellsU] using h

set_option maxRecDepth 20000 in
set_option maxHeartbeats 1000000 in
theorem binaryRules_any (b : Bi) (B : Nat) (w : World) (hBB : B ≤ w.heap.size) (hr : ReadB w B b) (hm : LenB 1048576 b) (hp : ∀ u ∈ b.P ++ b.O, 2 ≤ u.r.length ∧ u.r.length ≤ 3) :
    Calls Tryd.prog 80 #[(.agg #[.int .i64 b.n, .int .i64 b.t, .slice b.Ap b.P.length b.cp, .slice b.Ao b.O.length b.co, .slice b.Ae b.E.length b.ce, .slice b.Af b.F.length b.cf])] w (GaveRul w B (bRules (sayL b.P) (sayL b.O) b.E)) := by
  have HR := Lib.hid hr; clear hr
  have HP := Lib.hid hp; clear hp
  have h1 := hm.p
  have h2 := hm.o
  have h3 := hm.e
  clear hm
  obtain ⟨i0, hi0, hz0, hz1, hz2⟩ := info_of Tryd.infoRule
  have HB0 : Hid (Below w.heap.size w ((w.alloc (.cells #[.int .i64 b.n, .int .i64 b.t, .slice b.Ap b.P.length b.cp, .slice b.Ao b.O.length b.co, .slice b.Ae b.E.length b.ce, .slice b.Af b.F.length b.cf] 45)).alloc (.cells #[.slice b.Ap b.P.length b.cp, .slice b.Ao b.O.length b.co] 27))) := by show Below _ _ _; go_grown
  have HR0 : Hid (Row ((w.alloc (.cells #[.int .i64 b.n, .int .i64 b.t, .slice b.Ap b.P.length b.cp, .slice b.Ao b.O.length b.co, .slice b.Ae b.E.length b.ce, .slice b.Af b.F.length b.cf] 45)).alloc (.cells #[.slice b.Ap b.P.length b.cp, .slice b.Ao b.O.length b.co] 27)) w.heap.size 45 #[.int .i64 b.n, .int .i64 b.t, .slice b.Ap b.P.length b.cp, .slice b.Ao b.O.length b.co, .slice b.Ae b.E.length b.ce, .slice b.Af b.F.length b.cf]) := (Row.new _ _ _).alloc _
  have HPT : Hid (PtsV ((w.alloc (.cells #[.int .i64 b.n, .int .i64 b.t, .slice b.Ap b.P.length b.cp, .slice b.Ao b.O.length b.co, .slice b.Ae b.E.length b.ce, .slice b.Af b.F.length b.cf] 45)).alloc (.cells #[.slice b.Ap b.P.length b.cp, .slice b.Ao b.O.length b.co] 27)) (w.heap.size + 1) [⟨b.Ap, b.P.map fun u => .slice u.a u.r.length u.c, b.cp⟩, ⟨b.Ao, b.O.map fun u => .slice u.a u.r.length u.c, b.co⟩]) := by
    refine ⟨by simp, fun k p hk => ?_⟩
    rcases k with _ | _ | k
    · simp at hk
      subst hk
      exact ⟨by simp [go_sem], ((HR.out.1.vread).keep (HB0.out.mono hBB)).more (Nat.le_trans hBB HB0.out.size)⟩
    · simp at hk
      subst hk
      exact ⟨by simp [go_sem], ((HR.out.2.1.vread).keep (HB0.out.mono hBB)).more (Nat.le_trans hBB HB0.out.size)⟩
    · simp at hk
  have HC := Lib.hid (concatV_any (w.heap.size + 1) _ 2 _ HPT.out (by simp [catV]; omega) (by simp))
  have hcat : catV [⟨b.Ap, b.P.map fun u => .slice u.a u.r.length u.c, b.cp⟩, ⟨b.Ao, b.O.map fun u => .slice u.a u.r.length u.c, b.co⟩] = (b.P ++ b.O).map fun u => (.slice u.a u.r.length u.c : Value) := by simp [catV]
  rw [hcat] at HC
  clear hcat HPT
  go_enter Tryd.func80, Tryd.ntmps80
  go_wp2_with fail
  refine HC.out.mono ?_
  rintro e w1 ⟨v, rfl, hO1, hB1⟩
  rw [show ((b.P ++ b.O).map fun u => (.slice u.a u.r.length u.c : Value)).length = ((b.P ++ b.O).map fun u => (.slice u.a u.r.length u.c : Value)).length from rfl] at hO1
  obtain ⟨A1, c1, rfl, hc1, hv1⟩ := own_cells hO1
  have HR1 := Lib.hid (HR0.out.below hB1 HR0.out.lt)
  have HB1 : Hid (Below w.heap.size w w1) := HB0.out.trans (hB1.mono HB0.out.size)
  have HZ1 : Hid (w.heap.size + 2 ≤ w1.heap.size) := by have h := hB1.size; rw [World.size_alloc, World.size_alloc] at h; exact h
  have HRD : Hid (∀ u ∈ b.P ++ b.O, u.r.length ≤ u.c ∧ Ints w B u.a u.r) := fun u hu => by
    rcases List.mem_append.1 hu with hu | hu
    · obtain ⟨k, hk, e⟩ := List.getElem_of_mem hu
      obtain ⟨_, _, _, _, _, h, h'⟩ := HR.out.1.at_ hk
      rw [e] at h h'; exact ⟨h, h'⟩
    · obtain ⟨k, hk, e⟩ := List.getElem_of_mem hu
      obtain ⟨_, _, _, _, _, h, h'⟩ := HR.out.2.1.at_ hk
      rw [e] at h h'; exact ⟨h, h'⟩
  have hLl : (b.P ++ b.O).length ≤ 2097152 := by rw [List.length_append]; omega
  have HSL : Hid ((b.P ++ b.O).map Li.r = sayL b.P ++ sayL b.O) := by show _ = _; rw [List.map_append]; rfl
  rw [List.length_map] at hc1 ⊢
  have HV1 : Hid (∀ (k : Nat) (u : Li), (b.P ++ b.O)[k]? = some u → ∃ g, A1 = some ⟨g, 0, none⟩ ∧ g < w1.heap.size ∧ w1.cell? ⟨g, k, none⟩ = some (.slice u.a u.r.length u.c)) := fun k u hu => by
    obtain ⟨g, e, _, hg, h⟩ := hv1 k (.slice u.a u.r.length u.c) (by rw [List.getElem?_map, hu]; rfl)
    exact ⟨g, e, hg, h⟩
  clear hO1 hB1 hv1 HC HB0 HR0
  generalize b.P ++ b.O = L at *
  go_wp2
  go_loopw [3, 15] (fun v y wr => ∃ (k : Nat) (ds : List Ru), k ≤ L.length ∧ y = .int .i64 k ∧ Hid (ds.length = k) ∧ Hid (Below w1.heap.size w1 wr) ∧ Hid (wr.ownsRow w1.heap.size 83 2 v k (ds.flatMap cellsU)) ∧ Hid (RulD w B ds (((L.take k).map Li.r).map ruleOf))) (fun _ y _ => L.length - (intOf y).toNat)
  case atStart => exact ⟨0, [], by omega, rfl, rfl, Below.refl _ _, ⟨rfl, .inl ⟨rfl, rfl⟩⟩, RulD.start _ _⟩
  case round =>
    obtain ⟨k, ds, hk, rfl, HDL, HB, HOW, HD⟩ := hrel
    by_cases hlt : k < L.length
    · obtain ⟨g, rfl, hg, d1⟩ := HV1.out k L[k] (List.getElem?_eq_getElem hlt)
      have d1' := (HB.out.cell (p := ⟨g, k, none⟩) hg).trans d1
      have hl2 := HP.out L[k] (List.getElem_mem hlt)
      have HI := Lib.hid (HRD.out L[k] (List.getElem_mem hlt)).2
      have huc := (HRD.out L[k] (List.getElem_mem hlt)).1
      have HTK : Hid (((L.take (k + 1)).map Li.r).map ruleOf = ((L.take k).map Li.r).map ruleOf ++ [ruleOf L[k].r]) := by show _ = _; rw [List.take_succ_eq_append_getElem hlt, List.map_append, List.map_append]; rfl
      clear d1
      generalize L[k] = u at d1' hl2 HI HTK huc
      obtain ⟨ua, ur, uc⟩ := u
      dsimp only at d1' hl2 HI HTK huc
      obtain ⟨bb, oo, rfl, hbb, hcc⟩ := HI.out (by omega)
      rcases ur with _ | ⟨y, ur⟩
      · simp at hl2
      have HBW := Lib.hid (HB1.out.trans (HB.out.mono HB1.out.size))
      have e0 := (HBW.out.cell (p := ⟨bb, oo, none⟩) (Nat.lt_of_lt_of_le hbb hBB)).trans (hcc 0 y rfl)
      have HIT : Hid (Ints w B (some ⟨bb, oo + 1, none⟩) ur) := fun _ => ⟨bb, oo + 1, rfl, hbb, fun k x hx => by rw [Nat.add_assoc, Nat.add_comm 1 k]; exact hcc (k + 1) x (by simpa using hx)⟩
      clear hcc HI
      have hul : 1 ≤ ur.length := by simp at hl2; omega
      have hul2 : ur.length ≤ 2 := by simp at hl2; omega
      have hlc : (y :: ur).length = ur.length + 1 := rfl
      rw [hlc] at d1' huc
      clear hlc hl2
      have hs := HB.out.size
      go_wp2_with fail
      have hI1 : (0 : Int) ≤ (ur.length : Int) + 1 := by omega
      have hI2 : (ur.length : Int) + 1 ≤ (uc : Int) := by omega
      have hI3 : (1 : Int) ≤ (ur.length : Int) + 1 := by omega
      have hne : ur ≠ [] := fun e => by subst e; simp at hul
      have HVB : Hid (∀ b, u3.ownBlock = some b → w1.heap.size ≤ b ∧ b < wr.heap.size) := fun b e => HOW.out.lt b e
      go_region_law (first
        | (refine step_append_lies _ rfl _ _ _ rfl w1.heap.size 83 i0 _ 2 32 Tryd.underlying30 hi0 hz0 hz1 hz2 rfl (by omega) u3 k (ds.flatMap cellsU) (by simp [Act.eval]) ((own_below HOW.out (by go_grown)).alloc _)
             ⟨wr.heap.size, 0, none⟩ 1 1 [.int .i64 y, .slice (some ⟨bb, oo + 1, none⟩) ur.length ur.length] (by simp [Act.eval]) rfl (two_new _ _ _ _) (by simp [Value.oneCell'])
             (by omega) (by unfold maxLen; omega) (by omega) (by simp; omega) (wr.heap.size + 1) (by simp) ?_
           intro gg cap w' p1 p2 p3 p4
           have HON : Hid (w'.ownsRow w1.heap.size 83 2 (.slice (some ⟨gg, 0, none⟩) (k + 1) cap) (k + 1) ((ds ++ [(⟨y, some ⟨bb, oo + 1, none⟩, ur, ur.length⟩ : Ru)]).flatMap cellsU)) := own_snocR ⟨y, some ⟨bb, oo + 1, none⟩, ur, ur.length⟩ p1
           have hBn : Below w1.heap.size wr w' := Below.grown (by go_grown) p2 (by simp; omega) fun j hj => (HOW.out.lt j hj).1
           have HBn := Lib.hid (HB.out.trans hBn)
           clear p1 p2 p3 p4 hBn)
        | fail)
      all_goals
        clear hI1 hI2 hI3
        go_wp2
        go_roundw
        case rel => exact ⟨k + 1, _, by omega, by go_num, by show _ = _; rw [List.length_append, HDL.out]; rfl, HBn.out, HON.out, by show RulD _ _ _ _; rw [HTK.out]; exact HD.out.snoc HIT.out (Nat.le_refl _)⟩
        case measure => simp [intOf]; omega
    · obtain rfl : k = L.length := by omega
      have HDA : Hid (RulD w B ds ((sayL b.P ++ sayL b.O).map ruleOf)) := by have h := HD.out; rw [List.take_length, HSL.out] at h; exact h
      have HBW := Lib.hid (HB1.out.trans (HB.out.mono HB1.out.size))
      have HR2 := Lib.hid (HR1.out.below HB.out HR1.out.lt)
      have hs := HB.out.size
      have hdl : ds.length ≤ 2097152 := by have := HDL.out; omega
      have HOW2 : Hid (wr.ownsRow w1.heap.size 83 2 u3 ds.length (ds.flatMap cellsU)) := by have h := HOW.out; rw [← HDL.out] at h; exact h
      clear HD HR1 HOW HDL HV1 HRD HSL HP
      have x4 := HR2.out.cell 4
      simp only [List.getElem?_toArray, List.getElem?_cons_succ, List.getElem?_cons_zero] at x4
      obtain ⟨wA, hwA⟩ : ∃ x, x = wr := ⟨wr, rfl⟩
      subst hwA
      obtain ⟨fs, hfs⟩ : ∃ x, x = ds := ⟨_, rfl⟩
      subst hfs
      go_wp2
      clear x4
      go_loopw [3, 36] (fun v y wr => ∃ (k : Nat) (ds : List Ru), k ≤ b.E.length ∧ y = .int .i64 k ∧ Hid (ds.length = fs.length + k) ∧ Hid (Below w1.heap.size w1 wr) ∧ Hid (wr.ownsRow w1.heap.size 83 2 v ds.length (ds.flatMap cellsU)) ∧ Hid (RulD w B ds ((sayL b.P ++ sayL b.O).map ruleOf ++ (b.E.take k).map fun e => (e, [])))) (fun _ y _ => b.E.length - (intOf y).toNat)
      case atStart => exact ⟨0, fs, by omega, rfl, rfl, HB.out, HOW2.out, by show RulD _ _ _ _; rw [List.take_zero, List.map_nil, List.append_nil]; exact HDA.out⟩
      case round =>
        clear HB HDA HOW2
        obtain ⟨k, ds, hk, rfl, HDL, HB, HOW, HD⟩ := hrel
        by_cases hlt2 : k < b.E.length
        · have hsz := HB.out.size
          have HBX := Lib.hid (HB1.out.trans (HB.out.mono HB1.out.size))
          obtain ⟨bb, oo, ea, hbb, e0⟩ := (HR.out.2.2.1.keep (HBX.out.mono hBB)).at_ hlt2
          have hdd : ds.length ≤ 4194304 := by have := HDL.out; omega
          have HTK : Hid ((b.E.take (k + 1)).map (fun e => ((e, []) : Int × List Int)) = (b.E.take k).map (fun e => (e, [])) ++ [(b.E[k], [])]) := by show _ = _; rw [List.take_succ_eq_append_getElem hlt2, List.map_append]; rfl
          rw [ea]
          have HOD : Hid ((wr.alloc (.cells #[.int .i64 b.E[k], .slice none 0 0] 83)).ownsRow w1.heap.size 83 2 u3 ds.length (ds.flatMap cellsU)) := HOW.out.alloc _
          have HND := Lib.hid (two_new wr (.int .i64 b.E[k]) (.slice none 0 0) 83)
          go_wp2_with (at_builtin
                       refine wpList_append_own _ rfl (.tmp 40) (.tmp 43) _ rfl w1.heap.size 83 i0 _ 2 32 Tryd.underlying30 hi0 hz0 hz1 hz2 rfl (by omega) _ _ _ rfl HOD.out ⟨wr.heap.size, 0, none⟩ 1 1 [.int .i64 b.E[k], .slice none 0 0] rfl rfl HND.out (by simp [Value.oneCell']) (by unfold maxLen; omega) (by omega) (by simp; omega) ?_
                       intro v' w' p1 p2 p3
                       have HON : Hid (w'.ownsRow w1.heap.size 83 2 v' (ds ++ [(⟨b.E[k], none, [], 0⟩ : Ru)]).length ((ds ++ [(⟨b.E[k], none, [], 0⟩ : Ru)]).flatMap cellsU)) := by show World.ownsRow _ _ _ _ _ _ _; rw [List.length_append]; exact own_snocR ⟨b.E[k], none, [], 0⟩ p1
                       have hBn : Below w1.heap.size wr w' := ((Below.refl _ _).alloc (by omega) _).grown p2 (by simp; omega) fun j hj => (HOW.out.lt j hj).1
                       have HBn := Lib.hid (HB.out.trans hBn)
                       clear p1 p2 p3 hBn)
          go_roundw
          case rel => exact ⟨k + 1, _, by omega, by go_num, by have := HDL.out; show _ = _; rw [List.length_append]; simp; omega, HBn.out, HON.out, by show RulD _ _ _ _; rw [HTK.out, ← List.append_assoc]; exact HD.out.snoc (u := ⟨b.E[k], none, [], 0⟩) (fun h => by simp at h) (Nat.le_refl _)⟩
          case measure => simp [intOf]; omega
        · obtain rfl : k = b.E.length := by omega
          have HBX := Lib.hid (HB1.out.trans (HB.out.mono HB1.out.size))
          have HSY : Hid (RulD w B ds (bRules (sayL b.P) (sayL b.O) b.E)) := by have h := HD.out; rw [List.take_length] at h; exact h
          have HOW2 : Hid (wr.ownsRow w.heap.size 83 2 u3 ds.length (ds.flatMap cellsU)) := own_lower HOW.out HB1.out.size
          go_wp2
          go_ret
          exact ⟨_, ds, rfl, HOW2.out, HSY.out, HBX.out⟩

end Go.Proofs.YtjfhkcoiomokoaaDoor

/- Plain mathematics of chapter 5: which lists rise, which binary grammars are good. No program, no memory. -/

namespace Go.Proofs.YtjfhkcoiomokoaaDoor

noncomputable def bP (P : Prop) : Bool := @decide P (Classical.propDecidable P)
theorem bP_t {P : Prop} (h : P) : bP P = true := @decide_eq_true P (Classical.propDecidable P) h
theorem bP_f {P : Prop} (h : ¬ P) : bP P = false := @decide_eq_false P (Classical.propDecidable P) h
theorem bP_is {P : Prop} (h : bP P = true) : P := @of_decide_eq_true P (Classical.propDecidable P) h
theorem bP_no {P : Prop} (h : bP P = false) : ¬ P := @of_decide_eq_false P (Classical.propDecidable P) h
theorem bP_congr {P Q : Prop} (h : P ↔ Q) : bP P = bP Q := by rw [propext h]

/-- Two lists compared: the first unlike number decides. -/
def cmpL : List Int → List Int → Int
  | [], [] => 0
  | [], _ :: _ => -1
  | _ :: _, [] => 1
  | x :: a, y :: b => if x < y then -1 else if y < x then 1 else cmpL a b

theorem cmpL_range : ∀ (a b : List Int), cmpL a b = -1 ∨ cmpL a b = 0 ∨ cmpL a b = 1
  | [], [] => by simp [cmpL]
  | [], _ :: _ => by simp [cmpL]
  | _ :: _, [] => by simp [cmpL]
  | x :: a, y :: b => by
    simp only [cmpL]
    split
    · simp
    · split
      · simp
      · exact cmpL_range a b

theorem cmpL_drop {a b : List Int} {k : Nat} (ha : k < a.length) (hb : k < b.length) : cmpL (a.drop k) (b.drop k) = if a[k] < b[k] then -1 else if b[k] < a[k] then 1 else cmpL (a.drop (k + 1)) (b.drop (k + 1)) := by
  rw [List.drop_eq_getElem_cons ha, List.drop_eq_getElem_cons hb]; rfl
theorem cmpL_left {a b : List Int} {k : Nat} (ha : k < a.length) (hb : ¬ k < b.length) : cmpL (a.drop k) (b.drop k) = 1 := by
  rw [List.drop_of_length_le (l := b) (by omega), List.drop_eq_getElem_cons ha]; rfl
theorem cmpL_right {a b : List Int} {k : Nat} (ha : ¬ k < a.length) (hb : k < b.length) : cmpL (a.drop k) (b.drop k) = -1 := by
  rw [List.drop_of_length_le (l := a) (by omega), List.drop_eq_getElem_cons hb]; rfl
theorem cmpL_end {a b : List Int} {k : Nat} (ha : ¬ k < a.length) (hb : ¬ k < b.length) : cmpL (a.drop k) (b.drop k) = 0 := by
  rw [List.drop_of_length_le (by omega), List.drop_of_length_le (by omega)]; rfl

/-- The first k lists rise. -/
def RiseTo (xs : List (List Int)) (k : Nat) : Prop := ∀ (j : Nat) (a b : List Int), j + 1 < k → xs[j]? = some a → xs[j + 1]? = some b → cmpL a b < 0
theorem RiseTo.none (xs : List (List Int)) : RiseTo xs 1 := fun j a b h => absurd h (by omega)
theorem RiseTo.zero (xs : List (List Int)) : RiseTo xs 0 := fun j a b h => absurd h (by omega)
theorem RiseTo.step {xs : List (List Int)} {k : Nat} (h : RiseTo xs (k + 1)) {a b : List Int} (ha : xs[k]? = some a) (hb : xs[k + 1]? = some b) (hc : cmpL a b < 0) : RiseTo xs (k + 2) := by
  intro j a' b' hj ha' hb'
  by_cases e : j = k
  · subst e
    rw [ha] at ha'; rw [hb] at hb'
    injection ha' with ha'; injection hb' with hb'
    rw [← ha', ← hb']; exact hc
  · exact h j a' b' (by omega) ha' hb'
theorem RiseTo.mono {xs : List (List Int)} {k m : Nat} (h : RiseTo xs k) (hm : m ≤ k ∨ xs.length ≤ k) : RiseTo xs m := by
  intro j a b hj ha hb
  have := (List.getElem?_eq_some_iff.1 hb).1
  exact h j a b (by omega) ha hb

/-- Numbers rise. -/
def RiseI (xs : List Int) (k : Nat) : Prop := ∀ (j : Nat) (a b : Int), j + 1 < k → xs[j]? = some a → xs[j + 1]? = some b → a < b
theorem RiseI.none (xs : List Int) : RiseI xs 1 := fun j a b h => absurd h (by omega)
theorem RiseI.zero (xs : List Int) : RiseI xs 0 := fun j a b h => absurd h (by omega)
theorem RiseI.step {xs : List Int} {k : Nat} (h : RiseI xs (k + 1)) {a b : Int} (ha : xs[k]? = some a) (hb : xs[k + 1]? = some b) (hc : a < b) : RiseI xs (k + 2) := by
  intro j a' b' hj ha' hb'
  by_cases e : j = k
  · subst e
    rw [ha] at ha'; rw [hb] at hb'
    injection ha' with ha'; injection hb' with hb'
    rw [← ha', ← hb']; exact hc
  · exact h j a' b' (by omega) ha' hb'
theorem RiseI.mono {xs : List Int} {k m : Nat} (h : RiseI xs k) (hm : m ≤ k ∨ xs.length ≤ k) : RiseI xs m := by
  intro j a b hj ha hb
  have := (List.getElem?_eq_some_iff.1 hb).1
  exact h j a b (by omega) ha hb

/-- All lists are of one length. -/
def LongTo (long : Int) (xs : List (List Int)) (k : Nat) : Prop := ∀ (j : Nat) (x : List Int), j < k → xs[j]? = some x → (x.length : Int) = long
/-- A list is a nonterminal and symbols. -/
def symL (n t : Int) (x : List Int) : Prop := nonB n (x.getD 0 0) = true ∧ symsB n t (x.drop 1) = true
def SymTo (n t : Int) (xs : List (List Int)) (k : Nat) : Prop := ∀ (j : Nat) (x : List Int), j < k → xs[j]? = some x → symL n t x
def NonTo (n : Int) (xs : List Int) (k : Nat) : Prop := ∀ (j : Nat) (x : Int), j < k → xs[j]? = some x → nonB n x = true

def GoodLs (n t long : Int) (xs : List (List Int)) : Prop := LongTo long xs xs.length ∧ SymTo n t xs xs.length ∧ RiseTo xs xs.length
def GoodE (n : Int) (xs : List Int) : Prop := NonTo n xs xs.length ∧ RiseI xs xs.length

/-- A binary grammar is good. -/
def GoodBs (s : Bs) : Prop := (1 ≤ s.n ∧ s.n ≤ 40) ∧ (1 ≤ s.t ∧ s.t ≤ 4) ∧ GoodLs s.n s.t 3 s.P ∧ GoodLs s.n s.t 2 s.O ∧ GoodE s.n s.E ∧ (s.F.length : Int) ≤ s.n ∧ LongTo 2 s.F s.F.length

theorem upto_next {α : Type} {Q : α → Prop} {xs : List α} {k : Nat} {y : α} (hy : xs[k]? = some y) (h : Q y) (H : ∀ (j : Nat) (x : α), j < k → xs[j]? = some x → Q x) : ∀ (j : Nat) (x : α), j < k + 1 → xs[j]? = some x → Q x := by
  intro j x hj hx
  by_cases e : j = k
  · subst e; rw [hy] at hx; injection hx with hx; rw [← hx]; exact h
  · exact H j x (by omega) hx
theorem upto_end {α : Type} {Q : α → Prop} {xs : List α} {k m : Nat} (hk : ¬ k < xs.length) (H : ∀ (j : Nat) (x : α), j < k → xs[j]? = some x → Q x) : ∀ (j : Nat) (x : α), j < m → xs[j]? = some x → Q x :=
  fun j x _ hx => H j x (by have := (List.getElem?_eq_some_iff.1 hx).1; omega) hx

def FitL (xs : List (List Int)) : Prop := ∀ x ∈ xs, ∀ y ∈ x, F64 y
def FitB (s : Bs) : Prop := FitL s.P ∧ FitL s.O ∧ (∀ y ∈ s.E, F64 y) ∧ FitL s.F

end Go.Proofs.YtjfhkcoiomokoaaDoor

/- What the program's checks of lists answer: slices.Compare, isRising, allLong, goodLists, goodEmpty. -/

namespace Go.Proofs.YtjfhkcoiomokoaaDoor
open Go.RowKit

/-- Two numbers compared. -/
def cmpI (x y : Int) : Int := if x < y then -1 else if y < x then 1 else 0

theorem cmpI_lt {x y : Int} : cmpI x y < 0 ↔ x < y := by
  unfold cmpI
  split
  · simp_all
  · split <;> simp_all

set_option maxHeartbeats 400000 in
theorem isNaN_any (x : Int) (w : World) : Calls Tryd.prog 133 #[.int .i64 x] w fun e w' => e = .returned (.bool false) ∧ w' = w := by
  have hd : (x != x) = false := by simp
  go_enter Tryd.func133, Tryd.ntmps133
  go_wp2
  go_ret
  exact ⟨rfl, rfl⟩

set_option maxHeartbeats 400000 in
theorem compareI_any (x y : Int) (w : World) : Calls Tryd.prog 104 #[.int .i64 x, .int .i64 y] w fun e w' => e = .returned (.int .i64 (cmpI x y)) ∧ w' = w := by
  rcases Int.lt_trichotomy x y with h | h | h
  · have HE : Hid (cmpI x y = -1) := by show _ = _; unfold cmpI; rw [if_pos h]
    go_enter Tryd.func104, Tryd.ntmps104
    go_wp2_with (go_at_call 133; refine (isNaN_any _ _).mono ?_; rintro e w' ⟨rfl, rfl⟩)
    go_ret
    exact ⟨by rw [HE.out]; rfl, rfl⟩
  · have HE : Hid (cmpI x y = 0) := by show _ = _; unfold cmpI; rw [if_neg (by omega), if_neg (by omega)]
    have h1 : ¬ x < y := by omega
    have h2 : ¬ y < x := by omega
    clear h
    go_enter Tryd.func104, Tryd.ntmps104
    go_wp2_with (go_at_call 133; refine (isNaN_any _ _).mono ?_; rintro e w' ⟨rfl, rfl⟩)
    go_ret
    exact ⟨by rw [HE.out]; rfl, rfl⟩
  · have HE : Hid (cmpI x y = 1) := by show _ = _; unfold cmpI; rw [if_neg (by omega), if_pos h]
    have h1 : ¬ x < y := by omega
    go_enter Tryd.func104, Tryd.ntmps104
    go_wp2_with (go_at_call 133; refine (isNaN_any _ _).mono ?_; rintro e w' ⟨rfl, rfl⟩)
    go_ret
    exact ⟨by rw [HE.out]; rfl, rfl⟩

set_option maxHeartbeats 400000 in
theorem compareL_any (A A' : Option Addr) (xs ys : List Int) (c c' : Nat) (w : World) (hx : Ints w w.heap.size A xs) (hy : Ints w w.heap.size A' ys) (h1 : xs.length ≤ 1048576) :
    Calls Tryd.prog 63 #[.slice A xs.length c, .slice A' ys.length c'] w fun e w' => e = .returned (.int .i64 (cmpL xs ys)) ∧ w' = w := by
  have HX := Lib.hid hx; clear hx
  have HY := Lib.hid hy; clear hy
  go_enter Tryd.func63, Tryd.ntmps63
  go_wp2
  go_loopw [11] (fun i wr => ∃ (k : Nat), k ≤ xs.length ∧ i = .int .i64 k ∧ wr = w ∧ Hid (cmpL xs ys = cmpL (xs.drop k) (ys.drop k))) (fun i _ => xs.length - (intOf i).toNat)
  case atStart => exact ⟨0, by omega, rfl, rfl, rfl⟩
  case round =>
    obtain ⟨k, hk, rfl, rfl, H⟩ := hrel
    by_cases hlt : k < xs.length
    · obtain ⟨b, o, rfl, hb, c1⟩ := HX.out.at_ hlt
      by_cases hlt' : k < ys.length
      · obtain ⟨b', o', rfl, hb', c2⟩ := HY.out.at_ hlt'
        by_cases hne : cmpI xs[k] ys[k] = 0
        · have hd : (cmpI xs[k] ys[k] != 0) = false := bne_f hne
          have HN : Hid (cmpL xs ys = cmpL (xs.drop (k + 1)) (ys.drop (k + 1))) := by
            show _ = _
            rw [H.out, cmpL_drop hlt hlt']
            unfold cmpI at hne
            split at hne
            · cases hne
            · split at hne
              · cases hne
              · rename_i g1 g2; rw [if_neg g1, if_neg g2]
          clear hne
          go_wp2_with (go_at_call 104; refine (compareI_any _ _ _).mono ?_; rintro e w' ⟨rfl, rfl⟩)
          go_roundw
          case rel => exact ⟨k + 1, by omega, by go_num, trivial, HN.out⟩
          case measure => simp [intOf]; omega
        · have hd : (cmpI xs[k] ys[k] != 0) = true := bne_t hne
          have HN : Hid (cmpL xs ys = cmpI xs[k] ys[k]) := by
            show _ = _
            rw [H.out, cmpL_drop hlt hlt']
            unfold cmpI at hne ⊢
            split
            · rfl
            · split
              · rfl
              · rename_i g1 g2; rw [if_neg g1, if_neg g2] at hne; exact absurd rfl hne
          clear hne
          go_wp2_with (go_at_call 104; refine (compareI_any _ _ _).mono ?_; rintro e w' ⟨rfl, rfl⟩)
          go_ret
          exact ⟨by rw [HN.out]; rfl, rfl⟩
      · have HN : Hid (cmpL xs ys = 1) := H.out.trans (cmpL_left hlt hlt')
        go_wp2
        go_ret
        exact ⟨by rw [HN.out]; rfl, rfl⟩
    · by_cases hl : xs.length < ys.length
      · have HN : Hid (cmpL xs ys = -1) := H.out.trans (cmpL_right hlt (by omega))
        go_wp2
        go_ret
        exact ⟨by rw [HN.out]; rfl, rfl⟩
      · by_cases hl2 : k < ys.length
        · omega
        have HN : Hid (cmpL xs ys = 0) := H.out.trans (cmpL_end hlt hl2)
        go_wp2
        go_ret
        exact ⟨by rw [HN.out]; rfl, rfl⟩

set_option maxRecDepth 100000 in
theorem cmpF_enter (xs : Array Value) (v : World) : Sem.run Tryd.prog (callFunc 63 xs) v = .ok (.enter 63 xs) v := rfl
set_option maxRecDepth 100000 in
theorem cmpI_enter (xs : Array Value) (v : World) : Sem.run Tryd.prog (callFunc 104 xs) v = .ok (.enter 104 xs) v := rfl

set_option maxRecDepth 20000 in
set_option maxHeartbeats 400000 in
theorem isRisingL_any (A : Option Addr) (ls : List Li) (c : Nat) (w : World) (hx : Lls w w.heap.size A ls) (h1 : ls.length ≤ 1048576) (h2 : ∀ u ∈ ls, u.r.length ≤ 1048576) :
    Calls Tryd.prog 109 #[.slice A ls.length c, .func (.func 63) #[] #[]] w fun e w' => e = .returned (.bool (bP (RiseTo (sayL ls) ls.length))) ∧ Below w.heap.size w w' := by
  have HX := Lib.hid hx; clear hx
  have H2 := Lib.hid h2; clear h2
  have HCF := cmpF_enter
  go_enter Tryd.func109, Tryd.ntmps109
  go_wp2
  go_loopw [5] (fun i wr => ∃ (j : Nat), i = .int .i64 ((j + 1 : Nat) : Int) ∧ j ≤ ls.length ∧ Below w.heap.size w wr ∧ Hid (RiseTo (sayL ls) (j + 1))) (fun i _ => ls.length + 1 - (intOf i).toNat)
  case atStart => exact ⟨0, rfl, by omega, Below.refl _ _, RiseTo.none _⟩
  case round =>
    obtain ⟨k, rfl, hk, hB, H⟩ := hrel
    by_cases hlt' : k + 1 < ls.length
    · have hlt : k < ls.length := by omega
      obtain ⟨b, o, rfl, hb, c1, _, c3⟩ := (HX.out.keep hB).at_ hlt
      obtain ⟨b', o', e', hb', d1, _, d3⟩ := (HX.out.keep hB).at_ hlt'
      injection e' with e'
      injection e' with e1 e2
      subst e1 e2
      have C3 := Lib.hid (c3.more hB.size); clear c3
      have D3 := Lib.hid (d3.more hB.size); clear d3
      have hlen2 := H2.out ls[k] (List.getElem_mem hlt)
      by_cases hq : cmpL ls[k].r ls[k + 1].r < 0
      all_goals
        have HQ := Lib.hid hq
        have hwk : IntKind.i64.wrap (k : Int) = (k : Int) := by rw [IntKind.wrap_i64]; omega
        have hI1 : (k : Int) + 1 < (ls.length : Int) := by omega
        have hI0 : (0 : Int) ≤ (k : Int) + 1 := by omega
        have hT : ((k : Int) + 1).toNat = k + 1 := by omega
        go_wp2
        go_still_tail 10, (by kernel_rfl)
        change wpList _ _ _ _ _ wr.drew
        go_wp2_with fail
        refine (compareL_any _ _ _ _ _ _ _ ?_ ?_ hlen2).mono ?_
        · exact C3.out.keep (by go_grown)
        · exact D3.out.keep (by go_grown)
        rintro e w1 ⟨rfl, rfl⟩
        have hB2 : Below w.heap.size w wr.drew := hB.trans (Below.trans (by go_grown) (Below.refl _ _))
      · have HN : Hid (RiseTo (sayL ls) (k + 1 + 1)) := H.out.step (sayL_at hlt) (sayL_at hlt') HQ.out
        go_wp2
        go_roundw
        case rel => exact ⟨k + 1, by go_num, by omega, hB2, HN.out⟩
        case measure => simp [intOf]; omega
      · have HE : Hid (bP (RiseTo (sayL ls) ls.length) = false) := bP_f fun h => by have h1 := h k _ _ hlt' (sayL_at hlt) (sayL_at hlt'); have h2 := HQ.out; omega
        go_wp2
        go_ret
        exact ⟨ret_b HE.out.symm, hB2⟩
    · have HE : Hid (bP (RiseTo (sayL ls) ls.length) = true) := bP_t (H.out.mono (by omega))
      go_wp2
      go_ret
      exact ⟨ret_b HE.out.symm, hB⟩

set_option maxRecDepth 20000 in
set_option maxHeartbeats 400000 in
theorem isRisingI_any (A : Option Addr) (xs : List Int) (c : Nat) (w : World) (hx : Ints w w.heap.size A xs) (h1 : xs.length ≤ 1048576) :
    Calls Tryd.prog 110 #[.slice A xs.length c, .func (.func 104) #[] #[]] w fun e w' => e = .returned (.bool (bP (RiseI xs xs.length))) ∧ Below w.heap.size w w' := by
  have HX := Lib.hid hx; clear hx
  have HCF := cmpI_enter
  go_enter Tryd.func110, Tryd.ntmps110
  go_wp2
  go_loopw [5] (fun i wr => ∃ (j : Nat), i = .int .i64 ((j + 1 : Nat) : Int) ∧ j ≤ xs.length ∧ Below w.heap.size w wr ∧ Hid (RiseI xs (j + 1))) (fun i _ => xs.length + 1 - (intOf i).toNat)
  case atStart => exact ⟨0, rfl, by omega, Below.refl _ _, RiseI.none _⟩
  case round =>
    obtain ⟨k, rfl, hk, hB, H⟩ := hrel
    by_cases hlt' : k + 1 < xs.length
    · have hlt : k < xs.length := by omega
      obtain ⟨b, o, rfl, hb, c1⟩ := (HX.out.keep hB).at_ hlt
      obtain ⟨b', o', e', hb', d1⟩ := (HX.out.keep hB).at_ hlt'
      injection e' with e'
      injection e' with e1 e2
      subst e1 e2
      by_cases hq : cmpI xs[k] xs[k + 1] < 0
      all_goals
        have HQ := Lib.hid hq
        have hwk : IntKind.i64.wrap (k : Int) = (k : Int) := by rw [IntKind.wrap_i64]; omega
        have hI1 : (k : Int) + 1 < (xs.length : Int) := by omega
        have hI0 : (0 : Int) ≤ (k : Int) + 1 := by omega
        have hT : ((k : Int) + 1).toNat = k + 1 := by omega
        go_wp2
        go_still_tail 10, (by kernel_rfl)
        change wpList _ _ _ _ _ wr.drew
        go_wp2_with fail
        refine (compareI_any _ _ _).mono ?_
        rintro e w1 ⟨rfl, rfl⟩
        have hB2 : Below w.heap.size w wr.drew := hB.trans (Below.trans (by go_grown) (Below.refl _ _))
      · have HN : Hid (RiseI xs (k + 1 + 1)) := H.out.step (List.getElem?_eq_getElem hlt) (List.getElem?_eq_getElem hlt') (cmpI_lt.1 HQ.out)
        go_wp2
        go_roundw
        case rel => exact ⟨k + 1, by go_num, by omega, hB2, HN.out⟩
        case measure => simp [intOf]; omega
      · have HE : Hid (bP (RiseI xs xs.length) = false) := bP_f fun h => by have h1 := cmpI_lt.2 (h k _ _ hlt' (List.getElem?_eq_getElem hlt) (List.getElem?_eq_getElem hlt')); have h2 := HQ.out; omega
        go_wp2
        go_ret
        exact ⟨ret_b HE.out.symm, hB2⟩
    · have HE : Hid (bP (RiseI xs xs.length) = true) := bP_t (H.out.mono (by omega))
      go_wp2
      go_ret
      exact ⟨ret_b HE.out.symm, hB⟩

set_option maxHeartbeats 400000 in
theorem allLong_any (A : Option Addr) (ls : List Li) (c : Nat) (long : Int) (w : World) (hx : Lls w w.heap.size A ls) (h1 : ls.length ≤ 1048576) :
    Calls Tryd.prog 74 #[.slice A ls.length c, .int .i64 long] w fun e w' => e = .returned (.bool (bP (LongTo long (sayL ls) ls.length))) ∧ w' = w := by
  have HX := Lib.hid hx; clear hx
  go_enter Tryd.func74, Tryd.ntmps74
  go_wp2
  go_loopw [9] (fun i wr => ∃ (k : Nat), k ≤ ls.length ∧ i = .int .i64 k ∧ wr = w ∧ Hid (LongTo long (sayL ls) k)) (fun i _ => ls.length - (intOf i).toNat)
  case atStart => exact ⟨0, by omega, rfl, rfl, fun j x h => absurd h (by omega)⟩
  case round =>
    obtain ⟨k, hk, rfl, rfl, H⟩ := hrel
    by_cases hlt : k < ls.length
    · obtain ⟨b, o, rfl, hb, c1, c2, c3⟩ := HX.out.at_ hlt
      clear c2 c3
      by_cases hne : (ls[k].r.length : Int) = long
      · have hd : ((ls[k].r.length : Int) != long) = false := bne_f hne
        have HN : Hid (LongTo long (sayL ls) (k + 1)) := upto_next (Q := fun x : List Int => (x.length : Int) = long) (sayL_at hlt) hne H.out
        clear hne
        go_wp2
        go_roundw
        case rel => exact ⟨k + 1, by omega, by go_num, trivial, HN.out⟩
        case measure => simp [intOf]; omega
      · have hd : ((ls[k].r.length : Int) != long) = true := bne_t hne
        have HN : Hid (bP (LongTo long (sayL ls) ls.length) = false) := bP_f fun h => hne (h k _ hlt (sayL_at hlt))
        clear hne
        go_wp2
        go_ret
        exact ⟨ret_b HN.out.symm, rfl⟩
    · have HN : Hid (bP (LongTo long (sayL ls) ls.length) = true) := bP_t (fun j x _ hx => H.out j x (by have := (List.getElem?_eq_some_iff.1 hx).1; rw [sayL_len] at this; omega) hx)
      go_wp2
      go_ret
      exact ⟨ret_b HN.out.symm, rfl⟩

end Go.Proofs.YtjfhkcoiomokoaaDoor

/- What the program's checks of a binary grammar answer: goodEmpty, goodLists, GoodBinary. -/

namespace Go.Proofs.YtjfhkcoiomokoaaDoor
open Go.RowKit
open Go.Sort (grow)

set_option maxRecDepth 20000 in
set_option maxHeartbeats 400000 in
theorem goodEmpty_any (n t : Int) (A : Option Addr) (xs : List Int) (c : Nat) (w : World) (hx : Ints w w.heap.size A xs) (h1 : xs.length ≤ 1048576) :
    Calls Tryd.prog 73 #[.agg #[.int .i64 n, .int .i64 t, .slice none 0 0], .slice A xs.length c] w fun e w' => e = .returned (.bool (bP (GoodE n xs))) ∧ Below w.heap.size w w' := by
  have HX := Lib.hid hx; clear hx
  have HBW : Hid (Below w.heap.size w (w.alloc (.cells #[.int .i64 n, .int .i64 t, .slice none 0 0] 32))) := by show Below _ _ _; go_grown
  have HB3 : Hid (Box3 (w.alloc (.cells #[.int .i64 n, .int .i64 t, .slice none 0 0] 32)) w.heap.size (.int .i64 n) (.int .i64 t) (.slice none 0 0)) := ⟨by simp, by simp [go_sem], by simp [go_sem], by simp [go_sem]⟩
  go_enter Tryd.func73, Tryd.ntmps73
  go_wp2
  go_loopw [9] (fun i wr => ∃ (k : Nat), k ≤ xs.length ∧ i = .int .i64 k ∧ Below w.heap.size w wr ∧ Box3 wr w.heap.size (.int .i64 n) (.int .i64 t) (.slice none 0 0) ∧ Hid (NonTo n xs k)) (fun i _ => xs.length - (intOf i).toNat)
  case atStart => exact ⟨0, by omega, rfl, HBW.out, HB3.out, fun j x h => absurd h (by omega)⟩
  case round =>
    obtain ⟨k, hk, rfl, hB, hbox, H⟩ := hrel
    by_cases hlt : k < xs.length
    · obtain ⟨b, o, rfl, hb, c1⟩ := (HX.out.keep hB).at_ hlt
      obtain ⟨g0, g1, g2, g3⟩ := id hbox
      have HBX := Lib.hid hbox; clear hbox
      cases hs : nonB n xs[k]
      all_goals
        have HSY := Lib.hid hs; clear hs
        go_wp2_with fail
        refine (isNon_any _ _ _ _ _).mono ?_
        rintro e w3 ⟨rfl, hB3⟩
        rw [HSY.out]
        have hB4 : Below w.heap.size w w3 := hB.trans (hB3.mono hB.size)
      · have HE : Hid (bP (GoodE n xs) = false) := bP_f fun h => by
          have := h.1 k _ hlt (List.getElem?_eq_getElem hlt)
          rw [HSY.out] at this; cases this
        go_wp2
        go_ret
        exact ⟨ret_b HE.out.symm, hB4⟩
      · have HN : Hid (NonTo n xs (k + 1)) := upto_next (Q := fun x => nonB n x = true) (List.getElem?_eq_getElem hlt) HSY.out H.out
        go_wp2
        go_roundw
        case rel => exact ⟨k + 1, by omega, by go_num, hB4, HBX.out.keep hB3 g0, HN.out⟩
        case measure => simp [intOf]; omega
    · have HN : Hid (NonTo n xs xs.length) := upto_end (Q := fun x => nonB n x = true) hlt H.out
      clear hbox H
      go_wp2_with fail
      refine (isRisingI_any _ _ _ _ ((HX.out.keep hB).more hB.size) h1).mono ?_
      rintro e w3 ⟨rfl, hB3⟩
      have HE : Hid (bP (GoodE n xs) = bP (RiseI xs xs.length)) := bP_congr ⟨fun h => h.2, fun h => ⟨HN.out, h⟩⟩
      have hB4 : Below w.heap.size w w3 := hB.trans (hB3.mono hB.size)
      clear hB3
      go_wp2
      go_ret
      exact ⟨ret_b HE.out.symm, hB4⟩

theorem Ints.drop1 {w : World} {B b o : Nat} {xs : List Int} (h : Ints w B (some ⟨b, o, none⟩) xs) : Ints w B (some ⟨b, o + 1, none⟩) (xs.drop 1) := by
  intro hn
  obtain ⟨b', o', e, hb, hc⟩ := h (by simp at hn; omega)
  injection e with e
  injection e with e1 e2
  subst e1 e2
  refine ⟨b, o + 1, rfl, hb, fun k x hx => ?_⟩
  rw [List.getElem?_drop] at hx
  have := hc _ _ hx
  rw [show o + (1 + k) = o + 1 + k by omega] at this
  exact this

theorem getD_zero {xs : List Int} (h : 0 < xs.length) : xs.getD 0 0 = xs[0] := by
  rw [List.getD_eq_getElem?_getD, List.getElem?_eq_getElem h]; rfl

set_option maxRecDepth 20000 in
set_option maxHeartbeats 1000000 in
theorem goodLists_any (n t : Int) (long : Nat) (hl2 : 2 ≤ long) (hl3 : long ≤ 3) (A : Option Addr) (ls : List Li) (c : Nat) (w : World) (hx : Lls w w.heap.size A ls) (h1 : ls.length ≤ 1048576) (h2 : ∀ u ∈ ls, u.r.length ≤ 1048576) (hf : FitL (sayL ls)) :
    Calls Tryd.prog 72 #[.agg #[.int .i64 n, .int .i64 t, .slice none 0 0], .slice A ls.length c, .int .i64 long] w fun e w' => e = .returned (.bool (bP (GoodLs n t long (sayL ls)))) ∧ Below w.heap.size w w' := by
  have HX := Lib.hid hx; clear hx
  have H2 := Lib.hid h2; clear h2
  have HF := Lib.hid hf; clear hf
  have HBW : Hid (Below w.heap.size w (w.alloc (.cells #[.int .i64 n, .int .i64 t, .slice none 0 0] 32))) := by show Below _ _ _; go_grown
  have HB3 : Hid (Box3 (w.alloc (.cells #[.int .i64 n, .int .i64 t, .slice none 0 0] 32)) w.heap.size (.int .i64 n) (.int .i64 t) (.slice none 0 0)) := ⟨by simp, by simp [go_sem], by simp [go_sem], by simp [go_sem]⟩
  have HLN : Hid ((sayL ls).length = ls.length) := sayL_len
  cases hq : bP (LongTo long (sayL ls) ls.length)
  · have HQ := Lib.hid hq; clear hq
    have HE : Hid (bP (GoodLs n t long (sayL ls)) = false) := bP_f fun h => bP_no HQ.out (by have := h.1; rw [HLN.out] at this; exact this)
    go_enter Tryd.func72, Tryd.ntmps72
    go_wp2_with fail
    refine (allLong_any _ _ _ _ _ ((HX.out.keep HBW.out).more HBW.out.size) h1).mono ?_
    rintro e w1 ⟨rfl, rfl⟩
    rw [HQ.out]
    go_wp2
    go_ret
    exact ⟨ret_b HE.out.symm, HBW.out⟩
  · have HQ := Lib.hid hq; clear hq
    have HLO : Hid (LongTo long (sayL ls) ls.length) := bP_is HQ.out
    go_enter Tryd.func72, Tryd.ntmps72
    go_wp2_with fail
    refine (allLong_any _ _ _ _ _ ((HX.out.keep HBW.out).more HBW.out.size) h1).mono ?_
    rintro e w1 ⟨rfl, rfl⟩
    rw [HQ.out]
    generalize (w.alloc (.cells #[.int .i64 n, .int .i64 t, .slice none 0 0] 32)) = W at HBW HB3 ⊢
    go_wp2
    go_loopw [15] (fun i wr => ∃ (k : Nat), k ≤ ls.length ∧ i = .int .i64 k ∧ Below w.heap.size w wr ∧ Box3 wr w.heap.size (.int .i64 n) (.int .i64 t) (.slice none 0 0) ∧ Hid (SymTo n t (sayL ls) k)) (fun i _ => ls.length - (intOf i).toNat)
    case atStart => exact ⟨0, by omega, rfl, HBW.out, HB3.out, fun j x h => absurd h (by omega)⟩
    case round =>
      obtain ⟨k, hk, rfl, hB, hbox, H⟩ := hrel
      by_cases hlt : k < ls.length
      · obtain ⟨b, o, rfl, hb, c1, c2, c3⟩ := (HX.out.keep hB).at_ hlt
        obtain ⟨g0, g1, g2, g3⟩ := id hbox
        have HBX := Lib.hid hbox; clear hbox
        have hlen2 := H2.out ls[k] (List.getElem_mem hlt)
        have HLK : Hid ((ls[k].r.length : Int) = long) := HLO.out k _ hlt (sayL_at hlt)
        have hr0 : 1 < ls[k].r.length := by have := HLK.out; omega
        have hc0 : 1 < ls[k].c := by omega
        have hci : (1 : Int) < (ls[k].c : Int) := by omega
        have hri : (1 : Int) < (ls[k].r.length : Int) := by omega
        obtain ⟨b', o', ea, hb', d1⟩ := c3.at_ (k := 0) (by omega)
        have C3 := Lib.hid (c3.more hB.size); clear c3
        rw [ea] at c1 C3
        rw [Nat.add_zero] at d1
        generalize hx0 : ls[k].r[0]'(by omega) = x0 at d1
        have HX0 : Hid (ls[k].r.getD 0 0 = x0) := (getD_zero (by omega)).trans hx0
        clear hx0
        have q0 := cell_regrown d1
        have p0 := cell_regrown g1
        have p1 := cell_regrown g2
        have p2 := cell_regrown g3
        have HRG : Hid (∀ d os, Below w.heap.size w (grow (redrawn wr d) os)) := fun d os => hB.trans ((below_regrown wr d os).mono hB.size)
        have HWR : Hid (∀ d os, Below wr.heap.size wr (grow (redrawn wr d) os)) := fun d os => below_regrown wr d os
        clear g1 g2 g3 d1 ea
        have HCG : Hid (∀ d os, Calls Tryd.prog 75 #[.agg #[.int .i64 n, .int .i64 t, .slice none 0 0], .int .i64 x0] (grow (redrawn wr d) os) fun e w' => e = .returned (.bool (nonB n x0)) ∧ Below (grow (redrawn wr d) os).heap.size (grow (redrawn wr d) os) w') := fun d os =>
          isNon_any _ _ _ _ _
        go_wp2
        cases hu : nonB n x0
        · have HU := Lib.hid hu; clear hu
          have HE : Hid (bP (GoodLs n t long (sayL ls)) = false) := bP_f fun h => by
            have h1 := (h.2.1 k _ (by rw [HLN.out]; exact hlt) (sayL_at hlt)).1
            rw [HX0.out, HU.out] at h1; cases h1
          rw [HU.out] at HCG
          refine wp_region_quiet_below (by kernel_rfl) (by kernel_rfl) ?_
          repeat (first | go_big_quiet_step (exact Calls.regrown_of (HCG.out _ _)) | quiet_step (exact Calls.regrown_of (HCG.out _ _)))
          refine wpQuiet_nil ?_
          intro _ hw'
          obtain ⟨⟨dq, osq⟩, hw''⟩ := hw'
          subst hw''
          go_wp2
          go_ret
          exact ⟨ret_b HE.out.symm, HRG.out dq osq⟩
        · have HU := Lib.hid hu; clear hu
          rw [HU.out] at HCG
          have HFK : Hid (∀ x ∈ ls[k].r.drop 1, F64 x) := fun x hx => HF.out ls[k].r (sayL_mem (List.getElem_mem hlt)) x (List.mem_of_mem_drop hx)
          have HCH : Hid (∀ d os, Calls Tryd.prog 108 #[.agg #[.int .i64 n, .int .i64 t, .slice none 0 0], .slice (some ⟨b', o' + 1, none⟩) (ls[k].r.length - 1) (ls[k].c - 1)] (grow (redrawn wr d) os) fun e w' => e = .returned (.bool (symsB n t (ls[k].r.drop 1))) ∧ Below (grow (redrawn wr d) os).heap.size (grow (redrawn wr d) os) w') := fun d os => by
            have h := allSymbols_any n t none (some ⟨b', o' + 1, none⟩) 0 0 (ls[k].c - 1) (ls[k].r.drop 1) (grow (redrawn wr d) os) ((C3.out.keep (HWR.out d os)).more (HWR.out d os).size).drop1 (by simp; omega) HFK.out
            rw [List.length_drop] at h
            exact h
          cases hh : symsB n t (ls[k].r.drop 1)
          all_goals
            have HH := Lib.hid hh; clear hh
            rw [HH.out] at HCH
            refine wp_region_quiet_below (by kernel_rfl) (by kernel_rfl) ?_
            repeat (first | go_big_quiet_step (first | with_reducible exact Calls.regrown_of (HCG.out _ _) | exact Calls.regrown_of (HCH.out _ _)) | quiet_step (first | with_reducible exact Calls.regrown_of (HCG.out _ _) | exact Calls.regrown_of (HCH.out _ _)))
            refine wpQuiet_nil ?_
            intro _ hw'
            obtain ⟨⟨dq, osq⟩, hw''⟩ := hw'
            subst hw''
            go_wp2
          · have HE : Hid (bP (GoodLs n t long (sayL ls)) = false) := bP_f fun h => by
              have h1 := (h.2.1 k _ (by rw [HLN.out]; exact hlt) (sayL_at hlt)).2
              rw [HH.out] at h1; cases h1
            go_ret
            exact ⟨ret_b HE.out.symm, HRG.out dq osq⟩
          · have HN : Hid (SymTo n t (sayL ls) (k + 1)) := upto_next (Q := symL n t) (sayL_at hlt) ⟨by rw [HX0.out]; exact HU.out, HH.out⟩ H.out
            go_roundw
            case rel => exact ⟨k + 1, by omega, by go_num, HRG.out dq osq, HBX.out.keep (HWR.out dq osq) g0, HN.out⟩
            case measure => simp [intOf]; omega
      · have HN : Hid (SymTo n t (sayL ls) (sayL ls).length) := upto_end (Q := symL n t) (k := k) (by rw [HLN.out]; exact hlt) H.out
        clear hbox H
        go_wp2_with fail
        refine (isRisingL_any _ _ _ _ ((HX.out.keep hB).more hB.size) h1 H2.out).mono ?_
        rintro e w3 ⟨rfl, hB3⟩
        have HE : Hid (bP (GoodLs n t long (sayL ls)) = bP (RiseTo (sayL ls) ls.length)) := bP_congr ⟨fun h => by have := h.2.2; rw [HLN.out] at this; exact this, fun h => ⟨by rw [HLN.out]; exact HLO.out, HN.out, by rw [HLN.out]; exact h⟩⟩
        have hB4 : Below w.heap.size w w3 := hB.trans (hB3.mono hB.size)
        clear hB3
        go_wp2
        go_ret
        exact ⟨ret_b HE.out.symm, hB4⟩

end Go.Proofs.YtjfhkcoiomokoaaDoor

/- What the program's GoodBinary answers. -/

namespace Go.Proofs.YtjfhkcoiomokoaaDoor
open Go.RowKit
open Go.Sort (grow)

/-- A binary grammar's box: its cells stay while only newer memory is written. -/
def Box6 (w : World) (g : Nat) (b : Bi) : Prop := g < w.heap.size ∧ w.cell? ⟨g, 0, none⟩ = some (.int .i64 b.n) ∧ w.cell? ⟨g, 1, none⟩ = some (.int .i64 b.t) ∧ w.cell? ⟨g, 2, none⟩ = some (.slice b.Ap b.P.length b.cp) ∧
  w.cell? ⟨g, 3, none⟩ = some (.slice b.Ao b.O.length b.co) ∧ w.cell? ⟨g, 4, none⟩ = some (.slice b.Ae b.E.length b.ce) ∧ w.cell? ⟨g, 5, none⟩ = some (.slice b.Af b.F.length b.cf)
theorem Box6.keep {w w' : World} {g B : Nat} {b : Bi} (h : Box6 w g b) (hb : Below B w w') (hB : g < B) : Box6 w' g b := by
  obtain ⟨h0, h1, h2, h3, h4, h5, h6⟩ := h
  exact ⟨by have := hb.size; omega, (hb.cell (p := ⟨g, 0, none⟩) hB).trans h1, (hb.cell (p := ⟨g, 1, none⟩) hB).trans h2, (hb.cell (p := ⟨g, 2, none⟩) hB).trans h3, (hb.cell (p := ⟨g, 3, none⟩) hB).trans h4, (hb.cell (p := ⟨g, 4, none⟩) hB).trans h5, (hb.cell (p := ⟨g, 5, none⟩) hB).trans h6⟩
theorem Box6.new (w : World) (b : Bi) (t : TypeId) : Box6 (w.alloc (.cells #[.int .i64 b.n, .int .i64 b.t, .slice b.Ap b.P.length b.cp, .slice b.Ao b.O.length b.co, .slice b.Ae b.E.length b.ce, .slice b.Af b.F.length b.cf] t)) w.heap.size b := ⟨by simp, by simp [go_sem], by simp [go_sem], by simp [go_sem], by simp [go_sem], by simp [go_sem], by simp [go_sem]⟩

set_option maxHeartbeats 400000 in
theorem symbolsOf_any (b : Bi) (w : World) :
    Calls Tryd.prog 71 #[(.agg #[.int .i64 b.n, .int .i64 b.t, .slice b.Ap b.P.length b.cp, .slice b.Ao b.O.length b.co, .slice b.Ae b.E.length b.ce, .slice b.Af b.F.length b.cf])] w fun e w' => e = .returned (.agg #[.int .i64 b.n, .int .i64 b.t, .slice none 0 0]) ∧ Below w.heap.size w w' := by
  go_enter Tryd.func71, Tryd.ntmps71
  go_wp2
  exact bodyPost_ret (v := .agg #[.int .i64 b.n, .int .i64 b.t, .slice none 0 0]) (by simp [results, Tryd.results71, go_sem]) rfl ⟨rfl, by go_grown⟩

set_option maxRecDepth 20000 in
set_option maxHeartbeats 1000000 in
theorem implGoodB_any (b : Bi) (w : World) (hx : ReadB w w.heap.size b) (hL : Lims w) (hm : LenB 1048576 b) (hf : FitB b.say) :
    Calls Tryd.prog 33 #[(.agg #[.int .i64 b.n, .int .i64 b.t, .slice b.Ap b.P.length b.cp, .slice b.Ao b.O.length b.co, .slice b.Ae b.E.length b.ce, .slice b.Af b.F.length b.cf])] w fun e w' => e = .returned (.bool (bP (GoodBs b.say))) ∧ Below w.heap.size w w' := by
  have HX := Lib.hid hx; clear hx
  have HL := Lib.hid hL; clear hL
  have HM := Lib.hid hm; clear hm
  have HF := Lib.hid hf; clear hf
  have hB0 : Below w.heap.size w (w.alloc (.cells #[.int .i64 b.n, .int .i64 b.t, .slice b.Ap b.P.length b.cp, .slice b.Ao b.O.length b.co, .slice b.Ae b.E.length b.ce, .slice b.Af b.F.length b.cf] 45)) := by go_grown
  have BX0 := Box6.new w b 45
  go_enter Tryd.func33, Tryd.ntmps33
  go_wp2_with fail
  generalize (w.alloc (.cells #[.int .i64 b.n, .int .i64 b.t, .slice b.Ap b.P.length b.cp, .slice b.Ao b.O.length b.co, .slice b.Ae b.E.length b.ce, .slice b.Af b.F.length b.cf] 45)) = W at hB0 BX0 ⊢
  have HB0 := Lib.hid hB0; clear hB0
  have HBX0 := Lib.hid BX0; clear BX0
  refine (within5 _ _ (HL.out.keep HB0.out (Nat.le_refl _))).mono ?_
  rintro e w1 ⟨rfl, hB1⟩
  have HBX1 := Lib.hid (HBX0.out.keep hB1 HBX0.out.1)
  have HB1 := Lib.hid (HB0.out.trans (hB1.mono HB0.out.size)); clear hB1 HBX0 HB0
  obtain ⟨_, b0, b1, b2, b3, b4, b5⟩ := HBX1.out
  cases hn : inB 1 40 b.n
  · have HE : Hid (bP (GoodBs b.say) = false) := bP_f fun h => inB_not hn h.1
    go_wp2
    go_ret
    exact ⟨ret_b HE.out.symm, HB1.out⟩
  have HN := Lib.hid (inB_and hn); clear hn
  go_wp2_with fail
  refine (within1 _ _ (HL.out.keep HB1.out (Nat.le_refl _))).mono ?_
  rintro e w2 ⟨rfl, hB2⟩
  have HBX2 := Lib.hid (HBX1.out.keep hB2 HBX1.out.1)
  have HB2 := Lib.hid (HB1.out.trans (hB2.mono HB1.out.size)); clear hB2 HBX1 HB1 b0 b1 b2 b3 b4 b5
  obtain ⟨_, b0, b1, b2, b3, b4, b5⟩ := HBX2.out
  cases ht : inB 1 4 b.t
  · have HE : Hid (bP (GoodBs b.say) = false) := bP_f fun h => inB_not ht h.2.1
    go_wp2
    go_ret
    exact ⟨ret_b HE.out.symm, HB2.out⟩
  have HT := Lib.hid (inB_and ht); clear ht
  go_wp2_with fail
  refine (symbolsOf_any _ _).mono ?_
  rintro e w3 ⟨rfl, hB3⟩
  have HBX3 := Lib.hid (HBX2.out.keep hB3 HBX2.out.1)
  have HB3 := Lib.hid (HB2.out.trans (hB3.mono HB2.out.size)); clear hB3 HBX2 HB2 b0 b1 b2 b3 b4 b5
  obtain ⟨_, b0, b1, b2, b3, b4, b5⟩ := HBX3.out
  go_wp2_with fail
  have hB4 : Below w3.heap.size w3 (w3.alloc (.cells #[.int .i64 b.n, .int .i64 b.t, .slice none 0 0] 32)) := by go_grown
  have BG4 : Box3 (w3.alloc (.cells #[.int .i64 b.n, .int .i64 b.t, .slice none 0 0] 32)) w3.heap.size (.int .i64 b.n) (.int .i64 b.t) (.slice none 0 0) := ⟨by simp, by simp [go_sem], by simp [go_sem], by simp [go_sem]⟩
  generalize (w3.alloc (.cells #[.int .i64 b.n, .int .i64 b.t, .slice none 0 0] 32)) = w4 at hB4 BG4 ⊢
  have HBG4 := Lib.hid BG4; clear BG4
  have HBX4 := Lib.hid (HBX3.out.keep hB4 HBX3.out.1)
  have HB4 := Lib.hid (HB3.out.trans (hB4.mono HB3.out.size)); clear hB4 HBX3 HB3 b0 b1 b2 b3 b4 b5
  refine (goodLists_any _ _ 3 (by omega) (by omega) _ _ _ _ ((HX.out.1.keep HB4.out).more HB4.out.size) HM.out.p HM.out.ps HF.out.1).mono ?_
  rintro e w5 ⟨rfl, hB5⟩
  have HBG5 := Lib.hid (HBG4.out.keep hB5 HBG4.out.1)
  have HBX5 := Lib.hid (HBX4.out.keep hB5 HBX4.out.1)
  have HB5 := Lib.hid (HB4.out.trans (hB5.mono HB4.out.size)); clear hB5 HBX4 HB4 HBG4
  obtain ⟨_, b0, b1, b2, b3, b4, b5⟩ := HBX5.out
  obtain ⟨_, y0, y1, y2⟩ := HBG5.out
  cases hP : bP (GoodLs b.n b.t (3 : Nat) (sayL b.P))
  · have HE : Hid (bP (GoodBs b.say) = false) := bP_f fun h => bP_no hP h.2.2.1
    go_wp2
    go_ret
    exact ⟨ret_b HE.out.symm, HB5.out⟩
  have HP := Lib.hid (bP_is hP); clear hP
  go_wp2_with fail
  clear b0 b1 b2 b3 b4 b5 y0 y1 y2
  refine (goodLists_any _ _ 2 (by omega) (by omega) _ _ _ _ ((HX.out.2.1.keep HB5.out).more HB5.out.size) HM.out.o HM.out.os HF.out.2.1).mono ?_
  rintro e w6 ⟨rfl, hB6⟩
  have HBG6 := Lib.hid (HBG5.out.keep hB6 HBG5.out.1)
  have HBX6 := Lib.hid (HBX5.out.keep hB6 HBX5.out.1)
  have HB6 := Lib.hid (HB5.out.trans (hB6.mono HB5.out.size)); clear hB6 HBX5 HB5 HBG5
  obtain ⟨_, b0, b1, b2, b3, b4, b5⟩ := HBX6.out
  obtain ⟨_, y0, y1, y2⟩ := HBG6.out
  cases hO : bP (GoodLs b.n b.t (2 : Nat) (sayL b.O))
  · have HE : Hid (bP (GoodBs b.say) = false) := bP_f fun h => bP_no hO h.2.2.2.1
    go_wp2
    go_ret
    exact ⟨ret_b HE.out.symm, HB6.out⟩
  have HO := Lib.hid (bP_is hO); clear hO
  go_wp2_with fail
  clear b0 b1 b2 b3 b4 b5 y0 y1 y2
  refine (goodEmpty_any _ _ _ _ _ _ ((HX.out.2.2.1.keep HB6.out).more HB6.out.size) HM.out.e).mono ?_
  rintro e w7 ⟨rfl, hB7⟩
  have HBG7 := Lib.hid (HBG6.out.keep hB7 HBG6.out.1)
  have HBX7 := Lib.hid (HBX6.out.keep hB7 HBX6.out.1)
  have HB7 := Lib.hid (HB6.out.trans (hB7.mono HB6.out.size)); clear hB7 HBX6 HB6 HBG6
  obtain ⟨_, b0, b1, b2, b3, b4, b5⟩ := HBX7.out
  obtain ⟨_, y0, y1, y2⟩ := HBG7.out
  cases hE : bP (GoodE b.n b.E)
  · have HE : Hid (bP (GoodBs b.say) = false) := bP_f fun h => bP_no hE h.2.2.2.2.1
    go_wp2
    go_ret
    exact ⟨ret_b HE.out.symm, HB7.out⟩
  have HE := Lib.hid (bP_is hE); clear hE
  have HFN : Hid ((sayL b.F).length = b.F.length) := sayL_len
  by_cases hfl : (b.F.length : Int) ≤ b.n
  · go_wp2_with fail
    refine (allLong_any _ _ _ _ _ ((HX.out.2.2.2.keep HB7.out).more HB7.out.size) HM.out.f).mono ?_
    rintro e w8 ⟨rfl, rfl⟩
    have HE : Hid (bP (GoodBs b.say) = bP (LongTo 2 (sayL b.F) b.F.length)) := bP_congr ⟨fun h => by have := h.2.2.2.2.2.2; exact HFN.out ▸ this, fun h => ⟨HN.out, HT.out, HP.out, HO.out, HE.out, (by show ((sayL b.F).length : Int) ≤ b.n; rw [HFN.out]; exact hfl), (by show LongTo 2 (sayL b.F) (sayL b.F).length; rw [HFN.out]; exact h)⟩⟩
    go_wp2
    go_ret
    exact ⟨ret_b HE.out.symm, HB7.out⟩
  · have HE : Hid (bP (GoodBs b.say) = false) := bP_f fun h => hfl (by have : ((sayL b.F).length : Int) ≤ b.n := h.2.2.2.2.2.1; rw [HFN.out] at this; exact this)
    go_wp2
    go_ret
    exact ⟨ret_b HE.out.symm, HB7.out⟩

end Go.Proofs.YtjfhkcoiomokoaaDoor

/- The program's copy of a grammar. -/

namespace Go.Proofs.YtjfhkcoiomokoaaDoor
open Go.RowKit

theorem Copying.keep {w w' : World} {lo g k : Nat} {rs : List Ru} (h : Copying w lo g rs k) (hb : Below w.heap.size w w') : Copying w' lo g rs k := by
  obtain ⟨cs, done, hr, hs, hl, ha, hc, hd⟩ := h
  refine ⟨cs, done, hr.below hb hr.lt, hs, hl, ha, fun j u hu => ?_, hd⟩
  obtain ⟨h1, h2, h3⟩ := hc j u hu
  exact ⟨h1, h2, h3.below hb (Nat.le_refl _)⟩

theorem Copying.start (w : World) (lo : Nat) (rs : List Ru) : Copying (w.alloc (.cells (zR rs.length) 83)) lo w.heap.size rs 0 :=
  ⟨zR rs.length, [], Row.new _ _ _, zR_size _, rfl, rfl, fun j u h => by simp at h, fun i j u v h => by simp at h⟩

set_option maxHeartbeats 1000000 in
theorem copyGrammar_any (n t : Int) (A : Option Addr) (rs : List Ru) (c : Nat) (w : World) (hr : Rls w w.heap.size A rs) (hn : rs.length ≤ 1048576) (hu : ∀ u ∈ rs, u.r.length ≤ 1048576) :
    Calls Tryd.prog 81 #[.agg #[.int .i64 n, .int .i64 t, .slice A rs.length c]] w (GaveG w n t (rs.map Ru.abs)) := by
  have hmk := make_rules rs.length hn
  have HR := Lib.hid hr; clear hr
  have HU := Lib.hid hu; clear hu
  go_enter Tryd.func81, Tryd.ntmps81
  go_wp2
  go_loopw [13] (fun i wr => ∃ (k : Nat), k ≤ rs.length ∧ i = .int .i64 k ∧ w.heap.size + 2 < wr.heap.size ∧ Below w.heap.size w wr ∧ Hid (Copying wr (w.heap.size + 2) (w.heap.size + 2) rs k) ∧ Hid (Box3 wr w.heap.size (.int .i64 n) (.int .i64 t) (.slice A rs.length c)) ∧ Hid (Row wr (w.heap.size + 1) 32 #[.int .i64 0, .int .i64 0, .slice none 0 0])) (fun i _ => rs.length - (intOf i).toNat)
  case atStart =>
    refine ⟨0, by omega, rfl, by simp, by go_grown, ?_, ⟨by simp; omega, by simp [go_sem], by simp [go_sem], by simp [go_sem]⟩, ?_⟩
    · have h := Copying.start ((w.alloc (.cells #[.int .i64 n, .int .i64 t, .slice A rs.length c] 32)).alloc (.cells #[.int .i64 0, .int .i64 0, .slice none 0 0] 32)) (w.heap.size + 2) rs
      simp only [World.size_alloc] at h
      exact h
    · have h := (Row.new (w.alloc (.cells #[.int .i64 n, .int .i64 t, .slice A rs.length c] 32)) 32 #[.int .i64 0, .int .i64 0, .slice none 0 0]).alloc (.cells (zR rs.length) 83)
      simp only [World.size_alloc] at h
      exact h
  case round =>
    obtain ⟨k, hk, rfl, hsz, hB, HC, HBX, HRW⟩ := hrel
    clear hmk
    by_cases hlt : k < rs.length
    · obtain ⟨b, o, rfl, hb, c1, c2, c3⟩ := (HR.out.keep hB).at_ hlt
      have C3 := Lib.hid (c3.more hB.size); clear c3
      have hul := HU.out rs[k] (List.getElem_mem hlt)
      go_wp2_with fail
      have hBA : Below wr.heap.size wr (wr.alloc (.cells #[.int .i64 rs[k].l, .slice rs[k].a rs[k].r.length rs[k].c] 83)) := by go_grown
      have BU : Box2 (wr.alloc (.cells #[.int .i64 rs[k].l, .slice rs[k].a rs[k].r.length rs[k].c] 83)) wr.heap.size (.int .i64 rs[k].l) (.slice rs[k].a rs[k].r.length rs[k].c) := ⟨by simp, by simp [go_sem], by simp [go_sem]⟩
      generalize (wr.alloc (.cells #[.int .i64 rs[k].l, .slice rs[k].a rs[k].r.length rs[k].c] 83)) = W at hBA BU ⊢
      have HBA := Lib.hid hBA; clear hBA
      have HBU := Lib.hid BU; clear BU
      have HCW := Lib.hid (HC.out.keep HBA.out)
      have C3W := Lib.hid ((C3.out.keep HBA.out).more HBA.out.size)
      obtain ⟨_, e0, e1⟩ := HBU.out
      clear c1 c2
      go_region_held3 (fun w' => w'.cell? ⟨wr.heap.size, 0, none⟩ = some (.int .i64 rs[k].l) ∧ w'.cell? ⟨wr.heap.size, 1, none⟩ = some (.slice rs[k].a rs[k].r.length rs[k].c))
        (first | exact ⟨e0, e1⟩ | exact ⟨y0, y1⟩ | (refine ⟨?_, ?_⟩ <;> (rw [World.cell?_setCell_far _ _ _ _ (by simp; omega), World.cell?_setCell_far _ _ _ _ (by simp; omega)]; first | exact y0 | exact y1)))
        (first
        | (go_at_call 76
           refine (copyList_any _ _ _ _ ?_ hul).mono ?_
           · exact C3W.out.keep (by go_grown)
           rintro e w1 ⟨A1, k1, rfl, hcap1, hO1, hB1'⟩
           have hB1 : Below W.heap.size W w1 := Below.trans (by go_grown) hB1'
           obtain ⟨_, y0, y1⟩ := HBU.out.keep hB1 HBU.out.1
           obtain ⟨cs, hcs, hcz⟩ := (HCW.out.keep hB1).row
           obtain ⟨x0, d0⟩ : ∃ x0, w1.cell? ⟨w.heap.size + 2, k * 2, none⟩ = some x0 := ⟨_, (hcs.cell (k * 2)).trans (Array.getElem?_eq_getElem (by omega))⟩
           obtain ⟨x1, d1⟩ : ∃ x1, w1.cell? ⟨w.heap.size + 2, k * 2 + 1, none⟩ = some x1 := ⟨_, (hcs.cell (k * 2 + 1)).trans (Array.getElem?_eq_getElem (by omega))⟩
           have f0 := hcs.frozen (k * 2)
           have f1 := hcs.frozen (k * 2 + 1)
           have HO1 := Lib.hid hO1
           have HB1 := Lib.hid hB1
           clear hO1 hB1 hB1' hcs hcz))
      rename_i hHeld
      clear hHeld e0 e1 y0 y1 d0 d1 f0 f1
      have HST := Lib.hid (HCW.out.step (by have := hB.size; have := HBA.out.size; omega) hlt HB1.out (A := A1) (c := k1) HO1.out)
      have HB2 := Lib.hid (hB.trans ((HBA.out.trans (HB1.out.mono HBA.out.size)).mono hB.size))
      have HBX2 := Lib.hid ((HBX.out.keep HBA.out HBX.out.1).keep HB1.out (by have := HBX.out.1; have := HBA.out.size; omega))
      have HRW2 := Lib.hid ((HRW.out.below HBA.out HRW.out.lt).below HB1.out (by have := HRW.out.lt; have := HBA.out.size; omega))
      have hs1 := HB1.out.size
      have hs2 := HBA.out.size
      go_wp2
      go_roundw
      case rel =>
        refine ⟨k + 1, by omega, by go_num, by simp; omega, (HB2.out.setCell (by simp; omega) _).setCell (by simp; omega) _, HST.out, ?_, ?_⟩
        · obtain ⟨h1, h2, h3, h4⟩ := HBX2.out
          exact ⟨by simp; exact h1, by rw [World.cell?_setCell_far _ _ _ _ (by simp; omega), World.cell?_setCell_far _ _ _ _ (by simp; omega)]; exact h2, by rw [World.cell?_setCell_far _ _ _ _ (by simp; omega), World.cell?_setCell_far _ _ _ _ (by simp; omega)]; exact h3, by rw [World.cell?_setCell_far _ _ _ _ (by simp; omega), World.cell?_setCell_far _ _ _ _ (by simp; omega)]; exact h4⟩
        · exact (HRW2.out.far (by simp) _).far (by simp) _
      case measure => simp [intOf]; omega
    · obtain rfl : k = rs.length := by omega
      obtain ⟨ds, hO, hl, ha⟩ := HC.out.done (Nat.le_refl _)
      obtain ⟨_, x0, x1, x2⟩ := HBX.out
      have d0 := HRW.out.cell 0
      have d1 := HRW.out.cell 1
      have d2 := HRW.out.cell 2
      have g0 := HRW.out.frozen 0
      have g1 := HRW.out.frozen 1
      have g2 := HRW.out.frozen 2
      simp at d0 d1 d2
      have HO := Lib.hid hO; clear hO
      have HLL := Lib.hid hl; clear hl
      have HAA := Lib.hid ha; clear ha
      go_wp2
      refine bodyPost_ret (v := .agg #[.int .i64 n, .int .i64 t, .slice (some ⟨w.heap.size + 1 + 1, 0, none⟩) rs.length rs.length]) (by simp [results, Tryd.results81, go_sem, d0, d1, d2]) rfl ⟨some ⟨w.heap.size + 1 + 1, 0, none⟩, rs.length, ds, by rw [HLL.out], by rw [HLL.out]; exact Nat.le_refl _, ?_, HAA.out, ?_⟩
      · exact (((HO.out.low (by simp) _).low (by simp) _).low (by simp) _).lower (by omega)
      · exact ((hB.setCell (by simp) _).setCell (by simp) _).setCell (by simp) _

end Go.Proofs.YtjfhkcoiomokoaaDoor

/- A grammar and a bool as an answer. -/

namespace Go.Proofs.YtjfhkcoiomokoaaDoor
open Go.RowKit

/-- A grammar's answer: its numbers and its rules; zero where there is none. -/
def ansN (b : Bool) (n : Int) : Int := if b then n else 0
def ansR (b : Bool) (ss : List (Int × List Int)) : List (Int × List Int) := if b then ss else []

/-- A new grammar, and a bool. -/
def GaveGB (w : World) (n t : Int) (ss : List (Int × List Int)) (b : Bool) (e : Ending) (w' : World) : Prop :=
  ∃ A c, ∃ rs : List Ru, e = .returned (.tuple #[.agg #[.int .i64 (ansN b n), .int .i64 (ansN b t), .slice A rs.length c], .bool b]) ∧ OwnR w' w.heap.size A rs ∧ rs.map Ru.abs = ansR b ss ∧ Below w.heap.size w w'

theorem gave_none {w w' : World} {n t : Int} {ss : List (Int × List Int)} (hb : Below w.heap.size w w') : GaveGB w n t ss false (.returned (.tuple #[.agg #[.int .i64 0, .int .i64 0, .slice none 0 0], .bool false])) w' :=
  ⟨none, 0, [], rfl, .inl rfl, rfl, hb⟩

end Go.Proofs.YtjfhkcoiomokoaaDoor

/- What the walks of the laws with a grammar as their answer share, in any seat. -/

namespace Go.Proofs.YtjfhkcoiomokoaaDoor
open Go.RowKit

theorem Box3.save {S : Nat → Prop} {w w' : World} {g : Nat} {a b c : Value} (h : Box3 w g a b c) (hs : Save S w w') (hg : ¬ S g) : Box3 w' g a b c := by
  obtain ⟨h0, h1, h2, h3⟩ := h
  have hb := hs.block g h0 hg
  exact ⟨by have := hs.size; omega, (World.cell?_of_block (a := ⟨g, 0, none⟩) hb).trans h1, (World.cell?_of_block (a := ⟨g, 1, none⟩) hb).trans h2, (World.cell?_of_block (a := ⟨g, 2, none⟩) hb).trans h3⟩

theorem OwnR.kept {S : Nat → Prop} {w w' : World} {lo : Nat} {A : Option Addr} {rs : List Ru} (h : OwnR w lo A rs) (hs : Save S w w') (hd : ∀ b, ItsR A rs b → ¬ S b) : OwnR w' lo A rs := by
  by_cases e : rs = []
  · exact .inl e
  · rcases h with h | ⟨g, cs, ea, hl, hr, hc, hdd⟩
    · exact .inl h
    · refine .inr ⟨g, cs, ea, hl, hr.save hs (hd g (.inl ⟨ea, e⟩)), fun k u hu => ?_, hdd⟩
      obtain ⟨h1, h2, h3⟩ := hc k u hu
      exact ⟨h1, h2, h3.kept hs fun b hb => hd b (.inr ⟨k, u, hu, hb⟩)⟩

theorem says_len {rs : List Ru} {ss : List (Int × List Int)} (h : rs.map Ru.abs = ss) (hs : ss.length ≤ 1048576) : rs.length ≤ 1048576 := by rw [← h, List.length_map] at hs; exact hs
theorem says_lens {rs : List Ru} {ss : List (Int × List Int)} (h : rs.map Ru.abs = ss) (hs : ∀ u ∈ ss, u.2.length ≤ 1048576) : ∀ u ∈ rs, u.r.length ≤ 1048576 := fun u hu => hs u.abs (h ▸ List.mem_map.2 ⟨u, hu, rfl⟩)

theorem box_new (w : World) (a b c : Value) (t : TypeId) : Box3 (w.alloc (.cells #[a, b, c] t)) w.heap.size a b c := ⟨by simp, by simp [go_sem], by simp [go_sem], by simp [go_sem]⟩
theorem below_new (w : World) (o : Obj) : Below w.heap.size w (w.alloc o) := (Below.refl _ _).alloc (Nat.le_refl _) _

end Go.Proofs.YtjfhkcoiomokoaaDoor

/- What the laws' marks write into lists of lists, and what they find again. -/

namespace Go.Proofs.YtjfhkcoiomokoaaDoor
open Go.RowKit

theorem OwnL.at_ {w : World} {lo : Nat} {A : Option Addr} {ls : List Li} (h : OwnL w lo A ls) {i : Nat} (hi : i < ls.length) :
    ∃ g, A = some ⟨g, 0, none⟩ ∧ lo ≤ g ∧ g < w.heap.size ∧ w.cell? ⟨g, i, none⟩ = some (.slice ls[i].a ls[i].r.length ls[i].c) ∧ OwnI w lo ls[i].a ls[i].r := by
  rcases h with h | ⟨g, cs, ea, hl, hr, hc, _⟩
  · subst h; simp at hi
  · obtain ⟨h1, _, h3⟩ := hc i _ (List.getElem?_eq_getElem hi)
    exact ⟨g, ea, hl, hr.lt, by rw [hr.cell]; exact h1, h3⟩

theorem OwnL.setList {w w' : World} {lo : Nat} {A : Option Addr} {ls : List Li} (h : OwnL w lo A ls) {i : Nat} (hi : i < ls.length) {ys : List Int} (hy : ys.length = ls[i].r.length)
    (hO : OwnI w' lo ls[i].a ys) (hs : Save (Its ls[i].a ls[i].r) w w') : OwnL w' lo A (ls.set i { ls[i] with r := ys }) := by
  rcases h with h | ⟨g, cs, ea, hl, hr, hc, hd⟩
  · subst h; simp at hi
  · have hgi : ¬ Its ls[i].a ls[i].r g := by
      rintro ⟨e1, e2⟩
      rcases (hc i _ (List.getElem?_eq_getElem hi)).2.2 with h3 | ⟨g', cs', e3, _, hr', _⟩
      · exact e2 h3
      · rw [e1] at e3
        injection e3 with e3
        injection e3 with e3
        exact hr'.ne hr (by decide) e3.symm
    refine .inr ⟨g, cs, ea, hl, hr.save hs hgi, fun k u hu => ?_, fun a b u v hu hv hab hun hvn => ?_⟩
    · rw [List.getElem?_set] at hu
      by_cases e : i = k
      · subst e
        rw [if_pos rfl, if_pos hi] at hu
        injection hu with hu
        subst hu
        obtain ⟨h1, h2, _⟩ := hc i _ (List.getElem?_eq_getElem hi)
        exact ⟨by rw [hy]; exact h1, by rw [hy]; exact h2, hO⟩
      · rw [if_neg e] at hu
        obtain ⟨h1, h2, h3⟩ := hc k u hu
        refine ⟨h1, h2, h3.save hs fun g' e1 e2 hI => ?_⟩
        exact hd k i u ls[i] hu (List.getElem?_eq_getElem hi) (Ne.symm e) e2 hI.2 (e1.trans hI.1.symm)
    · have old : ∀ (j : Nat) (y : Li), (ls.set i { ls[i] with r := ys })[j]? = some y → ∃ z, ls[j]? = some z ∧ z.a = y.a ∧ (y.r ≠ [] → z.r ≠ []) := by
        intro j y hy'
        rw [List.getElem?_set] at hy'
        by_cases e : i = j
        · subst e
          rw [if_pos rfl, if_pos hi] at hy'
          injection hy' with hy'
          subst hy'
          refine ⟨ls[i], List.getElem?_eq_getElem hi, rfl, fun hn e => hn ?_⟩
          have : ys.length = 0 := by rw [hy, e]; rfl
          exact List.eq_nil_of_length_eq_zero this
        · rw [if_neg e] at hy'
          exact ⟨y, hy', rfl, id⟩
      obtain ⟨u', hu', e1, e2⟩ := old a u hu
      obtain ⟨v', hv', e3, e4⟩ := old b v hv
      rw [← e1, ← e3]
      exact hd a b u' v' hu' hv' hab (e2 hun) (e4 hvn)

/-- How many numbers the first i lists hold. -/
def lcnt (ls : List Li) (i : Nat) : Nat := ((ls.take i).map fun u => u.r.length).sum
theorem lcnt_succ {ls : List Li} {i : Nat} (hi : i < ls.length) : lcnt ls (i + 1) = lcnt ls i + ls[i].r.length := by
  unfold lcnt
  rw [List.take_succ_eq_append_getElem hi, List.map_append, List.sum_append]
  simp
theorem lcnt_zero (ls : List Li) : lcnt ls 0 = 0 := by simp [lcnt]

def markV (k : Int) (u : Li) : Li := { u with r := seqL k u.r.length }
/-- The lists with the first i of them marked from k on. -/
def markM (k : Int) (ls : List Li) (i : Nat) : List Li := ls.mapIdx fun j u => if j < i then markV (k + (lcnt ls j : Int)) u else u
theorem markM_length (k : Int) (ls : List Li) (i : Nat) : (markM k ls i).length = ls.length := by simp [markM]
theorem markM_at {k : Int} {ls : List Li} {i j : Nat} (h : j < ls.length) (hj : j < (markM k ls i).length) : (markM k ls i)[j] = if j < i then markV (k + (lcnt ls j : Int)) ls[j] else ls[j] := by simp [markM]
theorem markM_zero (k : Int) (ls : List Li) : markM k ls 0 = ls := by
  apply List.ext_getElem?
  intro j
  simp [markM]
theorem markM_step {k : Int} {ls : List Li} {i : Nat} (h : i < ls.length) : (markM k ls i).set i (markV (k + (lcnt ls i : Int)) ls[i]) = markM k ls (i + 1) := by
  apply List.ext_getElem?
  intro j
  rw [List.getElem?_set, markM_length]
  by_cases e : i = j
  · subst e
    rw [if_pos rfl, if_pos h]
    simp [markM, h]
  · rw [if_neg e]
    simp only [markM, List.getElem?_mapIdx]
    by_cases hj : j < ls.length
    · rw [List.getElem?_eq_getElem hj]
      simp only [Option.map_some]
      congr 1
      by_cases hji : j < i
      · rw [if_pos hji, if_pos (by omega)]
      · rw [if_neg hji, if_neg (by omega)]
    · rw [List.getElem?_eq_none (by omega)]
      rfl

/-- The blocks of a slice of lists and of the lists. -/
def ItsL (A : Option Addr) (ls : List Li) (b : Nat) : Prop := (A = some ⟨b, 0, none⟩ ∧ ls ≠ []) ∨ ∃ (i : Nat) (u : Li), ls[i]? = some u ∧ Its u.a u.r b

theorem OwnL.its {w : World} {lo : Nat} {A : Option Addr} {ls : List Li} (h : OwnL w lo A ls) {b : Nat} (hb : ItsL A ls b) : lo ≤ b ∧ b < w.heap.size := by
  rcases h with h | ⟨g, cs, ea, hl, hr, hc, _⟩
  · subst h
    rcases hb with ⟨_, h⟩ | ⟨i, u, h, _⟩
    · exact absurd rfl h
    · simp at h
  · rcases hb with ⟨e, _⟩ | ⟨i, u, hu, e, hn⟩
    · rw [ea] at e; injection e with e; injection e with e; subst e; exact ⟨hl, hr.lt⟩
    · rcases (hc i u hu).2.2 with h3 | ⟨g', cs', e3, l3, hr', _⟩
      · exact absurd h3 hn
      · rw [e] at e3; injection e3 with e3; injection e3 with e3; subst e3; exact ⟨l3, hr'.lt⟩

def MarkedL (w : World) (lo : Nat) (A : Option Addr) (ls : List Li) (k : Int) (e : Ending) (w' : World) : Prop :=
  e = .returned (.int .i64 (k + (lcnt ls ls.length : Int))) ∧ OwnL w' lo A (markM k ls ls.length) ∧ Save (ItsL A ls) w w'

theorem mark_nextL {wr w1 : World} {lo : Nat} {A : Option Addr} {j : Nat} {ls : List Li} {k : Int} (H : OwnL wr lo A (markM k ls j)) (hlt : j < ls.length)
    (hO : OwnI w1 lo ls[j].a (seqL (k + (lcnt ls j : Int)) ls[j].r.length)) (hS : Save (Its ls[j].a ls[j].r) wr w1) : OwnL w1 lo A (markM k ls (j + 1)) := by
  have hlt' : j < (markM k ls j).length := by rw [markM_length]; exact hlt
  have hat : (markM k ls j)[j] = ls[j] := by rw [markM_at hlt, if_neg (by omega)]
  have h2 := H.setList (i := j) (w' := w1) (ys := seqL (k + (lcnt ls j : Int)) ls[j].r.length) hlt' (by simp [hat, seqL_length]) (by simpa [hat] using hO) (by simpa [hat] using hS)
  rw [← markM_step hlt]
  simpa [hat, markV] using h2

set_option maxHeartbeats 400000 in
theorem markIntSS_any (A : Option Addr) (ls : List Li) (c lo : Nat) (k : Int) (w : World) (h : OwnL w lo A ls) (hn : ls.length ≤ 1048576) (hu : ∀ u ∈ ls, u.r.length ≤ 1048576) (hk : 0 ≤ k) (hk' : k ≤ 2199030000000) :
    Calls Tryd.prog 21 #[.slice A ls.length c, .int .i64 k] w (MarkedL w lo A ls k) := by
  have HO := Lib.hid h; clear h
  have HU := Lib.hid hu; clear hu
  go_enter Tryd.func21, Tryd.ntmps21
  go_wp2
  go_loopw [1, 5] (fun v i wr => ∃ (j : Nat), j ≤ ls.length ∧ i = .int .i64 j ∧ v = .int .i64 (k + (lcnt ls j : Int)) ∧ lcnt ls j ≤ j * 1048577 ∧ Hid (OwnL wr lo A (markM k ls j)) ∧ Hid (Save (ItsL A ls) w wr)) (fun _ i _ => ls.length - (intOf i).toNat)
  case atStart => exact ⟨0, by omega, rfl, by simp [lcnt_zero], by simp [lcnt_zero], by show OwnL _ _ _ _; rw [markM_zero]; exact HO.out, Save.refl _ _⟩
  case round =>
    obtain ⟨j, hj, rfl, rfl, hcn, H, HS⟩ := hrel
    by_cases hlt : j < ls.length
    · have hlt' : j < (markM k ls j).length := by rw [markM_length]; exact hlt
      have hat : (markM k ls j)[j] = ls[j] := by rw [markM_at hlt, if_neg (by omega)]
      obtain ⟨g, rfl, _, _, c1, c3⟩ := H.out.at_ hlt'
      rw [hat] at c1 c3
      have C3 := Lib.hid c3
      have hul := HU.out ls[j] (List.getElem_mem hlt)
      have HCS := Lib.hid (lcnt_succ hlt)
      clear c3 hat hlt'
      go_wp2_with fail
      refine (markIntS_any _ _ _ lo _ _ C3.out hul (by omega) (by omega)).mono ?_
      rintro e w1 ⟨rfl, hO1, hS1⟩
      have HO1 := Lib.hid hO1; clear hO1
      have HS1 := Lib.hid hS1; clear hS1
      go_wp2
      go_roundw
      case rel => exact ⟨j + 1, by omega, by go_num, by rw [HCS.out]; go_num, by rw [HCS.out]; omega, mark_nextL H.out hlt HO1.out HS1.out, HS.out.trans (HS1.out.wider fun i hi => .inr ⟨j, ls[j], List.getElem?_eq_getElem hlt, hi⟩)⟩
      case measure => simp [intOf]; omega
    · obtain rfl : j = ls.length := by omega
      go_wp2
      go_ret
      exact ⟨rfl, H.out, HS.out⟩

set_option maxHeartbeats 400000 in
theorem heldIntSS_any (A : Option Addr) (ls : List Li) (c : Nat) (k : Int) (w : World) (h : Lls w w.heap.size A (markM k ls ls.length)) (hn : ls.length ≤ 1048576) (hu : ∀ u ∈ ls, u.r.length ≤ 1048576) (hk : 0 ≤ k) (hk' : k ≤ 2199030000000) :
    Calls Tryd.prog 22 #[.slice A ls.length c, .int .i64 k] w fun e w' => e = .returned (.int .i64 (k + (lcnt ls ls.length : Int))) ∧ Below w.heap.size w w' := by
  have HO := Lib.hid h; clear h
  have HU := Lib.hid hu; clear hu
  go_enter Tryd.func22, Tryd.ntmps22
  go_wp2
  go_loopw [1, 5] (fun v i wr => ∃ (j : Nat), j ≤ ls.length ∧ i = .int .i64 j ∧ v = .int .i64 (k + (lcnt ls j : Int)) ∧ lcnt ls j ≤ j * 1048577 ∧ Below w.heap.size w wr) (fun _ i _ => ls.length - (intOf i).toNat)
  case atStart => exact ⟨0, by omega, rfl, by simp [lcnt_zero], by simp [lcnt_zero], Below.refl _ _⟩
  case round =>
    obtain ⟨j, hj, rfl, rfl, hcn, hB⟩ := hrel
    by_cases hlt : j < ls.length
    · have hat : (markM k ls ls.length)[j]'(by rw [markM_length]; exact hlt) = markV (k + (lcnt ls j : Int)) ls[j] := by rw [markM_at hlt, if_pos hlt]
      obtain ⟨b, o, rfl, hb, c1, _, c3⟩ := (HO.out.keep hB).at_ (k := j) (by rw [markM_length]; exact hlt)
      rw [hat] at c1 c3
      simp only [markV, seqL_length] at c1 c3
      have C3 := Lib.hid (c3.more hB.size)
      have hul := HU.out ls[j] (List.getElem_mem hlt)
      have HCS := Lib.hid (lcnt_succ hlt)
      clear c3 hat
      go_wp2_with fail
      refine (heldIntS_any _ _ _ _ _ C3.out hul (by omega) (by omega)).mono ?_
      rintro e w1 ⟨rfl, hB1⟩
      have HB1 := Lib.hid (hB.trans (hB1.mono hB.size)); clear hB1
      go_wp2
      go_roundw
      case rel => exact ⟨j + 1, by omega, by go_num, by rw [HCS.out]; go_num, by rw [HCS.out]; omega, HB1.out⟩
      case measure => simp [intOf]; omega
    · obtain rfl : j = ls.length := by omega
      go_wp2
      go_ret
      exact ⟨rfl, hB⟩

end Go.Proofs.YtjfhkcoiomokoaaDoor

/- What the walks of the laws with a list of lists as their answer share. -/

namespace Go.Proofs.YtjfhkcoiomokoaaDoor
open Go.RowKit

theorem OwnL.kept {S : Nat → Prop} {w w' : World} {lo : Nat} {A : Option Addr} {ls : List Li} (h : OwnL w lo A ls) (hs : Save S w w') (hd : ∀ b, ItsL A ls b → ¬ S b) : OwnL w' lo A ls := by
  by_cases e : ls = []
  · exact .inl e
  · rcases h with h | ⟨g, cs, ea, hl, hr, hc, hdd⟩
    · exact .inl h
    · refine .inr ⟨g, cs, ea, hl, hr.save hs (hd g (.inl ⟨ea, e⟩)), fun k u hu => ?_, hdd⟩
      obtain ⟨h1, h2, h3⟩ := hc k u hu
      exact ⟨h1, h2, h3.kept hs fun b hb => hd b (.inr ⟨k, u, hu, hb⟩)⟩

theorem say_len {ls : List Li} {xs : List (List Int)} {m : Nat} (h : sayL ls = xs) (hx : xs.length ≤ m) : ls.length ≤ m := by rw [sayL_len' h]; exact hx
theorem say_lens {ls : List Li} {xs : List (List Int)} {m : Nat} (h : sayL ls = xs) (hx : ∀ x ∈ xs, x.length ≤ m) : ∀ u ∈ ls, u.r.length ≤ m := fun u hu => hx u.r (h ▸ sayL_mem hu)

end Go.Proofs.YtjfhkcoiomokoaaDoor

/- A copy of a binary grammar, whose four lists lie apart; what the laws' marks write into a binary grammar, and what they find again. -/

namespace Go.Proofs.YtjfhkcoiomokoaaDoor
open Go.RowKit

/-- The four lists of a binary grammar lie in blocks of their own. -/
structure ApartB (b : Bi) : Prop where
  po : ∀ q, ItsL b.Ap b.P q → ¬ ItsL b.Ao b.O q
  pe : ∀ q, ItsL b.Ap b.P q → ¬ Its b.Ae b.E q
  pf : ∀ q, ItsL b.Ap b.P q → ¬ ItsL b.Af b.F q
  oe : ∀ q, ItsL b.Ao b.O q → ¬ Its b.Ae b.E q
  of : ∀ q, ItsL b.Ao b.O q → ¬ ItsL b.Af b.F q
  ef : ∀ q, Its b.Ae b.E q → ¬ ItsL b.Af b.F q

/-- A binary grammar's copy: it says the same, its lists lie apart; nothing older has turned. -/
def GaveBA (w : World) (s : Bs) (e : Ending) (w' : World) : Prop :=
  ∃ b : Bi, e = .returned (.agg #[.int .i64 b.n, .int .i64 b.t, .slice b.Ap b.P.length b.cp, .slice b.Ao b.O.length b.co, .slice b.Ae b.E.length b.ce, .slice b.Af b.F.length b.cf]) ∧ b.say = s ∧ OwnB w' w.heap.size b ∧ CapB b ∧ Below w.heap.size w w' ∧ ApartB b

set_option maxHeartbeats 1000000 in
theorem toBinaryA_any (b : Bi) (w : World) (hr : ReadB w w.heap.size b) (hm : LenB 1048576 b) :
    Calls Tryd.prog 32 #[(.agg #[.int .i64 b.n, .int .i64 b.t, .slice b.Ap b.P.length b.cp, .slice b.Ao b.O.length b.co, .slice b.Ae b.E.length b.ce, .slice b.Af b.F.length b.cf])] w (GaveBA w b.say) := by
  have HR := Lib.hid hr; clear hr
  have HM := Lib.hid hm; clear hm
  go_enter Tryd.func32, Tryd.ntmps32
  go_wp2_with fail
  have hB0 : Below w.heap.size w (((w.alloc (.cells #[.int .i64 b.n, .int .i64 b.t, .slice b.Ap b.P.length b.cp, .slice b.Ao b.O.length b.co, .slice b.Ae b.E.length b.ce, .slice b.Af b.F.length b.cf] 51)).alloc (.cells #[.int .i64 0, .int .i64 0, .slice none 0 0, .slice none 0 0, .slice none 0 0, .slice none 0 0] 45)).alloc (.cells #[.int .i64 b.n, .int .i64 b.t, .slice none 0 0, .slice none 0 0, .slice none 0 0, .slice none 0 0] 45)) := by go_grown
  have hz0 : (((w.alloc (.cells #[.int .i64 b.n, .int .i64 b.t, .slice b.Ap b.P.length b.cp, .slice b.Ao b.O.length b.co, .slice b.Ae b.E.length b.ce, .slice b.Af b.F.length b.cf] 51)).alloc (.cells #[.int .i64 0, .int .i64 0, .slice none 0 0, .slice none 0 0, .slice none 0 0, .slice none 0 0] 45)).alloc (.cells #[.int .i64 b.n, .int .i64 b.t, .slice none 0 0, .slice none 0 0, .slice none 0 0, .slice none 0 0] 45)).heap.size = w.heap.size + 3 := by simp
  have Ra : Row (((w.alloc (.cells #[.int .i64 b.n, .int .i64 b.t, .slice b.Ap b.P.length b.cp, .slice b.Ao b.O.length b.co, .slice b.Ae b.E.length b.ce, .slice b.Af b.F.length b.cf] 51)).alloc (.cells #[.int .i64 0, .int .i64 0, .slice none 0 0, .slice none 0 0, .slice none 0 0, .slice none 0 0] 45)).alloc (.cells #[.int .i64 b.n, .int .i64 b.t, .slice none 0 0, .slice none 0 0, .slice none 0 0, .slice none 0 0] 45)) w.heap.size 51 #[.int .i64 b.n, .int .i64 b.t, .slice b.Ap b.P.length b.cp, .slice b.Ao b.O.length b.co, .slice b.Ae b.E.length b.ce, .slice b.Af b.F.length b.cf] := ((Row.new _ _ _).alloc _).alloc _
  have Rr : Row (((w.alloc (.cells #[.int .i64 b.n, .int .i64 b.t, .slice b.Ap b.P.length b.cp, .slice b.Ao b.O.length b.co, .slice b.Ae b.E.length b.ce, .slice b.Af b.F.length b.cf] 51)).alloc (.cells #[.int .i64 0, .int .i64 0, .slice none 0 0, .slice none 0 0, .slice none 0 0, .slice none 0 0] 45)).alloc (.cells #[.int .i64 b.n, .int .i64 b.t, .slice none 0 0, .slice none 0 0, .slice none 0 0, .slice none 0 0] 45)) (w.heap.size + 1) 45 #[.int .i64 0, .int .i64 0, .slice none 0 0, .slice none 0 0, .slice none 0 0, .slice none 0 0] := by
    have h := Row.new (w.alloc (.cells #[.int .i64 b.n, .int .i64 b.t, .slice b.Ap b.P.length b.cp, .slice b.Ao b.O.length b.co, .slice b.Ae b.E.length b.ce, .slice b.Af b.F.length b.cf] 51)) 45 #[.int .i64 0, .int .i64 0, .slice none 0 0, .slice none 0 0, .slice none 0 0, .slice none 0 0]
    rw [World.size_alloc] at h; exact h.alloc _
  have Ro : Row (((w.alloc (.cells #[.int .i64 b.n, .int .i64 b.t, .slice b.Ap b.P.length b.cp, .slice b.Ao b.O.length b.co, .slice b.Ae b.E.length b.ce, .slice b.Af b.F.length b.cf] 51)).alloc (.cells #[.int .i64 0, .int .i64 0, .slice none 0 0, .slice none 0 0, .slice none 0 0, .slice none 0 0] 45)).alloc (.cells #[.int .i64 b.n, .int .i64 b.t, .slice none 0 0, .slice none 0 0, .slice none 0 0, .slice none 0 0] 45)) (w.heap.size + 1 + 1) 45 #[.int .i64 b.n, .int .i64 b.t, .slice none 0 0, .slice none 0 0, .slice none 0 0, .slice none 0 0] := by
    have h := Row.new ((w.alloc (.cells #[.int .i64 b.n, .int .i64 b.t, .slice b.Ap b.P.length b.cp, .slice b.Ao b.O.length b.co, .slice b.Ae b.E.length b.ce, .slice b.Af b.F.length b.cf] 51)).alloc (.cells #[.int .i64 0, .int .i64 0, .slice none 0 0, .slice none 0 0, .slice none 0 0, .slice none 0 0] 45)) 45 #[.int .i64 b.n, .int .i64 b.t, .slice none 0 0, .slice none 0 0, .slice none 0 0, .slice none 0 0]
    rw [World.size_alloc, World.size_alloc] at h; exact h
  generalize (((w.alloc (.cells #[.int .i64 b.n, .int .i64 b.t, .slice b.Ap b.P.length b.cp, .slice b.Ao b.O.length b.co, .slice b.Ae b.E.length b.ce, .slice b.Af b.F.length b.cf] 51)).alloc (.cells #[.int .i64 0, .int .i64 0, .slice none 0 0, .slice none 0 0, .slice none 0 0, .slice none 0 0] 45)).alloc (.cells #[.int .i64 b.n, .int .i64 b.t, .slice none 0 0, .slice none 0 0, .slice none 0 0, .slice none 0 0] 45)) = W at hB0 hz0 Ra Rr Ro ⊢
  have HB0 := Lib.hid hB0; clear hB0
  have HZ0 : Hid (w.heap.size + 3 ≤ W.heap.size) := by show _ ≤ _; omega
  clear hz0
  have HRa0 := Lib.hid Ra; clear Ra
  have HRr0 := Lib.hid Rr; clear Rr
  have HRo0 := Lib.hid Ro; clear Ro
  refine (toIntSS_any _ _ _ _ ((HR.out.1.keep HB0.out).more HB0.out.size) HM.out.p HM.out.ps).mono ?_
  rintro e w1 ⟨A1, c1, l1, rfl, k1, o1, s1, hB1⟩
  have HU1 : Hid (∀ q, ItsL A1 l1 q → q < w1.heap.size) := fun q hq => (o1.its hq).2
  have HO1 : Hid (OwnL w1 (w.heap.size + 3) A1 l1) := o1.lower HZ0.out
  have HZ1' : Hid (w.heap.size + 3 ≤ w1.heap.size) := Nat.le_trans HZ0.out hB1.size
  have HRa1' := Lib.hid (HRa0.out.below hB1 HRa0.out.lt)
  have HRr1' := Lib.hid (HRr0.out.below hB1 HRr0.out.lt)
  have HRo1' := Lib.hid (HRo0.out.below hB1 HRo0.out.lt)
  have HB1' := Lib.hid (HB0.out.trans (hB1.mono HB0.out.size)); clear hB1 HRa0 HRr0 HRo0 HB0 HZ0 o1
  have K1 := Lib.hid k1; clear k1
  have S1 := Lib.hid s1; clear s1
  have av := HRa1'.out.cell 3
  have xv := HRo1'.out.cell 2
  have yv := HRo1'.out.frozen 2
  simp only [List.getElem?_toArray, List.getElem?_cons_succ, List.getElem?_cons_zero] at av xv
  go_wp2_with fail
  have HRa1 := Lib.hid (HRa1'.out.far (p := ⟨w.heap.size + 1 + 1, 2, none⟩) (by simp; omega) (.slice A1 l1.length c1))
  have HRr1 := Lib.hid (HRr1'.out.far (p := ⟨w.heap.size + 1 + 1, 2, none⟩) (by simp) (.slice A1 l1.length c1))
  have HRo1 : Hid (Row (w1.setCell ⟨w.heap.size + 1 + 1, 2, none⟩ (.slice A1 l1.length c1)) (w.heap.size + 1 + 1) 45 #[.int .i64 b.n, .int .i64 b.t, .slice A1 l1.length c1, .slice none 0 0, .slice none 0 0, .slice none 0 0]) := HRo1'.out.set 2 (.slice A1 l1.length c1)
  have HQ1 := Lib.hid (HO1.out.low (p := ⟨w.heap.size + 1 + 1, 2, none⟩) (by simp) (.slice A1 l1.length c1)); clear HO1
  have HB1 : Hid (Below w.heap.size w (w1.setCell ⟨w.heap.size + 1 + 1, 2, none⟩ (.slice A1 l1.length c1))) := HB1'.out.setCell (by simp; omega) _
  have HZ1 : Hid (w.heap.size + 3 ≤ (w1.setCell ⟨w.heap.size + 1 + 1, 2, none⟩ (.slice A1 l1.length c1)).heap.size) := by have := HZ1'.out; show _ ≤ _; simpa using this
  clear xv yv av HRa1' HRr1' HRo1' HB1' HZ1'
  have HN1 : Hid (w1.heap.size ≤ (w1.setCell ⟨w.heap.size + 1 + 1, 2, none⟩ (.slice A1 l1.length c1)).heap.size) := by show _ ≤ _; simp
  generalize (w1.setCell ⟨w.heap.size + 1 + 1, 2, none⟩ (.slice A1 l1.length c1)) = W1 at HN1 HRa1 HRr1 HRo1 HB1 HZ1 HQ1 ⊢
  have HO1 := HQ1; clear HQ1
  refine (toIntSS_any _ _ _ _ ((HR.out.2.1.keep HB1.out).more HB1.out.size) HM.out.o HM.out.os).mono ?_
  rintro e w2 ⟨A2, c2, l2, rfl, k2, o2, s2, hB2⟩
  have HV2 : Hid (∀ q, ItsL A2 l2 q → w1.heap.size ≤ q ∧ q < w2.heap.size) := fun q hq => ⟨Nat.le_trans HN1.out (o2.its hq).1, (o2.its hq).2⟩
  have HM2 : Hid (w1.heap.size ≤ w2.heap.size) := Nat.le_trans HN1.out hB2.size
  have HO2 : Hid (OwnL w2 (w.heap.size + 3) A2 l2) := o2.lower HZ1.out
  have HZ2' : Hid (w.heap.size + 3 ≤ w2.heap.size) := Nat.le_trans HZ1.out hB2.size
  have HRa2' := Lib.hid (HRa1.out.below hB2 HRa1.out.lt)
  have HRr2' := Lib.hid (HRr1.out.below hB2 HRr1.out.lt)
  have HRo2' := Lib.hid (HRo1.out.below hB2 HRo1.out.lt)
  have HP1 := Lib.hid (HO1.out.below hB2 (Nat.le_refl _)); clear HO1
  have HB2' := Lib.hid (HB1.out.trans (hB2.mono HB1.out.size)); clear hB2 HRa1 HRr1 HRo1 HB1 HZ1 o2
  have K2 := Lib.hid k2; clear k2
  have S2 := Lib.hid s2; clear s2
  have av := HRa2'.out.cell 4
  have xv := HRo2'.out.cell 3
  have yv := HRo2'.out.frozen 3
  simp only [List.getElem?_toArray, List.getElem?_cons_succ, List.getElem?_cons_zero] at av xv
  go_wp2_with fail
  have HRa2 := Lib.hid (HRa2'.out.far (p := ⟨w.heap.size + 1 + 1, 3, none⟩) (by simp; omega) (.slice A2 l2.length c2))
  have HRr2 := Lib.hid (HRr2'.out.far (p := ⟨w.heap.size + 1 + 1, 3, none⟩) (by simp) (.slice A2 l2.length c2))
  have HRo2 : Hid (Row (w2.setCell ⟨w.heap.size + 1 + 1, 3, none⟩ (.slice A2 l2.length c2)) (w.heap.size + 1 + 1) 45 #[.int .i64 b.n, .int .i64 b.t, .slice A1 l1.length c1, .slice A2 l2.length c2, .slice none 0 0, .slice none 0 0]) := HRo2'.out.set 3 (.slice A2 l2.length c2)
  have HQ1 := Lib.hid (HP1.out.low (p := ⟨w.heap.size + 1 + 1, 3, none⟩) (by simp) (.slice A2 l2.length c2)); clear HP1
  have HQ2 := Lib.hid (HO2.out.low (p := ⟨w.heap.size + 1 + 1, 3, none⟩) (by simp) (.slice A2 l2.length c2)); clear HO2
  have HB2 : Hid (Below w.heap.size w (w2.setCell ⟨w.heap.size + 1 + 1, 3, none⟩ (.slice A2 l2.length c2))) := HB2'.out.setCell (by simp; omega) _
  have HZ2 : Hid (w.heap.size + 3 ≤ (w2.setCell ⟨w.heap.size + 1 + 1, 3, none⟩ (.slice A2 l2.length c2)).heap.size) := by have := HZ2'.out; show _ ≤ _; simpa using this
  clear xv yv av HRa2' HRr2' HRo2' HB2' HZ2'
  have HN2 : Hid (w2.heap.size ≤ (w2.setCell ⟨w.heap.size + 1 + 1, 3, none⟩ (.slice A2 l2.length c2)).heap.size) := by show _ ≤ _; simp
  generalize (w2.setCell ⟨w.heap.size + 1 + 1, 3, none⟩ (.slice A2 l2.length c2)) = W2 at HN2 HRa2 HRr2 HRo2 HB2 HZ2 HQ1 HQ2 ⊢
  have HO1 := HQ1; clear HQ1
  have HO2 := HQ2; clear HQ2
  refine (toIntS_any _ _ _ _ ((HR.out.2.2.1.keep HB2.out).more HB2.out.size) HM.out.e).mono ?_
  rintro e w3 ⟨A3, c3, rfl, k3, o3, hB3⟩
  have HV3 : Hid (∀ q, Its A3 b.E q → w2.heap.size ≤ q ∧ q < w3.heap.size) := fun q hq => ⟨Nat.le_trans HN2.out (o3.its hq).1, (o3.its hq).2⟩
  have HM3 : Hid (w2.heap.size ≤ w3.heap.size) := Nat.le_trans HN2.out hB3.size
  have HO3 : Hid (OwnI w3 (w.heap.size + 3) A3 b.E) := o3.lower HZ2.out
  have HZ3' : Hid (w.heap.size + 3 ≤ w3.heap.size) := Nat.le_trans HZ2.out hB3.size
  have HRa3' := Lib.hid (HRa2.out.below hB3 HRa2.out.lt)
  have HRr3' := Lib.hid (HRr2.out.below hB3 HRr2.out.lt)
  have HRo3' := Lib.hid (HRo2.out.below hB3 HRo2.out.lt)
  have HP1 := Lib.hid (HO1.out.below hB3 (Nat.le_refl _)); clear HO1
  have HP2 := Lib.hid (HO2.out.below hB3 (Nat.le_refl _)); clear HO2
  have HB3' := Lib.hid (HB2.out.trans (hB3.mono HB2.out.size)); clear hB3 HRa2 HRr2 HRo2 HB2 HZ2 o3
  have K3 := Lib.hid k3; clear k3
  have av := HRa3'.out.cell 5
  have xv := HRo3'.out.cell 4
  have yv := HRo3'.out.frozen 4
  simp only [List.getElem?_toArray, List.getElem?_cons_succ, List.getElem?_cons_zero] at av xv
  go_wp2_with fail
  have HRa3 := Lib.hid (HRa3'.out.far (p := ⟨w.heap.size + 1 + 1, 4, none⟩) (by simp; omega) (.slice A3 b.E.length c3))
  have HRr3 := Lib.hid (HRr3'.out.far (p := ⟨w.heap.size + 1 + 1, 4, none⟩) (by simp) (.slice A3 b.E.length c3))
  have HRo3 : Hid (Row (w3.setCell ⟨w.heap.size + 1 + 1, 4, none⟩ (.slice A3 b.E.length c3)) (w.heap.size + 1 + 1) 45 #[.int .i64 b.n, .int .i64 b.t, .slice A1 l1.length c1, .slice A2 l2.length c2, .slice A3 b.E.length c3, .slice none 0 0]) := HRo3'.out.set 4 (.slice A3 b.E.length c3)
  have HQ1 := Lib.hid (HP1.out.low (p := ⟨w.heap.size + 1 + 1, 4, none⟩) (by simp) (.slice A3 b.E.length c3)); clear HP1
  have HQ2 := Lib.hid (HP2.out.low (p := ⟨w.heap.size + 1 + 1, 4, none⟩) (by simp) (.slice A3 b.E.length c3)); clear HP2
  have HQ3 := Lib.hid (HO3.out.low (p := ⟨w.heap.size + 1 + 1, 4, none⟩) (by simp) (.slice A3 b.E.length c3)); clear HO3
  have HB3 : Hid (Below w.heap.size w (w3.setCell ⟨w.heap.size + 1 + 1, 4, none⟩ (.slice A3 b.E.length c3))) := HB3'.out.setCell (by simp; omega) _
  have HZ3 : Hid (w.heap.size + 3 ≤ (w3.setCell ⟨w.heap.size + 1 + 1, 4, none⟩ (.slice A3 b.E.length c3)).heap.size) := by have := HZ3'.out; show _ ≤ _; simpa using this
  clear xv yv av HRa3' HRr3' HRo3' HB3' HZ3'
  have HN3 : Hid (w3.heap.size ≤ (w3.setCell ⟨w.heap.size + 1 + 1, 4, none⟩ (.slice A3 b.E.length c3)).heap.size) := by show _ ≤ _; simp
  generalize (w3.setCell ⟨w.heap.size + 1 + 1, 4, none⟩ (.slice A3 b.E.length c3)) = W3 at HN3 HRa3 HRr3 HRo3 HB3 HZ3 HQ1 HQ2 HQ3 ⊢
  have HO1 := HQ1; clear HQ1
  have HO2 := HQ2; clear HQ2
  have HO3 := HQ3; clear HQ3
  refine (toIntSS_any _ _ _ _ ((HR.out.2.2.2.keep HB3.out).more HB3.out.size) HM.out.f HM.out.fs).mono ?_
  rintro e w4 ⟨A4, c4, l4, rfl, k4, o4, s4, hB4⟩
  have HV4 : Hid (∀ q, ItsL A4 l4 q → w3.heap.size ≤ q) := fun q hq => Nat.le_trans HN3.out (o4.its hq).1
  have HO4 : Hid (OwnL w4 (w.heap.size + 3) A4 l4) := o4.lower HZ3.out
  have HZ4' : Hid (w.heap.size + 3 ≤ w4.heap.size) := Nat.le_trans HZ3.out hB4.size
  have HRa4' := Lib.hid (HRa3.out.below hB4 HRa3.out.lt)
  have HRr4' := Lib.hid (HRr3.out.below hB4 HRr3.out.lt)
  have HRo4' := Lib.hid (HRo3.out.below hB4 HRo3.out.lt)
  have HP1 := Lib.hid (HO1.out.below hB4 (Nat.le_refl _)); clear HO1
  have HP2 := Lib.hid (HO2.out.below hB4 (Nat.le_refl _)); clear HO2
  have HP3 := Lib.hid (HO3.out.below hB4 (Nat.le_refl _)); clear HO3
  have HB4' := Lib.hid (HB3.out.trans (hB4.mono HB3.out.size)); clear hB4 HRa3 HRr3 HRo3 HB3 HZ3 o4
  have K4 := Lib.hid k4; clear k4
  have S4 := Lib.hid s4; clear s4
  have x0 := HRo4'.out.cell 0
  have x1 := HRo4'.out.cell 1
  have x2 := HRo4'.out.cell 2
  have x3 := HRo4'.out.cell 3
  have x4 := HRo4'.out.cell 4
  have x5 := HRo4'.out.cell 5
  have y5 := HRo4'.out.frozen 5
  have r0 := HRr4'.out.cell 0
  have r1 := HRr4'.out.cell 1
  have r2 := HRr4'.out.cell 2
  have r3 := HRr4'.out.cell 3
  have r4 := HRr4'.out.cell 4
  have r5 := HRr4'.out.cell 5
  have q0 := HRr4'.out.frozen 0
  have q1 := HRr4'.out.frozen 1
  have q2 := HRr4'.out.frozen 2
  have q3 := HRr4'.out.frozen 3
  have q4 := HRr4'.out.frozen 4
  have q5 := HRr4'.out.frozen 5
  simp only [List.getElem?_toArray, List.getElem?_cons_succ, List.getElem?_cons_zero] at x0 x1 x2 x3 x4 x5 r0 r1 r2 r3 r4 r5
  go_wp2_with fail
  refine bodyPost_ret (v := .agg #[.int .i64 b.n, .int .i64 b.t, .slice A1 l1.length c1, .slice A2 l2.length c2, .slice A3 b.E.length c3, .slice A4 l4.length c4]) (by simp [results, Tryd.results32, go_sem, r0, r1, r2, r3, r4, r5]) rfl ⟨⟨b.n, b.t, A1, l1, c1, A2, l2, c2, A3, b.E, c3, A4, l4, c4⟩, rfl, ?_, ?_, ⟨K1.out, K2.out, K3.out, K4.out⟩, ?_, ⟨?_, ?_, ?_, ?_, ?_, ?_⟩⟩
  · show Bs.mk _ _ _ _ _ _ = Bs.mk _ _ _ _ _ _
    rw [S1.out, S2.out, S4.out]
  · refine ⟨?_, ?_, ?_, ?_⟩
    · exact (((((((HP1.out.low (by simp) _).low (by simp) _).low (by simp) _).low (by simp) _).low (by simp) _).low (by simp) _).low (by simp) _).lower (by omega)
    · exact (((((((HP2.out.low (by simp) _).low (by simp) _).low (by simp) _).low (by simp) _).low (by simp) _).low (by simp) _).low (by simp) _).lower (by omega)
    · exact (((((((HP3.out.low (by simp) _).low (by simp) _).low (by simp) _).low (by simp) _).low (by simp) _).low (by simp) _).low (by simp) _).lower (by omega)
    · exact (((((((HO4.out.low (by simp) _).low (by simp) _).low (by simp) _).low (by simp) _).low (by simp) _).low (by simp) _).low (by simp) _).lower (by omega)
  · exact ((((((HB4'.out.setCell (by simp; omega) _).setCell (by simp) _).setCell (by simp) _).setCell (by simp) _).setCell (by simp) _).setCell (by simp) _).setCell (by simp) _
  · exact fun q h k => by have := HU1.out q h; have := HV2.out q k; omega
  · exact fun q h k => by have := HU1.out q h; have := HV3.out q k; have := HM2.out; omega
  · exact fun q h k => by have := HU1.out q h; have := HV4.out q k; have := HM2.out; have := HM3.out; omega
  · exact fun q h k => by have := HV2.out q h; have := HV3.out q k; omega
  · exact fun q h k => by have := HV2.out q h; have := HV4.out q k; have := HM3.out; omega
  · exact fun q h k => by have := HV3.out q h; have := HV4.out q k; omega

theorem markM_ne {k : Int} {ls : List Li} {n : Nat} (h : markM k ls n ≠ []) : ls ≠ [] := fun e => h (by subst e; rfl)
theorem OwnL.save' {S : Nat → Prop} {w w' : World} {lo : Nat} {A : Option Addr} {ls : List Li} {k : Int} {n : Nat} (h : OwnL w lo A (markM k ls n)) (hs : Save S w w') (hd : ∀ b, ItsL A ls b → ¬ S b) : OwnL w' lo A (markM k ls n) := by
  refine h.kept hs fun b hb => hd b ?_
  rcases hb with ⟨e, hn⟩ | ⟨i, u, hu, he, hr⟩
  · exact .inl ⟨e, markM_ne hn⟩
  · have hi := (List.getElem?_eq_some_iff.1 hu).1
    have hi' : i < ls.length := by rw [markM_length] at hi; exact hi
    have hat := markM_at (k := k) (i := n) hi' hi
    rw [List.getElem?_eq_getElem hi, hat] at hu
    injection hu with hu
    refine .inr ⟨i, ls[i], List.getElem?_eq_getElem hi', ?_⟩
    split at hu
    · subst hu
      exact ⟨he, fun e => hr (by show seqL _ _ = []; rw [e]; rfl)⟩
    · subst hu
      exact ⟨he, hr⟩
theorem OwnI.save' {S : Nat → Prop} {w w' : World} {lo : Nat} {A : Option Addr} {xs : List Int} {k : Int} (h : OwnI w lo A (seqL k xs.length)) (hs : Save S w w') (hd : ∀ b, Its A xs b → ¬ S b) : OwnI w' lo A (seqL k xs.length) :=
  h.kept hs fun b hb => hd b ⟨hb.1, fun e => hb.2 (by rw [e]; rfl)⟩


/-- The blocks of a binary grammar. -/
def ItsB (b : Bi) (q : Nat) : Prop := ItsL b.Ap b.P q ∨ ItsL b.Ao b.O q ∨ Its b.Ae b.E q ∨ ItsL b.Af b.F q
theorem OwnB.its {w : World} {lo : Nat} {b : Bi} (h : OwnB w lo b) {q : Nat} (hq : ItsB b q) : lo ≤ q ∧ q < w.heap.size := by
  rcases hq with hq | hq | hq | hq
  · exact h.1.its hq
  · exact h.2.1.its hq
  · exact h.2.2.1.its hq
  · exact h.2.2.2.its hq
theorem OwnB.kept {S : Nat → Prop} {w w' : World} {lo : Nat} {b : Bi} (h : OwnB w lo b) (hs : Save S w w') (hd : ∀ q, ItsB b q → ¬ S q) : OwnB w' lo b :=
  ⟨h.1.kept hs fun q hq => hd q (.inl hq), h.2.1.kept hs fun q hq => hd q (.inr (.inl hq)), h.2.2.1.kept hs fun q hq => hd q (.inr (.inr (.inl hq))), h.2.2.2.kept hs fun q hq => hd q (.inr (.inr (.inr hq)))⟩

/-- How many numbers lists hold. -/
def lcn (ls : List Li) : Nat := lcnt ls ls.length
theorem lcnt_le {ls : List Li} (h : ∀ u ∈ ls, u.r.length ≤ 1048576) : ∀ i, i ≤ ls.length → lcnt ls i ≤ i * 1048577
  | 0, _ => by simp [lcnt_zero]
  | i + 1, hi => by
    have h1 := lcnt_le h i (by omega)
    rw [lcnt_succ (by omega)]
    have := h ls[i] (List.getElem_mem (by omega))
    omega
theorem lcn_le {ls : List Li} (h1 : ls.length ≤ 1048576) (h : ∀ u ∈ ls, u.r.length ≤ 1048576) : lcn ls ≤ 1099512676352 := by
  have := lcnt_le h ls.length (Nat.le_refl _)
  have h2 : ls.length * 1048577 ≤ 1048576 * 1048577 := Nat.mul_le_mul_right _ h1
  unfold lcn
  omega
/-- A binary grammar with all its numbers marked from k on. -/
def markB (k : Int) (b : Bi) : Bi := { b with
  P := markM k b.P b.P.length
  O := markM (k + (lcn b.P : Int)) b.O b.O.length
  E := seqL (k + (lcn b.P : Int) + (lcn b.O : Int)) b.E.length
  F := markM (k + (lcn b.P : Int) + (lcn b.O : Int) + (b.E.length : Int)) b.F b.F.length }
def cntBi (b : Bi) : Nat := lcn b.P + lcn b.O + b.E.length + lcn b.F

def MarkedB (w : World) (lo : Nat) (b : Bi) (k : Int) (e : Ending) (w' : World) : Prop :=
  e = .returned (.int .i64 (k + (cntBi b : Int))) ∧ OwnB w' lo (markB k b) ∧ Save (ItsB b) w w'

set_option maxHeartbeats 1000000 in
theorem markBinary_any (b : Bi) (lo : Nat) (k : Int) (w : World) (h : OwnB w lo b) (ha : ApartB b) (hm : LenB 1048576 b) (hk : 0 ≤ k) (hk' : k ≤ 16) :
    Calls Tryd.prog 28 #[(.agg #[.int .i64 b.n, .int .i64 b.t, .slice b.Ap b.P.length b.cp, .slice b.Ao b.O.length b.co, .slice b.Ae b.E.length b.ce, .slice b.Af b.F.length b.cf]), .int .i64 k] w (MarkedB w lo b k) := by
  have HO := Lib.hid h; clear h
  have HA := Lib.hid ha; clear ha
  have HM := Lib.hid hm; clear hm
  have hlp := lcn_le HM.out.p HM.out.ps
  have hlo := lcn_le HM.out.o HM.out.os
  have hle := HM.out.e
  have HBX : Hid (Below w.heap.size w (w.alloc (.cells #[.int .i64 b.n, .int .i64 b.t, .slice b.Ap b.P.length b.cp, .slice b.Ao b.O.length b.co, .slice b.Ae b.E.length b.ce, .slice b.Af b.F.length b.cf] 45))) := by show Below _ _ _; go_grown
  have HR0 : Hid (Row (w.alloc (.cells #[.int .i64 b.n, .int .i64 b.t, .slice b.Ap b.P.length b.cp, .slice b.Ao b.O.length b.co, .slice b.Ae b.E.length b.ce, .slice b.Af b.F.length b.cf] 45)) w.heap.size 45 #[.int .i64 b.n, .int .i64 b.t, .slice b.Ap b.P.length b.cp, .slice b.Ao b.O.length b.co, .slice b.Ae b.E.length b.ce, .slice b.Af b.F.length b.cf]) := Row.new _ _ _
  have HO0 := Lib.hid (HO.out.below HBX.out (Nat.le_refl _))
  go_enter Tryd.func28, Tryd.ntmps28
  go_wp2_with fail
  generalize (w.alloc (.cells #[.int .i64 b.n, .int .i64 b.t, .slice b.Ap b.P.length b.cp, .slice b.Ao b.O.length b.co, .slice b.Ae b.E.length b.ce, .slice b.Af b.F.length b.cf] 45)) = W at HBX HR0 HO0 ⊢
  have HNI : Hid (∀ q, ItsB b q → q < w.heap.size) := fun q hq => (HO.out.its hq).2
  refine (markIntSS_any _ _ _ lo _ _ HO0.out.1 HM.out.p HM.out.ps hk (by omega)).mono ?_
  rintro e w1 ⟨rfl, hP, hS1⟩
  have HP := Lib.hid hP; clear hP
  have HO1 := Lib.hid (HO0.out.2.1.kept hS1 fun q h h' => HA.out.po q h' h)
  have HE1 := Lib.hid (HO0.out.2.2.1.kept hS1 fun q h h' => HA.out.pe q h' h)
  have HF1 := Lib.hid (HO0.out.2.2.2.kept hS1 fun q h h' => HA.out.pf q h' h)
  have HR1 := Lib.hid (HR0.out.save hS1 fun h => by have := HNI.out _ (.inl h); omega)
  have HS1 : Hid (Save (ItsB b) W w1) := hS1.wider fun q h => .inl h
  clear hS1 HO0 HR0
  have a3 := HR1.out.cell 3
  simp only [List.getElem?_toArray, List.getElem?_cons_succ, List.getElem?_cons_zero] at a3
  have e1 : k + ((lcnt b.P b.P.length : Nat) : Int) = k + (lcn b.P : Int) := rfl
  rw [e1]
  clear e1
  go_wp2_with fail
  refine (markIntSS_any _ _ _ lo _ _ HO1.out HM.out.o HM.out.os (by omega) (by omega)).mono ?_
  rintro e w2 ⟨rfl, hO, hS2⟩
  have HQO := Lib.hid hO; clear hO
  have HP2 := Lib.hid (HP.out.save' hS2 fun q h h' => HA.out.po q h h')
  have HE2 := Lib.hid (HE1.out.kept hS2 fun q h h' => HA.out.oe q h' h)
  have HF2 := Lib.hid (HF1.out.kept hS2 fun q h h' => HA.out.of q h' h)
  have HR2 := Lib.hid (HR1.out.save hS2 fun h => by have := HNI.out _ (.inr (.inl h)); omega)
  have HS2 : Hid (Save (ItsB b) W w2) := HS1.out.trans (hS2.wider fun q h => .inr (.inl h))
  clear hS2 HP HE1 HF1 HR1 HO1 HS1 a3
  have a4 := HR2.out.cell 4
  simp only [List.getElem?_toArray, List.getElem?_cons_succ, List.getElem?_cons_zero] at a4
  have e1 : k + (lcn b.P : Int) + ((lcnt b.O b.O.length : Nat) : Int) = k + (lcn b.P : Int) + (lcn b.O : Int) := rfl
  rw [e1]
  clear e1
  go_wp2_with fail
  refine (markIntS_any _ _ _ lo _ _ HE2.out HM.out.e (by omega) (by omega)).mono ?_
  rintro e w3 ⟨rfl, hE, hS3⟩
  have HQE := Lib.hid hE; clear hE
  have HP3 := Lib.hid (HP2.out.save' hS3 fun q h h' => HA.out.pe q h h')
  have HO3 := Lib.hid (HQO.out.save' hS3 fun q h h' => HA.out.oe q h h')
  have HF3 := Lib.hid (HF2.out.kept hS3 fun q h h' => HA.out.ef q h' h)
  have HR3 := Lib.hid (HR2.out.save hS3 fun h => by have := HNI.out _ (.inr (.inr (.inl h))); omega)
  have HS3 : Hid (Save (ItsB b) W w3) := HS2.out.trans (hS3.wider fun q h => .inr (.inr (.inl h)))
  clear hS3 HP2 HE2 HF2 HR2 HQO HS2 a4
  have a5 := HR3.out.cell 5
  simp only [List.getElem?_toArray, List.getElem?_cons_succ, List.getElem?_cons_zero] at a5
  go_wp2_with fail
  refine (markIntSS_any _ _ _ lo _ _ HF3.out HM.out.f HM.out.fs (by omega) (by omega)).mono ?_
  rintro e w4 ⟨rfl, hF, hS4⟩
  have HQF := Lib.hid hF; clear hF
  have HP4 := Lib.hid (HP3.out.save' hS4 fun q h h' => HA.out.pf q h h')
  have HO4 := Lib.hid (HO3.out.save' hS4 fun q h h' => HA.out.of q h h')
  have HE4 := Lib.hid (HQE.out.save' hS4 fun q h h' => HA.out.ef q h h')
  have HS4 : Hid (Save (ItsB b) W w4) := HS3.out.trans (hS4.wider fun q h => .inr (.inr (.inr h)))
  clear hS4 HP3 HO3 HQE HR3 HF3 HS3 a5
  have HV : Hid (k + (lcn b.P : Int) + (lcn b.O : Int) + (b.E.length : Int) + ((lcnt b.F b.F.length : Nat) : Int) = k + (cntBi b : Int)) := by
    show _ = _
    have : (lcnt b.F b.F.length : Nat) = lcn b.F := rfl
    unfold cntBi
    omega
  go_wp2
  go_ret
  exact ⟨ret_int HV.out, ⟨HP4.out, HO4.out, HE4.out, HQF.out⟩, (Save.of_below HBX.out).trans HS4.out⟩

end Go.Proofs.YtjfhkcoiomokoaaDoor

/- The program's BinaryGrammar. -/

namespace Go.Proofs.YtjfhkcoiomokoaaDoor
open Go.RowKit

/-- Whether a binary grammar is good and its rules are a good grammar. -/
noncomputable def okBG (s : Bs) : Bool := bP (GoodBs s) && goodG s.n s.t (bRules s.P s.O s.E)

theorem long_mem {long : Int} {xs : List (List Int)} (h : LongTo long xs xs.length) {x : List Int} (hx : x ∈ xs) : (x.length : Int) = long := by
  obtain ⟨k, hk, e⟩ := List.getElem_of_mem hx
  exact h k x hk (by rw [← e]; exact List.getElem?_eq_getElem hk)
theorem goodB_long {b : Bi} (h : GoodBs b.say) : ∀ u ∈ b.P ++ b.O, 2 ≤ u.r.length ∧ u.r.length ≤ 3 := by
  intro u hu
  rcases List.mem_append.1 hu with hu | hu
  · have := long_mem h.2.2.1.1 (sayL_mem hu); omega
  · have := long_mem h.2.2.2.1.1 (sayL_mem hu); omega
theorem bRules_fit {b : Bi} {rs : List Ru} (hf : FitB b.say) (h : rs.map Ru.abs = bRules (sayL b.P) (sayL b.O) b.E) : FitR rs := by
  intro u hu x hx
  have hm : u.abs ∈ bRules (sayL b.P) (sayL b.O) b.E := h ▸ List.mem_map.2 ⟨u, hu, rfl⟩
  unfold bRules at hm
  rcases List.mem_append.1 hm with hm | hm
  · obtain ⟨y, hy, e⟩ := List.mem_map.1 hm
    have er : y.tail = u.r := congrArg Prod.snd e
    have hx' : x ∈ y := List.mem_of_mem_tail (er ▸ hx)
    rcases List.mem_append.1 hy with hy | hy
    · exact hf.1 y hy x hx'
    · exact hf.2.1 y hy x hx'
  · obtain ⟨y, _, e⟩ := List.mem_map.1 hm
    have er : [] = u.r := congrArg Prod.snd e
    rw [← er] at hx
    cases hx
theorem bRules_len {P O : List (List Int)} {E : List Int} : (bRules P O E).length = P.length + O.length + E.length := by unfold bRules; simp; omega
theorem bRules_lens {b : Bi} (hm : LenB 1048576 b) : ∀ u ∈ bRules (sayL b.P) (sayL b.O) b.E, u.2.length ≤ 1048576 := by
  intro u hu
  unfold bRules at hu
  rcases List.mem_append.1 hu with hu | hu
  · obtain ⟨y, hy, rfl⟩ := List.mem_map.1 hu
    have : y.tail.length ≤ y.length := by rw [List.length_tail]; omega
    rcases List.mem_append.1 hy with hy | hy
    · obtain ⟨v, hv, rfl⟩ := List.mem_map.1 hy; have := hm.ps v hv; show (v.r.tail).length ≤ _; omega
    · obtain ⟨v, hv, rfl⟩ := List.mem_map.1 hy; have := hm.os v hv; show (v.r.tail).length ≤ _; omega
  · obtain ⟨y, _, rfl⟩ := List.mem_map.1 hu
    simp

theorem rls_at {w w' : World} {B lo c : Nat} {A : Option Addr} {ds : List Ru} {ss : List (Int × List Int)} (h : RulD w B ds ss) (h2 : w'.ownsRow lo 83 2 (.slice A ds.length c) ds.length (ds.flatMap cellsU)) (hB : Below B w w') (hB2 : B ≤ w'.heap.size) : Rls w' w'.heap.size A ds := by
  obtain ⟨A', c', e, _, hR⟩ := rls_of h rfl h2 hB hB2
  injection e with e1
  rw [e1]; exact hR

set_option maxRecDepth 20000 in
set_option maxHeartbeats 1000000 in
theorem implBG_any (b : Bi) (w : World) (hx : ReadB w w.heap.size b) (hL : Lims w) (hm : LenB 1048576 b) (ht : b.P.length + b.O.length + b.E.length ≤ 1048576) (hf : FitB b.say) :
    Calls Tryd.prog 42 #[(.agg #[.int .i64 b.n, .int .i64 b.t, .slice b.Ap b.P.length b.cp, .slice b.Ao b.O.length b.co, .slice b.Ae b.E.length b.ce, .slice b.Af b.F.length b.cf])] w (GaveGB w b.n b.t (bRules (sayL b.P) (sayL b.O) b.E) (okBG b.say)) := by
  have HX := Lib.hid hx; clear hx
  have HL := Lib.hid hL; clear hL
  have HF := Lib.hid hf; clear hf
  have HM := Lib.hid hm; clear hm
  generalize hW : ((w.alloc (.cells #[.int .i64 b.n, .int .i64 b.t, .slice b.Ap b.P.length b.cp, .slice b.Ao b.O.length b.co, .slice b.Ae b.E.length b.ce, .slice b.Af b.F.length b.cf] 45)).alloc (.cells #[.int .i64 0, .int .i64 0, .slice none 0 0] 32)) = W
  have HB0 : Hid (Below w.heap.size w W) := by subst hW; show Below _ _ _; go_grown
  have B0 : Hid (Box6 W w.heap.size b) := by subst hW; exact (Box6.new w b 45).keep ((Below.refl (w.heap.size + 1) _).alloc (by simp) _) (by omega)
  have R0 : Hid (Row W (w.heap.size + 1) 32 #[.int .i64 0, .int .i64 0, .slice none 0 0]) := by
    subst hW
    have h := Row.new (w.alloc (.cells #[.int .i64 b.n, .int .i64 b.t, .slice b.Ap b.P.length b.cp, .slice b.Ao b.O.length b.co, .slice b.Ae b.E.length b.ce, .slice b.Af b.F.length b.cf] 45)) 32 #[.int .i64 0, .int .i64 0, .slice none 0 0]
    rwa [World.size_alloc] at h
  have HWE := Lib.hid hW; clear hW
  go_enter Tryd.func42, Tryd.ntmps42
  go_wp2_with fail
  rw [HWE.out]
  refine (implGoodB_any b W ((HX.out.keep HB0.out).more HB0.out.size) (HL.out.keep HB0.out (Nat.le_refl _)) HM.out HF.out).mono ?_
  rintro e w1 ⟨rfl, hB1⟩
  have B1 := Lib.hid (B0.out.keep hB1 B0.out.1)
  have R1 := Lib.hid (R0.out.below hB1 R0.out.lt)
  have HB1 := Lib.hid (HB0.out.trans (hB1.mono HB0.out.size)); clear hB1
  clear HWE B0 R0 HB0
  have d0 := R1.out.cell 0
  have d1 := R1.out.cell 1
  have d2 := R1.out.cell 2
  have g0 := R1.out.frozen 0
  have g1 := R1.out.frozen 1
  have g2 := R1.out.frozen 2
  simp at d0 d1 d2
  cases hg : bP (GoodBs b.say)
  · have HG : Hid (okBG b.say = false) := by show _ = _; unfold okBG; rw [hg]; rfl
    clear hg
    go_wp2
    refine bodyPost_ret (v := .tuple #[.agg #[.int .i64 0, .int .i64 0, .slice none 0 0], .bool false]) (by simp [results, Tryd.results42, go_sem, d0, d1, d2]) rfl ?_
    rw [HG.out]
    refine gave_none ?_
    exact ((HB1.out.setCell (by simp) _).setCell (by simp) _).setCell (by simp) _
  have HK : Hid (okBG b.say = goodG b.n b.t (bRules (sayL b.P) (sayL b.O) b.E)) := by show _ = _; unfold okBG; rw [hg]; rfl
  have HGB : Hid (GoodBs b.say) := bP_is hg
  clear hg d0 d1 d2 g0 g1 g2
  obtain ⟨_, b0, b1, b2, b3, b4, b5⟩ := B1.out
  have hsz1 := HB1.out.size
  go_wp2_with fail
  go_region_held3 (fun w' => w'.cell? ⟨w.heap.size, 0, none⟩ = some (.int .i64 b.n) ∧ w'.cell? ⟨w.heap.size, 1, none⟩ = some (.int .i64 b.t) ∧ w'.cell? ⟨w.heap.size, 2, none⟩ = some (.slice b.Ap b.P.length b.cp) ∧ w'.cell? ⟨w.heap.size, 3, none⟩ = some (.slice b.Ao b.O.length b.co) ∧ w'.cell? ⟨w.heap.size, 4, none⟩ = some (.slice b.Ae b.E.length b.ce) ∧ w'.cell? ⟨w.heap.size, 5, none⟩ = some (.slice b.Af b.F.length b.cf))
    (first | exact ⟨y0, y1, y2, y3, y4, y5⟩ | exact ⟨b0, b1, b2, b3, b4, b5⟩ | exact (B1.out.keep (B := w1.heap.size) (Below.trans HB2.out (by go_grown)) B1.out.1).2 | exact (B1.out.keep (B := w1.heap.size) (by go_grown) B1.out.1).2)
    (first
    | (go_at_call 80
       refine (binaryRules_any b w.heap.size _ ?_ ?_ HM.out (goodB_long HGB.out)).mono ?_
       · exact Nat.le_trans hsz1 (by first | exact Nat.le_refl _ | simp)
       · exact HX.out.keep (HB1.out.trans (by go_grown))
       rintro e w2 ⟨v2, rs2, rfl, hO2, hD2, hB2'⟩
       have hB2 : Below w1.heap.size w1 w2 := Below.trans (by go_grown) (hB2'.mono (by first | exact Nat.le_refl _ | simp))
       have HD2 : Hid (RulD w2 w.heap.size rs2 (bRules (sayL b.P) (sayL b.O) b.E)) := ⟨hD2.say, fun u hu => (hD2.read u hu).keep (hB2'.mono (Nat.le_trans hsz1 (by first | exact Nat.le_refl _ | simp))), hD2.caps⟩
       obtain ⟨A2, c2, rfl, hcap2, _⟩ := rls_of HD2.out rfl hO2 (Below.refl _ _) (Nat.le_trans hsz1 hB2.size)
       obtain ⟨_, y0, y1, y2, y3, y4, y5⟩ := B1.out.keep hB2 B1.out.1
       try have R4 : Row w2 w1.heap.size 32 #[.int .i64 0, .int .i64 0, .slice none 0 0] := Row.below (w := (w1.alloc (.cells #[.int .i64 0, .int .i64 0, .slice none 0 0] 32)).drew) (Row.new w1 _ _) hB2' (by simp)
       try have z0 := R4.cell 0
       try have z1 := R4.cell 1
       try have z2 := R4.cell 2
       try have q0 := R4.frozen 0
       try have q1 := R4.frozen 1
       try have q2 := R4.frozen 2
       try simp at z0 z1 z2
       have HO2 := Lib.hid hO2
       have HB2 := Lib.hid hB2
       have hs2 := hB2.size
       clear hO2 hD2 hB2 hB2')
    | fail)
  · have HV : Hid (Below w1.heap.size w1 (w2.alloc (.cells #[.int .i64 b.n, .int .i64 b.t, .slice A2 rs2.length c2] 32))) := HB2.out.alloc hs2 _
    have HKV := Lib.hid (box_new w2 (.int .i64 b.n) (.int .i64 b.t) (.slice A2 rs2.length c2) 32)
    have HRl := Lib.hid (rls_at HD2.out (HO2.out.alloc (.cells #[.int .i64 b.n, .int .i64 b.t, .slice A2 rs2.length c2] 32)) ((Below.refl _ _).alloc (Nat.le_trans hsz1 hs2) _) (by simp; omega))
    generalize (w2.alloc (.cells #[.int .i64 b.n, .int .i64 b.t, .slice A2 rs2.length c2] 32)) = V at HV HKV HRl ⊢
    have hl2 : rs2.length ≤ 1048576 := by have h := HD2.out.len; rw [bRules_len, sayL_len, sayL_len] at h; omega
    have HLS := Lib.hid (says_lens HD2.out.say (bRules_lens HM.out))
    have HFT := Lib.hid (bRules_fit HF.out HD2.out.say)
    have HSY := Lib.hid HD2.out.say
    have HVW := Lib.hid (HB1.out.trans (HV.out.mono hsz1))
    have HRV := Lib.hid (R1.out.below HV.out R1.out.lt)
    clear HO2 HD2 HB2 HV B1 R1 hs2
    obtain ⟨_, k0, k1, k2⟩ := HKV.out
    have hsv := HVW.out.size
    go_wp2_with fail
    refine (goodGrammar_any _ _ _ _ _ _ HRl.out (HL.out.keep HVW.out (Nat.le_refl _)) hcap2 hl2 HLS.out HFT.out).mono ?_
    rintro e w3 ⟨rfl, hB3⟩
    rw [HSY.out]
    have HB3 := Lib.hid (HVW.out.trans (hB3.mono HVW.out.size))
    have HK3 := Lib.hid (HKV.out.keep hB3 HKV.out.1)
    have HR3 := Lib.hid (HRV.out.below hB3 HRV.out.lt)
    have HRl3 := Lib.hid ((HRl.out.keep hB3).more hB3.size)
    clear hB3 k0 k1 k2 HKV HRV HRl HVW
    cases hg : goodG b.n b.t (bRules (sayL b.P) (sayL b.O) b.E)
    · have HG : Hid (okBG b.say = false) := HK.out.trans hg
      clear hg
      have d0 := HR3.out.cell 0
      have d1 := HR3.out.cell 1
      have d2 := HR3.out.cell 2
      have g0 := HR3.out.frozen 0
      have g1 := HR3.out.frozen 1
      have g2 := HR3.out.frozen 2
      simp at d0 d1 d2
      go_wp2
      refine bodyPost_ret (v := .tuple #[.agg #[.int .i64 0, .int .i64 0, .slice none 0 0], .bool false]) (by simp [results, Tryd.results42, go_sem, d0, d1, d2]) rfl ?_
      rw [HG.out]
      refine gave_none ?_
      exact ((HB3.out.setCell (by simp) _).setCell (by simp) _).setCell (by simp) _
    · have HG : Hid (okBG b.say = true) := HK.out.trans hg
      clear hg
      obtain ⟨_, k0, k1, k2⟩ := HK3.out
      go_wp2_with fail
      refine (copyGrammar_any _ _ _ _ _ _ HRl3.out hl2 HLS.out).mono ?_
      rintro e w4 ⟨A4, c4, rs4, rfl, _, hO4, ha4, hB4⟩
      have HB4 := Lib.hid (HB3.out.trans (hB4.mono HB3.out.size))
      have HR4 := Lib.hid (HR3.out.below hB4 HR3.out.lt)
      have HLT := Lib.hid HR3.out.lt
      have HO4 := Lib.hid hO4
      have HA4 := Lib.hid (ha4.trans HSY.out)
      clear hO4 ha4 hB4 k0 k1 k2
      have d0 := HR4.out.cell 0
      have d1 := HR4.out.cell 1
      have d2 := HR4.out.cell 2
      have g0 := HR4.out.frozen 0
      have g1 := HR4.out.frozen 1
      have g2 := HR4.out.frozen 2
      simp at d0 d1 d2
      have hlt := HLT.out
      go_wp2
      refine bodyPost_ret (v := .tuple #[.agg #[.int .i64 b.n, .int .i64 b.t, .slice A4 rs4.length c4], .bool true]) (by simp [results, Tryd.results42, go_sem, d0, d1, d2]) rfl ⟨A4, c4, rs4, by rw [HG.out]; rfl, ?_, ?_, ?_⟩
      · exact (((HO4.out.low (by simp; omega) _).low (by simp; omega) _).low (by simp; omega) _).lower HB3.out.size
      · rw [HA4.out, HG.out]; rfl
      · exact ((HB4.out.setCell (by simp) _).setCell (by simp) _).setCell (by simp) _
  · have R5 := ((R4.set 0 (.int .i64 b.n)).set 1 (.int .i64 b.t)).set 2 (.slice A2 rs2.length c2)
    have HV : Hid (Below w1.heap.size w1 (((w2.setCell ⟨w1.heap.size, 0, none⟩ (.int .i64 b.n)).setCell ⟨w1.heap.size, 1, none⟩ (.int .i64 b.t)).setCell ⟨w1.heap.size, 2, none⟩ (.slice A2 rs2.length c2))) := ((HB2.out.setCell (by simp) _).setCell (by simp) _).setCell (by simp) _
    have HKV : Hid (Box3 (((w2.setCell ⟨w1.heap.size, 0, none⟩ (.int .i64 b.n)).setCell ⟨w1.heap.size, 1, none⟩ (.int .i64 b.t)).setCell ⟨w1.heap.size, 2, none⟩ (.slice A2 rs2.length c2)) w1.heap.size (.int .i64 b.n) (.int .i64 b.t) (.slice A2 rs2.length c2)) := ⟨R5.lt, by rw [R5.cell]; simp, by rw [R5.cell]; simp, by rw [R5.cell]; simp⟩
    have HRl := Lib.hid (rls_at HD2.out (ownsRow_setCell_below (ownsRow_setCell_below (ownsRow_setCell_below HO2.out (a := ⟨w1.heap.size, 0, none⟩) (by simp) (.int .i64 b.n)) (a := ⟨w1.heap.size, 1, none⟩) (by simp) (.int .i64 b.t)) (a := ⟨w1.heap.size, 2, none⟩) (by simp) (.slice A2 rs2.length c2)) ((((Below.refl _ _).setCell (p := ⟨w1.heap.size, 0, none⟩) hsz1 _).setCell (p := ⟨w1.heap.size, 1, none⟩) hsz1 _).setCell (p := ⟨w1.heap.size, 2, none⟩) hsz1 _) (by simp; omega))
    clear R4 R5 z0 z1 z2 q0 q1 q2
    generalize (((w2.setCell ⟨w1.heap.size, 0, none⟩ (.int .i64 b.n)).setCell ⟨w1.heap.size, 1, none⟩ (.int .i64 b.t)).setCell ⟨w1.heap.size, 2, none⟩ (.slice A2 rs2.length c2)) = V at HV HKV HRl ⊢
    have hl2 : rs2.length ≤ 1048576 := by have h := HD2.out.len; rw [bRules_len, sayL_len, sayL_len] at h; omega
    have HLS := Lib.hid (says_lens HD2.out.say (bRules_lens HM.out))
    have HFT := Lib.hid (bRules_fit HF.out HD2.out.say)
    have HSY := Lib.hid HD2.out.say
    have HVW := Lib.hid (HB1.out.trans (HV.out.mono hsz1))
    have HRV := Lib.hid (R1.out.below HV.out R1.out.lt)
    clear HO2 HD2 HB2 HV B1 R1 hs2
    obtain ⟨_, k0, k1, k2⟩ := HKV.out
    have hsv := HVW.out.size
    go_wp2_with fail
    refine (goodGrammar_any _ _ _ _ _ _ HRl.out (HL.out.keep HVW.out (Nat.le_refl _)) hcap2 hl2 HLS.out HFT.out).mono ?_
    rintro e w3 ⟨rfl, hB3⟩
    rw [HSY.out]
    have HB3 := Lib.hid (HVW.out.trans (hB3.mono HVW.out.size))
    have HK3 := Lib.hid (HKV.out.keep hB3 HKV.out.1)
    have HR3 := Lib.hid (HRV.out.below hB3 HRV.out.lt)
    have HRl3 := Lib.hid ((HRl.out.keep hB3).more hB3.size)
    clear hB3 k0 k1 k2 HKV HRV HRl HVW
    cases hg : goodG b.n b.t (bRules (sayL b.P) (sayL b.O) b.E)
    · have HG : Hid (okBG b.say = false) := HK.out.trans hg
      clear hg
      have d0 := HR3.out.cell 0
      have d1 := HR3.out.cell 1
      have d2 := HR3.out.cell 2
      have g0 := HR3.out.frozen 0
      have g1 := HR3.out.frozen 1
      have g2 := HR3.out.frozen 2
      simp at d0 d1 d2
      go_wp2
      refine bodyPost_ret (v := .tuple #[.agg #[.int .i64 0, .int .i64 0, .slice none 0 0], .bool false]) (by simp [results, Tryd.results42, go_sem, d0, d1, d2]) rfl ?_
      rw [HG.out]
      refine gave_none ?_
      exact ((HB3.out.setCell (by simp) _).setCell (by simp) _).setCell (by simp) _
    · have HG : Hid (okBG b.say = true) := HK.out.trans hg
      clear hg
      obtain ⟨_, k0, k1, k2⟩ := HK3.out
      go_wp2_with fail
      refine (copyGrammar_any _ _ _ _ _ _ HRl3.out hl2 HLS.out).mono ?_
      rintro e w4 ⟨A4, c4, rs4, rfl, _, hO4, ha4, hB4⟩
      have HB4 := Lib.hid (HB3.out.trans (hB4.mono HB3.out.size))
      have HR4 := Lib.hid (HR3.out.below hB4 HR3.out.lt)
      have HLT := Lib.hid HR3.out.lt
      have HO4 := Lib.hid hO4
      have HA4 := Lib.hid (ha4.trans HSY.out)
      clear hO4 ha4 hB4 k0 k1 k2
      have d0 := HR4.out.cell 0
      have d1 := HR4.out.cell 1
      have d2 := HR4.out.cell 2
      have g0 := HR4.out.frozen 0
      have g1 := HR4.out.frozen 1
      have g2 := HR4.out.frozen 2
      simp at d0 d1 d2
      have hlt := HLT.out
      go_wp2
      refine bodyPost_ret (v := .tuple #[.agg #[.int .i64 b.n, .int .i64 b.t, .slice A4 rs4.length c4], .bool true]) (by simp [results, Tryd.results42, go_sem, d0, d1, d2]) rfl ⟨A4, c4, rs4, by rw [HG.out]; rfl, ?_, ?_, ?_⟩
      · exact (((HO4.out.low (by simp; omega) _).low (by simp; omega) _).low (by simp; omega) _).lower HB3.out.size
      · rw [HA4.out, HG.out]; rfl
      · exact ((HB4.out.setCell (by simp) _).setCell (by simp) _).setCell (by simp) _

end Go.Proofs.YtjfhkcoiomokoaaDoor
