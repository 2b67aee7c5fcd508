/- The program's closeSet: what it makes of a set. -/
import Derived.Test.YtfbpcdmpkbjifaaDoorC804
import Derived.Test.YtfbpcdmpkbjifaaDoorC801
import Derived.Deep.LoopGhost
import Derived.Deep.RegionHeld
import Derived.Test.YtfbpcdmpkbjifaaDoorC803
import Derived.Laws.ShiftsVarLaws
import Derived.StillTailTactics
import Derived.Test.YtfbpcdmpkbjifaaDoorC802

namespace Go.Proofs.YtfbpcdmpkbjifaaDoor
open Go.RowKit

/-- Only block b and new blocks have turned. -/
def Tb (b B : Nat) (i : Nat) : Prop := i = b ∨ B ≤ i

theorem Ints.saveMap {w w' : World} {b n : Nat} {f : Int → Option Value} {A : Option Addr} {xs : List Int} (h : Ints w w.heap.size A xs) (hm : MapI w b n f) (hs : Save (Tb b w.heap.size) w w') : Ints w' w'.heap.size A xs := by
  intro hn
  obtain ⟨p, o, e, hp, hc⟩ := h hn
  have hb : p ≠ b := fun e2 => by
    obtain ⟨D, ⟨es, ck, hm1, _⟩, _⟩ := hm
    subst e2
    have h0 := hc 0 xs[0] (List.getElem?_eq_getElem hn)
    simp [World.cell?, hm1] at h0
  have hk : w'.heap[p]? = w.heap[p]? := hs.block p hp (by unfold Tb; omega)
  exact ⟨p, o, e, by have := hs.size; omega, fun k x hx => (World.cell?_of_block (a := ⟨p, o + k, none⟩) hk).trans (hc k x hx)⟩

theorem Rls.saveMap {w w' : World} {b n : Nat} {f : Int → Option Value} {A : Option Addr} {rs : List Ru} (h : Rls w w.heap.size A rs) (hm : MapI w b n f) (hs : Save (Tb b w.heap.size) w w') : Rls w' w'.heap.size A rs := by
  intro hn
  obtain ⟨p, o, e, hp, hc⟩ := h hn
  have hb : p ≠ b := fun e2 => by
    obtain ⟨D, ⟨es, ck, hm1, _⟩, _⟩ := hm
    subst e2
    have h0 := (hc 0 rs[0] (List.getElem?_eq_getElem hn)).1
    simp [World.cell?, hm1] at h0
  have hk : w'.heap[p]? = w.heap[p]? := hs.block p hp (by unfold Tb; omega)
  refine ⟨p, o, e, by have := hs.size; omega, fun k u hu => ?_⟩
  obtain ⟨h1, h2, h3⟩ := hc k u hu
  exact ⟨(World.cell?_of_block (a := ⟨p, o + k * 2, none⟩) hk).trans h1, (World.cell?_of_block (a := ⟨p, o + k * 2 + 1, none⟩) hk).trans h2, h3.saveMap hm hs⟩

/-- The value of a rule. -/
def ruV (u : Ru) : Value := .agg #[.int .i64 u.l, .slice u.a u.r.length u.c]
/-- The rules that are still marked, by their numbers. -/
def openF (rs : List Ru) (rem : Int → Bool) : Int → Option Value := fun x => if rem x then (rs[x.toNat]?).map ruV else none
/-- The first k. -/
def firstB (k : Nat) : Int → Bool := fun x => decide (0 ≤ x ∧ x < (k : Int))
theorem openF_zero (rs : List Ru) : ∀ x, (fun _ : Int => (none : Option Value)) x = openF rs (firstB 0) x := fun x => by
  unfold openF firstB
  rw [if_neg]
  simp
theorem openF_put {rs : List Ru} {k : Nat} (hk : k < rs.length) : ∀ x, putK (openF rs (firstB k)) (k : Int) (.agg #[.int .i64 rs[k].l, .slice rs[k].a rs[k].r.length rs[k].c]) x = openF rs (firstB (k + 1)) x := fun x => by
  unfold putK openF firstB
  by_cases e : x = (k : Int)
  · subst e
    have e1 : decide (0 ≤ (k : Int) ∧ (k : Int) < ((k + 1 : Nat) : Int)) = true := decide_eq_true (by omega)
    rw [if_pos rfl, e1, if_pos rfl, Int.toNat_natCast, List.getElem?_eq_getElem hk]
    rfl
  · rw [if_neg e]
    have e1 : decide (0 ≤ x ∧ x < ((k + 1 : Nat) : Int)) = decide (0 ≤ x ∧ x < (k : Int)) := by
      congr 1
      exact propext (by omega)
    rw [e1]
theorem openF_del {rs : List Ru} {rem : Int → Bool} {y : Int} : ∀ x, delK (openF rs rem) y x = openF rs (strike rem y) x := fun x => by
  unfold delK openF
  by_cases e : x = y
  · subst e
    rw [if_pos rfl, strike_same]
    rfl
  · rw [if_neg e, strike_other e]
theorem openF_some {rs : List Ru} {rem : Int → Bool} {x : Int} {v : Value} (h : openF rs rem x = some v) : rem x = true ∧ ∃ u, rs[x.toNat]? = some u ∧ v = .agg #[.int .i64 u.l, .slice u.a u.r.length u.c] := by
  unfold openF at h
  split at h
  · rename_i hr
    cases hu : rs[x.toNat]? with
    | none => rw [hu] at h; cases h
    | some u =>
      rw [hu] at h
      exact ⟨hr, u, rfl, (Option.some.inj h).symm⟩
  · cases h
theorem openF_isSome {rs : List Ru} {rem : Int → Bool} (hr : ∀ x, rem x = true → 0 ≤ x ∧ x < (rs.length : Int)) (x : Int) : (openF rs rem x).isSome = rem x := by
  unfold openF
  cases h : rem x
  · rfl
  · have := hr x h
    rw [if_pos rfl, List.getElem?_eq_getElem (by omega)]
    rfl

/-- What a call of 'use' does, in every world in which E holds. -/
def UseOK (W : Way) (ss : List (Int × List Int)) (E : World → Prop) (b : Nat) (fid : Nat) (caps : Array Value) : Prop :=
  ∀ (v : World) (S : Int → Bool) (u : Ru), E v → SetM v b S → Ints v v.heap.size u.a u.r → u.abs ∈ ss →
    Calls Tryd.prog fid (#[.map (some b), .agg #[.int .i64 u.l, .slice u.a u.r.length u.c]] ++ caps) v fun e v' => e = .returned (.bool (W.fires S u.abs)) ∧ SetM v' b (useW W S u.abs) ∧ Save (· = b) v v'

/-- What holds all the while. -/
structure Closing (W : Way) (S0 : Int → Bool) (rs : List Ru) (rem S : Int → Bool) : Prop where
  fit : ∀ x, rem x = true → 0 ≤ x ∧ x < (rs.length : Int)
  sound : ∀ x, S x = true → Least W S0 (rs.map Ru.abs) x
  start : ∀ x, S0 x = true → S x = true
  used : ∀ (k : Nat) (u : Ru), rs[k]? = some u → rem (k : Int) = false → ∀ y ∈ W.adds u.abs, S y = true

theorem Closing.begin (W : Way) (S0 : Int → Bool) (rs : List Ru) : Closing W S0 rs (firstB rs.length) S0 :=
  ⟨fun x h => of_decide_eq_true h, fun _ h => Least.start h, fun _ h => h, fun k u hu h => by
    have := (List.getElem?_eq_some_iff.1 hu).1
    have := of_decide_eq_false h
    omega⟩

theorem Closing.step {W : Way} {S0 : Int → Bool} {rs : List Ru} {rem S : Int → Bool} (h : Closing W S0 rs rem S) {x : Int} {u : Ru} (hu : rs[x.toNat]? = some u) (hf : W.fires S u.abs = true) :
    Closing W S0 rs (strike rem x) (useW W S u.abs) := by
  refine ⟨fun y hy => h.fit y (strike_le hy), fun y hy => ?_, fun y hy => useW_le (h.start y hy), fun k v hv hk y hy => ?_⟩
  · rcases useW_inv hy with hy | ⟨h1, h2⟩
    · exact h.sound y hy
    · exact Least.step h.sound (List.mem_map.2 ⟨u, List.mem_of_getElem? hu, rfl⟩) h1 h2
  · by_cases e : (k : Int) = x
    · have e2 : x.toNat = k := by omega
      rw [e2, hv] at hu
      cases hu
      exact useW_add hf hy
    · rw [strike_other e] at hk
      exact useW_le (h.used k v hv hk y hy)

theorem Closing.done {W : Way} {S0 : Int → Bool} {rs : List Ru} {rem S : Int → Bool} (h : Closing W S0 rs rem S) (hn : ∀ (k : Nat) (u : Ru), rs[k]? = some u → rem (k : Int) = true → W.fires S u.abs = false) : IsLeast W S0 (rs.map Ru.abs) S := by
  refine isLeast_of h.sound h.start fun r hr hf y hy => ?_
  obtain ⟨u, hu, rfl⟩ := List.mem_map.1 hr
  obtain ⟨k, hk⟩ := List.mem_iff_getElem?.1 hu
  cases hrem : rem (k : Int)
  · exact h.used k u hk hrem y hy
  · rw [hn k u hk hrem] at hf; cases hf

/-- What closeSet ends in. -/
def Closed (w : World) (W : Way) (S0 : Int → Bool) (ss : List (Int × List Int)) (b : Nat) (e : Ending) (w' : World) : Prop :=
  e = .returned (.map (some b)) ∧ ∃ S, SetM w' b S ∧ IsLeast W S0 ss S ∧ Save (· = b) w w'

end Go.Proofs.YtfbpcdmpkbjifaaDoor

/- The program's closeSet: its walk. -/

namespace Go.Proofs.YtfbpcdmpkbjifaaDoor
open Go.RowKit

theorem save_T {b B : Nat} {w w' : World} (h : Save (· = b) w w') : Save (Tb b B) w w' := h.wider fun _ e => .inl e

set_option maxRecDepth 20000 in
set_option maxHeartbeats 2000000 in
theorem closeSet_any (W : Way) (A : Option Addr) (c : Nat) (rs : List Ru) (b fid : Nat) (caps : Array Value) (S0 : Int → Bool) (E : World → Prop) (w : World) (hx : Rls w w.heap.size A rs) (h16 : rs.length ≤ 1048576) (hS : SetM w b S0) (hE : E w)
    (hk : ∀ v v', E v → Save (Tb b w.heap.size) v v' → E v') (hU : UseOK W (rs.map Ru.abs) E b fid caps) (hcf : ∀ (xs : Array Value) (v : World), Sem.run Tryd.prog (callFunc fid xs) v = .ok (.enter fid xs) v) :
    Calls Tryd.prog 159 #[.map (some b), .slice A rs.length c, .func (.func fid) #[] caps] w (Closed w W S0 (rs.map Ru.abs) b) := by
  have hmm := @run_makeMap Tryd.prog
  have hbl := hS.map.lt
  have HX := Lib.hid hx; clear hx
  have HS := Lib.hid hS; clear hS
  have HE := Lib.hid hE; clear hE
  have HEK := Lib.hid hk; clear hk
  have HU := Lib.hid hU; clear hU
  have HM0 := Lib.hid (((MapI.made w).same (openF_zero rs)))
  have HB0 : Hid (Below w.heap.size w (w.alloc (.map #[] 0))) := (Below.refl _ _).alloc (Nat.le_refl _) _
  go_enter Tryd.func159, Tryd.ntmps159
  go_wp2
  go_loopw [16] (fun i wr => ∃ (k : Nat), k ≤ rs.length ∧ i = .int .i64 k ∧ Hid (MapI wr w.heap.size k (openF rs (firstB k))) ∧ Hid (Below w.heap.size w wr)) (fun i _ => rs.length - (intOf i).toNat)
  case atStart => exact ⟨0, by omega, rfl, HM0.out, HB0.out⟩
  case round =>
    obtain ⟨k, hk, rfl, HM, HB⟩ := hrel
    by_cases hlt : k < rs.length
    · obtain ⟨p, o, rfl, hp, c1, c2, _⟩ := (HX.out.keep HB.out).at_ hlt
      have HM1 := Lib.hid (HM.out.keep ((Below.refl wr.heap.size wr).alloc (Nat.le_refl _) (.cells #[.int .i64 rs[k].l, .slice rs[k].a rs[k].r.length rs[k].c] 166)))
      have HP := Lib.hid (openF_put hlt)
      have hws : w.heap.size ≤ wr.heap.size := HB.out.size
      go_wp2_with (at_mapUpdate
                   refine wpList_store_map _ rfl _ _ _ _ rfl _ Tryd.underlying202 w.heap.size k _ (k : Int) _ rfl rfl rfl (by unfold F64; omega) (by unfold maxLen; omega) HM1.out ?_
                   intro w1 h1 h2 h3
                   have HM2 := Lib.hid h1
                   have HS2 := Lib.hid h2
                   clear h1 h2 h3)
      go_roundw
      case rel =>
        exact ⟨k + 1, by omega, by go_num, HM2.out.same HP.out, (HB.out.alloc HB.out.size _).trans (HS2.out.below (B := w.heap.size) (by simp; omega) fun i hi e => by omega)⟩
      case measure => simp [intOf]; omega
    · obtain rfl : k = rs.length := by omega
      obtain ⟨wA, hwA⟩ : ∃ x, x = wr := ⟨_, rfl⟩
      subst hwA
      clear HM0 HB0 hmm
      have HMA := Lib.hid (HM.out.mono h16)
      have HSA := Lib.hid (HS.out.keep HB.out)
      have HVA : Hid (Save (Tb b w.heap.size) w wA) := Save.of_below HB.out
      have HCA := Lib.hid (Closing.begin W S0 rs)
      go_wp2
      go_loopg [10] (2 * cntB (firstB rs.length) rs.length + 1) (fun g u wv => ∃ (used : Bool) (rem S : Int → Bool), u = .bool used ∧ g = 2 * cntB rem rs.length + (if used then 1 else 0) ∧ Hid (MapI wv w.heap.size 1048576 (openF rs rem)) ∧ Hid (SetM wv b S) ∧ Hid (Save (Tb b w.heap.size) w wv) ∧ Hid (Closing W S0 rs rem S) ∧ Hid (used = false → ∀ (k : Nat) (u : Ru), rs[k]? = some u → rem (k : Int) = true → W.fires S u.abs = false))
      case atStart => exact ⟨true, _, _, rfl, rfl, HMA.out, HSA.out, HVA.out, HCA.out, fun h => by cases h⟩
      case round =>
        obtain ⟨used, rem, S, rfl, hg, HM1, HS1, HV1, HC1, HN1⟩ := hrel
        clear HMA HSA HVA HCA HM
        cases used
        · have HL := Lib.hid (HC1.out.done (HN1.out rfl))
          have HV : Hid (Save (· = b) w wr) := ⟨HV1.out.os, HV1.out.tape, HV1.out.output, HV1.out.size, fun i hi h => HV1.out.block i hi fun e => by rcases e with e | e; exact h e; omega⟩
          go_wp2
          go_ret
          exact ⟨rfl, S, HS1.out, HL.out, HV.out⟩
        · rw [if_pos rfl] at hg
          obtain ⟨wO, hwO⟩ : ∃ x, x = wr := ⟨_, rfl⟩
          subst hwO
          have hqO : w.heap.size < wO.heap.size := HM1.out.lt
          have hbO : b < wO.heap.size := by omega
          go_wp2_with (at_range
                       refine wpList_range_map _ rfl _ _ rfl _ Tryd.underlying202 w.heap.size 1048576 _ rfl HM1.out ?_
                       intro w1 cnt h1 h2 h3 h4
                       have HR := Lib.hid h1
                       have HB1 := Lib.hid h3
                       clear h1 h2 h3 h4)
          try go_frame
          have HSr := Lib.hid (HS1.out.keep HB1.out)
          have HVr : Hid (Save (Tb b w.heap.size) w w1) := HV1.out.trans (Save.of_below HB1.out)
          have HLf : Hid (∀ x, (openF rs rem x).isSome = rem x) := openF_isSome HC1.out.fit
          go_loopg [10] cnt (fun g u wv => ∃ (used : Bool) (rem2 S2 left : Int → Bool), u = .bool used ∧ Hid (Rng wv w.heap.size wO.heap.size 1048576 (openF rs rem2) left g) ∧ Hid (SetM wv b S2) ∧ Hid (Save (Tb b w.heap.size) w wv) ∧ Hid (Closing W S0 rs rem2 S2) ∧ Hid (used = false → rem2 = rem ∧ ∀ (k : Nat) (u : Ru), rs[k]? = some u → rem2 (k : Int) = true → left (k : Int) = false → W.fires S2 u.abs = false) ∧ Hid (used = true → cntB rem2 rs.length < cntB rem rs.length))
          case atStart => exact ⟨false, rem, S, _, rfl, HR.out, HSr.out, HVr.out, HC1.out, fun _ => ⟨rfl, fun k u _ h1 h2 => by rw [HLf.out, h1] at h2; cases h2⟩, fun h => by cases h⟩
          case round =>
            obtain ⟨used, rem2, S2, left, rfl, HR2, HS2, HV2, HC2, HN2, HD2⟩ := hrel
            clear HR HB1 HSr HVr HLf
            go_wp2_with (at_next
                         refine wpList_next_rng _ rfl _ rfl w.heap.size wO.heap.size 1048576 _ _ _ rfl HR2.out ?_ ?_)
            · intro _ hl0
              have HL0 := Lib.hid hl0; clear hl0
              go_wp2
              go_roundg (2 * cntB rem2 rs.length + (if used then 1 else 0))
              case measure =>
                cases used
                · have := (HN2.out rfl).1
                  rw [this]
                  simp
                  omega
                · have := HD2.out rfl
                  simp
                  omega
              case rel => exact ⟨used, rem2, S2, rfl, rfl, HR2.out.map, HS2.out, HV2.out, HC2.out, fun h k u hu hr => (HN2.out h).2 k u hu hr (HL0.out _)⟩
            · intro x v w2 cnt2 hx hl hv hR hlt hSv hsz hen
              obtain ⟨hrem, u, hu, rfl⟩ := openF_some hv
              have hxr := HC2.out.fit x hrem
              have HV3 : Hid (Save (Tb b w.heap.size) w w2) := HV2.out.trans (hSv.wider fun i e => .inr (by omega))
              have HS3 := Lib.hid (HS2.out.save hSv (fun e : b = wO.heap.size => by omega))
              have HI3 : Hid (Ints w2 w2.heap.size u.a u.r) := by
                have hr3 := HX.out.saveMap HS.out.map HV3.out
                have hul := (List.getElem?_eq_some_iff.1 hu).1
                obtain ⟨_, _, _, _, _, _, h3⟩ := hr3.at_ hul
                have e2 : rs[x.toNat] = u := Option.some.inj ((List.getElem?_eq_getElem hul).symm.trans hu)
                rw [e2] at h3
                exact h3
              have HR3 := Lib.hid hR; clear hR hSv
              have HB3 : Hid (Below w2.heap.size w2 (w2.alloc (.cells #[.int .i64 u.l, .slice u.a u.r.length u.c] 166))) := (Below.refl _ _).alloc (Nat.le_refl _) _
              have HLX := Lib.hid hl; clear hl hv
              have HXR := Lib.hid hxr; clear hxr
              have HU0 := Lib.hid hu; clear hu
              have HRM := Lib.hid hrem; clear hrem
              have HLT := Lib.hid hlt; clear hlt
              clear HS2 HV2 HR2 hsz
              have HE3 : Hid (E (w2.alloc (.cells #[.int .i64 u.l, .slice u.a u.r.length u.c] 166))) := HEK.out _ _ HE.out (HV3.out.trans (Save.of_below HB3.out))
              have HUS := Lib.hid (HU.out _ S2 u HE3.out (HS3.out.keep HB3.out) ((HI3.out.keep HB3.out).more HB3.out.size) (List.mem_map.2 ⟨u, List.mem_of_getElem? HU0.out, rfl⟩))
              cases hf : W.fires S2 u.abs
              · rw [hf, useW_no hf] at HUS
                have HF := Lib.hid hf; clear hf
                go_wp2_with fail
                refine HUS.out.mono ?_
                rintro e w4 ⟨rfl, hS4, hV4⟩
                have HS4 := Lib.hid hS4; clear hS4
                have HV4 : Hid (Save (Tb b w.heap.size) w w4) := (HV3.out.trans (Save.of_below HB3.out)).trans (save_T hV4)
                have HR4 : Hid (Rng w4 w.heap.size wO.heap.size 1048576 (openF rs rem2) (strike left x) cnt2) := (HR3.out.keep HB3.out).save hV4 (fun e : w.heap.size = b => by omega) (fun e : wO.heap.size = b => by omega)
                clear hV4
                go_wp2
                go_roundg cnt2
                case measure => exact HLT.out
                case rel =>
                  refine ⟨used, rem2, S2, _, rfl, HR4.out, HS4.out, HV4.out, HC2.out, fun h => ⟨(HN2.out h).1, fun k v hv hr hl => ?_⟩, HD2.out⟩
                  by_cases e : (k : Int) = x
                  · have e2 : x.toNat = k := by omega
                    have e3 := HU0.out
                    rw [e2, hv] at e3
                    cases e3
                    exact HF.out
                  · rw [strike_other e] at hl
                    exact (HN2.out h).2 k v hv hr hl
              · rw [hf] at HUS
                have HC3 := Lib.hid (HC2.out.step HU0.out hf); clear hf
                have hxx : x = ((x.toNat : Nat) : Int) := by have := HXR.out.1; omega
                have HCN : Hid (cntB (strike rem2 x) rs.length < cntB rem2 rs.length) := by
                  show _ < _
                  rw [hxx]
                  exact cntB_strike (by have := HXR.out; omega) (by rw [← hxx]; exact HRM.out)
                clear hxx
                go_wp2_with fail
                refine HUS.out.mono ?_
                rintro e w4 ⟨rfl, hS4, hV4⟩
                have HR4 : Hid (Rng w4 w.heap.size wO.heap.size 1048576 (openF rs rem2) (strike left x) cnt2) := (HR3.out.keep HB3.out).save hV4 (fun e : w.heap.size = b => by omega) (fun e : wO.heap.size = b => by omega)
                have HS4 := Lib.hid hS4; clear hS4
                have HV4 : Hid (Save (Tb b w.heap.size) w w4) := (HV3.out.trans (Save.of_below HB3.out)).trans (save_T hV4)
                clear hV4
                go_wp2_with (at_delete
                             refine wpList_delete_rng _ rfl _ _ _ rfl _ Tryd.underlying202 w.heap.size wO.heap.size 1048576 _ _ _ x rfl rfl hx HR4.out ?_
                             intro w5 cnt5 h1 h2 h3 h4
                             have HR5 := Lib.hid h1
                             have HL5 := Lib.hid h2
                             have HV5 := Lib.hid h3
                             clear h1 h2 h3 h4)
                go_roundg cnt5
                case measure => have := HL5.out; have := HLT.out; omega
                case rel =>
                  have HV6 : Save (Tb b w.heap.size) w w5 := HV4.out.trans (HV5.out.wider fun i e => .inr (by omega))
                  have HS6 : SetM w5 b (useW W S2 u.abs) := HS4.out.save HV5.out (fun e : b = w.heap.size => by omega)
                  have HR6 : Rng w5 w.heap.size wO.heap.size 1048576 (openF rs (strike rem2 x)) (strike left x) cnt5 := by
                    have h := HR5.out
                    rw [strike_twice, funext (openF_del (rs := rs) (rem := rem2) (y := x))] at h
                    exact h
                  refine ⟨true, strike rem2 x, _, _, rfl, HR6, HS6, HV6, HC3.out, fun h => (by cases h), fun _ => ?_⟩
                  have h1 := HCN.out
                  cases used
                  · rw [(HN2.out rfl).1] at h1 ⊢
                    exact h1
                  · have h2 := HD2.out rfl
                    omega

end Go.Proofs.YtfbpcdmpkbjifaaDoor

/- The program's closeLefts, nullableBy, productiveBy, growingBy, reachedFrom, reachedBy. -/

namespace Go.Proofs.YtfbpcdmpkbjifaaDoor
open Go.RowKit

/-- What a call of 'fits' tells, in every world in which E holds. -/
def FitsOK (W : Way) (ss : List (Int × List Int)) (E : World → Prop) (b : Nat) (fid : Nat) (caps : Array Value) : Prop :=
  ∀ (v : World) (S : Int → Bool) (u : Ru), E v → SetM v b S → Ints v v.heap.size u.a u.r → u.abs ∈ ss →
    Calls Tryd.prog fid (#[.map (some b), .slice u.a u.r.length u.c] ++ caps) v fun e v' => e = .returned (.bool (W.fires S u.abs)) ∧ Below v.heap.size v v'

/-- A set was made. -/
def GaveSet (w : World) (P : (Int → Bool) → Prop) (e : Ending) (w' : World) : Prop :=
  ∃ b S, e = .returned (.map (some b)) ∧ w.heap.size ≤ b ∧ SetM w' b S ∧ P S ∧ Below w.heap.size w w'

theorem useW_left {W : Way} (hW : ∀ r, W.adds r = [r.1]) {S : Int → Bool} {u : Ru} (h : W.fires S u.abs = true) : useW W S u.abs = addS S u.l := by
  funext x
  unfold useW addS
  rw [h, hW]
  show (S x || (true && [u.l].contains x)) = _
  by_cases e : x = u.l
  · simp [e]
  · simp [e]

set_option maxRecDepth 20000 in
set_option maxHeartbeats 1000000 in
theorem fitsUse_any (W : Way) (hW : ∀ r, W.adds r = [r.1]) (ss : List (Int × List Int)) (hA : AddsFit W ss) (E : World → Prop) (b B fid : Nat) (caps : Array Value) (hcf : ∀ (xs : Array Value) (v : World), Sem.run Tryd.prog (callFunc fid xs) v = .ok (.enter fid xs) v)
    (hF : FitsOK W ss E b fid caps) (hk : ∀ v v', E v → Below v.heap.size v v' → E v') :
    UseOK W ss (fun v => E v ∧ v.cell? ⟨B, 0, none⟩ = some (.func (.func fid) #[] caps)) b 160 #[.pointer (some ⟨B, 0, none⟩)] := by
  intro v S u hE hS hI hm
  obtain ⟨hE1, hc⟩ := hE
  have hBl : B < v.heap.size := by
    by_cases hg : B < v.heap.size
    · exact hg
    · simp only [World.cell?] at hc
      rw [Array.getElem?_eq_none (by omega)] at hc
      cases hc
  have hul : 0 ≤ u.l ∧ u.l < 40 := hA _ hm _ (by rw [hW]; exact List.mem_singleton.2 rfl)
  have HB0 : Hid (Below v.heap.size v (v.alloc (.cells #[.int .i64 u.l, .slice u.a u.r.length u.c] 166))) := (Below.refl _ _).alloc (Nat.le_refl _) _
  have BX0 : Hid (Box2 (v.alloc (.cells #[.int .i64 u.l, .slice u.a u.r.length u.c] 166)) v.heap.size (.int .i64 u.l) (.slice u.a u.r.length u.c)) := ⟨by simp, by simp [go_sem], by simp [go_sem]⟩
  have hc1 : (v.alloc (.cells #[.int .i64 u.l, .slice u.a u.r.length u.c] 166)).cell? ⟨B, 0, none⟩ = some (.func (.func fid) #[] caps) := (HB0.out.cell (p := ⟨B, 0, none⟩) hBl).trans hc
  have HC := Lib.hid (hF _ S u (hk _ _ hE1 HB0.out) (hS.keep HB0.out) ((hI.keep HB0.out).more HB0.out.size) hm)
  have HS := Lib.hid hS; clear hS hF hk hE1 hI hc
  cases hf : W.fires S u.abs
  · rw [hf] at HC
    rw [useW_no hf]
    clear hf
    go_enter Tryd.func160, Tryd.ntmps160
    go_wp2_with fail
    refine HC.out.mono ?_
    rintro e w1 ⟨rfl, hB1⟩
    have HB1 := Lib.hid (HB0.out.trans (hB1.mono HB0.out.size)); clear hB1 hc1
    go_wp2
    go_ret
    exact ⟨rfl, HS.out.keep HB1.out, Save.of_below HB1.out⟩
  · rw [hf] at HC
    rw [useW_left hW hf]
    clear hf
    go_enter Tryd.func160, Tryd.ntmps160
    go_wp2_with fail
    refine HC.out.mono ?_
    rintro e w1 ⟨rfl, hB1⟩
    obtain ⟨_, b0, b1⟩ := BX0.out.keep hB1 (by simp)
    have HB1 := Lib.hid (HB0.out.trans (hB1.mono HB0.out.size)); clear hB1 hc1
    have HS1 := Lib.hid (HS.out.keep HB1.out)
    go_wp2_with (at_mapUpdate
                 refine wpList_store_set _ rfl _ _ _ rfl b S u.l rfl rfl rfl hul HS1.out ?_
                 intro w2 h1 h2 h3
                 have HS2 := Lib.hid h1
                 have HV2 := Lib.hid h2
                 clear h1 h2 h3)
    go_ret
    exact ⟨rfl, HS2.out, (Save.of_below HB1.out).trans HV2.out⟩

set_option maxRecDepth 20000 in
set_option maxHeartbeats 1000000 in
theorem closeLefts_any (W : Way) (hW : ∀ r, W.adds r = [r.1]) (A : Option Addr) (c : Nat) (rs : List Ru) (hA : AddsFit W (rs.map Ru.abs)) (fid : Nat) (caps : Array Value) (E : World → Prop) (w : World) (hx : Rls w w.heap.size A rs) (h16 : rs.length ≤ 1048576)
    (hcf : ∀ (xs : Array Value) (v : World), Sem.run Tryd.prog (callFunc fid xs) v = .ok (.enter fid xs) v) (hE : E w) (hk : ∀ v v', E v → Below w.heap.size v v' → E v') (hF : ∀ b, w.heap.size ≤ b → FitsOK W (rs.map Ru.abs) (fun v => E v ∧ w.heap.size + 1 ≤ v.heap.size) b fid caps) :
    Calls Tryd.prog 137 #[.slice A rs.length c, .func (.func fid) #[] caps] w (GaveSet w (IsLeast W noS (rs.map Ru.abs))) := by
  have hmm := @run_makeMap Tryd.prog
  have hmf : ∀ (fn : Fn) (first cap : Array Value) (w : World), (Instr.makeFunc fn first cap).run Tryd.prog w = .ok (.func fn first cap) w := fun _ _ _ _ => rfl
  have hcu : ∀ (xs : Array Value) (v : World), Sem.run Tryd.prog (callFunc 160 xs) v = .ok (.enter 160 xs) v := fun xs v => rfl
  have HB1 : Hid (Below w.heap.size w (w.alloc (.cells #[.func (.func fid) #[] caps] 163))) := (Below.refl _ _).alloc (Nat.le_refl _) _
  have hsz : (w.alloc (.cells #[.func (.func fid) #[] caps] 163)).heap.size = w.heap.size + 1 := by simp
  have hcl : (w.alloc (.cells #[.func (.func fid) #[] caps] 163)).cell? ⟨w.heap.size, 0, none⟩ = some (.func (.func fid) #[] caps) := by simp [go_sem]
  have HS2 := Lib.hid (SetM.made (w.alloc (.cells #[.func (.func fid) #[] caps] 163)))
  have HB2 : Hid (Below w.heap.size w ((w.alloc (.cells #[.func (.func fid) #[] caps] 163)).alloc (.map #[] 0))) := HB1.out.alloc HB1.out.size _
  have HX := Lib.hid ((hx.keep HB2.out).more HB2.out.size); clear hx
  have hc2 : ((w.alloc (.cells #[.func (.func fid) #[] caps] 163)).alloc (.map #[] 0)).cell? ⟨w.heap.size, 0, none⟩ = some (.func (.func fid) #[] caps) := by simp [go_sem]
  have HU := Lib.hid (fitsUse_any W hW (rs.map Ru.abs) hA (fun v => E v ∧ w.heap.size + 1 ≤ v.heap.size) (w.heap.size + 1) w.heap.size fid caps hcf (hF _ (by omega)) (fun v v' h hb => ⟨hk v v' h.1 (hb.mono (by have := h.2; omega)), by have := hb.size; have := h.2; omega⟩))
  have HEK := Lib.hid hk
  have HE2 : Hid ((E ((w.alloc (.cells #[.func (.func fid) #[] caps] 163)).alloc (.map #[] 0)) ∧ w.heap.size + 1 ≤ ((w.alloc (.cells #[.func (.func fid) #[] caps] 163)).alloc (.map #[] 0)).heap.size) ∧ ((w.alloc (.cells #[.func (.func fid) #[] caps] 163)).alloc (.map #[] 0)).cell? ⟨w.heap.size, 0, none⟩ = some (.func (.func fid) #[] caps)) := ⟨⟨hk _ _ hE HB2.out, by simp⟩, hc2⟩
  clear hcl hc2 hE hk hF
  rw [hsz] at HS2
  go_enter Tryd.func137, Tryd.ntmps137
  go_wp2_with fail
  refine (closeSet_any W _ _ rs _ _ _ noS (fun v => (E v ∧ w.heap.size + 1 ≤ v.heap.size) ∧ v.cell? ⟨w.heap.size, 0, none⟩ = some (.func (.func fid) #[] caps)) _ HX.out h16 HS2.out HE2.out ?_ HU.out hcu).mono ?_
  · intro v v' h hs
    have hb : Below (w.heap.size + 1) v v' := ⟨hs.os, hs.tape, hs.output, hs.size, fun i hi => hs.block i (by have := h.1.2; omega) (by unfold Tb; simp; omega)⟩
    exact ⟨⟨HEK.out v v' h.1.1 (hb.mono (by omega)), by have := hs.size; have := h.1.2; omega⟩, (hb.cell (p := ⟨w.heap.size, 0, none⟩) (Nat.lt_succ_self _)).trans h.2⟩
  rintro e w3 ⟨rfl, S, hS, hL, hV⟩
  have HB3 : Hid (Below w.heap.size w w3) := HB2.out.trans (hV.below HB2.out.size fun i hi e => by omega)
  have HS3 := Lib.hid hS; clear hS
  clear hV
  go_wp2
  go_ret
  exact ⟨w.heap.size + 1, S, rfl, by omega, HS3.out, hL, HB3.out⟩

end Go.Proofs.YtfbpcdmpkbjifaaDoor

/- The program's nullableBy, productiveBy, growingBy, reachedFrom, reachedBy. -/

namespace Go.Proofs.YtfbpcdmpkbjifaaDoor
open Go.RowKit

theorem SetM.below {w w' : World} {b B : Nat} {S : Int → Bool} (h : SetM w b S) (hb : Below B w w') (hB : b < B) : SetM w' b S :=
  h.save (T := fun i => B ≤ i) ⟨hb.os, hb.tape, hb.output, hb.size, fun i _ hs => hb.block i (by omega)⟩ (by omega)

theorem good_fit {n t : Int} {ss : List (Int × List Int)} (hg : goodG n t ss = true) {u : Ru} (hu : u.abs ∈ ss) : FitI u.r := fun x hx => by
  have h1 := goodG_is hg
  have h2 := (goodG_mem hg hu).2.2 x hx
  unfold F64
  omega
theorem good_len {n t : Int} {ss : List (Int × List Int)} (hg : goodG n t ss = true) {u : Ru} (hu : u.abs ∈ ss) : u.r.length ≤ 4 := (goodG_mem hg hu).2.1
theorem good_16 {n t : Int} {rs : List Ru} (hg : goodG n t (rs.map Ru.abs) = true) : rs.length ≤ 1048576 := by have h := (goodG_is hg).2.2.1; simp at h; omega

set_option maxRecDepth 20000 in
theorem enter_null (xs : Array Value) (v : World) : Sem.run Tryd.prog (callFunc 138 xs) v = .ok (.enter 138 xs) v := rfl
set_option maxRecDepth 20000 in
set_option maxHeartbeats 1000000 in
theorem nullableBy_any (n t : Int) (A : Option Addr) (c : Nat) (rs : List Ru) (w : World) (hx : Rls w w.heap.size A rs) (hg : goodG n t (rs.map Ru.abs) = true) :
    Calls Tryd.prog 102 #[.slice A rs.length c] w (GaveSet w (IsLeast wayNull noS (rs.map Ru.abs))) := by
  have HC := Lib.hid (closeLefts_any wayNull (fun _ => rfl) A c rs (fit_lefts hg fun _ => rfl) 138 #[] (fun _ => True) w hx (good_16 hg) enter_null trivial (fun _ _ _ _ => trivial) fun b _ v S u _ hS hI hm => by
    have h := allNull_any b S u.a u.r u.c v hS hI (good_fit hg hm) (good_len hg hm)
    exact h.mono fun e v' ⟨h1, h2⟩ => ⟨h1, by subst h2; exact Below.refl _ _⟩)
  clear hx hg
  go_enter Tryd.func102, Tryd.ntmps102
  go_wp2_with fail
  refine HC.out.mono ?_
  rintro e w1 ⟨b, S, rfl, h1, h2, h3, h4⟩
  have H1 := Lib.hid h1; have H2 := Lib.hid h2; have H3 := Lib.hid h3; have H4 := Lib.hid h4
  clear h1 h2 h3 h4
  go_wp2
  go_ret
  exact ⟨b, S, rfl, H1.out, H2.out, H3.out, H4.out⟩

/-- The first k symbols of a right side are put into a set, the tokens left out. -/
def putR (S : Int → Bool) (xs : List Int) : Int → Bool := fun x => S x || (decide (0 ≤ x) && xs.contains x)
theorem putR_nil (S : Int → Bool) : putR S [] = S := by
  funext x
  simp [putR]
theorem contains_take {xs : List Int} {k : Nat} (hk : k < xs.length) (x : Int) : (xs.take (k + 1)).contains x = ((xs.take k).contains x || decide (x = xs[k])) := by
  rw [List.take_succ_eq_append_getElem hk]
  generalize xs.take k = l
  generalize xs[k] = y
  rw [Bool.eq_iff_iff]
  simp
theorem putR_tok {S : Int → Bool} {xs : List Int} {k : Nat} (hk : k < xs.length) (h : xs[k] < 0) : putR S (xs.take (k + 1)) = putR S (xs.take k) := by
  funext x
  unfold putR
  rw [contains_take hk]
  by_cases e : x = xs[k]
  · have : decide (0 ≤ x) = false := decide_eq_false (by omega)
    rw [this]
    rfl
  · rw [decide_eq_false e, Bool.or_false]
theorem putR_non {S : Int → Bool} {xs : List Int} {k : Nat} (hk : k < xs.length) (h : ¬ xs[k] < 0) : putR S (xs.take (k + 1)) = addS (putR S (xs.take k)) xs[k] := by
  funext x
  unfold putR addS
  rw [contains_take hk]
  by_cases e : x = xs[k]
  · have h0 : decide (0 ≤ x) = true := decide_eq_true (by omega)
    rw [h0, decide_eq_true e]
    simp
  · rw [decide_eq_false e, Bool.or_false, Bool.false_or]
theorem putR_all {S : Int → Bool} {u : Ru} (h : S u.l = true) : putR S u.r = useW wayReach S u.abs := by
  funext x
  unfold putR useW
  have h1 : wayReach.fires S u.abs = true := h
  have h2 : (wayReach.adds u.abs).contains x = (decide (0 ≤ x) && u.r.contains x) := by
    show (u.r.filter fun x => decide (0 ≤ x)).contains x = _
    rw [Bool.eq_iff_iff]
    simp [and_comm]
  rw [h1, h2]
  rfl

end Go.Proofs.YtfbpcdmpkbjifaaDoor

/- The reference's l4Table. -/

namespace Go.Proofs.YtfbpcdmpkbjifaaDoor
open Go.RowKit

theorem make_boolsM (n : Nat) (hn : n ≤ 121) (w : World) :
    (Instr.makeSlice 205 (.int .i64 (n : Int)) (.int .i64 (n : Int))).run Tryd.prog w = .ok (.slice (some ⟨w.heap.size, 0, none⟩) n n) (w.alloc (.cells (bools n fun _ => false) 4)) := by
  obtain ⟨i, hi, hz, hs, hb⟩ := info_of Tryd.infoBool
  have h := run_make (P := Tryd.prog) w 205 4 i _ Tryd.underlying205 hi hz .i64 .i64 n n (by omega) (by omega) (by rw [hb]; omega) (by omega)
  rw [hs] at h
  rw [← bools_no]
  simpa [Value.cells] using h
def noB : Nat → Nat → Bool := fun _ _ => false
theorem TabR.made (w : World) (N M : Nat) : TabR (w.alloc (.cells (zS N) 205)) w.heap.size N M 0 noB :=
  ⟨⟨zS N, Row.new w _ _, zS_size _, fun a h => absurd h (by omega)⟩, fun a h => absurd h (by omega)⟩
theorem TabR.grow {w : World} {S N M k : Nat} (h : TabR w S N M k noB) (hs : w.heap.size = S + 1 + k) (hk : k < N) :
    TabR ((w.setCell ⟨S, k, none⟩ (.slice (some ⟨w.heap.size, 0, none⟩) M M)).alloc (.cells (bools M fun _ => false) 4)) S N M (k + 1) noB := by
  obtain ⟨⟨cs, h1, h1s, h1'⟩, h3⟩ := h
  generalize hW : w.setCell ⟨S, k, none⟩ (.slice (some ⟨w.heap.size, 0, none⟩) M M) = W
  have hz : W.heap.size = w.heap.size := by subst hW; simp
  have hT : Row (W.alloc (.cells (bools M fun _ => false) 4)) w.heap.size 4 (bools M fun _ => false) := by
    have h := Row.new W 4 (bools M fun _ => false)
    rw [hz] at h
    exact h
  have k1 : Row W S 205 (cs.setIfInBounds k (.slice (some ⟨w.heap.size, 0, none⟩) M M)) := by subst hW; exact h1.set k _
  refine ⟨⟨_, k1.alloc _, by simp [h1s], fun a ha => ?_⟩, fun a ha => ?_⟩
  · rw [Array.getElem?_setIfInBounds]
    by_cases e : k = a
    · subst e
      rw [if_pos rfl, if_pos (by omega), hs]
    · rw [if_neg e]
      exact h1' a (by omega)
  · by_cases e : a = k
    · subst e
      rw [← hs]
      exact hT
    · have h4 := h3 a (by omega)
      refine Row.alloc ?_ _
      subst hW
      exact h4.far (by simp; omega) _

/-- What l4Table gives. -/
def GaveT (w : World) (N : Nat) (ws : List Int) (ss : List (Int × List Int)) (e : Ending) (w' : World) : Prop :=
  ∃ S T, e = .returned (.slice (some ⟨S, 0, none⟩) N N) ∧ TabR w' S N ((ws.length + 1) * (ws.length + 1)) N T ∧ (∀ x i j, DT ws.length T x i j ↔ Der ss ws x i j) ∧ Below w.heap.size w w'

set_option maxRecDepth 20000 in
set_option maxHeartbeats 4000000 in
theorem l4Table_any (N : Nat) (t : Int) (A : Option Addr) (c : Nat) (rs : List Ru) (Aw : Option Addr) (cw : Nat) (ws : List Int) (w : World) (hx : Rls w w.heap.size A rs) (hg : goodG (N : Int) t (rs.map Ru.abs) = true) (hcap : ∀ u ∈ rs, u.r.length ≤ u.c) (hw : ws.length ≤ 10) (hW : Ints w w.heap.size Aw ws) :
    Calls Tryd.prog 181 #[.agg #[.int .i64 (N : Int), .int .i64 t, .slice A rs.length c], .slice Aw ws.length cw] w (GaveT w N ws (rs.map Ru.abs)) := by
  have h16 := good_16 hg
  have hN : N ≤ 6 := by have := goodG_is hg; omega
  have HX := Lib.hid hx; clear hx
  have HG := Lib.hid hg; clear hg
  have HW := Lib.hid hW; clear hW
  have HCP := Lib.hid hcap; clear hcap
  have HB0 : Hid (Below w.heap.size w (w.alloc (.cells #[.int .i64 N, .int .i64 t, .slice A rs.length c] 147))) := by show Below _ _ _; go_grown
  have B00 : Hid (Box3 (w.alloc (.cells #[.int .i64 N, .int .i64 t, .slice A rs.length c] 147)) w.heap.size (.int .i64 N) (.int .i64 t) (.slice A rs.length c)) := ⟨by simp, by simp [go_sem], by simp [go_sem], by simp [go_sem]⟩
  obtain ⟨M, hM⟩ : ∃ M, M = (ws.length + 1) * (ws.length + 1) := ⟨_, rfl⟩
  have hM121 : M ≤ 121 := by rw [hM]; exact (Nat.mul_le_mul (by omega) (by omega) : (ws.length + 1) * (ws.length + 1) ≤ 11 * 11)
  have hmul : ((ws.length : Int) + 1) * ((ws.length : Int) + 1) = (M : Int) := by rw [hM]; simp
  have HCL : Hid (∀ i j, i ≤ ws.length → j ≤ ws.length → i * (ws.length + 1) + j < M) := fun i j hi hj => by rw [hM]; exact cell_lt hi hj
  have HM := Lib.hid hM; clear hM
  have hmr := make_rows N hN
  have hmb := make_boolsM M hM121
  have HT0 : Hid (TabR ((w.alloc (.cells #[.int .i64 N, .int .i64 t, .slice A rs.length c] 147)).alloc (.cells (zS N) 205)) (w.heap.size + 1) N M 0 noB) := by
    have h := TabR.made (w.alloc (.cells #[.int .i64 N, .int .i64 t, .slice A rs.length c] 147)) N M
    rw [World.size_alloc] at h
    exact h
  have HBT : Hid (Below w.heap.size w ((w.alloc (.cells #[.int .i64 N, .int .i64 t, .slice A rs.length c] 147)).alloc (.cells (zS N) 205))) := by show Below _ _ _; go_grown
  have BXT := Lib.hid (B00.out.keep (w' := (w.alloc (.cells #[.int .i64 N, .int .i64 t, .slice A rs.length c] 147)).alloc (.cells (zS N) 205)) ((Below.refl _ _).alloc (Nat.le_refl _) _) (by simp))
  have HZT : Hid (((w.alloc (.cells #[.int .i64 N, .int .i64 t, .slice A rs.length c] 147)).alloc (.cells (zS N) 205)).heap.size = w.heap.size + 1 + 1) := by show _ = _; simp
  go_enter Tryd.func181, Tryd.ntmps181
  go_wp2
  generalize (w.alloc (.cells #[.int .i64 N, .int .i64 t, .slice A rs.length c] 147)).alloc (.cells (zS N) 205) = X at *
  clear HB0 B00 hmr
  obtain ⟨S, hS⟩ : ∃ S, S = w.heap.size + 1 := ⟨_, rfl⟩
  rw [← hS] at HT0 HZT ⊢
  have HS := Lib.hid hS
  have hwS : w.heap.size < S := by omega
  clear hS
  go_loopw [21] (fun i wr => ∃ (k : Nat), k ≤ N ∧ i = .int .i64 k ∧ Hid (TabR wr S N M k noB) ∧ Hid (wr.heap.size = S + 1 + k) ∧ Hid (Below w.heap.size w wr) ∧ Hid (Box3 wr w.heap.size (.int .i64 N) (.int .i64 t) (.slice A rs.length c))) (fun i _ => N - (intOf i).toNat)
  case atStart => exact ⟨0, by omega, rfl, HT0.out, HZT.out, HBT.out, BXT.out⟩
  case round =>
    obtain ⟨k, hk, rfl, HT, HZ, HB, HU⟩ := hrel
    clear HT0 HBT BXT HZT
    by_cases hlt : k < N
    · have HN := Lib.hid (HT.out.grow HZ.out hlt)
      obtain ⟨⟨cs, d1, d2, _⟩, _⟩ := HT.out
      obtain ⟨x0, c1⟩ : ∃ x0, wr.cell? ⟨S, k, none⟩ = some x0 := ⟨_, (d1.cell k).trans (Array.getElem?_eq_getElem (by omega))⟩
      have f1 := d1.frozen k
      have hz2 : S < wr.heap.size := d1.lt
      have HUN : Hid (Box3 ((wr.setCell ⟨S, k, none⟩ (.slice (some ⟨wr.heap.size, 0, none⟩) M M)).alloc (.cells (bools M fun _ => false) 4)) w.heap.size (.int .i64 N) (.int .i64 t) (.slice A rs.length c)) := HU.out.keep (B := S) (((Below.refl _ _).setCell (by simp) _).alloc (by simp; omega) _) hwS
      clear d1 d2
      go_wp2
      go_roundw
      case rel => exact ⟨k + 1, by omega, by go_num, HN.out, by have h1 := HZ.out; show _ = _; simp; omega, (HB.out.setCell (by simp; omega) _).alloc (by have := HB.out.size; simp; omega) _, HUN.out⟩
      case measure => simp [intOf]; omega
    · obtain rfl : k = N := by omega
      clear hmb HZ
      obtain ⟨wO, hwO⟩ : ∃ x, x = wr := ⟨_, rfl⟩
      subst hwO
      have HK : Hid (TabR wO S k M k noB) := HT.out
      clear HT
      go_wp2
      go_loopg [8] (2 * (726 - cntT noB) + 1) (fun g m wr => ∃ (more : Bool) (T : Nat → Nat → Bool), m = .bool more ∧ g = 2 * (726 - cntT T) + (if more then 1 else 0) ∧ Hid (TabR wr S k M k T) ∧ Hid (OkT (rs.map Ru.abs) ws T) ∧ Hid (Below w.heap.size w wr) ∧ Hid (Box3 wr w.heap.size (.int .i64 k) (.int .i64 t) (.slice A rs.length c)) ∧ Hid (more = false → ∀ x i j, DT ws.length T x i j ↔ Der (rs.map Ru.abs) ws x i j))
      case atStart => exact ⟨true, noB, rfl, rfl, HK.out, okT_no _ _, HB.out, HU.out, fun h => by cases h⟩
      case round =>
        obtain ⟨more, T, rfl, hgk, HTm, HOm, HBm, HUm, HDm⟩ := hrel
        clear HK HB HU
        cases more
        · have HDD := Lib.hid (HDm.out rfl)
          rw [HM.out] at HTm
          go_wp2
          go_ret
          exact ⟨S, T, rfl, HTm.out, HDD.out, HBm.out⟩
        · rw [if_pos rfl] at hgk
          clear HDm
          obtain ⟨wM, hwM⟩ : ∃ x, x = wr := ⟨_, rfl⟩
          subst hwM
          obtain ⟨_, b0, b1, b2⟩ := HUm.out
          go_wp2
          clear b0 b1 b2
          go_loopw [8, 36] (fun m i wr => ∃ (j : Nat) (more : Bool) (T2 : Nat → Nat → Bool), j ≤ rs.length ∧ i = .int .i64 j ∧ m = .bool more ∧ Hid (TabR wr S k M k T2) ∧ Hid (PassT (rs.map Ru.abs) ws j 0 0 T T2 more) ∧ Hid (Below w.heap.size w wr) ∧ Hid (Box3 wr w.heap.size (.int .i64 k) (.int .i64 t) (.slice A rs.length c))) (fun _ i _ => rs.length - (intOf i).toNat)
          case atStart => exact ⟨0, false, T, by omega, rfl, rfl, HTm.out, PassT.start HOm.out, HBm.out, HUm.out⟩
          case round =>
            obtain ⟨j, more, T2, hj, rfl, rfl, HT2, HP2, HB2, HU2⟩ := hrel
            clear HTm HOm HBm HUm
            by_cases hlt2 : j < rs.length
            · obtain ⟨p, o, hA, hp, c1, c2, c3⟩ := (HX.out.keep HB2.out).at_ hlt2
              have hum : rs[j].abs ∈ rs.map Ru.abs := List.mem_map.2 ⟨_, List.getElem_mem hlt2, rfl⟩
              have h4 := good_len HG.out hum
              have HGM := Lib.hid (goodG_mem HG.out hum)
              obtain ⟨L, hL⟩ : ∃ L : Nat, rs[j].l = (L : Int) := ⟨_, Int.eq_ofNat_of_zero_le HGM.out.1.1 |>.choose_spec⟩
              have hLk : L < k := by have h : rs[j].l < k := HGM.out.1.2; omega
              have HJ : Hid ((rs.map Ru.abs)[j]? = some ((L : Int), rs[j].r)) := by show _ = _; rw [List.getElem?_map, List.getElem?_eq_getElem hlt2, ← hL]; rfl
              have HSY : Hid (∀ x ∈ rs[j].r, -10 ≤ x ∧ x < k) := fun x hx => by have h := HGM.out.2.2 x hx; have := goodG_is HG.out; omega
              have HCR := Lib.hid (HCP.out rs[j] (List.getElem_mem hlt2))
              rw [hL] at c1
              have HBR : Hid (Below wr.heap.size wr (wr.alloc (.cells #[.int .i64 L, .slice rs[j].a rs[j].r.length rs[j].c] 166))) := (Below.refl _ _).alloc (Nat.le_refl _) _
              have HBU : Hid (Box2 (wr.alloc (.cells #[.int .i64 L, .slice rs[j].a rs[j].r.length rs[j].c] 166)) wr.heap.size (.int .i64 L) (.slice rs[j].a rs[j].r.length rs[j].c)) := ⟨by simp, by simp [go_sem], by simp [go_sem]⟩
              have HTY := Lib.hid (HT2.out.keep HBR.out HT2.out.lt)
              have HBY : Hid (Below w.heap.size w (wr.alloc (.cells #[.int .i64 L, .slice rs[j].a rs[j].r.length rs[j].c] 166))) := HB2.out.trans (HBR.out.mono HB2.out.size)
              have HUY := Lib.hid (HU2.out.keep HBR.out HU2.out.1)
              have HI : Hid (∀ u, Below w.heap.size w u → Ints u u.heap.size rs[j].a rs[j].r) := fun u hu => by
                obtain ⟨_, _, _, _, _, _, h⟩ := (HX.out.keep hu).at_ hlt2
                exact h.more hu.size
              have hwl : S + 1 + k ≤ wr.heap.size := HT2.out.lt
              clear c3 hum hL HT2 HB2 HU2
              subst hA
              obtain ⟨wP, hwP⟩ : ∃ x, x = wr := ⟨_, rfl⟩
              subst hwP
              obtain ⟨_, r0, r1⟩ := HBU.out
              go_wp2
              generalize (wP.alloc (.cells #[.int .i64 L, .slice rs[j].a rs[j].r.length rs[j].c] 166)) = Y at *
              clear r0 r1 c1 c2
              obtain ⟨Q, hQ⟩ : ∃ x, x = wP.heap.size := ⟨_, rfl⟩
              rw [← hQ] at HBU hwl ⊢
              clear hQ HBR
              go_loopw [8, 11] (fun m n wr => ∃ (i : Nat) (more : Bool) (T2 : Nat → Nat → Bool), i ≤ ws.length + 1 ∧ n = .int .i64 i ∧ m = .bool more ∧ Hid (TabR wr S k M k T2) ∧ Hid (PassT (rs.map Ru.abs) ws j i 0 T T2 more) ∧ Hid (Below w.heap.size w wr) ∧ Hid (Box3 wr w.heap.size (.int .i64 k) (.int .i64 t) (.slice (some ⟨p, o, none⟩) rs.length c)) ∧ Hid (Box2 wr Q (.int .i64 L) (.slice rs[j].a rs[j].r.length rs[j].c))) (fun _ n _ => ws.length + 1 - (intOf n).toNat)
              case atStart => exact ⟨0, more, T2, by omega, rfl, rfl, HTY.out, HP2.out, HBY.out, HUY.out, HBU.out⟩
              case round =>
                obtain ⟨i, more, T2, hi, rfl, rfl, HT3, HP3, HB3, HU3, HR3⟩ := hrel
                clear HTY HP2 HBY HUY HBU
                by_cases hlt3 : i < ws.length + 1
                · have HPO := Lib.hid HP3.out.open_
                  have hi' : (i : Int) < (ws.length : Int) + 1 := by omega
                  obtain ⟨wI, hwI⟩ : ∃ x, x = wr := ⟨_, rfl⟩
                  subst hwI
                  go_wp2
                  go_loopw [8, 12] (fun m n wr => ∃ (e : Nat) (more : Bool) (T2 : Nat → Nat → Bool), e ≤ ws.length + 1 ∧ n = .int .i64 e ∧ m = .bool more ∧ Hid (TabR wr S k M k T2) ∧ Hid (PassT (rs.map Ru.abs) ws j i e T T2 more) ∧ Hid (Below w.heap.size w wr) ∧ Hid (Box3 wr w.heap.size (.int .i64 k) (.int .i64 t) (.slice (some ⟨p, o, none⟩) rs.length c)) ∧ Hid (Box2 wr Q (.int .i64 L) (.slice rs[j].a rs[j].r.length rs[j].c))) (fun _ n _ => ws.length + 1 - (intOf n).toNat)
                  case atStart => exact ⟨i, more, T2, by omega, rfl, rfl, HT3.out, HPO.out, HB3.out, HU3.out, HR3.out⟩
                  case round =>
                    obtain ⟨e, more, T2, he, rfl, rfl, HT4, HP4, HB4, HU4, HR4⟩ := hrel
                    clear HT3 HP3 HB3 HU3 HR3 HPO
                    by_cases hlt4 : e < ws.length + 1
                    · have he' : (e : Int) < (ws.length : Int) + 1 := by omega
                      have hql := HCL.out i e (by omega) (by omega)
                      have k1 := HT4.out.row hLk
                      obtain ⟨k2, k3⟩ := HT4.out.at_ hLk hql
                      obtain ⟨_, r0, r1⟩ := HR4.out
                      have hq : (i : Int) * ((ws.length : Int) + 1) + (e : Int) = ((i * (ws.length + 1) + e : Nat) : Int) := by simp
                      have hb0 : (i : Int) * ((ws.length : Int) + 1) ≤ 121 := by omega
                      have hb1 : 0 ≤ (i : Int) * ((ws.length : Int) + 1) := Int.mul_nonneg (by omega) (by omega)
                      have HSK : Hid (T2 L (i * (ws.length + 1) + e) = true ∨ ¬ SeqD (DT ws.length T2) ws rs[j].r i e → PassT (rs.map Ru.abs) ws j i (e + 1) T T2 more) := fun h => HP4.out.skip HJ.out (by omega) (by omega) h
                      have HPU : Hid (T2 L (i * (ws.length + 1) + e) = false → SeqD (DT ws.length T2) ws rs[j].r i e → PassT (rs.map Ru.abs) ws j i (e + 1) T (setB T2 L (i * (ws.length + 1) + e)) true) := fun h h' => HP4.out.put HJ.out (by omega) hw (by omega) (by omega) h h'
                      have HTU := Lib.hid (HT4.out.put (c := i * (ws.length + 1) + e) hLk)
                      have HTM : Hid (TabR wr S k ((ws.length + 1) * (ws.length + 1)) k T2) := by have h := HT4.out; rw [HM.out] at h; exact h
                      have HF := Lib.hid (l4Fits_any S k T2 Aw cw ws wr HTM.out ((HW.out.keep HB4.out).more HB4.out.size) hw HP4.out.1.inD e (by omega) rs[j].r rs[j].a rs[j].c i (HI.out _ HB4.out) HCR.out h4 HSY.out (by omega))
                      generalize hqq : i * (ws.length + 1) + e = q at *
                      clear hqq HTM
                      cases hc : T2 L q
                      · rw [hc] at k2
                        cases hs : bD (SeqD (DT ws.length T2) ws rs[j].r i e)
                        · have HN := Lib.hid (HSK.out (.inr fun h => by rw [bD_t h] at hs; cases hs))
                          have HSV := Lib.hid hs; clear hs hc
                          go_wp2_with fail
                          refine HF.out.mono ?_
                          rintro e' w1 ⟨rfl, rfl⟩
                          rw [HSV.out]
                          go_wp2
                          go_roundw
                          case rel => exact ⟨e + 1, more, T2, by omega, by go_num, rfl, HT4.out, HN.out, HB4.out, HU4.out, HR4.out⟩
                          case measure => simp [intOf]; omega
                        · have HN := Lib.hid (HPU.out hc (bD_iff.1 hs))
                          have HSV := Lib.hid hs; clear hs hc
                          have HBU : Hid (Below w.heap.size w (wr.setCell ⟨S + 1 + L, q, none⟩ (.bool true))) := HB4.out.setCell (by simp; omega) _
                          have HUU : Hid (Box3 (wr.setCell ⟨S + 1 + L, q, none⟩ (.bool true)) w.heap.size (.int .i64 k) (.int .i64 t) (.slice (some ⟨p, o, none⟩) rs.length c)) := HU4.out.keep (B := S) ((Below.refl _ _).setCell (by simp; omega) _) hwS
                          have HRU : Hid (Box2 (wr.setCell ⟨S + 1 + L, q, none⟩ (.bool true)) Q (.int .i64 L) (.slice rs[j].a rs[j].r.length rs[j].c)) := ⟨by rw [World.size_setCell]; exact HR4.out.1, (World.cell?_setCell_far _ _ _ _ (by simp; omega)).trans r0, (World.cell?_setCell_far _ _ _ _ (by simp; omega)).trans r1⟩
                          go_wp2_with fail
                          refine HF.out.mono ?_
                          rintro e' w1 ⟨rfl, rfl⟩
                          rw [HSV.out]
                          go_wp2
                          go_roundw
                          case rel => exact ⟨e + 1, true, _, by omega, by go_num, rfl, HTU.out, HN.out, HBU.out, HUU.out, HRU.out⟩
                          case measure => simp [intOf]; omega
                      · rw [hc] at k2
                        have HN := Lib.hid (HSK.out (.inl hc))
                        clear hc
                        go_wp2
                        go_roundw
                        case rel => exact ⟨e + 1, more, T2, by omega, by go_num, rfl, HT4.out, HN.out, HB4.out, HU4.out, HR4.out⟩
                        case measure => simp [intOf]; omega
                    · obtain rfl : e = ws.length + 1 := by omega
                      have HN := Lib.hid HP4.out.line
                      go_wp2
                      go_roundw
                      case rel => exact ⟨i + 1, more, T2, by omega, by go_num, rfl, HT4.out, HN.out, HB4.out, HU4.out, HR4.out⟩
                      case measure => simp [intOf]; omega
                · obtain rfl : i = ws.length + 1 := by omega
                  have HN := Lib.hid HP3.out.rule
                  go_wp2
                  go_roundw
                  case rel => exact ⟨j + 1, more, T2, by omega, by go_num, rfl, HT3.out, HN.out, HB3.out, HU3.out⟩
                  case measure => simp [intOf]; omega
            · obtain rfl : j = rs.length := by omega
              have HPE : Hid (PassT (rs.map Ru.abs) ws (rs.map Ru.abs).length 0 0 T T2 more) := by have h := HP2.out; rw [List.length_map]; exact h
              have HDE : Hid (more = false → ∀ x i j, DT ws.length T2 x i j ↔ Der (rs.map Ru.abs) ws x i j) := fun e x i j => by have h := HPE.out; rw [e] at h; exact h.done
              have HME : Hid (2 * (726 - cntT T2) + (if more then 1 else 0) < 2 * (726 - cntT T) + 1) := by
                show _ < _
                have h1 := cntT_most T2
                cases more
                · rw [(HPE.out.2.2 rfl).1]; simp
                · have h2 := HPE.out.2.1 rfl; simp; omega
              go_wp2
              go_roundg (2 * (726 - cntT T2) + (if more then 1 else 0))
              case measure => rw [hgk]; exact HME.out
              case rel => exact ⟨more, T2, rfl, rfl, HT2.out, HPE.out.1, HB2.out, HU2.out, HDE.out⟩

end Go.Proofs.YtfbpcdmpkbjifaaDoor

/- The program's places: masks. -/

namespace Go.Proofs.YtfbpcdmpkbjifaaDoor
open Go.RowKit

def pw (a : Nat) : Nat := 2 ^ a
theorem pw_lt {a : Nat} (h : a < 11) : pw a < 2048 := Nat.pow_lt_pow_right (by decide) h
theorem u16_shl {a : Nat} (h : a < 11) : IntKind.u16.wrap ((2 : Int) ^ a) = (pw a : Int) := by
  rw [IntKind.wrap_u16]
  have h1 := pw_lt h
  have h2 : ((2 : Int) ^ a) = (pw a : Int) := by unfold pw; simp
  rw [h2]
  omega
theorem ret_u16 {a b : Int} (h : a = b) : Ending.returned (.int .u16 a) = .returned (.int .u16 b) := by rw [h]
theorem has_bit {m a : Nat} (hm : m < 2048) (h : a < 11) : (bits .and .u16 (m : Int) (pw a : Int) != 0) = m.testBit a := by
  have h1 := pw_lt h
  rw [u16_and _ _ (by omega) (by omega) (by omega) (by omega)]
  cases e : m.testBit a
  · have h2 := bit_and.2 e
    rw [Int.toNat_natCast, Int.toNat_natCast, show m &&& pw a = 0 from h2]; rfl
  · have h2 : ¬ m &&& pw a = 0 := fun h => by have := bit_and.1 h; rw [e] at this; cases this
    rw [Int.toNat_natCast, Int.toNat_natCast]
    exact bne_t (by omega)

theorem cell_in {w : World} {B : Nat} {v : Value} (h : w.cell? ⟨B, 0, none⟩ = some v) : B < w.heap.size := by
  by_cases e : B < w.heap.size
  · exact e
  · simp only [World.cell?] at h
    rw [Array.getElem?_eq_none (by omega)] at h
    cases h
/-- One mask of a symbol. -/
theorem symD_tok {K : Nat → Nat → Nat} {ws : List Int} {x : Int} {i : Nat} (hx : x < 0) (hi : i < ws.length) (hw : ws.length ≤ 10) (h : ws[i] = -1 - x) : Msk (pw (i + 1)) fun j => SymD (DK K) ws x i j :=
  (msk_one (a := i + 1) (by omega)).congr fun j => ⟨fun e => .inl ⟨hx, e, by rw [List.getElem?_eq_getElem hi, h]⟩, fun e => by rcases e with e | e; exact e.2.1; omega⟩
theorem symD_none {K : Nat → Nat → Nat} {ws : List Int} {x : Int} {i : Nat} (hx : x < 0) (h : ∀ hi : i < ws.length, ws[i] ≠ -1 - x) : Msk 0 fun j => SymD (DK K) ws x i j :=
  msk_no.congr fun j => ⟨False.elim, fun e => by
    rcases e with e | e
    · obtain ⟨hi, e2⟩ := List.getElem?_eq_some_iff.1 e.2.2
      exact h hi e2
    · omega⟩
theorem symD_non {K : Nat → Nat → Nat} {ws : List Int} {x i : Nat} (hK : ∀ x i, K x i < 2048) : Msk (K x i) fun j => SymD (DK K) ws (x : Int) i j :=
  ⟨hK x i, fun j => ⟨fun e => .inr ⟨Int.natCast_nonneg x, Int.natCast_nonneg x, e⟩, fun e => by
    rcases e with e | e
    · omega
    · exact e.2.2⟩⟩

end Go.Proofs.YtfbpcdmpkbjifaaDoor

/- The program's function that tells the places behind what symbols derive. -/

namespace Go.Proofs.YtfbpcdmpkbjifaaDoor
open Go.RowKit

theorem seqD_start {D : Int → Nat → Nat → Prop} {ws xs : List Int} {i : Nat} (hi : i < 11) : Msk (pw i) fun j => SeqD D ws (xs.take 0) i j := (msk_one hi).congr fun _ => ⟨fun e => e.symm, fun e => e.symm⟩
theorem u16_orK {a b : Nat} (ha : a < 2048) (hb : b < 2048) : bits .or .u16 (a : Int) (b : Int) = ((a ||| b : Nat) : Int) := by
  rw [u16_or _ _ (by omega) (by omega) (by omega) (by omega), Int.toNat_natCast, Int.toNat_natCast]
def orK (a b : Nat) : Nat := a ||| b
theorem u16_or' {a b : Nat} (ha : a < 2048) (hb : b < 2048) : bits .or .u16 (a : Int) (b : Int) = (orK a b : Int) := u16_orK ha hb

/-- .. with its value named. -/
noncomputable def endsM (K : Nat → Nat → Nat) (ws xs : List Int) (i : Nat) : Nat := mskOf fun j => SeqD (DK K) ws xs i j
theorem endsM_is {K : Nat → Nat → Nat} {ws xs : List Int} {i : Nat} (hK : ∀ x i, K x i < 2048) (hw : ws.length ≤ 10) (hi : i < 11) : Msk (endsM K ws xs i) fun j => SeqD (DK K) ws xs i j := mskOf_is fun _ h => seqD_lt hK hw hi h
end Go.Proofs.YtfbpcdmpkbjifaaDoor

/- The program's growTable and endsIn. -/

namespace Go.Proofs.YtfbpcdmpkbjifaaDoor
open Go.RowKit

theorem Save.alloc {S : Nat → Prop} {a w : World} (h : Save S a w) (o : Obj) : Save S a (w.alloc o) := h.trans (Save.of_below ((Below.refl _ _).alloc (Nat.le_refl _) _))
theorem Box2.save {S : Nat → Prop} {w w' : World} {g : Nat} {a b : Value} (h : Box2 w g a b) (hs : Save S w w') (hg : ¬ S g) : Box2 w' g a b := by
  have e := hs.block g h.1 hg
  have k : ∀ i, w'.cell? ⟨g, i, none⟩ = w.cell? ⟨g, i, none⟩ := fun i => by simp only [World.cell?, e]
  exact ⟨Nat.lt_of_lt_of_le h.1 hs.size, (k 0).trans h.2.1, (k 1).trans h.2.2⟩

theorem below_drew' (w : World) : Below w.heap.size w w.drew := by go_grown

end Go.Proofs.YtfbpcdmpkbjifaaDoor

/- The program's endsIn and deriveWhole. -/

namespace Go.Proofs.YtfbpcdmpkbjifaaDoor
open Go.RowKit

theorem okK_zero (ss : List (Int × List Int)) (ws : List Int) : OkK ss ws fun _ _ => 0 := ⟨fun _ _ => by show 0 < 2048; omega, fun x i j h => by have := h.2; simp at this⟩
theorem sumK_zero : sumK (fun _ _ => 0) = 0 := by decide

end Go.Proofs.YtfbpcdmpkbjifaaDoor

/- A value and a bool as an answer. -/

namespace Go.Proofs.YtfbpcdmpkbjifaaDoor
open Go.RowKit

def GaveXB (w : World) (Q : Bool → Bool → Prop) (e : Ending) (w' : World) : Prop := ∃ x ok, Q x ok ∧ e = .returned (.tuple #[.bool x, .bool ok]) ∧ Below w.heap.size w w'
def GaveXI (w : World) (Q : Int → Bool → Prop) (e : Ending) (w' : World) : Prop := ∃ x ok, Q x ok ∧ e = .returned (.tuple #[.int .i64 x, .bool ok]) ∧ Below w.heap.size w w'

end Go.Proofs.YtfbpcdmpkbjifaaDoor

/- The program's deriveWhole, Derives, InLanguage and SequenceDerives. -/

namespace Go.Proofs.YtfbpcdmpkbjifaaDoor
open Go.RowKit

/-- A bool that tells P, where the arguments are as said; and whether they are. -/
def QD (ok : Bool) (P : Prop) (x o : Bool) : Prop := o = ok ∧ (ok = true → (x = true ↔ P)) ∧ (ok = false → x = false)
theorem QD.unique {ok : Bool} {P : Prop} {x o x' o' : Bool} (h : QD ok P x o) (k : QD ok P x' o') : x = x' ∧ o = o' := by
  refine ⟨?_, h.1.trans k.1.symm⟩
  cases ok
  · rw [h.2.2 rfl, k.2.2 rfl]
  · have h1 := (h.2.1 rfl).trans (k.2.1 rfl).symm
    cases x <;> cases x' <;> simp_all
theorem seqD_one {D : Int → Nat → Nat → Prop} {ws : List Int} {x : Int} {i j : Nat} (hx : 0 ≤ x) : SeqD D ws [x] i j ↔ D x i j := by
  constructor
  · rintro ⟨m, (⟨h, _⟩ | ⟨_, h⟩), k⟩
    · omega
    · have k' : m = j := k
      subst k'; exact h
  · exact fun h => ⟨j, .inr ⟨hx, h⟩, rfl⟩
theorem seqD_iff {D E : Int → Nat → Nat → Prop} {ws xs : List Int} {i j : Nat} (h : ∀ x i j, D x i j ↔ E x i j) : SeqD D ws xs i j ↔ SeqD E ws xs i j := ⟨fun k => k.mono fun x i j => (h x i j).1, fun k => k.mono fun x i j => (h x i j).2⟩

theorem ints_one (w : World) (x : Int) : Ints (w.alloc (.cells #[.int .i64 x] 3)) (w.heap.size + 1) (some ⟨w.heap.size, 0, none⟩) [x] := fun _ => ⟨w.heap.size, 0, rfl, by omega, fun k y hk => by
  have hk1 := (List.getElem?_eq_some_iff.1 hk).1
  have e : k = 0 := by simp at hk1; omega
  subst e
  simp at hk
  subst hk
  simp [go_sem]⟩

theorem goodW_goodG {n t : Int} {ss : List (Int × List Int)} {ws : List Int} (h : goodW n t ss ws = true) : goodG n t ss = true := by cases e : goodG n t ss; rw [goodW_no e] at h; cases h; rfl
theorem goodW_len {n t : Int} {ss : List (Int × List Int)} {ws : List Int} (h : goodW n t ss ws = true) : ws.length ≤ 10 := by
  by_cases e : ws.length ≤ 10
  · exact e
  · rw [goodW_yes (goodW_goodG h), wordB_long e] at h; cases h
theorem goodW_zero {n t : Int} {ss : List (Int × List Int)} {ws : List Int} : (goodW n t ss ws && nonB n 0) = goodW n t ss ws := by
  cases e : goodW n t ss ws
  · rfl
  · have := goodG_is (goodW_goodG e)
    rw [Bool.true_and]
    exact nonB_t (by omega) (by omega)

end Go.Proofs.YtfbpcdmpkbjifaaDoor

/- The reference's InLanguage and Derives. -/

namespace Go.Proofs.YtfbpcdmpkbjifaaDoor
open Go.RowKit

set_option maxRecDepth 20000 in
set_option maxHeartbeats 1000000 in
theorem l4In_any (N : Nat) (t : Int) (A : Option Addr) (c : Nat) (rs : List Ru) (y : Nat) (Aw : Option Addr) (cw : Nat) (ws : List Int) (w : World) (hx : Rls w w.heap.size A rs) (hg : goodG (N : Int) t (rs.map Ru.abs) = true) (hcap : ∀ u ∈ rs, u.r.length ≤ u.c) (hw : ws.length ≤ 10) (hW : Ints w w.heap.size Aw ws) (hy : y < N) :
    Calls Tryd.prog 178 #[.agg #[.int .i64 (N : Int), .int .i64 t, .slice A rs.length c], .int .i64 (y : Int), .slice Aw ws.length cw] w fun e w' => ∃ b, e = .returned (.bool b) ∧ (b = true ↔ Der (rs.map Ru.abs) ws y 0 ws.length) ∧ Below w.heap.size w w' := by
  have HB0 : Hid (Below w.heap.size w (w.alloc (.cells #[.int .i64 N, .int .i64 t, .slice A rs.length c] 147))) := by show Below _ _ _; go_grown
  have HC := Lib.hid (l4Table_any N t A c rs Aw cw ws _ ((hx.keep HB0.out).more HB0.out.size) hg hcap hw ((hW.keep HB0.out).more HB0.out.size))
  clear hx hg hW hcap
  go_enter Tryd.func178, Tryd.ntmps178
  go_wp2_with fail
  refine HC.out.mono ?_
  rintro e w1 ⟨S, T, rfl, hT, hD, hB⟩
  have HB1 : Hid (Below w.heap.size w w1) := HB0.out.trans (hB.mono HB0.out.size)
  have hc : ws.length < (ws.length + 1) * (ws.length + 1) := by have h := cell_lt (n := ws.length) (i := 0) (j := ws.length) (by omega) (by omega); simpa using h
  have k1 := hT.row hy
  obtain ⟨k2, _⟩ := hT.at_ hy hc
  have HQ : Hid (T y ws.length = true ↔ Der (rs.map Ru.abs) ws y 0 ws.length) := by
    refine Iff.trans ?_ (hD y 0 ws.length)
    unfold DT
    simp
  generalize (ws.length + 1) * (ws.length + 1) = M at *
  clear hT hD hB HC
  go_wp2
  go_ret
  exact ⟨_, rfl, HQ.out, HB1.out⟩

end Go.Proofs.YtfbpcdmpkbjifaaDoor

/- The spans of a word: the plain list; an answer that is a list of lists. -/

namespace Go.Proofs.YtfbpcdmpkbjifaaDoor
open Go.RowKit

/-- An answer: a list of lists, and whether there is one. -/
def GaveLB (w : World) (xs : List (List Int)) (ok : Bool) (e : Ending) (w' : World) : Prop :=
  ∃ A c ls, e = .returned (.tuple #[.slice A ls.length c, .bool ok]) ∧ ls.length ≤ c ∧ OwnL w' w.heap.size A ls ∧ sayL ls = xs ∧ Below w.heap.size w w'

theorem bP_eq {P : Prop} {b : Bool} (h : b = true ↔ P) : bP P = b := by
  cases b
  · exact bP_f fun hp => by cases h.2 hp
  · exact bP_t (h.1 rfl)

theorem flat_len {α β : Type} (l : List α) (f : α → List β) (c : Nat) (h : ∀ x, (f x).length ≤ c) : (l.flatMap f).length ≤ l.length * c := by
  induction l with
  | nil => simp
  | cons x l ih =>
    rw [List.flatMap_cons, List.length_append, List.length_cons, Nat.add_mul]
    have := h x
    omega

section
variable (D : Int → Nat → Nat → Prop)

/-- The nonterminals below k that derive the part from i to j. -/
noncomputable def spRow (i j k : Nat) : List (List Int) := ((List.range k).filter fun (x : Nat) => bP (D (x : Int) i j)).map fun (x : Nat) => [(i : Int), (j : Int), (x : Int)]
noncomputable def spCol (N i m : Nat) : List (List Int) := (List.range m).flatMap fun d => spRow D i (i + d) N
noncomputable def spAll (N L f : Nat) : List (List Int) := (List.range f).flatMap fun i => spCol D N i (L + 1 - i)

theorem spRow_zero (i j : Nat) : spRow D i j 0 = [] := by simp [spRow]
theorem spRow_yes {i j k : Nat} (h : bP (D (k : Int) i j) = true) : spRow D i j (k + 1) = spRow D i j k ++ [[(i : Int), (j : Int), (k : Int)]] := by
  unfold spRow
  rw [List.range_succ, List.filter_append, List.map_append]
  simp [h]
theorem spRow_no {i j k : Nat} (h : bP (D (k : Int) i j) = false) : spRow D i j (k + 1) = spRow D i j k := by
  unfold spRow
  rw [List.range_succ, List.filter_append, List.map_append]
  simp [h]
theorem spCol_zero (N i : Nat) : spCol D N i 0 = [] := by simp [spCol]
theorem spCol_succ (N i m : Nat) : spCol D N i (m + 1) = spCol D N i m ++ spRow D i (i + m) N := by
  unfold spCol
  rw [List.range_succ, List.flatMap_append]
  simp
theorem spAll_zero (N L : Nat) : spAll D N L 0 = [] := by simp [spAll]
theorem spAll_succ (N L f : Nat) : spAll D N L (f + 1) = spAll D N L f ++ spCol D N f (L + 1 - f) := by
  unfold spAll
  rw [List.range_succ, List.flatMap_append]
  simp
theorem spRow_len (i j k : Nat) : (spRow D i j k).length ≤ k := by
  unfold spRow
  rw [List.length_map]
  exact Nat.le_trans (List.length_filter_le _ _) (by simp)
theorem spCol_len (N i m : Nat) : (spCol D N i m).length ≤ m * N := by
  have := flat_len (List.range m) (fun d => spRow D i (i + d) N) N (fun d => spRow_len D i (i + d) N)
  rw [List.length_range] at this
  exact this
theorem spAll_len (N L f : Nat) : (spAll D N L f).length ≤ f * ((L + 1) * N) := by
  have := flat_len (List.range f) (fun i => spCol D N i (L + 1 - i)) ((L + 1) * N) (fun i => Nat.le_trans (spCol_len D N i _) (Nat.mul_le_mul_right _ (by omega)))
  rw [List.length_range] at this
  exact this
theorem spRow_three {i j k : Nat} {x : List Int} (h : x ∈ spRow D i j k) : x.length = 3 := by
  obtain ⟨y, _, rfl⟩ := List.mem_map.1 h
  rfl
theorem spAll_three {N L f : Nat} {x : List Int} (h : x ∈ spAll D N L f) : x.length = 3 := by
  obtain ⟨i, _, h⟩ := List.mem_flatMap.1 h
  obtain ⟨d, _, h⟩ := List.mem_flatMap.1 h
  exact spRow_three D h

/-- All that is told ahead of nonterminal k of the part from i to i + m. -/
noncomputable def spAt (N L i m k : Nat) : List (List Int) := spAll D N L i ++ spCol D N i m ++ spRow D i (i + m) k
theorem spAt_len {N L i m k : Nat} (hN : N ≤ 6) (hL : L ≤ 10) (hi : i ≤ 11) (hm : m ≤ 11) (hk : k ≤ 6) : (spAt D N L i m k).length ≤ 2000 := by
  unfold spAt
  rw [List.length_append, List.length_append]
  have h1 := spAll_len D N L i
  have h2 := spCol_len D N i m
  have h3 := spRow_len D i (i + m) k
  have h4 : (L + 1) * N ≤ 11 * 6 := Nat.mul_le_mul (by omega) hN
  have h5 : i * ((L + 1) * N) ≤ 11 * (11 * 6) := Nat.mul_le_mul hi h4
  have h6 : m * N ≤ 11 * 6 := Nat.mul_le_mul hm hN
  omega
theorem spAt_start (N L : Nat) : spAt D N L 0 0 0 = [] := by unfold spAt; rw [spAll_zero, spCol_zero, spRow_zero]; rfl
theorem spAt_yes {N L i m k : Nat} (h : bP (D (k : Int) i (i + m)) = true) : spAt D N L i m (k + 1) = spAt D N L i m k ++ [[(i : Int), ((i + m : Nat) : Int), (k : Int)]] := by
  unfold spAt; rw [spRow_yes D h]; simp only [List.append_assoc]
theorem spAt_no {N L i m k : Nat} (h : bP (D (k : Int) i (i + m)) = false) : spAt D N L i m (k + 1) = spAt D N L i m k := by
  unfold spAt; rw [spRow_no D h]
theorem spAt_col (N L i m : Nat) : spAt D N L i (m + 1) 0 = spAt D N L i m N := by
  unfold spAt; rw [spRow_zero, spCol_succ, List.append_nil]; simp only [List.append_assoc]
theorem spAt_all {N L i m : Nat} (h : m = L + 1 - i) : spAt D N L (i + 1) 0 0 = spAt D N L i m 0 := by
  unfold spAt; rw [spRow_zero, spRow_zero, spCol_zero, spAll_succ, h]; simp
theorem spAt_end {N L i : Nat} (h : i = L + 1) : spAt D N L i 0 0 = spAll D N L (L + 1) := by
  unfold spAt; rw [spRow_zero, spCol_zero, h]; simp
end

/-- What the spans are. -/
noncomputable def spansV (n t : Int) (ss : List (Int × List Int)) (ws : List Int) : List (List Int) := if goodW n t ss ws = true then spAll (Der ss ws) n.toNat ws.length (ws.length + 1) else []
theorem spansV_len {n t : Int} {ss : List (Int × List Int)} {ws : List Int} : (spansV n t ss ws).length ≤ 2000 := by
  unfold spansV
  split
  · rename_i h
    have h1 := goodG_is (goodW_goodG h)
    have h2 := goodW_len h
    rw [← spAt_end (Der ss ws) rfl]
    exact spAt_len _ (by omega) h2 (by omega) (by omega) (by omega)
  · simp
theorem spansV_three {n t : Int} {ss : List (Int × List Int)} {ws : List Int} {x : List Int} (h : x ∈ spansV n t ss ws) : x.length = 3 := by
  unfold spansV at h
  split at h
  · exact spAll_three _ h
  · simp at h

end Go.Proofs.YtfbpcdmpkbjifaaDoor

/- The short words: the plain list of all words up to a length, in the order in which they are told. -/

namespace Go.Proofs.YtfbpcdmpkbjifaaDoor
open Go.RowKit

/-- The words that are made of one by putting one of the first m tokens behind it. -/
def kidsTo (m : Nat) (x : List Int) : List (List Int) := (List.range m).map fun (t : Nat) => x ++ [(t : Int)]
/-- The words that are made of each of some words. -/
def kids (m : Nat) (l : List (List Int)) : List (List Int) := l.flatMap (kidsTo m)
/-- The words of n tokens. -/
def lev (m : Nat) : Nat → List (List Int)
  | 0 => [[]]
  | n + 1 => kids m (lev m n)
/-- The words of fewer than n tokens. -/
def upTo (m : Nat) : Nat → List (List Int)
  | 0 => []
  | n + 1 => upTo m n ++ lev m n

theorem kidsTo_zero (x : List Int) : kidsTo 0 x = [] := by simp [kidsTo]
theorem kidsTo_succ (m : Nat) (x : List Int) : kidsTo (m + 1) x = kidsTo m x ++ [x ++ [(m : Int)]] := by simp [kidsTo, List.range_succ]
theorem kidsTo_len (m : Nat) (x : List Int) : (kidsTo m x).length = m := by simp [kidsTo]
theorem kids_nil (m : Nat) : kids m [] = [] := rfl
theorem kids_append (m : Nat) (a b : List (List Int)) : kids m (a ++ b) = kids m a ++ kids m b := List.flatMap_append
theorem kids_snoc (m : Nat) (a : List (List Int)) (x : List Int) : kids m (a ++ [x]) = kids m a ++ kidsTo m x := by rw [kids_append]; simp [kids]
theorem kids_len (m : Nat) : ∀ l : List (List Int), (kids m l).length = l.length * m
  | [] => by simp [kids]
  | x :: l => by
    have h := kids_len m l
    unfold kids at h ⊢
    rw [List.flatMap_cons, List.length_append, h, kidsTo_len, List.length_cons, Nat.add_mul]
    omega

theorem root_kids (m : Nat) : ∀ n, [] :: kids m (upTo m n) = upTo m (n + 1)
  | 0 => by simp [upTo, kids, lev]
  | n + 1 => by
    have h := root_kids m n
    show [] :: kids m (upTo m n ++ lev m n) = upTo m (n + 1) ++ kids m (lev m n)
    rw [kids_append, ← List.cons_append, h]

theorem lev_len_mem (m : Nat) : ∀ (n : Nat) (x : List Int), x ∈ lev m n → x.length = n
  | 0, x, h => by simp [lev] at h; simp [h]
  | n + 1, x, h => by
    obtain ⟨y, hy, hx⟩ := List.mem_flatMap.1 h
    obtain ⟨t, _, rfl⟩ := List.mem_map.1 hx
    have := lev_len_mem m n y hy
    simp [this]
theorem upTo_len_mem (m : Nat) : ∀ (n : Nat) (x : List Int), x ∈ upTo m n → x.length < n
  | 0, x, h => by simp [upTo] at h
  | n + 1, x, h => by
    rcases List.mem_append.1 h with h | h
    · have := upTo_len_mem m n x h; omega
    · have := lev_len_mem m n x h; omega
theorem lev_len (m : Nat) : ∀ n, (lev m n).length = m ^ n
  | 0 => rfl
  | n + 1 => by
    show (kids m (lev m n)).length = _
    rw [kids_len, lev_len m n, Nat.pow_succ]
theorem lev_le {m n : Nat} (hm : m ≤ 4) (hn : n ≤ 4) : (lev m n).length ≤ 256 := by
  rw [lev_len]
  calc m ^ n ≤ 4 ^ n := Nat.pow_le_pow_left hm n
    _ ≤ 4 ^ 4 := Nat.pow_le_pow_right (by omega) hn
    _ = 256 := by decide
theorem upTo_le {m : Nat} (hm : m ≤ 4) : ∀ n, n ≤ 5 → (upTo m n).length ≤ n * 256
  | 0, _ => by simp [upTo]
  | n + 1, h => by
    have h1 := upTo_le hm n (by omega)
    have h2 := lev_le hm (show n ≤ 4 by omega)
    show (upTo m n ++ lev m n).length ≤ _
    rw [List.length_append]
    omega

theorem kids_take_pre (m : Nat) (l : List (List Int)) (a : Nat) : ∃ r, kids m l = kids m (l.take a) ++ r := ⟨kids m (l.drop a), by rw [← kids_append, List.take_append_drop]⟩

/-- What the queue holds when the first a of the words have been gone through. -/
def que (m n a : Nat) : List (List Int) := [] :: kids m ((upTo m n).take a)
theorem que_start (m n : Nat) : que m n 0 = [[]] := by simp [que, kids]
theorem que_end (m n : Nat) : que m n (upTo m n).length = upTo m (n + 1) := by rw [que, List.take_length, root_kids]
theorem que_pre (m n a : Nat) : ∃ r, upTo m (n + 1) = que m n a ++ r := by
  obtain ⟨r, h⟩ := kids_take_pre m (upTo m n) a
  exact ⟨r, by rw [← root_kids, h]; rfl⟩
theorem que_len {m n a : Nat} (hm : 1 ≤ m) (ha : a ≤ (upTo m n).length) : a < (que m n a).length := by
  show a < (kids m _).length + 1
  rw [kids_len, List.length_take, Nat.min_eq_left ha]
  have : a * 1 ≤ a * m := Nat.mul_le_mul_left a hm
  omega
theorem que_le {m n a : Nat} (hm : m ≤ 4) (hn : n ≤ 4) : (que m n a).length ≤ 1280 := by
  obtain ⟨r, h⟩ := que_pre m n a
  have h1 := upTo_le hm (n + 1) (by omega)
  rw [h, List.length_append] at h1
  omega
/-- The word at a place of the queue. -/
theorem que_at {m n a : Nat} {q : List (List Int)} (hm : 1 ≤ m) (ha : a < (upTo m n).length) (hq : que m n a ++ q <+: upTo m (n + 1)) : (que m n a ++ q)[a]? = (upTo m n)[a]? := by
  obtain ⟨r, hr⟩ := hq
  have h1 := que_len hm (Nat.le_of_lt ha)
  have h2 : (upTo m (n + 1))[a]? = (que m n a ++ q)[a]? := by
    rw [← hr, List.getElem?_append_left (by rw [List.length_append]; omega)]
  rw [← h2]
  show (upTo m n ++ lev m n)[a]? = _
  rw [List.getElem?_append_left ha]
theorem que_step {m n a : Nat} {x : List Int} (h : (upTo m n)[a]? = some x) : que m n (a + 1) = que m n a ++ kidsTo m x := by
  unfold que
  rw [List.take_add_one, h]
  show [] :: kids m (_ ++ [x]) = _
  rw [kids_snoc]
  rfl
theorem kidsTo_pre {j m : Nat} (h : j ≤ m) (x : List Int) : kidsTo j x <+: kidsTo m x := by
  obtain ⟨d, rfl⟩ : ∃ d, m = j + d := ⟨m - j, by omega⟩
  clear h
  induction d with
  | zero => exact List.prefix_refl _
  | succ d ih => exact ih.trans ⟨_, (kidsTo_succ (j + d) x).symm⟩
theorem que_mid {m n a j : Nat} {x : List Int} (h : (upTo m n)[a]? = some x) (hj : j ≤ m) : que m n a ++ kidsTo j x <+: upTo m (n + 1) := by
  obtain ⟨r, hr⟩ := que_pre m n (a + 1)
  obtain ⟨s, hs⟩ := kidsTo_pre hj x
  refine ⟨s ++ r, ?_⟩
  rw [hr, que_step h, ← hs]
  simp only [List.append_assoc]
theorem que_word {m n a : Nat} {q : List (List Int)} {x : List Int} (hm : 1 ≤ m) (h : (upTo m n)[a]? = some x) (hq : que m n a ++ q <+: upTo m (n + 1)) : (que m n a ++ q)[a]? = some x := by
  rw [que_at hm (List.getElem?_eq_some_iff.1 h).1 hq, h]
theorem que_last {m n : Nat} (hm : 1 ≤ m) : ∃ x, (que m n (upTo m n).length)[(upTo m n).length]? = some x ∧ x.length = n := by
  rw [que_end]
  show ∃ x, (upTo m n ++ lev m n)[(upTo m n).length]? = some x ∧ _
  rw [List.getElem?_append_right (Nat.le_refl _), Nat.sub_self]
  have h : 0 < (lev m n).length := by rw [lev_len]; exact Nat.pow_pos (by omega)
  refine ⟨(lev m n)[0], List.getElem?_eq_getElem h, lev_len_mem m n _ (List.getElem_mem h)⟩
theorem upTo_word {m n a : Nat} {x : List Int} (h : (upTo m n)[a]? = some x) : x.length < n := upTo_len_mem m n x (List.mem_of_getElem? h)

/-- A word is of the language. -/
noncomputable def langB (ss : List (Int × List Int)) (ws : List Int) : Bool := bP (Der ss ws 0 0 ws.length)
/-- What the short words are. -/
noncomputable def shortV (n t : Int) (ss : List (Int × List Int)) (x : Int) : List (List Int) := if goodG n t ss = true ∧ 0 ≤ x ∧ x ≤ 4 then (upTo t.toNat (x.toNat + 1)).filter (langB ss) else []
def okS (n t : Int) (ss : List (Int × List Int)) (x : Int) : Bool := goodG n t ss && decide (0 ≤ x ∧ x ≤ 4)
theorem shortV_len {n t : Int} {ss : List (Int × List Int)} {x : Int} (ht : goodG n t ss = true → t ≤ 4) : (shortV n t ss x).length ≤ 1280 := by
  unfold shortV
  split
  · rename_i h
    refine Nat.le_trans (List.length_filter_le _ _) ?_
    have := upTo_le (m := t.toNat) (by have := ht h.1; omega) (x.toNat + 1) (by omega)
    omega
  · simp
theorem shortV_lens {n t : Int} {ss : List (Int × List Int)} {x : Int} {y : List Int} (h : y ∈ shortV n t ss x) : y.length ≤ 4 := by
  unfold shortV at h
  split at h
  · have := upTo_len_mem _ _ y (List.mem_filter.1 h).1
    omega
  · simp at h
theorem filter_yes {P : List Int → Bool} {l : List (List Int)} {k : Nat} (hk : k < l.length) (h : P l[k] = true) : (l.take (k + 1)).filter P = (l.take k).filter P ++ [l[k]] := by
  rw [List.take_succ_eq_append_getElem hk, List.filter_append]
  simp [h]
theorem filter_no {P : List Int → Bool} {l : List (List Int)} {k : Nat} (hk : k < l.length) (h : P l[k] = false) : (l.take (k + 1)).filter P = (l.take k).filter P := by
  rw [List.take_succ_eq_append_getElem hk, List.filter_append]
  simp [h]

end Go.Proofs.YtfbpcdmpkbjifaaDoor

/- Slices of lists that are appended to: a list made just before; a list that lies in another slice of lists. -/

namespace Go.Proofs.YtfbpcdmpkbjifaaDoor
open Go.RowKit

theorem sayL_snoc (ds : List Li) (u : Li) : sayL (ds ++ [u]) = sayL ds ++ [u.r] := by simp [sayL]
theorem sayL_get {ds : List Li} {xs : List (List Int)} {k : Nat} {x : List Int} (h : sayL ds = xs) (hx : xs[k]? = some x) : ∃ u, ds[k]? = some u ∧ u.r = x := by
  rw [← h] at hx
  unfold sayL at hx
  rw [List.getElem?_map] at hx
  cases e : ds[k]? with
  | none => rw [e] at hx; cases hx
  | some u => rw [e] at hx; exact ⟨u, rfl, Option.some.inj hx⟩

/-- A list that was made just now is appended. -/
theorem ListsW.pushI {w w1 w2 : World} {lo : Nat} {v v' : Value} {ds : List Li} {A : Option Addr} {xs : List Int} {c : Nat} {o : Obj} (h : ListsW w lo v ds) (hb : Below w.heap.size w w1) (hlo : lo ≤ w.heap.size) (hO : OwnI w1 w.heap.size A xs) (hcap : xs.length ≤ c)
    (ho : w2.ownsRow lo 22 1 v' (ds.length + 1) (ds.map cellsL ++ [.slice A xs.length c])) (hg : (w1.alloc o).grownBy w2 v.ownBlock) : ListsW w2 lo v' (ds ++ [⟨A, xs, c⟩]) := by
  have hB2 : Below w1.heap.size w1 (w1.alloc o) := (Below.refl _ _).alloc (Nat.le_refl _) _
  have hO2 := hO.below hB2 (Nat.le_refl _)
  exact ((h.keep hb).keep hB2).step (hO2.lower hlo) hcap (h.apart hO) ho hg

theorem one_new (w : World) (x : Value) (t : TypeId) : ∀ j u, [x][j]? = some u → (w.alloc (.cells #[x] t)).cell? ((⟨w.heap.size, 0, none⟩ : Addr).add j) = some u := by
  intro j u h
  rw [Go.WideShapes.add_plain, Nat.zero_add]
  rcases j with _ | j
  · simpa [go_sem] using h
  · simp at h

/-- The slice v of lists is new from lo2 on and reads as ds; each list is the call's own from lo on, and no two lie in one block. -/
structure ListsV (w : World) (lo lo2 : Nat) (v : Value) (ds : List Li) : Prop where
  row : w.ownsRow lo2 22 1 v ds.length (ds.map cellsL)
  caps : ∀ (j : Nat) (u : Li), ds[j]? = some u → u.r.length ≤ u.c
  rts : ∀ (j : Nat) (u : Li), ds[j]? = some u → OwnI w lo u.a u.r
  far : ∀ (i j : Nat) (u v : Li), ds[i]? = some u → ds[j]? = some v → i ≠ j → u.r ≠ [] → v.r ≠ [] → u.a ≠ v.a

theorem ListsV.start (w : World) (lo lo2 : Nat) : ListsV w lo lo2 (.slice none 0 0) [] := ⟨⟨rfl, .inl ⟨rfl, rfl⟩⟩, fun j u h => by simp at h, fun j u h => by simp at h, fun i j u v h => by simp at h⟩
theorem ListsV.keep {w w' : World} {lo lo2 : Nat} {v : Value} {ds : List Li} (h : ListsV w lo lo2 v ds) (hb : Below w.heap.size w w') : ListsV w' lo lo2 v ds :=
  ⟨own_below h.row hb, h.caps, fun j x hx => (h.rts j x hx).below hb (Nat.le_refl _), h.far⟩
theorem ListsV.lt {w : World} {lo lo2 : Nat} {v : Value} {ds : List Li} (h : ListsV w lo lo2 v ds) (b : Nat) (e : v.ownBlock = some b) : lo2 ≤ b ∧ b < w.heap.size := h.row.lt b e
theorem ListsV.slice {w : World} {lo lo2 : Nat} {v : Value} {ds : List Li} (h : ListsV w lo lo2 v ds) (hl : lo ≤ lo2) : ∃ A c, v = .slice A ds.length c ∧ ds.length ≤ c ∧ OwnL w lo A ds := by
  obtain ⟨_, ⟨rfl, h0⟩ | ⟨g, cap, cur, rfl, hlo, hg, hcap, _, _, hx⟩⟩ := h.row
  · have : ds = [] := List.eq_nil_of_length_eq_zero h0
    subst this
    exact ⟨none, 0, rfl, Nat.le_refl _, .inl rfl⟩
  · refine ⟨_, cap, rfl, hcap, .inr ⟨g, cur, rfl, by omega, hg, fun k u hu => ?_, h.far⟩⟩
    have hk := (List.getElem?_eq_some_iff.1 hu).1
    have f1 : (ds.map cellsL)[k]? = some (cellsL u) := by rw [List.getElem?_map, hu]; rfl
    rw [← hx, List.getElem?_take, if_pos (by omega)] at f1
    exact ⟨by simpa [cellsL] using f1, h.caps k u hu, h.rts k u hu⟩
theorem ListsV.step {w w2 : World} {lo lo2 : Nat} {v v' : Value} {ds : List Li} {u : Li} (h : ListsV w lo lo2 v ds) (hO : OwnI w lo u.a u.r) (hcap : u.r.length ≤ u.c)
    (hap : ∀ (j : Nat) (x : Li), ds[j]? = some x → x.r ≠ [] → u.r ≠ [] → x.a ≠ u.a)
    (ho : w2.ownsRow lo2 22 1 v' (ds.length + 1) (ds.map cellsL ++ [.slice u.a u.r.length u.c])) (hg : w.grownBy w2 v.ownBlock) : ListsV w2 lo lo2 v' (ds ++ [u]) := by
  refine ⟨?_, ?_, ?_, ?_⟩
  · rw [List.length_append, List.map_append]
    simpa [cellsL] using ho
  · intro j x hx
    rcases getElem?_snoc hx with ⟨_, hx⟩ | ⟨_, rfl⟩
    · exact h.caps j x hx
    · exact hcap
  · intro j x hx
    rcases getElem?_snoc hx with ⟨_, hx⟩ | ⟨_, rfl⟩
    · exact (h.rts j x hx).grownL h.row hg
    · exact hO.grownL h.row hg
  · intro i j x y hx hy hij hxn hyn
    rcases getElem?_snoc hx with ⟨_, hx'⟩ | ⟨hi, ei⟩ <;> rcases getElem?_snoc hy with ⟨_, hy'⟩ | ⟨hj, ej⟩
    · exact h.far i j x y hx' hy' hij hxn hyn
    · rw [ej] at hyn ⊢; exact hap i x hx' hxn hyn
    · rw [ei] at hxn ⊢; exact fun e => hap j y hy' hyn hxn e.symm
    · omega

/-- The lists es are some of the first k of ds. -/
def SomeOf (es ds : List Li) (k : Nat) : Prop := ∀ (j : Nat) (x : Li), es[j]? = some x → ∃ i, i < k ∧ ds[i]? = some x
theorem SomeOf.start (ds : List Li) : SomeOf [] ds 0 := fun j x h => by simp at h
theorem SomeOf.more {es ds : List Li} {k : Nat} (h : SomeOf es ds k) : SomeOf es ds (k + 1) := fun j x hx => by
  obtain ⟨i, hi, e⟩ := h j x hx
  exact ⟨i, by omega, e⟩
theorem SomeOf.snoc {es ds : List Li} {k : Nat} (h : SomeOf es ds k) {u : Li} (hu : ds[k]? = some u) : SomeOf (es ++ [u]) ds (k + 1) := fun j x hx => by
  rcases getElem?_snoc hx with ⟨_, hx⟩ | ⟨_, rfl⟩
  · exact h.more j x hx
  · exact ⟨k, by omega, hu⟩

/-- A list out of ds, whose lists lie apart, is appended to a slice of those ahead of it. -/
theorem ListsV.pushU {w w1 w2 : World} {lo lo2 : Nat} {v v' : Value} {es ds : List Li} {k : Nat} {u : Li} {o : Obj} (h : ListsV w lo lo2 v es) (hb : Below w.heap.size w w1) (hS : SomeOf es ds k) (hu : ds[k]? = some u) (hO : OwnI w1 lo u.a u.r) (hcap : u.r.length ≤ u.c)
    (hfar : ∀ (i j : Nat) (u v : Li), ds[i]? = some u → ds[j]? = some v → i ≠ j → u.r ≠ [] → v.r ≠ [] → u.a ≠ v.a)
    (ho : w2.ownsRow lo2 22 1 v' (es.length + 1) (es.map cellsL ++ [.slice u.a u.r.length u.c])) (hg : (w1.alloc o).grownBy w2 v.ownBlock) : ListsV w2 lo lo2 v' (es ++ [u]) := by
  have hB2 : Below w1.heap.size w1 (w1.alloc o) := (Below.refl _ _).alloc (Nat.le_refl _) _
  refine ((h.keep hb).keep hB2).step (hO.below hB2 (Nat.le_refl _)) hcap (fun j x hx hxn hun => ?_) ho hg
  obtain ⟨i, hi, e⟩ := hS j x hx
  exact hfar i k x u e hu (by omega) hxn hun

/-- A slice of one list, as it is written. -/
theorem ListsW.one {w : World} {lo g : Nat} {A : Option Addr} {xs : List Int} {c : Nat} (hr : Row w g 22 #[.slice A xs.length c]) (hlo : lo ≤ g) (hO : OwnI w lo A xs) (hcap : xs.length ≤ c) : ListsW w lo (.slice (some ⟨g, 0, none⟩) 1 1) [⟨A, xs, c⟩] := by
  refine ⟨⟨rfl, .inr ⟨g, 1, _, rfl, hlo, hr, Nat.le_refl _, by unfold maxLen; omega, rfl, rfl⟩⟩, fun j u hu => ?_, fun j u hu => ?_, fun i j u v hu hv hij => ?_⟩
  · rcases j with _ | j
    · simp at hu; subst hu; exact hcap
    · simp at hu
  · rcases j with _ | j
    · simp at hu; subst hu; exact hO
    · simp at hu
  · have h1 := (List.getElem?_eq_some_iff.1 hu).1
    have h2 := (List.getElem?_eq_some_iff.1 hv).1
    simp at h1 h2
    omega

end Go.Proofs.YtfbpcdmpkbjifaaDoor
