/- The program's closeSet: its walk. -/
import Derived.Test.YtkghblgiojidgaaDoorClose
namespace Go.Proofs.YtkghblgiojidgaaDoor
open Go.RowKit

theorem save_T {b B : Nat} {w w' : World} (h : Save (· = b) w w') : Save (Tb b B) w w' := h.wider fun _ e => .inl e

set_option maxRecDepth 20000 in
set_option maxHeartbeats 2000000 in
theorem closeSet_any (W : Way) (A : Option Addr) (c : Nat) (rs : List Ru) (b fid : Nat) (caps : Array Value) (S0 : Int → Bool) (E : World → Prop) (w : World) (hx : Rls w w.heap.size A rs) (h16 : rs.length ≤ 16) (hS : SetM w b S0) (hE : E w)
    (hk : ∀ v v', E v → Save (Tb b w.heap.size) v v' → E v') (hU : UseOK W (rs.map Ru.abs) E b fid caps) (hcf : ∀ (xs : Array Value) (v : World), Sem.run Tryd.prog (callFunc fid xs) v = .ok (.enter fid xs) v) :
    Calls Tryd.prog 124 #[.map (some b), .slice A rs.length c, .func (.func fid) #[] caps] w (Closed w W S0 (rs.map Ru.abs) b) := by
  have hmm := @run_makeMap Tryd.prog
  have hbl := hS.map.lt
  have HX := Lib.hid hx; clear hx
  have HS := Lib.hid hS; clear hS
  have HE := Lib.hid hE; clear hE
  have HEK := Lib.hid hk; clear hk
  have HU := Lib.hid hU; clear hU
  have HM0 := Lib.hid (((MapI.made w).same (openF_zero rs)))
  have HB0 : Hid (Below w.heap.size w (w.alloc (.map #[] 0))) := (Below.refl _ _).alloc (Nat.le_refl _) _
  go_enter Tryd.func124, Tryd.ntmps124
  go_wp2
  go_loopw [16] (fun i wr => ∃ (k : Nat), k ≤ rs.length ∧ i = .int .i64 k ∧ Hid (MapI wr w.heap.size k (openF rs (firstB k))) ∧ Hid (Below w.heap.size w wr)) (fun i _ => rs.length - (intOf i).toNat)
  case atStart => exact ⟨0, by omega, rfl, HM0.out, HB0.out⟩
  case round =>
    obtain ⟨k, hk, rfl, HM, HB⟩ := hrel
    by_cases hlt : k < rs.length
    · obtain ⟨p, o, rfl, hp, c1, c2, _⟩ := (HX.out.keep HB.out).at_ hlt
      have HM1 := Lib.hid (HM.out.keep ((Below.refl wr.heap.size wr).alloc (Nat.le_refl _) (.cells #[.int .i64 rs[k].l, .slice rs[k].a rs[k].r.length rs[k].c] 61)))
      have HP := Lib.hid (openF_put hlt)
      have hws : w.heap.size ≤ wr.heap.size := HB.out.size
      go_wp2_with (at_mapUpdate
                   refine wpList_store_map _ rfl _ _ _ _ rfl _ Tryd.underlying146 w.heap.size k _ (k : Int) _ rfl rfl rfl (by unfold F64; omega) (by unfold maxLen; omega) HM1.out ?_
                   intro w1 h1 h2 h3
                   have HM2 := Lib.hid h1
                   have HS2 := Lib.hid h2
                   clear h1 h2 h3)
      go_roundw
      case rel =>
        exact ⟨k + 1, by omega, by go_num, HM2.out.same HP.out, (HB.out.alloc HB.out.size _).trans (HS2.out.below (B := w.heap.size) (by simp; omega) fun i hi e => by omega)⟩
      case measure => simp [intOf]; omega
    · obtain rfl : k = rs.length := by omega
      obtain ⟨wA, hwA⟩ : ∃ x, x = wr := ⟨_, rfl⟩
      subst hwA
      clear HM0 HB0 hmm
      have HMA := Lib.hid (HM.out.mono h16)
      have HSA := Lib.hid (HS.out.keep HB.out)
      have HVA : Hid (Save (Tb b w.heap.size) w wA) := Save.of_below HB.out
      have HCA := Lib.hid (Closing.begin W S0 rs)
      go_wp2
      go_loopg [10] (2 * cntB (firstB rs.length) rs.length + 1) (fun g u wv => ∃ (used : Bool) (rem S : Int → Bool), u = .bool used ∧ g = 2 * cntB rem rs.length + (if used then 1 else 0) ∧ Hid (MapI wv w.heap.size 16 (openF rs rem)) ∧ Hid (SetM wv b S) ∧ Hid (Save (Tb b w.heap.size) w wv) ∧ Hid (Closing W S0 rs rem S) ∧ Hid (used = false → ∀ (k : Nat) (u : Ru), rs[k]? = some u → rem (k : Int) = true → W.fires S u.abs = false))
      case atStart => exact ⟨true, _, _, rfl, rfl, HMA.out, HSA.out, HVA.out, HCA.out, fun h => by cases h⟩
      case round =>
        obtain ⟨used, rem, S, rfl, hg, HM1, HS1, HV1, HC1, HN1⟩ := hrel
        clear HMA HSA HVA HCA HM
        cases used
        · have HL := Lib.hid (HC1.out.done (HN1.out rfl))
          have HV : Hid (Save (· = b) w wr) := ⟨HV1.out.os, HV1.out.tape, HV1.out.output, HV1.out.size, fun i hi h => HV1.out.block i hi fun e => by rcases e with e | e; exact h e; omega⟩
          go_wp2
          go_ret
          exact ⟨rfl, S, HS1.out, HL.out, HV.out⟩
        · rw [if_pos rfl] at hg
          obtain ⟨wO, hwO⟩ : ∃ x, x = wr := ⟨_, rfl⟩
          subst hwO
          have hqO : w.heap.size < wO.heap.size := HM1.out.lt
          have hbO : b < wO.heap.size := by omega
          go_wp2_with (at_range
                       refine wpList_range_map _ rfl _ _ rfl _ Tryd.underlying146 w.heap.size 16 _ rfl HM1.out ?_
                       intro w1 cnt h1 h2 h3 h4
                       have HR := Lib.hid h1
                       have HB1 := Lib.hid h3
                       clear h1 h2 h3 h4)
          try go_frame
          have HSr := Lib.hid (HS1.out.keep HB1.out)
          have HVr : Hid (Save (Tb b w.heap.size) w w1) := HV1.out.trans (Save.of_below HB1.out)
          have HLf : Hid (∀ x, (openF rs rem x).isSome = rem x) := openF_isSome HC1.out.fit
          go_loopg [10] cnt (fun g u wv => ∃ (used : Bool) (rem2 S2 left : Int → Bool), u = .bool used ∧ Hid (Rng wv w.heap.size wO.heap.size 16 (openF rs rem2) left g) ∧ Hid (SetM wv b S2) ∧ Hid (Save (Tb b w.heap.size) w wv) ∧ Hid (Closing W S0 rs rem2 S2) ∧ Hid (used = false → rem2 = rem ∧ ∀ (k : Nat) (u : Ru), rs[k]? = some u → rem2 (k : Int) = true → left (k : Int) = false → W.fires S2 u.abs = false) ∧ Hid (used = true → cntB rem2 rs.length < cntB rem rs.length))
          case atStart => exact ⟨false, rem, S, _, rfl, HR.out, HSr.out, HVr.out, HC1.out, fun _ => ⟨rfl, fun k u _ h1 h2 => by rw [HLf.out, h1] at h2; cases h2⟩, fun h => by cases h⟩
          case round =>
            obtain ⟨used, rem2, S2, left, rfl, HR2, HS2, HV2, HC2, HN2, HD2⟩ := hrel
            clear HR HB1 HSr HVr HLf
            go_wp2_with (at_next
                         refine wpList_next_rng _ rfl _ rfl w.heap.size wO.heap.size 16 _ _ _ rfl HR2.out ?_ ?_)
            · intro _ hl0
              have HL0 := Lib.hid hl0; clear hl0
              go_wp2
              go_roundg (2 * cntB rem2 rs.length + (if used then 1 else 0))
              case measure =>
                cases used
                · have := (HN2.out rfl).1
                  rw [this]
                  simp
                  omega
                · have := HD2.out rfl
                  simp
                  omega
              case rel => exact ⟨used, rem2, S2, rfl, rfl, HR2.out.map, HS2.out, HV2.out, HC2.out, fun h k u hu hr => (HN2.out h).2 k u hu hr (HL0.out _)⟩
            · intro x v w2 cnt2 hx hl hv hR hlt hSv hsz hen
              obtain ⟨hrem, u, hu, rfl⟩ := openF_some hv
              have hxr := HC2.out.fit x hrem
              have HV3 : Hid (Save (Tb b w.heap.size) w w2) := HV2.out.trans (hSv.wider fun i e => .inr (by omega))
              have HS3 := Lib.hid (HS2.out.save hSv (fun e : b = wO.heap.size => by omega))
              have HI3 : Hid (Ints w2 w2.heap.size u.a u.r) := by
                have hr3 := HX.out.saveMap HS.out.map HV3.out
                have hul := (List.getElem?_eq_some_iff.1 hu).1
                obtain ⟨_, _, _, _, _, _, h3⟩ := hr3.at_ hul
                have e2 : rs[x.toNat] = u := Option.some.inj ((List.getElem?_eq_getElem hul).symm.trans hu)
                rw [e2] at h3
                exact h3
              have HR3 := Lib.hid hR; clear hR hSv
              have HB3 : Hid (Below w2.heap.size w2 (w2.alloc (.cells #[.int .i64 u.l, .slice u.a u.r.length u.c] 61))) := (Below.refl _ _).alloc (Nat.le_refl _) _
              have HLX := Lib.hid hl; clear hl hv
              have HXR := Lib.hid hxr; clear hxr
              have HU0 := Lib.hid hu; clear hu
              have HRM := Lib.hid hrem; clear hrem
              have HLT := Lib.hid hlt; clear hlt
              clear HS2 HV2 HR2 hsz
              have HE3 : Hid (E (w2.alloc (.cells #[.int .i64 u.l, .slice u.a u.r.length u.c] 61))) := HEK.out _ _ HE.out (HV3.out.trans (Save.of_below HB3.out))
              have HUS := Lib.hid (HU.out _ S2 u HE3.out (HS3.out.keep HB3.out) ((HI3.out.keep HB3.out).more HB3.out.size) (List.mem_map.2 ⟨u, List.mem_of_getElem? HU0.out, rfl⟩))
              cases hf : W.fires S2 u.abs
              · rw [hf, useW_no hf] at HUS
                have HF := Lib.hid hf; clear hf
                go_wp2_with fail
                refine HUS.out.mono ?_
                rintro e w4 ⟨rfl, hS4, hV4⟩
                have HS4 := Lib.hid hS4; clear hS4
                have HV4 : Hid (Save (Tb b w.heap.size) w w4) := (HV3.out.trans (Save.of_below HB3.out)).trans (save_T hV4)
                have HR4 : Hid (Rng w4 w.heap.size wO.heap.size 16 (openF rs rem2) (strike left x) cnt2) := (HR3.out.keep HB3.out).save hV4 (fun e : w.heap.size = b => by omega) (fun e : wO.heap.size = b => by omega)
                clear hV4
                go_wp2
                go_roundg cnt2
                case measure => exact HLT.out
                case rel =>
                  refine ⟨used, rem2, S2, _, rfl, HR4.out, HS4.out, HV4.out, HC2.out, fun h => ⟨(HN2.out h).1, fun k v hv hr hl => ?_⟩, HD2.out⟩
                  by_cases e : (k : Int) = x
                  · have e2 : x.toNat = k := by omega
                    have e3 := HU0.out
                    rw [e2, hv] at e3
                    cases e3
                    exact HF.out
                  · rw [strike_other e] at hl
                    exact (HN2.out h).2 k v hv hr hl
              · rw [hf] at HUS
                have HC3 := Lib.hid (HC2.out.step HU0.out hf); clear hf
                have hxx : x = ((x.toNat : Nat) : Int) := by have := HXR.out.1; omega
                have HCN : Hid (cntB (strike rem2 x) rs.length < cntB rem2 rs.length) := by
                  show _ < _
                  rw [hxx]
                  exact cntB_strike (by have := HXR.out; omega) (by rw [← hxx]; exact HRM.out)
                clear hxx
                go_wp2_with fail
                refine HUS.out.mono ?_
                rintro e w4 ⟨rfl, hS4, hV4⟩
                have HR4 : Hid (Rng w4 w.heap.size wO.heap.size 16 (openF rs rem2) (strike left x) cnt2) := (HR3.out.keep HB3.out).save hV4 (fun e : w.heap.size = b => by omega) (fun e : wO.heap.size = b => by omega)
                have HS4 := Lib.hid hS4; clear hS4
                have HV4 : Hid (Save (Tb b w.heap.size) w w4) := (HV3.out.trans (Save.of_below HB3.out)).trans (save_T hV4)
                clear hV4
                go_wp2_with (at_delete
                             refine wpList_delete_rng _ rfl _ _ _ rfl _ Tryd.underlying146 w.heap.size wO.heap.size 16 _ _ _ x rfl rfl hx HR4.out ?_
                             intro w5 cnt5 h1 h2 h3 h4
                             have HR5 := Lib.hid h1
                             have HL5 := Lib.hid h2
                             have HV5 := Lib.hid h3
                             clear h1 h2 h3 h4)
                go_roundg cnt5
                case measure => have := HL5.out; have := HLT.out; omega
                case rel =>
                  have HV6 : Save (Tb b w.heap.size) w w5 := HV4.out.trans (HV5.out.wider fun i e => .inr (by omega))
                  have HS6 : SetM w5 b (useW W S2 u.abs) := HS4.out.save HV5.out (fun e : b = w.heap.size => by omega)
                  have HR6 : Rng w5 w.heap.size wO.heap.size 16 (openF rs (strike rem2 x)) (strike left x) cnt5 := by
                    have h := HR5.out
                    rw [strike_twice, funext (openF_del (rs := rs) (rem := rem2) (y := x))] at h
                    exact h
                  refine ⟨true, strike rem2 x, _, _, rfl, HR6, HS6, HV6, HC3.out, fun h => (by cases h), fun _ => ?_⟩
                  have h1 := HCN.out
                  cases used
                  · rw [(HN2.out rfl).1] at h1 ⊢
                    exact h1
                  · have h2 := HD2.out rfl
                    omega

end Go.Proofs.YtkghblgiojidgaaDoor
