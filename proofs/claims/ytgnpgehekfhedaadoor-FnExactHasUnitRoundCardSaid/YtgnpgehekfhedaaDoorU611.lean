/- The reference's l6Pairs. -/
import Derived.Test.YtgnpgehekfhedaaDoorU607
import Derived.Test.YtgnpgehekfhedaaDoorU610
import Derived.Deep.Cut
import Derived.Test.YtgnpgehekfhedaaDoorU608
import Derived.Test.YtgnpgehekfhedaaDoorU602
import Derived.Test.YtgnpgehekfhedaaDoorRows
import Derived.ProofKit
import Derived.OpenShut
import Derived.Deep.Slices
import Derived.Lib.SmallJoins
import Derived.OpenVars
import Derived.Test.YtgnpgehekfhedaaDoorTie
import Derived.LaidMore
import Derived.Stop.Joined
import Derived.SevenTiedAt

namespace Go.Proofs.YtgnpgehekfhedaaDoor
open Go.RowKit

/-- The rising pairs of a relation. -/
def PM (xs : List (List Int)) (D : Int → Int → Prop) : Prop := RisesL xs ∧ ∀ z, z ∈ xs ↔ ∃ l x, z = [l, x] ∧ D l x
theorem PM.congr {xs : List (List Int)} {D E : Int → Int → Prop} (h : PM xs D) (he : ∀ l x, E l x ↔ D l x) : PM xs E := by
  have e : E = D := funext fun l => funext fun x => propext (he l x)
  rw [e]; exact h
theorem PM.ins {xs ys : List (List Int)} {D : Int → Int → Prop} {l0 x0 : Int} (h : PM xs D) (hr : RisesL ys) (hm : ∀ z, z ∈ ys ↔ z = [l0, x0] ∨ z ∈ xs) : PM ys (E1 D true x0 l0) := by
  refine ⟨hr, fun z => ?_⟩
  rw [hm, h.2]
  constructor
  · rintro (rfl | ⟨l, x, rfl, hd⟩)
    · exact ⟨l0, x0, rfl, .inl ⟨rfl, rfl, rfl⟩⟩
    · exact ⟨l, x, rfl, .inr hd⟩
  · rintro ⟨l, x, rfl, ⟨rfl, rfl, _⟩ | hd⟩
    · exact .inl rfl
    · exact .inr ⟨l, x, rfl, hd⟩
theorem PM.start : PM [] (D1 [] 0) := ⟨RisesL.nil, fun z => ⟨fun h => by simp at h, fun ⟨l, x, _, j, hj, _⟩ => by omega⟩⟩
theorem PM.two {xs : List (List Int)} {D : Int → Int → Prop} (h : PM xs D) : ∀ z ∈ xs, z.length = 2 := fun z hz => by
  obtain ⟨l, x, rfl, _⟩ := (h.2 z).1 hz
  rfl
theorem PM.len {xs : List (List Int)} {D : Int → Int → Prop} (h : PM xs D) (hD : ∀ l x, D l x → (0 ≤ l ∧ l < 40) ∧ (-4 ≤ x ∧ x < 40)) : xs.length ≤ 1760 := by
  have := nodup_le xs (((List.range 40).map fun (a : Nat) => ((List.range 44).map fun (c : Nat) => [(a : Int), (c : Int) - 4])).flatten) (h.1.imp fun h e => by subst e; rw [cmpL_self] at h; omega) fun z hz => by
    obtain ⟨l, x, rfl, hd⟩ := (h.2 z).1 hz
    have hb := hD l x hd
    rw [List.mem_flatten]
    exact ⟨_, List.mem_map.2 ⟨l.toNat, List.mem_range.2 (by omega), rfl⟩, List.mem_map.2 ⟨(x + 4).toNat, List.mem_range.2 (by omega), by rw [show ((l.toNat : Nat) : Int) = l by omega, show (((x + 4).toNat : Nat) : Int) - 4 = x by omega]⟩⟩
  exact Nat.le_trans this (Nat.le_of_eq (by kernel_rfl))
theorem say_two {ds : List Li} {D : Int → Int → Prop} (h : PM (sayL ds) D) : ∀ u ∈ ds, u.r.length = 2 := fun _ hu => h.two _ (sayL_mem hu)

/-- A new slice of lists of which P holds. -/
def GaveLs (w : World) (P : List (List Int) → Prop) (e : Ending) (w' : World) : Prop := ∃ v ds, e = .returned v ∧ LsR w' w.heap.size v ds ∧ P (sayL ds) ∧ Below w.heap.size w w'

theorem D1_sym {s : Bs} (hg : GoodBs s) {k : Nat} {l x : Int} (h : D1 s.O k l x) : (0 ≤ l ∧ l < 40) ∧ (-4 ≤ x ∧ x < 40) := by
  obtain ⟨j, _, e⟩ := h
  have h := dirB_sym hg (N := noS) (l := l) (x := x) (.inl (List.mem_of_getElem? e))
  have h1 := nonB_is h.1
  have h2 := of_decide_eq_true h.2
  have := hg.1
  have := hg.2.1
  omega
theorem D2_sym {s : Bs} (hg : GoodBs s) {N : Int → Bool} {k : Nat} {l x : Int} (h : D2 N s.P s.O k l x) : (0 ≤ l ∧ l < 40) ∧ (-4 ≤ x ∧ x < 40) := by
  have hd : DirB N s.P s.O l x := by
    rcases h with h | ⟨j, y, hj, ⟨e, hn⟩ | ⟨e, hn⟩⟩
    · exact .inl h
    · exact .inr (.inl ⟨y, List.mem_of_getElem? e, hn⟩)
    · exact .inr (.inr ⟨y, List.mem_of_getElem? e, hn⟩)
  have h := dirB_sym hg hd
  have h1 := nonB_is h.1
  have h2 := of_decide_eq_true h.2
  have := hg.1
  have := hg.2.1
  omega

theorem E1_both {N : Int → Bool} {P O : List (List Int)} {k : Nat} {l y z : Int} (hD : ∀ l' x', D2 N P O (k + 1) l' x' ↔ ((x' = y ∧ l' = l ∧ N z = true) ∨ (x' = z ∧ l' = l ∧ N y = true)) ∨ D2 N P O k l' x') (l' x' : Int) : D2 N P O (k + 1) l' x' ↔ E1 (E1 (D2 N P O k) (N z) y l) (N y) z l l' x' := by
  rw [hD]
  unfold E1
  constructor
  · rintro ((h | h) | h)
    · exact .inr (.inl h)
    · exact .inl h
    · exact .inr (.inr h)
  · rintro (h | h | h)
    · exact .inl (.inr h)
    · exact .inl (.inl h)
    · exact .inr h

set_option maxRecDepth 20000 in
set_option maxHeartbeats 800000 in
theorem l6Pairs_any (b : Bi) (w : World) (hx : ReadB w w.heap.size b) (hm : LenB 1048576 b) (hg : GoodBs b.say) :
    Calls Tryd.prog 76 #[(.agg #[.int .i64 b.n, .int .i64 b.t, .slice b.Ap b.P.length b.cp, .slice b.Ao b.O.length b.co, .slice b.Ae b.E.length b.ce, .slice b.Af b.F.length b.cf])] w (GaveLs w (PPairs b.say)) := by
  have HX := Lib.hid hx; clear hx
  have HM := Lib.hid hm
  have HG := Lib.hid hg; clear hg
  have hP := hm.p
  have hO := hm.o
  clear hm
  have HB0 : Hid (Below w.heap.size w (w.alloc (.cells #[.int .i64 b.n, .int .i64 b.t, .slice b.Ap b.P.length b.cp, .slice b.Ao b.O.length b.co, .slice b.Ae b.E.length b.ce, .slice b.Af b.F.length b.cf] 29))) := by show Below _ _ _; go_grown
  have B0 := Lib.hid (Box6.new w b 29)
  go_enter Tryd.func76, Tryd.ntmps76
  go_wp2_with fail
  generalize w.alloc (.cells #[.int .i64 b.n, .int .i64 b.t, .slice b.Ap b.P.length b.cp, .slice b.Ao b.O.length b.co, .slice b.Ae b.E.length b.ce, .slice b.Af b.F.length b.cf] 29) = W at HB0 B0 ⊢
  refine (l5Null_any b W ((HX.out.keep HB0.out).more HB0.out.size) HM.out HG.out).mono ?_
  rintro e w1 ⟨v1, ns, rfl, ⟨hnr, hnf, hN⟩, hO1, hB1⟩
  obtain ⟨A1, cn1, rfl, hO1i, hc1⟩ := own_slice (ys := ns) hO1
  have hs0 := HB0.out.size
  have HNI := Lib.hid hO1i.ints
  have HN : Hid (IsLeast wayNull noS (bRules b.say.P b.say.O b.say.E) (setL ns)) := hN
  have hnl : ns.length ≤ 40 := len6 (S := setL ns) (hnr.imp fun h => by omega) (fun x hx => by simpa [setL] using hx) (fun x hx => hnf x (by simpa [setL] using hx))
  have HNF := Lib.hid hnf
  have HB1 := Lib.hid (HB0.out.trans (hB1.mono hs0))
  have B1 := Lib.hid (B0.out.keep hB1 B0.out.1)
  have hs1 := HB1.out.size
  clear hO1 hO1i hN hnr hnf hB1 B0 HB0 hs0 hc1
  obtain ⟨_, _, _, _, b3, _, _⟩ := B1.out
  go_wp2
  clear b3
  go_loopw [4, 14] (fun v i wr => ∃ (k : Nat) (ds : List Li), k ≤ b.O.length ∧ i = .int .i64 k ∧ Hid (Below w1.heap.size w1 wr) ∧ Hid (LsR wr w.heap.size v ds) ∧ Hid (PM (sayL ds) (D1 b.say.O k))) (fun _ i _ => b.O.length - (intOf i).toNat)
  case atStart => exact ⟨0, [], by omega, rfl, Below.refl _ _, LsR.start _ _, PM.start.congr fun l x => ⟨fun ⟨j, hj, _⟩ => by omega, fun ⟨j, hj, _⟩ => by omega⟩⟩
  case round =>
    obtain ⟨k, ds, hk, rfl, HB, HL, HP⟩ := hrel
    by_cases hlt : k < b.O.length
    · have hws := HB.out.size
      have HBR : Hid (Below w.heap.size w wr) := HB1.out.trans (HB.out.mono hs1)
      obtain ⟨bb, oo, eA, hbb, d1, hcap, hI⟩ := (HX.out.2.1.keep HBR.out).at_ hlt
      have hsay : b.say.O[k]? = some b.O[k].r := sayL_at hlt
      obtain ⟨l, x, er, hnl', hsx⟩ := good_one HG.out hsay
      rw [er] at hI hsay d1 hcap
      have HIW := Lib.hid (hI.more HBR.out.size)
      have HD := Lib.hid (D1_step hsay)
      rw [eA]
      clear hI er eA hsay hnl' hsx
      generalize b.O[k] = u at d1 HIW hcap
      obtain ⟨ua, ur, uc⟩ := u
      dsimp only at d1 HIW hcap
      have HCO := Lib.hid (l1OwnW_any ua [l, x] uc wr HIW.out (by simp))
      go_wp2_with fail
      refine HCO.out.mono ?_
      rintro e w2 ⟨v2, rfl, hO2, hB2⟩
      obtain ⟨A2, c2, rfl, hO2i, hc2⟩ := own_slice (ys := [l, x]) hO2
      have HL2 := Lib.hid (HL.out.keep hB2)
      have HB2 := Lib.hid (HB.out.trans (hB2.mono hws))
      have HI2 := Lib.hid hO2i
      have HAP2 := Lib.hid (HL.out.apart hO2i)
      have hs2 := HB2.out.size
      clear hO2 hO2i hB2 HCO HIW
      have hlen := HP.out.len fun l x h => D1_sym HG.out h
      rw [sayL_len] at hlen
      go_wp2_with fail
      refine (l5Insert_any w.heap.size _ ds A2 [l, x] c2 w2 HL2.out HP.out.1 (HI2.out.lower (by omega)) HAP2.out hc2 (say_two HP.out) (by simp) (by omega) (by omega)).mono ?_
      rintro e w3 ⟨v3, ds3, rfl, hL3, hr3, hm3, hl3, hB3⟩
      have HP3 : Hid (PM (sayL ds3) (D1 b.say.O (k + 1))) := (HP.out.ins hr3 hm3).congr fun l' x' => (HD.out l' x').trans (E1_true l' x').symm
      have HL3 := Lib.hid hL3
      have HB3 := Lib.hid (HB2.out.trans (hB3.mono hs2))
      clear hL3 hr3 hm3 hB3
      go_wp2
      go_roundw
      case rel => exact ⟨k + 1, ds3, by omega, by go_num, HB3.out, HL3.out, HP3.out⟩
      case measure => simp [intOf]; omega
    · obtain rfl : k = b.O.length := by omega
      have HBR : Hid (Below w.heap.size w wr) := HB1.out.trans (HB.out.mono hs1)
      have B4 := Lib.hid (B1.out.keep HB.out B1.out.1)
      have HP0 : Hid (PM (sayL ds) (D2 (setL ns) b.say.P b.say.O 0)) := by
        have h := HP.out
        rw [show b.O.length = b.say.O.length from sayL_len.symm] at h
        refine h.congr fun l x => ⟨fun h => ?_, fun ⟨j, _, e⟩ => .inl (List.mem_of_getElem? e)⟩
        rcases h with h | ⟨j, y, hj, _⟩
        · obtain ⟨j, e⟩ := List.mem_iff_getElem?.1 h
          exact ⟨j, (List.getElem?_eq_some_iff.1 e).1, e⟩
        · omega
      obtain ⟨_, _, _, b2, _, _, _⟩ := B4.out
      obtain ⟨wA, hwA⟩ : ∃ x, x = wr := ⟨_, rfl⟩
      subst hwA
      obtain ⟨fs, hfs⟩ : ∃ x, x = ds := ⟨_, rfl⟩
      subst hfs
      go_wp2
      clear b2 HP
      go_loopw [4, 26] (fun v i wr => ∃ (k : Nat) (ds : List Li), k ≤ b.P.length ∧ i = .int .i64 k ∧ Hid (Below w1.heap.size w1 wr) ∧ Hid (LsR wr w.heap.size v ds) ∧ Hid (PM (sayL ds) (D2 (setL ns) b.say.P b.say.O k))) (fun _ i _ => b.P.length - (intOf i).toNat)
      case atStart => exact ⟨0, fs, by omega, rfl, HB.out, HL.out, HP0.out⟩
      case round =>
        clear HP0 HB HL HBR B4
        obtain ⟨k, ds, hk, rfl, HB, HL, HP⟩ := hrel
        by_cases hlt : k < b.P.length
        · have hws := HB.out.size
          have HBR : Hid (Below w.heap.size w wr) := HB1.out.trans (HB.out.mono hs1)
          obtain ⟨bb, oo, eA, hbb, d1, hcap, hI⟩ := (HX.out.1.keep HBR.out).at_ hlt
          have hsay : b.say.P[k]? = some b.P[k].r := sayL_at hlt
          obtain ⟨l, y, z, er, hnl', hsy, hsz⟩ := good_pair HG.out hsay
          rw [er] at hI hsay d1
          have HIW := Lib.hid hI
          obtain ⟨pp, po, ea, hpp, c0, c1, c2⟩ := ints_three_lt hI
          have HD := Lib.hid (D2_step (N := setL ns) (O := b.say.O) hsay)
          have HSL : Hid ((0 ≤ l ∧ l < 40) ∧ (-4 ≤ y ∧ y < 40) ∧ (-4 ≤ z ∧ z < 40)) := by
            have h1 := nonB_is hnl'
            have h2 := of_decide_eq_true hsy
            have h3 := of_decide_eq_true hsz
            have := HG.out.1
            have := HG.out.2.1
            show _ ∧ _
            omega
          rw [eA]
          clear hI er eA hsay hnl' hsy hsz
          generalize b.P[k] = u at d1 hcap ea
          obtain ⟨ua, ur, uc⟩ := u
          dsimp only at d1 hcap ea
          subst ea
          have HDS_1 : Hid (∀ l' x', D2 (setL ns) b.say.P b.say.O k l' x' → (0 ≤ l' ∧ l' < 40) ∧ (-4 ≤ x' ∧ x' < 40)) := fun l' x' h => D2_sym HG.out h
          have HDS_2 : Hid (∀ l' x', E1 (D2 (setL ns) b.say.P b.say.O k) (setL ns z) y l l' x' → (0 ≤ l' ∧ l' < 40) ∧ (-4 ≤ x' ∧ x' < 40)) := fun l' x' h => by
            rcases h with ⟨rfl, rfl, _⟩ | h
            · exact ⟨HSL.out.1, HSL.out.2.1⟩
            · exact D2_sym HG.out h
          go_upto_region 11 with fail
          go_cut [40, 71] from 30 (fun v s71 wx => v = .bool (setL ns z) ∧ s71 = undef ∧ wx = wr)
          case first =>
            by_cases hneg : z < 0
            · have HF : Hid (setL ns z = false) := by
                cases h : setL ns z
                · rfl
                · have := HNF.out z (by simpa [setL] using h)
                  omega
              go_wp2_with fail
              go_meet
              case rel => exact ⟨by rw [HF.out], rfl, rfl⟩
            · have HC : Hid (Calls Tryd.prog 91 #[.slice A1 ns.length cn1, .int .i64 z] wr fun e w' => e = .returned (.bool (setL ns z)) ∧ w' = wr) := l1Has6_any A1 ns cn1 z wr ((HNI.out.keep HB.out).more HB.out.size) hnl
              go_wp2_with fail
              refine HC.out.mono ?_
              rintro e w5 ⟨rfl, rfl⟩
              go_wp2_with fail
              go_meet
              case rel => exact ⟨rfl, rfl, rfl⟩
          case rest =>
            obtain ⟨rfl, rfl, hwc⟩ := hcut
            have hwc' := hwc.symm
            subst hwc'
            go_upto_if 40 with fail
            go_cut [4, 71] from 40 (fun v s71 wy => s71 = undef ∧ ∃ es : List Li, Hid (LsR wy w.heap.size v es) ∧ Hid (PM (sayL es) (E1 (D2 (setL ns) b.say.P b.say.O k) (setL ns z) y l)) ∧ Hid (Below wr.heap.size wr wy))
            case first =>
              cases hnz : setL ns z
              · have HPN : Hid (PM (sayL ds) (E1 (D2 (setL ns) b.say.P b.say.O k) (setL ns z) y l)) := by rw [hnz]; exact HP.out.congr fun l' x' => by simp [E1]
                go_wp2_with fail
                go_meet
                case rel => exact ⟨rfl, ds, HL.out, HPN.out, Below.refl _ _⟩
              · have HBA : Hid (Below wr.heap.size wr (wr.drew.alloc (.cells #[.int .i64 l, .int .i64 y] 3))) := ((Below.refl _ _).drew).alloc (Nat.le_refl _) _
                have HLA := Lib.hid (HL.out.keep HBA.out)
                have HOA := Lib.hid (own_newP2 wr.drew l y)
                have hlen := HP.out.len fun l' x' h => HDS_1.out l' x' h
                rw [sayL_len] at hlen
                have hsx := HB.out.size
                have HC := Lib.hid (l5Insert_any w.heap.size _ ds (some ⟨wr.heap.size, 0, none⟩) [l, y] 2 _ HLA.out HP.out.1 (HOA.out.lower (by simp; omega)) (HL.out.apart HOA.out) (by simp) (say_two HP.out) (by simp) (by omega) (by simp; omega))
                have HTR := Lib.hid hnz
                clear hnz
                go_wp2_with fail
                go_region_law (first
                  | (go_simp
                     go_at_call 113
                     refine HC.out.mono ?_
                     rintro e w6 ⟨v6, es, rfl, hL6, hr6, hm6, hl6, hB6⟩
                     have HP6 : Hid (PM (sayL es) (E1 (D2 (setL ns) b.say.P b.say.O k) (setL ns z) y l)) := by rw [HTR.out]; exact HP.out.ins hr6 hm6
                     have HL6 := Lib.hid hL6
                     have HB6 := Lib.hid (HBA.out.trans (hB6.mono HBA.out.size))
                     clear hL6 hr6 hm6 hB6)
                  | fail)
                all_goals
                  go_wp2_with fail
                  go_meet
                  case rel => exact ⟨rfl, es, HL6.out, HP6.out, HB6.out⟩

            case rest =>
              obtain ⟨rfl, es, HL1, HP1, HBX1⟩ := hcut
              obtain ⟨wy, hwy⟩ : ∃ x, x = wc := ⟨_, rfl⟩
              subst hwy
              have hpw : pp < wr.heap.size := Nat.lt_of_lt_of_le hpp HBR.out.size
              have c0' := (HBX1.out.cell (p := ⟨pp, po, none⟩) hpw).trans c0
              have c1' := (HBX1.out.cell (p := ⟨pp, po + 1, none⟩) hpw).trans c1
              have c2' := (HBX1.out.cell (p := ⟨pp, po + 2, none⟩) hpw).trans c2
              have HBY : Hid (Below w1.heap.size w1 wy) := HB.out.trans (HBX1.out.mono hws)
              clear c0 c1 c2 HL HP HBX1
              go_upto_region 13 with fail
              go_cut [60, 71] from 50 (fun v s71 wx => v = .bool (setL ns y) ∧ s71 = undef ∧ wx = wy)
              case first =>
                by_cases hneg : y < 0
                · have HF : Hid (setL ns y = false) := by
                    cases h : setL ns y
                    · rfl
                    · have := HNF.out y (by simpa [setL] using h)
                      omega
                  go_wp2_with fail
                  go_meet
                  case rel => exact ⟨by rw [HF.out], rfl, rfl⟩
                · have HC : Hid (Calls Tryd.prog 91 #[.slice A1 ns.length cn1, .int .i64 y] wy fun e w' => e = .returned (.bool (setL ns y)) ∧ w' = wy) := l1Has6_any A1 ns cn1 y wy ((HNI.out.keep HBY.out).more HBY.out.size) hnl
                  go_wp2_with fail
                  refine HC.out.mono ?_
                  rintro e w5 ⟨rfl, rfl⟩
                  go_wp2_with fail
                  go_meet
                  case rel => exact ⟨rfl, rfl, rfl⟩
              case rest =>
                obtain ⟨rfl, rfl, hwc⟩ := hcut
                have hwc' := hwc.symm
                subst hwc'
                cases hnz : setL ns y
                · have HPN : Hid (PM (sayL es) (D2 (setL ns) b.say.P b.say.O (k + 1))) := (HP1.out.congr (E := E1 (E1 (D2 (setL ns) b.say.P b.say.O k) (setL ns z) y l) (setL ns y) z l) fun l' x' => by rw [hnz]; simp [E1]).congr (E1_both HD.out)
                  go_wp2_with fail
                  go_roundw
                  case rel => exact ⟨k + 1, es, by omega, by go_num, HBY.out, HL1.out, HPN.out⟩
                  case measure => simp [intOf]; omega
                · have HBA : Hid (Below wy.heap.size wy (wy.drew.alloc (.cells #[.int .i64 l, .int .i64 z] 3))) := ((Below.refl _ _).drew).alloc (Nat.le_refl _) _
                  have HLA := Lib.hid (HL1.out.keep HBA.out)
                  have HOA := Lib.hid (own_newP2 wy.drew l z)
                  have hlen := HP1.out.len fun l' x' h => HDS_2.out l' x' h
                  rw [sayL_len] at hlen
                  have hsx := HBY.out.size
                  have HC := Lib.hid (l5Insert_any w.heap.size _ es (some ⟨wy.heap.size, 0, none⟩) [l, z] 2 _ HLA.out HP1.out.1 (HOA.out.lower (by simp; omega)) (HL1.out.apart HOA.out) (by simp) (say_two HP1.out) (by simp) (by omega) (by simp; omega))
                  have HTR := Lib.hid hnz
                  clear hnz
                  go_wp2_with fail
                  go_region_law (first
                    | (go_simp
                       go_at_call 113
                       refine HC.out.mono ?_
                       rintro e w6 ⟨v6, es, rfl, hL6, hr6, hm6, hl6, hB6⟩
                       have HP6 : Hid (PM (sayL es) (E1 (E1 (D2 (setL ns) b.say.P b.say.O k) (setL ns z) y l) (setL ns y) z l)) := by rw [HTR.out]; exact HP1.out.ins hr6 hm6
                       have HL6 := Lib.hid hL6
                       have HB6 := Lib.hid (HBA.out.trans (hB6.mono HBA.out.size))
                       clear hL6 hr6 hm6 hB6)
                    | fail)
                  all_goals
                    have HBN := Lib.hid (HBY.out.trans (HB6.out.mono HBY.out.size))
                    have HPN : Hid (PM (sayL es) (D2 (setL ns) b.say.P b.say.O (k + 1))) := HP6.out.congr (E1_both HD.out)
                    go_wp2
                    go_roundw
                    case rel => exact ⟨k + 1, es, by omega, by go_num, HBN.out, HL6.out, HPN.out⟩
                    case measure => simp [intOf]; omega
        · obtain rfl : k = b.P.length := by omega
          have HPE : Hid (PPairs b.say (sayL ds)) := ⟨setL ns, HN.out, HP.out.congr fun l x => by
            rw [show b.P.length = b.say.P.length from sayL_len.symm]
            have h := congrFun (congrFun (D2_end (N := setL ns) (P := b.say.P) (O := b.say.O)) x) l
            exact ⟨fun hd => bP_is (h.trans (bP_t hd)), fun hd => bP_is (h.symm.trans (bP_t hd))⟩⟩
          go_wp2
          go_ret
          exact ⟨_, ds, rfl, HL.out, HPE.out, HB1.out.trans (HB.out.mono hs1)⟩

end Go.Proofs.YtgnpgehekfhedaaDoor

/- The reference's l1Has and l1Put at lists of up to a thousand numbers. -/

namespace Go.Proofs.YtgnpgehekfhedaaDoor
open Go.RowKit

set_option maxRecDepth 20000 in
set_option maxHeartbeats 400000 in
theorem l1HasW_any (A : Option Addr) (xs : List Int) (c : Nat) (n : Int) (w : World) (hx : Ints w w.heap.size A xs) (h1 : xs.length ≤ 1000) :
    Calls Tryd.prog 91 #[.slice A xs.length c, .int .i64 n] w fun e w' => e = .returned (.bool (xs.contains n)) ∧ w' = w := by
  have HX := Lib.hid hx; clear hx
  go_enter Tryd.func91, Tryd.ntmps91
  go_wp2
  go_loopw [9] (fun i wr => ∃ (k : Nat), k ≤ xs.length ∧ i = .int .i64 k ∧ wr = w ∧ Hid (∀ (j : Nat) (x : Int), j < k → xs[j]? = some x → x ≠ n)) (fun i _ => xs.length - (intOf i).toNat)
  case atStart => exact ⟨0, by omega, rfl, rfl, fun j x h => absurd h (by omega)⟩
  case round =>
    obtain ⟨k, hk, rfl, rfl, H⟩ := hrel
    by_cases hlt : k < xs.length
    · obtain ⟨p, o, rfl, hb, c1⟩ := HX.out.at_ hlt
      by_cases he : xs[k] = n
      · have HE : Hid (xs.contains n = true) := by
          show _ = _
          rw [List.contains_iff_mem]
          exact he ▸ List.getElem_mem hlt
        have ht := beq_t he
        clear he
        go_wp2
        go_ret
        exact ⟨ret_bool HE.out.symm, rfl⟩
      · have HE := Lib.hid (upto_step (Q := fun x => x ≠ n) hlt he H.out)
        have ht := beq_f he
        clear he
        go_wp2
        go_roundw
        case rel => exact ⟨k + 1, by omega, by go_num, by simp, HE.out⟩
        case measure => simp [intOf]; omega
    · have HE : Hid (xs.contains n = false) := by
        show _ = _
        cases h : xs.contains n
        · rfl
        · rw [List.contains_iff_mem] at h
          obtain ⟨j, hj⟩ := List.mem_iff_getElem?.1 h
          exact absurd rfl (H.out j n (by have := (List.getElem?_eq_some_iff.1 hj).1; omega) hj)
      go_wp2
      go_ret
      exact ⟨ret_bool HE.out.symm, rfl⟩

set_option maxRecDepth 20000 in
set_option maxHeartbeats 1000000 in
theorem l1PutW_any (lo : Nat) (v : Value) (xs : List Int) (n : Int) (w : World) (hv : OwnV w lo v xs) (hr : Rises xs) (hn : n ∉ xs) (h1 : xs.length ≤ 1000) :
    Calls Tryd.prog 114 #[v, .int .i64 n] w (PutOne w xs n) := by
  obtain ⟨i0, hi0, hz0, hz1, hz2⟩ := info_of Tryd.infoInt
  rcases hv.2 with ⟨rfl, h0⟩ | ⟨g, c, cur, rfl, hlo, hb, hc, hm, h3, h4⟩
  · have e : xs = [] := List.eq_nil_of_length_eq_zero h0
    subst e
    clear hv hr hn h0 h1
    have HE0 := Lib.hid (own_empty w)
    have HB0 : Hid (Below w.heap.size w (w.alloc (.cells #[] 3))) := (Below.refl w.heap.size w).alloc (Nat.le_refl _) _
    go_enter Tryd.func114, Tryd.ntmps114
    go_wp2
    refine wp_loop_rounds 1 ?_
    rw [rounds_succ]
    have HA1 := Lib.hid (HE0.out.alloc (.cells #[.int .i64 n] 3))
    have hnew := cell_one_new (w.alloc (.cells #[] 3)) (.int .i64 n) 3
    rw [World.size_alloc] at hnew
    have HN2 := Lib.hid hnew; clear hnew
    go_wp2_with (first
      | (at_builtin
         refine append_nil_at rfl (.tmp 34) (.tmp 37) _ rfl w.heap.size 3 i0 1 Tryd.underlying27 hi0 _ _ _ rfl HE0.out 0 rfl ?_)
      | (at_builtin
         refine wpList_append_own _ rfl (.tmp 39) (.tmp 41) _ rfl w.heap.size 3 i0 _ 1 8 Tryd.underlying27 hi0 hz0 hz1 hz2 rfl (by omega) _ _ _ rfl HA1.out ⟨w.heap.size + 1, 0, none⟩ 1 1 [.int .i64 n] rfl rfl HN2.out (by intro u hu; simp at hu; subst hu; rfl) (by unfold maxLen; omega) (by omega) (by simp; omega) ?_
         intro v2 w2 h1 h2 h3
         have HB2 : Hid (Below w.heap.size w w2) := (HB0.out.alloc HB0.out.size _).grown h2 (by simp; omega) fun j hj => (HE0.out.lt j hj).1
         have HO2 := Lib.hid h1
         clear h1 h2 h3)
      | (at_builtin
         refine append_nil_at rfl (.tmp 43) (.tmp 46) _ rfl w.heap.size 3 i0 1 Tryd.underlying27 hi0 _ _ _ rfl HO2.out 0 rfl ?_))
    go_ret
    refine ⟨v2, [n], rfl, by simp [Rises], fun x => by simp, rfl, HO2.out, HB2.out⟩
  obtain ⟨A, c', e', hc', hx⟩ := hv.shape
  injection e' with e1 _ e3
  subst e1 e3
  obtain ⟨p, o, hpo⟩ : ∃ p o, (⟨g, 0, none⟩ : Addr) = ⟨p, o, none⟩ := ⟨_, _, rfl⟩
  rw [hpo] at hx ⊢
  clear hv hlo hb h3 h4 hc' hpo
  unfold maxLen at hm
  have HX := Lib.hid hx; clear hx
  have HR := Lib.hid hr; clear hr
  have HN := Lib.hid hn; clear hn
  go_enter Tryd.func114, Tryd.ntmps114
  go_wp2
  go_loopw [5] (fun i wr => ∃ (k : Nat), k ≤ xs.length ∧ i = .int .i64 k ∧ wr = w ∧ Hid (∀ (j : Nat) (x : Int), j < k → xs[j]? = some x → x < n)) (fun i _ => xs.length - (intOf i).toNat)
  case atStart => exact ⟨0, by omega, rfl, rfl, fun j x h => absurd h (by omega)⟩
  case round =>
    obtain ⟨k, hk, rfl, rfl, H⟩ := hrel
    by_cases hlt : k < xs.length
    · have c1 : wr.cell? ⟨p, o + k, none⟩ = some (.int .i64 xs[k]) := by
        obtain ⟨p', o', e, _, h⟩ := HX.out.at_ hlt
        injection e with e
        injection e with e1 e2
        subst e1 e2
        exact h
      by_cases hl : xs[k] < n
      · have HE := Lib.hid (upto_step (Q := fun x => x < n) hlt hl H.out)
        go_wp2
        go_roundw
        case rel => exact ⟨k + 1, by omega, by go_num, by simp, HE.out⟩
        case measure => simp [intOf]; omega
      · have hne : xs[k] ≠ n := fun e => HN.out (e ▸ List.getElem_mem hlt)
        have hq := beq_f hne
        have HP := Lib.hid (rises_put (k := k) HR.out H.out fun x hx => by
          rw [List.getElem?_eq_getElem hlt] at hx
          injection hx with hx
          omega)
        clear hne
        have HN1 : Hid (∀ (j : Nat) (u : Value), (vals (xs.take k))[j]? = some u → (wr.alloc (.cells #[] 3)).cell? ((⟨p, o, none⟩ : Addr).add j) = some u) := (((HX.out.take k).keep ((Below.refl wr.heap.size wr).alloc (Nat.le_refl _) _))).src2
        have HE0 := Lib.hid (own_empty wr)
        have HD := Lib.hid (HX.out.drop k)
        have hkl : (xs.take k).length = k := by rw [List.length_take]; omega
        have hdl : (xs.drop k).length = xs.length - k := List.length_drop
        have HKL := Lib.hid hkl; clear hkl
        have HDL := Lib.hid hdl; clear hdl
        go_wp2_with (first
          | (at_builtin
             refine wpList_append_own _ rfl (.tmp 34) (.tmp 37) _ rfl wr.heap.size 3 i0 _ 1 8 Tryd.underlying27 hi0 hz0 hz1 hz2 rfl (by omega) _ _ _ rfl HE0.out ⟨p, o, none⟩ k c (vals (xs.take k)) rfl (by rw [vals_length, HKL.out]; omega) HN1.out (vals_one _) (by unfold maxLen; omega) (by omega) (by simp) ?_
             intro v1 w1 h1 h2 h3
             have HO1 := Lib.hid h1
             have HB1 : Hid (Below wr.heap.size wr w1) := (((Below.refl wr.heap.size wr).alloc (Nat.le_refl _) _)).grown h2 (by simp) fun j hj => (HE0.out.lt j hj).1
             have hs1 : wr.heap.size ≤ w1.heap.size := HB1.out.size
             have HA1 := Lib.hid (h1.alloc (.cells #[.int .i64 n] 3))
             have HN2 := Lib.hid (cell_one_new w1 (.int .i64 n) 3)
             clear h1 h2 h3)
          | (at_builtin
             refine wpList_append_own _ rfl (.tmp 39) (.tmp 41) _ rfl wr.heap.size 3 i0 _ 1 8 Tryd.underlying27 hi0 hz0 hz1 hz2 rfl (by omega) _ _ _ rfl HA1.out ⟨w1.heap.size, 0, none⟩ 1 1 [.int .i64 n] rfl rfl HN2.out (by intro u hu; simp at hu; subst hu; rfl) (by unfold maxLen; omega) (by omega) (by simp; omega) ?_
             intro v2 w2 h1 h2 h3
             have HB2 : Hid (Below wr.heap.size wr w2) := (HB1.out.alloc HB1.out.size _).grown h2 (by simp; omega) fun j hj => (HO1.out.lt j hj).1
             have HO2 := Lib.hid h1
             have hs2 : wr.heap.size ≤ w2.heap.size := HB2.out.size
             have HN3 : Hid (∀ (j : Nat) (u : Value), (vals (xs.drop k))[j]? = some u → w2.cell? ((⟨p, o + k, none⟩ : Addr).add j) = some u) := (HD.out.keep HB2.out).src2
             clear h1 h2 h3)
          | (at_builtin
             refine wpList_append_own _ rfl (.tmp 43) (.tmp 46) _ rfl wr.heap.size 3 i0 _ 1 8 Tryd.underlying27 hi0 hz0 hz1 hz2 rfl (by omega) _ _ _ rfl HO2.out ⟨p, o + k, none⟩ (xs.length - k) (c - k) (vals (xs.drop k)) rfl (by rw [vals_length, HDL.out]; omega) HN3.out (vals_one _) (by unfold maxLen; omega) (by omega) hs2 ?_
             intro v3 w3 h1 h2 h3
             have HB3 : Hid (Below wr.heap.size wr w3) := HB2.out.grown h2 (by omega) fun j hj => (HO2.out.lt j hj).1
             have HO3 := Lib.hid h1
             clear h1 h2 h3))
        go_ret
        refine ⟨v3, xs.take k ++ [n] ++ xs.drop k, rfl, HP.out.1, HP.out.2, by simp; omega, ?_, HB3.out⟩
        show World.ownsRow _ _ _ _ _ _ _
        have e1 : (xs.take k ++ [n] ++ xs.drop k).length = 0 + k + 1 + (xs.length - k) := by simp; omega
        have e2 : vals (xs.take k ++ [n] ++ xs.drop k) = [] ++ vals (xs.take k) ++ [.int .i64 n] ++ vals (xs.drop k) := by simp [vals]
        rw [e1, e2]
        exact HO3.out
    · obtain rfl : k = xs.length := by omega
      have HP := Lib.hid (rises_put (k := xs.length) HR.out H.out fun x hx => by simp at hx)
      have HN1 : Hid (∀ (j : Nat) (u : Value), (vals xs)[j]? = some u → (wr.alloc (.cells #[] 3)).cell? ((⟨p, o, none⟩ : Addr).add j) = some u) := ((HX.out.keep ((Below.refl wr.heap.size wr).alloc (Nat.le_refl _) _))).src2
      have HE0 := Lib.hid (own_empty wr)
      by_cases hcx : c = xs.length
      · subst hcx
        go_wp2_with (first
          | (at_builtin
             refine wpList_append_own _ rfl (.tmp 34) (.tmp 37) _ rfl wr.heap.size 3 i0 _ 1 8 Tryd.underlying27 hi0 hz0 hz1 hz2 rfl (by omega) _ _ _ rfl HE0.out ⟨p, o, none⟩ xs.length xs.length (vals xs) rfl (by rw [vals_length]; omega) HN1.out (vals_one _) (by unfold maxLen; omega) (by omega) (by simp) ?_
             intro v1 w1 h1 h2 h3
             have HO1 := Lib.hid h1
             have HB1 : Hid (Below wr.heap.size wr w1) := (((Below.refl wr.heap.size wr).alloc (Nat.le_refl _) _)).grown h2 (by simp) fun j hj => (HE0.out.lt j hj).1
             have hs1 : wr.heap.size ≤ w1.heap.size := HB1.out.size
             have HA1 := Lib.hid (h1.alloc (.cells #[.int .i64 n] 3))
             have HN2 := Lib.hid (cell_one_new w1 (.int .i64 n) 3)
             clear h1 h2 h3)
          | (at_builtin
             refine wpList_append_own _ rfl (.tmp 39) (.tmp 41) _ rfl wr.heap.size 3 i0 _ 1 8 Tryd.underlying27 hi0 hz0 hz1 hz2 rfl (by omega) _ _ _ rfl HA1.out ⟨w1.heap.size, 0, none⟩ 1 1 [.int .i64 n] rfl rfl HN2.out (by intro u hu; simp at hu; subst hu; rfl) (by unfold maxLen; omega) (by omega) (by simp; omega) ?_
             intro v2 w2 h1 h2 h3
             have HB2 : Hid (Below wr.heap.size wr w2) := (HB1.out.alloc HB1.out.size _).grown h2 (by simp; omega) fun j hj => (HO1.out.lt j hj).1
             have HO2 := Lib.hid h1
             have hs2 : wr.heap.size ≤ w2.heap.size := HB2.out.size
             clear h1 h2 h3)
          | (at_builtin
             refine wpList_append_own _ rfl (.tmp 43) (.tmp 46) _ rfl wr.heap.size 3 i0 _ 1 8 Tryd.underlying27 hi0 hz0 hz1 hz2 rfl (by omega) _ _ _ rfl HO2.out ⟨p, o, none⟩ 0 0 [] rfl rfl (fun j u h => by simp at h) (by simp) (by unfold maxLen; omega) (by omega) hs2 ?_
             intro v3 w3 h1 h2 h3
             have HB3 : Hid (Below wr.heap.size wr w3) := HB2.out.grown h2 (by omega) fun j hj => (HO2.out.lt j hj).1
             have HO3 := Lib.hid h1
             clear h1 h2 h3))
        go_ret
        refine ⟨v3, xs.take xs.length ++ [n] ++ xs.drop xs.length, rfl, HP.out.1, HP.out.2, by simp, ?_, HB3.out⟩
        show World.ownsRow _ _ _ _ _ _ _
        have e1 : (xs.take xs.length ++ [n] ++ xs.drop xs.length).length = 0 + xs.length + 1 + 0 := by simp
        have e2 : vals (xs.take xs.length ++ [n] ++ xs.drop xs.length) = [] ++ vals xs ++ [.int .i64 n] ++ [] := by simp [vals]
        rw [e1, e2]
        exact HO3.out

      · have hcp : ¬ c - xs.length = 0 := by omega
        go_wp2_with (first
          | (at_builtin
             refine wpList_append_own _ rfl (.tmp 34) (.tmp 37) _ rfl wr.heap.size 3 i0 _ 1 8 Tryd.underlying27 hi0 hz0 hz1 hz2 rfl (by omega) _ _ _ rfl HE0.out ⟨p, o, none⟩ xs.length c (vals xs) rfl (by rw [vals_length]; omega) HN1.out (vals_one _) (by unfold maxLen; omega) (by omega) (by simp) ?_
             intro v1 w1 h1 h2 h3
             have HO1 := Lib.hid h1
             have HB1 : Hid (Below wr.heap.size wr w1) := (((Below.refl wr.heap.size wr).alloc (Nat.le_refl _) _)).grown h2 (by simp) fun j hj => (HE0.out.lt j hj).1
             have hs1 : wr.heap.size ≤ w1.heap.size := HB1.out.size
             have HA1 := Lib.hid (h1.alloc (.cells #[.int .i64 n] 3))
             have HN2 := Lib.hid (cell_one_new w1 (.int .i64 n) 3)
             clear h1 h2 h3)
          | (at_builtin
             refine wpList_append_own _ rfl (.tmp 39) (.tmp 41) _ rfl wr.heap.size 3 i0 _ 1 8 Tryd.underlying27 hi0 hz0 hz1 hz2 rfl (by omega) _ _ _ rfl HA1.out ⟨w1.heap.size, 0, none⟩ 1 1 [.int .i64 n] rfl rfl HN2.out (by intro u hu; simp at hu; subst hu; rfl) (by unfold maxLen; omega) (by omega) (by simp; omega) ?_
             intro v2 w2 h1 h2 h3
             have HB2 : Hid (Below wr.heap.size wr w2) := (HB1.out.alloc HB1.out.size _).grown h2 (by simp; omega) fun j hj => (HO1.out.lt j hj).1
             have HO2 := Lib.hid h1
             have hs2 : wr.heap.size ≤ w2.heap.size := HB2.out.size
             clear h1 h2 h3)
          | (at_builtin
             refine wpList_append_own _ rfl (.tmp 43) (.tmp 46) _ rfl wr.heap.size 3 i0 _ 1 8 Tryd.underlying27 hi0 hz0 hz1 hz2 rfl (by omega) _ _ _ rfl HO2.out ⟨p, o + xs.length, none⟩ 0 (c - xs.length) [] rfl rfl (fun j u h => by simp at h) (by simp) (by unfold maxLen; omega) (by omega) hs2 ?_
             intro v3 w3 h1 h2 h3
             have HB3 : Hid (Below wr.heap.size wr w3) := HB2.out.grown h2 (by omega) fun j hj => (HO2.out.lt j hj).1
             have HO3 := Lib.hid h1
             clear h1 h2 h3))
        go_ret
        refine ⟨v3, xs.take xs.length ++ [n] ++ xs.drop xs.length, rfl, HP.out.1, HP.out.2, by simp, ?_, HB3.out⟩
        show World.ownsRow _ _ _ _ _ _ _
        have e1 : (xs.take xs.length ++ [n] ++ xs.drop xs.length).length = 0 + xs.length + 1 + 0 := by simp
        have e2 : vals (xs.take xs.length ++ [n] ++ xs.drop xs.length) = [] ++ vals xs ++ [.int .i64 n] ++ [] := by simp [vals]
        rw [e1, e2]
        exact HO3.out

end Go.Proofs.YtgnpgehekfhedaaDoor

/- The reference's l6Up: a list, and all that stands for one of it. -/

namespace Go.Proofs.YtgnpgehekfhedaaDoor
open Go.RowKit

/-- What pairs say. -/
def DP (ps : List (List Int)) : Int → Int → Prop := fun l x => [l, x] ∈ ps
/-- The list so far: on the way to the least set. -/
structure InU (ps : List (List Int)) (S0 : List Int) (ys : List Int) : Prop where
  rises : Rises ys
  fit : ∀ y ∈ ys, -4 ≤ y ∧ y < 40
  base : ∀ x ∈ S0, x ∈ ys
  sound : ∀ y ∈ ys, ∃ x ∈ S0, Ups (DP ps) x y
theorem InU.start {ps : List (List Int)} {S0 : List Int} (hr : Rises S0) (hf : ∀ y ∈ S0, -4 ≤ y ∧ y < 40) : InU ps S0 S0 := ⟨hr, hf, fun _ h => h, fun y h => ⟨y, h, Ups.refl _ _⟩⟩
theorem InU.put {ps : List (List Int)} {S0 xs ys : List Int} (h : InU ps S0 xs) {l x : Int} (hr : Rises ys) (hm : ∀ y, y ∈ ys ↔ y = l ∨ y ∈ xs) (hd : [l, x] ∈ ps) (hx : x ∈ xs) (hl : -4 ≤ l ∧ l < 40) : InU ps S0 ys :=
  ⟨hr, fun y hy => ((hm y).1 hy).elim (fun e => e ▸ hl) (h.fit y), fun y hy => (hm y).2 (.inr (h.base y hy)), fun y hy => by
    rcases (hm y).1 hy with rfl | hy
    · obtain ⟨z, hz, hu⟩ := h.sound x hx
      exact ⟨z, hz, hu.step hd⟩
    · exact h.sound y hy⟩
theorem InU.len {ps : List (List Int)} {S0 ys : List Int} (h : InU ps S0 ys) : ys.length ≤ 44 := by
  have := nodup_le ys ((List.range 44).map fun (k : Nat) => (k : Int) - 4) (h.rises.imp fun h => by omega) fun x hx => by
    have h := h.fit x hx
    exact List.mem_map.2 ⟨(x + 4).toNat, List.mem_range.2 (by omega), by omega⟩
  simpa using this
/-- What the first k pairs add is there. -/
def UpTo (ys : List Int) (ls : List Li) (k : Nat) : Prop := ∀ (j : Nat) (u : Li), j < k → ls[j]? = some u → ∀ l x, u.r = [l, x] → x ∈ ys → l ∈ ys
theorem UpTo.zero (ys : List Int) (ls : List Li) : UpTo ys ls 0 := fun j u h => absurd h (by omega)
theorem UpTo.step {ys : List Int} {ls : List Li} {k : Nat} (h : UpTo ys ls k) {u : Li} (hu : ls[k]? = some u) (h2 : ∀ l x, u.r = [l, x] → x ∈ ys → l ∈ ys) : UpTo ys ls (k + 1) := fun j v hj hv => by
  by_cases e : j = k
  · subst e; rw [hu] at hv; injection hv with hv; subst hv; exact h2
  · exact h j v (by omega) hv
theorem InU.done {ls : List Li} {S0 ys : List Int} (h : InU (sayL ls) S0 ys) (hc : UpTo ys ls ls.length) : IsUp (DP (sayL ls)) (setL S0) (setL ys) := by
  refine ⟨fun x hx => setL_iff.2 (h.base x (setL_iff.1 hx)), fun l x hd hx => ?_, fun S' h0 hs x hx => ?_⟩
  · obtain ⟨u, hu, e⟩ := List.mem_map.1 hd
    obtain ⟨k, hk, ek⟩ := List.getElem_of_mem hu
    exact setL_iff.2 (hc k u hk (by rw [← ek]; exact List.getElem?_eq_getElem hk) l x e (setL_iff.1 hx))
  · obtain ⟨z, hz, hu⟩ := h.sound x (setL_iff.1 hx)
    exact hu (fun y => S' y = true) (h0 z (setL_iff.2 hz)) hs

set_option maxRecDepth 20000 in
set_option maxHeartbeats 1000000 in
theorem l6Up_any (A Al : Option Addr) (ds : List Li) (xs : List Int) (c cl : Nat) (w : World) (hP : Lls w w.heap.size A ds) (h2 : ∀ u ∈ ds, ∃ l x, u.r = [l, x] ∧ (0 ≤ l ∧ l < 40) ∧ (-4 ≤ x ∧ x < 40)) (hx : Ints w w.heap.size Al xs) (hr : Rises xs) (hf : ∀ x ∈ xs, -4 ≤ x ∧ x < 40) (hdl : ds.length ≤ 4000) :
    Calls Tryd.prog 82 #[.slice A ds.length c, .slice Al xs.length cl] w (GaveV w fun ys => Rises ys ∧ (∀ y ∈ ys, -4 ≤ y ∧ y < 40) ∧ IsUp (DP (sayL ds)) (setL xs) (setL ys)) := by
  have HP := Lib.hid hP; clear hP
  have H2 := Lib.hid h2; clear h2
  have HI0 : Hid (InU (sayL ds) xs xs) := InU.start hr hf
  have hxl := HI0.out.len
  have HC := Lib.hid (l1OwnW_any Al xs cl w hx (by omega))
  clear hx hr hf
  go_enter Tryd.func82, Tryd.ntmps82
  go_wp2_with fail
  refine HC.out.mono ?_
  rintro e w1 ⟨v1, rfl, hO1, hB1⟩
  have HV1 : Hid (OwnV w1 w.heap.size v1 xs) := hO1
  have HB1 := Lib.hid hB1
  clear hO1 hB1 HC
  go_wp2
  go_loopg [5, 6] (2 * (44 - xs.length) + 1) (fun g v m wr => ∃ (more : Bool) (ys : List Int), m = .bool more ∧ g + 2 * ys.length = 88 + (if more then 1 else 0) ∧ Hid (OwnV wr w.heap.size v ys) ∧ Hid (InU (sayL ds) xs ys) ∧ Hid (Below w.heap.size w wr) ∧ Hid (more = false → UpTo ys ds ds.length))
  case atStart => exact ⟨true, xs, rfl, by simp; omega, HV1.out, HI0.out, HB1.out, fun h => by cases h⟩
  case round =>
    clear HV1 HB1 HI0
    obtain ⟨more, ys, rfl, hgk, HV, HI, HB, HC⟩ := hrel
    have hl44 := HI.out.len
    cases more
    · have HD := Lib.hid (HI.out.done (HC.out rfl))
      go_wp2
      go_ret
      exact ⟨_, ys, rfl, ⟨HI.out.rises, HI.out.fit, HD.out⟩, HV.out, HB.out⟩
    · rw [if_pos rfl] at hgk
      clear HC
      obtain ⟨wO, hwO⟩ : ∃ x, x = wr := ⟨_, rfl⟩
      subst hwO
      go_wp2
      go_loopw [5, 6, 14] (fun v m i wr => ∃ (k : Nat) (more : Bool) (zs : List Int), k ≤ ds.length ∧ i = .int .i64 k ∧ m = .bool more ∧ Hid (OwnV wr w.heap.size v zs) ∧ Hid (InU (sayL ds) xs zs) ∧ Hid (Below w.heap.size w wr) ∧ Hid (more = true → ys.length < zs.length) ∧ Hid (more = false → zs = ys ∧ UpTo zs ds k)) (fun _ _ i _ => ds.length - (intOf i).toNat)
      case atStart => exact ⟨0, false, ys, by omega, rfl, rfl, HV.out, HI.out, HB.out, fun h => (by cases h), fun _ => ⟨rfl, UpTo.zero _ _⟩⟩
      case round =>
        clear HV HB
        obtain ⟨k, more, zs, hk, rfl, rfl, HV, HIZ, HB, HM, HC⟩ := hrel
        by_cases hlt : k < ds.length
        · have hws := HB.out.size
          have hz44 := HIZ.out.len
          obtain ⟨Av, cv, rfl, hOi, hcv⟩ := own_slice (ys := zs) HV.out
          have HZI := Lib.hid hOi.ints
          obtain ⟨bb, oo, eA, hbb, d1, hcap, hI⟩ := (HP.out.keep HB.out).at_ hlt
          obtain ⟨l, x, er, hl, hxr⟩ := H2.out _ (List.getElem_mem hlt)
          have HUK := Lib.hid (List.getElem?_eq_getElem hlt)
          have HMEM : Hid ([l, x] ∈ sayL ds) := by show _ ∈ _; rw [← er]; exact sayL_mem (List.getElem_mem hlt)
          have HER := Lib.hid er
          rw [er] at hI d1 hcap
          obtain ⟨pp, po, ea, c0, c1⟩ := ints_two hI
          rw [eA]
          clear hI eA er hOi
          generalize ds[k] = u at d1 hcap ea HUK HER
          obtain ⟨ua, ur, uc⟩ := u
          dsimp only at d1 hcap ea
          subst ea
          have HC1 : Hid (Calls Tryd.prog 91 #[.slice Av zs.length cv, .int .i64 x] wr fun e w' => e = .returned (.bool (setL zs x)) ∧ w' = wr) := l1HasW_any Av zs cv x wr HZI.out (by omega)
          have HC2 : Hid (Calls Tryd.prog 91 #[.slice Av zs.length cv, .int .i64 l] wr fun e w' => e = .returned (.bool (setL zs l)) ∧ w' = wr) := l1HasW_any Av zs cv l wr HZI.out (by omega)
          go_wp2_with fail
          refine HC1.out.mono ?_
          rintro e w5 ⟨rfl, hw5⟩
          have hw5' := hw5.symm
          subst hw5'
          clear hw5 HC1
          cases hsx : setL zs x
          · have HNX : Hid (x ∉ zs) := fun h => by rw [setL_iff.2 h] at hsx; cases hsx
            have HCN : Hid (more = false → zs = ys ∧ UpTo zs ds (k + 1)) := fun h => ⟨(HC.out h).1, (HC.out h).2.step HUK.out fun l' x' e hx' => by
              rw [HER.out] at e
              simp at e
              exact absurd (e.2 ▸ hx') HNX.out⟩
            clear hsx
            go_wp2
            go_roundw
            case rel => exact ⟨k + 1, more, zs, by omega, by go_num, rfl, HV.out, HIZ.out, HB.out, HM.out, HCN.out⟩
            case measure => simp [intOf]; omega
          · have HYX : Hid (x ∈ zs) := setL_iff.1 hsx
            clear hsx
            go_wp2_with fail
            refine HC2.out.mono ?_
            rintro e w6 ⟨rfl, hw6⟩
            have hw6' := hw6.symm
            subst hw6'
            clear hw6 HC2
            cases hsl : setL zs l
            · have hnl : l ∉ zs := fun h => by rw [setL_iff.2 h] at hsl; cases hsl
              have HCP := Lib.hid (l1PutW_any w.heap.size _ zs l wr HV.out HIZ.out.rises hnl (by omega))
              clear hsl hnl
              go_wp2_with fail
              refine HCP.out.mono ?_
              rintro e w7 ⟨v7, gs, rfl, hr7, hm7, hl7, hO7, hB7⟩
              have HI7 := Lib.hid (HIZ.out.put hr7 hm7 HMEM.out HYX.out (by omega))
              have HV7 : Hid (OwnV w7 w.heap.size v7 gs) := OwnV.lower hO7 hws
              have HB7 := Lib.hid (HB.out.trans (hB7.mono hws))
              have HM7 : Hid (ys.length < gs.length) := by
                show _ < _
                cases more
                · rw [(HC.out rfl).1] at hl7; omega
                · have := HM.out rfl; omega
              clear hr7 hm7 hO7 hB7 HCP
              go_wp2
              go_roundw
              case rel => exact ⟨k + 1, true, gs, by omega, by go_num, rfl, HV7.out, HI7.out, HB7.out, fun _ => HM7.out, fun h => by cases h⟩
              case measure => simp [intOf]; omega
            · have HYL : Hid (l ∈ zs) := setL_iff.1 hsl
              have HCN : Hid (more = false → zs = ys ∧ UpTo zs ds (k + 1)) := fun h => ⟨(HC.out h).1, (HC.out h).2.step HUK.out fun l' x' e _ => by
                rw [HER.out] at e
                simp at e
                exact e.1 ▸ HYL.out⟩
              clear hsl
              go_wp2
              go_roundw
              case rel => exact ⟨k + 1, more, zs, by omega, by go_num, rfl, HV.out, HIZ.out, HB.out, HM.out, HCN.out⟩
              case measure => simp [intOf]; omega
        · obtain rfl : k = ds.length := by omega
          have hz44 := HIZ.out.len
          cases more
          · obtain ⟨e, hc⟩ := HC.out rfl
            subst e
            have HCC := Lib.hid hc
            clear hc
            go_wp2
            go_roundg (2 * (44 - zs.length))
            case measure => omega
            case rel => exact ⟨false, zs, rfl, by simp; omega, HV.out, HIZ.out, HB.out, fun _ => HCC.out⟩
          · have hlz := HM.out rfl
            go_wp2
            go_roundg (2 * (44 - zs.length) + 1)
            case measure => omega
            case rel => exact ⟨true, zs, rfl, by simp; omega, HV.out, HIZ.out, HB.out, fun h => by cases h⟩

end Go.Proofs.YtgnpgehekfhedaaDoor

/- The reference's l6Row. -/

namespace Go.Proofs.YtgnpgehekfhedaaDoor
open Go.RowKit

theorem DP_eq {ps : List (List Int)} {D : Int → Int → Prop} (h : ∀ z, z ∈ ps ↔ ∃ l x, z = [l, x] ∧ D l x) : DP ps = D := by
  funext l x
  refine propext ((h [l, x]).trans ⟨fun ⟨l', x', e, hd⟩ => ?_, fun hd => ⟨l, x, rfl, hd⟩⟩)
  simp at e
  rw [e.1, e.2]
  exact hd
theorem pairs_fit {s : Bs} (hg : GoodBs s) {ds : List Li} {N : Int → Bool} (h : ∀ z, z ∈ sayL ds ↔ ∃ l x, z = [l, x] ∧ DirB N s.P s.O l x) : ∀ u ∈ ds, ∃ l x, u.r = [l, x] ∧ (0 ≤ l ∧ l < 40) ∧ (-4 ≤ x ∧ x < 40) := fun u hu => by
  obtain ⟨l, x, e, hd⟩ := (h u.r).1 (sayL_mem hu)
  refine ⟨l, x, e, ?_⟩
  have h1 := dirB_sym hg hd
  have h2 := nonB_is h1.1
  have h3 := of_decide_eq_true h1.2
  have := hg.1
  have := hg.2.1
  omega
theorem PPairs.len {s : Bs} (hg : GoodBs s) {xs : List (List Int)} (h : PPairs s xs) : xs.length ≤ 1760 := by
  obtain ⟨N, _, h2, h3⟩ := h
  refine PM.len (D := DirB N s.P s.O) ⟨h2, h3⟩ fun l x hd => ?_
  have h1 := dirB_sym hg hd
  have h2 := nonB_is h1.1
  have h3 := of_decide_eq_true h1.2
  have := hg.1
  have := hg.2.1
  omega

/-- Those of a list that are no tokens. -/
def nnK (ys : List Int) (k : Nat) : List Int := (ys.take k).filter fun y => decide (0 ≤ y)
theorem nnK_yes {ys : List Int} {k : Nat} (hk : k < ys.length) (h : 0 ≤ ys[k]) : nnK ys (k + 1) = nnK ys k ++ [ys[k]] := by
  unfold nnK
  rw [List.take_succ_eq_append_getElem hk, List.filter_append]
  simp [h]
theorem nnK_no {ys : List Int} {k : Nat} (hk : k < ys.length) (h : ¬ 0 ≤ ys[k]) : nnK ys (k + 1) = nnK ys k := by
  unfold nnK
  rw [List.take_succ_eq_append_getElem hk, List.filter_append]
  simp [h]
theorem nnK_len (ys : List Int) (k : Nat) : (nnK ys k).length ≤ k := Nat.le_trans (List.length_filter_le _ _) (by rw [List.length_take]; omega)
theorem nnK_end {ys : List Int} (hr : Rises ys) : Rises (nnK ys ys.length) ∧ ∀ y, y ∈ nnK ys ys.length ↔ y ∈ ys ∧ 0 ≤ y := by
  unfold nnK
  rw [List.take_length]
  exact ⟨List.Pairwise.sublist List.filter_sublist hr, fun y => by rw [List.mem_filter, decide_eq_true_iff]⟩

set_option maxRecDepth 20000 in
set_option maxHeartbeats 600000 in
theorem l6Row_any (b : Bi) (x : Int) (w : World) (hx : ReadB w w.heap.size b) (hm : LenB 1048576 b) (hg : GoodBs b.say) (hsx : symB b.n b.t x = true) :
    Calls Tryd.prog 88 #[(.agg #[.int .i64 b.n, .int .i64 b.t, .slice b.Ap b.P.length b.cp, .slice b.Ao b.O.length b.co, .slice b.Ae b.E.length b.ce, .slice b.Af b.F.length b.cf]), .int .i64 x] w (GaveV w fun ys => Rises ys ∧ (∀ y ∈ ys, 0 ≤ y ∧ y < 40) ∧ PUp b.say (fun D => rowOf D x) (setL ys)) := by
  obtain ⟨i0, hi0, hz0, hz1, hz2⟩ := info_of Tryd.infoInt
  have HX := Lib.hid hx; clear hx
  have HM := Lib.hid hm; clear hm
  have HG := Lib.hid hg; clear hg
  have hxb : -4 ≤ x ∧ x < 40 := by
    have h := of_decide_eq_true hsx
    have := HG.out.1
    have := HG.out.2.1
    have e1 : b.say.n = b.n := rfl
    have e2 : b.say.t = b.t := rfl
    omega
  clear hsx
  have HB0 : Hid (Below w.heap.size w (w.alloc (.cells #[.int .i64 b.n, .int .i64 b.t, .slice b.Ap b.P.length b.cp, .slice b.Ao b.O.length b.co, .slice b.Ae b.E.length b.ce, .slice b.Af b.F.length b.cf] 29))) := by show Below _ _ _; go_grown
  go_enter Tryd.func88, Tryd.ntmps88
  go_wp2_with fail
  generalize w.alloc (.cells #[.int .i64 b.n, .int .i64 b.t, .slice b.Ap b.P.length b.cp, .slice b.Ao b.O.length b.co, .slice b.Ae b.E.length b.ce, .slice b.Af b.F.length b.cf] 29) = W at HB0 ⊢
  refine (l6Pairs_any b W ((HX.out.keep HB0.out).more HB0.out.size) HM.out HG.out).mono ?_
  rintro e w1 ⟨v1, ds, rfl, hL1, hP1, hB1⟩
  have hdl := hP1.len HG.out
  rw [sayL_len] at hdl
  obtain ⟨N, hN, _, hmem⟩ := hP1
  have HN := Lib.hid hN
  have HFIT := Lib.hid (pairs_fit HG.out hmem)
  have HDP := Lib.hid (DP_eq hmem)
  obtain ⟨A1, c1, rfl, _, hLl, _⟩ := hL1.shape
  have hs0 := HB0.out.size
  have HB1 := Lib.hid (HB0.out.trans (hB1.mono hs0))
  have HBA : Hid (Below w1.heap.size w1 (w1.alloc (.cells #[.int .i64 x] 3))) := (Below.refl _ _).alloc (Nat.le_refl _) _
  have HLA := Lib.hid ((hLl.keep HBA.out).more HBA.out.size)
  have HIA := Lib.hid (ints_oneU w1 x (w1.alloc (.cells #[.int .i64 x] 3)).heap.size (by simp))
  have HC := Lib.hid (l6Up_any A1 (some ⟨w1.heap.size, 0, none⟩) ds [x] c1 1 _ HLA.out HFIT.out HIA.out (by simp [Rises]) (by simp; omega) (by omega))
  clear hL1 hN hmem hLl hB1
  go_wp2_with fail
  refine HC.out.mono ?_
  rintro e w2 ⟨v2, ys, rfl, ⟨hr2, hf2, hU2⟩, hO2, hB2⟩
  obtain ⟨A2, c2, rfl, hO2i, hc2⟩ := own_slice (ys := ys) hO2
  rw [HDP.out] at hU2
  have HU := Lib.hid hU2
  have HF2 := Lib.hid hf2
  have HE := Lib.hid (nnK_end hr2)
  have HI2 := Lib.hid hO2i.ints
  have hs1 := HB1.out.size
  have HB2 := Lib.hid (HB1.out.trans ((HBA.out.trans (hB2.mono HBA.out.size)).mono hs1))
  have hs2 := HB2.out.size
  have HB2' := HB2
  have hl2 : ys.length ≤ 44 := by
    have := nodup_le ys ((List.range 44).map fun (k : Nat) => (k : Int) - 4) (hr2.imp fun h => by omega) fun x hx => by
      have h := hf2 x hx
      exact List.mem_map.2 ⟨(x + 4).toNat, List.mem_range.2 (by omega), by omega⟩
    simpa using this
  clear hO2 hO2i hU2 hf2 hr2 hB2 HC HLA HIA HBA HDP HFIT
  go_wp2
  go_loopw [5, 14] (fun v i wr => ∃ (k : Nat), k ≤ ys.length ∧ i = .int .i64 k ∧ Hid (Below w.heap.size w wr) ∧ Hid (Below w2.heap.size w2 wr) ∧ Hid (OwnV wr w2.heap.size v (nnK ys k))) (fun _ i _ => ys.length - (intOf i).toNat)
  case atStart => exact ⟨0, by omega, rfl, HB2.out, Below.refl _ _, OwnV.nil _ _⟩
  case round =>
    clear HB2
    obtain ⟨k, hk, rfl, HB, HBX, HO⟩ := hrel
    by_cases hlt : k < ys.length
    · obtain ⟨p, o, rfl, hb, c0⟩ := (HI2.out.keep HBX.out).at_ hlt
      have hnl := nnK_len ys k
      have hws := HBX.out.size
      by_cases hneg : 0 ≤ ys[k]
      · have HST := Lib.hid (nnK_yes hlt hneg)
        generalize ys[k] = y at c0 hneg HST
        have HOA : Hid ((wr.alloc (.cells #[.int .i64 y] 3)).ownsRow w2.heap.size 3 1 u5 (nnK ys k).length (vals (nnK ys k))) := World.ownsRow.alloc HO.out _
        have HNW := Lib.hid (cell_one_new wr (.int .i64 y) 3)
        go_wp2_with (at_builtin
                     refine wpList_append_own _ rfl (.tmp 20) (.tmp 22) _ rfl w2.heap.size 3 i0 _ 1 8 Tryd.underlying27 hi0 hz0 hz1 hz2 rfl (by omega) _ _ _ rfl HOA.out ⟨wr.heap.size, 0, none⟩ 1 1 [.int .i64 y] rfl rfl HNW.out (by simp [Value.oneCell']) (by unfold maxLen; omega) (by omega) (by simp; omega) ?_
                     intro v' w' h1 h2 h3
                     have HO' : Hid (OwnV w' w2.heap.size v' (nnK ys (k + 1))) := by rw [HST.out]; exact own_snocI h1 rfl
                     have HBX' : Hid (Below w2.heap.size w2 w') := (HBX.out.alloc hws _).grown h2 (by simp; omega) fun j hj => (HO.out.lt j hj).1
                     clear h1 h2 h3)
        have HB' : Hid (Below w.heap.size w w') := HB2'.out.trans (HBX'.out.mono hs2)
        go_roundw
        case rel => exact ⟨k + 1, by omega, by go_num, HB'.out, HBX'.out, HO'.out⟩
        case measure => simp [intOf]; omega
      · have HST := Lib.hid (nnK_no hlt hneg)
        generalize ys[k] = y at c0 hneg HST
        go_wp2
        go_roundw
        case rel => exact ⟨k + 1, by omega, by go_num, HB.out, HBX.out, by show OwnV _ _ _ _; rw [HST.out]; exact HO.out⟩
        case measure => simp [intOf]; omega
    · obtain rfl : k = ys.length := by omega
      have HP : Hid (PUp b.say (fun D => rowOf D x) (setL (nnK ys ys.length))) := ⟨N, HN.out, isUp_row (fun l x hd => (nonB_is (dirB_sym HG.out hd).1).1) (S := setL ys) (by
        have e : setL [x] = fun y => decide (y = x) := by funext y; simp [setL]
        rw [← e]; exact HU.out) fun y => by rw [setL_iff, setL_iff]; exact HE.out.2 y⟩
      go_wp2
      go_ret
      exact ⟨_, _, rfl, ⟨HE.out.1, fun y hy => by have h := (HE.out.2 y).1 hy; have := HF2.out y h.1; omega, HP.out⟩, OwnV.lower HO.out (by omega), HB.out⟩

end Go.Proofs.YtgnpgehekfhedaaDoor

/- The reference's UnitPairs, UnitRow, ClosedSet. -/

namespace Go.Proofs.YtgnpgehekfhedaaDoor
open Go.RowKit

theorem gaveP_list {w : World} {g : Bool} {P : (Int → Bool) → Prop} {w' : World} {ys : List Int} {v : Value} {lo : Nat} (hg : g = true) (hS : P (setL ys)) (hr : Rises ys) (hl : ys.length ≤ 40) (hO : OwnV w' lo v ys) (hlo : w.heap.size ≤ lo) (hB : Below w.heap.size w w') :
    GaveP w g P (.returned (.tuple #[v, .bool true])) w' := by
  subst hg
  obtain ⟨A, c, rfl, hOi, _⟩ := own_slice (ys := ys) hO
  exact ⟨ys, fun _ => ⟨setL ys, hS, hr, fun x => setL_iff.symm⟩, fun h => (by cases h), hl, A, c, rfl, hOi.lower hlo, hB⟩
theorem len40 {ys : List Int} (hr : Rises ys) (hf : ∀ y ∈ ys, 0 ≤ y ∧ y < 40) : ys.length ≤ 40 := len6 (S := setL ys) (hr.imp fun h => by omega) (fun _ h => setL_iff.2 h) fun x h => hf x (setL_iff.1 h)

set_option maxRecDepth 20000 in
set_option maxHeartbeats 600000 in
theorem specUnitPairs_any (b : Bi) (w : World) (hx : ReadB w w.heap.size b) (hm : LenB 1048576 b) :
    Calls Tryd.prog 26 #[(.agg #[.int .i64 b.n, .int .i64 b.t, .slice b.Ap b.P.length b.cp, .slice b.Ao b.O.length b.co, .slice b.Ae b.E.length b.ce, .slice b.Af b.F.length b.cf])] w (GaveLP w (bP (GoodBs b.say)) (PPairs b.say)) := by
  have HX := Lib.hid hx; clear hx
  have HM := Lib.hid hm; clear hm
  have HB0 : Hid (Below w.heap.size w (w.alloc (.cells #[.int .i64 b.n, .int .i64 b.t, .slice b.Ap b.P.length b.cp, .slice b.Ao b.O.length b.co, .slice b.Ae b.E.length b.ce, .slice b.Af b.F.length b.cf] 29))) := by show Below _ _ _; go_grown
  have B0 := Lib.hid (Box6.new w b 29)
  have HC := Lib.hid (specGoodB_any b (w.alloc (.cells #[.int .i64 b.n, .int .i64 b.t, .slice b.Ap b.P.length b.cp, .slice b.Ao b.O.length b.co, .slice b.Ae b.E.length b.ce, .slice b.Af b.F.length b.cf] 29)) ((HX.out.keep HB0.out).more HB0.out.size) HM.out)
  go_enter Tryd.func26, Tryd.ntmps26
  go_wp2_with fail
  refine HC.out.mono ?_
  rintro e w1 ⟨rfl, hB1⟩
  have B1 := Lib.hid (B0.out.keep hB1 B0.out.1)
  have HB1 := Lib.hid (HB0.out.trans (hB1.mono HB0.out.size)); clear hB1
  clear B0 HB0 HC
  obtain ⟨_, b0, b1, b2, b3, b4, b5⟩ := B1.out
  have hs1 := HB1.out.size
  cases hg : bP (GoodBs b.say)
  · have HG := Lib.hid hg
    clear hg
    go_wp2
    go_ret2
    exact gaveLP_none HG.out HB1.out
  have HG := Lib.hid hg
  have HGB : Hid (GoodBs b.say) := bP_is hg
  go_wp2_with fail
  refine (l6Pairs_any b w1 ((HX.out.keep HB1.out).more HB1.out.size) HM.out HGB.out).mono ?_
  rintro e w2 ⟨v2, ds, rfl, hL2, hP2, hB2⟩
  obtain ⟨A2, c2, rfl, hc2, hO2⟩ := hL2.ownL
  have HP2 := Lib.hid hP2
  have HO2 := Lib.hid (hO2.lower hs1)
  have HB2 := Lib.hid (HB1.out.trans (hB2.mono hs1))
  clear hL2 hP2 hO2 hB2
  go_wp2
  go_ret2
  rw [HG.out]
  exact ⟨sayL ds, fun _ => HP2.out, fun h => (by cases h), A2, c2, ds, rfl, hc2, HO2.out, rfl, HB2.out⟩

set_option maxRecDepth 20000 in
set_option maxHeartbeats 600000 in
theorem specUnitRow_any (b : Bi) (x : Int) (w : World) (hx : ReadB w w.heap.size b) (hm : LenB 1048576 b) :
    Calls Tryd.prog 35 #[(.agg #[.int .i64 b.n, .int .i64 b.t, .slice b.Ap b.P.length b.cp, .slice b.Ao b.O.length b.co, .slice b.Ae b.E.length b.ce, .slice b.Af b.F.length b.cf]), .int .i64 x] w (GaveP w (bP (GoodBs b.say ∧ symB b.n b.t x = true)) (PUp b.say fun D => rowOf D x)) := by
  have HX := Lib.hid hx; clear hx
  have HM := Lib.hid hm; clear hm
  have HB0 : Hid (Below w.heap.size w (w.alloc (.cells #[.int .i64 b.n, .int .i64 b.t, .slice b.Ap b.P.length b.cp, .slice b.Ao b.O.length b.co, .slice b.Ae b.E.length b.ce, .slice b.Af b.F.length b.cf] 29))) := by show Below _ _ _; go_grown
  have B0 := Lib.hid (Box6.new w b 29)
  have HC := Lib.hid (specGoodB_any b (w.alloc (.cells #[.int .i64 b.n, .int .i64 b.t, .slice b.Ap b.P.length b.cp, .slice b.Ao b.O.length b.co, .slice b.Ae b.E.length b.ce, .slice b.Af b.F.length b.cf] 29)) ((HX.out.keep HB0.out).more HB0.out.size) HM.out)
  go_enter Tryd.func35, Tryd.ntmps35
  go_wp2_with fail
  refine HC.out.mono ?_
  rintro e w1 ⟨rfl, hB1⟩
  have B1 := Lib.hid (B0.out.keep hB1 B0.out.1)
  have HB1 := Lib.hid (HB0.out.trans (hB1.mono HB0.out.size)); clear hB1
  clear B0 HB0 HC
  obtain ⟨_, b0, b1, b2, b3, b4, b5⟩ := B1.out
  have hs1 := HB1.out.size
  cases hg : bP (GoodBs b.say)
  · have HG : Hid (bP (GoodBs b.say ∧ symB b.n b.t x = true) = false) := bP_f fun h => bP_no hg h.1
    clear hg
    go_wp2
    go_ret2
    exact gaveP_none HG.out HB1.out
  have HGB : Hid (GoodBs b.say) := bP_is hg
  clear hg
  go_wp2_with fail
  refine (l5Symbol_any b x w1 HGB.out.1.1 HGB.out.1.2 HGB.out.2.1.1 HGB.out.2.1.2).mono ?_
  rintro e w2 ⟨rfl, hB2⟩
  have B2 := Lib.hid (B1.out.keep hB2 B1.out.1)
  have HB2 := Lib.hid (HB1.out.trans (hB2.mono hs1)); clear hB2
  clear B1 HB1 b0 b1 b2 b3 b4 b5
  obtain ⟨_, b0, b1, b2, b3, b4, b5⟩ := B2.out
  have hs2 := HB2.out.size
  cases hsy : symB b.n b.t x
  · have HG : Hid (bP (GoodBs b.say ∧ symB b.n b.t x = true) = false) := bP_f fun h => by rw [hsy] at h; exact absurd h.2 (by simp)
    clear hsy
    go_wp2
    go_ret2
    exact gaveP_none HG.out HB2.out
  have HG : Hid (bP (GoodBs b.say ∧ symB b.n b.t x = true) = true) := bP_t ⟨HGB.out, hsy⟩
  have HSY := Lib.hid hsy
  clear hsy
  go_wp2_with fail
  refine (l6Row_any b x w2 ((HX.out.keep HB2.out).more HB2.out.size) HM.out HGB.out HSY.out).mono ?_
  rintro e w3 ⟨v3, ys, rfl, ⟨hr3, hf3, hP3⟩, hO3, hB3⟩
  have HR3 := Lib.hid hr3
  have HF3 := Lib.hid hf3
  have HP3 := Lib.hid hP3
  have HO3 := Lib.hid hO3
  have HB3 := Lib.hid (HB2.out.trans (hB3.mono hs2))
  clear hr3 hf3 hP3 hO3 hB3
  go_wp2
  go_ret2
  exact gaveP_list HG.out HP3.out HR3.out (len40 HR3.out HF3.out) HO3.out hs2 HB3.out

set_option maxRecDepth 20000 in
set_option maxHeartbeats 600000 in
theorem specClosedSet_any (b : Bi) (A : Option Addr) (xs : List Int) (c : Nat) (w : World) (hx : ReadB w w.heap.size b) (hm : LenB 1048576 b) (hxs : Ints w w.heap.size A xs) (hxl : xs.length ≤ 1048576) :
    Calls Tryd.prog 32 #[(.agg #[.int .i64 b.n, .int .i64 b.t, .slice b.Ap b.P.length b.cp, .slice b.Ao b.O.length b.co, .slice b.Ae b.E.length b.ce, .slice b.Af b.F.length b.cf]), .slice A xs.length c] w (GaveP w (bP (GoodBs b.say ∧ GoodE b.n xs)) (PUp b.say fun _ y => xs.contains y)) := by
  have HX := Lib.hid hx; clear hx
  have HM := Lib.hid hm; clear hm
  have HXS := Lib.hid hxs; clear hxs
  have HB0 : Hid (Below w.heap.size w (w.alloc (.cells #[.int .i64 b.n, .int .i64 b.t, .slice b.Ap b.P.length b.cp, .slice b.Ao b.O.length b.co, .slice b.Ae b.E.length b.ce, .slice b.Af b.F.length b.cf] 29))) := by show Below _ _ _; go_grown
  have B0 := Lib.hid (Box6.new w b 29)
  have HC := Lib.hid (specGoodB_any b (w.alloc (.cells #[.int .i64 b.n, .int .i64 b.t, .slice b.Ap b.P.length b.cp, .slice b.Ao b.O.length b.co, .slice b.Ae b.E.length b.ce, .slice b.Af b.F.length b.cf] 29)) ((HX.out.keep HB0.out).more HB0.out.size) HM.out)
  go_enter Tryd.func32, Tryd.ntmps32
  go_wp2_with fail
  refine HC.out.mono ?_
  rintro e w1 ⟨rfl, hB1⟩
  have B1 := Lib.hid (B0.out.keep hB1 B0.out.1)
  have HB1 := Lib.hid (HB0.out.trans (hB1.mono HB0.out.size)); clear hB1
  clear B0 HB0 HC
  obtain ⟨_, b0, b1, b2, b3, b4, b5⟩ := B1.out
  have hs1 := HB1.out.size
  cases hg : bP (GoodBs b.say)
  · have HG : Hid (bP (GoodBs b.say ∧ GoodE b.n xs) = false) := bP_f fun h => bP_no hg h.1
    clear hg
    go_wp2
    go_ret2
    exact gaveP_none HG.out HB1.out
  have HGB : Hid (GoodBs b.say) := bP_is hg
  clear hg
  have hn1 : 1 ≤ b.n := HGB.out.1.1
  have hn2 : b.n ≤ 40 := HGB.out.1.2
  go_wp2_with fail
  refine (l1Rising_any A xs c b.n w1 ((HXS.out.keep HB1.out).more HB1.out.size) hxl).mono ?_
  rintro e w2 ⟨rfl, hB2⟩
  have B2 := Lib.hid (B1.out.keep hB2 B1.out.1)
  have HB2 := Lib.hid (HB1.out.trans (hB2.mono hs1)); clear hB2
  clear B1 HB1 b0 b1 b2 b3 b4 b5
  obtain ⟨_, b0, b1, b2, b3, b4, b5⟩ := B2.out
  have hs2 := HB2.out.size
  cases hsy : bP (GoodE b.n xs)
  · have HG : Hid (bP (GoodBs b.say ∧ GoodE b.n xs) = false) := bP_f fun h => bP_no hsy h.2
    clear hsy
    go_wp2
    go_ret2
    exact gaveP_none HG.out HB2.out
  have HG : Hid (bP (GoodBs b.say ∧ GoodE b.n xs) = true) := bP_t ⟨HGB.out, bP_is hsy⟩
  have HGE : Hid (GoodE b.n xs) := bP_is hsy
  clear hsy
  have H40 : Hid (∀ y ∈ xs, 0 ≤ y ∧ y < 40) := fun y hy => by
    obtain ⟨k, hk⟩ := List.mem_iff_getElem?.1 hy
    have h := nonB_is (HGE.out.1 k y (List.getElem?_eq_some_iff.1 hk).1 hk)
    omega
  go_wp2_with fail
  refine (l6Pairs_any b w2 ((HX.out.keep HB2.out).more HB2.out.size) HM.out HGB.out).mono ?_
  rintro e w3 ⟨v3, ds, rfl, hL3, hP3, hB3⟩
  have hdl := hP3.len HGB.out
  rw [sayL_len] at hdl
  obtain ⟨N, hN, _, hmem⟩ := hP3
  have HN := Lib.hid hN
  have HFIT := Lib.hid (pairs_fit HGB.out hmem)
  have HDP := Lib.hid (DP_eq hmem)
  obtain ⟨A3, c3, rfl, _, hLl, _⟩ := hL3.shape
  have HLL := Lib.hid hLl
  have HB3 := Lib.hid (HB2.out.trans (hB3.mono hs2))
  have HC := Lib.hid (l6Up_any A3 A ds xs c3 c w3 hLl HFIT.out ((HXS.out.keep HB3.out).more HB3.out.size) (riseI_rises HGE.out.2) (fun y hy => by have := H40.out y hy; omega) (by omega))
  clear hL3 hN hmem hLl hB3
  have hs3 := HB3.out.size
  go_wp2_with fail
  refine HC.out.mono ?_
  rintro e w4 ⟨v4, ys, rfl, ⟨hr4, hf4, hU4⟩, hO4, hB4⟩
  rw [HDP.out] at hU4
  have HP4 : Hid (PUp b.say (fun _ y => xs.contains y) (setL ys)) := ⟨N, HN.out, hU4⟩
  have HF4 : Hid (∀ y ∈ ys, 0 ≤ y ∧ y < 40) := fun y hy => by
    obtain ⟨z, hz, hu⟩ := (hU4.ups y).1 (setL_iff.2 hy)
    have h0 := H40.out z (setL_iff.1 hz)
    refine hu (fun y => 0 ≤ y ∧ y < 40) h0 fun l x hd _ => ?_
    have h1 := nonB_is (dirB_sym HGB.out hd).1
    have := HGB.out.1.2
    omega
  have HR4 := Lib.hid hr4
  have HO4 := Lib.hid hO4
  have HB4 := Lib.hid (HB3.out.trans (hB4.mono hs3))
  clear hr4 hf4 hU4 hO4 hB4 HC
  go_wp2
  go_ret2
  exact gaveP_list HG.out HP4.out HR4.out (len40 HR4.out HF4.out) HO4.out hs3 HB4.out

end Go.Proofs.YtgnpgehekfhedaaDoor

/- The program's ClosedSet. -/

namespace Go.Proofs.YtgnpgehekfhedaaDoor
open Go.RowKit

set_option maxRecDepth 20000 in
set_option maxHeartbeats 1000000 in
theorem implClosedSet_any (b : Bi) (A : Option Addr) (xs : List Int) (c : Nat) (w : World) (hx : ReadB w w.heap.size b) (hL : Lims w) (hm : LenB 1048576 b) (ht : b.P.length + b.O.length + b.E.length ≤ 1048576) (hf : FitB b.say) (hxs : Ints w w.heap.size A xs) (hxl : xs.length ≤ 1048576) :
    Calls Tryd.prog 34 #[(.agg #[.int .i64 b.n, .int .i64 b.t, .slice b.Ap b.P.length b.cp, .slice b.Ao b.O.length b.co, .slice b.Ae b.E.length b.ce, .slice b.Af b.F.length b.cf]), .slice A xs.length c] w (GaveP w (bP (GoodBs b.say ∧ GoodE b.n xs)) (PUp b.say fun _ y => xs.contains y)) := by
  have HX := Lib.hid hx; clear hx
  have HL := Lib.hid hL; clear hL
  have HF := Lib.hid hf; clear hf
  have HM := Lib.hid hm; clear hm
  have HZ := Lib.hid info_tab
  have HS := Lib.hid size_tab
  have HXS := Lib.hid hxs; clear hxs
  have HB0 : Hid (Below w.heap.size w (w.alloc (.cells #[.int .i64 b.n, .int .i64 b.t, .slice b.Ap b.P.length b.cp, .slice b.Ao b.O.length b.co, .slice b.Ae b.E.length b.ce, .slice b.Af b.F.length b.cf] 29))) := by show Below _ _ _; go_grown
  have B0 := Lib.hid (Box6.new w b 29)
  have HC := Lib.hid (implGoodB_any b (w.alloc (.cells #[.int .i64 b.n, .int .i64 b.t, .slice b.Ap b.P.length b.cp, .slice b.Ao b.O.length b.co, .slice b.Ae b.E.length b.ce, .slice b.Af b.F.length b.cf] 29)) ((HX.out.keep HB0.out).more HB0.out.size) (HL.out.keep HB0.out (Nat.le_refl _)) HM.out HF.out)
  go_enter Tryd.func34, Tryd.ntmps34
  go_wp2_with fail
  refine HC.out.mono ?_
  rintro e w1 ⟨rfl, hB1⟩
  have B1 := Lib.hid (B0.out.keep hB1 B0.out.1)
  have HB1 := Lib.hid (HB0.out.trans (hB1.mono HB0.out.size)); clear hB1
  clear B0 HB0 HC
  obtain ⟨_, b0, b1, b2, b3, b4, b5⟩ := B1.out
  cases hg : bP (GoodBs b.say)
  · have HG : Hid (bP (GoodBs b.say ∧ GoodE b.n xs) = false) := bP_f fun h => bP_no hg h.1
    clear hg
    go_wp2
    go_ret2
    exact gaveP_none HG.out HB1.out
  have HGB : Hid (GoodBs b.say) := bP_is hg
  clear hg
  go_wp2_with fail
  refine (symbolsOf_any b w1).mono ?_
  rintro e w2 ⟨rfl, hB2⟩
  have hs1 := HB1.out.size
  have B2 := Lib.hid (B1.out.keep hB2 B1.out.1)
  have HB2 := Lib.hid (HB1.out.trans (hB2.mono hs1)); clear hB2
  clear B1 HB1 b0 b1 b2 b3 b4 b5
  obtain ⟨_, b0, b1, b2, b3, b4, b5⟩ := B2.out
  go_wp2_with fail
  refine (goodEmpty_any b.n b.t A xs c w2 ((HXS.out.keep HB2.out).more HB2.out.size) hxl).mono ?_
  rintro e w3 ⟨rfl, hB3⟩
  have hs2 := HB2.out.size
  have B3 := Lib.hid (B2.out.keep hB3 B2.out.1)
  have HB3 := Lib.hid (HB2.out.trans (hB3.mono hs2)); clear hB3
  clear B2 HB2 b0 b1 b2 b3 b4 b5
  obtain ⟨_, b0, b1, b2, b3, b4, b5⟩ := B3.out
  cases hsy : bP (GoodE b.n xs)
  · have HG : Hid (bP (GoodBs b.say ∧ GoodE b.n xs) = false) := bP_f fun h => bP_no hsy h.2
    clear hsy
    go_wp2
    go_ret2
    exact gaveP_none HG.out HB3.out
  have HG : Hid (bP (GoodBs b.say ∧ GoodE b.n xs) = true) := bP_t ⟨HGB.out, bP_is hsy⟩
  have H40 : Hid (∀ y ∈ xs, 0 ≤ y ∧ y < 40) := fun y hy => by
    obtain ⟨k, hk⟩ := List.mem_iff_getElem?.1 hy
    have h := nonB_is ((bP_is hsy).1 k y (List.getElem?_eq_some_iff.1 hk).1 hk)
    have := HGB.out.1.2
    have : b.say.n = b.n := rfl
    omega
  clear hsy
  go_wp2_with fail
  refine (directRows_any b w3 ((HX.out.keep HB3.out).more HB3.out.size) HM.out ht HF.out HGB.out).mono ?_
  rintro e w4 ⟨N, rfl, hN, hB4⟩
  have hs3 := HB3.out.size
  have HB4 := Lib.hid (HB3.out.trans (hB4.mono hs3)); clear hB4
  have HN := Lib.hid hN; clear hN
  have HFT := Lib.hid (dirB_fit HGB.out N)
  generalize hD : DirB N b.say.P b.say.O = D at HFT
  have HDD := Lib.hid hD; clear hD
  have hs4 := HB4.out.size
  clear B3 HB3 b0 b1 b2 b3 b4 b5
  have HRN : Hid (Row (w4.alloc (.cells (tabA fun _ _ => false) 99)) w4.heap.size 99 (tabA fun _ _ => false)) := Row.new _ _ _
  have HB5 : Hid (Below w.heap.size w ((w4.alloc (.cells (tabA fun _ _ => false) 99)).setRow w4.heap.size (tabA (tabF D)))) := below_setRow (HB4.out.alloc hs4 _) hs4 _
  have HT5 : Hid (TabC ((w4.alloc (.cells (tabA fun _ _ => false) 99)).setRow w4.heap.size (tabA (tabF D))) w4.heap.size (tabF D)) := (HRN.out.setRow _).tab
  go_wp2_with (first
    | with_reducible refine wpList_allocA rfl 99 rfl (tabA fun _ _ => false) 1760 HZ.out ?_
    | with_reducible refine wpList_storeA rfl 99 (.tmp 6) (.tmp 18) rfl w4.heap.size (tabA (tabF D)) rfl rfl 99 (tabA fun _ _ => false) HRN.out (HS.out _) (by rw [tabA_size, tabA_size]) (tabA_all _) ?_)
  generalize (w4.alloc (.cells (tabA fun _ _ => false) 99)).setRow w4.heap.size (tabA (tabF D)) = W5 at HB5 HT5 ⊢
  generalize w4.heap.size = K at HT5 ⊢
  clear HRN HB4
  refine (rowWith_any A c xs W5 ((HXS.out.keep HB5.out).more HB5.out.size) H40.out hxl).mono ?_
  rintro e w5 ⟨rfl, hBr⟩
  have hs5' := HB5.out.size
  have HBr := Lib.hid (HB5.out.trans (hBr.mono hs5'))
  have HTr := Lib.hid (HT5.out.keep hBr HT5.out.1)
  have HF0 : Hid (Fit40 fun y => xs.contains y) := fun y hy => H40.out y (by simpa using hy)
  clear hBr HB5 HT5
  generalize hS0 : (fun y => xs.contains y) = S0 at HF0 ⊢
  have HS0 := Lib.hid hS0; clear hS0
  go_wp2_with fail
  refine (closed_any K (tabF D) S0 w5 HTr.out HFT.out HF0.out).mono ?_
  rintro e w6 ⟨S, rfl, hfS, hU, hB6⟩
  rw [DT6_tab] at hU
  have HB5 := HBr
  have hs5 := HB5.out.size
  have HB6 := Lib.hid (HB5.out.trans (hB6.mono hs5)); clear hB6
  have HFS := Lib.hid hfS; clear hfS
  have HU : Hid (PUp b.say (fun _ y => xs.contains y) S) := ⟨N, HN.out, by rw [HDD.out]; exact HS0.out ▸ hU⟩
  clear hU
  go_wp2_with fail
  refine (rowList_any S w6).mono ?_
  rintro e w7 ⟨A7, c7, rfl, _, hO7, hB7⟩
  have hs6 := HB6.out.size
  have HB7 := Lib.hid (HB6.out.trans (hB7.mono hs6)); clear hB7
  have HO7 := Lib.hid (hO7.lower hs6); clear hO7
  go_wp2
  go_ret2
  exact gaveP_some HG.out HU.out HFS.out HO7.out HB7.out

end Go.Proofs.YtgnpgehekfhedaaDoor

/- How many rules the lists of a binary grammar make that the laws take. -/

namespace Go.Proofs.YtgnpgehekfhedaaDoor
open Go.RowKit

def TotB (s : Bs) : Prop := s.P.length + s.O.length + s.E.length ≤ 1048576
theorem szLs_less {xs : List (List Int)} {L : Int} (_hL : 0 ≤ L) (h : 0 ≤ szLs xs L) : szLs xs L ≤ L - xs.length := by
  unfold szLs at h ⊢
  split at h
  · omega
  · rename_i hn
    rw [if_neg hn]
    exact (szL_ge xs (L := L - xs.length) (by omega)).2 h |>.1
theorem szB_total {b : Bi} (hp : 0 ≤ szB (sayL b.P) (sayL b.O) b.E (sayL b.F) 1048576) : TotB b.say := by
  unfold szB at hp
  split at hp
  · omega
  rename_i h1
  split at hp
  · omega
  rename_i h2
  split at hp
  · omega
  rename_i h3
  have a1 := szLs_less (xs := sayL b.P) (L := 1048576) (by omega) (by omega)
  have a2 := szLs_less (xs := sayL b.O) (L := szLs (sayL b.P) 1048576) (by omega) (by omega)
  have e3 : szI b.E.length (szLs (sayL b.O) (szLs (sayL b.P) 1048576)) = szLs (sayL b.O) (szLs (sayL b.P) 1048576) - b.E.length := by
    unfold szI at h3 ⊢; split <;> simp_all
  show (sayL b.P).length + (sayL b.O).length + b.E.length ≤ 1048576
  omega
theorem TotB.of {b b' : Bi} (h : TotB b.say) (e : b'.say = b.say) : b'.P.length + b'.O.length + b'.E.length ≤ 1048576 := by
  have h2 : TotB b'.say := e ▸ h
  have h3 : (sayL b'.P).length + (sayL b'.O).length + b'.E.length ≤ 1048576 := h2
  rw [sayL_len, sayL_len] at h3
  exact h3
theorem FitB.of {b b' : Bi} (h : FitB b.say) (e : b'.say = b.say) : FitB b'.say := e ▸ h

end Go.Proofs.YtgnpgehekfhedaaDoor

/- From the reading of an argument to its cells: a slice of numbers, a grammar. -/

namespace Go.Proofs.YtgnpgehekfhedaaDoor
open Go.ChangeShapes Go.WideShapes Go.ChangeAt Go.RowKit Go.Deep Go.Joins

theorem Tryd.cellsInt : Tryd.prog.cellsOf 3 = 1 := by kernel_rfl
theorem Tryd.cellsIntS : Tryd.prog.cellsOf 27 = 1 := by kernel_rfl
theorem Tryd.cellsRuleL : Tryd.prog.cellsOf 136 = 2 := by kernel_rfl
theorem Tryd.cellsGramL : Tryd.prog.cellsOf 24 = 3 := by kernel_rfl

theorem lt_of_cell {w : World} {b o : Nat} {v : Value} (h : w.cell? ⟨b, o, none⟩ = some v) : b < w.heap.size := by
  by_cases hg : b < w.heap.size
  · exact hg
  · simp only [World.cell?] at h
    rw [Array.getElem?_eq_none (by omega)] at h
    cases h

section
variable {H : Type} {enc : TypeId × Value → H} {W : World} {spare : Nat → Bool} {held : Bool}

theorem open_intS {fuel : Nat} {v : Value} {y : DataW H × List MemPlace} (h : DataW.trod enc Tryd.prog W 0 spare held fuel 27 [v] = some y) :
    ∃ (A : Option Addr) (xs : List Int) (c : Nat), v = .slice A xs.length c ∧ xs.length ≤ c ∧ Ints W W.heap.size A xs ∧ xs.length ≤ maxLen ∧ ∀ x ∈ xs, F64 x := by
  rcases open_ints Tryd.underlying27 Tryd.underlying3 Tryd.cellsInt h with ⟨hcs, _⟩ | ⟨a, len, cap, zs, hcs, _, hl, hm, hz, _, hcell, hwf⟩
  · injection hcs with hcs
    subst hcs
    exact ⟨none, [], 0, rfl, Nat.le_refl _, fun h => by simp at h, by simp [maxLen], fun x hx => by simp at hx⟩
  · injection hcs with hcs
    subst hcs
    have hlz : len ≤ zs.length := by rw [hz]; split <;> omega
    have hlen : (zs.take len).length = len := by rw [List.length_take]; omega
    refine ⟨some a, zs.take len, cap, by rw [hlen], by omega, fun hp => ?_, by omega, fun x hx => ?_⟩
    · obtain ⟨b, off, rfl, hc⟩ := ints_at hcell (by omega)
      refine ⟨b, off, rfl, lt_of_cell (hc 0 (by omega)), fun k x hx => ?_⟩
      have hk := (List.getElem?_eq_some_iff.1 hx).1
      rw [List.getElem?_take] at hx
      split at hx
      · rw [hc k (by omega), List.getD_eq_getElem?_getD, hx]; rfl
      · cases hx
    · have := hwf x (List.mem_of_mem_take hx)
      exact bounds_i64 this

instance : Inhabited Ru := ⟨⟨0, none, [], 0⟩⟩

set_option maxRecDepth 100000 in
theorem open_ruleS {fuel : Nat} {v : Value} {y : DataW H × List MemPlace} (h : DataW.trod enc Tryd.prog W 0 spare held fuel 22 [v] = some y) :
    ∃ (A : Option Addr) (rs : List Ru) (c : Nat), v = .slice A rs.length c ∧ rs.length ≤ c ∧ Rls W W.heap.size A rs ∧ rs.length ≤ maxLen ∧ (∀ u ∈ rs, u.r.length ≤ maxLen) ∧ FitR rs := by
  rcases open_slice Tryd.underlying22 h with ⟨hcs, _⟩ | ⟨a, len, cap, m, n, D, Pl, hcs, _, hl, hm, hz, _, hel⟩
  · injection hcs with hcs
    subst hcs
    exact ⟨none, [], 0, rfl, Nat.le_refl _, fun h => by simp at h, by simp [maxLen], fun x hx => by simp at hx, fun x hx => by simp at hx⟩
  · injection hcs with hcs
    subst hcs
    have hlm : len ≤ m := by rw [hz]; split <;> omega
    have each : ∀ i, i < len → ∃ u : Ru, W.cell? (a.add (i * 2)) = some (.int .i64 u.l) ∧ W.cell? ((a.add (i * 2)).add 1) = some (.slice u.a u.r.length u.c) ∧ Ints W W.heap.size u.a u.r ∧ u.r.length ≤ maxLen ∧ ∀ x ∈ u.r, F64 x := by
      intro i hi
      obtain ⟨cs', hc, ht⟩ := hel i (by omega)
      rw [Tryd.cellsRuleL] at hc
      obtain ⟨_, hcl, hat⟩ := World.cells?_some hc
      obtain ⟨y0, y1, n', _, _, h0, h1⟩ := trod_struct2 Tryd.underlying136 ht
      match cs', hcl with
      | [q0, q1], _ =>
        have e0 : DataW.trod enc Tryd.prog W 0 spare held n' 3 [q0] = some y0 := h0
        have e1 : DataW.trod enc Tryd.prog W 0 spare held n' 27 [q1] = some y1 := h1
        obtain ⟨l, el, _, _⟩ := DataW.trod_int Tryd.underlying3 e0
        injection el with el
        subst el
        obtain ⟨A', xs, c', rfl, _, hI, hml, hF⟩ := open_intS e1
        exact ⟨⟨l, A', xs, c'⟩, by simpa [Addr.add] using hat 0 (by omega), by simpa using hat 1 (by omega), hI, hml, hF⟩
    obtain ⟨f, hf⟩ := choose_lt each
    have hlen : ((List.range len).map f).length = len := by simp
    refine ⟨some a, (List.range len).map f, cap, by rw [hlen], by omega, fun hp => ?_, by omega, fun u hu => ?_, fun u hu => ?_⟩
    · obtain ⟨b, off, spot⟩ := a
      have hspot : spot = none := by simpa [Addr.add] using World.cell?_spot (hf 0 (by omega)).1
      subst hspot
      refine ⟨b, off, rfl, ?_, fun k u hu => ?_⟩
      · have := (hf 0 (by omega)).1
        exact lt_of_cell (b := b) (o := off) (by simpa [Addr.add] using this)
      · have hk := (List.getElem?_eq_some_iff.1 hu).1
        rw [hlen] at hk
        have hu' : f k = u := by simpa [hk] using hu
        subst hu'
        obtain ⟨h1, h2, h3, _, _⟩ := hf k hk
        rw [Go.WideShapes.add_plain] at h1 h2
        rw [Go.WideShapes.add_plain] at h2
        exact ⟨h1, h2, h3⟩
    · obtain ⟨i, hi, rfl⟩ := List.mem_map.1 hu
      exact (hf i (List.mem_range.1 hi)).2.2.2.1
    · obtain ⟨i, hi, rfl⟩ := List.mem_map.1 hu
      exact (hf i (List.mem_range.1 hi)).2.2.2.2

set_option maxRecDepth 100000 in
theorem open_grammar {r : Reach} {b0 : Nat} {v : Value} {d : DataW H} {p : List MemPlace} (hv : Value.okWide Tryd.prog W r b0 24 v) (h : DataW.Trod enc Tryd.prog W 0 spare held 24 v d p) :
    ∃ (n t : Int) (A : Option Addr) (rs : List Ru) (c : Nat), v = .agg #[.int .i64 n, .int .i64 t, .slice A rs.length c] ∧ rs.length ≤ c ∧ Rls W W.heap.size A rs ∧ rs.length ≤ maxLen ∧ (∀ u ∈ rs, u.r.length ≤ maxLen) ∧ FitR rs ∧ F64 n ∧ F64 t := by
  obtain ⟨v0, v1, v2, y0, y1, y2, m, rfl, _, _, h0, h1, h2⟩ := open_agg3 Tryd.underlying24 (by kernel_rfl) Tryd.cellsGramL hv h
  obtain ⟨n, e0, _, w0⟩ := DataW.trod_int Tryd.underlying3 h0
  obtain ⟨t, e1, _, w1⟩ := DataW.trod_int Tryd.underlying3 h1
  injection e0 with e0
  injection e1 with e1
  subst e0 e1
  obtain ⟨A, rs, c, rfl, a1, a2, a3, a4, a5⟩ := open_ruleS h2
  exact ⟨n, t, A, rs, c, rfl, a1, a2, a3, a4, a5, bounds_i64 w0, bounds_i64 w1⟩
end

end Go.Proofs.YtgnpgehekfhedaaDoor

/- From the reading of an argument to its cells: a slice of lists of numbers, a binary grammar. -/

namespace Go.Proofs.YtgnpgehekfhedaaDoor
open Go.ChangeShapes Go.WideShapes Go.ChangeAt Go.RowKit Go.Deep Go.Joins

theorem Tryd.cellsIntSS : Tryd.prog.cellsOf 26 = 1 := by kernel_rfl
theorem Tryd.cellsBinL : Tryd.prog.cellsOf 46 = 6 := by kernel_rfl

theorem array6 {α : Type} {cs : Array α} (h : cs.size = 6) : ∃ c0 c1 c2 c3 c4 c5, cs = #[c0, c1, c2, c3, c4, c5] := by
  obtain ⟨l⟩ := cs
  match l, h with
  | [c0, c1, c2, c3, c4, c5], _ => exact ⟨c0, c1, c2, c3, c4, c5, rfl⟩

instance : Inhabited Li := ⟨⟨none, [], 0⟩⟩

section
variable {H : Type} {enc : TypeId × Value → H} {W : World} {spare : Nat → Bool} {held : Bool}

set_option maxRecDepth 100000 in
theorem open_intSS {fuel : Nat} {v : Value} {y : DataW H × List MemPlace} (h : DataW.trod enc Tryd.prog W 0 spare held fuel 26 [v] = some y) :
    ∃ (A : Option Addr) (ls : List Li) (c : Nat), v = .slice A ls.length c ∧ ls.length ≤ c ∧ Lls W W.heap.size A ls ∧ ls.length ≤ maxLen ∧ (∀ u ∈ ls, u.r.length ≤ maxLen) ∧ FitL (sayL ls) := by
  rcases open_slice Tryd.underlying26 h with ⟨hcs, _⟩ | ⟨a, len, cap, m, n, D, Pl, hcs, _, hl, hm, hz, _, hel⟩
  · injection hcs with hcs
    subst hcs
    exact ⟨none, [], 0, rfl, Nat.le_refl _, fun h => by simp at h, by simp [maxLen], fun x hx => by simp at hx, fun x hx => by simp [sayL] at hx⟩
  · injection hcs with hcs
    subst hcs
    have hlm : len ≤ m := by rw [hz]; split <;> omega
    have each : ∀ i, i < len → ∃ u : Li, W.cell? (a.add i) = some (.slice u.a u.r.length u.c) ∧ u.r.length ≤ u.c ∧ Ints W W.heap.size u.a u.r ∧ u.r.length ≤ maxLen ∧ ∀ x ∈ u.r, F64 x := by
      intro i hi
      obtain ⟨cs', hc, ht⟩ := hel i (by omega)
      rw [Tryd.cellsIntS] at hc
      obtain ⟨_, hcl, hat⟩ := World.cells?_some hc
      match cs', hcl with
      | [q0], _ =>
        obtain ⟨A', xs, c', rfl, hxc, hI, hml, hF⟩ := open_intS ht
        exact ⟨⟨A', xs, c'⟩, by simpa [Addr.add] using hat 0 (by omega), hxc, hI, hml, hF⟩
    obtain ⟨f, hf⟩ := choose_lt each
    have hlen : ((List.range len).map f).length = len := by simp
    refine ⟨some a, (List.range len).map f, cap, by rw [hlen], by omega, fun hp => ?_, by omega, fun u hu => ?_, fun x hx => ?_⟩
    · obtain ⟨b, off, spot⟩ := a
      have hspot : spot = none := by simpa [Addr.add] using World.cell?_spot (hf 0 (by omega)).1
      subst hspot
      refine ⟨b, off, rfl, ?_, fun k u hu => ?_⟩
      · have := (hf 0 (by omega)).1
        exact lt_of_cell (b := b) (o := off) (by simpa [Addr.add] using this)
      · have hk := (List.getElem?_eq_some_iff.1 hu).1
        rw [hlen] at hk
        have hu' : f k = u := by simpa [hk] using hu
        subst hu'
        obtain ⟨h1, h2, h3, _, _⟩ := hf k hk
        rw [Go.WideShapes.add_plain] at h1
        exact ⟨h1, h2, h3⟩
    · obtain ⟨i, hi, rfl⟩ := List.mem_map.1 hu
      exact (hf i (List.mem_range.1 hi)).2.2.2.1
    · obtain ⟨u, hu, rfl⟩ := List.mem_map.1 hx
      obtain ⟨i, hi, rfl⟩ := List.mem_map.1 hu
      exact (hf i (List.mem_range.1 hi)).2.2.2.2

set_option maxRecDepth 100000 in
theorem open_binary {r : Reach} {b0 : Nat} {v : Value} {d : DataW H} {p : List MemPlace} (hv : Value.okWide Tryd.prog W r b0 46 v) (h : DataW.Trod enc Tryd.prog W 0 spare held 46 v d p) :
    ∃ b : Bi, v = (.agg #[.int .i64 b.n, .int .i64 b.t, .slice b.Ap b.P.length b.cp, .slice b.Ao b.O.length b.co, .slice b.Ae b.E.length b.ce, .slice b.Af b.F.length b.cf]) ∧ CapB b ∧ ReadB W W.heap.size b ∧ LenB maxLen b ∧ FitB b.say ∧ F64 b.n ∧ F64 b.t := by
  obtain ⟨cs, rfl, hsz⟩ := okWide_struct Tryd.underlying46 hv
  obtain ⟨c0, c1, c2, c3, c4, c5, rfl⟩ := array6 (hsz.trans Tryd.cellsBinL)
  obtain ⟨fuel, hf⟩ := h
  obtain ⟨xs, n, _, _, _, hlen, hfs⟩ := DataW.trod_struct Tryd.underlying46 hf
  match xs, hlen with
  | [y0, y1, y2, y3, y4, y5], _ =>
    have h0 : DataW.trod enc Tryd.prog W 0 spare held n 3 [c0] = some y0 := by simpa [Value.cells, Tryd.cellsInt, Tryd.cellsIntS, Tryd.cellsIntSS] using hfs 0 _ rfl
    have h1 : DataW.trod enc Tryd.prog W 0 spare held n 3 [c1] = some y1 := by simpa [Value.cells, Tryd.cellsInt, Tryd.cellsIntS, Tryd.cellsIntSS] using hfs 1 _ rfl
    have h2 : DataW.trod enc Tryd.prog W 0 spare held n 26 [c2] = some y2 := by simpa [Value.cells, Tryd.cellsInt, Tryd.cellsIntS, Tryd.cellsIntSS] using hfs 2 _ rfl
    have h3 : DataW.trod enc Tryd.prog W 0 spare held n 26 [c3] = some y3 := by simpa [Value.cells, Tryd.cellsInt, Tryd.cellsIntS, Tryd.cellsIntSS] using hfs 3 _ rfl
    have h4 : DataW.trod enc Tryd.prog W 0 spare held n 27 [c4] = some y4 := by simpa [Value.cells, Tryd.cellsInt, Tryd.cellsIntS, Tryd.cellsIntSS] using hfs 4 _ rfl
    have h5 : DataW.trod enc Tryd.prog W 0 spare held n 26 [c5] = some y5 := by simpa [Value.cells, Tryd.cellsInt, Tryd.cellsIntS, Tryd.cellsIntSS] using hfs 5 _ rfl
    obtain ⟨n, e0, _, w0⟩ := DataW.trod_int Tryd.underlying3 h0
    obtain ⟨t, e1, _, w1⟩ := DataW.trod_int Tryd.underlying3 h1
    injection e0 with e0
    injection e1 with e1
    subst e0 e1
    obtain ⟨Ap, P, cp, rfl, p1, p2, p3, p4, p5⟩ := open_intSS h2
    obtain ⟨Ao, O, co, rfl, o1, o2, o3, o4, o5⟩ := open_intSS h3
    obtain ⟨Ae, E, ce, rfl, i1, i2, i3, i4⟩ := open_intS h4
    obtain ⟨Af, F, cf, rfl, f1, f2, f3, f4, f5⟩ := open_intSS h5
    exact ⟨⟨n, t, Ap, P, cp, Ao, O, co, Ae, E, ce, Af, F, cf⟩, rfl, ⟨p1, o1, i1, f1⟩, ⟨p2, o2, i2, f2⟩, ⟨p3, p4, o3, o4, i3, f3, f4⟩, ⟨p5, o5, i4, f5⟩, bounds_i64 w0, bounds_i64 w1⟩
end

end Go.Proofs.YtgnpgehekfhedaaDoor

/- A law's end: it returned true, and nothing that was there has turned. -/

namespace Go.Proofs.YtgnpgehekfhedaaDoor
open Go.ChangeShapes Go.WideShapes Go.ChangeAt Go.RowKit
set_option maxRecDepth 100000

theorem Tryd.own : ownKnob Tryd.prog.godebug = none := by kernel_rfl
theorem Tryd.laidOut : laidOutB Tryd.prog = true := by kernel_rfl

/-- A law's end, one argument: it returned true, and nothing that was there has turned. -/
theorem ends_one {H : Type} {enc : TypeId × Value → H} {f : Func} {s : ChangeSpec} {W W' : World} {v0 : Value} {d0 : DataW H} {gs : List (DataW H)} {before : List MemPlace} {t0 : TypeId}
    (hW : DataW.Whole enc Tryd.prog f.params.toList s.vars false W [v0] [d0] gs before) (hp : f.params = #[t0]) (hr : f.resultTypes = #[4])
    (hfn : s.fn H ([d0] ++ gs) = { results := [.lit (.bool true)], args := [d0], vars := gs })
    (ht : Tryd.prog.readableRec t0 = true) (hs : t0 < Tryd.prog.types.size) (hv : varsRowed Tryd.prog s.vars = true) (hb : Below W.heap.size W W') :
    s.post enc Tryd.prog f false true false false W #[v0] (.bool true) W' := by
  have hlt : ∀ x ∈ before, x.block < W.heap.size := fun x hx => hW.lt x hx
  have hW' := hW
  obtain ⟨p, q, hA, hV, rfl, _, _⟩ := hW
  rw [hp] at hA
  obtain ⟨v, d, e1, e2, h0⟩ := trodAll_one hA
  have ev : v0 = v := by simpa using e1
  have ed : d0 = d := by simpa using e2
  subst ev ed
  refine ⟨[d0], gs, p ++ q, [], p, q, hW', ?_, ?_, ?_, hb.frame _, fun h => by cases h⟩
  · rw [hfn, hr]
    exact trodAll_mk1 (shut_bool Tryd.underlying4 true)
  · rw [hfn, hp]
    exact trodAll_mk1 (hb.trod Tryd.laidOut ht hs h0 (fun x hx => hlt x (List.mem_append_left _ hx)))
  · rw [hfn]
    exact hb.trodVars Tryd.laidOut hv hV

theorem open_intS' {H : Type} {enc : TypeId × Value → H} {W : World} {spare : Nat → Bool} {held : Bool} {r : Reach} {b0 : Nat} {v : Value} {d : DataW H} {p : List MemPlace} (hv : Value.okWide Tryd.prog W r b0 27 v) (h : DataW.Trod enc Tryd.prog W 0 spare held 27 v d p) :
    ∃ (A : Option Addr) (xs : List Int) (c : Nat), v = .slice A xs.length c ∧ xs.length ≤ c ∧ Ints W W.heap.size A xs ∧ xs.length ≤ maxLen ∧ ∀ x ∈ xs, F64 x := by
  obtain ⟨a0, len, cap, rfl⟩ := okWide_slice Tryd.underlying27 hv
  obtain ⟨fuel, hf⟩ := h
  exact open_intS (by simpa [Value.cells] using hf)

/-- A law's end, two arguments: it returned true, and nothing that was there has turned. -/
theorem ends_two {H : Type} {enc : TypeId × Value → H} {f : Func} {s : ChangeSpec} {W W' : World} {v0 v1 : Value} {d0 d1 : DataW H} {gs : List (DataW H)} {before : List MemPlace} {t0 t1 : TypeId}
    (hW : DataW.Whole enc Tryd.prog f.params.toList s.vars false W [v0, v1] [d0, d1] gs before) (hp : f.params = #[t0, t1]) (hr : f.resultTypes = #[4])
    (hfn : s.fn H ([d0, d1] ++ gs) = { results := [.lit (.bool true)], args := [d0, d1], vars := gs })
    (ht : Tryd.prog.readableRec t0 = true) (hs : t0 < Tryd.prog.types.size) (ht1 : Tryd.prog.readableRec t1 = true) (hs1 : t1 < Tryd.prog.types.size) (hv : varsRowed Tryd.prog s.vars = true) (hb : Below W.heap.size W W') :
    s.post enc Tryd.prog f false true false false W #[v0, v1] (.bool true) W' := by
  have hlt : ∀ x ∈ before, x.block < W.heap.size := fun x hx => hW.lt x hx
  have hW' := hW
  obtain ⟨p, q, hA, hV, rfl, _, _⟩ := hW
  rw [hp] at hA
  obtain ⟨v, v', d, d', p0, p1, e1, e2, e3, h0, h1⟩ := trodAll_two hA
  have ev : v0 = v ∧ v1 = v' := by simpa using e1
  have ed : d0 = d ∧ d1 = d' := by simpa using e2
  obtain ⟨rfl, rfl⟩ := ev
  obtain ⟨rfl, rfl⟩ := ed
  subst e3
  refine ⟨[d0, d1], gs, p0 ++ p1 ++ q, [], p0 ++ p1, q, hW', ?_, ?_, ?_, hb.frame _, fun h => by cases h⟩
  · rw [hfn, hr]
    exact trodAll_mk1 (shut_bool Tryd.underlying4 true)
  · rw [hfn, hp]
    exact trodAll_mk2 (hb.trod Tryd.laidOut ht hs h0 (fun x hx => hlt x (by simp [hx]))) (hb.trod Tryd.laidOut ht1 hs1 h1 (fun x hx => hlt x (by simp [hx])))
  · rw [hfn]
    exact hb.trodVars Tryd.laidOut hv hV

end Go.Proofs.YtgnpgehekfhedaaDoor
