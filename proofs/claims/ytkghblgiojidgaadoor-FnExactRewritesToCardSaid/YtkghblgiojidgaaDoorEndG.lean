/- The program's growTable and endsIn. -/
import Derived.Test.YtkghblgiojidgaaDoorEndA
import Derived.Test.YtkghblgiojidgaaDoorSets
import Derived.Test.YtkghblgiojidgaaDoorMark
import Derived.StillTailTactics
namespace Go.Proofs.YtkghblgiojidgaaDoor
open Go.RowKit

set_option maxRecDepth 100000 in
theorem enter_all (xs : Array Value) (v : World) : Sem.run Tryd.prog (callFunc 127 xs) v = .ok (.enter 127 xs) v := rfl
theorem Save.alloc {S : Nat → Prop} {a w : World} (h : Save S a w) (o : Obj) : Save S a (w.alloc o) := h.trans (Save.of_below ((Below.refl _ _).alloc (Nat.le_refl _) _))
theorem Box3.save {S : Nat → Prop} {w w' : World} {g : Nat} {a b c : Value} (h : Box3 w g a b c) (hs : Save S w w') (hg : ¬ S g) : Box3 w' g a b c := by
  have e := hs.block g h.1 hg
  have k : ∀ i, w'.cell? ⟨g, i, none⟩ = w.cell? ⟨g, i, none⟩ := fun i => by simp only [World.cell?, e]
  exact ⟨Nat.lt_of_lt_of_le h.1 hs.size, (k 0).trans h.2.1, (k 1).trans h.2.2.1, (k 2).trans h.2.2.2⟩
theorem Box2.save {S : Nat → Prop} {w w' : World} {g : Nat} {a b : Value} (h : Box2 w g a b) (hs : Save S w w') (hg : ¬ S g) : Box2 w' g a b := by
  have e := hs.block g h.1 hg
  have k : ∀ i, w'.cell? ⟨g, i, none⟩ = w.cell? ⟨g, i, none⟩ := fun i => by simp only [World.cell?, e]
  exact ⟨Nat.lt_of_lt_of_le h.1 hs.size, (k 0).trans h.2.1, (k 1).trans h.2.2⟩

theorem below_drew' (w : World) : Below w.heap.size w w.drew := by go_grown

/-- One pass over the table. -/
def GaveGrow (v : World) (R P W O : Nat) (Aw : Option Addr) (cw : Nat) (ws : List Int) (ss : List (Int × List Int)) (K0 : Nat → Nat → Nat) (e : Ending) (v' : World) : Prop :=
  ∃ K b, e = .returned (.bool b) ∧ EnvK v' R P W O Aw cw ws K ∧ Pass ss ws ss.length 0 K0 K b ∧ Save (· = R) v v'

set_option maxRecDepth 20000 in
set_option maxHeartbeats 4000000 in
theorem growTable_any (n t : Int) (A : Option Addr) (c : Nat) (rs : List Ru) (R P W O : Nat) (Aw : Option Addr) (cw : Nat) (ws : List Int) (K0 : Nat → Nat → Nat) (v : World) (hx : Rls v R A rs) (hg : goodG n t (rs.map Ru.abs) = true) (hw : ws.length ≤ 10) (hE : EnvK v R P W O Aw cw ws K0) (hK : OkK (rs.map Ru.abs) ws K0) :
    Calls Tryd.prog 106 #[.pointer (some ⟨R, 0, none⟩), .agg #[.int .i64 n, .int .i64 t, .slice A rs.length c], .slice Aw ws.length cw, .func (.func 127) #[] #[.pointer (some ⟨O, 0, none⟩)]] v (GaveGrow v R P W O Aw cw ws (rs.map Ru.abs) K0) := by
  have h16 := good_16 hg
  have HX := Lib.hid hx; clear hx
  have HG := Lib.hid hg; clear hg
  have hR : R < v.heap.size := by obtain ⟨⟨cs, h1, _⟩, _⟩ := hE; exact h1.lt
  have HP0 := Lib.hid (Pass.start hK)
  have HE0 : Hid (EnvK (v.alloc (.cells #[.int .i64 n, .int .i64 t, .slice A rs.length c] 30)) R P W O Aw cw ws K0) := hE.keep ((Below.refl _ _).alloc (Nat.le_refl _) _)
  have HS0 : Hid (Save (· = R) v (v.alloc (.cells #[.int .i64 n, .int .i64 t, .slice A rs.length c] 30))) := (Save.refl _ _).alloc _
  have HB0 : Hid (Box3 (v.alloc (.cells #[.int .i64 n, .int .i64 t, .slice A rs.length c] 30)) v.heap.size (.int .i64 n) (.int .i64 t) (.slice A rs.length c)) := ⟨by simp, by simp [go_sem], by simp [go_sem], by simp [go_sem]⟩
  clear hE hK
  go_enter Tryd.func106, Tryd.ntmps106
  go_wp2
  go_loopw [9, 17] (fun g n wr => ∃ (j : Nat) (K : Nat → Nat → Nat) (b : Bool), j ≤ rs.length ∧ n = .int .i64 j ∧ g = .bool b ∧ Hid (EnvK wr R P W O Aw cw ws K) ∧ Hid (Pass (rs.map Ru.abs) ws j 0 K0 K b) ∧ Hid (Save (· = R) v wr)) (fun _ n _ => rs.length - (intOf n).toNat)
  case atStart => exact ⟨0, K0, false, by omega, rfl, rfl, HE0.out, HP0.out, HS0.out⟩
  case round =>
    obtain ⟨j, K, b, hj, rfl, rfl, HE, HP, HS⟩ := hrel
    clear HE0 HP0 HS0
    by_cases hlt : j < rs.length
    · obtain ⟨p, o, hA, hp, c1, c2, c3⟩ := (HX.out.keep (HS.out.below (Nat.le_of_lt hR) (fun i hi h => by omega))).at_ hlt
      have hum : rs[j].abs ∈ rs.map Ru.abs := List.mem_map.2 ⟨_, List.getElem_mem hlt, rfl⟩
      have h4 := good_len HG.out hum
      have HGM := Lib.hid (goodG_mem HG.out hum)
      obtain ⟨L, hL⟩ : ∃ L : Nat, rs[j].l = (L : Int) := ⟨_, Int.eq_ofNat_of_zero_le HGM.out.1.1 |>.choose_spec⟩
      have hL6 : L < 6 := by have h : rs[j].l < n := HGM.out.1.2; have := goodG_is HG.out; omega
      have HJ : Hid ((rs.map Ru.abs)[j]? = some ((L : Int), rs[j].r)) := by show _ = _; rw [List.getElem?_map, List.getElem?_eq_getElem hlt, ← hL]; rfl
      have HSY : Hid (∀ x ∈ rs[j].r, -10 ≤ x ∧ x < 6) := fun x hx => by have h := HGM.out.2.2 x hx; have := goodG_is HG.out; omega
      rw [hL] at c1
      have HBR : Hid (Below wr.heap.size wr (wr.alloc (.cells #[.int .i64 L, .slice rs[j].a rs[j].r.length rs[j].c] 61))) := (Below.refl _ _).alloc (Nat.le_refl _) _
      have HBU : Hid (Box2 (wr.alloc (.cells #[.int .i64 L, .slice rs[j].a rs[j].r.length rs[j].c] 61)) wr.heap.size (.int .i64 L) (.slice rs[j].a rs[j].r.length rs[j].c)) := ⟨by simp, by simp [go_sem], by simp [go_sem]⟩
      have HEY := Lib.hid (HE.out.keep HBR.out)
      have HSV : Hid (Save (· = R) v (wr.alloc (.cells #[.int .i64 L, .slice rs[j].a rs[j].r.length rs[j].c] 61))) := HS.out.alloc _
      have HI : Hid (∀ u, Save (· = R) v u → Ints u R rs[j].a rs[j].r) := fun u hu => by
        obtain ⟨_, _, _, _, _, _, h⟩ := (HX.out.keep (hu.below (Nat.le_of_lt hR) (fun i hi h => by omega))).at_ hlt
        exact h
      have hQR : R < wr.heap.size := Nat.lt_of_lt_of_le hR HS.out.size
      clear c3 hum hL HE HS
      rw [hA]
      obtain ⟨wP, hwP⟩ : ∃ x, x = wr := ⟨_, rfl⟩
      subst hwP
      obtain ⟨_, r0, r1⟩ := HBU.out
      go_wp2
      generalize (wP.alloc (.cells #[.int .i64 L, .slice rs[j].a rs[j].r.length rs[j].c] 61)) = Y at *
      clear r0 r1 c1 c2
      obtain ⟨Q, hQ⟩ : ∃ x, x = wP.heap.size := ⟨_, rfl⟩
      rw [← hQ] at HBU hQR ⊢
      clear hQ HBR
      have HPO : Hid (Pass (rs.map Ru.abs) ws j 0 K0 K b) := HP.out
      clear HP
      go_loopw [9, 24] (fun g n wr => ∃ (i : Nat) (K : Nat → Nat → Nat) (b : Bool), i ≤ ws.length + 1 ∧ n = .int .i64 i ∧ g = .bool b ∧ Hid (EnvK wr R P W O Aw cw ws K) ∧ Hid (Pass (rs.map Ru.abs) ws j i K0 K b) ∧ Hid (Save (· = R) v wr) ∧ Hid (Box2 wr Q (.int .i64 L) (.slice rs[j].a rs[j].r.length rs[j].c))) (fun _ n _ => ws.length + 1 - (intOf n).toNat)
      case atStart => exact ⟨0, K, b, by omega, rfl, rfl, HEY.out, HPO.out, HSV.out, HBU.out⟩
      case round =>
        obtain ⟨i, K, b, hi, rfl, rfl, HE, HP, HS, HU⟩ := hrel
        clear HEY HPO HSV HBU
        by_cases hlti : i < ws.length + 1
        · obtain ⟨k1, k2⟩ := HE.out.1.at_ hL6 (show i < 11 by omega)
          obtain ⟨_, r0, r1⟩ := HU.out
          have hRw : R ≤ wr.heap.size := Nat.le_of_lt (Nat.lt_of_lt_of_le hR HS.out.size)
          have hkl : K L i < 2048 := HP.out.1.1 L i
          have HM := Lib.hid (endsM_is (K := K) (ws := ws) (xs := rs[j].r) (i := i) HP.out.1.1 hw (by omega))
          have HPN := Lib.hid (HP.out.step HJ.out hL6 (show i ≤ ws.length by omega) hw HM.out)
          have ho := u16_or' hkl HM.out.1
          go_wp2_with fail
          go_region
          have HED : Hid (EnvK wr.drew R P W O Aw cw ws K) := HE.out.keep (below_drew' _)
          have HSD : Hid (Save (· = R) v wr.drew) := HS.out.trans (Save.of_below (below_drew' _))
          have HUD : Hid (Box2 wr.drew Q (.int .i64 L) (.slice rs[j].a rs[j].r.length rs[j].c)) := HU.out.keep (below_drew' _) HU.out.1
          have hRD : R ≤ wr.drew.heap.size := hRw
          go_wp2_with fail
          generalize wr.drew = wD at *
          clear HE HS HU k1 k2 r0 r1 hRw
          obtain ⟨k1, k2⟩ := HED.out.1.at_ hL6 (show i < 11 by omega)
          obtain ⟨_, r0, r1⟩ := HUD.out
          have HC := Lib.hid (ends_still R P W O Aw cw ws K rs[j].a rs[j].r rs[j].c i wD.drew (HED.out.keep (below_drew' _)) HP.out.1.1 hw (((HI.out _ HSD.out).keep ((below_drew' _).mono hRD)).more hRD) HSY.out (by omega) (by omega))
          generalize endsM K ws rs[j].r i = m at *
          have hLi : (L : Int) < 6 := by omega
          have hii : (i : Int) < 11 := by omega
          refine wp_region_still_tail 17 (by kernel_rfl) (by kernel_rfl) ?_
          simp only [List.take_succ_cons, List.take_zero, List.drop_succ_cons, List.drop_zero]
          repeat still_step
          still_call HC.out
          repeat still_step
          refine wpStill_nil ?_
          change wpList _ _ _ _ _ wD.drew
          go_wp2
          have hQR' : Q ≠ R := by omega
          have HEZ : Hid (EnvK (wD.setCell ⟨R, L * 11 + i, none⟩ (.int .u16 (orK (K L i) m : Int))).drew R P W O Aw cw ws (setK K L i (orK (K L i) m))) := (HED.out.set hL6 (by omega) _).keep (below_drew' _)
          have HSZ : Hid (Save (· = R) v (wD.setCell ⟨R, L * 11 + i, none⟩ (.int .u16 (orK (K L i) m : Int))).drew) := (HSD.out.setCell rfl _).trans (Save.of_below (below_drew' _))
          have HUZ : Hid (Box2 (wD.setCell ⟨R, L * 11 + i, none⟩ (.int .u16 (orK (K L i) m : Int))).drew Q (.int .i64 L) (.slice rs[j].a rs[j].r.length rs[j].c)) := by
            have h := HUD.out.save (S := (· = R)) (Save.setCell (S := (· = R)) (Save.refl _ _) (p := ⟨R, L * 11 + i, none⟩) rfl (.int .u16 (orK (K L i) m : Int))) hQR'
            exact h.keep (below_drew' _) h.1
          have hd : ((orK (K L i) m : Int) != (K L i : Int)) = decide (K L i ||| m ≠ K L i) := by
            by_cases e : K L i ||| m = K L i
            · rw [decide_eq_false (by simpa using e)]; exact bne_f (by have : orK (K L i) m = K L i := e; omega)
            · rw [decide_eq_true e]; exact bne_t (by have : ¬ orK (K L i) m = K L i := e; omega)
          have HPQ : Hid (Pass (rs.map Ru.abs) ws j (i + 1) K0 (setK K L i (orK (K L i) m)) (b || decide (K L i ||| m ≠ K L i))) := HPN.out
          generalize decide (K L i ||| m ≠ K L i) = d at *
          generalize (wD.setCell ⟨R, L * 11 + i, none⟩ (.int .u16 (orK (K L i) m : Int))).drew = Z at *
          clear k1 k2 r0 r1 HPN HP HM HC HED HSD HUD ho
          obtain ⟨k1, k2⟩ := HEZ.out.1.at_ hL6 (show i < 11 by omega)
          obtain ⟨_, r0, r1⟩ := HUZ.out
          rw [setK_at] at k1
          have HEW : Hid (EnvK Z.drew R P W O Aw cw ws (setK K L i (orK (K L i) m))) := HEZ.out.keep (below_drew' _)
          have HSW : Hid (Save (· = R) v Z.drew) := HSZ.out.trans (Save.of_below (below_drew' _))
          have HUW : Hid (Box2 Z.drew Q (.int .i64 L) (.slice rs[j].a rs[j].r.length rs[j].c)) := HUZ.out.keep (below_drew' _) HUZ.out.1
          clear HEZ HSZ HUZ
          generalize setK K L i (orK (K L i) m) = K2 at HEW HPQ
          cases b
          · go_still (by kernel_rfl)
            change Exit.inBlock _ _ _ _ Z.drew
            go_wp2
            go_roundw
            case rel => exact ⟨i + 1, K2, d, by omega, by go_num, rfl, HEW.out, HPQ.out, HSW.out, HUW.out⟩
            case measure => simp [intOf]; omega
          · clear hd k1 k2
            go_region
            go_wp2
            go_roundw
            case rel => exact ⟨i + 1, K2, true, by omega, by go_num, rfl, HEW.out, HPQ.out, HSW.out, HUW.out⟩
            case measure => simp [intOf]; omega
        · obtain rfl : i = ws.length + 1 := by omega
          have HPN := Lib.hid HP.out.line
          go_wp2
          go_roundw
          case rel => exact ⟨j + 1, K, b, by omega, by go_num, rfl, HE.out, HPN.out, HS.out⟩
          case measure => simp [intOf]; omega
    · obtain rfl : j = rs.length := by omega
      have HPL : Hid (Pass (rs.map Ru.abs) ws (rs.map Ru.abs).length 0 K0 K b) := by have h := HP.out; rw [List.length_map]; exact h
      go_wp2
      go_ret
      exact ⟨K, b, rfl, HE.out, HPL.out, HS.out⟩

end Go.Proofs.YtkghblgiojidgaaDoor
