/- The program's closeLefts, nullableBy, productiveBy, growingBy, reachedFrom, reachedBy. -/
import Derived.Test.YtkghblgiojidgaaDoorClose2
namespace Go.Proofs.YtkghblgiojidgaaDoor
open Go.RowKit

/-- What a call of 'fits' tells, in every world in which E holds. -/
def FitsOK (W : Way) (ss : List (Int × List Int)) (E : World → Prop) (b : Nat) (fid : Nat) (caps : Array Value) : Prop :=
  ∀ (v : World) (S : Int → Bool) (u : Ru), E v → SetM v b S → Ints v v.heap.size u.a u.r → u.abs ∈ ss →
    Calls Tryd.prog fid (#[.map (some b), .slice u.a u.r.length u.c] ++ caps) v fun e v' => e = .returned (.bool (W.fires S u.abs)) ∧ Below v.heap.size v v'

/-- A set was made. -/
def GaveSet (w : World) (P : (Int → Bool) → Prop) (e : Ending) (w' : World) : Prop :=
  ∃ b S, e = .returned (.map (some b)) ∧ w.heap.size ≤ b ∧ SetM w' b S ∧ P S ∧ Below w.heap.size w w'

theorem useW_left {W : Way} (hW : ∀ r, W.adds r = [r.1]) {S : Int → Bool} {u : Ru} (h : W.fires S u.abs = true) : useW W S u.abs = addS S u.l := by
  funext x
  unfold useW addS
  rw [h, hW]
  show (S x || (true && [u.l].contains x)) = _
  by_cases e : x = u.l
  · simp [e]
  · simp [e]

set_option maxRecDepth 20000 in
set_option maxHeartbeats 1000000 in
theorem fitsUse_any (W : Way) (hW : ∀ r, W.adds r = [r.1]) (ss : List (Int × List Int)) (hA : AddsFit W ss) (E : World → Prop) (b B fid : Nat) (caps : Array Value) (hcf : ∀ (xs : Array Value) (v : World), Sem.run Tryd.prog (callFunc fid xs) v = .ok (.enter fid xs) v)
    (hF : FitsOK W ss E b fid caps) (hk : ∀ v v', E v → Below v.heap.size v v' → E v') :
    UseOK W ss (fun v => E v ∧ v.cell? ⟨B, 0, none⟩ = some (.func (.func fid) #[] caps)) b 125 #[.pointer (some ⟨B, 0, none⟩)] := by
  intro v S u hE hS hI hm
  obtain ⟨hE1, hc⟩ := hE
  have hBl : B < v.heap.size := by
    by_cases hg : B < v.heap.size
    · exact hg
    · simp only [World.cell?] at hc
      rw [Array.getElem?_eq_none (by omega)] at hc
      cases hc
  have hul : 0 ≤ u.l ∧ u.l < 6 := hA _ hm _ (by rw [hW]; exact List.mem_singleton.2 rfl)
  have HB0 : Hid (Below v.heap.size v (v.alloc (.cells #[.int .i64 u.l, .slice u.a u.r.length u.c] 61))) := (Below.refl _ _).alloc (Nat.le_refl _) _
  have BX0 : Hid (Box2 (v.alloc (.cells #[.int .i64 u.l, .slice u.a u.r.length u.c] 61)) v.heap.size (.int .i64 u.l) (.slice u.a u.r.length u.c)) := ⟨by simp, by simp [go_sem], by simp [go_sem]⟩
  have hc1 : (v.alloc (.cells #[.int .i64 u.l, .slice u.a u.r.length u.c] 61)).cell? ⟨B, 0, none⟩ = some (.func (.func fid) #[] caps) := (HB0.out.cell (p := ⟨B, 0, none⟩) hBl).trans hc
  have HC := Lib.hid (hF _ S u (hk _ _ hE1 HB0.out) (hS.keep HB0.out) ((hI.keep HB0.out).more HB0.out.size) hm)
  have HS := Lib.hid hS; clear hS hF hk hE1 hI hc
  cases hf : W.fires S u.abs
  · rw [hf] at HC
    rw [useW_no hf]
    clear hf
    go_enter Tryd.func125, Tryd.ntmps125
    go_wp2_with fail
    refine HC.out.mono ?_
    rintro e w1 ⟨rfl, hB1⟩
    have HB1 := Lib.hid (HB0.out.trans (hB1.mono HB0.out.size)); clear hB1 hc1
    go_wp2
    go_ret
    exact ⟨rfl, HS.out.keep HB1.out, Save.of_below HB1.out⟩
  · rw [hf] at HC
    rw [useW_left hW hf]
    clear hf
    go_enter Tryd.func125, Tryd.ntmps125
    go_wp2_with fail
    refine HC.out.mono ?_
    rintro e w1 ⟨rfl, hB1⟩
    obtain ⟨_, b0, b1⟩ := BX0.out.keep hB1 (by simp)
    have HB1 := Lib.hid (HB0.out.trans (hB1.mono HB0.out.size)); clear hB1 hc1
    have HS1 := Lib.hid (HS.out.keep HB1.out)
    go_wp2_with (at_mapUpdate
                 refine wpList_store_set _ rfl _ _ _ rfl b S u.l rfl rfl rfl hul HS1.out ?_
                 intro w2 h1 h2 h3
                 have HS2 := Lib.hid h1
                 have HV2 := Lib.hid h2
                 clear h1 h2 h3)
    go_ret
    exact ⟨rfl, HS2.out, (Save.of_below HB1.out).trans HV2.out⟩

set_option maxRecDepth 20000 in
set_option maxHeartbeats 1000000 in
theorem closeLefts_any (W : Way) (hW : ∀ r, W.adds r = [r.1]) (A : Option Addr) (c : Nat) (rs : List Ru) (hA : AddsFit W (rs.map Ru.abs)) (fid : Nat) (caps : Array Value) (E : World → Prop) (w : World) (hx : Rls w w.heap.size A rs) (h16 : rs.length ≤ 16)
    (hcf : ∀ (xs : Array Value) (v : World), Sem.run Tryd.prog (callFunc fid xs) v = .ok (.enter fid xs) v) (hE : E w) (hk : ∀ v v', E v → Below w.heap.size v v' → E v') (hF : ∀ b, w.heap.size ≤ b → FitsOK W (rs.map Ru.abs) (fun v => E v ∧ w.heap.size + 1 ≤ v.heap.size) b fid caps) :
    Calls Tryd.prog 97 #[.slice A rs.length c, .func (.func fid) #[] caps] w (GaveSet w (IsLeast W noS (rs.map Ru.abs))) := by
  have hmm := @run_makeMap Tryd.prog
  have hmf : ∀ (fn : Fn) (first cap : Array Value) (w : World), (Instr.makeFunc fn first cap).run Tryd.prog w = .ok (.func fn first cap) w := fun _ _ _ _ => rfl
  have hcu : ∀ (xs : Array Value) (v : World), Sem.run Tryd.prog (callFunc 125 xs) v = .ok (.enter 125 xs) v := fun xs v => rfl
  have HB1 : Hid (Below w.heap.size w (w.alloc (.cells #[.func (.func fid) #[] caps] 118))) := (Below.refl _ _).alloc (Nat.le_refl _) _
  have hsz : (w.alloc (.cells #[.func (.func fid) #[] caps] 118)).heap.size = w.heap.size + 1 := by simp
  have hcl : (w.alloc (.cells #[.func (.func fid) #[] caps] 118)).cell? ⟨w.heap.size, 0, none⟩ = some (.func (.func fid) #[] caps) := by simp [go_sem]
  have HS2 := Lib.hid (SetM.made (w.alloc (.cells #[.func (.func fid) #[] caps] 118)))
  have HB2 : Hid (Below w.heap.size w ((w.alloc (.cells #[.func (.func fid) #[] caps] 118)).alloc (.map #[] 0))) := HB1.out.alloc HB1.out.size _
  have HX := Lib.hid ((hx.keep HB2.out).more HB2.out.size); clear hx
  have hc2 : ((w.alloc (.cells #[.func (.func fid) #[] caps] 118)).alloc (.map #[] 0)).cell? ⟨w.heap.size, 0, none⟩ = some (.func (.func fid) #[] caps) := by simp [go_sem]
  have HU := Lib.hid (fitsUse_any W hW (rs.map Ru.abs) hA (fun v => E v ∧ w.heap.size + 1 ≤ v.heap.size) (w.heap.size + 1) w.heap.size fid caps hcf (hF _ (by omega)) (fun v v' h hb => ⟨hk v v' h.1 (hb.mono (by have := h.2; omega)), by have := hb.size; have := h.2; omega⟩))
  have HEK := Lib.hid hk
  have HE2 : Hid ((E ((w.alloc (.cells #[.func (.func fid) #[] caps] 118)).alloc (.map #[] 0)) ∧ w.heap.size + 1 ≤ ((w.alloc (.cells #[.func (.func fid) #[] caps] 118)).alloc (.map #[] 0)).heap.size) ∧ ((w.alloc (.cells #[.func (.func fid) #[] caps] 118)).alloc (.map #[] 0)).cell? ⟨w.heap.size, 0, none⟩ = some (.func (.func fid) #[] caps)) := ⟨⟨hk _ _ hE HB2.out, by simp⟩, hc2⟩
  clear hcl hc2 hE hk hF
  rw [hsz] at HS2
  go_enter Tryd.func97, Tryd.ntmps97
  go_wp2_with fail
  refine (closeSet_any W _ _ rs _ _ _ noS (fun v => (E v ∧ w.heap.size + 1 ≤ v.heap.size) ∧ v.cell? ⟨w.heap.size, 0, none⟩ = some (.func (.func fid) #[] caps)) _ HX.out h16 HS2.out HE2.out ?_ HU.out hcu).mono ?_
  · intro v v' h hs
    have hb : Below (w.heap.size + 1) v v' := ⟨hs.os, hs.tape, hs.output, hs.size, fun i hi => hs.block i (by have := h.1.2; omega) (by unfold Tb; simp; omega)⟩
    exact ⟨⟨HEK.out v v' h.1.1 (hb.mono (by omega)), by have := hs.size; have := h.1.2; omega⟩, (hb.cell (p := ⟨w.heap.size, 0, none⟩) (Nat.lt_succ_self _)).trans h.2⟩
  rintro e w3 ⟨rfl, S, hS, hL, hV⟩
  have HB3 : Hid (Below w.heap.size w w3) := HB2.out.trans (hV.below HB2.out.size fun i hi e => by omega)
  have HS3 := Lib.hid hS; clear hS
  clear hV
  go_wp2
  go_ret
  exact ⟨w.heap.size + 1, S, rfl, by omega, HS3.out, hL, HB3.out⟩

end Go.Proofs.YtkghblgiojidgaaDoor
