/- The program's endsIn and deriveWhole. -/
import Derived.Test.YtkghblgiojidgaaDoorEndG
import Derived.Deep.LoopGhost
namespace Go.Proofs.YtkghblgiojidgaaDoor
open Go.RowKit

set_option maxRecDepth 20000 in
theorem zero124 : Tryd.zeroCells124.size = 66 ∧ ∀ k, k < 66 → Tryd.zeroCells124[k]? = some (.int .u16 0) := by
  have h : Tryd.zeroCells124 = Array.replicate 66 (.int .u16 0) := by kernel_rfl
  rw [h]
  exact ⟨by simp, fun k hk => by simp [hk]⟩

set_option maxHeartbeats 400000 in
theorem endsOfOne_any (p : Option Addr) (A : Option Addr) (n c : Nat) (v : World) :
    Calls Tryd.prog 105 #[.pointer p, .slice A n c] v fun e v' => e = .returned (.func (.func 128) #[] #[.pointer (some ⟨v.heap.size, 0, none⟩), .pointer (some ⟨v.heap.size + 1, 0, none⟩)]) ∧ v' = (v.alloc (.cells #[.pointer p] 128)).alloc (.cells #[.slice A n c] 34) := by
  go_enter Tryd.func105, Tryd.ntmps105
  go_wp2
  go_ret
  exact ⟨rfl, rfl⟩

set_option maxHeartbeats 400000 in
theorem endsOfAll_any (f : Fn) (a b : Array Value) (v : World) :
    Calls Tryd.prog 104 #[.func f a b] v fun e v' => e = .returned (.func (.func 127) #[] #[.pointer (some ⟨v.heap.size, 0, none⟩)]) ∧ v' = v.alloc (.cells #[.func f a b] 126) := by
  go_enter Tryd.func104, Tryd.ntmps104
  go_wp2
  go_ret
  exact ⟨rfl, rfl⟩

/-- What endsIn gives: the function, with a table that tells just what is derived. -/
def GaveEnds (w : World) (Aw : Option Addr) (cw : Nat) (ws : List Int) (ss : List (Int × List Int)) (e : Ending) (w' : World) : Prop :=
  ∃ R P W O K, e = .returned (.func (.func 127) #[] #[.pointer (some ⟨O, 0, none⟩)]) ∧ EnvK w' R P W O Aw cw ws K ∧ (∀ x i, K x i < 2048) ∧ (∀ x i j, DK K x i j ↔ Der ss ws x i j) ∧ w.heap.size ≤ R ∧ Below w.heap.size w w'
theorem okK_zero (ss : List (Int × List Int)) (ws : List Int) : OkK ss ws fun _ _ => 0 := ⟨fun _ _ => by show 0 < 2048; omega, fun x i j h => by have := h.2; simp at this⟩
theorem sumK_zero : sumK (fun _ _ => 0) = 0 := by decide

set_option maxRecDepth 20000 in
set_option maxHeartbeats 1000000 in
theorem endsIn_any (n t : Int) (A : Option Addr) (c : Nat) (rs : List Ru) (Aw : Option Addr) (cw : Nat) (ws : List Int) (w : World) (hx : Rls w w.heap.size A rs) (hg : goodG n t (rs.map Ru.abs) = true) (hw : ws.length ≤ 10) (hW : Ints w w.heap.size Aw ws) :
    Calls Tryd.prog 62 #[.agg #[.int .i64 n, .int .i64 t, .slice A rs.length c], .slice Aw ws.length cw] w (GaveEnds w Aw cw ws (rs.map Ru.abs)) := by
  have HX := Lib.hid hx; clear hx
  have HG := Lib.hid hg; clear hg
  have HW := Lib.hid hW; clear hW
  have HB2 : Hid (Below w.heap.size w ((w.alloc (.cells #[.int .i64 n, .int .i64 t, .slice A rs.length c] 30)).alloc (.cells Tryd.zeroCells124 124))) := by show Below _ _ _; go_grown
  have HX2 : Hid (Box3 ((w.alloc (.cells #[.int .i64 n, .int .i64 t, .slice A rs.length c] 30)).alloc (.cells Tryd.zeroCells124 124)) w.heap.size (.int .i64 n) (.int .i64 t) (.slice A rs.length c)) := Box3.keep (B := w.heap.size + 1) (w := w.alloc (.cells #[.int .i64 n, .int .i64 t, .slice A rs.length c] 30)) ⟨by simp, by simp [go_sem], by simp [go_sem], by simp [go_sem]⟩ ((Below.refl _ _).alloc (by simp) _) (by omega)
  have HT2 : Hid (TabK ((w.alloc (.cells #[.int .i64 n, .int .i64 t, .slice A rs.length c] 30)).alloc (.cells Tryd.zeroCells124 124)) (w.heap.size + 1) fun _ _ => 0) := by
    refine ⟨Tryd.zeroCells124, ?_, zero124.1, fun x i hx hi => zero124.2 _ (by omega)⟩
    have h := Row.new (w.alloc (.cells #[.int .i64 n, .int .i64 t, .slice A rs.length c] 30)) 124 Tryd.zeroCells124
    rw [World.size_alloc] at h
    exact h
  have hz2 : ((w.alloc (.cells #[.int .i64 n, .int .i64 t, .slice A rs.length c] 30)).alloc (.cells Tryd.zeroCells124 124)).heap.size = w.heap.size + 2 := by simp
  go_enter Tryd.func62, Tryd.ntmps62
  go_wp2_with fail
  generalize (w.alloc (.cells #[.int .i64 n, .int .i64 t, .slice A rs.length c] 30)).alloc (.cells Tryd.zeroCells124 124) = w2 at *
  refine (endsOfOne_any _ _ _ _ _).mono ?_
  rintro e w3 ⟨rfl, h3⟩
  have HB3 : Hid (Below w2.heap.size w2 w3) := by rw [h3]; show Below _ _ _; go_grown
  have HP3 : Hid (w3.cell? ⟨w2.heap.size, 0, none⟩ = some (.pointer (some ⟨w.heap.size + 1, 0, none⟩))) := by show _ = _; rw [h3]; simp [go_sem]
  have HW3 : Hid (w3.cell? ⟨w2.heap.size + 1, 0, none⟩ = some (.slice Aw ws.length cw)) := by show _ = _; rw [h3]; simp [go_sem]
  have hz3 : w3.heap.size = w2.heap.size + 2 := by rw [h3]; simp
  clear h3
  go_wp2_with fail
  refine (endsOfAll_any _ _ _ _).mono ?_
  rintro e w4 ⟨rfl, h4⟩
  have HB4 : Hid (Below w3.heap.size w3 w4) := by rw [h4]; show Below _ _ _; go_grown
  have HO4 : Hid (w4.cell? ⟨w3.heap.size, 0, none⟩ = some (.func (.func 128) #[] #[.pointer (some ⟨w2.heap.size, 0, none⟩), .pointer (some ⟨w2.heap.size + 1, 0, none⟩)])) := by show _ = _; rw [h4]; simp [go_sem]
  have hz4 : w4.heap.size = w3.heap.size + 1 := by rw [h4]; simp
  clear h4
  have HBW : Hid (Below w.heap.size w w4) := (HB2.out.trans (HB3.out.mono (by omega))).trans (HB4.out.mono (by omega))
  have HEN : Hid (EnvK w4 (w.heap.size + 1) (w.heap.size + 2) (w.heap.size + 2 + 1) w3.heap.size Aw cw ws fun _ _ => 0) := by
    obtain ⟨cs, h1, h2⟩ := HT2.out
    have k1 := HP3.out
    have k2 := HW3.out
    have k3 := HO4.out
    rw [hz2] at k3
    rw [hz2] at k1 k2
    exact ⟨⟨cs, (h1.below HB3.out (by omega)).below HB4.out (by omega), h2⟩, (HB4.out.cell (p := ⟨w.heap.size + 2, 0, none⟩) (by simp; omega)).trans k1, (HB4.out.cell (p := ⟨w.heap.size + 2 + 1, 0, none⟩) (by simp; omega)).trans k2, (HW.out.keep HBW.out).more (by omega), k3, by omega, by omega, by omega⟩
  have HX4 := Lib.hid ((HX2.out.keep HB3.out (by omega)).keep HB4.out (by omega))
  have hz5 : w.heap.size + 2 < w4.heap.size := by omega
  clear HB2 HX2 HT2 HB3 HP3 HW3 HB4 HO4 hz4 hz3
  go_wp2_with fail
  clear hz2
  go_loopg [] 135102 (fun g wr => ∃ K, g = 135102 - sumK K ∧ Hid (EnvK wr (w.heap.size + 1) (w.heap.size + 2) (w.heap.size + 2 + 1) w3.heap.size Aw cw ws K) ∧ Hid (OkK (rs.map Ru.abs) ws K) ∧ Hid (Save (· = w.heap.size + 1) w4 wr))
  case atStart => exact ⟨_, by rw [sumK_zero], HEN.out, okK_zero _ _, Save.refl _ _⟩
  case round =>
    obtain ⟨K, hgk, HE, HK, HS⟩ := hrel
    clear HEN
    have HBR : Hid (Below w.heap.size w wr) := HBW.out.trans (HS.out.below (by omega) (fun i hi h => by omega))
    obtain ⟨_, b0, b1, b2⟩ := HX4.out.save HS.out (by omega)
    have HC := Lib.hid (growTable_any n t A c rs (w.heap.size + 1) (w.heap.size + 2) (w.heap.size + 2 + 1) w3.heap.size Aw cw ws K wr ((HX.out.keep HBR.out).more (by omega)) HG.out hw HE.out HK.out)
    go_wp2_with fail
    refine HC.out.mono ?_
    rintro e w5 ⟨K2, b, rfl, hE, hP, hS⟩
    have HE2 := Lib.hid hE
    have HP2 := Lib.hid hP
    have HS2 := Lib.hid (HS.out.trans hS)
    clear hE hP hS
    cases b
    · have HB5 : Hid (Below w.heap.size w w5) := HBW.out.trans (HS2.out.below (by omega) (fun i hi h => by omega))
      go_wp2
      go_ret
      exact ⟨w.heap.size + 1, w.heap.size + 2, w.heap.size + 2 + 1, w3.heap.size, K2, rfl, HE2.out, HP2.out.1.1, fun x i j => HP2.out.done, by omega, HB5.out⟩
    · have h1 := HP2.out.2.2.1 rfl
      have h2 := sumK_most HP2.out.1.1
      have HD : Hid (135102 - sumK K2 < 135102 - sumK K) := by show _ < _; omega
      clear h1 h2
      go_wp2
      go_roundg (135102 - sumK K2)
      case measure => rw [hgk]; exact HD.out
      case rel => exact ⟨K2, rfl, HE2.out, HP2.out.1, HS2.out⟩

end Go.Proofs.YtkghblgiojidgaaDoor
