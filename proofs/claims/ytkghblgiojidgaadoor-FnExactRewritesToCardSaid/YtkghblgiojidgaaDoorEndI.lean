/- The program's places: masks. -/
import Derived.Test.YtkghblgiojidgaaDoorMsk
import Derived.Test.YtkghblgiojidgaaDoorImplGood2
import Derived.Laws.ShiftsVarLaws
import Derived.Deep.RegionHeld
namespace Go.Proofs.YtkghblgiojidgaaDoor
open Go.RowKit

def pw (a : Nat) : Nat := 2 ^ a
theorem pw_lt {a : Nat} (h : a < 11) : pw a < 2048 := Nat.pow_lt_pow_right (by decide) h
theorem u16_shl {a : Nat} (h : a < 11) : IntKind.u16.wrap ((2 : Int) ^ a) = (pw a : Int) := by
  rw [IntKind.wrap_u16]
  have h1 := pw_lt h
  have h2 : ((2 : Int) ^ a) = (pw a : Int) := by unfold pw; simp
  rw [h2]
  omega
theorem ret_u16 {a b : Int} (h : a = b) : Ending.returned (.int .u16 a) = .returned (.int .u16 b) := by rw [h]
theorem has_bit {m a : Nat} (hm : m < 2048) (h : a < 11) : (bits .and .u16 (m : Int) (pw a : Int) != 0) = m.testBit a := by
  have h1 := pw_lt h
  rw [u16_and _ _ (by omega) (by omega) (by omega) (by omega)]
  cases e : m.testBit a
  · have h2 := bit_and.2 e
    rw [Int.toNat_natCast, Int.toNat_natCast, show m &&& pw a = 0 from h2]; rfl
  · have h2 : ¬ m &&& pw a = 0 := fun h => by have := bit_and.1 h; rw [e] at this; cases this
    rw [Int.toNat_natCast, Int.toNat_natCast]
    exact bne_t (by omega)

set_option maxHeartbeats 400000 in
theorem placeAt_any (a : Nat) (h : a < 11) (w : World) :
    Calls Tryd.prog 107 #[.int .i64 (a : Int)] w fun e w' => e = .returned (.int .u16 (pw a : Int)) ∧ w' = w := by
  have HS := Lib.hid (u16_shl h)
  go_enter Tryd.func107, Tryd.ntmps107
  go_wp2
  go_ret
  exact ⟨ret_u16 HS.out, rfl⟩

set_option maxHeartbeats 400000 in
theorem has_any (m a : Nat) (hm : m < 2048) (h : a < 11) (w : World) :
    Calls Tryd.prog 63 #[.int .u16 (m : Int), .int .i64 (a : Int)] w fun e w' => e = .returned (.bool (m.testBit a)) ∧ w' = w := by
  have HS := Lib.hid (has_bit hm h)
  go_enter Tryd.func63, Tryd.ntmps63
  go_wp2_with fail
  refine (placeAt_any a h _).mono ?_
  rintro e w1 ⟨rfl, rfl⟩
  go_wp2
  go_ret
  exact ⟨ret_bool HS.out, rfl⟩

/-- The table K lies in block R, and can be written. -/
def TabK (w : World) (R : Nat) (K : Nat → Nat → Nat) : Prop := ∃ cs, Row w R 124 cs ∧ cs.size = 66 ∧ ∀ x i, x < 6 → i < 11 → cs[x * 11 + i]? = some (.int .u16 (K x i : Int))
theorem TabK.at_ {w : World} {R : Nat} {K : Nat → Nat → Nat} (h : TabK w R K) {x i : Nat} (hx : x < 6) (hi : i < 11) : w.cell? ⟨R, x * 11 + i, none⟩ = some (.int .u16 (K x i : Int)) ∧ w.frozen? ⟨R, x * 11 + i, none⟩ = false := by
  obtain ⟨cs, h1, _, h2⟩ := h
  exact ⟨(h1.cell _).trans (h2 x i hx hi), h1.frozen _⟩
theorem TabK.set {w : World} {R : Nat} {K : Nat → Nat → Nat} (h : TabK w R K) {a b : Nat} (ha : a < 6) (hb : b < 11) (m : Nat) : TabK (w.setCell ⟨R, a * 11 + b, none⟩ (.int .u16 (m : Int))) R (setK K a b m) := by
  obtain ⟨cs, h1, h3, h2⟩ := h
  refine ⟨_, h1.set _ _, by simpa using h3, fun x i hx hi => ?_⟩
  rw [Array.getElem?_setIfInBounds]
  by_cases e : x = a ∧ i = b
  · obtain ⟨rfl, rfl⟩ := e
    rw [if_pos rfl, if_pos (by omega), setK_at]
  · rw [if_neg (by omega), h2 x i hx hi, setK_far e]
/-- What the closures hold: the table in R by way of the box P, the word by way of the box W, the first closure in the box O. -/
def EnvK (v : World) (R P W O : Nat) (Aw : Option Addr) (cw : Nat) (ws : List Int) (K : Nat → Nat → Nat) : Prop :=
  TabK v R K ∧ v.cell? ⟨P, 0, none⟩ = some (.pointer (some ⟨R, 0, none⟩)) ∧ v.cell? ⟨W, 0, none⟩ = some (.slice Aw ws.length cw) ∧ Ints v R Aw ws ∧
  v.cell? ⟨O, 0, none⟩ = some (.func (.func 128) #[] #[.pointer (some ⟨P, 0, none⟩), .pointer (some ⟨W, 0, none⟩)]) ∧ R < P ∧ R < W ∧ R < O
theorem cell_in {w : World} {B : Nat} {v : Value} (h : w.cell? ⟨B, 0, none⟩ = some v) : B < w.heap.size := by
  by_cases e : B < w.heap.size
  · exact e
  · simp only [World.cell?] at h
    rw [Array.getElem?_eq_none (by omega)] at h
    cases h
theorem EnvK.keep {v v' : World} {R P W O : Nat} {Aw : Option Addr} {cw : Nat} {ws : List Int} {K : Nat → Nat → Nat} (h : EnvK v R P W O Aw cw ws K) (hb : Below v.heap.size v v') : EnvK v' R P W O Aw cw ws K := by
  obtain ⟨⟨cs, h1, h1'⟩, h2, h3, h4, h5, h6⟩ := h
  exact ⟨⟨cs, h1.below hb h1.lt, h1'⟩, (hb.cell (p := ⟨P, 0, none⟩) (cell_in h2)).trans h2, (hb.cell (p := ⟨W, 0, none⟩) (cell_in h3)).trans h3, h4.keep (hb.mono (Nat.le_of_lt h1.lt)), (hb.cell (p := ⟨O, 0, none⟩) (cell_in h5)).trans h5, h6⟩
theorem EnvK.set {v : World} {R P W O : Nat} {Aw : Option Addr} {cw : Nat} {ws : List Int} {K : Nat → Nat → Nat} (h : EnvK v R P W O Aw cw ws K) {a b : Nat} (ha : a < 6) (hb : b < 11) (m : Nat) : EnvK (v.setCell ⟨R, a * 11 + b, none⟩ (.int .u16 (m : Int))) R P W O Aw cw ws (setK K a b m) := by
  obtain ⟨h1, h2, h3, h4, h5, h6, h7, h8⟩ := h
  exact ⟨h1.set ha hb m, (World.cell?_setCell_far _ _ _ _ (by simp; omega)).trans h2, (World.cell?_setCell_far _ _ _ _ (by simp; omega)).trans h3, h4.keep ((Below.refl _ _).setCell (by simp) _), (World.cell?_setCell_far _ _ _ _ (by simp; omega)).trans h5, h6, h7, h8⟩

/-- One mask of a symbol. -/
theorem symD_tok {K : Nat → Nat → Nat} {ws : List Int} {x : Int} {i : Nat} (hx : x < 0) (hi : i < ws.length) (hw : ws.length ≤ 10) (h : ws[i] = -1 - x) : Msk (pw (i + 1)) fun j => SymD (DK K) ws x i j :=
  (msk_one (a := i + 1) (by omega)).congr fun j => ⟨fun e => .inl ⟨hx, e, by rw [List.getElem?_eq_getElem hi, h]⟩, fun e => by rcases e with e | e; exact e.2.1; omega⟩
theorem symD_none {K : Nat → Nat → Nat} {ws : List Int} {x : Int} {i : Nat} (hx : x < 0) (h : ∀ hi : i < ws.length, ws[i] ≠ -1 - x) : Msk 0 fun j => SymD (DK K) ws x i j :=
  msk_no.congr fun j => ⟨False.elim, fun e => by
    rcases e with e | e
    · obtain ⟨hi, e2⟩ := List.getElem?_eq_some_iff.1 e.2.2
      exact h hi e2
    · omega⟩
theorem symD_non {K : Nat → Nat → Nat} {ws : List Int} {x i : Nat} (hK : ∀ x i, K x i < 2048) : Msk (K x i) fun j => SymD (DK K) ws (x : Int) i j :=
  ⟨hK x i, fun j => ⟨fun e => .inr ⟨Int.natCast_nonneg x, Int.natCast_nonneg x, e⟩, fun e => by
    rcases e with e | e
    · omega
    · exact e.2.2⟩⟩

set_option maxRecDepth 20000 in
set_option maxHeartbeats 1000000 in
theorem one_any (R P W O : Nat) (Aw : Option Addr) (cw : Nat) (ws : List Int) (K : Nat → Nat → Nat) (x : Int) (i : Nat) (v : World) (hE : EnvK v R P W O Aw cw ws K) (hK : ∀ x i, K x i < 2048) (hw : ws.length ≤ 10) (hx : -10 ≤ x ∧ x < 6) (hi : i < 11) :
    Calls Tryd.prog 128 #[.int .i64 x, .int .i64 (i : Int), .pointer (some ⟨P, 0, none⟩), .pointer (some ⟨W, 0, none⟩)] v fun e v' => ∃ m : Nat, e = .returned (.int .u16 (m : Int)) ∧ Msk m (fun j => SymD (DK K) ws x i j) ∧ v' = v := by
  obtain ⟨h1, h2, h3, h4, h5, h6, h7, h8⟩ := hE
  obtain ⟨x0, x1⟩ := hx
  by_cases h0 : 0 ≤ x
  · obtain ⟨y, rfl⟩ := Int.eq_ofNat_of_zero_le h0
    obtain ⟨c1, _⟩ := h1.at_ (x := y) (i := i) (by omega) hi
    have HM := Lib.hid (symD_non (ws := ws) (x := y) (i := i) hK)
    have hy : y < 6 := by omega
    clear h0 h1 h4 h5 h3 hK
    go_enter Tryd.func128, Tryd.ntmps128
    go_wp2
    go_ret
    exact ⟨_, rfl, HM.out, rfl⟩
  · by_cases hl : i < ws.length
    · obtain ⟨q, o, hA, hq, c1⟩ := h4.at_ hl
      subst hA
      by_cases he : ws[i] = -1 - x
      · have HM := Lib.hid (symD_tok (K := K) (i := i) (by omega) hl hw he)
        have hb : (ws[i] == -1 - x) = true := by simp [he]
        clear h1 h4 h5 hK
        go_enter Tryd.func128, Tryd.ntmps128
        go_wp2_with fail
        refine (placeAt_any (i + 1) (by omega) _).mono ?_
        rintro e w1 ⟨rfl, rfl⟩
        go_wp2
        go_ret
        exact ⟨_, rfl, HM.out, rfl⟩
      · have HM := Lib.hid (symD_none (K := K) (i := i) (x := x) (ws := ws) (by omega) (fun _ => he))
        have hb : (ws[i] == -1 - x) = false := by simp [he]
        clear h1 h4 h5 hK
        go_enter Tryd.func128, Tryd.ntmps128
        go_wp2
        go_ret
        exact ⟨0, rfl, HM.out, rfl⟩
    · have HM := Lib.hid (symD_none (K := K) (i := i) (x := x) (ws := ws) (by omega) (fun h => absurd h hl))
      clear h1 h4 h5 hK
      go_enter Tryd.func128, Tryd.ntmps128
      go_wp2
      go_ret
      exact ⟨0, rfl, HM.out, rfl⟩

end Go.Proofs.YtkghblgiojidgaaDoor
