/- The program's reader: what next, giveUp and readSymbol do. -/
import Derived.Test.YtaaagcokjndaoaaDoorRd
import Derived.Test.YtaaagcokjndaoaaDoorMark
import Derived.BigQuiet
namespace Go.Proofs.YtaaagcokjndaoaaDoor
open Go.RowKit

/-- The byte at a place of a text; -1 at its end. -/
def chr (s : ByteArray) (k : Nat) : Int := if h : k < s.size then (s[k].toNat : Int) else -1
theorem chr_end {s : ByteArray} {k : Nat} (h : ¬ k < s.size) : chr s k = -1 := dif_neg h
theorem chr_at {s : ByteArray} {k : Nat} (h : k < s.size) : chr s k = (s[k].toNat : Int) := dif_pos h

/-- The reader's block. -/
def Rdr (w : World) (R : Nat) (s : ByteArray) (k : Nat) (n t : Int) (rv wv : Value) : Prop := Row w R 65 #[.string s, .int .i64 (k : Int), .int .i64 n, .int .i64 t, rv, wv]

/-- The value that the reader gives up with. -/
def faultV (code place : Int) : Value := .iface 67 (.agg #[.int .i64 code, .int .i64 place])

set_option maxRecDepth 20000 in
set_option maxHeartbeats 1000000 in
theorem next_any (R : Nat) (s : ByteArray) (k : Nat) (n t : Int) (rv wv : Value) (w : World) (h : Rdr w R s k n t rv wv) (hk : k ≤ s.size) :
    Calls Tryd.prog 75 #[.pointer (some ⟨R, 0, none⟩)] w fun e w' => e = .returned (.int .i64 (chr s k)) ∧ Below w.heap.size w w' := by
  have c0 : w.cell? ⟨R, 0, none⟩ = some (.string s) := h.cell 0
  have c1 : w.cell? ⟨R, 1, none⟩ = some (.int .i64 (k : Int)) := h.cell 1
  clear h
  by_cases hlt : k < s.size
  · have HE : Hid (chr s k = wrap64 (s[k].toNat : Int)) := by
      show _ = wrap64 _
      rw [chr_at hlt]
      have := UInt8.toNat_lt s[k]
      unfold wrap64
      omega
    have hb : ((k : Int) == (s.size : Int)) = false := by simp; omega
    go_enter Tryd.func75, Tryd.ntmps75
    go_wp2
    go_quiet (fail)
    go_wp2
    go_quiet (fail)
    go_wp2
    go_ret
    exact ⟨by rw [HE.out]; rfl, below_drewN (below_drewN (Below.refl _ _) _) _⟩
  · have HE := Lib.hid (chr_end hlt)
    have hb : ((k : Int) == (s.size : Int)) = true := by simp; omega
    go_enter Tryd.func75, Tryd.ntmps75
    go_wp2
    go_quiet (fail)
    go_wp2
    go_ret
    exact ⟨by rw [HE.out]; rfl, below_drewN (Below.refl _ _) _⟩

set_option maxRecDepth 20000 in
theorem giveUp_any (p : Value) (code place : Int) (w : World) :
    Calls Tryd.prog 96 #[p, .int .i64 code, .int .i64 place] w fun e w' => e = .panicked [{ v := faultV code place, recovered := false }] ∧ w = w' := by
  go_enter Tryd.func96, Tryd.ntmps96
  go_wp2
  exact ⟨rfl, rfl, rfl⟩

set_option maxRecDepth 20000 in
set_option maxHeartbeats 1000000 in
theorem isTokenSymbol_any (n t x : Int) (v : Value) (w : World) (h0 : -9223372036854775808 ≤ x) (h1 : x ≤ 9223372036854775807) :
    Calls Tryd.prog 88 #[.agg #[.int .i64 n, .int .i64 t, v], .int .i64 x] w fun e w' => e = .returned (.bool (nonB t (-1 - x))) ∧ Below w.heap.size w w' := by
  go_enter Tryd.func88, Tryd.ntmps88
  go_wp2_with fail
  refine (isToken_any _ _ _ _ _).mono ?_
  rintro e w1 ⟨rfl, hB⟩
  go_wp2
  go_ret
  exact ⟨rfl, Below.trans (by go_grown) (hB.mono (by go_size))⟩

theorem Rdr.below {w w' : World} {R : Nat} {s : ByteArray} {k : Nat} {n t : Int} {rv wv : Value} {B : Nat} (h : Rdr w R s k n t rv wv) (hb : Below B w w') (hR : w.heap.size ≤ B) : Rdr w' R s k n t rv wv :=
  Row.below h hb (by have := Row.lt h; omega)
theorem symN_lt {s : ByteArray} {k : Nat} {x : Int} (h : symN (chr s k) = some x) : k < s.size := by
  by_cases hk : k < s.size
  · exact hk
  · rw [chr_end hk] at h; cases h
theorem symN_bd {c x : Int} (h : symN c = some x) : -4 ≤ x ∧ x < 6 := by
  rcases symN_some h with ⟨j, hj, rfl, _⟩ | ⟨j, hj, rfl, _⟩ <;> omega

/-- What readSymbol answers where it gives up. -/
def GaveUp (w : World) (code place : Int) (e : Ending) (w' : World) : Prop := e = .panicked [{ v := faultV code place, recovered := false }] ∧ Below w.heap.size w w'
/-- What it answers where a symbol is read. -/
def ReadOne (w : World) (R : Nat) (s : ByteArray) (k : Nat) (n t : Int) (rv wv : Value) (x : Int) (e : Ending) (w' : World) : Prop := e = .returned (.int .i64 x) ∧ Rdr w' R s (k + 1) n t rv wv ∧ Save (· = R) w w'

end Go.Proofs.YtaaagcokjndaoaaDoor
