/- The reference's reader: digit, is, fault. -/
import Derived.Test.YtaaagcokjndaoaaDoorRgI5
namespace Go.Proofs.YtaaagcokjndaoaaDoor
open Go.RowKit

/-- The reference's reader's block. -/
def Rd2 (w : World) (R : Nat) (s : ByteArray) (k : Int) (cd n t : Int) (v : Value) : Prop := Row w R 82 #[.string s, .int .i64 k, .int .i64 cd, .int .i64 n, .int .i64 t, v]
theorem Rd2.below {w w' : World} {R : Nat} {s : ByteArray} {k : Int} {cd n t : Int} {v : Value} {B : Nat} (h : Rd2 w R s k cd n t v) (hb : Below B w w') (hR : w.heap.size ≤ B) : Rd2 w' R s k cd n t v :=
  Row.below h hb (by have := Row.lt h; omega)

theorem in_dig (m c : Int) : inB 49 (48 + m) c = inB 1 m (c - 48) := by unfold inB; congr 1; exact propext (by omega)

/-- A number and a place further on. -/
def Dig2 (w : World) (R : Nat) (s : ByteArray) (k : Nat) (cd n t : Int) (v : Value) (x : Int) (e : Ending) (w' : World) : Prop := e = .returned (.int .i64 x) ∧ Rd2 w' R s ((k + 1 : Nat) : Int) cd n t v ∧ Save (· = R) w w'

set_option maxRecDepth 20000 in
set_option maxHeartbeats 2000000 in
theorem fault_any (R : Nat) (s : ByteArray) (k cd n t : Int) (v : Value) (w : World) (code place : Int) (h : Rd2 w R s k cd n t v) :
    Calls Tryd.prog 82 #[.pointer (some ⟨R, 0, none⟩), .int .i64 code, .int .i64 place] w fun e w' => e = .returned (.bool false) ∧ Rd2 w' R s place code n t v ∧ Save (· = R) w w' := by
  have c1 : w.cell? ⟨R, 1, none⟩ = some (.int .i64 k) := h.cell 1
  have c2 : w.cell? ⟨R, 2, none⟩ = some (.int .i64 cd) := h.cell 2
  have f1 : w.frozen? ⟨R, 1, none⟩ = false := h.frozen 1
  have f2 : w.frozen? ⟨R, 2, none⟩ = false := h.frozen 2
  have HR := Lib.hid h; clear h
  go_enter Tryd.func82, Tryd.ntmps82
  go_wp2
  go_ret
  exact ⟨rfl, (Row.set HR.out 2 (.int .i64 code)).set 1 (.int .i64 place), Save.setCell (S := (· = R)) (p := ⟨R, 1, none⟩) (Save.setCell (S := (· = R)) (p := ⟨R, 2, none⟩) (Save.refl _ _) rfl _) rfl _⟩

set_option maxRecDepth 20000 in
set_option maxHeartbeats 2000000 in
theorem is_bad (R : Nat) (s : ByteArray) (k : Nat) (cd n t : Int) (v : Value) (w : World) (b : Int) (h : Rd2 w R s k cd n t v) (hk : k ≤ s.size) (hb : chr s k ≠ b) :
    Calls Tryd.prog 81 #[.pointer (some ⟨R, 0, none⟩), .int .u8 b] w fun e w' => e = .returned (.bool false) ∧ Below w.heap.size w w' := by
  have c0 : w.cell? ⟨R, 0, none⟩ = some (.string s) := h.cell 0
  have c1 : w.cell? ⟨R, 1, none⟩ = some (.int .i64 (k : Int)) := h.cell 1
  clear h
  by_cases hlt : k < s.size
  · have he : ((k : Int) == (s.size : Int)) = false := by simp; omega
    have hne : ((s[k].toNat : Int) != b) = true := by rw [chr_at hlt] at hb; simp; exact hb
    clear hb
    go_enter Tryd.func81, Tryd.ntmps81
    go_wp2
    go_quiet (fail)
    go_wp2
    go_ret
    exact ⟨rfl, below_drewN (Below.refl _ _) _⟩
  · have he : ((k : Int) == (s.size : Int)) = true := by simp; omega
    clear hb
    go_enter Tryd.func81, Tryd.ntmps81
    go_wp2
    go_quiet (fail)
    go_wp2
    go_ret
    exact ⟨rfl, below_drewN (Below.refl _ _) _⟩

set_option maxRecDepth 20000 in
set_option maxHeartbeats 2000000 in
theorem is_ok (R : Nat) (s : ByteArray) (k : Nat) (cd n t : Int) (v : Value) (w : World) (b : Int) (h : Rd2 w R s k cd n t v) (hz : s.size ≤ 1048576) (hb : chr s k = b) (h0 : 0 ≤ b) :
    Calls Tryd.prog 81 #[.pointer (some ⟨R, 0, none⟩), .int .u8 b] w fun e w' => e = .returned (.bool true) ∧ Rd2 w' R s ((k + 1 : Nat) : Int) cd n t v ∧ Save (· = R) w w' := by
  have hlt : k < s.size := chr_in (by omega)
  have c0 : w.cell? ⟨R, 0, none⟩ = some (.string s) := h.cell 0
  have c1 : w.cell? ⟨R, 1, none⟩ = some (.int .i64 (k : Int)) := h.cell 1
  have f1 : w.frozen? ⟨R, 1, none⟩ = false := h.frozen 1
  have HR := Lib.hid h; clear h
  have he : ((k : Int) == (s.size : Int)) = false := by simp; omega
  have hne : ((s[k].toNat : Int) != b) = false := by rw [chr_at hlt] at hb; simp; exact hb
  clear hb
  go_enter Tryd.func81, Tryd.ntmps81
  go_wp2
  go_quiet (fail)
  go_wp2
  go_ret
  refine ⟨rfl, ?_, Save.setCell (S := (· = R)) (p := ⟨R, 1, none⟩) (Save.of_below (below_drewN (Below.refl _ _) _)) rfl _⟩
  exact Row.set (w := w.drewN nq) HR.out 1 (.int .i64 ((k : Int) + 1))

set_option maxRecDepth 20000 in
set_option maxHeartbeats 2000000 in
theorem digit_bad (R : Nat) (s : ByteArray) (k : Nat) (cd n t : Int) (v : Value) (w : World) (m : Int) (h : Rd2 w R s k cd n t v) (hk : k ≤ s.size) (hm0 : 0 ≤ m) (hm : m ≤ 9) (hp : inB 1 m (chr s k - 48) = false) :
    Calls Tryd.prog 80 #[.pointer (some ⟨R, 0, none⟩), .int .i64 m] w fun e w' => e = .returned (.int .i64 0) ∧ Below w.heap.size w w' := by
  have c0 : w.cell? ⟨R, 0, none⟩ = some (.string s) := h.cell 0
  have c1 : w.cell? ⟨R, 1, none⟩ = some (.int .i64 (k : Int)) := h.cell 1
  clear h
  by_cases hlt : k < s.size
  · have he : ((k : Int) == (s.size : Int)) = false := by simp; omega
    have hc := UInt8.toNat_lt s[k]
    have HW : Hid (inB 49 (48 + m) (s[k].toNat : Int) = false) := by show _ = _; rw [in_dig, ← chr_at hlt]; exact hp
    clear hp
    have HC : Hid (∀ i, Calls Tryd.prog 60 #[.int .i64 (s[k].toNat : Int), .int .i64 49, .int .i64 (48 + m)] (w.drewN i) fun e w'' => e = .returned (.bool false) ∧ ∃ j, w'' = w.drewN j) := fun i => by
      have h1 := l1In_any (s[k].toNat : Int) 49 (48 + m) (w.drewN i)
      rw [HW.out] at h1
      exact h1.mono fun _ _ h => ⟨h.1, _, h.2.symm⟩
    go_enter Tryd.func80, Tryd.ntmps80
    go_wp2
    go_quiet (exact HC.out _)
    go_wp2
    go_ret
    exact ⟨rfl, below_drewN (Below.refl _ _) _⟩
  · have he : ((k : Int) == (s.size : Int)) = true := by simp; omega
    clear hp
    go_enter Tryd.func80, Tryd.ntmps80
    go_wp2
    go_quiet (fail)
    go_wp2
    go_ret
    exact ⟨rfl, below_drewN (Below.refl _ _) _⟩

set_option maxRecDepth 20000 in
set_option maxHeartbeats 2000000 in
theorem digit_ok (R : Nat) (s : ByteArray) (k : Nat) (cd n t : Int) (v : Value) (w : World) (m : Int) (h : Rd2 w R s k cd n t v) (hz : s.size ≤ 1048576) (hm0 : 0 ≤ m) (hm : m ≤ 9) (hp : inB 1 m (chr s k - 48) = true) :
    Calls Tryd.prog 80 #[.pointer (some ⟨R, 0, none⟩), .int .i64 m] w (Dig2 w R s k cd n t v (chr s k - 48)) := by
  have hlt : k < s.size := chr_in (by have := inB_lo hp; omega)
  have c0 : w.cell? ⟨R, 0, none⟩ = some (.string s) := h.cell 0
  have c1 : w.cell? ⟨R, 1, none⟩ = some (.int .i64 (k : Int)) := h.cell 1
  have f1 : w.frozen? ⟨R, 1, none⟩ = false := h.frozen 1
  have HR := Lib.hid h; clear h
  have he : ((k : Int) == (s.size : Int)) = false := by simp; omega
  have hc := UInt8.toNat_lt s[k]
  have HW : Hid (inB 49 (48 + m) (s[k].toNat : Int) = true) := by show _ = _; rw [in_dig, ← chr_at hlt]; exact hp
  have HE : Hid (chr s k - 48 = (s[k].toNat : Int) - 48) := by show _ = _; rw [chr_at hlt]
  have HC : Hid (∀ i, Calls Tryd.prog 60 #[.int .i64 (s[k].toNat : Int), .int .i64 49, .int .i64 (48 + m)] (w.drewN i) fun e w'' => e = .returned (.bool true) ∧ ∃ j, w'' = w.drewN j) := fun i => by
    have h1 := l1In_any (s[k].toNat : Int) 49 (48 + m) (w.drewN i)
    rw [HW.out] at h1
    exact h1.mono fun _ _ h => ⟨h.1, _, h.2.symm⟩
  clear hp
  go_enter Tryd.func80, Tryd.ntmps80
  go_wp2
  go_quiet (exact HC.out _)
  go_wp2
  have hS : Save (· = R) w ((w.drewN nq).setCell ⟨R, 1, none⟩ (.int .i64 ((k : Int) + 1))) := Save.setCell (S := (· = R)) (p := ⟨R, 1, none⟩) (Save.of_below (below_drewN (Below.refl _ _) _)) rfl _
  have hR : Rd2 ((w.drewN nq).setCell ⟨R, 1, none⟩ (.int .i64 ((k : Int) + 1))) R s ((k : Int) + 1) cd n t v := Row.set (w := w.drewN nq) HR.out 1 (.int .i64 ((k : Int) + 1))
  clear c0 c1 f1 HC HW
  generalize (w.drewN nq).setCell ⟨R, 1, none⟩ (.int .i64 ((k : Int) + 1)) = W at hS hR ⊢
  have c0 : W.cell? ⟨R, 0, none⟩ = some (.string s) := hR.cell 0
  have c1 : W.cell? ⟨R, 1, none⟩ = some (.int .i64 ((k : Int) + 1)) := hR.cell 1
  have HR2 := Lib.hid hR; clear hR
  have HS2 := Lib.hid hS; clear hS
  go_quiet (fail)
  go_wp2
  go_ret
  refine ⟨?_, HR2.out.below (below_drewN (Below.refl _ _) _) (Nat.le_refl _), HS2.out.trans (Save.of_below (below_drewN (Below.refl _ _) _))⟩
  rw [HE.out]
  rfl

end Go.Proofs.YtaaagcokjndaoaaDoor
