/- The program's readCount and readByte. -/
import Derived.Test.YtaaagcokjndaoaaDoorRgF
namespace Go.Proofs.YtaaagcokjndaoaaDoor
open Go.RowKit

theorem chr_bd (s : ByteArray) (k : Nat) : -1 ≤ chr s k ∧ chr s k < 256 := by
  by_cases h : k < s.size
  · rw [chr_at h]
    have := UInt8.toNat_lt s[k]
    omega
  · rw [chr_end h]; omega
theorem chr_in {s : ByteArray} {k : Nat} (h : 0 ≤ chr s k) : k < s.size := by
  by_cases h1 : k < s.size
  · exact h1
  · rw [chr_end h1] at h; omega

set_option maxRecDepth 20000 in
set_option maxHeartbeats 2000000 in
theorem readCount_bad (R : Nat) (s : ByteArray) (k : Nat) (n t : Int) (rv wv : Value) (w : World) (j : Nat) (hi : Int) (hj : j < 5) (h : Rdr w R s k n t rv wv) (hk : k ≤ s.size)
    (c1 : w.cell? ⟨2, j * 2, none⟩ = some (.int .i64 1)) (c2 : w.cell? ⟨2, j * 2 + 1, none⟩ = some (.int .i64 hi)) (hL : 2 < w.heap.size) (hp : inB 1 hi (chr s k - 48) = false) :
    Calls Tryd.prog 73 #[.pointer (some ⟨R, 0, none⟩), .int .i64 (j : Int)] w (GaveUp w 2 k) := by
  have hbd := chr_bd s k
  have HR := Lib.hid h; clear h
  have HP := Lib.hid hp; clear hp
  have HC1 := Lib.hid c1; clear c1
  have HC2 := Lib.hid c2; clear c2
  go_enter Tryd.func73, Tryd.ntmps73
  go_wp2_with fail
  refine (next_any _ _ _ _ _ _ _ _ HR.out hk).mono ?_
  rintro e w1 ⟨rfl, hB1⟩
  have HB1 := Lib.hid hB1; clear hB1
  go_wp2_with fail
  refine (withinLimit_any j 1 hi _ _ hj ((HB1.out.cell (p := ⟨2, j * 2, none⟩) hL).trans HC1.out) ((HB1.out.cell (p := ⟨2, j * 2 + 1, none⟩) hL).trans HC2.out)).mono ?_
  rintro e w2 ⟨rfl, hB2⟩
  rw [HP.out]
  have HB2 := Lib.hid (HB1.out.trans (hB2.mono HB1.out.size)); clear hB2
  have c1 : w2.cell? ⟨R, 1, none⟩ = some (.int .i64 (k : Int)) := (HR.out.below HB2.out (Nat.le_refl _)).cell 1
  go_wp2_with fail
  refine (giveUp_any _ _ _ _).mono ?_
  rintro e w3 ⟨rfl, rfl⟩
  go_wp2
  exact ⟨rfl, rfl, HB2.out⟩

set_option maxRecDepth 20000 in
set_option maxHeartbeats 2000000 in
theorem readCount_ok (R : Nat) (s : ByteArray) (k : Nat) (n t : Int) (rv wv : Value) (w : World) (j : Nat) (hi : Int) (hj : j < 5) (h : Rdr w R s k n t rv wv) (hz : s.size ≤ 1048576)
    (c1 : w.cell? ⟨2, j * 2, none⟩ = some (.int .i64 1)) (c2 : w.cell? ⟨2, j * 2 + 1, none⟩ = some (.int .i64 hi)) (hL : 2 < w.heap.size) (hp : inB 1 hi (chr s k - 48) = true) :
    Calls Tryd.prog 73 #[.pointer (some ⟨R, 0, none⟩), .int .i64 (j : Int)] w (ReadOne w R s k n t rv wv (chr s k - 48)) := by
  have hbd := chr_bd s k
  have hk : k < s.size := chr_in (by have := inB_lo hp; omega)
  have HR := Lib.hid h; clear h
  have HP := Lib.hid hp; clear hp
  have HC1 := Lib.hid c1; clear c1
  have HC2 := Lib.hid c2; clear c2
  go_enter Tryd.func73, Tryd.ntmps73
  go_wp2_with fail
  refine (next_any _ _ _ _ _ _ _ _ HR.out (by omega)).mono ?_
  rintro e w1 ⟨rfl, hB1⟩
  have HB1 := Lib.hid hB1; clear hB1
  go_wp2_with fail
  refine (withinLimit_any j 1 hi _ _ hj ((HB1.out.cell (p := ⟨2, j * 2, none⟩) hL).trans HC1.out) ((HB1.out.cell (p := ⟨2, j * 2 + 1, none⟩) hL).trans HC2.out)).mono ?_
  rintro e w2 ⟨rfl, hB2⟩
  rw [HP.out]
  have HB2 := Lib.hid (HB1.out.trans (hB2.mono HB1.out.size)); clear hB2
  have HR2 := Lib.hid (HR.out.below HB2.out (Nat.le_refl _))
  have c1 : w2.cell? ⟨R, 1, none⟩ = some (.int .i64 (k : Int)) := HR2.out.cell 1
  have f1 : w2.frozen? ⟨R, 1, none⟩ = false := HR2.out.frozen 1
  go_wp2
  go_ret
  refine ⟨rfl, ?_, Save.setCell (S := (· = R)) (p := ⟨R, 1, none⟩) (Save.of_below HB2.out) rfl _⟩
  have := HR2.out.set 1 (.int .i64 ((k : Int) + 1))
  exact this

/-- A wanted byte is read; or the reader gives up. -/
def ReadNone (w : World) (R : Nat) (s : ByteArray) (k : Nat) (n t : Int) (rv wv : Value) (e : Ending) (w' : World) : Prop := e = .returned (.tuple #[]) ∧ Rdr w' R s (k + 1) n t rv wv ∧ Save (· = R) w w'

set_option maxRecDepth 20000 in
set_option maxHeartbeats 2000000 in
theorem readByte_bad (R : Nat) (s : ByteArray) (k : Nat) (n t : Int) (rv wv : Value) (w : World) (c code : Int) (h : Rdr w R s k n t rv wv) (hk : k ≤ s.size) (hc : chr s k ≠ c) :
    Calls Tryd.prog 74 #[.pointer (some ⟨R, 0, none⟩), .int .i64 c, .int .i64 code] w (GaveUp w code k) := by
  have hne : (chr s k != c) = true := by simp; exact hc
  clear hc
  have HR := Lib.hid h; clear h
  go_enter Tryd.func74, Tryd.ntmps74
  go_wp2_with fail
  refine (next_any _ _ _ _ _ _ _ _ HR.out hk).mono ?_
  rintro e w1 ⟨rfl, hB1⟩
  have HB1 := Lib.hid hB1; clear hB1
  have c1 : w1.cell? ⟨R, 1, none⟩ = some (.int .i64 (k : Int)) := (HR.out.below HB1.out (Nat.le_refl _)).cell 1
  go_wp2_with fail
  refine (giveUp_any _ _ _ _).mono ?_
  rintro e w3 ⟨rfl, rfl⟩
  go_wp2
  exact ⟨rfl, rfl, HB1.out⟩

set_option maxRecDepth 20000 in
set_option maxHeartbeats 2000000 in
theorem readByte_ok (R : Nat) (s : ByteArray) (k : Nat) (n t : Int) (rv wv : Value) (w : World) (c code : Int) (h : Rdr w R s k n t rv wv) (hz : s.size ≤ 1048576) (h0 : 0 ≤ c) (hc : chr s k = c) :
    Calls Tryd.prog 74 #[.pointer (some ⟨R, 0, none⟩), .int .i64 c, .int .i64 code] w (ReadNone w R s k n t rv wv) := by
  have hk : k < s.size := chr_in (by omega)
  subst hc
  have hne : (chr s k != chr s k) = false := by simp
  have HR := Lib.hid h; clear h
  go_enter Tryd.func74, Tryd.ntmps74
  go_wp2_with fail
  refine (next_any _ _ _ _ _ _ _ _ HR.out (by omega)).mono ?_
  rintro e w1 ⟨rfl, hB1⟩
  have HB1 := Lib.hid hB1; clear hB1
  have HR2 := Lib.hid (HR.out.below HB1.out (Nat.le_refl _))
  have c1 : w1.cell? ⟨R, 1, none⟩ = some (.int .i64 (k : Int)) := HR2.out.cell 1
  have f1 : w1.frozen? ⟨R, 1, none⟩ = false := HR2.out.frozen 1
  go_wp2
  go_end0
  refine ⟨rfl, ?_, Save.setCell (S := (· = R)) (p := ⟨R, 1, none⟩) (Save.of_below HB1.out) rfl _⟩
  have := HR2.out.set 1 (.int .i64 ((k : Int) + 1))
  exact this

end Go.Proofs.YtaaagcokjndaoaaDoor
