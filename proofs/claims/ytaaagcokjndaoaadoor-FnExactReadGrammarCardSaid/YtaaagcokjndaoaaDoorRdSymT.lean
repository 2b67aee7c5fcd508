/- The program's readSymbol, as it is called with isTokenSymbol. -/
import Derived.Test.YtaaagcokjndaoaaDoorRdr
namespace Go.Proofs.YtaaagcokjndaoaaDoor
open Go.RowKit

set_option maxRecDepth 20000 in
set_option maxHeartbeats 2000000 in
theorem readSymT_none (R : Nat) (s : ByteArray) (k : Nat) (n t : Int) (A : Option Addr) (m c : Nat) (wv : Value) (w : World) (h : Rdr w R s k n t (.slice A m c) wv) (hk : k ≤ s.size) (hN : NonT w) (hT : TokT w) (hs : symN (chr s k) = none) :
    Calls Tryd.prog 87 #[.pointer (some ⟨R, 0, none⟩), .func (.func 88) #[] #[]] w (GaveUp w 3 k) := by
  have HR := Lib.hid h; clear h
  have HN := Lib.hid hN; clear hN
  have HT := Lib.hid hT; clear hT
  have HS := Lib.hid hs; clear hs
  go_enter Tryd.func87, Tryd.ntmps87
  go_wp2_with fail
  refine (next_any _ _ _ _ _ _ _ _ HR.out hk).mono ?_
  rintro e w1 ⟨rfl, hB1⟩
  have HB1 := Lib.hid hB1; clear hB1
  go_wp2_with fail
  refine (symbolOf_any _ _ (HN.out.keep HB1.out (Nat.le_refl _)) (HT.out.keep HB1.out (Nat.le_refl _))).mono ?_
  rintro e w2 ⟨rfl, rfl⟩
  rw [HS.out]
  have c1 : w1.cell? ⟨R, 1, none⟩ = some (.int .i64 (k : Int)) := (HR.out.below HB1.out (Nat.le_refl _)).cell 1
  go_wp2_with fail
  refine (giveUp_any _ _ _ _).mono ?_
  rintro e w3 ⟨rfl, rfl⟩
  go_wp2
  exact ⟨rfl, rfl, HB1.out⟩

set_option maxRecDepth 20000 in
set_option maxHeartbeats 2000000 in
theorem readSymT_bad (R : Nat) (s : ByteArray) (k : Nat) (n t : Int) (A : Option Addr) (m c : Nat) (wv : Value) (w : World) (h : Rdr w R s k n t (.slice A m c) wv) (hk : k ≤ s.size) (hN : NonT w) (hT : TokT w) {x : Int} (hs : symN (chr s k) = some x) (hp : nonB t (-1 - x) = false) :
    Calls Tryd.prog 87 #[.pointer (some ⟨R, 0, none⟩), .func (.func 88) #[] #[]] w (GaveUp w 3 k) := by
  have hbd := symN_bd hs
  have HR := Lib.hid h; clear h
  have HN := Lib.hid hN; clear hN
  have HT := Lib.hid hT; clear hT
  have HS := Lib.hid hs; clear hs
  have HP := Lib.hid hp; clear hp
  go_enter Tryd.func87, Tryd.ntmps87
  go_wp2_with fail
  refine (next_any _ _ _ _ _ _ _ _ HR.out hk).mono ?_
  rintro e w1 ⟨rfl, hB1⟩
  have HB1 := Lib.hid hB1; clear hB1
  go_wp2_with fail
  refine (symbolOf_any _ _ (HN.out.keep HB1.out (Nat.le_refl _)) (HT.out.keep HB1.out (Nat.le_refl _))).mono ?_
  rintro e w2 ⟨rfl, rfl⟩
  rw [HS.out]
  have HR1 := Lib.hid (HR.out.below HB1.out (Nat.le_refl _))
  have c1 : w1.cell? ⟨R, 1, none⟩ = some (.int .i64 (k : Int)) := HR1.out.cell 1
  have c2 : w1.cell? ⟨R, 2, none⟩ = some (.int .i64 n) := HR1.out.cell 2
  have c3 : w1.cell? ⟨R, 3, none⟩ = some (.int .i64 t) := HR1.out.cell 3
  have c4 : w1.cell? ⟨R, 4, none⟩ = some (.slice A m c) := HR1.out.cell 4
  go_wp2_with fail
  refine (isTokenSymbol_any _ _ _ _ _ (by omega) (by omega)).mono ?_
  rintro e w3 ⟨rfl, hB3⟩
  rw [HP.out]
  have HB3 := Lib.hid (HB1.out.trans (hB3.mono HB1.out.size))
  clear c1 c2 c3 c4
  have c1 : w3.cell? ⟨R, 1, none⟩ = some (.int .i64 (k : Int)) := (HR1.out.below hB3 (Nat.le_refl _)).cell 1
  clear hB3
  go_wp2_with fail
  refine (giveUp_any _ _ _ _).mono ?_
  rintro e w4 ⟨rfl, rfl⟩
  go_wp2
  exact ⟨rfl, rfl, HB3.out⟩

set_option maxRecDepth 20000 in
set_option maxHeartbeats 2000000 in
theorem readSymT_ok (R : Nat) (s : ByteArray) (k : Nat) (n t : Int) (A : Option Addr) (m c : Nat) (wv : Value) (w : World) (h : Rdr w R s k n t (.slice A m c) wv) (hz : s.size ≤ 1048576) (hN : NonT w) (hT : TokT w) {x : Int} (hs : symN (chr s k) = some x) (hp : nonB t (-1 - x) = true) :
    Calls Tryd.prog 87 #[.pointer (some ⟨R, 0, none⟩), .func (.func 88) #[] #[]] w (ReadOne w R s k n t (.slice A m c) wv x) := by
  have hbd := symN_bd hs
  have hk := symN_lt hs
  have HR := Lib.hid h; clear h
  have HN := Lib.hid hN; clear hN
  have HT := Lib.hid hT; clear hT
  have HS := Lib.hid hs; clear hs
  have HP := Lib.hid hp; clear hp
  go_enter Tryd.func87, Tryd.ntmps87
  go_wp2_with fail
  refine (next_any _ _ _ _ _ _ _ _ HR.out (by omega)).mono ?_
  rintro e w1 ⟨rfl, hB1⟩
  have HB1 := Lib.hid hB1; clear hB1
  go_wp2_with fail
  refine (symbolOf_any _ _ (HN.out.keep HB1.out (Nat.le_refl _)) (HT.out.keep HB1.out (Nat.le_refl _))).mono ?_
  rintro e w2 ⟨rfl, rfl⟩
  rw [HS.out]
  have HR1 := Lib.hid (HR.out.below HB1.out (Nat.le_refl _))
  have c1 : w1.cell? ⟨R, 1, none⟩ = some (.int .i64 (k : Int)) := HR1.out.cell 1
  have c2 : w1.cell? ⟨R, 2, none⟩ = some (.int .i64 n) := HR1.out.cell 2
  have c3 : w1.cell? ⟨R, 3, none⟩ = some (.int .i64 t) := HR1.out.cell 3
  have c4 : w1.cell? ⟨R, 4, none⟩ = some (.slice A m c) := HR1.out.cell 4
  go_wp2_with fail
  refine (isTokenSymbol_any _ _ _ _ _ (by omega) (by omega)).mono ?_
  rintro e w3 ⟨rfl, hB3⟩
  rw [HP.out]
  have HB3 := Lib.hid (HB1.out.trans (hB3.mono HB1.out.size))
  clear c1 c2 c3 c4
  have HR3 := Lib.hid (HR1.out.below hB3 (Nat.le_refl _))
  have c1 : w3.cell? ⟨R, 1, none⟩ = some (.int .i64 (k : Int)) := HR3.out.cell 1
  have f1 : w3.frozen? ⟨R, 1, none⟩ = false := HR3.out.frozen 1
  clear hB3
  go_wp2
  go_ret
  refine ⟨rfl, ?_, Save.setCell (S := (· = R)) (p := ⟨R, 1, none⟩) (Save.of_below HB3.out) rfl _⟩
  have := HR3.out.set 1 (.int .i64 ((k : Int) + 1))
  exact this

end Go.Proofs.YtaaagcokjndaoaaDoor
