/- The reference's l4Form. -/
import Derived.Test.YtkghblgiojidgaaDoorWord
namespace Go.Proofs.YtkghblgiojidgaaDoor
open Go.RowKit

set_option maxRecDepth 20000 in
set_option maxHeartbeats 1000000 in
theorem l4Form_any (n t : Int) (v : Value) (A : Option Addr) (xs : List Int) (c : Nat) (most : Nat) (w : World) (hx : Ints w w.heap.size A xs) (h1 : xs.length ≤ 1048576) (hn : 1 ≤ n ∧ n ≤ 6) (ht : 1 ≤ t ∧ t ≤ 4) :
    Calls Tryd.prog 67 #[.agg #[.int .i64 n, .int .i64 t, v], .slice A xs.length c, .int .i64 (most : Int)] w fun e w' => e = .returned (.bool (decide (xs.length ≤ most) && allB (-t) (n - 1) xs)) ∧ Below w.heap.size w w' := by
  obtain ⟨n1, n2⟩ := hn
  obtain ⟨t1, t2⟩ := ht
  have HX := Lib.hid hx; clear hx
  have HB0 : Hid (Below w.heap.size w (w.alloc (.cells #[.int .i64 n, .int .i64 t, v] 30))) := by show Below _ _ _; go_grown
  have HC := Lib.hid (l1All_any A xs c (-t) (n - 1) _ ((HX.out.keep HB0.out).more HB0.out.size) h1)
  by_cases hl : xs.length ≤ most
  · have HV : Hid ((decide (xs.length ≤ most) && allB (-t) (n - 1) xs) = allB (-t) (n - 1) xs) := by show _ = _; rw [decide_eq_true hl]; rfl
    go_enter Tryd.func67, Tryd.ntmps67
    go_wp2_with fail
    refine HC.out.mono ?_
    rintro e w1 ⟨rfl, hB1⟩
    have HB1 : Hid (Below w.heap.size w w1) := HB0.out.trans (hB1.mono HB0.out.size)
    clear hB1
    go_wp2
    go_ret
    exact ⟨ret_bool HV.out.symm, HB1.out⟩
  · have HV : Hid ((decide (xs.length ≤ most) && allB (-t) (n - 1) xs) = false) := by show _ = _; rw [decide_eq_false hl]; rfl
    go_enter Tryd.func67, Tryd.ntmps67
    go_wp2
    go_ret
    exact ⟨ret_bool HV.out.symm, HB0.out⟩

end Go.Proofs.YtkghblgiojidgaaDoor
