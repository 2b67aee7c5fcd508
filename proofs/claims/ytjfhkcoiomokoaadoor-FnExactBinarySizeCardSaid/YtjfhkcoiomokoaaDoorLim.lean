/- The table of limits, and what a count within a limit is. -/
import Derived.Test.YtjfhkcoiomokoaaDoorRows
import Derived.Test.YtjfhkcoiomokoaaDoorMem
namespace Go.Proofs.YtjfhkcoiomokoaaDoor
open Go.RowKit

/-- The numbers of the package's table of limits. -/
def limL : List Int := [1, 6, 1, 4, 0, 16, 0, 4, 0, 10, 1, 40]

/-- The table lies where the program keeps it. -/
def Lims (w : World) : Prop := ∀ (k : Nat) (v : Int), limL[k]? = some v → w.cell? ⟨0, k, none⟩ = some (.int .i64 v)

theorem Lims.pos {w : World} (h : Lims w) : 0 < w.heap.size := by
  have h0 := h 0 1 rfl
  by_cases hg : 0 < w.heap.size
  · exact hg
  · simp only [World.cell?] at h0
    rw [Array.getElem?_eq_none (by omega)] at h0
    cases h0

theorem Lims.keep {w w' : World} {B : Nat} (h : Lims w) (hb : Below B w w') (hB : w.heap.size ≤ B) : Lims w' :=
  fun k v hk => (hb.cell (p := ⟨0, k, none⟩) (by have := h.pos; simp; omega)).trans (h k v hk)

def inB (lo hi n : Int) : Bool := decide (lo ≤ n ∧ n ≤ hi)
theorem inB_t {lo hi n : Int} (h1 : lo ≤ n) (h2 : n ≤ hi) : inB lo hi n = true := decide_eq_true ⟨h1, h2⟩
theorem inB_f {lo hi n : Int} (h : n < lo ∨ hi < n) : inB lo hi n = false := decide_eq_false (by omega)
theorem inB_lo {lo hi n : Int} (h : inB lo hi n = true) : lo ≤ n := (of_decide_eq_true h).1
theorem inB_hi {lo hi n : Int} (h : inB lo hi n = true) : n ≤ hi := (of_decide_eq_true h).2
theorem inB_no {lo hi n : Int} (h : inB lo hi n = false) : n < lo ∨ hi < n := by have := of_decide_eq_false h; omega
theorem ret_b {a b : Bool} (h : a = b) : Ending.returned (.bool a) = .returned (.bool b) := by rw [h]

set_option maxHeartbeats 400000 in
theorem withinLimit_any (k : Nat) (lo hi n : Int) (w : World) (hk : k < 6) (c1 : w.cell? ⟨0, k * 2, none⟩ = some (.int .i64 lo)) (c2 : w.cell? ⟨0, k * 2 + 1, none⟩ = some (.int .i64 hi)) :
    Calls Tryd.prog 70 #[.int .i64 (k : Int), .int .i64 n] w fun e w' => e = .returned (.bool (inB lo hi n)) ∧ Below w.heap.size w w' := by
  by_cases h1 : lo ≤ n
  · by_cases h2 : n ≤ hi
    · have HE : Hid (inB lo hi n = true) := inB_t h1 h2
      go_enter Tryd.func70, Tryd.ntmps70
      go_wp2
      go_ret
      exact ⟨ret_b HE.out.symm, by go_grown⟩
    · have HE : Hid (inB lo hi n = false) := inB_f (by omega)
      go_enter Tryd.func70, Tryd.ntmps70
      go_wp2
      go_ret
      exact ⟨ret_b HE.out.symm, by go_grown⟩
  · have HE : Hid (inB lo hi n = false) := inB_f (by omega)
    go_enter Tryd.func70, Tryd.ntmps70
    go_wp2
    go_ret
    exact ⟨ret_b HE.out.symm, by go_grown⟩

theorem within0 (n : Int) (w : World) (h : Lims w) : Calls Tryd.prog 70 #[.int .i64 0, .int .i64 n] w fun e w' => e = .returned (.bool (inB 1 6 n)) ∧ Below w.heap.size w w' :=
  withinLimit_any 0 1 6 n w (by omega) (h 0 1 rfl) (h 1 6 rfl)
theorem within1 (n : Int) (w : World) (h : Lims w) : Calls Tryd.prog 70 #[.int .i64 1, .int .i64 n] w fun e w' => e = .returned (.bool (inB 1 4 n)) ∧ Below w.heap.size w w' :=
  withinLimit_any 1 1 4 n w (by omega) (h 2 1 rfl) (h 3 4 rfl)
theorem within2 (n : Int) (w : World) (h : Lims w) : Calls Tryd.prog 70 #[.int .i64 2, .int .i64 n] w fun e w' => e = .returned (.bool (inB 0 16 n)) ∧ Below w.heap.size w w' :=
  withinLimit_any 2 0 16 n w (by omega) (h 4 0 rfl) (h 5 16 rfl)
theorem within3 (n : Int) (w : World) (h : Lims w) : Calls Tryd.prog 70 #[.int .i64 3, .int .i64 n] w fun e w' => e = .returned (.bool (inB 0 4 n)) ∧ Below w.heap.size w w' :=
  withinLimit_any 3 0 4 n w (by omega) (h 6 0 rfl) (h 7 4 rfl)
theorem within4 (n : Int) (w : World) (h : Lims w) : Calls Tryd.prog 70 #[.int .i64 4, .int .i64 n] w fun e w' => e = .returned (.bool (inB 0 10 n)) ∧ Below w.heap.size w w' :=
  withinLimit_any 4 0 10 n w (by omega) (h 8 0 rfl) (h 9 10 rfl)
theorem within5 (n : Int) (w : World) (h : Lims w) : Calls Tryd.prog 70 #[.int .i64 5, .int .i64 n] w fun e w' => e = .returned (.bool (inB 1 40 n)) ∧ Below w.heap.size w w' :=
  withinLimit_any 5 1 40 n w (by omega) (h 10 1 rfl) (h 11 40 rfl)

end Go.Proofs.YtjfhkcoiomokoaaDoor
