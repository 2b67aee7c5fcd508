/- A symbol's letter: the tables that the program keeps, and what letterOf and l2Letter give. -/
import Derived.Test.YtaaagcokjndaoaaDoorWord
import Derived.Laws.IdiomStrings
namespace Go.Proofs.YtaaagcokjndaoaaDoor
open Go.RowKit

/-- The letters of the nonterminals, and of the tokens. -/
def nonL : List UInt8 := [83, 65, 66, 67, 68, 69]
def tokL : List UInt8 := [97, 98, 99, 100]

/-- The tables of letters lie where the program keeps them. -/
def TokT (w : World) : Prop := ∀ (k : Nat) (v : UInt8), tokL[k]? = some v → w.cell? ⟨0, k, none⟩ = some (.int .u8 (v.toNat : Int))
def NonT (w : World) : Prop := ∀ (k : Nat) (v : UInt8), nonL[k]? = some v → w.cell? ⟨1, k, none⟩ = some (.int .u8 (v.toNat : Int))

theorem TokT.pos {w : World} (h : TokT w) : 0 < w.heap.size := by
  have h0 := h 0 97 rfl
  by_cases hg : 0 < w.heap.size
  · exact hg
  · simp only [World.cell?] at h0
    rw [Array.getElem?_eq_none (by omega)] at h0
    cases h0
theorem NonT.pos {w : World} (h : NonT w) : 1 < w.heap.size := by
  have h0 := h 0 83 rfl
  by_cases hg : 1 < w.heap.size
  · exact hg
  · simp only [World.cell?] at h0
    rw [Array.getElem?_eq_none (by omega)] at h0
    cases h0
theorem TokT.keep {w w' : World} {B : Nat} (h : TokT w) (hb : Below B w w') (hB : w.heap.size ≤ B) : TokT w' :=
  fun k v hk => (hb.cell (p := ⟨0, k, none⟩) (by have := h.pos; show 0 < B; omega)).trans (h k v hk)
theorem NonT.keep {w w' : World} {B : Nat} (h : NonT w) (hb : Below B w w') (hB : w.heap.size ≤ B) : NonT w' :=
  fun k v hk => (hb.cell (p := ⟨1, k, none⟩) (by have := h.pos; show 1 < B; omega)).trans (h k v hk)

/-- A symbol's letter. -/
def letC (x : Int) : UInt8 := if 0 ≤ x then nonL.getD x.toNat 0 else tokL.getD (-1 - x).toNat 0

theorem ten {x : Int} (h1 : -4 ≤ x) (h2 : x < 6) : x = -4 ∨ x = -3 ∨ x = -2 ∨ x = -1 ∨ x = 0 ∨ x = 1 ∨ x = 2 ∨ x = 3 ∨ x = 4 ∨ x = 5 := by omega

set_option maxHeartbeats 1000000 in
theorem letterOf_any (x : Int) (w : World) (hN : NonT w) (hT : TokT w) (h1 : -4 ≤ x) (h2 : x < 6) :
    Calls Tryd.prog 39 #[.int .i64 x] w fun e w' => e = .returned (.int .u8 ((letC x).toNat : Int)) ∧ w = w' := by
  have t0 := hT 0 97 rfl
  have t1 := hT 1 98 rfl
  have t2 := hT 2 99 rfl
  have t3 := hT 3 100 rfl
  have n0 := hN 0 83 rfl
  have n1 := hN 1 65 rfl
  have n2 := hN 2 66 rfl
  have n3 := hN 3 67 rfl
  have n4 := hN 4 68 rfl
  have n5 := hN 5 69 rfl
  clear hN hT
  rcases ten h1 h2 with rfl | rfl | rfl | rfl | rfl | rfl | rfl | rfl | rfl | rfl
  all_goals
    clear h1 h2
    go_enter Tryd.func39, Tryd.ntmps39
    go_wp2
    go_ret
    exact ⟨rfl, rfl⟩

set_option maxHeartbeats 1000000 in
theorem l2Letter_any (x : Int) (w : World) (h1 : -4 ≤ x) (h2 : x < 6) :
    Calls Tryd.prog 61 #[.int .i64 x] w fun e w' => e = .returned (.string ⟨#[letC x]⟩) ∧ w = w' := by
  rcases ten h1 h2 with rfl | rfl | rfl | rfl | rfl | rfl | rfl | rfl | rfl | rfl
  all_goals
    clear h1 h2
    go_enter Tryd.func61, Tryd.ntmps61
    go_wp2
    go_ret
    exact ⟨rfl, rfl⟩

end Go.Proofs.YtaaagcokjndaoaaDoor
