/- A grammar's text: plain mathematics, digits, and what the reference's GrammarText answers. -/
import Derived.Test.YtaaagcokjndaoaaDoorTextW
import Derived.Lib.QuietBelow
import Derived.BigQuiet
namespace Go.Proofs.YtaaagcokjndaoaaDoor
open Go.RowKit
open Go.Sort (grow)

/-- A digit; a rule's line; a grammar's text. -/
def digC (n : Int) : UInt8 := UInt8.ofNat (48 + n.toNat)
def lineL (u : Int × List Int) : List UInt8 := [letC u.1, 61] ++ u.2.map letC ++ [10]
def textL (n t : Int) (ss : List (Int × List Int)) : List UInt8 := [digC n, 32, digC t, 10] ++ ss.flatMap lineL
def textR (n t : Int) (rs : List Ru) (k : Nat) : List UInt8 := textL n t ((rs.take k).map Ru.abs)
theorem textR_zero (n t : Int) (rs : List Ru) : textR n t rs 0 = [digC n, 32, digC t, 10] := by simp [textR, textL]
theorem textR_all (n t : Int) (rs : List Ru) : textR n t rs rs.length = textL n t (rs.map Ru.abs) := by simp [textR]
theorem textR_step {n t : Int} {rs : List Ru} {k : Nat} (hk : k < rs.length) : textR n t rs (k + 1) = textR n t rs k ++ lineL (rs[k].l, rs[k].r) := by
  unfold textR textL
  rw [List.take_succ_eq_append_getElem hk, List.map_append, List.flatMap_append, ← List.append_assoc]
  simp [Ru.abs]

/-- What a good grammar's rule is made of. -/
structure GoodAt (u : Ru) : Prop where
  l0 : 0 ≤ u.l
  l1 : u.l < 6
  len : u.r.length ≤ 4
  sym : ∀ (j : Nat) (x : Int), u.r[j]? = some x → -4 ≤ x ∧ x < 6

theorem good_at {n t : Int} {rs : List Ru} (h : goodG n t (rs.map Ru.abs) = true) {k : Nat} (hk : k < rs.length) : GoodAt rs[k] := by
  obtain ⟨hn, ht, _, hall⟩ := goodG_is h
  have hu := (hall k rs[k].abs (by simpa using hk) (by simp [hk])).1
  unfold goodU at hu
  simp only [Bool.and_eq_true, decide_eq_true_eq] at hu
  obtain ⟨h1, h2, h3⟩ := hu
  have h1 := nonB_is h1
  refine ⟨h1.1, by have := h1.2; simp only [Ru.abs] at this; omega, h2, fun j x hx => ?_⟩
  have h4 := of_decide_eq_true (symsB_iff.1 h3 j x hx)
  omega

def gtS (n t : Int) (ss : List (Int × List Int)) : ByteArray := if goodG n t ss then str (textL n t ss) else ⟨#[]⟩
theorem gtS_t {n t : Int} {ss : List (Int × List Int)} (h : goodG n t ss = true) : gtS n t ss = str (textL n t ss) := by unfold gtS; rw [h]; rfl
theorem gtS_f {n t : Int} {ss : List (Int × List Int)} (h : goodG n t ss = false) : gtS n t ss = ⟨#[]⟩ := by unfold gtS; rw [h]; rfl

theorem six {x : Int} (h1 : 1 ≤ x) (h2 : x ≤ 6) : x = 1 ∨ x = 2 ∨ x = 3 ∨ x = 4 ∨ x = 5 ∨ x = 6 := by omega

set_option maxHeartbeats 1000000 in
theorem digitOf_any (n : Int) (w : World) (h1 : 1 ≤ n) (h2 : n ≤ 6) :
    Calls Tryd.prog 38 #[.int .i64 n] w fun e w' => e = .returned (.int .u8 ((digC n).toNat : Int)) ∧ w = w' := by
  rcases six h1 h2 with rfl | rfl | rfl | rfl | rfl | rfl
  all_goals
    clear h1 h2
    go_enter Tryd.func38, Tryd.ntmps38
    go_wp2
    go_ret
    exact ⟨rfl, rfl⟩

theorem one_string' (w : World) (k : Int) (c : UInt8) (h : k = (c.toNat : Int)) : (convert 22 9 (.slice (some ⟨w.heap.size, 0, none⟩) 1 1)).run Tryd.prog (w.alloc (.cells #[.int .u8 k] 5)) = .ok (.string ⟨#[c]⟩) (w.alloc (.cells #[.int .u8 k] 5)) := by
  subst h
  exact one_string w c

set_option maxHeartbeats 1000000 in
theorem l1Num_any (n : Int) (w : World) (h1 : 1 ≤ n) (h2 : n ≤ 6) :
    Calls Tryd.prog 71 #[.int .i64 n] w fun e w' => e = .returned (.string ⟨#[digC n]⟩) ∧ Below w.heap.size w w' := by
  have k1 := one_string' w 49 (digC 1) rfl
  have k2 := one_string' w 50 (digC 2) rfl
  have k3 := one_string' w 51 (digC 3) rfl
  have k4 := one_string' w 52 (digC 4) rfl
  have k5 := one_string' w 53 (digC 5) rfl
  have k6 := one_string' w 54 (digC 6) rfl
  rcases six h1 h2 with rfl | rfl | rfl | rfl | rfl | rfl
  all_goals
    clear h1 h2
    go_enter Tryd.func71, Tryd.ntmps71
    go_wp2
    go_ret
    exact ⟨rfl, by go_grown⟩

end Go.Proofs.YtaaagcokjndaoaaDoor
