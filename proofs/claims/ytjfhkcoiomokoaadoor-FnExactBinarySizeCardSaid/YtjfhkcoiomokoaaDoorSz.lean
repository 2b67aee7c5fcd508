/- What the laws' size counters answer. -/
import Derived.Test.YtjfhkcoiomokoaaDoorRows
import Derived.Test.YtjfhkcoiomokoaaDoorMem
namespace Go.Proofs.YtjfhkcoiomokoaaDoor
open Go.RowKit

theorem ret_int {k : IntKind} {a b : Int} (h : a = b) : Ending.returned (.int k a) = .returned (.int k b) := by rw [h]

def szI (n : Nat) (L : Int) : Int := if L - n < 0 then -1 else L - n

theorem szI_le {n : Nat} {L : Int} (h0 : 0 ≤ L) : szI n L ≤ L ∧ -1 ≤ szI n L := by unfold szI; split <;> omega

/-- The rules' right sides, one after the other. -/
def szR : List Ru → Int → Int
  | [], L => L
  | u :: r, L => if szI u.r.length L < 0 then -1 else szR r (szI u.r.length L)

def szRs (rs : List Ru) (L : Int) : Int := if L - rs.length < 0 then -1 else szR rs (L - rs.length)

theorem szR_ge : ∀ (rs : List Ru) {L : Int}, 0 ≤ L → -1 ≤ szR rs L ∧ (0 ≤ szR rs L → szR rs L ≤ L ∧ ∀ u ∈ rs, (u.r.length : Int) ≤ L)
  | [], L, _h => by simp [szR]; omega
  | u :: r, L, _h => by
    simp only [szR]
    split
    · simp
    · rename_i hn
      have h1 : szI u.r.length L = L - u.r.length := by unfold szI at hn ⊢; split <;> simp_all
      have ih := szR_ge r (L := szI u.r.length L) (by omega)
      refine ⟨ih.1, fun hp => ?_⟩
      obtain ⟨a, b⟩ := ih.2 hp
      refine ⟨by omega, fun v hv => ?_⟩
      rcases List.mem_cons.1 hv with rfl | hv
      · omega
      · have := b v hv; omega

theorem szRs_ge (rs : List Ru) {L : Int} (_h : 0 ≤ L) : -1 ≤ szRs rs L := by
  unfold szRs; split
  · omega
  · exact (szR_ge rs (by omega)).1

/-- Where the count is not negative, the rules and each right side are no more than it began with. -/
theorem szRs_bound {rs : List Ru} {L : Int} (_h : 0 ≤ L) (hp : 0 ≤ szRs rs L) : (rs.length : Int) ≤ L ∧ ∀ u ∈ rs, (u.r.length : Int) ≤ L := by
  unfold szRs at hp
  split at hp
  · omega
  · obtain ⟨_, b⟩ := (szR_ge rs (L := L - rs.length) (by omega)).2 hp
    exact ⟨by omega, fun u hu => by have := b u hu; omega⟩

set_option maxHeartbeats 400000 in
theorem szIntS_any (A : Option Addr) (n c : Nat) (L : Int) (w : World) (hn : n ≤ maxLen) (h0 : 0 ≤ L) (h1 : L ≤ 1048576) :
    Calls Tryd.prog 66 #[.slice A n c, .int .i64 L] w fun e w' => e = .returned (.int .i64 (szI n L)) ∧ w = w' := by
  unfold maxLen at hn
  by_cases h : L - n < 0
  · have hs : Hid (szI n L = -1) := by show szI n L = -1; unfold szI; rw [if_pos h]
    go_enter Tryd.func66, Tryd.ntmps66
    go_wp2
    go_ret
    exact ⟨by rw [hs.out]; rfl, rfl⟩
  · have hs : Hid (szI n L = L - n) := by show szI n L = L - n; unfold szI; rw [if_neg h]
    go_enter Tryd.func66, Tryd.ntmps66
    go_wp2
    go_ret
    exact ⟨by rw [hs.out]; rfl, rfl⟩

set_option maxHeartbeats 400000 in
theorem szRule_any (l : Int) (A : Option Addr) (n c : Nat) (L : Int) (w : World) (hn : n ≤ maxLen) (h0 : 0 ≤ L) (h1 : L ≤ 1048576) :
    Calls Tryd.prog 83 #[.agg #[.int .i64 l, .slice A n c], .int .i64 L] w fun e w' => e = .returned (.int .i64 (szI n L)) ∧ Below w.heap.size w w' := by
  have hl := szI_le (n := n) h0
  by_cases h : szI n L < 0
  all_goals
    go_enter Tryd.func83, Tryd.ntmps83
    go_wp2_with (go_at_call 66; refine (szIntS_any _ _ _ _ _ hn h0 h1).mono ?_; rintro e w' ⟨rfl, rfl⟩)
    go_ret
    refine ⟨?_, (Below.refl _ _).alloc (Nat.le_refl _) _⟩
  · exact ret_int (by omega)
  · exact ret_int (by omega)

theorem szR_drop {rs : List Ru} {k : Nat} (hk : k < rs.length) (L : Int) : szR (rs.drop k) L = if szI rs[k].r.length L < 0 then -1 else szR (rs.drop (k + 1)) (szI rs[k].r.length L) := by
  rw [List.drop_eq_getElem_cons hk]; rfl

set_option maxHeartbeats 400000 in
theorem szRuleS_any (A : Option Addr) (rs : List Ru) (c : Nat) (L : Int) (w : World) (hr : Rls w w.heap.size A rs) (hn : rs.length ≤ maxLen) (hu : ∀ u ∈ rs, u.r.length ≤ maxLen) (h0 : 0 ≤ L) (h1 : L ≤ 1048576) :
    Calls Tryd.prog 44 #[.slice A rs.length c, .int .i64 L] w fun e w' => e = .returned (.int .i64 (szRs rs L)) ∧ Below w.heap.size w w' := by
  unfold maxLen at hn
  by_cases h : L - rs.length < 0
  · have hs : Hid (szRs rs L = -1) := by show szRs rs L = -1; unfold szRs; rw [if_pos h]
    have HU := Lib.hid hu; clear hu
    have HR := Lib.hid hr; clear hr
    go_enter Tryd.func44, Tryd.ntmps44
    go_wp2
    go_ret
    exact ⟨by rw [hs.out]; rfl, Below.refl _ _⟩
  · have hs : Hid (szRs rs L = szR rs (L - rs.length)) := by show szRs rs L = _; unfold szRs; rw [if_neg h]
    have HU := Lib.hid hu; clear hu
    have HR := Lib.hid hr; clear hr
    go_enter Tryd.func44, Tryd.ntmps44
    go_wp2
    go_loopw [1, 5] (fun l i wr => ∃ (k : Nat) (M : Int), k ≤ rs.length ∧ i = .int .i64 k ∧ l = .int .i64 M ∧ 0 ≤ M ∧ M ≤ 1048576 ∧ Hid (szRs rs L = szR (rs.drop k) M) ∧ Below w.heap.size w wr) (fun _ i _ => rs.length - (intOf i).toNat)
    case atStart => exact ⟨0, L - rs.length, by omega, rfl, rfl, by omega, by omega, hs, Below.refl _ _⟩
    case round =>
      obtain ⟨k, M, hk, rfl, rfl, hM0, hM1, hS, hB⟩ := hrel
      by_cases hlt : k < rs.length
      · obtain ⟨b, o, rfl, hb, c1, c2, c3⟩ := (HR.out.keep hB).at_ hlt
        have hl := szI_le (n := rs[k].r.length) hM0
        have hlen := HU.out rs[k] (List.getElem_mem hlt)
        have HS : Hid (szRs rs L = if szI rs[k].r.length M < 0 then -1 else szR (rs.drop (k + 1)) (szI rs[k].r.length M)) := by show _ = _; rw [hS.out, szR_drop hlt]
        clear hS c3
        by_cases hneg : szI rs[k].r.length M < 0
        · go_wp2_with (go_at_call 83; refine (szRule_any _ _ _ _ _ _ hlen hM0 hM1).mono ?_; rintro e w' ⟨rfl, hB'⟩)
          go_ret
          exact ⟨ret_int (by rw [HS.out, if_pos hneg]), hB.trans (hB'.mono hB.size)⟩
        · go_wp2_with (go_at_call 83; refine (szRule_any _ _ _ _ _ _ hlen hM0 hM1).mono ?_; rintro e w' ⟨rfl, hB'⟩)
          go_roundw
          case rel => exact ⟨k + 1, _, by omega, by go_num, rfl, by omega, by omega, by show _ = _; rw [HS.out, if_neg (by omega)], hB.trans (hB'.mono hB.size)⟩
          case measure => simp [intOf]; omega
      · go_wp2
        go_ret
        exact ⟨ret_int (by rw [hS.out, List.drop_of_length_le (by omega)]; rfl), hB⟩

set_option maxHeartbeats 400000 in
theorem szGrammar_any (n t : Int) (A : Option Addr) (rs : List Ru) (c : Nat) (L : Int) (w : World) (hr : Rls w w.heap.size A rs) (hn : rs.length ≤ maxLen) (hu : ∀ u ∈ rs, u.r.length ≤ maxLen) (h0 : 0 ≤ L) (h1 : L ≤ 1048576) :
    Calls Tryd.prog 11 #[.agg #[.int .i64 n, .int .i64 t, .slice A rs.length c], .int .i64 L] w fun e w' => e = .returned (.int .i64 (szRs rs L)) ∧ Below w.heap.size w w' := by
  have hB0 : Below w.heap.size w (w.alloc (.cells #[.int .i64 n, .int .i64 t, .slice A rs.length c] 24)) := (Below.refl _ _).alloc (Nat.le_refl _) _
  have HU := Lib.hid hu; clear hu
  have HR := Lib.hid ((hr.keep hB0).more hB0.size); clear hr
  have HN := Lib.hid hn; clear hn
  by_cases h : szRs rs L < 0
  all_goals
    go_enter Tryd.func11, Tryd.ntmps11
    go_wp2_with (go_at_call 44; refine (szRuleS_any _ _ _ _ _ HR.out HN.out HU.out h0 h1).mono ?_; rintro e w' ⟨rfl, hB'⟩)
    go_ret
    refine ⟨?_, hB0.trans (hB'.mono hB0.size)⟩
  · exact ret_int (by have := szRs_ge rs h0; omega)
  · rfl

end Go.Proofs.YtjfhkcoiomokoaaDoor
