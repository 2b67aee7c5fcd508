/- What the laws' size counters answer of lists of lists, and of a binary grammar. -/
import Derived.Test.YtjfhkcoiomokoaaDoorSz
import Derived.Test.YtjfhkcoiomokoaaDoorLMem
namespace Go.Proofs.YtjfhkcoiomokoaaDoor
open Go.RowKit

/-- The lists, one after the other. -/
def szL : List (List Int) → Int → Int
  | [], L => L
  | u :: r, L => if szI u.length L < 0 then -1 else szL r (szI u.length L)

def szLs (xs : List (List Int)) (L : Int) : Int := if L - xs.length < 0 then -1 else szL xs (L - xs.length)

theorem szL_ge : ∀ (rs : List (List Int)) {L : Int}, 0 ≤ L → -1 ≤ szL rs L ∧ (0 ≤ szL rs L → szL rs L ≤ L ∧ ∀ u ∈ rs, (u.length : Int) ≤ L)
  | [], L, _h => by simp [szL]; omega
  | u :: r, L, _h => by
    simp only [szL]
    split
    · simp
    · rename_i hn
      have h1 : szI u.length L = L - u.length := by unfold szI at hn ⊢; split <;> simp_all
      have ih := szL_ge r (L := szI u.length L) (by omega)
      refine ⟨ih.1, fun hp => ?_⟩
      obtain ⟨a, b⟩ := ih.2 hp
      refine ⟨by omega, fun v hv => ?_⟩
      rcases List.mem_cons.1 hv with rfl | hv
      · omega
      · have := b v hv; omega

theorem szLs_ge (rs : List (List Int)) {L : Int} (_h : 0 ≤ L) : -1 ≤ szLs rs L ∧ szLs rs L ≤ L := by
  unfold szLs; split
  · omega
  · have h := szL_ge rs (L := L - rs.length) (by omega)
    refine ⟨h.1, ?_⟩
    by_cases hp : 0 ≤ szL rs (L - rs.length)
    · have := (h.2 hp).1; omega
    · omega

/-- Where the count is not negative, the lists and each of them are no more than it began with. -/
theorem szLs_bound {rs : List (List Int)} {L : Int} (_h : 0 ≤ L) (hp : 0 ≤ szLs rs L) : (rs.length : Int) ≤ L ∧ ∀ u ∈ rs, (u.length : Int) ≤ L := by
  unfold szLs at hp
  split at hp
  · omega
  · obtain ⟨_, b⟩ := (szL_ge rs (L := L - rs.length) (by omega)).2 hp
    exact ⟨by omega, fun u hu => by have := b u hu; omega⟩

theorem szL_drop {ls : List Li} {k : Nat} (hk : k < ls.length) (L : Int) : szL (sayL (ls.drop k)) L = if szI ls[k].r.length L < 0 then -1 else szL (sayL (ls.drop (k + 1))) (szI ls[k].r.length L) := by
  rw [List.drop_eq_getElem_cons hk]; rfl

set_option maxHeartbeats 400000 in
theorem szIntSS_any (A : Option Addr) (ls : List Li) (c : Nat) (L : Int) (w : World) (hr : Lls w w.heap.size A ls) (hn : ls.length ≤ maxLen) (hu : ∀ u ∈ ls, u.r.length ≤ maxLen) (h0 : 0 ≤ L) (h1 : L ≤ 1048576) :
    Calls Tryd.prog 65 #[.slice A ls.length c, .int .i64 L] w fun e w' => e = .returned (.int .i64 (szLs (sayL ls) L)) ∧ Below w.heap.size w w' := by
  unfold maxLen at hn
  by_cases h : L - ls.length < 0
  · have hs : Hid (szLs (sayL ls) L = -1) := by show szLs (sayL ls) L = -1; unfold szLs; rw [sayL_len, if_pos h]
    have HU := Lib.hid hu; clear hu
    have HR := Lib.hid hr; clear hr
    go_enter Tryd.func65, Tryd.ntmps65
    go_wp2
    go_ret
    exact ⟨by rw [hs.out]; rfl, Below.refl _ _⟩
  · have hs : Hid (szLs (sayL ls) L = szL (sayL ls) (L - ls.length)) := by show szLs (sayL ls) L = _; unfold szLs; rw [sayL_len, if_neg h]
    have HU := Lib.hid hu; clear hu
    have HR := Lib.hid hr; clear hr
    go_enter Tryd.func65, Tryd.ntmps65
    go_wp2
    go_loopw [1, 5] (fun l i wr => ∃ (k : Nat) (M : Int), k ≤ ls.length ∧ i = .int .i64 k ∧ l = .int .i64 M ∧ 0 ≤ M ∧ M ≤ 1048576 ∧ Hid (szLs (sayL ls) L = szL (sayL (ls.drop k)) M) ∧ Below w.heap.size w wr) (fun _ i _ => ls.length - (intOf i).toNat)
    case atStart => exact ⟨0, L - ls.length, by omega, rfl, rfl, by omega, by omega, hs, Below.refl _ _⟩
    case round =>
      obtain ⟨k, M, hk, rfl, rfl, hM0, hM1, hS, hB⟩ := hrel
      by_cases hlt : k < ls.length
      · obtain ⟨b, o, rfl, hb, c1, c2, c3⟩ := (HR.out.keep hB).at_ hlt
        have hl := szI_le (n := ls[k].r.length) hM0
        have hlen := HU.out ls[k] (List.getElem_mem hlt)
        have HS : Hid (szLs (sayL ls) L = if szI ls[k].r.length M < 0 then -1 else szL (sayL (ls.drop (k + 1))) (szI ls[k].r.length M)) := by show _ = _; rw [hS.out, szL_drop hlt]
        clear hS c3
        by_cases hneg : szI ls[k].r.length M < 0
        · go_wp2_with (go_at_call 66; refine (szIntS_any _ _ _ _ _ hlen hM0 hM1).mono ?_; rintro e w' ⟨rfl, rfl⟩)
          go_ret
          exact ⟨ret_int (by rw [HS.out, if_pos hneg]), hB⟩
        · go_wp2_with (go_at_call 66; refine (szIntS_any _ _ _ _ _ hlen hM0 hM1).mono ?_; rintro e w' ⟨rfl, rfl⟩)
          go_roundw
          case rel => exact ⟨k + 1, _, by omega, by go_num, rfl, by omega, by omega, by show _ = _; rw [HS.out, if_neg (by omega)], hB⟩
          case measure => simp [intOf]; omega
      · go_wp2
        go_ret
        exact ⟨ret_int (by rw [hS.out, List.drop_of_length_le (by omega)]; rfl), hB⟩

end Go.Proofs.YtjfhkcoiomokoaaDoor
