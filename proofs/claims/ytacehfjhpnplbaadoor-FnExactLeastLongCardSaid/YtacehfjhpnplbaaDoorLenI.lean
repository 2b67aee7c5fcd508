/- The program's lengthBy, leastBy and LeastLong. -/
import Derived.Test.YtacehfjhpnplbaaDoorLen
import Derived.Test.YtacehfjhpnplbaaDoorRngOp
import Derived.Test.YtacehfjhpnplbaaDoorSets
import Derived.Test.YtacehfjhpnplbaaDoorImplGood3
import Derived.Test.YtacehfjhpnplbaaDoorVans
import Derived.Deep.LoopGhost
namespace Go.Proofs.YtacehfjhpnplbaaDoor
open Go.RowKit

theorem lenBy_none {L : Known} {x : Int} (h0 : ¬ x < 0) (hn : L x = none) : ∀ {xs : List Int}, x ∈ xs → lenBy L xs = none
  | [], h => by cases h
  | y :: ys, h => by
    unfold lenBy
    rcases List.mem_cons.1 h with rfl | h
    · rw [if_neg h0, hn]
    · rw [lenBy_none h0 hn h]
      cases (if y < 0 then some 1 else L y) <;> rfl
theorem lenBy_snoc {L : Known} {x : Int} {a : Nat} (ha : (if x < 0 then some 1 else L x) = some a) : ∀ {xs : List Int} {s : Nat}, lenBy L xs = some s → lenBy L (xs ++ [x]) = some (s + a)
  | [], s, h => by
    have e := Option.some.inj h
    subst e
    show (match (if x < 0 then some 1 else L x), some 0 with | some a, some b => some (a + b) | _, _ => none) = _
    rw [ha]
    simp
  | y :: ys, s, h => by
    unfold lenBy at h
    cases hy : (if y < 0 then some 1 else L y) with
    | none => rw [hy] at h; cases h
    | some q =>
      cases hb : lenBy L ys with
      | none => rw [hy, hb] at h; cases h
      | some b =>
        rw [hy, hb] at h
        have e := Option.some.inj h
        show lenBy L (y :: (ys ++ [x])) = _
        unfold lenBy
        rw [hy, lenBy_snoc ha hb]
        show some (q + (b + a)) = some (s + a)
        rw [← e, Nat.add_assoc]
theorem lenBy_take {L : Known} {xs : List Int} {k : Nat} (hk : k < xs.length) {s a : Nat} (hs : lenBy L (xs.take k) = some s) (ha : (if xs[k] < 0 then some 1 else L xs[k]) = some a) : lenBy L (xs.take (k + 1)) = some (s + a) := by
  rw [List.take_succ_eq_append_getElem hk]
  exact lenBy_snoc ha hs

/-- Block b is a map that holds the known lengths. -/
def MapL (w : World) (b : Nat) (L : Known) : Prop := MapI w b 6 fun x => (L x).map fun m => .int .i64 (m : Int)
/-- What is known is small, and of numbers below 6. -/
def SmallL (L : Known) : Prop := (∀ x m, L x = some m → m ≤ 4096) ∧ ∀ x, L x ≠ none → 0 ≤ x ∧ x < 6

theorem MapL.look {w : World} {b : Nat} {L : Known} (h : MapL w b L) {x : Int} (hx : F64 x) :
    (Instr.lookup 108 (.map (some b)) (.int .i64 x) true).run Tryd.prog w = .ok (.tuple #[.int .i64 (((L x).getD 0 : Nat) : Int), .bool (L x).isSome]) w := by
  have h1 := MapI.look_ok h hx Tryd.underlying108 (Tryd.zeroValue3 w)
  rw [h1]
  cases L x <;> rfl
theorem MapL.store {w : World} {b : Nat} {L : Known} (h : MapL w b L) (hs : SmallL L) {x : Int} (hx : 0 ≤ x ∧ x < 6) (m : Nat) :
    ∃ w', (Instr.mapUpdate 108 (.map (some b)) (.int .i64 x) (.int .i64 (m : Int))).run Tryd.prog w = .ok () w' ∧ MapL w' b (putL L x m) ∧ Save (· = b) w w' := by
  obtain ⟨w', h1, h2, h3, _⟩ := MapI.store h (by unfold maxLen; omega) (x := x) (by unfold F64; omega) Tryd.underlying108 (.int .i64 (m : Int))
  have h5 : MapI w' b (6 + 1) fun y => (putL L x m y).map fun m => .int .i64 (m : Int) := h2.same fun y => by
    unfold putK putL
    by_cases e : y = x
    · rw [if_pos e, if_pos e]; rfl
    · rw [if_neg e, if_neg e]
  refine ⟨w', h1, h5.tight fun y hy => ?_, h3⟩
  by_cases e : y = x
  · rw [e]; exact hx
  · refine hs.2 y fun hn => hy ?_
    unfold putL
    rw [if_neg e, hn]
    rfl

set_option maxRecDepth 20000 in
set_option maxHeartbeats 1000000 in
theorem lengthBy_any (b : Nat) (L : Known) (A : Option Addr) (xs : List Int) (c : Nat) (w : World) (hM : MapL w b L) (hS : SmallL L) (hx : Ints w w.heap.size A xs) (hf : FitI xs) (h4 : xs.length ≤ 4) :
    Calls Tryd.prog 140 #[.map (some b), .slice A xs.length c] w fun e w' => e = .returned (.tuple #[.int .i64 (((lenBy L xs).getD 0 : Nat) : Int), .bool (lenBy L xs).isSome]) ∧ w' = w := by
  have HX := Lib.hid hx; clear hx
  have HM := Lib.hid hM; clear hM
  have HS := Lib.hid hS; clear hS
  have HF := Lib.hid hf; clear hf
  go_enter Tryd.func140, Tryd.ntmps140
  go_wp2
  go_loopw [6, 13] (fun v i wr => ∃ (k s : Nat), k ≤ xs.length ∧ i = .int .i64 k ∧ v = .int .i64 s ∧ s ≤ k * 4096 ∧ wr = w ∧ Hid (lenBy L (xs.take k) = some s)) (fun _ i _ => xs.length - (intOf i).toNat)
  case atStart => exact ⟨0, 0, by omega, rfl, rfl, by omega, rfl, rfl⟩
  case round =>
    obtain ⟨k, s, hk, rfl, rfl, hs, rfl, H⟩ := hrel
    by_cases hlt : k < xs.length
    · obtain ⟨p, o, rfl, hb, c1⟩ := HX.out.at_ hlt
      by_cases hneg : xs[k] < 0
      · have HN := Lib.hid (lenBy_take hlt H.out (a := 1) (if_pos hneg))
        go_wp2
        go_roundw
        case rel => exact ⟨k + 1, s + 1, by omega, by go_num, by go_num, by omega, by simp, HN.out⟩
        case measure => simp [intOf]; omega
      · have hl := HM.out.look (HF.out _ (List.getElem_mem hlt))
        cases hL : L xs[k] with
        | none =>
          rw [hL] at hl
          have HN : Hid (lenBy L xs = none) := lenBy_none hneg hL (List.getElem_mem hlt)
          clear hL
          simp only [Option.getD_none, Option.isSome_none] at hl
          go_wp2
          go_ret2
          exact ⟨by rw [HN.out]; rfl, rfl⟩
        | some a =>
          rw [hL] at hl
          have HN := Lib.hid (lenBy_take hlt H.out (a := a) (by rw [if_neg hneg]; exact hL))
          have ha := HS.out.1 _ _ hL
          clear hL
          simp only [Option.getD_some, Option.isSome_some] at hl
          go_wp2
          go_roundw
          case rel => exact ⟨k + 1, s + a, by omega, by go_num, by go_num, by omega, by simp, HN.out⟩
          case measure => simp [intOf]; omega
    · obtain rfl : k = xs.length := by omega
      have HN : Hid (lenBy L xs = some s) := by have h := H.out; rw [List.take_length] at h; exact h
      go_wp2
      go_ret2
      exact ⟨by rw [HN.out]; rfl, rfl⟩

end Go.Proofs.YtacehfjhpnplbaaDoor
