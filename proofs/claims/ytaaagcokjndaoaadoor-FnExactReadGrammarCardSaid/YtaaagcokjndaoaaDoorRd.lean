/- A letter's symbol: the program's symbolOf, the reference's l2Symbol. -/
import Derived.Test.YtaaagcokjndaoaaDoorTextG
import Derived.LoopN
namespace Go.Proofs.YtaaagcokjndaoaaDoor
open Go.RowKit

/-- The symbol of a letter (a number; -1 is no letter). -/
def symN (c : Int) : Option Int :=
  if c = 83 then some 0 else if c = 65 then some 1 else if c = 66 then some 2 else if c = 67 then some 3 else if c = 68 then some 4 else if c = 69 then some 5
  else if c = 97 then some (-1) else if c = 98 then some (-2) else if c = 99 then some (-3) else if c = 100 then some (-4) else none

def nonArr : Value := .agg #[.int .u8 83, .int .u8 65, .int .u8 66, .int .u8 67, .int .u8 68, .int .u8 69]
def tokArr : Value := .agg #[.int .u8 97, .int .u8 98, .int .u8 99, .int .u8 100]

def GaveSym (w : World) (o : Option Int) (e : Ending) (w' : World) : Prop := e = .returned (.tuple #[.int .i64 (o.getD 0), .bool o.isSome]) ∧ w = w'

set_option maxRecDepth 20000 in
set_option maxHeartbeats 4000000 in
theorem symbolOf_any (c : Int) (w : World) (hN : NonT w) (hT : TokT w) : Calls Tryd.prog 100 #[.int .i64 c] w (GaveSym w (symN c)) := by
  have t0 := hT 0 97 rfl
  have t1 := hT 1 98 rfl
  have t2 := hT 2 99 rfl
  have t3 := hT 3 100 rfl
  have n0 := hN 0 83 rfl
  have n1 := hN 1 65 rfl
  have n2 := hN 2 66 rfl
  have n3 := hN 3 67 rfl
  have n4 := hN 4 68 rfl
  have n5 := hN 5 69 rfl
  clear hN hT
  have i0 : ∀ w : World, (Instr.index 98 (.agg #[.int .u8 83, .int .u8 65, .int .u8 66, .int .u8 67, .int .u8 68, .int .u8 69]) (.int .i64 0)).run Tryd.prog w = .ok (.int .u8 83) w := fun _ => by kernel_rfl
  have i1 : ∀ w : World, (Instr.index 98 (.agg #[.int .u8 83, .int .u8 65, .int .u8 66, .int .u8 67, .int .u8 68, .int .u8 69]) (.int .i64 1)).run Tryd.prog w = .ok (.int .u8 65) w := fun _ => by kernel_rfl
  have i2 : ∀ w : World, (Instr.index 98 (.agg #[.int .u8 83, .int .u8 65, .int .u8 66, .int .u8 67, .int .u8 68, .int .u8 69]) (.int .i64 2)).run Tryd.prog w = .ok (.int .u8 66) w := fun _ => by kernel_rfl
  have i3 : ∀ w : World, (Instr.index 98 (.agg #[.int .u8 83, .int .u8 65, .int .u8 66, .int .u8 67, .int .u8 68, .int .u8 69]) (.int .i64 3)).run Tryd.prog w = .ok (.int .u8 67) w := fun _ => by kernel_rfl
  have i4 : ∀ w : World, (Instr.index 98 (.agg #[.int .u8 83, .int .u8 65, .int .u8 66, .int .u8 67, .int .u8 68, .int .u8 69]) (.int .i64 4)).run Tryd.prog w = .ok (.int .u8 68) w := fun _ => by kernel_rfl
  have i5 : ∀ w : World, (Instr.index 98 (.agg #[.int .u8 83, .int .u8 65, .int .u8 66, .int .u8 67, .int .u8 68, .int .u8 69]) (.int .i64 5)).run Tryd.prog w = .ok (.int .u8 69) w := fun _ => by kernel_rfl
  have j0 : ∀ w : World, (Instr.index 85 (.agg #[.int .u8 97, .int .u8 98, .int .u8 99, .int .u8 100]) (.int .i64 0)).run Tryd.prog w = .ok (.int .u8 97) w := fun _ => by kernel_rfl
  have j1 : ∀ w : World, (Instr.index 85 (.agg #[.int .u8 97, .int .u8 98, .int .u8 99, .int .u8 100]) (.int .i64 1)).run Tryd.prog w = .ok (.int .u8 98) w := fun _ => by kernel_rfl
  have j2 : ∀ w : World, (Instr.index 85 (.agg #[.int .u8 97, .int .u8 98, .int .u8 99, .int .u8 100]) (.int .i64 2)).run Tryd.prog w = .ok (.int .u8 99) w := fun _ => by kernel_rfl
  have j3 : ∀ w : World, (Instr.index 85 (.agg #[.int .u8 97, .int .u8 98, .int .u8 99, .int .u8 100]) (.int .i64 3)).run Tryd.prog w = .ok (.int .u8 100) w := fun _ => by kernel_rfl
  by_cases e0 : c = 83
  · subst e0
    go_enter Tryd.func100, Tryd.ntmps100
    go_wp2
    refine wp_loop_rounds 7 ?_
    repeat (rw [rounds_succ]; go_wp2)
    go_ret2
    exact ⟨rfl, rfl⟩
  by_cases e1 : c = 65
  · subst e1
    go_enter Tryd.func100, Tryd.ntmps100
    go_wp2
    refine wp_loop_rounds 7 ?_
    repeat (rw [rounds_succ]; go_wp2)
    go_ret2
    exact ⟨rfl, rfl⟩
  by_cases e2 : c = 66
  · subst e2
    go_enter Tryd.func100, Tryd.ntmps100
    go_wp2
    refine wp_loop_rounds 7 ?_
    repeat (rw [rounds_succ]; go_wp2)
    go_ret2
    exact ⟨rfl, rfl⟩
  by_cases e3 : c = 67
  · subst e3
    go_enter Tryd.func100, Tryd.ntmps100
    go_wp2
    refine wp_loop_rounds 7 ?_
    repeat (rw [rounds_succ]; go_wp2)
    go_ret2
    exact ⟨rfl, rfl⟩
  by_cases e4 : c = 68
  · subst e4
    go_enter Tryd.func100, Tryd.ntmps100
    go_wp2
    refine wp_loop_rounds 7 ?_
    repeat (rw [rounds_succ]; go_wp2)
    go_ret2
    exact ⟨rfl, rfl⟩
  by_cases e5 : c = 69
  · subst e5
    go_enter Tryd.func100, Tryd.ntmps100
    go_wp2
    refine wp_loop_rounds 7 ?_
    repeat (rw [rounds_succ]; go_wp2)
    go_ret2
    exact ⟨rfl, rfl⟩
  by_cases e6 : c = 97
  · subst e6
    go_enter Tryd.func100, Tryd.ntmps100
    go_wp2
    refine wp_loop_rounds 7 ?_
    repeat (rw [rounds_succ]; go_wp2)
    refine wp_loop_rounds 5 ?_
    repeat (rw [rounds_succ]; go_wp2)
    go_ret2
    exact ⟨rfl, rfl⟩
  by_cases e7 : c = 98
  · subst e7
    go_enter Tryd.func100, Tryd.ntmps100
    go_wp2
    refine wp_loop_rounds 7 ?_
    repeat (rw [rounds_succ]; go_wp2)
    refine wp_loop_rounds 5 ?_
    repeat (rw [rounds_succ]; go_wp2)
    go_ret2
    exact ⟨rfl, rfl⟩
  by_cases e8 : c = 99
  · subst e8
    go_enter Tryd.func100, Tryd.ntmps100
    go_wp2
    refine wp_loop_rounds 7 ?_
    repeat (rw [rounds_succ]; go_wp2)
    refine wp_loop_rounds 5 ?_
    repeat (rw [rounds_succ]; go_wp2)
    go_ret2
    exact ⟨rfl, rfl⟩
  by_cases e9 : c = 100
  · subst e9
    go_enter Tryd.func100, Tryd.ntmps100
    go_wp2
    refine wp_loop_rounds 7 ?_
    repeat (rw [rounds_succ]; go_wp2)
    refine wp_loop_rounds 5 ?_
    repeat (rw [rounds_succ]; go_wp2)
    go_ret2
    exact ⟨rfl, rfl⟩
  have HE : Hid (symN c = none) := by show symN c = none; unfold symN; rw [if_neg e0, if_neg e1, if_neg e2, if_neg e3, if_neg e4, if_neg e5, if_neg e6, if_neg e7, if_neg e8, if_neg e9]
  have b0 : ((83 : Int) == c) = false := by simp; omega
  have b1 : ((65 : Int) == c) = false := by simp; omega
  have b2 : ((66 : Int) == c) = false := by simp; omega
  have b3 : ((67 : Int) == c) = false := by simp; omega
  have b4 : ((68 : Int) == c) = false := by simp; omega
  have b5 : ((69 : Int) == c) = false := by simp; omega
  have b6 : ((97 : Int) == c) = false := by simp; omega
  have b7 : ((98 : Int) == c) = false := by simp; omega
  have b8 : ((99 : Int) == c) = false := by simp; omega
  have b9 : ((100 : Int) == c) = false := by simp; omega
  clear e0 e1 e2 e3 e4 e5 e6 e7 e8 e9
  go_enter Tryd.func100, Tryd.ntmps100
  go_wp2
  refine wp_loop_rounds 7 ?_
  repeat (rw [rounds_succ]; go_wp2)
  refine wp_loop_rounds 5 ?_
  repeat (rw [rounds_succ]; go_wp2)
  go_ret2
  exact ⟨by rw [HE.out]; rfl, rfl⟩

/-- The letters' numbers. -/
def nonN (j : Nat) : Int := [83, 65, 66, 67, 68, 69].getD j 0
def tokN (j : Nat) : Int := [97, 98, 99, 100].getD j 0
theorem six' {j : Nat} (h : j < 6) : j = 0 ∨ j = 1 ∨ j = 2 ∨ j = 3 ∨ j = 4 ∨ j = 5 := by omega
theorem four' {j : Nat} (h : j < 4) : j = 0 ∨ j = 1 ∨ j = 2 ∨ j = 3 := by omega
theorem symN_non {j : Nat} (h : j < 6) : symN (nonN j) = some (j : Int) := by
  rcases six' h with rfl | rfl | rfl | rfl | rfl | rfl <;> rfl
theorem symN_tok {j : Nat} (h : j < 4) : symN (tokN j) = some (-1 - (j : Int)) := by
  rcases four' h with rfl | rfl | rfl | rfl <;> rfl
theorem symN_some {c x : Int} (h : symN c = some x) : (∃ j : Nat, j < 6 ∧ x = (j : Int) ∧ c = nonN j) ∨ (∃ j : Nat, j < 4 ∧ x = -1 - (j : Int) ∧ c = tokN j) := by
  unfold symN at h
  by_cases e0 : c = 83
  · subst e0; injection h with h; subst h; exact .inl ⟨0, by omega, rfl, rfl⟩
  rw [if_neg e0] at h
  by_cases e1 : c = 65
  · subst e1; injection h with h; subst h; exact .inl ⟨1, by omega, rfl, rfl⟩
  rw [if_neg e1] at h
  by_cases e2 : c = 66
  · subst e2; injection h with h; subst h; exact .inl ⟨2, by omega, rfl, rfl⟩
  rw [if_neg e2] at h
  by_cases e3 : c = 67
  · subst e3; injection h with h; subst h; exact .inl ⟨3, by omega, rfl, rfl⟩
  rw [if_neg e3] at h
  by_cases e4 : c = 68
  · subst e4; injection h with h; subst h; exact .inl ⟨4, by omega, rfl, rfl⟩
  rw [if_neg e4] at h
  by_cases e5 : c = 69
  · subst e5; injection h with h; subst h; exact .inl ⟨5, by omega, rfl, rfl⟩
  rw [if_neg e5] at h
  by_cases f0 : c = 97
  · subst f0; injection h with h; subst h; exact .inr ⟨0, by omega, rfl, rfl⟩
  rw [if_neg f0] at h
  by_cases f1 : c = 98
  · subst f1; injection h with h; subst h; exact .inr ⟨1, by omega, rfl, rfl⟩
  rw [if_neg f1] at h
  by_cases f2 : c = 99
  · subst f2; injection h with h; subst h; exact .inr ⟨2, by omega, rfl, rfl⟩
  rw [if_neg f2] at h
  by_cases f3 : c = 100
  · subst f3; injection h with h; subst h; exact .inr ⟨3, by omega, rfl, rfl⟩
  rw [if_neg f3] at h
  cases h

/-- The symbol of a letter in a grammar with n nonterminals and t tokens. -/
def symG (n t c : Int) : Option Int := (symN c).filter fun x => symB n t x
theorem symG_non {n t : Int} {j : Nat} (h : j < 6) (hn : (j : Int) < n) : symG n t (nonN j) = some (j : Int) := by
  unfold symG
  rw [symN_non h, Option.filter_some, if_pos]
  exact decide_eq_true (.inl ⟨by omega, hn⟩)
theorem symG_tok {n t : Int} {j : Nat} (h : j < 4) (hn : (j : Int) < t) : symG n t (tokN j) = some (-1 - (j : Int)) := by
  unfold symG
  rw [symN_tok h, Option.filter_some, if_pos]
  exact decide_eq_true (.inr ⟨by omega, by omega⟩)
theorem symG_none {n t c : Int} (h1 : ∀ j : Nat, (j : Int) < n → nonN j ≠ c) (h2 : ∀ j : Nat, (j : Int) < t → tokN j ≠ c) : symG n t c = none := by
  cases e : symG n t c with
  | none => rfl
  | some x =>
    unfold symG at e
    rw [Option.filter_eq_some_iff] at e
    obtain ⟨e1, e2⟩ := e
    have e2 := of_decide_eq_true e2
    rcases symN_some e1 with ⟨j, hj, rfl, rfl⟩ | ⟨j, hj, rfl, rfl⟩
    · exact absurd rfl (h1 j (by omega))
    · exact absurd rfl (h2 j (by omega))

set_option maxRecDepth 20000 in
set_option maxHeartbeats 4000000 in
theorem l2Symbol_any (n t c : Int) (w : World) (n0 : 0 ≤ n) (n6 : n ≤ 6) (t0 : 0 ≤ t) (t4 : t ≤ 4) : Calls Tryd.prog 59 #[.int .i64 n, .int .i64 t, .int .u8 c] w (GaveSym w (symG n t c)) := by
  go_enter Tryd.func59, Tryd.ntmps59
  go_wp2
  go_loopw [8] (fun i wr => ∃ (k : Nat), (k : Int) ≤ n ∧ i = .int .i64 k ∧ wr = w ∧ Hid (∀ j : Nat, j < k → nonN j ≠ c)) (fun i _ => (n - intOf i).toNat)
  case atStart => exact ⟨0, by omega, rfl, rfl, fun j h => absurd h (by omega)⟩
  case round =>
    obtain ⟨k, hk, rfl, rfl, H⟩ := hrel
    by_cases hlt : (k : Int) < n
    · rcases six' (show k < 6 by omega) with rfl | rfl | rfl | rfl | rfl | rfl
      · by_cases hc : c = 83
        · have HE : Hid (symG n t c = some 0) := by show symG n t c = _; rw [hc]; exact symG_non (j := 0) (by omega) hlt
          have hb : ((((⟨#[83, 65, 66, 67, 68, 69]⟩ : ByteArray)[0]'(by decide)).toNat : Int) == c) = true := by show ((83 : Int) == c) = true; simp; omega
          clear hc
          go_wp2
          go_ret2
          exact ⟨by rw [HE.out]; rfl, rfl⟩
        · have hb : ((((⟨#[83, 65, 66, 67, 68, 69]⟩ : ByteArray)[0]'(by decide)).toNat : Int) == c) = false := by show ((83 : Int) == c) = false; simp; omega
          have HC := Lib.hid hc; clear hc
          go_wp2
          go_roundw
          case rel => exact ⟨1, by omega, by go_num, trivial, fun j hj => by
            rcases Nat.lt_or_ge j 0 with h | h
            · exact H.out j h
            · obtain rfl : j = 0 := by omega
              exact fun e => HC.out e.symm⟩
          case measure => simp [intOf]; omega
      · by_cases hc : c = 65
        · have HE : Hid (symG n t c = some 1) := by show symG n t c = _; rw [hc]; exact symG_non (j := 1) (by omega) hlt
          have hb : ((((⟨#[83, 65, 66, 67, 68, 69]⟩ : ByteArray)[1]'(by decide)).toNat : Int) == c) = true := by show ((65 : Int) == c) = true; simp; omega
          clear hc
          go_wp2
          go_ret2
          exact ⟨by rw [HE.out]; rfl, rfl⟩
        · have hb : ((((⟨#[83, 65, 66, 67, 68, 69]⟩ : ByteArray)[1]'(by decide)).toNat : Int) == c) = false := by show ((65 : Int) == c) = false; simp; omega
          have HC := Lib.hid hc; clear hc
          go_wp2
          go_roundw
          case rel => exact ⟨2, by omega, by go_num, trivial, fun j hj => by
            rcases Nat.lt_or_ge j 1 with h | h
            · exact H.out j h
            · obtain rfl : j = 1 := by omega
              exact fun e => HC.out e.symm⟩
          case measure => simp [intOf]; omega
      · by_cases hc : c = 66
        · have HE : Hid (symG n t c = some 2) := by show symG n t c = _; rw [hc]; exact symG_non (j := 2) (by omega) hlt
          have hb : ((((⟨#[83, 65, 66, 67, 68, 69]⟩ : ByteArray)[2]'(by decide)).toNat : Int) == c) = true := by show ((66 : Int) == c) = true; simp; omega
          clear hc
          go_wp2
          go_ret2
          exact ⟨by rw [HE.out]; rfl, rfl⟩
        · have hb : ((((⟨#[83, 65, 66, 67, 68, 69]⟩ : ByteArray)[2]'(by decide)).toNat : Int) == c) = false := by show ((66 : Int) == c) = false; simp; omega
          have HC := Lib.hid hc; clear hc
          go_wp2
          go_roundw
          case rel => exact ⟨3, by omega, by go_num, trivial, fun j hj => by
            rcases Nat.lt_or_ge j 2 with h | h
            · exact H.out j h
            · obtain rfl : j = 2 := by omega
              exact fun e => HC.out e.symm⟩
          case measure => simp [intOf]; omega
      · by_cases hc : c = 67
        · have HE : Hid (symG n t c = some 3) := by show symG n t c = _; rw [hc]; exact symG_non (j := 3) (by omega) hlt
          have hb : ((((⟨#[83, 65, 66, 67, 68, 69]⟩ : ByteArray)[3]'(by decide)).toNat : Int) == c) = true := by show ((67 : Int) == c) = true; simp; omega
          clear hc
          go_wp2
          go_ret2
          exact ⟨by rw [HE.out]; rfl, rfl⟩
        · have hb : ((((⟨#[83, 65, 66, 67, 68, 69]⟩ : ByteArray)[3]'(by decide)).toNat : Int) == c) = false := by show ((67 : Int) == c) = false; simp; omega
          have HC := Lib.hid hc; clear hc
          go_wp2
          go_roundw
          case rel => exact ⟨4, by omega, by go_num, trivial, fun j hj => by
            rcases Nat.lt_or_ge j 3 with h | h
            · exact H.out j h
            · obtain rfl : j = 3 := by omega
              exact fun e => HC.out e.symm⟩
          case measure => simp [intOf]; omega
      · by_cases hc : c = 68
        · have HE : Hid (symG n t c = some 4) := by show symG n t c = _; rw [hc]; exact symG_non (j := 4) (by omega) hlt
          have hb : ((((⟨#[83, 65, 66, 67, 68, 69]⟩ : ByteArray)[4]'(by decide)).toNat : Int) == c) = true := by show ((68 : Int) == c) = true; simp; omega
          clear hc
          go_wp2
          go_ret2
          exact ⟨by rw [HE.out]; rfl, rfl⟩
        · have hb : ((((⟨#[83, 65, 66, 67, 68, 69]⟩ : ByteArray)[4]'(by decide)).toNat : Int) == c) = false := by show ((68 : Int) == c) = false; simp; omega
          have HC := Lib.hid hc; clear hc
          go_wp2
          go_roundw
          case rel => exact ⟨5, by omega, by go_num, trivial, fun j hj => by
            rcases Nat.lt_or_ge j 4 with h | h
            · exact H.out j h
            · obtain rfl : j = 4 := by omega
              exact fun e => HC.out e.symm⟩
          case measure => simp [intOf]; omega
      · by_cases hc : c = 69
        · have HE : Hid (symG n t c = some 5) := by show symG n t c = _; rw [hc]; exact symG_non (j := 5) (by omega) hlt
          have hb : ((((⟨#[83, 65, 66, 67, 68, 69]⟩ : ByteArray)[5]'(by decide)).toNat : Int) == c) = true := by show ((69 : Int) == c) = true; simp; omega
          clear hc
          go_wp2
          go_ret2
          exact ⟨by rw [HE.out]; rfl, rfl⟩
        · have hb : ((((⟨#[83, 65, 66, 67, 68, 69]⟩ : ByteArray)[5]'(by decide)).toNat : Int) == c) = false := by show ((69 : Int) == c) = false; simp; omega
          have HC := Lib.hid hc; clear hc
          go_wp2
          go_roundw
          case rel => exact ⟨6, by omega, by go_num, trivial, fun j hj => by
            rcases Nat.lt_or_ge j 5 with h | h
            · exact H.out j h
            · obtain rfl : j = 5 := by omega
              exact fun e => HC.out e.symm⟩
          case measure => simp [intOf]; omega
    · have HN : Hid (∀ j : Nat, (j : Int) < n → nonN j ≠ c) := fun j hj => H.out j (by omega)
      clear H
      obtain ⟨w0, h⟩ : ∃ x, x = wr := ⟨_, rfl⟩
      subst h
      go_wp2
      go_loopw [9] (fun i wr => ∃ (k : Nat), (k : Int) ≤ t ∧ i = .int .i64 k ∧ wr = w0 ∧ Hid (∀ j : Nat, j < k → tokN j ≠ c)) (fun i _ => (t - intOf i).toNat)
      case atStart => exact ⟨0, by omega, rfl, rfl, fun j h => absurd h (by omega)⟩
      case round =>
        obtain ⟨k2, hk2, rfl, rfl, H⟩ := hrel
        by_cases hlt2 : (k2 : Int) < t
        · rcases four' (show k2 < 4 by omega) with rfl | rfl | rfl | rfl
          · by_cases hc : c = 97
            · have HE : Hid (symG n t c = some (-1 - 0)) := by show symG n t c = _; rw [hc]; exact symG_tok (j := 0) (by omega) hlt2
              have hb : ((((⟨#[97, 98, 99, 100]⟩ : ByteArray)[0]'(by decide)).toNat : Int) == c) = true := by show ((97 : Int) == c) = true; simp; omega
              clear hc
              go_wp2
              go_ret2
              exact ⟨by rw [HE.out]; rfl, rfl⟩
            · have hb : ((((⟨#[97, 98, 99, 100]⟩ : ByteArray)[0]'(by decide)).toNat : Int) == c) = false := by show ((97 : Int) == c) = false; simp; omega
              have HC := Lib.hid hc; clear hc
              go_wp2
              go_roundw
              case rel => exact ⟨1, by omega, by go_num, trivial, fun j hj => by
                rcases Nat.lt_or_ge j 0 with h | h
                · exact H.out j h
                · obtain rfl : j = 0 := by omega
                  exact fun e => HC.out e.symm⟩
              case measure => simp [intOf]; omega
          · by_cases hc : c = 98
            · have HE : Hid (symG n t c = some (-1 - 1)) := by show symG n t c = _; rw [hc]; exact symG_tok (j := 1) (by omega) hlt2
              have hb : ((((⟨#[97, 98, 99, 100]⟩ : ByteArray)[1]'(by decide)).toNat : Int) == c) = true := by show ((98 : Int) == c) = true; simp; omega
              clear hc
              go_wp2
              go_ret2
              exact ⟨by rw [HE.out]; rfl, rfl⟩
            · have hb : ((((⟨#[97, 98, 99, 100]⟩ : ByteArray)[1]'(by decide)).toNat : Int) == c) = false := by show ((98 : Int) == c) = false; simp; omega
              have HC := Lib.hid hc; clear hc
              go_wp2
              go_roundw
              case rel => exact ⟨2, by omega, by go_num, trivial, fun j hj => by
                rcases Nat.lt_or_ge j 1 with h | h
                · exact H.out j h
                · obtain rfl : j = 1 := by omega
                  exact fun e => HC.out e.symm⟩
              case measure => simp [intOf]; omega
          · by_cases hc : c = 99
            · have HE : Hid (symG n t c = some (-1 - 2)) := by show symG n t c = _; rw [hc]; exact symG_tok (j := 2) (by omega) hlt2
              have hb : ((((⟨#[97, 98, 99, 100]⟩ : ByteArray)[2]'(by decide)).toNat : Int) == c) = true := by show ((99 : Int) == c) = true; simp; omega
              clear hc
              go_wp2
              go_ret2
              exact ⟨by rw [HE.out]; rfl, rfl⟩
            · have hb : ((((⟨#[97, 98, 99, 100]⟩ : ByteArray)[2]'(by decide)).toNat : Int) == c) = false := by show ((99 : Int) == c) = false; simp; omega
              have HC := Lib.hid hc; clear hc
              go_wp2
              go_roundw
              case rel => exact ⟨3, by omega, by go_num, trivial, fun j hj => by
                rcases Nat.lt_or_ge j 2 with h | h
                · exact H.out j h
                · obtain rfl : j = 2 := by omega
                  exact fun e => HC.out e.symm⟩
              case measure => simp [intOf]; omega
          · by_cases hc : c = 100
            · have HE : Hid (symG n t c = some (-1 - 3)) := by show symG n t c = _; rw [hc]; exact symG_tok (j := 3) (by omega) hlt2
              have hb : ((((⟨#[97, 98, 99, 100]⟩ : ByteArray)[3]'(by decide)).toNat : Int) == c) = true := by show ((100 : Int) == c) = true; simp; omega
              clear hc
              go_wp2
              go_ret2
              exact ⟨by rw [HE.out]; rfl, rfl⟩
            · have hb : ((((⟨#[97, 98, 99, 100]⟩ : ByteArray)[3]'(by decide)).toNat : Int) == c) = false := by show ((100 : Int) == c) = false; simp; omega
              have HC := Lib.hid hc; clear hc
              go_wp2
              go_roundw
              case rel => exact ⟨4, by omega, by go_num, trivial, fun j hj => by
                rcases Nat.lt_or_ge j 3 with h | h
                · exact H.out j h
                · obtain rfl : j = 3 := by omega
                  exact fun e => HC.out e.symm⟩
              case measure => simp [intOf]; omega
        · have HE : Hid (symG n t c = none) := symG_none HN.out fun j hj => H.out j (by omega)
          go_wp2
          go_ret2
          exact ⟨by rw [HE.out]; rfl, rfl⟩

end Go.Proofs.YtaaagcokjndaoaaDoor
