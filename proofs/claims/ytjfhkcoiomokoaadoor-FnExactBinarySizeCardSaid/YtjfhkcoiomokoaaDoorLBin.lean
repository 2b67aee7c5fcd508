/- A binary grammar as it lies in memory; what the laws' size counter, copy and comparison answer of it. -/
import Derived.Test.YtjfhkcoiomokoaaDoorLSz
import Derived.Test.YtjfhkcoiomokoaaDoorLTo
import Derived.Test.YtjfhkcoiomokoaaDoorLEq
namespace Go.Proofs.YtjfhkcoiomokoaaDoor
open Go.RowKit

/-- A binary grammar as it lies in memory. -/
structure Bi where
  n : Int
  t : Int
  Ap : Option Addr
  P : List Li
  cp : Nat
  Ao : Option Addr
  O : List Li
  co : Nat
  Ae : Option Addr
  E : List Int
  ce : Nat
  Af : Option Addr
  F : List Li
  cf : Nat

/-- What a binary grammar says, wherever it lies. -/
structure Bs where
  n : Int
  t : Int
  P : List (List Int)
  O : List (List Int)
  E : List Int
  F : List (List Int)
deriving DecidableEq

def Bi.say (b : Bi) : Bs := ⟨b.n, b.t, sayL b.P, sayL b.O, b.E, sayL b.F⟩

/-- Its lists can be read, all of them below block B. -/
def ReadB (w : World) (B : Nat) (b : Bi) : Prop := Lls w B b.Ap b.P ∧ Lls w B b.Ao b.O ∧ Ints w B b.Ae b.E ∧ Lls w B b.Af b.F

theorem ReadB.keep {w w' : World} {B : Nat} {b : Bi} (h : ReadB w B b) (hk : Below B w w') : ReadB w' B b := ⟨h.1.keep hk, h.2.1.keep hk, h.2.2.1.keep hk, h.2.2.2.keep hk⟩
theorem ReadB.more {w : World} {B B' : Nat} {b : Bi} (h : ReadB w B b) (hB : B ≤ B') : ReadB w B' b := ⟨h.1.more hB, h.2.1.more hB, h.2.2.1.more hB, h.2.2.2.more hB⟩

/-- None of its lists is longer than m. -/
structure LenB (m : Nat) (b : Bi) : Prop where
  p : b.P.length ≤ m
  ps : ∀ u ∈ b.P, u.r.length ≤ m
  o : b.O.length ≤ m
  os : ∀ u ∈ b.O, u.r.length ≤ m
  e : b.E.length ≤ m
  f : b.F.length ≤ m
  fs : ∀ u ∈ b.F, u.r.length ≤ m

/-- Its lists have room for what they hold. -/
structure CapB (b : Bi) : Prop where
  p : b.P.length ≤ b.cp
  o : b.O.length ≤ b.co
  e : b.E.length ≤ b.ce
  f : b.F.length ≤ b.cf

def szB (P O : List (List Int)) (E : List Int) (F : List (List Int)) (L : Int) : Int :=
  if szLs P L < 0 then -1 else if szLs O (szLs P L) < 0 then -1 else if szI E.length (szLs O (szLs P L)) < 0 then -1 else
  if szLs F (szI E.length (szLs O (szLs P L))) < 0 then -1 else szLs F (szI E.length (szLs O (szLs P L)))

theorem szB_bound {b : Bi} (hp : 0 ≤ szB (sayL b.P) (sayL b.O) b.E (sayL b.F) 1048576) : LenB 1048576 b := by
  unfold szB at hp
  split at hp
  · omega
  rename_i h1
  split at hp
  · omega
  rename_i h2
  split at hp
  · omega
  rename_i h3
  split at hp
  · omega
  rename_i h4
  have a1 := szLs_ge (sayL b.P) (L := 1048576) (by omega)
  have b1 := szLs_bound (rs := sayL b.P) (L := 1048576) (by omega) (by omega)
  have a2 := szLs_ge (sayL b.O) (L := szLs (sayL b.P) 1048576) (by omega)
  have b2 := szLs_bound (rs := sayL b.O) (L := szLs (sayL b.P) 1048576) (by omega) (by omega)
  have a3 := szI_le (n := b.E.length) (L := szLs (sayL b.O) (szLs (sayL b.P) 1048576)) (by omega)
  have e3 : szI b.E.length (szLs (sayL b.O) (szLs (sayL b.P) 1048576)) = szLs (sayL b.O) (szLs (sayL b.P) 1048576) - b.E.length := by
    unfold szI at h3 ⊢; split <;> simp_all
  have b4 := szLs_bound (rs := sayL b.F) (L := szI b.E.length (szLs (sayL b.O) (szLs (sayL b.P) 1048576))) (by omega) (by omega)
  have say : ∀ {ls : List Li} {L : Int}, L ≤ 1048576 → ((sayL ls).length : Int) ≤ L ∧ (∀ u ∈ sayL ls, (u.length : Int) ≤ L) → ls.length ≤ 1048576 ∧ ∀ u ∈ ls, u.r.length ≤ 1048576 := by
    intro ls L hL h
    refine ⟨by have := h.1; rw [sayL_len] at this; omega, fun u hu => ?_⟩
    have := h.2 u.r (sayL_mem hu)
    omega
  obtain ⟨p1, p2⟩ := say (by omega) b1
  obtain ⟨o1, o2⟩ := say (by omega) b2
  obtain ⟨f1, f2⟩ := say (by omega) b4
  exact ⟨p1, p2, o1, o2, by omega, f1, f2⟩

theorem LenB.of_say {m : Nat} {b b' : Bi} (h : LenB m b) (e : b'.say = b.say) : LenB m b' := by
  have one : ∀ {ls ls' : List Li}, sayL ls' = sayL ls → ls.length ≤ m → (∀ u ∈ ls, u.r.length ≤ m) → ls'.length ≤ m ∧ ∀ u ∈ ls', u.r.length ≤ m := by
    intro ls ls' e h1 h2
    refine ⟨by rw [sayL_len' e, sayL_len]; exact h1, fun u hu => ?_⟩
    have := sayL_mem hu
    rw [e] at this
    obtain ⟨v, hv, e'⟩ := List.mem_map.1 this
    rw [← e']; exact h2 v hv
  obtain ⟨a1, a2⟩ := one (congrArg Bs.P e) h.p h.ps
  obtain ⟨b1, b2⟩ := one (congrArg Bs.O e) h.o h.os
  obtain ⟨c1, c2⟩ := one (congrArg Bs.F e) h.f h.fs
  exact ⟨a1, a2, b1, b2, by rw [show b'.E = b.E from congrArg Bs.E e]; exact h.e, c1, c2⟩

set_option maxHeartbeats 1000000 in
theorem szBinary_any (b : Bi) (w : World) (hr : ReadB w w.heap.size b) (hm : LenB maxLen b) :
    Calls Tryd.prog 30 #[(.agg #[.int .i64 b.n, .int .i64 b.t, .slice b.Ap b.P.length b.cp, .slice b.Ao b.O.length b.co, .slice b.Ae b.E.length b.ce, .slice b.Af b.F.length b.cf]), .int .i64 1048576] w fun e w' => e = .returned (.int .i64 (szB (sayL b.P) (sayL b.O) b.E (sayL b.F) 1048576)) ∧ Below w.heap.size w w' := by
  have HR := Lib.hid hr; clear hr
  have HM := Lib.hid hm; clear hm
  go_enter Tryd.func30, Tryd.ntmps30
  go_wp2_with fail
  have hB0 : Below w.heap.size w (w.alloc (.cells #[.int .i64 b.n, .int .i64 b.t, .slice b.Ap b.P.length b.cp, .slice b.Ao b.O.length b.co, .slice b.Ae b.E.length b.ce, .slice b.Af b.F.length b.cf] 51)) := by go_grown
  have R0 : Row (w.alloc (.cells #[.int .i64 b.n, .int .i64 b.t, .slice b.Ap b.P.length b.cp, .slice b.Ao b.O.length b.co, .slice b.Ae b.E.length b.ce, .slice b.Af b.F.length b.cf] 51)) w.heap.size 51 #[.int .i64 b.n, .int .i64 b.t, .slice b.Ap b.P.length b.cp, .slice b.Ao b.O.length b.co, .slice b.Ae b.E.length b.ce, .slice b.Af b.F.length b.cf] := Row.new _ _ _
  generalize (w.alloc (.cells #[.int .i64 b.n, .int .i64 b.t, .slice b.Ap b.P.length b.cp, .slice b.Ao b.O.length b.co, .slice b.Ae b.E.length b.ce, .slice b.Af b.F.length b.cf] 51)) = W at hB0 R0 ⊢
  have HB0 := Lib.hid hB0; clear hB0
  have HR0 := Lib.hid R0; clear R0
  have g1 := szLs_ge (sayL b.P) (L := 1048576) (by omega)
  refine (szIntSS_any _ _ _ _ _ ((HR.out.1.keep HB0.out).more HB0.out.size) HM.out.p HM.out.ps (by omega) (by omega)).mono ?_
  rintro e w1 ⟨rfl, hB1⟩
  have HR1 := Lib.hid (HR0.out.below hB1 HR0.out.lt)
  have HB1 := Lib.hid (HB0.out.trans (hB1.mono HB0.out.size)); clear hB1 HR0 HB0
  have a3 := HR1.out.cell 3
  have a4 := HR1.out.cell 4
  have a5 := HR1.out.cell 5
  simp only [List.getElem?_toArray, List.getElem?_cons_succ, List.getElem?_cons_zero] at a3 a4 a5
  by_cases h1 : szLs (sayL b.P) 1048576 < 0
  · have HE : Hid (szB (sayL b.P) (sayL b.O) b.E (sayL b.F) 1048576 = -1) := by show _ = _; unfold szB; rw [if_pos h1]
    go_wp2
    go_ret
    exact ⟨ret_int HE.out.symm, HB1.out⟩
  have g2 := szLs_ge (sayL b.O) (L := szLs (sayL b.P) 1048576) (by omega)
  go_wp2_with fail
  refine (szIntSS_any _ _ _ _ _ ((HR.out.2.1.keep HB1.out).more HB1.out.size) HM.out.o HM.out.os (by omega) (by omega)).mono ?_
  rintro e w2 ⟨rfl, hB2⟩
  have HR2 := Lib.hid (HR1.out.below hB2 HR1.out.lt)
  have HB2 := Lib.hid (HB1.out.trans (hB2.mono HB1.out.size)); clear hB2 HR1 HB1 a3 a4 a5
  have a4 := HR2.out.cell 4
  have a5 := HR2.out.cell 5
  simp only [List.getElem?_toArray, List.getElem?_cons_succ, List.getElem?_cons_zero] at a4 a5
  by_cases h2 : szLs (sayL b.O) (szLs (sayL b.P) 1048576) < 0
  · have HE : Hid (szB (sayL b.P) (sayL b.O) b.E (sayL b.F) 1048576 = -1) := by show _ = _; unfold szB; rw [if_neg (by omega), if_pos h2]
    go_wp2
    go_ret
    exact ⟨ret_int HE.out.symm, HB2.out⟩
  have g3 := szI_le (n := b.E.length) (L := szLs (sayL b.O) (szLs (sayL b.P) 1048576)) (by omega)
  go_wp2_with fail
  refine (szIntS_any _ _ _ _ _ HM.out.e (by omega) (by omega)).mono ?_
  rintro e w3 ⟨rfl, rfl⟩
  by_cases h3 : szI b.E.length (szLs (sayL b.O) (szLs (sayL b.P) 1048576)) < 0
  · have HE : Hid (szB (sayL b.P) (sayL b.O) b.E (sayL b.F) 1048576 = -1) := by show _ = _; unfold szB; rw [if_neg (by omega), if_neg (by omega), if_pos h3]
    go_wp2
    go_ret
    exact ⟨ret_int HE.out.symm, HB2.out⟩
  have g4 := szLs_ge (sayL b.F) (L := szI b.E.length (szLs (sayL b.O) (szLs (sayL b.P) 1048576))) (by omega)
  go_wp2_with fail
  refine (szIntSS_any _ _ _ _ _ ((HR.out.2.2.2.keep HB2.out).more HB2.out.size) HM.out.f HM.out.fs (by omega) (by omega)).mono ?_
  rintro e w4 ⟨rfl, hB4⟩
  have HB4 := Lib.hid (HB2.out.trans (hB4.mono HB2.out.size)); clear hB4 HR2 HB2 a4 a5
  by_cases h4 : szLs (sayL b.F) (szI b.E.length (szLs (sayL b.O) (szLs (sayL b.P) 1048576))) < 0
  · have HE : Hid (szB (sayL b.P) (sayL b.O) b.E (sayL b.F) 1048576 = -1) := by show _ = _; unfold szB; rw [if_neg (by omega), if_neg (by omega), if_neg (by omega), if_pos h4]
    go_wp2
    go_ret
    exact ⟨ret_int HE.out.symm, HB4.out⟩
  · have HE : Hid (szB (sayL b.P) (sayL b.O) b.E (sayL b.F) 1048576 = szLs (sayL b.F) (szI b.E.length (szLs (sayL b.O) (szLs (sayL b.P) 1048576)))) := by show _ = _; unfold szB; rw [if_neg (by omega), if_neg (by omega), if_neg (by omega), if_neg (by omega)]
    go_wp2
    go_ret
    exact ⟨ret_int HE.out.symm, HB4.out⟩

/-- Two binary grammars say the same. -/
def eqB (s s' : Bs) : Bool := decide (s = s')
theorem eqB_t {s s' : Bs} (h : s = s') : eqB s s' = true := decide_eq_true h

set_option maxHeartbeats 1000000 in
theorem eqBinary_any (b b' : Bi) (w : World) (hx : ReadB w w.heap.size b) (hy : ReadB w w.heap.size b') (hm : LenB 1048576 b) (heq : b.say = b'.say) :
    Calls Tryd.prog 27 #[(.agg #[.int .i64 b.n, .int .i64 b.t, .slice b.Ap b.P.length b.cp, .slice b.Ao b.O.length b.co, .slice b.Ae b.E.length b.ce, .slice b.Af b.F.length b.cf]), (.agg #[.int .i64 b'.n, .int .i64 b'.t, .slice b'.Ap b'.P.length b'.cp, .slice b'.Ao b'.O.length b'.co, .slice b'.Ae b'.E.length b'.ce, .slice b'.Af b'.F.length b'.cf])] w fun e w' => e = .returned (.bool true) ∧ Below w.heap.size w w' := by
  have HX := Lib.hid hx; clear hx
  have HY := Lib.hid hy; clear hy
  have HM := Lib.hid hm; clear hm
  have e1 : (b.n != b'.n) = false := bne_f (congrArg Bs.n heq)
  have e2 : (b.t != b'.t) = false := bne_f (congrArg Bs.t heq)
  have E3 : Hid (eqLs (sayL b.P) (sayL b'.P) = true) := eqLs_t (congrArg Bs.P heq)
  have E4 : Hid (eqLs (sayL b.O) (sayL b'.O) = true) := eqLs_t (congrArg Bs.O heq)
  have E5 : Hid (eqL b.E b'.E = true) := eqL_t (congrArg Bs.E heq)
  have E6 : Hid (eqLs (sayL b.F) (sayL b'.F) = true) := eqLs_t (congrArg Bs.F heq)
  clear heq
  go_enter Tryd.func27, Tryd.ntmps27
  go_wp2_with fail
  have hB0 : Below w.heap.size w ((w.alloc (.cells #[.int .i64 b.n, .int .i64 b.t, .slice b.Ap b.P.length b.cp, .slice b.Ao b.O.length b.co, .slice b.Ae b.E.length b.ce, .slice b.Af b.F.length b.cf] 45)).alloc (.cells #[.int .i64 b'.n, .int .i64 b'.t, .slice b'.Ap b'.P.length b'.cp, .slice b'.Ao b'.O.length b'.co, .slice b'.Ae b'.E.length b'.ce, .slice b'.Af b'.F.length b'.cf] 45)) := by go_grown
  have Ra : Row ((w.alloc (.cells #[.int .i64 b.n, .int .i64 b.t, .slice b.Ap b.P.length b.cp, .slice b.Ao b.O.length b.co, .slice b.Ae b.E.length b.ce, .slice b.Af b.F.length b.cf] 45)).alloc (.cells #[.int .i64 b'.n, .int .i64 b'.t, .slice b'.Ap b'.P.length b'.cp, .slice b'.Ao b'.O.length b'.co, .slice b'.Ae b'.E.length b'.ce, .slice b'.Af b'.F.length b'.cf] 45)) w.heap.size 45 #[.int .i64 b.n, .int .i64 b.t, .slice b.Ap b.P.length b.cp, .slice b.Ao b.O.length b.co, .slice b.Ae b.E.length b.ce, .slice b.Af b.F.length b.cf] := (Row.new _ _ _).alloc _
  have Rb : Row ((w.alloc (.cells #[.int .i64 b.n, .int .i64 b.t, .slice b.Ap b.P.length b.cp, .slice b.Ao b.O.length b.co, .slice b.Ae b.E.length b.ce, .slice b.Af b.F.length b.cf] 45)).alloc (.cells #[.int .i64 b'.n, .int .i64 b'.t, .slice b'.Ap b'.P.length b'.cp, .slice b'.Ao b'.O.length b'.co, .slice b'.Ae b'.E.length b'.ce, .slice b'.Af b'.F.length b'.cf] 45)) (w.heap.size + 1) 45 #[.int .i64 b'.n, .int .i64 b'.t, .slice b'.Ap b'.P.length b'.cp, .slice b'.Ao b'.O.length b'.co, .slice b'.Ae b'.E.length b'.ce, .slice b'.Af b'.F.length b'.cf] := by have h := Row.new (w.alloc (.cells #[.int .i64 b.n, .int .i64 b.t, .slice b.Ap b.P.length b.cp, .slice b.Ao b.O.length b.co, .slice b.Ae b.E.length b.ce, .slice b.Af b.F.length b.cf] 45)) 45 #[.int .i64 b'.n, .int .i64 b'.t, .slice b'.Ap b'.P.length b'.cp, .slice b'.Ao b'.O.length b'.co, .slice b'.Ae b'.E.length b'.ce, .slice b'.Af b'.F.length b'.cf]; rw [World.size_alloc] at h; exact h
  generalize ((w.alloc (.cells #[.int .i64 b.n, .int .i64 b.t, .slice b.Ap b.P.length b.cp, .slice b.Ao b.O.length b.co, .slice b.Ae b.E.length b.ce, .slice b.Af b.F.length b.cf] 45)).alloc (.cells #[.int .i64 b'.n, .int .i64 b'.t, .slice b'.Ap b'.P.length b'.cp, .slice b'.Ao b'.O.length b'.co, .slice b'.Ae b'.E.length b'.ce, .slice b'.Af b'.F.length b'.cf] 45)) = W at hB0 Ra Rb ⊢
  have HB0 := Lib.hid hB0; clear hB0
  have HRa0 := Lib.hid Ra; clear Ra
  have HRb0 := Lib.hid Rb; clear Rb
  refine (eqIntSS_any _ _ _ _ _ _ _ ((HX.out.1.keep HB0.out).more HB0.out.size) ((HY.out.1.keep HB0.out).more HB0.out.size) HM.out.p HM.out.ps).mono ?_
  rintro e w1 ⟨rfl, hB1⟩
  rw [E3.out]
  have HRa1 := Lib.hid (HRa0.out.below hB1 HRa0.out.lt)
  have HRb1 := Lib.hid (HRb0.out.below hB1 HRb0.out.lt)
  have HB1 := Lib.hid (HB0.out.trans (hB1.mono HB0.out.size)); clear hB1 HRa0 HRb0 HB0
  have a3 := HRa1.out.cell 3
  have b3 := HRb1.out.cell 3
  simp only [List.getElem?_toArray, List.getElem?_cons_succ, List.getElem?_cons_zero] at a3 b3
  go_wp2_with fail
  refine (eqIntSS_any _ _ _ _ _ _ _ ((HX.out.2.1.keep HB1.out).more HB1.out.size) ((HY.out.2.1.keep HB1.out).more HB1.out.size) HM.out.o HM.out.os).mono ?_
  rintro e w2 ⟨rfl, hB2⟩
  rw [E4.out]
  have HRa2 := Lib.hid (HRa1.out.below hB2 HRa1.out.lt)
  have HRb2 := Lib.hid (HRb1.out.below hB2 HRb1.out.lt)
  have HB2 := Lib.hid (HB1.out.trans (hB2.mono HB1.out.size)); clear hB2 HRa1 HRb1 HB1 a3 b3
  have a4 := HRa2.out.cell 4
  have b4 := HRb2.out.cell 4
  simp only [List.getElem?_toArray, List.getElem?_cons_succ, List.getElem?_cons_zero] at a4 b4
  go_wp2_with fail
  refine (eqIntS_any _ _ _ _ _ _ _ ((HX.out.2.2.1.keep HB2.out).more HB2.out.size) ((HY.out.2.2.1.keep HB2.out).more HB2.out.size) HM.out.e).mono ?_
  rintro e w3 ⟨rfl, hB3⟩
  rw [E5.out]
  have HRa3 := Lib.hid (HRa2.out.below hB3 HRa2.out.lt)
  have HRb3 := Lib.hid (HRb2.out.below hB3 HRb2.out.lt)
  have HB3 := Lib.hid (HB2.out.trans (hB3.mono HB2.out.size)); clear hB3 HRa2 HRb2 HB2 a4 b4
  have a5 := HRa3.out.cell 5
  have b5 := HRb3.out.cell 5
  simp only [List.getElem?_toArray, List.getElem?_cons_succ, List.getElem?_cons_zero] at a5 b5
  go_wp2_with fail
  refine (eqIntSS_any _ _ _ _ _ _ _ ((HX.out.2.2.2.keep HB3.out).more HB3.out.size) ((HY.out.2.2.2.keep HB3.out).more HB3.out.size) HM.out.f HM.out.fs).mono ?_
  rintro e w4 ⟨rfl, hB4⟩
  rw [E6.out]
  have HB4 := Lib.hid (HB3.out.trans (hB4.mono HB3.out.size)); clear hB4 HRa3 HRb3 HB3 a5 b5
  go_wp2
  go_ret
  exact ⟨rfl, HB4.out⟩

/-- Its lists are the call's own, those of each field apart. -/
def OwnB (w : World) (lo : Nat) (b : Bi) : Prop := OwnL w lo b.Ap b.P ∧ OwnL w lo b.Ao b.O ∧ OwnI w lo b.Ae b.E ∧ OwnL w lo b.Af b.F

theorem OwnB.read {w : World} {lo : Nat} {b : Bi} (h : OwnB w lo b) : ReadB w w.heap.size b := ⟨h.1.lls, h.2.1.lls, h.2.2.1.ints, h.2.2.2.lls⟩
theorem OwnB.below {w w' : World} {lo B : Nat} {b : Bi} (h : OwnB w lo b) (hb : Below B w w') (hB : w.heap.size ≤ B) : OwnB w' lo b := ⟨h.1.below hb hB, h.2.1.below hb hB, h.2.2.1.below hb hB, h.2.2.2.below hb hB⟩

/-- A binary grammar's copy: it says the same; nothing older has turned. -/
def GaveB (w : World) (s : Bs) (e : Ending) (w' : World) : Prop :=
  ∃ b : Bi, e = .returned (.agg #[.int .i64 b.n, .int .i64 b.t, .slice b.Ap b.P.length b.cp, .slice b.Ao b.O.length b.co, .slice b.Ae b.E.length b.ce, .slice b.Af b.F.length b.cf]) ∧ b.say = s ∧ OwnB w' w.heap.size b ∧ CapB b ∧ Below w.heap.size w w'

set_option maxHeartbeats 1000000 in
theorem toBinary_any (b : Bi) (w : World) (hr : ReadB w w.heap.size b) (hm : LenB 1048576 b) :
    Calls Tryd.prog 32 #[(.agg #[.int .i64 b.n, .int .i64 b.t, .slice b.Ap b.P.length b.cp, .slice b.Ao b.O.length b.co, .slice b.Ae b.E.length b.ce, .slice b.Af b.F.length b.cf])] w (GaveB w b.say) := by
  have HR := Lib.hid hr; clear hr
  have HM := Lib.hid hm; clear hm
  go_enter Tryd.func32, Tryd.ntmps32
  go_wp2_with fail
  have hB0 : Below w.heap.size w (((w.alloc (.cells #[.int .i64 b.n, .int .i64 b.t, .slice b.Ap b.P.length b.cp, .slice b.Ao b.O.length b.co, .slice b.Ae b.E.length b.ce, .slice b.Af b.F.length b.cf] 51)).alloc (.cells #[.int .i64 0, .int .i64 0, .slice none 0 0, .slice none 0 0, .slice none 0 0, .slice none 0 0] 45)).alloc (.cells #[.int .i64 b.n, .int .i64 b.t, .slice none 0 0, .slice none 0 0, .slice none 0 0, .slice none 0 0] 45)) := by go_grown
  have hz0 : (((w.alloc (.cells #[.int .i64 b.n, .int .i64 b.t, .slice b.Ap b.P.length b.cp, .slice b.Ao b.O.length b.co, .slice b.Ae b.E.length b.ce, .slice b.Af b.F.length b.cf] 51)).alloc (.cells #[.int .i64 0, .int .i64 0, .slice none 0 0, .slice none 0 0, .slice none 0 0, .slice none 0 0] 45)).alloc (.cells #[.int .i64 b.n, .int .i64 b.t, .slice none 0 0, .slice none 0 0, .slice none 0 0, .slice none 0 0] 45)).heap.size = w.heap.size + 3 := by simp
  have Ra : Row (((w.alloc (.cells #[.int .i64 b.n, .int .i64 b.t, .slice b.Ap b.P.length b.cp, .slice b.Ao b.O.length b.co, .slice b.Ae b.E.length b.ce, .slice b.Af b.F.length b.cf] 51)).alloc (.cells #[.int .i64 0, .int .i64 0, .slice none 0 0, .slice none 0 0, .slice none 0 0, .slice none 0 0] 45)).alloc (.cells #[.int .i64 b.n, .int .i64 b.t, .slice none 0 0, .slice none 0 0, .slice none 0 0, .slice none 0 0] 45)) w.heap.size 51 #[.int .i64 b.n, .int .i64 b.t, .slice b.Ap b.P.length b.cp, .slice b.Ao b.O.length b.co, .slice b.Ae b.E.length b.ce, .slice b.Af b.F.length b.cf] := ((Row.new _ _ _).alloc _).alloc _
  have Rr : Row (((w.alloc (.cells #[.int .i64 b.n, .int .i64 b.t, .slice b.Ap b.P.length b.cp, .slice b.Ao b.O.length b.co, .slice b.Ae b.E.length b.ce, .slice b.Af b.F.length b.cf] 51)).alloc (.cells #[.int .i64 0, .int .i64 0, .slice none 0 0, .slice none 0 0, .slice none 0 0, .slice none 0 0] 45)).alloc (.cells #[.int .i64 b.n, .int .i64 b.t, .slice none 0 0, .slice none 0 0, .slice none 0 0, .slice none 0 0] 45)) (w.heap.size + 1) 45 #[.int .i64 0, .int .i64 0, .slice none 0 0, .slice none 0 0, .slice none 0 0, .slice none 0 0] := by
    have h := Row.new (w.alloc (.cells #[.int .i64 b.n, .int .i64 b.t, .slice b.Ap b.P.length b.cp, .slice b.Ao b.O.length b.co, .slice b.Ae b.E.length b.ce, .slice b.Af b.F.length b.cf] 51)) 45 #[.int .i64 0, .int .i64 0, .slice none 0 0, .slice none 0 0, .slice none 0 0, .slice none 0 0]
    rw [World.size_alloc] at h; exact h.alloc _
  have Ro : Row (((w.alloc (.cells #[.int .i64 b.n, .int .i64 b.t, .slice b.Ap b.P.length b.cp, .slice b.Ao b.O.length b.co, .slice b.Ae b.E.length b.ce, .slice b.Af b.F.length b.cf] 51)).alloc (.cells #[.int .i64 0, .int .i64 0, .slice none 0 0, .slice none 0 0, .slice none 0 0, .slice none 0 0] 45)).alloc (.cells #[.int .i64 b.n, .int .i64 b.t, .slice none 0 0, .slice none 0 0, .slice none 0 0, .slice none 0 0] 45)) (w.heap.size + 1 + 1) 45 #[.int .i64 b.n, .int .i64 b.t, .slice none 0 0, .slice none 0 0, .slice none 0 0, .slice none 0 0] := by
    have h := Row.new ((w.alloc (.cells #[.int .i64 b.n, .int .i64 b.t, .slice b.Ap b.P.length b.cp, .slice b.Ao b.O.length b.co, .slice b.Ae b.E.length b.ce, .slice b.Af b.F.length b.cf] 51)).alloc (.cells #[.int .i64 0, .int .i64 0, .slice none 0 0, .slice none 0 0, .slice none 0 0, .slice none 0 0] 45)) 45 #[.int .i64 b.n, .int .i64 b.t, .slice none 0 0, .slice none 0 0, .slice none 0 0, .slice none 0 0]
    rw [World.size_alloc, World.size_alloc] at h; exact h
  generalize (((w.alloc (.cells #[.int .i64 b.n, .int .i64 b.t, .slice b.Ap b.P.length b.cp, .slice b.Ao b.O.length b.co, .slice b.Ae b.E.length b.ce, .slice b.Af b.F.length b.cf] 51)).alloc (.cells #[.int .i64 0, .int .i64 0, .slice none 0 0, .slice none 0 0, .slice none 0 0, .slice none 0 0] 45)).alloc (.cells #[.int .i64 b.n, .int .i64 b.t, .slice none 0 0, .slice none 0 0, .slice none 0 0, .slice none 0 0] 45)) = W at hB0 hz0 Ra Rr Ro ⊢
  have HB0 := Lib.hid hB0; clear hB0
  have HZ0 : Hid (w.heap.size + 3 ≤ W.heap.size) := by show _ ≤ _; omega
  clear hz0
  have HRa0 := Lib.hid Ra; clear Ra
  have HRr0 := Lib.hid Rr; clear Rr
  have HRo0 := Lib.hid Ro; clear Ro
  refine (toIntSS_any _ _ _ _ ((HR.out.1.keep HB0.out).more HB0.out.size) HM.out.p HM.out.ps).mono ?_
  rintro e w1 ⟨A1, c1, l1, rfl, k1, o1, s1, hB1⟩
  have HO1 : Hid (OwnL w1 (w.heap.size + 3) A1 l1) := o1.lower HZ0.out
  have HZ1' : Hid (w.heap.size + 3 ≤ w1.heap.size) := Nat.le_trans HZ0.out hB1.size
  have HRa1' := Lib.hid (HRa0.out.below hB1 HRa0.out.lt)
  have HRr1' := Lib.hid (HRr0.out.below hB1 HRr0.out.lt)
  have HRo1' := Lib.hid (HRo0.out.below hB1 HRo0.out.lt)
  have HB1' := Lib.hid (HB0.out.trans (hB1.mono HB0.out.size)); clear hB1 HRa0 HRr0 HRo0 HB0 HZ0 o1
  have K1 := Lib.hid k1; clear k1
  have S1 := Lib.hid s1; clear s1
  have av := HRa1'.out.cell 3
  have xv := HRo1'.out.cell 2
  have yv := HRo1'.out.frozen 2
  simp only [List.getElem?_toArray, List.getElem?_cons_succ, List.getElem?_cons_zero] at av xv
  go_wp2_with fail
  have HRa1 := Lib.hid (HRa1'.out.far (p := ⟨w.heap.size + 1 + 1, 2, none⟩) (by simp; omega) (.slice A1 l1.length c1))
  have HRr1 := Lib.hid (HRr1'.out.far (p := ⟨w.heap.size + 1 + 1, 2, none⟩) (by simp) (.slice A1 l1.length c1))
  have HRo1 : Hid (Row (w1.setCell ⟨w.heap.size + 1 + 1, 2, none⟩ (.slice A1 l1.length c1)) (w.heap.size + 1 + 1) 45 #[.int .i64 b.n, .int .i64 b.t, .slice A1 l1.length c1, .slice none 0 0, .slice none 0 0, .slice none 0 0]) := HRo1'.out.set 2 (.slice A1 l1.length c1)
  have HQ1 := Lib.hid (HO1.out.low (p := ⟨w.heap.size + 1 + 1, 2, none⟩) (by simp) (.slice A1 l1.length c1)); clear HO1
  have HB1 : Hid (Below w.heap.size w (w1.setCell ⟨w.heap.size + 1 + 1, 2, none⟩ (.slice A1 l1.length c1))) := HB1'.out.setCell (by simp; omega) _
  have HZ1 : Hid (w.heap.size + 3 ≤ (w1.setCell ⟨w.heap.size + 1 + 1, 2, none⟩ (.slice A1 l1.length c1)).heap.size) := by have := HZ1'.out; show _ ≤ _; simpa using this
  clear xv yv av HRa1' HRr1' HRo1' HB1' HZ1'
  generalize (w1.setCell ⟨w.heap.size + 1 + 1, 2, none⟩ (.slice A1 l1.length c1)) = W1 at HRa1 HRr1 HRo1 HB1 HZ1 HQ1 ⊢
  have HO1 := HQ1; clear HQ1
  refine (toIntSS_any _ _ _ _ ((HR.out.2.1.keep HB1.out).more HB1.out.size) HM.out.o HM.out.os).mono ?_
  rintro e w2 ⟨A2, c2, l2, rfl, k2, o2, s2, hB2⟩
  have HO2 : Hid (OwnL w2 (w.heap.size + 3) A2 l2) := o2.lower HZ1.out
  have HZ2' : Hid (w.heap.size + 3 ≤ w2.heap.size) := Nat.le_trans HZ1.out hB2.size
  have HRa2' := Lib.hid (HRa1.out.below hB2 HRa1.out.lt)
  have HRr2' := Lib.hid (HRr1.out.below hB2 HRr1.out.lt)
  have HRo2' := Lib.hid (HRo1.out.below hB2 HRo1.out.lt)
  have HP1 := Lib.hid (HO1.out.below hB2 (Nat.le_refl _)); clear HO1
  have HB2' := Lib.hid (HB1.out.trans (hB2.mono HB1.out.size)); clear hB2 HRa1 HRr1 HRo1 HB1 HZ1 o2
  have K2 := Lib.hid k2; clear k2
  have S2 := Lib.hid s2; clear s2
  have av := HRa2'.out.cell 4
  have xv := HRo2'.out.cell 3
  have yv := HRo2'.out.frozen 3
  simp only [List.getElem?_toArray, List.getElem?_cons_succ, List.getElem?_cons_zero] at av xv
  go_wp2_with fail
  have HRa2 := Lib.hid (HRa2'.out.far (p := ⟨w.heap.size + 1 + 1, 3, none⟩) (by simp; omega) (.slice A2 l2.length c2))
  have HRr2 := Lib.hid (HRr2'.out.far (p := ⟨w.heap.size + 1 + 1, 3, none⟩) (by simp) (.slice A2 l2.length c2))
  have HRo2 : Hid (Row (w2.setCell ⟨w.heap.size + 1 + 1, 3, none⟩ (.slice A2 l2.length c2)) (w.heap.size + 1 + 1) 45 #[.int .i64 b.n, .int .i64 b.t, .slice A1 l1.length c1, .slice A2 l2.length c2, .slice none 0 0, .slice none 0 0]) := HRo2'.out.set 3 (.slice A2 l2.length c2)
  have HQ1 := Lib.hid (HP1.out.low (p := ⟨w.heap.size + 1 + 1, 3, none⟩) (by simp) (.slice A2 l2.length c2)); clear HP1
  have HQ2 := Lib.hid (HO2.out.low (p := ⟨w.heap.size + 1 + 1, 3, none⟩) (by simp) (.slice A2 l2.length c2)); clear HO2
  have HB2 : Hid (Below w.heap.size w (w2.setCell ⟨w.heap.size + 1 + 1, 3, none⟩ (.slice A2 l2.length c2))) := HB2'.out.setCell (by simp; omega) _
  have HZ2 : Hid (w.heap.size + 3 ≤ (w2.setCell ⟨w.heap.size + 1 + 1, 3, none⟩ (.slice A2 l2.length c2)).heap.size) := by have := HZ2'.out; show _ ≤ _; simpa using this
  clear xv yv av HRa2' HRr2' HRo2' HB2' HZ2'
  generalize (w2.setCell ⟨w.heap.size + 1 + 1, 3, none⟩ (.slice A2 l2.length c2)) = W2 at HRa2 HRr2 HRo2 HB2 HZ2 HQ1 HQ2 ⊢
  have HO1 := HQ1; clear HQ1
  have HO2 := HQ2; clear HQ2
  refine (toIntS_any _ _ _ _ ((HR.out.2.2.1.keep HB2.out).more HB2.out.size) HM.out.e).mono ?_
  rintro e w3 ⟨A3, c3, rfl, k3, o3, hB3⟩
  have HO3 : Hid (OwnI w3 (w.heap.size + 3) A3 b.E) := o3.lower HZ2.out
  have HZ3' : Hid (w.heap.size + 3 ≤ w3.heap.size) := Nat.le_trans HZ2.out hB3.size
  have HRa3' := Lib.hid (HRa2.out.below hB3 HRa2.out.lt)
  have HRr3' := Lib.hid (HRr2.out.below hB3 HRr2.out.lt)
  have HRo3' := Lib.hid (HRo2.out.below hB3 HRo2.out.lt)
  have HP1 := Lib.hid (HO1.out.below hB3 (Nat.le_refl _)); clear HO1
  have HP2 := Lib.hid (HO2.out.below hB3 (Nat.le_refl _)); clear HO2
  have HB3' := Lib.hid (HB2.out.trans (hB3.mono HB2.out.size)); clear hB3 HRa2 HRr2 HRo2 HB2 HZ2 o3
  have K3 := Lib.hid k3; clear k3
  have av := HRa3'.out.cell 5
  have xv := HRo3'.out.cell 4
  have yv := HRo3'.out.frozen 4
  simp only [List.getElem?_toArray, List.getElem?_cons_succ, List.getElem?_cons_zero] at av xv
  go_wp2_with fail
  have HRa3 := Lib.hid (HRa3'.out.far (p := ⟨w.heap.size + 1 + 1, 4, none⟩) (by simp; omega) (.slice A3 b.E.length c3))
  have HRr3 := Lib.hid (HRr3'.out.far (p := ⟨w.heap.size + 1 + 1, 4, none⟩) (by simp) (.slice A3 b.E.length c3))
  have HRo3 : Hid (Row (w3.setCell ⟨w.heap.size + 1 + 1, 4, none⟩ (.slice A3 b.E.length c3)) (w.heap.size + 1 + 1) 45 #[.int .i64 b.n, .int .i64 b.t, .slice A1 l1.length c1, .slice A2 l2.length c2, .slice A3 b.E.length c3, .slice none 0 0]) := HRo3'.out.set 4 (.slice A3 b.E.length c3)
  have HQ1 := Lib.hid (HP1.out.low (p := ⟨w.heap.size + 1 + 1, 4, none⟩) (by simp) (.slice A3 b.E.length c3)); clear HP1
  have HQ2 := Lib.hid (HP2.out.low (p := ⟨w.heap.size + 1 + 1, 4, none⟩) (by simp) (.slice A3 b.E.length c3)); clear HP2
  have HQ3 := Lib.hid (HO3.out.low (p := ⟨w.heap.size + 1 + 1, 4, none⟩) (by simp) (.slice A3 b.E.length c3)); clear HO3
  have HB3 : Hid (Below w.heap.size w (w3.setCell ⟨w.heap.size + 1 + 1, 4, none⟩ (.slice A3 b.E.length c3))) := HB3'.out.setCell (by simp; omega) _
  have HZ3 : Hid (w.heap.size + 3 ≤ (w3.setCell ⟨w.heap.size + 1 + 1, 4, none⟩ (.slice A3 b.E.length c3)).heap.size) := by have := HZ3'.out; show _ ≤ _; simpa using this
  clear xv yv av HRa3' HRr3' HRo3' HB3' HZ3'
  generalize (w3.setCell ⟨w.heap.size + 1 + 1, 4, none⟩ (.slice A3 b.E.length c3)) = W3 at HRa3 HRr3 HRo3 HB3 HZ3 HQ1 HQ2 HQ3 ⊢
  have HO1 := HQ1; clear HQ1
  have HO2 := HQ2; clear HQ2
  have HO3 := HQ3; clear HQ3
  refine (toIntSS_any _ _ _ _ ((HR.out.2.2.2.keep HB3.out).more HB3.out.size) HM.out.f HM.out.fs).mono ?_
  rintro e w4 ⟨A4, c4, l4, rfl, k4, o4, s4, hB4⟩
  have HO4 : Hid (OwnL w4 (w.heap.size + 3) A4 l4) := o4.lower HZ3.out
  have HZ4' : Hid (w.heap.size + 3 ≤ w4.heap.size) := Nat.le_trans HZ3.out hB4.size
  have HRa4' := Lib.hid (HRa3.out.below hB4 HRa3.out.lt)
  have HRr4' := Lib.hid (HRr3.out.below hB4 HRr3.out.lt)
  have HRo4' := Lib.hid (HRo3.out.below hB4 HRo3.out.lt)
  have HP1 := Lib.hid (HO1.out.below hB4 (Nat.le_refl _)); clear HO1
  have HP2 := Lib.hid (HO2.out.below hB4 (Nat.le_refl _)); clear HO2
  have HP3 := Lib.hid (HO3.out.below hB4 (Nat.le_refl _)); clear HO3
  have HB4' := Lib.hid (HB3.out.trans (hB4.mono HB3.out.size)); clear hB4 HRa3 HRr3 HRo3 HB3 HZ3 o4
  have K4 := Lib.hid k4; clear k4
  have S4 := Lib.hid s4; clear s4
  have x0 := HRo4'.out.cell 0
  have x1 := HRo4'.out.cell 1
  have x2 := HRo4'.out.cell 2
  have x3 := HRo4'.out.cell 3
  have x4 := HRo4'.out.cell 4
  have x5 := HRo4'.out.cell 5
  have y5 := HRo4'.out.frozen 5
  have r0 := HRr4'.out.cell 0
  have r1 := HRr4'.out.cell 1
  have r2 := HRr4'.out.cell 2
  have r3 := HRr4'.out.cell 3
  have r4 := HRr4'.out.cell 4
  have r5 := HRr4'.out.cell 5
  have q0 := HRr4'.out.frozen 0
  have q1 := HRr4'.out.frozen 1
  have q2 := HRr4'.out.frozen 2
  have q3 := HRr4'.out.frozen 3
  have q4 := HRr4'.out.frozen 4
  have q5 := HRr4'.out.frozen 5
  simp only [List.getElem?_toArray, List.getElem?_cons_succ, List.getElem?_cons_zero] at x0 x1 x2 x3 x4 x5 r0 r1 r2 r3 r4 r5
  go_wp2_with fail
  refine bodyPost_ret (v := .agg #[.int .i64 b.n, .int .i64 b.t, .slice A1 l1.length c1, .slice A2 l2.length c2, .slice A3 b.E.length c3, .slice A4 l4.length c4]) (by simp [results, Tryd.results32, go_sem, r0, r1, r2, r3, r4, r5]) rfl ⟨⟨b.n, b.t, A1, l1, c1, A2, l2, c2, A3, b.E, c3, A4, l4, c4⟩, rfl, ?_, ?_, ⟨K1.out, K2.out, K3.out, K4.out⟩, ?_⟩
  · show Bs.mk _ _ _ _ _ _ = Bs.mk _ _ _ _ _ _
    rw [S1.out, S2.out, S4.out]
  · refine ⟨?_, ?_, ?_, ?_⟩
    · exact (((((((HP1.out.low (by simp) _).low (by simp) _).low (by simp) _).low (by simp) _).low (by simp) _).low (by simp) _).low (by simp) _).lower (by omega)
    · exact (((((((HP2.out.low (by simp) _).low (by simp) _).low (by simp) _).low (by simp) _).low (by simp) _).low (by simp) _).low (by simp) _).lower (by omega)
    · exact (((((((HP3.out.low (by simp) _).low (by simp) _).low (by simp) _).low (by simp) _).low (by simp) _).low (by simp) _).low (by simp) _).lower (by omega)
    · exact (((((((HO4.out.low (by simp) _).low (by simp) _).low (by simp) _).low (by simp) _).low (by simp) _).low (by simp) _).low (by simp) _).lower (by omega)
  · exact ((((((HB4'.out.setCell (by simp; omega) _).setCell (by simp) _).setCell (by simp) _).setCell (by simp) _).setCell (by simp) _).setCell (by simp) _).setCell (by simp) _

end Go.Proofs.YtjfhkcoiomokoaaDoor
