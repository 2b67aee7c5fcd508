/- What WordText answers, the program's and the reference's. -/
import Derived.Test.YtacehfjhpnplbaaDoorZ02
import Derived.Lib.QuietBelow
import Derived.BigQuiet
import Derived.LoopN
import Derived.Test.YtacehfjhpnplbaaDoorZ01
import Derived.Maps.AppendAt
import Derived.Deep.LoopGhost

namespace Go.Proofs.YtacehfjhpnplbaaDoor
open Go.RowKit

theorem Tryd.infoByte : (Tryd.prog.info? 5).map (fun i => (i.zero, i.size, i.bytes)) = some (some (.int .u8 0), 1, 1) := by kernel_rfl
def zB (n : Nat) : Array Value := madeCells #[.int .u8 0] n
theorem zB_size (n : Nat) : (zB n).size = n := size_madeCells _ _
theorem make_bytes (n : Nat) (hn : n ≤ 1048576) (w : World) :
    (Instr.makeSlice 22 (.int .i64 (n : Int)) (.int .i64 (n : Int))).run Tryd.prog w = .ok (.slice (some ⟨w.heap.size, 0, none⟩) n n) (w.alloc (.cells (zB n) 5)) := by
  obtain ⟨i, hi, hz, hs, hb⟩ := info_of Tryd.infoByte
  have h := run_make (P := Tryd.prog) w 22 5 i _ Tryd.underlying22 hi hz .i64 .i64 n n (by omega) (by omega) (by rw [hb]; omega) (by omega)
  rw [hs] at h
  simpa [zB, Value.cells] using h

/-- string(b). -/
theorem bytes_string (w : World) (b n cap : Nat) (l : List UInt8) (hn : n = l.length) (hc : ∀ (j : Nat) (v : UInt8), l[j]? = some v → w.cell? ⟨b, j, none⟩ = some (.int .u8 (v.toNat : Int))) :
    (convert 22 9 (.slice (some ⟨b, 0, none⟩) n cap)).run Tryd.prog w = .ok (.string (str l)) w := by
  subst hn
  refine run_convert_bytes_back w 22 9 5 _ cap l Tryd.underlying22 Tryd.underlying5 Tryd.underlying9 (fun j hj => ?_)
  rw [Go.WideShapes.add_plain, Nat.zero_add]
  exact hc j _ (List.getElem?_eq_getElem hj)

/-- A token's letter; a word's letters. -/
def tokC (t : Int) : UInt8 := letC (-1 - t)
def wordL (xs : List Int) : List UInt8 := xs.map tokC
theorem wordL_len (xs : List Int) : (wordL xs).length = xs.length := by simp [wordL]
theorem four {x : Int} (h1 : 0 ≤ x) (h2 : x < 4) : x = 0 ∨ x = 1 ∨ x = 2 ∨ x = 3 := by omega
theorem TokT.at_ {w : World} (h : TokT w) {x : Int} (h1 : 0 ≤ x) (h2 : x < 4) : w.cell? ⟨0, x.toNat, none⟩ = some (.int .u8 ((tokC x).toNat : Int)) := by
  rcases four h1 h2 with rfl | rfl | rfl | rfl
  · exact h 0 97 rfl
  · exact h 1 98 rfl
  · exact h 2 99 rfl
  · exact h 3 100 rfl

def AllT (xs : List Int) : Prop := ∀ (k : Nat) (x : Int), xs[k]? = some x → 0 ≤ x ∧ x < 4
theorem AllT.at_ {xs : List Int} (h : AllT xs) {k : Nat} (hk : k < xs.length) : 0 ≤ xs[k] ∧ xs[k] < 4 := h k _ (List.getElem?_eq_getElem hk)

theorem goodW_is {n t : Int} {ss : List (Int × List Int)} {xs : List Int} (h : goodW n t ss xs = true) : goodG n t ss = true ∧ xs.length ≤ 10 ∧ AllT xs := by
  unfold goodW at h
  rw [Bool.and_eq_true] at h
  obtain ⟨hg, hw⟩ := h
  unfold wordB at hw
  rw [Bool.and_eq_true] at hw
  refine ⟨hg, of_decide_eq_true hw.1, fun k x hx => ?_⟩
  have h1 := allB_iff.1 hw.2 k x hx
  have h2 := (goodG_is hg).2.1
  exact ⟨inB_lo h1, by have := inB_hi h1; omega⟩

def wtS (n t : Int) (ss : List (Int × List Int)) (xs : List Int) : ByteArray := if goodW n t ss xs then str (wordL xs) else ⟨#[]⟩
theorem wtS_t {n t : Int} {ss : List (Int × List Int)} {xs : List Int} (h : goodW n t ss xs = true) : wtS n t ss xs = str (wordL xs) := by unfold wtS; rw [h]; rfl
theorem wtS_f {n t : Int} {ss : List (Int × List Int)} {xs : List Int} (h : goodW n t ss xs = false) : wtS n t ss xs = ⟨#[]⟩ := by unfold wtS; rw [h]; rfl

theorem str_snoc (l : List UInt8) (c : UInt8) : str l ++ ⟨#[c]⟩ = str (l ++ [c]) := by
  show (⟨l.toArray⟩ : ByteArray) ++ ⟨#[c]⟩ = ⟨(l ++ [c]).toArray⟩
  rw [ByteArray.mk_append_mk]
theorem str_size (l : List UInt8) : (str l).size = l.length := by simp [str, ByteArray.size]
theorem wordL_step {xs : List Int} {k : Nat} (hk : k < xs.length) : wordL (xs.take (k + 1)) = wordL (xs.take k) ++ [tokC xs[k]] := by
  unfold wordL
  rw [List.take_succ_eq_append_getElem hk, List.map_append]
  rfl

set_option maxHeartbeats 400000 in
theorem l2Word_any (A : Option Addr) (xs : List Int) (c : Nat) (w : World) (hx : Ints w w.heap.size A xs) (h1 : xs.length ≤ 10) (h2 : AllT xs) :
    Calls Tryd.prog 72 #[.slice A xs.length c] w fun e w' => e = .returned (.string (str (wordL xs))) ∧ w = w' := by
  have HX := Lib.hid hx; clear hx
  have H2 := Lib.hid h2; clear h2
  go_enter Tryd.func72, Tryd.ntmps72
  go_wp2
  go_loopw [3, 8] (fun v i wr => ∃ (k : Nat) (s : ByteArray), k ≤ xs.length ∧ i = .int .i64 k ∧ v = .string s ∧ s.size = k ∧ wr = w ∧ Hid (s = str (wordL (xs.take k)))) (fun _ i _ => xs.length - (intOf i).toNat)
  case atStart => exact ⟨0, _, by omega, rfl, rfl, rfl, rfl, rfl⟩
  case round =>
    obtain ⟨k, s, hk, rfl, rfl, hs, rfl, HS⟩ := hrel
    by_cases hlt : k < xs.length
    · obtain ⟨b, o, rfl, hb, c1⟩ := HX.out.at_ hlt
      obtain ⟨t1, t2⟩ := H2.out.at_ hlt
      go_wp2_with fail
      refine (l2Letter_any _ _ (by omega) (by omega)).mono ?_
      rintro e w1 ⟨rfl, rfl⟩
      go_wp2
      go_roundw
      case rel => exact ⟨k + 1, _, by omega, by go_num, rfl, by rw [ByteArray.size_append, hs]; rfl, trivial, by show _ = _; rw [HS.out, wordL_step hlt, ← str_snoc]; rfl⟩
      case measure => simp [intOf]; omega
    · obtain rfl : k = xs.length := by omega
      have hE : str (wordL xs) = s := by rw [HS.out, List.take_length]
      have HE := Lib.hid hE; clear hE
      go_wp2
      go_ret
      exact ⟨by rw [HE.out]; rfl, rfl⟩

def GaveSB (w : World) (s : ByteArray) (b : Bool) (e : Ending) (w' : World) : Prop := e = .returned (.tuple #[.string s, .bool b]) ∧ Below w.heap.size w w'

set_option maxHeartbeats 400000 in
theorem specWT_any (n t : Int) (A A' : Option Addr) (c c' : Nat) (rs : List Ru) (xs : List Int) (w : World) (hx : Rls w w.heap.size A rs) (hy : Ints w w.heap.size A' xs) (hc : rs.length ≤ c) (h1 : rs.length ≤ 1048576) (h2 : ∀ u ∈ rs, u.r.length ≤ 1048576) (h3 : xs.length ≤ 1048576) :
    Calls Tryd.prog 22 #[.agg #[.int .i64 n, .int .i64 t, .slice A rs.length c], .slice A' xs.length c'] w (GaveSB w (wtS n t (rs.map Ru.abs) xs) (goodW n t (rs.map Ru.abs) xs)) := by
  have HX := Lib.hid hx; clear hx
  have HY := Lib.hid hy; clear hy
  have H2 := Lib.hid h2; clear h2
  have HB0 : Hid (Below w.heap.size w (w.alloc (.cells #[.int .i64 n, .int .i64 t, .slice A rs.length c] 26))) := by show Below _ _ _; go_grown
  cases hg : goodW n t (rs.map Ru.abs) xs
  · have HE := Lib.hid (wtS_f hg)
    have HG := Lib.hid hg; clear hg
    go_enter Tryd.func22, Tryd.ntmps22
    go_wp2_with fail
    refine (specWord_any _ _ _ _ _ _ _ _ _ ((HX.out.keep HB0.out).more HB0.out.size) ((HY.out.keep HB0.out).more HB0.out.size) hc h1 H2.out h3).mono ?_
    rintro e w1 ⟨rfl, hB1⟩
    rw [HG.out]
    go_wp2
    go_ret2
    exact ⟨by rw [HE.out]; rfl, HB0.out.trans (hB1.mono HB0.out.size)⟩
  have hi := goodW_is hg
  have hl := hi.2.1
  have HT := Lib.hid hi.2.2
  clear hi
  have HE := Lib.hid (wtS_t hg)
  have HG := Lib.hid hg; clear hg
  go_enter Tryd.func22, Tryd.ntmps22
  go_wp2_with fail
  refine (specWord_any _ _ _ _ _ _ _ _ _ ((HX.out.keep HB0.out).more HB0.out.size) ((HY.out.keep HB0.out).more HB0.out.size) hc h1 H2.out h3).mono ?_
  rintro e w1 ⟨rfl, hB1⟩
  rw [HG.out]
  have HB1 := Lib.hid (HB0.out.trans (hB1.mono HB0.out.size)); clear hB1
  go_wp2_with fail
  refine (l2Word_any _ _ _ _ ((HY.out.keep HB1.out).more HB1.out.size) hl HT.out).mono ?_
  rintro e w2 ⟨rfl, rfl⟩
  go_wp2
  go_ret2
  exact ⟨by rw [HE.out]; rfl, HB1.out⟩

theorem laid_step {xs : List Int} {cs : Array Value} {k : Nat} (hlt : k < xs.length) (hs : cs.size = xs.length) (h : ∀ (j : Nat) (x : Int), j < k → xs[j]? = some x → cs[j]? = some (.int .u8 ((tokC x).toNat : Int))) :
    ∀ (j : Nat) (x : Int), j < k + 1 → xs[j]? = some x → (cs.setIfInBounds k (.int .u8 ((tokC xs[k]).toNat : Int)))[j]? = some (.int .u8 ((tokC x).toNat : Int)) := by
  intro j x hj hx
  rw [Array.getElem?_setIfInBounds]
  by_cases e : k = j
  · subst e
    rw [if_pos rfl, if_pos (by omega)]
    rw [List.getElem?_eq_getElem hlt] at hx
    injection hx with hx
    rw [hx]
  · rw [if_neg e]
    exact h j x (by omega) hx

set_option maxHeartbeats 400000 in
theorem implWT_any (n t : Int) (A A' : Option Addr) (c c' : Nat) (rs : List Ru) (xs : List Int) (w : World) (hx : Rls w w.heap.size A rs) (hy : Ints w w.heap.size A' xs) (hL : Lims w) (hT : TokT w) (hc : rs.length ≤ c) (h1 : rs.length ≤ 1048576) (h2 : ∀ u ∈ rs, u.r.length ≤ 1048576) (hf : FitR rs) (h3 : xs.length ≤ 1048576) :
    Calls Tryd.prog 21 #[.agg #[.int .i64 n, .int .i64 t, .slice A rs.length c], .slice A' xs.length c'] w (GaveSB w (wtS n t (rs.map Ru.abs) xs) (goodW n t (rs.map Ru.abs) xs)) := by
  have HX := Lib.hid hx; clear hx
  have HY := Lib.hid hy; clear hy
  have HL := Lib.hid hL; clear hL
  have HTT := Lib.hid hT; clear hT
  have HF := Lib.hid hf; clear hf
  have H2 := Lib.hid h2; clear h2
  have HB0 : Hid (Below w.heap.size w (w.alloc (.cells #[.int .i64 n, .int .i64 t, .slice A rs.length c] 26))) := by show Below _ _ _; go_grown
  cases hg : goodW n t (rs.map Ru.abs) xs
  · have HE := Lib.hid (wtS_f hg)
    have HG := Lib.hid hg; clear hg
    go_enter Tryd.func21, Tryd.ntmps21
    go_wp2_with fail
    refine (implWord_any _ _ _ _ _ _ _ _ _ ((HX.out.keep HB0.out).more HB0.out.size) ((HY.out.keep HB0.out).more HB0.out.size) (HL.out.keep HB0.out (Nat.le_refl _)) hc h1 H2.out HF.out h3).mono ?_
    rintro e w1 ⟨rfl, hB1⟩
    rw [HG.out]
    go_wp2
    go_ret2
    exact ⟨by rw [HE.out]; rfl, HB0.out.trans (hB1.mono HB0.out.size)⟩
  have hi := goodW_is hg
  have HT := Lib.hid hi.2.2
  clear hi
  have HE := Lib.hid (wtS_t hg)
  have HG := Lib.hid hg; clear hg
  go_enter Tryd.func21, Tryd.ntmps21
  go_wp2_with fail
  refine (implWord_any _ _ _ _ _ _ _ _ _ ((HX.out.keep HB0.out).more HB0.out.size) ((HY.out.keep HB0.out).more HB0.out.size) (HL.out.keep HB0.out (Nat.le_refl _)) hc h1 H2.out HF.out h3).mono ?_
  rintro e w1 ⟨rfl, hB1⟩
  rw [HG.out]
  have HB1 := Lib.hid (HB0.out.trans (hB1.mono HB0.out.size)); clear hB1
  have hmk := make_bytes xs.length h3
  go_wp2
  go_loopw [18] (fun i wr => ∃ (k : Nat) (cs : Array Value), k ≤ xs.length ∧ i = .int .i64 k ∧ Below w1.heap.size w1 wr ∧ Hid (Row wr w1.heap.size 5 cs ∧ cs.size = xs.length ∧ ∀ (j : Nat) (x : Int), j < k → xs[j]? = some x → cs[j]? = some (.int .u8 ((tokC x).toNat : Int)))) (fun i _ => xs.length - (intOf i).toNat)
  case atStart => exact ⟨0, zB xs.length, by omega, rfl, (Below.refl _ _).alloc (Nat.le_refl _) _, Row.new _ _ _, zB_size _, fun j x h => absurd h (by omega)⟩
  case round =>
    obtain ⟨k, cs, hk, rfl, hB, H⟩ := hrel
    clear hmk
    have HBw := Lib.hid (HB1.out.trans (hB.mono HB1.out.size))
    by_cases hlt : k < xs.length
    · obtain ⟨b, o, rfl, hb, c1⟩ := (HY.out.keep HBw.out).at_ hlt
      obtain ⟨t1, t2⟩ := HT.out.at_ hlt
      have c2 : wr.cell? ⟨w1.heap.size, k, none⟩ = some (cs[k]'(by have := H.out.2.1; omega)) := by
        rw [H.out.1.cell, Array.getElem?_eq_getElem]
      have c3 := H.out.1.frozen k
      have c4 := (HTT.out.keep HBw.out (Nat.le_refl _)).at_ t1 t2
      go_wp2
      go_roundw
      case rel => exact ⟨k + 1, cs.setIfInBounds k (.int .u8 ((tokC xs[k]).toNat : Int)), by omega, by go_num, hB.setCell (Nat.le_refl _) _, H.out.1.set k _, by rw [Array.size_setIfInBounds]; exact H.out.2.1, laid_step hlt H.out.2.1 H.out.2.2⟩
      case measure => simp [intOf]; omega
    · have kc := bytes_string wr w1.heap.size xs.length xs.length (wordL xs) (wordL_len xs).symm (fun j v hv => by
        simp only [wordL, List.getElem?_map, Option.map_eq_some_iff] at hv
        obtain ⟨x, hx, rfl⟩ := hv
        rw [H.out.1.cell]
        exact H.out.2.2 j x (by have := (List.getElem?_eq_some_iff.1 hx).1; omega) hx)
      go_wp2
      go_ret2
      exact ⟨by rw [HE.out]; rfl, HBw.out⟩

end Go.Proofs.YtacehfjhpnplbaaDoor

/- A grammar's text: plain mathematics, digits, and what the reference's GrammarText answers. -/

namespace Go.Proofs.YtacehfjhpnplbaaDoor
open Go.RowKit
open Go.Sort (grow)

/-- A digit; a rule's line; a grammar's text. -/
def digC (n : Int) : UInt8 := UInt8.ofNat (48 + n.toNat)
def lineL (u : Int × List Int) : List UInt8 := [letC u.1, 61] ++ u.2.map letC ++ [10]
def textL (n t : Int) (ss : List (Int × List Int)) : List UInt8 := [digC n, 32, digC t, 10] ++ ss.flatMap lineL
def textR (n t : Int) (rs : List Ru) (k : Nat) : List UInt8 := textL n t ((rs.take k).map Ru.abs)
theorem textR_zero (n t : Int) (rs : List Ru) : textR n t rs 0 = [digC n, 32, digC t, 10] := by simp [textR, textL]
theorem textR_all (n t : Int) (rs : List Ru) : textR n t rs rs.length = textL n t (rs.map Ru.abs) := by simp [textR]
theorem textR_step {n t : Int} {rs : List Ru} {k : Nat} (hk : k < rs.length) : textR n t rs (k + 1) = textR n t rs k ++ lineL (rs[k].l, rs[k].r) := by
  unfold textR textL
  rw [List.take_succ_eq_append_getElem hk, List.map_append, List.flatMap_append, ← List.append_assoc]
  simp [Ru.abs]

/-- What a good grammar's rule is made of. -/
structure GoodAt (u : Ru) : Prop where
  l0 : 0 ≤ u.l
  l1 : u.l < 6
  len : u.r.length ≤ 4
  sym : ∀ (j : Nat) (x : Int), u.r[j]? = some x → -4 ≤ x ∧ x < 6

theorem good_at {n t : Int} {rs : List Ru} (h : goodG n t (rs.map Ru.abs) = true) {k : Nat} (hk : k < rs.length) : GoodAt rs[k] := by
  obtain ⟨hn, ht, _, hall⟩ := goodG_is h
  have hu := (hall k rs[k].abs (by simpa using hk) (by simp [hk])).1
  unfold goodU at hu
  simp only [Bool.and_eq_true, decide_eq_true_eq] at hu
  obtain ⟨h1, h2, h3⟩ := hu
  have h1 := nonB_is h1
  refine ⟨h1.1, by have := h1.2; simp only [Ru.abs] at this; omega, h2, fun j x hx => ?_⟩
  have h4 := of_decide_eq_true (symsB_iff.1 h3 j x hx)
  omega

def gtS (n t : Int) (ss : List (Int × List Int)) : ByteArray := if goodG n t ss then str (textL n t ss) else ⟨#[]⟩
theorem gtS_t {n t : Int} {ss : List (Int × List Int)} (h : goodG n t ss = true) : gtS n t ss = str (textL n t ss) := by unfold gtS; rw [h]; rfl
theorem gtS_f {n t : Int} {ss : List (Int × List Int)} (h : goodG n t ss = false) : gtS n t ss = ⟨#[]⟩ := by unfold gtS; rw [h]; rfl

theorem six {x : Int} (h1 : 1 ≤ x) (h2 : x ≤ 6) : x = 1 ∨ x = 2 ∨ x = 3 ∨ x = 4 ∨ x = 5 ∨ x = 6 := by omega

set_option maxHeartbeats 1000000 in
theorem digitOf_any (n : Int) (w : World) (h1 : 1 ≤ n) (h2 : n ≤ 6) :
    Calls Tryd.prog 56 #[.int .i64 n] w fun e w' => e = .returned (.int .u8 ((digC n).toNat : Int)) ∧ w = w' := by
  rcases six h1 h2 with rfl | rfl | rfl | rfl | rfl | rfl
  all_goals
    clear h1 h2
    go_enter Tryd.func56, Tryd.ntmps56
    go_wp2
    go_ret
    exact ⟨rfl, rfl⟩

theorem one_string' (w : World) (k : Int) (c : UInt8) (h : k = (c.toNat : Int)) : (convert 22 9 (.slice (some ⟨w.heap.size, 0, none⟩) 1 1)).run Tryd.prog (w.alloc (.cells #[.int .u8 k] 5)) = .ok (.string ⟨#[c]⟩) (w.alloc (.cells #[.int .u8 k] 5)) := by
  subst h
  exact one_string w c

set_option maxHeartbeats 1000000 in
theorem l1Num_any (n : Int) (w : World) (h1 : 1 ≤ n) (h2 : n ≤ 6) :
    Calls Tryd.prog 104 #[.int .i64 n] w fun e w' => e = .returned (.string ⟨#[digC n]⟩) ∧ Below w.heap.size w w' := by
  have k1 := one_string' w 49 (digC 1) rfl
  have k2 := one_string' w 50 (digC 2) rfl
  have k3 := one_string' w 51 (digC 3) rfl
  have k4 := one_string' w 52 (digC 4) rfl
  have k5 := one_string' w 53 (digC 5) rfl
  have k6 := one_string' w 54 (digC 6) rfl
  rcases six h1 h2 with rfl | rfl | rfl | rfl | rfl | rfl
  all_goals
    clear h1 h2
    go_enter Tryd.func104, Tryd.ntmps104
    go_wp2
    go_ret
    exact ⟨rfl, by go_grown⟩

end Go.Proofs.YtacehfjhpnplbaaDoor

/- A letter's symbol: the program's symbolOf, the reference's l2Symbol. -/

namespace Go.Proofs.YtacehfjhpnplbaaDoor
open Go.RowKit

/-- The symbol of a letter (a number; -1 is no letter). -/
def symN (c : Int) : Option Int :=
  if c = 83 then some 0 else if c = 65 then some 1 else if c = 66 then some 2 else if c = 67 then some 3 else if c = 68 then some 4 else if c = 69 then some 5
  else if c = 97 then some (-1) else if c = 98 then some (-2) else if c = 99 then some (-3) else if c = 100 then some (-4) else none

def nonArr : Value := .agg #[.int .u8 83, .int .u8 65, .int .u8 66, .int .u8 67, .int .u8 68, .int .u8 69]
def tokArr : Value := .agg #[.int .u8 97, .int .u8 98, .int .u8 99, .int .u8 100]

def GaveSym (w : World) (o : Option Int) (e : Ending) (w' : World) : Prop := e = .returned (.tuple #[.int .i64 (o.getD 0), .bool o.isSome]) ∧ w = w'

set_option maxRecDepth 20000 in
set_option maxHeartbeats 4000000 in
theorem symbolOf_any (c : Int) (w : World) (hN : NonT w) (hT : TokT w) : Calls Tryd.prog 150 #[.int .i64 c] w (GaveSym w (symN c)) := by
  have t0 := hT 0 97 rfl
  have t1 := hT 1 98 rfl
  have t2 := hT 2 99 rfl
  have t3 := hT 3 100 rfl
  have n0 := hN 0 83 rfl
  have n1 := hN 1 65 rfl
  have n2 := hN 2 66 rfl
  have n3 := hN 3 67 rfl
  have n4 := hN 4 68 rfl
  have n5 := hN 5 69 rfl
  clear hN hT
  have i0 : ∀ w : World, (Instr.index 112 (.agg #[.int .u8 83, .int .u8 65, .int .u8 66, .int .u8 67, .int .u8 68, .int .u8 69]) (.int .i64 0)).run Tryd.prog w = .ok (.int .u8 83) w := fun _ => by kernel_rfl
  have i1 : ∀ w : World, (Instr.index 112 (.agg #[.int .u8 83, .int .u8 65, .int .u8 66, .int .u8 67, .int .u8 68, .int .u8 69]) (.int .i64 1)).run Tryd.prog w = .ok (.int .u8 65) w := fun _ => by kernel_rfl
  have i2 : ∀ w : World, (Instr.index 112 (.agg #[.int .u8 83, .int .u8 65, .int .u8 66, .int .u8 67, .int .u8 68, .int .u8 69]) (.int .i64 2)).run Tryd.prog w = .ok (.int .u8 66) w := fun _ => by kernel_rfl
  have i3 : ∀ w : World, (Instr.index 112 (.agg #[.int .u8 83, .int .u8 65, .int .u8 66, .int .u8 67, .int .u8 68, .int .u8 69]) (.int .i64 3)).run Tryd.prog w = .ok (.int .u8 67) w := fun _ => by kernel_rfl
  have i4 : ∀ w : World, (Instr.index 112 (.agg #[.int .u8 83, .int .u8 65, .int .u8 66, .int .u8 67, .int .u8 68, .int .u8 69]) (.int .i64 4)).run Tryd.prog w = .ok (.int .u8 68) w := fun _ => by kernel_rfl
  have i5 : ∀ w : World, (Instr.index 112 (.agg #[.int .u8 83, .int .u8 65, .int .u8 66, .int .u8 67, .int .u8 68, .int .u8 69]) (.int .i64 5)).run Tryd.prog w = .ok (.int .u8 69) w := fun _ => by kernel_rfl
  have j0 : ∀ w : World, (Instr.index 88 (.agg #[.int .u8 97, .int .u8 98, .int .u8 99, .int .u8 100]) (.int .i64 0)).run Tryd.prog w = .ok (.int .u8 97) w := fun _ => by kernel_rfl
  have j1 : ∀ w : World, (Instr.index 88 (.agg #[.int .u8 97, .int .u8 98, .int .u8 99, .int .u8 100]) (.int .i64 1)).run Tryd.prog w = .ok (.int .u8 98) w := fun _ => by kernel_rfl
  have j2 : ∀ w : World, (Instr.index 88 (.agg #[.int .u8 97, .int .u8 98, .int .u8 99, .int .u8 100]) (.int .i64 2)).run Tryd.prog w = .ok (.int .u8 99) w := fun _ => by kernel_rfl
  have j3 : ∀ w : World, (Instr.index 88 (.agg #[.int .u8 97, .int .u8 98, .int .u8 99, .int .u8 100]) (.int .i64 3)).run Tryd.prog w = .ok (.int .u8 100) w := fun _ => by kernel_rfl
  by_cases e0 : c = 83
  · subst e0
    go_enter Tryd.func150, Tryd.ntmps150
    go_wp2
    refine wp_loop_rounds 7 ?_
    repeat (rw [rounds_succ]; go_wp2)
    go_ret2
    exact ⟨rfl, rfl⟩
  by_cases e1 : c = 65
  · subst e1
    go_enter Tryd.func150, Tryd.ntmps150
    go_wp2
    refine wp_loop_rounds 7 ?_
    repeat (rw [rounds_succ]; go_wp2)
    go_ret2
    exact ⟨rfl, rfl⟩
  by_cases e2 : c = 66
  · subst e2
    go_enter Tryd.func150, Tryd.ntmps150
    go_wp2
    refine wp_loop_rounds 7 ?_
    repeat (rw [rounds_succ]; go_wp2)
    go_ret2
    exact ⟨rfl, rfl⟩
  by_cases e3 : c = 67
  · subst e3
    go_enter Tryd.func150, Tryd.ntmps150
    go_wp2
    refine wp_loop_rounds 7 ?_
    repeat (rw [rounds_succ]; go_wp2)
    go_ret2
    exact ⟨rfl, rfl⟩
  by_cases e4 : c = 68
  · subst e4
    go_enter Tryd.func150, Tryd.ntmps150
    go_wp2
    refine wp_loop_rounds 7 ?_
    repeat (rw [rounds_succ]; go_wp2)
    go_ret2
    exact ⟨rfl, rfl⟩
  by_cases e5 : c = 69
  · subst e5
    go_enter Tryd.func150, Tryd.ntmps150
    go_wp2
    refine wp_loop_rounds 7 ?_
    repeat (rw [rounds_succ]; go_wp2)
    go_ret2
    exact ⟨rfl, rfl⟩
  by_cases e6 : c = 97
  · subst e6
    go_enter Tryd.func150, Tryd.ntmps150
    go_wp2
    refine wp_loop_rounds 7 ?_
    repeat (rw [rounds_succ]; go_wp2)
    refine wp_loop_rounds 5 ?_
    repeat (rw [rounds_succ]; go_wp2)
    go_ret2
    exact ⟨rfl, rfl⟩
  by_cases e7 : c = 98
  · subst e7
    go_enter Tryd.func150, Tryd.ntmps150
    go_wp2
    refine wp_loop_rounds 7 ?_
    repeat (rw [rounds_succ]; go_wp2)
    refine wp_loop_rounds 5 ?_
    repeat (rw [rounds_succ]; go_wp2)
    go_ret2
    exact ⟨rfl, rfl⟩
  by_cases e8 : c = 99
  · subst e8
    go_enter Tryd.func150, Tryd.ntmps150
    go_wp2
    refine wp_loop_rounds 7 ?_
    repeat (rw [rounds_succ]; go_wp2)
    refine wp_loop_rounds 5 ?_
    repeat (rw [rounds_succ]; go_wp2)
    go_ret2
    exact ⟨rfl, rfl⟩
  by_cases e9 : c = 100
  · subst e9
    go_enter Tryd.func150, Tryd.ntmps150
    go_wp2
    refine wp_loop_rounds 7 ?_
    repeat (rw [rounds_succ]; go_wp2)
    refine wp_loop_rounds 5 ?_
    repeat (rw [rounds_succ]; go_wp2)
    go_ret2
    exact ⟨rfl, rfl⟩
  have HE : Hid (symN c = none) := by show symN c = none; unfold symN; rw [if_neg e0, if_neg e1, if_neg e2, if_neg e3, if_neg e4, if_neg e5, if_neg e6, if_neg e7, if_neg e8, if_neg e9]
  have b0 : ((83 : Int) == c) = false := by simp; omega
  have b1 : ((65 : Int) == c) = false := by simp; omega
  have b2 : ((66 : Int) == c) = false := by simp; omega
  have b3 : ((67 : Int) == c) = false := by simp; omega
  have b4 : ((68 : Int) == c) = false := by simp; omega
  have b5 : ((69 : Int) == c) = false := by simp; omega
  have b6 : ((97 : Int) == c) = false := by simp; omega
  have b7 : ((98 : Int) == c) = false := by simp; omega
  have b8 : ((99 : Int) == c) = false := by simp; omega
  have b9 : ((100 : Int) == c) = false := by simp; omega
  clear e0 e1 e2 e3 e4 e5 e6 e7 e8 e9
  go_enter Tryd.func150, Tryd.ntmps150
  go_wp2
  refine wp_loop_rounds 7 ?_
  repeat (rw [rounds_succ]; go_wp2)
  refine wp_loop_rounds 5 ?_
  repeat (rw [rounds_succ]; go_wp2)
  go_ret2
  exact ⟨by rw [HE.out]; rfl, rfl⟩

/-- The letters' numbers. -/
def nonN (j : Nat) : Int := [83, 65, 66, 67, 68, 69].getD j 0
def tokN (j : Nat) : Int := [97, 98, 99, 100].getD j 0
theorem six' {j : Nat} (h : j < 6) : j = 0 ∨ j = 1 ∨ j = 2 ∨ j = 3 ∨ j = 4 ∨ j = 5 := by omega
theorem four' {j : Nat} (h : j < 4) : j = 0 ∨ j = 1 ∨ j = 2 ∨ j = 3 := by omega
theorem symN_non {j : Nat} (h : j < 6) : symN (nonN j) = some (j : Int) := by
  rcases six' h with rfl | rfl | rfl | rfl | rfl | rfl <;> rfl
theorem symN_tok {j : Nat} (h : j < 4) : symN (tokN j) = some (-1 - (j : Int)) := by
  rcases four' h with rfl | rfl | rfl | rfl <;> rfl
theorem symN_some {c x : Int} (h : symN c = some x) : (∃ j : Nat, j < 6 ∧ x = (j : Int) ∧ c = nonN j) ∨ (∃ j : Nat, j < 4 ∧ x = -1 - (j : Int) ∧ c = tokN j) := by
  unfold symN at h
  by_cases e0 : c = 83
  · subst e0; injection h with h; subst h; exact .inl ⟨0, by omega, rfl, rfl⟩
  rw [if_neg e0] at h
  by_cases e1 : c = 65
  · subst e1; injection h with h; subst h; exact .inl ⟨1, by omega, rfl, rfl⟩
  rw [if_neg e1] at h
  by_cases e2 : c = 66
  · subst e2; injection h with h; subst h; exact .inl ⟨2, by omega, rfl, rfl⟩
  rw [if_neg e2] at h
  by_cases e3 : c = 67
  · subst e3; injection h with h; subst h; exact .inl ⟨3, by omega, rfl, rfl⟩
  rw [if_neg e3] at h
  by_cases e4 : c = 68
  · subst e4; injection h with h; subst h; exact .inl ⟨4, by omega, rfl, rfl⟩
  rw [if_neg e4] at h
  by_cases e5 : c = 69
  · subst e5; injection h with h; subst h; exact .inl ⟨5, by omega, rfl, rfl⟩
  rw [if_neg e5] at h
  by_cases f0 : c = 97
  · subst f0; injection h with h; subst h; exact .inr ⟨0, by omega, rfl, rfl⟩
  rw [if_neg f0] at h
  by_cases f1 : c = 98
  · subst f1; injection h with h; subst h; exact .inr ⟨1, by omega, rfl, rfl⟩
  rw [if_neg f1] at h
  by_cases f2 : c = 99
  · subst f2; injection h with h; subst h; exact .inr ⟨2, by omega, rfl, rfl⟩
  rw [if_neg f2] at h
  by_cases f3 : c = 100
  · subst f3; injection h with h; subst h; exact .inr ⟨3, by omega, rfl, rfl⟩
  rw [if_neg f3] at h
  cases h

/-- The symbol of a letter in a grammar with n nonterminals and t tokens. -/
def symG (n t c : Int) : Option Int := (symN c).filter fun x => symB n t x
theorem symG_non {n t : Int} {j : Nat} (h : j < 6) (hn : (j : Int) < n) : symG n t (nonN j) = some (j : Int) := by
  unfold symG
  rw [symN_non h, Option.filter_some, if_pos]
  exact decide_eq_true (.inl ⟨by omega, hn⟩)
theorem symG_tok {n t : Int} {j : Nat} (h : j < 4) (hn : (j : Int) < t) : symG n t (tokN j) = some (-1 - (j : Int)) := by
  unfold symG
  rw [symN_tok h, Option.filter_some, if_pos]
  exact decide_eq_true (.inr ⟨by omega, by omega⟩)
theorem symG_none {n t c : Int} (h1 : ∀ j : Nat, (j : Int) < n → nonN j ≠ c) (h2 : ∀ j : Nat, (j : Int) < t → tokN j ≠ c) : symG n t c = none := by
  cases e : symG n t c with
  | none => rfl
  | some x =>
    unfold symG at e
    rw [Option.filter_eq_some_iff] at e
    obtain ⟨e1, e2⟩ := e
    have e2 := of_decide_eq_true e2
    rcases symN_some e1 with ⟨j, hj, rfl, rfl⟩ | ⟨j, hj, rfl, rfl⟩
    · exact absurd rfl (h1 j (by omega))
    · exact absurd rfl (h2 j (by omega))

set_option maxRecDepth 20000 in
set_option maxHeartbeats 4000000 in
theorem l2Symbol_any (n t c : Int) (w : World) (n0 : 0 ≤ n) (n6 : n ≤ 6) (t0 : 0 ≤ t) (t4 : t ≤ 4) : Calls Tryd.prog 77 #[.int .i64 n, .int .i64 t, .int .u8 c] w (GaveSym w (symG n t c)) := by
  go_enter Tryd.func77, Tryd.ntmps77
  go_wp2
  go_loopw [8] (fun i wr => ∃ (k : Nat), (k : Int) ≤ n ∧ i = .int .i64 k ∧ wr = w ∧ Hid (∀ j : Nat, j < k → nonN j ≠ c)) (fun i _ => (n - intOf i).toNat)
  case atStart => exact ⟨0, by omega, rfl, rfl, fun j h => absurd h (by omega)⟩
  case round =>
    obtain ⟨k, hk, rfl, rfl, H⟩ := hrel
    by_cases hlt : (k : Int) < n
    · rcases six' (show k < 6 by omega) with rfl | rfl | rfl | rfl | rfl | rfl
      · by_cases hc : c = 83
        · have HE : Hid (symG n t c = some 0) := by show symG n t c = _; rw [hc]; exact symG_non (j := 0) (by omega) hlt
          have hb : ((((⟨#[83, 65, 66, 67, 68, 69]⟩ : ByteArray)[0]'(by decide)).toNat : Int) == c) = true := by show ((83 : Int) == c) = true; simp; omega
          clear hc
          go_wp2
          go_ret2
          exact ⟨by rw [HE.out]; rfl, rfl⟩
        · have hb : ((((⟨#[83, 65, 66, 67, 68, 69]⟩ : ByteArray)[0]'(by decide)).toNat : Int) == c) = false := by show ((83 : Int) == c) = false; simp; omega
          have HC := Lib.hid hc; clear hc
          go_wp2
          go_roundw
          case rel => exact ⟨1, by omega, by go_num, trivial, fun j hj => by
            rcases Nat.lt_or_ge j 0 with h | h
            · exact H.out j h
            · obtain rfl : j = 0 := by omega
              exact fun e => HC.out e.symm⟩
          case measure => simp [intOf]; omega
      · by_cases hc : c = 65
        · have HE : Hid (symG n t c = some 1) := by show symG n t c = _; rw [hc]; exact symG_non (j := 1) (by omega) hlt
          have hb : ((((⟨#[83, 65, 66, 67, 68, 69]⟩ : ByteArray)[1]'(by decide)).toNat : Int) == c) = true := by show ((65 : Int) == c) = true; simp; omega
          clear hc
          go_wp2
          go_ret2
          exact ⟨by rw [HE.out]; rfl, rfl⟩
        · have hb : ((((⟨#[83, 65, 66, 67, 68, 69]⟩ : ByteArray)[1]'(by decide)).toNat : Int) == c) = false := by show ((65 : Int) == c) = false; simp; omega
          have HC := Lib.hid hc; clear hc
          go_wp2
          go_roundw
          case rel => exact ⟨2, by omega, by go_num, trivial, fun j hj => by
            rcases Nat.lt_or_ge j 1 with h | h
            · exact H.out j h
            · obtain rfl : j = 1 := by omega
              exact fun e => HC.out e.symm⟩
          case measure => simp [intOf]; omega
      · by_cases hc : c = 66
        · have HE : Hid (symG n t c = some 2) := by show symG n t c = _; rw [hc]; exact symG_non (j := 2) (by omega) hlt
          have hb : ((((⟨#[83, 65, 66, 67, 68, 69]⟩ : ByteArray)[2]'(by decide)).toNat : Int) == c) = true := by show ((66 : Int) == c) = true; simp; omega
          clear hc
          go_wp2
          go_ret2
          exact ⟨by rw [HE.out]; rfl, rfl⟩
        · have hb : ((((⟨#[83, 65, 66, 67, 68, 69]⟩ : ByteArray)[2]'(by decide)).toNat : Int) == c) = false := by show ((66 : Int) == c) = false; simp; omega
          have HC := Lib.hid hc; clear hc
          go_wp2
          go_roundw
          case rel => exact ⟨3, by omega, by go_num, trivial, fun j hj => by
            rcases Nat.lt_or_ge j 2 with h | h
            · exact H.out j h
            · obtain rfl : j = 2 := by omega
              exact fun e => HC.out e.symm⟩
          case measure => simp [intOf]; omega
      · by_cases hc : c = 67
        · have HE : Hid (symG n t c = some 3) := by show symG n t c = _; rw [hc]; exact symG_non (j := 3) (by omega) hlt
          have hb : ((((⟨#[83, 65, 66, 67, 68, 69]⟩ : ByteArray)[3]'(by decide)).toNat : Int) == c) = true := by show ((67 : Int) == c) = true; simp; omega
          clear hc
          go_wp2
          go_ret2
          exact ⟨by rw [HE.out]; rfl, rfl⟩
        · have hb : ((((⟨#[83, 65, 66, 67, 68, 69]⟩ : ByteArray)[3]'(by decide)).toNat : Int) == c) = false := by show ((67 : Int) == c) = false; simp; omega
          have HC := Lib.hid hc; clear hc
          go_wp2
          go_roundw
          case rel => exact ⟨4, by omega, by go_num, trivial, fun j hj => by
            rcases Nat.lt_or_ge j 3 with h | h
            · exact H.out j h
            · obtain rfl : j = 3 := by omega
              exact fun e => HC.out e.symm⟩
          case measure => simp [intOf]; omega
      · by_cases hc : c = 68
        · have HE : Hid (symG n t c = some 4) := by show symG n t c = _; rw [hc]; exact symG_non (j := 4) (by omega) hlt
          have hb : ((((⟨#[83, 65, 66, 67, 68, 69]⟩ : ByteArray)[4]'(by decide)).toNat : Int) == c) = true := by show ((68 : Int) == c) = true; simp; omega
          clear hc
          go_wp2
          go_ret2
          exact ⟨by rw [HE.out]; rfl, rfl⟩
        · have hb : ((((⟨#[83, 65, 66, 67, 68, 69]⟩ : ByteArray)[4]'(by decide)).toNat : Int) == c) = false := by show ((68 : Int) == c) = false; simp; omega
          have HC := Lib.hid hc; clear hc
          go_wp2
          go_roundw
          case rel => exact ⟨5, by omega, by go_num, trivial, fun j hj => by
            rcases Nat.lt_or_ge j 4 with h | h
            · exact H.out j h
            · obtain rfl : j = 4 := by omega
              exact fun e => HC.out e.symm⟩
          case measure => simp [intOf]; omega
      · by_cases hc : c = 69
        · have HE : Hid (symG n t c = some 5) := by show symG n t c = _; rw [hc]; exact symG_non (j := 5) (by omega) hlt
          have hb : ((((⟨#[83, 65, 66, 67, 68, 69]⟩ : ByteArray)[5]'(by decide)).toNat : Int) == c) = true := by show ((69 : Int) == c) = true; simp; omega
          clear hc
          go_wp2
          go_ret2
          exact ⟨by rw [HE.out]; rfl, rfl⟩
        · have hb : ((((⟨#[83, 65, 66, 67, 68, 69]⟩ : ByteArray)[5]'(by decide)).toNat : Int) == c) = false := by show ((69 : Int) == c) = false; simp; omega
          have HC := Lib.hid hc; clear hc
          go_wp2
          go_roundw
          case rel => exact ⟨6, by omega, by go_num, trivial, fun j hj => by
            rcases Nat.lt_or_ge j 5 with h | h
            · exact H.out j h
            · obtain rfl : j = 5 := by omega
              exact fun e => HC.out e.symm⟩
          case measure => simp [intOf]; omega
    · have HN : Hid (∀ j : Nat, (j : Int) < n → nonN j ≠ c) := fun j hj => H.out j (by omega)
      clear H
      obtain ⟨w0, h⟩ : ∃ x, x = wr := ⟨_, rfl⟩
      subst h
      go_wp2
      go_loopw [9] (fun i wr => ∃ (k : Nat), (k : Int) ≤ t ∧ i = .int .i64 k ∧ wr = w0 ∧ Hid (∀ j : Nat, j < k → tokN j ≠ c)) (fun i _ => (t - intOf i).toNat)
      case atStart => exact ⟨0, by omega, rfl, rfl, fun j h => absurd h (by omega)⟩
      case round =>
        obtain ⟨k2, hk2, rfl, rfl, H⟩ := hrel
        by_cases hlt2 : (k2 : Int) < t
        · rcases four' (show k2 < 4 by omega) with rfl | rfl | rfl | rfl
          · by_cases hc : c = 97
            · have HE : Hid (symG n t c = some (-1 - 0)) := by show symG n t c = _; rw [hc]; exact symG_tok (j := 0) (by omega) hlt2
              have hb : ((((⟨#[97, 98, 99, 100]⟩ : ByteArray)[0]'(by decide)).toNat : Int) == c) = true := by show ((97 : Int) == c) = true; simp; omega
              clear hc
              go_wp2
              go_ret2
              exact ⟨by rw [HE.out]; rfl, rfl⟩
            · have hb : ((((⟨#[97, 98, 99, 100]⟩ : ByteArray)[0]'(by decide)).toNat : Int) == c) = false := by show ((97 : Int) == c) = false; simp; omega
              have HC := Lib.hid hc; clear hc
              go_wp2
              go_roundw
              case rel => exact ⟨1, by omega, by go_num, trivial, fun j hj => by
                rcases Nat.lt_or_ge j 0 with h | h
                · exact H.out j h
                · obtain rfl : j = 0 := by omega
                  exact fun e => HC.out e.symm⟩
              case measure => simp [intOf]; omega
          · by_cases hc : c = 98
            · have HE : Hid (symG n t c = some (-1 - 1)) := by show symG n t c = _; rw [hc]; exact symG_tok (j := 1) (by omega) hlt2
              have hb : ((((⟨#[97, 98, 99, 100]⟩ : ByteArray)[1]'(by decide)).toNat : Int) == c) = true := by show ((98 : Int) == c) = true; simp; omega
              clear hc
              go_wp2
              go_ret2
              exact ⟨by rw [HE.out]; rfl, rfl⟩
            · have hb : ((((⟨#[97, 98, 99, 100]⟩ : ByteArray)[1]'(by decide)).toNat : Int) == c) = false := by show ((98 : Int) == c) = false; simp; omega
              have HC := Lib.hid hc; clear hc
              go_wp2
              go_roundw
              case rel => exact ⟨2, by omega, by go_num, trivial, fun j hj => by
                rcases Nat.lt_or_ge j 1 with h | h
                · exact H.out j h
                · obtain rfl : j = 1 := by omega
                  exact fun e => HC.out e.symm⟩
              case measure => simp [intOf]; omega
          · by_cases hc : c = 99
            · have HE : Hid (symG n t c = some (-1 - 2)) := by show symG n t c = _; rw [hc]; exact symG_tok (j := 2) (by omega) hlt2
              have hb : ((((⟨#[97, 98, 99, 100]⟩ : ByteArray)[2]'(by decide)).toNat : Int) == c) = true := by show ((99 : Int) == c) = true; simp; omega
              clear hc
              go_wp2
              go_ret2
              exact ⟨by rw [HE.out]; rfl, rfl⟩
            · have hb : ((((⟨#[97, 98, 99, 100]⟩ : ByteArray)[2]'(by decide)).toNat : Int) == c) = false := by show ((99 : Int) == c) = false; simp; omega
              have HC := Lib.hid hc; clear hc
              go_wp2
              go_roundw
              case rel => exact ⟨3, by omega, by go_num, trivial, fun j hj => by
                rcases Nat.lt_or_ge j 2 with h | h
                · exact H.out j h
                · obtain rfl : j = 2 := by omega
                  exact fun e => HC.out e.symm⟩
              case measure => simp [intOf]; omega
          · by_cases hc : c = 100
            · have HE : Hid (symG n t c = some (-1 - 3)) := by show symG n t c = _; rw [hc]; exact symG_tok (j := 3) (by omega) hlt2
              have hb : ((((⟨#[97, 98, 99, 100]⟩ : ByteArray)[3]'(by decide)).toNat : Int) == c) = true := by show ((100 : Int) == c) = true; simp; omega
              clear hc
              go_wp2
              go_ret2
              exact ⟨by rw [HE.out]; rfl, rfl⟩
            · have hb : ((((⟨#[97, 98, 99, 100]⟩ : ByteArray)[3]'(by decide)).toNat : Int) == c) = false := by show ((100 : Int) == c) = false; simp; omega
              have HC := Lib.hid hc; clear hc
              go_wp2
              go_roundw
              case rel => exact ⟨4, by omega, by go_num, trivial, fun j hj => by
                rcases Nat.lt_or_ge j 3 with h | h
                · exact H.out j h
                · obtain rfl : j = 3 := by omega
                  exact fun e => HC.out e.symm⟩
              case measure => simp [intOf]; omega
        · have HE : Hid (symG n t c = none) := symG_none HN.out fun j hj => H.out j (by omega)
          go_wp2
          go_ret2
          exact ⟨by rw [HE.out]; rfl, rfl⟩

end Go.Proofs.YtacehfjhpnplbaaDoor

/- What the laws' marks write, and what they find again. -/

namespace Go.Proofs.YtacehfjhpnplbaaDoor
open Go.RowKit

/-- Only blocks of S have turned; new blocks may have come. -/
structure Save (S : Nat → Prop) (w w' : World) : Prop where
  os : w'.os = w.os
  tape : w'.tape = w.tape
  output : w'.output = w.output
  size : w.heap.size ≤ w'.heap.size
  block : ∀ b, b < w.heap.size → ¬ S b → w'.heap[b]? = w.heap[b]?

theorem Save.refl (S : Nat → Prop) (w : World) : Save S w w := ⟨rfl, rfl, rfl, Nat.le_refl _, fun _ _ _ => rfl⟩
theorem Save.trans {S : Nat → Prop} {a b c : World} (h : Save S a b) (k : Save S b c) : Save S a c :=
  ⟨k.os.trans h.os, k.tape.trans h.tape, k.output.trans h.output, Nat.le_trans h.size k.size, fun i hi hs => (k.block i (by have := h.size; omega) hs).trans (h.block i hi hs)⟩
theorem Save.wider {S T : Nat → Prop} {a b : World} (h : Save S a b) (hT : ∀ i, S i → T i) : Save T a b :=
  ⟨h.os, h.tape, h.output, h.size, fun i hi hs => h.block i hi fun hS => hs (hT i hS)⟩
theorem Save.of_below {S : Nat → Prop} {a b : World} (h : Below a.heap.size a b) : Save S a b := ⟨h.os, h.tape, h.output, h.size, fun i hi _ => h.block i hi⟩
theorem Save.below {S : Nat → Prop} {a b : World} {B : Nat} (h : Save S a b) (hB : B ≤ a.heap.size) (hS : ∀ i, i < B → ¬ S i) : Below B a b :=
  ⟨h.os, h.tape, h.output, h.size, fun i hi => h.block i (by omega) (hS i hi)⟩
theorem Save.setCell {S : Nat → Prop} {a w : World} (h : Save S a w) {p : Addr} (hp : S p.block) (u : Value) : Save S a (w.setCell p u) :=
  h.trans ⟨rfl, rfl, rfl, by simp [World.setCell], fun k _ hs => Below.heap_setCell _ _ _ _ (fun e => hs (e ▸ hp))⟩

theorem Row.save {S : Nat → Prop} {w w' : World} {g : Nat} {t : TypeId} {cs : Array Value} (h : Row w g t cs) (hs : Save S w w') (hg : ¬ S g) : Row w' g t cs := (hs.block g h.lt hg).trans h

theorem OwnI.save {S : Nat → Prop} {w w' : World} {lo : Nat} {A : Option Addr} {xs : List Int} (h : OwnI w lo A xs) (hs : Save S w w') (hA : ∀ g, A = some ⟨g, 0, none⟩ → xs ≠ [] → ¬ S g) : OwnI w' lo A xs := by
  by_cases e : xs = []
  · exact .inl e
  · rcases h with h | ⟨g, cs, ea, hl, hr, hc⟩
    · exact .inl h
    · exact .inr ⟨g, cs, ea, hl, hr.save hs (hA g ea e), hc⟩

theorem OwnI.at_ {w : World} {lo : Nat} {A : Option Addr} {xs : List Int} (h : OwnI w lo A xs) {i : Nat} (hi : i < xs.length) :
    ∃ g, A = some ⟨g, 0, none⟩ ∧ lo ≤ g ∧ g < w.heap.size ∧ w.cell? ⟨g, i, none⟩ = some (.int .i64 xs[i]) ∧ w.frozen? ⟨g, i, none⟩ = false := by
  rcases h with h | ⟨g, cs, ea, hl, hr, hc⟩
  · subst h; simp at hi
  · exact ⟨g, ea, hl, hr.lt, by rw [hr.cell]; exact hc i _ (List.getElem?_eq_getElem hi), hr.frozen i⟩

theorem OwnI.set {w : World} {lo g : Nat} {xs : List Int} (h : OwnI w lo (some ⟨g, 0, none⟩) xs) {i : Nat} (hi : i < xs.length) (x : Int) :
    OwnI (w.setCell ⟨g, i, none⟩ (.int .i64 x)) lo (some ⟨g, 0, none⟩) (xs.set i x) := by
  rcases h with h | ⟨g', cs, ea, hl, hr, hc⟩
  · subst h; simp at hi
  · injection ea with ea
    injection ea with ea
    subst ea
    have hlt : i < cs.size := (Array.getElem?_eq_some_iff.1 (hc i _ (List.getElem?_eq_getElem hi))).1
    refine .inr ⟨g, cs.setIfInBounds i (.int .i64 x), rfl, hl, hr.set i _, fun k y hy => ?_⟩
    rw [List.getElem?_set] at hy
    rw [Array.getElem?_setIfInBounds]
    by_cases e : i = k
    · subst e
      rw [if_pos rfl, if_pos hi] at hy
      rw [if_pos rfl, if_pos hlt]
      simpa using hy
    · rw [if_neg e] at hy ⊢
      exact hc k y hy

/-- k, k + 1, .. : n numbers. -/
def seqL (k : Int) (n : Nat) : List Int := (List.range n).map fun (i : Nat) => k + (i : Int)
theorem seqL_length (k : Int) (n : Nat) : (seqL k n).length = n := by simp [seqL]
theorem seqL_get {k : Int} {n i : Nat} (h : i < n) : (seqL k n)[i]? = some (k + (i : Int)) := by simp [seqL, h]
theorem seqL_at {k : Int} {n i : Nat} (h : i < (seqL k n).length) : (seqL k n)[i] = k + (i : Int) := by simp [seqL]
theorem seqL_ne {k : Int} {n : Nat} (h : n ≠ 0) : seqL k n ≠ [] := fun e => h (by have := congrArg List.length e; rwa [seqL_length] at this)

def midL (k : Int) (xs : List Int) (j : Nat) : List Int := seqL k j ++ xs.drop j
theorem midL_length {k : Int} {xs : List Int} {j : Nat} (h : j ≤ xs.length) : (midL k xs j).length = xs.length := by simp [midL, seqL_length]; omega
theorem midL_zero (k : Int) (xs : List Int) : midL k xs 0 = xs := by simp [midL, seqL]
theorem midL_all (k : Int) (xs : List Int) : midL k xs xs.length = seqL k xs.length := by simp [midL]
theorem midL_step {k : Int} {xs : List Int} {j : Nat} (h : j < xs.length) : (midL k xs j).set j (k + (j : Int)) = midL k xs (j + 1) := by
  apply List.ext_getElem?
  intro i
  simp only [midL, List.getElem?_set, List.length_append, seqL_length, List.length_drop]
  by_cases e : j = i
  · subst e
    rw [if_pos rfl, if_pos (by omega), List.getElem?_append_left (by rw [seqL_length]; omega), seqL_get (by omega)]
  · rw [if_neg e]
    by_cases hi : i < j
    · rw [List.getElem?_append_left (by rw [seqL_length]; omega), List.getElem?_append_left (by rw [seqL_length]; omega), seqL_get hi, seqL_get (by omega)]
    · rw [List.getElem?_append_right (by rw [seqL_length]; omega), List.getElem?_append_right (by rw [seqL_length]; omega), seqL_length, seqL_length, List.getElem?_drop, List.getElem?_drop]
      congr 1
      omega

/-- The blocks of one slice that is not empty. -/
def Its (A : Option Addr) (xs : List Int) (b : Nat) : Prop := A = some ⟨b, 0, none⟩ ∧ xs ≠ []

def MarkedI (w : World) (lo : Nat) (A : Option Addr) (xs : List Int) (k : Int) (e : Ending) (w' : World) : Prop :=
  e = .returned (.int .i64 (k + xs.length)) ∧ OwnI w' lo A (seqL k xs.length) ∧ Save (Its A xs) w w'

set_option maxHeartbeats 400000 in
theorem markIntS_any (A : Option Addr) (xs : List Int) (c lo : Nat) (k : Int) (w : World) (h : OwnI w lo A xs) (hn : xs.length ≤ 1048576) (hk : 0 ≤ k) (hk' : k ≤ 4398046511104) :
    Calls Tryd.prog 37 #[.slice A xs.length c, .int .i64 k] w (MarkedI w lo A xs k) := by
  have HO := Lib.hid h; clear h
  go_enter Tryd.func37, Tryd.ntmps37
  go_wp2
  go_loopw [1, 5] (fun v i wr => ∃ (j : Nat), j ≤ xs.length ∧ i = .int .i64 j ∧ v = .int .i64 (k + j) ∧ Hid (OwnI wr lo A (midL k xs j)) ∧ Hid (Save (Its A xs) w wr)) (fun _ i _ => xs.length - (intOf i).toNat)
  case atStart => exact ⟨0, by omega, rfl, by simp, by show OwnI _ _ _ _; rw [midL_zero]; exact HO.out, Save.refl _ _⟩
  case round =>
    obtain ⟨j, hj, rfl, rfl, H, HS⟩ := hrel
    by_cases hlt : j < xs.length
    · obtain ⟨g, rfl, _, _, c1, f1⟩ := H.out.at_ (i := j) (by rw [midL_length hj]; exact hlt)
      have hne : xs ≠ [] := fun e => by subst e; simp at hlt
      have HNE := Lib.hid hne; clear hne
      go_wp2
      go_roundw
      case rel => exact ⟨j + 1, by omega, by go_num, by go_num, by show OwnI _ _ _ _; rw [← midL_step hlt]; exact H.out.set (by rw [midL_length hj]; exact hlt) _, HS.out.setCell ⟨rfl, HNE.out⟩ _⟩
      case measure => simp [intOf]; omega
    · obtain rfl : j = xs.length := by omega
      go_wp2
      go_ret
      exact ⟨rfl, by rw [← midL_all]; exact H.out, HS.out⟩

set_option maxHeartbeats 400000 in
theorem heldIntS_any (A : Option Addr) (n c : Nat) (k : Int) (w : World) (h : Ints w w.heap.size A (seqL k n)) (hn : n ≤ 1048576) (hk : 0 ≤ k) (hk' : k ≤ 4398046511104) :
    Calls Tryd.prog 38 #[.slice A n c, .int .i64 k] w fun e w' => e = .returned (.int .i64 (k + n)) ∧ Below w.heap.size w w' := by
  have HO := Lib.hid h; clear h
  go_enter Tryd.func38, Tryd.ntmps38
  go_wp2
  go_loopw [1, 5] (fun v i wr => ∃ (j : Nat), j ≤ n ∧ i = .int .i64 j ∧ v = .int .i64 (k + j) ∧ Below w.heap.size w wr) (fun _ i _ => n - (intOf i).toNat)
  case atStart => exact ⟨0, by omega, rfl, by simp, Below.refl _ _⟩
  case round =>
    obtain ⟨j, hj, rfl, rfl, hB⟩ := hrel
    by_cases hlt : j < n
    · obtain ⟨b, o, rfl, hb, c1⟩ := (HO.out.keep hB).at_ (k := j) (by rw [seqL_length]; exact hlt)
      rw [seqL_at] at c1
      have hne : ((k + (j : Int)) != (k + (j : Int))) = false := by simp
      go_wp2
      go_roundw
      case rel => exact ⟨j + 1, by omega, by go_num, by go_num, hB⟩
      case measure => simp [intOf]; omega
    · obtain rfl : j = n := by omega
      go_wp2
      go_ret
      exact ⟨rfl, hB⟩

end Go.Proofs.YtacehfjhpnplbaaDoor

/- The program's reader: what next, giveUp and readSymbol do. -/

namespace Go.Proofs.YtacehfjhpnplbaaDoor
open Go.RowKit

/-- The byte at a place of a text; -1 at its end. -/
def chr (s : ByteArray) (k : Nat) : Int := if h : k < s.size then (s[k].toNat : Int) else -1
theorem chr_end {s : ByteArray} {k : Nat} (h : ¬ k < s.size) : chr s k = -1 := dif_neg h
theorem chr_at {s : ByteArray} {k : Nat} (h : k < s.size) : chr s k = (s[k].toNat : Int) := dif_pos h

/-- The reader's block. -/
def Rdr (w : World) (R : Nat) (s : ByteArray) (k : Nat) (n t : Int) (rv wv : Value) : Prop := Row w R 68 #[.string s, .int .i64 (k : Int), .int .i64 n, .int .i64 t, rv, wv]

/-- The value that the reader gives up with. -/
def faultV (code place : Int) : Value := .iface 70 (.agg #[.int .i64 code, .int .i64 place])

set_option maxRecDepth 20000 in
set_option maxHeartbeats 1000000 in
theorem next_any (R : Nat) (s : ByteArray) (k : Nat) (n t : Int) (rv wv : Value) (w : World) (h : Rdr w R s k n t rv wv) (hk : k ≤ s.size) :
    Calls Tryd.prog 108 #[.pointer (some ⟨R, 0, none⟩)] w fun e w' => e = .returned (.int .i64 (chr s k)) ∧ Below w.heap.size w w' := by
  have c0 : w.cell? ⟨R, 0, none⟩ = some (.string s) := h.cell 0
  have c1 : w.cell? ⟨R, 1, none⟩ = some (.int .i64 (k : Int)) := h.cell 1
  clear h
  by_cases hlt : k < s.size
  · have HE : Hid (chr s k = wrap64 (s[k].toNat : Int)) := by
      show _ = wrap64 _
      rw [chr_at hlt]
      have := UInt8.toNat_lt s[k]
      unfold wrap64
      omega
    have hb : ((k : Int) == (s.size : Int)) = false := by simp; omega
    go_enter Tryd.func108, Tryd.ntmps108
    go_wp2
    go_quiet (fail)
    go_wp2
    go_quiet (fail)
    go_wp2
    go_ret
    exact ⟨by rw [HE.out]; rfl, below_drewN (below_drewN (Below.refl _ _) _) _⟩
  · have HE := Lib.hid (chr_end hlt)
    have hb : ((k : Int) == (s.size : Int)) = true := by simp; omega
    go_enter Tryd.func108, Tryd.ntmps108
    go_wp2
    go_quiet (fail)
    go_wp2
    go_ret
    exact ⟨by rw [HE.out]; rfl, below_drewN (Below.refl _ _) _⟩

set_option maxRecDepth 20000 in
theorem giveUp_any (p : Value) (code place : Int) (w : World) :
    Calls Tryd.prog 146 #[p, .int .i64 code, .int .i64 place] w fun e w' => e = .panicked [{ v := faultV code place, recovered := false }] ∧ w = w' := by
  go_enter Tryd.func146, Tryd.ntmps146
  go_wp2
  exact ⟨rfl, rfl, rfl⟩

set_option maxRecDepth 20000 in
set_option maxHeartbeats 1000000 in
theorem isTokenSymbol_any (n t x : Int) (v : Value) (w : World) (h0 : -9223372036854775808 ≤ x) (h1 : x ≤ 9223372036854775807) :
    Calls Tryd.prog 121 #[.agg #[.int .i64 n, .int .i64 t, v], .int .i64 x] w fun e w' => e = .returned (.bool (nonB t (-1 - x))) ∧ Below w.heap.size w w' := by
  go_enter Tryd.func121, Tryd.ntmps121
  go_wp2_with fail
  refine (isToken_any _ _ _ _ _).mono ?_
  rintro e w1 ⟨rfl, hB⟩
  go_wp2
  go_ret
  exact ⟨rfl, Below.trans (by go_grown) (hB.mono (by go_size))⟩

theorem Rdr.below {w w' : World} {R : Nat} {s : ByteArray} {k : Nat} {n t : Int} {rv wv : Value} {B : Nat} (h : Rdr w R s k n t rv wv) (hb : Below B w w') (hR : w.heap.size ≤ B) : Rdr w' R s k n t rv wv :=
  Row.below h hb (by have := Row.lt h; omega)
theorem symN_lt {s : ByteArray} {k : Nat} {x : Int} (h : symN (chr s k) = some x) : k < s.size := by
  by_cases hk : k < s.size
  · exact hk
  · rw [chr_end hk] at h; cases h
theorem symN_bd {c x : Int} (h : symN c = some x) : -4 ≤ x ∧ x < 6 := by
  rcases symN_some h with ⟨j, hj, rfl, _⟩ | ⟨j, hj, rfl, _⟩ <;> omega

/-- What readSymbol answers where it gives up. -/
def GaveUp (w : World) (code place : Int) (e : Ending) (w' : World) : Prop := e = .panicked [{ v := faultV code place, recovered := false }] ∧ Below w.heap.size w w'
/-- What it answers where a symbol is read. -/
def ReadOne (w : World) (R : Nat) (s : ByteArray) (k : Nat) (n t : Int) (rv wv : Value) (x : Int) (e : Ending) (w' : World) : Prop := e = .returned (.int .i64 x) ∧ Rdr w' R s (k + 1) n t rv wv ∧ Save (· = R) w w'

end Go.Proofs.YtacehfjhpnplbaaDoor

/- The program's readSymbol, as it is called with isTokenSymbol. -/

namespace Go.Proofs.YtacehfjhpnplbaaDoor
open Go.RowKit

set_option maxRecDepth 20000 in
set_option maxHeartbeats 2000000 in
theorem readSymT_none (R : Nat) (s : ByteArray) (k : Nat) (n t : Int) (A : Option Addr) (m c : Nat) (wv : Value) (w : World) (h : Rdr w R s k n t (.slice A m c) wv) (hk : k ≤ s.size) (hN : NonT w) (hT : TokT w) (hs : symN (chr s k) = none) :
    Calls Tryd.prog 120 #[.pointer (some ⟨R, 0, none⟩), .func (.func 121) #[] #[]] w (GaveUp w 3 k) := by
  have HR := Lib.hid h; clear h
  have HN := Lib.hid hN; clear hN
  have HT := Lib.hid hT; clear hT
  have HS := Lib.hid hs; clear hs
  go_enter Tryd.func120, Tryd.ntmps120
  go_wp2_with fail
  refine (next_any _ _ _ _ _ _ _ _ HR.out hk).mono ?_
  rintro e w1 ⟨rfl, hB1⟩
  have HB1 := Lib.hid hB1; clear hB1
  go_wp2_with fail
  refine (symbolOf_any _ _ (HN.out.keep HB1.out (Nat.le_refl _)) (HT.out.keep HB1.out (Nat.le_refl _))).mono ?_
  rintro e w2 ⟨rfl, rfl⟩
  rw [HS.out]
  have c1 : w1.cell? ⟨R, 1, none⟩ = some (.int .i64 (k : Int)) := (HR.out.below HB1.out (Nat.le_refl _)).cell 1
  go_wp2_with fail
  refine (giveUp_any _ _ _ _).mono ?_
  rintro e w3 ⟨rfl, rfl⟩
  go_wp2
  exact ⟨rfl, rfl, HB1.out⟩

set_option maxRecDepth 20000 in
set_option maxHeartbeats 2000000 in
theorem readSymT_bad (R : Nat) (s : ByteArray) (k : Nat) (n t : Int) (A : Option Addr) (m c : Nat) (wv : Value) (w : World) (h : Rdr w R s k n t (.slice A m c) wv) (hk : k ≤ s.size) (hN : NonT w) (hT : TokT w) {x : Int} (hs : symN (chr s k) = some x) (hp : nonB t (-1 - x) = false) :
    Calls Tryd.prog 120 #[.pointer (some ⟨R, 0, none⟩), .func (.func 121) #[] #[]] w (GaveUp w 3 k) := by
  have hbd := symN_bd hs
  have HR := Lib.hid h; clear h
  have HN := Lib.hid hN; clear hN
  have HT := Lib.hid hT; clear hT
  have HS := Lib.hid hs; clear hs
  have HP := Lib.hid hp; clear hp
  go_enter Tryd.func120, Tryd.ntmps120
  go_wp2_with fail
  refine (next_any _ _ _ _ _ _ _ _ HR.out hk).mono ?_
  rintro e w1 ⟨rfl, hB1⟩
  have HB1 := Lib.hid hB1; clear hB1
  go_wp2_with fail
  refine (symbolOf_any _ _ (HN.out.keep HB1.out (Nat.le_refl _)) (HT.out.keep HB1.out (Nat.le_refl _))).mono ?_
  rintro e w2 ⟨rfl, rfl⟩
  rw [HS.out]
  have HR1 := Lib.hid (HR.out.below HB1.out (Nat.le_refl _))
  have c1 : w1.cell? ⟨R, 1, none⟩ = some (.int .i64 (k : Int)) := HR1.out.cell 1
  have c2 : w1.cell? ⟨R, 2, none⟩ = some (.int .i64 n) := HR1.out.cell 2
  have c3 : w1.cell? ⟨R, 3, none⟩ = some (.int .i64 t) := HR1.out.cell 3
  have c4 : w1.cell? ⟨R, 4, none⟩ = some (.slice A m c) := HR1.out.cell 4
  go_wp2_with fail
  refine (isTokenSymbol_any _ _ _ _ _ (by omega) (by omega)).mono ?_
  rintro e w3 ⟨rfl, hB3⟩
  rw [HP.out]
  have HB3 := Lib.hid (HB1.out.trans (hB3.mono HB1.out.size))
  clear c1 c2 c3 c4
  have c1 : w3.cell? ⟨R, 1, none⟩ = some (.int .i64 (k : Int)) := (HR1.out.below hB3 (Nat.le_refl _)).cell 1
  clear hB3
  go_wp2_with fail
  refine (giveUp_any _ _ _ _).mono ?_
  rintro e w4 ⟨rfl, rfl⟩
  go_wp2
  exact ⟨rfl, rfl, HB3.out⟩

set_option maxRecDepth 20000 in
set_option maxHeartbeats 2000000 in
theorem readSymT_ok (R : Nat) (s : ByteArray) (k : Nat) (n t : Int) (A : Option Addr) (m c : Nat) (wv : Value) (w : World) (h : Rdr w R s k n t (.slice A m c) wv) (hz : s.size ≤ 1048576) (hN : NonT w) (hT : TokT w) {x : Int} (hs : symN (chr s k) = some x) (hp : nonB t (-1 - x) = true) :
    Calls Tryd.prog 120 #[.pointer (some ⟨R, 0, none⟩), .func (.func 121) #[] #[]] w (ReadOne w R s k n t (.slice A m c) wv x) := by
  have hbd := symN_bd hs
  have hk := symN_lt hs
  have HR := Lib.hid h; clear h
  have HN := Lib.hid hN; clear hN
  have HT := Lib.hid hT; clear hT
  have HS := Lib.hid hs; clear hs
  have HP := Lib.hid hp; clear hp
  go_enter Tryd.func120, Tryd.ntmps120
  go_wp2_with fail
  refine (next_any _ _ _ _ _ _ _ _ HR.out (by omega)).mono ?_
  rintro e w1 ⟨rfl, hB1⟩
  have HB1 := Lib.hid hB1; clear hB1
  go_wp2_with fail
  refine (symbolOf_any _ _ (HN.out.keep HB1.out (Nat.le_refl _)) (HT.out.keep HB1.out (Nat.le_refl _))).mono ?_
  rintro e w2 ⟨rfl, rfl⟩
  rw [HS.out]
  have HR1 := Lib.hid (HR.out.below HB1.out (Nat.le_refl _))
  have c1 : w1.cell? ⟨R, 1, none⟩ = some (.int .i64 (k : Int)) := HR1.out.cell 1
  have c2 : w1.cell? ⟨R, 2, none⟩ = some (.int .i64 n) := HR1.out.cell 2
  have c3 : w1.cell? ⟨R, 3, none⟩ = some (.int .i64 t) := HR1.out.cell 3
  have c4 : w1.cell? ⟨R, 4, none⟩ = some (.slice A m c) := HR1.out.cell 4
  go_wp2_with fail
  refine (isTokenSymbol_any _ _ _ _ _ (by omega) (by omega)).mono ?_
  rintro e w3 ⟨rfl, hB3⟩
  rw [HP.out]
  have HB3 := Lib.hid (HB1.out.trans (hB3.mono HB1.out.size))
  clear c1 c2 c3 c4
  have HR3 := Lib.hid (HR1.out.below hB3 (Nat.le_refl _))
  have c1 : w3.cell? ⟨R, 1, none⟩ = some (.int .i64 (k : Int)) := HR3.out.cell 1
  have f1 : w3.frozen? ⟨R, 1, none⟩ = false := HR3.out.frozen 1
  clear hB3
  go_wp2
  go_ret
  refine ⟨rfl, ?_, Save.setCell (S := (· = R)) (p := ⟨R, 1, none⟩) (Save.of_below HB3.out) rfl _⟩
  have := HR3.out.set 1 (.int .i64 ((k : Int) + 1))
  exact this

end Go.Proofs.YtacehfjhpnplbaaDoor

/- A new slice of numbers as an answer. -/

namespace Go.Proofs.YtacehfjhpnplbaaDoor
open Go.RowKit

/-- A new slice of numbers, and a bool. -/
def GaveIB (w : World) (ys : List Int) (b : Bool) (e : Ending) (w' : World) : Prop :=
  ∃ A c, e = .returned (.tuple #[.slice A ys.length c, .bool b]) ∧ OwnI w' w.heap.size A ys ∧ Below w.heap.size w w'

theorem ownI_of_row {w : World} {lo : Nat} {v : Value} {n : Nat} {ys : List Int} (h : w.ownsRow lo 3 1 v n (ys.map fun y => Value.int .i64 y)) : ∃ A c, v = .slice A ys.length c ∧ OwnI w lo A ys := by
  obtain ⟨hl, h⟩ := h
  have hn : n = ys.length := by simpa using hl.symm
  subst hn
  rcases h with ⟨rfl, h0⟩ | ⟨g, cap, cur, rfl, hlo, hg, _, _, _, hx⟩
  · have : ys = [] := List.eq_nil_of_length_eq_zero h0
    subst this
    exact ⟨none, 0, rfl, .inl rfl⟩
  · refine ⟨_, cap, rfl, .inr ⟨g, cur, rfl, hlo, hg, fun k x hk => ?_⟩⟩
    have hk' := (List.getElem?_eq_some_iff.1 hk).1
    have e := congrArg (fun l => l[k]?) hx
    simp only [List.getElem?_map, hk, Option.map_some] at e
    rw [List.getElem?_take, if_pos (by omega)] at e
    simpa using e

def GaveI' (w : World) (ys : List Int) (e : Ending) (w' : World) : Prop := ∃ A c, e = .returned (.slice A ys.length c) ∧ OwnI w' w.heap.size A ys ∧ Below w.heap.size w w'

end Go.Proofs.YtacehfjhpnplbaaDoor

/- A word read from its letters: plain mathematics, and the program's readWord. -/

namespace Go.Proofs.YtacehfjhpnplbaaDoor
open Go.RowKit

/-- The token of a letter, in a grammar with t tokens. -/
def tokO (t c : Int) : Option Int := (symN c).bind fun x => if nonB t (-1 - x) = true then some (-1 - x) else none
def tokD (t : Int) (s : ByteArray) (j : Nat) : Int := (tokO t (chr s j)).getD 0
/-- The first place that has no token's letter. -/
def badW (t : Int) (s : ByteArray) : Option Nat := (List.range s.size).find? fun j => (tokO t (chr s j)).isNone
def rwL (t : Int) (s : ByteArray) : List Int := if (badW t s).isSome then [] else (List.range s.size).map (tokD t s)
def rwP (t : Int) (s : ByteArray) : Nat := (badW t s).getD 0
def rwB (t : Int) (s : ByteArray) : Bool := (badW t s).isNone

/-- The first k letters are tokens', and xs are they. -/
def WordTo (t : Int) (s : ByteArray) (k : Nat) (xs : List Int) : Prop := xs = (List.range k).map (tokD t s) ∧ ∀ j, j < k → (tokO t (chr s j)).isSome = true
theorem WordTo.zero (t : Int) (s : ByteArray) : WordTo t s 0 [] := ⟨rfl, fun j h => absurd h (by omega)⟩
theorem WordTo.step {t : Int} {s : ByteArray} {k : Nat} {xs : List Int} {y : Int} (h : WordTo t s k xs) (hy : tokO t (chr s k) = some y) : WordTo t s (k + 1) (xs ++ [y]) := by
  refine ⟨?_, fun j hj => ?_⟩
  · rw [List.range_succ, List.map_append, h.1]
    simp [tokD, hy]
  · by_cases e : j = k
    · subst e; rw [hy]; rfl
    · exact h.2 j (by omega)
theorem WordTo.len {t : Int} {s : ByteArray} {k : Nat} {xs : List Int} (h : WordTo t s k xs) : xs.length = k := by rw [h.1]; simp
theorem WordTo.all {t : Int} {s : ByteArray} {xs : List Int} (h : WordTo t s s.size xs) : badW t s = none := by
  unfold badW
  rw [List.find?_range_eq_none]
  intro j hj
  have := h.2 j hj
  cases e : tokO t (chr s j)
  · rw [e] at this; cases this
  · rfl
theorem WordTo.stops {t : Int} {s : ByteArray} {k : Nat} {xs : List Int} (h : WordTo t s k xs) (hk : k < s.size) (hn : tokO t (chr s k) = none) : badW t s = some k := by
  unfold badW
  rw [List.find?_range_eq_some]
  refine ⟨by rw [hn]; rfl, List.mem_range.2 hk, fun j hj => ?_⟩
  have := h.2 j hj
  cases e : tokO t (chr s j)
  · rw [e] at this; cases this
  · rfl
theorem WordTo.rwL {t : Int} {s : ByteArray} {xs : List Int} (h : WordTo t s s.size xs) : rwL t s = xs := by
  show (if (badW t s).isSome then [] else _) = _
  rw [h.all, h.1]
  rfl
theorem tokO_ok {t c x : Int} (hs : symN c = some x) (hp : nonB t (-1 - x) = true) : tokO t c = some (-1 - x) := by unfold tokO; rw [hs]; simp [hp]
theorem tokO_bad {t c x : Int} (hs : symN c = some x) (hp : nonB t (-1 - x) = false) : tokO t c = none := by unfold tokO; rw [hs]; simp [hp]
theorem tokO_none {t c : Int} (hs : symN c = none) : tokO t c = none := by unfold tokO; rw [hs]; rfl

/-- What readWord ends in: the word lies in the reader; or it gave up. -/
def WordRead (w : World) (R : Nat) (s : ByteArray) (n t : Int) (rv : Value) (e : Ending) (w' : World) : Prop :=
  Save (· = R) w w' ∧ ((badW t s = none ∧ e = .returned (.tuple #[]) ∧ ∃ A c, Rdr w' R s s.size n t rv (.slice A (rwL t s).length c) ∧ OwnI w' w.heap.size A (rwL t s)) ∨
    (∃ k : Nat, badW t s = some k ∧ e = .panicked [{ v := faultV 3 k, recovered := false }]))

theorem neq_end {c : Int} (h : 0 ≤ c) : (c != -1) = true := by simp; omega
theorem chr_nn {s : ByteArray} {k : Nat} (h : k < s.size) : 0 ≤ chr s k := by rw [chr_at h]; omega

theorem Save.grown {S : Nat → Prop} {a w w' : World} {row : Option Nat} (h : Save S a w) (hg : w.grownBy w' row) (hr : ∀ k, row = some k → a.heap.size ≤ k) : Save S a w' :=
  ⟨hg.os.trans h.os, hg.tape.trans h.tape, hg.output.trans h.output, Nat.le_trans h.size hg.size, fun b hb hs => (hg.block b (Nat.lt_of_lt_of_le hb h.size) (fun e => by have := hr b e.symm; omega)).trans (h.block b hb hs)⟩
theorem ownsRow_save {S : Nat → Prop} {w w' : World} {lo size n : Nat} {e : TypeId} {v : Value} {xs : List Value} (h : w.ownsRow lo e size v n xs) (hs : Save S w w') (hS : ∀ b, lo ≤ b → ¬ S b) : w'.ownsRow lo e size v n xs := by
  obtain ⟨hl, h | ⟨g, cap, cur, e1, hlo, hg, e2, e3, e4, e5⟩⟩ := h
  · exact ⟨hl, .inl h⟩
  · exact ⟨hl, .inr ⟨g, cap, cur, e1, hlo, (hs.block g (Row.lt hg) (hS g hlo)).trans hg, e2, e3, e4, e5⟩⟩
theorem own_slice {w : World} {lo size n : Nat} {e : TypeId} {v : Value} {xs : List Value} (h : w.ownsRow lo e size v n xs) : ∃ A c, v = .slice A n c := by
  obtain ⟨_, ⟨e1, rfl⟩ | ⟨g, cap, cur, e1, _⟩⟩ := h
  · exact ⟨none, 0, e1⟩
  · exact ⟨_, cap, e1⟩
theorem own_far {w : World} {lo size n R : Nat} {e : TypeId} {v : Value} {xs : List Value} (h : w.ownsRow lo e size v n xs) (hR : R < lo) : some R ≠ v.ownBlock := fun e => by
  have := (h.lt _ e.symm).1
  omega

set_option maxRecDepth 20000 in
set_option maxHeartbeats 2000000 in
theorem readWord_any (R : Nat) (s : ByteArray) (n t : Int) (Ar : Option Addr) (m c : Nat) (w : World) (h : Rdr w R s 0 n t (.slice Ar m c) (.slice none 0 0)) (hz : s.size ≤ 1048576) (hN : NonT w) (hT : TokT w) (hRN : R ≠ 1) (hRT : R ≠ 0) :
    Calls Tryd.prog 76 #[.pointer (some ⟨R, 0, none⟩)] w (WordRead w R s n t (.slice Ar m c)) := by
  obtain ⟨i0, hi0, hz0, hz1, hz2⟩ := info_of Tryd.infoInt
  have hRlt := Row.lt h
  have HR := Lib.hid h; clear h
  have HN := Lib.hid hN; clear hN
  have HT := Lib.hid hT; clear hT
  go_enter Tryd.func76, Tryd.ntmps76
  go_wp2
  go_loopg [2] (s.size) (fun g _ wr => ∃ (k : Nat) (xs : List Int) (v : Value), g + k = s.size ∧ Hid (Rdr wr R s k n t (.slice Ar m c) v) ∧ Hid (wr.ownsRow w.heap.size 3 1 v xs.length (xs.map fun y => Value.int .i64 y)) ∧ Hid (Save (· = R) w wr) ∧ Hid (WordTo t s k xs))
  case atStart => exact ⟨0, [], .slice none 0 0, by omega, HR.out, ⟨rfl, .inl ⟨rfl, rfl⟩⟩, Save.refl _ _, WordTo.zero _ _⟩
  case round =>
    obtain ⟨k, xs, v, hk, HRk, HO, HS, HW⟩ := hrel
    have HNk : Hid (NonT wr) := fun j u hj => (World.cell?_of_block (HS.out.block _ HN.out.pos (Ne.symm hRN))).trans (HN.out j u hj)
    have HTk : Hid (TokT wr) := fun j u hj => (World.cell?_of_block (HS.out.block _ HT.out.pos (Ne.symm hRT))).trans (HT.out j u hj)
    by_cases hlt : k < s.size
    · have hne := neq_end (chr_nn hlt)
      go_wp2_with fail
      refine (next_any _ _ _ _ _ _ _ _ HRk.out (by omega)).mono ?_
      rintro e w1 ⟨rfl, hB1⟩
      have HB1 := Lib.hid hB1; clear hB1
      have HR1 := Lib.hid (HRk.out.below HB1.out (Nat.le_refl _))
      cases hs : symN (chr s k) with
      | none =>
        have HBD := Lib.hid (HW.out.stops hlt (tokO_none hs))
        have HSY := Lib.hid hs; clear hs
        go_wp2_with fail
        refine (readSymT_none _ _ _ _ _ _ _ _ _ _ HR1.out (by omega) (HNk.out.keep HB1.out (Nat.le_refl _)) (HTk.out.keep HB1.out (Nat.le_refl _)) HSY.out).mono ?_
        rintro e w2 ⟨rfl, hB2⟩
        go_wp2
        exact ⟨rfl, HS.out.trans (Save.of_below (HB1.out.trans (hB2.mono HB1.out.size))), .inr ⟨k, HBD.out, rfl⟩⟩
      | some x =>
        have hbd := symN_bd hs
        cases hp : nonB t (-1 - x) with
        | false =>
          have HBD := Lib.hid (HW.out.stops hlt (tokO_bad hs hp))
          have HSY := Lib.hid hs; clear hs
          have HP := Lib.hid hp; clear hp
          go_wp2_with fail
          refine (readSymT_bad _ _ _ _ _ _ _ _ _ _ HR1.out (by omega) (HNk.out.keep HB1.out (Nat.le_refl _)) (HTk.out.keep HB1.out (Nat.le_refl _)) HSY.out HP.out).mono ?_
          rintro e w2 ⟨rfl, hB2⟩
          go_wp2
          exact ⟨rfl, HS.out.trans (Save.of_below (HB1.out.trans (hB2.mono HB1.out.size))), .inr ⟨k, HBD.out, rfl⟩⟩
        | true =>
          have HWS := Lib.hid (HW.out.step (tokO_ok hs hp))
          have HSY := Lib.hid hs; clear hs
          have HP := Lib.hid hp; clear hp
          have hxl : xs.length < 1048577 := by rw [HW.out.len]; omega
          go_wp2_with fail
          refine (readSymT_ok _ _ _ _ _ _ _ _ _ _ HR1.out hz (HNk.out.keep HB1.out (Nat.le_refl _)) (HTk.out.keep HB1.out (Nat.le_refl _)) HSY.out HP.out).mono ?_
          rintro e w2 ⟨rfl, hR2, hS2⟩
          have HR2 := Lib.hid hR2
          have HS2 := Lib.hid ((Save.of_below (S := (· = R)) HB1.out).trans hS2); clear hS2
          have HO2 := Lib.hid (ownsRow_save HO.out HS2.out (fun b hb (hS : b = R) => by omega))
          have HSw := Lib.hid (HS.out.trans HS2.out)
          have hsz2 := HSw.out.size
          have c5 : w2.cell? ⟨R, 5, none⟩ = some v := HR2.out.cell 5
          have HRA : Hid (Row (w2.alloc (.cells #[.int .i64 (-1 - x)] 3)) R 68 #[.string s, .int .i64 ((k + 1 : Nat) : Int), .int .i64 n, .int .i64 t, .slice Ar m c, v]) := Row.alloc hR2 _
          clear hR2
          have hown := HO2.out.alloc (.cells #[.int .i64 (-1 - x)] 3)
          have HWn := Lib.hid hown; clear hown
          have hnew := cell_one_new w2 (.int .i64 (-1 - x)) 3
          have HNW := Lib.hid hnew; clear hnew
          have HNE := Lib.hid (own_far HO2.out hRlt)
          obtain ⟨Av, cv, rfl⟩ := own_slice HO2.out
          have hRs : R < (w2.alloc (.cells #[.int .i64 (-1 - x)] 3)).heap.size := by simp; omega
          have HRs := Lib.hid hRs; clear hRs
          go_wp2_with (at_builtin
                       refine wpList_append_own _ rfl (.tmp 12) (.tmp 15) _ rfl w.heap.size 3 i0 _ 1 8 Tryd.underlying34 hi0 hz0 hz1 hz2 rfl (by omega) _ _ _ rfl HWn.out ⟨w2.heap.size, 0, none⟩ 1 1 [.int .i64 (-1 - x)] rfl rfl HNW.out (by intro u hu; simp at hu; subst hu; rfl) (by unfold maxLen; omega) (by omega) (by simp; omega) ?_
                       intro v' w' h1 h2 h3
                       obtain ⟨A', c', rfl⟩ := own_slice h1
                       have hrow : Row w' R 68 _ := (h2.block R HRs.out HNE.out).trans HRA.out
                       have r5 : w'.cell? ⟨R, 5, none⟩ = some (.slice Av xs.length cv) := hrow.cell 5
                       have z5 : w'.frozen? ⟨R, 5, none⟩ = false := hrow.frozen 5
                       have HO1 := Lib.hid h1
                       have HG1 := Lib.hid h2
                       have HRW := Lib.hid hrow
                       clear h1 h2 h3 hrow)
          go_roundg (gk - 1)
          case measure => omega
          case rel =>
            refine ⟨k + 1, xs ++ [-1 - x], .slice A' (xs.length + 1) c', by omega, HRW.out.set 5 _, ?_, ?_, HWS.out⟩
            · show World.ownsRow _ _ _ _ _ _ _
              refine ownsRow_setCell_below ?_ hRlt _
              simpa using HO1.out
            · exact Save.setCell (S := (· = R)) (p := ⟨R, 5, none⟩) ((HSw.out.trans (Save.of_below (by go_grown))).grown HG1.out fun j hj => (HO2.out.lt j hj).1) rfl _
    · obtain rfl : k = s.size := by omega
      have hce : chr s s.size = -1 := chr_end hlt
      have HBD := Lib.hid HW.out.all
      have HRL := Lib.hid HW.out.rwL
      obtain ⟨Av, cv, rfl, hOI⟩ := ownI_of_row HO.out
      have HOI := Lib.hid hOI; clear hOI
      go_wp2_with fail
      refine (next_any _ _ _ _ _ _ _ _ HRk.out (by omega)).mono ?_
      rintro e w1 ⟨rfl, hB1⟩
      have HB1 := Lib.hid hB1; clear hB1
      go_wp2
      go_end0
      refine ⟨HS.out.trans (Save.of_below HB1.out), .inl ⟨HBD.out, rfl, Av, cv, ?_, ?_⟩⟩
      · rw [HRL.out]; exact HRk.out.below HB1.out (Nat.le_refl _)
      · rw [HRL.out]; exact HOI.out.below HB1.out (Nat.le_refl _)

end Go.Proofs.YtacehfjhpnplbaaDoor

/- The program's readSymbol, as it is called with isNon. -/

namespace Go.Proofs.YtacehfjhpnplbaaDoor
open Go.RowKit

set_option maxRecDepth 20000 in
set_option maxHeartbeats 2000000 in
theorem readSymN_none (R : Nat) (s : ByteArray) (k : Nat) (n t : Int) (A : Option Addr) (m c : Nat) (wv : Value) (w : World) (h : Rdr w R s k n t (.slice A m c) wv) (hk : k ≤ s.size) (hN : NonT w) (hT : TokT w) (hs : symN (chr s k) = none) :
    Calls Tryd.prog 120 #[.pointer (some ⟨R, 0, none⟩), .func (.func 143) #[] #[]] w (GaveUp w 3 k) := by
  have HR := Lib.hid h; clear h
  have HN := Lib.hid hN; clear hN
  have HT := Lib.hid hT; clear hT
  have HS := Lib.hid hs; clear hs
  go_enter Tryd.func120, Tryd.ntmps120
  go_wp2_with fail
  refine (next_any _ _ _ _ _ _ _ _ HR.out hk).mono ?_
  rintro e w1 ⟨rfl, hB1⟩
  have HB1 := Lib.hid hB1; clear hB1
  go_wp2_with fail
  refine (symbolOf_any _ _ (HN.out.keep HB1.out (Nat.le_refl _)) (HT.out.keep HB1.out (Nat.le_refl _))).mono ?_
  rintro e w2 ⟨rfl, rfl⟩
  rw [HS.out]
  have c1 : w1.cell? ⟨R, 1, none⟩ = some (.int .i64 (k : Int)) := (HR.out.below HB1.out (Nat.le_refl _)).cell 1
  go_wp2_with fail
  refine (giveUp_any _ _ _ _).mono ?_
  rintro e w3 ⟨rfl, rfl⟩
  go_wp2
  exact ⟨rfl, rfl, HB1.out⟩

set_option maxRecDepth 20000 in
set_option maxHeartbeats 2000000 in
theorem readSymN_bad (R : Nat) (s : ByteArray) (k : Nat) (n t : Int) (A : Option Addr) (m c : Nat) (wv : Value) (w : World) (h : Rdr w R s k n t (.slice A m c) wv) (hk : k ≤ s.size) (hN : NonT w) (hT : TokT w) {x : Int} (hs : symN (chr s k) = some x) (hp : nonB n x = false) :
    Calls Tryd.prog 120 #[.pointer (some ⟨R, 0, none⟩), .func (.func 143) #[] #[]] w (GaveUp w 3 k) := by
  have hbd := symN_bd hs
  have HR := Lib.hid h; clear h
  have HN := Lib.hid hN; clear hN
  have HT := Lib.hid hT; clear hT
  have HS := Lib.hid hs; clear hs
  have HP := Lib.hid hp; clear hp
  go_enter Tryd.func120, Tryd.ntmps120
  go_wp2_with fail
  refine (next_any _ _ _ _ _ _ _ _ HR.out hk).mono ?_
  rintro e w1 ⟨rfl, hB1⟩
  have HB1 := Lib.hid hB1; clear hB1
  go_wp2_with fail
  refine (symbolOf_any _ _ (HN.out.keep HB1.out (Nat.le_refl _)) (HT.out.keep HB1.out (Nat.le_refl _))).mono ?_
  rintro e w2 ⟨rfl, rfl⟩
  rw [HS.out]
  have HR1 := Lib.hid (HR.out.below HB1.out (Nat.le_refl _))
  have c1 : w1.cell? ⟨R, 1, none⟩ = some (.int .i64 (k : Int)) := HR1.out.cell 1
  have c2 : w1.cell? ⟨R, 2, none⟩ = some (.int .i64 n) := HR1.out.cell 2
  have c3 : w1.cell? ⟨R, 3, none⟩ = some (.int .i64 t) := HR1.out.cell 3
  have c4 : w1.cell? ⟨R, 4, none⟩ = some (.slice A m c) := HR1.out.cell 4
  go_wp2_with fail
  refine (isNon_any _ _ _ _ _).mono ?_
  rintro e w3 ⟨rfl, hB3⟩
  rw [HP.out]
  have HB3 := Lib.hid (HB1.out.trans (hB3.mono HB1.out.size))
  clear c1 c2 c3 c4
  have c1 : w3.cell? ⟨R, 1, none⟩ = some (.int .i64 (k : Int)) := (HR1.out.below hB3 (Nat.le_refl _)).cell 1
  clear hB3
  go_wp2_with fail
  refine (giveUp_any _ _ _ _).mono ?_
  rintro e w4 ⟨rfl, rfl⟩
  go_wp2
  exact ⟨rfl, rfl, HB3.out⟩

set_option maxRecDepth 20000 in
set_option maxHeartbeats 2000000 in
theorem readSymN_ok (R : Nat) (s : ByteArray) (k : Nat) (n t : Int) (A : Option Addr) (m c : Nat) (wv : Value) (w : World) (h : Rdr w R s k n t (.slice A m c) wv) (hz : s.size ≤ 1048576) (hN : NonT w) (hT : TokT w) {x : Int} (hs : symN (chr s k) = some x) (hp : nonB n x = true) :
    Calls Tryd.prog 120 #[.pointer (some ⟨R, 0, none⟩), .func (.func 143) #[] #[]] w (ReadOne w R s k n t (.slice A m c) wv x) := by
  have hbd := symN_bd hs
  have hk := symN_lt hs
  have HR := Lib.hid h; clear h
  have HN := Lib.hid hN; clear hN
  have HT := Lib.hid hT; clear hT
  have HS := Lib.hid hs; clear hs
  have HP := Lib.hid hp; clear hp
  go_enter Tryd.func120, Tryd.ntmps120
  go_wp2_with fail
  refine (next_any _ _ _ _ _ _ _ _ HR.out (by omega)).mono ?_
  rintro e w1 ⟨rfl, hB1⟩
  have HB1 := Lib.hid hB1; clear hB1
  go_wp2_with fail
  refine (symbolOf_any _ _ (HN.out.keep HB1.out (Nat.le_refl _)) (HT.out.keep HB1.out (Nat.le_refl _))).mono ?_
  rintro e w2 ⟨rfl, rfl⟩
  rw [HS.out]
  have HR1 := Lib.hid (HR.out.below HB1.out (Nat.le_refl _))
  have c1 : w1.cell? ⟨R, 1, none⟩ = some (.int .i64 (k : Int)) := HR1.out.cell 1
  have c2 : w1.cell? ⟨R, 2, none⟩ = some (.int .i64 n) := HR1.out.cell 2
  have c3 : w1.cell? ⟨R, 3, none⟩ = some (.int .i64 t) := HR1.out.cell 3
  have c4 : w1.cell? ⟨R, 4, none⟩ = some (.slice A m c) := HR1.out.cell 4
  go_wp2_with fail
  refine (isNon_any _ _ _ _ _).mono ?_
  rintro e w3 ⟨rfl, hB3⟩
  rw [HP.out]
  have HB3 := Lib.hid (HB1.out.trans (hB3.mono HB1.out.size))
  clear c1 c2 c3 c4
  have HR3 := Lib.hid (HR1.out.below hB3 (Nat.le_refl _))
  have c1 : w3.cell? ⟨R, 1, none⟩ = some (.int .i64 (k : Int)) := HR3.out.cell 1
  have f1 : w3.frozen? ⟨R, 1, none⟩ = false := HR3.out.frozen 1
  clear hB3
  go_wp2
  go_ret
  refine ⟨rfl, ?_, Save.setCell (S := (· = R)) (p := ⟨R, 1, none⟩) (Save.of_below HB3.out) rfl _⟩
  have := HR3.out.set 1 (.int .i64 ((k : Int) + 1))
  exact this

end Go.Proofs.YtacehfjhpnplbaaDoor

/- The program's readSymbol, as it is called with isSymbol. -/

namespace Go.Proofs.YtacehfjhpnplbaaDoor
open Go.RowKit

set_option maxRecDepth 20000 in
set_option maxHeartbeats 2000000 in
theorem readSymS_none (R : Nat) (s : ByteArray) (k : Nat) (n t : Int) (A : Option Addr) (m c : Nat) (wv : Value) (w : World) (h : Rdr w R s k n t (.slice A m c) wv) (hk : k ≤ s.size) (hN : NonT w) (hT : TokT w) (hs : symN (chr s k) = none) :
    Calls Tryd.prog 120 #[.pointer (some ⟨R, 0, none⟩), .func (.func 144) #[] #[]] w (GaveUp w 3 k) := by
  have HR := Lib.hid h; clear h
  have HN := Lib.hid hN; clear hN
  have HT := Lib.hid hT; clear hT
  have HS := Lib.hid hs; clear hs
  go_enter Tryd.func120, Tryd.ntmps120
  go_wp2_with fail
  refine (next_any _ _ _ _ _ _ _ _ HR.out hk).mono ?_
  rintro e w1 ⟨rfl, hB1⟩
  have HB1 := Lib.hid hB1; clear hB1
  go_wp2_with fail
  refine (symbolOf_any _ _ (HN.out.keep HB1.out (Nat.le_refl _)) (HT.out.keep HB1.out (Nat.le_refl _))).mono ?_
  rintro e w2 ⟨rfl, rfl⟩
  rw [HS.out]
  have c1 : w1.cell? ⟨R, 1, none⟩ = some (.int .i64 (k : Int)) := (HR.out.below HB1.out (Nat.le_refl _)).cell 1
  go_wp2_with fail
  refine (giveUp_any _ _ _ _).mono ?_
  rintro e w3 ⟨rfl, rfl⟩
  go_wp2
  exact ⟨rfl, rfl, HB1.out⟩

set_option maxRecDepth 20000 in
set_option maxHeartbeats 2000000 in
theorem readSymS_bad (R : Nat) (s : ByteArray) (k : Nat) (n t : Int) (A : Option Addr) (m c : Nat) (wv : Value) (w : World) (h : Rdr w R s k n t (.slice A m c) wv) (hk : k ≤ s.size) (hN : NonT w) (hT : TokT w) {x : Int} (hs : symN (chr s k) = some x) (hp : symB n t x = false) :
    Calls Tryd.prog 120 #[.pointer (some ⟨R, 0, none⟩), .func (.func 144) #[] #[]] w (GaveUp w 3 k) := by
  have hbd := symN_bd hs
  have HR := Lib.hid h; clear h
  have HN := Lib.hid hN; clear hN
  have HT := Lib.hid hT; clear hT
  have HS := Lib.hid hs; clear hs
  have HP := Lib.hid hp; clear hp
  go_enter Tryd.func120, Tryd.ntmps120
  go_wp2_with fail
  refine (next_any _ _ _ _ _ _ _ _ HR.out hk).mono ?_
  rintro e w1 ⟨rfl, hB1⟩
  have HB1 := Lib.hid hB1; clear hB1
  go_wp2_with fail
  refine (symbolOf_any _ _ (HN.out.keep HB1.out (Nat.le_refl _)) (HT.out.keep HB1.out (Nat.le_refl _))).mono ?_
  rintro e w2 ⟨rfl, rfl⟩
  rw [HS.out]
  have HR1 := Lib.hid (HR.out.below HB1.out (Nat.le_refl _))
  have c1 : w1.cell? ⟨R, 1, none⟩ = some (.int .i64 (k : Int)) := HR1.out.cell 1
  have c2 : w1.cell? ⟨R, 2, none⟩ = some (.int .i64 n) := HR1.out.cell 2
  have c3 : w1.cell? ⟨R, 3, none⟩ = some (.int .i64 t) := HR1.out.cell 3
  have c4 : w1.cell? ⟨R, 4, none⟩ = some (.slice A m c) := HR1.out.cell 4
  go_wp2_with fail
  refine (isSymbol_any _ _ _ _ _ _ _ (by omega) (by omega)).mono ?_
  rintro e w3 ⟨rfl, hB3⟩
  rw [HP.out]
  have HB3 := Lib.hid (HB1.out.trans (hB3.mono HB1.out.size))
  clear c1 c2 c3 c4
  have c1 : w3.cell? ⟨R, 1, none⟩ = some (.int .i64 (k : Int)) := (HR1.out.below hB3 (Nat.le_refl _)).cell 1
  clear hB3
  go_wp2_with fail
  refine (giveUp_any _ _ _ _).mono ?_
  rintro e w4 ⟨rfl, rfl⟩
  go_wp2
  exact ⟨rfl, rfl, HB3.out⟩

set_option maxRecDepth 20000 in
set_option maxHeartbeats 2000000 in
theorem readSymS_ok (R : Nat) (s : ByteArray) (k : Nat) (n t : Int) (A : Option Addr) (m c : Nat) (wv : Value) (w : World) (h : Rdr w R s k n t (.slice A m c) wv) (hz : s.size ≤ 1048576) (hN : NonT w) (hT : TokT w) {x : Int} (hs : symN (chr s k) = some x) (hp : symB n t x = true) :
    Calls Tryd.prog 120 #[.pointer (some ⟨R, 0, none⟩), .func (.func 144) #[] #[]] w (ReadOne w R s k n t (.slice A m c) wv x) := by
  have hbd := symN_bd hs
  have hk := symN_lt hs
  have HR := Lib.hid h; clear h
  have HN := Lib.hid hN; clear hN
  have HT := Lib.hid hT; clear hT
  have HS := Lib.hid hs; clear hs
  have HP := Lib.hid hp; clear hp
  go_enter Tryd.func120, Tryd.ntmps120
  go_wp2_with fail
  refine (next_any _ _ _ _ _ _ _ _ HR.out (by omega)).mono ?_
  rintro e w1 ⟨rfl, hB1⟩
  have HB1 := Lib.hid hB1; clear hB1
  go_wp2_with fail
  refine (symbolOf_any _ _ (HN.out.keep HB1.out (Nat.le_refl _)) (HT.out.keep HB1.out (Nat.le_refl _))).mono ?_
  rintro e w2 ⟨rfl, rfl⟩
  rw [HS.out]
  have HR1 := Lib.hid (HR.out.below HB1.out (Nat.le_refl _))
  have c1 : w1.cell? ⟨R, 1, none⟩ = some (.int .i64 (k : Int)) := HR1.out.cell 1
  have c2 : w1.cell? ⟨R, 2, none⟩ = some (.int .i64 n) := HR1.out.cell 2
  have c3 : w1.cell? ⟨R, 3, none⟩ = some (.int .i64 t) := HR1.out.cell 3
  have c4 : w1.cell? ⟨R, 4, none⟩ = some (.slice A m c) := HR1.out.cell 4
  go_wp2_with fail
  refine (isSymbol_any _ _ _ _ _ _ _ (by omega) (by omega)).mono ?_
  rintro e w3 ⟨rfl, hB3⟩
  rw [HP.out]
  have HB3 := Lib.hid (HB1.out.trans (hB3.mono HB1.out.size))
  clear c1 c2 c3 c4
  have HR3 := Lib.hid (HR1.out.below hB3 (Nat.le_refl _))
  have c1 : w3.cell? ⟨R, 1, none⟩ = some (.int .i64 (k : Int)) := HR3.out.cell 1
  have f1 : w3.frozen? ⟨R, 1, none⟩ = false := HR3.out.frozen 1
  clear hB3
  go_wp2
  go_ret
  refine ⟨rfl, ?_, Save.setCell (S := (· = R)) (p := ⟨R, 1, none⟩) (Save.of_below HB3.out) rfl _⟩
  have := HR3.out.set 1 (.int .i64 ((k : Int) + 1))
  exact this

end Go.Proofs.YtacehfjhpnplbaaDoor
