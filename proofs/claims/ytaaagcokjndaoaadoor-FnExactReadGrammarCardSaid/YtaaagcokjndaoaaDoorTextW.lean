/- What WordText answers, the program's and the reference's. -/
import Derived.Test.YtaaagcokjndaoaaDoorLawSym
namespace Go.Proofs.YtaaagcokjndaoaaDoor
open Go.RowKit

theorem Tryd.infoByte : (Tryd.prog.info? 5).map (fun i => (i.zero, i.size, i.bytes)) = some (some (.int .u8 0), 1, 1) := by kernel_rfl
def zB (n : Nat) : Array Value := madeCells #[.int .u8 0] n
theorem zB_size (n : Nat) : (zB n).size = n := size_madeCells _ _
theorem make_bytes (n : Nat) (hn : n ≤ 1048576) (w : World) :
    (Instr.makeSlice 22 (.int .i64 (n : Int)) (.int .i64 (n : Int))).run Tryd.prog w = .ok (.slice (some ⟨w.heap.size, 0, none⟩) n n) (w.alloc (.cells (zB n) 5)) := by
  obtain ⟨i, hi, hz, hs, hb⟩ := info_of Tryd.infoByte
  have h := run_make (P := Tryd.prog) w 22 5 i _ Tryd.underlying22 hi hz .i64 .i64 n n (by omega) (by omega) (by rw [hb]; omega) (by omega)
  rw [hs] at h
  simpa [zB, Value.cells] using h

/-- string(b). -/
theorem bytes_string (w : World) (b n cap : Nat) (l : List UInt8) (hn : n = l.length) (hc : ∀ (j : Nat) (v : UInt8), l[j]? = some v → w.cell? ⟨b, j, none⟩ = some (.int .u8 (v.toNat : Int))) :
    (convert 22 9 (.slice (some ⟨b, 0, none⟩) n cap)).run Tryd.prog w = .ok (.string (str l)) w := by
  subst hn
  refine run_convert_bytes_back w 22 9 5 _ cap l Tryd.underlying22 Tryd.underlying5 Tryd.underlying9 (fun j hj => ?_)
  rw [Go.WideShapes.add_plain, Nat.zero_add]
  exact hc j _ (List.getElem?_eq_getElem hj)

/-- A token's letter; a word's letters. -/
def tokC (t : Int) : UInt8 := letC (-1 - t)
def wordL (xs : List Int) : List UInt8 := xs.map tokC
theorem wordL_len (xs : List Int) : (wordL xs).length = xs.length := by simp [wordL]
theorem four {x : Int} (h1 : 0 ≤ x) (h2 : x < 4) : x = 0 ∨ x = 1 ∨ x = 2 ∨ x = 3 := by omega
theorem TokT.at_ {w : World} (h : TokT w) {x : Int} (h1 : 0 ≤ x) (h2 : x < 4) : w.cell? ⟨0, x.toNat, none⟩ = some (.int .u8 ((tokC x).toNat : Int)) := by
  rcases four h1 h2 with rfl | rfl | rfl | rfl
  · exact h 0 97 rfl
  · exact h 1 98 rfl
  · exact h 2 99 rfl
  · exact h 3 100 rfl

def AllT (xs : List Int) : Prop := ∀ (k : Nat) (x : Int), xs[k]? = some x → 0 ≤ x ∧ x < 4
theorem AllT.at_ {xs : List Int} (h : AllT xs) {k : Nat} (hk : k < xs.length) : 0 ≤ xs[k] ∧ xs[k] < 4 := h k _ (List.getElem?_eq_getElem hk)

theorem goodW_is {n t : Int} {ss : List (Int × List Int)} {xs : List Int} (h : goodW n t ss xs = true) : goodG n t ss = true ∧ xs.length ≤ 10 ∧ AllT xs := by
  unfold goodW at h
  rw [Bool.and_eq_true] at h
  obtain ⟨hg, hw⟩ := h
  unfold wordB at hw
  rw [Bool.and_eq_true] at hw
  refine ⟨hg, of_decide_eq_true hw.1, fun k x hx => ?_⟩
  have h1 := allB_iff.1 hw.2 k x hx
  have h2 := (goodG_is hg).2.1
  exact ⟨inB_lo h1, by have := inB_hi h1; omega⟩

def wtS (n t : Int) (ss : List (Int × List Int)) (xs : List Int) : ByteArray := if goodW n t ss xs then str (wordL xs) else ⟨#[]⟩
theorem wtS_t {n t : Int} {ss : List (Int × List Int)} {xs : List Int} (h : goodW n t ss xs = true) : wtS n t ss xs = str (wordL xs) := by unfold wtS; rw [h]; rfl
theorem wtS_f {n t : Int} {ss : List (Int × List Int)} {xs : List Int} (h : goodW n t ss xs = false) : wtS n t ss xs = ⟨#[]⟩ := by unfold wtS; rw [h]; rfl

theorem str_snoc (l : List UInt8) (c : UInt8) : str l ++ ⟨#[c]⟩ = str (l ++ [c]) := by
  show (⟨l.toArray⟩ : ByteArray) ++ ⟨#[c]⟩ = ⟨(l ++ [c]).toArray⟩
  rw [ByteArray.mk_append_mk]
theorem str_size (l : List UInt8) : (str l).size = l.length := by simp [str, ByteArray.size]
theorem wordL_step {xs : List Int} {k : Nat} (hk : k < xs.length) : wordL (xs.take (k + 1)) = wordL (xs.take k) ++ [tokC xs[k]] := by
  unfold wordL
  rw [List.take_succ_eq_append_getElem hk, List.map_append]
  rfl

set_option maxHeartbeats 400000 in
theorem l2Word_any (A : Option Addr) (xs : List Int) (c : Nat) (w : World) (hx : Ints w w.heap.size A xs) (h1 : xs.length ≤ 10) (h2 : AllT xs) :
    Calls Tryd.prog 54 #[.slice A xs.length c] w fun e w' => e = .returned (.string (str (wordL xs))) ∧ w = w' := by
  have HX := Lib.hid hx; clear hx
  have H2 := Lib.hid h2; clear h2
  go_enter Tryd.func54, Tryd.ntmps54
  go_wp2
  go_loopw [3, 8] (fun v i wr => ∃ (k : Nat) (s : ByteArray), k ≤ xs.length ∧ i = .int .i64 k ∧ v = .string s ∧ s.size = k ∧ wr = w ∧ Hid (s = str (wordL (xs.take k)))) (fun _ i _ => xs.length - (intOf i).toNat)
  case atStart => exact ⟨0, _, by omega, rfl, rfl, rfl, rfl, rfl⟩
  case round =>
    obtain ⟨k, s, hk, rfl, rfl, hs, rfl, HS⟩ := hrel
    by_cases hlt : k < xs.length
    · obtain ⟨b, o, rfl, hb, c1⟩ := HX.out.at_ hlt
      obtain ⟨t1, t2⟩ := H2.out.at_ hlt
      go_wp2_with fail
      refine (l2Letter_any _ _ (by omega) (by omega)).mono ?_
      rintro e w1 ⟨rfl, rfl⟩
      go_wp2
      go_roundw
      case rel => exact ⟨k + 1, _, by omega, by go_num, rfl, by rw [ByteArray.size_append, hs]; rfl, trivial, by show _ = _; rw [HS.out, wordL_step hlt, ← str_snoc]; rfl⟩
      case measure => simp [intOf]; omega
    · obtain rfl : k = xs.length := by omega
      have hE : str (wordL xs) = s := by rw [HS.out, List.take_length]
      have HE := Lib.hid hE; clear hE
      go_wp2
      go_ret
      exact ⟨by rw [HE.out]; rfl, rfl⟩

def GaveSB (w : World) (s : ByteArray) (b : Bool) (e : Ending) (w' : World) : Prop := e = .returned (.tuple #[.string s, .bool b]) ∧ Below w.heap.size w w'

set_option maxHeartbeats 400000 in
theorem specWT_any (n t : Int) (A A' : Option Addr) (c c' : Nat) (rs : List Ru) (xs : List Int) (w : World) (hx : Rls w w.heap.size A rs) (hy : Ints w w.heap.size A' xs) (hc : rs.length ≤ c) (h1 : rs.length ≤ 1048576) (h2 : ∀ u ∈ rs, u.r.length ≤ 1048576) (h3 : xs.length ≤ 1048576) :
    Calls Tryd.prog 19 #[.agg #[.int .i64 n, .int .i64 t, .slice A rs.length c], .slice A' xs.length c'] w (GaveSB w (wtS n t (rs.map Ru.abs) xs) (goodW n t (rs.map Ru.abs) xs)) := by
  have HX := Lib.hid hx; clear hx
  have HY := Lib.hid hy; clear hy
  have H2 := Lib.hid h2; clear h2
  have HB0 : Hid (Below w.heap.size w (w.alloc (.cells #[.int .i64 n, .int .i64 t, .slice A rs.length c] 26))) := by show Below _ _ _; go_grown
  cases hg : goodW n t (rs.map Ru.abs) xs
  · have HE := Lib.hid (wtS_f hg)
    have HG := Lib.hid hg; clear hg
    go_enter Tryd.func19, Tryd.ntmps19
    go_wp2_with fail
    refine (specWord_any _ _ _ _ _ _ _ _ _ ((HX.out.keep HB0.out).more HB0.out.size) ((HY.out.keep HB0.out).more HB0.out.size) hc h1 H2.out h3).mono ?_
    rintro e w1 ⟨rfl, hB1⟩
    rw [HG.out]
    go_wp2
    go_ret2
    exact ⟨by rw [HE.out]; rfl, HB0.out.trans (hB1.mono HB0.out.size)⟩
  have hi := goodW_is hg
  have hl := hi.2.1
  have HT := Lib.hid hi.2.2
  clear hi
  have HE := Lib.hid (wtS_t hg)
  have HG := Lib.hid hg; clear hg
  go_enter Tryd.func19, Tryd.ntmps19
  go_wp2_with fail
  refine (specWord_any _ _ _ _ _ _ _ _ _ ((HX.out.keep HB0.out).more HB0.out.size) ((HY.out.keep HB0.out).more HB0.out.size) hc h1 H2.out h3).mono ?_
  rintro e w1 ⟨rfl, hB1⟩
  rw [HG.out]
  have HB1 := Lib.hid (HB0.out.trans (hB1.mono HB0.out.size)); clear hB1
  go_wp2_with fail
  refine (l2Word_any _ _ _ _ ((HY.out.keep HB1.out).more HB1.out.size) hl HT.out).mono ?_
  rintro e w2 ⟨rfl, rfl⟩
  go_wp2
  go_ret2
  exact ⟨by rw [HE.out]; rfl, HB1.out⟩

theorem laid_step {xs : List Int} {cs : Array Value} {k : Nat} (hlt : k < xs.length) (hs : cs.size = xs.length) (h : ∀ (j : Nat) (x : Int), j < k → xs[j]? = some x → cs[j]? = some (.int .u8 ((tokC x).toNat : Int))) :
    ∀ (j : Nat) (x : Int), j < k + 1 → xs[j]? = some x → (cs.setIfInBounds k (.int .u8 ((tokC xs[k]).toNat : Int)))[j]? = some (.int .u8 ((tokC x).toNat : Int)) := by
  intro j x hj hx
  rw [Array.getElem?_setIfInBounds]
  by_cases e : k = j
  · subst e
    rw [if_pos rfl, if_pos (by omega)]
    rw [List.getElem?_eq_getElem hlt] at hx
    injection hx with hx
    rw [hx]
  · rw [if_neg e]
    exact h j x (by omega) hx

set_option maxHeartbeats 400000 in
theorem implWT_any (n t : Int) (A A' : Option Addr) (c c' : Nat) (rs : List Ru) (xs : List Int) (w : World) (hx : Rls w w.heap.size A rs) (hy : Ints w w.heap.size A' xs) (hL : Lims w) (hT : TokT w) (hc : rs.length ≤ c) (h1 : rs.length ≤ 1048576) (h2 : ∀ u ∈ rs, u.r.length ≤ 1048576) (hf : FitR rs) (h3 : xs.length ≤ 1048576) :
    Calls Tryd.prog 18 #[.agg #[.int .i64 n, .int .i64 t, .slice A rs.length c], .slice A' xs.length c'] w (GaveSB w (wtS n t (rs.map Ru.abs) xs) (goodW n t (rs.map Ru.abs) xs)) := by
  have HX := Lib.hid hx; clear hx
  have HY := Lib.hid hy; clear hy
  have HL := Lib.hid hL; clear hL
  have HTT := Lib.hid hT; clear hT
  have HF := Lib.hid hf; clear hf
  have H2 := Lib.hid h2; clear h2
  have HB0 : Hid (Below w.heap.size w (w.alloc (.cells #[.int .i64 n, .int .i64 t, .slice A rs.length c] 26))) := by show Below _ _ _; go_grown
  cases hg : goodW n t (rs.map Ru.abs) xs
  · have HE := Lib.hid (wtS_f hg)
    have HG := Lib.hid hg; clear hg
    go_enter Tryd.func18, Tryd.ntmps18
    go_wp2_with fail
    refine (implWord_any _ _ _ _ _ _ _ _ _ ((HX.out.keep HB0.out).more HB0.out.size) ((HY.out.keep HB0.out).more HB0.out.size) (HL.out.keep HB0.out (Nat.le_refl _)) hc h1 H2.out HF.out h3).mono ?_
    rintro e w1 ⟨rfl, hB1⟩
    rw [HG.out]
    go_wp2
    go_ret2
    exact ⟨by rw [HE.out]; rfl, HB0.out.trans (hB1.mono HB0.out.size)⟩
  have hi := goodW_is hg
  have HT := Lib.hid hi.2.2
  clear hi
  have HE := Lib.hid (wtS_t hg)
  have HG := Lib.hid hg; clear hg
  go_enter Tryd.func18, Tryd.ntmps18
  go_wp2_with fail
  refine (implWord_any _ _ _ _ _ _ _ _ _ ((HX.out.keep HB0.out).more HB0.out.size) ((HY.out.keep HB0.out).more HB0.out.size) (HL.out.keep HB0.out (Nat.le_refl _)) hc h1 H2.out HF.out h3).mono ?_
  rintro e w1 ⟨rfl, hB1⟩
  rw [HG.out]
  have HB1 := Lib.hid (HB0.out.trans (hB1.mono HB0.out.size)); clear hB1
  have hmk := make_bytes xs.length h3
  go_wp2
  go_loopw [18] (fun i wr => ∃ (k : Nat) (cs : Array Value), k ≤ xs.length ∧ i = .int .i64 k ∧ Below w1.heap.size w1 wr ∧ Hid (Row wr w1.heap.size 5 cs ∧ cs.size = xs.length ∧ ∀ (j : Nat) (x : Int), j < k → xs[j]? = some x → cs[j]? = some (.int .u8 ((tokC x).toNat : Int)))) (fun i _ => xs.length - (intOf i).toNat)
  case atStart => exact ⟨0, zB xs.length, by omega, rfl, (Below.refl _ _).alloc (Nat.le_refl _) _, Row.new _ _ _, zB_size _, fun j x h => absurd h (by omega)⟩
  case round =>
    obtain ⟨k, cs, hk, rfl, hB, H⟩ := hrel
    clear hmk
    have HBw := Lib.hid (HB1.out.trans (hB.mono HB1.out.size))
    by_cases hlt : k < xs.length
    · obtain ⟨b, o, rfl, hb, c1⟩ := (HY.out.keep HBw.out).at_ hlt
      obtain ⟨t1, t2⟩ := HT.out.at_ hlt
      have c2 : wr.cell? ⟨w1.heap.size, k, none⟩ = some (cs[k]'(by have := H.out.2.1; omega)) := by
        rw [H.out.1.cell, Array.getElem?_eq_getElem]
      have c3 := H.out.1.frozen k
      have c4 := (HTT.out.keep HBw.out (Nat.le_refl _)).at_ t1 t2
      go_wp2
      go_roundw
      case rel => exact ⟨k + 1, cs.setIfInBounds k (.int .u8 ((tokC xs[k]).toNat : Int)), by omega, by go_num, hB.setCell (Nat.le_refl _) _, H.out.1.set k _, by rw [Array.size_setIfInBounds]; exact H.out.2.1, laid_step hlt H.out.2.1 H.out.2.2⟩
      case measure => simp [intOf]; omega
    · have kc := bytes_string wr w1.heap.size xs.length xs.length (wordL xs) (wordL_len xs).symm (fun j v hv => by
        simp only [wordL, List.getElem?_map, Option.map_eq_some_iff] at hv
        obtain ⟨x, hx, rfl⟩ := hv
        rw [H.out.1.cell]
        exact H.out.2.2 j x (by have := (List.getElem?_eq_some_iff.1 hx).1; omega) hx)
      go_wp2
      go_ret2
      exact ⟨by rw [HE.out]; rfl, HBw.out⟩

end Go.Proofs.YtaaagcokjndaoaaDoor
