/- A word read from its letters: plain mathematics, and the program's readWord. -/
import Derived.Test.YtaaagcokjndaoaaDoorRdSymT
import Derived.Test.YtaaagcokjndaoaaDoorRowI
import Derived.Deep.LoopGhost
namespace Go.Proofs.YtaaagcokjndaoaaDoor
open Go.RowKit

/-- The token of a letter, in a grammar with t tokens. -/
def tokO (t c : Int) : Option Int := (symN c).bind fun x => if nonB t (-1 - x) = true then some (-1 - x) else none
def tokD (t : Int) (s : ByteArray) (j : Nat) : Int := (tokO t (chr s j)).getD 0
/-- The first place that has no token's letter. -/
def badW (t : Int) (s : ByteArray) : Option Nat := (List.range s.size).find? fun j => (tokO t (chr s j)).isNone
def rwL (t : Int) (s : ByteArray) : List Int := if (badW t s).isSome then [] else (List.range s.size).map (tokD t s)
def rwP (t : Int) (s : ByteArray) : Nat := (badW t s).getD 0
def rwB (t : Int) (s : ByteArray) : Bool := (badW t s).isNone

/-- The first k letters are tokens', and xs are they. -/
def WordTo (t : Int) (s : ByteArray) (k : Nat) (xs : List Int) : Prop := xs = (List.range k).map (tokD t s) ∧ ∀ j, j < k → (tokO t (chr s j)).isSome = true
theorem WordTo.zero (t : Int) (s : ByteArray) : WordTo t s 0 [] := ⟨rfl, fun j h => absurd h (by omega)⟩
theorem WordTo.step {t : Int} {s : ByteArray} {k : Nat} {xs : List Int} {y : Int} (h : WordTo t s k xs) (hy : tokO t (chr s k) = some y) : WordTo t s (k + 1) (xs ++ [y]) := by
  refine ⟨?_, fun j hj => ?_⟩
  · rw [List.range_succ, List.map_append, h.1]
    simp [tokD, hy]
  · by_cases e : j = k
    · subst e; rw [hy]; rfl
    · exact h.2 j (by omega)
theorem WordTo.len {t : Int} {s : ByteArray} {k : Nat} {xs : List Int} (h : WordTo t s k xs) : xs.length = k := by rw [h.1]; simp
theorem WordTo.all {t : Int} {s : ByteArray} {xs : List Int} (h : WordTo t s s.size xs) : badW t s = none := by
  unfold badW
  rw [List.find?_range_eq_none]
  intro j hj
  have := h.2 j hj
  cases e : tokO t (chr s j)
  · rw [e] at this; cases this
  · rfl
theorem WordTo.stops {t : Int} {s : ByteArray} {k : Nat} {xs : List Int} (h : WordTo t s k xs) (hk : k < s.size) (hn : tokO t (chr s k) = none) : badW t s = some k := by
  unfold badW
  rw [List.find?_range_eq_some]
  refine ⟨by rw [hn]; rfl, List.mem_range.2 hk, fun j hj => ?_⟩
  have := h.2 j hj
  cases e : tokO t (chr s j)
  · rw [e] at this; cases this
  · rfl
theorem WordTo.rwL {t : Int} {s : ByteArray} {xs : List Int} (h : WordTo t s s.size xs) : rwL t s = xs := by
  show (if (badW t s).isSome then [] else _) = _
  rw [h.all, h.1]
  rfl
theorem tokO_ok {t c x : Int} (hs : symN c = some x) (hp : nonB t (-1 - x) = true) : tokO t c = some (-1 - x) := by unfold tokO; rw [hs]; simp [hp]
theorem tokO_bad {t c x : Int} (hs : symN c = some x) (hp : nonB t (-1 - x) = false) : tokO t c = none := by unfold tokO; rw [hs]; simp [hp]
theorem tokO_none {t c : Int} (hs : symN c = none) : tokO t c = none := by unfold tokO; rw [hs]; rfl

/-- What readWord ends in: the word lies in the reader; or it gave up. -/
def WordRead (w : World) (R : Nat) (s : ByteArray) (n t : Int) (rv : Value) (e : Ending) (w' : World) : Prop :=
  Save (· = R) w w' ∧ ((badW t s = none ∧ e = .returned (.tuple #[]) ∧ ∃ A c, Rdr w' R s s.size n t rv (.slice A (rwL t s).length c) ∧ OwnI w' w.heap.size A (rwL t s)) ∨
    (∃ k : Nat, badW t s = some k ∧ e = .panicked [{ v := faultV 3 k, recovered := false }]))

theorem neq_end {c : Int} (h : 0 ≤ c) : (c != -1) = true := by simp; omega
theorem chr_nn {s : ByteArray} {k : Nat} (h : k < s.size) : 0 ≤ chr s k := by rw [chr_at h]; omega

theorem Save.grown {S : Nat → Prop} {a w w' : World} {row : Option Nat} (h : Save S a w) (hg : w.grownBy w' row) (hr : ∀ k, row = some k → a.heap.size ≤ k) : Save S a w' :=
  ⟨hg.os.trans h.os, hg.tape.trans h.tape, hg.output.trans h.output, Nat.le_trans h.size hg.size, fun b hb hs => (hg.block b (Nat.lt_of_lt_of_le hb h.size) (fun e => by have := hr b e.symm; omega)).trans (h.block b hb hs)⟩
theorem ownsRow_save {S : Nat → Prop} {w w' : World} {lo size n : Nat} {e : TypeId} {v : Value} {xs : List Value} (h : w.ownsRow lo e size v n xs) (hs : Save S w w') (hS : ∀ b, lo ≤ b → ¬ S b) : w'.ownsRow lo e size v n xs := by
  obtain ⟨hl, h | ⟨g, cap, cur, e1, hlo, hg, e2, e3, e4, e5⟩⟩ := h
  · exact ⟨hl, .inl h⟩
  · exact ⟨hl, .inr ⟨g, cap, cur, e1, hlo, (hs.block g (Row.lt hg) (hS g hlo)).trans hg, e2, e3, e4, e5⟩⟩
theorem own_slice {w : World} {lo size n : Nat} {e : TypeId} {v : Value} {xs : List Value} (h : w.ownsRow lo e size v n xs) : ∃ A c, v = .slice A n c := by
  obtain ⟨_, ⟨e1, rfl⟩ | ⟨g, cap, cur, e1, _⟩⟩ := h
  · exact ⟨none, 0, e1⟩
  · exact ⟨_, cap, e1⟩
theorem own_far {w : World} {lo size n R : Nat} {e : TypeId} {v : Value} {xs : List Value} (h : w.ownsRow lo e size v n xs) (hR : R < lo) : some R ≠ v.ownBlock := fun e => by
  have := (h.lt _ e.symm).1
  omega

set_option maxRecDepth 20000 in
set_option maxHeartbeats 2000000 in
theorem readWord_any (R : Nat) (s : ByteArray) (n t : Int) (Ar : Option Addr) (m c : Nat) (w : World) (h : Rdr w R s 0 n t (.slice Ar m c) (.slice none 0 0)) (hz : s.size ≤ 1048576) (hN : NonT w) (hT : TokT w) (hRN : R ≠ 1) (hRT : R ≠ 0) :
    Calls Tryd.prog 58 #[.pointer (some ⟨R, 0, none⟩)] w (WordRead w R s n t (.slice Ar m c)) := by
  obtain ⟨i0, hi0, hz0, hz1, hz2⟩ := info_of Tryd.infoInt
  have hRlt := Row.lt h
  have HR := Lib.hid h; clear h
  have HN := Lib.hid hN; clear hN
  have HT := Lib.hid hT; clear hT
  go_enter Tryd.func58, Tryd.ntmps58
  go_wp2
  go_loopg [2] (s.size) (fun g _ wr => ∃ (k : Nat) (xs : List Int) (v : Value), g + k = s.size ∧ Hid (Rdr wr R s k n t (.slice Ar m c) v) ∧ Hid (wr.ownsRow w.heap.size 3 1 v xs.length (xs.map fun y => Value.int .i64 y)) ∧ Hid (Save (· = R) w wr) ∧ Hid (WordTo t s k xs))
  case atStart => exact ⟨0, [], .slice none 0 0, by omega, HR.out, ⟨rfl, .inl ⟨rfl, rfl⟩⟩, Save.refl _ _, WordTo.zero _ _⟩
  case round =>
    obtain ⟨k, xs, v, hk, HRk, HO, HS, HW⟩ := hrel
    have HNk : Hid (NonT wr) := fun j u hj => (World.cell?_of_block (HS.out.block _ HN.out.pos (Ne.symm hRN))).trans (HN.out j u hj)
    have HTk : Hid (TokT wr) := fun j u hj => (World.cell?_of_block (HS.out.block _ HT.out.pos (Ne.symm hRT))).trans (HT.out j u hj)
    by_cases hlt : k < s.size
    · have hne := neq_end (chr_nn hlt)
      go_wp2_with fail
      refine (next_any _ _ _ _ _ _ _ _ HRk.out (by omega)).mono ?_
      rintro e w1 ⟨rfl, hB1⟩
      have HB1 := Lib.hid hB1; clear hB1
      have HR1 := Lib.hid (HRk.out.below HB1.out (Nat.le_refl _))
      cases hs : symN (chr s k) with
      | none =>
        have HBD := Lib.hid (HW.out.stops hlt (tokO_none hs))
        have HSY := Lib.hid hs; clear hs
        go_wp2_with fail
        refine (readSymT_none _ _ _ _ _ _ _ _ _ _ HR1.out (by omega) (HNk.out.keep HB1.out (Nat.le_refl _)) (HTk.out.keep HB1.out (Nat.le_refl _)) HSY.out).mono ?_
        rintro e w2 ⟨rfl, hB2⟩
        go_wp2
        exact ⟨rfl, HS.out.trans (Save.of_below (HB1.out.trans (hB2.mono HB1.out.size))), .inr ⟨k, HBD.out, rfl⟩⟩
      | some x =>
        have hbd := symN_bd hs
        cases hp : nonB t (-1 - x) with
        | false =>
          have HBD := Lib.hid (HW.out.stops hlt (tokO_bad hs hp))
          have HSY := Lib.hid hs; clear hs
          have HP := Lib.hid hp; clear hp
          go_wp2_with fail
          refine (readSymT_bad _ _ _ _ _ _ _ _ _ _ HR1.out (by omega) (HNk.out.keep HB1.out (Nat.le_refl _)) (HTk.out.keep HB1.out (Nat.le_refl _)) HSY.out HP.out).mono ?_
          rintro e w2 ⟨rfl, hB2⟩
          go_wp2
          exact ⟨rfl, HS.out.trans (Save.of_below (HB1.out.trans (hB2.mono HB1.out.size))), .inr ⟨k, HBD.out, rfl⟩⟩
        | true =>
          have HWS := Lib.hid (HW.out.step (tokO_ok hs hp))
          have HSY := Lib.hid hs; clear hs
          have HP := Lib.hid hp; clear hp
          have hxl : xs.length < 1048577 := by rw [HW.out.len]; omega
          go_wp2_with fail
          refine (readSymT_ok _ _ _ _ _ _ _ _ _ _ HR1.out hz (HNk.out.keep HB1.out (Nat.le_refl _)) (HTk.out.keep HB1.out (Nat.le_refl _)) HSY.out HP.out).mono ?_
          rintro e w2 ⟨rfl, hR2, hS2⟩
          have HR2 := Lib.hid hR2
          have HS2 := Lib.hid ((Save.of_below (S := (· = R)) HB1.out).trans hS2); clear hS2
          have HO2 := Lib.hid (ownsRow_save HO.out HS2.out (fun b hb (hS : b = R) => by omega))
          have HSw := Lib.hid (HS.out.trans HS2.out)
          have hsz2 := HSw.out.size
          have c5 : w2.cell? ⟨R, 5, none⟩ = some v := HR2.out.cell 5
          have HRA : Hid (Row (w2.alloc (.cells #[.int .i64 (-1 - x)] 3)) R 65 #[.string s, .int .i64 ((k + 1 : Nat) : Int), .int .i64 n, .int .i64 t, .slice Ar m c, v]) := Row.alloc hR2 _
          clear hR2
          have hown := HO2.out.alloc (.cells #[.int .i64 (-1 - x)] 3)
          have HWn := Lib.hid hown; clear hown
          have hnew := cell_one_new w2 (.int .i64 (-1 - x)) 3
          have HNW := Lib.hid hnew; clear hnew
          have HNE := Lib.hid (own_far HO2.out hRlt)
          obtain ⟨Av, cv, rfl⟩ := own_slice HO2.out
          have hRs : R < (w2.alloc (.cells #[.int .i64 (-1 - x)] 3)).heap.size := by simp; omega
          have HRs := Lib.hid hRs; clear hRs
          go_wp2_with (at_builtin
                       refine wpList_append_own _ rfl (.tmp 12) (.tmp 15) _ rfl w.heap.size 3 i0 _ 1 8 Tryd.underlying34 hi0 hz0 hz1 hz2 rfl (by omega) _ _ _ rfl HWn.out ⟨w2.heap.size, 0, none⟩ 1 1 [.int .i64 (-1 - x)] rfl rfl HNW.out (by intro u hu; simp at hu; subst hu; rfl) (by unfold maxLen; omega) (by omega) (by simp; omega) ?_
                       intro v' w' h1 h2 h3
                       obtain ⟨A', c', rfl⟩ := own_slice h1
                       have hrow : Row w' R 65 _ := (h2.block R HRs.out HNE.out).trans HRA.out
                       have r5 : w'.cell? ⟨R, 5, none⟩ = some (.slice Av xs.length cv) := hrow.cell 5
                       have z5 : w'.frozen? ⟨R, 5, none⟩ = false := hrow.frozen 5
                       have HO1 := Lib.hid h1
                       have HG1 := Lib.hid h2
                       have HRW := Lib.hid hrow
                       clear h1 h2 h3 hrow)
          go_roundg (gk - 1)
          case measure => omega
          case rel =>
            refine ⟨k + 1, xs ++ [-1 - x], .slice A' (xs.length + 1) c', by omega, HRW.out.set 5 _, ?_, ?_, HWS.out⟩
            · show World.ownsRow _ _ _ _ _ _ _
              refine ownsRow_setCell_below ?_ hRlt _
              simpa using HO1.out
            · exact Save.setCell (S := (· = R)) (p := ⟨R, 5, none⟩) ((HSw.out.trans (Save.of_below (by go_grown))).grown HG1.out fun j hj => (HO2.out.lt j hj).1) rfl _
    · obtain rfl : k = s.size := by omega
      have hce : chr s s.size = -1 := chr_end hlt
      have HBD := Lib.hid HW.out.all
      have HRL := Lib.hid HW.out.rwL
      obtain ⟨Av, cv, rfl, hOI⟩ := ownI_of_row HO.out
      have HOI := Lib.hid hOI; clear hOI
      go_wp2_with fail
      refine (next_any _ _ _ _ _ _ _ _ HRk.out (by omega)).mono ?_
      rintro e w1 ⟨rfl, hB1⟩
      have HB1 := Lib.hid hB1; clear hB1
      go_wp2
      go_end0
      refine ⟨HS.out.trans (Save.of_below HB1.out), .inl ⟨HBD.out, rfl, Av, cv, ?_, ?_⟩⟩
      · rw [HRL.out]; exact HRk.out.below HB1.out (Nat.le_refl _)
      · rw [HRL.out]; exact HOI.out.below HB1.out (Nat.le_refl _)

end Go.Proofs.YtaaagcokjndaoaaDoor
