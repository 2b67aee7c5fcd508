/- What the laws' copy of lists of lists makes: new memory that reads as what was copied. -/
import Derived.Test.YtjfhkcoiomokoaaDoorTo
import Derived.Test.YtjfhkcoiomokoaaDoorLMem
namespace Go.Proofs.YtjfhkcoiomokoaaDoor
open Go.RowKit

theorem Tryd.infoIntS : (Tryd.prog.info? 25).map (fun i => (i.zero, i.size, i.bytes)) = some (some (.slice none 0 0), 1, 24) := by kernel_rfl

def zL (n : Nat) : Array Value := madeCells #[.slice none 0 0] n
theorem zL_size (n : Nat) : (zL n).size = n := size_madeCells _ _

theorem make_lists (n : Nat) (hn : n ≤ 1048576) (w : World) :
    (Instr.makeSlice 27 (.int .i64 (n : Int)) (.int .i64 (n : Int))).run Tryd.prog w = .ok (.slice (some ⟨w.heap.size, 0, none⟩) n n) (w.alloc (.cells (zL n) 25)) := by
  obtain ⟨i, hi, hz, hs, hb⟩ := info_of Tryd.infoIntS
  have h := run_make (P := Tryd.prog) w 27 25 i _ Tryd.underlying27 hi hz .i64 .i64 n n (by omega) (by omega) (by rw [hb]; omega) (by omega)
  rw [hs] at h
  simpa [zL, Value.cells] using h

/-- A new slice of lists that says what xs say; nothing older has turned. -/
def GaveL (w : World) (xs : List (List Int)) (e : Ending) (w' : World) : Prop :=
  ∃ A c ls, e = .returned (.slice A ls.length c) ∧ ls.length ≤ c ∧ OwnL w' w.heap.size A ls ∧ sayL ls = xs ∧ Below w.heap.size w w'

/-- The first k of n lists have been put into block g; they read as done. -/
def FillL (w : World) (lo g n : Nat) (done : List Li) : Prop :=
  ∃ (cs : Array Value), Row w g 25 cs ∧ cs.size = n ∧
    (∀ (j : Nat) (u : Li), done[j]? = some u → cs[j]? = some (.slice u.a u.r.length u.c) ∧ u.r.length ≤ u.c ∧ OwnI w lo u.a u.r) ∧
    ∀ (i j : Nat) (u v : Li), done[i]? = some u → done[j]? = some v → i ≠ j → u.r ≠ [] → v.r ≠ [] → u.a ≠ v.a

theorem getElem?_snoc {α : Type} {xs : List α} {y u : α} {i : Nat} (h : (xs ++ [y])[i]? = some u) : (i < xs.length ∧ xs[i]? = some u) ∨ (i = xs.length ∧ u = y) := by
  by_cases e : i < xs.length
  · rw [List.getElem?_append_left e] at h; exact .inl ⟨e, h⟩
  · rw [List.getElem?_append_right (by omega)] at h
    have hj : i - xs.length = 0 := by
      rcases Nat.eq_zero_or_pos (i - xs.length) with h0 | h0
      · exact h0
      · rw [List.getElem?_eq_none (by simp; omega)] at h; cases h
    rw [hj] at h
    simp at h
    exact .inr ⟨by omega, h.symm⟩

/-- Lists that lie apart stay so with one more in newer memory. -/
theorem apart_snoc {w : World} {lo : Nat} {done : List Li} {v : Li} {w1 : World}
    (hd : ∀ (i j : Nat) (u v : Li), done[i]? = some u → done[j]? = some v → i ≠ j → u.r ≠ [] → v.r ≠ [] → u.a ≠ v.a)
    (hc : ∀ (j : Nat) (u : Li), done[j]? = some u → OwnI w lo u.a u.r) (hO : OwnI w1 w.heap.size v.a v.r) :
    ∀ (i j : Nat) (u x : Li), (done ++ [v])[i]? = some u → (done ++ [v])[j]? = some x → i ≠ j → u.r ≠ [] → x.r ≠ [] → u.a ≠ x.a := by
  have old : ∀ (i : Nat) (u : Li), done[i]? = some u → u.r ≠ [] → v.r ≠ [] → u.a ≠ v.a := by
    intro i u hu hne hne' he
    rcases hc i u hu with h3 | ⟨g1, _, e1, _, r1, _⟩
    · exact hne h3
    · rcases hO with h4 | ⟨g2, _, e2, l2, _, _⟩
      · exact hne' h4
      · rw [e1, e2] at he
        have := r1.lt
        injection he with he
        injection he with he
        omega
  intro i j u x hu hx hij hun hxn
  rcases getElem?_snoc hu with ⟨_, hu'⟩ | ⟨hi, ei⟩ <;> rcases getElem?_snoc hx with ⟨_, hx'⟩ | ⟨hj, ej⟩
  · exact hd i j u x hu' hx' hij hun hxn
  · rw [ej]; exact old i u hu' hun (ej ▸ hxn)
  · rw [ei]; exact fun e => old j x hx' hxn (ei ▸ hun) e.symm
  · omega

theorem OwnI.farL {w : World} {lo g : Nat} {A : Option Addr} {xs : List Int} {cs : Array Value} (h : OwnI w lo A xs) (hr : Row w g 25 cs) (i : Nat) (v : Value) : OwnI (w.setCell ⟨g, i, none⟩ v) lo A xs := by
  rcases h with h | ⟨g', cs', e, hl', hr', hc'⟩
  · exact .inl h
  · have hne : g' ≠ g := hr'.ne hr (by decide)
    exact .inr ⟨g', cs', e, hl', hr'.far hne _, hc'⟩

theorem FillL.step {w w1 : World} {lo g n : Nat} {done : List Li} (h : FillL w lo g n done) (hlo : lo ≤ w.heap.size) (hk : done.length < n) (hb : Below w.heap.size w w1) {A : Option Addr} {xs : List Int} {c : Nat} (hcap : xs.length ≤ c) (hO : OwnI w1 w.heap.size A xs) :
    FillL (w1.setCell ⟨g, done.length, none⟩ (.slice A xs.length c)) lo g n (done ++ [⟨A, xs, c⟩]) := by
  obtain ⟨cs, hr, hs, hc, hd⟩ := h
  have hg : g < w.heap.size := hr.lt
  have hr1 : Row w1 g 25 cs := hr.below hb hg
  refine ⟨cs.setIfInBounds done.length (.slice A xs.length c), hr1.set _ _, by simp [hs], ?_, apart_snoc hd (fun j u hu => (hc j u hu).2.2) (v := ⟨A, xs, c⟩) hO⟩
  intro j u hu
  rcases getElem?_snoc hu with ⟨hj, hu⟩ | ⟨rfl, rfl⟩
  · obtain ⟨h1, h2, h3⟩ := hc j u hu
    refine ⟨?_, h2, (h3.below hb (Nat.le_refl _)).farL hr1 _ _⟩
    rw [Array.getElem?_setIfInBounds, if_neg (by omega)]; exact h1
  · refine ⟨?_, hcap, (hO.lower hlo).farL hr1 _ _⟩
    rw [Array.getElem?_setIfInBounds, if_pos rfl, if_pos (by omega)]

theorem FillL.row {w : World} {lo g n : Nat} {done : List Li} (h : FillL w lo g n done) : ∃ cs, Row w g 25 cs ∧ cs.size = n := by
  obtain ⟨cs, hr, hs, _⟩ := h
  exact ⟨cs, hr, hs⟩

theorem FillL.own {w : World} {lo g n : Nat} {done : List Li} (h : FillL w lo g n done) (hg : lo ≤ g) : OwnL w lo (some ⟨g, 0, none⟩) done := by
  obtain ⟨cs, hr, _, hc, hd⟩ := h
  exact .inr ⟨g, cs, rfl, hg, hr, hc, hd⟩

theorem say_step {ls : List Li} {done : List Li} {k : Nat} (hk : k < ls.length) (h : sayL done = sayL (ls.take k)) {A : Option Addr} {c : Nat} : sayL (done ++ [⟨A, ls[k].r, c⟩]) = sayL (ls.take (k + 1)) := by
  unfold sayL at h ⊢
  rw [List.map_append, h, List.take_succ_eq_append_getElem hk, List.map_append]; rfl
theorem say_take_len {ls done : List Li} {k : Nat} (hk : k ≤ ls.length) (h : sayL done = sayL (ls.take k)) : done.length = k := by
  rw [sayL_len' h, sayL_len, List.length_take]; omega

set_option maxHeartbeats 400000 in
theorem toIntSS_any (A : Option Addr) (ls : List Li) (c : Nat) (w : World) (hr : Lls w w.heap.size A ls) (hn : ls.length ≤ 1048576) (hu : ∀ u ∈ ls, u.r.length ≤ 1048576) :
    Calls Tryd.prog 69 #[.slice A ls.length c] w (GaveL w (sayL ls)) := by
  have hmk := make_lists ls.length hn
  have HR := Lib.hid hr; clear hr
  have HU := Lib.hid hu; clear hu
  go_enter Tryd.func69, Tryd.ntmps69
  go_wp2
  go_loopw [4] (fun i wr => ∃ (k : Nat) (done : List Li), k ≤ ls.length ∧ i = .int .i64 k ∧ w.heap.size < wr.heap.size ∧ Below w.heap.size w wr ∧ Hid (sayL done = sayL (ls.take k)) ∧ Hid (FillL wr w.heap.size w.heap.size ls.length done)) (fun i _ => ls.length - (intOf i).toNat)
  case atStart => exact ⟨0, [], by omega, rfl, by simp, (Below.refl _ _).alloc (Nat.le_refl _) _, by simp [sayL, Hid], zL ls.length, Row.new _ _ _, zL_size _, fun j u h => by simp at h, fun i j u v h => by simp at h⟩
  case round =>
    obtain ⟨k, done, hk, rfl, hsz, hB, HT, H⟩ := hrel
    clear hmk
    by_cases hlt : k < ls.length
    · obtain ⟨b, o, rfl, hb, c1, c2, c3⟩ := (HR.out.keep hB).at_ hlt
      have C3 := Lib.hid (c3.more hB.size); clear c3
      have hlen := HU.out ls[k] (List.getElem_mem hlt)
      go_wp2_with fail
      refine (toIntS_any _ _ _ _ C3.out hlen).mono ?_
      rintro e w1 ⟨A1, k1, rfl, hcap, hO, hB1⟩
      obtain ⟨cs, hcs, hcz⟩ := H.out.row
      have hr1 := hcs.below hB1 hsz
      obtain ⟨x0, d0⟩ : ∃ x0, w1.cell? ⟨w.heap.size, k, none⟩ = some x0 := ⟨_, (hr1.cell k).trans (Array.getElem?_eq_getElem (by omega))⟩
      have f0 := hr1.frozen k
      have HO := Lib.hid hO; clear hO
      have HB1 := Lib.hid hB1; clear hB1
      have HC := Lib.hid hcap; clear hcap
      clear hr1 hcs hcz
      go_wp2
      go_roundw
      case rel =>
        obtain rfl : done.length = k := say_take_len hk HT.out
        exact ⟨done.length + 1, done ++ [⟨A1, ls[done.length].r, k1⟩], by omega, by go_num, by have := HB1.out.size; simp; omega, ((hB.trans (HB1.out.mono hB.size)).setCell (Nat.le_refl _) _), Lib.hid (say_step hlt HT.out), Lib.hid (H.out.step hB.size hlt HB1.out HC.out HO.out)⟩
      case measure => simp [intOf]; omega
    · go_wp2
      go_ret
      obtain rfl : k = ls.length := by omega
      have hl := say_take_len hk HT.out
      have ht := HT.out
      rw [List.take_length] at ht
      exact ⟨some ⟨w.heap.size, 0, none⟩, ls.length, done, by rw [hl]; rfl, by omega, H.out.own (Nat.le_refl _), ht, hB⟩

end Go.Proofs.YtjfhkcoiomokoaaDoor
