/- What it means that a slice in memory reads as a list of lists of numbers, and that this is kept while only newer memory is written. No condition. -/
import Derived.Test.YtfbpcdmpkbjifaaDoorC801

namespace Go.Proofs.YtfbpcdmpkbjifaaDoor
open Go.RowKit

/-- A list as it lies in memory: where it lies, what it reads as, its capacity. -/
structure Li where
  a : Option Addr
  r : List Int
  c : Nat

/-- The cells from A on read as the lists ls, below block B. -/
def Lls (w : World) (B : Nat) (A : Option Addr) (ls : List Li) : Prop :=
  0 < ls.length → ∃ b o, A = some ⟨b, o, none⟩ ∧ b < B ∧ ∀ k u, ls[k]? = some u →
    w.cell? ⟨b, o + k, none⟩ = some (.slice u.a u.r.length u.c) ∧ u.r.length ≤ u.c ∧ Ints w B u.a u.r

theorem Lls.keep {w w' : World} {B : Nat} {A : Option Addr} {ls : List Li} (h : Lls w B A ls) (hk : Below B w w') : Lls w' B A ls := by
  intro hn
  obtain ⟨b, o, e, hb, hc⟩ := h hn
  refine ⟨b, o, e, hb, fun k u hu => ?_⟩
  obtain ⟨h1, h2, h3⟩ := hc k u hu
  exact ⟨(hk.cell (p := ⟨b, o + k, none⟩) hb).trans h1, h2, h3.keep hk⟩

theorem Lls.more {w : World} {B B' : Nat} {A : Option Addr} {ls : List Li} (h : Lls w B A ls) (hB : B ≤ B') : Lls w B' A ls := by
  intro hn
  obtain ⟨b, o, e, hb, hc⟩ := h hn
  refine ⟨b, o, e, by omega, fun k u hu => ?_⟩
  obtain ⟨h1, h2, h3⟩ := hc k u hu
  exact ⟨h1, h2, h3.more hB⟩

theorem Lls.at_ {w : World} {B : Nat} {A : Option Addr} {ls : List Li} (h : Lls w B A ls) {k : Nat} (hk : k < ls.length) :
    ∃ b o, A = some ⟨b, o, none⟩ ∧ b < B ∧ w.cell? ⟨b, o + k, none⟩ = some (.slice ls[k].a ls[k].r.length ls[k].c) ∧ ls[k].r.length ≤ ls[k].c ∧ Ints w B ls[k].a ls[k].r := by
  obtain ⟨b, o, e, hb, hc⟩ := h (by omega)
  exact ⟨b, o, e, hb, hc k _ (List.getElem?_eq_getElem hk)⟩

/-- What lists say, wherever they lie. -/
def sayL (ls : List Li) : List (List Int) := ls.map Li.r

theorem sayL_len {ls : List Li} : (sayL ls).length = ls.length := List.length_map _
theorem sayL_len' {ls : List Li} {xs : List (List Int)} (h : sayL ls = xs) : ls.length = xs.length := by rw [← h, sayL_len]
theorem sayL_at {ls : List Li} {k : Nat} (hk : k < ls.length) : (sayL ls)[k]? = some ls[k].r := by simp [sayL, List.getElem?_eq_getElem hk]
theorem sayL_mem {ls : List Li} {u : Li} (hu : u ∈ ls) : u.r ∈ sayL ls := List.mem_map.2 ⟨u, hu, rfl⟩

/-- No list is longer than m. -/
def ShortL (m : Nat) (xs : List (List Int)) : Prop := ∀ x ∈ xs, x.length ≤ m

/-- The slice of lists that begins at A, and each of the lists, are the call's own and read as ls; no two lists lie in one block. -/
def OwnL (w : World) (lo : Nat) (A : Option Addr) (ls : List Li) : Prop :=
  ls = [] ∨ ∃ (g : Nat) (cs : Array Value), A = some ⟨g, 0, none⟩ ∧ lo ≤ g ∧ Row w g 22 cs ∧
    (∀ (k : Nat) (u : Li), ls[k]? = some u → cs[k]? = some (.slice u.a u.r.length u.c) ∧ u.r.length ≤ u.c ∧ OwnI w lo u.a u.r) ∧
    ∀ (i j : Nat) (u v : Li), ls[i]? = some u → ls[j]? = some v → i ≠ j → u.r ≠ [] → v.r ≠ [] → u.a ≠ v.a

theorem OwnL.lls {w : World} {lo : Nat} {A : Option Addr} {ls : List Li} (h : OwnL w lo A ls) : Lls w w.heap.size A ls := by
  intro hn
  rcases h with rfl | ⟨g, cs, rfl, _, hr, hc, _⟩
  · simp at hn
  · refine ⟨g, 0, rfl, hr.lt, fun k u hu => ?_⟩
    obtain ⟨h1, h2, h3⟩ := hc k u hu
    exact ⟨by rw [hr.cell, Nat.zero_add]; exact h1, h2, h3.ints⟩

theorem OwnL.below {w w' : World} {lo B : Nat} {A : Option Addr} {ls : List Li} (h : OwnL w lo A ls) (hb : Below B w w') (hB : w.heap.size ≤ B) : OwnL w' lo A ls := by
  rcases h with h | ⟨g, cs, e, hl, hr, hc, hd⟩
  · exact .inl h
  · refine .inr ⟨g, cs, e, hl, hr.below hb (by have := hr.lt; omega), fun k u hu => ?_, hd⟩
    obtain ⟨h1, h2, h3⟩ := hc k u hu
    exact ⟨h1, h2, h3.below hb hB⟩

theorem OwnL.lower {w : World} {lo lo' : Nat} {A : Option Addr} {ls : List Li} (h : OwnL w lo A ls) (hl : lo' ≤ lo) : OwnL w lo' A ls := by
  rcases h with h | ⟨g, cs, e, h1, hr, hc, hd⟩
  · exact .inl h
  · refine .inr ⟨g, cs, e, by omega, hr, fun k u hu => ?_, hd⟩
    obtain ⟨a, b, c⟩ := hc k u hu
    exact ⟨a, b, c.lower hl⟩

theorem OwnL.low {w : World} {lo : Nat} {A : Option Addr} {ls : List Li} (h : OwnL w lo A ls) {p : Addr} (hp : p.block < lo) (u : Value) : OwnL (w.setCell p u) lo A ls := by
  rcases h with h | ⟨g, cs, e, hl, hr, hc, hd⟩
  · exact .inl h
  · refine .inr ⟨g, cs, e, hl, hr.far (by omega) u, fun k v hv => ?_, hd⟩
    obtain ⟨h1, h2, h3⟩ := hc k v hv
    exact ⟨h1, h2, h3.low hp u⟩

end Go.Proofs.YtfbpcdmpkbjifaaDoor

/- What the laws' size counters answer of lists of lists, and of a binary grammar. -/

namespace Go.Proofs.YtfbpcdmpkbjifaaDoor
open Go.RowKit

/-- The lists, one after the other. -/
def szL : List (List Int) → Int → Int
  | [], L => L
  | u :: r, L => if szI u.length L < 0 then -1 else szL r (szI u.length L)

def szLs (xs : List (List Int)) (L : Int) : Int := if L - xs.length < 0 then -1 else szL xs (L - xs.length)

theorem szL_ge : ∀ (rs : List (List Int)) {L : Int}, 0 ≤ L → -1 ≤ szL rs L ∧ (0 ≤ szL rs L → szL rs L ≤ L ∧ ∀ u ∈ rs, (u.length : Int) ≤ L)
  | [], L, _h => by simp [szL]; omega
  | u :: r, L, _h => by
    simp only [szL]
    split
    · simp
    · rename_i hn
      have h1 : szI u.length L = L - u.length := by unfold szI at hn ⊢; split <;> simp_all
      have ih := szL_ge r (L := szI u.length L) (by omega)
      refine ⟨ih.1, fun hp => ?_⟩
      obtain ⟨a, b⟩ := ih.2 hp
      refine ⟨by omega, fun v hv => ?_⟩
      rcases List.mem_cons.1 hv with rfl | hv
      · omega
      · have := b v hv; omega

theorem szLs_ge (rs : List (List Int)) {L : Int} (_h : 0 ≤ L) : -1 ≤ szLs rs L ∧ szLs rs L ≤ L := by
  unfold szLs; split
  · omega
  · have h := szL_ge rs (L := L - rs.length) (by omega)
    refine ⟨h.1, ?_⟩
    by_cases hp : 0 ≤ szL rs (L - rs.length)
    · have := (h.2 hp).1; omega
    · omega

/-- Where the count is not negative, the lists and each of them are no more than it began with. -/
theorem szLs_bound {rs : List (List Int)} {L : Int} (_h : 0 ≤ L) (hp : 0 ≤ szLs rs L) : (rs.length : Int) ≤ L ∧ ∀ u ∈ rs, (u.length : Int) ≤ L := by
  unfold szLs at hp
  split at hp
  · omega
  · obtain ⟨_, b⟩ := (szL_ge rs (L := L - rs.length) (by omega)).2 hp
    exact ⟨by omega, fun u hu => by have := b u hu; omega⟩

theorem szL_drop {ls : List Li} {k : Nat} (hk : k < ls.length) (L : Int) : szL (sayL (ls.drop k)) L = if szI ls[k].r.length L < 0 then -1 else szL (sayL (ls.drop (k + 1))) (szI ls[k].r.length L) := by
  rw [List.drop_eq_getElem_cons hk]; rfl

set_option maxHeartbeats 400000 in
theorem szIntSS_any (A : Option Addr) (ls : List Li) (c : Nat) (L : Int) (w : World) (hr : Lls w w.heap.size A ls) (hn : ls.length ≤ maxLen) (hu : ∀ u ∈ ls, u.r.length ≤ maxLen) (h0 : 0 ≤ L) (h1 : L ≤ 1048576) :
    Calls Tryd.prog 86 #[.slice A ls.length c, .int .i64 L] w fun e w' => e = .returned (.int .i64 (szLs (sayL ls) L)) ∧ Below w.heap.size w w' := by
  unfold maxLen at hn
  by_cases h : L - ls.length < 0
  · have hs : Hid (szLs (sayL ls) L = -1) := by show szLs (sayL ls) L = -1; unfold szLs; rw [sayL_len, if_pos h]
    have HU := Lib.hid hu; clear hu
    have HR := Lib.hid hr; clear hr
    go_enter Tryd.func86, Tryd.ntmps86
    go_wp2
    go_ret
    exact ⟨by rw [hs.out]; rfl, Below.refl _ _⟩
  · have hs : Hid (szLs (sayL ls) L = szL (sayL ls) (L - ls.length)) := by show szLs (sayL ls) L = _; unfold szLs; rw [sayL_len, if_neg h]
    have HU := Lib.hid hu; clear hu
    have HR := Lib.hid hr; clear hr
    go_enter Tryd.func86, Tryd.ntmps86
    go_wp2
    go_loopw [1, 5] (fun l i wr => ∃ (k : Nat) (M : Int), k ≤ ls.length ∧ i = .int .i64 k ∧ l = .int .i64 M ∧ 0 ≤ M ∧ M ≤ 1048576 ∧ Hid (szLs (sayL ls) L = szL (sayL (ls.drop k)) M) ∧ Below w.heap.size w wr) (fun _ i _ => ls.length - (intOf i).toNat)
    case atStart => exact ⟨0, L - ls.length, by omega, rfl, rfl, by omega, by omega, hs, Below.refl _ _⟩
    case round =>
      obtain ⟨k, M, hk, rfl, rfl, hM0, hM1, hS, hB⟩ := hrel
      by_cases hlt : k < ls.length
      · obtain ⟨b, o, rfl, hb, c1, c2, c3⟩ := (HR.out.keep hB).at_ hlt
        have hl := szI_le (n := ls[k].r.length) hM0
        have hlen := HU.out ls[k] (List.getElem_mem hlt)
        have HS : Hid (szLs (sayL ls) L = if szI ls[k].r.length M < 0 then -1 else szL (sayL (ls.drop (k + 1))) (szI ls[k].r.length M)) := by show _ = _; rw [hS.out, szL_drop hlt]
        clear hS c3
        by_cases hneg : szI ls[k].r.length M < 0
        · go_wp2_with (go_at_call 87; refine (szIntS_any _ _ _ _ _ hlen hM0 hM1).mono ?_; rintro e w' ⟨rfl, rfl⟩)
          go_ret
          exact ⟨ret_int (by rw [HS.out, if_pos hneg]), hB⟩
        · go_wp2_with (go_at_call 87; refine (szIntS_any _ _ _ _ _ hlen hM0 hM1).mono ?_; rintro e w' ⟨rfl, rfl⟩)
          go_roundw
          case rel => exact ⟨k + 1, _, by omega, by go_num, rfl, by omega, by omega, by show _ = _; rw [HS.out, if_neg (by omega)], hB⟩
          case measure => simp [intOf]; omega
      · go_wp2
        go_ret
        exact ⟨ret_int (by rw [hS.out, List.drop_of_length_le (by omega)]; rfl), hB⟩

end Go.Proofs.YtfbpcdmpkbjifaaDoor

/- What the laws' copy of lists of lists makes: new memory that reads as what was copied. -/

namespace Go.Proofs.YtfbpcdmpkbjifaaDoor
open Go.RowKit

theorem Tryd.infoIntS : (Tryd.prog.info? 22).map (fun i => (i.zero, i.size, i.bytes)) = some (some (.slice none 0 0), 1, 24) := by kernel_rfl

def zL (n : Nat) : Array Value := madeCells #[.slice none 0 0] n
theorem zL_size (n : Nat) : (zL n).size = n := size_madeCells _ _

theorem make_lists (n : Nat) (hn : n ≤ 1048576) (w : World) :
    (Instr.makeSlice 39 (.int .i64 (n : Int)) (.int .i64 (n : Int))).run Tryd.prog w = .ok (.slice (some ⟨w.heap.size, 0, none⟩) n n) (w.alloc (.cells (zL n) 22)) := by
  obtain ⟨i, hi, hz, hs, hb⟩ := info_of Tryd.infoIntS
  have h := run_make (P := Tryd.prog) w 39 22 i _ Tryd.underlying39 hi hz .i64 .i64 n n (by omega) (by omega) (by rw [hb]; omega) (by omega)
  rw [hs] at h
  simpa [zL, Value.cells] using h

/-- A new slice of lists that says what xs say; nothing older has turned. -/
def GaveL (w : World) (xs : List (List Int)) (e : Ending) (w' : World) : Prop :=
  ∃ A c ls, e = .returned (.slice A ls.length c) ∧ ls.length ≤ c ∧ OwnL w' w.heap.size A ls ∧ sayL ls = xs ∧ Below w.heap.size w w'

/-- The first k of n lists have been put into block g; they read as done. -/
def FillL (w : World) (lo g n : Nat) (done : List Li) : Prop :=
  ∃ (cs : Array Value), Row w g 22 cs ∧ cs.size = n ∧
    (∀ (j : Nat) (u : Li), done[j]? = some u → cs[j]? = some (.slice u.a u.r.length u.c) ∧ u.r.length ≤ u.c ∧ OwnI w lo u.a u.r) ∧
    ∀ (i j : Nat) (u v : Li), done[i]? = some u → done[j]? = some v → i ≠ j → u.r ≠ [] → v.r ≠ [] → u.a ≠ v.a

theorem getElem?_snoc {α : Type} {xs : List α} {y u : α} {i : Nat} (h : (xs ++ [y])[i]? = some u) : (i < xs.length ∧ xs[i]? = some u) ∨ (i = xs.length ∧ u = y) := by
  by_cases e : i < xs.length
  · rw [List.getElem?_append_left e] at h; exact .inl ⟨e, h⟩
  · rw [List.getElem?_append_right (by omega)] at h
    have hj : i - xs.length = 0 := by
      rcases Nat.eq_zero_or_pos (i - xs.length) with h0 | h0
      · exact h0
      · rw [List.getElem?_eq_none (by simp; omega)] at h; cases h
    rw [hj] at h
    simp at h
    exact .inr ⟨by omega, h.symm⟩

/-- Lists that lie apart stay so with one more in newer memory. -/
theorem apart_snoc {w : World} {lo : Nat} {done : List Li} {v : Li} {w1 : World}
    (hd : ∀ (i j : Nat) (u v : Li), done[i]? = some u → done[j]? = some v → i ≠ j → u.r ≠ [] → v.r ≠ [] → u.a ≠ v.a)
    (hc : ∀ (j : Nat) (u : Li), done[j]? = some u → OwnI w lo u.a u.r) (hO : OwnI w1 w.heap.size v.a v.r) :
    ∀ (i j : Nat) (u x : Li), (done ++ [v])[i]? = some u → (done ++ [v])[j]? = some x → i ≠ j → u.r ≠ [] → x.r ≠ [] → u.a ≠ x.a := by
  have old : ∀ (i : Nat) (u : Li), done[i]? = some u → u.r ≠ [] → v.r ≠ [] → u.a ≠ v.a := by
    intro i u hu hne hne' he
    rcases hc i u hu with h3 | ⟨g1, _, e1, _, r1, _⟩
    · exact hne h3
    · rcases hO with h4 | ⟨g2, _, e2, l2, _, _⟩
      · exact hne' h4
      · rw [e1, e2] at he
        have := r1.lt
        injection he with he
        injection he with he
        omega
  intro i j u x hu hx hij hun hxn
  rcases getElem?_snoc hu with ⟨_, hu'⟩ | ⟨hi, ei⟩ <;> rcases getElem?_snoc hx with ⟨_, hx'⟩ | ⟨hj, ej⟩
  · exact hd i j u x hu' hx' hij hun hxn
  · rw [ej]; exact old i u hu' hun (ej ▸ hxn)
  · rw [ei]; exact fun e => old j x hx' hxn (ei ▸ hun) e.symm
  · omega

theorem OwnI.farL {w : World} {lo g : Nat} {A : Option Addr} {xs : List Int} {cs : Array Value} (h : OwnI w lo A xs) (hr : Row w g 22 cs) (i : Nat) (v : Value) : OwnI (w.setCell ⟨g, i, none⟩ v) lo A xs := by
  rcases h with h | ⟨g', cs', e, hl', hr', hc'⟩
  · exact .inl h
  · have hne : g' ≠ g := hr'.ne hr (by decide)
    exact .inr ⟨g', cs', e, hl', hr'.far hne _, hc'⟩

theorem FillL.step {w w1 : World} {lo g n : Nat} {done : List Li} (h : FillL w lo g n done) (hlo : lo ≤ w.heap.size) (hk : done.length < n) (hb : Below w.heap.size w w1) {A : Option Addr} {xs : List Int} {c : Nat} (hcap : xs.length ≤ c) (hO : OwnI w1 w.heap.size A xs) :
    FillL (w1.setCell ⟨g, done.length, none⟩ (.slice A xs.length c)) lo g n (done ++ [⟨A, xs, c⟩]) := by
  obtain ⟨cs, hr, hs, hc, hd⟩ := h
  have hg : g < w.heap.size := hr.lt
  have hr1 : Row w1 g 22 cs := hr.below hb hg
  refine ⟨cs.setIfInBounds done.length (.slice A xs.length c), hr1.set _ _, by simp [hs], ?_, apart_snoc hd (fun j u hu => (hc j u hu).2.2) (v := ⟨A, xs, c⟩) hO⟩
  intro j u hu
  rcases getElem?_snoc hu with ⟨hj, hu⟩ | ⟨rfl, rfl⟩
  · obtain ⟨h1, h2, h3⟩ := hc j u hu
    refine ⟨?_, h2, (h3.below hb (Nat.le_refl _)).farL hr1 _ _⟩
    rw [Array.getElem?_setIfInBounds, if_neg (by omega)]; exact h1
  · refine ⟨?_, hcap, (hO.lower hlo).farL hr1 _ _⟩
    rw [Array.getElem?_setIfInBounds, if_pos rfl, if_pos (by omega)]

theorem FillL.row {w : World} {lo g n : Nat} {done : List Li} (h : FillL w lo g n done) : ∃ cs, Row w g 22 cs ∧ cs.size = n := by
  obtain ⟨cs, hr, hs, _⟩ := h
  exact ⟨cs, hr, hs⟩

theorem FillL.own {w : World} {lo g n : Nat} {done : List Li} (h : FillL w lo g n done) (hg : lo ≤ g) : OwnL w lo (some ⟨g, 0, none⟩) done := by
  obtain ⟨cs, hr, _, hc, hd⟩ := h
  exact .inr ⟨g, cs, rfl, hg, hr, hc, hd⟩

theorem say_step {ls : List Li} {done : List Li} {k : Nat} (hk : k < ls.length) (h : sayL done = sayL (ls.take k)) {A : Option Addr} {c : Nat} : sayL (done ++ [⟨A, ls[k].r, c⟩]) = sayL (ls.take (k + 1)) := by
  unfold sayL at h ⊢
  rw [List.map_append, h, List.take_succ_eq_append_getElem hk, List.map_append]; rfl
theorem say_take_len {ls done : List Li} {k : Nat} (hk : k ≤ ls.length) (h : sayL done = sayL (ls.take k)) : done.length = k := by
  rw [sayL_len' h, sayL_len, List.length_take]; omega

set_option maxHeartbeats 400000 in
theorem toIntSS_any (A : Option Addr) (ls : List Li) (c : Nat) (w : World) (hr : Lls w w.heap.size A ls) (hn : ls.length ≤ 1048576) (hu : ∀ u ∈ ls, u.r.length ≤ 1048576) :
    Calls Tryd.prog 92 #[.slice A ls.length c] w (GaveL w (sayL ls)) := by
  have hmk := make_lists ls.length hn
  have HR := Lib.hid hr; clear hr
  have HU := Lib.hid hu; clear hu
  go_enter Tryd.func92, Tryd.ntmps92
  go_wp2
  go_loopw [4] (fun i wr => ∃ (k : Nat) (done : List Li), k ≤ ls.length ∧ i = .int .i64 k ∧ w.heap.size < wr.heap.size ∧ Below w.heap.size w wr ∧ Hid (sayL done = sayL (ls.take k)) ∧ Hid (FillL wr w.heap.size w.heap.size ls.length done)) (fun i _ => ls.length - (intOf i).toNat)
  case atStart => exact ⟨0, [], by omega, rfl, by simp, (Below.refl _ _).alloc (Nat.le_refl _) _, by simp [sayL, Hid], zL ls.length, Row.new _ _ _, zL_size _, fun j u h => by simp at h, fun i j u v h => by simp at h⟩
  case round =>
    obtain ⟨k, done, hk, rfl, hsz, hB, HT, H⟩ := hrel
    clear hmk
    by_cases hlt : k < ls.length
    · obtain ⟨b, o, rfl, hb, c1, c2, c3⟩ := (HR.out.keep hB).at_ hlt
      have C3 := Lib.hid (c3.more hB.size); clear c3
      have hlen := HU.out ls[k] (List.getElem_mem hlt)
      go_wp2_with fail
      refine (toIntS_any _ _ _ _ C3.out hlen).mono ?_
      rintro e w1 ⟨A1, k1, rfl, hcap, hO, hB1⟩
      obtain ⟨cs, hcs, hcz⟩ := H.out.row
      have hr1 := hcs.below hB1 hsz
      obtain ⟨x0, d0⟩ : ∃ x0, w1.cell? ⟨w.heap.size, k, none⟩ = some x0 := ⟨_, (hr1.cell k).trans (Array.getElem?_eq_getElem (by omega))⟩
      have f0 := hr1.frozen k
      have HO := Lib.hid hO; clear hO
      have HB1 := Lib.hid hB1; clear hB1
      have HC := Lib.hid hcap; clear hcap
      clear hr1 hcs hcz
      go_wp2
      go_roundw
      case rel =>
        obtain rfl : done.length = k := say_take_len hk HT.out
        exact ⟨done.length + 1, done ++ [⟨A1, ls[done.length].r, k1⟩], by omega, by go_num, by have := HB1.out.size; simp; omega, ((hB.trans (HB1.out.mono hB.size)).setCell (Nat.le_refl _) _), Lib.hid (say_step hlt HT.out), Lib.hid (H.out.step hB.size hlt HB1.out HC.out HO.out)⟩
      case measure => simp [intOf]; omega
    · go_wp2
      go_ret
      obtain rfl : k = ls.length := by omega
      have hl := say_take_len hk HT.out
      have ht := HT.out
      rw [List.take_length] at ht
      exact ⟨some ⟨w.heap.size, 0, none⟩, ls.length, done, by rw [hl]; rfl, by omega, H.out.own (Nat.le_refl _), ht, hB⟩

end Go.Proofs.YtfbpcdmpkbjifaaDoor

/- What the laws' comparison of lists of lists answers. -/

namespace Go.Proofs.YtfbpcdmpkbjifaaDoor
open Go.RowKit

def eqLs (xs ys : List (List Int)) : Bool := decide (xs = ys)
theorem eqLs_t {u v : List (List Int)} (h : u = v) : eqLs u v = true := decide_eq_true h
theorem eqLs_f {u v : List (List Int)} (h : u ≠ v) : eqLs u v = false := decide_eq_false h

theorem step_eqLs {rs ss : List Li} {k : Nat} (hx : k < rs.length) (hy : k < ss.length) (he : eqL rs[k].r ss[k].r = true) (h : ∀ j : Nat, j < k → (sayL rs)[j]? = (sayL ss)[j]?) :
    ∀ j : Nat, j < k + 1 → (sayL rs)[j]? = (sayL ss)[j]? := by
  intro j hj
  by_cases e : j = k
  · subst e; rw [sayL_at hx, sayL_at hy, of_decide_eq_true he]
  · exact h j (by omega)
theorem eqLs_of {rs ss : List Li} {k : Nat} (hl : rs.length = ss.length) (hk : ¬ k < rs.length) (h : ∀ j : Nat, j < k → (sayL rs)[j]? = (sayL ss)[j]?) : eqLs (sayL rs) (sayL ss) = true := by
  refine eqLs_t (List.ext_getElem? fun j => ?_)
  by_cases hj : j < k
  · exact h j hj
  · rw [List.getElem?_eq_none (by rw [sayL_len]; omega), List.getElem?_eq_none (by rw [sayL_len]; omega)]
theorem eqLs_not {rs ss : List Li} {k : Nat} (hx : k < rs.length) (hy : k < ss.length) (h : eqL rs[k].r ss[k].r = false) : eqLs (sayL rs) (sayL ss) = false := by
  refine eqLs_f fun e => ?_
  have e' := congrArg (fun l => l[k]?) e
  simp only [sayL_at hx, sayL_at hy, Option.some.injEq] at e'
  rw [eqL_t e'] at h
  cases h

set_option maxRecDepth 10000 in
set_option maxHeartbeats 400000 in
theorem eqIntSS_any (A A' : Option Addr) (rs ss : List Li) (c c' : Nat) (w : World) (hx : Lls w w.heap.size A rs) (hy : Lls w w.heap.size A' ss) (h1 : rs.length ≤ 1048576) (h2 : ∀ u ∈ rs, u.r.length ≤ 1048576) :
    Calls Tryd.prog 26 #[.slice A rs.length c, .slice A' ss.length c'] w fun e w' => e = .returned (.bool (eqLs (sayL rs) (sayL ss))) ∧ Below w.heap.size w w' := by
  have HX := Lib.hid hx; clear hx
  have HY := Lib.hid hy; clear hy
  have H2 := Lib.hid h2; clear h2
  by_cases hl : rs.length = ss.length
  · have hd : ((rs.length : Int) != (ss.length : Int)) = false := bne_f (by omega)
    have hlen : rs.length ≤ ss.length := by omega
    have hlen' : ss.length ≤ rs.length := by omega
    have HL := Lib.hid hl; clear hl
    go_enter Tryd.func26, Tryd.ntmps26
    go_wp2
    go_loopw [5] (fun i wr => ∃ (k : Nat), k ≤ rs.length ∧ i = .int .i64 k ∧ Below w.heap.size w wr ∧ Hid (∀ j : Nat, j < k → (sayL rs)[j]? = (sayL ss)[j]?)) (fun i _ => rs.length - (intOf i).toNat)
    case atStart => exact ⟨0, by omega, rfl, Below.refl _ _, fun j h => absurd h (by omega)⟩
    case round =>
      obtain ⟨k, hk, rfl, hB, H⟩ := hrel
      by_cases hlt : k < rs.length
      · have hlt' : k < ss.length := by omega
        obtain ⟨b, o, rfl, hb, c1, c2, c3⟩ := (HX.out.keep hB).at_ hlt
        obtain ⟨b', o', rfl, hb', d1, d2, d3⟩ := (HY.out.keep hB).at_ hlt'
        have C3 := Lib.hid (c3.more hB.size); clear c3
        have D3 := Lib.hid (d3.more hB.size); clear d3
        have hlen2 := H2.out rs[k] (List.getElem_mem hlt)
        cases hq : eqL rs[k].r ss[k].r
        all_goals
          have HQ := Lib.hid hq; clear hq
          go_wp2
          go_still_tail 8, (by kernel_rfl)
          change wpList _ _ _ _ _ wr.drew
          go_wp2_with fail
          refine (eqIntS_any _ _ _ _ _ _ _ ?_ ?_ hlen2).mono ?_
          · exact C3.out.keep (by go_grown)
          · exact D3.out.keep (by go_grown)
          rintro e w1 ⟨rfl, hB1⟩
          have hB2 : Below w.heap.size w w1 := hB.trans (Below.trans (by go_grown) (hB1.mono hB.size))
          clear hB1
          rw [HQ.out]
        · have HE : Hid (eqLs (sayL rs) (sayL ss) = false) := eqLs_not hlt hlt' HQ.out
          go_wp2
          go_ret
          exact ⟨ret_bool HE.out.symm, hB2⟩
        · go_wp2
          go_roundw
          case rel => exact ⟨k + 1, by omega, by go_num, hB2, step_eqLs hlt hlt' HQ.out H.out⟩
          case measure => simp [intOf]; omega
      · have HE : Hid (eqLs (sayL rs) (sayL ss) = true) := eqLs_of HL.out hlt H.out
        go_wp2
        go_ret
        exact ⟨ret_bool HE.out.symm, hB⟩
  · have hd : ((rs.length : Int) != (ss.length : Int)) = true := bne_t (by omega)
    have HE : Hid (eqLs (sayL rs) (sayL ss) = false) := eqLs_f fun e => hl (by rw [← sayL_len, e, sayL_len])
    clear hl
    go_enter Tryd.func26, Tryd.ntmps26
    go_wp2
    go_ret
    exact ⟨ret_bool HE.out.symm, Below.refl _ _⟩

end Go.Proofs.YtfbpcdmpkbjifaaDoor

/- What the laws' marks write into lists of lists, and what they find again. -/

namespace Go.Proofs.YtfbpcdmpkbjifaaDoor
open Go.RowKit

theorem OwnL.at_ {w : World} {lo : Nat} {A : Option Addr} {ls : List Li} (h : OwnL w lo A ls) {i : Nat} (hi : i < ls.length) :
    ∃ g, A = some ⟨g, 0, none⟩ ∧ lo ≤ g ∧ g < w.heap.size ∧ w.cell? ⟨g, i, none⟩ = some (.slice ls[i].a ls[i].r.length ls[i].c) ∧ OwnI w lo ls[i].a ls[i].r := by
  rcases h with h | ⟨g, cs, ea, hl, hr, hc, _⟩
  · subst h; simp at hi
  · obtain ⟨h1, _, h3⟩ := hc i _ (List.getElem?_eq_getElem hi)
    exact ⟨g, ea, hl, hr.lt, by rw [hr.cell]; exact h1, h3⟩

theorem OwnL.setList {w w' : World} {lo : Nat} {A : Option Addr} {ls : List Li} (h : OwnL w lo A ls) {i : Nat} (hi : i < ls.length) {ys : List Int} (hy : ys.length = ls[i].r.length)
    (hO : OwnI w' lo ls[i].a ys) (hs : Save (Its ls[i].a ls[i].r) w w') : OwnL w' lo A (ls.set i { ls[i] with r := ys }) := by
  rcases h with h | ⟨g, cs, ea, hl, hr, hc, hd⟩
  · subst h; simp at hi
  · have hgi : ¬ Its ls[i].a ls[i].r g := by
      rintro ⟨e1, e2⟩
      rcases (hc i _ (List.getElem?_eq_getElem hi)).2.2 with h3 | ⟨g', cs', e3, _, hr', _⟩
      · exact e2 h3
      · rw [e1] at e3
        injection e3 with e3
        injection e3 with e3
        exact hr'.ne hr (by decide) e3.symm
    refine .inr ⟨g, cs, ea, hl, hr.save hs hgi, fun k u hu => ?_, fun a b u v hu hv hab hun hvn => ?_⟩
    · rw [List.getElem?_set] at hu
      by_cases e : i = k
      · subst e
        rw [if_pos rfl, if_pos hi] at hu
        injection hu with hu
        subst hu
        obtain ⟨h1, h2, _⟩ := hc i _ (List.getElem?_eq_getElem hi)
        exact ⟨by rw [hy]; exact h1, by rw [hy]; exact h2, hO⟩
      · rw [if_neg e] at hu
        obtain ⟨h1, h2, h3⟩ := hc k u hu
        refine ⟨h1, h2, h3.save hs fun g' e1 e2 hI => ?_⟩
        exact hd k i u ls[i] hu (List.getElem?_eq_getElem hi) (Ne.symm e) e2 hI.2 (e1.trans hI.1.symm)
    · have old : ∀ (j : Nat) (y : Li), (ls.set i { ls[i] with r := ys })[j]? = some y → ∃ z, ls[j]? = some z ∧ z.a = y.a ∧ (y.r ≠ [] → z.r ≠ []) := by
        intro j y hy'
        rw [List.getElem?_set] at hy'
        by_cases e : i = j
        · subst e
          rw [if_pos rfl, if_pos hi] at hy'
          injection hy' with hy'
          subst hy'
          refine ⟨ls[i], List.getElem?_eq_getElem hi, rfl, fun hn e => hn ?_⟩
          have : ys.length = 0 := by rw [hy, e]; rfl
          exact List.eq_nil_of_length_eq_zero this
        · rw [if_neg e] at hy'
          exact ⟨y, hy', rfl, id⟩
      obtain ⟨u', hu', e1, e2⟩ := old a u hu
      obtain ⟨v', hv', e3, e4⟩ := old b v hv
      rw [← e1, ← e3]
      exact hd a b u' v' hu' hv' hab (e2 hun) (e4 hvn)

/-- How many numbers the first i lists hold. -/
def lcnt (ls : List Li) (i : Nat) : Nat := ((ls.take i).map fun u => u.r.length).sum
theorem lcnt_succ {ls : List Li} {i : Nat} (hi : i < ls.length) : lcnt ls (i + 1) = lcnt ls i + ls[i].r.length := by
  unfold lcnt
  rw [List.take_succ_eq_append_getElem hi, List.map_append, List.sum_append]
  simp
theorem lcnt_zero (ls : List Li) : lcnt ls 0 = 0 := by simp [lcnt]

def markV (k : Int) (u : Li) : Li := { u with r := seqL k u.r.length }
/-- The lists with the first i of them marked from k on. -/
def markM (k : Int) (ls : List Li) (i : Nat) : List Li := ls.mapIdx fun j u => if j < i then markV (k + (lcnt ls j : Int)) u else u
theorem markM_length (k : Int) (ls : List Li) (i : Nat) : (markM k ls i).length = ls.length := by simp [markM]
theorem markM_at {k : Int} {ls : List Li} {i j : Nat} (h : j < ls.length) (hj : j < (markM k ls i).length) : (markM k ls i)[j] = if j < i then markV (k + (lcnt ls j : Int)) ls[j] else ls[j] := by simp [markM]
theorem markM_zero (k : Int) (ls : List Li) : markM k ls 0 = ls := by
  apply List.ext_getElem?
  intro j
  simp [markM]
theorem markM_step {k : Int} {ls : List Li} {i : Nat} (h : i < ls.length) : (markM k ls i).set i (markV (k + (lcnt ls i : Int)) ls[i]) = markM k ls (i + 1) := by
  apply List.ext_getElem?
  intro j
  rw [List.getElem?_set, markM_length]
  by_cases e : i = j
  · subst e
    rw [if_pos rfl, if_pos h]
    simp [markM, h]
  · rw [if_neg e]
    simp only [markM, List.getElem?_mapIdx]
    by_cases hj : j < ls.length
    · rw [List.getElem?_eq_getElem hj]
      simp only [Option.map_some]
      congr 1
      by_cases hji : j < i
      · rw [if_pos hji, if_pos (by omega)]
      · rw [if_neg hji, if_neg (by omega)]
    · rw [List.getElem?_eq_none (by omega)]
      rfl

/-- The blocks of a slice of lists and of the lists. -/
def ItsL (A : Option Addr) (ls : List Li) (b : Nat) : Prop := (A = some ⟨b, 0, none⟩ ∧ ls ≠ []) ∨ ∃ (i : Nat) (u : Li), ls[i]? = some u ∧ Its u.a u.r b

theorem OwnL.its {w : World} {lo : Nat} {A : Option Addr} {ls : List Li} (h : OwnL w lo A ls) {b : Nat} (hb : ItsL A ls b) : lo ≤ b ∧ b < w.heap.size := by
  rcases h with h | ⟨g, cs, ea, hl, hr, hc, _⟩
  · subst h
    rcases hb with ⟨_, h⟩ | ⟨i, u, h, _⟩
    · exact absurd rfl h
    · simp at h
  · rcases hb with ⟨e, _⟩ | ⟨i, u, hu, e, hn⟩
    · rw [ea] at e; injection e with e; injection e with e; subst e; exact ⟨hl, hr.lt⟩
    · rcases (hc i u hu).2.2 with h3 | ⟨g', cs', e3, l3, hr', _⟩
      · exact absurd h3 hn
      · rw [e] at e3; injection e3 with e3; injection e3 with e3; subst e3; exact ⟨l3, hr'.lt⟩

def MarkedL (w : World) (lo : Nat) (A : Option Addr) (ls : List Li) (k : Int) (e : Ending) (w' : World) : Prop :=
  e = .returned (.int .i64 (k + (lcnt ls ls.length : Int))) ∧ OwnL w' lo A (markM k ls ls.length) ∧ Save (ItsL A ls) w w'

theorem mark_nextL {wr w1 : World} {lo : Nat} {A : Option Addr} {j : Nat} {ls : List Li} {k : Int} (H : OwnL wr lo A (markM k ls j)) (hlt : j < ls.length)
    (hO : OwnI w1 lo ls[j].a (seqL (k + (lcnt ls j : Int)) ls[j].r.length)) (hS : Save (Its ls[j].a ls[j].r) wr w1) : OwnL w1 lo A (markM k ls (j + 1)) := by
  have hlt' : j < (markM k ls j).length := by rw [markM_length]; exact hlt
  have hat : (markM k ls j)[j] = ls[j] := by rw [markM_at hlt, if_neg (by omega)]
  have h2 := H.setList (i := j) (w' := w1) (ys := seqL (k + (lcnt ls j : Int)) ls[j].r.length) hlt' (by simp [hat, seqL_length]) (by simpa [hat] using hO) (by simpa [hat] using hS)
  rw [← markM_step hlt]
  simpa [hat, markV] using h2

set_option maxHeartbeats 400000 in
theorem markIntSS_any (A : Option Addr) (ls : List Li) (c lo : Nat) (k : Int) (w : World) (h : OwnL w lo A ls) (hn : ls.length ≤ 1048576) (hu : ∀ u ∈ ls, u.r.length ≤ 1048576) (hk : 0 ≤ k) (hk' : k ≤ 2199030000000) :
    Calls Tryd.prog 28 #[.slice A ls.length c, .int .i64 k] w (MarkedL w lo A ls k) := by
  have HO := Lib.hid h; clear h
  have HU := Lib.hid hu; clear hu
  go_enter Tryd.func28, Tryd.ntmps28
  go_wp2
  go_loopw [1, 5] (fun v i wr => ∃ (j : Nat), j ≤ ls.length ∧ i = .int .i64 j ∧ v = .int .i64 (k + (lcnt ls j : Int)) ∧ lcnt ls j ≤ j * 1048577 ∧ Hid (OwnL wr lo A (markM k ls j)) ∧ Hid (Save (ItsL A ls) w wr)) (fun _ i _ => ls.length - (intOf i).toNat)
  case atStart => exact ⟨0, by omega, rfl, by simp [lcnt_zero], by simp [lcnt_zero], by show OwnL _ _ _ _; rw [markM_zero]; exact HO.out, Save.refl _ _⟩
  case round =>
    obtain ⟨j, hj, rfl, rfl, hcn, H, HS⟩ := hrel
    by_cases hlt : j < ls.length
    · have hlt' : j < (markM k ls j).length := by rw [markM_length]; exact hlt
      have hat : (markM k ls j)[j] = ls[j] := by rw [markM_at hlt, if_neg (by omega)]
      obtain ⟨g, rfl, _, _, c1, c3⟩ := H.out.at_ hlt'
      rw [hat] at c1 c3
      have C3 := Lib.hid c3
      have hul := HU.out ls[j] (List.getElem_mem hlt)
      have HCS := Lib.hid (lcnt_succ hlt)
      clear c3 hat hlt'
      go_wp2_with fail
      refine (markIntS_any _ _ _ lo _ _ C3.out hul (by omega) (by omega)).mono ?_
      rintro e w1 ⟨rfl, hO1, hS1⟩
      have HO1 := Lib.hid hO1; clear hO1
      have HS1 := Lib.hid hS1; clear hS1
      go_wp2
      go_roundw
      case rel => exact ⟨j + 1, by omega, by go_num, by rw [HCS.out]; go_num, by rw [HCS.out]; omega, mark_nextL H.out hlt HO1.out HS1.out, HS.out.trans (HS1.out.wider fun i hi => .inr ⟨j, ls[j], List.getElem?_eq_getElem hlt, hi⟩)⟩
      case measure => simp [intOf]; omega
    · obtain rfl : j = ls.length := by omega
      go_wp2
      go_ret
      exact ⟨rfl, H.out, HS.out⟩

set_option maxHeartbeats 400000 in
theorem heldIntSS_any (A : Option Addr) (ls : List Li) (c : Nat) (k : Int) (w : World) (h : Lls w w.heap.size A (markM k ls ls.length)) (hn : ls.length ≤ 1048576) (hu : ∀ u ∈ ls, u.r.length ≤ 1048576) (hk : 0 ≤ k) (hk' : k ≤ 2199030000000) :
    Calls Tryd.prog 29 #[.slice A ls.length c, .int .i64 k] w fun e w' => e = .returned (.int .i64 (k + (lcnt ls ls.length : Int))) ∧ Below w.heap.size w w' := by
  have HO := Lib.hid h; clear h
  have HU := Lib.hid hu; clear hu
  go_enter Tryd.func29, Tryd.ntmps29
  go_wp2
  go_loopw [1, 5] (fun v i wr => ∃ (j : Nat), j ≤ ls.length ∧ i = .int .i64 j ∧ v = .int .i64 (k + (lcnt ls j : Int)) ∧ lcnt ls j ≤ j * 1048577 ∧ Below w.heap.size w wr) (fun _ i _ => ls.length - (intOf i).toNat)
  case atStart => exact ⟨0, by omega, rfl, by simp [lcnt_zero], by simp [lcnt_zero], Below.refl _ _⟩
  case round =>
    obtain ⟨j, hj, rfl, rfl, hcn, hB⟩ := hrel
    by_cases hlt : j < ls.length
    · have hat : (markM k ls ls.length)[j]'(by rw [markM_length]; exact hlt) = markV (k + (lcnt ls j : Int)) ls[j] := by rw [markM_at hlt, if_pos hlt]
      obtain ⟨b, o, rfl, hb, c1, _, c3⟩ := (HO.out.keep hB).at_ (k := j) (by rw [markM_length]; exact hlt)
      rw [hat] at c1 c3
      simp only [markV, seqL_length] at c1 c3
      have C3 := Lib.hid (c3.more hB.size)
      have hul := HU.out ls[j] (List.getElem_mem hlt)
      have HCS := Lib.hid (lcnt_succ hlt)
      clear c3 hat
      go_wp2_with fail
      refine (heldIntS_any _ _ _ _ _ C3.out hul (by omega) (by omega)).mono ?_
      rintro e w1 ⟨rfl, hB1⟩
      have HB1 := Lib.hid (hB.trans (hB1.mono hB.size)); clear hB1
      go_wp2
      go_roundw
      case rel => exact ⟨j + 1, by omega, by go_num, by rw [HCS.out]; go_num, by rw [HCS.out]; omega, HB1.out⟩
      case measure => simp [intOf]; omega
    · obtain rfl : j = ls.length := by omega
      go_wp2
      go_ret
      exact ⟨rfl, hB⟩

end Go.Proofs.YtfbpcdmpkbjifaaDoor

/- What the walks of the laws with a list of lists as their answer share. -/

namespace Go.Proofs.YtfbpcdmpkbjifaaDoor
open Go.RowKit

theorem OwnL.kept {S : Nat → Prop} {w w' : World} {lo : Nat} {A : Option Addr} {ls : List Li} (h : OwnL w lo A ls) (hs : Save S w w') (hd : ∀ b, ItsL A ls b → ¬ S b) : OwnL w' lo A ls := by
  by_cases e : ls = []
  · exact .inl e
  · rcases h with h | ⟨g, cs, ea, hl, hr, hc, hdd⟩
    · exact .inl h
    · refine .inr ⟨g, cs, ea, hl, hr.save hs (hd g (.inl ⟨ea, e⟩)), fun k u hu => ?_, hdd⟩
      obtain ⟨h1, h2, h3⟩ := hc k u hu
      exact ⟨h1, h2, h3.kept hs fun b hb => hd b (.inr ⟨k, u, hu, hb⟩)⟩

theorem say_len {ls : List Li} {xs : List (List Int)} {m : Nat} (h : sayL ls = xs) (hx : xs.length ≤ m) : ls.length ≤ m := by rw [sayL_len' h]; exact hx
theorem say_lens {ls : List Li} {xs : List (List Int)} {m : Nat} (h : sayL ls = xs) (hx : ∀ x ∈ xs, x.length ≤ m) : ∀ u ∈ ls, u.r.length ≤ m := fun u hu => hx u.r (h ▸ sayL_mem hu)

end Go.Proofs.YtfbpcdmpkbjifaaDoor

/- What the walks of the laws with a grammar as their answer share, in any seat. -/

namespace Go.Proofs.YtfbpcdmpkbjifaaDoor
open Go.RowKit

theorem Box3.save {S : Nat → Prop} {w w' : World} {g : Nat} {a b c : Value} (h : Box3 w g a b c) (hs : Save S w w') (hg : ¬ S g) : Box3 w' g a b c := by
  obtain ⟨h0, h1, h2, h3⟩ := h
  have hb := hs.block g h0 hg
  exact ⟨by have := hs.size; omega, (World.cell?_of_block (a := ⟨g, 0, none⟩) hb).trans h1, (World.cell?_of_block (a := ⟨g, 1, none⟩) hb).trans h2, (World.cell?_of_block (a := ⟨g, 2, none⟩) hb).trans h3⟩

theorem OwnR.kept {S : Nat → Prop} {w w' : World} {lo : Nat} {A : Option Addr} {rs : List Ru} (h : OwnR w lo A rs) (hs : Save S w w') (hd : ∀ b, ItsR A rs b → ¬ S b) : OwnR w' lo A rs := by
  by_cases e : rs = []
  · exact .inl e
  · rcases h with h | ⟨g, cs, ea, hl, hr, hc, hdd⟩
    · exact .inl h
    · refine .inr ⟨g, cs, ea, hl, hr.save hs (hd g (.inl ⟨ea, e⟩)), fun k u hu => ?_, hdd⟩
      obtain ⟨h1, h2, h3⟩ := hc k u hu
      exact ⟨h1, h2, h3.kept hs fun b hb => hd b (.inr ⟨k, u, hu, hb⟩)⟩

theorem says_len {rs : List Ru} {ss : List (Int × List Int)} (h : rs.map Ru.abs = ss) (hs : ss.length ≤ 1048576) : rs.length ≤ 1048576 := by rw [← h, List.length_map] at hs; exact hs
theorem says_lens {rs : List Ru} {ss : List (Int × List Int)} (h : rs.map Ru.abs = ss) (hs : ∀ u ∈ ss, u.2.length ≤ 1048576) : ∀ u ∈ rs, u.r.length ≤ 1048576 := fun u hu => hs u.abs (h ▸ List.mem_map.2 ⟨u, hu, rfl⟩)

theorem box_new (w : World) (a b c : Value) (t : TypeId) : Box3 (w.alloc (.cells #[a, b, c] t)) w.heap.size a b c := ⟨by simp, by simp [go_sem], by simp [go_sem], by simp [go_sem]⟩
theorem below_new (w : World) (o : Obj) : Below w.heap.size w (w.alloc o) := (Below.refl _ _).alloc (Nat.le_refl _) _

end Go.Proofs.YtfbpcdmpkbjifaaDoor

/- A chart as it lies in memory; what the laws' size counter, copy, comparison and marks answer of it. -/

namespace Go.Proofs.YtfbpcdmpkbjifaaDoor
open Go.RowKit

/-- A box that holds a chart. -/
def BoxC (w : World) (g : Nat) (n : Int) (A : Option Addr) (k c : Nat) : Prop := g < w.heap.size ∧ w.cell? ⟨g, 0, none⟩ = some (.int .i64 n) ∧ w.cell? ⟨g, 1, none⟩ = some (.slice A k c)
theorem BoxC.keep {w w' : World} {g B : Nat} {n : Int} {A : Option Addr} {k c : Nat} (h : BoxC w g n A k c) (hb : Below B w w') (hB : g < B) : BoxC w' g n A k c :=
  ⟨Nat.lt_of_lt_of_le h.1 hb.size, (hb.cell (p := ⟨g, 0, none⟩) hB).trans h.2.1, (hb.cell (p := ⟨g, 1, none⟩) hB).trans h.2.2⟩
theorem BoxC.new (w : World) (n : Int) (A : Option Addr) (k c : Nat) (t : TypeId) : BoxC (w.alloc (.cells #[.int .i64 n, .slice A k c] t)) w.heap.size n A k c := ⟨by simp, by simp [go_sem], by simp [go_sem]⟩
theorem BoxC.save {S : Nat → Prop} {w w' : World} {g : Nat} {n : Int} {A : Option Addr} {k c : Nat} (h : BoxC w g n A k c) (hs : Save S w w') (hg : ¬ S g) : BoxC w' g n A k c := by
  have hb := hs.block g h.1 hg
  refine ⟨Nat.lt_of_lt_of_le h.1 hs.size, ?_, ?_⟩
  · rw [← h.2.1]; simp only [World.cell?, hb]
  · rw [← h.2.2]; simp only [World.cell?, hb]

set_option maxHeartbeats 1000000 in
theorem szChart_any (n : Int) (A : Option Addr) (ls : List Li) (c : Nat) (L : Int) (w : World) (hr : Lls w w.heap.size A ls) (hn : ls.length ≤ maxLen) (hu : ∀ u ∈ ls, u.r.length ≤ maxLen) (h0 : 0 ≤ L) (h1 : L ≤ 1048576) :
    Calls Tryd.prog 33 #[.agg #[.int .i64 n, .slice A ls.length c], .int .i64 L] w fun e w' => e = .returned (.int .i64 (szLs (sayL ls) L)) ∧ Below w.heap.size w w' := by
  have HR := Lib.hid hr; clear hr
  have HU := Lib.hid hu; clear hu
  go_enter Tryd.func33, Tryd.ntmps33
  go_wp2_with fail
  have hB0 : Below w.heap.size w (w.alloc (.cells #[.int .i64 n, .slice A ls.length c] 51)) := by go_grown
  generalize (w.alloc (.cells #[.int .i64 n, .slice A ls.length c] 51)) = W at hB0 ⊢
  have HB0 := Lib.hid hB0; clear hB0
  have g1 := szLs_ge (sayL ls) (L := L) (by omega)
  refine (szIntSS_any _ _ _ _ _ ((HR.out.keep HB0.out).more HB0.out.size) hn HU.out h0 h1).mono ?_
  rintro e w1 ⟨rfl, hB1⟩
  have HB1 := Lib.hid (HB0.out.trans (hB1.mono HB0.out.size)); clear hB1 HB0
  by_cases h : szLs (sayL ls) L < 0
  · have HE : Hid (szLs (sayL ls) L = -1) := by show _ = _; omega
    go_wp2
    go_ret
    exact ⟨ret_int HE.out.symm, HB1.out⟩
  · go_wp2
    go_ret
    exact ⟨rfl, HB1.out⟩

set_option maxHeartbeats 1000000 in
theorem eqChart_any (n m : Int) (A A' : Option Addr) (rs ss : List Li) (c c' : Nat) (w : World) (hx : Lls w w.heap.size A rs) (hy : Lls w w.heap.size A' ss) (h1 : rs.length ≤ 1048576) (h2 : ∀ u ∈ rs, u.r.length ≤ 1048576) (hnm : n = m) (heq : sayL rs = sayL ss) :
    Calls Tryd.prog 40 #[.agg #[.int .i64 n, .slice A rs.length c], .agg #[.int .i64 m, .slice A' ss.length c']] w fun e w' => e = .returned (.bool true) ∧ Below w.heap.size w w' := by
  have HX := Lib.hid hx; clear hx
  have HY := Lib.hid hy; clear hy
  have HU := Lib.hid h2; clear h2
  have e1 : (n != m) = false := bne_f hnm
  have E3 : Hid (eqLs (sayL rs) (sayL ss) = true) := eqLs_t heq
  clear heq hnm
  go_enter Tryd.func40, Tryd.ntmps40
  go_wp2_with fail
  have hB0 : Below w.heap.size w ((w.alloc (.cells #[.int .i64 n, .slice A rs.length c] 57)).alloc (.cells #[.int .i64 m, .slice A' ss.length c'] 57)) := by go_grown
  generalize ((w.alloc (.cells #[.int .i64 n, .slice A rs.length c] 57)).alloc (.cells #[.int .i64 m, .slice A' ss.length c'] 57)) = W at hB0 ⊢
  have HB0 := Lib.hid hB0; clear hB0
  refine (eqIntSS_any _ _ _ _ _ _ _ ((HX.out.keep HB0.out).more HB0.out.size) ((HY.out.keep HB0.out).more HB0.out.size) h1 HU.out).mono ?_
  rintro e w1 ⟨rfl, hB1⟩
  rw [E3.out]
  have HB1 := Lib.hid (HB0.out.trans (hB1.mono HB0.out.size)); clear hB1 HB0
  go_wp2
  go_ret
  exact ⟨rfl, HB1.out⟩

/-- A chart's copy: it says the same, its lists are the call's own; nothing older has turned. -/
def GaveC (w : World) (n : Int) (xs : List (List Int)) (e : Ending) (w' : World) : Prop :=
  ∃ A ls c, e = .returned (.agg #[.int .i64 n, .slice A ls.length c]) ∧ sayL ls = xs ∧ OwnL w' w.heap.size A ls ∧ ls.length ≤ c ∧ Below w.heap.size w w'

set_option maxHeartbeats 1000000 in
theorem toChart_any (n : Int) (A : Option Addr) (ls : List Li) (c : Nat) (w : World) (hr : Lls w w.heap.size A ls) (hn : ls.length ≤ 1048576) (hu : ∀ u ∈ ls, u.r.length ≤ 1048576) :
    Calls Tryd.prog 36 #[.agg #[.int .i64 n, .slice A ls.length c]] w (GaveC w n (sayL ls)) := by
  have HR := Lib.hid hr; clear hr
  have HU := Lib.hid hu; clear hu
  go_enter Tryd.func36, Tryd.ntmps36
  go_wp2_with fail
  have hB0 : Below w.heap.size w (((w.alloc (.cells #[.int .i64 n, .slice A ls.length c] 51)).alloc (.cells #[.int .i64 0, .slice none 0 0] 57)).alloc (.cells #[.int .i64 n, .slice none 0 0] 57)) := by go_grown
  have hz0 : (((w.alloc (.cells #[.int .i64 n, .slice A ls.length c] 51)).alloc (.cells #[.int .i64 0, .slice none 0 0] 57)).alloc (.cells #[.int .i64 n, .slice none 0 0] 57)).heap.size = w.heap.size + 3 := by simp
  have Rr : Row (((w.alloc (.cells #[.int .i64 n, .slice A ls.length c] 51)).alloc (.cells #[.int .i64 0, .slice none 0 0] 57)).alloc (.cells #[.int .i64 n, .slice none 0 0] 57)) (w.heap.size + 1) 57 #[.int .i64 0, .slice none 0 0] := by
    have h := Row.new (w.alloc (.cells #[.int .i64 n, .slice A ls.length c] 51)) 57 #[.int .i64 0, .slice none 0 0]
    rw [World.size_alloc] at h; exact h.alloc _
  have Ro : Row (((w.alloc (.cells #[.int .i64 n, .slice A ls.length c] 51)).alloc (.cells #[.int .i64 0, .slice none 0 0] 57)).alloc (.cells #[.int .i64 n, .slice none 0 0] 57)) (w.heap.size + 1 + 1) 57 #[.int .i64 n, .slice none 0 0] := by
    have h := Row.new ((w.alloc (.cells #[.int .i64 n, .slice A ls.length c] 51)).alloc (.cells #[.int .i64 0, .slice none 0 0] 57)) 57 #[.int .i64 n, .slice none 0 0]
    rw [World.size_alloc, World.size_alloc] at h; exact h
  generalize (((w.alloc (.cells #[.int .i64 n, .slice A ls.length c] 51)).alloc (.cells #[.int .i64 0, .slice none 0 0] 57)).alloc (.cells #[.int .i64 n, .slice none 0 0] 57)) = W at hB0 hz0 Rr Ro ⊢
  have HB0 := Lib.hid hB0; clear hB0
  have HZ0 : Hid (w.heap.size + 3 ≤ W.heap.size) := by show _ ≤ _; omega
  clear hz0
  have HRr0 := Lib.hid Rr; clear Rr
  have HRo0 := Lib.hid Ro; clear Ro
  refine (toIntSS_any _ _ _ _ ((HR.out.keep HB0.out).more HB0.out.size) hn HU.out).mono ?_
  rintro e w4 ⟨A4, c4, l4, rfl, k4, o4, s4, hB4⟩
  have HO4 : Hid (OwnL w4 (w.heap.size + 3) A4 l4) := o4.lower HZ0.out
  have HZ4' : Hid (w.heap.size + 3 ≤ w4.heap.size) := Nat.le_trans HZ0.out hB4.size
  have HRr4' := Lib.hid (HRr0.out.below hB4 HRr0.out.lt)
  have HRo4' := Lib.hid (HRo0.out.below hB4 HRo0.out.lt)
  have HB4' := Lib.hid (HB0.out.trans (hB4.mono HB0.out.size)); clear hB4 HRr0 HRo0 HB0 o4
  have K4 := Lib.hid k4; clear k4
  have S4 := Lib.hid s4; clear s4
  have x0 := HRo4'.out.cell 0
  have x1 := HRo4'.out.cell 1
  have y1 := HRo4'.out.frozen 1
  have r0 := HRr4'.out.cell 0
  have r1 := HRr4'.out.cell 1
  have q0 := HRr4'.out.frozen 0
  have q1 := HRr4'.out.frozen 1
  simp only [List.getElem?_toArray, List.getElem?_cons_succ, List.getElem?_cons_zero] at x0 x1 r0 r1
  go_wp2_with fail
  refine bodyPost_ret (v := .agg #[.int .i64 n, .slice A4 l4.length c4]) (by simp [results, Tryd.results36, go_sem, r0, r1]) rfl ⟨A4, l4, c4, rfl, S4.out, ?_, K4.out, ?_⟩
  · exact (((HO4.out.low (by simp) _).low (by simp) _).low (by simp) _).lower (by omega)
  · exact ((HB4'.out.setCell (by simp; omega) _).setCell (by simp) _).setCell (by simp) _

/-- A chart's lists marked from k on. -/
def MarkedC (w : World) (lo : Nat) (A : Option Addr) (ls : List Li) (k : Int) (e : Ending) (w' : World) : Prop :=
  e = .returned (.int .i64 (k + (lcnt ls ls.length : Int))) ∧ OwnL w' lo A (markM k ls ls.length) ∧ Save (ItsL A ls) w w'

set_option maxHeartbeats 1000000 in
theorem markChart_any (n : Int) (A : Option Addr) (ls : List Li) (c lo : Nat) (k : Int) (w : World) (h : OwnL w lo A ls) (hn : ls.length ≤ 1048576) (hu : ∀ u ∈ ls, u.r.length ≤ 1048576) (hk : 0 ≤ k) (hk' : k ≤ 2199030000000) :
    Calls Tryd.prog 42 #[.agg #[.int .i64 n, .slice A ls.length c], .int .i64 k] w (MarkedC w lo A ls k) := by
  have HO := Lib.hid h; clear h
  have HU := Lib.hid hu; clear hu
  have HBX : Hid (Below w.heap.size w (w.alloc (.cells #[.int .i64 n, .slice A ls.length c] 57))) := by show Below _ _ _; go_grown
  have HO0 := Lib.hid (HO.out.below HBX.out (Nat.le_refl _))
  go_enter Tryd.func42, Tryd.ntmps42
  go_wp2_with fail
  generalize (w.alloc (.cells #[.int .i64 n, .slice A ls.length c] 57)) = W at HBX HO0 ⊢
  refine (markIntSS_any _ _ _ lo _ _ HO0.out hn HU.out hk (by omega)).mono ?_
  rintro e w1 ⟨rfl, hP, hS1⟩
  have HP := Lib.hid hP; clear hP
  have HS1 : Hid (Save (ItsL A ls) w w1) := (Save.of_below HBX.out).trans hS1
  clear hS1 HO0
  go_wp2
  go_ret
  exact ⟨rfl, HP.out, HS1.out⟩

set_option maxHeartbeats 1000000 in
theorem heldChart_any (n : Int) (A : Option Addr) (ls : List Li) (c : Nat) (k : Int) (w : World) (h : Lls w w.heap.size A (markM k ls ls.length)) (hn : ls.length ≤ 1048576) (hu : ∀ u ∈ ls, u.r.length ≤ 1048576) (hk : 0 ≤ k) (hk' : k ≤ 2199030000000) (hcn : lcnt ls ls.length ≤ 4398046511104) :
    Calls Tryd.prog 45 #[.agg #[.int .i64 n, .slice A ls.length c], .int .i64 k] w fun e w' => e = .returned (.int .i64 (k + (lcnt ls ls.length : Int))) ∧ Below w.heap.size w w' := by
  have HO := Lib.hid h; clear h
  have HU := Lib.hid hu; clear hu
  have HBX : Hid (Below w.heap.size w (w.alloc (.cells #[.int .i64 n, .slice A ls.length c] 57))) := by show Below _ _ _; go_grown
  go_enter Tryd.func45, Tryd.ntmps45
  go_wp2_with fail
  generalize (w.alloc (.cells #[.int .i64 n, .slice A ls.length c] 57)) = W at HBX ⊢
  refine (heldIntSS_any _ _ _ _ _ ((HO.out.keep HBX.out).more HBX.out.size) hn HU.out hk hk').mono ?_
  rintro e w1 ⟨rfl, hB1⟩
  have HB1 := Lib.hid (HBX.out.trans (hB1.mono HBX.out.size)); clear hB1 HBX
  go_wp2
  go_ret
  exact ⟨rfl, HB1.out⟩

end Go.Proofs.YtfbpcdmpkbjifaaDoor

/- A binary grammar as it lies in memory; what the laws' size counter, copy and comparison answer of it. -/

namespace Go.Proofs.YtfbpcdmpkbjifaaDoor
open Go.RowKit

/-- A binary grammar as it lies in memory. -/
structure Bi where
  n : Int
  t : Int
  Ap : Option Addr
  P : List Li
  cp : Nat
  Ao : Option Addr
  O : List Li
  co : Nat
  Ae : Option Addr
  E : List Int
  ce : Nat
  Af : Option Addr
  F : List Li
  cf : Nat

/-- What a binary grammar says, wherever it lies. -/
structure Bs where
  n : Int
  t : Int
  P : List (List Int)
  O : List (List Int)
  E : List Int
  F : List (List Int)
deriving DecidableEq

def Bi.say (b : Bi) : Bs := ⟨b.n, b.t, sayL b.P, sayL b.O, b.E, sayL b.F⟩

/-- Its lists can be read, all of them below block B. -/
def ReadB (w : World) (B : Nat) (b : Bi) : Prop := Lls w B b.Ap b.P ∧ Lls w B b.Ao b.O ∧ Ints w B b.Ae b.E ∧ Lls w B b.Af b.F

theorem ReadB.keep {w w' : World} {B : Nat} {b : Bi} (h : ReadB w B b) (hk : Below B w w') : ReadB w' B b := ⟨h.1.keep hk, h.2.1.keep hk, h.2.2.1.keep hk, h.2.2.2.keep hk⟩
theorem ReadB.more {w : World} {B B' : Nat} {b : Bi} (h : ReadB w B b) (hB : B ≤ B') : ReadB w B' b := ⟨h.1.more hB, h.2.1.more hB, h.2.2.1.more hB, h.2.2.2.more hB⟩

/-- None of its lists is longer than m. -/
structure LenB (m : Nat) (b : Bi) : Prop where
  p : b.P.length ≤ m
  ps : ∀ u ∈ b.P, u.r.length ≤ m
  o : b.O.length ≤ m
  os : ∀ u ∈ b.O, u.r.length ≤ m
  e : b.E.length ≤ m
  f : b.F.length ≤ m
  fs : ∀ u ∈ b.F, u.r.length ≤ m

/-- Its lists have room for what they hold. -/
structure CapB (b : Bi) : Prop where
  p : b.P.length ≤ b.cp
  o : b.O.length ≤ b.co
  e : b.E.length ≤ b.ce
  f : b.F.length ≤ b.cf

def szB (P O : List (List Int)) (E : List Int) (F : List (List Int)) (L : Int) : Int :=
  if szLs P L < 0 then -1 else if szLs O (szLs P L) < 0 then -1 else if szI E.length (szLs O (szLs P L)) < 0 then -1 else
  if szLs F (szI E.length (szLs O (szLs P L))) < 0 then -1 else szLs F (szI E.length (szLs O (szLs P L)))

theorem szB_bound {b : Bi} (hp : 0 ≤ szB (sayL b.P) (sayL b.O) b.E (sayL b.F) 1048576) : LenB 1048576 b := by
  unfold szB at hp
  split at hp
  · omega
  rename_i h1
  split at hp
  · omega
  rename_i h2
  split at hp
  · omega
  rename_i h3
  split at hp
  · omega
  rename_i h4
  have a1 := szLs_ge (sayL b.P) (L := 1048576) (by omega)
  have b1 := szLs_bound (rs := sayL b.P) (L := 1048576) (by omega) (by omega)
  have a2 := szLs_ge (sayL b.O) (L := szLs (sayL b.P) 1048576) (by omega)
  have b2 := szLs_bound (rs := sayL b.O) (L := szLs (sayL b.P) 1048576) (by omega) (by omega)
  have a3 := szI_le (n := b.E.length) (L := szLs (sayL b.O) (szLs (sayL b.P) 1048576)) (by omega)
  have e3 : szI b.E.length (szLs (sayL b.O) (szLs (sayL b.P) 1048576)) = szLs (sayL b.O) (szLs (sayL b.P) 1048576) - b.E.length := by
    unfold szI at h3 ⊢; split <;> simp_all
  have b4 := szLs_bound (rs := sayL b.F) (L := szI b.E.length (szLs (sayL b.O) (szLs (sayL b.P) 1048576))) (by omega) (by omega)
  have say : ∀ {ls : List Li} {L : Int}, L ≤ 1048576 → ((sayL ls).length : Int) ≤ L ∧ (∀ u ∈ sayL ls, (u.length : Int) ≤ L) → ls.length ≤ 1048576 ∧ ∀ u ∈ ls, u.r.length ≤ 1048576 := by
    intro ls L hL h
    refine ⟨by have := h.1; rw [sayL_len] at this; omega, fun u hu => ?_⟩
    have := h.2 u.r (sayL_mem hu)
    omega
  obtain ⟨p1, p2⟩ := say (by omega) b1
  obtain ⟨o1, o2⟩ := say (by omega) b2
  obtain ⟨f1, f2⟩ := say (by omega) b4
  exact ⟨p1, p2, o1, o2, by omega, f1, f2⟩

theorem LenB.of_say {m : Nat} {b b' : Bi} (h : LenB m b) (e : b'.say = b.say) : LenB m b' := by
  have one : ∀ {ls ls' : List Li}, sayL ls' = sayL ls → ls.length ≤ m → (∀ u ∈ ls, u.r.length ≤ m) → ls'.length ≤ m ∧ ∀ u ∈ ls', u.r.length ≤ m := by
    intro ls ls' e h1 h2
    refine ⟨by rw [sayL_len' e, sayL_len]; exact h1, fun u hu => ?_⟩
    have := sayL_mem hu
    rw [e] at this
    obtain ⟨v, hv, e'⟩ := List.mem_map.1 this
    rw [← e']; exact h2 v hv
  obtain ⟨a1, a2⟩ := one (congrArg Bs.P e) h.p h.ps
  obtain ⟨b1, b2⟩ := one (congrArg Bs.O e) h.o h.os
  obtain ⟨c1, c2⟩ := one (congrArg Bs.F e) h.f h.fs
  exact ⟨a1, a2, b1, b2, by rw [show b'.E = b.E from congrArg Bs.E e]; exact h.e, c1, c2⟩

set_option maxHeartbeats 1000000 in
theorem szBinary_any (b : Bi) (w : World) (hr : ReadB w w.heap.size b) (hm : LenB maxLen b) :
    Calls Tryd.prog 32 #[(.agg #[.int .i64 b.n, .int .i64 b.t, .slice b.Ap b.P.length b.cp, .slice b.Ao b.O.length b.co, .slice b.Ae b.E.length b.ce, .slice b.Af b.F.length b.cf]), .int .i64 1048576] w fun e w' => e = .returned (.int .i64 (szB (sayL b.P) (sayL b.O) b.E (sayL b.F) 1048576)) ∧ Below w.heap.size w w' := by
  have HR := Lib.hid hr; clear hr
  have HM := Lib.hid hm; clear hm
  go_enter Tryd.func32, Tryd.ntmps32
  go_wp2_with fail
  have hB0 : Below w.heap.size w (w.alloc (.cells #[.int .i64 b.n, .int .i64 b.t, .slice b.Ap b.P.length b.cp, .slice b.Ao b.O.length b.co, .slice b.Ae b.E.length b.ce, .slice b.Af b.F.length b.cf] 49)) := by go_grown
  have R0 : Row (w.alloc (.cells #[.int .i64 b.n, .int .i64 b.t, .slice b.Ap b.P.length b.cp, .slice b.Ao b.O.length b.co, .slice b.Ae b.E.length b.ce, .slice b.Af b.F.length b.cf] 49)) w.heap.size 49 #[.int .i64 b.n, .int .i64 b.t, .slice b.Ap b.P.length b.cp, .slice b.Ao b.O.length b.co, .slice b.Ae b.E.length b.ce, .slice b.Af b.F.length b.cf] := Row.new _ _ _
  generalize (w.alloc (.cells #[.int .i64 b.n, .int .i64 b.t, .slice b.Ap b.P.length b.cp, .slice b.Ao b.O.length b.co, .slice b.Ae b.E.length b.ce, .slice b.Af b.F.length b.cf] 49)) = W at hB0 R0 ⊢
  have HB0 := Lib.hid hB0; clear hB0
  have HR0 := Lib.hid R0; clear R0
  have g1 := szLs_ge (sayL b.P) (L := 1048576) (by omega)
  refine (szIntSS_any _ _ _ _ _ ((HR.out.1.keep HB0.out).more HB0.out.size) HM.out.p HM.out.ps (by omega) (by omega)).mono ?_
  rintro e w1 ⟨rfl, hB1⟩
  have HR1 := Lib.hid (HR0.out.below hB1 HR0.out.lt)
  have HB1 := Lib.hid (HB0.out.trans (hB1.mono HB0.out.size)); clear hB1 HR0 HB0
  have a3 := HR1.out.cell 3
  have a4 := HR1.out.cell 4
  have a5 := HR1.out.cell 5
  simp only [List.getElem?_toArray, List.getElem?_cons_succ, List.getElem?_cons_zero] at a3 a4 a5
  by_cases h1 : szLs (sayL b.P) 1048576 < 0
  · have HE : Hid (szB (sayL b.P) (sayL b.O) b.E (sayL b.F) 1048576 = -1) := by show _ = _; unfold szB; rw [if_pos h1]
    go_wp2
    go_ret
    exact ⟨ret_int HE.out.symm, HB1.out⟩
  have g2 := szLs_ge (sayL b.O) (L := szLs (sayL b.P) 1048576) (by omega)
  go_wp2_with fail
  refine (szIntSS_any _ _ _ _ _ ((HR.out.2.1.keep HB1.out).more HB1.out.size) HM.out.o HM.out.os (by omega) (by omega)).mono ?_
  rintro e w2 ⟨rfl, hB2⟩
  have HR2 := Lib.hid (HR1.out.below hB2 HR1.out.lt)
  have HB2 := Lib.hid (HB1.out.trans (hB2.mono HB1.out.size)); clear hB2 HR1 HB1 a3 a4 a5
  have a4 := HR2.out.cell 4
  have a5 := HR2.out.cell 5
  simp only [List.getElem?_toArray, List.getElem?_cons_succ, List.getElem?_cons_zero] at a4 a5
  by_cases h2 : szLs (sayL b.O) (szLs (sayL b.P) 1048576) < 0
  · have HE : Hid (szB (sayL b.P) (sayL b.O) b.E (sayL b.F) 1048576 = -1) := by show _ = _; unfold szB; rw [if_neg (by omega), if_pos h2]
    go_wp2
    go_ret
    exact ⟨ret_int HE.out.symm, HB2.out⟩
  have g3 := szI_le (n := b.E.length) (L := szLs (sayL b.O) (szLs (sayL b.P) 1048576)) (by omega)
  go_wp2_with fail
  refine (szIntS_any _ _ _ _ _ HM.out.e (by omega) (by omega)).mono ?_
  rintro e w3 ⟨rfl, rfl⟩
  by_cases h3 : szI b.E.length (szLs (sayL b.O) (szLs (sayL b.P) 1048576)) < 0
  · have HE : Hid (szB (sayL b.P) (sayL b.O) b.E (sayL b.F) 1048576 = -1) := by show _ = _; unfold szB; rw [if_neg (by omega), if_neg (by omega), if_pos h3]
    go_wp2
    go_ret
    exact ⟨ret_int HE.out.symm, HB2.out⟩
  have g4 := szLs_ge (sayL b.F) (L := szI b.E.length (szLs (sayL b.O) (szLs (sayL b.P) 1048576))) (by omega)
  go_wp2_with fail
  refine (szIntSS_any _ _ _ _ _ ((HR.out.2.2.2.keep HB2.out).more HB2.out.size) HM.out.f HM.out.fs (by omega) (by omega)).mono ?_
  rintro e w4 ⟨rfl, hB4⟩
  have HB4 := Lib.hid (HB2.out.trans (hB4.mono HB2.out.size)); clear hB4 HR2 HB2 a4 a5
  by_cases h4 : szLs (sayL b.F) (szI b.E.length (szLs (sayL b.O) (szLs (sayL b.P) 1048576))) < 0
  · have HE : Hid (szB (sayL b.P) (sayL b.O) b.E (sayL b.F) 1048576 = -1) := by show _ = _; unfold szB; rw [if_neg (by omega), if_neg (by omega), if_neg (by omega), if_pos h4]
    go_wp2
    go_ret
    exact ⟨ret_int HE.out.symm, HB4.out⟩
  · have HE : Hid (szB (sayL b.P) (sayL b.O) b.E (sayL b.F) 1048576 = szLs (sayL b.F) (szI b.E.length (szLs (sayL b.O) (szLs (sayL b.P) 1048576)))) := by show _ = _; unfold szB; rw [if_neg (by omega), if_neg (by omega), if_neg (by omega), if_neg (by omega)]
    go_wp2
    go_ret
    exact ⟨ret_int HE.out.symm, HB4.out⟩

/-- Two binary grammars say the same. -/
def eqB (s s' : Bs) : Bool := decide (s = s')
theorem eqB_t {s s' : Bs} (h : s = s') : eqB s s' = true := decide_eq_true h

set_option maxHeartbeats 1000000 in
theorem eqBinary_any (b b' : Bi) (w : World) (hx : ReadB w w.heap.size b) (hy : ReadB w w.heap.size b') (hm : LenB 1048576 b) (heq : b.say = b'.say) :
    Calls Tryd.prog 39 #[(.agg #[.int .i64 b.n, .int .i64 b.t, .slice b.Ap b.P.length b.cp, .slice b.Ao b.O.length b.co, .slice b.Ae b.E.length b.ce, .slice b.Af b.F.length b.cf]), (.agg #[.int .i64 b'.n, .int .i64 b'.t, .slice b'.Ap b'.P.length b'.cp, .slice b'.Ao b'.O.length b'.co, .slice b'.Ae b'.E.length b'.ce, .slice b'.Af b'.F.length b'.cf])] w fun e w' => e = .returned (.bool true) ∧ Below w.heap.size w w' := by
  have HX := Lib.hid hx; clear hx
  have HY := Lib.hid hy; clear hy
  have HM := Lib.hid hm; clear hm
  have e1 : (b.n != b'.n) = false := bne_f (congrArg Bs.n heq)
  have e2 : (b.t != b'.t) = false := bne_f (congrArg Bs.t heq)
  have E3 : Hid (eqLs (sayL b.P) (sayL b'.P) = true) := eqLs_t (congrArg Bs.P heq)
  have E4 : Hid (eqLs (sayL b.O) (sayL b'.O) = true) := eqLs_t (congrArg Bs.O heq)
  have E5 : Hid (eqL b.E b'.E = true) := eqL_t (congrArg Bs.E heq)
  have E6 : Hid (eqLs (sayL b.F) (sayL b'.F) = true) := eqLs_t (congrArg Bs.F heq)
  clear heq
  go_enter Tryd.func39, Tryd.ntmps39
  go_wp2_with fail
  have hB0 : Below w.heap.size w ((w.alloc (.cells #[.int .i64 b.n, .int .i64 b.t, .slice b.Ap b.P.length b.cp, .slice b.Ao b.O.length b.co, .slice b.Ae b.E.length b.ce, .slice b.Af b.F.length b.cf] 55)).alloc (.cells #[.int .i64 b'.n, .int .i64 b'.t, .slice b'.Ap b'.P.length b'.cp, .slice b'.Ao b'.O.length b'.co, .slice b'.Ae b'.E.length b'.ce, .slice b'.Af b'.F.length b'.cf] 55)) := by go_grown
  have Ra : Row ((w.alloc (.cells #[.int .i64 b.n, .int .i64 b.t, .slice b.Ap b.P.length b.cp, .slice b.Ao b.O.length b.co, .slice b.Ae b.E.length b.ce, .slice b.Af b.F.length b.cf] 55)).alloc (.cells #[.int .i64 b'.n, .int .i64 b'.t, .slice b'.Ap b'.P.length b'.cp, .slice b'.Ao b'.O.length b'.co, .slice b'.Ae b'.E.length b'.ce, .slice b'.Af b'.F.length b'.cf] 55)) w.heap.size 55 #[.int .i64 b.n, .int .i64 b.t, .slice b.Ap b.P.length b.cp, .slice b.Ao b.O.length b.co, .slice b.Ae b.E.length b.ce, .slice b.Af b.F.length b.cf] := (Row.new _ _ _).alloc _
  have Rb : Row ((w.alloc (.cells #[.int .i64 b.n, .int .i64 b.t, .slice b.Ap b.P.length b.cp, .slice b.Ao b.O.length b.co, .slice b.Ae b.E.length b.ce, .slice b.Af b.F.length b.cf] 55)).alloc (.cells #[.int .i64 b'.n, .int .i64 b'.t, .slice b'.Ap b'.P.length b'.cp, .slice b'.Ao b'.O.length b'.co, .slice b'.Ae b'.E.length b'.ce, .slice b'.Af b'.F.length b'.cf] 55)) (w.heap.size + 1) 55 #[.int .i64 b'.n, .int .i64 b'.t, .slice b'.Ap b'.P.length b'.cp, .slice b'.Ao b'.O.length b'.co, .slice b'.Ae b'.E.length b'.ce, .slice b'.Af b'.F.length b'.cf] := by have h := Row.new (w.alloc (.cells #[.int .i64 b.n, .int .i64 b.t, .slice b.Ap b.P.length b.cp, .slice b.Ao b.O.length b.co, .slice b.Ae b.E.length b.ce, .slice b.Af b.F.length b.cf] 55)) 55 #[.int .i64 b'.n, .int .i64 b'.t, .slice b'.Ap b'.P.length b'.cp, .slice b'.Ao b'.O.length b'.co, .slice b'.Ae b'.E.length b'.ce, .slice b'.Af b'.F.length b'.cf]; rw [World.size_alloc] at h; exact h
  generalize ((w.alloc (.cells #[.int .i64 b.n, .int .i64 b.t, .slice b.Ap b.P.length b.cp, .slice b.Ao b.O.length b.co, .slice b.Ae b.E.length b.ce, .slice b.Af b.F.length b.cf] 55)).alloc (.cells #[.int .i64 b'.n, .int .i64 b'.t, .slice b'.Ap b'.P.length b'.cp, .slice b'.Ao b'.O.length b'.co, .slice b'.Ae b'.E.length b'.ce, .slice b'.Af b'.F.length b'.cf] 55)) = W at hB0 Ra Rb ⊢
  have HB0 := Lib.hid hB0; clear hB0
  have HRa0 := Lib.hid Ra; clear Ra
  have HRb0 := Lib.hid Rb; clear Rb
  refine (eqIntSS_any _ _ _ _ _ _ _ ((HX.out.1.keep HB0.out).more HB0.out.size) ((HY.out.1.keep HB0.out).more HB0.out.size) HM.out.p HM.out.ps).mono ?_
  rintro e w1 ⟨rfl, hB1⟩
  rw [E3.out]
  have HRa1 := Lib.hid (HRa0.out.below hB1 HRa0.out.lt)
  have HRb1 := Lib.hid (HRb0.out.below hB1 HRb0.out.lt)
  have HB1 := Lib.hid (HB0.out.trans (hB1.mono HB0.out.size)); clear hB1 HRa0 HRb0 HB0
  have a3 := HRa1.out.cell 3
  have b3 := HRb1.out.cell 3
  simp only [List.getElem?_toArray, List.getElem?_cons_succ, List.getElem?_cons_zero] at a3 b3
  go_wp2_with fail
  refine (eqIntSS_any _ _ _ _ _ _ _ ((HX.out.2.1.keep HB1.out).more HB1.out.size) ((HY.out.2.1.keep HB1.out).more HB1.out.size) HM.out.o HM.out.os).mono ?_
  rintro e w2 ⟨rfl, hB2⟩
  rw [E4.out]
  have HRa2 := Lib.hid (HRa1.out.below hB2 HRa1.out.lt)
  have HRb2 := Lib.hid (HRb1.out.below hB2 HRb1.out.lt)
  have HB2 := Lib.hid (HB1.out.trans (hB2.mono HB1.out.size)); clear hB2 HRa1 HRb1 HB1 a3 b3
  have a4 := HRa2.out.cell 4
  have b4 := HRb2.out.cell 4
  simp only [List.getElem?_toArray, List.getElem?_cons_succ, List.getElem?_cons_zero] at a4 b4
  go_wp2_with fail
  refine (eqIntS_any _ _ _ _ _ _ _ ((HX.out.2.2.1.keep HB2.out).more HB2.out.size) ((HY.out.2.2.1.keep HB2.out).more HB2.out.size) HM.out.e).mono ?_
  rintro e w3 ⟨rfl, hB3⟩
  rw [E5.out]
  have HRa3 := Lib.hid (HRa2.out.below hB3 HRa2.out.lt)
  have HRb3 := Lib.hid (HRb2.out.below hB3 HRb2.out.lt)
  have HB3 := Lib.hid (HB2.out.trans (hB3.mono HB2.out.size)); clear hB3 HRa2 HRb2 HB2 a4 b4
  have a5 := HRa3.out.cell 5
  have b5 := HRb3.out.cell 5
  simp only [List.getElem?_toArray, List.getElem?_cons_succ, List.getElem?_cons_zero] at a5 b5
  go_wp2_with fail
  refine (eqIntSS_any _ _ _ _ _ _ _ ((HX.out.2.2.2.keep HB3.out).more HB3.out.size) ((HY.out.2.2.2.keep HB3.out).more HB3.out.size) HM.out.f HM.out.fs).mono ?_
  rintro e w4 ⟨rfl, hB4⟩
  rw [E6.out]
  have HB4 := Lib.hid (HB3.out.trans (hB4.mono HB3.out.size)); clear hB4 HRa3 HRb3 HB3 a5 b5
  go_wp2
  go_ret
  exact ⟨rfl, HB4.out⟩

/-- Its lists are the call's own, those of each field apart. -/
def OwnB (w : World) (lo : Nat) (b : Bi) : Prop := OwnL w lo b.Ap b.P ∧ OwnL w lo b.Ao b.O ∧ OwnI w lo b.Ae b.E ∧ OwnL w lo b.Af b.F

theorem OwnB.read {w : World} {lo : Nat} {b : Bi} (h : OwnB w lo b) : ReadB w w.heap.size b := ⟨h.1.lls, h.2.1.lls, h.2.2.1.ints, h.2.2.2.lls⟩
theorem OwnB.below {w w' : World} {lo B : Nat} {b : Bi} (h : OwnB w lo b) (hb : Below B w w') (hB : w.heap.size ≤ B) : OwnB w' lo b := ⟨h.1.below hb hB, h.2.1.below hb hB, h.2.2.1.below hb hB, h.2.2.2.below hb hB⟩

/-- A binary grammar's copy: it says the same; nothing older has turned. -/
def GaveB (w : World) (s : Bs) (e : Ending) (w' : World) : Prop :=
  ∃ b : Bi, e = .returned (.agg #[.int .i64 b.n, .int .i64 b.t, .slice b.Ap b.P.length b.cp, .slice b.Ao b.O.length b.co, .slice b.Ae b.E.length b.ce, .slice b.Af b.F.length b.cf]) ∧ b.say = s ∧ OwnB w' w.heap.size b ∧ CapB b ∧ Below w.heap.size w w'

set_option maxHeartbeats 1000000 in
theorem toBinary_any (b : Bi) (w : World) (hr : ReadB w w.heap.size b) (hm : LenB 1048576 b) :
    Calls Tryd.prog 35 #[(.agg #[.int .i64 b.n, .int .i64 b.t, .slice b.Ap b.P.length b.cp, .slice b.Ao b.O.length b.co, .slice b.Ae b.E.length b.ce, .slice b.Af b.F.length b.cf])] w (GaveB w b.say) := by
  have HR := Lib.hid hr; clear hr
  have HM := Lib.hid hm; clear hm
  go_enter Tryd.func35, Tryd.ntmps35
  go_wp2_with fail
  have hB0 : Below w.heap.size w (((w.alloc (.cells #[.int .i64 b.n, .int .i64 b.t, .slice b.Ap b.P.length b.cp, .slice b.Ao b.O.length b.co, .slice b.Ae b.E.length b.ce, .slice b.Af b.F.length b.cf] 49)).alloc (.cells #[.int .i64 0, .int .i64 0, .slice none 0 0, .slice none 0 0, .slice none 0 0, .slice none 0 0] 55)).alloc (.cells #[.int .i64 b.n, .int .i64 b.t, .slice none 0 0, .slice none 0 0, .slice none 0 0, .slice none 0 0] 55)) := by go_grown
  have hz0 : (((w.alloc (.cells #[.int .i64 b.n, .int .i64 b.t, .slice b.Ap b.P.length b.cp, .slice b.Ao b.O.length b.co, .slice b.Ae b.E.length b.ce, .slice b.Af b.F.length b.cf] 49)).alloc (.cells #[.int .i64 0, .int .i64 0, .slice none 0 0, .slice none 0 0, .slice none 0 0, .slice none 0 0] 55)).alloc (.cells #[.int .i64 b.n, .int .i64 b.t, .slice none 0 0, .slice none 0 0, .slice none 0 0, .slice none 0 0] 55)).heap.size = w.heap.size + 3 := by simp
  have Ra : Row (((w.alloc (.cells #[.int .i64 b.n, .int .i64 b.t, .slice b.Ap b.P.length b.cp, .slice b.Ao b.O.length b.co, .slice b.Ae b.E.length b.ce, .slice b.Af b.F.length b.cf] 49)).alloc (.cells #[.int .i64 0, .int .i64 0, .slice none 0 0, .slice none 0 0, .slice none 0 0, .slice none 0 0] 55)).alloc (.cells #[.int .i64 b.n, .int .i64 b.t, .slice none 0 0, .slice none 0 0, .slice none 0 0, .slice none 0 0] 55)) w.heap.size 49 #[.int .i64 b.n, .int .i64 b.t, .slice b.Ap b.P.length b.cp, .slice b.Ao b.O.length b.co, .slice b.Ae b.E.length b.ce, .slice b.Af b.F.length b.cf] := ((Row.new _ _ _).alloc _).alloc _
  have Rr : Row (((w.alloc (.cells #[.int .i64 b.n, .int .i64 b.t, .slice b.Ap b.P.length b.cp, .slice b.Ao b.O.length b.co, .slice b.Ae b.E.length b.ce, .slice b.Af b.F.length b.cf] 49)).alloc (.cells #[.int .i64 0, .int .i64 0, .slice none 0 0, .slice none 0 0, .slice none 0 0, .slice none 0 0] 55)).alloc (.cells #[.int .i64 b.n, .int .i64 b.t, .slice none 0 0, .slice none 0 0, .slice none 0 0, .slice none 0 0] 55)) (w.heap.size + 1) 55 #[.int .i64 0, .int .i64 0, .slice none 0 0, .slice none 0 0, .slice none 0 0, .slice none 0 0] := by
    have h := Row.new (w.alloc (.cells #[.int .i64 b.n, .int .i64 b.t, .slice b.Ap b.P.length b.cp, .slice b.Ao b.O.length b.co, .slice b.Ae b.E.length b.ce, .slice b.Af b.F.length b.cf] 49)) 55 #[.int .i64 0, .int .i64 0, .slice none 0 0, .slice none 0 0, .slice none 0 0, .slice none 0 0]
    rw [World.size_alloc] at h; exact h.alloc _
  have Ro : Row (((w.alloc (.cells #[.int .i64 b.n, .int .i64 b.t, .slice b.Ap b.P.length b.cp, .slice b.Ao b.O.length b.co, .slice b.Ae b.E.length b.ce, .slice b.Af b.F.length b.cf] 49)).alloc (.cells #[.int .i64 0, .int .i64 0, .slice none 0 0, .slice none 0 0, .slice none 0 0, .slice none 0 0] 55)).alloc (.cells #[.int .i64 b.n, .int .i64 b.t, .slice none 0 0, .slice none 0 0, .slice none 0 0, .slice none 0 0] 55)) (w.heap.size + 1 + 1) 55 #[.int .i64 b.n, .int .i64 b.t, .slice none 0 0, .slice none 0 0, .slice none 0 0, .slice none 0 0] := by
    have h := Row.new ((w.alloc (.cells #[.int .i64 b.n, .int .i64 b.t, .slice b.Ap b.P.length b.cp, .slice b.Ao b.O.length b.co, .slice b.Ae b.E.length b.ce, .slice b.Af b.F.length b.cf] 49)).alloc (.cells #[.int .i64 0, .int .i64 0, .slice none 0 0, .slice none 0 0, .slice none 0 0, .slice none 0 0] 55)) 55 #[.int .i64 b.n, .int .i64 b.t, .slice none 0 0, .slice none 0 0, .slice none 0 0, .slice none 0 0]
    rw [World.size_alloc, World.size_alloc] at h; exact h
  generalize (((w.alloc (.cells #[.int .i64 b.n, .int .i64 b.t, .slice b.Ap b.P.length b.cp, .slice b.Ao b.O.length b.co, .slice b.Ae b.E.length b.ce, .slice b.Af b.F.length b.cf] 49)).alloc (.cells #[.int .i64 0, .int .i64 0, .slice none 0 0, .slice none 0 0, .slice none 0 0, .slice none 0 0] 55)).alloc (.cells #[.int .i64 b.n, .int .i64 b.t, .slice none 0 0, .slice none 0 0, .slice none 0 0, .slice none 0 0] 55)) = W at hB0 hz0 Ra Rr Ro ⊢
  have HB0 := Lib.hid hB0; clear hB0
  have HZ0 : Hid (w.heap.size + 3 ≤ W.heap.size) := by show _ ≤ _; omega
  clear hz0
  have HRa0 := Lib.hid Ra; clear Ra
  have HRr0 := Lib.hid Rr; clear Rr
  have HRo0 := Lib.hid Ro; clear Ro
  refine (toIntSS_any _ _ _ _ ((HR.out.1.keep HB0.out).more HB0.out.size) HM.out.p HM.out.ps).mono ?_
  rintro e w1 ⟨A1, c1, l1, rfl, k1, o1, s1, hB1⟩
  have HO1 : Hid (OwnL w1 (w.heap.size + 3) A1 l1) := o1.lower HZ0.out
  have HZ1' : Hid (w.heap.size + 3 ≤ w1.heap.size) := Nat.le_trans HZ0.out hB1.size
  have HRa1' := Lib.hid (HRa0.out.below hB1 HRa0.out.lt)
  have HRr1' := Lib.hid (HRr0.out.below hB1 HRr0.out.lt)
  have HRo1' := Lib.hid (HRo0.out.below hB1 HRo0.out.lt)
  have HB1' := Lib.hid (HB0.out.trans (hB1.mono HB0.out.size)); clear hB1 HRa0 HRr0 HRo0 HB0 HZ0 o1
  have K1 := Lib.hid k1; clear k1
  have S1 := Lib.hid s1; clear s1
  have av := HRa1'.out.cell 3
  have xv := HRo1'.out.cell 2
  have yv := HRo1'.out.frozen 2
  simp only [List.getElem?_toArray, List.getElem?_cons_succ, List.getElem?_cons_zero] at av xv
  go_wp2_with fail
  have HRa1 := Lib.hid (HRa1'.out.far (p := ⟨w.heap.size + 1 + 1, 2, none⟩) (by simp; omega) (.slice A1 l1.length c1))
  have HRr1 := Lib.hid (HRr1'.out.far (p := ⟨w.heap.size + 1 + 1, 2, none⟩) (by simp) (.slice A1 l1.length c1))
  have HRo1 : Hid (Row (w1.setCell ⟨w.heap.size + 1 + 1, 2, none⟩ (.slice A1 l1.length c1)) (w.heap.size + 1 + 1) 55 #[.int .i64 b.n, .int .i64 b.t, .slice A1 l1.length c1, .slice none 0 0, .slice none 0 0, .slice none 0 0]) := HRo1'.out.set 2 (.slice A1 l1.length c1)
  have HQ1 := Lib.hid (HO1.out.low (p := ⟨w.heap.size + 1 + 1, 2, none⟩) (by simp) (.slice A1 l1.length c1)); clear HO1
  have HB1 : Hid (Below w.heap.size w (w1.setCell ⟨w.heap.size + 1 + 1, 2, none⟩ (.slice A1 l1.length c1))) := HB1'.out.setCell (by simp; omega) _
  have HZ1 : Hid (w.heap.size + 3 ≤ (w1.setCell ⟨w.heap.size + 1 + 1, 2, none⟩ (.slice A1 l1.length c1)).heap.size) := by have := HZ1'.out; show _ ≤ _; simpa using this
  clear xv yv av HRa1' HRr1' HRo1' HB1' HZ1'
  generalize (w1.setCell ⟨w.heap.size + 1 + 1, 2, none⟩ (.slice A1 l1.length c1)) = W1 at HRa1 HRr1 HRo1 HB1 HZ1 HQ1 ⊢
  have HO1 := HQ1; clear HQ1
  refine (toIntSS_any _ _ _ _ ((HR.out.2.1.keep HB1.out).more HB1.out.size) HM.out.o HM.out.os).mono ?_
  rintro e w2 ⟨A2, c2, l2, rfl, k2, o2, s2, hB2⟩
  have HO2 : Hid (OwnL w2 (w.heap.size + 3) A2 l2) := o2.lower HZ1.out
  have HZ2' : Hid (w.heap.size + 3 ≤ w2.heap.size) := Nat.le_trans HZ1.out hB2.size
  have HRa2' := Lib.hid (HRa1.out.below hB2 HRa1.out.lt)
  have HRr2' := Lib.hid (HRr1.out.below hB2 HRr1.out.lt)
  have HRo2' := Lib.hid (HRo1.out.below hB2 HRo1.out.lt)
  have HP1 := Lib.hid (HO1.out.below hB2 (Nat.le_refl _)); clear HO1
  have HB2' := Lib.hid (HB1.out.trans (hB2.mono HB1.out.size)); clear hB2 HRa1 HRr1 HRo1 HB1 HZ1 o2
  have K2 := Lib.hid k2; clear k2
  have S2 := Lib.hid s2; clear s2
  have av := HRa2'.out.cell 4
  have xv := HRo2'.out.cell 3
  have yv := HRo2'.out.frozen 3
  simp only [List.getElem?_toArray, List.getElem?_cons_succ, List.getElem?_cons_zero] at av xv
  go_wp2_with fail
  have HRa2 := Lib.hid (HRa2'.out.far (p := ⟨w.heap.size + 1 + 1, 3, none⟩) (by simp; omega) (.slice A2 l2.length c2))
  have HRr2 := Lib.hid (HRr2'.out.far (p := ⟨w.heap.size + 1 + 1, 3, none⟩) (by simp) (.slice A2 l2.length c2))
  have HRo2 : Hid (Row (w2.setCell ⟨w.heap.size + 1 + 1, 3, none⟩ (.slice A2 l2.length c2)) (w.heap.size + 1 + 1) 55 #[.int .i64 b.n, .int .i64 b.t, .slice A1 l1.length c1, .slice A2 l2.length c2, .slice none 0 0, .slice none 0 0]) := HRo2'.out.set 3 (.slice A2 l2.length c2)
  have HQ1 := Lib.hid (HP1.out.low (p := ⟨w.heap.size + 1 + 1, 3, none⟩) (by simp) (.slice A2 l2.length c2)); clear HP1
  have HQ2 := Lib.hid (HO2.out.low (p := ⟨w.heap.size + 1 + 1, 3, none⟩) (by simp) (.slice A2 l2.length c2)); clear HO2
  have HB2 : Hid (Below w.heap.size w (w2.setCell ⟨w.heap.size + 1 + 1, 3, none⟩ (.slice A2 l2.length c2))) := HB2'.out.setCell (by simp; omega) _
  have HZ2 : Hid (w.heap.size + 3 ≤ (w2.setCell ⟨w.heap.size + 1 + 1, 3, none⟩ (.slice A2 l2.length c2)).heap.size) := by have := HZ2'.out; show _ ≤ _; simpa using this
  clear xv yv av HRa2' HRr2' HRo2' HB2' HZ2'
  generalize (w2.setCell ⟨w.heap.size + 1 + 1, 3, none⟩ (.slice A2 l2.length c2)) = W2 at HRa2 HRr2 HRo2 HB2 HZ2 HQ1 HQ2 ⊢
  have HO1 := HQ1; clear HQ1
  have HO2 := HQ2; clear HQ2
  refine (toIntS_any _ _ _ _ ((HR.out.2.2.1.keep HB2.out).more HB2.out.size) HM.out.e).mono ?_
  rintro e w3 ⟨A3, c3, rfl, k3, o3, hB3⟩
  have HO3 : Hid (OwnI w3 (w.heap.size + 3) A3 b.E) := o3.lower HZ2.out
  have HZ3' : Hid (w.heap.size + 3 ≤ w3.heap.size) := Nat.le_trans HZ2.out hB3.size
  have HRa3' := Lib.hid (HRa2.out.below hB3 HRa2.out.lt)
  have HRr3' := Lib.hid (HRr2.out.below hB3 HRr2.out.lt)
  have HRo3' := Lib.hid (HRo2.out.below hB3 HRo2.out.lt)
  have HP1 := Lib.hid (HO1.out.below hB3 (Nat.le_refl _)); clear HO1
  have HP2 := Lib.hid (HO2.out.below hB3 (Nat.le_refl _)); clear HO2
  have HB3' := Lib.hid (HB2.out.trans (hB3.mono HB2.out.size)); clear hB3 HRa2 HRr2 HRo2 HB2 HZ2 o3
  have K3 := Lib.hid k3; clear k3
  have av := HRa3'.out.cell 5
  have xv := HRo3'.out.cell 4
  have yv := HRo3'.out.frozen 4
  simp only [List.getElem?_toArray, List.getElem?_cons_succ, List.getElem?_cons_zero] at av xv
  go_wp2_with fail
  have HRa3 := Lib.hid (HRa3'.out.far (p := ⟨w.heap.size + 1 + 1, 4, none⟩) (by simp; omega) (.slice A3 b.E.length c3))
  have HRr3 := Lib.hid (HRr3'.out.far (p := ⟨w.heap.size + 1 + 1, 4, none⟩) (by simp) (.slice A3 b.E.length c3))
  have HRo3 : Hid (Row (w3.setCell ⟨w.heap.size + 1 + 1, 4, none⟩ (.slice A3 b.E.length c3)) (w.heap.size + 1 + 1) 55 #[.int .i64 b.n, .int .i64 b.t, .slice A1 l1.length c1, .slice A2 l2.length c2, .slice A3 b.E.length c3, .slice none 0 0]) := HRo3'.out.set 4 (.slice A3 b.E.length c3)
  have HQ1 := Lib.hid (HP1.out.low (p := ⟨w.heap.size + 1 + 1, 4, none⟩) (by simp) (.slice A3 b.E.length c3)); clear HP1
  have HQ2 := Lib.hid (HP2.out.low (p := ⟨w.heap.size + 1 + 1, 4, none⟩) (by simp) (.slice A3 b.E.length c3)); clear HP2
  have HQ3 := Lib.hid (HO3.out.low (p := ⟨w.heap.size + 1 + 1, 4, none⟩) (by simp) (.slice A3 b.E.length c3)); clear HO3
  have HB3 : Hid (Below w.heap.size w (w3.setCell ⟨w.heap.size + 1 + 1, 4, none⟩ (.slice A3 b.E.length c3))) := HB3'.out.setCell (by simp; omega) _
  have HZ3 : Hid (w.heap.size + 3 ≤ (w3.setCell ⟨w.heap.size + 1 + 1, 4, none⟩ (.slice A3 b.E.length c3)).heap.size) := by have := HZ3'.out; show _ ≤ _; simpa using this
  clear xv yv av HRa3' HRr3' HRo3' HB3' HZ3'
  generalize (w3.setCell ⟨w.heap.size + 1 + 1, 4, none⟩ (.slice A3 b.E.length c3)) = W3 at HRa3 HRr3 HRo3 HB3 HZ3 HQ1 HQ2 HQ3 ⊢
  have HO1 := HQ1; clear HQ1
  have HO2 := HQ2; clear HQ2
  have HO3 := HQ3; clear HQ3
  refine (toIntSS_any _ _ _ _ ((HR.out.2.2.2.keep HB3.out).more HB3.out.size) HM.out.f HM.out.fs).mono ?_
  rintro e w4 ⟨A4, c4, l4, rfl, k4, o4, s4, hB4⟩
  have HO4 : Hid (OwnL w4 (w.heap.size + 3) A4 l4) := o4.lower HZ3.out
  have HZ4' : Hid (w.heap.size + 3 ≤ w4.heap.size) := Nat.le_trans HZ3.out hB4.size
  have HRa4' := Lib.hid (HRa3.out.below hB4 HRa3.out.lt)
  have HRr4' := Lib.hid (HRr3.out.below hB4 HRr3.out.lt)
  have HRo4' := Lib.hid (HRo3.out.below hB4 HRo3.out.lt)
  have HP1 := Lib.hid (HO1.out.below hB4 (Nat.le_refl _)); clear HO1
  have HP2 := Lib.hid (HO2.out.below hB4 (Nat.le_refl _)); clear HO2
  have HP3 := Lib.hid (HO3.out.below hB4 (Nat.le_refl _)); clear HO3
  have HB4' := Lib.hid (HB3.out.trans (hB4.mono HB3.out.size)); clear hB4 HRa3 HRr3 HRo3 HB3 HZ3 o4
  have K4 := Lib.hid k4; clear k4
  have S4 := Lib.hid s4; clear s4
  have x0 := HRo4'.out.cell 0
  have x1 := HRo4'.out.cell 1
  have x2 := HRo4'.out.cell 2
  have x3 := HRo4'.out.cell 3
  have x4 := HRo4'.out.cell 4
  have x5 := HRo4'.out.cell 5
  have y5 := HRo4'.out.frozen 5
  have r0 := HRr4'.out.cell 0
  have r1 := HRr4'.out.cell 1
  have r2 := HRr4'.out.cell 2
  have r3 := HRr4'.out.cell 3
  have r4 := HRr4'.out.cell 4
  have r5 := HRr4'.out.cell 5
  have q0 := HRr4'.out.frozen 0
  have q1 := HRr4'.out.frozen 1
  have q2 := HRr4'.out.frozen 2
  have q3 := HRr4'.out.frozen 3
  have q4 := HRr4'.out.frozen 4
  have q5 := HRr4'.out.frozen 5
  simp only [List.getElem?_toArray, List.getElem?_cons_succ, List.getElem?_cons_zero] at x0 x1 x2 x3 x4 x5 r0 r1 r2 r3 r4 r5
  go_wp2_with fail
  refine bodyPost_ret (v := .agg #[.int .i64 b.n, .int .i64 b.t, .slice A1 l1.length c1, .slice A2 l2.length c2, .slice A3 b.E.length c3, .slice A4 l4.length c4]) (by simp [results, Tryd.results35, go_sem, r0, r1, r2, r3, r4, r5]) rfl ⟨⟨b.n, b.t, A1, l1, c1, A2, l2, c2, A3, b.E, c3, A4, l4, c4⟩, rfl, ?_, ?_, ⟨K1.out, K2.out, K3.out, K4.out⟩, ?_⟩
  · show Bs.mk _ _ _ _ _ _ = Bs.mk _ _ _ _ _ _
    rw [S1.out, S2.out, S4.out]
  · refine ⟨?_, ?_, ?_, ?_⟩
    · exact (((((((HP1.out.low (by simp) _).low (by simp) _).low (by simp) _).low (by simp) _).low (by simp) _).low (by simp) _).low (by simp) _).lower (by omega)
    · exact (((((((HP2.out.low (by simp) _).low (by simp) _).low (by simp) _).low (by simp) _).low (by simp) _).low (by simp) _).low (by simp) _).lower (by omega)
    · exact (((((((HP3.out.low (by simp) _).low (by simp) _).low (by simp) _).low (by simp) _).low (by simp) _).low (by simp) _).low (by simp) _).lower (by omega)
    · exact (((((((HO4.out.low (by simp) _).low (by simp) _).low (by simp) _).low (by simp) _).low (by simp) _).low (by simp) _).low (by simp) _).lower (by omega)
  · exact ((((((HB4'.out.setCell (by simp; omega) _).setCell (by simp) _).setCell (by simp) _).setCell (by simp) _).setCell (by simp) _).setCell (by simp) _).setCell (by simp) _

end Go.Proofs.YtfbpcdmpkbjifaaDoor
