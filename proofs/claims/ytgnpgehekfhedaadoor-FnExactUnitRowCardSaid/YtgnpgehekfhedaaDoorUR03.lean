/- What a good grammar says of each of its rules. -/
import Derived.Test.YtgnpgehekfhedaaDoorUR01
import Derived.Test.YtgnpgehekfhedaaDoorUR02
import Derived.Deep.WholeRow
import Derived.Laws.StructEq

namespace Go.Proofs.YtgnpgehekfhedaaDoor

theorem goodG_mem {n t : Int} {ss : List (Int × List Int)} (h : goodG n t ss = true) {u : Int × List Int} (hu : u ∈ ss) : (0 ≤ u.1 ∧ u.1 < n) ∧ u.2.length ≤ 4 ∧ ∀ x ∈ u.2, (0 ≤ x ∧ x < n) ∨ (x < 0 ∧ -t ≤ x) := by
  obtain ⟨_, _, _, hg⟩ := goodG_is h
  obtain ⟨k, hk⟩ := List.mem_iff_getElem?.1 hu
  have h1 := (hg k u (List.getElem?_eq_some_iff.1 hk).1 hk).1
  unfold goodU at h1
  simp only [Bool.and_eq_true, decide_eq_true_eq] at h1
  refine ⟨nonB_is h1.1, h1.2.1, fun x hx => ?_⟩
  have h2 := h1.2.2
  unfold symsB at h2
  rw [List.all_eq_true] at h2
  have h3 := h2 x hx
  unfold symB at h3
  have := of_decide_eq_true h3
  omega

end Go.Proofs.YtgnpgehekfhedaaDoor

/- Plain mathematics of chapter 3: the least set that is closed under rules. -/

namespace Go.Proofs.YtgnpgehekfhedaaDoor

/-- A way to close a set: when a rule fires in a set, and what it then adds. -/
structure Way where
  fires : (Int → Bool) → Int × List Int → Bool
  adds : Int × List Int → List Int
  mono : ∀ (S T : Int → Bool) (r : Int × List Int), (∀ x, S x = true → T x = true) → fires S r = true → fires T r = true

/-- x is in every set that holds what S0 holds and is closed under the rules. -/
def Least (W : Way) (S0 : Int → Bool) (ss : List (Int × List Int)) (x : Int) : Prop :=
  ∀ S : Int → Bool, (∀ y, S0 y = true → S y = true) → (∀ r ∈ ss, W.fires S r = true → ∀ y ∈ W.adds r, S y = true) → S x = true

theorem Least.start {W : Way} {S0 : Int → Bool} {ss : List (Int × List Int)} {x : Int} (h : S0 x = true) : Least W S0 ss x := fun _ h0 _ => h0 x h
theorem Least.step {W : Way} {S0 S : Int → Bool} {ss : List (Int × List Int)} (hS : ∀ x, S x = true → Least W S0 ss x) {r : Int × List Int} (hr : r ∈ ss) (hf : W.fires S r = true) {y : Int} (hy : y ∈ W.adds r) : Least W S0 ss y := by
  intro T h0 hc
  exact hc r hr (W.mono S T r (fun x hx => hS x hx T h0 hc) hf) y hy

/-- S is the least set. -/
def IsLeast (W : Way) (S0 : Int → Bool) (ss : List (Int × List Int)) (S : Int → Bool) : Prop := ∀ x, S x = true ↔ Least W S0 ss x
theorem isLeast_of {W : Way} {S0 S : Int → Bool} {ss : List (Int × List Int)} (hs : ∀ x, S x = true → Least W S0 ss x) (h0 : ∀ x, S0 x = true → S x = true) (hc : ∀ r ∈ ss, W.fires S r = true → ∀ y ∈ W.adds r, S y = true) : IsLeast W S0 ss S :=
  fun x => ⟨hs x, fun h => h S h0 hc⟩
theorem IsLeast.unique {W : Way} {S0 S T : Int → Bool} {ss : List (Int × List Int)} (h : IsLeast W S0 ss S) (k : IsLeast W S0 ss T) : S = T := by
  funext x
  rw [Bool.eq_iff_iff]
  exact (h x).trans (k x).symm

/-- What a rule that is used makes of a set. -/
def useW (W : Way) (S : Int → Bool) (r : Int × List Int) : Int → Bool := fun x => S x || (W.fires S r && (W.adds r).contains x)
theorem useW_no {W : Way} {S : Int → Bool} {r : Int × List Int} (h : W.fires S r = false) : useW W S r = S := by
  funext x
  simp [useW, h]
theorem useW_le {W : Way} {S : Int → Bool} {r : Int × List Int} {x : Int} (h : S x = true) : useW W S r x = true := by simp [useW, h]
theorem useW_add {W : Way} {S : Int → Bool} {r : Int × List Int} {x : Int} (h : W.fires S r = true) (hx : x ∈ W.adds r) : useW W S r x = true := by simp [useW, h, hx]
theorem useW_inv {W : Way} {S : Int → Bool} {r : Int × List Int} {x : Int} (h : useW W S r x = true) : S x = true ∨ (W.fires S r = true ∧ x ∈ W.adds r) := by
  unfold useW at h
  simp at h
  exact h

theorem tokS_mono {S T : Int → Bool} (h : ∀ x, S x = true → T x = true) {x : Int} (hx : tokS S x = true) : tokS T x = true := by
  unfold tokS at hx ⊢
  simp at hx ⊢
  exact hx.imp id (h x)

def wayNull : Way := {
  fires := fun S r => r.2.all S
  adds := fun r => [r.1]
  mono := fun S T r h hf => by
    rw [List.all_eq_true] at hf ⊢
    exact fun x hx => h x (hf x hx) }
def wayProd : Way := {
  fires := fun S r => r.2.all (tokS S)
  adds := fun r => [r.1]
  mono := fun S T r h hf => by
    rw [List.all_eq_true] at hf ⊢
    exact fun x hx => tokS_mono h (hf x hx) }
def wayGrow (P : Int → Bool) : Way := {
  fires := fun S r => r.2.all (tokS P) && r.2.any (tokS S)
  adds := fun r => [r.1]
  mono := fun S T r h hf => by
    rw [Bool.and_eq_true] at hf ⊢
    refine ⟨hf.1, ?_⟩
    have h2 := hf.2
    rw [List.any_eq_true] at h2 ⊢
    obtain ⟨x, hx, hp⟩ := h2
    exact ⟨x, hx, tokS_mono h hp⟩ }
def wayReach : Way := {
  fires := fun S r => S r.1
  adds := fun r => r.2.filter fun x => decide (0 ≤ x)
  mono := fun _ _ _ h hf => h _ hf }

/-- No member. -/
def noS : Int → Bool := fun _ => false
/-- One member. -/
def oneS (s : Int) : Int → Bool := fun x => decide (x = s)

/-- What a way adds are numbers below 40. -/
def AddsFit (W : Way) (ss : List (Int × List Int)) : Prop := ∀ r ∈ ss, ∀ y ∈ W.adds r, 0 ≤ y ∧ y < 40
theorem fit_lefts {W : Way} {n t : Int} {ss : List (Int × List Int)} (hg : goodG n t ss = true) (hW : ∀ r, W.adds r = [r.1]) : AddsFit W ss := fun r hr y hy => by
  rw [hW] at hy
  simp at hy
  subst hy
  have h1 := goodG_is hg
  have h2 := (goodG_mem hg hr).1
  omega
theorem fit_reach {n t : Int} {ss : List (Int × List Int)} (hg : goodG n t ss = true) : AddsFit wayReach ss := fun r hr y hy => by
  have hy' : y ∈ r.2 ∧ 0 ≤ y := by simpa [wayReach] using hy
  have h1 := goodG_is hg
  have h2 := (goodG_mem hg hr).2.2 y hy'.1
  omega

/-- How many of the first m are marked. -/
def cntB (rem : Int → Bool) (m : Nat) : Nat := ((List.range m).filter fun (k : Nat) => rem (k : Int)).length
theorem cntB_le (rem : Int → Bool) (m : Nat) : cntB rem m ≤ m := by
  unfold cntB
  have := List.length_filter_le (fun (k : Nat) => rem (k : Int)) (List.range m)
  simpa using this
theorem filter_two {p q : Nat → Bool} : ∀ (l : List Nat), (∀ j ∈ l, q j = true → p j = true) → (l.filter q).length ≤ (l.filter p).length
  | [], _ => Nat.le_refl _
  | a :: l, h => by
    have ih := filter_two l fun j hj => h j (List.mem_cons_of_mem _ hj)
    have ha := h a List.mem_cons_self
    cases hq : q a
    · rw [List.filter_cons_of_neg (by simp [hq])]
      cases hp : p a
      · rw [List.filter_cons_of_neg (by simp [hp])]; exact ih
      · rw [List.filter_cons_of_pos hp]; simp only [List.length_cons]; omega
    · rw [List.filter_cons_of_pos hq, List.filter_cons_of_pos (ha hq)]
      simp only [List.length_cons]
      omega
theorem filter_less {p q : Nat → Bool} : ∀ (l : List Nat) (i : Nat), i ∈ l → p i = true → q i = false → (∀ j ∈ l, q j = true → p j = true) → (l.filter q).length < (l.filter p).length
  | [], _, h, _, _, _ => by cases h
  | a :: l, i, h, hp, hq, hle => by
    have hl := filter_two l fun j hj => hle j (List.mem_cons_of_mem _ hj)
    by_cases e : a = i
    · subst e
      rw [List.filter_cons_of_pos hp, List.filter_cons_of_neg (by simp [hq])]
      simp only [List.length_cons]
      omega
    · have hm : i ∈ l := by
        rcases List.mem_cons.1 h with h | h
        · exact absurd h.symm e
        · exact h
      have ih := filter_less l i hm hp hq fun j hj => hle j (List.mem_cons_of_mem _ hj)
      have ha := hle a List.mem_cons_self
      cases hqa : q a
      · rw [List.filter_cons_of_neg (by simp [hqa])]
        cases hpa : p a
        · rw [List.filter_cons_of_neg (by simp [hpa])]; exact ih
        · rw [List.filter_cons_of_pos hpa]; simp only [List.length_cons]; omega
      · rw [List.filter_cons_of_pos hqa, List.filter_cons_of_pos (ha hqa)]
        simp only [List.length_cons]
        omega
theorem cntB_strike {rem : Int → Bool} {m k : Nat} (hk : k < m) (h : rem (k : Int) = true) : cntB (strike rem (k : Int)) m < cntB rem m :=
  filter_less (List.range m) k (List.mem_range.2 hk) h (strike_same _ _) fun _ _ hj => strike_le hj

end Go.Proofs.YtgnpgehekfhedaaDoor

/- What it means that a slice in memory reads as a list of lists of numbers, and that this is kept while only newer memory is written. No condition. -/

namespace Go.Proofs.YtgnpgehekfhedaaDoor
open Go.RowKit

/-- A list as it lies in memory: where it lies, what it reads as, its capacity. -/
structure Li where
  a : Option Addr
  r : List Int
  c : Nat

/-- The cells from A on read as the lists ls, below block B. -/
def Lls (w : World) (B : Nat) (A : Option Addr) (ls : List Li) : Prop :=
  0 < ls.length → ∃ b o, A = some ⟨b, o, none⟩ ∧ b < B ∧ ∀ k u, ls[k]? = some u →
    w.cell? ⟨b, o + k, none⟩ = some (.slice u.a u.r.length u.c) ∧ u.r.length ≤ u.c ∧ Ints w B u.a u.r

theorem Lls.keep {w w' : World} {B : Nat} {A : Option Addr} {ls : List Li} (h : Lls w B A ls) (hk : Below B w w') : Lls w' B A ls := by
  intro hn
  obtain ⟨b, o, e, hb, hc⟩ := h hn
  refine ⟨b, o, e, hb, fun k u hu => ?_⟩
  obtain ⟨h1, h2, h3⟩ := hc k u hu
  exact ⟨(hk.cell (p := ⟨b, o + k, none⟩) hb).trans h1, h2, h3.keep hk⟩

theorem Lls.more {w : World} {B B' : Nat} {A : Option Addr} {ls : List Li} (h : Lls w B A ls) (hB : B ≤ B') : Lls w B' A ls := by
  intro hn
  obtain ⟨b, o, e, hb, hc⟩ := h hn
  refine ⟨b, o, e, by omega, fun k u hu => ?_⟩
  obtain ⟨h1, h2, h3⟩ := hc k u hu
  exact ⟨h1, h2, h3.more hB⟩

theorem Lls.at_ {w : World} {B : Nat} {A : Option Addr} {ls : List Li} (h : Lls w B A ls) {k : Nat} (hk : k < ls.length) :
    ∃ b o, A = some ⟨b, o, none⟩ ∧ b < B ∧ w.cell? ⟨b, o + k, none⟩ = some (.slice ls[k].a ls[k].r.length ls[k].c) ∧ ls[k].r.length ≤ ls[k].c ∧ Ints w B ls[k].a ls[k].r := by
  obtain ⟨b, o, e, hb, hc⟩ := h (by omega)
  exact ⟨b, o, e, hb, hc k _ (List.getElem?_eq_getElem hk)⟩

/-- What lists say, wherever they lie. -/
def sayL (ls : List Li) : List (List Int) := ls.map Li.r

theorem sayL_len {ls : List Li} : (sayL ls).length = ls.length := List.length_map _
theorem sayL_len' {ls : List Li} {xs : List (List Int)} (h : sayL ls = xs) : ls.length = xs.length := by rw [← h, sayL_len]
theorem sayL_at {ls : List Li} {k : Nat} (hk : k < ls.length) : (sayL ls)[k]? = some ls[k].r := by simp [sayL, List.getElem?_eq_getElem hk]
theorem sayL_mem {ls : List Li} {u : Li} (hu : u ∈ ls) : u.r ∈ sayL ls := List.mem_map.2 ⟨u, hu, rfl⟩

/-- No list is longer than m. -/
def ShortL (m : Nat) (xs : List (List Int)) : Prop := ∀ x ∈ xs, x.length ≤ m

/-- The slice of lists that begins at A, and each of the lists, are the call's own and read as ls; no two lists lie in one block. -/
def OwnL (w : World) (lo : Nat) (A : Option Addr) (ls : List Li) : Prop :=
  ls = [] ∨ ∃ (g : Nat) (cs : Array Value), A = some ⟨g, 0, none⟩ ∧ lo ≤ g ∧ Row w g 27 cs ∧
    (∀ (k : Nat) (u : Li), ls[k]? = some u → cs[k]? = some (.slice u.a u.r.length u.c) ∧ u.r.length ≤ u.c ∧ OwnI w lo u.a u.r) ∧
    ∀ (i j : Nat) (u v : Li), ls[i]? = some u → ls[j]? = some v → i ≠ j → u.r ≠ [] → v.r ≠ [] → u.a ≠ v.a

theorem OwnL.lls {w : World} {lo : Nat} {A : Option Addr} {ls : List Li} (h : OwnL w lo A ls) : Lls w w.heap.size A ls := by
  intro hn
  rcases h with rfl | ⟨g, cs, rfl, _, hr, hc, _⟩
  · simp at hn
  · refine ⟨g, 0, rfl, hr.lt, fun k u hu => ?_⟩
    obtain ⟨h1, h2, h3⟩ := hc k u hu
    exact ⟨by rw [hr.cell, Nat.zero_add]; exact h1, h2, h3.ints⟩

theorem OwnL.below {w w' : World} {lo B : Nat} {A : Option Addr} {ls : List Li} (h : OwnL w lo A ls) (hb : Below B w w') (hB : w.heap.size ≤ B) : OwnL w' lo A ls := by
  rcases h with h | ⟨g, cs, e, hl, hr, hc, hd⟩
  · exact .inl h
  · refine .inr ⟨g, cs, e, hl, hr.below hb (by have := hr.lt; omega), fun k u hu => ?_, hd⟩
    obtain ⟨h1, h2, h3⟩ := hc k u hu
    exact ⟨h1, h2, h3.below hb hB⟩

theorem OwnL.lower {w : World} {lo lo' : Nat} {A : Option Addr} {ls : List Li} (h : OwnL w lo A ls) (hl : lo' ≤ lo) : OwnL w lo' A ls := by
  rcases h with h | ⟨g, cs, e, h1, hr, hc, hd⟩
  · exact .inl h
  · refine .inr ⟨g, cs, e, by omega, hr, fun k u hu => ?_, hd⟩
    obtain ⟨a, b, c⟩ := hc k u hu
    exact ⟨a, b, c.lower hl⟩

theorem OwnL.low {w : World} {lo : Nat} {A : Option Addr} {ls : List Li} (h : OwnL w lo A ls) {p : Addr} (hp : p.block < lo) (u : Value) : OwnL (w.setCell p u) lo A ls := by
  rcases h with h | ⟨g, cs, e, hl, hr, hc, hd⟩
  · exact .inl h
  · refine .inr ⟨g, cs, e, hl, hr.far (by omega) u, fun k v hv => ?_, hd⟩
    obtain ⟨h1, h2, h3⟩ := hc k v hv
    exact ⟨h1, h2, h3.low hp u⟩

end Go.Proofs.YtgnpgehekfhedaaDoor

/- What the laws' size counters answer of lists of lists, and of a binary grammar. -/

namespace Go.Proofs.YtgnpgehekfhedaaDoor
open Go.RowKit

/-- The lists, one after the other. -/
def szL : List (List Int) → Int → Int
  | [], L => L
  | u :: r, L => if szI u.length L < 0 then -1 else szL r (szI u.length L)

def szLs (xs : List (List Int)) (L : Int) : Int := if L - xs.length < 0 then -1 else szL xs (L - xs.length)

theorem szL_ge : ∀ (rs : List (List Int)) {L : Int}, 0 ≤ L → -1 ≤ szL rs L ∧ (0 ≤ szL rs L → szL rs L ≤ L ∧ ∀ u ∈ rs, (u.length : Int) ≤ L)
  | [], L, _h => by simp [szL]; omega
  | u :: r, L, _h => by
    simp only [szL]
    split
    · simp
    · rename_i hn
      have h1 : szI u.length L = L - u.length := by unfold szI at hn ⊢; split <;> simp_all
      have ih := szL_ge r (L := szI u.length L) (by omega)
      refine ⟨ih.1, fun hp => ?_⟩
      obtain ⟨a, b⟩ := ih.2 hp
      refine ⟨by omega, fun v hv => ?_⟩
      rcases List.mem_cons.1 hv with rfl | hv
      · omega
      · have := b v hv; omega

theorem szLs_ge (rs : List (List Int)) {L : Int} (_h : 0 ≤ L) : -1 ≤ szLs rs L ∧ szLs rs L ≤ L := by
  unfold szLs; split
  · omega
  · have h := szL_ge rs (L := L - rs.length) (by omega)
    refine ⟨h.1, ?_⟩
    by_cases hp : 0 ≤ szL rs (L - rs.length)
    · have := (h.2 hp).1; omega
    · omega

/-- Where the count is not negative, the lists and each of them are no more than it began with. -/
theorem szLs_bound {rs : List (List Int)} {L : Int} (_h : 0 ≤ L) (hp : 0 ≤ szLs rs L) : (rs.length : Int) ≤ L ∧ ∀ u ∈ rs, (u.length : Int) ≤ L := by
  unfold szLs at hp
  split at hp
  · omega
  · obtain ⟨_, b⟩ := (szL_ge rs (L := L - rs.length) (by omega)).2 hp
    exact ⟨by omega, fun u hu => by have := b u hu; omega⟩

theorem szL_drop {ls : List Li} {k : Nat} (hk : k < ls.length) (L : Int) : szL (sayL (ls.drop k)) L = if szI ls[k].r.length L < 0 then -1 else szL (sayL (ls.drop (k + 1))) (szI ls[k].r.length L) := by
  rw [List.drop_eq_getElem_cons hk]; rfl

set_option maxHeartbeats 400000 in
theorem szIntSS_any (A : Option Addr) (ls : List Li) (c : Nat) (L : Int) (w : World) (hr : Lls w w.heap.size A ls) (hn : ls.length ≤ maxLen) (hu : ∀ u ∈ ls, u.r.length ≤ maxLen) (h0 : 0 ≤ L) (h1 : L ≤ 1048576) :
    Calls Tryd.prog 73 #[.slice A ls.length c, .int .i64 L] w fun e w' => e = .returned (.int .i64 (szLs (sayL ls) L)) ∧ Below w.heap.size w w' := by
  unfold maxLen at hn
  by_cases h : L - ls.length < 0
  · have hs : Hid (szLs (sayL ls) L = -1) := by show szLs (sayL ls) L = -1; unfold szLs; rw [sayL_len, if_pos h]
    have HU := Lib.hid hu; clear hu
    have HR := Lib.hid hr; clear hr
    go_enter Tryd.func73, Tryd.ntmps73
    go_wp2
    go_ret
    exact ⟨by rw [hs.out]; rfl, Below.refl _ _⟩
  · have hs : Hid (szLs (sayL ls) L = szL (sayL ls) (L - ls.length)) := by show szLs (sayL ls) L = _; unfold szLs; rw [sayL_len, if_neg h]
    have HU := Lib.hid hu; clear hu
    have HR := Lib.hid hr; clear hr
    go_enter Tryd.func73, Tryd.ntmps73
    go_wp2
    go_loopw [1, 5] (fun l i wr => ∃ (k : Nat) (M : Int), k ≤ ls.length ∧ i = .int .i64 k ∧ l = .int .i64 M ∧ 0 ≤ M ∧ M ≤ 1048576 ∧ Hid (szLs (sayL ls) L = szL (sayL (ls.drop k)) M) ∧ Below w.heap.size w wr) (fun _ i _ => ls.length - (intOf i).toNat)
    case atStart => exact ⟨0, L - ls.length, by omega, rfl, rfl, by omega, by omega, hs, Below.refl _ _⟩
    case round =>
      obtain ⟨k, M, hk, rfl, rfl, hM0, hM1, hS, hB⟩ := hrel
      by_cases hlt : k < ls.length
      · obtain ⟨b, o, rfl, hb, c1, c2, c3⟩ := (HR.out.keep hB).at_ hlt
        have hl := szI_le (n := ls[k].r.length) hM0
        have hlen := HU.out ls[k] (List.getElem_mem hlt)
        have HS : Hid (szLs (sayL ls) L = if szI ls[k].r.length M < 0 then -1 else szL (sayL (ls.drop (k + 1))) (szI ls[k].r.length M)) := by show _ = _; rw [hS.out, szL_drop hlt]
        clear hS c3
        by_cases hneg : szI ls[k].r.length M < 0
        · go_wp2_with (go_at_call 74; refine (szIntS_any _ _ _ _ _ hlen hM0 hM1).mono ?_; rintro e w' ⟨rfl, rfl⟩)
          go_ret
          exact ⟨ret_int (by rw [HS.out, if_pos hneg]), hB⟩
        · go_wp2_with (go_at_call 74; refine (szIntS_any _ _ _ _ _ hlen hM0 hM1).mono ?_; rintro e w' ⟨rfl, rfl⟩)
          go_roundw
          case rel => exact ⟨k + 1, _, by omega, by go_num, rfl, by omega, by omega, by show _ = _; rw [HS.out, if_neg (by omega)], hB⟩
          case measure => simp [intOf]; omega
      · go_wp2
        go_ret
        exact ⟨ret_int (by rw [hS.out, List.drop_of_length_le (by omega)]; rfl), hB⟩

end Go.Proofs.YtgnpgehekfhedaaDoor

/- What the laws' copy of lists of lists makes: new memory that reads as what was copied. -/

namespace Go.Proofs.YtgnpgehekfhedaaDoor
open Go.RowKit

theorem Tryd.infoIntS : (Tryd.prog.info? 27).map (fun i => (i.zero, i.size, i.bytes)) = some (some (.slice none 0 0), 1, 24) := by kernel_rfl

def zL (n : Nat) : Array Value := madeCells #[.slice none 0 0] n
theorem zL_size (n : Nat) : (zL n).size = n := size_madeCells _ _

theorem make_lists (n : Nat) (hn : n ≤ 1048576) (w : World) :
    (Instr.makeSlice 26 (.int .i64 (n : Int)) (.int .i64 (n : Int))).run Tryd.prog w = .ok (.slice (some ⟨w.heap.size, 0, none⟩) n n) (w.alloc (.cells (zL n) 27)) := by
  obtain ⟨i, hi, hz, hs, hb⟩ := info_of Tryd.infoIntS
  have h := run_make (P := Tryd.prog) w 26 27 i _ Tryd.underlying26 hi hz .i64 .i64 n n (by omega) (by omega) (by rw [hb]; omega) (by omega)
  rw [hs] at h
  simpa [zL, Value.cells] using h

/-- A new slice of lists that says what xs say; nothing older has turned. -/
def GaveL (w : World) (xs : List (List Int)) (e : Ending) (w' : World) : Prop :=
  ∃ A c ls, e = .returned (.slice A ls.length c) ∧ ls.length ≤ c ∧ OwnL w' w.heap.size A ls ∧ sayL ls = xs ∧ Below w.heap.size w w'

/-- The first k of n lists have been put into block g; they read as done. -/
def FillL (w : World) (lo g n : Nat) (done : List Li) : Prop :=
  ∃ (cs : Array Value), Row w g 27 cs ∧ cs.size = n ∧
    (∀ (j : Nat) (u : Li), done[j]? = some u → cs[j]? = some (.slice u.a u.r.length u.c) ∧ u.r.length ≤ u.c ∧ OwnI w lo u.a u.r) ∧
    ∀ (i j : Nat) (u v : Li), done[i]? = some u → done[j]? = some v → i ≠ j → u.r ≠ [] → v.r ≠ [] → u.a ≠ v.a

theorem getElem?_snoc {α : Type} {xs : List α} {y u : α} {i : Nat} (h : (xs ++ [y])[i]? = some u) : (i < xs.length ∧ xs[i]? = some u) ∨ (i = xs.length ∧ u = y) := by
  by_cases e : i < xs.length
  · rw [List.getElem?_append_left e] at h; exact .inl ⟨e, h⟩
  · rw [List.getElem?_append_right (by omega)] at h
    have hj : i - xs.length = 0 := by
      rcases Nat.eq_zero_or_pos (i - xs.length) with h0 | h0
      · exact h0
      · rw [List.getElem?_eq_none (by simp; omega)] at h; cases h
    rw [hj] at h
    simp at h
    exact .inr ⟨by omega, h.symm⟩

/-- Lists that lie apart stay so with one more in newer memory. -/
theorem apart_snoc {w : World} {lo : Nat} {done : List Li} {v : Li} {w1 : World}
    (hd : ∀ (i j : Nat) (u v : Li), done[i]? = some u → done[j]? = some v → i ≠ j → u.r ≠ [] → v.r ≠ [] → u.a ≠ v.a)
    (hc : ∀ (j : Nat) (u : Li), done[j]? = some u → OwnI w lo u.a u.r) (hO : OwnI w1 w.heap.size v.a v.r) :
    ∀ (i j : Nat) (u x : Li), (done ++ [v])[i]? = some u → (done ++ [v])[j]? = some x → i ≠ j → u.r ≠ [] → x.r ≠ [] → u.a ≠ x.a := by
  have old : ∀ (i : Nat) (u : Li), done[i]? = some u → u.r ≠ [] → v.r ≠ [] → u.a ≠ v.a := by
    intro i u hu hne hne' he
    rcases hc i u hu with h3 | ⟨g1, _, e1, _, r1, _⟩
    · exact hne h3
    · rcases hO with h4 | ⟨g2, _, e2, l2, _, _⟩
      · exact hne' h4
      · rw [e1, e2] at he
        have := r1.lt
        injection he with he
        injection he with he
        omega
  intro i j u x hu hx hij hun hxn
  rcases getElem?_snoc hu with ⟨_, hu'⟩ | ⟨hi, ei⟩ <;> rcases getElem?_snoc hx with ⟨_, hx'⟩ | ⟨hj, ej⟩
  · exact hd i j u x hu' hx' hij hun hxn
  · rw [ej]; exact old i u hu' hun (ej ▸ hxn)
  · rw [ei]; exact fun e => old j x hx' hxn (ei ▸ hun) e.symm
  · omega

theorem OwnI.farL {w : World} {lo g : Nat} {A : Option Addr} {xs : List Int} {cs : Array Value} (h : OwnI w lo A xs) (hr : Row w g 27 cs) (i : Nat) (v : Value) : OwnI (w.setCell ⟨g, i, none⟩ v) lo A xs := by
  rcases h with h | ⟨g', cs', e, hl', hr', hc'⟩
  · exact .inl h
  · have hne : g' ≠ g := hr'.ne hr (by decide)
    exact .inr ⟨g', cs', e, hl', hr'.far hne _, hc'⟩

theorem FillL.step {w w1 : World} {lo g n : Nat} {done : List Li} (h : FillL w lo g n done) (hlo : lo ≤ w.heap.size) (hk : done.length < n) (hb : Below w.heap.size w w1) {A : Option Addr} {xs : List Int} {c : Nat} (hcap : xs.length ≤ c) (hO : OwnI w1 w.heap.size A xs) :
    FillL (w1.setCell ⟨g, done.length, none⟩ (.slice A xs.length c)) lo g n (done ++ [⟨A, xs, c⟩]) := by
  obtain ⟨cs, hr, hs, hc, hd⟩ := h
  have hg : g < w.heap.size := hr.lt
  have hr1 : Row w1 g 27 cs := hr.below hb hg
  refine ⟨cs.setIfInBounds done.length (.slice A xs.length c), hr1.set _ _, by simp [hs], ?_, apart_snoc hd (fun j u hu => (hc j u hu).2.2) (v := ⟨A, xs, c⟩) hO⟩
  intro j u hu
  rcases getElem?_snoc hu with ⟨hj, hu⟩ | ⟨rfl, rfl⟩
  · obtain ⟨h1, h2, h3⟩ := hc j u hu
    refine ⟨?_, h2, (h3.below hb (Nat.le_refl _)).farL hr1 _ _⟩
    rw [Array.getElem?_setIfInBounds, if_neg (by omega)]; exact h1
  · refine ⟨?_, hcap, (hO.lower hlo).farL hr1 _ _⟩
    rw [Array.getElem?_setIfInBounds, if_pos rfl, if_pos (by omega)]

theorem FillL.row {w : World} {lo g n : Nat} {done : List Li} (h : FillL w lo g n done) : ∃ cs, Row w g 27 cs ∧ cs.size = n := by
  obtain ⟨cs, hr, hs, _⟩ := h
  exact ⟨cs, hr, hs⟩

theorem FillL.own {w : World} {lo g n : Nat} {done : List Li} (h : FillL w lo g n done) (hg : lo ≤ g) : OwnL w lo (some ⟨g, 0, none⟩) done := by
  obtain ⟨cs, hr, _, hc, hd⟩ := h
  exact .inr ⟨g, cs, rfl, hg, hr, hc, hd⟩

theorem say_step {ls : List Li} {done : List Li} {k : Nat} (hk : k < ls.length) (h : sayL done = sayL (ls.take k)) {A : Option Addr} {c : Nat} : sayL (done ++ [⟨A, ls[k].r, c⟩]) = sayL (ls.take (k + 1)) := by
  unfold sayL at h ⊢
  rw [List.map_append, h, List.take_succ_eq_append_getElem hk, List.map_append]; rfl
theorem say_take_len {ls done : List Li} {k : Nat} (hk : k ≤ ls.length) (h : sayL done = sayL (ls.take k)) : done.length = k := by
  rw [sayL_len' h, sayL_len, List.length_take]; omega

set_option maxHeartbeats 400000 in
theorem toIntSS_any (A : Option Addr) (ls : List Li) (c : Nat) (w : World) (hr : Lls w w.heap.size A ls) (hn : ls.length ≤ 1048576) (hu : ∀ u ∈ ls, u.r.length ≤ 1048576) :
    Calls Tryd.prog 77 #[.slice A ls.length c] w (GaveL w (sayL ls)) := by
  have hmk := make_lists ls.length hn
  have HR := Lib.hid hr; clear hr
  have HU := Lib.hid hu; clear hu
  go_enter Tryd.func77, Tryd.ntmps77
  go_wp2
  go_loopw [4] (fun i wr => ∃ (k : Nat) (done : List Li), k ≤ ls.length ∧ i = .int .i64 k ∧ w.heap.size < wr.heap.size ∧ Below w.heap.size w wr ∧ Hid (sayL done = sayL (ls.take k)) ∧ Hid (FillL wr w.heap.size w.heap.size ls.length done)) (fun i _ => ls.length - (intOf i).toNat)
  case atStart => exact ⟨0, [], by omega, rfl, by simp, (Below.refl _ _).alloc (Nat.le_refl _) _, by simp [sayL, Hid], zL ls.length, Row.new _ _ _, zL_size _, fun j u h => by simp at h, fun i j u v h => by simp at h⟩
  case round =>
    obtain ⟨k, done, hk, rfl, hsz, hB, HT, H⟩ := hrel
    clear hmk
    by_cases hlt : k < ls.length
    · obtain ⟨b, o, rfl, hb, c1, c2, c3⟩ := (HR.out.keep hB).at_ hlt
      have C3 := Lib.hid (c3.more hB.size); clear c3
      have hlen := HU.out ls[k] (List.getElem_mem hlt)
      go_wp2_with fail
      refine (toIntS_any _ _ _ _ C3.out hlen).mono ?_
      rintro e w1 ⟨A1, k1, rfl, hcap, hO, hB1⟩
      obtain ⟨cs, hcs, hcz⟩ := H.out.row
      have hr1 := hcs.below hB1 hsz
      obtain ⟨x0, d0⟩ : ∃ x0, w1.cell? ⟨w.heap.size, k, none⟩ = some x0 := ⟨_, (hr1.cell k).trans (Array.getElem?_eq_getElem (by omega))⟩
      have f0 := hr1.frozen k
      have HO := Lib.hid hO; clear hO
      have HB1 := Lib.hid hB1; clear hB1
      have HC := Lib.hid hcap; clear hcap
      clear hr1 hcs hcz
      go_wp2
      go_roundw
      case rel =>
        obtain rfl : done.length = k := say_take_len hk HT.out
        exact ⟨done.length + 1, done ++ [⟨A1, ls[done.length].r, k1⟩], by omega, by go_num, by have := HB1.out.size; simp; omega, ((hB.trans (HB1.out.mono hB.size)).setCell (Nat.le_refl _) _), Lib.hid (say_step hlt HT.out), Lib.hid (H.out.step hB.size hlt HB1.out HC.out HO.out)⟩
      case measure => simp [intOf]; omega
    · go_wp2
      go_ret
      obtain rfl : k = ls.length := by omega
      have hl := say_take_len hk HT.out
      have ht := HT.out
      rw [List.take_length] at ht
      exact ⟨some ⟨w.heap.size, 0, none⟩, ls.length, done, by rw [hl]; rfl, by omega, H.out.own (Nat.le_refl _), ht, hB⟩

end Go.Proofs.YtgnpgehekfhedaaDoor

/- What the laws' comparison of lists of lists answers. -/

namespace Go.Proofs.YtgnpgehekfhedaaDoor
open Go.RowKit

def eqLs (xs ys : List (List Int)) : Bool := decide (xs = ys)
theorem eqLs_t {u v : List (List Int)} (h : u = v) : eqLs u v = true := decide_eq_true h
theorem eqLs_f {u v : List (List Int)} (h : u ≠ v) : eqLs u v = false := decide_eq_false h

theorem step_eqLs {rs ss : List Li} {k : Nat} (hx : k < rs.length) (hy : k < ss.length) (he : eqL rs[k].r ss[k].r = true) (h : ∀ j : Nat, j < k → (sayL rs)[j]? = (sayL ss)[j]?) :
    ∀ j : Nat, j < k + 1 → (sayL rs)[j]? = (sayL ss)[j]? := by
  intro j hj
  by_cases e : j = k
  · subst e; rw [sayL_at hx, sayL_at hy, of_decide_eq_true he]
  · exact h j (by omega)
theorem eqLs_of {rs ss : List Li} {k : Nat} (hl : rs.length = ss.length) (hk : ¬ k < rs.length) (h : ∀ j : Nat, j < k → (sayL rs)[j]? = (sayL ss)[j]?) : eqLs (sayL rs) (sayL ss) = true := by
  refine eqLs_t (List.ext_getElem? fun j => ?_)
  by_cases hj : j < k
  · exact h j hj
  · rw [List.getElem?_eq_none (by rw [sayL_len]; omega), List.getElem?_eq_none (by rw [sayL_len]; omega)]
theorem eqLs_not {rs ss : List Li} {k : Nat} (hx : k < rs.length) (hy : k < ss.length) (h : eqL rs[k].r ss[k].r = false) : eqLs (sayL rs) (sayL ss) = false := by
  refine eqLs_f fun e => ?_
  have e' := congrArg (fun l => l[k]?) e
  simp only [sayL_at hx, sayL_at hy, Option.some.injEq] at e'
  rw [eqL_t e'] at h
  cases h

set_option maxRecDepth 10000 in
set_option maxHeartbeats 400000 in
theorem eqIntSS_any (A A' : Option Addr) (rs ss : List Li) (c c' : Nat) (w : World) (hx : Lls w w.heap.size A rs) (hy : Lls w w.heap.size A' ss) (h1 : rs.length ≤ 1048576) (h2 : ∀ u ∈ rs, u.r.length ≤ 1048576) :
    Calls Tryd.prog 29 #[.slice A rs.length c, .slice A' ss.length c'] w fun e w' => e = .returned (.bool (eqLs (sayL rs) (sayL ss))) ∧ Below w.heap.size w w' := by
  have HX := Lib.hid hx; clear hx
  have HY := Lib.hid hy; clear hy
  have H2 := Lib.hid h2; clear h2
  by_cases hl : rs.length = ss.length
  · have hd : ((rs.length : Int) != (ss.length : Int)) = false := bne_f (by omega)
    have hlen : rs.length ≤ ss.length := by omega
    have hlen' : ss.length ≤ rs.length := by omega
    have HL := Lib.hid hl; clear hl
    go_enter Tryd.func29, Tryd.ntmps29
    go_wp2
    go_loopw [5] (fun i wr => ∃ (k : Nat), k ≤ rs.length ∧ i = .int .i64 k ∧ Below w.heap.size w wr ∧ Hid (∀ j : Nat, j < k → (sayL rs)[j]? = (sayL ss)[j]?)) (fun i _ => rs.length - (intOf i).toNat)
    case atStart => exact ⟨0, by omega, rfl, Below.refl _ _, fun j h => absurd h (by omega)⟩
    case round =>
      obtain ⟨k, hk, rfl, hB, H⟩ := hrel
      by_cases hlt : k < rs.length
      · have hlt' : k < ss.length := by omega
        obtain ⟨b, o, rfl, hb, c1, c2, c3⟩ := (HX.out.keep hB).at_ hlt
        obtain ⟨b', o', rfl, hb', d1, d2, d3⟩ := (HY.out.keep hB).at_ hlt'
        have C3 := Lib.hid (c3.more hB.size); clear c3
        have D3 := Lib.hid (d3.more hB.size); clear d3
        have hlen2 := H2.out rs[k] (List.getElem_mem hlt)
        cases hq : eqL rs[k].r ss[k].r
        all_goals
          have HQ := Lib.hid hq; clear hq
          go_wp2
          go_still_tail 8, (by kernel_rfl)
          change wpList _ _ _ _ _ wr.drew
          go_wp2_with fail
          refine (eqIntS_any _ _ _ _ _ _ _ ?_ ?_ hlen2).mono ?_
          · exact C3.out.keep (by go_grown)
          · exact D3.out.keep (by go_grown)
          rintro e w1 ⟨rfl, hB1⟩
          have hB2 : Below w.heap.size w w1 := hB.trans (Below.trans (by go_grown) (hB1.mono hB.size))
          clear hB1
          rw [HQ.out]
        · have HE : Hid (eqLs (sayL rs) (sayL ss) = false) := eqLs_not hlt hlt' HQ.out
          go_wp2
          go_ret
          exact ⟨ret_bool HE.out.symm, hB2⟩
        · go_wp2
          go_roundw
          case rel => exact ⟨k + 1, by omega, by go_num, hB2, step_eqLs hlt hlt' HQ.out H.out⟩
          case measure => simp [intOf]; omega
      · have HE : Hid (eqLs (sayL rs) (sayL ss) = true) := eqLs_of HL.out hlt H.out
        go_wp2
        go_ret
        exact ⟨ret_bool HE.out.symm, hB⟩
  · have hd : ((rs.length : Int) != (ss.length : Int)) = true := bne_t (by omega)
    have HE : Hid (eqLs (sayL rs) (sayL ss) = false) := eqLs_f fun e => hl (by rw [← sayL_len, e, sayL_len])
    clear hl
    go_enter Tryd.func29, Tryd.ntmps29
    go_wp2
    go_ret
    exact ⟨ret_bool HE.out.symm, Below.refl _ _⟩

end Go.Proofs.YtgnpgehekfhedaaDoor

/- A binary grammar as it lies in memory; what the laws' size counter, copy and comparison answer of it. -/

namespace Go.Proofs.YtgnpgehekfhedaaDoor
open Go.RowKit

/-- A binary grammar as it lies in memory. -/
structure Bi where
  n : Int
  t : Int
  Ap : Option Addr
  P : List Li
  cp : Nat
  Ao : Option Addr
  O : List Li
  co : Nat
  Ae : Option Addr
  E : List Int
  ce : Nat
  Af : Option Addr
  F : List Li
  cf : Nat

/-- What a binary grammar says, wherever it lies. -/
structure Bs where
  n : Int
  t : Int
  P : List (List Int)
  O : List (List Int)
  E : List Int
  F : List (List Int)
deriving DecidableEq

def Bi.say (b : Bi) : Bs := ⟨b.n, b.t, sayL b.P, sayL b.O, b.E, sayL b.F⟩

/-- Its lists can be read, all of them below block B. -/
def ReadB (w : World) (B : Nat) (b : Bi) : Prop := Lls w B b.Ap b.P ∧ Lls w B b.Ao b.O ∧ Ints w B b.Ae b.E ∧ Lls w B b.Af b.F

theorem ReadB.keep {w w' : World} {B : Nat} {b : Bi} (h : ReadB w B b) (hk : Below B w w') : ReadB w' B b := ⟨h.1.keep hk, h.2.1.keep hk, h.2.2.1.keep hk, h.2.2.2.keep hk⟩
theorem ReadB.more {w : World} {B B' : Nat} {b : Bi} (h : ReadB w B b) (hB : B ≤ B') : ReadB w B' b := ⟨h.1.more hB, h.2.1.more hB, h.2.2.1.more hB, h.2.2.2.more hB⟩

/-- None of its lists is longer than m. -/
structure LenB (m : Nat) (b : Bi) : Prop where
  p : b.P.length ≤ m
  ps : ∀ u ∈ b.P, u.r.length ≤ m
  o : b.O.length ≤ m
  os : ∀ u ∈ b.O, u.r.length ≤ m
  e : b.E.length ≤ m
  f : b.F.length ≤ m
  fs : ∀ u ∈ b.F, u.r.length ≤ m

/-- Its lists have room for what they hold. -/
structure CapB (b : Bi) : Prop where
  p : b.P.length ≤ b.cp
  o : b.O.length ≤ b.co
  e : b.E.length ≤ b.ce
  f : b.F.length ≤ b.cf

def szB (P O : List (List Int)) (E : List Int) (F : List (List Int)) (L : Int) : Int :=
  if szLs P L < 0 then -1 else if szLs O (szLs P L) < 0 then -1 else if szI E.length (szLs O (szLs P L)) < 0 then -1 else
  if szLs F (szI E.length (szLs O (szLs P L))) < 0 then -1 else szLs F (szI E.length (szLs O (szLs P L)))

theorem szB_bound {b : Bi} (hp : 0 ≤ szB (sayL b.P) (sayL b.O) b.E (sayL b.F) 1048576) : LenB 1048576 b := by
  unfold szB at hp
  split at hp
  · omega
  rename_i h1
  split at hp
  · omega
  rename_i h2
  split at hp
  · omega
  rename_i h3
  split at hp
  · omega
  rename_i h4
  have a1 := szLs_ge (sayL b.P) (L := 1048576) (by omega)
  have b1 := szLs_bound (rs := sayL b.P) (L := 1048576) (by omega) (by omega)
  have a2 := szLs_ge (sayL b.O) (L := szLs (sayL b.P) 1048576) (by omega)
  have b2 := szLs_bound (rs := sayL b.O) (L := szLs (sayL b.P) 1048576) (by omega) (by omega)
  have a3 := szI_le (n := b.E.length) (L := szLs (sayL b.O) (szLs (sayL b.P) 1048576)) (by omega)
  have e3 : szI b.E.length (szLs (sayL b.O) (szLs (sayL b.P) 1048576)) = szLs (sayL b.O) (szLs (sayL b.P) 1048576) - b.E.length := by
    unfold szI at h3 ⊢; split <;> simp_all
  have b4 := szLs_bound (rs := sayL b.F) (L := szI b.E.length (szLs (sayL b.O) (szLs (sayL b.P) 1048576))) (by omega) (by omega)
  have say : ∀ {ls : List Li} {L : Int}, L ≤ 1048576 → ((sayL ls).length : Int) ≤ L ∧ (∀ u ∈ sayL ls, (u.length : Int) ≤ L) → ls.length ≤ 1048576 ∧ ∀ u ∈ ls, u.r.length ≤ 1048576 := by
    intro ls L hL h
    refine ⟨by have := h.1; rw [sayL_len] at this; omega, fun u hu => ?_⟩
    have := h.2 u.r (sayL_mem hu)
    omega
  obtain ⟨p1, p2⟩ := say (by omega) b1
  obtain ⟨o1, o2⟩ := say (by omega) b2
  obtain ⟨f1, f2⟩ := say (by omega) b4
  exact ⟨p1, p2, o1, o2, by omega, f1, f2⟩

theorem LenB.of_say {m : Nat} {b b' : Bi} (h : LenB m b) (e : b'.say = b.say) : LenB m b' := by
  have one : ∀ {ls ls' : List Li}, sayL ls' = sayL ls → ls.length ≤ m → (∀ u ∈ ls, u.r.length ≤ m) → ls'.length ≤ m ∧ ∀ u ∈ ls', u.r.length ≤ m := by
    intro ls ls' e h1 h2
    refine ⟨by rw [sayL_len' e, sayL_len]; exact h1, fun u hu => ?_⟩
    have := sayL_mem hu
    rw [e] at this
    obtain ⟨v, hv, e'⟩ := List.mem_map.1 this
    rw [← e']; exact h2 v hv
  obtain ⟨a1, a2⟩ := one (congrArg Bs.P e) h.p h.ps
  obtain ⟨b1, b2⟩ := one (congrArg Bs.O e) h.o h.os
  obtain ⟨c1, c2⟩ := one (congrArg Bs.F e) h.f h.fs
  exact ⟨a1, a2, b1, b2, by rw [show b'.E = b.E from congrArg Bs.E e]; exact h.e, c1, c2⟩

set_option maxHeartbeats 1000000 in
theorem szBinary_any (b : Bi) (w : World) (hr : ReadB w w.heap.size b) (hm : LenB maxLen b) :
    Calls Tryd.prog 25 #[(.agg #[.int .i64 b.n, .int .i64 b.t, .slice b.Ap b.P.length b.cp, .slice b.Ao b.O.length b.co, .slice b.Ae b.E.length b.ce, .slice b.Af b.F.length b.cf]), .int .i64 1048576] w fun e w' => e = .returned (.int .i64 (szB (sayL b.P) (sayL b.O) b.E (sayL b.F) 1048576)) ∧ Below w.heap.size w w' := by
  have HR := Lib.hid hr; clear hr
  have HM := Lib.hid hm; clear hm
  go_enter Tryd.func25, Tryd.ntmps25
  go_wp2_with fail
  have hB0 : Below w.heap.size w (w.alloc (.cells #[.int .i64 b.n, .int .i64 b.t, .slice b.Ap b.P.length b.cp, .slice b.Ao b.O.length b.co, .slice b.Ae b.E.length b.ce, .slice b.Af b.F.length b.cf] 46)) := by go_grown
  have R0 : Row (w.alloc (.cells #[.int .i64 b.n, .int .i64 b.t, .slice b.Ap b.P.length b.cp, .slice b.Ao b.O.length b.co, .slice b.Ae b.E.length b.ce, .slice b.Af b.F.length b.cf] 46)) w.heap.size 46 #[.int .i64 b.n, .int .i64 b.t, .slice b.Ap b.P.length b.cp, .slice b.Ao b.O.length b.co, .slice b.Ae b.E.length b.ce, .slice b.Af b.F.length b.cf] := Row.new _ _ _
  generalize (w.alloc (.cells #[.int .i64 b.n, .int .i64 b.t, .slice b.Ap b.P.length b.cp, .slice b.Ao b.O.length b.co, .slice b.Ae b.E.length b.ce, .slice b.Af b.F.length b.cf] 46)) = W at hB0 R0 ⊢
  have HB0 := Lib.hid hB0; clear hB0
  have HR0 := Lib.hid R0; clear R0
  have g1 := szLs_ge (sayL b.P) (L := 1048576) (by omega)
  refine (szIntSS_any _ _ _ _ _ ((HR.out.1.keep HB0.out).more HB0.out.size) HM.out.p HM.out.ps (by omega) (by omega)).mono ?_
  rintro e w1 ⟨rfl, hB1⟩
  have HR1 := Lib.hid (HR0.out.below hB1 HR0.out.lt)
  have HB1 := Lib.hid (HB0.out.trans (hB1.mono HB0.out.size)); clear hB1 HR0 HB0
  have a3 := HR1.out.cell 3
  have a4 := HR1.out.cell 4
  have a5 := HR1.out.cell 5
  simp only [List.getElem?_toArray, List.getElem?_cons_succ, List.getElem?_cons_zero] at a3 a4 a5
  by_cases h1 : szLs (sayL b.P) 1048576 < 0
  · have HE : Hid (szB (sayL b.P) (sayL b.O) b.E (sayL b.F) 1048576 = -1) := by show _ = _; unfold szB; rw [if_pos h1]
    go_wp2
    go_ret
    exact ⟨ret_int HE.out.symm, HB1.out⟩
  have g2 := szLs_ge (sayL b.O) (L := szLs (sayL b.P) 1048576) (by omega)
  go_wp2_with fail
  refine (szIntSS_any _ _ _ _ _ ((HR.out.2.1.keep HB1.out).more HB1.out.size) HM.out.o HM.out.os (by omega) (by omega)).mono ?_
  rintro e w2 ⟨rfl, hB2⟩
  have HR2 := Lib.hid (HR1.out.below hB2 HR1.out.lt)
  have HB2 := Lib.hid (HB1.out.trans (hB2.mono HB1.out.size)); clear hB2 HR1 HB1 a3 a4 a5
  have a4 := HR2.out.cell 4
  have a5 := HR2.out.cell 5
  simp only [List.getElem?_toArray, List.getElem?_cons_succ, List.getElem?_cons_zero] at a4 a5
  by_cases h2 : szLs (sayL b.O) (szLs (sayL b.P) 1048576) < 0
  · have HE : Hid (szB (sayL b.P) (sayL b.O) b.E (sayL b.F) 1048576 = -1) := by show _ = _; unfold szB; rw [if_neg (by omega), if_pos h2]
    go_wp2
    go_ret
    exact ⟨ret_int HE.out.symm, HB2.out⟩
  have g3 := szI_le (n := b.E.length) (L := szLs (sayL b.O) (szLs (sayL b.P) 1048576)) (by omega)
  go_wp2_with fail
  refine (szIntS_any _ _ _ _ _ HM.out.e (by omega) (by omega)).mono ?_
  rintro e w3 ⟨rfl, rfl⟩
  by_cases h3 : szI b.E.length (szLs (sayL b.O) (szLs (sayL b.P) 1048576)) < 0
  · have HE : Hid (szB (sayL b.P) (sayL b.O) b.E (sayL b.F) 1048576 = -1) := by show _ = _; unfold szB; rw [if_neg (by omega), if_neg (by omega), if_pos h3]
    go_wp2
    go_ret
    exact ⟨ret_int HE.out.symm, HB2.out⟩
  have g4 := szLs_ge (sayL b.F) (L := szI b.E.length (szLs (sayL b.O) (szLs (sayL b.P) 1048576))) (by omega)
  go_wp2_with fail
  refine (szIntSS_any _ _ _ _ _ ((HR.out.2.2.2.keep HB2.out).more HB2.out.size) HM.out.f HM.out.fs (by omega) (by omega)).mono ?_
  rintro e w4 ⟨rfl, hB4⟩
  have HB4 := Lib.hid (HB2.out.trans (hB4.mono HB2.out.size)); clear hB4 HR2 HB2 a4 a5
  by_cases h4 : szLs (sayL b.F) (szI b.E.length (szLs (sayL b.O) (szLs (sayL b.P) 1048576))) < 0
  · have HE : Hid (szB (sayL b.P) (sayL b.O) b.E (sayL b.F) 1048576 = -1) := by show _ = _; unfold szB; rw [if_neg (by omega), if_neg (by omega), if_neg (by omega), if_pos h4]
    go_wp2
    go_ret
    exact ⟨ret_int HE.out.symm, HB4.out⟩
  · have HE : Hid (szB (sayL b.P) (sayL b.O) b.E (sayL b.F) 1048576 = szLs (sayL b.F) (szI b.E.length (szLs (sayL b.O) (szLs (sayL b.P) 1048576)))) := by show _ = _; unfold szB; rw [if_neg (by omega), if_neg (by omega), if_neg (by omega), if_neg (by omega)]
    go_wp2
    go_ret
    exact ⟨ret_int HE.out.symm, HB4.out⟩

/-- Two binary grammars say the same. -/
def eqB (s s' : Bs) : Bool := decide (s = s')
theorem eqB_t {s s' : Bs} (h : s = s') : eqB s s' = true := decide_eq_true h

set_option maxHeartbeats 1000000 in
theorem eqBinary_any (b b' : Bi) (w : World) (hx : ReadB w w.heap.size b) (hy : ReadB w w.heap.size b') (hm : LenB 1048576 b) (heq : b.say = b'.say) :
    Calls Tryd.prog 15 #[(.agg #[.int .i64 b.n, .int .i64 b.t, .slice b.Ap b.P.length b.cp, .slice b.Ao b.O.length b.co, .slice b.Ae b.E.length b.ce, .slice b.Af b.F.length b.cf]), (.agg #[.int .i64 b'.n, .int .i64 b'.t, .slice b'.Ap b'.P.length b'.cp, .slice b'.Ao b'.O.length b'.co, .slice b'.Ae b'.E.length b'.ce, .slice b'.Af b'.F.length b'.cf])] w fun e w' => e = .returned (.bool true) ∧ Below w.heap.size w w' := by
  have HX := Lib.hid hx; clear hx
  have HY := Lib.hid hy; clear hy
  have HM := Lib.hid hm; clear hm
  have e1 : (b.n != b'.n) = false := bne_f (congrArg Bs.n heq)
  have e2 : (b.t != b'.t) = false := bne_f (congrArg Bs.t heq)
  have E3 : Hid (eqLs (sayL b.P) (sayL b'.P) = true) := eqLs_t (congrArg Bs.P heq)
  have E4 : Hid (eqLs (sayL b.O) (sayL b'.O) = true) := eqLs_t (congrArg Bs.O heq)
  have E5 : Hid (eqL b.E b'.E = true) := eqL_t (congrArg Bs.E heq)
  have E6 : Hid (eqLs (sayL b.F) (sayL b'.F) = true) := eqLs_t (congrArg Bs.F heq)
  clear heq
  go_enter Tryd.func15, Tryd.ntmps15
  go_wp2_with fail
  have hB0 : Below w.heap.size w ((w.alloc (.cells #[.int .i64 b.n, .int .i64 b.t, .slice b.Ap b.P.length b.cp, .slice b.Ao b.O.length b.co, .slice b.Ae b.E.length b.ce, .slice b.Af b.F.length b.cf] 29)).alloc (.cells #[.int .i64 b'.n, .int .i64 b'.t, .slice b'.Ap b'.P.length b'.cp, .slice b'.Ao b'.O.length b'.co, .slice b'.Ae b'.E.length b'.ce, .slice b'.Af b'.F.length b'.cf] 29)) := by go_grown
  have Ra : Row ((w.alloc (.cells #[.int .i64 b.n, .int .i64 b.t, .slice b.Ap b.P.length b.cp, .slice b.Ao b.O.length b.co, .slice b.Ae b.E.length b.ce, .slice b.Af b.F.length b.cf] 29)).alloc (.cells #[.int .i64 b'.n, .int .i64 b'.t, .slice b'.Ap b'.P.length b'.cp, .slice b'.Ao b'.O.length b'.co, .slice b'.Ae b'.E.length b'.ce, .slice b'.Af b'.F.length b'.cf] 29)) w.heap.size 29 #[.int .i64 b.n, .int .i64 b.t, .slice b.Ap b.P.length b.cp, .slice b.Ao b.O.length b.co, .slice b.Ae b.E.length b.ce, .slice b.Af b.F.length b.cf] := (Row.new _ _ _).alloc _
  have Rb : Row ((w.alloc (.cells #[.int .i64 b.n, .int .i64 b.t, .slice b.Ap b.P.length b.cp, .slice b.Ao b.O.length b.co, .slice b.Ae b.E.length b.ce, .slice b.Af b.F.length b.cf] 29)).alloc (.cells #[.int .i64 b'.n, .int .i64 b'.t, .slice b'.Ap b'.P.length b'.cp, .slice b'.Ao b'.O.length b'.co, .slice b'.Ae b'.E.length b'.ce, .slice b'.Af b'.F.length b'.cf] 29)) (w.heap.size + 1) 29 #[.int .i64 b'.n, .int .i64 b'.t, .slice b'.Ap b'.P.length b'.cp, .slice b'.Ao b'.O.length b'.co, .slice b'.Ae b'.E.length b'.ce, .slice b'.Af b'.F.length b'.cf] := by have h := Row.new (w.alloc (.cells #[.int .i64 b.n, .int .i64 b.t, .slice b.Ap b.P.length b.cp, .slice b.Ao b.O.length b.co, .slice b.Ae b.E.length b.ce, .slice b.Af b.F.length b.cf] 29)) 29 #[.int .i64 b'.n, .int .i64 b'.t, .slice b'.Ap b'.P.length b'.cp, .slice b'.Ao b'.O.length b'.co, .slice b'.Ae b'.E.length b'.ce, .slice b'.Af b'.F.length b'.cf]; rw [World.size_alloc] at h; exact h
  generalize ((w.alloc (.cells #[.int .i64 b.n, .int .i64 b.t, .slice b.Ap b.P.length b.cp, .slice b.Ao b.O.length b.co, .slice b.Ae b.E.length b.ce, .slice b.Af b.F.length b.cf] 29)).alloc (.cells #[.int .i64 b'.n, .int .i64 b'.t, .slice b'.Ap b'.P.length b'.cp, .slice b'.Ao b'.O.length b'.co, .slice b'.Ae b'.E.length b'.ce, .slice b'.Af b'.F.length b'.cf] 29)) = W at hB0 Ra Rb ⊢
  have HB0 := Lib.hid hB0; clear hB0
  have HRa0 := Lib.hid Ra; clear Ra
  have HRb0 := Lib.hid Rb; clear Rb
  refine (eqIntSS_any _ _ _ _ _ _ _ ((HX.out.1.keep HB0.out).more HB0.out.size) ((HY.out.1.keep HB0.out).more HB0.out.size) HM.out.p HM.out.ps).mono ?_
  rintro e w1 ⟨rfl, hB1⟩
  rw [E3.out]
  have HRa1 := Lib.hid (HRa0.out.below hB1 HRa0.out.lt)
  have HRb1 := Lib.hid (HRb0.out.below hB1 HRb0.out.lt)
  have HB1 := Lib.hid (HB0.out.trans (hB1.mono HB0.out.size)); clear hB1 HRa0 HRb0 HB0
  have a3 := HRa1.out.cell 3
  have b3 := HRb1.out.cell 3
  simp only [List.getElem?_toArray, List.getElem?_cons_succ, List.getElem?_cons_zero] at a3 b3
  go_wp2_with fail
  refine (eqIntSS_any _ _ _ _ _ _ _ ((HX.out.2.1.keep HB1.out).more HB1.out.size) ((HY.out.2.1.keep HB1.out).more HB1.out.size) HM.out.o HM.out.os).mono ?_
  rintro e w2 ⟨rfl, hB2⟩
  rw [E4.out]
  have HRa2 := Lib.hid (HRa1.out.below hB2 HRa1.out.lt)
  have HRb2 := Lib.hid (HRb1.out.below hB2 HRb1.out.lt)
  have HB2 := Lib.hid (HB1.out.trans (hB2.mono HB1.out.size)); clear hB2 HRa1 HRb1 HB1 a3 b3
  have a4 := HRa2.out.cell 4
  have b4 := HRb2.out.cell 4
  simp only [List.getElem?_toArray, List.getElem?_cons_succ, List.getElem?_cons_zero] at a4 b4
  go_wp2_with fail
  refine (eqIntS_any _ _ _ _ _ _ _ ((HX.out.2.2.1.keep HB2.out).more HB2.out.size) ((HY.out.2.2.1.keep HB2.out).more HB2.out.size) HM.out.e).mono ?_
  rintro e w3 ⟨rfl, hB3⟩
  rw [E5.out]
  have HRa3 := Lib.hid (HRa2.out.below hB3 HRa2.out.lt)
  have HRb3 := Lib.hid (HRb2.out.below hB3 HRb2.out.lt)
  have HB3 := Lib.hid (HB2.out.trans (hB3.mono HB2.out.size)); clear hB3 HRa2 HRb2 HB2 a4 b4
  have a5 := HRa3.out.cell 5
  have b5 := HRb3.out.cell 5
  simp only [List.getElem?_toArray, List.getElem?_cons_succ, List.getElem?_cons_zero] at a5 b5
  go_wp2_with fail
  refine (eqIntSS_any _ _ _ _ _ _ _ ((HX.out.2.2.2.keep HB3.out).more HB3.out.size) ((HY.out.2.2.2.keep HB3.out).more HB3.out.size) HM.out.f HM.out.fs).mono ?_
  rintro e w4 ⟨rfl, hB4⟩
  rw [E6.out]
  have HB4 := Lib.hid (HB3.out.trans (hB4.mono HB3.out.size)); clear hB4 HRa3 HRb3 HB3 a5 b5
  go_wp2
  go_ret
  exact ⟨rfl, HB4.out⟩

/-- Its lists are the call's own, those of each field apart. -/
def OwnB (w : World) (lo : Nat) (b : Bi) : Prop := OwnL w lo b.Ap b.P ∧ OwnL w lo b.Ao b.O ∧ OwnI w lo b.Ae b.E ∧ OwnL w lo b.Af b.F

theorem OwnB.read {w : World} {lo : Nat} {b : Bi} (h : OwnB w lo b) : ReadB w w.heap.size b := ⟨h.1.lls, h.2.1.lls, h.2.2.1.ints, h.2.2.2.lls⟩
theorem OwnB.below {w w' : World} {lo B : Nat} {b : Bi} (h : OwnB w lo b) (hb : Below B w w') (hB : w.heap.size ≤ B) : OwnB w' lo b := ⟨h.1.below hb hB, h.2.1.below hb hB, h.2.2.1.below hb hB, h.2.2.2.below hb hB⟩

/-- A binary grammar's copy: it says the same; nothing older has turned. -/
def GaveB (w : World) (s : Bs) (e : Ending) (w' : World) : Prop :=
  ∃ b : Bi, e = .returned (.agg #[.int .i64 b.n, .int .i64 b.t, .slice b.Ap b.P.length b.cp, .slice b.Ao b.O.length b.co, .slice b.Ae b.E.length b.ce, .slice b.Af b.F.length b.cf]) ∧ b.say = s ∧ OwnB w' w.heap.size b ∧ CapB b ∧ Below w.heap.size w w'

set_option maxHeartbeats 1000000 in
theorem toBinary_any (b : Bi) (w : World) (hr : ReadB w w.heap.size b) (hm : LenB 1048576 b) :
    Calls Tryd.prog 27 #[(.agg #[.int .i64 b.n, .int .i64 b.t, .slice b.Ap b.P.length b.cp, .slice b.Ao b.O.length b.co, .slice b.Ae b.E.length b.ce, .slice b.Af b.F.length b.cf])] w (GaveB w b.say) := by
  have HR := Lib.hid hr; clear hr
  have HM := Lib.hid hm; clear hm
  go_enter Tryd.func27, Tryd.ntmps27
  go_wp2_with fail
  have hB0 : Below w.heap.size w (((w.alloc (.cells #[.int .i64 b.n, .int .i64 b.t, .slice b.Ap b.P.length b.cp, .slice b.Ao b.O.length b.co, .slice b.Ae b.E.length b.ce, .slice b.Af b.F.length b.cf] 46)).alloc (.cells #[.int .i64 0, .int .i64 0, .slice none 0 0, .slice none 0 0, .slice none 0 0, .slice none 0 0] 29)).alloc (.cells #[.int .i64 b.n, .int .i64 b.t, .slice none 0 0, .slice none 0 0, .slice none 0 0, .slice none 0 0] 29)) := by go_grown
  have hz0 : (((w.alloc (.cells #[.int .i64 b.n, .int .i64 b.t, .slice b.Ap b.P.length b.cp, .slice b.Ao b.O.length b.co, .slice b.Ae b.E.length b.ce, .slice b.Af b.F.length b.cf] 46)).alloc (.cells #[.int .i64 0, .int .i64 0, .slice none 0 0, .slice none 0 0, .slice none 0 0, .slice none 0 0] 29)).alloc (.cells #[.int .i64 b.n, .int .i64 b.t, .slice none 0 0, .slice none 0 0, .slice none 0 0, .slice none 0 0] 29)).heap.size = w.heap.size + 3 := by simp
  have Ra : Row (((w.alloc (.cells #[.int .i64 b.n, .int .i64 b.t, .slice b.Ap b.P.length b.cp, .slice b.Ao b.O.length b.co, .slice b.Ae b.E.length b.ce, .slice b.Af b.F.length b.cf] 46)).alloc (.cells #[.int .i64 0, .int .i64 0, .slice none 0 0, .slice none 0 0, .slice none 0 0, .slice none 0 0] 29)).alloc (.cells #[.int .i64 b.n, .int .i64 b.t, .slice none 0 0, .slice none 0 0, .slice none 0 0, .slice none 0 0] 29)) w.heap.size 46 #[.int .i64 b.n, .int .i64 b.t, .slice b.Ap b.P.length b.cp, .slice b.Ao b.O.length b.co, .slice b.Ae b.E.length b.ce, .slice b.Af b.F.length b.cf] := ((Row.new _ _ _).alloc _).alloc _
  have Rr : Row (((w.alloc (.cells #[.int .i64 b.n, .int .i64 b.t, .slice b.Ap b.P.length b.cp, .slice b.Ao b.O.length b.co, .slice b.Ae b.E.length b.ce, .slice b.Af b.F.length b.cf] 46)).alloc (.cells #[.int .i64 0, .int .i64 0, .slice none 0 0, .slice none 0 0, .slice none 0 0, .slice none 0 0] 29)).alloc (.cells #[.int .i64 b.n, .int .i64 b.t, .slice none 0 0, .slice none 0 0, .slice none 0 0, .slice none 0 0] 29)) (w.heap.size + 1) 29 #[.int .i64 0, .int .i64 0, .slice none 0 0, .slice none 0 0, .slice none 0 0, .slice none 0 0] := by
    have h := Row.new (w.alloc (.cells #[.int .i64 b.n, .int .i64 b.t, .slice b.Ap b.P.length b.cp, .slice b.Ao b.O.length b.co, .slice b.Ae b.E.length b.ce, .slice b.Af b.F.length b.cf] 46)) 29 #[.int .i64 0, .int .i64 0, .slice none 0 0, .slice none 0 0, .slice none 0 0, .slice none 0 0]
    rw [World.size_alloc] at h; exact h.alloc _
  have Ro : Row (((w.alloc (.cells #[.int .i64 b.n, .int .i64 b.t, .slice b.Ap b.P.length b.cp, .slice b.Ao b.O.length b.co, .slice b.Ae b.E.length b.ce, .slice b.Af b.F.length b.cf] 46)).alloc (.cells #[.int .i64 0, .int .i64 0, .slice none 0 0, .slice none 0 0, .slice none 0 0, .slice none 0 0] 29)).alloc (.cells #[.int .i64 b.n, .int .i64 b.t, .slice none 0 0, .slice none 0 0, .slice none 0 0, .slice none 0 0] 29)) (w.heap.size + 1 + 1) 29 #[.int .i64 b.n, .int .i64 b.t, .slice none 0 0, .slice none 0 0, .slice none 0 0, .slice none 0 0] := by
    have h := Row.new ((w.alloc (.cells #[.int .i64 b.n, .int .i64 b.t, .slice b.Ap b.P.length b.cp, .slice b.Ao b.O.length b.co, .slice b.Ae b.E.length b.ce, .slice b.Af b.F.length b.cf] 46)).alloc (.cells #[.int .i64 0, .int .i64 0, .slice none 0 0, .slice none 0 0, .slice none 0 0, .slice none 0 0] 29)) 29 #[.int .i64 b.n, .int .i64 b.t, .slice none 0 0, .slice none 0 0, .slice none 0 0, .slice none 0 0]
    rw [World.size_alloc, World.size_alloc] at h; exact h
  generalize (((w.alloc (.cells #[.int .i64 b.n, .int .i64 b.t, .slice b.Ap b.P.length b.cp, .slice b.Ao b.O.length b.co, .slice b.Ae b.E.length b.ce, .slice b.Af b.F.length b.cf] 46)).alloc (.cells #[.int .i64 0, .int .i64 0, .slice none 0 0, .slice none 0 0, .slice none 0 0, .slice none 0 0] 29)).alloc (.cells #[.int .i64 b.n, .int .i64 b.t, .slice none 0 0, .slice none 0 0, .slice none 0 0, .slice none 0 0] 29)) = W at hB0 hz0 Ra Rr Ro ⊢
  have HB0 := Lib.hid hB0; clear hB0
  have HZ0 : Hid (w.heap.size + 3 ≤ W.heap.size) := by show _ ≤ _; omega
  clear hz0
  have HRa0 := Lib.hid Ra; clear Ra
  have HRr0 := Lib.hid Rr; clear Rr
  have HRo0 := Lib.hid Ro; clear Ro
  refine (toIntSS_any _ _ _ _ ((HR.out.1.keep HB0.out).more HB0.out.size) HM.out.p HM.out.ps).mono ?_
  rintro e w1 ⟨A1, c1, l1, rfl, k1, o1, s1, hB1⟩
  have HO1 : Hid (OwnL w1 (w.heap.size + 3) A1 l1) := o1.lower HZ0.out
  have HZ1' : Hid (w.heap.size + 3 ≤ w1.heap.size) := Nat.le_trans HZ0.out hB1.size
  have HRa1' := Lib.hid (HRa0.out.below hB1 HRa0.out.lt)
  have HRr1' := Lib.hid (HRr0.out.below hB1 HRr0.out.lt)
  have HRo1' := Lib.hid (HRo0.out.below hB1 HRo0.out.lt)
  have HB1' := Lib.hid (HB0.out.trans (hB1.mono HB0.out.size)); clear hB1 HRa0 HRr0 HRo0 HB0 HZ0 o1
  have K1 := Lib.hid k1; clear k1
  have S1 := Lib.hid s1; clear s1
  have av := HRa1'.out.cell 3
  have xv := HRo1'.out.cell 2
  have yv := HRo1'.out.frozen 2
  simp only [List.getElem?_toArray, List.getElem?_cons_succ, List.getElem?_cons_zero] at av xv
  go_wp2_with fail
  have HRa1 := Lib.hid (HRa1'.out.far (p := ⟨w.heap.size + 1 + 1, 2, none⟩) (by simp; omega) (.slice A1 l1.length c1))
  have HRr1 := Lib.hid (HRr1'.out.far (p := ⟨w.heap.size + 1 + 1, 2, none⟩) (by simp) (.slice A1 l1.length c1))
  have HRo1 : Hid (Row (w1.setCell ⟨w.heap.size + 1 + 1, 2, none⟩ (.slice A1 l1.length c1)) (w.heap.size + 1 + 1) 29 #[.int .i64 b.n, .int .i64 b.t, .slice A1 l1.length c1, .slice none 0 0, .slice none 0 0, .slice none 0 0]) := HRo1'.out.set 2 (.slice A1 l1.length c1)
  have HQ1 := Lib.hid (HO1.out.low (p := ⟨w.heap.size + 1 + 1, 2, none⟩) (by simp) (.slice A1 l1.length c1)); clear HO1
  have HB1 : Hid (Below w.heap.size w (w1.setCell ⟨w.heap.size + 1 + 1, 2, none⟩ (.slice A1 l1.length c1))) := HB1'.out.setCell (by simp; omega) _
  have HZ1 : Hid (w.heap.size + 3 ≤ (w1.setCell ⟨w.heap.size + 1 + 1, 2, none⟩ (.slice A1 l1.length c1)).heap.size) := by have := HZ1'.out; show _ ≤ _; simpa using this
  clear xv yv av HRa1' HRr1' HRo1' HB1' HZ1'
  generalize (w1.setCell ⟨w.heap.size + 1 + 1, 2, none⟩ (.slice A1 l1.length c1)) = W1 at HRa1 HRr1 HRo1 HB1 HZ1 HQ1 ⊢
  have HO1 := HQ1; clear HQ1
  refine (toIntSS_any _ _ _ _ ((HR.out.2.1.keep HB1.out).more HB1.out.size) HM.out.o HM.out.os).mono ?_
  rintro e w2 ⟨A2, c2, l2, rfl, k2, o2, s2, hB2⟩
  have HO2 : Hid (OwnL w2 (w.heap.size + 3) A2 l2) := o2.lower HZ1.out
  have HZ2' : Hid (w.heap.size + 3 ≤ w2.heap.size) := Nat.le_trans HZ1.out hB2.size
  have HRa2' := Lib.hid (HRa1.out.below hB2 HRa1.out.lt)
  have HRr2' := Lib.hid (HRr1.out.below hB2 HRr1.out.lt)
  have HRo2' := Lib.hid (HRo1.out.below hB2 HRo1.out.lt)
  have HP1 := Lib.hid (HO1.out.below hB2 (Nat.le_refl _)); clear HO1
  have HB2' := Lib.hid (HB1.out.trans (hB2.mono HB1.out.size)); clear hB2 HRa1 HRr1 HRo1 HB1 HZ1 o2
  have K2 := Lib.hid k2; clear k2
  have S2 := Lib.hid s2; clear s2
  have av := HRa2'.out.cell 4
  have xv := HRo2'.out.cell 3
  have yv := HRo2'.out.frozen 3
  simp only [List.getElem?_toArray, List.getElem?_cons_succ, List.getElem?_cons_zero] at av xv
  go_wp2_with fail
  have HRa2 := Lib.hid (HRa2'.out.far (p := ⟨w.heap.size + 1 + 1, 3, none⟩) (by simp; omega) (.slice A2 l2.length c2))
  have HRr2 := Lib.hid (HRr2'.out.far (p := ⟨w.heap.size + 1 + 1, 3, none⟩) (by simp) (.slice A2 l2.length c2))
  have HRo2 : Hid (Row (w2.setCell ⟨w.heap.size + 1 + 1, 3, none⟩ (.slice A2 l2.length c2)) (w.heap.size + 1 + 1) 29 #[.int .i64 b.n, .int .i64 b.t, .slice A1 l1.length c1, .slice A2 l2.length c2, .slice none 0 0, .slice none 0 0]) := HRo2'.out.set 3 (.slice A2 l2.length c2)
  have HQ1 := Lib.hid (HP1.out.low (p := ⟨w.heap.size + 1 + 1, 3, none⟩) (by simp) (.slice A2 l2.length c2)); clear HP1
  have HQ2 := Lib.hid (HO2.out.low (p := ⟨w.heap.size + 1 + 1, 3, none⟩) (by simp) (.slice A2 l2.length c2)); clear HO2
  have HB2 : Hid (Below w.heap.size w (w2.setCell ⟨w.heap.size + 1 + 1, 3, none⟩ (.slice A2 l2.length c2))) := HB2'.out.setCell (by simp; omega) _
  have HZ2 : Hid (w.heap.size + 3 ≤ (w2.setCell ⟨w.heap.size + 1 + 1, 3, none⟩ (.slice A2 l2.length c2)).heap.size) := by have := HZ2'.out; show _ ≤ _; simpa using this
  clear xv yv av HRa2' HRr2' HRo2' HB2' HZ2'
  generalize (w2.setCell ⟨w.heap.size + 1 + 1, 3, none⟩ (.slice A2 l2.length c2)) = W2 at HRa2 HRr2 HRo2 HB2 HZ2 HQ1 HQ2 ⊢
  have HO1 := HQ1; clear HQ1
  have HO2 := HQ2; clear HQ2
  refine (toIntS_any _ _ _ _ ((HR.out.2.2.1.keep HB2.out).more HB2.out.size) HM.out.e).mono ?_
  rintro e w3 ⟨A3, c3, rfl, k3, o3, hB3⟩
  have HO3 : Hid (OwnI w3 (w.heap.size + 3) A3 b.E) := o3.lower HZ2.out
  have HZ3' : Hid (w.heap.size + 3 ≤ w3.heap.size) := Nat.le_trans HZ2.out hB3.size
  have HRa3' := Lib.hid (HRa2.out.below hB3 HRa2.out.lt)
  have HRr3' := Lib.hid (HRr2.out.below hB3 HRr2.out.lt)
  have HRo3' := Lib.hid (HRo2.out.below hB3 HRo2.out.lt)
  have HP1 := Lib.hid (HO1.out.below hB3 (Nat.le_refl _)); clear HO1
  have HP2 := Lib.hid (HO2.out.below hB3 (Nat.le_refl _)); clear HO2
  have HB3' := Lib.hid (HB2.out.trans (hB3.mono HB2.out.size)); clear hB3 HRa2 HRr2 HRo2 HB2 HZ2 o3
  have K3 := Lib.hid k3; clear k3
  have av := HRa3'.out.cell 5
  have xv := HRo3'.out.cell 4
  have yv := HRo3'.out.frozen 4
  simp only [List.getElem?_toArray, List.getElem?_cons_succ, List.getElem?_cons_zero] at av xv
  go_wp2_with fail
  have HRa3 := Lib.hid (HRa3'.out.far (p := ⟨w.heap.size + 1 + 1, 4, none⟩) (by simp; omega) (.slice A3 b.E.length c3))
  have HRr3 := Lib.hid (HRr3'.out.far (p := ⟨w.heap.size + 1 + 1, 4, none⟩) (by simp) (.slice A3 b.E.length c3))
  have HRo3 : Hid (Row (w3.setCell ⟨w.heap.size + 1 + 1, 4, none⟩ (.slice A3 b.E.length c3)) (w.heap.size + 1 + 1) 29 #[.int .i64 b.n, .int .i64 b.t, .slice A1 l1.length c1, .slice A2 l2.length c2, .slice A3 b.E.length c3, .slice none 0 0]) := HRo3'.out.set 4 (.slice A3 b.E.length c3)
  have HQ1 := Lib.hid (HP1.out.low (p := ⟨w.heap.size + 1 + 1, 4, none⟩) (by simp) (.slice A3 b.E.length c3)); clear HP1
  have HQ2 := Lib.hid (HP2.out.low (p := ⟨w.heap.size + 1 + 1, 4, none⟩) (by simp) (.slice A3 b.E.length c3)); clear HP2
  have HQ3 := Lib.hid (HO3.out.low (p := ⟨w.heap.size + 1 + 1, 4, none⟩) (by simp) (.slice A3 b.E.length c3)); clear HO3
  have HB3 : Hid (Below w.heap.size w (w3.setCell ⟨w.heap.size + 1 + 1, 4, none⟩ (.slice A3 b.E.length c3))) := HB3'.out.setCell (by simp; omega) _
  have HZ3 : Hid (w.heap.size + 3 ≤ (w3.setCell ⟨w.heap.size + 1 + 1, 4, none⟩ (.slice A3 b.E.length c3)).heap.size) := by have := HZ3'.out; show _ ≤ _; simpa using this
  clear xv yv av HRa3' HRr3' HRo3' HB3' HZ3'
  generalize (w3.setCell ⟨w.heap.size + 1 + 1, 4, none⟩ (.slice A3 b.E.length c3)) = W3 at HRa3 HRr3 HRo3 HB3 HZ3 HQ1 HQ2 HQ3 ⊢
  have HO1 := HQ1; clear HQ1
  have HO2 := HQ2; clear HQ2
  have HO3 := HQ3; clear HQ3
  refine (toIntSS_any _ _ _ _ ((HR.out.2.2.2.keep HB3.out).more HB3.out.size) HM.out.f HM.out.fs).mono ?_
  rintro e w4 ⟨A4, c4, l4, rfl, k4, o4, s4, hB4⟩
  have HO4 : Hid (OwnL w4 (w.heap.size + 3) A4 l4) := o4.lower HZ3.out
  have HZ4' : Hid (w.heap.size + 3 ≤ w4.heap.size) := Nat.le_trans HZ3.out hB4.size
  have HRa4' := Lib.hid (HRa3.out.below hB4 HRa3.out.lt)
  have HRr4' := Lib.hid (HRr3.out.below hB4 HRr3.out.lt)
  have HRo4' := Lib.hid (HRo3.out.below hB4 HRo3.out.lt)
  have HP1 := Lib.hid (HO1.out.below hB4 (Nat.le_refl _)); clear HO1
  have HP2 := Lib.hid (HO2.out.below hB4 (Nat.le_refl _)); clear HO2
  have HP3 := Lib.hid (HO3.out.below hB4 (Nat.le_refl _)); clear HO3
  have HB4' := Lib.hid (HB3.out.trans (hB4.mono HB3.out.size)); clear hB4 HRa3 HRr3 HRo3 HB3 HZ3 o4
  have K4 := Lib.hid k4; clear k4
  have S4 := Lib.hid s4; clear s4
  have x0 := HRo4'.out.cell 0
  have x1 := HRo4'.out.cell 1
  have x2 := HRo4'.out.cell 2
  have x3 := HRo4'.out.cell 3
  have x4 := HRo4'.out.cell 4
  have x5 := HRo4'.out.cell 5
  have y5 := HRo4'.out.frozen 5
  have r0 := HRr4'.out.cell 0
  have r1 := HRr4'.out.cell 1
  have r2 := HRr4'.out.cell 2
  have r3 := HRr4'.out.cell 3
  have r4 := HRr4'.out.cell 4
  have r5 := HRr4'.out.cell 5
  have q0 := HRr4'.out.frozen 0
  have q1 := HRr4'.out.frozen 1
  have q2 := HRr4'.out.frozen 2
  have q3 := HRr4'.out.frozen 3
  have q4 := HRr4'.out.frozen 4
  have q5 := HRr4'.out.frozen 5
  simp only [List.getElem?_toArray, List.getElem?_cons_succ, List.getElem?_cons_zero] at x0 x1 x2 x3 x4 x5 r0 r1 r2 r3 r4 r5
  go_wp2_with fail
  refine bodyPost_ret (v := .agg #[.int .i64 b.n, .int .i64 b.t, .slice A1 l1.length c1, .slice A2 l2.length c2, .slice A3 b.E.length c3, .slice A4 l4.length c4]) (by simp [results, Tryd.results27, go_sem, r0, r1, r2, r3, r4, r5]) rfl ⟨⟨b.n, b.t, A1, l1, c1, A2, l2, c2, A3, b.E, c3, A4, l4, c4⟩, rfl, ?_, ?_, ⟨K1.out, K2.out, K3.out, K4.out⟩, ?_⟩
  · show Bs.mk _ _ _ _ _ _ = Bs.mk _ _ _ _ _ _
    rw [S1.out, S2.out, S4.out]
  · refine ⟨?_, ?_, ?_, ?_⟩
    · exact (((((((HP1.out.low (by simp) _).low (by simp) _).low (by simp) _).low (by simp) _).low (by simp) _).low (by simp) _).low (by simp) _).lower (by omega)
    · exact (((((((HP2.out.low (by simp) _).low (by simp) _).low (by simp) _).low (by simp) _).low (by simp) _).low (by simp) _).low (by simp) _).lower (by omega)
    · exact (((((((HP3.out.low (by simp) _).low (by simp) _).low (by simp) _).low (by simp) _).low (by simp) _).low (by simp) _).low (by simp) _).lower (by omega)
    · exact (((((((HO4.out.low (by simp) _).low (by simp) _).low (by simp) _).low (by simp) _).low (by simp) _).low (by simp) _).low (by simp) _).lower (by omega)
  · exact ((((((HB4'.out.setCell (by simp; omega) _).setCell (by simp) _).setCell (by simp) _).setCell (by simp) _).setCell (by simp) _).setCell (by simp) _).setCell (by simp) _

end Go.Proofs.YtgnpgehekfhedaaDoor

/- Plain mathematics of chapter 5: which lists rise, which binary grammars are good. No program, no memory. -/

namespace Go.Proofs.YtgnpgehekfhedaaDoor

noncomputable def bP (P : Prop) : Bool := @decide P (Classical.propDecidable P)
theorem bP_t {P : Prop} (h : P) : bP P = true := @decide_eq_true P (Classical.propDecidable P) h
theorem bP_f {P : Prop} (h : ¬ P) : bP P = false := @decide_eq_false P (Classical.propDecidable P) h
theorem bP_is {P : Prop} (h : bP P = true) : P := @of_decide_eq_true P (Classical.propDecidable P) h
theorem bP_no {P : Prop} (h : bP P = false) : ¬ P := @of_decide_eq_false P (Classical.propDecidable P) h
theorem bP_congr {P Q : Prop} (h : P ↔ Q) : bP P = bP Q := by rw [propext h]

/-- Two lists compared: the first unlike number decides. -/
def cmpL : List Int → List Int → Int
  | [], [] => 0
  | [], _ :: _ => -1
  | _ :: _, [] => 1
  | x :: a, y :: b => if x < y then -1 else if y < x then 1 else cmpL a b

theorem cmpL_range : ∀ (a b : List Int), cmpL a b = -1 ∨ cmpL a b = 0 ∨ cmpL a b = 1
  | [], [] => by simp [cmpL]
  | [], _ :: _ => by simp [cmpL]
  | _ :: _, [] => by simp [cmpL]
  | x :: a, y :: b => by
    simp only [cmpL]
    split
    · simp
    · split
      · simp
      · exact cmpL_range a b

theorem cmpL_drop {a b : List Int} {k : Nat} (ha : k < a.length) (hb : k < b.length) : cmpL (a.drop k) (b.drop k) = if a[k] < b[k] then -1 else if b[k] < a[k] then 1 else cmpL (a.drop (k + 1)) (b.drop (k + 1)) := by
  rw [List.drop_eq_getElem_cons ha, List.drop_eq_getElem_cons hb]; rfl
theorem cmpL_left {a b : List Int} {k : Nat} (ha : k < a.length) (hb : ¬ k < b.length) : cmpL (a.drop k) (b.drop k) = 1 := by
  rw [List.drop_of_length_le (l := b) (by omega), List.drop_eq_getElem_cons ha]; rfl
theorem cmpL_right {a b : List Int} {k : Nat} (ha : ¬ k < a.length) (hb : k < b.length) : cmpL (a.drop k) (b.drop k) = -1 := by
  rw [List.drop_of_length_le (l := a) (by omega), List.drop_eq_getElem_cons hb]; rfl
theorem cmpL_end {a b : List Int} {k : Nat} (ha : ¬ k < a.length) (hb : ¬ k < b.length) : cmpL (a.drop k) (b.drop k) = 0 := by
  rw [List.drop_of_length_le (by omega), List.drop_of_length_le (by omega)]; rfl

/-- The first k lists rise. -/
def RiseTo (xs : List (List Int)) (k : Nat) : Prop := ∀ (j : Nat) (a b : List Int), j + 1 < k → xs[j]? = some a → xs[j + 1]? = some b → cmpL a b < 0
theorem RiseTo.none (xs : List (List Int)) : RiseTo xs 1 := fun j a b h => absurd h (by omega)
theorem RiseTo.zero (xs : List (List Int)) : RiseTo xs 0 := fun j a b h => absurd h (by omega)
theorem RiseTo.step {xs : List (List Int)} {k : Nat} (h : RiseTo xs (k + 1)) {a b : List Int} (ha : xs[k]? = some a) (hb : xs[k + 1]? = some b) (hc : cmpL a b < 0) : RiseTo xs (k + 2) := by
  intro j a' b' hj ha' hb'
  by_cases e : j = k
  · subst e
    rw [ha] at ha'; rw [hb] at hb'
    injection ha' with ha'; injection hb' with hb'
    rw [← ha', ← hb']; exact hc
  · exact h j a' b' (by omega) ha' hb'
theorem RiseTo.mono {xs : List (List Int)} {k m : Nat} (h : RiseTo xs k) (hm : m ≤ k ∨ xs.length ≤ k) : RiseTo xs m := by
  intro j a b hj ha hb
  have := (List.getElem?_eq_some_iff.1 hb).1
  exact h j a b (by omega) ha hb

/-- Numbers rise. -/
def RiseI (xs : List Int) (k : Nat) : Prop := ∀ (j : Nat) (a b : Int), j + 1 < k → xs[j]? = some a → xs[j + 1]? = some b → a < b
theorem RiseI.none (xs : List Int) : RiseI xs 1 := fun j a b h => absurd h (by omega)
theorem RiseI.zero (xs : List Int) : RiseI xs 0 := fun j a b h => absurd h (by omega)
theorem RiseI.step {xs : List Int} {k : Nat} (h : RiseI xs (k + 1)) {a b : Int} (ha : xs[k]? = some a) (hb : xs[k + 1]? = some b) (hc : a < b) : RiseI xs (k + 2) := by
  intro j a' b' hj ha' hb'
  by_cases e : j = k
  · subst e
    rw [ha] at ha'; rw [hb] at hb'
    injection ha' with ha'; injection hb' with hb'
    rw [← ha', ← hb']; exact hc
  · exact h j a' b' (by omega) ha' hb'
theorem RiseI.mono {xs : List Int} {k m : Nat} (h : RiseI xs k) (hm : m ≤ k ∨ xs.length ≤ k) : RiseI xs m := by
  intro j a b hj ha hb
  have := (List.getElem?_eq_some_iff.1 hb).1
  exact h j a b (by omega) ha hb

/-- All lists are of one length. -/
def LongTo (long : Int) (xs : List (List Int)) (k : Nat) : Prop := ∀ (j : Nat) (x : List Int), j < k → xs[j]? = some x → (x.length : Int) = long
/-- A list is a nonterminal and symbols. -/
def symL (n t : Int) (x : List Int) : Prop := nonB n (x.getD 0 0) = true ∧ symsB n t (x.drop 1) = true
def SymTo (n t : Int) (xs : List (List Int)) (k : Nat) : Prop := ∀ (j : Nat) (x : List Int), j < k → xs[j]? = some x → symL n t x
def NonTo (n : Int) (xs : List Int) (k : Nat) : Prop := ∀ (j : Nat) (x : Int), j < k → xs[j]? = some x → nonB n x = true

def GoodLs (n t long : Int) (xs : List (List Int)) : Prop := LongTo long xs xs.length ∧ SymTo n t xs xs.length ∧ RiseTo xs xs.length
def GoodE (n : Int) (xs : List Int) : Prop := NonTo n xs xs.length ∧ RiseI xs xs.length

/-- A binary grammar is good. -/
def GoodBs (s : Bs) : Prop := (1 ≤ s.n ∧ s.n ≤ 40) ∧ (1 ≤ s.t ∧ s.t ≤ 4) ∧ GoodLs s.n s.t 3 s.P ∧ GoodLs s.n s.t 2 s.O ∧ GoodE s.n s.E ∧ (s.F.length : Int) ≤ s.n ∧ LongTo 2 s.F s.F.length

theorem upto_next {α : Type} {Q : α → Prop} {xs : List α} {k : Nat} {y : α} (hy : xs[k]? = some y) (h : Q y) (H : ∀ (j : Nat) (x : α), j < k → xs[j]? = some x → Q x) : ∀ (j : Nat) (x : α), j < k + 1 → xs[j]? = some x → Q x := by
  intro j x hj hx
  by_cases e : j = k
  · subst e; rw [hy] at hx; injection hx with hx; rw [← hx]; exact h
  · exact H j x (by omega) hx
theorem upto_end {α : Type} {Q : α → Prop} {xs : List α} {k m : Nat} (hk : ¬ k < xs.length) (H : ∀ (j : Nat) (x : α), j < k → xs[j]? = some x → Q x) : ∀ (j : Nat) (x : α), j < m → xs[j]? = some x → Q x :=
  fun j x _ hx => H j x (by have := (List.getElem?_eq_some_iff.1 hx).1; omega) hx

def FitL (xs : List (List Int)) : Prop := ∀ x ∈ xs, ∀ y ∈ x, F64 y
def FitB (s : Bs) : Prop := FitL s.P ∧ FitL s.O ∧ (∀ y ∈ s.E, F64 y) ∧ FitL s.F

end Go.Proofs.YtgnpgehekfhedaaDoor

/- Rows of truths as arrays in memory: single steps of a walk over whole arrays. -/

namespace Go.Proofs.YtgnpgehekfhedaaDoor
open Go.RowKit

/-- A set of the numbers below 40, as the cells of an array. -/
def rowA (S : Int → Bool) : Array Value := ((List.range 40).map fun (k : Nat) => Value.bool (S k)).toArray
theorem rowA_size (S : Int → Bool) : (rowA S).size = 40 := by simp [rowA]
theorem rowA_at (S : Int → Bool) {k : Nat} (h : k < 40) : (rowA S)[k]? = some (.bool (S k)) := by simp [rowA, h]
theorem rowA_none (S : Int → Bool) {k : Nat} (h : ¬ k < 40) : (rowA S)[k]? = none := by simp [rowA]; omega
theorem rowA_all (S : Int → Bool) : (rowA S).all (·.oneCell') = true := by simp [rowA, Value.oneCell']
theorem rowA_one (S : Int → Bool) : ∀ u ∈ (rowA S).toList, u.oneCell' = true := fun u hu => by
  simp [rowA] at hu
  obtain ⟨_, _, rfl⟩ := hu
  rfl
theorem rowA_zero : rowA noS = Array.replicate 40 (.bool false) := by rfl
theorem rowA_ext {S T : Int → Bool} (h : ∀ k : Nat, k < 40 → S k = T k) : rowA S = rowA T := by
  apply Array.ext_getElem?
  intro k
  by_cases hk : k < 40
  · rw [rowA_at S hk, rowA_at T hk, h k hk]
  · rw [rowA_none S hk, rowA_none T hk]
theorem rowA_inj {S T : Int → Bool} (h : rowA S = rowA T) (k : Nat) (hk : k < 40) : S k = T k := by
  have e := congrArg (fun c => c[k]?) h
  simp only [rowA_at S hk, rowA_at T hk] at e
  injection e with e
  injection e
theorem rowA_set (S : Int → Bool) {k : Nat} (b : Bool) (h : k < 40) : (rowA S).setIfInBounds k (.bool b) = rowA fun x => if x = (k : Int) then b else S x := by
  generalize hT : (fun x => if x = (k : Int) then b else S x) = T
  apply Array.ext_getElem?
  intro j
  rw [Array.getElem?_setIfInBounds]
  by_cases hj : j < 40
  · rw [rowA_at T hj, ← hT]
    by_cases e : k = j
    · subst e; simp [rowA_size, h]
    · rw [if_neg e, rowA_at S hj]
      show _ = some (Value.bool (if (j : Int) = (k : Int) then b else S j))
      rw [if_neg (by omega)]
  · rw [rowA_none T hj]
    by_cases e : k = j
    · omega
    · rw [if_neg e, rowA_none S hj]

theorem fold_get : ∀ (l : List Value) (k : Nat) (z : Array Value) (i : Nat), k + l.length ≤ z.size → ((l.zipIdx k).foldl (fun cs (p : Value × Nat) => cs.setIfInBounds (0 + p.2) p.1) z)[i]? = if k ≤ i ∧ i < k + l.length then l[i - k]? else z[i]?
  | [], k, z, i, _ => by simp; omega
  | v :: l, k, z, i, h => by
    rw [List.zipIdx_cons, List.foldl_cons, fold_get l (k + 1) _ i (by simp at h ⊢; omega)]
    simp only [List.length_cons] at h ⊢
    by_cases h1 : k + 1 ≤ i ∧ i < k + 1 + l.length
    · rw [if_pos h1, if_pos (by omega), show i - k = (i - (k + 1)) + 1 by omega, List.getElem?_cons_succ]
    · rw [if_neg h1, Array.getElem?_setIfInBounds]
      by_cases h2 : k = i
      · subst h2
        rw [if_pos (by omega), if_pos (by omega), if_pos (by omega)]
        simp
      · rw [if_neg (by omega), if_neg (by omega)]
theorem fill_whole (v z : Array Value) (h : v.size = z.size) : v.zipIdx.foldl (fun cs (p : Value × Nat) => cs.setIfInBounds (0 + p.2) p.1) z = v := by
  apply Array.ext_getElem?
  intro i
  rw [← Array.foldl_toList, Array.toList_zipIdx]
  have := fold_get v.toList 0 z i (by simp; omega)
  rw [this]
  by_cases hi : i < v.size
  · rw [if_pos (by simp; omega)]; simp
  · rw [if_neg (by simp; omega), Array.getElem?_eq_none (by omega), Array.getElem?_eq_none (by omega)]

section
variable {P : Program} {ops : Array Oper} {Q : Exit → Act → World → Prop} {a : Act} {w : World} {rest : List Oper} {o : Oper}

theorem wpList_ran (hg : o.guard = none) {v : Value} {w' : World} (h0 : (execOp a.eval o).run P w = .ok (.value v) w') (h : wpList P ops Q rest (a.put o.dst v) w') : wpList P ops Q (o :: rest) a w :=
  wpList_plain hg fun K hK => by
    unfold Oper.wp
    rw [h0]
    exact hK _ _ h
theorem wpList_ranS (hg : o.guard = none) {w' : World} (h0 : (execOp a.eval o).run P w = .ok .skip w') (h : wpList P ops Q rest (a.put o.dst undef) w') : wpList P ops Q (o :: rest) a w :=
  wpList_plain hg fun K hK => by
    unfold Oper.wp
    rw [h0]
    exact hK _ _ h

/-- A new variable of a wide type. -/
theorem wpList_allocA (hg : o.guard = none) (ty : TypeId) (ho : o.op = .alloc ty) (cs : Array Value) (n : Nat) (hz : (P.info? ty).map (fun i => (i.zero, i.size)) = some (some (.agg cs), n))
    (h : wpList P ops Q rest (a.put o.dst (.pointer (some ⟨w.heap.size, 0, none⟩))) (w.alloc (.cells cs ty))) : wpList P ops Q (o :: rest) a w := by
  refine wpList_ran hg ?_ h
  have hz1 := (zero_of_info hz).1 w
  simp [execOp, ho, Instr.alloc, hz1, Result.andThen, newVar, newRow, Value.cells]
/-- A variable of a wide type that holds a value. -/
theorem wpList_boxA (hg : o.guard = none) (ty : TypeId) (x : Operand) (ho : o.op = .box ty x) (cs : Array Value) (hx : a.eval x = .agg cs)
    (h : wpList P ops Q rest (a.put o.dst (.pointer (some ⟨w.heap.size, 0, none⟩))) (w.alloc (.cells cs ty))) : wpList P ops Q (o :: rest) a w := by
  refine wpList_ran hg ?_ h
  simp [execOp, ho, Instr.box, hx, Result.andThen, newVar, newRow, Value.cells]

theorem run_loadVar_part (w : World) (g off : Nat) (ty : TypeId) (cs : Array Value) (n : Nat) (e : TypeId) (hu : P.underlying ty = some (.array n e)) (hi : (P.info? ty).map (·.size) = some cs.size)
    (hc : ∀ (j : Nat) (v : Value), cs[j]? = some v → w.cell? ⟨g, off + j, none⟩ = some v) : (loadVar ty ⟨g, off, none⟩).run P w = .ok (.agg cs) w := by
  have hl : (loadCells ⟨g, off, none⟩ cs.toList.length).run P w = .ok cs.toList.toArray w :=
    run_loadCells_list (P := P) w ⟨g, off, none⟩ cs.toList (fun j v hv => by
      rw [Go.WideShapes.add_plain]
      exact hc j v (by simpa using hv))
  cases hq : P.info? ty with
  | none => simp [hq] at hi
  | some i =>
    have hs : i.size = cs.size := by simpa [hq] using hi
    have hagg : (isAgg ty).run P w = .ok true w := by
      simp [isAgg, run_underlying hu]
    rw [Array.length_toList, ← hs] at hl
    simp [loadVar, hagg, sizeOf, typeInfo, hq, hl]
/-- A whole array out of a part of a block. -/
theorem wpList_loadA (hg : o.guard = none) (ty : TypeId) (x : Operand) (ho : o.op = .load ty x) (g off : Nat) (hx : a.eval x = .pointer (some ⟨g, off, none⟩)) (cs : Array Value) (n : Nat) (e : TypeId) (hu : P.underlying ty = some (.array n e))
    (hi : (P.info? ty).map (·.size) = some cs.size) (hc : ∀ (j : Nat) (v : Value), cs[j]? = some v → w.cell? ⟨g, off + j, none⟩ = some v)
    (h : wpList P ops Q rest (a.put o.dst (.agg cs)) w) : wpList P ops Q (o :: rest) a w := by
  refine wpList_ran hg ?_ h
  have hl := run_loadVar_part (P := P) w g off ty cs n e hu hi hc
  simp [execOp, ho, Instr.loadAt, Instr.sureAddr, hx, hl, Result.andThen]
/-- A whole array into a block. -/
theorem wpList_storeA (hg : o.guard = none) (ty : TypeId) (x y : Operand) (ho : o.op = .store ty x y) (g : Nat) (cs : Array Value) (hx : a.eval x = .pointer (some ⟨g, 0, none⟩)) (hy : a.eval y = .agg cs) (t : TypeId) (old : Array Value)
    (hw : Row w g t old) (hi : (P.info? ty).map (·.size) = some cs.size) (hold : old.size = cs.size) (h1 : cs.all (·.oneCell') = true)
    (h : wpList P ops Q rest (a.put o.dst undef) (w.setRow g cs)) : wpList P ops Q (o :: rest) a w :=
  wpList_store_row hg ty x y ho g cs hx hy t old hw hi hold h1 h
/-- An element of an array by value. -/
theorem wpList_indexA (hg : o.guard = none) (ty : TypeId) (x y : Operand) (ho : o.op = .index ty x y) (cs : Array Value) (hx : a.eval x = .agg cs) (k : Nat) (hy : a.eval y = .int .i64 k) (n : Nat) (e : TypeId) (hk : k < n) (v : Value) (hv : cs[k]? = some v)
    (hu : P.underlying ty = some (.array n e)) (d : TypeDesc) (hue : P.underlying e = some d) (hd : (match d with | .struct _ | .array _ _ => false | _ => true) = true) (hi : (P.info? e).map (·.size) = some 1)
    (h : wpList P ops Q rest (a.put o.dst v) w) : wpList P ops Q (o :: rest) a w := by
  refine wpList_ran hg ?_ h
  have hagg : (isAgg e).run P w = .ok false w := by
    cases d <;> simp_all [isAgg, run_underlying hue]
  cases hq : P.info? e with
  | none => simp [hq] at hi
  | some i =>
    have hs : i.size = 1 := by simpa [hq] using hi
    simp [execOp, ho, Instr.index, hx, hy, asIntOf, run_underlying hu, Result.andThen, sizeOf, typeInfo, hq, hs, part, hagg, hv, hk]
/-- A slice of one wide element. -/
theorem wpList_sliceA (hg : o.guard = none) (t ty : TypeId) (x : Operand) (ho : o.op = .buildSlice t 1 #[(0, x)]) (cs zs : Array Value) (hx : a.eval x = .agg cs) (n : Nat) (hut : P.underlying t = some (.slice ty))
    (hz : (P.info? ty).map (fun i => (i.zero, i.size)) = some (some (.agg zs), n)) (hcs : cs.size = n) (hn : 0 < n) (hzs : zs.size = n) (hlim : n ≤ 16777216)
    (h : wpList P ops Q rest (a.put o.dst (.slice (some ⟨w.heap.size, 0, none⟩) 1 1)) (w.alloc (.cells cs ty))) : wpList P ops Q (o :: rest) a w := by
  refine wpList_ran hg ?_ h
  have hz0 := (zero_of_info hz).1 w
  have hz1 := (zero_of_info hz).2
  cases hq : P.info? ty with
  | none => simp [hq] at hz1
  | some i =>
    have hs : i.size = n := by simpa [hq] using hz1
    have hf : Instr.fill (fun i => some (i * n, n)) ((Array.range n).map (zs[· % zs.size]!)) [(0, Value.agg cs)] = some cs := by
      have h5 : (Array.map (fun x => zs[x % zs.size]!) (Array.range n)).size = n := by simp
      simp only [Instr.fill, Value.cells, Nat.zero_mul, h5, hcs]
      rw [if_neg (by simp), fill_whole _ _ (by rw [h5, hcs])]
    have h3 : ¬ 16777216 < n := by omega
    have h4 : n ≠ 0 := by omega
    simp [execOp, ho, Instr.buildSlice, hx, run_underlying hut, sizeOf, typeInfo, hq, hs, h3, h4, hz0, Value.cells, hf, newRow, Result.andThen]

theorem run_equalIn_bools (d : Nat) (t e : TypeId) (n : Nat) (f g : Nat → Bool) (xs ys : Array Value) (hx : ∀ k, k < n → xs[k]? = some (.bool (f k))) (hy : ∀ k, k < n → ys[k]? = some (.bool (g k)))
    (hu : P.underlying t = some (.array n e)) (hue : P.underlying e = some .bool) (hi : (P.info? e).map (·.size) = some 1) :
    (Op.equalIn (d + 2) t (.agg xs) (.agg ys)).run P w = .ok ((List.range n).all fun k => f k == g k) w := by
  have hagg : ∀ w, (isAgg e).run P w = .ok false w := fun w => by simp [isAgg, run_underlying hue]
  cases hq : P.info? e with
  | none => simp [hq] at hi
  | some i =>
    have hs : i.size = 1 := by simpa [hq] using hi
    have hsz : ∀ w, (sizeOf e).run P w = .ok 1 w := fun w => by simp [sizeOf, typeInfo, hq, hs]
    have hb : ∀ (a b : Bool) (w : World), (Op.equalIn (d + 1) e (.bool a) (.bool b)).run P w = .ok (a == b) w := fun a b w => run_equalIn_bool' w d e a b hue
    have hpx : ∀ k, k < n → ∀ w, (part e xs (k * 1)).run P w = .ok (.bool (f k)) w := fun k hk w => by simp [part, hagg, hx k hk]
    have hpy : ∀ k, k < n → ∀ w, (part e ys (k * 1)).run P w = .ok (.bool (g k)) w := fun k hk w => by simp [part, hagg, hy k hk]
    obtain ⟨D, hD⟩ : ∃ D, D = d + 1 := ⟨_, rfl⟩
    rw [← hD] at hb
    rw [show d + 2 = D + 1 by omega]
    clear hD
    simp only [Op.equalIn, Sem.run_bind, run_underlying hu, Result.andThen_ok, hsz]
    rw [Std.Legacy.Range.forIn_eq_forIn_range']
    have loop : ∀ (l : List Nat) (w : World), (∀ k ∈ l, k < n) → (forIn l ((none : Option Bool), ()) fun i (_ : Option Bool × Unit) => do
            let a ← part e xs (i * 1)
            let b ← part e ys (i * 1)
            let c ← Op.equalIn D e a b
            if (!c) = true then pure (ForInStep.done (some false, ())) else do
                pure PUnit.unit
                pure (ForInStep.yield (none, ()))).run P w = .ok (if l.all (fun k => f k == g k) then (none, ()) else (some false, ())) w := by
      intro l
      induction l with
      | nil => intro w _; simp
      | cons k l ih =>
        intro w h
        have hk := h k (by simp)
        simp only [List.forIn_cons, Sem.run_bind, hpx k hk, hpy k hk, hb, Result.andThen_ok, Sem.run_ite]
        by_cases e : f k = g k
        · have e' : (f k == g k) = true := by simp [e]
          rw [e']
          simp only [Bool.not_true, Bool.false_eq_true, if_false, Sem.run_pure, Result.andThen_ok]
          rw [ih w fun j hj => h j (by simp [hj])]
          simp [e]
        · have e' : (f k == g k) = false := by simp [e]
          rw [e']
          simp [e']
    rw [loop _ w (fun k hk => by simp [Std.Legacy.Range.size] at hk; omega)]
    have er : List.range' [:n].start [:n].size [:n].step = List.range n := by simp [Std.Legacy.Range.size, List.range_eq_range']
    rw [er]
    cases (List.range n).all fun k => f k == g k <;> simp

/-- Two sets compared. -/
theorem wpList_neqA (hg : o.guard = none) (ty : TypeId) (x y : Operand) (r : TypeId) (ho : o.op = .binOp .neq ty x y r) (S T : Int → Bool) (hx : a.eval x = .agg (rowA S)) (hy : a.eval y = .agg (rowA T)) (e : TypeId)
    (hu : P.underlying ty = some (.array 40 e)) (hue : P.underlying e = some .bool) (hi : (P.info? e).map (·.size) = some 1) (hm : P.eqGuardType P.depth ty = false)
    (h : wpList P ops Q rest (a.put o.dst (.bool (!bP (rowA S = rowA T)))) w) : wpList P ops Q (o :: rest) a w := by
  refine wpList_ran hg ?_ h
  have h1 := run_eqGuard_agg (P := P) w .neq ty x y (rowA S) (rowA T) hm
  have h2 := run_neq_struct (P := P) w ty (rowA S) (rowA T)
  rw [run_equalIn_bools 9998 ty e 40 (fun k => S k) (fun k => T k) (rowA S) (rowA T) (fun k hk => rowA_at S hk) (fun k hk => rowA_at T hk) hu hue hi] at h2
  have h3 : ((List.range 40).all fun k => S (k : Int) == T (k : Int)) = bP (rowA S = rowA T) := by
    cases hb : bP (rowA S = rowA T)
    · have hn := bP_no hb
      rw [List.all_eq_false]
      apply Classical.byContradiction
      intro hc
      exact hn (rowA_ext fun k hk => by
        apply Classical.byContradiction
        intro hne
        exact hc ⟨k, List.mem_range.2 hk, by simpa using hne⟩)
    · have hp := bP_is hb
      rw [List.all_eq_true]
      intro k hk
      simp [rowA_inj hp k (List.mem_range.1 hk)]
  rw [h3] at h2
  simp [execOp, ho, hx, hy, h1, h2, Result.andThen]

theorem step_ran {K : Act → World → Prop} {E : Prop} (hg : o.guard = none) {v : Value} {w' : World} (h0 : (execOp a.eval o).run P w = .ok (.value v) w') (h : K (a.put o.dst v) w') :
    if Region.wanted o (yielded ops a.tmps) = true then Oper.wp P o a w K Q else E := by
  have hw : Region.wanted o (yielded ops a.tmps) = true := by simp [Region.wanted, hg]
  rw [if_pos hw]
  unfold Oper.wp
  rw [h0]
  exact h
theorem step_ranS {K : Act → World → Prop} {E : Prop} (hg : o.guard = none) {w' : World} (h0 : (execOp a.eval o).run P w = .ok .skip w') (h : K (a.put o.dst undef) w') :
    if Region.wanted o (yielded ops a.tmps) = true then Oper.wp P o a w K Q else E := by
  have hw : Region.wanted o (yielded ops a.tmps) = true := by simp [Region.wanted, hg]
  rw [if_pos hw]
  unfold Oper.wp
  rw [h0]
  exact h
/-- A whole array out of a block, at a step of a region that draws. -/
theorem step_loadA {K : Act → World → Prop} {E : Prop} (hg : o.guard = none) (ty : TypeId) (x : Operand) (ho : o.op = .load ty x) (g off : Nat) (hx : a.eval x = .pointer (some ⟨g, off, none⟩)) (cs : Array Value) (n : Nat) (e : TypeId) (hu : P.underlying ty = some (.array n e))
    (hi : (P.info? ty).map (·.size) = some cs.size) (hc : ∀ (j : Nat) (v : Value), cs[j]? = some v → w.cell? ⟨g, off + j, none⟩ = some v)
    (h : K (a.put o.dst (.agg cs)) w) : if Region.wanted o (yielded ops a.tmps) = true then Oper.wp P o a w K Q else E := by
  refine step_ran hg ?_ h
  have hl := run_loadVar_part (P := P) w g off ty cs n e hu hi hc
  simp [execOp, ho, Instr.loadAt, Instr.sureAddr, hx, hl, Result.andThen]
/-- A whole array into a block, at a step of a region that draws. -/
theorem step_storeA {K : Act → World → Prop} {E : Prop} (hg : o.guard = none) (ty : TypeId) (x y : Operand) (ho : o.op = .store ty x y) (g : Nat) (cs : Array Value) (hx : a.eval x = .pointer (some ⟨g, 0, none⟩)) (hy : a.eval y = .agg cs) (t : TypeId) (old : Array Value)
    (hw : Row w g t old) (hi : (P.info? ty).map (·.size) = some cs.size) (hold : old.size = cs.size) (h1 : cs.all (·.oneCell') = true)
    (h : K (a.put o.dst undef) (w.setRow g cs)) : if Region.wanted o (yielded ops a.tmps) = true then Oper.wp P o a w K Q else E := by
  refine step_ranS hg ?_ h
  have hs := run_storeVar_row (P := P) w g t ty old cs hw hi hold h1
  simp [execOp, ho, Instr.storeAt, Instr.sureAddr, hx, hy, hs, Result.andThen]

theorem run_loadFrom_row (w : World) (g : Nat) (t : TypeId) (S : Int → Bool) (h : Row w g t (rowA S)) : (loadCellsFrom ⟨g, 0, none⟩ 0 40 #[]).run P w = .ok (rowA S) w := by
  have h1 := run_loadCells_list (P := P) w ⟨g, 0, none⟩ (rowA S).toList (fun j v hv => by
    rw [Go.WideShapes.add_plain, Nat.zero_add, h.cell]
    simpa using hv)
  rw [Array.length_toList, rowA_size] at h1
  simpa [loadCells] using h1
theorem run_store_row (w : World) (g : Nat) (t : TypeId) (S : Int → Bool) (old : Array Value) (h : Row w g t old) (hs : old.size = 40) : (storeCells ⟨g, 0, none⟩ (rowA S).toList 0).run P w = .ok () (w.setRow g (rowA S)) := by
  have := run_storeCells_from (P := P) g t (rowA S).toList 0 old w h (by rw [Array.length_toList, rowA_size]; omega) (fun v hv => rowA_one S v hv)
  simpa using this
end

end Go.Proofs.YtgnpgehekfhedaaDoor

/- The laws of maps keyed by numbers, at the operations of a walk. -/

namespace Go.Proofs.YtgnpgehekfhedaaDoor
open Go.RowKit

section
variable (w : World) {ops : Array Oper} {rest : List Oper} {o : Oper} {a : Act} {Q : Exit → Act → World → Prop}

theorem wpList_next_rng (hg : o.guard = none) (it : Operand) (hop : o.op = Op.next it false) (q r n : Nat) (f : Int → Option Value) (left : Int → Bool) (cnt : Nat)
    (hit : a.eval it = .pointer (some ⟨r, 0, none⟩)) (h : Rng w q r n f left cnt)
    (hDone : cnt = 0 → (∀ x, left x = false) → wpList Tryd.prog ops Q rest (a.put o.dst (.tuple #[.bool false])) w)
    (hMore : ∀ (x : Int) (v : Value) (w' : World) (cnt' : Nat), F64 x → left x = true → f x = some v → Rng w' q r n f (strike left x) cnt' → cnt' < cnt → Save (· = r) w w' → w'.heap.size = w.heap.size →
      (Instr.entry (.pointer (some ⟨r, 0, none⟩))).run Tryd.prog w' = .ok (.tuple #[.int .i64 x, v]) w' → wpList Tryd.prog ops Q rest (a.put o.dst (.tuple #[.bool true, .int .i64 x, v])) w') :
    wpList Tryd.prog ops Q (o :: rest) a w := by
  refine wpList_plain hg fun K' hK' => ?_
  unfold Oper.wp
  rcases h.next o.type with ⟨h0, hl, hrun⟩ | ⟨x, v, w', cnt', hx, hlk, hv, hrun, hrg, hlt, hs, hsz, hen⟩
  · simp [execOp, hop, hit, hrun, Result.andThen]
    exact hK' _ _ (hDone h0 hl)
  · simp [execOp, hop, hit, hrun, Result.andThen]
    exact hK' _ _ (hMore x v w' cnt' hx hlk hv hrg hlt hs hsz hen)

theorem wpList_range_map (hg : o.guard = none) (m : Operand) (t : TypeId) (hop : o.op = Op.range t m) (e : TypeId) (ht : Tryd.prog.underlying t = some (.map 3 e)) (q n : Nat) (f : Int → Option Value)
    (hm : a.eval m = .map (some q)) (h : MapI w q n f)
    (hK : ∀ w' cnt, Rng w' q w.heap.size n f (fun x => (f x).isSome) cnt → cnt ≤ n → Below w.heap.size w w' → w'.heap.size = w.heap.size + 1 → wpList Tryd.prog ops Q rest (a.put o.dst (.pointer (some ⟨w.heap.size, 0, none⟩))) w') :
    wpList Tryd.prog ops Q (o :: rest) a w := by
  refine wpList_plain hg fun K' hK' => ?_
  obtain ⟨w', cnt, hrun, r1, r2, r3, r4⟩ := h.range ht
  unfold Oper.wp
  simp [execOp, hop, hm, hrun, Result.andThen]
  exact hK' _ _ (hK w' cnt r1 r2 r3 r4)

theorem wpList_delete_rng (hg : o.guard = none) (m x : Operand) (t : TypeId) (hop : o.op = Op.call { callee := Callee.builtin Builtin.delete, args := #[m, x], argTypes := #[t, 3] })
    (e : TypeId) (ht : Tryd.prog.underlying t = some (.map 3 e)) (q r n : Nat) (f : Int → Option Value) (left : Int → Bool) (cnt : Nat) (y : Int)
    (hm : a.eval m = .map (some q)) (hx : a.eval x = .int .i64 y) (hy : F64 y) (h : Rng w q r n f left cnt)
    (hK : ∀ w' cnt', Rng w' q r n (delK f y) (strike left y) cnt' → cnt' ≤ cnt → Save (· = q) w w' → w'.heap.size = w.heap.size → wpList Tryd.prog ops Q rest (a.put o.dst (.tuple #[])) w') :
    wpList Tryd.prog ops Q (o :: rest) a w := by
  refine wpList_plain hg fun K' hK' => ?_
  obtain ⟨w', cnt', hrun, r1, r2, r3, r4⟩ := h.drop hy ht o.type
  unfold Oper.wp
  simp [execOp, hop, resolve, invoke, builtin, hm, hx, hrun, Result.andThen]
  exact hK' _ _ (hK w' cnt' r1 r2 r3 r4)

theorem wpList_store_map (hg : o.guard = none) (m x v : Operand) (t : TypeId) (hop : o.op = Op.mapUpdate t m x v) (e : TypeId) (ht : Tryd.prog.underlying t = some (.map 3 e)) (q n : Nat) (f : Int → Option Value) (y : Int) (u : Value)
    (hm : a.eval m = .map (some q)) (hx : a.eval x = .int .i64 y) (hv : a.eval v = u) (hy : F64 y) (hn : n < maxLen) (h : MapI w q n f)
    (hK : ∀ w', MapI w' q (n + 1) (putK f y u) → Save (· = q) w w' → w'.heap.size = w.heap.size → wpList Tryd.prog ops Q rest (a.put o.dst undef) w') :
    wpList Tryd.prog ops Q (o :: rest) a w := by
  refine wpList_plain hg fun K' hK' => ?_
  obtain ⟨w', hrun, r1, r2, r3⟩ := h.store hn hy ht u
  unfold Oper.wp
  simp [execOp, hop, hm, hx, hv, hrun, Result.andThen]
  exact hK' _ _ (hK w' r1 r2 r3)

theorem wpList_store_set (hg : o.guard = none) (m x v : Operand) (hop : o.op = Op.mapUpdate 155 m x v) (q : Nat) (S : Int → Bool) (y : Int)
    (hm : a.eval m = .map (some q)) (hx : a.eval x = .int .i64 y) (hv : a.eval v = .bool true) (hy : 0 ≤ y ∧ y < 40) (h : SetM w q S)
    (hK : ∀ w', SetM w' q (addS S y) → Save (· = q) w w' → w'.heap.size = w.heap.size → wpList Tryd.prog ops Q rest (a.put o.dst undef) w') :
    wpList Tryd.prog ops Q (o :: rest) a w := by
  refine wpList_plain hg fun K' hK' => ?_
  obtain ⟨w', hrun, r1, r2, r3⟩ := h.store hy
  unfold Oper.wp
  simp [execOp, hop, hm, hx, hv, hrun, Result.andThen]
  exact hK' _ _ (hK w' r1 r2 r3)

end

end Go.Proofs.YtgnpgehekfhedaaDoor
