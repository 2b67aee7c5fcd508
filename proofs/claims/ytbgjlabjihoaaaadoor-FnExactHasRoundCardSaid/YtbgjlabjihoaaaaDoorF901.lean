/- What it means that a slice in memory reads as a list of numbers, or as a list of rules, and that this is kept while only newer memory is written. No condition. -/
import Derived.WalkKit
import Derived.WalkSpells
import Derived.WalkLawsBesides
import Derived.Handy
import Derived.Lib.Hide
import Derived.Test.YtbgjlabjihoaaaaDoorRows
import Derived.BigQuiet
import Derived.Deep.QuietTactic
import Derived.Deep.RegionWith
import Derived.StillTailTactics
import Derived.Lib.QuietBelow

namespace Go.Proofs.YtbgjlabjihoaaaaDoor
open Go.RowKit

/-- A rule as it lies in memory: its left number, and its right slice: where it lies, what it reads as, its capacity. -/
structure Ru where
  l : Int
  a : Option Addr
  r : List Int
  c : Nat

/-- The cells from A on read as the numbers xs, below block B. -/
def Ints (w : World) (B : Nat) (A : Option Addr) (xs : List Int) : Prop :=
  0 < xs.length → ∃ b o, A = some ⟨b, o, none⟩ ∧ b < B ∧ ∀ k x, xs[k]? = some x → w.cell? ⟨b, o + k, none⟩ = some (.int .i64 x)

/-- The cells from A on read as the rules rs, below block B. -/
def Rls (w : World) (B : Nat) (A : Option Addr) (rs : List Ru) : Prop :=
  0 < rs.length → ∃ b o, A = some ⟨b, o, none⟩ ∧ b < B ∧ ∀ k u, rs[k]? = some u →
    w.cell? ⟨b, o + k * 2, none⟩ = some (.int .i64 u.l) ∧ w.cell? ⟨b, o + k * 2 + 1, none⟩ = some (.slice u.a u.r.length u.c) ∧ Ints w B u.a u.r

theorem Ints.keep {w w' : World} {B : Nat} {A : Option Addr} {xs : List Int} (h : Ints w B A xs) (hk : Below B w w') : Ints w' B A xs := by
  intro hn
  obtain ⟨b, o, e, hb, hc⟩ := h hn
  exact ⟨b, o, e, hb, fun k x hx => (hk.cell (p := ⟨b, o + k, none⟩) hb).trans (hc k x hx)⟩

theorem Ints.more {w : World} {B B' : Nat} {A : Option Addr} {xs : List Int} (h : Ints w B A xs) (hB : B ≤ B') : Ints w B' A xs := by
  intro hn
  obtain ⟨b, o, e, hb, hc⟩ := h hn
  exact ⟨b, o, e, by omega, hc⟩

theorem Rls.keep {w w' : World} {B : Nat} {A : Option Addr} {rs : List Ru} (h : Rls w B A rs) (hk : Below B w w') : Rls w' B A rs := by
  intro hn
  obtain ⟨b, o, e, hb, hc⟩ := h hn
  refine ⟨b, o, e, hb, fun k u hu => ?_⟩
  obtain ⟨h1, h2, h3⟩ := hc k u hu
  exact ⟨(hk.cell (p := ⟨b, o + k * 2, none⟩) hb).trans h1, (hk.cell (p := ⟨b, o + k * 2 + 1, none⟩) hb).trans h2, h3.keep hk⟩

theorem Rls.more {w : World} {B B' : Nat} {A : Option Addr} {rs : List Ru} (h : Rls w B A rs) (hB : B ≤ B') : Rls w B' A rs := by
  intro hn
  obtain ⟨b, o, e, hb, hc⟩ := h hn
  refine ⟨b, o, e, by omega, fun k u hu => ?_⟩
  obtain ⟨h1, h2, h3⟩ := hc k u hu
  exact ⟨h1, h2, h3.more hB⟩

theorem Ints.at_ {w : World} {B : Nat} {A : Option Addr} {xs : List Int} (h : Ints w B A xs) {k : Nat} (hk : k < xs.length) :
    ∃ b o, A = some ⟨b, o, none⟩ ∧ b < B ∧ w.cell? ⟨b, o + k, none⟩ = some (.int .i64 xs[k]) := by
  obtain ⟨b, o, e, hb, hc⟩ := h (by omega)
  exact ⟨b, o, e, hb, hc k _ (List.getElem?_eq_getElem hk)⟩

theorem Rls.at_ {w : World} {B : Nat} {A : Option Addr} {rs : List Ru} (h : Rls w B A rs) {k : Nat} (hk : k < rs.length) :
    ∃ b o, A = some ⟨b, o, none⟩ ∧ b < B ∧ w.cell? ⟨b, o + k * 2, none⟩ = some (.int .i64 rs[k].l) ∧ w.cell? ⟨b, o + k * 2 + 1, none⟩ = some (.slice rs[k].a rs[k].r.length rs[k].c) ∧ Ints w B rs[k].a rs[k].r := by
  obtain ⟨b, o, e, hb, hc⟩ := h (by omega)
  exact ⟨b, o, e, hb, hc k _ (List.getElem?_eq_getElem hk)⟩

theorem Rls.take {w : World} {B : Nat} {A : Option Addr} {rs : List Ru} (h : Rls w B A rs) (m : Nat) : Rls w B A (rs.take m) := by
  intro hn
  obtain ⟨b, o, e, hb, hc⟩ := h (by rw [List.length_take] at hn; omega)
  refine ⟨b, o, e, hb, fun k u hu => hc k u ?_⟩
  rw [List.getElem?_take] at hu
  split at hu
  · exact hu
  · cases hu

/-- Block g is a row of the cells cs of type t, none of them frozen. -/
def Row (w : World) (g : Nat) (t : TypeId) (cs : Array Value) : Prop := w.heap[g]? = some (.cells cs t (0, 0))

theorem Row.lt {w : World} {g : Nat} {t : TypeId} {cs : Array Value} (h : Row w g t cs) : g < w.heap.size := by
  by_cases hg : g < w.heap.size
  · exact hg
  · unfold Row at h; rw [Array.getElem?_eq_none (by omega)] at h; cases h

theorem Row.cell {w : World} {g : Nat} {t : TypeId} {cs : Array Value} (h : Row w g t cs) (i : Nat) : w.cell? ⟨g, i, none⟩ = cs[i]? := cell_of_row w g i cs t (0, 0) h

theorem Row.frozen {w : World} {g : Nat} {t : TypeId} {cs : Array Value} (h : Row w g t cs) (i : Nat) : w.frozen? ⟨g, i, none⟩ = false := by
  unfold Row at h
  simp [World.frozen?, h]

theorem Row.new (w : World) (t : TypeId) (cs : Array Value) : Row (w.alloc (.cells cs t)) w.heap.size t cs := heap_alloc_new w _

theorem Row.alloc {w : World} {g : Nat} {t : TypeId} {cs : Array Value} (h : Row w g t cs) (o : Obj) : Row (w.alloc o) g t cs := (Below.heap_alloc w o g h.lt).trans h

theorem Row.set {w : World} {g : Nat} {t : TypeId} {cs : Array Value} (h : Row w g t cs) (i : Nat) (u : Value) : Row (w.setCell ⟨g, i, none⟩ u) g t (cs.setIfInBounds i u) := by
  unfold Row at h ⊢
  simp [World.setCell, Array.getElem?_modify, h]

theorem Row.far {w : World} {g : Nat} {t : TypeId} {cs : Array Value} (h : Row w g t cs) {p : Addr} (hp : g ≠ p.block) (u : Value) : Row (w.setCell p u) g t cs := (Below.heap_setCell w p u g hp).trans h

theorem Row.below {w w' : World} {g B : Nat} {t : TypeId} {cs : Array Value} (h : Row w g t cs) (hb : Below B w w') (hg : g < B) : Row w' g t cs := (hb.block g hg).trans h

theorem Row.ne {w : World} {g g' : Nat} {t t' : TypeId} {cs cs' : Array Value} (h : Row w g t cs) (h' : Row w g' t' cs') (hne : t ≠ t') : g ≠ g' := by
  intro e
  subst e
  unfold Row at h h'
  rw [h] at h'
  injection h' with h'
  injection h' with _ ht
  exact hne ht

/-- The slice that begins at A is the call's own (its block is not below lo) and reads as xs. -/
def OwnI (w : World) (lo : Nat) (A : Option Addr) (xs : List Int) : Prop :=
  xs = [] ∨ ∃ (g : Nat) (cs : Array Value), A = some ⟨g, 0, none⟩ ∧ lo ≤ g ∧ Row w g 3 cs ∧ ∀ (k : Nat) (x : Int), xs[k]? = some x → cs[k]? = some (.int .i64 x)

theorem OwnI.ints {w : World} {lo : Nat} {A : Option Addr} {xs : List Int} (h : OwnI w lo A xs) : Ints w w.heap.size A xs := by
  intro hn
  rcases h with rfl | ⟨g, cs, rfl, _, hr, hc⟩
  · simp at hn
  · exact ⟨g, 0, rfl, hr.lt, fun k x hx => by rw [hr.cell, Nat.zero_add]; exact hc k x hx⟩

theorem OwnI.below {w w' : World} {lo B : Nat} {A : Option Addr} {xs : List Int} (h : OwnI w lo A xs) (hb : Below B w w') (hB : w.heap.size ≤ B) : OwnI w' lo A xs := by
  rcases h with h | ⟨g, cs, e, hl, hr, hc⟩
  · exact .inl h
  · exact .inr ⟨g, cs, e, hl, hr.below hb (by have := hr.lt; omega), hc⟩

/-- What a rule says, wherever it lies. -/
def Ru.abs (u : Ru) : Int × List Int := (u.l, u.r)

/-- The slice of rules that begins at A, and each of their right sides, are the call's own and read as rs; no two right sides lie in one block. -/
def OwnR (w : World) (lo : Nat) (A : Option Addr) (rs : List Ru) : Prop :=
  rs = [] ∨ ∃ (g : Nat) (cs : Array Value), A = some ⟨g, 0, none⟩ ∧ lo ≤ g ∧ Row w g 96 cs ∧
    (∀ (k : Nat) (u : Ru), rs[k]? = some u → cs[k * 2]? = some (.int .i64 u.l) ∧ cs[k * 2 + 1]? = some (.slice u.a u.r.length u.c) ∧ OwnI w lo u.a u.r) ∧
    ∀ (i j : Nat) (u v : Ru), rs[i]? = some u → rs[j]? = some v → i ≠ j → u.r ≠ [] → v.r ≠ [] → u.a ≠ v.a

theorem OwnR.rls {w : World} {lo : Nat} {A : Option Addr} {rs : List Ru} (h : OwnR w lo A rs) : Rls w w.heap.size A rs := by
  intro hn
  rcases h with rfl | ⟨g, cs, rfl, _, hr, hc, _⟩
  · simp at hn
  · refine ⟨g, 0, rfl, hr.lt, fun k u hu => ?_⟩
    obtain ⟨h1, h2, h3⟩ := hc k u hu
    exact ⟨by rw [hr.cell, Nat.zero_add]; exact h1, by rw [hr.cell, Nat.zero_add]; exact h2, h3.ints⟩

theorem OwnR.below {w w' : World} {lo B : Nat} {A : Option Addr} {rs : List Ru} (h : OwnR w lo A rs) (hb : Below B w w') (hB : w.heap.size ≤ B) : OwnR w' lo A rs := by
  rcases h with h | ⟨g, cs, e, hl, hr, hc, hd⟩
  · exact .inl h
  · refine .inr ⟨g, cs, e, hl, hr.below hb (by have := hr.lt; omega), fun k u hu => ?_, hd⟩
    obtain ⟨h1, h2, h3⟩ := hc k u hu
    exact ⟨h1, h2, h3.below hb hB⟩

theorem OwnI.lower {w : World} {lo lo' : Nat} {A : Option Addr} {xs : List Int} (h : OwnI w lo A xs) (hl : lo' ≤ lo) : OwnI w lo' A xs := by
  rcases h with h | ⟨g, cs, e, h1, hr, hc⟩
  · exact .inl h
  · exact .inr ⟨g, cs, e, by omega, hr, hc⟩

theorem OwnR.lower {w : World} {lo lo' : Nat} {A : Option Addr} {rs : List Ru} (h : OwnR w lo A rs) (hl : lo' ≤ lo) : OwnR w lo' A rs := by
  rcases h with h | ⟨g, cs, e, h1, hr, hc, hd⟩
  · exact .inl h
  · refine .inr ⟨g, cs, e, by omega, hr, fun k u hu => ?_, hd⟩
    obtain ⟨a, b, c⟩ := hc k u hu
    exact ⟨a, b, c.lower hl⟩

theorem OwnI.low {w : World} {lo : Nat} {A : Option Addr} {xs : List Int} (h : OwnI w lo A xs) {p : Addr} (hp : p.block < lo) (u : Value) : OwnI (w.setCell p u) lo A xs := by
  rcases h with h | ⟨g, cs, e, hl, hr, hc⟩
  · exact .inl h
  · exact .inr ⟨g, cs, e, hl, hr.far (by omega) u, hc⟩

theorem OwnR.low {w : World} {lo : Nat} {A : Option Addr} {rs : List Ru} (h : OwnR w lo A rs) {p : Addr} (hp : p.block < lo) (u : Value) : OwnR (w.setCell p u) lo A rs := by
  rcases h with h | ⟨g, cs, e, hl, hr, hc, hd⟩
  · exact .inl h
  · refine .inr ⟨g, cs, e, hl, hr.far (by omega) u, fun k v hv => ?_, hd⟩
    obtain ⟨h1, h2, h3⟩ := hc k v hv
    exact ⟨h1, h2, h3.low hp u⟩

end Go.Proofs.YtbgjlabjihoaaaaDoor

/- What the laws' size counters answer. -/

namespace Go.Proofs.YtbgjlabjihoaaaaDoor
open Go.RowKit

theorem ret_int {k : IntKind} {a b : Int} (h : a = b) : Ending.returned (.int k a) = .returned (.int k b) := by rw [h]

def szI (n : Nat) (L : Int) : Int := if L - n < 0 then -1 else L - n

theorem szI_le {n : Nat} {L : Int} (h0 : 0 ≤ L) : szI n L ≤ L ∧ -1 ≤ szI n L := by unfold szI; split <;> omega

/-- The rules' right sides, one after the other. -/
def szR : List Ru → Int → Int
  | [], L => L
  | u :: r, L => if szI u.r.length L < 0 then -1 else szR r (szI u.r.length L)

def szRs (rs : List Ru) (L : Int) : Int := if L - rs.length < 0 then -1 else szR rs (L - rs.length)

theorem szR_ge : ∀ (rs : List Ru) {L : Int}, 0 ≤ L → -1 ≤ szR rs L ∧ (0 ≤ szR rs L → szR rs L ≤ L ∧ ∀ u ∈ rs, (u.r.length : Int) ≤ L)
  | [], L, _h => by simp [szR]; omega
  | u :: r, L, _h => by
    simp only [szR]
    split
    · simp
    · rename_i hn
      have h1 : szI u.r.length L = L - u.r.length := by unfold szI at hn ⊢; split <;> simp_all
      have ih := szR_ge r (L := szI u.r.length L) (by omega)
      refine ⟨ih.1, fun hp => ?_⟩
      obtain ⟨a, b⟩ := ih.2 hp
      refine ⟨by omega, fun v hv => ?_⟩
      rcases List.mem_cons.1 hv with rfl | hv
      · omega
      · have := b v hv; omega

theorem szRs_ge (rs : List Ru) {L : Int} (_h : 0 ≤ L) : -1 ≤ szRs rs L := by
  unfold szRs; split
  · omega
  · exact (szR_ge rs (by omega)).1

/-- Where the count is not negative, the rules and each right side are no more than it began with. -/
theorem szRs_bound {rs : List Ru} {L : Int} (_h : 0 ≤ L) (hp : 0 ≤ szRs rs L) : (rs.length : Int) ≤ L ∧ ∀ u ∈ rs, (u.r.length : Int) ≤ L := by
  unfold szRs at hp
  split at hp
  · omega
  · obtain ⟨_, b⟩ := (szR_ge rs (L := L - rs.length) (by omega)).2 hp
    exact ⟨by omega, fun u hu => by have := b u hu; omega⟩

set_option maxHeartbeats 400000 in
theorem szIntS_any (A : Option Addr) (n c : Nat) (L : Int) (w : World) (hn : n ≤ maxLen) (h0 : 0 ≤ L) (h1 : L ≤ 1048576) :
    Calls Tryd.prog 67 #[.slice A n c, .int .i64 L] w fun e w' => e = .returned (.int .i64 (szI n L)) ∧ w = w' := by
  unfold maxLen at hn
  by_cases h : L - n < 0
  · have hs : Hid (szI n L = -1) := by show szI n L = -1; unfold szI; rw [if_pos h]
    go_enter Tryd.func67, Tryd.ntmps67
    go_wp2
    go_ret
    exact ⟨by rw [hs.out]; rfl, rfl⟩
  · have hs : Hid (szI n L = L - n) := by show szI n L = L - n; unfold szI; rw [if_neg h]
    go_enter Tryd.func67, Tryd.ntmps67
    go_wp2
    go_ret
    exact ⟨by rw [hs.out]; rfl, rfl⟩

set_option maxHeartbeats 400000 in
theorem szRule_any (l : Int) (A : Option Addr) (n c : Nat) (L : Int) (w : World) (hn : n ≤ maxLen) (h0 : 0 ≤ L) (h1 : L ≤ 1048576) :
    Calls Tryd.prog 55 #[.agg #[.int .i64 l, .slice A n c], .int .i64 L] w fun e w' => e = .returned (.int .i64 (szI n L)) ∧ Below w.heap.size w w' := by
  have hl := szI_le (n := n) h0
  by_cases h : szI n L < 0
  all_goals
    go_enter Tryd.func55, Tryd.ntmps55
    go_wp2_with (go_at_call 67; refine (szIntS_any _ _ _ _ _ hn h0 h1).mono ?_; rintro e w' ⟨rfl, rfl⟩)
    go_ret
    refine ⟨?_, (Below.refl _ _).alloc (Nat.le_refl _) _⟩
  · exact ret_int (by omega)
  · exact ret_int (by omega)

theorem szR_drop {rs : List Ru} {k : Nat} (hk : k < rs.length) (L : Int) : szR (rs.drop k) L = if szI rs[k].r.length L < 0 then -1 else szR (rs.drop (k + 1)) (szI rs[k].r.length L) := by
  rw [List.drop_eq_getElem_cons hk]; rfl

set_option maxHeartbeats 400000 in
theorem szRuleS_any (A : Option Addr) (rs : List Ru) (c : Nat) (L : Int) (w : World) (hr : Rls w w.heap.size A rs) (hn : rs.length ≤ maxLen) (hu : ∀ u ∈ rs, u.r.length ≤ maxLen) (h0 : 0 ≤ L) (h1 : L ≤ 1048576) :
    Calls Tryd.prog 39 #[.slice A rs.length c, .int .i64 L] w fun e w' => e = .returned (.int .i64 (szRs rs L)) ∧ Below w.heap.size w w' := by
  unfold maxLen at hn
  by_cases h : L - rs.length < 0
  · have hs : Hid (szRs rs L = -1) := by show szRs rs L = -1; unfold szRs; rw [if_pos h]
    have HU := Lib.hid hu; clear hu
    have HR := Lib.hid hr; clear hr
    go_enter Tryd.func39, Tryd.ntmps39
    go_wp2
    go_ret
    exact ⟨by rw [hs.out]; rfl, Below.refl _ _⟩
  · have hs : Hid (szRs rs L = szR rs (L - rs.length)) := by show szRs rs L = _; unfold szRs; rw [if_neg h]
    have HU := Lib.hid hu; clear hu
    have HR := Lib.hid hr; clear hr
    go_enter Tryd.func39, Tryd.ntmps39
    go_wp2
    go_loopw [1, 5] (fun l i wr => ∃ (k : Nat) (M : Int), k ≤ rs.length ∧ i = .int .i64 k ∧ l = .int .i64 M ∧ 0 ≤ M ∧ M ≤ 1048576 ∧ Hid (szRs rs L = szR (rs.drop k) M) ∧ Below w.heap.size w wr) (fun _ i _ => rs.length - (intOf i).toNat)
    case atStart => exact ⟨0, L - rs.length, by omega, rfl, rfl, by omega, by omega, hs, Below.refl _ _⟩
    case round =>
      obtain ⟨k, M, hk, rfl, rfl, hM0, hM1, hS, hB⟩ := hrel
      by_cases hlt : k < rs.length
      · obtain ⟨b, o, rfl, hb, c1, c2, c3⟩ := (HR.out.keep hB).at_ hlt
        have hl := szI_le (n := rs[k].r.length) hM0
        have hlen := HU.out rs[k] (List.getElem_mem hlt)
        have HS : Hid (szRs rs L = if szI rs[k].r.length M < 0 then -1 else szR (rs.drop (k + 1)) (szI rs[k].r.length M)) := by show _ = _; rw [hS.out, szR_drop hlt]
        clear hS c3
        by_cases hneg : szI rs[k].r.length M < 0
        · go_wp2_with (go_at_call 55; refine (szRule_any _ _ _ _ _ _ hlen hM0 hM1).mono ?_; rintro e w' ⟨rfl, hB'⟩)
          go_ret
          exact ⟨ret_int (by rw [HS.out, if_pos hneg]), hB.trans (hB'.mono hB.size)⟩
        · go_wp2_with (go_at_call 55; refine (szRule_any _ _ _ _ _ _ hlen hM0 hM1).mono ?_; rintro e w' ⟨rfl, hB'⟩)
          go_roundw
          case rel => exact ⟨k + 1, _, by omega, by go_num, rfl, by omega, by omega, by show _ = _; rw [HS.out, if_neg (by omega)], hB.trans (hB'.mono hB.size)⟩
          case measure => simp [intOf]; omega
      · go_wp2
        go_ret
        exact ⟨ret_int (by rw [hS.out, List.drop_of_length_le (by omega)]; rfl), hB⟩

set_option maxHeartbeats 400000 in
theorem szGrammar_any (n t : Int) (A : Option Addr) (rs : List Ru) (c : Nat) (L : Int) (w : World) (hr : Rls w w.heap.size A rs) (hn : rs.length ≤ maxLen) (hu : ∀ u ∈ rs, u.r.length ≤ maxLen) (h0 : 0 ≤ L) (h1 : L ≤ 1048576) :
    Calls Tryd.prog 16 #[.agg #[.int .i64 n, .int .i64 t, .slice A rs.length c], .int .i64 L] w fun e w' => e = .returned (.int .i64 (szRs rs L)) ∧ Below w.heap.size w w' := by
  have hB0 : Below w.heap.size w (w.alloc (.cells #[.int .i64 n, .int .i64 t, .slice A rs.length c] 42)) := (Below.refl _ _).alloc (Nat.le_refl _) _
  have HU := Lib.hid hu; clear hu
  have HR := Lib.hid ((hr.keep hB0).more hB0.size); clear hr
  have HN := Lib.hid hn; clear hn
  by_cases h : szRs rs L < 0
  all_goals
    go_enter Tryd.func16, Tryd.ntmps16
    go_wp2_with (go_at_call 39; refine (szRuleS_any _ _ _ _ _ HR.out HN.out HU.out h0 h1).mono ?_; rintro e w' ⟨rfl, hB'⟩)
    go_ret
    refine ⟨?_, hB0.trans (hB'.mono hB0.size)⟩
  · exact ret_int (by have := szRs_ge rs h0; omega)
  · rfl

end Go.Proofs.YtbgjlabjihoaaaaDoor

/- What the laws' copies make: new memory that reads as what was copied. -/

namespace Go.Proofs.YtbgjlabjihoaaaaDoor
open Go.RowKit

theorem Tryd.infoInt : (Tryd.prog.info? 3).map (fun i => (i.zero, i.size, i.bytes)) = some (some (.int .i64 0), 1, 8) := by kernel_rfl
theorem Tryd.infoRule : (Tryd.prog.info? 96).map (fun i => (i.zero, i.size, i.bytes)) = some (some (.agg #[.int .i64 0, .slice none 0 0]), 2, 32) := by kernel_rfl

def zI (n : Nat) : Array Value := madeCells #[.int .i64 0] n
def zR (n : Nat) : Array Value := madeCells #[.int .i64 0, .slice none 0 0] (n * 2)
theorem zI_size (n : Nat) : (zI n).size = n := size_madeCells _ _
theorem zR_size (n : Nat) : (zR n).size = n * 2 := size_madeCells _ _

theorem info_of {P : Program} {e : TypeId} {z : Value} {s b : Nat} (h : (P.info? e).map (fun i => (i.zero, i.size, i.bytes)) = some (some z, s, b)) :
    ∃ i, P.info? e = some i ∧ i.zero = some z ∧ i.size = s ∧ i.bytes = b := by
  cases hi : P.info? e with
  | none => rw [hi] at h; simp at h
  | some i => rw [hi] at h; simp at h; exact ⟨i, rfl, h.1, h.2.1, h.2.2⟩

theorem make_ints (n : Nat) (hn : n ≤ 1048576) (w : World) :
    (Instr.makeSlice 27 (.int .i64 (n : Int)) (.int .i64 (n : Int))).run Tryd.prog w = .ok (.slice (some ⟨w.heap.size, 0, none⟩) n n) (w.alloc (.cells (zI n) 3)) := by
  obtain ⟨i, hi, hz, hs, hb⟩ := info_of Tryd.infoInt
  have h := run_make (P := Tryd.prog) w 27 3 i _ Tryd.underlying27 hi hz .i64 .i64 n n (by omega) (by omega) (by rw [hb]; omega) (by omega)
  rw [hs] at h
  simpa [zI, Value.cells] using h

theorem make_rules (n : Nat) (hn : n ≤ 1048576) (w : World) :
    (Instr.makeSlice 45 (.int .i64 (n : Int)) (.int .i64 (n : Int))).run Tryd.prog w = .ok (.slice (some ⟨w.heap.size, 0, none⟩) n n) (w.alloc (.cells (zR n) 96)) := by
  obtain ⟨i, hi, hz, hs, hb⟩ := info_of Tryd.infoRule
  have h := run_make (P := Tryd.prog) w 45 96 i _ Tryd.underlying45 hi hz .i64 .i64 n n (by omega) (by omega) (by rw [hb]; omega) (by omega)
  rw [hs] at h
  simpa [zR, Value.cells] using h

theorem copied_step {xs : List Int} {cs : Array Value} {k : Nat} (hlt : k < xs.length) (hs : cs.size = xs.length) (h : ∀ (j : Nat) (x : Int), j < k → xs[j]? = some x → cs[j]? = some (.int .i64 x)) :
    ∀ (j : Nat) (x : Int), j < k + 1 → xs[j]? = some x → (cs.setIfInBounds k (.int .i64 xs[k]))[j]? = some (.int .i64 x) := by
  intro j x hj hx
  rw [Array.getElem?_setIfInBounds]
  by_cases e : k = j
  · subst e
    rw [if_pos rfl, if_pos (by omega)]
    rw [List.getElem?_eq_getElem hlt] at hx
    simpa using hx
  · rw [if_neg e]
    exact h j x (by omega) hx

/-- A new slice of numbers that reads as xs; nothing older has turned. -/
def GaveI (w : World) (xs : List Int) (e : Ending) (w' : World) : Prop :=
  ∃ A c, e = .returned (.slice A xs.length c) ∧ xs.length ≤ c ∧ OwnI w' w.heap.size A xs ∧ Below w.heap.size w w'

set_option maxHeartbeats 400000 in
theorem toIntS_any (A : Option Addr) (xs : List Int) (c : Nat) (w : World) (hr : Ints w w.heap.size A xs) (hn : xs.length ≤ 1048576) :
    Calls Tryd.prog 68 #[.slice A xs.length c] w (GaveI w xs) := by
  have hmk := make_ints xs.length hn
  have HR := Lib.hid hr; clear hr
  go_enter Tryd.func68, Tryd.ntmps68
  go_wp2
  go_loopw [4] (fun i wr => ∃ (k : Nat) (cs : Array Value), k ≤ xs.length ∧ i = .int .i64 k ∧ Below w.heap.size w wr ∧ Hid (Row wr w.heap.size 3 cs ∧ cs.size = xs.length ∧ ∀ (j : Nat) (x : Int), j < k → xs[j]? = some x → cs[j]? = some (.int .i64 x))) (fun i _ => xs.length - (intOf i).toNat)
  case atStart => exact ⟨0, zI xs.length, by omega, rfl, (Below.refl _ _).alloc (Nat.le_refl _) _, Row.new _ _ _, zI_size _, fun j x h => absurd h (by omega)⟩
  case round =>
    obtain ⟨k, cs, hk, rfl, hB, H⟩ := hrel
    clear hmk
    by_cases hlt : k < xs.length
    · obtain ⟨b, o, rfl, hb, c1⟩ := (HR.out.keep hB).at_ hlt
      have c2 : wr.cell? ⟨w.heap.size, k, none⟩ = some (cs[k]'(by have := H.out.2.1; omega)) := by
        rw [H.out.1.cell, Array.getElem?_eq_getElem]
      have c3 := H.out.1.frozen k
      go_wp2
      go_roundw
      case rel => exact ⟨k + 1, cs.setIfInBounds k (.int .i64 xs[k]), by omega, by go_num, hB.setCell (Nat.le_refl _) _, H.out.1.set k _, by rw [Array.size_setIfInBounds]; exact H.out.2.1, copied_step hlt H.out.2.1 H.out.2.2⟩
      case measure => simp [intOf]; omega
    · go_wp2
      go_ret
      exact ⟨some ⟨w.heap.size, 0, none⟩, xs.length, rfl, Nat.le_refl _, .inr ⟨w.heap.size, cs, rfl, Nat.le_refl _, H.out.1, fun j x hj => H.out.2.2 j x (by have := (List.getElem?_eq_some_iff.1 hj).1; omega) hj⟩, hB⟩

/-- A rule's copy. -/
def GaveU (w : World) (l : Int) (xs : List Int) (e : Ending) (w' : World) : Prop :=
  ∃ A c, e = .returned (.agg #[.int .i64 l, .slice A xs.length c]) ∧ xs.length ≤ c ∧ OwnI w' w.heap.size A xs ∧ Below w.heap.size w w'

set_option maxHeartbeats 400000 in
theorem toRule_any (l : Int) (A : Option Addr) (xs : List Int) (c : Nat) (w : World) (hr : Ints w w.heap.size A xs) (hn : xs.length ≤ 1048576) :
    Calls Tryd.prog 60 #[.agg #[.int .i64 l, .slice A xs.length c]] w (GaveU w l xs) := by
  have HR := Lib.hid hr; clear hr
  go_enter Tryd.func60, Tryd.ntmps60
  go_wp2_with fail
  refine (toIntS_any _ _ _ _ ?_ hn).mono ?_
  · exact (HR.out.keep (by go_grown)).more (by simp; omega)
  · rintro e w1 ⟨A', c', rfl, hcap, hO, hB⟩
    have hz := hB.size
    have c0 := (hB.cell (p := ⟨w.heap.size + 1 + 1, 0, none⟩) (by simp)).trans (show _ = some (.int .i64 l) from by simp [go_sem])
    have c1 := (hB.cell (p := ⟨w.heap.size + 1 + 1, 1, none⟩) (by simp)).trans (show _ = some (.slice none 0 0) from by simp [go_sem])
    have f0 := (hB.frozen (p := ⟨w.heap.size + 1 + 1, 1, none⟩) (by simp)).trans (show _ = false from by simp [go_sem])
    have d0 := (hB.cell (p := ⟨w.heap.size + 1, 0, none⟩) (by simp)).trans (show _ = some (.int .i64 0) from by simp [go_sem])
    have d1 := (hB.cell (p := ⟨w.heap.size + 1, 1, none⟩) (by simp)).trans (show _ = some (.slice none 0 0) from by simp [go_sem])
    have g0 := (hB.frozen (p := ⟨w.heap.size + 1, 0, none⟩) (by simp)).trans (show _ = false from by simp [go_sem])
    have g1 := (hB.frozen (p := ⟨w.heap.size + 1, 1, none⟩) (by simp)).trans (show _ = false from by simp [go_sem])
    have HO := Lib.hid hO; clear hO
    have HB := Lib.hid hB; clear hB
    go_wp2_with fail
    simp only [World.size_alloc] at hz
    refine bodyPost_ret (v := .agg #[.int .i64 l, .slice A' xs.length c']) (by simp [results, Tryd.results60, go_sem, d0, d1]) rfl ⟨A', c', rfl, hcap, ?_, ?_⟩
    · have h := HO.out
      simp only [World.size_alloc] at h
      exact (((h.low (by simp) _).low (by simp) _).low (by simp) _).lower (by omega)
    · have h := HB.out
      simp only [World.size_alloc] at h
      have hB0 : Below w.heap.size w w1 := Below.trans (by go_grown) (h.mono (by omega))
      exact ((hB0.setCell (by simp; omega) _).setCell (by simp) _).setCell (by simp) _

/-- A new slice of rules that says what rs say; nothing older has turned. -/
def GaveR (w : World) (ss : List (Int × List Int)) (e : Ending) (w' : World) : Prop :=
  ∃ A c rs, e = .returned (.slice A rs.length c) ∧ rs.length ≤ c ∧ OwnR w' w.heap.size A rs ∧ rs.map Ru.abs = ss ∧ Below w.heap.size w w'

/-- The first k rules of rs are copied into block g. -/
def Copying (w : World) (lo g : Nat) (rs : List Ru) (k : Nat) : Prop :=
  ∃ (cs : Array Value) (done : List Ru), Row w g 96 cs ∧ cs.size = rs.length * 2 ∧ done.length = k ∧ done.map Ru.abs = (rs.take k).map Ru.abs ∧
    (∀ (j : Nat) (u : Ru), done[j]? = some u → cs[j * 2]? = some (.int .i64 u.l) ∧ cs[j * 2 + 1]? = some (.slice u.a u.r.length u.c) ∧ OwnI w lo u.a u.r) ∧
    ∀ (i j : Nat) (u v : Ru), done[i]? = some u → done[j]? = some v → i ≠ j → u.r ≠ [] → v.r ≠ [] → u.a ≠ v.a

theorem Copying.step {w w1 : World} {lo g k : Nat} {rs : List Ru} (h : Copying w lo g rs k) (hlo : lo ≤ w.heap.size) (hk : k < rs.length) (hb : Below w.heap.size w w1) {A : Option Addr} {c : Nat} (hO : OwnI w1 w.heap.size A rs[k].r) :
    Copying ((w1.setCell ⟨g, k * 2, none⟩ (.int .i64 rs[k].l)).setCell ⟨g, k * 2 + 1, none⟩ (.slice A rs[k].r.length c)) lo g rs (k + 1) := by
  obtain ⟨cs, done, hr, hs, hl, ha, hc, hd⟩ := h
  have hg : g < w.heap.size := hr.lt
  have hr1 : Row w1 g 96 cs := hr.below hb hg
  have keep : ∀ {A' : Option Addr} {xs : List Int}, OwnI w1 lo A' xs → OwnI ((w1.setCell ⟨g, k * 2, none⟩ (.int .i64 rs[k].l)).setCell ⟨g, k * 2 + 1, none⟩ (.slice A rs[k].r.length c)) lo A' xs := by
    intro A' xs h
    rcases h with h | ⟨g', cs', e, hl', hr', hc'⟩
    · exact .inl h
    · have hne : g' ≠ g := hr'.ne hr1 (by decide)
      exact .inr ⟨g', cs', e, hl', (hr'.far hne _).far hne _, hc'⟩
  refine ⟨(cs.setIfInBounds (k * 2) (.int .i64 rs[k].l)).setIfInBounds (k * 2 + 1) (.slice A rs[k].r.length c), done ++ [⟨rs[k].l, A, rs[k].r, c⟩], (hr1.set _ _).set _ _, by simp [hs], by simp [hl], ?_, ?_, ?_⟩
  · rw [List.map_append, ha, List.take_succ_eq_append_getElem hk, List.map_append]; rfl
  · intro j u hu
    by_cases e : j < k
    · rw [List.getElem?_append_left (by omega)] at hu
      obtain ⟨h1, h2, h3⟩ := hc j u hu
      refine ⟨?_, ?_, keep (h3.below hb (Nat.le_refl _))⟩
      · rw [Array.getElem?_setIfInBounds, if_neg (by omega), Array.getElem?_setIfInBounds, if_neg (by omega)]; exact h1
      · rw [Array.getElem?_setIfInBounds, if_neg (by omega), Array.getElem?_setIfInBounds, if_neg (by omega)]; exact h2
    · rw [List.getElem?_append_right (by omega)] at hu
      have hj : j - done.length = 0 := by
        rcases Nat.eq_zero_or_pos (j - done.length) with h0 | h0
        · exact h0
        · rw [List.getElem?_eq_none (by simp; omega)] at hu; cases hu
      rw [hj] at hu
      simp at hu
      subst hu
      have : j = k := by omega
      subst this
      refine ⟨?_, ?_, keep (hO.lower hlo)⟩
      · rw [Array.getElem?_setIfInBounds, if_neg (by omega), Array.getElem?_setIfInBounds, if_pos rfl, if_pos (by omega)]
      · rw [Array.getElem?_setIfInBounds, if_pos rfl, if_pos (by simp; omega)]
  · have old : ∀ (i : Nat) (u : Ru), i < k → (done ++ [⟨rs[k].l, A, rs[k].r, c⟩])[i]? = some u → u.r ≠ [] → rs[k].r ≠ [] → u.a ≠ A := by
      intro i u hi hu hne hne' he
      rw [List.getElem?_append_left (by omega)] at hu
      obtain ⟨_, _, h3⟩ := hc i u hu
      rcases h3 with h3 | ⟨g1, _, e1, _, r1, _⟩
      · exact hne h3
      · rcases hO with h4 | ⟨g2, _, e2, l2, _, _⟩
        · exact hne' h4
        · rw [e1, e2] at he
          have := r1.lt
          injection he with he
          injection he with he
          omega
    have last : ∀ (i : Nat) (u : Ru), ¬ i < k → (done ++ [⟨rs[k].l, A, rs[k].r, c⟩])[i]? = some u → i = k ∧ u = ⟨rs[k].l, A, rs[k].r, c⟩ := by
      intro i u hi hu
      rw [List.getElem?_append_right (by omega)] at hu
      have hj : i - done.length = 0 := by
        rcases Nat.eq_zero_or_pos (i - done.length) with h0 | h0
        · exact h0
        · rw [List.getElem?_eq_none (by simp; omega)] at hu; cases hu
      rw [hj] at hu
      simp at hu
      exact ⟨by omega, hu.symm⟩
    intro i j u v hu hv hij hun hvn
    by_cases hi : i < k <;> by_cases hj : j < k
    · rw [List.getElem?_append_left (by omega)] at hu hv
      exact hd i j u v hu hv hij hun hvn
    · obtain ⟨rfl, rfl⟩ := last j v hj hv
      exact old i u hi hu hun hvn
    · obtain ⟨rfl, rfl⟩ := last i u hi hu
      exact fun e => old j v hj hv hvn hun e.symm
    · have := (last i u hi hu).1; have := (last j v hj hv).1; omega

theorem Copying.row {w : World} {lo g k : Nat} {rs : List Ru} (h : Copying w lo g rs k) : ∃ cs, Row w g 96 cs ∧ cs.size = rs.length * 2 := by
  obtain ⟨cs, _, hr, hs, _⟩ := h
  exact ⟨cs, hr, hs⟩

theorem Copying.done {w : World} {lo g : Nat} {rs : List Ru} (h : Copying w lo g rs rs.length) (hg : lo ≤ g) : ∃ ds : List Ru, OwnR w lo (some ⟨g, 0, none⟩) ds ∧ ds.length = rs.length ∧ ds.map Ru.abs = rs.map Ru.abs := by
  obtain ⟨cs, ds, hr, _, hl, ha, hc, hd⟩ := h
  exact ⟨ds, .inr ⟨g, cs, rfl, hg, hr, hc, hd⟩, hl, by rw [ha, List.take_length]⟩

set_option maxHeartbeats 400000 in
theorem toRuleS_any (A : Option Addr) (rs : List Ru) (c : Nat) (w : World) (hr : Rls w w.heap.size A rs) (hn : rs.length ≤ 1048576) (hu : ∀ u ∈ rs, u.r.length ≤ 1048576) :
    Calls Tryd.prog 42 #[.slice A rs.length c] w (GaveR w (rs.map Ru.abs)) := by
  have hmk := make_rules rs.length hn
  have HR := Lib.hid hr; clear hr
  have HU := Lib.hid hu; clear hu
  go_enter Tryd.func42, Tryd.ntmps42
  go_wp2
  go_loopw [4] (fun i wr => ∃ (k : Nat), k ≤ rs.length ∧ i = .int .i64 k ∧ w.heap.size < wr.heap.size ∧ Below w.heap.size w wr ∧ Hid (Copying wr w.heap.size w.heap.size rs k)) (fun i _ => rs.length - (intOf i).toNat)
  case atStart => exact ⟨0, by omega, rfl, by simp, (Below.refl _ _).alloc (Nat.le_refl _) _, zR rs.length, [], Row.new _ _ _, zR_size _, rfl, rfl, fun j u h => by simp at h, fun i j u v h => by simp at h⟩
  case round =>
    obtain ⟨k, hk, rfl, hsz, hB, H⟩ := hrel
    clear hmk
    by_cases hlt : k < rs.length
    · obtain ⟨b, o, rfl, hb, c1, c2, c3⟩ := (HR.out.keep hB).at_ hlt
      have C3 := Lib.hid (c3.more hB.size); clear c3
      have hlen := HU.out rs[k] (List.getElem_mem hlt)
      go_wp2_with fail
      refine (toRule_any _ _ _ _ _ C3.out hlen).mono ?_
      rintro e w1 ⟨A1, k1, rfl, _, hO, hB1⟩
      obtain ⟨cs, hcs, hcz⟩ := H.out.row
      have hr1 := hcs.below hB1 hsz
      obtain ⟨x0, d0⟩ : ∃ x0, w1.cell? ⟨w.heap.size, k * 2, none⟩ = some x0 := ⟨_, (hr1.cell (k * 2)).trans (Array.getElem?_eq_getElem (by omega))⟩
      obtain ⟨x1, d1⟩ : ∃ x1, w1.cell? ⟨w.heap.size, k * 2 + 1, none⟩ = some x1 := ⟨_, (hr1.cell (k * 2 + 1)).trans (Array.getElem?_eq_getElem (by omega))⟩
      have f0 := hr1.frozen (k * 2)
      have f1 := hr1.frozen (k * 2 + 1)
      have HO := Lib.hid hO; clear hO
      have HB1 := Lib.hid hB1; clear hB1
      clear hr1 hcs hcz
      go_wp2
      go_roundw
      case rel => exact ⟨k + 1, by omega, by go_num, by have := HB1.out.size; simp; omega, ((hB.trans (HB1.out.mono hB.size)).setCell (Nat.le_refl _) _).setCell (Nat.le_refl _) _, H.out.step hB.size hlt HB1.out HO.out⟩
      case measure => simp [intOf]; omega
    · go_wp2
      go_ret
      obtain rfl : k = rs.length := by omega
      obtain ⟨ds, hO, hl, ha⟩ := H.out.done (Nat.le_refl _)
      exact ⟨some ⟨w.heap.size, 0, none⟩, rs.length, ds, by rw [hl]; rfl, by omega, hO, ha, hB⟩

/-- A grammar's copy: it says the same; nothing older has turned. -/
def GaveG (w : World) (n t : Int) (ss : List (Int × List Int)) (e : Ending) (w' : World) : Prop :=
  ∃ A c rs, e = .returned (.agg #[.int .i64 n, .int .i64 t, .slice A rs.length c]) ∧ rs.length ≤ c ∧ OwnR w' w.heap.size A rs ∧ rs.map Ru.abs = ss ∧ Below w.heap.size w w'

set_option maxHeartbeats 400000 in
theorem toGrammar_any (n t : Int) (A : Option Addr) (rs : List Ru) (c : Nat) (w : World) (hr : Rls w w.heap.size A rs) (hn : rs.length ≤ 1048576) (hu : ∀ u ∈ rs, u.r.length ≤ 1048576) :
    Calls Tryd.prog 18 #[.agg #[.int .i64 n, .int .i64 t, .slice A rs.length c]] w (GaveG w n t (rs.map Ru.abs)) := by
  have HR := Lib.hid hr; clear hr
  have HU := Lib.hid hu; clear hu
  go_enter Tryd.func18, Tryd.ntmps18
  go_wp2_with fail
  refine (toRuleS_any _ _ _ _ ?_ hn HU.out).mono ?_
  · exact (HR.out.keep (by go_grown)).more (by go_size)
  · rintro e w1 ⟨A', c', ss, rfl, hcap, hO, ha, hB⟩
    have hz := hB.size
    have c0 := (hB.cell (p := ⟨w.heap.size + 1 + 1, 0, none⟩) (by simp)).trans (show _ = some (.int .i64 n) from by simp [go_sem])
    have c1 := (hB.cell (p := ⟨w.heap.size + 1 + 1, 1, none⟩) (by simp)).trans (show _ = some (.int .i64 t) from by simp [go_sem])
    have c2 := (hB.cell (p := ⟨w.heap.size + 1 + 1, 2, none⟩) (by simp)).trans (show _ = some (.slice none 0 0) from by simp [go_sem])
    have f0 := (hB.frozen (p := ⟨w.heap.size + 1 + 1, 2, none⟩) (by simp)).trans (show _ = false from by simp [go_sem])
    have d0 := (hB.cell (p := ⟨w.heap.size + 1, 0, none⟩) (by simp)).trans (show _ = some (.int .i64 0) from by simp [go_sem])
    have d1 := (hB.cell (p := ⟨w.heap.size + 1, 1, none⟩) (by simp)).trans (show _ = some (.int .i64 0) from by simp [go_sem])
    have d2 := (hB.cell (p := ⟨w.heap.size + 1, 2, none⟩) (by simp)).trans (show _ = some (.slice none 0 0) from by simp [go_sem])
    have g0 := (hB.frozen (p := ⟨w.heap.size + 1, 0, none⟩) (by simp)).trans (show _ = false from by simp [go_sem])
    have g1 := (hB.frozen (p := ⟨w.heap.size + 1, 1, none⟩) (by simp)).trans (show _ = false from by simp [go_sem])
    have g2 := (hB.frozen (p := ⟨w.heap.size + 1, 2, none⟩) (by simp)).trans (show _ = false from by simp [go_sem])
    have HO := Lib.hid hO; clear hO
    have HB := Lib.hid hB; clear hB
    have HA := Lib.hid ha; clear ha
    go_wp2_with fail
    simp only [World.size_alloc] at hz
    refine bodyPost_ret (v := .agg #[.int .i64 n, .int .i64 t, .slice A' ss.length c']) (by simp [results, Tryd.results18, go_sem, d0, d1, d2]) rfl ⟨A', c', ss, rfl, hcap, ?_, HA.out, ?_⟩
    · have h := HO.out
      simp only [World.size_alloc] at h
      exact ((((h.low (by simp) _).low (by simp) _).low (by simp) _).low (by simp) _).lower (by omega)
    · have h := HB.out
      simp only [World.size_alloc] at h
      have hB0 : Below w.heap.size w w1 := Below.trans (by go_grown) (h.mono (by omega))
      exact (((hB0.setCell (by simp; omega) _).setCell (by simp) _).setCell (by simp) _).setCell (by simp) _

end Go.Proofs.YtbgjlabjihoaaaaDoor

/- Plain mathematics of chapter 1: what a good grammar is. No program, no memory. -/

namespace Go.Proofs.YtbgjlabjihoaaaaDoor

def nonB (n x : Int) : Bool := decide (0 ≤ x ∧ x < n)
theorem nonB_t {n x : Int} (h : 0 ≤ x) (h' : x < n) : nonB n x = true := decide_eq_true ⟨h, h'⟩
theorem nonB_f {n x : Int} (h : x < 0 ∨ n ≤ x) : nonB n x = false := decide_eq_false (by omega)
theorem nonB_is {n x : Int} (h : nonB n x = true) : 0 ≤ x ∧ x < n := of_decide_eq_true h
theorem nonB_no {n x : Int} (h : nonB n x = false) : x < 0 ∨ n ≤ x := by have := of_decide_eq_false h; omega

def symB (n t x : Int) : Bool := decide ((0 ≤ x ∧ x < n) ∨ (0 ≤ -1 - x ∧ -1 - x < t))
theorem symB_non {n t x : Int} (h : nonB n x = true) : symB n t x = true := decide_eq_true (.inl (nonB_is h))
theorem symB_tok {n t x : Int} (h : nonB n x = false) : symB n t x = nonB t (-1 - x) := by
  have := nonB_no h
  unfold symB nonB
  rw [Bool.eq_iff_iff]
  simp only [decide_eq_true_eq]
  omega

/-- All numbers of a right side are symbols. -/
def symsB (n t : Int) (xs : List Int) : Bool := xs.all fun x => symB n t x
theorem symsB_iff {n t : Int} {xs : List Int} : symsB n t xs = true ↔ ∀ (k : Nat) (x : Int), xs[k]? = some x → symB n t x = true := by
  unfold symsB
  rw [List.all_eq_true]
  constructor
  · intro h k x hx
    exact h x (List.mem_of_getElem? hx)
  · intro h x hx
    obtain ⟨k, hk⟩ := List.mem_iff_getElem?.1 hx
    exact h k x hk
theorem symsB_not {n t : Int} {xs : List Int} {k : Nat} (hk : k < xs.length) (h : symB n t xs[k] = false) : symsB n t xs = false := by
  cases e : symsB n t xs
  · rfl
  · rw [symsB_iff.1 e k _ (List.getElem?_eq_getElem hk)] at h; cases h
theorem symsB_of {n t : Int} {xs : List Int} {k : Nat} (hk : ¬ k < xs.length) (h : ∀ (j : Nat) (x : Int), j < k → xs[j]? = some x → symB n t x = true) : symsB n t xs = true :=
  symsB_iff.2 fun j x hx => h j x (by have := (List.getElem?_eq_some_iff.1 hx).1; omega) hx
theorem syms_step {n t : Int} {xs : List Int} {k : Nat} (hk : k < xs.length) (h : symB n t xs[k] = true) (H : ∀ (j : Nat) (x : Int), j < k → xs[j]? = some x → symB n t x = true) :
    ∀ (j : Nat) (x : Int), j < k + 1 → xs[j]? = some x → symB n t x = true := by
  intro j x hj hx
  by_cases e : j = k
  · subst e; rw [List.getElem?_eq_getElem hk] at hx; injection hx with hx; subst hx; exact h
  · exact H j x (by omega) hx

/-- A rule is good. -/
def goodU (n t : Int) (u : Int × List Int) : Bool := nonB n u.1 && (decide (u.2.length ≤ 4) && symsB n t u.2)
theorem goodU_left {n t l : Int} {xs : List Int} (h : nonB n l = false) : goodU n t (l, xs) = false := by unfold goodU; rw [h]; rfl
theorem goodU_long {n t l : Int} {xs : List Int} (h : ¬ xs.length ≤ 4) : goodU n t (l, xs) = false := by unfold goodU; rw [decide_eq_false h]; cases nonB n l <;> rfl
theorem goodU_syms {n t l : Int} {xs : List Int} (h : nonB n l = true) (h' : xs.length ≤ 4) : goodU n t (l, xs) = symsB n t xs := by unfold goodU; rw [h, decide_eq_true h']; rfl

def hasU (rs : List (Int × List Int)) (u : Int × List Int) : Bool := decide (u ∈ rs)

/-- The first k rules are good, and none of them stands ahead of itself. -/
def goodTo (n t : Int) (rs : List (Int × List Int)) (k : Nat) : Prop := ∀ (j : Nat) (u : Int × List Int), j < k → rs[j]? = some u → goodU n t u = true ∧ hasU (rs.take j) u = false

def goodAll (n t : Int) (rs : List (Int × List Int)) : Bool := (List.range rs.length).all fun j => goodU n t (rs.getD j (0, [])) && !hasU (rs.take j) (rs.getD j (0, []))
theorem goodAll_iff {n t : Int} {rs : List (Int × List Int)} : goodAll n t rs = true ↔ goodTo n t rs rs.length := by
  unfold goodAll goodTo
  rw [List.all_eq_true]
  constructor
  · intro h j u hj hu
    have := h j (List.mem_range.2 hj)
    rw [List.getD_eq_getElem?_getD, hu] at this
    simpa using this
  · intro h j hj
    have hj := List.mem_range.1 hj
    have := h j _ hj (List.getElem?_eq_getElem hj)
    rw [List.getD_eq_getElem?_getD, List.getElem?_eq_getElem hj]
    simpa using this

/-- A grammar is good. -/
def goodG (n t : Int) (rs : List (Int × List Int)) : Bool := decide (1 ≤ n ∧ n ≤ 6) && (decide (1 ≤ t ∧ t ≤ 4) && (decide (rs.length ≤ 16) && goodAll n t rs))
theorem goodG_n {n t : Int} {rs : List (Int × List Int)} (h : ¬ (1 ≤ n ∧ n ≤ 6)) : goodG n t rs = false := by unfold goodG; rw [decide_eq_false h]; rfl
theorem goodG_t {n t : Int} {rs : List (Int × List Int)} (h : ¬ (1 ≤ t ∧ t ≤ 4)) : goodG n t rs = false := by unfold goodG; rw [decide_eq_false h]; cases decide (1 ≤ n ∧ n ≤ 6) <;> rfl
theorem goodG_len {n t : Int} {rs : List (Int × List Int)} (h : ¬ rs.length ≤ 16) : goodG n t rs = false := by unfold goodG; rw [decide_eq_false h]; cases decide (1 ≤ n ∧ n ≤ 6) <;> cases decide (1 ≤ t ∧ t ≤ 4) <;> rfl
theorem goodG_all {n t : Int} {rs : List (Int × List Int)} (h : 1 ≤ n ∧ n ≤ 6) (h' : 1 ≤ t ∧ t ≤ 4) (hl : rs.length ≤ 16) : goodG n t rs = goodAll n t rs := by
  unfold goodG; rw [decide_eq_true h, decide_eq_true h', decide_eq_true hl]; rfl
theorem goodG_is {n t : Int} {rs : List (Int × List Int)} (h : goodG n t rs = true) : (1 ≤ n ∧ n ≤ 6) ∧ (1 ≤ t ∧ t ≤ 4) ∧ rs.length ≤ 16 ∧ goodTo n t rs rs.length := by
  unfold goodG at h
  simp only [Bool.and_eq_true, decide_eq_true_eq] at h
  exact ⟨h.1, h.2.1, h.2.2.1, goodAll_iff.1 h.2.2.2⟩
theorem goodAll_bad {n t : Int} {rs : List (Int × List Int)} {k : Nat} (hk : k < rs.length) (h : goodU n t rs[k] = false ∨ hasU (rs.take k) rs[k] = true) : goodAll n t rs = false := by
  cases e : goodAll n t rs
  · rfl
  · have := goodAll_iff.1 e k _ hk (List.getElem?_eq_getElem hk)
    rcases h with h | h
    · rw [this.1] at h; cases h
    · rw [this.2] at h; cases h
theorem goodTo_step {n t : Int} {rs : List (Int × List Int)} {k : Nat} (hk : k < rs.length) (h1 : goodU n t rs[k] = true) (h2 : hasU (rs.take k) rs[k] = false) (H : goodTo n t rs k) : goodTo n t rs (k + 1) := by
  intro j u hj hu
  by_cases e : j = k
  · subst e; rw [List.getElem?_eq_getElem hk] at hu; injection hu with hu; subst hu; exact ⟨h1, h2⟩
  · exact H j u (by omega) hu
theorem goodAll_of {n t : Int} {rs : List (Int × List Int)} {k : Nat} (hk : ¬ k < rs.length) (H : goodTo n t rs k) : goodAll n t rs = true :=
  goodAll_iff.2 fun j u hj hu => H j u (by omega) hu

end Go.Proofs.YtbgjlabjihoaaaaDoor

/- The table of limits, and what a count within a limit is. -/

namespace Go.Proofs.YtbgjlabjihoaaaaDoor
open Go.RowKit

/-- The numbers of the package's table of limits. -/
def limL : List Int := [1, 6, 1, 4, 0, 16, 0, 4, 0, 10, 1, 40, 1, 4, 0, 200, 0, 600, 0, 600]

/-- The table lies where the program keeps it. -/
def Lims (w : World) : Prop := ∀ (k : Nat) (v : Int), limL[k]? = some v → w.cell? ⟨0, k, none⟩ = some (.int .i64 v)

theorem Lims.pos {w : World} (h : Lims w) : 0 < w.heap.size := by
  have h0 := h 0 1 rfl
  by_cases hg : 0 < w.heap.size
  · exact hg
  · simp only [World.cell?] at h0
    rw [Array.getElem?_eq_none (by omega)] at h0
    cases h0

theorem Lims.keep {w w' : World} {B : Nat} (h : Lims w) (hb : Below B w w') (hB : w.heap.size ≤ B) : Lims w' :=
  fun k v hk => (hb.cell (p := ⟨0, k, none⟩) (by have := h.pos; simp; omega)).trans (h k v hk)

def inB (lo hi n : Int) : Bool := decide (lo ≤ n ∧ n ≤ hi)
theorem inB_t {lo hi n : Int} (h1 : lo ≤ n) (h2 : n ≤ hi) : inB lo hi n = true := decide_eq_true ⟨h1, h2⟩
theorem inB_f {lo hi n : Int} (h : n < lo ∨ hi < n) : inB lo hi n = false := decide_eq_false (by omega)
theorem inB_lo {lo hi n : Int} (h : inB lo hi n = true) : lo ≤ n := (of_decide_eq_true h).1
theorem inB_hi {lo hi n : Int} (h : inB lo hi n = true) : n ≤ hi := (of_decide_eq_true h).2
theorem inB_no {lo hi n : Int} (h : inB lo hi n = false) : n < lo ∨ hi < n := by have := of_decide_eq_false h; omega
theorem ret_b {a b : Bool} (h : a = b) : Ending.returned (.bool a) = .returned (.bool b) := by rw [h]

set_option maxHeartbeats 400000 in
theorem withinLimit_any (k : Nat) (lo hi n : Int) (w : World) (hk : k < 10) (c1 : w.cell? ⟨0, k * 2, none⟩ = some (.int .i64 lo)) (c2 : w.cell? ⟨0, k * 2 + 1, none⟩ = some (.int .i64 hi)) :
    Calls Tryd.prog 52 #[.int .i64 (k : Int), .int .i64 n] w fun e w' => e = .returned (.bool (inB lo hi n)) ∧ Below w.heap.size w w' := by
  by_cases h1 : lo ≤ n
  · by_cases h2 : n ≤ hi
    · have HE : Hid (inB lo hi n = true) := inB_t h1 h2
      go_enter Tryd.func52, Tryd.ntmps52
      go_wp2
      go_ret
      exact ⟨ret_b HE.out.symm, by go_grown⟩
    · have HE : Hid (inB lo hi n = false) := inB_f (by omega)
      go_enter Tryd.func52, Tryd.ntmps52
      go_wp2
      go_ret
      exact ⟨ret_b HE.out.symm, by go_grown⟩
  · have HE : Hid (inB lo hi n = false) := inB_f (by omega)
    go_enter Tryd.func52, Tryd.ntmps52
    go_wp2
    go_ret
    exact ⟨ret_b HE.out.symm, by go_grown⟩

theorem within0 (n : Int) (w : World) (h : Lims w) : Calls Tryd.prog 52 #[.int .i64 0, .int .i64 n] w fun e w' => e = .returned (.bool (inB 1 6 n)) ∧ Below w.heap.size w w' :=
  withinLimit_any 0 1 6 n w (by omega) (h 0 1 rfl) (h 1 6 rfl)
theorem within1 (n : Int) (w : World) (h : Lims w) : Calls Tryd.prog 52 #[.int .i64 1, .int .i64 n] w fun e w' => e = .returned (.bool (inB 1 4 n)) ∧ Below w.heap.size w w' :=
  withinLimit_any 1 1 4 n w (by omega) (h 2 1 rfl) (h 3 4 rfl)
theorem within2 (n : Int) (w : World) (h : Lims w) : Calls Tryd.prog 52 #[.int .i64 2, .int .i64 n] w fun e w' => e = .returned (.bool (inB 0 16 n)) ∧ Below w.heap.size w w' :=
  withinLimit_any 2 0 16 n w (by omega) (h 4 0 rfl) (h 5 16 rfl)
theorem within3 (n : Int) (w : World) (h : Lims w) : Calls Tryd.prog 52 #[.int .i64 3, .int .i64 n] w fun e w' => e = .returned (.bool (inB 0 4 n)) ∧ Below w.heap.size w w' :=
  withinLimit_any 3 0 4 n w (by omega) (h 6 0 rfl) (h 7 4 rfl)
theorem within4 (n : Int) (w : World) (h : Lims w) : Calls Tryd.prog 52 #[.int .i64 4, .int .i64 n] w fun e w' => e = .returned (.bool (inB 0 10 n)) ∧ Below w.heap.size w w' :=
  withinLimit_any 4 0 10 n w (by omega) (h 8 0 rfl) (h 9 10 rfl)
theorem within5 (n : Int) (w : World) (h : Lims w) : Calls Tryd.prog 52 #[.int .i64 5, .int .i64 n] w fun e w' => e = .returned (.bool (inB 1 40 n)) ∧ Below w.heap.size w w' :=
  withinLimit_any 5 1 40 n w (by omega) (h 10 1 rfl) (h 11 40 rfl)
theorem within6 (n : Int) (w : World) (h : Lims w) : Calls Tryd.prog 52 #[.int .i64 6, .int .i64 n] w fun e w' => e = .returned (.bool (inB 1 4 n)) ∧ Below w.heap.size w w' :=
  withinLimit_any 6 1 4 n w (by omega) (h 12 1 rfl) (h 13 4 rfl)
theorem within7 (n : Int) (w : World) (h : Lims w) : Calls Tryd.prog 52 #[.int .i64 7, .int .i64 n] w fun e w' => e = .returned (.bool (inB 0 200 n)) ∧ Below w.heap.size w w' :=
  withinLimit_any 7 0 200 n w (by omega) (h 14 0 rfl) (h 15 200 rfl)
theorem within8 (n : Int) (w : World) (h : Lims w) : Calls Tryd.prog 52 #[.int .i64 8, .int .i64 n] w fun e w' => e = .returned (.bool (inB 0 600 n)) ∧ Below w.heap.size w w' :=
  withinLimit_any 8 0 600 n w (by omega) (h 16 0 rfl) (h 17 600 rfl)
theorem within9 (n : Int) (w : World) (h : Lims w) : Calls Tryd.prog 52 #[.int .i64 9, .int .i64 n] w fun e w' => e = .returned (.bool (inB 0 600 n)) ∧ Below w.heap.size w w' :=
  withinLimit_any 9 0 600 n w (by omega) (h 18 0 rfl) (h 19 600 rfl)

end Go.Proofs.YtbgjlabjihoaaaaDoor

/- What the laws' comparisons answer. -/

namespace Go.Proofs.YtbgjlabjihoaaaaDoor
open Go.RowKit

theorem ret_bool {a b : Bool} (h : a = b) : Ending.returned (.bool a) = .returned (.bool b) := by rw [h]
theorem bne_t {a b : Int} (h : a ≠ b) : (a != b) = true := by simpa using h
theorem bne_f {a b : Int} (h : a = b) : (a != b) = false := by simpa using h
theorem beq_t {a b : Int} (h : a = b) : (a == b) = true := by simpa using h
theorem beq_f {a b : Int} (h : a ≠ b) : (a == b) = false := by simpa using h

def eqL (xs ys : List Int) : Bool := decide (xs = ys)
theorem eqL_t {xs ys : List Int} (h : xs = ys) : eqL xs ys = true := decide_eq_true h
theorem eqL_f {xs ys : List Int} (h : xs ≠ ys) : eqL xs ys = false := decide_eq_false h
theorem eqL_of {xs ys : List Int} {k : Nat} (hl : xs.length = ys.length) (hk : ¬ k < xs.length) (h : ∀ j : Nat, j < k → xs[j]? = ys[j]?) : eqL xs ys = true := by
  refine eqL_t (List.ext_getElem? fun j => ?_)
  by_cases hj : j < k
  · exact h j hj
  · rw [List.getElem?_eq_none (by omega), List.getElem?_eq_none (by omega)]
theorem eqL_not {xs ys : List Int} {k : Nat} (hx : k < xs.length) (hy : k < ys.length) (h : xs[k] ≠ ys[k]) : eqL xs ys = false := by
  refine eqL_f fun e => h ?_
  subst e; rfl

theorem step_eq {xs ys : List Int} {k : Nat} (hx : k < xs.length) (hy : k < ys.length) (he : xs[k] = ys[k]) (h : ∀ j : Nat, j < k → xs[j]? = ys[j]?) : ∀ j : Nat, j < k + 1 → xs[j]? = ys[j]? := by
  intro j hj
  by_cases e : j = k
  · subst e; rw [List.getElem?_eq_getElem hx, List.getElem?_eq_getElem hy, he]
  · exact h j (by omega)

set_option maxHeartbeats 400000 in
theorem eqIntS_any (A A' : Option Addr) (xs ys : List Int) (c c' : Nat) (w : World) (hx : Ints w w.heap.size A xs) (hy : Ints w w.heap.size A' ys) (h1 : xs.length ≤ 1048576) :
    Calls Tryd.prog 11 #[.slice A xs.length c, .slice A' ys.length c'] w fun e w' => e = .returned (.bool (eqL xs ys)) ∧ Below w.heap.size w w' := by
  have HX := Lib.hid hx; clear hx
  have HY := Lib.hid hy; clear hy
  by_cases hl : xs.length = ys.length
  · have hd : ((xs.length : Int) != (ys.length : Int)) = false := bne_f (by omega)
    have hlen : xs.length ≤ ys.length := by omega
    have hlen' : ys.length ≤ xs.length := by omega
    have HL := Lib.hid hl; clear hl
    go_enter Tryd.func11, Tryd.ntmps11
    go_wp2
    go_loopw [5] (fun i wr => ∃ (k : Nat), k ≤ xs.length ∧ i = .int .i64 k ∧ Below w.heap.size w wr ∧ Hid (∀ j : Nat, j < k → xs[j]? = ys[j]?)) (fun i _ => xs.length - (intOf i).toNat)
    case atStart => exact ⟨0, by omega, rfl, Below.refl _ _, fun j h => absurd h (by omega)⟩
    case round =>
      obtain ⟨k, hk, rfl, hB, H⟩ := hrel
      by_cases hlt : k < xs.length
      · have hlt' : k < ys.length := by omega
        obtain ⟨b, o, rfl, hb, c1⟩ := (HX.out.keep hB).at_ hlt
        obtain ⟨b', o', rfl, hb', c2⟩ := (HY.out.keep hB).at_ hlt'
        by_cases hne : xs[k] = ys[k]
        · have ht := bne_f hne
          have HE := Lib.hid hne; clear hne
          go_wp2
          go_quiet (fail)
          go_wp2
          go_roundw
          case rel => exact ⟨k + 1, by omega, by go_num, below_drewN hB _, step_eq hlt hlt' HE.out H.out⟩
          case measure => simp [intOf]; omega
        · have ht := bne_t hne
          have HE : Hid (eqL xs ys = false) := eqL_not hlt hlt' hne
          clear hne
          go_wp2
          go_quiet (fail)
          go_wp2
          go_ret
          exact ⟨ret_bool HE.out.symm, below_drewN hB _⟩
      · have HE : Hid (eqL xs ys = true) := eqL_of HL.out hlt H.out
        go_wp2
        go_ret
        exact ⟨ret_bool HE.out.symm, hB⟩
  · have hd : ((xs.length : Int) != (ys.length : Int)) = true := bne_t (by omega)
    have HE : Hid (eqL xs ys = false) := eqL_f fun e => hl (by rw [e])
    clear hl
    go_enter Tryd.func11, Tryd.ntmps11
    go_wp2
    go_ret
    exact ⟨ret_bool HE.out.symm, Below.refl _ _⟩

def eqU (u v : Int × List Int) : Bool := decide (u = v)
theorem eqU_t {u v : Int × List Int} (h : u = v) : eqU u v = true := decide_eq_true h
theorem eqU_f {u v : Int × List Int} (h : u ≠ v) : eqU u v = false := decide_eq_false h

set_option maxHeartbeats 400000 in
theorem eqRule_any (l l' : Int) (A A' : Option Addr) (xs ys : List Int) (c c' : Nat) (w : World) (hx : Ints w w.heap.size A xs) (hy : Ints w w.heap.size A' ys) (h1 : xs.length ≤ 1048576) :
    Calls Tryd.prog 66 #[.agg #[.int .i64 l, .slice A xs.length c], .agg #[.int .i64 l', .slice A' ys.length c']] w fun e w' => e = .returned (.bool (eqU (l, xs) (l', ys))) ∧ Below w.heap.size w w' := by
  have HX := Lib.hid hx; clear hx
  have HY := Lib.hid hy; clear hy
  by_cases hl : l = l'
  · have hd := bne_f hl
    have HL := Lib.hid hl; clear hl
    cases hq : eqL xs ys
    all_goals
      have HQ := Lib.hid hq; clear hq
      go_enter Tryd.func66, Tryd.ntmps66
      go_wp2_with fail
      refine (eqIntS_any _ _ _ _ _ _ _ ?_ ?_ h1).mono ?_
      · exact (HX.out.keep (by go_grown)).more (by go_size)
      · exact (HY.out.keep (by go_grown)).more (by go_size)
      rintro e w1 ⟨rfl, hB⟩
      rw [HQ.out]
      go_wp2
      go_ret
      refine ⟨ret_bool ?_, Below.trans (by go_grown) (hB.mono (by go_size))⟩
    · exact (eqU_f fun e => by have h : xs = ys := congrArg Prod.snd e; rw [eqL_t h] at HQ; cases HQ.out).symm
    · exact (eqU_t (by rw [HL.out, of_decide_eq_true HQ.out])).symm
  · have hd := bne_t hl
    have HE : Hid (eqU (l, xs) (l', ys) = false) := eqU_f fun e => hl (congrArg Prod.fst e)
    clear hl
    go_enter Tryd.func66, Tryd.ntmps66
    go_wp2
    go_ret
    exact ⟨ret_bool HE.out.symm, by go_grown⟩

def eqRs (rs ss : List (Int × List Int)) : Bool := decide (rs = ss)
theorem eqRs_t {u v : List (Int × List Int)} (h : u = v) : eqRs u v = true := decide_eq_true h
theorem eqRs_f {u v : List (Int × List Int)} (h : u ≠ v) : eqRs u v = false := decide_eq_false h

theorem step_eqR {rs ss : List Ru} {k : Nat} (hx : k < rs.length) (hy : k < ss.length) (he : eqU rs[k].abs ss[k].abs = true) (h : ∀ j : Nat, j < k → (rs.map Ru.abs)[j]? = (ss.map Ru.abs)[j]?) :
    ∀ j : Nat, j < k + 1 → (rs.map Ru.abs)[j]? = (ss.map Ru.abs)[j]? := by
  intro j hj
  by_cases e : j = k
  · subst e; rw [List.getElem?_map, List.getElem?_map, List.getElem?_eq_getElem hx, List.getElem?_eq_getElem hy]; simp [of_decide_eq_true he]
  · exact h j (by omega)
theorem eqRs_of {rs ss : List Ru} {k : Nat} (hl : rs.length = ss.length) (hk : ¬ k < rs.length) (h : ∀ j : Nat, j < k → (rs.map Ru.abs)[j]? = (ss.map Ru.abs)[j]?) : eqRs (rs.map Ru.abs) (ss.map Ru.abs) = true := by
  refine eqRs_t (List.ext_getElem? fun j => ?_)
  by_cases hj : j < k
  · exact h j hj
  · rw [List.getElem?_eq_none (by simp; omega), List.getElem?_eq_none (by simp; omega)]
theorem eqRs_not {rs ss : List Ru} {k : Nat} (hx : k < rs.length) (hy : k < ss.length) (h : eqU rs[k].abs ss[k].abs = false) : eqRs (rs.map Ru.abs) (ss.map Ru.abs) = false := by
  refine eqRs_f fun e => ?_
  have e' := congrArg (fun l => l[k]?) e
  simp [List.getElem?_eq_getElem hx, List.getElem?_eq_getElem hy] at e'
  rw [eqU_t e'] at h
  cases h

set_option maxRecDepth 10000 in
set_option maxHeartbeats 400000 in
theorem eqRuleS_any (A A' : Option Addr) (rs ss : List Ru) (c c' : Nat) (w : World) (hx : Rls w w.heap.size A rs) (hy : Rls w w.heap.size A' ss) (h1 : rs.length ≤ 1048576) (h2 : ∀ u ∈ rs, u.r.length ≤ 1048576) :
    Calls Tryd.prog 45 #[.slice A rs.length c, .slice A' ss.length c'] w fun e w' => e = .returned (.bool (eqRs (rs.map Ru.abs) (ss.map Ru.abs))) ∧ Below w.heap.size w w' := by
  have HX := Lib.hid hx; clear hx
  have HY := Lib.hid hy; clear hy
  have H2 := Lib.hid h2; clear h2
  by_cases hl : rs.length = ss.length
  · have hd : ((rs.length : Int) != (ss.length : Int)) = false := bne_f (by omega)
    have hlen : rs.length ≤ ss.length := by omega
    have hlen' : ss.length ≤ rs.length := by omega
    have HL := Lib.hid hl; clear hl
    go_enter Tryd.func45, Tryd.ntmps45
    go_wp2
    go_loopw [5] (fun i wr => ∃ (k : Nat), k ≤ rs.length ∧ i = .int .i64 k ∧ Below w.heap.size w wr ∧ Hid (∀ j : Nat, j < k → (rs.map Ru.abs)[j]? = (ss.map Ru.abs)[j]?)) (fun i _ => rs.length - (intOf i).toNat)
    case atStart => exact ⟨0, by omega, rfl, Below.refl _ _, fun j h => absurd h (by omega)⟩
    case round =>
      obtain ⟨k, hk, rfl, hB, H⟩ := hrel
      by_cases hlt : k < rs.length
      · have hlt' : k < ss.length := by omega
        obtain ⟨b, o, rfl, hb, c1, c2, c3⟩ := (HX.out.keep hB).at_ hlt
        obtain ⟨b', o', rfl, hb', d1, d2, d3⟩ := (HY.out.keep hB).at_ hlt'
        have C3 := Lib.hid (c3.more hB.size); clear c3
        have D3 := Lib.hid (d3.more hB.size); clear d3
        have hlen2 := H2.out rs[k] (List.getElem_mem hlt)
        cases hq : eqU rs[k].abs ss[k].abs
        all_goals
          have HQ := Lib.hid hq; clear hq
          go_wp2
          go_still_tail 8, (by kernel_rfl)
          change wpList _ _ _ _ _ wr.drew
          go_wp2_with fail
          refine (eqRule_any _ _ _ _ _ _ _ _ _ ?_ ?_ hlen2).mono ?_
          · exact C3.out.keep (by go_grown)
          · exact D3.out.keep (by go_grown)
          rintro e w1 ⟨rfl, hB1⟩
          have hB2 : Below w.heap.size w w1 := hB.trans (Below.trans (by go_grown) (hB1.mono hB.size))
          clear hB1
          rw [show eqU (rs[k].l, rs[k].r) (ss[k].l, ss[k].r) = _ from HQ.out]
        · have HE : Hid (eqRs (rs.map Ru.abs) (ss.map Ru.abs) = false) := eqRs_not hlt hlt' HQ.out
          go_wp2
          go_ret
          exact ⟨ret_bool HE.out.symm, hB2⟩
        · go_wp2
          go_roundw
          case rel => exact ⟨k + 1, by omega, by go_num, hB2, step_eqR hlt hlt' HQ.out H.out⟩
          case measure => simp [intOf]; omega
      · have HE : Hid (eqRs (rs.map Ru.abs) (ss.map Ru.abs) = true) := eqRs_of HL.out hlt H.out
        go_wp2
        go_ret
        exact ⟨ret_bool HE.out.symm, hB⟩
  · have hd : ((rs.length : Int) != (ss.length : Int)) = true := bne_t (by omega)
    have HE : Hid (eqRs (rs.map Ru.abs) (ss.map Ru.abs) = false) := eqRs_f fun e => hl (by simpa using congrArg List.length e)
    clear hl
    go_enter Tryd.func45, Tryd.ntmps45
    go_wp2
    go_ret
    exact ⟨ret_bool HE.out.symm, Below.refl _ _⟩

/-- What a grammar says. -/
def eqG (n t : Int) (rs : List (Int × List Int)) (n' t' : Int) (ss : List (Int × List Int)) : Bool := decide (n = n' ∧ t = t' ∧ rs = ss)

set_option maxHeartbeats 400000 in
theorem eqGrammar_any (n t n' t' : Int) (A A' : Option Addr) (rs ss : List Ru) (c c' : Nat) (w : World) (hx : Rls w w.heap.size A rs) (hy : Rls w w.heap.size A' ss) (h1 : rs.length ≤ 1048576) (h2 : ∀ u ∈ rs, u.r.length ≤ 1048576) :
    Calls Tryd.prog 20 #[.agg #[.int .i64 n, .int .i64 t, .slice A rs.length c], .agg #[.int .i64 n', .int .i64 t', .slice A' ss.length c']] w fun e w' => e = .returned (.bool (eqG n t (rs.map Ru.abs) n' t' (ss.map Ru.abs))) ∧ Below w.heap.size w w' := by
  have HX := Lib.hid hx; clear hx
  have HY := Lib.hid hy; clear hy
  have H2 := Lib.hid h2; clear h2
  by_cases hn : n = n'
  · have e1 := bne_f hn
    have HN := Lib.hid hn; clear hn
    by_cases ht : t = t'
    · have e2 := bne_f ht
      have HT := Lib.hid ht; clear ht
      cases hq : eqRs (rs.map Ru.abs) (ss.map Ru.abs)
      all_goals
        have HQ := Lib.hid hq; clear hq
        go_enter Tryd.func20, Tryd.ntmps20
        go_wp2_with fail
        refine (eqRuleS_any _ _ _ _ _ _ _ ?_ ?_ h1 H2.out).mono ?_
        · exact (HX.out.keep (by go_grown)).more (by go_size)
        · exact (HY.out.keep (by go_grown)).more (by go_size)
        rintro e w1 ⟨rfl, hB⟩
        rw [HQ.out]
        go_wp2
        go_ret
        refine ⟨ret_bool ?_, Below.trans (by go_grown) (hB.mono (by go_size))⟩
      · exact (decide_eq_false fun e => by rw [eqRs_t e.2.2] at HQ; cases HQ.out).symm
      · exact (decide_eq_true ⟨HN.out, HT.out, of_decide_eq_true HQ.out⟩).symm
    · have e2 := bne_t ht
      have HE : Hid (eqG n t (rs.map Ru.abs) n' t' (ss.map Ru.abs) = false) := decide_eq_false fun e => ht e.2.1
      clear ht
      go_enter Tryd.func20, Tryd.ntmps20
      go_wp2
      go_ret
      exact ⟨ret_bool HE.out.symm, by go_grown⟩
  · have e1 := bne_t hn
    have HE : Hid (eqG n t (rs.map Ru.abs) n' t' (ss.map Ru.abs) = false) := decide_eq_false fun e => hn e.1
    clear hn
    go_enter Tryd.func20, Tryd.ntmps20
    go_wp2
    go_ret
    exact ⟨ret_bool HE.out.symm, by go_grown⟩

end Go.Proofs.YtbgjlabjihoaaaaDoor

/- What the program's checks of chapter 1 answer. -/

namespace Go.Proofs.YtbgjlabjihoaaaaDoor
open Go.RowKit

set_option maxHeartbeats 400000 in
theorem isNon_any (n t x : Int) (v : Value) (w : World) :
    Calls Tryd.prog 70 #[.agg #[.int .i64 n, .int .i64 t, v], .int .i64 x] w fun e w' => e = .returned (.bool (nonB n x)) ∧ Below w.heap.size w w' := by
  by_cases h1 : 0 ≤ x
  · by_cases h2 : x < n
    · have HE : Hid (nonB n x = true) := nonB_t h1 h2
      go_enter Tryd.func70, Tryd.ntmps70
      go_wp2
      go_ret
      exact ⟨ret_bool HE.out.symm, by go_grown⟩
    · have HE : Hid (nonB n x = false) := nonB_f (by omega)
      go_enter Tryd.func70, Tryd.ntmps70
      go_wp2
      go_ret
      exact ⟨ret_bool HE.out.symm, by go_grown⟩
  · have HE : Hid (nonB n x = false) := nonB_f (by omega)
    go_enter Tryd.func70, Tryd.ntmps70
    go_wp2
    go_ret
    exact ⟨ret_bool HE.out.symm, by go_grown⟩

set_option maxHeartbeats 400000 in
theorem isToken_any (n t x : Int) (v : Value) (w : World) :
    Calls Tryd.prog 76 #[.agg #[.int .i64 n, .int .i64 t, v], .int .i64 x] w fun e w' => e = .returned (.bool (nonB t x)) ∧ Below w.heap.size w w' := by
  by_cases h1 : 0 ≤ x
  · by_cases h2 : x < t
    · have HE : Hid (nonB t x = true) := nonB_t h1 h2
      go_enter Tryd.func76, Tryd.ntmps76
      go_wp2
      go_ret
      exact ⟨ret_bool HE.out.symm, by go_grown⟩
    · have HE : Hid (nonB t x = false) := nonB_f (by omega)
      go_enter Tryd.func76, Tryd.ntmps76
      go_wp2
      go_ret
      exact ⟨ret_bool HE.out.symm, by go_grown⟩
  · have HE : Hid (nonB t x = false) := nonB_f (by omega)
    go_enter Tryd.func76, Tryd.ntmps76
    go_wp2
    go_ret
    exact ⟨ret_bool HE.out.symm, by go_grown⟩

set_option maxHeartbeats 400000 in
theorem isSymbol_any (n t x : Int) (A : Option Addr) (m c : Nat) (w : World) (h0 : -9223372036854775808 ≤ x) (h1 : x ≤ 9223372036854775807) :
    Calls Tryd.prog 75 #[.agg #[.int .i64 n, .int .i64 t, .slice A m c], .int .i64 x] w fun e w' => e = .returned (.bool (symB n t x)) ∧ Below w.heap.size w w' := by
  cases hq : nonB n x
  · have HQ := Lib.hid hq; clear hq
    go_enter Tryd.func75, Tryd.ntmps75
    go_wp2_with fail
    refine (isNon_any _ _ _ _ _).mono ?_
    rintro e w1 ⟨rfl, hB⟩
    rw [HQ.out]
    have hz := hB.size
    have c0 := (hB.cell (p := ⟨w.heap.size, 0, none⟩) (by simp)).trans (show _ = some (.int .i64 n) from by simp [go_sem])
    have c1 := (hB.cell (p := ⟨w.heap.size, 1, none⟩) (by simp)).trans (show _ = some (.int .i64 t) from by simp [go_sem])
    have c2 := (hB.cell (p := ⟨w.heap.size, 2, none⟩) (by simp)).trans (show _ = some (.slice A m c) from by simp [go_sem])
    have HB := Lib.hid hB; clear hB
    go_wp2_with fail
    refine (isToken_any _ _ _ _ _).mono ?_
    rintro e w2 ⟨rfl, hB2⟩
    go_wp2
    go_ret
    exact ⟨ret_bool (symB_tok HQ.out).symm, (Below.trans (by go_grown) (HB.out.mono (by go_size))).trans (hB2.mono (by simp at hz; omega))⟩
  · have HE : Hid (symB n t x = true) := symB_non hq
    have HQ := Lib.hid hq; clear hq
    go_enter Tryd.func75, Tryd.ntmps75
    go_wp2_with fail
    refine (isNon_any _ _ _ _ _).mono ?_
    rintro e w1 ⟨rfl, hB⟩
    rw [HQ.out]
    go_wp2
    go_ret
    exact ⟨ret_bool HE.out.symm, Below.trans (by go_grown) (hB.mono (by go_size))⟩

set_option maxHeartbeats 400000 in
theorem equal_any (A A' : Option Addr) (xs ys : List Int) (c c' : Nat) (w : World) (hx : Ints w w.heap.size A xs) (hy : Ints w w.heap.size A' ys) (h1 : xs.length ≤ 1048576) :
    Calls Tryd.prog 74 #[.slice A xs.length c, .slice A' ys.length c'] w fun e w' => e = .returned (.bool (eqL xs ys)) ∧ Below w.heap.size w w' := by
  have HX := Lib.hid hx; clear hx
  have HY := Lib.hid hy; clear hy
  by_cases hl : xs.length = ys.length
  · have hd : ((xs.length : Int) != (ys.length : Int)) = false := bne_f (by omega)
    have hlen : xs.length ≤ ys.length := by omega
    have hlen' : ys.length ≤ xs.length := by omega
    have HL := Lib.hid hl; clear hl
    go_enter Tryd.func74, Tryd.ntmps74
    go_wp2
    go_loopw [13] (fun i wr => ∃ (k : Nat), k ≤ xs.length ∧ i = .int .i64 k ∧ Below w.heap.size w wr ∧ Hid (∀ j : Nat, j < k → xs[j]? = ys[j]?)) (fun i _ => xs.length - (intOf i).toNat)
    case atStart => exact ⟨0, by omega, rfl, Below.refl _ _, fun j h => absurd h (by omega)⟩
    case round =>
      obtain ⟨k, hk, rfl, hB, H⟩ := hrel
      by_cases hlt : k < xs.length
      · have hlt' : k < ys.length := by omega
        obtain ⟨b, o, rfl, hb, c1⟩ := (HX.out.keep hB).at_ hlt
        obtain ⟨b', o', rfl, hb', c2⟩ := (HY.out.keep hB).at_ hlt'
        by_cases hne : xs[k] = ys[k]
        · have ht := bne_f hne
          have HE := Lib.hid hne; clear hne
          go_wp2
          go_quiet (fail)
          go_wp2
          go_roundw
          case rel => exact ⟨k + 1, by omega, by go_num, below_drewN hB _, step_eq hlt hlt' HE.out H.out⟩
          case measure => simp [intOf]; omega
        · have ht := bne_t hne
          have HE : Hid (eqL xs ys = false) := eqL_not hlt hlt' hne
          clear hne
          go_wp2
          go_quiet (fail)
          go_wp2
          go_ret
          exact ⟨ret_bool HE.out.symm, below_drewN hB _⟩
      · have HE : Hid (eqL xs ys = true) := eqL_of HL.out hlt H.out
        go_wp2
        go_ret
        exact ⟨ret_bool HE.out.symm, hB⟩
  · have hd : ((xs.length : Int) != (ys.length : Int)) = true := bne_t (by omega)
    have HE : Hid (eqL xs ys = false) := eqL_f fun e => hl (by rw [e])
    clear hl
    go_enter Tryd.func74, Tryd.ntmps74
    go_wp2
    go_ret
    exact ⟨ret_bool HE.out.symm, Below.refl _ _⟩

set_option maxHeartbeats 400000 in
theorem sameRule_any (l l' : Int) (A A' : Option Addr) (xs ys : List Int) (c c' : Nat) (w : World) (hx : Ints w w.heap.size A xs) (hy : Ints w w.heap.size A' ys) (h1 : xs.length ≤ 1048576) :
    Calls Tryd.prog 72 #[.agg #[.int .i64 l, .slice A xs.length c], .agg #[.int .i64 l', .slice A' ys.length c']] w fun e w' => e = .returned (.bool (eqU (l, xs) (l', ys))) ∧ Below w.heap.size w w' := by
  have HX := Lib.hid hx; clear hx
  have HY := Lib.hid hy; clear hy
  by_cases hl : l = l'
  · have hd := beq_t hl
    have HL := Lib.hid hl; clear hl
    cases hq : eqL xs ys
    all_goals
      have HQ := Lib.hid hq; clear hq
      go_enter Tryd.func72, Tryd.ntmps72
      go_wp2_with fail
      refine (equal_any _ _ _ _ _ _ _ ?_ ?_ h1).mono ?_
      · exact (HX.out.keep (by go_grown)).more (by go_size)
      · exact (HY.out.keep (by go_grown)).more (by go_size)
      rintro e w1 ⟨rfl, hB⟩
      rw [HQ.out]
      go_wp2
      go_ret
      refine ⟨ret_bool ?_, Below.trans (by go_grown) (hB.mono (by go_size))⟩
    · exact (eqU_f fun e => by have h : xs = ys := congrArg Prod.snd e; rw [eqL_t h] at HQ; cases HQ.out).symm
    · exact (eqU_t (by rw [HL.out, of_decide_eq_true HQ.out])).symm
  · have hd := beq_f hl
    have HE : Hid (eqU (l, xs) (l', ys) = false) := eqU_f fun e => hl (congrArg Prod.fst e)
    clear hl
    go_enter Tryd.func72, Tryd.ntmps72
    go_wp2
    go_ret
    exact ⟨ret_bool HE.out.symm, by go_grown⟩

theorem hasU_step {rs : List Ru} {k : Nat} {u : Int × List Int} (hk : k < rs.length) (h : eqU rs[k].abs u = false) (H : ∀ j : Nat, j < k → (rs.map Ru.abs)[j]? ≠ some u) : ∀ j : Nat, j < k + 1 → (rs.map Ru.abs)[j]? ≠ some u := by
  intro j hj
  by_cases e : j = k
  · subst e
    rw [List.getElem?_map, List.getElem?_eq_getElem hk]
    intro h'
    rw [eqU_t (by simpa using h')] at h
    cases h
  · exact H j (by omega)
theorem hasU_t {rs : List Ru} {k : Nat} {u : Int × List Int} (hk : k < rs.length) (h : eqU rs[k].abs u = true) : hasU (rs.map Ru.abs) u = true :=
  decide_eq_true (by rw [← of_decide_eq_true h]; exact List.mem_map.2 ⟨_, List.getElem_mem hk, rfl⟩)
theorem hasU_f {rs : List Ru} {k : Nat} {u : Int × List Int} (hk : ¬ k < rs.length) (H : ∀ j : Nat, j < k → (rs.map Ru.abs)[j]? ≠ some u) : hasU (rs.map Ru.abs) u = false :=
  decide_eq_false fun h => by
    obtain ⟨j, hj⟩ := List.mem_iff_getElem?.1 h
    have := (List.getElem?_eq_some_iff.1 hj).1
    simp at this
    exact H j (by omega) hj

set_option maxHeartbeats 400000 in
theorem hasRule_any (A A' : Option Addr) (rs : List Ru) (l : Int) (ys : List Int) (c c' : Nat) (w : World) (hx : Rls w w.heap.size A rs) (hy : Ints w w.heap.size A' ys) (h1 : rs.length ≤ 1048576) (h2 : ∀ u ∈ rs, u.r.length ≤ 1048576) :
    Calls Tryd.prog 62 #[.slice A rs.length c, .agg #[.int .i64 l, .slice A' ys.length c']] w fun e w' => e = .returned (.bool (hasU (rs.map Ru.abs) (l, ys))) ∧ Below w.heap.size w w' := by
  have hB0 : Below w.heap.size w (w.alloc (.cells #[.int .i64 l, .slice A' ys.length c'] 96)) := by go_grown
  have HX := Lib.hid hx; clear hx
  have HY := Lib.hid hy; clear hy
  have H2 := Lib.hid h2; clear h2
  go_enter Tryd.func62, Tryd.ntmps62
  go_wp2
  go_loopw [9] (fun i wr => ∃ (k : Nat), k ≤ rs.length ∧ i = .int .i64 k ∧ w.heap.size < wr.heap.size ∧ Below w.heap.size w wr ∧ wr.cell? ⟨w.heap.size, 0, none⟩ = some (.int .i64 l) ∧ wr.cell? ⟨w.heap.size, 1, none⟩ = some (.slice A' ys.length c') ∧ Hid (∀ j : Nat, j < k → (rs.map Ru.abs)[j]? ≠ some (l, ys))) (fun i _ => rs.length - (intOf i).toNat)
  case atStart => exact ⟨0, by omega, rfl, by simp, hB0, by simp [go_sem], by simp [go_sem], fun j h => absurd h (by omega)⟩
  case round =>
    obtain ⟨k, hk, rfl, hsz, hB, e0, e1, H⟩ := hrel
    by_cases hlt : k < rs.length
    · obtain ⟨b, o, rfl, hb, c1, c2, c3⟩ := (HX.out.keep hB).at_ hlt
      have C3 := Lib.hid (c3.more hB.size); clear c3
      have HY' := Lib.hid ((HY.out.keep hB).more hB.size)
      have hlen2 := H2.out rs[k] (List.getElem_mem hlt)
      cases hq : eqU rs[k].abs (l, ys)
      all_goals
        have HQ := Lib.hid hq; clear hq
        go_wp2_with fail
        refine (sameRule_any _ _ _ _ _ _ _ _ _ ?_ ?_ hlen2).mono ?_
        · exact (C3.out.keep (by go_grown)).more (by go_size)
        · exact (HY'.out.keep (by go_grown)).more (by go_size)
        rintro e w1 ⟨rfl, hB1⟩
        have hz := hB1.size
        have hB2 : Below wr.heap.size wr w1 := Below.trans (by go_grown) (hB1.mono (by go_size))
        have hB3 : Below w.heap.size w w1 := hB.trans (hB2.mono hB.size)
        have d0 := (hB2.cell (p := ⟨w.heap.size, 0, none⟩) (by simp; omega)).trans e0
        have d1 := (hB2.cell (p := ⟨w.heap.size, 1, none⟩) (by simp; omega)).trans e1
        clear hB1
        rw [show eqU (rs[k].l, rs[k].r) (l, ys) = _ from HQ.out]
      · go_wp2
        go_roundw
        case rel => exact ⟨k + 1, by omega, by go_num, by simp at hz; omega, hB3, d0, d1, hasU_step hlt HQ.out H.out⟩
        case measure => simp [intOf]; omega
      · have HE : Hid (hasU (rs.map Ru.abs) (l, ys) = true) := hasU_t hlt HQ.out
        go_wp2
        go_ret
        exact ⟨ret_bool HE.out.symm, hB3⟩
    · have HE : Hid (hasU (rs.map Ru.abs) (l, ys) = false) := hasU_f hlt H.out
      go_wp2
      go_ret
      exact ⟨ret_bool HE.out.symm, hB⟩

end Go.Proofs.YtbgjlabjihoaaaaDoor

/- What the program's checks of rules and grammars answer. -/

namespace Go.Proofs.YtbgjlabjihoaaaaDoor
open Go.RowKit

/-- The number is one that an int can hold. -/
def F64 (x : Int) : Prop := -9223372036854775808 ≤ x ∧ x ≤ 9223372036854775807

/-- The cells of a box that stay while only newer memory is written. -/
def Box3 (w : World) (g : Nat) (a b c : Value) : Prop := g < w.heap.size ∧ w.cell? ⟨g, 0, none⟩ = some a ∧ w.cell? ⟨g, 1, none⟩ = some b ∧ w.cell? ⟨g, 2, none⟩ = some c
def Box2 (w : World) (g : Nat) (a b : Value) : Prop := g < w.heap.size ∧ w.cell? ⟨g, 0, none⟩ = some a ∧ w.cell? ⟨g, 1, none⟩ = some b

theorem Box3.keep {w w' : World} {g B : Nat} {a b c : Value} (h : Box3 w g a b c) (hb : Below B w w') (hB : g < B) : Box3 w' g a b c :=
  ⟨by have := hb.size; have := h.1; omega, (hb.cell (p := ⟨g, 0, none⟩) hB).trans h.2.1, (hb.cell (p := ⟨g, 1, none⟩) hB).trans h.2.2.1, (hb.cell (p := ⟨g, 2, none⟩) hB).trans h.2.2.2⟩
theorem Box2.keep {w w' : World} {g B : Nat} {a b : Value} (h : Box2 w g a b) (hb : Below B w w') (hB : g < B) : Box2 w' g a b :=
  ⟨by have := hb.size; have := h.1; omega, (hb.cell (p := ⟨g, 0, none⟩) hB).trans h.2.1, (hb.cell (p := ⟨g, 1, none⟩) hB).trans h.2.2⟩

set_option maxHeartbeats 400000 in
theorem allSymbols_any (n t : Int) (A A' : Option Addr) (m c c' : Nat) (xs : List Int) (w : World) (hx : Ints w w.heap.size A' xs) (h1 : xs.length ≤ 1048576) (hf : ∀ x ∈ xs, F64 x) :
    Calls Tryd.prog 73 #[.agg #[.int .i64 n, .int .i64 t, .slice A m c], .slice A' xs.length c'] w fun e w' => e = .returned (.bool (symsB n t xs)) ∧ Below w.heap.size w w' := by
  have HX := Lib.hid hx; clear hx
  have HF := Lib.hid hf; clear hf
  go_enter Tryd.func73, Tryd.ntmps73
  have HBW : Hid (Below w.heap.size w (w.alloc (.cells #[.int .i64 n, .int .i64 t, .slice A m c] 47))) := by show Below _ _ _; go_grown
  have HB3 : Hid (Box3 (w.alloc (.cells #[.int .i64 n, .int .i64 t, .slice A m c] 47)) w.heap.size (.int .i64 n) (.int .i64 t) (.slice A m c)) := ⟨by simp, by simp [go_sem], by simp [go_sem], by simp [go_sem]⟩
  go_wp2
  go_loopw [9] (fun i wr => ∃ (k : Nat), k ≤ xs.length ∧ i = .int .i64 k ∧ Below w.heap.size w wr ∧ Box3 wr w.heap.size (.int .i64 n) (.int .i64 t) (.slice A m c) ∧ Hid (∀ (j : Nat) (x : Int), j < k → xs[j]? = some x → symB n t x = true)) (fun i _ => xs.length - (intOf i).toNat)
  case atStart => exact ⟨0, by omega, rfl, HBW.out, HB3.out, fun j x h => absurd h (by omega)⟩
  case round =>
    obtain ⟨k, hk, rfl, hB, hbox, H⟩ := hrel
    by_cases hlt : k < xs.length
    · obtain ⟨b, o, rfl, hb, c1⟩ := (HX.out.keep hB).at_ hlt
      obtain ⟨g0, g1, g2, g3⟩ := id hbox
      have HBX := Lib.hid hbox; clear hbox
      obtain ⟨f0, f1⟩ := HF.out xs[k] (List.getElem_mem hlt)
      cases hs : symB n t xs[k]
      all_goals
        have HSY := Lib.hid hs; clear hs
        go_wp2_with fail
        refine (isSymbol_any _ _ _ _ _ _ _ f0 f1).mono ?_
        rintro e w3 ⟨rfl, hB3⟩
        rw [HSY.out]
        have hB4 : Below w.heap.size w w3 := hB.trans (hB3.mono hB.size)
      · have HE : Hid (symsB n t xs = false) := symsB_not hlt HSY.out
        go_wp2
        go_ret
        exact ⟨ret_bool HE.out.symm, hB4⟩
      · go_wp2
        go_roundw
        case rel => exact ⟨k + 1, by omega, by go_num, hB4, HBX.out.keep hB3 g0, syms_step hlt HSY.out H.out⟩
        case measure => simp [intOf]; omega
    · have HE : Hid (symsB n t xs = true) := symsB_of hlt H.out
      clear hbox
      go_wp2
      go_ret
      exact ⟨ret_bool HE.out.symm, hB⟩

/-- A right side that is good. -/
def rightB (n t : Int) (xs : List Int) : Bool := decide (xs.length ≤ 4) && symsB n t xs
set_option maxHeartbeats 400000 in
theorem goodRight_any (n t : Int) (A A' : Option Addr) (m c c' : Nat) (xs : List Int) (w : World) (hx : Ints w w.heap.size A' xs) (hL : Lims w) (h1 : xs.length ≤ 1048576) (hf : ∀ x ∈ xs, F64 x) :
    Calls Tryd.prog 71 #[.agg #[.int .i64 n, .int .i64 t, .slice A m c], .slice A' xs.length c'] w fun e w' => e = .returned (.bool (rightB n t xs)) ∧ Below w.heap.size w w' := by
  have HX := Lib.hid hx; clear hx
  have HL := Lib.hid hL; clear hL
  have HF := Lib.hid hf; clear hf
  have HBW : Hid (Below w.heap.size w (w.alloc (.cells #[.int .i64 n, .int .i64 t, .slice A m c] 47))) := by show Below _ _ _; go_grown
  have HB3 : Hid (Box3 (w.alloc (.cells #[.int .i64 n, .int .i64 t, .slice A m c] 47)) w.heap.size (.int .i64 n) (.int .i64 t) (.slice A m c)) := ⟨by simp, by simp [go_sem], by simp [go_sem], by simp [go_sem]⟩
  cases hi : inB 0 4 (xs.length : Int)
  · have HE : Hid (rightB n t xs = false) := by have := inB_no hi; show _ = _; unfold rightB; rw [decide_eq_false (by omega)]; rfl
    have HI := Lib.hid hi; clear hi
    go_enter Tryd.func71, Tryd.ntmps71
    go_wp2_with fail
    refine (within3 _ _ (HL.out.keep HBW.out (Nat.le_refl _))).mono ?_
    rintro e w2 ⟨rfl, hB2⟩
    rw [HI.out]
    go_wp2
    go_ret
    exact ⟨ret_bool HE.out.symm, HBW.out.trans (hB2.mono HBW.out.size)⟩
  · have HE : Hid (rightB n t xs = symsB n t xs) := by have := inB_hi hi; show _ = _; unfold rightB; rw [decide_eq_true (by omega)]; rfl
    have HI := Lib.hid hi; clear hi
    go_enter Tryd.func71, Tryd.ntmps71
    go_wp2_with fail
    refine (within3 _ _ (HL.out.keep HBW.out (Nat.le_refl _))).mono ?_
    rintro e w2 ⟨rfl, hB2⟩
    rw [HI.out]
    obtain ⟨g0, g1, g2, g3⟩ := HB3.out.keep hB2 (by simp)
    have HBV : Hid (Below w.heap.size w w2) := HBW.out.trans (hB2.mono HBW.out.size)
    clear hB2
    go_wp2_with fail
    refine (allSymbols_any n t A A' m c c' xs _ ((HX.out.keep HBV.out).more HBV.out.size) h1 HF.out).mono ?_
    rintro e w3 ⟨rfl, hB3⟩
    go_wp2
    go_ret
    exact ⟨ret_bool HE.out.symm, HBV.out.trans (hB3.mono HBV.out.size)⟩

set_option maxHeartbeats 400000 in
theorem goodRule_any (n t l : Int) (A A' : Option Addr) (m c c' : Nat) (xs : List Int) (w : World) (hx : Ints w w.heap.size A' xs) (hL : Lims w) (h1 : xs.length ≤ 1048576) (hf : ∀ x ∈ xs, F64 x) :
    Calls Tryd.prog 61 #[.agg #[.int .i64 n, .int .i64 t, .slice A m c], .agg #[.int .i64 l, .slice A' xs.length c']] w fun e w' => e = .returned (.bool (goodU n t (l, xs))) ∧ Below w.heap.size w w' := by
  have HX := Lib.hid hx; clear hx
  have HL := Lib.hid hL; clear hL
  have HF := Lib.hid hf; clear hf
  cases hq : nonB n l
  · have HE : Hid (goodU n t (l, xs) = false) := goodU_left hq
    have HQ := Lib.hid hq; clear hq
    go_enter Tryd.func61, Tryd.ntmps61
    go_wp2_with fail
    refine (isNon_any _ _ _ _ _).mono ?_
    rintro e w1 ⟨rfl, hB⟩
    rw [HQ.out]
    go_wp2
    go_ret
    exact ⟨ret_bool HE.out.symm, Below.trans (by go_grown) (hB.mono (by go_size))⟩
  · have HE : Hid (goodU n t (l, xs) = rightB n t xs) := by show _ = _; unfold goodU rightB; rw [hq]; rfl
    have HQ := Lib.hid hq; clear hq
    go_enter Tryd.func61, Tryd.ntmps61
    go_wp2_with fail
    refine (isNon_any _ _ _ _ _).mono ?_
    rintro e w1 ⟨rfl, hB⟩
    rw [HQ.out]
    have hz := hB.size
    simp only [World.size_alloc] at hz
    obtain ⟨_, g0, g1, g2⟩ : Box3 w1 w.heap.size (.int .i64 n) (.int .i64 t) (.slice A m c) := Box3.keep (B := w.heap.size + 1 + 1) ⟨by simp; omega, by simp [go_sem], by simp [go_sem], by simp [go_sem]⟩ (hB.mono (by go_size)) (by omega)
    obtain ⟨_, b0, b1⟩ : Box2 w1 (w.heap.size + 1) (.int .i64 l) (.slice A' xs.length c') := Box2.keep (B := w.heap.size + 1 + 1) ⟨by simp, by simp [go_sem], by simp [go_sem]⟩ (hB.mono (by go_size)) (by omega)
    have hB1 : Below w.heap.size w w1 := Below.trans (by go_grown) (hB.mono (by go_size))
    have HB1 := Lib.hid hB1; clear hB1
    clear hB
    go_wp2_with fail
    refine (goodRight_any n t A A' m c c' xs _ ((HX.out.keep HB1.out).more HB1.out.size) (HL.out.keep HB1.out (Nat.le_refl _)) h1 HF.out).mono ?_
    rintro e w2 ⟨rfl, hB2⟩
    go_wp2
    go_ret
    exact ⟨ret_bool HE.out.symm, HB1.out.trans (hB2.mono HB1.out.size)⟩

end Go.Proofs.YtbgjlabjihoaaaaDoor

/- What the program's GoodGrammar answers. -/

namespace Go.Proofs.YtbgjlabjihoaaaaDoor
open Go.RowKit
open Go.Sort (grow)

/-- All numbers of the right sides are ones that an int can hold. -/
def FitR (rs : List Ru) : Prop := ∀ u ∈ rs, ∀ x ∈ u.r, F64 x

theorem inB_not {lo hi n : Int} (h : inB lo hi n = false) : ¬ (lo ≤ n ∧ n ≤ hi) := by have := inB_no h; omega
theorem inB_and {lo hi n : Int} (h : inB lo hi n = true) : lo ≤ n ∧ n ≤ hi := ⟨inB_lo h, inB_hi h⟩

set_option maxHeartbeats 800000 in
theorem goodGrammar_any (n t : Int) (A : Option Addr) (c : Nat) (rs : List Ru) (w : World) (hx : Rls w w.heap.size A rs) (hL : Lims w) (hc : rs.length ≤ c) (h1 : rs.length ≤ 1048576) (h2 : ∀ u ∈ rs, u.r.length ≤ 1048576) (hf : FitR rs) :
    Calls Tryd.prog 43 #[.agg #[.int .i64 n, .int .i64 t, .slice A rs.length c]] w fun e w' => e = .returned (.bool (goodG n t (rs.map Ru.abs))) ∧ Below w.heap.size w w' := by
  have HX := Lib.hid hx; clear hx
  have HL := Lib.hid hL; clear hL
  have HF := Lib.hid hf; clear hf
  have H2 := Lib.hid h2; clear h2
  have hB0 : Below w.heap.size w (w.alloc (.cells #[.int .i64 n, .int .i64 t, .slice A rs.length c] 47)) := by go_grown
  have B0 : Box3 (w.alloc (.cells #[.int .i64 n, .int .i64 t, .slice A rs.length c] 47)) w.heap.size (.int .i64 n) (.int .i64 t) (.slice A rs.length c) := ⟨by simp, by simp [go_sem], by simp [go_sem], by simp [go_sem]⟩
  have HB0 := Lib.hid hB0; clear hB0
  have BX0 := Lib.hid B0; clear B0
  cases hn : inB 1 6 n
  · have HE : Hid (goodG n t (rs.map Ru.abs) = false) := goodG_n (inB_not hn)
    have HN := Lib.hid hn; clear hn
    go_enter Tryd.func43, Tryd.ntmps43
    go_wp2_with fail
    refine (within0 _ _ (HL.out.keep HB0.out (Nat.le_refl _))).mono ?_
    rintro e w1 ⟨rfl, hB1⟩
    rw [HN.out]
    go_wp2
    go_ret
    exact ⟨ret_bool HE.out.symm, HB0.out.trans (hB1.mono HB0.out.size)⟩
  have HN := Lib.hid hn; clear hn
  cases ht : inB 1 4 t
  · have HE : Hid (goodG n t (rs.map Ru.abs) = false) := goodG_t (inB_not ht)
    have HT := Lib.hid ht; clear ht
    go_enter Tryd.func43, Tryd.ntmps43
    go_wp2_with fail
    refine (within0 _ _ (HL.out.keep HB0.out (Nat.le_refl _))).mono ?_
    rintro e w1 ⟨rfl, hB1⟩
    rw [HN.out]
    obtain ⟨_, b0, b1, b2⟩ := BX0.out.keep hB1 (by simp)
    have HB1 := Lib.hid (HB0.out.trans (hB1.mono HB0.out.size)); clear hB1
    go_wp2_with fail
    refine (within1 _ _ (HL.out.keep HB1.out (Nat.le_refl _))).mono ?_
    rintro e w2 ⟨rfl, hB2⟩
    rw [HT.out]
    go_wp2
    go_ret
    exact ⟨ret_bool HE.out.symm, HB1.out.trans (hB2.mono HB1.out.size)⟩
  have HT := Lib.hid ht; clear ht
  cases hl : inB 0 16 (rs.length : Int)
  · have HE : Hid (goodG n t (rs.map Ru.abs) = false) := goodG_len (by have := inB_no hl; simp; omega)
    have HLN := Lib.hid hl; clear hl
    go_enter Tryd.func43, Tryd.ntmps43
    go_wp2_with fail
    refine (within0 _ _ (HL.out.keep HB0.out (Nat.le_refl _))).mono ?_
    rintro e w1 ⟨rfl, hB1⟩
    rw [HN.out]
    have BX1 := Lib.hid (BX0.out.keep hB1 (by simp))
    obtain ⟨_, b0, b1, b2⟩ := BX1.out
    have HB1 := Lib.hid (HB0.out.trans (hB1.mono HB0.out.size)); clear hB1
    go_wp2_with fail
    refine (within1 _ _ (HL.out.keep HB1.out (Nat.le_refl _))).mono ?_
    rintro e w2 ⟨rfl, hB2⟩
    rw [HT.out]
    clear b0 b1 b2
    obtain ⟨_, b0, b1, b2⟩ := BX1.out.keep hB2 BX1.out.1
    have HB2 := Lib.hid (HB1.out.trans (hB2.mono HB1.out.size)); clear hB2
    go_wp2_with fail
    refine (within2 _ _ (HL.out.keep HB2.out (Nat.le_refl _))).mono ?_
    rintro e w3 ⟨rfl, hB3⟩
    rw [HLN.out]
    go_wp2
    go_ret
    exact ⟨ret_bool HE.out.symm, HB2.out.trans (hB3.mono HB2.out.size)⟩
  have HA : Hid (goodG n t (rs.map Ru.abs) = goodAll n t (rs.map Ru.abs)) := goodG_all (inB_and HN.out) (inB_and HT.out) (by have := inB_hi hl; simp; omega)
  have HLN := Lib.hid hl; clear hl
  go_enter Tryd.func43, Tryd.ntmps43
  go_wp2_with fail
  refine (within0 _ _ (HL.out.keep HB0.out (Nat.le_refl _))).mono ?_
  rintro e w1 ⟨rfl, hB1⟩
  rw [HN.out]
  have BX1 := Lib.hid (BX0.out.keep hB1 (by simp))
  obtain ⟨_, b0, b1, b2⟩ := BX1.out
  have HB1 := Lib.hid (HB0.out.trans (hB1.mono HB0.out.size)); clear hB1
  go_wp2_with fail
  refine (within1 _ _ (HL.out.keep HB1.out (Nat.le_refl _))).mono ?_
  rintro e w2 ⟨rfl, hB2⟩
  rw [HT.out]
  clear b0 b1 b2
  have BX2 := Lib.hid (BX1.out.keep hB2 BX1.out.1)
  obtain ⟨_, b0, b1, b2⟩ := BX2.out
  have HB2 := Lib.hid (HB1.out.trans (hB2.mono HB1.out.size)); clear hB2
  go_wp2_with fail
  refine (within2 _ _ (HL.out.keep HB2.out (Nat.le_refl _))).mono ?_
  rintro e w3 ⟨rfl, hB3⟩
  rw [HLN.out]
  clear b0 b1 b2
  have BX3 := Lib.hid (BX2.out.keep hB3 BX2.out.1)
  obtain ⟨_, b0, b1, b2⟩ := BX3.out
  have HB3 := Lib.hid (HB2.out.trans (hB3.mono HB2.out.size)); clear hB3
  clear BX0 BX1 BX2 HB0 HB1 HB2
  go_wp2
  go_loopw [23] (fun i wr => ∃ (k : Nat), k ≤ rs.length ∧ i = .int .i64 k ∧ Below w.heap.size w wr ∧ Box3 wr w.heap.size (.int .i64 n) (.int .i64 t) (.slice A rs.length c) ∧ Hid (goodTo n t (rs.map Ru.abs) k)) (fun i _ => rs.length - (intOf i).toNat)
  case atStart => exact ⟨0, by omega, rfl, HB3.out, BX3.out, fun j x h => absurd h (by omega)⟩
  case round =>
    clear HB3 BX3 b0 b1 b2
    obtain ⟨k, hk, rfl, hB, hbox, H⟩ := hrel
    by_cases hlt : k < rs.length
    · obtain ⟨b, o, rfl, hb, c1, c2, c3⟩ := (HX.out.keep hB).at_ hlt
      obtain ⟨g0, g1, g2, g3⟩ := id hbox
      have HBX := Lib.hid hbox; clear hbox
      have C3 := Lib.hid (c3.more hB.size); clear c3
      have hlen2 := H2.out rs[k] (List.getElem_mem hlt)
      go_wp2_with fail
      have hBA : Below wr.heap.size wr (wr.alloc (.cells #[.int .i64 rs[k].l, .slice rs[k].a rs[k].r.length rs[k].c] 96)) := by go_grown
      have r0 : (wr.alloc (.cells #[.int .i64 rs[k].l, .slice rs[k].a rs[k].r.length rs[k].c] 96)).cell? ⟨wr.heap.size, 0, none⟩ = some (.int .i64 rs[k].l) := by simp [go_sem]
      have r1 : (wr.alloc (.cells #[.int .i64 rs[k].l, .slice rs[k].a rs[k].r.length rs[k].c] 96)).cell? ⟨wr.heap.size, 1, none⟩ = some (.slice rs[k].a rs[k].r.length rs[k].c) := by simp [go_sem]
      generalize (wr.alloc (.cells #[.int .i64 rs[k].l, .slice rs[k].a rs[k].r.length rs[k].c] 96)) = W at hBA r0 r1 ⊢
      have q0 := cell_regrown r0
      have q1 := cell_regrown r1
      obtain ⟨_, s0, s1, s2⟩ := HBX.out.keep hBA g0
      have p0 := cell_regrown s0
      have p1 := cell_regrown s1
      have p2 := cell_regrown s2
      have hBW : Below w.heap.size w W := hB.trans (hBA.mono hB.size)
      have HBW := Lib.hid hBW
      have HRG : Hid (∀ d os, Below w.heap.size w (grow (redrawn W d) os)) := fun d os => hBW.trans ((below_regrown W d os).mono hBW.size)
      have HWR : Hid (∀ d os, Below wr.heap.size wr (grow (redrawn W d) os)) := fun d os => hBA.trans ((below_regrown W d os).mono hBA.size)
      clear c1 c2 g1 g2 g3 r0 r1 s0 s1 s2 hBA hBW
      have HCG : Hid (∀ d os, Calls Tryd.prog 61 #[.agg #[.int .i64 n, .int .i64 t, .slice (some ⟨b, o, none⟩) rs.length c], .agg #[.int .i64 rs[k].l, .slice rs[k].a rs[k].r.length rs[k].c]] (grow (redrawn W d) os) fun e w' => e = .returned (.bool (goodU n t rs[k].abs)) ∧ Below (grow (redrawn W d) os).heap.size (grow (redrawn W d) os) w') := fun d os =>
        goodRule_any _ _ _ _ _ _ _ _ _ _ ((C3.out.keep (HWR.out d os)).more (HWR.out d os).size) (HL.out.keep (HRG.out d os) (Nat.le_refl _)) hlen2 (HF.out _ (List.getElem_mem hlt))
      cases hu : goodU n t rs[k].abs
      · have HU := Lib.hid hu; clear hu
        have HE : Hid (goodG n t (rs.map Ru.abs) = false) := HA.out.trans (goodAll_bad (k := k) (by simpa using hlt) (.inl (by simpa using HU.out)))
        rw [HU.out] at HCG
        refine wp_region_quiet_below (by kernel_rfl) (by kernel_rfl) ?_
        repeat (first | go_big_quiet_step (exact Calls.regrown_of (HCG.out _ _)) | quiet_step (exact Calls.regrown_of (HCG.out _ _)))
        refine wpQuiet_nil ?_
        intro _ hw'
        obtain ⟨⟨dq, osq⟩, hw''⟩ := hw'
        subst hw''
        go_wp2
        go_ret
        exact ⟨ret_bool HE.out.symm, HRG.out dq osq⟩
      · have HU := Lib.hid hu; clear hu
        rw [HU.out] at HCG
        have hlt' : (rs.take k).length = k := by rw [List.length_take]; omega
        have HCH : Hid (∀ d os, Calls Tryd.prog 62 #[.slice (some ⟨b, o, none⟩) k c, .agg #[.int .i64 rs[k].l, .slice rs[k].a rs[k].r.length rs[k].c]] (grow (redrawn W d) os) fun e w' => e = .returned (.bool (hasU ((rs.take k).map Ru.abs) rs[k].abs)) ∧ Below (grow (redrawn W d) os).heap.size (grow (redrawn W d) os) w') := fun d os => by
          have h := hasRule_any (some ⟨b, o, none⟩) rs[k].a (rs.take k) rs[k].l rs[k].r c rs[k].c (grow (redrawn W d) os) (((HX.out.keep (HRG.out d os)).more (HRG.out d os).size).take k) ((C3.out.keep (HWR.out d os)).more (HWR.out d os).size) (by omega) (fun u hu => H2.out u (List.mem_of_mem_take hu))
          rw [hlt'] at h
          exact h
        clear hlt'
        cases hh : hasU ((rs.take k).map Ru.abs) rs[k].abs
        all_goals
          have HH := Lib.hid hh; clear hh
          rw [HH.out] at HCH
          refine wp_region_quiet_below (by kernel_rfl) (by kernel_rfl) ?_
          repeat (first | go_big_quiet_step (first | exact Calls.regrown_of (HCG.out _ _) | exact Calls.regrown_of (HCH.out _ _)) | quiet_step (first | exact Calls.regrown_of (HCG.out _ _) | exact Calls.regrown_of (HCH.out _ _)))
          refine wpQuiet_nil ?_
          intro _ hw'
          obtain ⟨⟨dq, osq⟩, hw''⟩ := hw'
          subst hw''
          go_wp2
        · go_roundw
          case rel => exact ⟨k + 1, by omega, by go_num, HRG.out dq osq, HBX.out.keep (HWR.out dq osq) g0, goodTo_step (by simpa using hlt) (by simpa using HU.out) (by rw [← List.map_take]; simpa using HH.out) H.out⟩
          case measure => simp [intOf]; omega
        · have HE : Hid (goodG n t (rs.map Ru.abs) = false) := HA.out.trans (goodAll_bad (k := k) (by simpa using hlt) (.inr (by rw [← List.map_take]; simpa using HH.out)))
          go_ret
          exact ⟨ret_bool HE.out.symm, HRG.out dq osq⟩
    · have HE : Hid (goodG n t (rs.map Ru.abs) = true) := HA.out.trans (goodAll_of (k := k) (by simpa using hlt) H.out)
      clear hbox
      go_wp2
      go_ret
      exact ⟨ret_bool HE.out.symm, hB⟩

end Go.Proofs.YtbgjlabjihoaaaaDoor
