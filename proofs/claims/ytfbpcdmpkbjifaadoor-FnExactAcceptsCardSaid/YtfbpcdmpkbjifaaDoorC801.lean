/- What it means that a slice in memory reads as a list of numbers, or as a list of rules, and that this is kept while only newer memory is written. No condition. -/
import Derived.WalkKit
import Derived.WalkSpells
import Derived.WalkLawsBesides
import Derived.Handy
import Derived.Lib.Hide
import Derived.Test.YtfbpcdmpkbjifaaDoorRows
import Derived.BigQuiet
import Derived.Deep.QuietTactic
import Derived.Deep.RegionWith
import Derived.StillTailTactics
import Derived.Lib.QuietBelow

namespace Go.Proofs.YtfbpcdmpkbjifaaDoor
open Go.RowKit

/-- A rule as it lies in memory: its left number, and its right slice: where it lies, what it reads as, its capacity. -/
structure Ru where
  l : Int
  a : Option Addr
  r : List Int
  c : Nat

/-- The cells from A on read as the numbers xs, below block B. -/
def Ints (w : World) (B : Nat) (A : Option Addr) (xs : List Int) : Prop :=
  0 < xs.length → ∃ b o, A = some ⟨b, o, none⟩ ∧ b < B ∧ ∀ k x, xs[k]? = some x → w.cell? ⟨b, o + k, none⟩ = some (.int .i64 x)

/-- The cells from A on read as the rules rs, below block B. -/
def Rls (w : World) (B : Nat) (A : Option Addr) (rs : List Ru) : Prop :=
  0 < rs.length → ∃ b o, A = some ⟨b, o, none⟩ ∧ b < B ∧ ∀ k u, rs[k]? = some u →
    w.cell? ⟨b, o + k * 2, none⟩ = some (.int .i64 u.l) ∧ w.cell? ⟨b, o + k * 2 + 1, none⟩ = some (.slice u.a u.r.length u.c) ∧ Ints w B u.a u.r

theorem Ints.keep {w w' : World} {B : Nat} {A : Option Addr} {xs : List Int} (h : Ints w B A xs) (hk : Below B w w') : Ints w' B A xs := by
  intro hn
  obtain ⟨b, o, e, hb, hc⟩ := h hn
  exact ⟨b, o, e, hb, fun k x hx => (hk.cell (p := ⟨b, o + k, none⟩) hb).trans (hc k x hx)⟩

theorem Ints.more {w : World} {B B' : Nat} {A : Option Addr} {xs : List Int} (h : Ints w B A xs) (hB : B ≤ B') : Ints w B' A xs := by
  intro hn
  obtain ⟨b, o, e, hb, hc⟩ := h hn
  exact ⟨b, o, e, by omega, hc⟩

theorem Rls.keep {w w' : World} {B : Nat} {A : Option Addr} {rs : List Ru} (h : Rls w B A rs) (hk : Below B w w') : Rls w' B A rs := by
  intro hn
  obtain ⟨b, o, e, hb, hc⟩ := h hn
  refine ⟨b, o, e, hb, fun k u hu => ?_⟩
  obtain ⟨h1, h2, h3⟩ := hc k u hu
  exact ⟨(hk.cell (p := ⟨b, o + k * 2, none⟩) hb).trans h1, (hk.cell (p := ⟨b, o + k * 2 + 1, none⟩) hb).trans h2, h3.keep hk⟩

theorem Rls.more {w : World} {B B' : Nat} {A : Option Addr} {rs : List Ru} (h : Rls w B A rs) (hB : B ≤ B') : Rls w B' A rs := by
  intro hn
  obtain ⟨b, o, e, hb, hc⟩ := h hn
  refine ⟨b, o, e, by omega, fun k u hu => ?_⟩
  obtain ⟨h1, h2, h3⟩ := hc k u hu
  exact ⟨h1, h2, h3.more hB⟩

theorem Ints.at_ {w : World} {B : Nat} {A : Option Addr} {xs : List Int} (h : Ints w B A xs) {k : Nat} (hk : k < xs.length) :
    ∃ b o, A = some ⟨b, o, none⟩ ∧ b < B ∧ w.cell? ⟨b, o + k, none⟩ = some (.int .i64 xs[k]) := by
  obtain ⟨b, o, e, hb, hc⟩ := h (by omega)
  exact ⟨b, o, e, hb, hc k _ (List.getElem?_eq_getElem hk)⟩

theorem Rls.at_ {w : World} {B : Nat} {A : Option Addr} {rs : List Ru} (h : Rls w B A rs) {k : Nat} (hk : k < rs.length) :
    ∃ b o, A = some ⟨b, o, none⟩ ∧ b < B ∧ w.cell? ⟨b, o + k * 2, none⟩ = some (.int .i64 rs[k].l) ∧ w.cell? ⟨b, o + k * 2 + 1, none⟩ = some (.slice rs[k].a rs[k].r.length rs[k].c) ∧ Ints w B rs[k].a rs[k].r := by
  obtain ⟨b, o, e, hb, hc⟩ := h (by omega)
  exact ⟨b, o, e, hb, hc k _ (List.getElem?_eq_getElem hk)⟩

theorem Rls.take {w : World} {B : Nat} {A : Option Addr} {rs : List Ru} (h : Rls w B A rs) (m : Nat) : Rls w B A (rs.take m) := by
  intro hn
  obtain ⟨b, o, e, hb, hc⟩ := h (by rw [List.length_take] at hn; omega)
  refine ⟨b, o, e, hb, fun k u hu => hc k u ?_⟩
  rw [List.getElem?_take] at hu
  split at hu
  · exact hu
  · cases hu

/-- Block g is a row of the cells cs of type t, none of them frozen. -/
def Row (w : World) (g : Nat) (t : TypeId) (cs : Array Value) : Prop := w.heap[g]? = some (.cells cs t (0, 0))

theorem Row.lt {w : World} {g : Nat} {t : TypeId} {cs : Array Value} (h : Row w g t cs) : g < w.heap.size := by
  by_cases hg : g < w.heap.size
  · exact hg
  · unfold Row at h; rw [Array.getElem?_eq_none (by omega)] at h; cases h

theorem Row.cell {w : World} {g : Nat} {t : TypeId} {cs : Array Value} (h : Row w g t cs) (i : Nat) : w.cell? ⟨g, i, none⟩ = cs[i]? := cell_of_row w g i cs t (0, 0) h

theorem Row.frozen {w : World} {g : Nat} {t : TypeId} {cs : Array Value} (h : Row w g t cs) (i : Nat) : w.frozen? ⟨g, i, none⟩ = false := by
  unfold Row at h
  simp [World.frozen?, h]

theorem Row.new (w : World) (t : TypeId) (cs : Array Value) : Row (w.alloc (.cells cs t)) w.heap.size t cs := heap_alloc_new w _

theorem Row.alloc {w : World} {g : Nat} {t : TypeId} {cs : Array Value} (h : Row w g t cs) (o : Obj) : Row (w.alloc o) g t cs := (Below.heap_alloc w o g h.lt).trans h

theorem Row.set {w : World} {g : Nat} {t : TypeId} {cs : Array Value} (h : Row w g t cs) (i : Nat) (u : Value) : Row (w.setCell ⟨g, i, none⟩ u) g t (cs.setIfInBounds i u) := by
  unfold Row at h ⊢
  simp [World.setCell, Array.getElem?_modify, h]

theorem Row.far {w : World} {g : Nat} {t : TypeId} {cs : Array Value} (h : Row w g t cs) {p : Addr} (hp : g ≠ p.block) (u : Value) : Row (w.setCell p u) g t cs := (Below.heap_setCell w p u g hp).trans h

theorem Row.below {w w' : World} {g B : Nat} {t : TypeId} {cs : Array Value} (h : Row w g t cs) (hb : Below B w w') (hg : g < B) : Row w' g t cs := (hb.block g hg).trans h

theorem Row.ne {w : World} {g g' : Nat} {t t' : TypeId} {cs cs' : Array Value} (h : Row w g t cs) (h' : Row w g' t' cs') (hne : t ≠ t') : g ≠ g' := by
  intro e
  subst e
  unfold Row at h h'
  rw [h] at h'
  injection h' with h'
  injection h' with _ ht
  exact hne ht

/-- The slice that begins at A is the call's own (its block is not below lo) and reads as xs. -/
def OwnI (w : World) (lo : Nat) (A : Option Addr) (xs : List Int) : Prop :=
  xs = [] ∨ ∃ (g : Nat) (cs : Array Value), A = some ⟨g, 0, none⟩ ∧ lo ≤ g ∧ Row w g 3 cs ∧ ∀ (k : Nat) (x : Int), xs[k]? = some x → cs[k]? = some (.int .i64 x)

theorem OwnI.ints {w : World} {lo : Nat} {A : Option Addr} {xs : List Int} (h : OwnI w lo A xs) : Ints w w.heap.size A xs := by
  intro hn
  rcases h with rfl | ⟨g, cs, rfl, _, hr, hc⟩
  · simp at hn
  · exact ⟨g, 0, rfl, hr.lt, fun k x hx => by rw [hr.cell, Nat.zero_add]; exact hc k x hx⟩

theorem OwnI.below {w w' : World} {lo B : Nat} {A : Option Addr} {xs : List Int} (h : OwnI w lo A xs) (hb : Below B w w') (hB : w.heap.size ≤ B) : OwnI w' lo A xs := by
  rcases h with h | ⟨g, cs, e, hl, hr, hc⟩
  · exact .inl h
  · exact .inr ⟨g, cs, e, hl, hr.below hb (by have := hr.lt; omega), hc⟩

/-- What a rule says, wherever it lies. -/
def Ru.abs (u : Ru) : Int × List Int := (u.l, u.r)

/-- The slice of rules that begins at A, and each of their right sides, are the call's own and read as rs; no two right sides lie in one block. -/
def OwnR (w : World) (lo : Nat) (A : Option Addr) (rs : List Ru) : Prop :=
  rs = [] ∨ ∃ (g : Nat) (cs : Array Value), A = some ⟨g, 0, none⟩ ∧ lo ≤ g ∧ Row w g 166 cs ∧
    (∀ (k : Nat) (u : Ru), rs[k]? = some u → cs[k * 2]? = some (.int .i64 u.l) ∧ cs[k * 2 + 1]? = some (.slice u.a u.r.length u.c) ∧ OwnI w lo u.a u.r) ∧
    ∀ (i j : Nat) (u v : Ru), rs[i]? = some u → rs[j]? = some v → i ≠ j → u.r ≠ [] → v.r ≠ [] → u.a ≠ v.a

theorem OwnR.rls {w : World} {lo : Nat} {A : Option Addr} {rs : List Ru} (h : OwnR w lo A rs) : Rls w w.heap.size A rs := by
  intro hn
  rcases h with rfl | ⟨g, cs, rfl, _, hr, hc, _⟩
  · simp at hn
  · refine ⟨g, 0, rfl, hr.lt, fun k u hu => ?_⟩
    obtain ⟨h1, h2, h3⟩ := hc k u hu
    exact ⟨by rw [hr.cell, Nat.zero_add]; exact h1, by rw [hr.cell, Nat.zero_add]; exact h2, h3.ints⟩

theorem OwnR.below {w w' : World} {lo B : Nat} {A : Option Addr} {rs : List Ru} (h : OwnR w lo A rs) (hb : Below B w w') (hB : w.heap.size ≤ B) : OwnR w' lo A rs := by
  rcases h with h | ⟨g, cs, e, hl, hr, hc, hd⟩
  · exact .inl h
  · refine .inr ⟨g, cs, e, hl, hr.below hb (by have := hr.lt; omega), fun k u hu => ?_, hd⟩
    obtain ⟨h1, h2, h3⟩ := hc k u hu
    exact ⟨h1, h2, h3.below hb hB⟩

theorem OwnI.lower {w : World} {lo lo' : Nat} {A : Option Addr} {xs : List Int} (h : OwnI w lo A xs) (hl : lo' ≤ lo) : OwnI w lo' A xs := by
  rcases h with h | ⟨g, cs, e, h1, hr, hc⟩
  · exact .inl h
  · exact .inr ⟨g, cs, e, by omega, hr, hc⟩

theorem OwnR.lower {w : World} {lo lo' : Nat} {A : Option Addr} {rs : List Ru} (h : OwnR w lo A rs) (hl : lo' ≤ lo) : OwnR w lo' A rs := by
  rcases h with h | ⟨g, cs, e, h1, hr, hc, hd⟩
  · exact .inl h
  · refine .inr ⟨g, cs, e, by omega, hr, fun k u hu => ?_, hd⟩
    obtain ⟨a, b, c⟩ := hc k u hu
    exact ⟨a, b, c.lower hl⟩

theorem OwnI.low {w : World} {lo : Nat} {A : Option Addr} {xs : List Int} (h : OwnI w lo A xs) {p : Addr} (hp : p.block < lo) (u : Value) : OwnI (w.setCell p u) lo A xs := by
  rcases h with h | ⟨g, cs, e, hl, hr, hc⟩
  · exact .inl h
  · exact .inr ⟨g, cs, e, hl, hr.far (by omega) u, hc⟩

theorem OwnR.low {w : World} {lo : Nat} {A : Option Addr} {rs : List Ru} (h : OwnR w lo A rs) {p : Addr} (hp : p.block < lo) (u : Value) : OwnR (w.setCell p u) lo A rs := by
  rcases h with h | ⟨g, cs, e, hl, hr, hc, hd⟩
  · exact .inl h
  · refine .inr ⟨g, cs, e, hl, hr.far (by omega) u, fun k v hv => ?_, hd⟩
    obtain ⟨h1, h2, h3⟩ := hc k v hv
    exact ⟨h1, h2, h3.low hp u⟩

end Go.Proofs.YtfbpcdmpkbjifaaDoor

/- What the laws' size counters answer. -/

namespace Go.Proofs.YtfbpcdmpkbjifaaDoor
open Go.RowKit

theorem ret_int {k : IntKind} {a b : Int} (h : a = b) : Ending.returned (.int k a) = .returned (.int k b) := by rw [h]

def szI (n : Nat) (L : Int) : Int := if L - n < 0 then -1 else L - n

theorem szI_le {n : Nat} {L : Int} (h0 : 0 ≤ L) : szI n L ≤ L ∧ -1 ≤ szI n L := by unfold szI; split <;> omega

/-- The rules' right sides, one after the other. -/
def szR : List Ru → Int → Int
  | [], L => L
  | u :: r, L => if szI u.r.length L < 0 then -1 else szR r (szI u.r.length L)

def szRs (rs : List Ru) (L : Int) : Int := if L - rs.length < 0 then -1 else szR rs (L - rs.length)

theorem szR_ge : ∀ (rs : List Ru) {L : Int}, 0 ≤ L → -1 ≤ szR rs L ∧ (0 ≤ szR rs L → szR rs L ≤ L ∧ ∀ u ∈ rs, (u.r.length : Int) ≤ L)
  | [], L, _h => by simp [szR]; omega
  | u :: r, L, _h => by
    simp only [szR]
    split
    · simp
    · rename_i hn
      have h1 : szI u.r.length L = L - u.r.length := by unfold szI at hn ⊢; split <;> simp_all
      have ih := szR_ge r (L := szI u.r.length L) (by omega)
      refine ⟨ih.1, fun hp => ?_⟩
      obtain ⟨a, b⟩ := ih.2 hp
      refine ⟨by omega, fun v hv => ?_⟩
      rcases List.mem_cons.1 hv with rfl | hv
      · omega
      · have := b v hv; omega

theorem szRs_ge (rs : List Ru) {L : Int} (_h : 0 ≤ L) : -1 ≤ szRs rs L := by
  unfold szRs; split
  · omega
  · exact (szR_ge rs (by omega)).1

/-- Where the count is not negative, the rules and each right side are no more than it began with. -/
theorem szRs_bound {rs : List Ru} {L : Int} (_h : 0 ≤ L) (hp : 0 ≤ szRs rs L) : (rs.length : Int) ≤ L ∧ ∀ u ∈ rs, (u.r.length : Int) ≤ L := by
  unfold szRs at hp
  split at hp
  · omega
  · obtain ⟨_, b⟩ := (szR_ge rs (L := L - rs.length) (by omega)).2 hp
    exact ⟨by omega, fun u hu => by have := b u hu; omega⟩

set_option maxHeartbeats 400000 in
theorem szIntS_any (A : Option Addr) (n c : Nat) (L : Int) (w : World) (hn : n ≤ maxLen) (h0 : 0 ≤ L) (h1 : L ≤ 1048576) :
    Calls Tryd.prog 87 #[.slice A n c, .int .i64 L] w fun e w' => e = .returned (.int .i64 (szI n L)) ∧ w = w' := by
  unfold maxLen at hn
  by_cases h : L - n < 0
  · have hs : Hid (szI n L = -1) := by show szI n L = -1; unfold szI; rw [if_pos h]
    go_enter Tryd.func87, Tryd.ntmps87
    go_wp2
    go_ret
    exact ⟨by rw [hs.out]; rfl, rfl⟩
  · have hs : Hid (szI n L = L - n) := by show szI n L = L - n; unfold szI; rw [if_neg h]
    go_enter Tryd.func87, Tryd.ntmps87
    go_wp2
    go_ret
    exact ⟨by rw [hs.out]; rfl, rfl⟩

theorem szR_drop {rs : List Ru} {k : Nat} (hk : k < rs.length) (L : Int) : szR (rs.drop k) L = if szI rs[k].r.length L < 0 then -1 else szR (rs.drop (k + 1)) (szI rs[k].r.length L) := by
  rw [List.drop_eq_getElem_cons hk]; rfl

end Go.Proofs.YtfbpcdmpkbjifaaDoor

/- What the laws' copies make: new memory that reads as what was copied. -/

namespace Go.Proofs.YtfbpcdmpkbjifaaDoor
open Go.RowKit

theorem Tryd.infoInt : (Tryd.prog.info? 3).map (fun i => (i.zero, i.size, i.bytes)) = some (some (.int .i64 0), 1, 8) := by kernel_rfl
theorem Tryd.infoRule : (Tryd.prog.info? 166).map (fun i => (i.zero, i.size, i.bytes)) = some (some (.agg #[.int .i64 0, .slice none 0 0]), 2, 32) := by kernel_rfl

def zI (n : Nat) : Array Value := madeCells #[.int .i64 0] n
def zR (n : Nat) : Array Value := madeCells #[.int .i64 0, .slice none 0 0] (n * 2)
theorem zI_size (n : Nat) : (zI n).size = n := size_madeCells _ _
theorem zR_size (n : Nat) : (zR n).size = n * 2 := size_madeCells _ _

theorem info_of {P : Program} {e : TypeId} {z : Value} {s b : Nat} (h : (P.info? e).map (fun i => (i.zero, i.size, i.bytes)) = some (some z, s, b)) :
    ∃ i, P.info? e = some i ∧ i.zero = some z ∧ i.size = s ∧ i.bytes = b := by
  cases hi : P.info? e with
  | none => rw [hi] at h; simp at h
  | some i => rw [hi] at h; simp at h; exact ⟨i, rfl, h.1, h.2.1, h.2.2⟩

theorem make_ints (n : Nat) (hn : n ≤ 1048576) (w : World) :
    (Instr.makeSlice 22 (.int .i64 (n : Int)) (.int .i64 (n : Int))).run Tryd.prog w = .ok (.slice (some ⟨w.heap.size, 0, none⟩) n n) (w.alloc (.cells (zI n) 3)) := by
  obtain ⟨i, hi, hz, hs, hb⟩ := info_of Tryd.infoInt
  have h := run_make (P := Tryd.prog) w 22 3 i _ Tryd.underlying22 hi hz .i64 .i64 n n (by omega) (by omega) (by rw [hb]; omega) (by omega)
  rw [hs] at h
  simpa [zI, Value.cells] using h

theorem make_rules (n : Nat) (hn : n ≤ 1048576) (w : World) :
    (Instr.makeSlice 120 (.int .i64 (n : Int)) (.int .i64 (n : Int))).run Tryd.prog w = .ok (.slice (some ⟨w.heap.size, 0, none⟩) n n) (w.alloc (.cells (zR n) 166)) := by
  obtain ⟨i, hi, hz, hs, hb⟩ := info_of Tryd.infoRule
  have h := run_make (P := Tryd.prog) w 120 166 i _ Tryd.underlying120 hi hz .i64 .i64 n n (by omega) (by omega) (by rw [hb]; omega) (by omega)
  rw [hs] at h
  simpa [zR, Value.cells] using h

theorem copied_step {xs : List Int} {cs : Array Value} {k : Nat} (hlt : k < xs.length) (hs : cs.size = xs.length) (h : ∀ (j : Nat) (x : Int), j < k → xs[j]? = some x → cs[j]? = some (.int .i64 x)) :
    ∀ (j : Nat) (x : Int), j < k + 1 → xs[j]? = some x → (cs.setIfInBounds k (.int .i64 xs[k]))[j]? = some (.int .i64 x) := by
  intro j x hj hx
  rw [Array.getElem?_setIfInBounds]
  by_cases e : k = j
  · subst e
    rw [if_pos rfl, if_pos (by omega)]
    rw [List.getElem?_eq_getElem hlt] at hx
    simpa using hx
  · rw [if_neg e]
    exact h j x (by omega) hx

/-- A new slice of numbers that reads as xs; nothing older has turned. -/
def GaveI (w : World) (xs : List Int) (e : Ending) (w' : World) : Prop :=
  ∃ A c, e = .returned (.slice A xs.length c) ∧ xs.length ≤ c ∧ OwnI w' w.heap.size A xs ∧ Below w.heap.size w w'

set_option maxHeartbeats 400000 in
theorem toIntS_any (A : Option Addr) (xs : List Int) (c : Nat) (w : World) (hr : Ints w w.heap.size A xs) (hn : xs.length ≤ 1048576) :
    Calls Tryd.prog 37 #[.slice A xs.length c] w (GaveI w xs) := by
  have hmk := make_ints xs.length hn
  have HR := Lib.hid hr; clear hr
  go_enter Tryd.func37, Tryd.ntmps37
  go_wp2
  go_loopw [4] (fun i wr => ∃ (k : Nat) (cs : Array Value), k ≤ xs.length ∧ i = .int .i64 k ∧ Below w.heap.size w wr ∧ Hid (Row wr w.heap.size 3 cs ∧ cs.size = xs.length ∧ ∀ (j : Nat) (x : Int), j < k → xs[j]? = some x → cs[j]? = some (.int .i64 x))) (fun i _ => xs.length - (intOf i).toNat)
  case atStart => exact ⟨0, zI xs.length, by omega, rfl, (Below.refl _ _).alloc (Nat.le_refl _) _, Row.new _ _ _, zI_size _, fun j x h => absurd h (by omega)⟩
  case round =>
    obtain ⟨k, cs, hk, rfl, hB, H⟩ := hrel
    clear hmk
    by_cases hlt : k < xs.length
    · obtain ⟨b, o, rfl, hb, c1⟩ := (HR.out.keep hB).at_ hlt
      have c2 : wr.cell? ⟨w.heap.size, k, none⟩ = some (cs[k]'(by have := H.out.2.1; omega)) := by
        rw [H.out.1.cell, Array.getElem?_eq_getElem]
      have c3 := H.out.1.frozen k
      go_wp2
      go_roundw
      case rel => exact ⟨k + 1, cs.setIfInBounds k (.int .i64 xs[k]), by omega, by go_num, hB.setCell (Nat.le_refl _) _, H.out.1.set k _, by rw [Array.size_setIfInBounds]; exact H.out.2.1, copied_step hlt H.out.2.1 H.out.2.2⟩
      case measure => simp [intOf]; omega
    · go_wp2
      go_ret
      exact ⟨some ⟨w.heap.size, 0, none⟩, xs.length, rfl, Nat.le_refl _, .inr ⟨w.heap.size, cs, rfl, Nat.le_refl _, H.out.1, fun j x hj => H.out.2.2 j x (by have := (List.getElem?_eq_some_iff.1 hj).1; omega) hj⟩, hB⟩

/-- A rule's copy. -/
def GaveU (w : World) (l : Int) (xs : List Int) (e : Ending) (w' : World) : Prop :=
  ∃ A c, e = .returned (.agg #[.int .i64 l, .slice A xs.length c]) ∧ xs.length ≤ c ∧ OwnI w' w.heap.size A xs ∧ Below w.heap.size w w'

/-- A new slice of rules that says what rs say; nothing older has turned. -/
def GaveR (w : World) (ss : List (Int × List Int)) (e : Ending) (w' : World) : Prop :=
  ∃ A c rs, e = .returned (.slice A rs.length c) ∧ rs.length ≤ c ∧ OwnR w' w.heap.size A rs ∧ rs.map Ru.abs = ss ∧ Below w.heap.size w w'

/-- The first k rules of rs are copied into block g. -/
def Copying (w : World) (lo g : Nat) (rs : List Ru) (k : Nat) : Prop :=
  ∃ (cs : Array Value) (done : List Ru), Row w g 166 cs ∧ cs.size = rs.length * 2 ∧ done.length = k ∧ done.map Ru.abs = (rs.take k).map Ru.abs ∧
    (∀ (j : Nat) (u : Ru), done[j]? = some u → cs[j * 2]? = some (.int .i64 u.l) ∧ cs[j * 2 + 1]? = some (.slice u.a u.r.length u.c) ∧ OwnI w lo u.a u.r) ∧
    ∀ (i j : Nat) (u v : Ru), done[i]? = some u → done[j]? = some v → i ≠ j → u.r ≠ [] → v.r ≠ [] → u.a ≠ v.a

theorem Copying.step {w w1 : World} {lo g k : Nat} {rs : List Ru} (h : Copying w lo g rs k) (hlo : lo ≤ w.heap.size) (hk : k < rs.length) (hb : Below w.heap.size w w1) {A : Option Addr} {c : Nat} (hO : OwnI w1 w.heap.size A rs[k].r) :
    Copying ((w1.setCell ⟨g, k * 2, none⟩ (.int .i64 rs[k].l)).setCell ⟨g, k * 2 + 1, none⟩ (.slice A rs[k].r.length c)) lo g rs (k + 1) := by
  obtain ⟨cs, done, hr, hs, hl, ha, hc, hd⟩ := h
  have hg : g < w.heap.size := hr.lt
  have hr1 : Row w1 g 166 cs := hr.below hb hg
  have keep : ∀ {A' : Option Addr} {xs : List Int}, OwnI w1 lo A' xs → OwnI ((w1.setCell ⟨g, k * 2, none⟩ (.int .i64 rs[k].l)).setCell ⟨g, k * 2 + 1, none⟩ (.slice A rs[k].r.length c)) lo A' xs := by
    intro A' xs h
    rcases h with h | ⟨g', cs', e, hl', hr', hc'⟩
    · exact .inl h
    · have hne : g' ≠ g := hr'.ne hr1 (by decide)
      exact .inr ⟨g', cs', e, hl', (hr'.far hne _).far hne _, hc'⟩
  refine ⟨(cs.setIfInBounds (k * 2) (.int .i64 rs[k].l)).setIfInBounds (k * 2 + 1) (.slice A rs[k].r.length c), done ++ [⟨rs[k].l, A, rs[k].r, c⟩], (hr1.set _ _).set _ _, by simp [hs], by simp [hl], ?_, ?_, ?_⟩
  · rw [List.map_append, ha, List.take_succ_eq_append_getElem hk, List.map_append]; rfl
  · intro j u hu
    by_cases e : j < k
    · rw [List.getElem?_append_left (by omega)] at hu
      obtain ⟨h1, h2, h3⟩ := hc j u hu
      refine ⟨?_, ?_, keep (h3.below hb (Nat.le_refl _))⟩
      · rw [Array.getElem?_setIfInBounds, if_neg (by omega), Array.getElem?_setIfInBounds, if_neg (by omega)]; exact h1
      · rw [Array.getElem?_setIfInBounds, if_neg (by omega), Array.getElem?_setIfInBounds, if_neg (by omega)]; exact h2
    · rw [List.getElem?_append_right (by omega)] at hu
      have hj : j - done.length = 0 := by
        rcases Nat.eq_zero_or_pos (j - done.length) with h0 | h0
        · exact h0
        · rw [List.getElem?_eq_none (by simp; omega)] at hu; cases hu
      rw [hj] at hu
      simp at hu
      subst hu
      have : j = k := by omega
      subst this
      refine ⟨?_, ?_, keep (hO.lower hlo)⟩
      · rw [Array.getElem?_setIfInBounds, if_neg (by omega), Array.getElem?_setIfInBounds, if_pos rfl, if_pos (by omega)]
      · rw [Array.getElem?_setIfInBounds, if_pos rfl, if_pos (by simp; omega)]
  · have old : ∀ (i : Nat) (u : Ru), i < k → (done ++ [⟨rs[k].l, A, rs[k].r, c⟩])[i]? = some u → u.r ≠ [] → rs[k].r ≠ [] → u.a ≠ A := by
      intro i u hi hu hne hne' he
      rw [List.getElem?_append_left (by omega)] at hu
      obtain ⟨_, _, h3⟩ := hc i u hu
      rcases h3 with h3 | ⟨g1, _, e1, _, r1, _⟩
      · exact hne h3
      · rcases hO with h4 | ⟨g2, _, e2, l2, _, _⟩
        · exact hne' h4
        · rw [e1, e2] at he
          have := r1.lt
          injection he with he
          injection he with he
          omega
    have last : ∀ (i : Nat) (u : Ru), ¬ i < k → (done ++ [⟨rs[k].l, A, rs[k].r, c⟩])[i]? = some u → i = k ∧ u = ⟨rs[k].l, A, rs[k].r, c⟩ := by
      intro i u hi hu
      rw [List.getElem?_append_right (by omega)] at hu
      have hj : i - done.length = 0 := by
        rcases Nat.eq_zero_or_pos (i - done.length) with h0 | h0
        · exact h0
        · rw [List.getElem?_eq_none (by simp; omega)] at hu; cases hu
      rw [hj] at hu
      simp at hu
      exact ⟨by omega, hu.symm⟩
    intro i j u v hu hv hij hun hvn
    by_cases hi : i < k <;> by_cases hj : j < k
    · rw [List.getElem?_append_left (by omega)] at hu hv
      exact hd i j u v hu hv hij hun hvn
    · obtain ⟨rfl, rfl⟩ := last j v hj hv
      exact old i u hi hu hun hvn
    · obtain ⟨rfl, rfl⟩ := last i u hi hu
      exact fun e => old j v hj hv hvn hun e.symm
    · have := (last i u hi hu).1; have := (last j v hj hv).1; omega

theorem Copying.row {w : World} {lo g k : Nat} {rs : List Ru} (h : Copying w lo g rs k) : ∃ cs, Row w g 166 cs ∧ cs.size = rs.length * 2 := by
  obtain ⟨cs, _, hr, hs, _⟩ := h
  exact ⟨cs, hr, hs⟩

theorem Copying.done {w : World} {lo g : Nat} {rs : List Ru} (h : Copying w lo g rs rs.length) (hg : lo ≤ g) : ∃ ds : List Ru, OwnR w lo (some ⟨g, 0, none⟩) ds ∧ ds.length = rs.length ∧ ds.map Ru.abs = rs.map Ru.abs := by
  obtain ⟨cs, ds, hr, _, hl, ha, hc, hd⟩ := h
  exact ⟨ds, .inr ⟨g, cs, rfl, hg, hr, hc, hd⟩, hl, by rw [ha, List.take_length]⟩

/-- A grammar's copy: it says the same; nothing older has turned. -/
def GaveG (w : World) (n t : Int) (ss : List (Int × List Int)) (e : Ending) (w' : World) : Prop :=
  ∃ A c rs, e = .returned (.agg #[.int .i64 n, .int .i64 t, .slice A rs.length c]) ∧ rs.length ≤ c ∧ OwnR w' w.heap.size A rs ∧ rs.map Ru.abs = ss ∧ Below w.heap.size w w'

end Go.Proofs.YtfbpcdmpkbjifaaDoor

/- Plain mathematics of chapter 1: what a good grammar is. No program, no memory. -/

namespace Go.Proofs.YtfbpcdmpkbjifaaDoor

def nonB (n x : Int) : Bool := decide (0 ≤ x ∧ x < n)
theorem nonB_t {n x : Int} (h : 0 ≤ x) (h' : x < n) : nonB n x = true := decide_eq_true ⟨h, h'⟩
theorem nonB_f {n x : Int} (h : x < 0 ∨ n ≤ x) : nonB n x = false := decide_eq_false (by omega)
theorem nonB_is {n x : Int} (h : nonB n x = true) : 0 ≤ x ∧ x < n := of_decide_eq_true h
theorem nonB_no {n x : Int} (h : nonB n x = false) : x < 0 ∨ n ≤ x := by have := of_decide_eq_false h; omega

def symB (n t x : Int) : Bool := decide ((0 ≤ x ∧ x < n) ∨ (0 ≤ -1 - x ∧ -1 - x < t))
theorem symB_non {n t x : Int} (h : nonB n x = true) : symB n t x = true := decide_eq_true (.inl (nonB_is h))
theorem symB_tok {n t x : Int} (h : nonB n x = false) : symB n t x = nonB t (-1 - x) := by
  have := nonB_no h
  unfold symB nonB
  rw [Bool.eq_iff_iff]
  simp only [decide_eq_true_eq]
  omega

/-- All numbers of a right side are symbols. -/
def symsB (n t : Int) (xs : List Int) : Bool := xs.all fun x => symB n t x
theorem symsB_iff {n t : Int} {xs : List Int} : symsB n t xs = true ↔ ∀ (k : Nat) (x : Int), xs[k]? = some x → symB n t x = true := by
  unfold symsB
  rw [List.all_eq_true]
  constructor
  · intro h k x hx
    exact h x (List.mem_of_getElem? hx)
  · intro h x hx
    obtain ⟨k, hk⟩ := List.mem_iff_getElem?.1 hx
    exact h k x hk
theorem symsB_not {n t : Int} {xs : List Int} {k : Nat} (hk : k < xs.length) (h : symB n t xs[k] = false) : symsB n t xs = false := by
  cases e : symsB n t xs
  · rfl
  · rw [symsB_iff.1 e k _ (List.getElem?_eq_getElem hk)] at h; cases h
theorem symsB_of {n t : Int} {xs : List Int} {k : Nat} (hk : ¬ k < xs.length) (h : ∀ (j : Nat) (x : Int), j < k → xs[j]? = some x → symB n t x = true) : symsB n t xs = true :=
  symsB_iff.2 fun j x hx => h j x (by have := (List.getElem?_eq_some_iff.1 hx).1; omega) hx
theorem syms_step {n t : Int} {xs : List Int} {k : Nat} (hk : k < xs.length) (h : symB n t xs[k] = true) (H : ∀ (j : Nat) (x : Int), j < k → xs[j]? = some x → symB n t x = true) :
    ∀ (j : Nat) (x : Int), j < k + 1 → xs[j]? = some x → symB n t x = true := by
  intro j x hj hx
  by_cases e : j = k
  · subst e; rw [List.getElem?_eq_getElem hk] at hx; injection hx with hx; subst hx; exact h
  · exact H j x (by omega) hx

/-- A rule is good. -/
def goodU (n t : Int) (u : Int × List Int) : Bool := nonB n u.1 && (decide (u.2.length ≤ 4) && symsB n t u.2)
theorem goodU_left {n t l : Int} {xs : List Int} (h : nonB n l = false) : goodU n t (l, xs) = false := by unfold goodU; rw [h]; rfl
theorem goodU_long {n t l : Int} {xs : List Int} (h : ¬ xs.length ≤ 4) : goodU n t (l, xs) = false := by unfold goodU; rw [decide_eq_false h]; cases nonB n l <;> rfl
theorem goodU_syms {n t l : Int} {xs : List Int} (h : nonB n l = true) (h' : xs.length ≤ 4) : goodU n t (l, xs) = symsB n t xs := by unfold goodU; rw [h, decide_eq_true h']; rfl

def hasU (rs : List (Int × List Int)) (u : Int × List Int) : Bool := decide (u ∈ rs)

/-- The first k rules are good, and none of them stands ahead of itself. -/
def goodTo (n t : Int) (rs : List (Int × List Int)) (k : Nat) : Prop := ∀ (j : Nat) (u : Int × List Int), j < k → rs[j]? = some u → goodU n t u = true ∧ hasU (rs.take j) u = false

def goodAll (n t : Int) (rs : List (Int × List Int)) : Bool := (List.range rs.length).all fun j => goodU n t (rs.getD j (0, [])) && !hasU (rs.take j) (rs.getD j (0, []))
theorem goodAll_iff {n t : Int} {rs : List (Int × List Int)} : goodAll n t rs = true ↔ goodTo n t rs rs.length := by
  unfold goodAll goodTo
  rw [List.all_eq_true]
  constructor
  · intro h j u hj hu
    have := h j (List.mem_range.2 hj)
    rw [List.getD_eq_getElem?_getD, hu] at this
    simpa using this
  · intro h j hj
    have hj := List.mem_range.1 hj
    have := h j _ hj (List.getElem?_eq_getElem hj)
    rw [List.getD_eq_getElem?_getD, List.getElem?_eq_getElem hj]
    simpa using this

/-- A grammar is good. -/
def goodG (n t : Int) (rs : List (Int × List Int)) : Bool := decide (1 ≤ n ∧ n ≤ 6) && (decide (1 ≤ t ∧ t ≤ 4) && (decide (rs.length ≤ 16) && goodAll n t rs))
theorem goodG_n {n t : Int} {rs : List (Int × List Int)} (h : ¬ (1 ≤ n ∧ n ≤ 6)) : goodG n t rs = false := by unfold goodG; rw [decide_eq_false h]; rfl
theorem goodG_t {n t : Int} {rs : List (Int × List Int)} (h : ¬ (1 ≤ t ∧ t ≤ 4)) : goodG n t rs = false := by unfold goodG; rw [decide_eq_false h]; cases decide (1 ≤ n ∧ n ≤ 6) <;> rfl
theorem goodG_len {n t : Int} {rs : List (Int × List Int)} (h : ¬ rs.length ≤ 16) : goodG n t rs = false := by unfold goodG; rw [decide_eq_false h]; cases decide (1 ≤ n ∧ n ≤ 6) <;> cases decide (1 ≤ t ∧ t ≤ 4) <;> rfl
theorem goodG_all {n t : Int} {rs : List (Int × List Int)} (h : 1 ≤ n ∧ n ≤ 6) (h' : 1 ≤ t ∧ t ≤ 4) (hl : rs.length ≤ 16) : goodG n t rs = goodAll n t rs := by
  unfold goodG; rw [decide_eq_true h, decide_eq_true h', decide_eq_true hl]; rfl
theorem goodG_is {n t : Int} {rs : List (Int × List Int)} (h : goodG n t rs = true) : (1 ≤ n ∧ n ≤ 6) ∧ (1 ≤ t ∧ t ≤ 4) ∧ rs.length ≤ 16 ∧ goodTo n t rs rs.length := by
  unfold goodG at h
  simp only [Bool.and_eq_true, decide_eq_true_eq] at h
  exact ⟨h.1, h.2.1, h.2.2.1, goodAll_iff.1 h.2.2.2⟩
theorem goodAll_bad {n t : Int} {rs : List (Int × List Int)} {k : Nat} (hk : k < rs.length) (h : goodU n t rs[k] = false ∨ hasU (rs.take k) rs[k] = true) : goodAll n t rs = false := by
  cases e : goodAll n t rs
  · rfl
  · have := goodAll_iff.1 e k _ hk (List.getElem?_eq_getElem hk)
    rcases h with h | h
    · rw [this.1] at h; cases h
    · rw [this.2] at h; cases h
theorem goodTo_step {n t : Int} {rs : List (Int × List Int)} {k : Nat} (hk : k < rs.length) (h1 : goodU n t rs[k] = true) (h2 : hasU (rs.take k) rs[k] = false) (H : goodTo n t rs k) : goodTo n t rs (k + 1) := by
  intro j u hj hu
  by_cases e : j = k
  · subst e; rw [List.getElem?_eq_getElem hk] at hu; injection hu with hu; subst hu; exact ⟨h1, h2⟩
  · exact H j u (by omega) hu
theorem goodAll_of {n t : Int} {rs : List (Int × List Int)} {k : Nat} (hk : ¬ k < rs.length) (H : goodTo n t rs k) : goodAll n t rs = true :=
  goodAll_iff.2 fun j u hj hu => H j u (by omega) hu

end Go.Proofs.YtfbpcdmpkbjifaaDoor

/- The table of limits, and what a count within a limit is. -/

namespace Go.Proofs.YtfbpcdmpkbjifaaDoor
open Go.RowKit

/-- The numbers of the package's table of limits. -/
def limL : List Int := [1, 6, 1, 4, 0, 16, 0, 4, 0, 10, 1, 40, 1, 4, 0, 200]

/-- The table lies where the program keeps it. -/
def Lims (w : World) : Prop := ∀ (k : Nat) (v : Int), limL[k]? = some v → w.cell? ⟨0, k, none⟩ = some (.int .i64 v)

theorem Lims.pos {w : World} (h : Lims w) : 0 < w.heap.size := by
  have h0 := h 0 1 rfl
  by_cases hg : 0 < w.heap.size
  · exact hg
  · simp only [World.cell?] at h0
    rw [Array.getElem?_eq_none (by omega)] at h0
    cases h0

theorem Lims.keep {w w' : World} {B : Nat} (h : Lims w) (hb : Below B w w') (hB : w.heap.size ≤ B) : Lims w' :=
  fun k v hk => (hb.cell (p := ⟨0, k, none⟩) (by have := h.pos; simp; omega)).trans (h k v hk)

def inB (lo hi n : Int) : Bool := decide (lo ≤ n ∧ n ≤ hi)
theorem inB_t {lo hi n : Int} (h1 : lo ≤ n) (h2 : n ≤ hi) : inB lo hi n = true := decide_eq_true ⟨h1, h2⟩
theorem inB_f {lo hi n : Int} (h : n < lo ∨ hi < n) : inB lo hi n = false := decide_eq_false (by omega)
theorem inB_lo {lo hi n : Int} (h : inB lo hi n = true) : lo ≤ n := (of_decide_eq_true h).1
theorem inB_hi {lo hi n : Int} (h : inB lo hi n = true) : n ≤ hi := (of_decide_eq_true h).2
theorem inB_no {lo hi n : Int} (h : inB lo hi n = false) : n < lo ∨ hi < n := by have := of_decide_eq_false h; omega
theorem ret_b {a b : Bool} (h : a = b) : Ending.returned (.bool a) = .returned (.bool b) := by rw [h]

set_option maxHeartbeats 400000 in
theorem withinLimit_any (k : Nat) (lo hi n : Int) (w : World) (hk : k < 8) (c1 : w.cell? ⟨0, k * 2, none⟩ = some (.int .i64 lo)) (c2 : w.cell? ⟨0, k * 2 + 1, none⟩ = some (.int .i64 hi)) :
    Calls Tryd.prog 66 #[.int .i64 (k : Int), .int .i64 n] w fun e w' => e = .returned (.bool (inB lo hi n)) ∧ Below w.heap.size w w' := by
  by_cases h1 : lo ≤ n
  · by_cases h2 : n ≤ hi
    · have HE : Hid (inB lo hi n = true) := inB_t h1 h2
      go_enter Tryd.func66, Tryd.ntmps66
      go_wp2
      go_ret
      exact ⟨ret_b HE.out.symm, by go_grown⟩
    · have HE : Hid (inB lo hi n = false) := inB_f (by omega)
      go_enter Tryd.func66, Tryd.ntmps66
      go_wp2
      go_ret
      exact ⟨ret_b HE.out.symm, by go_grown⟩
  · have HE : Hid (inB lo hi n = false) := inB_f (by omega)
    go_enter Tryd.func66, Tryd.ntmps66
    go_wp2
    go_ret
    exact ⟨ret_b HE.out.symm, by go_grown⟩

theorem within0 (n : Int) (w : World) (h : Lims w) : Calls Tryd.prog 66 #[.int .i64 0, .int .i64 n] w fun e w' => e = .returned (.bool (inB 1 6 n)) ∧ Below w.heap.size w w' :=
  withinLimit_any 0 1 6 n w (by omega) (h 0 1 rfl) (h 1 6 rfl)
theorem within1 (n : Int) (w : World) (h : Lims w) : Calls Tryd.prog 66 #[.int .i64 1, .int .i64 n] w fun e w' => e = .returned (.bool (inB 1 4 n)) ∧ Below w.heap.size w w' :=
  withinLimit_any 1 1 4 n w (by omega) (h 2 1 rfl) (h 3 4 rfl)
theorem within2 (n : Int) (w : World) (h : Lims w) : Calls Tryd.prog 66 #[.int .i64 2, .int .i64 n] w fun e w' => e = .returned (.bool (inB 0 16 n)) ∧ Below w.heap.size w w' :=
  withinLimit_any 2 0 16 n w (by omega) (h 4 0 rfl) (h 5 16 rfl)
theorem within3 (n : Int) (w : World) (h : Lims w) : Calls Tryd.prog 66 #[.int .i64 3, .int .i64 n] w fun e w' => e = .returned (.bool (inB 0 4 n)) ∧ Below w.heap.size w w' :=
  withinLimit_any 3 0 4 n w (by omega) (h 6 0 rfl) (h 7 4 rfl)
theorem within4 (n : Int) (w : World) (h : Lims w) : Calls Tryd.prog 66 #[.int .i64 4, .int .i64 n] w fun e w' => e = .returned (.bool (inB 0 10 n)) ∧ Below w.heap.size w w' :=
  withinLimit_any 4 0 10 n w (by omega) (h 8 0 rfl) (h 9 10 rfl)
theorem within5 (n : Int) (w : World) (h : Lims w) : Calls Tryd.prog 66 #[.int .i64 5, .int .i64 n] w fun e w' => e = .returned (.bool (inB 1 40 n)) ∧ Below w.heap.size w w' :=
  withinLimit_any 5 1 40 n w (by omega) (h 10 1 rfl) (h 11 40 rfl)
theorem within6 (n : Int) (w : World) (h : Lims w) : Calls Tryd.prog 66 #[.int .i64 6, .int .i64 n] w fun e w' => e = .returned (.bool (inB 1 4 n)) ∧ Below w.heap.size w w' :=
  withinLimit_any 6 1 4 n w (by omega) (h 12 1 rfl) (h 13 4 rfl)
theorem within7 (n : Int) (w : World) (h : Lims w) : Calls Tryd.prog 66 #[.int .i64 7, .int .i64 n] w fun e w' => e = .returned (.bool (inB 0 200 n)) ∧ Below w.heap.size w w' :=
  withinLimit_any 7 0 200 n w (by omega) (h 14 0 rfl) (h 15 200 rfl)

end Go.Proofs.YtfbpcdmpkbjifaaDoor

/- What the laws' comparisons answer. -/

namespace Go.Proofs.YtfbpcdmpkbjifaaDoor
open Go.RowKit

theorem ret_bool {a b : Bool} (h : a = b) : Ending.returned (.bool a) = .returned (.bool b) := by rw [h]
theorem bne_t {a b : Int} (h : a ≠ b) : (a != b) = true := by simpa using h
theorem bne_f {a b : Int} (h : a = b) : (a != b) = false := by simpa using h
theorem beq_t {a b : Int} (h : a = b) : (a == b) = true := by simpa using h
theorem beq_f {a b : Int} (h : a ≠ b) : (a == b) = false := by simpa using h

def eqL (xs ys : List Int) : Bool := decide (xs = ys)
theorem eqL_t {xs ys : List Int} (h : xs = ys) : eqL xs ys = true := decide_eq_true h
theorem eqL_f {xs ys : List Int} (h : xs ≠ ys) : eqL xs ys = false := decide_eq_false h
theorem eqL_of {xs ys : List Int} {k : Nat} (hl : xs.length = ys.length) (hk : ¬ k < xs.length) (h : ∀ j : Nat, j < k → xs[j]? = ys[j]?) : eqL xs ys = true := by
  refine eqL_t (List.ext_getElem? fun j => ?_)
  by_cases hj : j < k
  · exact h j hj
  · rw [List.getElem?_eq_none (by omega), List.getElem?_eq_none (by omega)]
theorem eqL_not {xs ys : List Int} {k : Nat} (hx : k < xs.length) (hy : k < ys.length) (h : xs[k] ≠ ys[k]) : eqL xs ys = false := by
  refine eqL_f fun e => h ?_
  subst e; rfl

theorem step_eq {xs ys : List Int} {k : Nat} (hx : k < xs.length) (hy : k < ys.length) (he : xs[k] = ys[k]) (h : ∀ j : Nat, j < k → xs[j]? = ys[j]?) : ∀ j : Nat, j < k + 1 → xs[j]? = ys[j]? := by
  intro j hj
  by_cases e : j = k
  · subst e; rw [List.getElem?_eq_getElem hx, List.getElem?_eq_getElem hy, he]
  · exact h j (by omega)

set_option maxHeartbeats 400000 in
theorem eqIntS_any (A A' : Option Addr) (xs ys : List Int) (c c' : Nat) (w : World) (hx : Ints w w.heap.size A xs) (hy : Ints w w.heap.size A' ys) (h1 : xs.length ≤ 1048576) :
    Calls Tryd.prog 14 #[.slice A xs.length c, .slice A' ys.length c'] w fun e w' => e = .returned (.bool (eqL xs ys)) ∧ Below w.heap.size w w' := by
  have HX := Lib.hid hx; clear hx
  have HY := Lib.hid hy; clear hy
  by_cases hl : xs.length = ys.length
  · have hd : ((xs.length : Int) != (ys.length : Int)) = false := bne_f (by omega)
    have hlen : xs.length ≤ ys.length := by omega
    have hlen' : ys.length ≤ xs.length := by omega
    have HL := Lib.hid hl; clear hl
    go_enter Tryd.func14, Tryd.ntmps14
    go_wp2
    go_loopw [5] (fun i wr => ∃ (k : Nat), k ≤ xs.length ∧ i = .int .i64 k ∧ Below w.heap.size w wr ∧ Hid (∀ j : Nat, j < k → xs[j]? = ys[j]?)) (fun i _ => xs.length - (intOf i).toNat)
    case atStart => exact ⟨0, by omega, rfl, Below.refl _ _, fun j h => absurd h (by omega)⟩
    case round =>
      obtain ⟨k, hk, rfl, hB, H⟩ := hrel
      by_cases hlt : k < xs.length
      · have hlt' : k < ys.length := by omega
        obtain ⟨b, o, rfl, hb, c1⟩ := (HX.out.keep hB).at_ hlt
        obtain ⟨b', o', rfl, hb', c2⟩ := (HY.out.keep hB).at_ hlt'
        by_cases hne : xs[k] = ys[k]
        · have ht := bne_f hne
          have HE := Lib.hid hne; clear hne
          go_wp2
          go_quiet (fail)
          go_wp2
          go_roundw
          case rel => exact ⟨k + 1, by omega, by go_num, below_drewN hB _, step_eq hlt hlt' HE.out H.out⟩
          case measure => simp [intOf]; omega
        · have ht := bne_t hne
          have HE : Hid (eqL xs ys = false) := eqL_not hlt hlt' hne
          clear hne
          go_wp2
          go_quiet (fail)
          go_wp2
          go_ret
          exact ⟨ret_bool HE.out.symm, below_drewN hB _⟩
      · have HE : Hid (eqL xs ys = true) := eqL_of HL.out hlt H.out
        go_wp2
        go_ret
        exact ⟨ret_bool HE.out.symm, hB⟩
  · have hd : ((xs.length : Int) != (ys.length : Int)) = true := bne_t (by omega)
    have HE : Hid (eqL xs ys = false) := eqL_f fun e => hl (by rw [e])
    clear hl
    go_enter Tryd.func14, Tryd.ntmps14
    go_wp2
    go_ret
    exact ⟨ret_bool HE.out.symm, Below.refl _ _⟩

def eqU (u v : Int × List Int) : Bool := decide (u = v)
theorem eqU_t {u v : Int × List Int} (h : u = v) : eqU u v = true := decide_eq_true h
theorem eqU_f {u v : Int × List Int} (h : u ≠ v) : eqU u v = false := decide_eq_false h

def eqRs (rs ss : List (Int × List Int)) : Bool := decide (rs = ss)
theorem eqRs_t {u v : List (Int × List Int)} (h : u = v) : eqRs u v = true := decide_eq_true h
theorem eqRs_f {u v : List (Int × List Int)} (h : u ≠ v) : eqRs u v = false := decide_eq_false h

theorem step_eqR {rs ss : List Ru} {k : Nat} (hx : k < rs.length) (hy : k < ss.length) (he : eqU rs[k].abs ss[k].abs = true) (h : ∀ j : Nat, j < k → (rs.map Ru.abs)[j]? = (ss.map Ru.abs)[j]?) :
    ∀ j : Nat, j < k + 1 → (rs.map Ru.abs)[j]? = (ss.map Ru.abs)[j]? := by
  intro j hj
  by_cases e : j = k
  · subst e; rw [List.getElem?_map, List.getElem?_map, List.getElem?_eq_getElem hx, List.getElem?_eq_getElem hy]; simp [of_decide_eq_true he]
  · exact h j (by omega)
theorem eqRs_of {rs ss : List Ru} {k : Nat} (hl : rs.length = ss.length) (hk : ¬ k < rs.length) (h : ∀ j : Nat, j < k → (rs.map Ru.abs)[j]? = (ss.map Ru.abs)[j]?) : eqRs (rs.map Ru.abs) (ss.map Ru.abs) = true := by
  refine eqRs_t (List.ext_getElem? fun j => ?_)
  by_cases hj : j < k
  · exact h j hj
  · rw [List.getElem?_eq_none (by simp; omega), List.getElem?_eq_none (by simp; omega)]
theorem eqRs_not {rs ss : List Ru} {k : Nat} (hx : k < rs.length) (hy : k < ss.length) (h : eqU rs[k].abs ss[k].abs = false) : eqRs (rs.map Ru.abs) (ss.map Ru.abs) = false := by
  refine eqRs_f fun e => ?_
  have e' := congrArg (fun l => l[k]?) e
  simp [List.getElem?_eq_getElem hx, List.getElem?_eq_getElem hy] at e'
  rw [eqU_t e'] at h
  cases h

/-- What a grammar says. -/
def eqG (n t : Int) (rs : List (Int × List Int)) (n' t' : Int) (ss : List (Int × List Int)) : Bool := decide (n = n' ∧ t = t' ∧ rs = ss)

end Go.Proofs.YtfbpcdmpkbjifaaDoor

/- What the program's checks of chapter 1 answer. -/

namespace Go.Proofs.YtfbpcdmpkbjifaaDoor
open Go.RowKit

set_option maxHeartbeats 400000 in
theorem isNon_any (n t x : Int) (v : Value) (w : World) :
    Calls Tryd.prog 152 #[.agg #[.int .i64 n, .int .i64 t, v], .int .i64 x] w fun e w' => e = .returned (.bool (nonB n x)) ∧ Below w.heap.size w w' := by
  by_cases h1 : 0 ≤ x
  · by_cases h2 : x < n
    · have HE : Hid (nonB n x = true) := nonB_t h1 h2
      go_enter Tryd.func152, Tryd.ntmps152
      go_wp2
      go_ret
      exact ⟨ret_bool HE.out.symm, by go_grown⟩
    · have HE : Hid (nonB n x = false) := nonB_f (by omega)
      go_enter Tryd.func152, Tryd.ntmps152
      go_wp2
      go_ret
      exact ⟨ret_bool HE.out.symm, by go_grown⟩
  · have HE : Hid (nonB n x = false) := nonB_f (by omega)
    go_enter Tryd.func152, Tryd.ntmps152
    go_wp2
    go_ret
    exact ⟨ret_bool HE.out.symm, by go_grown⟩

set_option maxHeartbeats 400000 in
theorem isToken_any (n t x : Int) (v : Value) (w : World) :
    Calls Tryd.prog 150 #[.agg #[.int .i64 n, .int .i64 t, v], .int .i64 x] w fun e w' => e = .returned (.bool (nonB t x)) ∧ Below w.heap.size w w' := by
  by_cases h1 : 0 ≤ x
  · by_cases h2 : x < t
    · have HE : Hid (nonB t x = true) := nonB_t h1 h2
      go_enter Tryd.func150, Tryd.ntmps150
      go_wp2
      go_ret
      exact ⟨ret_bool HE.out.symm, by go_grown⟩
    · have HE : Hid (nonB t x = false) := nonB_f (by omega)
      go_enter Tryd.func150, Tryd.ntmps150
      go_wp2
      go_ret
      exact ⟨ret_bool HE.out.symm, by go_grown⟩
  · have HE : Hid (nonB t x = false) := nonB_f (by omega)
    go_enter Tryd.func150, Tryd.ntmps150
    go_wp2
    go_ret
    exact ⟨ret_bool HE.out.symm, by go_grown⟩

set_option maxHeartbeats 400000 in
theorem isSymbol_any (n t x : Int) (A : Option Addr) (m c : Nat) (w : World) (h0 : -9223372036854775808 ≤ x) (h1 : x ≤ 9223372036854775807) :
    Calls Tryd.prog 180 #[.agg #[.int .i64 n, .int .i64 t, .slice A m c], .int .i64 x] w fun e w' => e = .returned (.bool (symB n t x)) ∧ Below w.heap.size w w' := by
  cases hq : nonB n x
  · have HQ := Lib.hid hq; clear hq
    go_enter Tryd.func180, Tryd.ntmps180
    go_wp2_with fail
    refine (isNon_any _ _ _ _ _).mono ?_
    rintro e w1 ⟨rfl, hB⟩
    rw [HQ.out]
    have hz := hB.size
    have c0 := (hB.cell (p := ⟨w.heap.size, 0, none⟩) (by simp)).trans (show _ = some (.int .i64 n) from by simp [go_sem])
    have c1 := (hB.cell (p := ⟨w.heap.size, 1, none⟩) (by simp)).trans (show _ = some (.int .i64 t) from by simp [go_sem])
    have c2 := (hB.cell (p := ⟨w.heap.size, 2, none⟩) (by simp)).trans (show _ = some (.slice A m c) from by simp [go_sem])
    have HB := Lib.hid hB; clear hB
    go_wp2_with fail
    refine (isToken_any _ _ _ _ _).mono ?_
    rintro e w2 ⟨rfl, hB2⟩
    go_wp2
    go_ret
    exact ⟨ret_bool (symB_tok HQ.out).symm, (Below.trans (by go_grown) (HB.out.mono (by go_size))).trans (hB2.mono (by simp at hz; omega))⟩
  · have HE : Hid (symB n t x = true) := symB_non hq
    have HQ := Lib.hid hq; clear hq
    go_enter Tryd.func180, Tryd.ntmps180
    go_wp2_with fail
    refine (isNon_any _ _ _ _ _).mono ?_
    rintro e w1 ⟨rfl, hB⟩
    rw [HQ.out]
    go_wp2
    go_ret
    exact ⟨ret_bool HE.out.symm, Below.trans (by go_grown) (hB.mono (by go_size))⟩

theorem hasU_step {rs : List Ru} {k : Nat} {u : Int × List Int} (hk : k < rs.length) (h : eqU rs[k].abs u = false) (H : ∀ j : Nat, j < k → (rs.map Ru.abs)[j]? ≠ some u) : ∀ j : Nat, j < k + 1 → (rs.map Ru.abs)[j]? ≠ some u := by
  intro j hj
  by_cases e : j = k
  · subst e
    rw [List.getElem?_map, List.getElem?_eq_getElem hk]
    intro h'
    rw [eqU_t (by simpa using h')] at h
    cases h
  · exact H j (by omega)
theorem hasU_t {rs : List Ru} {k : Nat} {u : Int × List Int} (hk : k < rs.length) (h : eqU rs[k].abs u = true) : hasU (rs.map Ru.abs) u = true :=
  decide_eq_true (by rw [← of_decide_eq_true h]; exact List.mem_map.2 ⟨_, List.getElem_mem hk, rfl⟩)
theorem hasU_f {rs : List Ru} {k : Nat} {u : Int × List Int} (hk : ¬ k < rs.length) (H : ∀ j : Nat, j < k → (rs.map Ru.abs)[j]? ≠ some u) : hasU (rs.map Ru.abs) u = false :=
  decide_eq_false fun h => by
    obtain ⟨j, hj⟩ := List.mem_iff_getElem?.1 h
    have := (List.getElem?_eq_some_iff.1 hj).1
    simp at this
    exact H j (by omega) hj

end Go.Proofs.YtfbpcdmpkbjifaaDoor

/- What the program's checks of rules and grammars answer. -/

namespace Go.Proofs.YtfbpcdmpkbjifaaDoor
open Go.RowKit

/-- The number is one that an int can hold. -/
def F64 (x : Int) : Prop := -9223372036854775808 ≤ x ∧ x ≤ 9223372036854775807

/-- The cells of a box that stay while only newer memory is written. -/
def Box3 (w : World) (g : Nat) (a b c : Value) : Prop := g < w.heap.size ∧ w.cell? ⟨g, 0, none⟩ = some a ∧ w.cell? ⟨g, 1, none⟩ = some b ∧ w.cell? ⟨g, 2, none⟩ = some c
def Box2 (w : World) (g : Nat) (a b : Value) : Prop := g < w.heap.size ∧ w.cell? ⟨g, 0, none⟩ = some a ∧ w.cell? ⟨g, 1, none⟩ = some b

theorem Box3.keep {w w' : World} {g B : Nat} {a b c : Value} (h : Box3 w g a b c) (hb : Below B w w') (hB : g < B) : Box3 w' g a b c :=
  ⟨by have := hb.size; have := h.1; omega, (hb.cell (p := ⟨g, 0, none⟩) hB).trans h.2.1, (hb.cell (p := ⟨g, 1, none⟩) hB).trans h.2.2.1, (hb.cell (p := ⟨g, 2, none⟩) hB).trans h.2.2.2⟩
theorem Box2.keep {w w' : World} {g B : Nat} {a b : Value} (h : Box2 w g a b) (hb : Below B w w') (hB : g < B) : Box2 w' g a b :=
  ⟨by have := hb.size; have := h.1; omega, (hb.cell (p := ⟨g, 0, none⟩) hB).trans h.2.1, (hb.cell (p := ⟨g, 1, none⟩) hB).trans h.2.2⟩

set_option maxHeartbeats 400000 in
theorem allSymbols_any (n t : Int) (A A' : Option Addr) (m c c' : Nat) (xs : List Int) (w : World) (hx : Ints w w.heap.size A' xs) (h1 : xs.length ≤ 1048576) (hf : ∀ x ∈ xs, F64 x) :
    Calls Tryd.prog 168 #[.agg #[.int .i64 n, .int .i64 t, .slice A m c], .slice A' xs.length c'] w fun e w' => e = .returned (.bool (symsB n t xs)) ∧ Below w.heap.size w w' := by
  have HX := Lib.hid hx; clear hx
  have HF := Lib.hid hf; clear hf
  go_enter Tryd.func168, Tryd.ntmps168
  have HBW : Hid (Below w.heap.size w (w.alloc (.cells #[.int .i64 n, .int .i64 t, .slice A m c] 147))) := by show Below _ _ _; go_grown
  have HB3 : Hid (Box3 (w.alloc (.cells #[.int .i64 n, .int .i64 t, .slice A m c] 147)) w.heap.size (.int .i64 n) (.int .i64 t) (.slice A m c)) := ⟨by simp, by simp [go_sem], by simp [go_sem], by simp [go_sem]⟩
  go_wp2
  go_loopw [9] (fun i wr => ∃ (k : Nat), k ≤ xs.length ∧ i = .int .i64 k ∧ Below w.heap.size w wr ∧ Box3 wr w.heap.size (.int .i64 n) (.int .i64 t) (.slice A m c) ∧ Hid (∀ (j : Nat) (x : Int), j < k → xs[j]? = some x → symB n t x = true)) (fun i _ => xs.length - (intOf i).toNat)
  case atStart => exact ⟨0, by omega, rfl, HBW.out, HB3.out, fun j x h => absurd h (by omega)⟩
  case round =>
    obtain ⟨k, hk, rfl, hB, hbox, H⟩ := hrel
    by_cases hlt : k < xs.length
    · obtain ⟨b, o, rfl, hb, c1⟩ := (HX.out.keep hB).at_ hlt
      obtain ⟨g0, g1, g2, g3⟩ := id hbox
      have HBX := Lib.hid hbox; clear hbox
      obtain ⟨f0, f1⟩ := HF.out xs[k] (List.getElem_mem hlt)
      cases hs : symB n t xs[k]
      all_goals
        have HSY := Lib.hid hs; clear hs
        go_wp2_with fail
        refine (isSymbol_any _ _ _ _ _ _ _ f0 f1).mono ?_
        rintro e w3 ⟨rfl, hB3⟩
        rw [HSY.out]
        have hB4 : Below w.heap.size w w3 := hB.trans (hB3.mono hB.size)
      · have HE : Hid (symsB n t xs = false) := symsB_not hlt HSY.out
        go_wp2
        go_ret
        exact ⟨ret_bool HE.out.symm, hB4⟩
      · go_wp2
        go_roundw
        case rel => exact ⟨k + 1, by omega, by go_num, hB4, HBX.out.keep hB3 g0, syms_step hlt HSY.out H.out⟩
        case measure => simp [intOf]; omega
    · have HE : Hid (symsB n t xs = true) := symsB_of hlt H.out
      clear hbox
      go_wp2
      go_ret
      exact ⟨ret_bool HE.out.symm, hB⟩

/-- A right side that is good. -/
def rightB (n t : Int) (xs : List Int) : Bool := decide (xs.length ≤ 4) && symsB n t xs
end Go.Proofs.YtfbpcdmpkbjifaaDoor

/- What the program's GoodGrammar answers. -/

namespace Go.Proofs.YtfbpcdmpkbjifaaDoor
open Go.RowKit
open Go.Sort (grow)

/-- All numbers of the right sides are ones that an int can hold. -/
def FitR (rs : List Ru) : Prop := ∀ u ∈ rs, ∀ x ∈ u.r, F64 x

theorem inB_not {lo hi n : Int} (h : inB lo hi n = false) : ¬ (lo ≤ n ∧ n ≤ hi) := by have := inB_no h; omega
theorem inB_and {lo hi n : Int} (h : inB lo hi n = true) : lo ≤ n ∧ n ≤ hi := ⟨inB_lo h, inB_hi h⟩

end Go.Proofs.YtfbpcdmpkbjifaaDoor

/- What the reference's checks of chapter 1 answer. -/

namespace Go.Proofs.YtfbpcdmpkbjifaaDoor
open Go.RowKit
open Go.Sort (grow)

set_option maxHeartbeats 400000 in
theorem l1In_any (n lo hi : Int) (w : World) :
    Calls Tryd.prog 64 #[.int .i64 n, .int .i64 lo, .int .i64 hi] w fun e w' => e = .returned (.bool (inB lo hi n)) ∧ w = w' := by
  by_cases h1 : lo ≤ n
  · by_cases h2 : n ≤ hi
    · have HE : Hid (inB lo hi n = true) := inB_t h1 h2
      go_enter Tryd.func64, Tryd.ntmps64
      go_wp2
      go_ret
      exact ⟨ret_b HE.out.symm, rfl⟩
    · have HE : Hid (inB lo hi n = false) := inB_f (by omega)
      go_enter Tryd.func64, Tryd.ntmps64
      go_wp2
      go_ret
      exact ⟨ret_b HE.out.symm, rfl⟩
  · have HE : Hid (inB lo hi n = false) := inB_f (by omega)
    go_enter Tryd.func64, Tryd.ntmps64
    go_wp2
    go_ret
    exact ⟨ret_b HE.out.symm, rfl⟩

theorem sym_in {n t x : Int} (hn : 1 ≤ n) (ht : 1 ≤ t) : inB (-t) (n - 1) x = symB n t x := by
  unfold inB symB
  rw [Bool.eq_iff_iff]
  simp only [decide_eq_true_eq]
  omega
theorem non_in {n x : Int} : inB 0 (n - 1) x = nonB n x := by
  unfold inB nonB
  rw [Bool.eq_iff_iff]
  simp only [decide_eq_true_eq]
  omega

set_option maxHeartbeats 400000 in
theorem l1Symbol_any (n t x : Int) (v : Value) (w : World) (hn : 1 ≤ n) (hn' : n ≤ 6) (ht : 1 ≤ t) (ht' : t ≤ 4) :
    Calls Tryd.prog 177 #[.agg #[.int .i64 n, .int .i64 t, v], .int .i64 x] w fun e w' => e = .returned (.bool (symB n t x)) ∧ Below w.heap.size w w' := by
  have HS := Lib.hid (sym_in (x := x) hn ht)
  go_enter Tryd.func177, Tryd.ntmps177
  go_wp2_with fail
  refine (l1In_any _ _ _ _).mono ?_
  rintro e w1 ⟨rfl, rfl⟩
  go_wp2
  go_ret
  exact ⟨ret_b HS.out, by go_grown⟩

set_option maxHeartbeats 400000 in
theorem l1Same_any (A A' : Option Addr) (xs ys : List Int) (c c' : Nat) (w : World) (hx : Ints w w.heap.size A xs) (hy : Ints w w.heap.size A' ys) (h1 : xs.length ≤ 1048576) :
    Calls Tryd.prog 173 #[.slice A xs.length c, .slice A' ys.length c'] w fun e w' => e = .returned (.bool (eqL xs ys)) ∧ Below w.heap.size w w' := by
  have HX := Lib.hid hx; clear hx
  have HY := Lib.hid hy; clear hy
  by_cases hl : xs.length = ys.length
  · have hd : ((xs.length : Int) != (ys.length : Int)) = false := bne_f (by omega)
    have hlen : xs.length ≤ ys.length := by omega
    have hlen' : ys.length ≤ xs.length := by omega
    have HL := Lib.hid hl; clear hl
    go_enter Tryd.func173, Tryd.ntmps173
    go_wp2
    go_loopw [13] (fun i wr => ∃ (k : Nat), k ≤ xs.length ∧ i = .int .i64 k ∧ Below w.heap.size w wr ∧ Hid (∀ j : Nat, j < k → xs[j]? = ys[j]?)) (fun i _ => xs.length - (intOf i).toNat)
    case atStart => exact ⟨0, by omega, rfl, Below.refl _ _, fun j h => absurd h (by omega)⟩
    case round =>
      obtain ⟨k, hk, rfl, hB, H⟩ := hrel
      by_cases hlt : k < xs.length
      · have hlt' : k < ys.length := by omega
        obtain ⟨b, o, rfl, hb, c1⟩ := (HX.out.keep hB).at_ hlt
        obtain ⟨b', o', rfl, hb', c2⟩ := (HY.out.keep hB).at_ hlt'
        by_cases hne : xs[k] = ys[k]
        · have ht := bne_f hne
          have HE := Lib.hid hne; clear hne
          go_wp2
          go_quiet (fail)
          go_wp2
          go_roundw
          case rel => exact ⟨k + 1, by omega, by go_num, below_drewN hB _, step_eq hlt hlt' HE.out H.out⟩
          case measure => simp [intOf]; omega
        · have ht := bne_t hne
          have HE : Hid (eqL xs ys = false) := eqL_not hlt hlt' hne
          clear hne
          go_wp2
          go_quiet (fail)
          go_wp2
          go_ret
          exact ⟨ret_bool HE.out.symm, below_drewN hB _⟩
      · have HE : Hid (eqL xs ys = true) := eqL_of HL.out hlt H.out
        go_wp2
        go_ret
        exact ⟨ret_bool HE.out.symm, hB⟩
  · have hd : ((xs.length : Int) != (ys.length : Int)) = true := bne_t (by omega)
    have HE : Hid (eqL xs ys = false) := eqL_f fun e => hl (by rw [e])
    clear hl
    go_enter Tryd.func173, Tryd.ntmps173
    go_wp2
    go_ret
    exact ⟨ret_bool HE.out.symm, Below.refl _ _⟩

set_option maxHeartbeats 400000 in
theorem l1SameRule_any (l l' : Int) (A A' : Option Addr) (xs ys : List Int) (c c' : Nat) (w : World) (hx : Ints w w.heap.size A xs) (hy : Ints w w.heap.size A' ys) (h1 : xs.length ≤ 1048576) :
    Calls Tryd.prog 176 #[.agg #[.int .i64 l, .slice A xs.length c], .agg #[.int .i64 l', .slice A' ys.length c']] w fun e w' => e = .returned (.bool (eqU (l, xs) (l', ys))) ∧ Below w.heap.size w w' := by
  have HX := Lib.hid hx; clear hx
  have HY := Lib.hid hy; clear hy
  by_cases hl : l = l'
  · have hd := beq_t hl
    have HL := Lib.hid hl; clear hl
    cases hq : eqL xs ys
    all_goals
      have HQ := Lib.hid hq; clear hq
      go_enter Tryd.func176, Tryd.ntmps176
      go_wp2_with fail
      refine (l1Same_any _ _ _ _ _ _ _ ?_ ?_ h1).mono ?_
      · exact (HX.out.keep (by go_grown)).more (by go_size)
      · exact (HY.out.keep (by go_grown)).more (by go_size)
      rintro e w1 ⟨rfl, hB⟩
      rw [HQ.out]
      go_wp2
      go_ret
      refine ⟨ret_bool ?_, Below.trans (by go_grown) (hB.mono (by go_size))⟩
    · exact (eqU_f fun e => by have h : xs = ys := congrArg Prod.snd e; rw [eqL_t h] at HQ; cases HQ.out).symm
    · exact (eqU_t (by rw [HL.out, of_decide_eq_true HQ.out])).symm
  · have hd := beq_f hl
    have HE : Hid (eqU (l, xs) (l', ys) = false) := eqU_f fun e => hl (congrArg Prod.fst e)
    clear hl
    go_enter Tryd.func176, Tryd.ntmps176
    go_wp2
    go_ret
    exact ⟨ret_bool HE.out.symm, by go_grown⟩

end Go.Proofs.YtfbpcdmpkbjifaaDoor

/- What the reference's GoodGrammar answers. -/

namespace Go.Proofs.YtfbpcdmpkbjifaaDoor
open Go.RowKit

theorem has_take {rs : List Ru} {k : Nat} (i : Nat) (h : i < k) : (rs.take k)[i]? = rs[i]? := by
  rw [List.getElem?_take, if_pos h]

theorem dup_step {rs : List Ru} {k i : Nat} (hk : k < rs.length) (hi : i < k) (h : eqU rs[k].abs (rs[i]'(by omega)).abs = false) (H : ∀ j : Nat, j < i → ((rs.take k).map Ru.abs)[j]? ≠ some rs[k].abs) :
    ∀ j : Nat, j < i + 1 → ((rs.take k).map Ru.abs)[j]? ≠ some rs[k].abs := by
  intro j hj
  by_cases e : j = i
  · subst e
    rw [List.getElem?_map, has_take j hi, List.getElem?_eq_getElem (by omega)]
    intro h'
    rw [eqU_t (by simpa using h'.symm)] at h
    cases h
  · exact H j (by omega)
theorem dup_t {rs : List Ru} {k i : Nat} (hk : k < rs.length) (hi : i < k) (h : eqU rs[k].abs (rs[i]'(by omega)).abs = true) : hasU ((rs.take k).map Ru.abs) rs[k].abs = true :=
  decide_eq_true (by
    rw [of_decide_eq_true h]
    exact List.mem_map.2 ⟨_, List.mem_iff_getElem?.2 ⟨i, by rw [has_take i hi, List.getElem?_eq_getElem]⟩, rfl⟩)
theorem dup_f {rs : List Ru} {k i : Nat} (hk : k < rs.length) (hi : ¬ i < k) (H : ∀ j : Nat, j < i → ((rs.take k).map Ru.abs)[j]? ≠ some rs[k].abs) : hasU ((rs.take k).map Ru.abs) rs[k].abs = false :=
  decide_eq_false fun h => by
    obtain ⟨j, hj⟩ := List.mem_iff_getElem?.1 h
    have := (List.getElem?_eq_some_iff.1 hj).1
    simp at this
    exact H j (by omega) hj

set_option maxHeartbeats 1000000 in
theorem specGood_any (n t : Int) (A : Option Addr) (c : Nat) (rs : List Ru) (w : World) (hx : Rls w w.heap.size A rs) (hc : rs.length ≤ c) (h1 : rs.length ≤ 1048576) (h2 : ∀ u ∈ rs, u.r.length ≤ 1048576) :
    Calls Tryd.prog 164 #[.agg #[.int .i64 n, .int .i64 t, .slice A rs.length c]] w fun e w' => e = .returned (.bool (goodG n t (rs.map Ru.abs))) ∧ Below w.heap.size w w' := by
  have HX := Lib.hid hx; clear hx
  have H2 := Lib.hid h2; clear h2
  cases hn : inB 1 6 n
  · have HE : Hid (goodG n t (rs.map Ru.abs) = false) := goodG_n (inB_not hn)
    have HN := Lib.hid hn; clear hn
    go_enter Tryd.func164, Tryd.ntmps164
    go_wp2_with fail
    refine (l1In_any _ _ _ _).mono ?_
    rintro e w1 ⟨rfl, rfl⟩
    rw [HN.out]
    go_wp2
    go_ret
    exact ⟨ret_bool HE.out.symm, by go_grown⟩
  have HN := Lib.hid hn; clear hn
  cases ht : inB 1 4 t
  · have HE : Hid (goodG n t (rs.map Ru.abs) = false) := goodG_t (inB_not ht)
    have HT := Lib.hid ht; clear ht
    go_enter Tryd.func164, Tryd.ntmps164
    go_wp2_with fail
    refine (l1In_any _ _ _ _).mono ?_
    rintro e w1 ⟨rfl, rfl⟩
    rw [HN.out]
    go_wp2_with fail
    refine (l1In_any _ _ _ _).mono ?_
    rintro e w1 ⟨rfl, rfl⟩
    rw [HT.out]
    go_wp2
    go_ret
    exact ⟨ret_bool HE.out.symm, by go_grown⟩
  have HT := Lib.hid ht; clear ht
  by_cases hl : rs.length ≤ 16
  case neg =>
    have HE : Hid (goodG n t (rs.map Ru.abs) = false) := goodG_len (by simpa using hl)
    have hl' : ((16 : Int) < (rs.length : Int)) := by omega
    clear hl
    go_enter Tryd.func164, Tryd.ntmps164
    go_wp2_with fail
    refine (l1In_any _ _ _ _).mono ?_
    rintro e w1 ⟨rfl, rfl⟩
    rw [HN.out]
    go_wp2_with fail
    refine (l1In_any _ _ _ _).mono ?_
    rintro e w1 ⟨rfl, rfl⟩
    rw [HT.out]
    go_wp2
    go_ret
    exact ⟨ret_bool HE.out.symm, by go_grown⟩
  have HA : Hid (goodG n t (rs.map Ru.abs) = goodAll n t (rs.map Ru.abs)) := goodG_all (inB_and HN.out) (inB_and HT.out) (by simpa using hl)
  have n1 := inB_lo HN.out
  have n2 := inB_hi HN.out
  have t1 := inB_lo HT.out
  have t2 := inB_hi HT.out
  go_enter Tryd.func164, Tryd.ntmps164
  go_wp2_with fail
  refine (l1In_any _ _ _ _).mono ?_
  rintro e w1 ⟨rfl, rfl⟩
  rw [HN.out]
  go_wp2_with fail
  refine (l1In_any _ _ _ _).mono ?_
  rintro e w1 ⟨rfl, rfl⟩
  rw [HT.out]
  go_wp2
  go_loopw [28] (fun i wr => ∃ (k : Nat), k ≤ rs.length ∧ i = .int .i64 k ∧ Below w.heap.size w wr ∧ Box3 wr w.heap.size (.int .i64 n) (.int .i64 t) (.slice A rs.length c) ∧ Hid (goodTo n t (rs.map Ru.abs) k)) (fun i _ => rs.length - (intOf i).toNat)
  case atStart => exact ⟨0, by omega, rfl, by go_grown, ⟨by simp, by simp [go_sem], by simp [go_sem], by simp [go_sem]⟩, fun j x h => absurd h (by omega)⟩
  case round =>
    obtain ⟨k, hk, rfl, hB, hbox, H⟩ := hrel
    by_cases hlt : k < rs.length
    case neg =>
      have HE : Hid (goodG n t (rs.map Ru.abs) = true) := HA.out.trans (goodAll_of (k := k) (by simpa using hlt) H.out)
      clear hbox
      go_wp2
      go_ret
      exact ⟨ret_bool HE.out.symm, hB⟩
    obtain ⟨b, o, rfl, hb, c1, c2, c3⟩ := (HX.out.keep hB).at_ hlt
    obtain ⟨g0, g1, g2, g3⟩ := id hbox
    have HBX := Lib.hid hbox; clear hbox
    have C3 := Lib.hid (c3.more hB.size); clear c3
    have hlen2 := H2.out rs[k] (List.getElem_mem hlt)
    go_wp2_with fail
    refine (l1In_any _ _ _ _).mono ?_
    rintro e w1 ⟨rfl, rfl⟩
    rw [non_in]
    cases hq : nonB n rs[k].l
    · have HE : Hid (goodG n t (rs.map Ru.abs) = false) := HA.out.trans (goodAll_bad (k := k) (by simpa using hlt) (.inl (by simpa [Ru.abs] using goodU_left hq)))
      have HQ := Lib.hid hq; clear hq
      go_wp2
      go_ret
      exact ⟨ret_bool HE.out.symm, hB.trans (Below.mono (B := wr.heap.size) (by go_grown) hB.size)⟩
    have HQ := Lib.hid hq; clear hq
    by_cases hl4 : rs[k].r.length ≤ 4
    case neg =>
      have HE : Hid (goodG n t (rs.map Ru.abs) = false) := HA.out.trans (goodAll_bad (k := k) (by simpa using hlt) (.inl (by simpa [Ru.abs] using goodU_long (n := n) (t := t) (l := rs[k].l) hl4)))
      have hl4' : ((4 : Int) < (rs[k].r.length : Int)) := by omega
      clear hl4
      go_wp2
      go_ret
      exact ⟨ret_bool HE.out.symm, hB.trans (Below.mono (B := wr.heap.size) (by go_grown) hB.size)⟩
    have HS : Hid (goodU n t rs[k].abs = symsB n t rs[k].r) := goodU_syms HQ.out hl4
    have hBA : Below wr.heap.size wr (wr.alloc (.cells #[.int .i64 rs[k].l, .slice rs[k].a rs[k].r.length rs[k].c] 166)) := by go_grown
    have BU : Box2 (wr.alloc (.cells #[.int .i64 rs[k].l, .slice rs[k].a rs[k].r.length rs[k].c] 166)) wr.heap.size (.int .i64 rs[k].l) (.slice rs[k].a rs[k].r.length rs[k].c) := ⟨by simp, by simp [go_sem], by simp [go_sem]⟩
    generalize (wr.alloc (.cells #[.int .i64 rs[k].l, .slice rs[k].a rs[k].r.length rs[k].c] 166)) = W at hBA BU ⊢
    have HBX2 := Lib.hid (HBX.out.keep hBA g0)
    have C3' := Lib.hid ((C3.out.keep hBA).more hBA.size)
    have HBW := Lib.hid (hB.trans (hBA.mono hB.size))
    obtain ⟨y0, y1, y2⟩ := id BU
    have HBU := Lib.hid BU; clear BU
    clear c1 c2 g1 g2 g3 hBA C3 HBX
    go_wp2
    go_loopw [49] (fun i wr1 => ∃ (j : Nat), j ≤ rs[k].r.length ∧ i = .int .i64 j ∧ Below W.heap.size W wr1 ∧ Hid (∀ (m : Nat) (x : Int), m < j → rs[k].r[m]? = some x → symB n t x = true)) (fun i _ => rs[k].r.length - (intOf i).toNat)
    case atStart => exact ⟨0, by omega, rfl, Below.refl _ _, fun j x h => absurd h (by omega)⟩
    case round =>
      obtain ⟨j, hj, rfl, hB1, H1⟩ := hrel
      have HB1 := Lib.hid hB1; clear hB1
      obtain ⟨_, z0, z1, z2⟩ := HBX2.out.keep HB1.out HBX2.out.1
      clear y1 y2
      by_cases hjl : j < rs[k].r.length
      · obtain ⟨b', o', ha, hb', c1⟩ := (C3'.out.keep HB1.out).at_ hjl
        have HA' := Lib.hid ha; clear ha
        cases hs : symB n t rs[k].r[j]
        all_goals
          have HSY := Lib.hid hs; clear hs
          rw [HA'.out]
          go_wp2_with fail
          refine (l1Symbol_any _ _ _ _ _ n1 n2 t1 t2).mono ?_
          rintro e w3 ⟨rfl, hB3⟩
          rw [HSY.out]
          have HB4 := Lib.hid (HB1.out.trans (hB3.mono HB1.out.size)); clear hB3
          clear z0 z1 z2 c1
        · have HE : Hid (goodG n t (rs.map Ru.abs) = false) := HA.out.trans (goodAll_bad (k := k) (by simpa using hlt) (.inl (by simpa using HS.out.trans (symsB_not hjl HSY.out))))
          go_wp2
          go_ret
          exact ⟨ret_bool HE.out.symm, HBW.out.trans (HB4.out.mono HBW.out.size)⟩
        · go_wp2
          go_roundw
          case rel => exact ⟨j + 1, by omega, by go_num, HB4.out, syms_step hjl HSY.out H1.out⟩
          case measure => simp [intOf]; omega
      · have HG : Hid (goodU n t rs[k].abs = true) := HS.out.trans (symsB_of hjl H1.out)
        have HRW := Lib.hid (((HX.out.keep HBW.out).more HBW.out.size).keep HB1.out)
        obtain ⟨_, v0, v1⟩ := HBU.out.keep HB1.out HBU.out.1
        go_wp2
        go_loopw [63] (fun i wr2 => ∃ (j : Nat), j ≤ k ∧ i = .int .i64 j ∧ Below W.heap.size W wr2 ∧ Hid (∀ m : Nat, m < j → ((rs.take k).map Ru.abs)[m]? ≠ some rs[k].abs)) (fun i _ => k - (intOf i).toNat)
        case atStart => exact ⟨0, by omega, rfl, HB1.out, fun j h => absurd h (by omega)⟩
        case round =>
          clear v0 v1 z0 z1 z2 HB1 HRW
          obtain ⟨i, hi, rfl, hB2, H3⟩ := hrel
          have HB2 := Lib.hid hB2; clear hB2
          by_cases hik : i < k
          · have hil : i < rs.length := by omega
            obtain ⟨v0, v1, v2⟩ := HBU.out.keep HB2.out HBU.out.1
            have hRW := ((HX.out.keep HBW.out).more HBW.out.size).keep HB2.out
            obtain ⟨b', o', ha, hb', d1, d2, d3⟩ := hRW.at_ hil
            injection ha with ha
            injection ha with ha1 ha2
            subst ha1 ha2
            have HD3 := Lib.hid (d3.more HB2.out.size); clear d3
            have HC3 := Lib.hid ((C3'.out.keep HB2.out).more HB2.out.size)
            clear hRW
            cases hq : eqU rs[k].abs rs[i].abs
            all_goals
              have HQ2 := Lib.hid hq; clear hq
              go_wp2_with fail
              refine (l1SameRule_any _ _ _ _ _ _ _ _ _ ?_ ?_ hlen2).mono ?_
              · exact (HC3.out.keep (by go_grown)).more (by go_size)
              · exact (HD3.out.keep (by go_grown)).more (by go_size)
              rintro e w3 ⟨rfl, hB3⟩
              have HB4 : Hid (Below W.heap.size W w3) := HB2.out.trans (Below.trans (Below.mono (B := wr.heap.size) (by go_grown) HB2.out.size) (hB3.mono (by have := HB2.out.size; simp; omega)))
              clear hB3
              rw [show eqU (rs[k].l, rs[k].r) (rs[i].l, rs[i].r) = _ from HQ2.out]
            · go_wp2
              go_roundw
              case rel => exact ⟨i + 1, by omega, by go_num, HB4.out, dup_step hlt hik HQ2.out H3.out⟩
              case measure => simp [intOf]; omega
            · have HE : Hid (goodG n t (rs.map Ru.abs) = false) := HA.out.trans (goodAll_bad (k := k) (by simpa using hlt) (.inr (by rw [← List.map_take]; simpa using dup_t hlt hik HQ2.out)))
              go_wp2
              go_ret
              exact ⟨ret_bool HE.out.symm, HBW.out.trans (HB4.out.mono HBW.out.size)⟩
          · go_wp2
            go_roundw
            case rel => exact ⟨k + 1, by omega, by go_num, HBW.out.trans (HB2.out.mono HBW.out.size), HBX2.out.keep HB2.out HBX2.out.1, goodTo_step (by simpa using hlt) (by simpa using HG.out) (by rw [← List.map_take]; simpa using dup_f hlt hik H3.out) H.out⟩
            case measure => simp [intOf]; omega

end Go.Proofs.YtfbpcdmpkbjifaaDoor

/- What two readings of the same rules share; what a law's call has to end in. -/

namespace Go.Proofs.YtfbpcdmpkbjifaaDoor
open Go.RowKit
open Go.Sort (grow)

theorem abs_mem {rs ss : List Ru} (h : ss.map Ru.abs = rs.map Ru.abs) {u : Ru} (hu : u ∈ ss) : ∃ v ∈ rs, v.l = u.l ∧ v.r = u.r := by
  have : u.abs ∈ rs.map Ru.abs := h ▸ List.mem_map.2 ⟨u, hu, rfl⟩
  obtain ⟨v, hv, e⟩ := List.mem_map.1 this
  exact ⟨v, hv, congrArg Prod.fst e, congrArg Prod.snd e⟩
theorem abs_len {rs ss : List Ru} (h : ss.map Ru.abs = rs.map Ru.abs) : ss.length = rs.length := by simpa using congrArg List.length h
theorem abs_lens {rs ss : List Ru} (h : ss.map Ru.abs = rs.map Ru.abs) {m : Nat} (hu : ∀ u ∈ rs, u.r.length ≤ m) : ∀ u ∈ ss, u.r.length ≤ m := fun u hm => by
  obtain ⟨v, hv, _, e⟩ := abs_mem h hm
  rw [← e]; exact hu v hv
theorem abs_fit {rs ss : List Ru} (h : ss.map Ru.abs = rs.map Ru.abs) (hf : FitR rs) : FitR ss := fun u hm => by
  obtain ⟨v, hv, _, e⟩ := abs_mem h hm
  rw [← e]; exact hf v hv
theorem eqG_t {n t : Int} {rs ss : List (Int × List Int)} (h : rs = ss) : eqG n t rs n t ss = true := decide_eq_true ⟨rfl, rfl, h⟩

/-- What a law's call has to end in. -/
def LawEnds (w : World) (e : Ending) (w' : World) : Prop := e = .returned (.bool true) ∧ Below w.heap.size w w'

end Go.Proofs.YtfbpcdmpkbjifaaDoor

/- What the laws' marks write, and what they find again. -/

namespace Go.Proofs.YtfbpcdmpkbjifaaDoor
open Go.RowKit

/-- Only blocks of S have turned; new blocks may have come. -/
structure Save (S : Nat → Prop) (w w' : World) : Prop where
  os : w'.os = w.os
  tape : w'.tape = w.tape
  output : w'.output = w.output
  size : w.heap.size ≤ w'.heap.size
  block : ∀ b, b < w.heap.size → ¬ S b → w'.heap[b]? = w.heap[b]?

theorem Save.refl (S : Nat → Prop) (w : World) : Save S w w := ⟨rfl, rfl, rfl, Nat.le_refl _, fun _ _ _ => rfl⟩
theorem Save.trans {S : Nat → Prop} {a b c : World} (h : Save S a b) (k : Save S b c) : Save S a c :=
  ⟨k.os.trans h.os, k.tape.trans h.tape, k.output.trans h.output, Nat.le_trans h.size k.size, fun i hi hs => (k.block i (by have := h.size; omega) hs).trans (h.block i hi hs)⟩
theorem Save.wider {S T : Nat → Prop} {a b : World} (h : Save S a b) (hT : ∀ i, S i → T i) : Save T a b :=
  ⟨h.os, h.tape, h.output, h.size, fun i hi hs => h.block i hi fun hS => hs (hT i hS)⟩
theorem Save.of_below {S : Nat → Prop} {a b : World} (h : Below a.heap.size a b) : Save S a b := ⟨h.os, h.tape, h.output, h.size, fun i hi _ => h.block i hi⟩
theorem Save.below {S : Nat → Prop} {a b : World} {B : Nat} (h : Save S a b) (hB : B ≤ a.heap.size) (hS : ∀ i, i < B → ¬ S i) : Below B a b :=
  ⟨h.os, h.tape, h.output, h.size, fun i hi => h.block i (by omega) (hS i hi)⟩
theorem Save.setCell {S : Nat → Prop} {a w : World} (h : Save S a w) {p : Addr} (hp : S p.block) (u : Value) : Save S a (w.setCell p u) :=
  h.trans ⟨rfl, rfl, rfl, by simp [World.setCell], fun k _ hs => Below.heap_setCell _ _ _ _ (fun e => hs (e ▸ hp))⟩

theorem Row.save {S : Nat → Prop} {w w' : World} {g : Nat} {t : TypeId} {cs : Array Value} (h : Row w g t cs) (hs : Save S w w') (hg : ¬ S g) : Row w' g t cs := (hs.block g h.lt hg).trans h

theorem OwnI.save {S : Nat → Prop} {w w' : World} {lo : Nat} {A : Option Addr} {xs : List Int} (h : OwnI w lo A xs) (hs : Save S w w') (hA : ∀ g, A = some ⟨g, 0, none⟩ → xs ≠ [] → ¬ S g) : OwnI w' lo A xs := by
  by_cases e : xs = []
  · exact .inl e
  · rcases h with h | ⟨g, cs, ea, hl, hr, hc⟩
    · exact .inl h
    · exact .inr ⟨g, cs, ea, hl, hr.save hs (hA g ea e), hc⟩

theorem OwnI.at_ {w : World} {lo : Nat} {A : Option Addr} {xs : List Int} (h : OwnI w lo A xs) {i : Nat} (hi : i < xs.length) :
    ∃ g, A = some ⟨g, 0, none⟩ ∧ lo ≤ g ∧ g < w.heap.size ∧ w.cell? ⟨g, i, none⟩ = some (.int .i64 xs[i]) ∧ w.frozen? ⟨g, i, none⟩ = false := by
  rcases h with h | ⟨g, cs, ea, hl, hr, hc⟩
  · subst h; simp at hi
  · exact ⟨g, ea, hl, hr.lt, by rw [hr.cell]; exact hc i _ (List.getElem?_eq_getElem hi), hr.frozen i⟩

theorem OwnI.set {w : World} {lo g : Nat} {xs : List Int} (h : OwnI w lo (some ⟨g, 0, none⟩) xs) {i : Nat} (hi : i < xs.length) (x : Int) :
    OwnI (w.setCell ⟨g, i, none⟩ (.int .i64 x)) lo (some ⟨g, 0, none⟩) (xs.set i x) := by
  rcases h with h | ⟨g', cs, ea, hl, hr, hc⟩
  · subst h; simp at hi
  · injection ea with ea
    injection ea with ea
    subst ea
    have hlt : i < cs.size := (Array.getElem?_eq_some_iff.1 (hc i _ (List.getElem?_eq_getElem hi))).1
    refine .inr ⟨g, cs.setIfInBounds i (.int .i64 x), rfl, hl, hr.set i _, fun k y hy => ?_⟩
    rw [List.getElem?_set] at hy
    rw [Array.getElem?_setIfInBounds]
    by_cases e : i = k
    · subst e
      rw [if_pos rfl, if_pos hi] at hy
      rw [if_pos rfl, if_pos hlt]
      simpa using hy
    · rw [if_neg e] at hy ⊢
      exact hc k y hy

/-- k, k + 1, .. : n numbers. -/
def seqL (k : Int) (n : Nat) : List Int := (List.range n).map fun (i : Nat) => k + (i : Int)
theorem seqL_length (k : Int) (n : Nat) : (seqL k n).length = n := by simp [seqL]
theorem seqL_get {k : Int} {n i : Nat} (h : i < n) : (seqL k n)[i]? = some (k + (i : Int)) := by simp [seqL, h]
theorem seqL_at {k : Int} {n i : Nat} (h : i < (seqL k n).length) : (seqL k n)[i] = k + (i : Int) := by simp [seqL]
theorem seqL_ne {k : Int} {n : Nat} (h : n ≠ 0) : seqL k n ≠ [] := fun e => h (by have := congrArg List.length e; rwa [seqL_length] at this)

def midL (k : Int) (xs : List Int) (j : Nat) : List Int := seqL k j ++ xs.drop j
theorem midL_length {k : Int} {xs : List Int} {j : Nat} (h : j ≤ xs.length) : (midL k xs j).length = xs.length := by simp [midL, seqL_length]; omega
theorem midL_zero (k : Int) (xs : List Int) : midL k xs 0 = xs := by simp [midL, seqL]
theorem midL_all (k : Int) (xs : List Int) : midL k xs xs.length = seqL k xs.length := by simp [midL]
theorem midL_step {k : Int} {xs : List Int} {j : Nat} (h : j < xs.length) : (midL k xs j).set j (k + (j : Int)) = midL k xs (j + 1) := by
  apply List.ext_getElem?
  intro i
  simp only [midL, List.getElem?_set, List.length_append, seqL_length, List.length_drop]
  by_cases e : j = i
  · subst e
    rw [if_pos rfl, if_pos (by omega), List.getElem?_append_left (by rw [seqL_length]; omega), seqL_get (by omega)]
  · rw [if_neg e]
    by_cases hi : i < j
    · rw [List.getElem?_append_left (by rw [seqL_length]; omega), List.getElem?_append_left (by rw [seqL_length]; omega), seqL_get hi, seqL_get (by omega)]
    · rw [List.getElem?_append_right (by rw [seqL_length]; omega), List.getElem?_append_right (by rw [seqL_length]; omega), seqL_length, seqL_length, List.getElem?_drop, List.getElem?_drop]
      congr 1
      omega

/-- The blocks of one slice that is not empty. -/
def Its (A : Option Addr) (xs : List Int) (b : Nat) : Prop := A = some ⟨b, 0, none⟩ ∧ xs ≠ []

def MarkedI (w : World) (lo : Nat) (A : Option Addr) (xs : List Int) (k : Int) (e : Ending) (w' : World) : Prop :=
  e = .returned (.int .i64 (k + xs.length)) ∧ OwnI w' lo A (seqL k xs.length) ∧ Save (Its A xs) w w'

set_option maxHeartbeats 400000 in
theorem markIntS_any (A : Option Addr) (xs : List Int) (c lo : Nat) (k : Int) (w : World) (h : OwnI w lo A xs) (hn : xs.length ≤ 1048576) (hk : 0 ≤ k) (hk' : k ≤ 4398046511104) :
    Calls Tryd.prog 15 #[.slice A xs.length c, .int .i64 k] w (MarkedI w lo A xs k) := by
  have HO := Lib.hid h; clear h
  go_enter Tryd.func15, Tryd.ntmps15
  go_wp2
  go_loopw [1, 5] (fun v i wr => ∃ (j : Nat), j ≤ xs.length ∧ i = .int .i64 j ∧ v = .int .i64 (k + j) ∧ Hid (OwnI wr lo A (midL k xs j)) ∧ Hid (Save (Its A xs) w wr)) (fun _ i _ => xs.length - (intOf i).toNat)
  case atStart => exact ⟨0, by omega, rfl, by simp, by show OwnI _ _ _ _; rw [midL_zero]; exact HO.out, Save.refl _ _⟩
  case round =>
    obtain ⟨j, hj, rfl, rfl, H, HS⟩ := hrel
    by_cases hlt : j < xs.length
    · obtain ⟨g, rfl, _, _, c1, f1⟩ := H.out.at_ (i := j) (by rw [midL_length hj]; exact hlt)
      have hne : xs ≠ [] := fun e => by subst e; simp at hlt
      have HNE := Lib.hid hne; clear hne
      go_wp2
      go_roundw
      case rel => exact ⟨j + 1, by omega, by go_num, by go_num, by show OwnI _ _ _ _; rw [← midL_step hlt]; exact H.out.set (by rw [midL_length hj]; exact hlt) _, HS.out.setCell ⟨rfl, HNE.out⟩ _⟩
      case measure => simp [intOf]; omega
    · obtain rfl : j = xs.length := by omega
      go_wp2
      go_ret
      exact ⟨rfl, by rw [← midL_all]; exact H.out, HS.out⟩

set_option maxHeartbeats 400000 in
theorem heldIntS_any (A : Option Addr) (n c : Nat) (k : Int) (w : World) (h : Ints w w.heap.size A (seqL k n)) (hn : n ≤ 1048576) (hk : 0 ≤ k) (hk' : k ≤ 4398046511104) :
    Calls Tryd.prog 16 #[.slice A n c, .int .i64 k] w fun e w' => e = .returned (.int .i64 (k + n)) ∧ Below w.heap.size w w' := by
  have HO := Lib.hid h; clear h
  go_enter Tryd.func16, Tryd.ntmps16
  go_wp2
  go_loopw [1, 5] (fun v i wr => ∃ (j : Nat), j ≤ n ∧ i = .int .i64 j ∧ v = .int .i64 (k + j) ∧ Below w.heap.size w wr) (fun _ i _ => n - (intOf i).toNat)
  case atStart => exact ⟨0, by omega, rfl, by simp, Below.refl _ _⟩
  case round =>
    obtain ⟨j, hj, rfl, rfl, hB⟩ := hrel
    by_cases hlt : j < n
    · obtain ⟨b, o, rfl, hb, c1⟩ := (HO.out.keep hB).at_ (k := j) (by rw [seqL_length]; exact hlt)
      rw [seqL_at] at c1
      have hne : ((k + (j : Int)) != (k + (j : Int))) = false := by simp
      go_wp2
      go_roundw
      case rel => exact ⟨j + 1, by omega, by go_num, by go_num, hB⟩
      case measure => simp [intOf]; omega
    · obtain rfl : j = n := by omega
      go_wp2
      go_ret
      exact ⟨rfl, hB⟩

end Go.Proofs.YtfbpcdmpkbjifaaDoor

/- What the laws' marks write into a grammar, and what they find again. -/

namespace Go.Proofs.YtfbpcdmpkbjifaaDoor
open Go.RowKit

theorem OwnR.at_ {w : World} {lo : Nat} {A : Option Addr} {rs : List Ru} (h : OwnR w lo A rs) {i : Nat} (hi : i < rs.length) :
    ∃ g, A = some ⟨g, 0, none⟩ ∧ lo ≤ g ∧ g < w.heap.size ∧ w.cell? ⟨g, i * 2, none⟩ = some (.int .i64 rs[i].l) ∧ w.cell? ⟨g, i * 2 + 1, none⟩ = some (.slice rs[i].a rs[i].r.length rs[i].c) ∧ w.frozen? ⟨g, i * 2, none⟩ = false ∧ w.frozen? ⟨g, i * 2 + 1, none⟩ = false ∧ OwnI w lo rs[i].a rs[i].r := by
  rcases h with h | ⟨g, cs, ea, hl, hr, hc, _⟩
  · subst h; simp at hi
  · obtain ⟨h1, h2, h3⟩ := hc i _ (List.getElem?_eq_getElem hi)
    exact ⟨g, ea, hl, hr.lt, by rw [hr.cell]; exact h1, by rw [hr.cell]; exact h2, hr.frozen _, hr.frozen _, h3⟩

theorem OwnR.setLeft {w : World} {lo g : Nat} {rs : List Ru} (h : OwnR w lo (some ⟨g, 0, none⟩) rs) {i : Nat} (hi : i < rs.length) (x : Int) :
    OwnR (w.setCell ⟨g, i * 2, none⟩ (.int .i64 x)) lo (some ⟨g, 0, none⟩) (rs.set i { rs[i] with l := x }) := by
  rcases h with h | ⟨g', cs, ea, hl, hr, hc, hd⟩
  · subst h; simp at hi
  · injection ea with ea
    injection ea with ea
    subst ea
    have hlt : i * 2 < cs.size := (Array.getElem?_eq_some_iff.1 (hc i _ (List.getElem?_eq_getElem hi)).1).1
    have keep : ∀ {A' : Option Addr} {xs : List Int}, OwnI w lo A' xs → OwnI (w.setCell ⟨g, i * 2, none⟩ (.int .i64 x)) lo A' xs := by
      intro A' xs h
      rcases h with h | ⟨g', cs', e, hl', hr', hc'⟩
      · exact .inl h
      · exact .inr ⟨g', cs', e, hl', hr'.far (hr'.ne hr (by decide)) _, hc'⟩
    refine .inr ⟨g, cs.setIfInBounds (i * 2) (.int .i64 x), rfl, hl, hr.set _ _, fun k u hu => ?_, fun a b u v hu hv hab hun hvn => ?_⟩
    · rw [List.getElem?_set] at hu
      by_cases e : i = k
      · subst e
        rw [if_pos rfl, if_pos hi] at hu
        injection hu with hu
        subst hu
        obtain ⟨_, h2, h3⟩ := hc i _ (List.getElem?_eq_getElem hi)
        refine ⟨by rw [Array.getElem?_setIfInBounds, if_pos rfl, if_pos hlt], ?_, keep h3⟩
        rw [Array.getElem?_setIfInBounds, if_neg (by omega)]; exact h2
      · rw [if_neg e] at hu
        obtain ⟨h1, h2, h3⟩ := hc k u hu
        refine ⟨?_, ?_, keep h3⟩
        · rw [Array.getElem?_setIfInBounds, if_neg (by omega)]; exact h1
        · rw [Array.getElem?_setIfInBounds, if_neg (by omega)]; exact h2
    · have old : ∀ (j : Nat) (y : Ru), (rs.set i { rs[i] with l := x })[j]? = some y → ∃ z, rs[j]? = some z ∧ z.a = y.a ∧ z.r = y.r := by
        intro j y hy
        rw [List.getElem?_set] at hy
        by_cases e : i = j
        · subst e
          rw [if_pos rfl, if_pos hi] at hy
          injection hy with hy
          subst hy
          exact ⟨rs[i], List.getElem?_eq_getElem hi, rfl, rfl⟩
        · rw [if_neg e] at hy
          exact ⟨y, hy, rfl, rfl⟩
      obtain ⟨u', hu', e1, e2⟩ := old a u hu
      obtain ⟨v', hv', e3, e4⟩ := old b v hv
      rw [← e1, ← e3]
      exact hd a b u' v' hu' hv' hab (by rw [e2]; exact hun) (by rw [e4]; exact hvn)

theorem OwnR.setRight {w w' : World} {lo : Nat} {A : Option Addr} {rs : List Ru} (h : OwnR w lo A rs) {i : Nat} (hi : i < rs.length) {ys : List Int} (hy : ys.length = rs[i].r.length)
    (hO : OwnI w' lo rs[i].a ys) (hs : Save (Its rs[i].a rs[i].r) w w') : OwnR w' lo A (rs.set i { rs[i] with r := ys }) := by
  rcases h with h | ⟨g, cs, ea, hl, hr, hc, hd⟩
  · subst h; simp at hi
  · have hgi : ¬ Its rs[i].a rs[i].r g := by
      rintro ⟨e1, e2⟩
      rcases (hc i _ (List.getElem?_eq_getElem hi)).2.2 with h3 | ⟨g', cs', e3, _, hr', _⟩
      · exact e2 h3
      · rw [e1] at e3
        injection e3 with e3
        injection e3 with e3
        exact hr'.ne hr (by decide) e3.symm
    refine .inr ⟨g, cs, ea, hl, hr.save hs hgi, fun k u hu => ?_, fun a b u v hu hv hab hun hvn => ?_⟩
    · rw [List.getElem?_set] at hu
      by_cases e : i = k
      · subst e
        rw [if_pos rfl, if_pos hi] at hu
        injection hu with hu
        subst hu
        obtain ⟨h1, h2, _⟩ := hc i _ (List.getElem?_eq_getElem hi)
        exact ⟨h1, by rw [hy]; exact h2, hO⟩
      · rw [if_neg e] at hu
        obtain ⟨h1, h2, h3⟩ := hc k u hu
        refine ⟨h1, h2, h3.save hs fun g' e1 e2 hI => ?_⟩
        exact hd k i u rs[i] hu (List.getElem?_eq_getElem hi) (Ne.symm e) e2 hI.2 (e1.trans hI.1.symm)
    · have old : ∀ (j : Nat) (y : Ru), (rs.set i { rs[i] with r := ys })[j]? = some y → ∃ z, rs[j]? = some z ∧ z.a = y.a ∧ (y.r ≠ [] → z.r ≠ []) := by
        intro j y hy'
        rw [List.getElem?_set] at hy'
        by_cases e : i = j
        · subst e
          rw [if_pos rfl, if_pos hi] at hy'
          injection hy' with hy'
          subst hy'
          refine ⟨rs[i], List.getElem?_eq_getElem hi, rfl, fun hn e => hn ?_⟩
          have : ys.length = 0 := by rw [hy, e]; rfl
          exact List.eq_nil_of_length_eq_zero this
        · rw [if_neg e] at hy'
          exact ⟨y, hy', rfl, id⟩
      obtain ⟨u', hu', e1, e2⟩ := old a u hu
      obtain ⟨v', hv', e3, e4⟩ := old b v hv
      rw [← e1, ← e3]
      exact hd a b u' v' hu' hv' hab (e2 hun) (e4 hvn)

/-- How many numbers the first i rules hold. -/
def cntTo (rs : List Ru) (i : Nat) : Nat := ((rs.take i).map fun u => 1 + u.r.length).sum
theorem cntTo_succ {rs : List Ru} {i : Nat} (hi : i < rs.length) : cntTo rs (i + 1) = cntTo rs i + (1 + rs[i].r.length) := by
  unfold cntTo
  rw [List.take_succ_eq_append_getElem hi, List.map_append, List.sum_append]
  simp
theorem cntTo_zero (rs : List Ru) : cntTo rs 0 = 0 := by simp [cntTo]

def markU (k : Int) (u : Ru) : Ru := { u with l := k, r := seqL (k + 1) u.r.length }
/-- The rules with the first i of them marked from k on. -/
def markL (k : Int) (rs : List Ru) (i : Nat) : List Ru := rs.mapIdx fun j u => if j < i then markU (k + (cntTo rs j : Int)) u else u
theorem markL_length (k : Int) (rs : List Ru) (i : Nat) : (markL k rs i).length = rs.length := by simp [markL]
theorem markL_at {k : Int} {rs : List Ru} {i j : Nat} (h : j < rs.length) (hj : j < (markL k rs i).length) : (markL k rs i)[j] = if j < i then markU (k + (cntTo rs j : Int)) rs[j] else rs[j] := by simp [markL]
theorem markL_zero (k : Int) (rs : List Ru) : markL k rs 0 = rs := by
  apply List.ext_getElem?
  intro j
  simp [markL]
theorem markL_step {k : Int} {rs : List Ru} {i : Nat} (h : i < rs.length) : (markL k rs i).set i (markU (k + (cntTo rs i : Int)) rs[i]) = markL k rs (i + 1) := by
  apply List.ext_getElem?
  intro j
  rw [List.getElem?_set, markL_length]
  by_cases e : i = j
  · subst e
    rw [if_pos rfl, if_pos h]
    simp [markL, h]
  · rw [if_neg e]
    simp only [markL, List.getElem?_mapIdx]
    by_cases hj : j < rs.length
    · rw [List.getElem?_eq_getElem hj]
      simp only [Option.map_some]
      congr 1
      by_cases hji : j < i
      · rw [if_pos hji, if_pos (by omega)]
      · rw [if_neg hji, if_neg (by omega)]
    · rw [List.getElem?_eq_none (by omega)]
      rfl

/-- The blocks of a slice of rules and of their right sides. -/
def ItsR (A : Option Addr) (rs : List Ru) (b : Nat) : Prop := (A = some ⟨b, 0, none⟩ ∧ rs ≠ []) ∨ ∃ (i : Nat) (u : Ru), rs[i]? = some u ∧ Its u.a u.r b

def MarkedR (w : World) (lo : Nat) (A : Option Addr) (rs : List Ru) (k : Int) (e : Ending) (w' : World) : Prop :=
  e = .returned (.int .i64 (k + (cntTo rs rs.length : Int))) ∧ OwnR w' lo A (markL k rs rs.length) ∧ Save (ItsR A rs) w w'

theorem set_left_right {rs : List Ru} {i : Nat} (h : i < rs.length) (x : Int) (ys : List Int) :
    ((rs.set i { rs[i] with l := x }).set i { (rs.set i { rs[i] with l := x })[i]'(by simpa using h) with r := ys }) = rs.set i { rs[i] with l := x, r := ys } := by
  rw [List.set_set]
  congr 1
  simp

theorem mark_right {wr : World} {lo g j : Nat} {rs : List Ru} {k : Int} (H : OwnR wr lo (some ⟨g, 0, none⟩) (markL k rs j)) (hlt : j < rs.length) (x : Int) : OwnI (wr.setCell ⟨g, j * 2, none⟩ (.int .i64 x)) lo rs[j].a rs[j].r := by
  have hlt' : j < (markL k rs j).length := by rw [markL_length]; exact hlt
  have hat : (markL k rs j)[j] = rs[j] := by rw [markL_at hlt, if_neg (by omega)]
  obtain ⟨_, _, _, _, _, _, _, _, h3⟩ := (H.setLeft hlt' x).at_ (i := j) (by simpa using hlt')
  simpa [hat] using h3

theorem mark_next {wr w1 : World} {lo g j : Nat} {rs : List Ru} {k : Int} (H : OwnR wr lo (some ⟨g, 0, none⟩) (markL k rs j)) (hlt : j < rs.length)
    (hO : OwnI w1 lo rs[j].a (seqL (k + (cntTo rs j : Int) + 1) rs[j].r.length)) (hS : Save (Its rs[j].a rs[j].r) (wr.setCell ⟨g, j * 2, none⟩ (.int .i64 (k + (cntTo rs j : Int)))) w1) :
    OwnR w1 lo (some ⟨g, 0, none⟩) (markL k rs (j + 1)) := by
  have hlt' : j < (markL k rs j).length := by rw [markL_length]; exact hlt
  have hat : (markL k rs j)[j] = rs[j] := by rw [markL_at hlt, if_neg (by omega)]
  have h2 := (H.setLeft hlt' (k + (cntTo rs j : Int))).setRight (i := j) (w' := w1) (ys := seqL (k + (cntTo rs j : Int) + 1) rs[j].r.length) (by simpa using hlt') (by simp [hat, seqL_length]) (by simpa [hat] using hO) (by simpa [hat] using hS)
  rw [set_left_right] at h2
  rw [← markL_step hlt]
  simpa [hat, markU] using h2

theorem cntTo_le {rs : List Ru} (hu : ∀ u ∈ rs, u.r.length ≤ 1048576) (i : Nat) : cntTo rs i ≤ i * 1048577 := by
  induction i with
  | zero => simp [cntTo_zero]
  | succ i ih =>
    by_cases h : i < rs.length
    · have := hu rs[i] (List.getElem_mem h)
      rw [cntTo_succ h]; omega
    · have e : cntTo rs (i + 1) = cntTo rs i := by unfold cntTo; rw [List.take_of_length_le (by omega), List.take_of_length_le (by omega)]
      omega

end Go.Proofs.YtfbpcdmpkbjifaaDoor

/- Which blocks an owned list or an owned list of rules takes. -/

namespace Go.Proofs.YtfbpcdmpkbjifaaDoor
open Go.RowKit

theorem OwnI.its {w : World} {lo : Nat} {A : Option Addr} {xs : List Int} (h : OwnI w lo A xs) {b : Nat} (hb : Its A xs b) : lo ≤ b ∧ b < w.heap.size := by
  rcases h with h | ⟨g, cs, e, hl, hr, _⟩
  · exact absurd h hb.2
  · have := hb.1.symm.trans e
    injection this with this
    injection this with this
    subst this
    exact ⟨hl, hr.lt⟩

theorem OwnR.its {w : World} {lo : Nat} {A : Option Addr} {rs : List Ru} (h : OwnR w lo A rs) {b : Nat} (hb : ItsR A rs b) : lo ≤ b ∧ b < w.heap.size := by
  rcases h with h | ⟨g, cs, e, hl, hr, hc, _⟩
  · subst h
    rcases hb with hb | ⟨i, u, hu, _⟩
    · exact absurd rfl hb.2
    · simp at hu
  · rcases hb with ⟨hb, _⟩ | ⟨i, u, hu, hI⟩
    · have := hb.symm.trans e
      injection this with this
      injection this with this
      subst this
      exact ⟨hl, hr.lt⟩
    · exact (hc i u hu).2.2.its hI

theorem OwnI.kept {S : Nat → Prop} {w w' : World} {lo : Nat} {A : Option Addr} {xs : List Int} (h : OwnI w lo A xs) (hs : Save S w w') (hd : ∀ b, Its A xs b → ¬ S b) : OwnI w' lo A xs :=
  h.save hs fun g e hn => hd g ⟨e, hn⟩

theorem eqL_refl (xs : List Int) : eqL xs xs = true := eqL_t rfl

end Go.Proofs.YtfbpcdmpkbjifaaDoor
