/- Plain mathematics of chapter 8: cells in touch, races; and areInTouch, l8Touch. -/
import Derived.Test.YtfbpcdmpkbjifaaDoorWA05
import Derived.Test.YtfbpcdmpkbjifaaDoorWA04
import Derived.Test.YtfbpcdmpkbjifaaDoorWA02
import Derived.Test.YtfbpcdmpkbjifaaDoorWA01
import Derived.Test.YtfbpcdmpkbjifaaDoorWA03

namespace Go.Proofs.YtfbpcdmpkbjifaaDoor
open Go.RowKit

/-- Both are cells, and begin or end together. -/
def touchB (a b : Dn) : Bool := (a.k == 1) && ((b.k == 1) && ((a.f == b.f) || (a.t == b.t)))
/-- The pairs of i and a later place, below j, that race. -/
noncomputable def racJ (ds : List Dn) (i : Nat) : Nat → List (List Int)
  | 0 => []
  | j + 1 => if (decide (i < j) && (touchB (ds.getD i default) (ds.getD j default) && !bP (Ahead ds i j))) = true then racJ ds i j ++ [[(i : Int), (j : Int)]] else racJ ds i j
noncomputable def racA (ds : List Dn) : Nat → List (List Int)
  | 0 => []
  | i + 1 => racA ds i ++ racJ ds i ds.length
theorem racJ_start (ds : List Dn) (i : Nat) : ∀ j, j ≤ i + 1 → racJ ds i j = []
  | 0, _ => rfl
  | j + 1, h => by rw [racJ, if_neg (by rw [decide_eq_false (by omega)]; simp)]; exact racJ_start ds i j (by omega)
theorem racJ_yes {ds : List Dn} {i j : Nat} (h : i < j) (ht : touchB (ds.getD i default) (ds.getD j default) = true) (ha : bP (Ahead ds i j) = false) : racJ ds i (j + 1) = racJ ds i j ++ [[(i : Int), (j : Int)]] := by
  rw [racJ, if_pos (by rw [decide_eq_true h, ht, ha]; rfl)]
theorem racJ_no {ds : List Dn} {i j : Nat} (h : touchB (ds.getD i default) (ds.getD j default) = false ∨ bP (Ahead ds i j) = true) : racJ ds i (j + 1) = racJ ds i j := by
  rw [racJ, if_neg]
  rcases h with h | h <;> (rw [h]; simp)
theorem racJ_len (ds : List Dn) (i : Nat) : ∀ j, (racJ ds i j).length ≤ j
  | 0 => Nat.le_refl _
  | j + 1 => by
    have := racJ_len ds i j
    rw [racJ]
    split
    · simp; omega
    · omega
theorem racJ_lens (ds : List Dn) (i : Nat) : ∀ j, ∀ z ∈ racJ ds i j, z.length = 2
  | 0, z, h => by simp [racJ] at h
  | j + 1, z, h => by
    rw [racJ] at h
    split at h
    · rcases List.mem_append.1 h with h | h
      · exact racJ_lens ds i j z h
      · rw [List.mem_singleton] at h; subst h; rfl
    · exact racJ_lens ds i j z h
theorem racA_len (ds : List Dn) : ∀ i, (racA ds i).length ≤ i * ds.length
  | 0 => by simp [racA]
  | i + 1 => by
    have h1 := racA_len ds i
    have h2 := racJ_len ds i ds.length
    rw [racA, List.length_append, Nat.succ_mul]
    omega
theorem racA_lens (ds : List Dn) : ∀ i, ∀ z ∈ racA ds i, z.length = 2
  | 0, z, h => by simp [racA] at h
  | i + 1, z, h => by
    rw [racA] at h
    rcases List.mem_append.1 h with h | h
    · exact racA_lens ds i z h
    · exact racJ_lens ds i _ z h

def RacOK (n hs : Int) (ds : List Dn) : Prop := (0 ≤ n ∧ n ≤ 10) ∧ GoodW hs ds
noncomputable def racO (n hs : Int) (ds : List Dn) : Bool := bP (RacOK n hs ds)
noncomputable def racV (n hs : Int) (ds : List Dn) : List (List Int) := if racO n hs ds then racA ds ds.length else []
theorem racV_len (n hs : Int) (ds : List Dn) : (racV n hs ds).length ≤ 40000 := by
  unfold racV
  split
  · rename_i h
    have h1 := (bP_is h).2.2.1
    have h2 := racA_len ds ds.length
    have h3 : ds.length * ds.length ≤ 200 * 200 := Nat.mul_le_mul h1 h1
    omega
  · simp
theorem racV_lens (n hs : Int) (ds : List Dn) : ∀ z ∈ racV n hs ds, z.length ≤ 1048576 := by
  intro z hz
  unfold racV at hz
  split at hz
  · rw [racA_lens ds _ z hz]; omega
  · simp at hz

set_option maxHeartbeats 1000000 in
theorem areInTouch_any (a b : Dn) (w : World) :
    Calls Tryd.prog 78 #[.agg #[.int .i64 a.h, .int .i64 a.k, .int .i64 a.f, .int .i64 a.t], .agg #[.int .i64 b.h, .int .i64 b.k, .int .i64 b.f, .int .i64 b.t]] w fun e w' => e = .returned (.bool (touchB a b)) ∧ Below w.heap.size w w' := by
  cases h1 : (a.k == 1)
  · have HE : Hid (touchB a b = false) := by show _ = _; unfold touchB; rw [h1]; rfl
    go_enter Tryd.func78, Tryd.ntmps78
    go_wp2
    go_ret
    exact ⟨ret_b HE.out.symm, by go_grown⟩
  cases h2 : (b.k == 1)
  · have HE : Hid (touchB a b = false) := by show _ = _; unfold touchB; rw [h1, h2]; rfl
    go_enter Tryd.func78, Tryd.ntmps78
    go_wp2
    go_ret
    exact ⟨ret_b HE.out.symm, by go_grown⟩
  cases h3 : (a.f == b.f)
  · have HE : Hid (touchB a b = (a.t == b.t)) := by show _ = _; unfold touchB; rw [h1, h2, h3]; rfl
    go_enter Tryd.func78, Tryd.ntmps78
    go_wp2
    go_ret
    exact ⟨ret_b HE.out.symm, by go_grown⟩
  · have HE : Hid (touchB a b = true) := by show _ = _; unfold touchB; rw [h1, h2, h3]; rfl
    go_enter Tryd.func78, Tryd.ntmps78
    go_wp2
    go_ret
    exact ⟨ret_b HE.out.symm, by go_grown⟩

set_option maxHeartbeats 2000000 in
theorem l8Touch_any (a b : Dn) (hs : Int) (w : World) (ha : OkD hs a) (hb : OkD hs b) :
    Calls Tryd.prog 77 #[.agg #[.int .i64 a.h, .int .i64 a.k, .int .i64 a.f, .int .i64 a.t], .agg #[.int .i64 b.h, .int .i64 b.k, .int .i64 b.f, .int .i64 b.t]] w fun e w' => e = .returned (.bool ((a.f == b.f) || (a.t == b.t))) ∧ Below w.heap.size w w' := by
  obtain ⟨_, _, ⟨a0, a1⟩, a2, a3⟩ := ha
  obtain ⟨_, _, ⟨b0, b1⟩, b2, b3⟩ := hb
  by_cases hsw : b.t - b.f < a.t - a.f
  · go_enter Tryd.func77, Tryd.ntmps77
    go_wp2
    all_goals
      go_ret
      refine ⟨ret_b ?_, by go_grown⟩
      first
        | (rw [Bool.eq_iff_iff]; simp; omega)
        | (rw [Bool.eq_iff_iff]; simp; done)
        | (rw [Bool.eq_iff_iff]; done)
        | rfl
  · go_enter Tryd.func77, Tryd.ntmps77
    go_wp2
    all_goals
      go_ret
      refine ⟨ret_b ?_, by go_grown⟩
      first
        | (rw [Bool.eq_iff_iff]; simp; omega)
        | (rw [Bool.eq_iff_iff]; simp; done)
        | (rw [Bool.eq_iff_iff]; done)
        | rfl

end Go.Proofs.YtfbpcdmpkbjifaaDoor

/- A slice of lists that a call makes by appending new lists to it. -/

namespace Go.Proofs.YtfbpcdmpkbjifaaDoor
open Go.RowKit

def cellsL (u : Li) : Value := .slice u.a u.r.length u.c

/-- The slice v of lists is the call's own and reads as ds; each list is the call's own, and no two lie in one block. -/
structure ListsW (w : World) (lo : Nat) (v : Value) (ds : List Li) : Prop where
  row : w.ownsRow lo 22 1 v ds.length (ds.map cellsL)
  caps : ∀ (j : Nat) (u : Li), ds[j]? = some u → u.r.length ≤ u.c
  rts : ∀ (j : Nat) (u : Li), ds[j]? = some u → OwnI w lo u.a u.r
  far : ∀ (i j : Nat) (u v : Li), ds[i]? = some u → ds[j]? = some v → i ≠ j → u.r ≠ [] → v.r ≠ [] → u.a ≠ v.a

theorem ListsW.start (w : World) (lo : Nat) : ListsW w lo (.slice none 0 0) [] := ⟨⟨rfl, .inl ⟨rfl, rfl⟩⟩, fun j u h => by simp at h, fun j u h => by simp at h, fun i j u v h => by simp at h⟩
theorem ListsW.keep {w w' : World} {lo : Nat} {v : Value} {ds : List Li} (h : ListsW w lo v ds) (hb : Below w.heap.size w w') : ListsW w' lo v ds :=
  ⟨own_below h.row hb, h.caps, fun j x hx => (h.rts j x hx).below hb (Nat.le_refl _), h.far⟩
theorem ListsW.low {w : World} {lo : Nat} {v : Value} {ds : List Li} (h : ListsW w lo v ds) {p : Addr} (hp : p.block < lo) (u : Value) : ListsW (w.setCell p u) lo v ds :=
  ⟨ownsRow_setCell_below h.row hp u, h.caps, fun j x hx => (h.rts j x hx).low hp u, h.far⟩
theorem ListsW.lt {w : World} {lo : Nat} {v : Value} {ds : List Li} (h : ListsW w lo v ds) (b : Nat) (e : v.ownBlock = some b) : lo ≤ b ∧ b < w.heap.size := h.row.lt b e

theorem ListsW.slice {w : World} {lo : Nat} {v : Value} {ds : List Li} (h : ListsW w lo v ds) : ∃ A c, v = .slice A ds.length c ∧ ds.length ≤ c ∧ OwnL w lo A ds := by
  obtain ⟨_, ⟨rfl, h0⟩ | ⟨g, cap, cur, rfl, hlo, hg, hcap, _, _, hx⟩⟩ := h.row
  · have : ds = [] := List.eq_nil_of_length_eq_zero h0
    subst this
    exact ⟨none, 0, rfl, Nat.le_refl _, .inl rfl⟩
  · refine ⟨_, cap, rfl, hcap, .inr ⟨g, cur, rfl, hlo, hg, fun k u hu => ?_, h.far⟩⟩
    have hk := (List.getElem?_eq_some_iff.1 hu).1
    have f1 : (ds.map cellsL)[k]? = some (cellsL u) := by rw [List.getElem?_map, hu]; rfl
    rw [← hx, List.getElem?_take, if_pos (by omega)] at f1
    exact ⟨by simpa [cellsL] using f1, h.caps k u hu, h.rts k u hu⟩

/-- A list lies apart from a row of lists that is appended to. -/
theorem OwnI.grownL {w w' : World} {lo base n : Nat} {A : Option Addr} {xs : List Int} {v : Value} {cs : List Value} (h : OwnI w lo A xs) (hv : w.ownsRow base 22 1 v n cs) (hg : w.grownBy w' v.ownBlock) : OwnI w' lo A xs := by
  rcases h with h | ⟨g, rc, e, hl, hr, hc⟩
  · exact .inl h
  · refine .inr ⟨g, rc, e, hl, (hg.block g hr.lt fun hb => ?_).trans hr, hc⟩
    obtain ⟨_, ⟨rfl, _⟩ | ⟨g', cap, cur, rfl, _, h5, _⟩⟩ := hv
    · cases hb
    · injection hb with hb
      subst hb
      exact hr.ne (t' := 22) h5 (by decide) rfl

theorem ListsW.step {w w2 : World} {lo : Nat} {v v' : Value} {ds : List Li} {A : Option Addr} {xs : List Int} {c : Nat} (h : ListsW w lo v ds) (hO : OwnI w lo A xs) (hcap : xs.length ≤ c)
    (hap : ∀ (j : Nat) (u : Li), ds[j]? = some u → u.r ≠ [] → xs ≠ [] → u.a ≠ A)
    (ho : w2.ownsRow lo 22 1 v' (ds.length + 1) (ds.map cellsL ++ [.slice A xs.length c])) (hg : w.grownBy w2 v.ownBlock) : ListsW w2 lo v' (ds ++ [⟨A, xs, c⟩]) := by
  refine ⟨?_, ?_, ?_, ?_⟩
  · rw [List.length_append, List.map_append]
    simpa [cellsL] using ho
  · intro j u hu
    rcases getElem?_snoc hu with ⟨_, hu⟩ | ⟨_, rfl⟩
    · exact h.caps j u hu
    · exact hcap
  · intro j u hu
    rcases getElem?_snoc hu with ⟨_, hu⟩ | ⟨_, rfl⟩
    · exact (h.rts j u hu).grownL h.row hg
    · exact hO.grownL h.row hg
  · intro i j u v hu hv hij hun hvn
    rcases getElem?_snoc hu with ⟨_, hu⟩ | ⟨hi, rfl⟩ <;> rcases getElem?_snoc hv with ⟨_, hv⟩ | ⟨hj, rfl⟩
    · exact h.far i j u v hu hv hij hun hvn
    · exact hap i u hu hun hvn
    · exact fun e => hap j v hv hvn hun e.symm
    · omega

/-- A list that was made later lies apart. -/
theorem ListsW.apart {w w1 : World} {lo : Nat} {v : Value} {ds : List Li} {A : Option Addr} {xs : List Int} (h : ListsW w lo v ds) (hO : OwnI w1 w.heap.size A xs) : ∀ (j : Nat) (u : Li), ds[j]? = some u → u.r ≠ [] → xs ≠ [] → u.a ≠ A := by
  intro j u hu hne hne' he
  rcases h.rts j u hu with h6 | ⟨g1, _, e1, _, r1, _⟩
  · exact hne h6
  · rcases hO with h7 | ⟨g2, _, e2, l2, _, _⟩
    · exact hne' h7
    · rw [e1, e2] at he
      have := r1.lt
      injection he with he
      injection he with he
      omega

theorem own_new3 (w : World) (a b c : Int) : OwnI (w.alloc (.cells #[.int .i64 a, .int .i64 b, .int .i64 c] 3)) w.heap.size (some ⟨w.heap.size, 0, none⟩) [a, b, c] := by
  refine .inr ⟨w.heap.size, _, rfl, Nat.le_refl _, Row.new _ _ _, fun k x hx => ?_⟩
  rcases k with _ | _ | _ | k
  · simpa using hx
  · simpa using hx
  · simpa using hx
  · simp at hx

theorem list_one_new (w : World) (o : Obj) (x : Value) (t : TypeId) : ∀ j u, [x][j]? = some u → ((w.alloc o).alloc (.cells #[x] t)).cell? ((⟨w.heap.size + 1, 0, none⟩ : Addr).add j) = some u := by
  intro j u h
  rw [Go.WideShapes.add_plain, Nat.zero_add]
  rcases j with _ | j
  · simpa [go_sem] using h
  · simp at h

/-- Three numbers, made into a list and appended. -/
theorem ListsW.push3 {w w2 : World} {lo : Nat} {v v' : Value} {ds : List Li} {a b c : Int} {o : Obj} (h : ListsW w lo v ds) (hlo : lo ≤ w.heap.size)
    (ho : w2.ownsRow lo 22 1 v' (ds.length + 1) (ds.map cellsL ++ [.slice (some ⟨w.heap.size, 0, none⟩) 3 3])) (hg : ((w.alloc (.cells #[.int .i64 a, .int .i64 b, .int .i64 c] 3)).alloc o).grownBy w2 v.ownBlock) :
    ListsW w2 lo v' (ds ++ [⟨some ⟨w.heap.size, 0, none⟩, [a, b, c], 3⟩]) := by
  have hB1 : Below w.heap.size w (w.alloc (.cells #[.int .i64 a, .int .i64 b, .int .i64 c] 3)) := (Below.refl _ _).alloc (Nat.le_refl _) _
  have hB2 : Below (w.alloc (.cells #[.int .i64 a, .int .i64 b, .int .i64 c] 3)).heap.size (w.alloc (.cells #[.int .i64 a, .int .i64 b, .int .i64 c] 3)) ((w.alloc (.cells #[.int .i64 a, .int .i64 b, .int .i64 c] 3)).alloc o) := (Below.refl _ _).alloc (Nat.le_refl _) _
  have hO := (own_new3 w a b c).below hB2 (Nat.le_refl _)
  exact ((h.keep hB1).keep hB2).step (hO.lower hlo) (Nat.le_refl _) (h.apart hO) ho hg

end Go.Proofs.YtfbpcdmpkbjifaaDoor

/- What derives what, plainly. -/

namespace Go.Proofs.YtfbpcdmpkbjifaaDoor

/-- One symbol derives the part from i on ahead of j, where D tells it of the nonterminals. -/
def SymD (D : Int → Nat → Nat → Prop) (ws : List Int) (x : Int) (i j : Nat) : Prop := (x < 0 ∧ j = i + 1 ∧ ws[i]? = some (-1 - x)) ∨ (0 ≤ x ∧ D x i j)
/-- .. and symbols, one behind the other. -/
def SeqD (D : Int → Nat → Nat → Prop) (ws : List Int) : List Int → Nat → Nat → Prop
  | [], i, j => i = j
  | x :: xs, i, j => ∃ m, SymD D ws x i m ∧ SeqD D ws xs m j
theorem SymD.mono {D E : Int → Nat → Nat → Prop} {ws : List Int} (h : ∀ x i j, D x i j → E x i j) {x : Int} {i j : Nat} (k : SymD D ws x i j) : SymD E ws x i j := k.imp id fun k => ⟨k.1, h _ _ _ k.2⟩
theorem SeqD.mono {D E : Int → Nat → Nat → Prop} {ws : List Int} (h : ∀ x i j, D x i j → E x i j) {xs : List Int} {i j : Nat} (k : SeqD D ws xs i j) : SeqD E ws xs i j := by
  induction xs generalizing i with
  | nil => exact k
  | cons x xs ih =>
    obtain ⟨m, k1, k2⟩ := k
    exact ⟨m, k1.mono h, ih k2⟩
theorem seqD_snoc {D : Int → Nat → Nat → Prop} {ws : List Int} {xs : List Int} {x : Int} {i j : Nat} : SeqD D ws (xs ++ [x]) i j ↔ ∃ m, SeqD D ws xs i m ∧ SymD D ws x m j := by
  induction xs generalizing i with
  | nil =>
    constructor
    · rintro ⟨m, k1, k2⟩
      have k3 : m = j := k2
      subst k3
      exact ⟨i, rfl, k1⟩
    · rintro ⟨m, k1, k2⟩
      have k3 : i = m := k1
      subst k3
      exact ⟨j, k2, rfl⟩
  | cons y ys ih =>
    constructor
    · rintro ⟨m, k1, k2⟩
      obtain ⟨m', k3, k4⟩ := ih.1 k2
      exact ⟨m', ⟨m, k1, k3⟩, k4⟩
    · rintro ⟨m', ⟨m, k1, k3⟩, k4⟩
      exact ⟨m, k1, ih.2 ⟨m', k3, k4⟩⟩
theorem take_snoc {xs : List Int} {k : Nat} (h : k < xs.length) : xs.take (k + 1) = xs.take k ++ [xs[k]] := by
  rw [List.take_add_one, List.getElem?_eq_getElem h]; rfl
theorem seqD_take {D : Int → Nat → Nat → Prop} {ws : List Int} {xs : List Int} {k : Nat} (h : k < xs.length) {i j : Nat} : SeqD D ws (xs.take (k + 1)) i j ↔ ∃ m, SeqD D ws (xs.take k) i m ∧ SymD D ws xs[k] m j := by
  rw [take_snoc h]; exact seqD_snoc

/-- What D tells is closed under the rules. -/
def ClosedD (rs : List (Int × List Int)) (ws : List Int) (D : Int → Nat → Nat → Prop) : Prop := ∀ r ∈ rs, ∀ i j, i ≤ ws.length → SeqD D ws r.2 i j → D r.1 i j
/-- What is derived. -/
def Der (rs : List (Int × List Int)) (ws : List Int) (x : Int) (i j : Nat) : Prop := ∀ D, ClosedD rs ws D → D x i j
theorem der_closed (rs : List (Int × List Int)) (ws : List Int) : ClosedD rs ws (Der rs ws) := fun r hr i j hi k D hD => hD r hr i j hi (k.mono fun _ _ _ h => h D hD)
/-- What D tells lies in the word. -/
def InD (n : Nat) (D : Int → Nat → Nat → Prop) : Prop := ∀ x i j, D x i j → i ≤ j ∧ j ≤ n
theorem InD.sym {ws : List Int} {D : Int → Nat → Nat → Prop} (h : InD ws.length D) {x : Int} {i j : Nat} (k : SymD D ws x i j) : i ≤ j ∧ j ≤ ws.length := by
  rcases k with ⟨_, k2, k3⟩ | ⟨_, k⟩
  · have := (List.getElem?_eq_some_iff.1 k3).1; omega
  · exact h _ _ _ k
theorem InD.seq {ws : List Int} {D : Int → Nat → Nat → Prop} (h : InD ws.length D) {xs : List Int} {i j : Nat} (hi : i ≤ ws.length) (k : SeqD D ws xs i j) : i ≤ j ∧ j ≤ ws.length := by
  induction xs generalizing i with
  | nil => have k1 : i = j := k; omega
  | cons x xs ih =>
    obtain ⟨m, k1, k2⟩ := k
    have := h.sym k1
    have := ih this.2 k2
    omega
theorem der_in (rs : List (Int × List Int)) (ws : List Int) : InD ws.length (Der rs ws) := fun _ _ _ h => h (fun _ i j => i ≤ j ∧ j ≤ ws.length) fun _ _ _ _ hi k => InD.seq (D := fun _ i j => i ≤ j ∧ j ≤ ws.length) (fun _ _ _ h => h) hi k
/-- What is derived is derived by a rule. -/
theorem der_rule {rs : List (Int × List Int)} {ws : List Int} {x : Int} {i j : Nat} : Der rs ws x i j ↔ ∃ r ∈ rs, r.1 = x ∧ i ≤ ws.length ∧ SeqD (Der rs ws) ws r.2 i j := by
  constructor
  · intro h
    refine h (fun x i j => ∃ r ∈ rs, r.1 = x ∧ i ≤ ws.length ∧ SeqD (Der rs ws) ws r.2 i j) fun r hr i j hi k => ⟨r, hr, rfl, hi, k.mono ?_⟩
    rintro x i j ⟨r, hr, rfl, hi, k⟩
    exact der_closed rs ws r hr i j hi k
  · rintro ⟨r, hr, rfl, hi, k⟩
    exact der_closed rs ws r hr i j hi k
/-- A table that tells derived parts alone, and is closed. -/
theorem der_eq {rs : List (Int × List Int)} {ws : List Int} {D : Int → Nat → Nat → Prop} (hs : ∀ x i j, D x i j → Der rs ws x i j) (hc : ClosedD rs ws D) {x : Int} {i j : Nat} : D x i j ↔ Der rs ws x i j := ⟨hs x i j, fun h => h D hc⟩
/-- One step keeps a table sound. -/
theorem der_step {rs : List (Int × List Int)} {ws : List Int} {D : Int → Nat → Nat → Prop} (hs : ∀ x i j, D x i j → Der rs ws x i j) {r : Int × List Int} (hr : r ∈ rs) {i j : Nat} (hi : i ≤ ws.length) (k : SeqD D ws r.2 i j) : Der rs ws r.1 i j := der_closed rs ws r hr i j hi (k.mono hs)

end Go.Proofs.YtfbpcdmpkbjifaaDoor

/- Sets of places as masks, and the program's table of them. -/

namespace Go.Proofs.YtfbpcdmpkbjifaaDoor

/-- What a table of masks tells. -/
def DK (K : Nat → Nat → Nat) : Int → Nat → Nat → Prop := fun x i j => 0 ≤ x ∧ (K x.toNat i).testBit j = true
/-- A mask has just the places of P. -/
def Msk (m : Nat) (P : Nat → Prop) : Prop := m < 2048 ∧ ∀ j, m.testBit j = true ↔ P j
theorem Msk.lt {m : Nat} {P : Nat → Prop} (h : Msk m P) {j : Nat} (k : P j) : j < 11 := by
  have h1 := (h.2 j).2 k
  by_cases e : j < 11
  · exact e
  · have : m < 2 ^ j := Nat.lt_of_lt_of_le h.1 (show 2048 ≤ 2 ^ j from (Nat.pow_le_pow_right (by decide) (by omega) : 2 ^ 11 ≤ 2 ^ j))
    rw [Nat.testBit_lt_two_pow this] at h1
    cases h1
theorem Msk.congr {m : Nat} {P Q : Nat → Prop} (h : Msk m P) (e : ∀ j, P j ↔ Q j) : Msk m Q := ⟨h.1, fun j => (h.2 j).trans (e j)⟩
theorem msk_no : Msk 0 fun _ => False := ⟨by decide, fun j => by simp⟩
theorem msk_one {a : Nat} (h : a < 11) : Msk (2 ^ a) fun j => j = a := ⟨Nat.pow_lt_pow_right (by decide) h, fun j => by rw [Nat.testBit_two_pow]; simp [eq_comm]⟩
theorem or_lt {a b : Nat} (ha : a < 2048) (hb : b < 2048) : a ||| b < 2048 := Nat.or_lt_two_pow (n := 11) ha hb
theorem Msk.or {a b : Nat} {P Q : Nat → Prop} (h : Msk a P) (k : Msk b Q) : Msk (a ||| b) fun j => P j ∨ Q j := ⟨or_lt h.1 k.1, fun j => by rw [Nat.testBit_or, Bool.or_eq_true]; exact or_congr (h.2 j) (k.2 j)⟩
theorem bit_and {m a : Nat} : m &&& 2 ^ a = 0 ↔ m.testBit a = false := by
  constructor
  · intro h
    have h1 : (m &&& 2 ^ a).testBit a = false := by rw [h]; simp
    rw [Nat.testBit_and, Nat.testBit_two_pow] at h1
    simpa using h1
  · intro h
    apply Nat.eq_of_testBit_eq
    intro i
    rw [Nat.testBit_and, Nat.testBit_two_pow]
    by_cases e : a = i
    · subst e; simp [h]
    · simp [e]
theorem le_or {a b : Nat} : a ≤ a ||| b := Nat.left_le_or
theorem or_self_of {a b : Nat} (h : ∀ j, b.testBit j = true → a.testBit j = true) : a ||| b = a := by
  apply Nat.eq_of_testBit_eq
  intro i
  rw [Nat.testBit_or]
  cases e : b.testBit i
  · simp
  · rw [h i e]; rfl

/-- A table with one mask put in. -/
def setK (K : Nat → Nat → Nat) (a b v : Nat) : Nat → Nat → Nat := fun x i => if x = a ∧ i = b then v else K x i
theorem setK_at {K : Nat → Nat → Nat} {a b v : Nat} : setK K a b v a b = v := if_pos ⟨rfl, rfl⟩
theorem setK_far {K : Nat → Nat → Nat} {a b v x i : Nat} (h : ¬ (x = a ∧ i = b)) : setK K a b v x i = K x i := if_neg h
theorem setK_same {K : Nat → Nat → Nat} {a b v : Nat} (h : v = K a b) : setK K a b v = K := by
  funext x i
  unfold setK
  split
  · rename_i e; obtain ⟨rfl, rfl⟩ := e; exact h
  · rfl
/-- How much a table holds. -/
def sumTo (f : Nat → Nat) : Nat → Nat
  | 0 => 0
  | n + 1 => sumTo f n + f n
theorem sumTo_le {f g : Nat → Nat} {n : Nat} (h : ∀ i, i < n → f i ≤ g i) : sumTo f n ≤ sumTo g n := by
  induction n with
  | zero => exact Nat.le_refl _
  | succ n ih => have := ih fun i hi => h i (by omega); have := h n (by omega); unfold sumTo; omega
theorem sumTo_lt {f g : Nat → Nat} {n k : Nat} (h : ∀ i, i < n → f i ≤ g i) (hk : k < n) (hl : f k < g k) : sumTo f n < sumTo g n := by
  induction n with
  | zero => omega
  | succ n ih =>
    unfold sumTo
    have h1 := h n (by omega)
    by_cases e : k = n
    · subst e; have := sumTo_le (n := k) fun i hi => h i (by omega); omega
    · have := ih (fun i hi => h i (by omega)) (by omega); omega
def sumK (K : Nat → Nat → Nat) : Nat := sumTo (fun x => sumTo (K x) 11) 6
theorem sumK_le {K L : Nat → Nat → Nat} (h : ∀ x i, K x i ≤ L x i) : sumK K ≤ sumK L := sumTo_le fun x _ => sumTo_le fun i _ => h x i
theorem sumK_lt {K L : Nat → Nat → Nat} (h : ∀ x i, K x i ≤ L x i) {a b : Nat} (ha : a < 6) (hb : b < 11) (hl : K a b < L a b) : sumK K < sumK L := sumTo_lt (fun x _ => sumTo_le fun i _ => h x i) ha (sumTo_lt (fun i _ => h a i) hb hl)
theorem sumTo_const {f : Nat → Nat} {n c : Nat} (h : ∀ i, f i ≤ c) : sumTo f n ≤ n * c := by
  induction n with
  | zero => exact Nat.zero_le _
  | succ n ih => have := h n; unfold sumTo; rw [Nat.succ_mul]; omega
theorem sumK_most {K : Nat → Nat → Nat} (h : ∀ x i, K x i < 2048) : sumK K ≤ 135102 := by
  have h1 : ∀ x, sumTo (K x) 11 ≤ 11 * 2047 := fun x => sumTo_const fun i => by have := h x i; omega
  have h2 := sumTo_const (f := fun x => sumTo (K x) 11) (n := 6) (c := 11 * 2047) h1
  unfold sumK; omega

/-- The table is good so far: of derived parts alone, and small. -/
def OkK (rs : List (Int × List Int)) (ws : List Int) (K : Nat → Nat → Nat) : Prop := (∀ x i, K x i < 2048) ∧ ∀ x i j, DK K x i j → Der rs ws x i j
/-- While a pass grows it: what was known at the start is K0, the first j rules are done, and of the next one the first i places. -/
def Pass (rs : List (Int × List Int)) (ws : List Int) (j i : Nat) (K0 K : Nat → Nat → Nat) (grown : Bool) : Prop :=
  OkK rs ws K ∧ (∀ x i, K0 x i ≤ K x i) ∧ (grown = true → sumK K0 < sumK K) ∧
  (grown = false → K = K0 ∧ ∀ (l : Nat) (r : Int × List Int) (from_ to_ : Nat), rs[l]? = some r → from_ ≤ ws.length → (l < j ∨ (l = j ∧ from_ < i)) → SeqD (DK K) ws r.2 from_ to_ → DK K r.1 from_ to_)
theorem Pass.start {rs : List (Int × List Int)} {ws : List Int} {K : Nat → Nat → Nat} (h : OkK rs ws K) : Pass rs ws 0 0 K K false := ⟨h, fun _ _ => Nat.le_refl _, fun h => (by cases h), fun _ => ⟨rfl, fun l r f t _ _ h => absurd h (by omega)⟩⟩
theorem Pass.line {rs : List (Int × List Int)} {ws : List Int} {j : Nat} {K0 K : Nat → Nat → Nat} {b : Bool} (h : Pass rs ws j (ws.length + 1) K0 K b) : Pass rs ws (j + 1) 0 K0 K b :=
  ⟨h.1, h.2.1, h.2.2.1, fun e => ⟨(h.2.2.2 e).1, fun l r f t hl hf hx => (h.2.2.2 e).2 l r f t hl hf (by omega)⟩⟩
theorem Pass.step {rs : List (Int × List Int)} {ws : List Int} {j i : Nat} {K0 K : Nat → Nat → Nat} {b : Bool} (h : Pass rs ws j i K0 K b) {a : Nat} {right : List Int} (hj : rs[j]? = some ((a : Int), right)) (ha : a < 6) (hi : i ≤ ws.length) (hw : ws.length ≤ 10) {m : Nat} (hm : Msk m fun t => SeqD (DK K) ws right i t) :
    Pass rs ws j (i + 1) K0 (setK K a i (K a i ||| m)) (b || decide (K a i ||| m ≠ K a i)) := by
  obtain ⟨h1, h2, h3, h4⟩ := h
  have hle : ∀ x y, K x y ≤ setK K a i (K a i ||| m) x y := fun x y => by
    unfold setK
    split
    · rename_i e; obtain ⟨rfl, rfl⟩ := e; exact le_or
    · exact Nat.le_refl _
  have hmem : ((a : Int), right) ∈ rs := List.mem_of_getElem? hj
  refine ⟨⟨fun x y => ?_, fun x y t => ?_⟩, fun x y => Nat.le_trans (h2 x y) (hle x y), fun e => ?_, fun e => ?_⟩
  · unfold setK
    split
    · exact or_lt (h1.1 _ _) hm.1
    · exact h1.1 _ _
  · unfold DK setK
    split
    · rename_i e
      obtain ⟨e1, rfl⟩ := e
      rw [Nat.testBit_or, Bool.or_eq_true]
      rintro ⟨k0, k | k⟩
      · exact h1.2 x y t ⟨k0, by rw [e1]; exact k⟩
      · have k1 := der_step h1.2 hmem hi ((hm.2 t).1 k)
        have : x = (a : Int) := by omega
        rw [this]; exact k1
    · exact h1.2 x y t
  · have hs := sumK_le hle
    cases b
    · have hne : K a i ||| m ≠ K a i := of_decide_eq_true (by simpa using e)
      have h5 : K a i < setK K a i (K a i ||| m) a i := by rw [setK_at]; have : K a i ≤ K a i ||| m := le_or; omega
      have := sumK_le h2
      have := sumK_lt hle ha (by omega : i < 11) h5
      omega
    · have := h3 rfl; omega
  · have hb : b = false := by cases b; rfl; cases e
    subst hb
    have heq : K a i ||| m = K a i := Decidable.not_not.1 (of_decide_eq_false (by simpa using e))
    obtain ⟨h5, h6⟩ := h4 rfl
    rw [setK_same heq]
    refine ⟨h5, fun l r f t hl hf hx k => ?_⟩
    by_cases e2 : l = j ∧ f = i
    · obtain ⟨rfl, rfl⟩ := e2
      rw [hj] at hl
      have e3 := Option.some.inj hl
      subst e3
      refine ⟨Int.natCast_nonneg a, ?_⟩
      have k2 := (hm.2 t).2 k
      show (K a f).testBit t = true
      rw [← heq, Nat.testBit_or, k2, Bool.or_true]
    · exact h6 l r f t hl hf (by omega) k
/-- A pass in which nothing came. -/
theorem Pass.done {rs : List (Int × List Int)} {ws : List Int} {K0 K : Nat → Nat → Nat} (h : Pass rs ws rs.length 0 K0 K false) {x : Int} {i j : Nat} : DK K x i j ↔ Der rs ws x i j :=
  der_eq h.1.2 fun r hr f t hf k => by
    obtain ⟨l, hl⟩ := List.mem_iff_getElem?.1 hr
    exact (h.2.2.2 rfl).2 l r f t hl hf (.inl (List.getElem?_eq_some_iff.1 hl).1) k

/-- One symbol from all places of a mask ahead of k. -/
def FromD (K : Nat → Nat → Nat) (ws : List Int) (x : Int) (s k : Nat) (j : Nat) : Prop := ∃ m, m < k ∧ s.testBit m = true ∧ SymD (DK K) ws x m j
theorem fromD_zero {K : Nat → Nat → Nat} {ws : List Int} {x : Int} {s j : Nat} : FromD K ws x s 0 j ↔ False := ⟨fun ⟨m, h, _⟩ => absurd h (by omega), False.elim⟩
theorem fromD_skip {K : Nat → Nat → Nat} {ws : List Int} {x : Int} {s k j : Nat} (h : s.testBit k = false) : FromD K ws x s k j ↔ FromD K ws x s (k + 1) j := by
  constructor
  · rintro ⟨m, h1, h2⟩; exact ⟨m, by omega, h2⟩
  · rintro ⟨m, h1, h2, h3⟩
    by_cases e : m = k
    · subst e; rw [h] at h2; cases h2
    · exact ⟨m, by omega, h2, h3⟩
theorem fromD_take {K : Nat → Nat → Nat} {ws : List Int} {x : Int} {s k j : Nat} (h : s.testBit k = true) : (FromD K ws x s k j ∨ SymD (DK K) ws x k j) ↔ FromD K ws x s (k + 1) j := by
  constructor
  · rintro (⟨m, h1, h2⟩ | h3)
    · exact ⟨m, by omega, h2⟩
    · exact ⟨k, by omega, h, h3⟩
  · rintro ⟨m, h1, h2, h3⟩
    by_cases e : m = k
    · subst e; exact .inr h3
    · exact .inl ⟨m, by omega, h2, h3⟩
theorem fromD_all {K : Nat → Nat → Nat} {ws : List Int} {xs : List Int} {k f : Nat} (hk : k < xs.length) {s : Nat} (hs : Msk s fun j => SeqD (DK K) ws (xs.take k) f j) {j : Nat} : FromD K ws xs[k] s 11 j ↔ SeqD (DK K) ws (xs.take (k + 1)) f j := by
  rw [seqD_take hk]
  constructor
  · rintro ⟨m, _, h2, h3⟩; exact ⟨m, (hs.2 m).1 h2, h3⟩
  · rintro ⟨m, h2, h3⟩; exact ⟨m, hs.lt h2, (hs.2 m).2 h2, h3⟩

theorem Msk.unique {a b : Nat} {P : Nat → Prop} (h : Msk a P) (k : Msk b P) : a = b := Nat.eq_of_testBit_eq fun j => by
  have h1 := h.2 j
  have h2 := k.2 j
  cases e1 : a.testBit j <;> cases e2 : b.testBit j
  · rfl
  · exact absurd (h1.2 (h2.1 e2)) (by rw [e1]; decide)
  · exact absurd (h2.2 (h1.1 e1)) (by rw [e2]; decide)
  · rfl
theorem msk_some (P : Nat → Prop) (n : Nat) (hn : n ≤ 11) : ∃ m, Msk m fun j => P j ∧ j < n := by
  induction n with
  | zero => exact ⟨0, msk_no.congr fun j => ⟨False.elim, fun h => absurd h.2 (by omega)⟩⟩
  | succ n ih =>
    obtain ⟨m, hm⟩ := ih (by omega)
    by_cases h : P n
    · refine ⟨m ||| 2 ^ n, (hm.or (msk_one (by omega))).congr fun j => ⟨?_, ?_⟩⟩
      · rintro (⟨h1, h2⟩ | rfl)
        · exact ⟨h1, by omega⟩
        · exact ⟨h, by omega⟩
      · rintro ⟨h1, h2⟩
        by_cases e : j = n
        · exact .inr e
        · exact .inl ⟨h1, by omega⟩
    · refine ⟨m, hm.congr fun j => ⟨fun ⟨h1, h2⟩ => ⟨h1, by omega⟩, fun ⟨h1, h2⟩ => ⟨h1, ?_⟩⟩⟩
      by_cases e : j = n
      · subst e; exact absurd h1 h
      · omega
/-- The mask of a set of places. -/
noncomputable def mskOf (P : Nat → Prop) : Nat := (msk_some P 11 (Nat.le_refl _)).choose
theorem mskOf_is {P : Nat → Prop} (h : ∀ j, P j → j < 11) : Msk (mskOf P) P := (msk_some P 11 (Nat.le_refl _)).choose_spec.congr fun j => ⟨fun k => k.1, fun k => ⟨k, h j k⟩⟩
theorem mskOf_eq {P : Nat → Prop} {m : Nat} (h : Msk m P) : m = mskOf P := h.unique (mskOf_is fun _ k => h.lt k)
theorem seqD_lt {K : Nat → Nat → Nat} {ws : List Int} (hK : ∀ x i, K x i < 2048) (hw : ws.length ≤ 10) {xs : List Int} {i j : Nat} (hi : i < 11) (h : SeqD (DK K) ws xs i j) : j < 11 := by
  induction xs generalizing i with
  | nil => have e : i = j := h; omega
  | cons x xs ih =>
    obtain ⟨m, k1, k2⟩ := h
    refine ih ?_ k2
    rcases k1 with ⟨_, e, k⟩ | ⟨_, _, k⟩
    · have := (List.getElem?_eq_some_iff.1 k).1; omega
    · exact Msk.lt (m := K x.toNat i) (P := fun j => (K x.toNat i).testBit j = true) ⟨hK _ _, fun _ => Iff.rfl⟩ k

end Go.Proofs.YtfbpcdmpkbjifaaDoor

/- The reference's table of what derives what, plainly. -/

namespace Go.Proofs.YtfbpcdmpkbjifaaDoor

/-- What a table of rows tells: the cell of i and j is the one at i (n + 1) + j. -/
def DT (n : Nat) (T : Nat → Nat → Bool) : Int → Nat → Nat → Prop := fun x i j => 0 ≤ x ∧ i ≤ n ∧ j ≤ n ∧ T x.toNat (i * (n + 1) + j) = true
def setB (T : Nat → Nat → Bool) (a c : Nat) : Nat → Nat → Bool := fun x i => if x = a ∧ i = c then true else T x i
theorem cell_inj {n i j i' j' : Nat} (hj : j ≤ n) (hj' : j' ≤ n) (h : i * (n + 1) + j = i' * (n + 1) + j') : i = i' ∧ j = j' := by
  have h1 : (i * (n + 1) + j) % (n + 1) = j := by rw [Nat.mul_comm, Nat.mul_add_mod, Nat.mod_eq_of_lt (by omega)]
  have h2 : (i' * (n + 1) + j') % (n + 1) = j' := by rw [Nat.mul_comm, Nat.mul_add_mod, Nat.mod_eq_of_lt (by omega)]
  have hj2 : j = j' := by rw [← h1, h, h2]
  subst hj2
  exact ⟨Nat.eq_of_mul_eq_mul_right (by omega : 0 < n + 1) (by omega), rfl⟩
theorem cell_lt {n i j : Nat} (hi : i ≤ n) (hj : j ≤ n) : i * (n + 1) + j < (n + 1) * (n + 1) := by
  have : (i + 1) * (n + 1) ≤ (n + 1) * (n + 1) := Nat.mul_le_mul_right _ (by omega)
  rw [Nat.succ_mul] at this
  omega
theorem cell_121 {n c : Nat} (hn : n ≤ 10) (hc : c < (n + 1) * (n + 1)) : c < 121 := by
  have : (n + 1) * (n + 1) ≤ 11 * 11 := Nat.mul_le_mul (by omega) (by omega)
  omega
def cntT (T : Nat → Nat → Bool) : Nat := sumTo (fun x => sumTo (fun c => if T x c then 1 else 0) 121) 6
theorem cntT_most (T : Nat → Nat → Bool) : cntT T ≤ 726 := by
  have h1 : ∀ x, sumTo (fun c => if T x c then 1 else 0) 121 ≤ 121 * 1 := fun x => sumTo_const fun c => by split <;> omega
  have h2 := sumTo_const (f := fun x => sumTo (fun c => if T x c then 1 else 0) 121) (n := 6) (c := 121 * 1) h1
  unfold cntT; omega
theorem cntT_set {T : Nat → Nat → Bool} {a c : Nat} (ha : a < 6) (hc : c < 121) (h : T a c = false) : cntT T < cntT (setB T a c) := by
  have hle : ∀ x i, (if T x i = true then 1 else 0) ≤ (if setB T a c x i = true then 1 else 0 : Nat) := fun x i => by
    unfold setB
    by_cases e : x = a ∧ i = c
    · rw [if_pos e, if_pos rfl]; split <;> omega
    · rw [if_neg e]; exact Nat.le_refl _
  refine sumTo_lt (fun x _ => sumTo_le fun i _ => hle x i) ha (sumTo_lt (fun i _ => hle a i) hc ?_)
  show (if T a c = true then 1 else 0) < (if setB T a c a c = true then 1 else 0 : Nat)
  have e : setB T a c a c = true := if_pos ⟨rfl, rfl⟩
  rw [e, h]
  decide
/-- The table is good so far. -/
def OkT (rs : List (Int × List Int)) (ws : List Int) (T : Nat → Nat → Bool) : Prop := ∀ x i j, DT ws.length T x i j → Der rs ws x i j
theorem OkT.inD {rs : List (Int × List Int)} {ws : List Int} {T : Nat → Nat → Bool} (h : OkT rs ws T) : InD ws.length (DT ws.length T) := fun x i j k => der_in rs ws x i j (h x i j k)
theorem okT_no (rs : List (Int × List Int)) (ws : List Int) : OkT rs ws fun _ _ => false := fun _ _ _ h => absurd h.2.2.2 (by simp)
/-- While a pass fills it: the rules ahead of j are done, of rule j the places ahead of i, there the ends ahead of t. -/
def PassT (rs : List (Int × List Int)) (ws : List Int) (j i t : Nat) (T0 T : Nat → Nat → Bool) (more : Bool) : Prop :=
  OkT rs ws T ∧ (more = true → cntT T0 < cntT T) ∧
  (more = false → T = T0 ∧ ∀ (l : Nat) (r : Int × List Int) (f e : Nat), rs[l]? = some r → f ≤ e → e ≤ ws.length → (l < j ∨ (l = j ∧ (f < i ∨ (f = i ∧ e < t)))) → SeqD (DT ws.length T) ws r.2 f e → DT ws.length T r.1 f e)
theorem PassT.start {rs : List (Int × List Int)} {ws : List Int} {T : Nat → Nat → Bool} (h : OkT rs ws T) : PassT rs ws 0 0 0 T T false := ⟨h, fun h => (by cases h), fun _ => ⟨rfl, fun l r f e _ _ _ h => absurd h (by omega)⟩⟩
theorem PassT.rule {rs : List (Int × List Int)} {ws : List Int} {j : Nat} {T0 T : Nat → Nat → Bool} {b : Bool} (h : PassT rs ws j (ws.length + 1) 0 T0 T b) : PassT rs ws (j + 1) 0 0 T0 T b :=
  ⟨h.1, h.2.1, fun e => ⟨(h.2.2 e).1, fun l r f e' hl hf he hx => (h.2.2 e).2 l r f e' hl hf he (by omega)⟩⟩
theorem PassT.open_ {rs : List (Int × List Int)} {ws : List Int} {j i : Nat} {T0 T : Nat → Nat → Bool} {b : Bool} (h : PassT rs ws j i 0 T0 T b) : PassT rs ws j i i T0 T b :=
  ⟨h.1, h.2.1, fun e => ⟨(h.2.2 e).1, fun l r f e' hl hf he hx => (h.2.2 e).2 l r f e' hl hf he (by omega)⟩⟩
theorem PassT.line {rs : List (Int × List Int)} {ws : List Int} {j i : Nat} {T0 T : Nat → Nat → Bool} {b : Bool} (h : PassT rs ws j i (ws.length + 1) T0 T b) : PassT rs ws j (i + 1) 0 T0 T b :=
  ⟨h.1, h.2.1, fun e => ⟨(h.2.2 e).1, fun l r f e' hl hf he hx => (h.2.2 e).2 l r f e' hl hf he (by omega)⟩⟩
/-- Nothing is put in: it is there already, or nothing comes. -/
theorem PassT.skip {rs : List (Int × List Int)} {ws : List Int} {j i t : Nat} {T0 T : Nat → Nat → Bool} {b : Bool} (h : PassT rs ws j i t T0 T b) {a : Nat} {right : List Int} (hj : rs[j]? = some ((a : Int), right)) (hi : i ≤ ws.length) (ht : t ≤ ws.length) (hx : T a (i * (ws.length + 1) + t) = true ∨ ¬ SeqD (DT ws.length T) ws right i t) : PassT rs ws j i (t + 1) T0 T b := by
  refine ⟨h.1, h.2.1, fun e => ⟨(h.2.2 e).1, fun l r f e' hl hf he hx' k => ?_⟩⟩
  by_cases e2 : l = j ∧ f = i ∧ e' = t
  · obtain ⟨rfl, rfl, rfl⟩ := e2
    rw [hj] at hl
    have e3 := Option.some.inj hl
    subst e3
    rcases hx with hx | hx
    · exact ⟨Int.natCast_nonneg a, hi, ht, hx⟩
    · exact absurd k hx
  · exact (h.2.2 e).2 l r f e' hl hf he (by omega) k
/-- One is put in. -/
theorem PassT.put {rs : List (Int × List Int)} {ws : List Int} {j i t : Nat} {T0 T : Nat → Nat → Bool} {b : Bool} (h : PassT rs ws j i t T0 T b) {a : Nat} {right : List Int} (hj : rs[j]? = some ((a : Int), right)) (ha : a < 6) (hw : ws.length ≤ 10) (hi : i ≤ ws.length) (ht : t ≤ ws.length) (h0 : T a (i * (ws.length + 1) + t) = false) (hx : SeqD (DT ws.length T) ws right i t) : PassT rs ws j i (t + 1) T0 (setB T a (i * (ws.length + 1) + t)) true := by
  have hmem : ((a : Int), right) ∈ rs := List.mem_of_getElem? hj
  refine ⟨fun x f e k => ?_, fun _ => ?_, fun e => by cases e⟩
  · obtain ⟨k0, k1, k2, k3⟩ := k
    unfold setB at k3
    split at k3
    · rename_i e4
      obtain ⟨e5, e6⟩ := e4
      obtain ⟨rfl, rfl⟩ := cell_inj k2 ht e6
      have : x = (a : Int) := by omega
      subst this
      exact der_step h.1 hmem hi hx
    · exact h.1 x f e ⟨k0, k1, k2, k3⟩
  · have h3 := cntT_set ha (cell_121 hw (cell_lt hi ht)) h0
    cases b
    · rw [← (h.2.2 rfl).1]; exact h3
    · have := h.2.1 rfl; omega
/-- A pass in which nothing came. -/
theorem PassT.done {rs : List (Int × List Int)} {ws : List Int} {T0 T : Nat → Nat → Bool} (h : PassT rs ws rs.length 0 0 T0 T false) {x : Int} {i j : Nat} : DT ws.length T x i j ↔ Der rs ws x i j :=
  der_eq h.1 fun r hr f t hf k => by
    obtain ⟨l, hl⟩ := List.mem_iff_getElem?.1 hr
    have := h.1.inD.seq hf k
    exact (h.2.2 rfl).2 l r f t hl this.1 this.2 (.inl (List.getElem?_eq_some_iff.1 hl).1) k

/-- While the middles ahead of m are tried. -/
theorem seqD_cons_no {D : Int → Nat → Nat → Prop} {ws : List Int} {x : Int} {xs : List Int} {i j : Nat} (hd : InD ws.length D) (h : ∀ m, i ≤ m → m ≤ j → ¬ (SymD D ws x i m ∧ SeqD D ws xs m j)) : ¬ SeqD D ws (x :: xs) i j := by
  rintro ⟨m, k1, k2⟩
  have h1 := hd.sym k1
  have h2 := hd.seq h1.2 k2
  exact h m h1.1 h2.1 ⟨k1, k2⟩

end Go.Proofs.YtfbpcdmpkbjifaaDoor

/- Plain mathematics: some of a good grammar's rules are a good grammar; the useful rules. -/

namespace Go.Proofs.YtfbpcdmpkbjifaaDoor

theorem goodG_nodup {n t : Int} {ss : List (Int × List Int)} (h : goodG n t ss = true) : ss.Nodup := by
  obtain ⟨_, _, _, hg⟩ := goodG_is h
  refine List.pairwise_iff_getElem.2 fun i j hi hj hij e => ?_
  have h2 := (hg j ss[j] hj (List.getElem?_eq_getElem hj)).2
  have h3 := of_decide_eq_false h2
  refine h3 ?_
  rw [← e]
  exact List.mem_iff_getElem?.2 ⟨i, by rw [List.getElem?_take, if_pos hij, List.getElem?_eq_getElem hi]⟩
theorem goodG_mk {n t : Int} {ss : List (Int × List Int)} (h1 : 1 ≤ n ∧ n ≤ 6) (h2 : 1 ≤ t ∧ t ≤ 4) (h3 : ss.length ≤ 16) (h4 : ∀ u ∈ ss, goodU n t u = true) (h5 : ss.Nodup) : goodG n t ss = true := by
  unfold goodG
  simp only [Bool.and_eq_true, decide_eq_true_eq]
  refine ⟨h1, h2, h3, goodAll_iff.2 fun j u hj hu => ⟨h4 u (List.mem_of_getElem? hu), decide_eq_false fun hm => ?_⟩⟩
  obtain ⟨i, hi⟩ := List.mem_iff_getElem?.1 hm
  rw [List.getElem?_take] at hi
  split at hi
  · rename_i hij
    have a1 := List.getElem?_eq_some_iff.1 hi
    have a2 := List.getElem?_eq_some_iff.1 hu
    obtain ⟨b1, c1⟩ := a1
    obtain ⟨b2, c2⟩ := a2
    exact List.pairwise_iff_getElem.1 h5 i j b1 b2 hij (c1.trans c2.symm)
  · cases hi
theorem goodG_filter {n t : Int} {ss : List (Int × List Int)} (h : goodG n t ss = true) (p : Int × List Int → Bool) : goodG n t (ss.filter p) = true := by
  obtain ⟨h1, h2, h3, hg⟩ := goodG_is h
  refine goodG_mk h1 h2 (by have := List.length_filter_le p ss; omega) (fun u hu => ?_) ((goodG_nodup h).filter p)
  obtain ⟨k, hk⟩ := List.mem_iff_getElem?.1 (List.mem_filter.1 hu).1
  exact (hg k u (List.getElem?_eq_some_iff.1 hk).1 hk).1

theorem map_filter (p : Int × List Int → Bool) (rs : List Ru) : (rs.filter fun u => p u.abs).map Ru.abs = (rs.map Ru.abs).filter p := by
  rw [List.filter_map]
  rfl

/-- The rules that can end in words, by the productive ones. -/
def soundA (P : Int → Bool) (r : Int × List Int) : Bool := r.2.all (tokS P)
/-- us are the useful rules of ss. -/
def IsUse (ss us : List (Int × List Int)) : Prop := ∃ P R, IsLeast wayProd noS ss P ∧ IsLeast wayReach (oneS 0) (ss.filter (soundA P)) R ∧ us = (ss.filter (soundA P)).filter fun r => R r.1
theorem isUse_unique {ss us vs : List (Int × List Int)} (h : IsUse ss us) (k : IsUse ss vs) : us = vs := by
  obtain ⟨P, R, h1, h2, h3⟩ := h
  obtain ⟨Q, T, k1, k2, k3⟩ := k
  have e := h1.unique k1
  subst e
  have e := h2.unique k2
  subst e
  rw [h3, k3]
theorem isUse_good {n t : Int} {ss us : List (Int × List Int)} (hg : goodG n t ss = true) (h : IsUse ss us) : goodG n t us = true := by
  obtain ⟨P, R, _, _, rfl⟩ := h
  exact goodG_filter (goodG_filter hg _) _
/-- Of a rule all of whose right side is productive the left side is, too. -/
theorem sound_left {ss : List (Int × List Int)} {P : Int → Bool} (h : IsLeast wayProd noS ss P) {r : Int × List Int} (hr : r ∈ ss) (hs : soundA P r = true) : P r.1 = true := by
  refine (h r.1).2 ?_
  exact Least.step (S := P) (fun x hx => (h x).1 hx) hr hs (List.mem_singleton.2 rfl)

end Go.Proofs.YtfbpcdmpkbjifaaDoor

/- Plain mathematics of chapter 3: rounds in a graph of which some steps grow; a table that is closed by way of each vertex. -/

namespace Go.Proofs.YtfbpcdmpkbjifaaDoor

section
variable (E M : Int → Int → Prop)

/-- A way from a to b, by the vertices of l. -/
def walkE : Int → List Int → Int → Prop
  | a, [], b => E a b
  | a, c :: l, b => E a c ∧ walkE c l b
/-- .. some step of which grows. -/
def walkM : Int → List Int → Int → Prop
  | a, [], b => M a b
  | a, c :: l, b => (M a c ∧ walkE E c l b) ∨ (E a c ∧ walkM c l b)
end

variable {E M : Int → Int → Prop}

theorem walkE_join : ∀ {l : List Int} {a k b : Int} {l2 : List Int}, walkE E a l k → walkE E k l2 b → walkE E a (l ++ k :: l2) b
  | [], _, _, _, _, h1, h2 => ⟨h1, h2⟩
  | _ :: _, _, _, _, _, h1, h2 => ⟨h1.1, walkE_join h1.2 h2⟩
theorem walkE_part : ∀ {l : List Int} {a k b : Int} {l2 : List Int}, walkE E a (l ++ k :: l2) b → walkE E a l k ∧ walkE E k l2 b
  | [], _, _, _, _, h => h
  | _ :: _, _, _, _, _, h => by
    obtain ⟨h1, h2⟩ := walkE_part h.2
    exact ⟨⟨h.1, h1⟩, h2⟩
theorem walkM_left : ∀ {l : List Int} {a k b : Int} {l2 : List Int}, walkM E M a l k → walkE E k l2 b → walkM E M a (l ++ k :: l2) b
  | [], _, _, _, _, h1, h2 => .inl ⟨h1, h2⟩
  | _ :: _, _, _, _, _, h1, h2 => h1.imp (fun h => ⟨h.1, walkE_join h.2 h2⟩) fun h => ⟨h.1, walkM_left h.2 h2⟩
theorem walkM_right : ∀ {l : List Int} {a k b : Int} {l2 : List Int}, walkE E a l k → walkM E M k l2 b → walkM E M a (l ++ k :: l2) b
  | [], _, _, _, _, h1, h2 => .inr ⟨h1, h2⟩
  | _ :: _, _, _, _, _, h1, h2 => .inr ⟨h1.1, walkM_right h1.2 h2⟩
theorem walkM_part : ∀ {l : List Int} {a k b : Int} {l2 : List Int}, walkM E M a (l ++ k :: l2) b → (walkM E M a l k ∧ walkE E k l2 b) ∨ (walkE E a l k ∧ walkM E M k l2 b)
  | [], _, _, _, _, h => h
  | _ :: _, _, _, _, _, h => by
    rcases h with ⟨h1, h2⟩ | ⟨h1, h2⟩
    · obtain ⟨p1, p2⟩ := walkE_part h2
      exact .inl ⟨.inl ⟨h1, p1⟩, p2⟩
    · rcases walkM_part h2 with ⟨p1, p2⟩ | ⟨p1, p2⟩
      · exact .inl ⟨.inr ⟨h1, p1⟩, p2⟩
      · exact .inr ⟨⟨h1, p1⟩, p2⟩
theorem walkM_E (hM : ∀ a b, M a b → E a b) : ∀ {l : List Int} {a b : Int}, walkM E M a l b → walkE E a l b
  | [], _, _, h => hM _ _ h
  | _ :: _, _, _, h => by
    rcases h with ⟨h1, h2⟩ | ⟨h1, h2⟩
    · exact ⟨hM _ _ h1, h2⟩
    · exact ⟨h1, walkM_E hM h2⟩
/-- In a way that grows there is a step that grows. -/
theorem walkM_step : ∀ {l : List Int} {a b : Int}, walkM E M a l b → ∃ c d, M c d ∧ (c = a ∨ ∃ l1, walkE E a l1 c) ∧ (d = b ∨ ∃ l2, walkE E d l2 b)
  | [], a, b, h => ⟨a, b, h, .inl rfl, .inl rfl⟩
  | x :: l, a, b, h => by
    rcases h with ⟨h1, h2⟩ | ⟨h1, h2⟩
    · exact ⟨a, x, h1, .inl rfl, .inr ⟨l, h2⟩⟩
    · obtain ⟨c, d, hm, hc, hd⟩ := walkM_step h2
      refine ⟨c, d, hm, .inr ?_, hd⟩
      rcases hc with rfl | ⟨l1, h3⟩
      · exact ⟨[], h1⟩
      · exact ⟨x :: l1, h1, h3⟩

theorem not_nodup : ∀ {l : List Int}, ¬ l.Nodup → ∃ v l1 l2 l3, l = l1 ++ v :: (l2 ++ v :: l3)
  | [], h => absurd List.nodup_nil h
  | x :: l, h => by
    by_cases hx : x ∈ l
    · obtain ⟨l2, l3, rfl⟩ := List.append_of_mem hx
      exact ⟨x, [], l2, l3, rfl⟩
    · have hn : ¬ l.Nodup := fun hl => h (List.nodup_cons.2 ⟨hx, hl⟩)
      obtain ⟨v, l1, l2, l3, e⟩ := not_nodup hn
      exact ⟨v, x :: l1, l2, l3, by rw [e]; rfl⟩
/-- Of a round that grows there is one by vertices that are all unlike. -/
theorem round_simple (m : Nat) : ∀ (l : List Int) (k : Int), l.length ≤ m → walkM E M k l k → ∃ l' k', l'.Nodup ∧ walkM E M k' l' k' := by
  induction m with
  | zero =>
    intro l k hl h
    have : l = [] := List.eq_nil_of_length_eq_zero (by omega)
    subst this
    exact ⟨[], k, List.nodup_nil, h⟩
  | succ m ih =>
    intro l k hl h
    by_cases hn : l.Nodup
    · exact ⟨l, k, hn, h⟩
    · obtain ⟨v, l1, l2, l3, rfl⟩ := not_nodup hn
      simp only [List.length_append, List.length_cons] at hl
      rcases walkM_part h with ⟨p1, p2⟩ | ⟨p1, p2⟩
      · obtain ⟨q1, q2⟩ := walkE_part p2
        exact ih (l1 ++ v :: l3) k (by simp only [List.length_append, List.length_cons]; omega) (walkM_left p1 q2)
      · rcases walkM_part p2 with ⟨q1, q2⟩ | ⟨q1, q2⟩
        · exact ih l2 v (by omega) q1
        · exact ih (l1 ++ v :: l3) k (by simp only [List.length_append, List.length_cons]; omega) (walkM_right p1 q2)

/-- A table of bools. -/
abbrev Tab := Int → Int → Bool
/-- Both tables tell ways alone. -/
def SoundT (E M : Int → Int → Prop) (T U : Tab) : Prop := (∀ a b, T a b = true → ∃ l, walkE E a l b) ∧ ∀ a b, U a b = true → ∃ l, walkM E M a l b
/-- All ways by unlike vertices below k are told. -/
def UptoT (E M : Int → Int → Prop) (k : Int) (T U : Tab) : Prop := ∀ (a b : Int) (l : List Int), l.Nodup → (∀ x ∈ l, 0 ≤ x ∧ x < k) → (walkE E a l b → T a b = true) ∧ (walkM E M a l b → U a b = true)
/-- What the step by way of k makes of one place. -/
def byU (T U : Tab) (k a b : Int) : Bool := U a b || (T a k && U k b) || (U a k && T k b)
def byT (T : Tab) (k a b : Int) : Bool := T a b || (T a k && T k b)
def setT (T : Tab) (a b : Int) (v : Bool) : Tab := fun x y => if x = a ∧ y = b then v else T x y
theorem sound_setU {T U : Tab} (h : SoundT E M T U) (k a b : Int) : SoundT E M T (setT U a b (byU T U k a b)) := by
  refine ⟨h.1, fun x y hxy => ?_⟩
  unfold setT at hxy
  split at hxy
  · rename_i e
    obtain ⟨rfl, rfl⟩ := e
    unfold byU at hxy
    simp only [Bool.or_eq_true, Bool.and_eq_true] at hxy
    rcases hxy with (h1 | ⟨h1, h2⟩) | ⟨h1, h2⟩
    · exact h.2 _ _ h1
    · obtain ⟨l1, p1⟩ := h.1 _ _ h1
      obtain ⟨l2, p2⟩ := h.2 _ _ h2
      exact ⟨_, walkM_right p1 p2⟩
    · obtain ⟨l1, p1⟩ := h.2 _ _ h1
      obtain ⟨l2, p2⟩ := h.1 _ _ h2
      exact ⟨_, walkM_left p1 p2⟩
  · exact h.2 _ _ hxy
theorem sound_setT {T U : Tab} (h : SoundT E M T U) (k a b : Int) : SoundT E M (setT T a b (byT T k a b)) U := by
  refine ⟨fun x y hxy => ?_, h.2⟩
  unfold setT at hxy
  split at hxy
  · rename_i e
    obtain ⟨rfl, rfl⟩ := e
    unfold byT at hxy
    simp only [Bool.or_eq_true, Bool.and_eq_true] at hxy
    rcases hxy with h1 | ⟨h1, h2⟩
    · exact h.1 _ _ h1
    · obtain ⟨l1, p1⟩ := h.1 _ _ h1
      obtain ⟨l2, p2⟩ := h.1 _ _ h2
      exact ⟨_, walkE_join p1 p2⟩
  · exact h.1 _ _ hxy
/-- T holds all that S holds. -/
def LeT (S T : Tab) : Prop := ∀ a b, S a b = true → T a b = true
theorem leT_set {T : Tab} {a b : Int} {v : Bool} (h : T a b = true → v = true) : LeT T (setT T a b v) := fun x y hxy => by
  unfold setT
  split
  · rename_i e
    obtain ⟨rfl, rfl⟩ := e
    exact h hxy
  · exact hxy
/-- The step by way of k is done at (a, b). -/
def DoneAt (T0 U0 T U : Tab) (k a b : Int) : Prop := (byT T0 k a b = true → T a b = true) ∧ (byU T0 U0 k a b = true → U a b = true)
theorem DoneAt.mono {T0 U0 T U T' U' : Tab} {k a b : Int} (h : DoneAt T0 U0 T U k a b) (hT : LeT T T') (hU : LeT U U') : DoneAt T0 U0 T' U' k a b := ⟨fun e => hT _ _ (h.1 e), fun e => hU _ _ (h.2 e)⟩
/-- One step more. -/
theorem upto_step' {T0 U0 T U : Tab} {n k : Int} (h : UptoT E M k T0 U0) (hE : ∀ a b, E a b → (0 ≤ a ∧ a < n) ∧ (0 ≤ b ∧ b < n)) (hM : ∀ a b, M a b → E a b) (hT : LeT T0 T) (hU : LeT U0 U) (hd : ∀ a b, 0 ≤ a → a < n → 0 ≤ b → b < n → DoneAt T0 U0 T U k a b) : UptoT E M (k + 1) T U := by
  have hends : ∀ {l : List Int} {a b : Int}, walkE E a l b → (0 ≤ a ∧ a < n) ∧ (0 ≤ b ∧ b < n) := by
    intro l
    induction l with
    | nil => intro a b h; exact hE _ _ h
    | cons c l ih => intro a b h; exact ⟨(hE _ _ h.1).1, (ih h.2).2⟩
  intro a b l hn hl
  by_cases hk : k ∈ l
  · obtain ⟨l1, l2, rfl⟩ := List.append_of_mem hk
    obtain ⟨n1, n2, n3⟩ := List.nodup_append.1 hn
    obtain ⟨n4, n5⟩ := List.nodup_cons.1 n2
    have hk1 : k ∉ l1 := fun hm => n3 k hm k List.mem_cons_self rfl
    have b1 : ∀ x ∈ l1, 0 ≤ x ∧ x < k := fun x hx => by
      have := hl x (List.mem_append_left _ hx)
      have : x ≠ k := fun e => hk1 (e ▸ hx)
      omega
    have b2 : ∀ x ∈ l2, 0 ≤ x ∧ x < k := fun x hx => by
      have := hl x (List.mem_append_right _ (List.mem_cons_of_mem _ hx))
      have : x ≠ k := fun e => n4 (e ▸ hx)
      omega
    have f1 := h a k l1 n1 b1
    have f2 := h k b l2 n5 b2
    refine ⟨fun hw => ?_, fun hw => ?_⟩
    · obtain ⟨⟨a1, a2⟩, ⟨a3, a4⟩⟩ := hends hw
      obtain ⟨p1, p2⟩ := walkE_part hw
      refine (hd a b a1 a2 a3 a4).1 ?_
      unfold byT
      rw [f1.1 p1, f2.1 p2]
      simp
    · obtain ⟨⟨a1, a2⟩, ⟨a3, a4⟩⟩ := hends (walkM_E hM hw)
      refine (hd a b a1 a2 a3 a4).2 ?_
      unfold byU
      rcases walkM_part hw with ⟨p1, p2⟩ | ⟨p1, p2⟩
      · rw [f1.2 p1, f2.1 p2]; simp
      · rw [f1.1 p1, f2.2 p2]; simp
  · have b1 : ∀ x ∈ l, 0 ≤ x ∧ x < k := fun x hx => by
      have := hl x hx
      have : x ≠ k := fun e => hk (e ▸ hx)
      omega
    have f := h a b l hn b1
    exact ⟨fun hw => hT _ _ (f.1 hw), fun hw => hU _ _ (f.2 hw)⟩
/-- At the start the tables tell just the steps. -/
theorem upto_zero {T U : Tab} (hT : ∀ a b, E a b → T a b = true) (hU : ∀ a b, M a b → U a b = true) : UptoT E M 0 T U := fun a b l hn hl => by
  cases l with
  | nil => exact ⟨hT a b, hU a b⟩
  | cons x l => have := hl x List.mem_cons_self; omega
/-- In the end some place (k, k) is told just where a step that grows can be gone round. -/
theorem tab_round {T U : Tab} {n : Int} (hE : ∀ a b, E a b → (0 ≤ a ∧ a < n) ∧ (0 ≤ b ∧ b < n)) (hM : ∀ a b, M a b → E a b) (hs : SoundT E M T U) (hu : UptoT E M n T U) :
    (∃ k, (0 ≤ k ∧ k < n) ∧ U k k = true) ↔ ∃ a b, M a b ∧ (b = a ∨ ∃ l, walkE E b l a) := by
  constructor
  · rintro ⟨k, _, hk⟩
    obtain ⟨l, hl⟩ := hs.2 k k hk
    obtain ⟨c, d, hm, hc, hd⟩ := walkM_step hl
    refine ⟨c, d, hm, ?_⟩
    rcases hc with rfl | ⟨l1, h1⟩
    · exact hd
    · rcases hd with rfl | ⟨l2, h2⟩
      · exact .inr ⟨l1, h1⟩
      · exact .inr ⟨_, walkE_join h2 h1⟩
  · rintro ⟨a, b, hm, hr⟩
    have hw : ∃ l, walkM E M a l a := by
      rcases hr with rfl | ⟨l, hl⟩
      · exact ⟨[], hm⟩
      · exact ⟨b :: l, .inl ⟨hm, hl⟩⟩
    obtain ⟨l, hl⟩ := hw
    obtain ⟨l', k', hn, hk⟩ := round_simple l.length l a (Nat.le_refl _) hl
    have hin : ∀ {l : List Int} {a b : Int}, walkE E a l b → ((0 ≤ a ∧ a < n) ∧ (0 ≤ b ∧ b < n)) ∧ ∀ x ∈ l, 0 ≤ x ∧ x < n := by
      intro l
      induction l with
      | nil => intro a b h; exact ⟨hE _ _ h, fun x hx => by cases hx⟩
      | cons c l ih =>
        intro a b h
        have h1 := hE _ _ h.1
        have h2 := ih h.2
        refine ⟨⟨h1.1, h2.1.2⟩, fun x hx => ?_⟩
        rcases List.mem_cons.1 hx with rfl | hx
        · exact h1.2
        · exact h2.2 x hx
    have hb := hin (walkM_E hM hk)
    exact ⟨k', hb.1.1, (hu k' k' l' hn hb.2).2 hk⟩

end Go.Proofs.YtfbpcdmpkbjifaaDoor

/- Two square tables of bools in memory, as l3Leads makes them. -/

namespace Go.Proofs.YtfbpcdmpkbjifaaDoor
open Go.RowKit

theorem Tryd.infoBool : (Tryd.prog.info? 4).map (fun i => (i.zero, i.size, i.bytes)) = some (some (.bool false), 1, 1) := by kernel_rfl
theorem Tryd.infoBools : (Tryd.prog.info? 205).map (fun i => (i.zero, i.size, i.bytes)) = some (some (.slice none 0 0), 1, 24) := by kernel_rfl

/-- N bools. -/
def bools (N : Nat) (f : Int → Bool) : Array Value := Array.ofFn (n := N) fun b => .bool (f (b.val : Int))
theorem bools_get {N : Nat} {f : Int → Bool} {b : Nat} (hb : b < N) : (bools N f)[b]? = some (.bool (f b)) := by
  unfold bools
  rw [Array.getElem?_ofFn, dif_pos hb]
theorem bools_size {N : Nat} {f : Int → Bool} : (bools N f).size = N := by unfold bools; simp
theorem bools_set {N : Nat} {f : Int → Bool} {b : Nat} {v : Bool} : (bools N f).setIfInBounds b (.bool v) = bools N fun y => if y = b then v else f y := by
  apply Array.ext
  · simp [bools_size]
  · intro i h1 h2
    have hi : i < N := by rw [bools_size] at h2; exact h2
    have e : (bools N fun y => if y = b then v else f y)[i]? = some (.bool (if (i : Int) = b then v else f i)) := bools_get hi
    have e2 : ((bools N f).setIfInBounds b (.bool v))[i]? = some (.bool (if (i : Int) = b then v else f i)) := by
      rw [Array.getElem?_setIfInBounds]
      by_cases h : b = i
      · subst h
        rw [if_pos rfl, if_pos (by rw [bools_size]; exact hi), if_pos rfl]
      · rw [if_neg h, bools_get hi, if_neg (by omega)]
    rw [Array.getElem?_eq_getElem h1] at e2
    rw [Array.getElem?_eq_getElem h2] at e
    exact (Option.some.inj e2).trans (Option.some.inj e).symm
theorem bools_no (N : Nat) : madeCells #[.bool false] N = bools N fun _ => false := by
  apply Array.ext
  · rw [size_madeCells, bools_size]
  · intro i h1 h2
    simp [madeCells, bools, Nat.mod_one]

theorem make_bools (n : Nat) (hn : n ≤ 6) (w : World) :
    (Instr.makeSlice 205 (.int .i64 (n : Int)) (.int .i64 (n : Int))).run Tryd.prog w = .ok (.slice (some ⟨w.heap.size, 0, none⟩) n n) (w.alloc (.cells (bools n fun _ => false) 4)) := by
  obtain ⟨i, hi, hz, hs, hb⟩ := info_of Tryd.infoBool
  have h := run_make (P := Tryd.prog) w 205 4 i _ Tryd.underlying205 hi hz .i64 .i64 n n (by omega) (by omega) (by rw [hb]; omega) (by omega)
  rw [hs] at h
  rw [← bools_no]
  simpa [Value.cells] using h
def zS (n : Nat) : Array Value := madeCells #[.slice none 0 0] n
theorem zS_size (n : Nat) : (zS n).size = n := size_madeCells _ _
theorem make_rows (n : Nat) (hn : n ≤ 6) (w : World) :
    (Instr.makeSlice 206 (.int .i64 (n : Int)) (.int .i64 (n : Int))).run Tryd.prog w = .ok (.slice (some ⟨w.heap.size, 0, none⟩) n n) (w.alloc (.cells (zS n) 205)) := by
  obtain ⟨i, hi, hz, hs, hb⟩ := info_of Tryd.infoBools
  have h := run_make (P := Tryd.prog) w 206 205 i _ Tryd.underlying206 hi hz .i64 .i64 n n (by omega) (by omega) (by rw [hb]; omega) (by omega)
  rw [hs] at h
  simpa [zS, Value.cells] using h

/-- The first k rows of the two tables T and U, behind block S. -/
def Tabs2 (w : World) (S N k : Nat) (T U : Tab) : Prop :=
  (∃ cs, Row w S 205 cs ∧ cs.size = N ∧ ∀ a : Nat, a < k → cs[a]? = some (.slice (some ⟨S + 2 + 2 * a, 0, none⟩) N N)) ∧
  (∃ cs, Row w (S + 1) 205 cs ∧ cs.size = N ∧ ∀ a : Nat, a < k → cs[a]? = some (.slice (some ⟨S + 3 + 2 * a, 0, none⟩) N N)) ∧
  (∀ a : Nat, a < k → Row w (S + 2 + 2 * a) 4 (bools N (T a))) ∧
  ∀ a : Nat, a < k → Row w (S + 3 + 2 * a) 4 (bools N (U a))

theorem Tabs2.lt {w : World} {S N k : Nat} {T U : Tab} (h : Tabs2 w S N k T U) : S + 2 + 2 * k ≤ w.heap.size := by
  obtain ⟨_, ⟨_, h2, _⟩, _, h4⟩ := h
  have := h2.lt
  cases k with
  | zero => omega
  | succ k => have := (h4 k (by omega)).lt; omega
theorem Tabs2.keep {w w' : World} {S N k B : Nat} {T U : Tab} (h : Tabs2 w S N k T U) (hb : Below B w w') (hB : S + 2 + 2 * k ≤ B) : Tabs2 w' S N k T U := by
  obtain ⟨⟨cs, h1, h1'⟩, ⟨ds, h2, h2'⟩, h3, h4⟩ := h
  exact ⟨⟨cs, h1.below hb (by omega), h1'⟩, ⟨ds, h2.below hb (by omega), h2'⟩, fun a ha => (h3 a ha).below hb (by omega), fun a ha => (h4 a ha).below hb (by omega)⟩
theorem Tabs2.one {w : World} {S N k : Nat} {T U : Tab} (h : Tabs2 w S N k T U) {a : Nat} (ha : a < k) : w.cell? ⟨S, a, none⟩ = some (.slice (some ⟨S + 2 + 2 * a, 0, none⟩) N N) := by
  obtain ⟨⟨cs, h1, _, h1'⟩, _⟩ := h
  exact (h1.cell a).trans (h1' a ha)
theorem Tabs2.two {w : World} {S N k : Nat} {T U : Tab} (h : Tabs2 w S N k T U) {a : Nat} (ha : a < k) : w.cell? ⟨S + 1, a, none⟩ = some (.slice (some ⟨S + 3 + 2 * a, 0, none⟩) N N) := by
  obtain ⟨_, ⟨cs, h1, _, h1'⟩, _⟩ := h
  exact (h1.cell a).trans (h1' a ha)
theorem Tabs2.atT {w : World} {S N k : Nat} {T U : Tab} (h : Tabs2 w S N k T U) {a b : Nat} (ha : a < k) (hb : b < N) : w.cell? ⟨S + 2 + 2 * a, b, none⟩ = some (.bool (T a b)) ∧ w.frozen? ⟨S + 2 + 2 * a, b, none⟩ = false := by
  obtain ⟨_, _, h3, _⟩ := h
  exact ⟨((h3 a ha).cell b).trans (bools_get hb), (h3 a ha).frozen b⟩
theorem Tabs2.atU {w : World} {S N k : Nat} {T U : Tab} (h : Tabs2 w S N k T U) {a b : Nat} (ha : a < k) (hb : b < N) : w.cell? ⟨S + 3 + 2 * a, b, none⟩ = some (.bool (U a b)) ∧ w.frozen? ⟨S + 3 + 2 * a, b, none⟩ = false := by
  obtain ⟨_, _, _, h4⟩ := h
  exact ⟨((h4 a ha).cell b).trans (bools_get hb), (h4 a ha).frozen b⟩
theorem setT_row {T : Tab} {a b : Int} {v : Bool} : (fun y => if y = b then v else T a y) = setT T a b v a := by
  funext y
  unfold setT
  by_cases h : y = b
  · rw [if_pos h, if_pos ⟨rfl, h⟩]
  · rw [if_neg h, if_neg fun e => h e.2]
theorem setT_far {T : Tab} {a b c : Int} {v : Bool} (h : c ≠ a) : setT T a b v c = T c := by
  funext y
  unfold setT
  rw [if_neg fun e => h e.1]
theorem Tabs2.putT {w : World} {S N k : Nat} {T U : Tab} (h : Tabs2 w S N k T U) {a : Nat} (ha : a < k) (b : Nat) (v : Bool) : Tabs2 (w.setCell ⟨S + 2 + 2 * a, b, none⟩ (.bool v)) S N k (setT T a b v) U := by
  obtain ⟨⟨cs, h1, h1'⟩, ⟨ds, h2, h2'⟩, h3, h4⟩ := h
  refine ⟨⟨cs, h1.far (by simp; omega) _, h1'⟩, ⟨ds, h2.far (by simp; omega) _, h2'⟩, fun c hc => ?_, fun c hc => (h4 c hc).far (by simp; omega) _⟩
  by_cases e : c = a
  · subst e
    have h5 := (h3 c ha).set b (.bool v)
    rw [bools_set, setT_row] at h5
    exact h5
  · rw [setT_far (by omega)]
    exact (h3 c hc).far (by simp; omega) _
theorem Tabs2.putU {w : World} {S N k : Nat} {T U : Tab} (h : Tabs2 w S N k T U) {a : Nat} (ha : a < k) (b : Nat) (v : Bool) : Tabs2 (w.setCell ⟨S + 3 + 2 * a, b, none⟩ (.bool v)) S N k T (setT U a b v) := by
  obtain ⟨⟨cs, h1, h1'⟩, ⟨ds, h2, h2'⟩, h3, h4⟩ := h
  refine ⟨⟨cs, h1.far (by simp; omega) _, h1'⟩, ⟨ds, h2.far (by simp; omega) _, h2'⟩, fun c hc => (h3 c hc).far (by simp; omega) _, fun c hc => ?_⟩
  by_cases e : c = a
  · subst e
    have h5 := (h4 c ha).set b (.bool v)
    rw [bools_set, setT_row] at h5
    exact h5
  · rw [setT_far (by omega)]
    exact (h4 c hc).far (by simp; omega) _

def noT : Tab := fun _ _ => false
theorem Tabs2.made (w : World) (N : Nat) : Tabs2 ((w.alloc (.cells (zS N) 205)).alloc (.cells (zS N) 205)) w.heap.size N 0 noT noT := by
  refine ⟨⟨zS N, (Row.new w _ _).alloc _, zS_size _, fun a h => absurd h (by omega)⟩, ⟨zS N, ?_, zS_size _, fun a h => absurd h (by omega)⟩, fun a h => absurd h (by omega), fun a h => absurd h (by omega)⟩
  have h := Row.new (w.alloc (.cells (zS N) 205)) 205 (zS N)
  rw [World.size_alloc] at h
  exact h
theorem Tabs2.grow {w : World} {S N k : Nat} (h : Tabs2 w S N k noT noT) (hs : w.heap.size = S + 2 + 2 * k) (hk : k < N) :
    Tabs2 ((((w.setCell ⟨S, k, none⟩ (.slice (some ⟨w.heap.size, 0, none⟩) N N)).setCell ⟨S + 1, k, none⟩ (.slice (some ⟨w.heap.size + 1, 0, none⟩) N N)).alloc (.cells (bools N fun _ => false) 4)).alloc (.cells (bools N fun _ => false) 4)) S N (k + 1) noT noT := by
  obtain ⟨⟨cs, h1, h1s, h1'⟩, ⟨ds, h2, h2s, h2'⟩, h3, h4⟩ := h
  generalize hW : ((w.setCell ⟨S, k, none⟩ (.slice (some ⟨w.heap.size, 0, none⟩) N N)).setCell ⟨S + 1, k, none⟩ (.slice (some ⟨w.heap.size + 1, 0, none⟩) N N)) = W
  have hz : W.heap.size = w.heap.size := by subst hW; simp
  have hT : Row (W.alloc (.cells (bools N fun _ => false) 4)) w.heap.size 4 (bools N fun _ => false) := by
    have h := Row.new W 4 (bools N fun _ => false)
    rw [hz] at h
    exact h
  have hU : Row ((W.alloc (.cells (bools N fun _ => false) 4)).alloc (.cells (bools N fun _ => false) 4)) (w.heap.size + 1) 4 (bools N fun _ => false) := by
    have h := Row.new (W.alloc (.cells (bools N fun _ => false) 4)) 4 (bools N fun _ => false)
    rw [World.size_alloc, hz] at h
    exact h
  have k1 : Row W S 205 (cs.setIfInBounds k (.slice (some ⟨w.heap.size, 0, none⟩) N N)) := by subst hW; exact (h1.set k _).far (by simp) _
  have k2 : Row W (S + 1) 205 (ds.setIfInBounds k (.slice (some ⟨w.heap.size + 1, 0, none⟩) N N)) := by subst hW; exact (h2.far (by simp) _).set k _
  have k3 : ∀ {g : Nat} {t : TypeId} {es : Array Value}, Row w g t es → g ≠ S → g ≠ S + 1 → Row W g t es := fun h a b => by subst hW; exact (h.far (by simpa using a) _).far (by simpa using b) _
  refine ⟨⟨_, (k1.alloc _).alloc _, by simp [h1s], fun a ha => ?_⟩, ⟨_, (k2.alloc _).alloc _, by simp [h2s], fun a ha => ?_⟩, fun a ha => ?_, fun a ha => ?_⟩
  · rw [Array.getElem?_setIfInBounds]
    by_cases e : k = a
    · subst e
      rw [if_pos rfl, if_pos (by omega), hs]
    · rw [if_neg e]
      exact h1' a (by omega)
  · rw [Array.getElem?_setIfInBounds]
    by_cases e : k = a
    · subst e
      rw [if_pos rfl, if_pos (by omega), hs]
      have : S + 2 + 2 * k + 1 = S + 3 + 2 * k := by omega
      rw [this]
    · rw [if_neg e]
      exact h2' a (by omega)
  · by_cases e : k = a
    · subst e
      rw [← hs]
      exact hT.alloc _
    · exact ((k3 (h3 a (by omega)) (by omega) (by omega)).alloc _).alloc _
  · by_cases e : k = a
    · subst e
      have : S + 3 + 2 * k = w.heap.size + 1 := by omega
      rw [this]
      exact hU
    · exact ((k3 (h4 a (by omega)) (by omega) (by omega)).alloc _).alloc _

end Go.Proofs.YtfbpcdmpkbjifaaDoor

/- What GoodWord answers, the program's and the reference's. -/

namespace Go.Proofs.YtfbpcdmpkbjifaaDoor
open Go.RowKit

/-- All numbers lie within bounds. -/
def allB (lo hi : Int) (xs : List Int) : Bool := xs.all fun x => inB lo hi x
theorem allB_iff {lo hi : Int} {xs : List Int} : allB lo hi xs = true ↔ ∀ (k : Nat) (x : Int), xs[k]? = some x → inB lo hi x = true := by
  unfold allB
  rw [List.all_eq_true]
  constructor
  · intro h k x hx
    exact h x (List.mem_of_getElem? hx)
  · intro h x hx
    obtain ⟨k, hk⟩ := List.mem_iff_getElem?.1 hx
    exact h k x hk
theorem allB_not {lo hi : Int} {xs : List Int} {k : Nat} (hk : k < xs.length) (h : inB lo hi xs[k] = false) : allB lo hi xs = false := by
  cases e : allB lo hi xs
  · rfl
  · rw [allB_iff.1 e k _ (List.getElem?_eq_getElem hk)] at h; cases h
theorem allB_of {lo hi : Int} {xs : List Int} {k : Nat} (hk : ¬ k < xs.length) (h : ∀ (j : Nat) (x : Int), j < k → xs[j]? = some x → inB lo hi x = true) : allB lo hi xs = true :=
  allB_iff.2 fun j x hx => h j x (by have := (List.getElem?_eq_some_iff.1 hx).1; omega) hx
theorem all_step {lo hi : Int} {xs : List Int} {k : Nat} (hk : k < xs.length) (h : inB lo hi xs[k] = true) (H : ∀ (j : Nat) (x : Int), j < k → xs[j]? = some x → inB lo hi x = true) :
    ∀ (j : Nat) (x : Int), j < k + 1 → xs[j]? = some x → inB lo hi x = true := by
  intro j x hj hx
  by_cases e : j = k
  · subst e; rw [List.getElem?_eq_getElem hk] at hx; injection hx with hx; subst hx; exact h
  · exact H j x (by omega) hx

def wordB (t : Int) (xs : List Int) : Bool := decide (xs.length ≤ 10) && allB 0 (t - 1) xs
def goodW (n t : Int) (ss : List (Int × List Int)) (xs : List Int) : Bool := goodG n t ss && wordB t xs
theorem goodW_no {n t : Int} {ss : List (Int × List Int)} {xs : List Int} (h : goodG n t ss = false) : goodW n t ss xs = false := by unfold goodW; rw [h]; rfl
theorem goodW_yes {n t : Int} {ss : List (Int × List Int)} {xs : List Int} (h : goodG n t ss = true) : goodW n t ss xs = wordB t xs := by unfold goodW; rw [h]; rfl
theorem wordB_long {t : Int} {xs : List Int} (h : ¬ xs.length ≤ 10) : wordB t xs = false := by unfold wordB; rw [decide_eq_false h]; rfl
theorem wordB_all {t : Int} {xs : List Int} (h : xs.length ≤ 10) : wordB t xs = allB 0 (t - 1) xs := by unfold wordB; rw [decide_eq_true h]; rfl

set_option maxHeartbeats 400000 in
theorem l1All_any (A : Option Addr) (xs : List Int) (c : Nat) (lo hi : Int) (w : World) (hx : Ints w w.heap.size A xs) (h1 : xs.length ≤ 1048576) :
    Calls Tryd.prog 119 #[.slice A xs.length c, .int .i64 lo, .int .i64 hi] w fun e w' => e = .returned (.bool (allB lo hi xs)) ∧ Below w.heap.size w w' := by
  have HX := Lib.hid hx; clear hx
  go_enter Tryd.func119, Tryd.ntmps119
  go_wp2
  go_loopw [11] (fun i wr => ∃ (k : Nat), k ≤ xs.length ∧ i = .int .i64 k ∧ Below w.heap.size w wr ∧ Hid (∀ (j : Nat) (x : Int), j < k → xs[j]? = some x → inB lo hi x = true)) (fun i _ => xs.length - (intOf i).toNat)
  case atStart => exact ⟨0, by omega, rfl, Below.refl _ _, fun j x h => absurd h (by omega)⟩
  case round =>
    obtain ⟨k, hk, rfl, hB, H⟩ := hrel
    by_cases hlt : k < xs.length
    · obtain ⟨b, o, rfl, hb, c1⟩ := (HX.out.keep hB).at_ hlt
      cases hs : inB lo hi xs[k]
      all_goals
        have HS := Lib.hid hs; clear hs
        go_wp2_with fail
        refine (l1In_any _ _ _ _).mono ?_
        rintro e w1 ⟨rfl, rfl⟩
        rw [HS.out]
        go_wp2
      · have HE : Hid (allB lo hi xs = false) := allB_not hlt HS.out
        go_ret
        exact ⟨ret_bool HE.out.symm, hB⟩
      · go_roundw
        case rel => exact ⟨k + 1, by omega, by go_num, hB, all_step hlt HS.out H.out⟩
        case measure => simp [intOf]; omega
    · have HE : Hid (allB lo hi xs = true) := allB_of hlt H.out
      go_wp2
      go_ret
      exact ⟨ret_bool HE.out.symm, hB⟩

end Go.Proofs.YtfbpcdmpkbjifaaDoor

/- The reference's table of what derives what in memory, and what it tells of symbols. -/

namespace Go.Proofs.YtfbpcdmpkbjifaaDoor
open Go.RowKit

noncomputable def bD (P : Prop) : Bool := @decide P (Classical.propDecidable P)
theorem bD_t {P : Prop} (h : P) : bD P = true := @decide_eq_true P (Classical.propDecidable P) h
theorem bD_f {P : Prop} (h : ¬ P) : bD P = false := @decide_eq_false P (Classical.propDecidable P) h
theorem bD_iff {P : Prop} : bD P = true ↔ P := ⟨fun h => @of_decide_eq_true P (Classical.propDecidable P) h, bD_t⟩
theorem bD_eq {P : Prop} {b : Bool} (h : b = true ↔ P) : bD P = b := by
  cases b
  · exact bD_f fun k => by have := h.2 k; cases this
  · exact bD_t (h.1 rfl)

/-- The first k rows of the table T, behind block S: N of them, of M cells. -/
def TabR (w : World) (S N M k : Nat) (T : Nat → Nat → Bool) : Prop :=
  (∃ cs, Row w S 205 cs ∧ cs.size = N ∧ ∀ a : Nat, a < k → cs[a]? = some (.slice (some ⟨S + 1 + a, 0, none⟩) M M)) ∧ ∀ a : Nat, a < k → Row w (S + 1 + a) 4 (bools M fun c => T a c.toNat)
theorem TabR.lt {w : World} {S N M k : Nat} {T : Nat → Nat → Bool} (h : TabR w S N M k T) : S + 1 + k ≤ w.heap.size := by
  obtain ⟨⟨_, h2, _⟩, h4⟩ := h
  have := h2.lt
  cases k with
  | zero => omega
  | succ k => have := (h4 k (by omega)).lt; omega
theorem TabR.keep {w w' : World} {S N M k B : Nat} {T : Nat → Nat → Bool} (h : TabR w S N M k T) (hb : Below B w w') (hB : S + 1 + k ≤ B) : TabR w' S N M k T := by
  obtain ⟨⟨cs, h1, h1'⟩, h3⟩ := h
  exact ⟨⟨cs, h1.below hb (by omega), h1'⟩, fun a ha => (h3 a ha).below hb (by omega)⟩
theorem TabR.row {w : World} {S N M k : Nat} {T : Nat → Nat → Bool} (h : TabR w S N M k T) {a : Nat} (ha : a < k) : w.cell? ⟨S, a, none⟩ = some (.slice (some ⟨S + 1 + a, 0, none⟩) M M) := by
  obtain ⟨⟨cs, h1, _, h1'⟩, _⟩ := h
  exact (h1.cell a).trans (h1' a ha)
theorem TabR.at_ {w : World} {S N M k : Nat} {T : Nat → Nat → Bool} (h : TabR w S N M k T) {a c : Nat} (ha : a < k) (hc : c < M) : w.cell? ⟨S + 1 + a, c, none⟩ = some (.bool (T a c)) ∧ w.frozen? ⟨S + 1 + a, c, none⟩ = false := by
  have h3 := h.2 a ha
  refine ⟨(h3.cell c).trans ((bools_get hc).trans ?_), h3.frozen c⟩
  rw [Int.toNat_natCast]
theorem TabR.put {w : World} {S N M k : Nat} {T : Nat → Nat → Bool} (h : TabR w S N M k T) {a c : Nat} (ha : a < k) : TabR (w.setCell ⟨S + 1 + a, c, none⟩ (.bool true)) S N M k (setB T a c) := by
  obtain ⟨⟨cs, h1, h1'⟩, h3⟩ := h
  refine ⟨⟨cs, h1.far (by simp; omega) _, h1'⟩, fun b hb => ?_⟩
  by_cases e : b = a
  · subst e
    have h4 := (h3 b hb).set c (.bool true)
    rw [bools_set] at h4
    have e3 : bools M (fun y : Int => setB T b c b y.toNat) = bools M (fun y : Int => if y = (c : Int) then true else T b y.toNat) := by
      unfold bools
      congr 1
      funext i
      unfold setB
      dsimp only
      by_cases e4 : i.val = c
      · rw [if_pos ⟨rfl, by simpa using e4⟩, if_pos (by omega)]
      · rw [if_neg (fun h => e4 (by simpa using h.2)), if_neg (by omega)]
    rw [e3]
    exact h4
  · have h4 := (h3 b hb).far (p := ⟨S + 1 + a, c, none⟩) (by simp; omega) (.bool true)
    have e3 : (fun y : Int => setB T a c b y.toNat) = fun y : Int => T b y.toNat := by
      funext y
      unfold setB
      rw [if_neg (fun h => e h.1)]
    rw [e3]
    exact h4

set_option maxRecDepth 20000 in
set_option maxHeartbeats 1000000 in
theorem l4Symbol_any (S N : Nat) (T : Nat → Nat → Bool) (Aw : Option Addr) (cw : Nat) (ws : List Int) (x : Int) (i j : Nat) (v : World) (hT : TabR v S N ((ws.length + 1) * (ws.length + 1)) N T) (hW : Ints v v.heap.size Aw ws) (hw : ws.length ≤ 10) (hi : i ≤ ws.length) (hj : j ≤ ws.length) (hx : -10 ≤ x ∧ x < N) :
    Calls Tryd.prog 183 #[.slice (some ⟨S, 0, none⟩) N N, .slice Aw ws.length cw, .int .i64 x, .int .i64 (i : Int), .int .i64 (j : Int)] v fun e v' => e = .returned (.bool (bD (SymD (DT ws.length T) ws x i j))) ∧ v' = v := by
  obtain ⟨x0, x1⟩ := hx
  by_cases h0 : 0 ≤ x
  · obtain ⟨y, rfl⟩ := Int.eq_ofNat_of_zero_le h0
    have hyN : y < N := by omega
    have c1 := hT.row hyN
    obtain ⟨c2, _⟩ := hT.at_ hyN (cell_lt hi hj)
    have HV : Hid (bD (SymD (DT ws.length T) ws y i j) = T y (i * (ws.length + 1) + j)) := bD_eq ⟨fun h => .inr ⟨h0, h0, hi, hj, h⟩, fun h => by rcases h with h | h; omega; exact h.2.2.2.2⟩
    have hq : (i : Int) * ((ws.length : Int) + 1) + (j : Int) = ((i * (ws.length + 1) + j : Nat) : Int) := by simp
    have hl := cell_lt hi hj
    have h121 := cell_121 hw hl
    have hp : (i : Int) * ((ws.length : Int) + 1) = ((i * (ws.length + 1) : Nat) : Int) := by simp
    have hb0 : (i : Int) * ((ws.length : Int) + 1) ≤ 121 := by omega
    have hb1 : 0 ≤ (i : Int) * ((ws.length : Int) + 1) := by omega
    generalize hqq : i * (ws.length + 1) + j = q at *
    generalize hM : (ws.length + 1) * (ws.length + 1) = M at *
    clear hqq hM hp h0 hT hW
    go_enter Tryd.func183, Tryd.ntmps183
    go_wp2
    go_ret
    exact ⟨ret_bool HV.out.symm, rfl⟩
  · have hxn : x < 0 := by omega
    by_cases he : j = i + 1
    · subst he
      obtain ⟨p, o, rfl, hp, c1⟩ := hW.at_ (show i < ws.length by omega)
      have HV : Hid (bD (SymD (DT ws.length T) ws x i (i + 1)) = (ws[i] == -1 - x)) := bD_eq (by
        rw [beq_iff_eq]
        exact ⟨fun h => .inl ⟨hxn, rfl, by rw [List.getElem?_eq_getElem (by omega), h]⟩, fun h => by
          rcases h with h | h
          · exact (List.getElem?_eq_some_iff.1 h.2.2).2
          · omega⟩)
      have hje : (((i + 1 : Nat) : Int) == (i : Int) + 1) = true := by rw [beq_iff_eq]; omega
      clear hT hW
      go_enter Tryd.func183, Tryd.ntmps183
      go_wp2
      go_ret
      exact ⟨ret_bool HV.out.symm, rfl⟩
    · have HV : Hid (bD (SymD (DT ws.length T) ws x i j) = false) := bD_f (by rintro (h | h); exact he h.2.1; omega)
      have hje : ((j : Int) == (i : Int) + 1) = false := by rw [beq_eq_false_iff_ne]; omega
      clear hT hW
      go_enter Tryd.func183, Tryd.ntmps183
      go_wp2
      go_ret
      exact ⟨ret_bool HV.out.symm, rfl⟩

theorem Ints.tail {w : World} {B : Nat} {b o : Nat} {x : Int} {xs : List Int} (h : Ints w B (some ⟨b, o, none⟩) (x :: xs)) : Ints w B (some ⟨b, o + 1, none⟩) xs := fun _ => by
  obtain ⟨b', o', e, hb, hc⟩ := h (by simp)
  injection e with e
  injection e with e1 e2
  subst e1 e2
  refine ⟨b, o + 1, rfl, hb, fun k y hk => ?_⟩
  have := hc (k + 1) y (by simpa using hk)
  rwa [show o + 1 + k = o + (k + 1) by omega]

set_option maxRecDepth 20000 in
set_option maxHeartbeats 1000000 in
theorem l4Fits_any (S N : Nat) (T : Nat → Nat → Bool) (Aw : Option Addr) (cw : Nat) (ws : List Int) (v : World) (hT : TabR v S N ((ws.length + 1) * (ws.length + 1)) N T) (hW : Ints v v.heap.size Aw ws) (hw : ws.length ≤ 10) (hD : InD ws.length (DT ws.length T)) (j : Nat) (hj : j ≤ ws.length) :
    ∀ (xs : List Int) (Ar : Option Addr) (cr i : Nat), Ints v v.heap.size Ar xs → xs.length ≤ cr → xs.length ≤ 4 → (∀ x ∈ xs, -10 ≤ x ∧ x < N) → i ≤ ws.length →
    Calls Tryd.prog 182 #[.slice (some ⟨S, 0, none⟩) N N, .slice Aw ws.length cw, .slice Ar xs.length cr, .int .i64 (i : Int), .int .i64 (j : Int)] v fun e v' => e = .returned (.bool (bD (SeqD (DT ws.length T) ws xs i j))) ∧ v' = v := by
  have HT := Lib.hid hT; clear hT
  have HW := Lib.hid hW; clear hW
  have HD := Lib.hid hD; clear hD
  intro xs
  induction xs with
  | nil =>
    intro Ar cr i _ _ _ _ hi
    have HV : Hid (bD (SeqD (DT ws.length T) ws [] i j) = ((i : Int) == (j : Int))) := bD_eq (by rw [beq_iff_eq]; exact ⟨fun h => by show i = j; omega, fun h => by have h' : i = j := h; omega⟩)
    go_enter Tryd.func182, Tryd.ntmps182
    go_wp2
    go_ret
    exact ⟨ret_bool HV.out.symm, rfl⟩
  | cons x xs ih =>
    intro Ar cr i hr hcr hl4 hx hi
    have IH := Lib.hid ih; clear ih
    obtain ⟨b, o, hA, hb, c1⟩ := hr.at_ (k := 0) (by simp)
    subst hA
    have HR := Lib.hid hr; clear hr
    have HX := Lib.hid hx; clear hx
    simp only [List.getElem_cons_zero, Nat.add_zero] at c1
    simp only [List.length_cons] at hcr hl4 ⊢
    have HC1 := Lib.hid (fun m hm => l4Symbol_any S N T Aw cw ws x i m v HT.out HW.out hw hi hm (HX.out x (by simp)))
    have HC2 : Hid (∀ m : Nat, m ≤ ws.length → Calls Tryd.prog 182 #[.slice (some ⟨S, 0, none⟩) N N, .slice Aw ws.length cw, .slice (some ⟨b, o + 1, none⟩) xs.length (cr - 1), .int .i64 (m : Int), .int .i64 (j : Int)] v fun e v' => e = .returned (.bool (bD (SeqD (DT ws.length T) ws xs m j))) ∧ v' = v) := fun m hm => IH.out _ _ _ HR.out.tail (by omega) (by omega) (fun y hy => HX.out y (by simp [hy])) hm
    have HC3 : Hid (xs.length = 0 → ∀ m : Nat, m ≤ ws.length → Calls Tryd.prog 182 #[.slice (some ⟨S, 0, none⟩) N N, .slice Aw ws.length cw, .slice (some ⟨b, o, none⟩) xs.length 0, .int .i64 (m : Int), .int .i64 (j : Int)] v fun e v' => e = .returned (.bool (bD (SeqD (DT ws.length T) ws xs m j))) ∧ v' = v) := fun h0 m hm => IH.out _ _ _ (fun h => by omega) (by omega) (by omega) (fun y hy => HX.out y (by simp [hy])) hm
    clear HT HW IH HR HX
    obtain ⟨L, hL⟩ : ∃ L, L = xs.length + 1 := ⟨_, rfl⟩
    have hL1 : xs.length = L - 1 := by omega
    rw [← hL] at hcr hl4 ⊢
    rw [hL1] at HC2 HC3
    have hL0 : 1 ≤ L := by omega
    have hLz : ((L : Int) == 0) = false := by rw [beq_eq_false_iff_ne]; omega
    clear hL hL1
    have hcc : cr = 1 ∨ (1 < cr ∧ ¬ cr ≤ 1 ∧ ¬ cr - 1 = 0) := by omega
    rcases hcc with rfl | ⟨hc1, hc2, hc3⟩
    case' inl =>
      have HC := Lib.hid (HC3.out (by omega))
      clear HC2 HC3 hcr
    case' inr =>
      have HC := Lib.hid HC2.out
      clear HC2 HC3 hcr
    all_goals
      go_enter Tryd.func182, Tryd.ntmps182
      go_wp2
      go_loopw [11] (fun n wr => ∃ m : Nat, i ≤ m ∧ n = .int .i64 m ∧ wr = v ∧ m ≤ ws.length + 1 ∧ Hid (∀ m', i ≤ m' → m' < m → m' ≤ j → ¬ (SymD (DT ws.length T) ws x i m' ∧ SeqD (DT ws.length T) ws xs m' j))) (fun n _ => ws.length + 1 - (intOf n).toNat)
      case atStart => exact ⟨i, Nat.le_refl _, rfl, rfl, by omega, fun m' h1 h2 => absurd h1 (by omega)⟩
      case round =>
        obtain ⟨m, hm, rfl, hwr, hm2, H⟩ := hrel
        subst hwr
        by_cases hmj : m ≤ j
        · cases hs : bD (SymD (DT ws.length T) ws x i m)
          · have HN : Hid (∀ m', i ≤ m' → m' < m + 1 → m' ≤ j → ¬ (SymD (DT ws.length T) ws x i m' ∧ SeqD (DT ws.length T) ws xs m' j)) := fun m' h1 h2 h3 => by
              by_cases e : m' = m
              · subst e; exact fun h => by rw [bD_t h.1] at hs; cases hs
              · exact H.out m' h1 (by omega) h3
            have HS := Lib.hid hs; clear hs
            go_wp2_with fail
            refine (HC1.out m (by omega)).mono ?_
            rintro e w1 ⟨rfl, rfl⟩
            rw [HS.out]
            go_wp2
            go_roundw
            case rel => exact ⟨m + 1, by omega, by go_num, trivial, by omega, HN.out⟩
            case measure => simp [intOf]; omega
          · have HS := Lib.hid hs
            have hS := bD_iff.1 hs
            clear hs
            cases hq : bD (SeqD (DT ws.length T) ws xs m j)
            · have HN : Hid (∀ m', i ≤ m' → m' < m + 1 → m' ≤ j → ¬ (SymD (DT ws.length T) ws x i m' ∧ SeqD (DT ws.length T) ws xs m' j)) := fun m' h1 h2 h3 => by
                by_cases e : m' = m
                · subst e; exact fun h => by rw [bD_t h.2] at hq; cases hq
                · exact H.out m' h1 (by omega) h3
              have HQ := Lib.hid hq; clear hq hS
              go_wp2_with fail
              refine (HC1.out m (by omega)).mono ?_
              rintro e w1 ⟨rfl, rfl⟩
              rw [HS.out]
              go_wp2_with fail
              refine (HC.out m (by omega)).mono ?_
              rintro e w2 ⟨rfl, rfl⟩
              rw [HQ.out]
              go_wp2
              go_roundw
              case rel => exact ⟨m + 1, by omega, by go_num, trivial, by omega, HN.out⟩
              case measure => simp [intOf]; omega
            · have HE : Hid (bD (SeqD (DT ws.length T) ws (x :: xs) i j) = true) := bD_t ⟨m, hS, bD_iff.1 hq⟩
              have HQ := Lib.hid hq; clear hq hS
              go_wp2_with fail
              refine (HC1.out m (by omega)).mono ?_
              rintro e w1 ⟨rfl, rfl⟩
              rw [HS.out]
              go_wp2_with fail
              refine (HC.out m (by omega)).mono ?_
              rintro e w2 ⟨rfl, rfl⟩
              rw [HQ.out]
              go_wp2
              go_ret
              exact ⟨ret_bool HE.out.symm, rfl⟩
        · have HE : Hid (bD (SeqD (DT ws.length T) ws (x :: xs) i j) = false) := bD_f (seqD_cons_no HD.out fun m' h1 h2 => H.out m' h1 (by omega) h2)
          go_wp2
          go_ret
          exact ⟨ret_bool HE.out.symm, rfl⟩

end Go.Proofs.YtfbpcdmpkbjifaaDoor
