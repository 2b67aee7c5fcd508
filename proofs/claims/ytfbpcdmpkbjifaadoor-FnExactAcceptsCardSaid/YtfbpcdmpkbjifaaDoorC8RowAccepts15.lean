/- The program's iterator over a chart's cells. -/
import Derived.Test.YtfbpcdmpkbjifaaDoorC810
import Derived.RangeFuncNested
import Derived.RangeFuncBound
import Derived.RangeFuncCalls
import Derived.RangeFuncLeaves
import Derived.RangeFuncFrom
import Derived.Shelf.Abstract
import Derived.Shelf.RegionOpen
import Derived.WalkKit
import Derived.OwnWalkIn
import Derived.TacticsInMore
import Derived.LoopNIn
import Derived.LoopIn
import Derived.Test.YtfbpcdmpkbjifaaDoorC811
import Derived.Deep.RegionHeld3
import Derived.Test.YtfbpcdmpkbjifaaDoorC809
import Derived.OrdersHeld
import Derived.Test.YtfbpcdmpkbjifaaDoorC814
import Derived.Test.YtfbpcdmpkbjifaaDoorC813

namespace Go.Proofs.YtfbpcdmpkbjifaaDoor
open Go.RowKit Go.Shelf
attribute [local go_sem] Oper.semAt_some

/-- The cells of a chart in their order: all with at most m tokens, and f of the next ones. -/
def cellsTo (n m f : Nat) : List (Int × Int) := ((List.range m).flatMap fun (j : Nat) => (List.range (n - j)).map fun (i : Nat) => ((i : Int), (i : Int) + 1 + j)) ++ (List.range f).map fun (i : Nat) => ((i : Int), (i : Int) + 1 + m)
def cellsN (n : Nat) : List (Int × Int) := cellsTo n n 0
theorem cellsTo_step (n m f : Nat) : cellsTo n m (f + 1) = cellsTo n m f ++ [((f : Int), (f : Int) + 1 + m)] := by
  unfold cellsTo
  rw [List.range_succ, List.map_append, List.append_assoc]; rfl
theorem cellsTo_next (n m : Nat) : cellsTo n m (n - m) = cellsTo n (m + 1) 0 := by
  unfold cellsTo
  rw [List.range_succ, List.flatMap_append]; simp
theorem cellsTo_len (n : Nat) : ∀ (m f : Nat), m ≤ n → f ≤ n - m → (cellsTo n m f).length ≤ n * m + f
  | 0, f, _, _ => by simp [cellsTo]
  | m + 1, f, h, _ => by
    have ih := cellsTo_len n m (n - m) (by omega) (Nat.le_refl _)
    rw [cellsTo_next] at ih
    have e : (cellsTo n (m + 1) f).length = (cellsTo n (m + 1) 0).length + f := by unfold cellsTo; simp
    rw [e, Nat.mul_succ]
    omega

/-- A cell's from and to. -/
abbrev Spn (n : Nat) : Type := { p : Int × Int // spanB (n : Int) p.1 p.2 = true }
abbrev encS {n : Nat} (p : Spn n) : Array Value := #[.int .i64 p.1.1, .int .i64 p.1.2]
/-- A block lies as it lay. -/
def KpB (B : Nat) (W W' : World) : Prop := W'.heap[B]? = W.heap[B]?

set_option maxRecDepth 100000 in
set_option maxHeartbeats 2000000 in
theorem cells1_in (k : Nat) (hk : 1 ≤ k) (n : Nat) (hn : n ≤ 10) (l Bn : Nat) (J Jx : List (Spn n) → World → Prop)
    (hY : ∀ pre x W, J pre W → pre.length < 111 → YieldAt Fence.wide (k - 1) Tryd.prog l (encS x) W fun e W' =>
      (e = .returned (.bool true) ∧ J (pre ++ [x]) W' ∧ KpB Bn W W') ∨ (e = .returned (.bool false) ∧ Jx (pre ++ [x]) W'))
    (W : World) (hBn : W.heap[Bn]? = some (.cells #[.int .i64 (n : Int)] 3 (0, 0))) (h0 : J [] W) :
    CallsIn Fence.wide k Tryd.prog 135 #[.func (.yield l) #[] #[], .pointer (some ⟨Bn, 0, none⟩)] W fun e W' => (∃ v, e = .returned v) ∧
      ((∃ ys : List (Spn n), ys.map Subtype.val = cellsN n ∧ J ys W') ∨ (∃ pre, True ∧ Jx pre W')) := by
  have HB0 : Hid (KpB Bn W W) := rfl
  have hc0 : W.cell? ⟨Bn, 0, none⟩ = some (.int .i64 (n : Int)) := by simp [World.cell?, hBn]
  have HBN := Lib.hid hBn; clear hBn
  refine callsIn_of_wp Tryd.func135 rfl trivial ?_ rfl
  simp only [Tryd.ntmps135, List.size_toArray, List.length_cons, List.length_nil, Nat.reduceAdd, Nat.reduceSub, Array.replicate_succ, Array.replicate_zero, List.push_toArray, List.append_toArray, List.nil_append, List.cons_append]
  gi_wp2
  clear hc0
  gi_loopw [6] (fun i wr => ∃ (m : Nat) (pre : List (Spn n)), m ≤ n ∧ i = .int .i64 m ∧ Hid (pre.map Subtype.val = cellsTo n m 0) ∧ Hid (KpB Bn W wr) ∧ Hid (J pre wr)) (fun i _ => n - (intOf i).toNat)
  case atStart => exact ⟨0, [], Nat.zero_le _, rfl, rfl, HB0.out, h0⟩
  case round =>
    obtain ⟨m, pre, hm, rfl, HP, HK, HJ⟩ := hrel
    have c0 : wr.cell? ⟨Bn, 0, none⟩ = some (.int .i64 (n : Int)) := by have h := HK.out.trans HBN.out; simp [World.cell?, h]
    by_cases hlt : m < n
    · have hlt2 : (m : Int) < (n : Int) := by omega
      gi_wp2
      clear c0
      obtain ⟨wA, hwA⟩ : ∃ x, x = wr := ⟨_, rfl⟩
      subst hwA
      gi_loopw [12] (fun i wr => ∃ (f : Nat) (pre : List (Spn n)), f ≤ n - m ∧ i = .int .i64 f ∧ Hid (pre.map Subtype.val = cellsTo n m f) ∧ Hid (KpB Bn W wr) ∧ Hid (J pre wr)) (fun i _ => n - m - (intOf i).toNat)
      case atStart => exact ⟨0, pre, Nat.zero_le _, rfl, HP.out, HK.out, HJ.out⟩
      case round =>
        clear HP HK HJ
        obtain ⟨f, pre, hf, rfl, HP, HK, HJ⟩ := hrel
        by_cases hlf : f < n - m
        · have hsp : spanB (n : Int) (f : Int) ((f : Int) + 1 + (m : Int)) = true := spanB_t (by omega) (by omega) (by omega) (by omega) (by omega)
          have hlen : pre.length < 111 := by
            have h := congrArg List.length HP.out
            rw [List.length_map] at h
            have h2 := cellsTo_len n m f hm hf
            have h3 : n * m ≤ 10 * 10 := Nat.mul_le_mul hn (by omega)
            omega
          obtain ⟨fn, tmps, assign, body, hy, hR⟩ := hY pre ⟨((f : Int), (f : Int) + 1 + (m : Int)), hsp⟩ wr HJ.out hlen
          dsimp only [encS] at hy
          have HPN : Hid ((pre ++ [(⟨((f : Int), (f : Int) + 1 + (m : Int)), hsp⟩ : Spn n)]).map Subtype.val = cellsTo n m (f + 1)) := by
            show _ = _
            rw [List.map_append, HP.out, cellsTo_step]; rfl
          have hlf2 : (f : Int) < (n : Int) - (m : Int) := by omega
          gi_wp2
          refine hR.mono ?_
          rintro e W3 (⟨rfl, hJ3, hk3⟩ | ⟨rfl, hJx3⟩)
          · have HK3 : Hid (KpB Bn W W3) := hk3.trans HK.out
            have HJ3 := Lib.hid hJ3
            clear hJ3 hk3
            gi_wp2
            go_roundw
            case rel => exact ⟨f + 1, _, by omega, by go_num, HPN.out, HK3.out, HJ3.out⟩
            case measure => simp [intOf]; omega
          · gi_wp2
            refine bodyPost_ret (results_none rfl _ _ _) rfl ?_
            exact ⟨⟨_, rfl⟩, .inr ⟨_, trivial, hJx3⟩⟩
        · obtain rfl : f = n - m := by omega
          have HPN : Hid (pre.map Subtype.val = cellsTo n (m + 1) 0) := HP.out.trans (cellsTo_next n m)
          have hnf : ¬ (((n - m : Nat) : Int) < (n : Int) - (m : Int)) := by omega
          gi_wp2
          go_roundw
          case rel => exact ⟨m + 1, pre, by omega, by go_num, HPN.out, HK.out, HJ.out⟩
          case measure => simp [intOf]; omega
    · obtain rfl : m = n := by omega
      gi_wp2
      go_end0
      exact ⟨⟨_, rfl⟩, .inl ⟨pre, HP.out, HJ.out⟩⟩

/-- The iterator's contract. -/
theorem cells_stops (k : Nat) (hk : 1 ≤ k) (n : Nat) (hn : n ≤ 10) (Bn : Nat) (w : World) (hB : Bn < w.heap.size) (hBn : w.heap[Bn]? = some (.cells #[.int .i64 (n : Int)] 3 (0, 0))) :
    SeqStopsK Fence.wide k Tryd.prog 135 #[.pointer (some ⟨Bn, 0, none⟩)] encS (KpB Bn) (fun ys : List (Spn n) => ys.map Subtype.val = cellsN n) (fun _ => True) 111 w := fun l J Jx W hW _ _ hY h0 =>
  cells1_in k hk n hn l Bn J Jx hY W ((hW.block Bn hB).trans hBn) h0

theorem KpB.trans' {B : Nat} {W W1 W2 : World} (h : KpB B W W1) (h2 : KpB B W1 W2) : KpB B W W2 := Eq.trans h2 h
theorem KpB.put {B N : Nat} (hB : B < N) (W : World) (l : Nat) (o o' : Obj) (hl : N ≤ l) (_ : W.heap[l]? = some o) (_ : o.isCells = false) (_ : o.isWalk = false) : KpB B W (W.putObj l o') := by
  show (W.putObj l o').heap[B]? = W.heap[B]?
  have hne : l ≠ B := by omega
  simp [World.putObj, hne]

set_option maxRecDepth 100000 in
theorem cellsOf_in (k : Nat) (n : Int) (w : World) :
    CallsIn Fence.wide k Tryd.prog 99 #[.int .i64 n] w fun e w' => e = .returned (.func (.func 135) #[] #[.pointer (some ⟨w.heap.size, 0, none⟩)]) ∧ w' = w.alloc (.cells #[.int .i64 n] 3) := by
  refine callsIn_of_wp Tryd.func99 rfl trivial ?_ rfl
  simp only [Tryd.ntmps99, List.size_toArray, List.length_cons, List.length_nil, Nat.reduceAdd, Nat.reduceSub, Array.replicate_succ, Array.replicate_zero, List.push_toArray, List.append_toArray, List.nil_append, List.cons_append]
  gi_wp2
  go_ret
  exact ⟨rfl, rfl⟩

end Go.Proofs.YtfbpcdmpkbjifaaDoor

/- Plain mathematics of FillChart: what the chart says when the cells are filled in their order; a list is put into a cell. -/

namespace Go.Proofs.YtfbpcdmpkbjifaaDoor
open Go.RowKit

/-- What a cell is to say. -/
noncomputable def cellV (s : Bs) (ws : List Int) (xs : List (List Int)) (f t : Int) : List Int :=
  open Classical in if h : ∃ ys, PCell s ws xs f t ys then Classical.choose h else []
theorem cellV_is {s : Bs} {ws : List Int} {xs : List (List Int)} {f t : Int} {ys : List Int} (h : PCell s ws xs f t ys) : cellV s ws xs f t = ys := by
  unfold cellV
  rw [dif_pos ⟨ys, h⟩]
  exact PCell.unique (Classical.choose_spec (⟨ys, h⟩ : ∃ ys, PCell s ws xs f t ys)) h
/-- A cell is filled. -/
noncomputable def putC (s : Bs) (ws : List Int) (n : Int) (xs : List (List Int)) (p : Int × Int) : List (List Int) := xs.set (noC n p.1 p.2).toNat (cellV s ws xs p.1 p.2)
/-- The chart when the cells of L are filled. -/
noncomputable def fillC (s : Bs) (ws : List Int) (n : Int) (L : List (Int × Int)) : List (List Int) := L.foldl (putC s ws n) (emptyC n)
theorem fillC_snoc (s : Bs) (ws : List Int) (n : Int) (L : List (Int × Int)) (p : Int × Int) : fillC s ws n (L ++ [p]) = putC s ws n (fillC s ws n L) p := by unfold fillC; rw [List.foldl_append]; rfl

theorem rises_goodE {ys : List Int} (h : Rises ys) (hb : ∀ y ∈ ys, 0 ≤ y ∧ y < 40) : GoodE 40 ys := by
  refine ⟨fun k x _ hx => ?_, fun j a b _ ha hb' => ?_⟩
  · have := hb x (List.mem_of_getElem? hx)
    exact nonB_t this.1 this.2
  · obtain ⟨ha1, ha2⟩ := List.getElem?_eq_some_iff.1 ha
    obtain ⟨hb1, hb2⟩ := List.getElem?_eq_some_iff.1 hb'
    subst ha2 hb2
    exact List.pairwise_iff_getElem.1 h j (j + 1) ha1 hb1 (by omega)
theorem PCell.good {s : Bs} {ws : List Int} {xs : List (List Int)} {f t : Int} {ys : List Int} (h : PCell s ws xs f t ys) : GoodE 40 ys := rises_goodE h.1 h.2.1
theorem GoodC.set {n : Int} {xs : List (List Int)} (h : GoodC n xs) {ys : List Int} (hy : GoodE 40 ys) (k : Nat) : GoodC n (xs.set k ys) := by
  refine ⟨h.1, by rw [List.length_set]; exact h.2.1, fun l hl => ?_⟩
  rcases List.mem_or_eq_of_mem_set hl with hl | rfl
  · exact h.2.2 l hl
  · exact hy
theorem emptyC_good {n : Int} (h0 : 0 ≤ n) (h1 : n ≤ 10) : GoodC n (emptyC n) := by
  have hb := cntC_bound h0 h1
  refine ⟨⟨h0, h1⟩, ?_, fun l hl => ?_⟩
  · unfold emptyC
    rw [List.length_replicate, Int.toNat_of_nonneg hb.1]
    exact cntC_two h0 h1
  · have := (List.mem_replicate.1 hl).2
    subst this
    exact rises_goodE List.Pairwise.nil (fun y hy => by cases hy)

theorem OwnL.put {w w1 : World} {lo g : Nat} {ls : List Li} (h : OwnL w lo (some ⟨g, 0, none⟩) ls) (hlo : lo ≤ w.heap.size) {k : Nat} (hk : k < ls.length) (hb : Below w.heap.size w w1) {A : Option Addr} {xs : List Int} {c : Nat} (hcap : xs.length ≤ c) (hO : OwnI w1 w.heap.size A xs) :
    OwnL (w1.setCell ⟨g, k, none⟩ (.slice A xs.length c)) lo (some ⟨g, 0, none⟩) (ls.set k ⟨A, xs, c⟩) := by
  rcases h with rfl | ⟨g', cs, e, hl, hr, hc, hd⟩
  · simp at hk
  · injection e with e
    injection e with e
    subst e
    have hr1 : Row w1 g 22 cs := hr.below hb hr.lt
    have hkc : k < cs.size := (Array.getElem?_eq_some_iff.1 (hc k _ (List.getElem?_eq_getElem hk)).1).1
    have old : ∀ (i : Nat) (u : Li), ls[i]? = some u → u.r ≠ [] → xs ≠ [] → u.a ≠ A := by
      intro i u hu hne hne' he
      rcases (hc i u hu).2.2 with h3 | ⟨g1, _, e1, _, r1, _⟩
      · exact hne h3
      · rcases hO with h4 | ⟨g2, _, e2, l2, _, _⟩
        · exact hne' h4
        · rw [e1, e2] at he
          have := r1.lt
          injection he with he
          injection he with he
          omega
    refine .inr ⟨g, cs.setIfInBounds k (.slice A xs.length c), rfl, hl, hr1.set _ _, fun j u hu => ?_, fun i j u v hu hv hij hun hvn => ?_⟩
    · rw [List.getElem?_set] at hu
      rw [Array.getElem?_setIfInBounds]
      by_cases ej : k = j
      · subst ej
        rw [if_pos rfl, if_pos hk] at hu
        injection hu with hu
        subst hu
        rw [if_pos rfl, if_pos hkc]
        exact ⟨rfl, hcap, (hO.lower hlo).farL hr1 _ _⟩
      · rw [if_neg ej] at hu ⊢
        obtain ⟨h1, h2, h3⟩ := hc j u hu
        exact ⟨h1, h2, (h3.below hb (Nat.le_refl _)).farL hr1 _ _⟩
    · rw [List.getElem?_set] at hu hv
      by_cases ei : k = i
      · rw [if_pos ei, if_pos hk] at hu
        injection hu with hu
        subst hu
        rw [if_neg (by omega)] at hv
        exact fun e => old j v hv hvn hun e.symm
      · rw [if_neg ei] at hu
        by_cases ej : k = j
        · rw [if_pos ej, if_pos hk] at hv
          injection hv with hv
          subst hv
          exact old i u hu hun hvn
        · rw [if_neg ej] at hv
          exact hd i j u v hu hv hij hun hvn
theorem sayL_set (ls : List Li) (k : Nat) (u : Li) : sayL (ls.set k u) = (sayL ls).set k u.r := by unfold sayL; rw [List.map_set]
theorem OwnL.row {w : World} {lo g : Nat} {ls : List Li} (h : OwnL w lo (some ⟨g, 0, none⟩) ls) {k : Nat} (hk : k < ls.length) : (∃ v, w.cell? ⟨g, k, none⟩ = some v) ∧ w.frozen? ⟨g, k, none⟩ = false ∧ lo ≤ g ∧ g < w.heap.size := by
  rcases h with rfl | ⟨g', cs, e, hl, hr, hc, hd⟩
  · simp at hk
  · injection e with e
    injection e with e
    subst e
    exact ⟨⟨_, (hr.cell k).trans (hc k _ (List.getElem?_eq_getElem hk)).1⟩, hr.frozen k, hl, hr.lt⟩

/-- A chart that is new. -/
def GaveFC (w : World) (n : Int) (xs : List (List Int)) (e : Ending) (w' : World) : Prop :=
  ∃ A ls c, e = .returned (.agg #[.int .i64 n, .slice A ls.length c]) ∧ sayL ls = xs ∧ OwnL w' w.heap.size A ls ∧ ls.length ≤ c ∧ Below w.heap.size w w'

end Go.Proofs.YtfbpcdmpkbjifaaDoor

/- The reference's l7Fill. -/

namespace Go.Proofs.YtfbpcdmpkbjifaaDoor
open Go.RowKit

set_option maxRecDepth 20000 in
set_option maxHeartbeats 4000000 in
theorem l7Fill_any (b : Bi) (Aw : Option Addr) (ws : List Int) (cw : Nat) (w : World) (hb : ReadB w w.heap.size b) (hm : LenB 1048576 b) (hgb : GoodBs b.say) (hw : Ints w w.heap.size Aw ws) (htw : TokW b.t ws) :
    Calls Tryd.prog 97 #[(.agg #[.int .i64 b.n, .int .i64 b.t, .slice b.Ap b.P.length b.cp, .slice b.Ao b.O.length b.co, .slice b.Ae b.E.length b.ce, .slice b.Af b.F.length b.cf]), .slice Aw ws.length cw] w (GaveFC w ws.length (fillC b.say ws ws.length (cellsN ws.length))) := by
  have HB := Lib.hid hb; clear hb
  have HM := Lib.hid hm; clear hm
  have HG := Lib.hid hgb; clear hgb
  have HW := Lib.hid hw; clear hw
  have HT := Lib.hid htw; clear htw
  obtain ⟨N, hN⟩ : ∃ N, N = ws.length := ⟨_, rfl⟩
  have hn10 : N ≤ 10 := by have := HT.out.1; omega
  have HNW := Lib.hid hN
  rw [← hN]
  clear hN
  have HA0 : Hid (Below w.heap.size w ((w.alloc (.cells #[.int .i64 b.n, .int .i64 b.t, .slice b.Ap b.P.length b.cp, .slice b.Ao b.O.length b.co, .slice b.Ae b.E.length b.ce, .slice b.Af b.F.length b.cf] 55)).alloc (.cells #[.int .i64 0, .slice none 0 0] 57))) := ((Below.refl _ _).alloc (Nat.le_refl _) _).alloc (by simp) _
  have HR2 : Hid (Row ((w.alloc (.cells #[.int .i64 b.n, .int .i64 b.t, .slice b.Ap b.P.length b.cp, .slice b.Ao b.O.length b.co, .slice b.Ae b.E.length b.ce, .slice b.Af b.F.length b.cf] 55)).alloc (.cells #[.int .i64 0, .slice none 0 0] 57)) w.heap.size 55 #[.int .i64 b.n, .int .i64 b.t, .slice b.Ap b.P.length b.cp, .slice b.Ao b.O.length b.co, .slice b.Ae b.E.length b.ce, .slice b.Af b.F.length b.cf]) := (Row.new _ _ _).alloc _
  have HR4 : Hid (Row ((w.alloc (.cells #[.int .i64 b.n, .int .i64 b.t, .slice b.Ap b.P.length b.cp, .slice b.Ao b.O.length b.co, .slice b.Ae b.E.length b.ce, .slice b.Af b.F.length b.cf] 55)).alloc (.cells #[.int .i64 0, .slice none 0 0] 57)) (w.heap.size + 1) 57 #[.int .i64 0, .slice none 0 0]) := by
    have h := Row.new (w.alloc (.cells #[.int .i64 b.n, .int .i64 b.t, .slice b.Ap b.P.length b.cp, .slice b.Ao b.O.length b.co, .slice b.Ae b.E.length b.ce, .slice b.Af b.F.length b.cf] 55)) 57 #[.int .i64 0, .slice none 0 0]
    rwa [World.size_alloc] at h
  have HZ0 : Hid (((w.alloc (.cells #[.int .i64 b.n, .int .i64 b.t, .slice b.Ap b.P.length b.cp, .slice b.Ao b.O.length b.co, .slice b.Ae b.E.length b.ce, .slice b.Af b.F.length b.cf] 55)).alloc (.cells #[.int .i64 0, .slice none 0 0] 57)).heap.size = w.heap.size + 2) := by show _ = _; simp
  go_enter Tryd.func97, Tryd.ntmps97
  go_wp2_with fail
  generalize ((w.alloc (.cells #[.int .i64 b.n, .int .i64 b.t, .slice b.Ap b.P.length b.cp, .slice b.Ao b.O.length b.co, .slice b.Ae b.E.length b.ce, .slice b.Af b.F.length b.cf] 55)).alloc (.cells #[.int .i64 0, .slice none 0 0] 57)) = W0 at HA0 HR2 HR4 HZ0 ⊢
  refine (l7Empty_any (N : Int) W0 (by omega) (by omega)).mono ?_
  rintro e w1 ⟨m, hm, rfl, hE, hB1⟩
  have HMC := Lib.hid hm
  have hz1 := hB1.size
  have hcb := cntC_bound (n := (N : Int)) (by omega) (by omega)
  have hm55 : m ≤ 55 := by omega
  obtain ⟨g, hg⟩ : ∃ g, g = W0.heap.size + 1 := ⟨_, rfl⟩
  rw [← hg] at hE ⊢
  have hg2 : w.heap.size + 2 ≤ g := by have := HZ0.out; omega
  have hgw : g < w1.heap.size := Row.lt hE
  have HE := Lib.hid hE
  have HB1 := Lib.hid (HA0.out.trans (hB1.mono HA0.out.size))
  have HR21 := Lib.hid (HR2.out.below hB1 HR2.out.lt)
  have HR41 := Lib.hid (HR4.out.below hB1 HR4.out.lt)
  clear hE hB1 HA0 HR2 HR4 hz1 hcb hm hg
  have hw1 : w.heap.size + 2 ≤ w1.heap.size := by omega
  have HB2 : Hid (Below w.heap.size w (w1.alloc (.cells #[.int .i64 (N : Int), .slice (some ⟨g, 0, none⟩) m m] 57))) := HB1.out.alloc HB1.out.size _
  have HR22 : Hid (Row (w1.alloc (.cells #[.int .i64 (N : Int), .slice (some ⟨g, 0, none⟩) m m] 57)) w.heap.size 55 #[.int .i64 b.n, .int .i64 b.t, .slice b.Ap b.P.length b.cp, .slice b.Ao b.O.length b.co, .slice b.Ae b.E.length b.ce, .slice b.Af b.F.length b.cf]) := HR21.out.alloc _
  have HR42 : Hid (Row (w1.alloc (.cells #[.int .i64 (N : Int), .slice (some ⟨g, 0, none⟩) m m] 57)) (w.heap.size + 1) 57 #[.int .i64 0, .slice none 0 0]) := HR41.out.alloc _
  have HRK : Hid (Row (w1.alloc (.cells #[.int .i64 (N : Int), .slice (some ⟨g, 0, none⟩) m m] 57)) w1.heap.size 57 #[.int .i64 (N : Int), .slice (some ⟨g, 0, none⟩) m m]) := Row.new _ _ _
  have HOL : Hid (OwnL (w1.alloc (.cells #[.int .i64 (N : Int), .slice (some ⟨g, 0, none⟩) m m] 57)) (w.heap.size + 2) (some ⟨g, 0, none⟩) (emptyL m)) := emptyL_own (HE.out.alloc _) hg2
  clear HB1 HR21 HR41 HE HZ0
  go_wp2
  generalize (w1.alloc (.cells #[.int .i64 (N : Int), .slice (some ⟨g, 0, none⟩) m m] 57)) = W1 at HB2 HR22 HR42 HRK HOL ⊢
  obtain ⟨K, hK⟩ : ∃ K, K = w1.heap.size := ⟨_, rfl⟩
  rw [← hK] at HRK hgw hw1 ⊢
  clear hK
  go_loopw [7] (fun x wr => ∃ (q : Nat) (ls : List Li), x = .int .i64 ((q : Int) + 1) ∧ q ≤ N ∧ Hid (ls.length = m) ∧ Hid (sayL ls = fillC b.say ws N (cellsTo N q 0)) ∧ Hid (GoodC N (sayL ls)) ∧ Hid (Below w.heap.size w wr) ∧ Hid (Row wr w.heap.size 55 #[.int .i64 b.n, .int .i64 b.t, .slice b.Ap b.P.length b.cp, .slice b.Ao b.O.length b.co, .slice b.Ae b.E.length b.ce, .slice b.Af b.F.length b.cf]) ∧ Hid (Row wr (w.heap.size + 1) 57 #[.int .i64 0, .slice none 0 0]) ∧
    Hid (Row wr K 57 #[.int .i64 (N : Int), .slice (some ⟨g, 0, none⟩) m m]) ∧ Hid (OwnL wr (w.heap.size + 2) (some ⟨g, 0, none⟩) ls)) (fun x _ => (N + 1 - intOf x).toNat)
  case atStart => exact ⟨0, emptyL m, rfl, by omega, emptyL_len m, by show _ = _; rw [emptyL_say HMC.out]; rfl, by show GoodC _ _; rw [emptyL_say HMC.out]; exact emptyC_good (by omega) (by omega), HB2.out, HR22.out, HR42.out, HRK.out, HOL.out⟩
  case round =>
    clear HB2 HR22 HR42 HRK HOL
    obtain ⟨q, ls, rfl, hq, HLN, HSY, HGC, HBl, HR2, HR4, HRK, HOL⟩ := hrel
    by_cases hlt : q < N
    · have hlt2 : (q : Int) + 1 ≤ (N : Int) := by omega
      obtain ⟨wA, hwA⟩ : ∃ x, x = wr := ⟨_, rfl⟩
      subst hwA
      obtain ⟨fs, hfs⟩ : ∃ x, x = ls := ⟨_, rfl⟩
      subst hfs
      go_wp2
      go_loopw [8] (fun x wr => ∃ (f : Nat) (ls : List Li), x = .int .i64 (f : Int) ∧ f ≤ N - q ∧ Hid (ls.length = m) ∧ Hid (sayL ls = fillC b.say ws N (cellsTo N q f)) ∧ Hid (GoodC N (sayL ls)) ∧ Hid (Below w.heap.size w wr) ∧ Hid (Row wr w.heap.size 55 #[.int .i64 b.n, .int .i64 b.t, .slice b.Ap b.P.length b.cp, .slice b.Ao b.O.length b.co, .slice b.Ae b.E.length b.ce, .slice b.Af b.F.length b.cf]) ∧ Hid (Row wr (w.heap.size + 1) 57 #[.int .i64 0, .slice none 0 0]) ∧
        Hid (Row wr K 57 #[.int .i64 (N : Int), .slice (some ⟨g, 0, none⟩) m m]) ∧ Hid (OwnL wr (w.heap.size + 2) (some ⟨g, 0, none⟩) ls)) (fun x _ => (N - intOf x).toNat)
      case atStart => exact ⟨0, fs, rfl, by omega, HLN.out, HSY.out, HGC.out, HBl.out, HR2.out, HR4.out, HRK.out, HOL.out⟩
      case round =>
        clear HLN HSY HGC HBl HR2 HR4 HRK HOL
        obtain ⟨f, ls, rfl, hf, HLN, HSY, HGC, HBl, HR2, HR4, HRK, HOL⟩ := hrel
        have hws := HBl.out.size
        by_cases hfl : f < N - q
        · have hsp : spanB (N : Int) (f : Int) ((f : Int) + ((q : Int) + 1)) = true := spanB_t (by omega) (by omega) (by omega) (by omega) (by omega)
          have hno := noC_lt hsp HGC.out.2.1
          obtain ⟨k, hk⟩ := Int.eq_ofNat_of_zero_le hno.1
          have hkl : k < ls.length := by rw [sayL_len] at hno; omega
          have hkm : k < m := by have := HLN.out; omega
          have HNO := Lib.hid (fun V => l7No_any (N : Int) (f : Int) ((f : Int) + ((q : Int) + 1)) V hsp)
          rw [hk] at HNO
          have HCE : Hid (∀ V, Below wr.heap.size wr V → Calls Tryd.prog 91 #[(.agg #[.int .i64 b.n, .int .i64 b.t, .slice b.Ap b.P.length b.cp, .slice b.Ao b.O.length b.co, .slice b.Ae b.E.length b.ce, .slice b.Af b.F.length b.cf]), .agg #[.int .i64 (N : Int), .slice (some ⟨g, 0, none⟩) m m], .slice Aw N cw, .int .i64 (f : Int), .int .i64 ((f : Int) + ((q : Int) + 1))] V (GaveV V (PCell b.say ws (sayL ls) f ((f : Int) + ((q : Int) + 1))))) := fun V hV => by
            have hk' := HBl.out.trans (hV.mono hws)
            have h := l7Cell_any b (N : Int) f ((f : Int) + ((q : Int) + 1)) (some ⟨g, 0, none⟩) Aw ls ws m cw V ((HB.out.keep hk').more hk'.size) HM.out HG.out (by rw [HNW.out]) ((HOL.out.below hV (Nat.le_refl _)).lls) HGC.out ((HW.out.keep hk').more hk'.size) HT.out hsp
            rw [HLN.out, ← HNW.out] at h
            exact h
          have HPUT : Hid (∀ (V : World) (A : Option Addr) (ys : List Int) (c : Nat), Below wr.heap.size wr V → ys.length ≤ c → OwnI V wr.heap.size A ys → OwnL (V.setCell ⟨g, k, none⟩ (.slice A ys.length c)) (w.heap.size + 2) (some ⟨g, 0, none⟩) (ls.set k ⟨A, ys, c⟩)) := fun V A ys c hV hc hO => HOL.out.put (by have := Row.lt HRK.out; omega) hkl hV hc hO
          have HSN : Hid (∀ ys : List Int, PCell b.say ws (sayL ls) f ((f : Int) + ((q : Int) + 1)) ys → (sayL ls).set k ys = fillC b.say ws N (cellsTo N q (f + 1))) := fun ys hy => by
            rw [cellsTo_step, fillC_snoc, ← HSY.out]
            unfold putC
            rw [show (f : Int) + 1 + (q : Int) = (f : Int) + ((q : Int) + 1) by omega, cellV_is hy, hk, Int.toNat_natCast]
          have HROW : Hid (∀ V, Below wr.heap.size wr V → (∃ v, V.cell? ⟨g, k, none⟩ = some v) ∧ V.frozen? ⟨g, k, none⟩ = false) := fun V hV => by
            have h := (HOL.out.below hV (Nat.le_refl _)).row hkl
            exact ⟨h.1, h.2.1⟩
          have HSK : Hid (∀ V, Row V w.heap.size 55 #[.int .i64 b.n, .int .i64 b.t, .slice b.Ap b.P.length b.cp, .slice b.Ao b.O.length b.co, .slice b.Ae b.E.length b.ce, .slice b.Af b.F.length b.cf] → Row V K 57 #[.int .i64 (N : Int), .slice (some ⟨g, 0, none⟩) m m] →
              V.cell? ⟨w.heap.size, 0, none⟩ = some (.int .i64 b.n) ∧ V.cell? ⟨w.heap.size, 1, none⟩ = some (.int .i64 b.t) ∧ V.cell? ⟨w.heap.size, 2, none⟩ = some (.slice b.Ap b.P.length b.cp) ∧ V.cell? ⟨w.heap.size, 3, none⟩ = some (.slice b.Ao b.O.length b.co) ∧ V.cell? ⟨w.heap.size, 4, none⟩ = some (.slice b.Ae b.E.length b.ce) ∧ V.cell? ⟨w.heap.size, 5, none⟩ = some (.slice b.Af b.F.length b.cf) ∧ V.cell? ⟨K, 0, none⟩ = some (.int .i64 (N : Int)) ∧ V.cell? ⟨K, 1, none⟩ = some (.slice (some ⟨g, 0, none⟩) m m)) := fun V h1 h2 => by
            have a0 := h1.cell 0
            have a1 := h1.cell 1
            have a2 := h1.cell 2
            have a3 := h1.cell 3
            have a4 := h1.cell 4
            have a5 := h1.cell 5
            have e0 := h2.cell 0
            have e1 := h2.cell 1
            simp only [List.getElem?_toArray, List.getElem?_cons_succ, List.getElem?_cons_zero] at a0 a1 a2 a3 a4 a5 e0 e1
            exact ⟨a0, a1, a2, a3, a4, a5, e0, e1⟩
          have HD0 : Hid (Below wr.heap.size wr wr.drew) := by show Below _ _ _; go_grown
          have hK2 : K < wr.heap.size := Row.lt HRK.out
          obtain ⟨a0, a1, a2, a3, a4, a5, e0, e1⟩ := HSK.out _ HR2.out HRK.out
          clear hno hk
          have hwrap : IntKind.i64.wrap ((f : Int) + ((q : Int) + 1)) = (f : Int) + ((q : Int) + 1) := by rw [IntKind.wrap_i64]; omega
          go_wp2_with fail
          go_region_held3 (fun w' => w'.cell? ⟨w.heap.size, 0, none⟩ = some (.int .i64 b.n) ∧ w'.cell? ⟨w.heap.size, 1, none⟩ = some (.int .i64 b.t) ∧ w'.cell? ⟨w.heap.size, 2, none⟩ = some (.slice b.Ap b.P.length b.cp) ∧ w'.cell? ⟨w.heap.size, 3, none⟩ = some (.slice b.Ao b.O.length b.co) ∧ w'.cell? ⟨w.heap.size, 4, none⟩ = some (.slice b.Ae b.E.length b.ce) ∧ w'.cell? ⟨w.heap.size, 5, none⟩ = some (.slice b.Af b.F.length b.cf) ∧ w'.cell? ⟨K, 0, none⟩ = some (.int .i64 (N : Int)) ∧ w'.cell? ⟨K, 1, none⟩ = some (.slice (some ⟨g, 0, none⟩) m m))
            (first | exact HSP.out | exact HSK.out _ HR25.out HRK5.out | exact ⟨a0, a1, a2, a3, a4, a5, e0, e1⟩)
            (first
            | (go_at_call 109
               with_reducible refine (HNO.out _).mono ?_
               rintro e w6 ⟨rfl, hw6⟩
               replace hw6 := hw6.symm
               subst hw6)
            | (go_at_call 91
               with_reducible refine (HCE.out _ HD0.out).mono ?_
               rintro e w5 ⟨v5, ys, rfl, hP5, hO5, hB5⟩
               obtain ⟨A5, c5, e5, hc5, _⟩ := hO5.shape
               obtain ⟨A5', c5', e5', hI5⟩ := hO5.own
               have e6 := e5.symm.trans e5'
               injection e6 with e6 e7 e8
               subst e6 e8 e5
               have HW5 : Hid (Below wr.heap.size wr w5) := HD0.out.trans (hB5.mono HD0.out.size)
               have HP5 := Lib.hid hP5
               have HI5 : Hid (OwnI w5 wr.heap.size A5 ys) := hI5.lower HD0.out.size
               have HC5 := Lib.hid hc5
               have HR25 := Lib.hid (HR2.out.below HW5.out HR2.out.lt)
               have HR45 := Lib.hid (HR4.out.below HW5.out HR4.out.lt)
               have HRK5 := Lib.hid (HRK.out.below HW5.out HRK.out.lt)
               have HR2S : Hid (Row (w5.setCell ⟨g, k, none⟩ (.slice A5 ys.length c5)) w.heap.size 55 #[.int .i64 b.n, .int .i64 b.t, .slice b.Ap b.P.length b.cp, .slice b.Ao b.O.length b.co, .slice b.Ae b.E.length b.ce, .slice b.Af b.F.length b.cf]) := HR25.out.far (by show w.heap.size ≠ g; omega) _
               have HR4S : Hid (Row (w5.setCell ⟨g, k, none⟩ (.slice A5 ys.length c5)) (w.heap.size + 1) 57 #[.int .i64 0, .slice none 0 0]) := HR45.out.far (by show w.heap.size + 1 ≠ g; omega) _
               have HRKS : Hid (Row (w5.setCell ⟨g, k, none⟩ (.slice A5 ys.length c5)) K 57 #[.int .i64 (N : Int), .slice (some ⟨g, 0, none⟩) m m]) := HRK5.out.far (by show K ≠ g; omega) _
               have HSP := Lib.hid (HSK.out _ HR2S.out HRKS.out)
               obtain ⟨⟨x0, y0⟩, y1⟩ := HROW.out _ HW5.out
               clear hP5 hO5 hB5 hI5 hc5 e5'))
          rename_i hHeld
          clear hHeld a0 a1 a2 a3 a4 a5 e0 e1 x0 y0 y1
          have HPN := Lib.hid (HPUT.out w5 A5 ys c5 HW5.out HC5.out HI5.out)
          have HSN2 := Lib.hid (HSN.out ys HP5.out)
          have HBN : Hid (Below w.heap.size w (w5.setCell ⟨g, k, none⟩ (.slice A5 ys.length c5))) := (HBl.out.trans (HW5.out.mono hws)).setCell (by show w.heap.size ≤ g; omega) _
          clear hwrap
          go_wp2
          go_roundw
          case rel => exact ⟨f + 1, ls.set k ⟨A5, ys, c5⟩, by go_num, by omega, by show _ = _; rw [List.length_set]; exact HLN.out, by show _ = _; rw [sayL_set]; exact HSN2.out, by show GoodC _ _; rw [sayL_set]; exact HGC.out.set HP5.out.good k, HBN.out, HR2S.out, HR4S.out, HRKS.out, HPN.out⟩
          case measure => simp [intOf]; omega
        · obtain rfl : f = N - q := by omega
          have HSY2 : Hid (sayL ls = fillC b.say ws N (cellsTo N (q + 1) 0)) := by show _ = _; rw [HSY.out, cellsTo_next]
          go_wp2
          go_roundw
          case rel => exact ⟨q + 1, ls, by go_num, by omega, HLN.out, HSY2.out, HGC.out, HBl.out, HR2.out, HR4.out, HRK.out, HOL.out⟩
          case measure => simp [intOf]; omega
    · obtain rfl : q = N := by omega
      have e0 := HRK.out.cell 0
      have e1 := HRK.out.cell 1
      have f0 := HR4.out.frozen 0
      have f1 := HR4.out.frozen 1
      have z0 := HR4.out.cell 0
      have z1 := HR4.out.cell 1
      simp only [List.getElem?_toArray, List.getElem?_cons_succ, List.getElem?_cons_zero] at e0 e1 z0 z1
      have HRF : Hid (Row ((wr.setCell ⟨w.heap.size + 1, 0, none⟩ (.int .i64 (q : Int))).setCell ⟨w.heap.size + 1, 1, none⟩ (.slice (some ⟨g, 0, none⟩) m m)) (w.heap.size + 1) 57 #[.int .i64 (q : Int), .slice (some ⟨g, 0, none⟩) m m]) := by
        have := (HR4.out.set 0 (.int .i64 (q : Int))).set 1 (.slice (some ⟨g, 0, none⟩) m m)
        show Row _ _ _ _
        simpa using this
      have HOF : Hid (OwnL ((wr.setCell ⟨w.heap.size + 1, 0, none⟩ (.int .i64 (q : Int))).setCell ⟨w.heap.size + 1, 1, none⟩ (.slice (some ⟨g, 0, none⟩) m m)) (w.heap.size + 2) (some ⟨g, 0, none⟩) ls) := (HOL.out.low (p := ⟨w.heap.size + 1, 0, none⟩) (by show w.heap.size + 1 < _; omega) _).low (p := ⟨w.heap.size + 1, 1, none⟩) (by show w.heap.size + 1 < _; omega) _
      have HBF : Hid (Below w.heap.size w ((wr.setCell ⟨w.heap.size + 1, 0, none⟩ (.int .i64 (q : Int))).setCell ⟨w.heap.size + 1, 1, none⟩ (.slice (some ⟨g, 0, none⟩) m m))) := (HBl.out.setCell (by show w.heap.size ≤ w.heap.size + 1; omega) _).setCell (by show w.heap.size ≤ w.heap.size + 1; omega) _
      go_wp2
      generalize ((wr.setCell ⟨w.heap.size + 1, 0, none⟩ (.int .i64 (q : Int))).setCell ⟨w.heap.size + 1, 1, none⟩ (.slice (some ⟨g, 0, none⟩) m m)) = V at HRF HOF HBF ⊢
      have p0 := HRF.out.cell 0
      have p1 := HRF.out.cell 1
      simp only [List.getElem?_toArray, List.getElem?_cons_succ, List.getElem?_cons_zero] at p0 p1
      refine bodyPost_ret (v := .agg #[.int .i64 (q : Int), .slice (some ⟨g, 0, none⟩) m m]) (by simp [results, Tryd.results97, go_sem, p0, p1]) rfl ?_
      refine ⟨some ⟨g, 0, none⟩, ls, m, by rw [HLN.out], HSY.out, HOF.out.lower (by omega), by rw [HLN.out]; exact Nat.le_refl _, HBF.out⟩

end Go.Proofs.YtfbpcdmpkbjifaaDoor

/- The reference's FillChart. -/

namespace Go.Proofs.YtfbpcdmpkbjifaaDoor
open Go.RowKit

/-- What FillChart answers. -/
noncomputable def fcOk (s : Bs) (ws : List Int) : Bool := bP (GoodBs s ∧ TokW s.t ws)
noncomputable def fcN (s : Bs) (ws : List Int) : Int := if fcOk s ws then ws.length else 0
noncomputable def fcC (s : Bs) (ws : List Int) : List (List Int) := if fcOk s ws then fillC s ws ws.length (cellsN ws.length) else []

set_option maxRecDepth 20000 in
set_option maxHeartbeats 2000000 in
theorem specFillChart_any (b : Bi) (Aw : Option Addr) (ws : List Int) (cw : Nat) (w : World) (hb : ReadB w w.heap.size b) (hm : LenB 1048576 b) (hw : Ints w w.heap.size Aw ws) (hwl : ws.length ≤ 1048576) :
    Calls Tryd.prog 43 #[(.agg #[.int .i64 b.n, .int .i64 b.t, .slice b.Ap b.P.length b.cp, .slice b.Ao b.O.length b.co, .slice b.Ae b.E.length b.ce, .slice b.Af b.F.length b.cf]), .slice Aw ws.length cw] w (GaveCB w (fcN b.say ws) (fcC b.say ws) (fcOk b.say ws)) := by
  have HX := Lib.hid hb; clear hb
  have HM := Lib.hid hm; clear hm
  have HW := Lib.hid hw; clear hw
  have HB0 : Hid (Below w.heap.size w ((w.alloc (.cells #[.int .i64 b.n, .int .i64 b.t, .slice b.Ap b.P.length b.cp, .slice b.Ao b.O.length b.co, .slice b.Ae b.E.length b.ce, .slice b.Af b.F.length b.cf] 55)).alloc (.cells #[.int .i64 0, .slice none 0 0] 57))) := ((Below.refl _ _).alloc (Nat.le_refl _) _).alloc (by simp) _
  have B0 : Hid (Box6 ((w.alloc (.cells #[.int .i64 b.n, .int .i64 b.t, .slice b.Ap b.P.length b.cp, .slice b.Ao b.O.length b.co, .slice b.Ae b.E.length b.ce, .slice b.Af b.F.length b.cf] 55)).alloc (.cells #[.int .i64 0, .slice none 0 0] 57)) w.heap.size b) := (Box6.new w b 55).keep ((Below.refl _ _).alloc (Nat.le_refl _) _) (by simp)
  have HR4 : Hid (Row ((w.alloc (.cells #[.int .i64 b.n, .int .i64 b.t, .slice b.Ap b.P.length b.cp, .slice b.Ao b.O.length b.co, .slice b.Ae b.E.length b.ce, .slice b.Af b.F.length b.cf] 55)).alloc (.cells #[.int .i64 0, .slice none 0 0] 57)) (w.heap.size + 1) 57 #[.int .i64 0, .slice none 0 0]) := by
    have h := Row.new (w.alloc (.cells #[.int .i64 b.n, .int .i64 b.t, .slice b.Ap b.P.length b.cp, .slice b.Ao b.O.length b.co, .slice b.Ae b.E.length b.ce, .slice b.Af b.F.length b.cf] 55)) 57 #[.int .i64 0, .slice none 0 0]
    rwa [World.size_alloc] at h
  have hs0 := HB0.out.size
  obtain ⟨_, b0, b1, b2, b3, b4, b5⟩ := B0.out
  go_enter Tryd.func43, Tryd.ntmps43
  go_wp2_with fail
  generalize ((w.alloc (.cells #[.int .i64 b.n, .int .i64 b.t, .slice b.Ap b.P.length b.cp, .slice b.Ao b.O.length b.co, .slice b.Ae b.E.length b.ce, .slice b.Af b.F.length b.cf] 55)).alloc (.cells #[.int .i64 0, .slice none 0 0] 57)) = W at HB0 HR4 hs0 B0 b0 b1 b2 b3 b4 b5 ⊢
  refine (l7Word_any b Aw ws cw W ((HX.out.keep HB0.out).more hs0) HM.out ((HW.out.keep HB0.out).more hs0) hwl).mono ?_
  rintro e w1 ⟨rfl, hB1⟩
  have B1 := Lib.hid (B0.out.keep hB1 B0.out.1)
  have HR1 := Lib.hid (HR4.out.below hB1 HR4.out.lt)
  have HB1 := Lib.hid (HB0.out.trans (hB1.mono hs0)); clear hB1
  clear B0 HB0 HR4 b0 b1 b2 b3 b4 b5
  have hs1 := HB1.out.size
  have hlt := HR1.out.lt
  cases hg : bP (GoodBs b.say ∧ TokW b.t ws)
  · have HV : Hid (fcOk b.say ws = false ∧ fcN b.say ws = 0 ∧ fcC b.say ws = []) := by
      have h1 : fcOk b.say ws = false := hg
      exact ⟨h1, by unfold fcN; rw [h1]; rfl, by unfold fcC; rw [h1]; rfl⟩
    clear hg
    have d0 := HR1.out.cell 0
    have d1 := HR1.out.cell 1
    have g0 := HR1.out.frozen 0
    have g1 := HR1.out.frozen 1
    simp only [List.getElem?_toArray, List.getElem?_cons_succ, List.getElem?_cons_zero] at d0 d1
    go_wp2
    refine bodyPost_ret (v := .tuple #[.agg #[.int .i64 0, .slice none 0 0], .bool false]) (by simp [results, Tryd.results43, go_sem, d0, d1]) rfl ⟨none, [], 0, by rw [HV.out.1, HV.out.2.1]; rfl, by rw [HV.out.2.2]; rfl, .inl rfl, Nat.le_refl _, ?_⟩
    exact (HB1.out.setCell (by show w.heap.size ≤ w.heap.size + 1; omega) _).setCell (by show w.heap.size ≤ w.heap.size + 1; omega) _
  have HG : Hid (GoodBs b.say ∧ TokW b.t ws) := bP_is hg
  have HV : Hid (fcOk b.say ws = true ∧ fcN b.say ws = ws.length ∧ fcC b.say ws = fillC b.say ws ws.length (cellsN ws.length)) := by
    have h1 : fcOk b.say ws = true := hg
    exact ⟨h1, by unfold fcN; rw [h1]; rfl, by unfold fcC; rw [h1]; rfl⟩
  clear hg
  obtain ⟨_, b0, b1, b2, b3, b4, b5⟩ := B1.out
  go_wp2_with fail
  refine (l7Fill_any b Aw ws cw w1 ((HX.out.keep HB1.out).more hs1) HM.out HG.out.1 ((HW.out.keep HB1.out).more hs1) HG.out.2).mono ?_
  rintro e w2 ⟨A2, ls, c2, rfl, hS2, hO2, hc2, hB2⟩
  have HR2 := Lib.hid (HR1.out.below hB2 HR1.out.lt)
  have HB2 := Lib.hid (HB1.out.trans (hB2.mono hs1)); clear hB2
  have HS2 := Lib.hid hS2
  have HO2 := Lib.hid hO2
  have HC2 := Lib.hid hc2
  clear hS2 hO2 hc2 b0 b1 b2 b3 b4 b5
  have HRF : Hid (Row ((w2.setCell ⟨w.heap.size + 1, 0, none⟩ (.int .i64 (ws.length : Int))).setCell ⟨w.heap.size + 1, 1, none⟩ (.slice A2 ls.length c2)) (w.heap.size + 1) 57 #[.int .i64 (ws.length : Int), .slice A2 ls.length c2]) := by
    have := (HR2.out.set 0 (.int .i64 (ws.length : Int))).set 1 (.slice A2 ls.length c2)
    show Row _ _ _ _
    simpa using this
  have HOF : Hid (OwnL ((w2.setCell ⟨w.heap.size + 1, 0, none⟩ (.int .i64 (ws.length : Int))).setCell ⟨w.heap.size + 1, 1, none⟩ (.slice A2 ls.length c2)) w1.heap.size A2 ls) := (HO2.out.low (p := ⟨w.heap.size + 1, 0, none⟩) hlt _).low (p := ⟨w.heap.size + 1, 1, none⟩) hlt _
  have HBF : Hid (Below w.heap.size w ((w2.setCell ⟨w.heap.size + 1, 0, none⟩ (.int .i64 (ws.length : Int))).setCell ⟨w.heap.size + 1, 1, none⟩ (.slice A2 ls.length c2))) := (HB2.out.setCell (by show w.heap.size ≤ w.heap.size + 1; omega) _).setCell (by show w.heap.size ≤ w.heap.size + 1; omega) _
  have d0 := HR2.out.cell 0
  have d1 := HR2.out.cell 1
  have g0 := HR2.out.frozen 0
  have g1 := HR2.out.frozen 1
  simp only [List.getElem?_toArray, List.getElem?_cons_succ, List.getElem?_cons_zero] at d0 d1
  go_wp2
  generalize ((w2.setCell ⟨w.heap.size + 1, 0, none⟩ (.int .i64 (ws.length : Int))).setCell ⟨w.heap.size + 1, 1, none⟩ (.slice A2 ls.length c2)) = V at HRF HOF HBF ⊢
  have p0 := HRF.out.cell 0
  have p1 := HRF.out.cell 1
  simp only [List.getElem?_toArray, List.getElem?_cons_succ, List.getElem?_cons_zero] at p0 p1
  refine bodyPost_ret (v := .tuple #[.agg #[.int .i64 (ws.length : Int), .slice A2 ls.length c2], .bool true]) (by simp [results, Tryd.results43, go_sem, p0, p1]) rfl ⟨A2, ls, c2, by rw [HV.out.1, HV.out.2.1], by rw [HS2.out, HV.out.2.2], HOF.out.lower hs1, HC2.out, HBF.out⟩

end Go.Proofs.YtfbpcdmpkbjifaaDoor

/- The reference's Accepts. -/

namespace Go.Proofs.YtfbpcdmpkbjifaaDoor
open Go.RowKit

theorem cellV_lens (s : Bs) (ws : List Int) (xs : List (List Int)) (f t : Int) : (cellV s ws xs f t).length ≤ 40 := by
  unfold cellV
  split
  · rename_i h
    exact goodE40_len (Classical.choose_spec h).good
  · simp
theorem foldC_len (s : Bs) (ws : List Int) (n : Int) : ∀ (L : List (Int × Int)) (xs : List (List Int)), (L.foldl (putC s ws n) xs).length = xs.length
  | [], _ => rfl
  | p :: r, xs => (foldC_len s ws n r (putC s ws n xs p)).trans (List.length_set ..)
theorem foldC_lens (s : Bs) (ws : List Int) (n : Int) : ∀ (L : List (Int × Int)) (xs : List (List Int)), (∀ x ∈ xs, x.length ≤ 40) → ∀ x ∈ L.foldl (putC s ws n) xs, x.length ≤ 40
  | [], _, h => h
  | p :: r, xs, h => foldC_lens s ws n r (putC s ws n xs p) fun x hx => by
    rcases List.mem_or_eq_of_mem_set hx with hx | rfl
    · exact h x hx
    · exact cellV_lens _ _ _ _ _

set_option maxRecDepth 100000 in
theorem field_cells (n : Int) (A : Option Addr) (l c : Nat) (w : World) : (Instr.field 57 (.agg #[.int .i64 n, .slice A l c]) 1).run Tryd.prog w = .ok (.slice A l c) w := rfl

/-- The start derives nothing. -/
noncomputable def accE (s : Bs) : Bool := bP (∃ N, IsLeast wayNull noS (bRules s.P s.O s.E) N ∧ N 0 = true)
theorem accE_is {s : Bs} {N : Int → Bool} (h : IsLeast wayNull noS (bRules s.P s.O s.E) N) : accE s = N 0 := by
  cases h0 : N 0
  · refine bP_f ?_
    rintro ⟨M, h1, h2⟩
    have e := h.unique h1
    subst e
    rw [h0] at h2
    cases h2
  · exact bP_t ⟨N, h, h0⟩
/-- The last cell's list. -/
noncomputable def accL (s : Bs) (ws : List Int) : List Int := atC (fillC s ws ws.length (cellsN ws.length)) ws.length 0 ws.length
/-- What Accepts answers. -/
noncomputable def accW (s : Bs) (ws : List Int) : Bool := if (ws.length : Int) = 0 then accE s else (accL s ws).contains 0
noncomputable def accV (s : Bs) (ws : List Int) : Bool := fcOk s ws && accW s ws

set_option maxRecDepth 20000 in
set_option maxHeartbeats 2000000 in
theorem l7Accepts_any (b : Bi) (Aw : Option Addr) (ws : List Int) (cw : Nat) (w : World) (hb : ReadB w w.heap.size b) (hm : LenB 1048576 b) (hgb : GoodBs b.say) (hw : Ints w w.heap.size Aw ws) (htw : TokW b.t ws) :
    Calls Tryd.prog 101 #[(.agg #[.int .i64 b.n, .int .i64 b.t, .slice b.Ap b.P.length b.cp, .slice b.Ao b.O.length b.co, .slice b.Ae b.E.length b.ce, .slice b.Af b.F.length b.cf]), .slice Aw ws.length cw] w fun e w' => e = .returned (.bool (accW b.say ws)) ∧ Below w.heap.size w w' := by
  have HX := Lib.hid hb; clear hb
  have HM := Lib.hid hm; clear hm
  have HG := Lib.hid hgb; clear hgb
  have HW := Lib.hid hw; clear hw
  have HT := Lib.hid htw; clear htw
  have HB0 : Hid (Below w.heap.size w (w.alloc (.cells #[.int .i64 b.n, .int .i64 b.t, .slice b.Ap b.P.length b.cp, .slice b.Ao b.O.length b.co, .slice b.Ae b.E.length b.ce, .slice b.Af b.F.length b.cf] 55))) := (Below.refl _ _).alloc (Nat.le_refl _) _
  have B0 := Lib.hid (Box6.new w b 55)
  have hs0 := HB0.out.size
  obtain ⟨_, b0, b1, b2, b3, b4, b5⟩ := B0.out
  have hn10 := HT.out.1
  cases h0 : ((ws.length : Int) == 0)
  · have hne : ¬ (ws.length : Int) = 0 := by simpa using h0
    have HV : Hid (accW b.say ws = (accL b.say ws).contains 0) := by show _ = _; unfold accW; rw [if_neg hne]
    have hsp : spanB (ws.length : Int) 0 (ws.length : Int) = true := spanB_t (by omega) (by omega) (by omega) (by omega) (by omega)
    have HNO := Lib.hid (fun v => l7No_any (ws.length : Int) 0 (ws.length : Int) v hsp)
    go_enter Tryd.func101, Tryd.ntmps101
    go_wp2_with fail
    generalize (w.alloc (.cells #[.int .i64 b.n, .int .i64 b.t, .slice b.Ap b.P.length b.cp, .slice b.Ao b.O.length b.co, .slice b.Ae b.E.length b.ce, .slice b.Af b.F.length b.cf] 55)) = W at HB0 B0 hs0 b0 b1 b2 b3 b4 b5 ⊢
    refine (l7Fill_any b Aw ws cw W ((HX.out.keep HB0.out).more hs0) HM.out HG.out ((HW.out.keep HB0.out).more hs0) HT.out).mono ?_
    rintro e w1 ⟨A, ls, c, rfl, hS, hO, hc, hB1⟩
    have HB1 := Lib.hid (HB0.out.trans (hB1.mono hs0))
    have hlen : (ls.length : Int) = cntC ws.length := by
      have h1 := (foldC_len b.say ws ws.length (cellsN ws.length) (emptyC ws.length))
      have h2 := congrArg List.length hS
      rw [sayL_len] at h2
      have hb := cntC_bound (n := (ws.length : Int)) (by omega) (by omega)
      unfold fillC at h2
      rw [h2, h1]
      unfold emptyC
      rw [List.length_replicate, Int.toNat_of_nonneg hb.1]
    have hno := noC_lt (m := ls.length) hsp (by rw [hlen]; exact cntC_two (by omega) (by omega))
    obtain ⟨k, hk⟩ := Int.eq_ofNat_of_zero_le hno.1
    have hkl : k < ls.length := by omega
    have HE : Hid (accL b.say ws = ls[k].r) := by
      show _ = _
      unfold accL
      rw [← hS]
      exact atC_at hkl hk
    obtain ⟨g, o, rfl, hg, c0, c1, c2⟩ := hO.lls.at_ hkl
    have HI := Lib.hid c2
    have hl40 : ls[k].r.length ≤ 40 := by
      have := (foldC_lens b.say ws ws.length (cellsN ws.length) (emptyC ws.length) (fun x hx => by rw [List.eq_of_mem_replicate hx]; simp)) ls[k].r (by
        have : ls[k].r ∈ sayL ls := sayL_mem (List.getElem_mem hkl)
        rw [hS] at this
        exact this)
      exact this
    rw [hk] at HNO
    have hfd := field_cells (ws.length : Int) (some ⟨g, o, none⟩) ls.length c w1
    generalize ls[k] = u at c0 HE HI hl40
    clear c1 c2 hO hS hB1 hno hk hlen b0 b1 b2 b3 b4 b5
    go_wp2_with (first
      | (go_at_call 109
         refine (HNO.out _).mono ?_
         rintro e w2 ⟨rfl, hw2⟩
         replace hw2 := hw2.symm
         subst hw2)
      | (go_at_call 80
         refine (l1HasW_any _ u.r _ 0 _ HI.out (by omega)).mono ?_
         rintro e w2 ⟨rfl, hw2⟩
         replace hw2 := hw2.symm
         subst hw2))
    go_ret
    exact ⟨ret_b (by rw [HV.out, HE.out]; simp), HB1.out⟩
  · have he : (ws.length : Int) = 0 := by simpa using h0
    have HV : Hid (accW b.say ws = accE b.say) := by show _ = _; unfold accW; rw [if_pos he]
    clear he
    go_enter Tryd.func101, Tryd.ntmps101
    go_wp2_with fail
    generalize (w.alloc (.cells #[.int .i64 b.n, .int .i64 b.t, .slice b.Ap b.P.length b.cp, .slice b.Ao b.O.length b.co, .slice b.Ae b.E.length b.ce, .slice b.Af b.F.length b.cf] 55)) = W at HB0 B0 hs0 b0 b1 b2 b3 b4 b5 ⊢
    refine (l5Null_any b W ((HX.out.keep HB0.out).more hs0) HM.out HG.out).mono ?_
    rintro e w1 ⟨v, ys, rfl, ⟨hr, hf, hl⟩, hO, hB1⟩
    obtain ⟨A, c, rfl, _, hI⟩ := hO.shape
    have hy40 := len40 hr hf
    have HI := Lib.hid hI
    have HE : Hid (accE b.say = ys.contains 0) := accE_is hl
    have HB1 := Lib.hid (HB0.out.trans (hB1.mono hs0))
    clear hI hO hB1 hl hr hf
    go_wp2_with (go_at_call 80
                 refine (l1HasW_any _ ys _ 0 _ HI.out (by omega)).mono ?_
                 rintro e w2 ⟨rfl, hw2⟩
                 replace hw2 := hw2.symm
                 subst hw2)
    go_ret
    exact ⟨ret_b (by rw [HV.out, HE.out]; simp), HB1.out⟩

set_option maxRecDepth 20000 in
set_option maxHeartbeats 2000000 in
theorem specAccepts_any (b : Bi) (Aw : Option Addr) (ws : List Int) (cw : Nat) (w : World) (hb : ReadB w w.heap.size b) (hm : LenB 1048576 b) (hw : Ints w w.heap.size Aw ws) (hwl : ws.length ≤ 1048576) :
    Calls Tryd.prog 46 #[(.agg #[.int .i64 b.n, .int .i64 b.t, .slice b.Ap b.P.length b.cp, .slice b.Ao b.O.length b.co, .slice b.Ae b.E.length b.ce, .slice b.Af b.F.length b.cf]), .slice Aw ws.length cw] w fun e w' => e = .returned (.tuple #[.bool (accV b.say ws), .bool (fcOk b.say ws)]) ∧ Below w.heap.size w w' := by
  have HX := Lib.hid hb; clear hb
  have HM := Lib.hid hm; clear hm
  have HW := Lib.hid hw; clear hw
  have HB0 : Hid (Below w.heap.size w (w.alloc (.cells #[.int .i64 b.n, .int .i64 b.t, .slice b.Ap b.P.length b.cp, .slice b.Ao b.O.length b.co, .slice b.Ae b.E.length b.ce, .slice b.Af b.F.length b.cf] 55))) := (Below.refl _ _).alloc (Nat.le_refl _) _
  have B0 := Lib.hid (Box6.new w b 55)
  have hs0 := HB0.out.size
  obtain ⟨_, b0, b1, b2, b3, b4, b5⟩ := B0.out
  go_enter Tryd.func46, Tryd.ntmps46
  go_wp2_with fail
  generalize (w.alloc (.cells #[.int .i64 b.n, .int .i64 b.t, .slice b.Ap b.P.length b.cp, .slice b.Ao b.O.length b.co, .slice b.Ae b.E.length b.ce, .slice b.Af b.F.length b.cf] 55)) = W at HB0 B0 hs0 b0 b1 b2 b3 b4 b5 ⊢
  refine (l7Word_any b Aw ws cw W ((HX.out.keep HB0.out).more hs0) HM.out ((HW.out.keep HB0.out).more hs0) hwl).mono ?_
  rintro e w1 ⟨rfl, hB1⟩
  have B1 := Lib.hid (B0.out.keep hB1 B0.out.1)
  have HB1 := Lib.hid (HB0.out.trans (hB1.mono hs0)); clear hB1
  clear B0 HB0 b0 b1 b2 b3 b4 b5
  have hs1 := HB1.out.size
  cases hg : bP (GoodBs b.say ∧ TokW b.t ws)
  · have HV : Hid (fcOk b.say ws = false ∧ accV b.say ws = false) := by
      have h1 : fcOk b.say ws = false := hg
      exact ⟨h1, by unfold accV; rw [h1]; rfl⟩
    clear hg
    go_wp2
    go_ret2
    exact ⟨by rw [HV.out.1, HV.out.2]; rfl, HB1.out⟩
  have HG : Hid (GoodBs b.say ∧ TokW b.t ws) := bP_is hg
  have HV : Hid (fcOk b.say ws = true ∧ accV b.say ws = accW b.say ws) := by
    have h1 : fcOk b.say ws = true := hg
    exact ⟨h1, by unfold accV; rw [h1]; rfl⟩
  clear hg
  obtain ⟨_, b0, b1, b2, b3, b4, b5⟩ := B1.out
  go_wp2_with fail
  refine (l7Accepts_any b Aw ws cw w1 ((HX.out.keep HB1.out).more hs1) HM.out HG.out.1 ((HW.out.keep HB1.out).more hs1) HG.out.2).mono ?_
  rintro e w2 ⟨rfl, hB2⟩
  have HB2 := Lib.hid (HB1.out.trans (hB2.mono hs1)); clear hB2
  go_wp2
  go_ret2
  exact ⟨by rw [HV.out.1, HV.out.2]; rfl, HB2.out⟩

end Go.Proofs.YtfbpcdmpkbjifaaDoor

/- A region that draws its order, within a round of a range over a function: walked as one outside. -/

namespace Go.Proofs.YtfbpcdmpkbjifaaDoor
open Go.RowKit

section
variable {P : Program} {ops : Array Oper} {Q : Exit → Act → World → Prop} {n l : Nat}

theorem rows_round {row : String} {args : Array Value} {w : World} {R : Value → World → Prop} (h : Rows P row args w R) : RowsIn (Fence.wide.inRound l) n P row args w R := fun c cs _ => by
  obtain ⟨v, w', r, s⟩ := h c cs
  exact ⟨v, w', r, by rw [fenced_inRound]; exact stepsIn_wide.2 s⟩
theorem upon_round {o : Oper} {a : Act} {next : Act → World → Prop} : ∀ {r : Result Next}, o.upon P a next Q r → o.uponIn (Fence.wide.inRound l) n P a next Q r
  | .ok (.value _) _, h => h
  | .ok .skip _, h => h
  | .ok (.defer _) _, h => h
  | .ok (.enter f args) w', h => by
    refine ⟨fun hh => by simp [Fence.inRound, Fence.wide] at hh, ?_⟩
    refine CallsIn.inRound l (callsIn_wide.2 (Calls.mono h fun e w'' he => ?_))
    cases e <;> exact he
  | .ok (.row row args) w', h => ⟨fun hh => by simp [Fence.inRound, Fence.wide] at hh, rows_round (Rows.mono h fun _ _ he => he)⟩
  | .ok (.round l' f tmps assign body) w', h => by simp [Oper.upon] at h
  | .halt e w', h => by
    cases e <;> simp only [Oper.upon, Oper.uponIn] at h ⊢
    all_goals exact h
theorem wpOp_round (hd : ∀ (i : Nat) (o : Oper), ops[i]? = some o → ∀ c, o.op ≠ .defer c) (hout : ¬ LetsOut Q) {i : Nat} {K : Act → World → Prop} {a : Act} {w : World} (h : wpOp P ops Q i K a w) : wpOpIn (Fence.wide.inRound l) n P ops Q i K a w := by
  unfold wpOp at h
  unfold wpOpIn
  cases ho : ops[i]? with
  | none => rw [ho] at h; exact h
  | some o =>
    rw [ho] at h
    simp only at h ⊢
    by_cases hw : Region.wanted o (yielded ops a.tmps) = true
    · rw [if_pos hw] at h ⊢
      rcases h with h | h
      · exact ⟨fun _ _ => trivial, by rw [Oper.semAt_eq _ _ _ (hd i o ho)]; exact upon_round h⟩
      · exact absurd h.2 hout
    · rw [if_neg hw] at h ⊢
      exact ⟨fun _ _ => trivial, h⟩
theorem wpAny_round {md : Region.Mode} (hd : ∀ (i : Nat) (o : Oper), ops[i]? = some o → ∀ c, o.op ≠ .defer c) (hout : ¬ LetsOut Q) : ∀ (fuel : Nat) (listed : Array Bool) (a : Act) (w : World), wpAny P md ops Q fuel listed a w → wpAnyIn (Fence.wide.inRound l) n P md ops Q fuel listed a w
  | 0, _, _, _, h => h
  | fuel + 1, _, _, _, h => ⟨h.1, fun i hi => wpOpIn_mono (fun a' w' h' => wpAny_round hd hout fuel _ a' w' h') (wpOp_round hd hout (h.2 i hi))⟩
/-- No operation of the region defers. -/
def noDefer (ops : Array Oper) : Bool := ops.all fun o => match o.op with | .defer _ => false | _ => true
theorem noDefer_is (h : noDefer ops = true) : ∀ (i : Nat) (o : Oper), ops[i]? = some o → ∀ c, o.op ≠ .defer c := by
  intro i o ho c hc
  unfold noDefer at h
  rw [Array.all_eq_true] at h
  obtain ⟨hi, he⟩ := Array.getElem?_eq_some_iff.1 ho
  have := h i hi
  rw [he, hc] at this
  cases this
theorem wpIn_region_round {id : Nat} {a : Act} {w : World} {S : World → Prop} (hm : P.follows .mixedOrders = true) (hd : noDefer ops = true) (hout : ¬ LetsOut Q) (hS : S w.drew)
    (h : S w.drew → wpAnyH P .any ops Q S ops.size (Array.replicate ops.size false) a w.drew) : (Code.region id ops true).wpIn (Fence.wide.inRound l) n P Q a w :=
  wpIn_region_any hm (wpAny_round (noDefer_is hd) hout _ _ _ _ (wpAny_of_held _ _ _ _ (h hS)))
end

end Go.Proofs.YtfbpcdmpkbjifaaDoor

/- What stands between two rounds of the program's FillChart. -/

namespace Go.Proofs.YtfbpcdmpkbjifaaDoor
open Go.RowKit

theorem row_grownO {W W' : World} {g : Nat} {t : TypeId} {cs : Array Value} {row : Option Nat} (h : Row W g t cs) (hg : W.grownBy W' row) (hr : ∀ r, row = some r → ∃ o : Obj, W.heap[r]? = some o ∧ o.isCells = false) : Row W' g t cs :=
  (hg.block g h.lt (fun e => by
    obtain ⟨o, h1, h2⟩ := hr g e.symm
    have h3 : W.heap[g]? = some (.cells cs t (0, 0)) := h
    rw [h3] at h1
    injection h1 with h1
    subst h1
    cases h2)).trans h
theorem OwnI.grownO {W W' : World} {lo : Nat} {A : Option Addr} {xs : List Int} {row : Option Nat} (h : OwnI W lo A xs) (hg : W.grownBy W' row) (hr : ∀ r, row = some r → ∃ o : Obj, W.heap[r]? = some o ∧ o.isCells = false) : OwnI W' lo A xs := by
  rcases h with h | ⟨g, cs, e, hl, hrw, hc⟩
  · exact .inl h
  · exact .inr ⟨g, cs, e, hl, row_grownO hrw hg hr, hc⟩
theorem OwnL.grownO {W W' : World} {lo : Nat} {A : Option Addr} {ls : List Li} {row : Option Nat} (h : OwnL W lo A ls) (hg : W.grownBy W' row) (hr : ∀ r, row = some r → ∃ o : Obj, W.heap[r]? = some o ∧ o.isCells = false) : OwnL W' lo A ls := by
  rcases h with h | ⟨g, cs, e, hl, hrw, hc, hd⟩
  · exact .inl h
  · exact .inr ⟨g, cs, e, hl, row_grownO hrw hg hr, fun k u hu => ⟨(hc k u hu).1, (hc k u hu).2.1, (hc k u hu).2.2.grownO hg hr⟩, hd⟩
theorem keepsO {W V : World} (h : Below W.heap.size W V) : KeepsOthers W V := ⟨h.size, fun k _ hk _ => (h.block k (Array.getElem?_eq_some_iff.1 hk).1).trans hk⟩
theorem pcell_of {s : Bs} {ws : List Int} {xs : List (List Int)} {f t : Int} {S : Int → Bool} (hf : Fit40 S) (h : PUp s (cellBase s ws xs f t) S) : PCell s ws xs f t (upK S 40) := by
  refine ⟨upK_rises S 40, fun y hy => ⟨((upK_mem S 40 y).1 hy).2.1, ((upK_mem S 40 y).1 hy).2.2⟩, ?_⟩
  have e : setL (upK S 40) = S := by
    funext x
    rw [Bool.eq_iff_iff, setL_iff, upK_mem]
    exact ⟨fun h => h.1, fun h => ⟨h, hf x h⟩⟩
  rw [e]
  exact h

/-- What stands between two rounds. -/
structure FcJ (w : World) (b : Bi) (Aw : Option Addr) (k cw : Nat) (N : Int → Bool) (F P K g mm m B : Nat) (W : World) (ls : List Li) : Prop where
  bel : Below w.heap.size w W
  siz : B ≤ W.heap.size
  ord : w.heap.size + 2 ≤ g ∧ F < P ∧ P < g ∧ g < K ∧ K < B
  box : W.cell? ⟨P, 0, none⟩ = some (.pointer (some ⟨F, 0, none⟩))
  cha : Row W K 57 #[.int .i64 (m : Int), .slice (some ⟨g, 0, none⟩) mm mm]
  res : Row W (w.heap.size + 1) 57 #[.int .i64 0, .slice none 0 0]
  fil : FilC W F b (tabF (DirB N b.say.P b.say.O)) Aw k cw
  own : OwnL W (w.heap.size + 2) (some ⟨g, 0, none⟩) ls
  len : ls.length = mm
  good : GoodC m (sayL ls)
section
variable {w : World} {b : Bi} {Aw : Option Addr} {k cw : Nat} {N : Int → Bool} {F P K g mm m B : Nat} {W V : World} {ls : List Li}
theorem FcJ.keep (h : FcJ w b Aw k cw N F P K g mm m B W ls) (hb : Below W.heap.size W V) : FcJ w b Aw k cw N F P K g mm m B V ls := by
  obtain ⟨o1, o2, o3, o4, o5⟩ := h.ord
  have hs := h.siz
  refine ⟨h.bel.trans (hb.mono h.bel.size), Nat.le_trans hs hb.size, h.ord, (hb.cell (p := ⟨P, 0, none⟩) (by show P < _; omega)).trans h.box, h.cha.below hb h.cha.lt, h.res.below hb h.res.lt, h.fil.keep hb (by omega), h.own.below hb (Nat.le_refl _), h.len, h.good⟩
theorem FcJ.grown {row : Option Nat} (h : FcJ w b Aw k cw N F P K g mm m B W ls) (hg : W.grownBy V row) (hr : ∀ r, row = some r → B ≤ r ∧ ∃ o : Obj, W.heap[r]? = some o ∧ o.isCells = false) : FcJ w b Aw k cw N F P K g mm m B V ls := by
  obtain ⟨o1, o2, o3, o4, o5⟩ := h.ord
  have hs := h.siz
  have hb : Below B W V := (Below.refl B W).grown hg hs fun r e => (hr r e).1
  refine ⟨h.bel.trans (hb.mono (by omega)), Nat.le_trans hs hb.size, h.ord, (hb.cell (p := ⟨P, 0, none⟩) (by show P < _; omega)).trans h.box, h.cha.below hb o5, h.res.below hb (by omega), h.fil.keep hb (by omega), h.own.grownO hg (fun r e => (hr r e).2), h.len, h.good⟩
theorem FcJ.put (h : FcJ w b Aw k cw N F P K g mm m B W ls) (hb : Below W.heap.size W V) {A : Option Addr} {xs : List Int} {c j : Nat} (hc : xs.length ≤ c) (hO : OwnI V W.heap.size A xs) (hx : GoodE 40 xs) (hj : j < ls.length) :
    FcJ w b Aw k cw N F P K g mm m B (V.setCell ⟨g, j, none⟩ (.slice A xs.length c)) (ls.set j ⟨A, xs, c⟩) := by
  obtain ⟨o1, o2, o3, o4, o5⟩ := h.ord
  have hs := h.siz
  have h1 := h.keep hb
  have hg : Below g V (V.setCell ⟨g, j, none⟩ (.slice A xs.length c)) := (Below.refl g V).setCell (Nat.le_refl _) _
  refine ⟨h1.bel.setCell (by show w.heap.size ≤ g; omega) _, by simpa [World.setCell] using h1.siz, h.ord, (hg.cell (p := ⟨P, 0, none⟩) o3).trans h1.box, h1.cha.far (by show K ≠ g; omega) _, h1.res.far (by show w.heap.size + 1 ≠ g; omega) _, h1.fil.keep hg (by omega), h.own.put (by omega) hj hb hc hO, by rw [List.length_set]; exact h.len, by rw [sayL_set]; exact h.good.set hx j⟩
end

end Go.Proofs.YtfbpcdmpkbjifaaDoor

/- The program's FillChart. -/

namespace Go.Proofs.YtfbpcdmpkbjifaaDoor
open Go.RowKit Go.Shelf
attribute [local go_sem] Oper.semAt_some

set_option maxRecDepth 100000 in
set_option maxHeartbeats 4000000 in
theorem implFillChart_any (b : Bi) (Aw : Option Addr) (ws : List Int) (cw : Nat) (w : World) (hx : ReadB w w.heap.size b) (hL : Lims w) (hm : LenB 1048576 b) (ht : b.P.length + b.O.length + b.E.length ≤ 1048576) (hf : FitB b.say) (hw : Ints w w.heap.size Aw ws) (hwl : ws.length ≤ 1048576) :
    Calls Tryd.prog 44 #[(.agg #[.int .i64 b.n, .int .i64 b.t, .slice b.Ap b.P.length b.cp, .slice b.Ao b.O.length b.co, .slice b.Ae b.E.length b.ce, .slice b.Af b.F.length b.cf]), .slice Aw ws.length cw] w (GaveCB w (fcN b.say ws) (fcC b.say ws) (fcOk b.say ws)) := by
  have HX := Lib.hid hx; clear hx
  have HM := Lib.hid hm; clear hm
  have HL := Lib.hid hL; clear hL
  have HF := Lib.hid hf; clear hf
  have HW := Lib.hid hw; clear hw
  have HB0 : Hid (Below w.heap.size w ((w.alloc (.cells #[.int .i64 b.n, .int .i64 b.t, .slice b.Ap b.P.length b.cp, .slice b.Ao b.O.length b.co, .slice b.Ae b.E.length b.ce, .slice b.Af b.F.length b.cf] 55)).alloc (.cells #[.int .i64 0, .slice none 0 0] 57))) := ((Below.refl _ _).alloc (Nat.le_refl _) _).alloc (by simp) _
  have B0 : Hid (Box6 ((w.alloc (.cells #[.int .i64 b.n, .int .i64 b.t, .slice b.Ap b.P.length b.cp, .slice b.Ao b.O.length b.co, .slice b.Ae b.E.length b.ce, .slice b.Af b.F.length b.cf] 55)).alloc (.cells #[.int .i64 0, .slice none 0 0] 57)) w.heap.size b) := (Box6.new w b 55).keep ((Below.refl _ _).alloc (Nat.le_refl _) _) (by simp)
  have HR4 : Hid (Row ((w.alloc (.cells #[.int .i64 b.n, .int .i64 b.t, .slice b.Ap b.P.length b.cp, .slice b.Ao b.O.length b.co, .slice b.Ae b.E.length b.ce, .slice b.Af b.F.length b.cf] 55)).alloc (.cells #[.int .i64 0, .slice none 0 0] 57)) (w.heap.size + 1) 57 #[.int .i64 0, .slice none 0 0]) := by
    have h := Row.new (w.alloc (.cells #[.int .i64 b.n, .int .i64 b.t, .slice b.Ap b.P.length b.cp, .slice b.Ao b.O.length b.co, .slice b.Ae b.E.length b.ce, .slice b.Af b.F.length b.cf] 55)) 57 #[.int .i64 0, .slice none 0 0]
    rwa [World.size_alloc] at h
  have hs0 := HB0.out.size
  have HCG := Lib.hid (fillerOf_any b Aw ws cw ((w.alloc (.cells #[.int .i64 b.n, .int .i64 b.t, .slice b.Ap b.P.length b.cp, .slice b.Ao b.O.length b.co, .slice b.Ae b.E.length b.ce, .slice b.Af b.F.length b.cf] 55)).alloc (.cells #[.int .i64 0, .slice none 0 0] 57)) ((HX.out.keep HB0.out).more hs0) (HL.out.keep HB0.out (Nat.le_refl _)) HM.out ht HF.out ((HW.out.keep HB0.out).more hs0) hwl)
  obtain ⟨_, b0, b1, b2, b3, b4, b5⟩ := B0.out
  cases hg : bP (GoodBs b.say ∧ TokW b.t ws)
  · have HV : Hid (fcOk b.say ws = false ∧ fcN b.say ws = 0 ∧ fcC b.say ws = []) := by
      have h1 : fcOk b.say ws = false := hg
      exact ⟨h1, by unfold fcN; rw [h1]; rfl, by unfold fcC; rw [h1]; rfl⟩
    go_enter Tryd.func44, Tryd.ntmps44
    go_wp2_with fail
    generalize ((w.alloc (.cells #[.int .i64 b.n, .int .i64 b.t, .slice b.Ap b.P.length b.cp, .slice b.Ao b.O.length b.co, .slice b.Ae b.E.length b.ce, .slice b.Af b.F.length b.cf] 55)).alloc (.cells #[.int .i64 0, .slice none 0 0] 57)) = W at HB0 HR4 hs0 HCG b0 b1 b2 b3 b4 b5 ⊢
    refine HCG.out.mono ?_
    rintro e w1 ⟨hB1, ⟨_, rfl⟩ | ⟨hg', _⟩⟩
    · have HR1 := Lib.hid (HR4.out.below hB1 HR4.out.lt)
      have HB1 := Lib.hid (HB0.out.trans (hB1.mono hs0))
      have hs1 := HB1.out.size
      have hlt := HR1.out.lt
      clear hB1 hg b0 b1 b2 b3 b4 b5 HCG
      have d0 := HR1.out.cell 0
      have d1 := HR1.out.cell 1
      have g0 := HR1.out.frozen 0
      have g1 := HR1.out.frozen 1
      simp only [List.getElem?_toArray, List.getElem?_cons_succ, List.getElem?_cons_zero] at d0 d1
      have HRF : Hid (Row (((w1.setCell ⟨w.heap.size + 1, 0, none⟩ (.int .i64 0)).setCell ⟨w.heap.size + 1, 1, none⟩ (.slice none 0 0)).alloc (.cells #[.pointer none] 107)) (w.heap.size + 1) 57 #[.int .i64 0, .slice none 0 0]) := by
        have := ((HR1.out.set 0 (.int .i64 0)).set 1 (.slice none 0 0)).alloc (.cells #[.pointer none] 107)
        show Row _ _ _ _
        simpa using this
      have HBF : Hid (Below w.heap.size w (((w1.setCell ⟨w.heap.size + 1, 0, none⟩ (.int .i64 0)).setCell ⟨w.heap.size + 1, 1, none⟩ (.slice none 0 0)).alloc (.cells #[.pointer none] 107))) := ((HB1.out.setCell (by show w.heap.size ≤ w.heap.size + 1; omega) _).setCell (by show w.heap.size ≤ w.heap.size + 1; omega) _).alloc (by simp; omega) _
      go_wp2
      generalize (((w1.setCell ⟨w.heap.size + 1, 0, none⟩ (.int .i64 0)).setCell ⟨w.heap.size + 1, 1, none⟩ (.slice none 0 0)).alloc (.cells #[.pointer none] 107)) = V at HRF HBF ⊢
      have p0 := HRF.out.cell 0
      have p1 := HRF.out.cell 1
      simp only [List.getElem?_toArray, List.getElem?_cons_succ, List.getElem?_cons_zero] at p0 p1
      exact bodyPost_ret (v := .tuple #[.agg #[.int .i64 0, .slice none 0 0], .bool false]) (by simp [results, Tryd.results44, go_sem, p0, p1]) rfl ⟨none, [], 0, by rw [HV.out.1, HV.out.2.1]; rfl, by rw [HV.out.2.2]; rfl, .inl rfl, Nat.le_refl _, HBF.out⟩
    · rw [hg] at hg'; cases hg'
  have HG : Hid (GoodBs b.say ∧ TokW b.t ws) := bP_is hg
  have HV : Hid (fcOk b.say ws = true ∧ fcN b.say ws = ws.length ∧ fcC b.say ws = fillC b.say ws ws.length (cellsN ws.length)) := by
    have h1 : fcOk b.say ws = true := hg
    exact ⟨h1, by unfold fcN; rw [h1]; rfl, by unfold fcC; rw [h1]; rfl⟩
  refine (callsIn_wide (n := 3)).1 ?_
  refine callsIn_of_wp_marks Tryd.func44 rfl trivial ?_ rfl
  simp only [Tryd.ntmps44, List.size_toArray, List.length_cons, List.length_nil, Nat.reduceAdd, Nat.reduceSub, Array.replicate_succ, Array.replicate_zero, List.push_toArray, List.append_toArray, List.nil_append, List.cons_append]
  have HCG2 : Hid (Calls Tryd.prog 93 #[(.agg #[.int .i64 b.n, .int .i64 b.t, .slice b.Ap b.P.length b.cp, .slice b.Ao b.O.length b.co, .slice b.Ae b.E.length b.ce, .slice b.Af b.F.length b.cf]), .slice Aw ws.length cw] ((w.alloc (.cells #[.int .i64 b.n, .int .i64 b.t, .slice b.Ap b.P.length b.cp, .slice b.Ao b.O.length b.co, .slice b.Ae b.E.length b.ce, .slice b.Af b.F.length b.cf] 55)).alloc (.cells #[.int .i64 0, .slice none 0 0] 57)) fun e w' => Below ((w.alloc (.cells #[.int .i64 b.n, .int .i64 b.t, .slice b.Ap b.P.length b.cp, .slice b.Ao b.O.length b.co, .slice b.Ae b.E.length b.ce, .slice b.Af b.F.length b.cf] 55)).alloc (.cells #[.int .i64 0, .slice none 0 0] 57)).heap.size ((w.alloc (.cells #[.int .i64 b.n, .int .i64 b.t, .slice b.Ap b.P.length b.cp, .slice b.Ao b.O.length b.co, .slice b.Ae b.E.length b.ce, .slice b.Af b.F.length b.cf] 55)).alloc (.cells #[.int .i64 0, .slice none 0 0] 57)) w' ∧ ∃ F N, e = .returned (.tuple #[.pointer (some ⟨F, 0, none⟩), .bool true]) ∧ IsLeast wayNull noS (bRules b.say.P b.say.O b.say.E) N ∧ FilC w' F b (tabF (DirB N b.say.P b.say.O)) Aw ws.length cw) :=
    HCG.out.mono fun e w' h => ⟨h.1, by
      rcases h.2 with h2 | ⟨_, F, N, _, h3, h4, h5⟩
      · rw [hg] at h2; cases h2.1
      · exact ⟨F, N, h3, h4, h5⟩⟩
  clear HCG hg
  have hn10 : ws.length ≤ 10 := HG.out.2.1
  have hn0 : (0 : Int) ≤ (ws.length : Int) := by omega
  have hn1 : (ws.length : Int) ≤ 10 := by omega
  gi_wp2_with (first
    | (refine ⟨trivial, ?_⟩
       gi_at_call 93
       refine (callsIn_wide.2 HCG2.out).mono ?_
       rintro e w1 ⟨hB1, F, N, rfl, hN, hFC⟩
       have HR1 := Lib.hid (HR4.out.below hB1 HR4.out.lt)
       have HB1 := Lib.hid (HB0.out.trans (hB1.mono hs0))
       have HN := Lib.hid hN
       have HFC := Lib.hid hFC
       clear hB1 hN hFC)
    | (refine ⟨trivial, ?_⟩
       gi_at_call 98
       refine (callsIn_wide.2 (emptyChart_any (ws.length : Int) _ hn0 hn1)).mono ?_
       rintro e w2 ⟨mm, hmm, rfl, hE, hB2⟩
       have HE := Lib.hid hE
       have HB2 := Lib.hid hB2
       have HMM := Lib.hid hmm
       clear hE hB2 hmm)
    | (refine ⟨trivial, ?_⟩
       gi_at_call 99
       refine (cellsOf_in _ (ws.length : Int) _).mono ?_
       rintro e w3 ⟨rfl, rfl⟩))
  have hsz1 := HB1.out.size
  have hg2 : w1.heap.size + 2 < w2.heap.size := by have := HE.out.lt; rw [World.size_alloc] at this; omega
  have hFl : F < w1.heap.size := HFC.out.2.1.1
  have HS1 : Hid (Below w1.heap.size w1 (w1.alloc (.cells #[.pointer (some ⟨F, 0, none⟩)] 107))) := (Below.refl _ _).alloc (Nat.le_refl _) _
  have HS2 : Hid (Below w2.heap.size w2 ((w2.alloc (.cells #[.int .i64 (ws.length : Int), .slice (some ⟨w1.heap.size + 1 + 1, 0, none⟩) mm mm] 57)).alloc (.cells #[.int .i64 (ws.length : Int)] 3))) := ((Below.refl _ _).alloc (Nat.le_refl _) _).alloc (by simp) _
  have HS12 : Hid (Below w1.heap.size w1 w2) := HS1.out.trans (HB2.out.mono HS1.out.size)
  have HS13 : Hid (Below w1.heap.size w1 ((w2.alloc (.cells #[.int .i64 (ws.length : Int), .slice (some ⟨w1.heap.size + 1 + 1, 0, none⟩) mm mm] 57)).alloc (.cells #[.int .i64 (ws.length : Int)] 3))) := HS12.out.trans (HS2.out.mono HS12.out.size)
  have HJ0 : Hid (FcJ w b Aw ws.length cw N F w1.heap.size w2.heap.size (w1.heap.size + 1 + 1) mm ws.length (w2.heap.size + 1 + 1) ((w2.alloc (.cells #[.int .i64 (ws.length : Int), .slice (some ⟨w1.heap.size + 1 + 1, 0, none⟩) mm mm] 57)).alloc (.cells #[.int .i64 (ws.length : Int)] 3)) (emptyL mm)) := by
    have hpc : (w1.alloc (.cells #[.pointer (some ⟨F, 0, none⟩)] 107)).cell? ⟨w1.heap.size, 0, none⟩ = some (.pointer (some ⟨F, 0, none⟩)) := by simp [go_sem]
    have hrg : Row w2 (w1.heap.size + 1 + 1) 22 (zL mm) := by have := HE.out; rwa [World.size_alloc] at this
    have hz : (w1.alloc (.cells #[.pointer (some ⟨F, 0, none⟩)] 107)).heap.size = w1.heap.size + 1 := by simp
    refine ⟨HB1.out.trans (HS13.out.mono hsz1), by simp, ⟨by omega, hFl, by omega, by omega, by omega⟩, ?_, (Row.new _ _ _).alloc _, HR1.out.below HS13.out HR1.out.lt, HFC.out.keep HS13.out hFl, emptyL_own (hrg.below HS2.out hrg.lt) (by omega), emptyL_len mm, by rw [emptyL_say HMM.out]; exact emptyC_good hn0 hn1⟩
    exact (HS2.out.cell (p := ⟨w1.heap.size, 0, none⟩) (by show w1.heap.size < _; omega)).trans ((HB2.out.cell (p := ⟨w1.heap.size, 0, none⟩) (by show w1.heap.size < _; omega)).trans hpc)
  have hnB : Row ((w2.alloc (.cells #[.int .i64 (ws.length : Int), .slice (some ⟨w1.heap.size + 1 + 1, 0, none⟩) mm mm] 57)).alloc (.cells #[.int .i64 (ws.length : Int)] 3)) (w2.heap.size + 1) 3 #[.int .i64 (ws.length : Int)] := by
    have h := Row.new (w2.alloc (.cells #[.int .i64 (ws.length : Int), .slice (some ⟨w1.heap.size + 1 + 1, 0, none⟩) mm mm] 57)) 3 #[.int .i64 (ws.length : Int)]
    rw [World.size_alloc] at h; exact h
  have hz3 : ((w2.alloc (.cells #[.int .i64 (ws.length : Int), .slice (some ⟨w1.heap.size + 1 + 1, 0, none⟩) mm mm] 57)).alloc (.cells #[.int .i64 (ws.length : Int)] 3)).heap.size = w2.heap.size + 1 + 1 := by simp
  generalize ((w2.alloc (.cells #[.int .i64 (ws.length : Int), .slice (some ⟨w1.heap.size + 1 + 1, 0, none⟩) mm mm] 57)).alloc (.cells #[.int .i64 (ws.length : Int)] 3)) = W3 at HJ0 hnB hz3 HS2 HS13 ⊢
  clear HS1 HS2 HS12 HS13 HCG2 HE HB2 HFC HR1 b0 b1 b2 b3 b4 b5 B0 HR4
  have HSK : Hid (∀ (V : World) (ls : List Li), FcJ w b Aw ws.length cw N F w1.heap.size w2.heap.size (w1.heap.size + 1 + 1) mm ws.length (w2.heap.size + 1 + 1) V ls →
      V.cell? ⟨w1.heap.size, 0, none⟩ = some (.pointer (some ⟨F, 0, none⟩)) ∧ V.cell? ⟨w2.heap.size, 0, none⟩ = some (.int .i64 (ws.length : Int)) ∧ V.cell? ⟨w2.heap.size, 1, none⟩ = some (.slice (some ⟨w1.heap.size + 1 + 1, 0, none⟩) mm mm)) := fun V ls h => by
    have e0 := h.cha.cell 0
    have e1 := h.cha.cell 1
    simp only [List.getElem?_toArray, List.getElem?_cons_succ, List.getElem?_cons_zero] at e0 e1
    exact ⟨h.box, e0, e1⟩
  refine wpIn_rangeFunc_ownF rfl (by omega) (gf := 135) (lb := #[.pointer (some ⟨w2.heap.size + 1, 0, none⟩)]) rfl trivial (enters_of Tryd.func135 (by kernel_rfl) rfl)
    (cells_stops 2 (by omega) ws.length hn10 (w2.heap.size + 1) W3 (by omega) hnB) KpB.trans' (fun W l o o' h1 h2 h3 h4 => KpB.put (N := W3.heap.size) (by omega) W l o o' h1 h2 h3 h4) (Below.refl _ _) (fun _ => rfl)
    (fun (pre : List (Spn ws.length)) V => ∃ ls, FcJ w b Aw ws.length cw N F w1.heap.size w2.heap.size (w1.heap.size + 1 + 1) mm ws.length (w2.heap.size + 1 + 1) V ls ∧ sayL ls = fillC b.say ws ws.length (pre.map Subtype.val))
    (fun _ _ _ => False)
    (fun s W V row hs hg hr => by obtain ⟨ls, h1, h2⟩ := hs; exact ⟨ls, h1.grown hg (fun r e => ⟨by have := (hr r e).1; omega, (hr r e).2⟩), h2⟩)
    (fun _ _ _ _ _ hs _ _ => hs)
    ⟨emptyL mm, HJ0.out, emptyL_say HMM.out⟩
    (fun x => { tmps := #[(.agg #[.int .i64 b.n, .int .i64 b.t, .slice b.Ap b.P.length b.cp, .slice b.Ao b.O.length b.co, .slice b.Ae b.E.length b.ce, .slice b.Af b.F.length b.cf]), .slice Aw ws.length cw, .pointer (some ⟨w.heap.size, 0, none⟩), undef, .pointer (some ⟨w.heap.size + 1, 0, none⟩), .bool false, .pointer (some ⟨w1.heap.size, 0, none⟩), .bool true, .pointer (some ⟨w2.heap.size, 0, none⟩), .int .i64 x.1.1, .int .i64 x.1.2,
      .tuple #[.pointer (some ⟨F, 0, none⟩), .bool true], (.agg #[.int .i64 b.n, .int .i64 b.t, .slice b.Ap b.P.length b.cp, .slice b.Ao b.O.length b.co, .slice b.Ae b.E.length b.ce, .slice b.Af b.F.length b.cf]), .slice Aw ws.length cw, .tuple #[.pointer (some ⟨F, 0, none⟩), .bool true], .pointer (some ⟨F, 0, none⟩), .bool true, .bool true, .bool false, undef, .slice Aw ws.length cw, .int .i64 (ws.length : Int),
      .agg #[.int .i64 (ws.length : Int), .slice (some ⟨w1.heap.size + 1 + 1, 0, none⟩) mm mm], .pointer (some ⟨w2.heap.size, 0, none⟩), .int .i64 (ws.length : Int), .func (.func 135) #[] #[.pointer (some ⟨w2.heap.size + 1, 0, none⟩)], .int .i64 x.1.1, .int .i64 x.1.2, undef, undef, undef, undef, undef, undef, undef, undef, undef, undef, undef, undef, undef, undef], defers := [] }) ?assign ?body ?done ?stop
  case assign =>
    intro l x W K hK
    gi_wp2
    exact hK
  case body =>
    rintro l pre x W ⟨ls, hJ, hS⟩ hlen
    have hsW : w2.heap.size + 1 + 1 ≤ W.heap.size := hJ.siz
    have HJ : Hid (FcJ w b Aw ws.length cw N F w1.heap.size w2.heap.size (w1.heap.size + 1 + 1) mm ws.length (w2.heap.size + 1 + 1) W.drew ls) := hJ.keep (by go_grown)
    have HS := Lib.hid hS
    have hno := noC_lt x.2 hJ.good.2.1
    obtain ⟨k, hk⟩ := Int.eq_ofNat_of_zero_le hno.1
    have HKK := Lib.hid hk
    have hkl : k < ls.length := by rw [sayL_len] at hno; omega
    have hkm : k < mm := by rw [← hJ.len]; exact hkl
    have HNO := Lib.hid (fun V => cellNo_any (ws.length : Int) x.1.1 x.1.2 V x.2)
    rw [hk] at HNO
    have HCE : Hid (Calls Tryd.prog 96 #[.pointer (some ⟨F, 0, none⟩), .agg #[.int .i64 (ws.length : Int), .slice (some ⟨w1.heap.size + 1 + 1, 0, none⟩) mm mm], .int .i64 x.1.1, .int .i64 x.1.2] W.drew (GaveCell W.drew (DirB N b.say.P b.say.O) (cellBase b.say ws (sayL ls) x.1.1 x.1.2 (DirB N b.say.P b.say.O)))) := by
      have h := cell_any F b N (ws.length : Int) x.1.1 x.1.2 (some ⟨w1.heap.size + 1 + 1, 0, none⟩) Aw ls ws mm cw W.drew HJ.out.fil ((HX.out.keep HJ.out.bel).more HJ.out.bel.size) HG.out.1 HM.out rfl HJ.out.own.lls HJ.out.good ((HW.out.keep HJ.out.bel).more HJ.out.bel.size) HG.out.2 x.2
      rw [hJ.len] at h
      exact h
    clear hS hno hk hJ
    refine wpIn_block ?_
    -- BODYA
    refine wpIn_region_round (S := fun V => V.cell? ⟨w1.heap.size, 0, none⟩ = some (.pointer (some ⟨F, 0, none⟩)) ∧ V.cell? ⟨w2.heap.size, 0, none⟩ = some (.int .i64 (ws.length : Int)) ∧ V.cell? ⟨w2.heap.size, 1, none⟩ = some (.slice (some ⟨w1.heap.size + 1 + 1, 0, none⟩) mm mm)) (by kernel_rfl) (by kernel_rfl) (by rintro ⟨_, _, h⟩; exact h) (HSK.out _ _ HJ.out) (fun hHeld => ?_)
    refine take_at (i := 0) (d := 28) (v := ?_) rfl rfl (by kernel_rfl) (by kernel_rfl) (by kernel_rfl) (fun _ _ _ h => h) (Or.inl ⟨by rfl, ?_⟩) (by assumption) ?_
    rotate_left
    · (intro wz hSw; (try dsimp only at hSw); go_simp; try rfl)
    try simp only [Act.put, List.setIfInBounds_toArray, List.set_cons_zero, List.set_cons_succ]
    refine take_at (i := 1) (d := 29) (v := ?_) rfl rfl (by kernel_rfl) (by kernel_rfl) (by kernel_rfl) (fun _ _ _ h => h) (Or.inl ⟨by rfl, ?_⟩) (by assumption) ?_
    rotate_left
    · (intro wz hSw; (try dsimp only at hSw); go_simp; try rfl)
    try simp only [Act.put, List.setIfInBounds_toArray, List.set_cons_zero, List.set_cons_succ]
    refine take_at (i := 2) (d := 30) (v := ?_) rfl rfl (by kernel_rfl) (by kernel_rfl) (by kernel_rfl) (fun _ _ _ h => h) (Or.inl ⟨by rfl, ?_⟩) (by assumption) ?_
    rotate_left
    · (intro wz hSw; (try dsimp only at hSw); go_simp; try rfl)
    try simp only [Act.put, List.setIfInBounds_toArray, List.set_cons_zero, List.set_cons_succ]
    refine take_at (i := 3) (d := 31) (v := ?_) rfl rfl (by kernel_rfl) (by kernel_rfl) (by kernel_rfl) (fun _ _ _ h => h) (Or.inl ⟨by rfl, ?_⟩) (by assumption) ?_
    rotate_left
    · (intro wz hSw; (try dsimp only at hSw); go_simp; try rfl)
    try simp only [Act.put, List.setIfInBounds_toArray, List.set_cons_zero, List.set_cons_succ]
    refine take_at (i := 4) (d := 32) (v := ?_) rfl rfl (by kernel_rfl) (by kernel_rfl) (by kernel_rfl) (fun _ _ _ h => h) (Or.inl ⟨by rfl, ?_⟩) (by assumption) ?_
    rotate_left
    · (intro wz hSw; (try dsimp only at hSw); go_simp; try rfl)
    try simp only [Act.put, List.setIfInBounds_toArray, List.set_cons_zero, List.set_cons_succ]
    refine take_at (i := 5) (d := 33) (v := ?_) rfl rfl (by kernel_rfl) (by kernel_rfl) (by kernel_rfl) (fun _ _ _ h => h) (Or.inl ⟨by rfl, ?_⟩) (by assumption) ?_
    rotate_left
    · (intro wz hSw; (try dsimp only at hSw); go_simp; try rfl)
    try simp only [Act.put, List.setIfInBounds_toArray, List.set_cons_zero, List.set_cons_succ]
    refine take_at (i := 7) (d := 35) (v := ?_) rfl rfl (by kernel_rfl) (by kernel_rfl) (by kernel_rfl) (fun _ _ _ h => h) (Or.inl ⟨by rfl, ?_⟩) (by assumption) ?_
    rotate_left
    · (intro wz hSw; (try dsimp only at hSw); go_simp; try rfl)
    try simp only [Act.put, List.setIfInBounds_toArray, List.set_cons_zero, List.set_cons_succ]
    refine take_at (i := 8) (d := 36) (v := ?_) rfl rfl (by kernel_rfl) (by kernel_rfl) (by kernel_rfl) (fun _ _ _ h => h) (Or.inl ⟨by rfl, ?_⟩) (by assumption) ?_
    rotate_left
    · (intro wz hSw; (try dsimp only at hSw); go_simp; try rfl)
    try simp only [Act.put, List.setIfInBounds_toArray, List.set_cons_zero, List.set_cons_succ]
    refine take_at (i := 9) (d := 37) (v := ?_) rfl rfl (by kernel_rfl) (by kernel_rfl) (by kernel_rfl) (fun _ _ _ h => h) (Or.inl ⟨by rfl, ?_⟩) (by assumption) ?_
    rotate_left
    · (intro wz hSw; (try dsimp only at hSw); go_simp; try rfl)
    try simp only [Act.put, List.setIfInBounds_toArray, List.set_cons_zero, List.set_cons_succ]
    refine take_at (i := 10) (d := 38) (v := ?_) rfl rfl (by kernel_rfl) (by kernel_rfl) (by kernel_rfl) (fun _ _ _ h => h) (Or.inl ⟨by rfl, ?_⟩) (by assumption) ?_
    rotate_left
    · (intro wz hSw; (try dsimp only at hSw); go_simp; try rfl)
    try simp only [Act.put, List.setIfInBounds_toArray, List.set_cons_zero, List.set_cons_succ]
    refine wpAnyH_ready (rs := [6]) (by kernel_rfl) (by simp) (AllReadyH.cons rfl (fun K hK => ?_) AllReadyH.nil)
    go_simp
    with_reducible refine (HNO.out _).mono ?_
    rintro e w6 ⟨rfl, hw6⟩
    replace hw6 := hw6.symm
    subst hw6
    refine hK.out _ _ (HSK.out _ _ HJ.out) (fun hHeld => ?_)
    clear hK K
    try simp only [Act.put, List.setIfInBounds_toArray, List.set_cons_zero, List.set_cons_succ]
    refine wpAnyH_ready (rs := [11]) (by kernel_rfl) (by simp) (AllReadyH.cons rfl (fun K hK => ?_) AllReadyH.nil)
    go_simp
    with_reducible refine HCE.out.mono ?_
    rintro e w5 hce
    obtain ⟨S, hfS, hU, A5, c5, rfl, hc5, hO5, hB5⟩ := hce
    have HP5 : Hid (PCell b.say ws (sayL ls) x.1.1 x.1.2 (upK S 40)) := pcell_of hfS ⟨N, HN.out, hU⟩
    have HB5 := Lib.hid hB5
    have HO5 := Lib.hid hO5
    have HC5 := Lib.hid hc5
    have HJ5 := Lib.hid (HJ.out.keep HB5.out)
    clear hfS hU hc5 hO5 hB5
    refine hK.out _ _ (HSK.out _ _ HJ5.out) (fun hHeld => ?_)
    clear hK K
    try simp only [Act.put, List.setIfInBounds_toArray, List.set_cons_zero, List.set_cons_succ]
    have HJ6 := Lib.hid (HJ.out.put HB5.out HC5.out HO5.out HP5.out.good hkl)
    obtain ⟨⟨x0, y0⟩, y1, -⟩ := HJ5.out.own.row hkl
    refine take_at (i := 12) (d := 40) (v := ?_) rfl rfl (by kernel_rfl) (by kernel_rfl) (by kernel_rfl) (fun _ _ _ h => h) (Or.inl ⟨by rfl, ?_⟩) (by assumption) ?_
    rotate_left
    · (intro wz hSw; (try dsimp only at hSw); go_simp; try rfl)
    try simp only [Act.put, List.setIfInBounds_toArray, List.set_cons_zero, List.set_cons_succ]
    refine wpAnyH_ready (rs := [13]) (by kernel_rfl) (by simp) (AllReadyH.cons rfl (fun K hK => ?_) AllReadyH.nil)
    go_simp
    refine hK.out _ _ (HSK.out _ _ HJ6.out) (fun hHeld => ?_)
    clear hK K
    try simp only [Act.put, List.setIfInBounds_toArray, List.set_cons_zero, List.set_cons_succ]
    refine wpAnyH_done (by kernel_rfl) ?_ _
    have HKO : KeepsOthers W (w5.setCell ⟨w1.heap.size + 1 + 1, k, none⟩ (.slice A5 (upK S 40).length c5)) := (KeepsOthers.drew W).trans ((keepsO HB5.out).trans (KeepsOthers.setCell _ _ _))
    have HKB : KpB (w2.heap.size + 1) W (w5.setCell ⟨w1.heap.size + 1 + 1, k, none⟩ (.slice A5 (upK S 40).length c5)) := by
      have h1 : w5.heap[w2.heap.size + 1]? = W.heap[w2.heap.size + 1]? := HB5.out.block (w2.heap.size + 1) (by show _ < W.heap.size; omega)
      exact (Below.heap_setCell _ _ _ _ (by show w2.heap.size + 1 ≠ w1.heap.size + 1 + 1; omega)).trans h1
    exact ⟨HKO, HKB, _, HJ6.out, by rw [sayL_set, List.map_append, List.map_singleton, fillC_snoc, ← HS.out]; unfold putC; rw [cellV_is HP5.out, HKK.out, Int.toNat_natCast]⟩
    -- ENDA
  case done =>
    rintro D ys W hD hys ⟨ls, hJ, hS⟩ hK
    have hd0 := hJ.cha.cell 0
    have hd1 := hJ.cha.cell 1
    have hf0 := hJ.res.frozen 0
    have hf1 := hJ.res.frozen 1
    have hz0 := hJ.res.cell 0
    have hz1 := hJ.res.cell 1
    simp only [List.getElem?_toArray, List.getElem?_cons_succ, List.getElem?_cons_zero] at hd0 hd1 hz0 hz1
    rw [hys] at hS
    have HJD := Lib.hid hJ
    have HSD := Lib.hid hS
    clear hJ hS hys
    have hww : w.heap.size ≤ w1.heap.size := hsz1
    have hV : Row ((W.setCell ⟨w.heap.size + 1, 0, none⟩ (.int .i64 (ws.length : Int))).setCell ⟨w.heap.size + 1, 1, none⟩ (.slice (some ⟨w1.heap.size + 1 + 1, 0, none⟩) mm mm)) (w.heap.size + 1) 57 #[.int .i64 (ws.length : Int), .slice (some ⟨w1.heap.size + 1 + 1, 0, none⟩) mm mm] := by
      have := (HJD.out.res.set 0 (.int .i64 (ws.length : Int))).set 1 (.slice (some ⟨w1.heap.size + 1 + 1, 0, none⟩) mm mm)
      simpa using this
    have hO : OwnL ((W.setCell ⟨w.heap.size + 1, 0, none⟩ (.int .i64 (ws.length : Int))).setCell ⟨w.heap.size + 1, 1, none⟩ (.slice (some ⟨w1.heap.size + 1 + 1, 0, none⟩) mm mm)) (w.heap.size + 2) (some ⟨w1.heap.size + 1 + 1, 0, none⟩) ls := (HJD.out.own.low (p := ⟨w.heap.size + 1, 0, none⟩) (by show w.heap.size + 1 < _; omega) _).low (p := ⟨w.heap.size + 1, 1, none⟩) (by show w.heap.size + 1 < _; omega) _
    have hBV : Below w.heap.size w ((W.setCell ⟨w.heap.size + 1, 0, none⟩ (.int .i64 (ws.length : Int))).setCell ⟨w.heap.size + 1, 1, none⟩ (.slice (some ⟨w1.heap.size + 1 + 1, 0, none⟩) mm mm)) := (HJD.out.bel.setCell (by show w.heap.size ≤ w.heap.size + 1; omega) _).setCell (by show w.heap.size ≤ w.heap.size + 1; omega) _
    have hKV : ((W.setCell ⟨w.heap.size + 1, 0, none⟩ (.int .i64 (ws.length : Int))).setCell ⟨w.heap.size + 1, 1, none⟩ (.slice (some ⟨w1.heap.size + 1 + 1, 0, none⟩) mm mm)).heap[D]? = some (.deferred (some [])) :=
      (Below.heap_setCell _ _ _ _ (by show D ≠ w.heap.size + 1; omega)).trans ((Below.heap_setCell _ _ _ _ (by show D ≠ w.heap.size + 1; omega)).trans hK)
    gi_wp2
    generalize ((W.setCell ⟨w.heap.size + 1, 0, none⟩ (.int .i64 (ws.length : Int))).setCell ⟨w.heap.size + 1, 1, none⟩ (.slice (some ⟨w1.heap.size + 1 + 1, 0, none⟩) mm mm)) = V at hV hO hBV hKV ⊢
    have hgr := grownBy_putObj' V D (.deferred none)
    have hrow : ∀ r, some D = some r → ∃ o : Obj, V.heap[r]? = some o ∧ o.isCells = false := fun r e => by
      injection e with e
      subst e
      exact ⟨_, hKV, rfl⟩
    have hU := row_grownO hV hgr hrow
    have hOU := hO.grownO hgr hrow
    have hBU : Below w.heap.size w (V.putObj D (.deferred none)) := hBV.trans (belowK_b (w := w) (Nat.le_refl _) V D _ _ (by omega) hKV rfl rfl)
    have p0 := hU.cell 0
    have p1 := hU.cell 1
    simp only [List.getElem?_toArray, List.getElem?_cons_succ, List.getElem?_cons_zero] at p0 p1
    refine ⟨by simp, .inl ⟨_, _, rfl, run_takeDeferred hKV, ?_⟩⟩
    generalize V.putObj D (.deferred none) = U at hU hOU hBU p0 p1 ⊢
    refine ⟨.tuple #[.agg #[.int .i64 (ws.length : Int), .slice (some ⟨w1.heap.size + 1 + 1, 0, none⟩) mm mm], .bool true], by simp [results, Tryd.results44, go_sem, p0, p1], ?_⟩
    exact ⟨some ⟨w1.heap.size + 1 + 1, 0, none⟩, ls, mm, by rw [HV.out.1, HV.out.2.1, HJD.out.len], by rw [HSD.out, HV.out.2.2], hOU.lower (by omega), by rw [HJD.out.len]; exact Nat.le_refl _, hBU⟩
  case stop =>
    rintro D c pre W _ _ h _
    exact h.elim

end Go.Proofs.YtfbpcdmpkbjifaaDoor

/- The program's slices.Contains. -/

namespace Go.Proofs.YtfbpcdmpkbjifaaDoor
open Go.RowKit

def hasN (xs : List Int) (x : Int) : Bool := decide (x ∈ xs)
theorem has_stepN {xs : List Int} {k : Nat} {x : Int} (hk : k < xs.length) (h : xs[k] ≠ x) (H : ∀ j : Nat, j < k → xs[j]? ≠ some x) : ∀ j : Nat, j < k + 1 → xs[j]? ≠ some x := by
  intro j hj
  by_cases e : j = k
  · subst e; rw [List.getElem?_eq_getElem hk]; intro h'; injection h' with h'; exact h h'
  · exact H j (by omega)
theorem hasN_t {xs : List Int} {k : Nat} {x : Int} (hk : k < xs.length) (h : xs[k] = x) : hasN xs x = true := decide_eq_true (by rw [← h]; exact List.getElem_mem hk)
theorem hasN_f {xs : List Int} {k : Nat} {x : Int} (hk : ¬ k < xs.length) (H : ∀ j : Nat, j < k → xs[j]? ≠ some x) : hasN xs x = false :=
  decide_eq_false fun h => by
    obtain ⟨j, hj⟩ := List.mem_iff_getElem?.1 h
    have := (List.getElem?_eq_some_iff.1 hj).1
    exact H j (by omega) hj

def IdxN (w : World) (xs : List Int) (x : Int) (e : Ending) (w' : World) : Prop := ∃ i : Int, e = .returned (.int .i64 i) ∧ (0 ≤ i ↔ hasN xs x = true) ∧ Below w.heap.size w w'

set_option maxHeartbeats 400000 in
theorem indexN_any (A : Option Addr) (xs : List Int) (c : Nat) (x : Int) (w : World) (hx : Ints w w.heap.size A xs) (h1 : xs.length ≤ 1048576) :
    Calls Tryd.prog 140 #[.slice A xs.length c, .int .i64 x] w (IdxN w xs x) := by
  have HX := Lib.hid hx; clear hx
  go_enter Tryd.func140, Tryd.ntmps140
  go_wp2
  go_loopw [8] (fun i wr => ∃ (k : Nat), k ≤ xs.length ∧ i = .int .i64 k ∧ Below w.heap.size w wr ∧ Hid (∀ j : Nat, j < k → xs[j]? ≠ some x)) (fun i _ => xs.length - (intOf i).toNat)
  case atStart => exact ⟨0, by omega, rfl, Below.refl _ _, fun j h => absurd h (by omega)⟩
  case round =>
    obtain ⟨k, hk, rfl, hB, H⟩ := hrel
    by_cases hlt : k < xs.length
    · obtain ⟨b, o, rfl, hb, c1⟩ := (HX.out.keep hB).at_ hlt
      by_cases he : xs[k] = x
      · have HE := Lib.hid (hasN_t hlt he)
        have ht := beq_t he.symm
        clear he
        go_wp2
        go_ret
        exact ⟨_, rfl, ⟨fun _ => HE.out, fun _ => by omega⟩, hB⟩
      · have HE := Lib.hid he
        have ht := beq_f (Ne.symm he)
        clear he
        go_wp2
        go_roundw
        case rel => exact ⟨k + 1, by omega, by go_num, hB, has_stepN hlt HE.out H.out⟩
        case measure => simp [intOf]; omega
    · have HE := Lib.hid (hasN_f hlt H.out)
      go_wp2
      go_ret
      exact ⟨_, rfl, ⟨fun h => absurd h (by omega), fun h => by rw [HE.out] at h; cases h⟩, hB⟩

set_option maxHeartbeats 400000 in
theorem containsN_any (A : Option Addr) (xs : List Int) (c : Nat) (x : Int) (w : World) (hx : Ints w w.heap.size A xs) (h1 : xs.length ≤ 1048576) :
    Calls Tryd.prog 104 #[.slice A xs.length c, .int .i64 x] w fun e w' => e = .returned (.bool (hasN xs x)) ∧ Below w.heap.size w w' := by
  have HX := Lib.hid hx; clear hx
  go_enter Tryd.func104, Tryd.ntmps104
  go_wp2_with fail
  refine (indexN_any _ _ _ _ _ HX.out h1).mono ?_
  rintro e w1 ⟨i, rfl, hi, hB⟩
  have HI := Lib.hid hi; clear hi
  by_cases h0 : 0 ≤ i
  · have HE : Hid (hasN xs x = true) := HI.out.1 h0
    go_wp2
    go_ret
    exact ⟨ret_bool HE.out.symm, hB⟩
  · have HE : Hid (hasN xs x = false) := by
      show _ = _
      cases e : hasN xs x
      · rfl
      · exact absurd (HI.out.2 e) h0
    go_wp2
    go_ret
    exact ⟨ret_bool (by rw [HE.out]; simpa using h0), hB⟩

end Go.Proofs.YtfbpcdmpkbjifaaDoor
