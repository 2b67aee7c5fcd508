/- The reference's table of what derives what in memory, and what it tells of symbols. -/
import Derived.Test.YtkghblgiojidgaaDoorDerT
import Derived.Test.YtkghblgiojidgaaDoorFinT
import Derived.Test.YtkghblgiojidgaaDoorWord
namespace Go.Proofs.YtkghblgiojidgaaDoor
open Go.RowKit

noncomputable def bD (P : Prop) : Bool := @decide P (Classical.propDecidable P)
theorem bD_t {P : Prop} (h : P) : bD P = true := @decide_eq_true P (Classical.propDecidable P) h
theorem bD_f {P : Prop} (h : ¬ P) : bD P = false := @decide_eq_false P (Classical.propDecidable P) h
theorem bD_iff {P : Prop} : bD P = true ↔ P := ⟨fun h => @of_decide_eq_true P (Classical.propDecidable P) h, bD_t⟩
theorem bD_eq {P : Prop} {b : Bool} (h : b = true ↔ P) : bD P = b := by
  cases b
  · exact bD_f fun k => by have := h.2 k; cases this
  · exact bD_t (h.1 rfl)

/-- The first k rows of the table T, behind block S: N of them, of M cells. -/
def TabR (w : World) (S N M k : Nat) (T : Nat → Nat → Bool) : Prop :=
  (∃ cs, Row w S 85 cs ∧ cs.size = N ∧ ∀ a : Nat, a < k → cs[a]? = some (.slice (some ⟨S + 1 + a, 0, none⟩) M M)) ∧ ∀ a : Nat, a < k → Row w (S + 1 + a) 4 (bools M fun c => T a c.toNat)
theorem TabR.lt {w : World} {S N M k : Nat} {T : Nat → Nat → Bool} (h : TabR w S N M k T) : S + 1 + k ≤ w.heap.size := by
  obtain ⟨⟨_, h2, _⟩, h4⟩ := h
  have := h2.lt
  cases k with
  | zero => omega
  | succ k => have := (h4 k (by omega)).lt; omega
theorem TabR.keep {w w' : World} {S N M k B : Nat} {T : Nat → Nat → Bool} (h : TabR w S N M k T) (hb : Below B w w') (hB : S + 1 + k ≤ B) : TabR w' S N M k T := by
  obtain ⟨⟨cs, h1, h1'⟩, h3⟩ := h
  exact ⟨⟨cs, h1.below hb (by omega), h1'⟩, fun a ha => (h3 a ha).below hb (by omega)⟩
theorem TabR.row {w : World} {S N M k : Nat} {T : Nat → Nat → Bool} (h : TabR w S N M k T) {a : Nat} (ha : a < k) : w.cell? ⟨S, a, none⟩ = some (.slice (some ⟨S + 1 + a, 0, none⟩) M M) := by
  obtain ⟨⟨cs, h1, _, h1'⟩, _⟩ := h
  exact (h1.cell a).trans (h1' a ha)
theorem TabR.at_ {w : World} {S N M k : Nat} {T : Nat → Nat → Bool} (h : TabR w S N M k T) {a c : Nat} (ha : a < k) (hc : c < M) : w.cell? ⟨S + 1 + a, c, none⟩ = some (.bool (T a c)) ∧ w.frozen? ⟨S + 1 + a, c, none⟩ = false := by
  have h3 := h.2 a ha
  refine ⟨(h3.cell c).trans ((bools_get hc).trans ?_), h3.frozen c⟩
  rw [Int.toNat_natCast]
theorem TabR.put {w : World} {S N M k : Nat} {T : Nat → Nat → Bool} (h : TabR w S N M k T) {a c : Nat} (ha : a < k) : TabR (w.setCell ⟨S + 1 + a, c, none⟩ (.bool true)) S N M k (setB T a c) := by
  obtain ⟨⟨cs, h1, h1'⟩, h3⟩ := h
  refine ⟨⟨cs, h1.far (by simp; omega) _, h1'⟩, fun b hb => ?_⟩
  by_cases e : b = a
  · subst e
    have h4 := (h3 b hb).set c (.bool true)
    rw [bools_set] at h4
    have e3 : bools M (fun y : Int => setB T b c b y.toNat) = bools M (fun y : Int => if y = (c : Int) then true else T b y.toNat) := by
      unfold bools
      congr 1
      funext i
      unfold setB
      dsimp only
      by_cases e4 : i.val = c
      · rw [if_pos ⟨rfl, by simpa using e4⟩, if_pos (by omega)]
      · rw [if_neg (fun h => e4 (by simpa using h.2)), if_neg (by omega)]
    rw [e3]
    exact h4
  · have h4 := (h3 b hb).far (p := ⟨S + 1 + a, c, none⟩) (by simp; omega) (.bool true)
    have e3 : (fun y : Int => setB T a c b y.toNat) = fun y : Int => T b y.toNat := by
      funext y
      unfold setB
      rw [if_neg (fun h => e h.1)]
    rw [e3]
    exact h4

set_option maxRecDepth 20000 in
set_option maxHeartbeats 1000000 in
theorem l4Symbol_any (S N : Nat) (T : Nat → Nat → Bool) (Aw : Option Addr) (cw : Nat) (ws : List Int) (x : Int) (i j : Nat) (v : World) (hT : TabR v S N ((ws.length + 1) * (ws.length + 1)) N T) (hW : Ints v v.heap.size Aw ws) (hw : ws.length ≤ 10) (hi : i ≤ ws.length) (hj : j ≤ ws.length) (hx : -10 ≤ x ∧ x < N) :
    Calls Tryd.prog 110 #[.slice (some ⟨S, 0, none⟩) N N, .slice Aw ws.length cw, .int .i64 x, .int .i64 (i : Int), .int .i64 (j : Int)] v fun e v' => e = .returned (.bool (bD (SymD (DT ws.length T) ws x i j))) ∧ v' = v := by
  obtain ⟨x0, x1⟩ := hx
  by_cases h0 : 0 ≤ x
  · obtain ⟨y, rfl⟩ := Int.eq_ofNat_of_zero_le h0
    have hyN : y < N := by omega
    have c1 := hT.row hyN
    obtain ⟨c2, _⟩ := hT.at_ hyN (cell_lt hi hj)
    have HV : Hid (bD (SymD (DT ws.length T) ws y i j) = T y (i * (ws.length + 1) + j)) := bD_eq ⟨fun h => .inr ⟨h0, h0, hi, hj, h⟩, fun h => by rcases h with h | h; omega; exact h.2.2.2.2⟩
    have hq : (i : Int) * ((ws.length : Int) + 1) + (j : Int) = ((i * (ws.length + 1) + j : Nat) : Int) := by simp
    have hl := cell_lt hi hj
    have h121 := cell_121 hw hl
    have hp : (i : Int) * ((ws.length : Int) + 1) = ((i * (ws.length + 1) : Nat) : Int) := by simp
    have hb0 : (i : Int) * ((ws.length : Int) + 1) ≤ 121 := by omega
    have hb1 : 0 ≤ (i : Int) * ((ws.length : Int) + 1) := by omega
    generalize hqq : i * (ws.length + 1) + j = q at *
    generalize hM : (ws.length + 1) * (ws.length + 1) = M at *
    clear hqq hM hp h0 hT hW
    go_enter Tryd.func110, Tryd.ntmps110
    go_wp2
    go_ret
    exact ⟨ret_bool HV.out.symm, rfl⟩
  · have hxn : x < 0 := by omega
    by_cases he : j = i + 1
    · subst he
      obtain ⟨p, o, rfl, hp, c1⟩ := hW.at_ (show i < ws.length by omega)
      have HV : Hid (bD (SymD (DT ws.length T) ws x i (i + 1)) = (ws[i] == -1 - x)) := bD_eq (by
        rw [beq_iff_eq]
        exact ⟨fun h => .inl ⟨hxn, rfl, by rw [List.getElem?_eq_getElem (by omega), h]⟩, fun h => by
          rcases h with h | h
          · exact (List.getElem?_eq_some_iff.1 h.2.2).2
          · omega⟩)
      have hje : (((i + 1 : Nat) : Int) == (i : Int) + 1) = true := by rw [beq_iff_eq]; omega
      clear hT hW
      go_enter Tryd.func110, Tryd.ntmps110
      go_wp2
      go_ret
      exact ⟨ret_bool HV.out.symm, rfl⟩
    · have HV : Hid (bD (SymD (DT ws.length T) ws x i j) = false) := bD_f (by rintro (h | h); exact he h.2.1; omega)
      have hje : ((j : Int) == (i : Int) + 1) = false := by rw [beq_eq_false_iff_ne]; omega
      clear hT hW
      go_enter Tryd.func110, Tryd.ntmps110
      go_wp2
      go_ret
      exact ⟨ret_bool HV.out.symm, rfl⟩

theorem Ints.tail {w : World} {B : Nat} {b o : Nat} {x : Int} {xs : List Int} (h : Ints w B (some ⟨b, o, none⟩) (x :: xs)) : Ints w B (some ⟨b, o + 1, none⟩) xs := fun _ => by
  obtain ⟨b', o', e, hb, hc⟩ := h (by simp)
  injection e with e
  injection e with e1 e2
  subst e1 e2
  refine ⟨b, o + 1, rfl, hb, fun k y hk => ?_⟩
  have := hc (k + 1) y (by simpa using hk)
  rwa [show o + 1 + k = o + (k + 1) by omega]

set_option maxRecDepth 20000 in
set_option maxHeartbeats 1000000 in
theorem l4Fits_any (S N : Nat) (T : Nat → Nat → Bool) (Aw : Option Addr) (cw : Nat) (ws : List Int) (v : World) (hT : TabR v S N ((ws.length + 1) * (ws.length + 1)) N T) (hW : Ints v v.heap.size Aw ws) (hw : ws.length ≤ 10) (hD : InD ws.length (DT ws.length T)) (j : Nat) (hj : j ≤ ws.length) :
    ∀ (xs : List Int) (Ar : Option Addr) (cr i : Nat), Ints v v.heap.size Ar xs → xs.length ≤ cr → xs.length ≤ 4 → (∀ x ∈ xs, -10 ≤ x ∧ x < N) → i ≤ ws.length →
    Calls Tryd.prog 68 #[.slice (some ⟨S, 0, none⟩) N N, .slice Aw ws.length cw, .slice Ar xs.length cr, .int .i64 (i : Int), .int .i64 (j : Int)] v fun e v' => e = .returned (.bool (bD (SeqD (DT ws.length T) ws xs i j))) ∧ v' = v := by
  have HT := Lib.hid hT; clear hT
  have HW := Lib.hid hW; clear hW
  have HD := Lib.hid hD; clear hD
  intro xs
  induction xs with
  | nil =>
    intro Ar cr i _ _ _ _ hi
    have HV : Hid (bD (SeqD (DT ws.length T) ws [] i j) = ((i : Int) == (j : Int))) := bD_eq (by rw [beq_iff_eq]; exact ⟨fun h => by show i = j; omega, fun h => by have h' : i = j := h; omega⟩)
    go_enter Tryd.func68, Tryd.ntmps68
    go_wp2
    go_ret
    exact ⟨ret_bool HV.out.symm, rfl⟩
  | cons x xs ih =>
    intro Ar cr i hr hcr hl4 hx hi
    have IH := Lib.hid ih; clear ih
    obtain ⟨b, o, hA, hb, c1⟩ := hr.at_ (k := 0) (by simp)
    subst hA
    have HR := Lib.hid hr; clear hr
    have HX := Lib.hid hx; clear hx
    simp only [List.getElem_cons_zero, Nat.add_zero] at c1
    simp only [List.length_cons] at hcr hl4 ⊢
    have HC1 := Lib.hid (fun m hm => l4Symbol_any S N T Aw cw ws x i m v HT.out HW.out hw hi hm (HX.out x (by simp)))
    have HC2 : Hid (∀ m : Nat, m ≤ ws.length → Calls Tryd.prog 68 #[.slice (some ⟨S, 0, none⟩) N N, .slice Aw ws.length cw, .slice (some ⟨b, o + 1, none⟩) xs.length (cr - 1), .int .i64 (m : Int), .int .i64 (j : Int)] v fun e v' => e = .returned (.bool (bD (SeqD (DT ws.length T) ws xs m j))) ∧ v' = v) := fun m hm => IH.out _ _ _ HR.out.tail (by omega) (by omega) (fun y hy => HX.out y (by simp [hy])) hm
    have HC3 : Hid (xs.length = 0 → ∀ m : Nat, m ≤ ws.length → Calls Tryd.prog 68 #[.slice (some ⟨S, 0, none⟩) N N, .slice Aw ws.length cw, .slice (some ⟨b, o, none⟩) xs.length 0, .int .i64 (m : Int), .int .i64 (j : Int)] v fun e v' => e = .returned (.bool (bD (SeqD (DT ws.length T) ws xs m j))) ∧ v' = v) := fun h0 m hm => IH.out _ _ _ (fun h => by omega) (by omega) (by omega) (fun y hy => HX.out y (by simp [hy])) hm
    clear HT HW IH HR HX
    obtain ⟨L, hL⟩ : ∃ L, L = xs.length + 1 := ⟨_, rfl⟩
    have hL1 : xs.length = L - 1 := by omega
    rw [← hL] at hcr hl4 ⊢
    rw [hL1] at HC2 HC3
    have hL0 : 1 ≤ L := by omega
    have hLz : ((L : Int) == 0) = false := by rw [beq_eq_false_iff_ne]; omega
    clear hL hL1
    have hcc : cr = 1 ∨ (1 < cr ∧ ¬ cr ≤ 1 ∧ ¬ cr - 1 = 0) := by omega
    rcases hcc with rfl | ⟨hc1, hc2, hc3⟩
    case' inl =>
      have HC := Lib.hid (HC3.out (by omega))
      clear HC2 HC3 hcr
    case' inr =>
      have HC := Lib.hid HC2.out
      clear HC2 HC3 hcr
    all_goals
      go_enter Tryd.func68, Tryd.ntmps68
      go_wp2
      go_loopw [11] (fun n wr => ∃ m : Nat, i ≤ m ∧ n = .int .i64 m ∧ wr = v ∧ m ≤ ws.length + 1 ∧ Hid (∀ m', i ≤ m' → m' < m → m' ≤ j → ¬ (SymD (DT ws.length T) ws x i m' ∧ SeqD (DT ws.length T) ws xs m' j))) (fun n _ => ws.length + 1 - (intOf n).toNat)
      case atStart => exact ⟨i, Nat.le_refl _, rfl, rfl, by omega, fun m' h1 h2 => absurd h1 (by omega)⟩
      case round =>
        obtain ⟨m, hm, rfl, hwr, hm2, H⟩ := hrel
        subst hwr
        by_cases hmj : m ≤ j
        · cases hs : bD (SymD (DT ws.length T) ws x i m)
          · have HN : Hid (∀ m', i ≤ m' → m' < m + 1 → m' ≤ j → ¬ (SymD (DT ws.length T) ws x i m' ∧ SeqD (DT ws.length T) ws xs m' j)) := fun m' h1 h2 h3 => by
              by_cases e : m' = m
              · subst e; exact fun h => by rw [bD_t h.1] at hs; cases hs
              · exact H.out m' h1 (by omega) h3
            have HS := Lib.hid hs; clear hs
            go_wp2_with fail
            refine (HC1.out m (by omega)).mono ?_
            rintro e w1 ⟨rfl, rfl⟩
            rw [HS.out]
            go_wp2
            go_roundw
            case rel => exact ⟨m + 1, by omega, by go_num, trivial, by omega, HN.out⟩
            case measure => simp [intOf]; omega
          · have HS := Lib.hid hs
            have hS := bD_iff.1 hs
            clear hs
            cases hq : bD (SeqD (DT ws.length T) ws xs m j)
            · have HN : Hid (∀ m', i ≤ m' → m' < m + 1 → m' ≤ j → ¬ (SymD (DT ws.length T) ws x i m' ∧ SeqD (DT ws.length T) ws xs m' j)) := fun m' h1 h2 h3 => by
                by_cases e : m' = m
                · subst e; exact fun h => by rw [bD_t h.2] at hq; cases hq
                · exact H.out m' h1 (by omega) h3
              have HQ := Lib.hid hq; clear hq hS
              go_wp2_with fail
              refine (HC1.out m (by omega)).mono ?_
              rintro e w1 ⟨rfl, rfl⟩
              rw [HS.out]
              go_wp2_with fail
              refine (HC.out m (by omega)).mono ?_
              rintro e w2 ⟨rfl, rfl⟩
              rw [HQ.out]
              go_wp2
              go_roundw
              case rel => exact ⟨m + 1, by omega, by go_num, trivial, by omega, HN.out⟩
              case measure => simp [intOf]; omega
            · have HE : Hid (bD (SeqD (DT ws.length T) ws (x :: xs) i j) = true) := bD_t ⟨m, hS, bD_iff.1 hq⟩
              have HQ := Lib.hid hq; clear hq hS
              go_wp2_with fail
              refine (HC1.out m (by omega)).mono ?_
              rintro e w1 ⟨rfl, rfl⟩
              rw [HS.out]
              go_wp2_with fail
              refine (HC.out m (by omega)).mono ?_
              rintro e w2 ⟨rfl, rfl⟩
              rw [HQ.out]
              go_wp2
              go_ret
              exact ⟨ret_bool HE.out.symm, rfl⟩
        · have HE : Hid (bD (SeqD (DT ws.length T) ws (x :: xs) i j) = false) := bD_f (seqD_cons_no HD.out fun m' h1 h2 => H.out m' h1 (by omega) h2)
          go_wp2
          go_ret
          exact ⟨ret_bool HE.out.symm, rfl⟩

end Go.Proofs.YtkghblgiojidgaaDoor
