/- Plain mathematics of chapter 8: steps that are those of a run, told in two ways: by what each hand has left to do, lengths never falling; and by where each hand is. -/
import Derived.Test.YtfbpcdmpkbjifaaDoorWB03
import Derived.Test.YtfbpcdmpkbjifaaDoorWB01
import Derived.Test.YtfbpcdmpkbjifaaDoorWB02
import Derived.Test.YtfbpcdmpkbjifaaDoorWB04
import Derived.Lib.QuietBelow

namespace Go.Proofs.YtfbpcdmpkbjifaaDoor
open Go.RowKit

theorem Dn.ext' {a b : Dn} (h : a.h = b.h ∧ a.k = b.k ∧ a.f = b.f ∧ a.t = b.t) : a = b := by
  cases a; cases b; simp only at h; obtain ⟨rfl, rfl, rfl, rfl⟩ := h; rfl
instance : DecidableEq Dn := fun a b => decidable_of_iff (a.h = b.h ∧ a.k = b.k ∧ a.f = b.f ∧ a.t = b.t) ⟨Dn.ext', fun h => by subst h; exact ⟨rfl, rfl, rfl, rfl⟩⟩

/-- What a hand does at a length. -/
def levL (n hs h l : Int) : List Dn := (partL n hs h l).map (fun f => ⟨h, 1, f, f + l⟩) ++ [⟨h, 2, 0, l⟩]
theorem levL_len (n hs h l : Int) : (levL n hs h l).length = (partL n hs h l).length + 1 := by simp [levL]
theorem levL_long {n hs h l : Int} {d : Dn} (hd : d ∈ levL n hs h l) : d.t - d.f = l := by
  unfold levL at hd
  rcases List.mem_append.1 hd with hd | hd
  · obtain ⟨f, _, rfl⟩ := List.mem_map.1 hd
    simp only; omega
  · rw [List.mem_singleton] at hd; subst hd; simp only; omega
/-- What a hand does at the last m lengths. -/
def restL (n hs h : Int) : Nat → List Dn
  | 0 => []
  | m + 1 => levL n hs h (n - m) ++ restL n hs h m

/-- Where a hand is: its length, how many cells of it are done, whether it waits. -/
structure Hd where
  long : Int
  done : Nat
  waits : Bool

/-- What a hand has left to do, with m lengths left. -/
def remL (n hs h : Int) (m : Nat) (x : Hd) : List Dn :=
  match m with
  | 0 => []
  | m + 1 => (if x.waits then [] else (levL n hs h (n - m)).drop x.done) ++ restL n hs h m
theorem remL_fresh (n hs h l : Int) (m : Nat) : remL n hs h m ⟨l, 0, false⟩ = restL n hs h m := by cases m <;> simp [remL, restL]

/-- A step is taken off what its hand has left. -/
def takeO (left : List (List Dn)) (d : Dn) : Option (List (List Dn)) :=
  if 0 ≤ d.h ∧ d.h < left.length then
    match left.getD d.h.toNat [] with
    | [] => none
    | e :: r => if e = d then some (left.set d.h.toNat r) else none
  else none
/-- All steps can be taken, and the lengths never fall. -/
def runL : List (List Dn) → Int → List Dn → Bool
  | _, _, [] => true
  | left, long, d :: r =>
    match takeO left d with
    | none => false
    | some left' => if d.t - d.f < long then false else runL left' (d.t - d.f) r
def sumL (left : List (List Dn)) : Nat := (left.map List.length).sum

theorem sumL_set : ∀ {left : List (List Dn)} {k : Nat} {e : Dn} {r : List Dn}, left[k]? = some (e :: r) → sumL left = sumL (left.set k r) + 1
  | [], k, e, r, h => by simp at h
  | a :: l, 0, e, r, h => by simp at h; subst h; simp [sumL]; omega
  | a :: l, k + 1, e, r, h => by
    have ih := sumL_set (left := l) (k := k) (e := e) (r := r) (by simpa using h)
    simp only [sumL, List.set_cons_succ, List.map_cons, List.sum_cons] at ih ⊢
    omega
theorem sumL_pos : ∀ {left : List (List Dn)} {k : Nat} {e : Dn} {r : List Dn}, left[k]? = some (e :: r) → 0 < sumL left := fun h => by rw [sumL_set h]; omega
theorem sumL_zero : ∀ {left : List (List Dn)}, (∀ (k : Nat) (l : List Dn), left[k]? = some l → l = []) → sumL left = 0
  | [], _ => rfl
  | a :: l, h => by
    have h0 := h 0 a rfl
    have ih := sumL_zero (left := l) fun k x hx => h (k + 1) x (by simpa using hx)
    subst h0
    simpa [sumL] using ih

theorem takeO_some {left left' : List (List Dn)} {d : Dn} (h : takeO left d = some left') : ∃ k r, d.h = (k : Nat) ∧ left[k]? = some (d :: r) ∧ left' = left.set k r := by
  unfold takeO at h
  split at h
  · rename_i hin
    obtain ⟨k, hk⟩ := Int.eq_ofNat_of_zero_le hin.1
    rw [hk, Int.toNat_natCast] at h
    have hlt : k < left.length := by omega
    rw [List.getD_eq_getElem?_getD, List.getElem?_eq_getElem hlt, Option.getD_some] at h
    cases hx : left[k] with
    | nil => rw [hx] at h; cases h
    | cons e r =>
      rw [hx] at h
      simp only at h
      split at h
      · rename_i he
        subst he
        injection h with h
        exact ⟨k, r, hk, by rw [List.getElem?_eq_getElem hlt, hx], h.symm⟩
      · cases h
  · cases h
theorem takeO_of {left : List (List Dn)} {d : Dn} {k : Nat} {r : List Dn} (hk : d.h = (k : Nat)) (h : left[k]? = some (d :: r)) : takeO left d = some (left.set k r) := by
  have hlt := (List.getElem?_eq_some_iff.1 h).1
  unfold takeO
  rw [if_pos (by omega), hk, Int.toNat_natCast, List.getD_eq_getElem?_getD, h, Option.getD_some]
  simp

theorem doomed : ∀ (r : List Dn) (left : List (List Dn)) (long : Int), (∃ (k : Nat) (e : Dn) (t : List Dn), left[k]? = some (e :: t) ∧ e.t - e.f < long) → (runL left long r && decide (sumL left = r.length)) = false
  | [], left, long, ⟨k, e, t, h, _⟩ => by
    have := sumL_pos h
    rw [decide_eq_false (by simp; omega), Bool.and_false]
  | d :: r, left, long, ⟨k, e, t, h, hl⟩ => by
    rw [runL]
    cases ht : takeO left d with
    | none => rfl
    | some left' =>
      simp only
      by_cases hlt : d.t - d.f < long
      · rw [if_pos hlt]; rfl
      · rw [if_neg hlt]
        obtain ⟨j, q, hj, hq, rfl⟩ := takeO_some ht
        have hne : j ≠ k := fun e1 => by
          subst e1
          rw [hq] at h
          injection h with h
          injection h with h _
          subst h
          exact hlt hl
        have ih := doomed r (left.set j q) (d.t - d.f) ⟨k, e, t, by rw [List.getElem?_set_ne hne]; exact h, by omega⟩
        rw [show decide (sumL left = (d :: r).length) = decide (sumL (left.set j q) = r.length) from decide_eq_decide.2 (by rw [sumL_set hq, List.length_cons]; omega)]
        exact ih

/-- A hand has a step to do. -/
def readyB (n : Int) (x : Hd) : Bool := decide (x.long ≤ n) && !x.waits
/-- Its next step. -/
def stepOf (n hs h : Int) (x : Hd) : Dn := (levL n hs h x.long).getD x.done default
/-- Where it is behind it. -/
def stepH (n hs h : Int) (x : Hd) : Hd := if x.done < (partL n hs h x.long).length then ⟨x.long, x.done + 1, x.waits⟩ else ⟨x.long, x.done, true⟩
/-- All go on where all wait. -/
def goH (hd : List Hd) : List Hd := if hd.all (·.waits) then hd.map (fun x => ⟨x.long + 1, 0, false⟩) else hd
instance : Inhabited Hd := ⟨⟨0, 0, false⟩⟩
def specRun (n hs : Int) : List Hd → List Dn → Bool
  | hd, [] => !(hd.any (readyB n))
  | hd, d :: r =>
    if (0 ≤ d.h ∧ d.h < hd.length) ∧ readyB n (hd.getD d.h.toNat default) = true then
      if stepOf n hs d.h (hd.getD d.h.toNat default) = d then specRun n hs (goH (hd.set d.h.toNat (stepH n hs d.h (hd.getD d.h.toNat default)))) r else false
    else false

/-- Both tellings fit. -/
structure Fits (n hs : Int) (m : Nat) (hd : List Hd) (left : List (List Dn)) (long : Int) : Prop where
  len : left.length = hd.length
  lev : (m : Int) ≤ n
  each : ∀ (k : Nat) (x : Hd), hd[k]? = some x → x.long = n + 1 - m ∧ x.done ≤ (partL n hs k x.long).length ∧ left[k]? = some (remL n hs k m x)
  some' : ∃ (k : Nat) (x : Hd), hd[k]? = some x ∧ x.waits = false
  low : long ≤ n + 1 - m

theorem remL_head {n hs h : Int} {m : Nat} {x : Hd} (hw : x.waits = false) (hl : x.long = n + 1 - (m + 1 : Nat)) (hd : x.done ≤ (partL n hs h x.long).length) :
    remL n hs h (m + 1) x = stepOf n hs h x :: remL n hs h (m + 1) (stepH n hs h x) := by
  have e : n - (m : Int) = x.long := by omega
  have hlt : x.done < (levL n hs h x.long).length := by rw [levL_len]; omega
  unfold remL
  simp only
  rw [hw, e, if_neg (by simp), List.drop_eq_getElem_cons hlt, List.cons_append]
  have e1 : stepOf n hs h x = (levL n hs h x.long)[x.done] := by unfold stepOf; rw [List.getD_eq_getElem?_getD, List.getElem?_eq_getElem hlt]; rfl
  rw [e1]
  congr 2
  unfold stepH
  split
  · simp [hw]
  · rename_i hn
    simp only [if_true]
    exact List.drop_of_length_le (by rw [levL_len]; omega)
theorem stepOf_long {n hs h : Int} {x : Hd} (hd : x.done ≤ (partL n hs h x.long).length) : (stepOf n hs h x).t - (stepOf n hs h x).f = x.long := by
  have hlt : x.done < (levL n hs h x.long).length := by rw [levL_len]; omega
  unfold stepOf
  rw [List.getD_eq_getElem?_getD, List.getElem?_eq_getElem hlt, Option.getD_some]
  exact levL_long (List.getElem_mem hlt)

theorem getD_of {hd : List Hd} {k : Nat} {x : Hd} (h : hd[k]? = some x) : hd.getD k default = x := by rw [List.getD_eq_getElem?_getD, h]; rfl

theorem run_same (n hs : Int) : ∀ (r : List Dn) (m : Nat) (hd : List Hd) (left : List (List Dn)) (long : Int), Fits n hs m hd left long → specRun n hs hd r = (runL left long r && decide (sumL left = r.length))
  | [], m, hd, left, long, H => by
    obtain ⟨k, x, hk, hw⟩ := H.some'
    obtain ⟨h1, h2, h3⟩ := H.each k x hk
    rw [specRun, runL, Bool.true_and]
    cases m with
    | zero =>
      rw [decide_eq_true]
      · rw [Bool.not_eq_true', List.any_eq_false]
        intro y hy
        obtain ⟨j, hj⟩ := List.mem_iff_getElem?.1 hy
        have := (H.each j y hj).1
        simp [readyB]; omega
      · refine sumL_zero fun j l hl => ?_
        have hj : j < hd.length := by rw [← H.len]; exact (List.getElem?_eq_some_iff.1 hl).1
        have := (H.each j _ (List.getElem?_eq_getElem hj)).2.2
        rw [hl] at this
        injection this
    | succ m =>
      rw [remL_head hw h1 h2] at h3
      rw [decide_eq_false (by have := sumL_pos h3; simp; omega), Bool.not_eq_false', List.any_eq_true]
      exact ⟨x, List.mem_of_getElem? hk, by have := H.lev; simp [readyB, hw]; omega⟩
  | d :: r, m, hd, left, long, H => by
    rw [specRun, runL]
    by_cases hin : 0 ≤ d.h ∧ d.h < hd.length
    · obtain ⟨k, hk⟩ := Int.eq_ofNat_of_zero_le hin.1
      have hlt : k < hd.length := by omega
      have hx := List.getElem?_eq_getElem hlt
      generalize hd[k] = x at hx
      obtain ⟨h1, h2, h3⟩ := H.each k x hx
      rw [hk, Int.toNat_natCast, getD_of hx]
      cases m with
      | zero =>
        rw [if_neg (by simp [readyB]; omega)]
        have : takeO left d = none := by
          unfold takeO
          rw [if_pos (by rw [H.len]; exact hin), hk, Int.toNat_natCast, List.getD_eq_getElem?_getD, h3]
          rfl
        rw [this]
        rfl
      | succ m =>
        cases hw : x.waits
        · rw [if_pos ⟨by omega, by have := H.lev; simp [readyB, hw]; omega⟩]
          rw [remL_head hw h1 h2] at h3
          by_cases he : stepOf n hs k x = d
          · rw [if_pos he]
            rw [he] at h3
            rw [takeO_of hk h3]
            simp only
            have hl := stepOf_long h2
            rw [he] at hl
            have hlow := H.low
            rw [if_neg (by omega), show decide (sumL left = (d :: r).length) = decide (sumL (left.set k (remL n hs k (m + 1) (stepH n hs k x))) = r.length) from decide_eq_decide.2 (by rw [sumL_set h3, List.length_cons]; omega)]
            have hlx : (stepH n hs k x).long = x.long := by unfold stepH; split <;> rfl
            have hdx : (stepH n hs k x).done ≤ (partL n hs k x.long).length := by unfold stepH; split <;> simp <;> omega
            have each' : ∀ (j : Nat) (y : Hd), (hd.set k (stepH n hs k x))[j]? = some y → y.long = n + 1 - (m + 1 : Nat) ∧ y.done ≤ (partL n hs j y.long).length ∧ (left.set k (remL n hs k (m + 1) (stepH n hs k x)))[j]? = some (remL n hs j (m + 1) y) := by
              intro j y hy
              by_cases e : k = j
              · subst e
                rw [List.getElem?_set_self hlt] at hy
                injection hy with hy
                subst hy
                refine ⟨hlx.trans h1, by rw [hlx]; exact hdx, ?_⟩
                rw [List.getElem?_set_self (by rw [H.len]; exact hlt)]
              · rw [List.getElem?_set_ne e] at hy ⊢
                exact H.each j y hy
            have hlen' : (left.set k (remL n hs k (m + 1) (stepH n hs k x))).length = (hd.set k (stepH n hs k x)).length := by rw [List.length_set, List.length_set, H.len]
            unfold goH
            by_cases hall : (hd.set k (stepH n hs k x)).all (·.waits) = true
            · rw [if_pos hall]
              refine run_same n hs r m _ _ _ ⟨by rw [List.length_map]; exact hlen', by have := H.lev; omega, fun j y hy => ?_, ?_, by omega⟩
              · rw [List.getElem?_map] at hy
                cases hz : (hd.set k (stepH n hs k x))[j]? with
                | none => rw [hz] at hy; cases hy
                | some z =>
                  rw [hz] at hy
                  injection hy with hy
                  subst hy
                  obtain ⟨z1, z2, z3⟩ := each' j z hz
                  have hzw : z.waits = true := List.all_eq_true.1 hall z (List.mem_of_getElem? hz)
                  refine ⟨by simp only; omega, Nat.zero_le _, ?_⟩
                  rw [z3, remL_fresh]
                  simp [remL, hzw]
              · refine ⟨k, _, by rw [List.getElem?_map, List.getElem?_set_self hlt]; rfl, rfl⟩
            · rw [if_neg hall]
              refine run_same n hs r (m + 1) _ _ _ ⟨hlen', H.lev, each', ?_, by omega⟩
              rw [List.all_eq_true] at hall
              obtain ⟨y, hy⟩ := Classical.not_forall.1 hall
              obtain ⟨hy1, hy2⟩ := Classical.not_imp.1 hy
              obtain ⟨j, hj⟩ := List.mem_iff_getElem?.1 hy1
              exact ⟨j, y, hj, by simpa using hy2⟩
          · rw [if_neg he]
            have : takeO left d = none := by
              cases ht : takeO left d with
              | none => rfl
              | some l' =>
                obtain ⟨j, q, hj, hq, _⟩ := takeO_some ht
                obtain rfl : j = k := by omega
                rw [h3] at hq
                injection hq with hq
                injection hq with hq _
                exact absurd hq he
            rw [this]
            rfl
        · rw [if_neg (by simp [readyB, hw])]
          cases ht : takeO left d with
          | none => rfl
          | some left' =>
            simp only
            by_cases hfall : d.t - d.f < long
            · rw [if_pos hfall]; rfl
            · rw [if_neg hfall]
              obtain ⟨j, q, hj, hq, rfl⟩ := takeO_some ht
              obtain rfl : j = k := by omega
              rw [show decide (sumL left = (d :: r).length) = decide (sumL (left.set j q) = r.length) from decide_eq_decide.2 (by rw [sumL_set hq, List.length_cons]; omega)]
              rw [h3] at hq
              injection hq with hq
              simp only [remL, hw, if_true, List.nil_append] at hq
              cases m with
              | zero => simp [restL] at hq
              | succ m =>
                have hdl : d.t - d.f = n - m := by
                  rw [restL] at hq
                  have hd0 : (levL n hs j (n - m))[0]? = some d := by
                    have := congrArg (fun l => l[0]?) hq
                    simp only [List.getElem?_cons_zero] at this
                    rw [List.getElem?_append_left (by rw [levL_len]; omega)] at this
                    exact this
                  exact levL_long (List.mem_of_getElem? hd0)
                obtain ⟨i, y, hi, hyw⟩ := H.some'
                obtain ⟨y1, y2, y3⟩ := H.each i y hi
                rw [remL_head hyw y1 y2] at y3
                have hne : j ≠ i := fun e => by subst e; rw [hx] at hi; injection hi with hi; subst hi; rw [hw] at hyw; cases hyw
                exact (doomed r _ _ ⟨i, _, _, by rw [List.getElem?_set_ne hne]; exact y3, by rw [stepOf_long y2, hdl, y1]; omega⟩).symm
    · rw [if_neg (fun h => hin h.1)]
      have : takeO left d = none := by unfold takeO; rw [if_neg (by rw [H.len]; exact hin)]
      rw [this]
      rfl

/-- What all hands have to do. -/
def startL (n hs : Int) : List (List Dn) := (List.range hs.toNat).map fun k : Nat => restL n hs k n.toNat
/-- Where all hands begin. -/
def startH (hs : Int) : List Hd := List.replicate hs.toNat ⟨1, 0, false⟩
theorem start_fits {n hs : Int} (h0 : 0 ≤ n) (h1 : 1 ≤ hs) : Fits n hs n.toNat (startH hs) (startL n hs) 0 := by
  refine ⟨by simp [startH, startL], by omega, fun k x hx => ?_, ?_, by omega⟩
  · unfold startH at hx
    obtain ⟨hk, hx⟩ := List.getElem?_eq_some_iff.1 hx
    rw [List.getElem_replicate] at hx
    subst hx
    rw [List.length_replicate] at hk
    refine ⟨by simp only; omega, Nat.zero_le _, ?_⟩
    rw [remL_fresh, startL, List.getElem?_map, List.getElem?_range hk]
    rfl
  · refine ⟨0, ⟨1, 0, false⟩, ?_, rfl⟩
    unfold startH
    rw [List.getElem?_replicate, if_pos (by omega)]
/-- Whether steps are those of a run. -/
def waveV (n hs : Int) (ds : List Dn) : Bool := runL (startL n hs) 0 ds && decide ((ds.length : Int) = stN n hs)
theorem start_sum {n hs : Int} (h0 : 0 ≤ n) (h1 : n ≤ 10) (h2 : 1 ≤ hs) (h3 : hs ≤ 4) : (sumL (startL n hs) : Int) = stN n hs := by
  rcases n11 h0 h1 with rfl | rfl | rfl | rfl | rfl | rfl | rfl | rfl | rfl | rfl | rfl <;>
    (rcases (show hs = 1 ∨ hs = 2 ∨ hs = 3 ∨ hs = 4 by omega) with rfl | rfl | rfl | rfl <;> decide +kernel)
theorem wave_same {n hs : Int} (h0 : 0 ≤ n) (h1 : n ≤ 10) (h2 : 1 ≤ hs) (h3 : hs ≤ 4) (ds : List Dn) : specRun n hs (startH hs) ds = waveV n hs ds := by
  rw [run_same n hs ds _ _ _ _ (start_fits h0 h2), waveV]
  congr 1
  refine decide_eq_decide.2 ?_
  rw [← start_sum h0 h1 h2 h3]
  omega

end Go.Proofs.YtfbpcdmpkbjifaaDoor

/- What the laws' counter, copy, comparison and marks answer of a list of steps. -/

namespace Go.Proofs.YtfbpcdmpkbjifaaDoor
open Go.RowKit

theorem Tryd.infoDone : (Tryd.prog.info? 88).map (fun i => (i.zero, i.size, i.bytes)) = some (some (.agg #[.int .i64 0, .int .i64 0, .int .i64 0, .int .i64 0]), 4, 32) := by kernel_rfl

def zD (n : Nat) : Array Value := madeCells #[.int .i64 0, .int .i64 0, .int .i64 0, .int .i64 0] (n * 4)
theorem zD_size (n : Nat) : (zD n).size = n * 4 := size_madeCells _ _

theorem make_dones (n : Nat) (hn : n ≤ 1048576) (w : World) :
    (Instr.makeSlice 35 (.int .i64 (n : Int)) (.int .i64 (n : Int))).run Tryd.prog w = .ok (.slice (some ⟨w.heap.size, 0, none⟩) n n) (w.alloc (.cells (zD n) 88)) := by
  obtain ⟨i, hi, hz, hs, hb⟩ := info_of Tryd.infoDone
  have h := run_make (P := Tryd.prog) w 35 88 i _ Tryd.underlying35 hi hz .i64 .i64 n n (by omega) (by omega) (by rw [hb]; omega) (by omega)
  rw [hs] at h
  simpa [zD, Value.cells] using h

set_option maxHeartbeats 400000 in
theorem szDoneS_any (A : Option Addr) (n c : Nat) (L : Int) (w : World) (hn : n ≤ maxLen) (h0 : 0 ≤ L) (h1 : L ≤ 1048576) :
    Calls Tryd.prog 19 #[.slice A n c, .int .i64 L] w fun e w' => e = .returned (.int .i64 (szI n L)) ∧ w = w' := by
  unfold maxLen at hn
  by_cases h : L - n < 0
  · have hs : Hid (szI n L = -1) := by show szI n L = -1; unfold szI; rw [if_pos h]
    go_enter Tryd.func19, Tryd.ntmps19
    go_wp2
    go_ret
    exact ⟨by rw [hs.out]; rfl, rfl⟩
  · have hs : Hid (szI n L = L - n) := by show szI n L = L - n; unfold szI; rw [if_neg h]
    go_enter Tryd.func19, Tryd.ntmps19
    go_wp2
    go_ret
    exact ⟨by rw [hs.out]; rfl, rfl⟩

set_option maxHeartbeats 400000 in
theorem toDone_any (h k f t : Int) (w : World) :
    Calls Tryd.prog 72 #[.agg #[.int .i64 h, .int .i64 k, .int .i64 f, .int .i64 t]] w fun e w' => e = .returned (.agg #[.int .i64 h, .int .i64 k, .int .i64 f, .int .i64 t]) ∧ Below w.heap.size w w' := by
  go_enter Tryd.func72, Tryd.ntmps72
  go_wp2
  refine bodyPost_ret (v := .agg #[.int .i64 h, .int .i64 k, .int .i64 f, .int .i64 t]) (by simp [results, Tryd.results72, go_sem]) rfl ⟨rfl, ?_⟩
  go_grown

theorem copied4 {ds : List Dn} {cs : Array Value} {k : Nat} (hlt : k < ds.length) (hs : cs.size = ds.length * 4) (h : ∀ (j : Nat) (x : Int), j < k * 4 → (flatD ds)[j]? = some x → cs[j]? = some (.int .i64 x)) :
    ∀ (j : Nat) (x : Int), j < (k + 1) * 4 → (flatD ds)[j]? = some x → ((((cs.setIfInBounds (k * 4) (.int .i64 ds[k].h)).setIfInBounds (k * 4 + 1) (.int .i64 ds[k].k)).setIfInBounds (k * 4 + 2) (.int .i64 ds[k].f)).setIfInBounds (k * 4 + 3) (.int .i64 ds[k].t))[j]? = some (.int .i64 x) := by
  intro j x hj hx
  obtain ⟨h0, h1, h2, h3⟩ := flatD_at hlt
  simp only [Array.getElem?_setIfInBounds, Array.size_setIfInBounds]
  by_cases e3 : k * 4 + 3 = j
  · subst e3; rw [h3] at hx; rw [if_pos rfl, if_pos (by omega)]; simpa using hx
  rw [if_neg e3]
  by_cases e2 : k * 4 + 2 = j
  · subst e2; rw [h2] at hx; rw [if_pos rfl, if_pos (by omega)]; simpa using hx
  rw [if_neg e2]
  by_cases e1 : k * 4 + 1 = j
  · subst e1; rw [h1] at hx; rw [if_pos rfl, if_pos (by omega)]; simpa using hx
  rw [if_neg e1]
  by_cases e0 : k * 4 = j
  · subst e0; rw [h0] at hx; rw [if_pos rfl, if_pos (by omega)]; simpa using hx
  rw [if_neg e0]
  exact h j x (by omega) hx

/-- A new slice of steps that reads as ds; nothing older has turned. -/
def GaveD (w : World) (ds : List Dn) (e : Ending) (w' : World) : Prop :=
  ∃ A c, e = .returned (.slice A ds.length c) ∧ ds.length ≤ c ∧ OwnD w' w.heap.size A ds ∧ Below w.heap.size w w'

set_option maxHeartbeats 1000000 in
theorem toDoneS_any (A : Option Addr) (ds : List Dn) (c : Nat) (w : World) (hr : Dos w w.heap.size A ds) (hn : ds.length ≤ 1048576) :
    Calls Tryd.prog 21 #[.slice A ds.length c] w (GaveD w ds) := by
  have hmk := make_dones ds.length hn
  have HR := Lib.hid hr; clear hr
  go_enter Tryd.func21, Tryd.ntmps21
  go_wp2
  go_loopw [4] (fun i wr => ∃ (k : Nat) (cs : Array Value), k ≤ ds.length ∧ i = .int .i64 k ∧ w.heap.size < wr.heap.size ∧ Below w.heap.size w wr ∧ Hid (Row wr w.heap.size 88 cs ∧ cs.size = ds.length * 4 ∧ ∀ (j : Nat) (x : Int), j < k * 4 → (flatD ds)[j]? = some x → cs[j]? = some (.int .i64 x))) (fun i _ => ds.length - (intOf i).toNat)
  case atStart => exact ⟨0, zD ds.length, by omega, rfl, by simp, (Below.refl _ _).alloc (Nat.le_refl _) _, Row.new _ _ _, zD_size _, fun j x h => absurd h (by omega)⟩
  case round =>
    obtain ⟨k, cs, hk, rfl, hsz, hB, H⟩ := hrel
    clear hmk
    by_cases hlt : k < ds.length
    · obtain ⟨b, o, rfl, hb, c0, c1, c2, c3⟩ := (HR.out.keep hB).at_ hlt
      go_wp2_with fail
      refine (toDone_any _ _ _ _ _).mono ?_
      rintro e w1 ⟨rfl, hB1⟩
      have hr1 := H.out.1.below hB1 hsz
      have hcz := H.out.2.1
      obtain ⟨x0, d0⟩ : ∃ x0, w1.cell? ⟨w.heap.size, k * 4, none⟩ = some x0 := ⟨_, (hr1.cell (k * 4)).trans (Array.getElem?_eq_getElem (by omega))⟩
      obtain ⟨x1, d1⟩ : ∃ x1, w1.cell? ⟨w.heap.size, k * 4 + 1, none⟩ = some x1 := ⟨_, (hr1.cell (k * 4 + 1)).trans (Array.getElem?_eq_getElem (by omega))⟩
      obtain ⟨x2, d2⟩ : ∃ x2, w1.cell? ⟨w.heap.size, k * 4 + 2, none⟩ = some x2 := ⟨_, (hr1.cell (k * 4 + 2)).trans (Array.getElem?_eq_getElem (by omega))⟩
      obtain ⟨x3, d3⟩ : ∃ x3, w1.cell? ⟨w.heap.size, k * 4 + 3, none⟩ = some x3 := ⟨_, (hr1.cell (k * 4 + 3)).trans (Array.getElem?_eq_getElem (by omega))⟩
      have f0 := hr1.frozen (k * 4)
      have f1 := hr1.frozen (k * 4 + 1)
      have f2 := hr1.frozen (k * 4 + 2)
      have f3 := hr1.frozen (k * 4 + 3)
      have HRW := Lib.hid hr1
      have HCZ := Lib.hid hcz
      have HB1 := Lib.hid hB1; clear hB1
      clear hr1 hcz
      go_wp2
      go_roundw
      case rel => exact ⟨k + 1, _, by omega, by go_num, by have := HB1.out.size; simp; omega, ((((hB.trans (HB1.out.mono hB.size)).setCell (Nat.le_refl _) _).setCell (Nat.le_refl _) _).setCell (Nat.le_refl _) _).setCell (Nat.le_refl _) _, ((((HRW.out.set _ _).set _ _).set _ _).set _ _), by simp only [Array.size_setIfInBounds]; exact HCZ.out, copied4 hlt HCZ.out H.out.2.2⟩
      case measure => simp [intOf]; omega
    · go_wp2
      go_ret
      exact ⟨some ⟨w.heap.size, 0, none⟩, ds.length, rfl, Nat.le_refl _, .inr ⟨w.heap.size, cs, rfl, Nat.le_refl _, H.out.1, fun j x hj => H.out.2.2 j x (by have := (List.getElem?_eq_some_iff.1 hj).1; rw [flatD_len] at this; omega) hj⟩, hB⟩

set_option maxHeartbeats 400000 in
theorem eqDone_same (h k f t : Int) (w : World) :
    Calls Tryd.prog 76 #[.agg #[.int .i64 h, .int .i64 k, .int .i64 f, .int .i64 t], .agg #[.int .i64 h, .int .i64 k, .int .i64 f, .int .i64 t]] w fun e w' => e = .returned (.bool true) ∧ Below w.heap.size w w' := by
  have h0 : (h != h) = false := by simp
  have h1 : (k != k) = false := by simp
  have h2 : (f != f) = false := by simp
  have h3 : (t != t) = false := by simp
  go_enter Tryd.func76, Tryd.ntmps76
  go_wp2
  go_ret
  exact ⟨rfl, by go_grown⟩

set_option maxRecDepth 10000 in
set_option maxHeartbeats 1000000 in
theorem eqDoneS_same (A A' : Option Addr) (ds : List Dn) (c c' : Nat) (w : World) (hx : Dos w w.heap.size A ds) (hy : Dos w w.heap.size A' ds) (h1 : ds.length ≤ 1048576) :
    Calls Tryd.prog 23 #[.slice A ds.length c, .slice A' ds.length c'] w fun e w' => e = .returned (.bool true) ∧ Below w.heap.size w w' := by
  have HX := Lib.hid hx; clear hx
  have HY := Lib.hid hy; clear hy
  have hd : ((ds.length : Int) != (ds.length : Int)) = false := by simp
  go_enter Tryd.func23, Tryd.ntmps23
  go_wp2
  go_loopw [5] (fun i wr => ∃ (k : Nat), k ≤ ds.length ∧ i = .int .i64 k ∧ Below w.heap.size w wr) (fun i _ => ds.length - (intOf i).toNat)
  case atStart => exact ⟨0, by omega, rfl, Below.refl _ _⟩
  case round =>
    obtain ⟨k, hk, rfl, hB⟩ := hrel
    by_cases hlt : k < ds.length
    · obtain ⟨b, o, rfl, hb, c0, c1, c2, c3⟩ := (HX.out.keep hB).at_ hlt
      obtain ⟨b', o', rfl, hb', e0, e1, e2, e3⟩ := (HY.out.keep hB).at_ hlt
      go_wp2
      go_still_tail 8, (by kernel_rfl)
      change wpList _ _ _ _ _ wr.drew
      go_wp2_with fail
      refine (eqDone_same _ _ _ _ _).mono ?_
      rintro e w1 ⟨rfl, hB1⟩
      have hB2 : Below w.heap.size w w1 := hB.trans (Below.trans (by go_grown) (hB1.mono hB.size))
      clear hB1
      go_wp2
      go_roundw
      case rel => exact ⟨k + 1, by omega, by go_num, hB2⟩
      case measure => simp [intOf]; omega
    · go_wp2
      go_ret
      exact ⟨rfl, hB⟩

/-- The blocks of one slice of steps that is not empty. -/
def ItsD (A : Option Addr) (ds : List Dn) (b : Nat) : Prop := A = some ⟨b, 0, none⟩ ∧ ds ≠ []
theorem OwnD.its {w : World} {lo : Nat} {A : Option Addr} {ds : List Dn} (h : OwnD w lo A ds) {b : Nat} (hb : ItsD A ds b) : lo ≤ b ∧ b < w.heap.size := by
  rcases h with h | ⟨g, cs, e, hl, hr, _⟩
  · exact absurd (flatD_nil.1 h) hb.2
  · have := hb.1.symm.trans e
    injection this with this
    injection this with this
    subst this
    exact ⟨hl, hr.lt⟩

set_option maxHeartbeats 1000000 in
theorem markDoneS_any (A : Option Addr) (ds : List Dn) (c lo : Nat) (k : Int) (w : World) (h : OwnD w lo A ds) (hn : ds.length ≤ 1048576) (hk : 0 ≤ k) (hk' : k ≤ 4398046511104) :
    Calls Tryd.prog 27 #[.slice A ds.length c, .int .i64 k] w fun e w' => e = .returned (.int .i64 (k + (4 * ds.length : Nat))) ∧ OwnT w' lo A (seqL k (4 * ds.length)) ∧ Save (ItsD A ds) w w' := by
  have HO : Hid (OwnT w lo A (flatD ds)) := h
  clear h
  have HFL := Lib.hid (flatD_len ds)
  go_enter Tryd.func27, Tryd.ntmps27
  go_wp2
  go_loopw [1, 5] (fun v i wr => ∃ (j : Nat), j ≤ ds.length ∧ i = .int .i64 j ∧ v = .int .i64 (k + 4 * j) ∧ Hid (OwnT wr lo A (midL k (flatD ds) (j * 4))) ∧ Hid (Save (ItsD A ds) w wr)) (fun _ i _ => ds.length - (intOf i).toNat)
  case atStart => exact ⟨0, by omega, rfl, by simp, by show OwnT _ _ _ _; rw [Nat.zero_mul, midL_zero]; exact HO.out, Save.refl _ _⟩
  case round =>
    obtain ⟨j, hj, rfl, rfl, H, HS⟩ := hrel
    by_cases hlt : j < ds.length
    · have HML : Hid (∀ i, i ≤ 4 * ds.length → (midL k (flatD ds) i).length = 4 * ds.length) := fun i hi => by rw [midL_length (by rw [HFL.out]; exact hi), HFL.out]
      obtain ⟨g, rfl, _, _, c0, f0⟩ := H.out.at_ (i := j * 4) (by rw [HML.out _ (by omega)]; omega)
      obtain ⟨g', eg, _, _, c1, f1⟩ := H.out.at_ (i := j * 4 + 1) (by rw [HML.out _ (by omega)]; omega)
      cases eg
      obtain ⟨g', eg, _, _, c2, f2⟩ := H.out.at_ (i := j * 4 + 2) (by rw [HML.out _ (by omega)]; omega)
      cases eg
      obtain ⟨g', eg, _, _, c3, f3⟩ := H.out.at_ (i := j * 4 + 3) (by rw [HML.out _ (by omega)]; omega)
      cases eg
      have hne : ds ≠ [] := fun e => by subst e; simp at hlt
      have HNE := Lib.hid hne; clear hne
      go_wp2
      go_roundw
      case rel =>
        refine ⟨j + 1, by omega, by go_num, by go_num, ?_, (((HS.out.setCell ⟨rfl, HNE.out⟩ _).setCell ⟨rfl, HNE.out⟩ _).setCell ⟨rfl, HNE.out⟩ _).setCell ⟨rfl, HNE.out⟩ _⟩
        have hl : ∀ i, i < 4 * ds.length → i < (flatD ds).length := fun i hi => by rw [HFL.out]; exact hi
        show OwnT _ _ _ _
        have s0 := midL_step (k := k) (hl (j * 4) (by omega))
        have s1 := midL_step (k := k) (hl (j * 4 + 1) (by omega))
        have s2 := midL_step (k := k) (hl (j * 4 + 2) (by omega))
        have s3 := midL_step (k := k) (hl (j * 4 + 3) (by omega))
        rw [show (j + 1) * 4 = j * 4 + 3 + 1 by omega, ← s3, show j * 4 + 3 = j * 4 + 2 + 1 by omega, ← s2, show j * 4 + 2 = j * 4 + 1 + 1 by omega, ← s1, ← s0]
        have o0 := H.out.set (i := j * 4) (by rw [HML.out _ (by omega)]; omega) (k + ((j * 4 : Nat) : Int))
        have o1 := o0.set (i := j * 4 + 1) (by rw [List.length_set, HML.out _ (by omega)]; omega) (k + ((j * 4 + 1 : Nat) : Int))
        have o2 := o1.set (i := j * 4 + 2) (by rw [List.length_set, List.length_set, HML.out _ (by omega)]; omega) (k + ((j * 4 + 2 : Nat) : Int))
        have o3 := o2.set (i := j * 4 + 3) (by rw [List.length_set, List.length_set, List.length_set, HML.out _ (by omega)]; omega) (k + ((j * 4 + 3 : Nat) : Int))
        have v0 : k + ((j * 4 : Nat) : Int) = k + 4 * (j : Int) := by omega
        have v1 : k + ((j * 4 + 1 : Nat) : Int) = k + 4 * (j : Int) + 1 := by omega
        have v2 : k + ((j * 4 + 2 : Nat) : Int) = k + 4 * (j : Int) + 1 + 1 := by omega
        have v3 : k + ((j * 4 + 3 : Nat) : Int) = k + 4 * (j : Int) + 1 + 1 + 1 := by omega
        have v2' : k + ((j * 4 + 1 + 1 : Nat) : Int) = k + 4 * (j : Int) + 1 + 1 := v2
        have v3' : k + ((j * 4 + 1 + 1 + 1 : Nat) : Int) = k + 4 * (j : Int) + 1 + 1 + 1 := v3
        rw [v0, v1, v2', v3']
        rw [v0, v1, v2, v3] at o3
        exact o3
      case measure => simp [intOf]; omega
    · obtain rfl : j = ds.length := by omega
      go_wp2
      go_ret
      refine ⟨ret_int (by omega), ?_, HS.out⟩
      have h1 := H.out
      rw [show ds.length * 4 = (flatD ds).length by rw [HFL.out]; omega, midL_all, HFL.out] at h1
      exact h1

end Go.Proofs.YtfbpcdmpkbjifaaDoor

/- What one hand does: the program's stepsOf. -/

namespace Go.Proofs.YtfbpcdmpkbjifaaDoor
open Go.RowKit

/-- The slice that begins at A lies in a row of steps and reads as ds. -/
def OwnE (w : World) (A : Option Addr) (ds : List Dn) : Prop :=
  ds = [] ∨ ∃ (b o : Nat) (cs : Array Value), A = some ⟨b, o, none⟩ ∧ Row w b 88 cs ∧ ∀ (k : Nat) (x : Int), (flatD ds)[k]? = some x → cs[o + k]? = some (.int .i64 x)
theorem OwnE.below {w w' : World} {B : Nat} {A : Option Addr} {ds : List Dn} (h : OwnE w A ds) (hb : Below B w w') (hB : w.heap.size ≤ B) : OwnE w' A ds := by
  rcases h with h | ⟨b, o, cs, e, hr, hc⟩
  · exact .inl h
  · exact .inr ⟨b, o, cs, e, hr.below hb (by have := hr.lt; omega), hc⟩
theorem OwnE.keep {w w' : World} {A : Option Addr} {ds : List Dn} (h : OwnE w A ds) (hb : Below w.heap.size w w') : OwnE w' A ds := h.below hb (Nat.le_refl _)
theorem OwnE.aside {w w' : World} {A : Option Addr} {ds : List Dn} {g : Nat} {t : TypeId} {cs : Array Value} (h : OwnE w A ds) (hg : Row w g t cs) (ht : t ≠ 88) (hs : Save (· = g) w w') : OwnE w' A ds := by
  rcases h with h | ⟨b, o, cs', e, hr, hc⟩
  · exact .inl h
  · exact .inr ⟨b, o, cs', e, hr.save hs (fun e => hg.ne hr ht e.symm), hc⟩
theorem OwnE.at_ {w : World} {A : Option Addr} {d : Dn} {r : List Dn} (h : OwnE w A (d :: r)) : ∃ b o, A = some ⟨b, o, none⟩ ∧ b < w.heap.size ∧ w.cell? ⟨b, o, none⟩ = some (.int .i64 d.h) ∧ w.cell? ⟨b, o + 1, none⟩ = some (.int .i64 d.k) ∧
    w.cell? ⟨b, o + 2, none⟩ = some (.int .i64 d.f) ∧ w.cell? ⟨b, o + 3, none⟩ = some (.int .i64 d.t) ∧ OwnE w (some ⟨b, o + 4, none⟩) r := by
  rcases h with h | ⟨b, o, cs, e, hr, hc⟩
  · cases h
  · refine ⟨b, o, e, hr.lt, by rw [hr.cell]; exact hc 0 _ rfl, by rw [hr.cell]; exact hc 1 _ rfl, by rw [hr.cell]; exact hc 2 _ rfl, by rw [hr.cell]; exact hc 3 _ rfl, .inr ⟨b, o + 4, cs, rfl, hr, fun k x hx => ?_⟩⟩
    rw [Nat.add_assoc, Nat.add_comm 4 k]
    exact hc (k + 4) x (by simpa [flatD] using hx)

/-- The slice v of steps is new from lo on and reads as ds. -/
def DnsW (w : World) (lo : Nat) (v : Value) (ds : List Dn) : Prop := w.ownsRow lo 88 4 v ds.length (vals (flatD ds))
theorem DnsW.nil (w : World) (lo : Nat) : DnsW w lo (.slice none 0 0) [] := ⟨rfl, .inl ⟨rfl, rfl⟩⟩
theorem DnsW.keep {w w' : World} {lo : Nat} {v : Value} {ds : List Dn} (h : DnsW w lo v ds) (hb : Below w.heap.size w w') : DnsW w' lo v ds := own_below h hb
theorem DnsW.snoc {w : World} {lo n : Nat} {v : Value} {ds : List Dn} (d : Dn) (h : w.ownsRow lo 88 4 v (n + 1) (vals (flatD ds) ++ [.int .i64 d.h, .int .i64 d.k, .int .i64 d.f, .int .i64 d.t])) (hn : n = ds.length) : DnsW w lo v (ds ++ [d]) := by
  subst hn
  show World.ownsRow _ _ _ _ _ _ _
  rw [List.length_append]
  have e : vals (flatD (ds ++ [d])) = vals (flatD ds) ++ [.int .i64 d.h, .int .i64 d.k, .int .i64 d.f, .int .i64 d.t] := by rw [flatD_app]; simp [vals, flatD]
  rw [e]
  exact h
theorem DnsW.slice {w : World} {lo : Nat} {v : Value} {ds : List Dn} (h : DnsW w lo v ds) : ∃ A c, v = .slice A ds.length c ∧ ds.length ≤ c ∧ OwnE w A ds := by
  rcases h.2 with ⟨rfl, h0⟩ | ⟨g, cap, cur, rfl, hlo, hb, h1, h2, h3, h4⟩
  · refine ⟨none, 0, by rw [h0], by omega, .inl (List.eq_nil_of_length_eq_zero h0)⟩
  · refine ⟨_, cap, rfl, h1, .inr ⟨g, 0, cur, rfl, hb, fun k x hx => ?_⟩⟩
    have hk := (List.getElem?_eq_some_iff.1 hx).1
    rw [flatD_len] at hk
    have e := congrArg (fun l => l[k]?) h4
    simp only [vals, List.getElem?_map, hx, Option.map_some] at e
    rw [List.getElem?_take, if_pos (by omega)] at e
    rw [Nat.zero_add]
    simpa using e
/-- A new slice of steps that reads as ds; nothing older has turned. -/
def GaveE (w : World) (ds : List Dn) (e : Ending) (w' : World) : Prop := ∃ A c, e = .returned (.slice A ds.length c) ∧ ds.length ≤ c ∧ OwnE w' A ds ∧ Below w.heap.size w w'

theorem four_new (w : World) (v0 v1 v2 v3 : Value) (t : TypeId) : ∀ j u, ([v0, v1, v2, v3] : List Value)[j]? = some u → (w.alloc (.cells #[v0, v1, v2, v3] t)).cell? ((⟨w.heap.size, 0, none⟩ : Addr).add j) = some u := by
  intro j u h
  rw [Go.WideShapes.add_plain, Nat.zero_add]
  rcases j with _ | _ | _ | _ | j
  · simpa [go_sem] using h
  · simpa [go_sem] using h
  · simpa [go_sem] using h
  · simpa [go_sem] using h
  · simp at h
/-- Numbers are kept where a row of steps grows. -/
theorem OwnI.grownT {w w' : World} {lo lo' n : Nat} {A : Option Addr} {xs : List Int} {v : Value} {ys : List Value} (h : OwnI w lo A xs) (hv : w.ownsRow lo' 88 4 v n ys) (hg : w.grownBy w' v.ownBlock) : OwnI w' lo A xs := by
  rcases h with h | ⟨g, cs, e, hl, hr, hc⟩
  · exact .inl h
  · refine .inr ⟨g, cs, e, hl, (hg.block g hr.lt fun e2 => ?_).trans hr, hc⟩
    rcases hv.2 with ⟨rfl, _⟩ | ⟨g', cap, cur, rfl, _, hb, _⟩
    · cases e2
    · injection e2 with e2
      subst e2
      exact Row.ne (t := 3) (t' := 88) hr hb (by decide) rfl
theorem partF_memE {n hs l : Int} (h0 : 0 ≤ hs) : ∀ {m : Nat} {f x : Int}, x ∈ partF n hs l m f → f ≤ x ∧ x + l ≤ n
  | 0, f, x, h => by simp [partF] at h
  | m + 1, f, x, h => by
    rw [partF] at h
    split at h
    · rename_i hc
      rcases List.mem_cons.1 h with rfl | h
      · exact ⟨by omega, hc⟩
      · have := partF_memE h0 h
        omega
    · simp at h
theorem restL_len (n hs h : Int) : ∀ m : Nat, (restL n hs h m).length ≤ 12 * m
  | 0 => by simp [restL]
  | m + 1 => by
    have ih := restL_len n hs h m
    have h1 := levL_len n hs h (n - m)
    have h2 := partL_len n hs h (n - m)
    rw [restL, List.length_append]
    omega

set_option maxRecDepth 20000 in
set_option maxHeartbeats 2000000 in
theorem stepsOf_any (n hs h : Int) (w : World) (hn0 : 0 ≤ n) (hn1 : n ≤ 10) (hs0 : 1 ≤ hs) (hs1 : hs ≤ 4) (hh0 : 0 ≤ h) (hh1 : h ≤ 4) :
    Calls Tryd.prog 84 #[.int .i64 n, .int .i64 hs, .int .i64 h] w (GaveE w (restL n hs h n.toNat)) := by
  obtain ⟨i0, hi0, hz0, hz1, hz2⟩ := info_of Tryd.infoDone
  obtain ⟨N, rfl⟩ := Int.eq_ofNat_of_zero_le hn0
  rw [Int.toNat_natCast]
  have HLL := Lib.hid (restL_len (N : Int) hs h N)
  go_enter Tryd.func84, Tryd.ntmps84
  go_wp2
  go_loopw [7, 8] (fun v x wr => ∃ (m : Nat) (xs : List Dn), m ≤ N ∧ x = .int .i64 ((m : Int) + 1) ∧ Hid (xs ++ restL N hs h (N - m) = restL N hs h N) ∧ Hid (Below w.heap.size w wr) ∧ Hid (DnsW wr w.heap.size v xs)) (fun _ x _ => (N + 1 - intOf x).toNat)
  case atStart => exact ⟨0, [], by omega, rfl, rfl, Below.refl _ _, DnsW.nil _ _⟩
  case round =>
    obtain ⟨m, xs, hm, rfl, HP, HB, HO⟩ := hrel
    by_cases hlt : m < N
    · have hwz : w.heap.size ≤ wr.heap.size := HB.out.size
      have HPA := Lib.hid (partOf_any (N : Int) hs h ((m : Int) + 1) wr hn0 hn1 hs0 hs1 hh0 hh1 (by omega) (by omega))
      have HRS : Hid (restL N hs h (N - m) = ((partL N hs h ((m : Int) + 1)).map (fun f => (⟨h, 1, f, f + ((m : Int) + 1)⟩ : Dn)) ++ [⟨h, 2, 0, (m : Int) + 1⟩]) ++ restL N hs h (N - (m + 1))) := by
        show _ = _
        rw [show N - m = (N - (m + 1)) + 1 by omega, restL, show (N : Int) - ((N - (m + 1) : Nat) : Int) = (m : Int) + 1 by omega]
        rfl
      have HPM : Hid (∀ y ∈ partL N hs h ((m : Int) + 1), 0 ≤ y ∧ y + ((m : Int) + 1) ≤ N) := fun y hy => by
        have := partF_memE (n := (N : Int)) (l := (m : Int) + 1) (by omega : 0 ≤ hs) hy
        omega
      have hpl := partL_len N hs h ((m : Int) + 1)
      generalize partL N hs h ((m : Int) + 1) = ps at HPA HRS HPM hpl
      obtain ⟨wA, hwA⟩ : ∃ x, x = wr := ⟨_, rfl⟩
      subst hwA
      go_wp2_with (go_at_call 68
                   refine HPA.out.mono ?_
                   rintro e w1 ⟨Ap, cp, rfl, hcp, hOp, hBp⟩
                   have HB1 := Lib.hid (HB.out.trans (hBp.mono hwz))
                   have HO1 := Lib.hid (HO.out.keep hBp)
                   have HI1 := Lib.hid (hOp.lower hwz)
                   clear hBp hOp)
      go_loopw [7, 22] (fun v x wr => ∃ (j : Nat) (ys : List Dn), j ≤ ps.length ∧ x = .int .i64 j ∧ Hid (ys = xs ++ (ps.take j).map (fun f => (⟨h, 1, f, f + ((m : Int) + 1)⟩ : Dn))) ∧ Hid (OwnI wr w.heap.size Ap ps) ∧ Hid (Below w.heap.size w wr) ∧ Hid (DnsW wr w.heap.size v ys)) (fun _ x _ => ps.length - (intOf x).toNat)
      case atStart => exact ⟨0, xs, by omega, rfl, by simp [Hid], HI1.out, HB1.out, HO1.out⟩
      case round =>
        clear HO HO1 HPA HI1
        obtain ⟨j, ys, hj, rfl, HY, HI1, HBr, HO⟩ := hrel
        have hwr := HBr.out.size
        have hyl : ys.length ≤ 120 := by
          have h1 := congrArg List.length HP.out
          rw [HRS.out] at h1
          have h2 := congrArg List.length HY.out
          have h3 := HLL.out
          simp only [List.length_append, List.length_map, List.length_take, List.length_singleton] at h1 h2
          omega
        by_cases hjl : j < ps.length
        · obtain ⟨b, rfl, -, hb, c0, -⟩ := HI1.out.at_ hjl
          have hym := HPM.out _ (List.getElem_mem hjl)
          have HYN : Hid (ys ++ [⟨h, 1, ps[j], ps[j] + ((m : Int) + 1)⟩] = xs ++ (ps.take (j + 1)).map (fun f => (⟨h, 1, f, f + ((m : Int) + 1)⟩ : Dn))) := by
            show _ = _
            rw [HY.out, List.take_succ_eq_append_getElem hjl, List.map_append, List.append_assoc]
            rfl
          generalize ps[j] = y at c0 hym HYN
          have HOA : Hid ((wr.alloc (.cells #[.int .i64 h, .int .i64 1, .int .i64 y, .int .i64 (y + ((m : Int) + 1))] 88)).ownsRow w.heap.size 88 4 u7 ys.length (vals (flatD ys))) := World.ownsRow.alloc HO.out _
          have HNW := Lib.hid (four_new wr (.int .i64 h) (.int .i64 1) (.int .i64 y) (.int .i64 (y + ((m : Int) + 1))) 88)
          go_wp2_with (first
            | (at_builtin
               refine wpList_append_own _ rfl (.tmp 26) (.tmp 33) _ rfl w.heap.size 88 i0 _ 4 32 Tryd.underlying35 hi0 hz0 hz1 hz2 rfl (by omega) _ _ _ rfl HOA.out ⟨wr.heap.size, 0, none⟩ 1 1 [.int .i64 h, .int .i64 1, .int .i64 y, .int .i64 (y + ((m : Int) + 1))] rfl rfl HNW.out (by simp [Value.oneCell']) (by unfold maxLen; omega) (by omega) (by simp; omega) ?_
               intro v' w' h1 h2 h3
               have HO' : Hid (DnsW w' w.heap.size v' (ys ++ [⟨h, 1, y, y + ((m : Int) + 1)⟩])) := DnsW.snoc ⟨h, 1, y, y + ((m : Int) + 1)⟩ h1 rfl
               have HB' : Hid (Below w.heap.size w w') := (HBr.out.alloc hwr _).grown h2 (by simp; omega) fun j hj => (World.ownsRow.lt HO.out j hj).1
               have HI' : Hid (OwnI w' w.heap.size (some ⟨b, 0, none⟩) ps) := OwnI.grownT (HI1.out.below ((Below.refl _ _).alloc (Nat.le_refl _) _) (Nat.le_refl _)) HOA.out h2
               clear h1 h2 h3))
          go_roundw
          case rel => exact ⟨j + 1, ys ++ [⟨h, 1, y, y + ((m : Int) + 1)⟩], by omega, by go_num, HYN, HI', HB', HO'⟩
          case measure => simp [intOf]; omega
        · have HYE : Hid (ys ++ [⟨h, 2, 0, (m : Int) + 1⟩] ++ restL N hs h (N - (m + 1)) = restL N hs h N) := by
            show _ = _
            rw [← HP.out, HRS.out, HY.out, List.take_of_length_le (by omega)]
            simp only [List.append_assoc]
          have HOA : Hid ((wr.alloc (.cells #[.int .i64 h, .int .i64 2, .int .i64 0, .int .i64 ((m : Int) + 1)] 88)).ownsRow w.heap.size 88 4 u7 ys.length (vals (flatD ys))) := World.ownsRow.alloc HO.out _
          have HNW := Lib.hid (four_new wr (.int .i64 h) (.int .i64 2) (.int .i64 0) (.int .i64 ((m : Int) + 1)) 88)
          go_wp2_with (first
            | (at_builtin
               refine wpList_append_own _ rfl (.tmp 36) (.tmp 40) _ rfl w.heap.size 88 i0 _ 4 32 Tryd.underlying35 hi0 hz0 hz1 hz2 rfl (by omega) _ _ _ rfl HOA.out ⟨wr.heap.size, 0, none⟩ 1 1 [.int .i64 h, .int .i64 2, .int .i64 0, .int .i64 ((m : Int) + 1)] rfl rfl HNW.out (by simp [Value.oneCell']) (by unfold maxLen; omega) (by omega) (by simp; omega) ?_
               intro v' w' h1 h2 h3
               have HO' : Hid (DnsW w' w.heap.size v' (ys ++ [⟨h, 2, 0, (m : Int) + 1⟩])) := DnsW.snoc ⟨h, 2, 0, (m : Int) + 1⟩ h1 rfl
               have HB' : Hid (Below w.heap.size w w') := (HBr.out.alloc hwr _).grown h2 (by simp; omega) fun j hj => (World.ownsRow.lt HO.out j hj).1
               clear h1 h2 h3))
          go_roundw
          case rel => exact ⟨m + 1, ys ++ [⟨h, 2, 0, (m : Int) + 1⟩], by omega, by go_num, HYE, HB', HO'⟩
          case measure => simp [intOf]; omega
    · have HE : Hid (xs = restL N hs h N) := by
        obtain rfl : m = N := by omega
        have := HP.out
        rw [Nat.sub_self, restL, List.append_nil] at this
        exact this
      go_wp2
      go_ret
      obtain ⟨A, c, rfl, hc, h⟩ := HO.out.slice
      rw [← HE.out]
      exact ⟨A, c, rfl, hc, h, HB.out⟩

end Go.Proofs.YtfbpcdmpkbjifaaDoor

/- AheadOf of the program. -/

namespace Go.Proofs.YtfbpcdmpkbjifaaDoor
open Go.RowKit

/-- A box that holds a step. -/
def BoxD (w : World) (g : Nat) (u : Dn) : Prop := g < w.heap.size ∧ w.cell? ⟨g, 0, none⟩ = some (.int .i64 u.h) ∧ w.cell? ⟨g, 1, none⟩ = some (.int .i64 u.k) ∧ w.cell? ⟨g, 2, none⟩ = some (.int .i64 u.f) ∧ w.cell? ⟨g, 3, none⟩ = some (.int .i64 u.t)
theorem BoxD.keep {w w' : World} {g B : Nat} {u : Dn} (h : BoxD w g u) (hb : Below B w w') (hB : g < B) : BoxD w' g u :=
  ⟨Nat.lt_of_lt_of_le h.1 hb.size, (hb.cell (p := ⟨g, 0, none⟩) hB).trans h.2.1, (hb.cell (p := ⟨g, 1, none⟩) hB).trans h.2.2.1, (hb.cell (p := ⟨g, 2, none⟩) hB).trans h.2.2.2.1, (hb.cell (p := ⟨g, 3, none⟩) hB).trans h.2.2.2.2⟩

set_option maxRecDepth 20000 in
set_option maxHeartbeats 1000000 in
theorem goodLog_any (A : Option Addr) (ds : List Dn) (c : Nat) (hs : Int) (w : World) (hx : Dos w w.heap.size A ds) (hn : ds.length ≤ 1048576) (hL : Lims w) :
    Calls Tryd.prog 73 #[.slice A ds.length c, .int .i64 hs] w fun e w' => e = .returned (.bool (bP (GoodW hs ds))) ∧ Below w.heap.size w w' := by
  have HX := Lib.hid hx; clear hx
  have HL := Lib.hid hL; clear hL
  cases h1 : inB 0 200 ds.length
  · have HE : Hid (bP (GoodW hs ds) = false) := bP_f fun h => by have h2 := inB_t (lo := 0) (hi := 200) (n := (ds.length : Int)) (by omega) (by have := h.2.1; omega); rw [h1] at h2; cases h2
    go_enter Tryd.func73, Tryd.ntmps73
    go_wp2_with (go_at_call 66; with_reducible refine (within7 ds.length w HL.out).mono ?_; rintro e w1 ⟨rfl, hB⟩; rw [h1]; have HB := Lib.hid hB; clear hB)
    go_ret
    exact ⟨ret_b HE.out.symm, HB.out⟩
  have hl200 : ds.length ≤ 200 := by have := inB_hi h1; omega
  cases h2 : inB 1 4 hs
  · have HE : Hid (bP (GoodW hs ds) = false) := bP_f fun h => by have h3 := inB_t h.1.1 h.1.2; rw [h2] at h3; cases h3
    go_enter Tryd.func73, Tryd.ntmps73
    go_wp2_with (first
      | (go_at_call 66; with_reducible refine (within7 ds.length w HL.out).mono ?_; rintro e w1 ⟨rfl, hB⟩; rw [h1]; have HB := Lib.hid hB; clear hB)
      | (go_at_call 66; with_reducible refine (within6 hs _ (HL.out.keep HB.out (Nat.le_refl _))).mono ?_; rintro e w2 ⟨rfl, hB⟩; rw [h2]; have HB2 := Lib.hid (HB.out.trans (hB.mono HB.out.size)); clear hB))
    go_ret
    exact ⟨ret_b HE.out.symm, HB2.out⟩
  have HS : Hid (1 ≤ hs ∧ hs ≤ 4) := ⟨inB_lo h2, inB_hi h2⟩
  go_enter Tryd.func73, Tryd.ntmps73
  go_wp2_with (first
    | (go_at_call 66; with_reducible refine (within7 ds.length w HL.out).mono ?_; rintro e w1 ⟨rfl, hB⟩; rw [h1]; have HB := Lib.hid hB; clear hB)
    | (go_at_call 66; with_reducible refine (within6 hs _ (HL.out.keep HB.out (Nat.le_refl _))).mono ?_; rintro e w2 ⟨rfl, hB⟩; rw [h2]; have HB2 := Lib.hid (HB.out.trans (hB.mono HB.out.size)); clear hB))
  go_loopw [19] (fun i wr => ∃ (k : Nat), k ≤ ds.length ∧ i = .int .i64 k ∧ Hid (Below w.heap.size w wr) ∧ Hid (OkTo hs ds k)) (fun i _ => ds.length - (intOf i).toNat)
  case atStart => exact ⟨0, by omega, rfl, HB2.out, fun j d h => absurd h (by omega)⟩
  case round =>
    obtain ⟨k, hk, rfl, hB, H⟩ := hrel
    by_cases hlt : k < ds.length
    · obtain ⟨b, o, rfl, hb, c0, c1, c2, c3⟩ := (HX.out.keep hB.out).at_ hlt
      have HNO : Hid (¬ OkD hs ds[k] → bP (GoodW hs ds) = false) := fun h => bP_f (GoodW.not hlt h)
      have HST : Hid (OkD hs ds[k] → OkTo hs ds (k + 1)) := fun h => H.out.step hlt h
      clear H
      generalize ds[k] = u at c0 c1 c2 c3 HNO HST
      cases hh : decide ((1 ≤ hs ∧ hs ≤ 4) ∧ 0 ≤ u.h ∧ u.h < hs)
      · have HE := Lib.hid (HNO.out fun h => of_decide_eq_false hh ⟨HS.out, h.1⟩)
        cases hk1 : (u.k == 1) <;> cases hk2 : (u.k == 2)
        all_goals
          go_wp2_with fail
          have HBW : Hid (Below w.heap.size w (wr.alloc (.cells #[.int .i64 u.h, .int .i64 u.k, .int .i64 u.f, .int .i64 u.t] 88))) := hB.out.alloc hB.out.size _
          have B0 : BoxD (wr.alloc (.cells #[.int .i64 u.h, .int .i64 u.k, .int .i64 u.f, .int .i64 u.t] 88)) wr.heap.size u := ⟨by simp, by simp [go_sem], by simp [go_sem], by simp [go_sem], by simp [go_sem]⟩
          generalize wr.alloc (.cells #[.int .i64 u.h, .int .i64 u.k, .int .i64 u.f, .int .i64 u.t] 88) = W at HBW B0 ⊢
          clear c0 c1 c2 c3
          have HB0 := Lib.hid B0; clear B0
          have HWR : Hid (wr.heap.size < W.heap.size) := HB0.out.1
          refine (isHand_any _ _ _ (HL.out.keep HBW.out (Nat.le_refl _))).mono ?_
          rintro e w1 ⟨rfl, hB1⟩
          have HB1 := Lib.hid (HBW.out.trans (hB1.mono HBW.out.size)); clear hB1
          rw [hh]
          go_wp2
          go_ret
          exact ⟨ret_b HE.out.symm, HB1.out⟩
      have HHH := Lib.hid (of_decide_eq_true hh).2
      by_cases hkk : u.k = 1 ∨ u.k = 2
      · have HKK := Lib.hid hkk
        cases hk1 : (u.k == 1)
        · have hk2 : (u.k == 2) = true := by rcases hkk with h | h; (rw [h] at hk1; cases hk1); (rw [h]; rfl)
          clear hkk
          go_wp2_with fail
          have HBW : Hid (Below w.heap.size w (wr.alloc (.cells #[.int .i64 u.h, .int .i64 u.k, .int .i64 u.f, .int .i64 u.t] 88))) := hB.out.alloc hB.out.size _
          have B0 : BoxD (wr.alloc (.cells #[.int .i64 u.h, .int .i64 u.k, .int .i64 u.f, .int .i64 u.t] 88)) wr.heap.size u := ⟨by simp, by simp [go_sem], by simp [go_sem], by simp [go_sem], by simp [go_sem]⟩
          generalize wr.alloc (.cells #[.int .i64 u.h, .int .i64 u.k, .int .i64 u.f, .int .i64 u.t] 88) = W at HBW B0 ⊢
          clear c0 c1 c2 c3
          have HB0 := Lib.hid B0; clear B0
          have HWR : Hid (wr.heap.size < W.heap.size) := HB0.out.1
          refine (isHand_any _ _ _ (HL.out.keep HBW.out (Nat.le_refl _))).mono ?_
          rintro e w1 ⟨rfl, hB1⟩
          have HB1 := Lib.hid (HBW.out.trans (hB1.mono HBW.out.size))
          have HX1 := Lib.hid (HB0.out.keep hB1 HB0.out.1)
          clear hB1 HB0
          rw [hh]
          obtain ⟨_, b0, b1, b2, b3⟩ := HX1.out
          cases hf : inB 0 10 u.f
          · have HE := Lib.hid (HNO.out fun h => by have := inB_t h.2.2.1.1 h.2.2.1.2; rw [hf] at this; cases this)
            go_wp2_with (go_at_call 66; (with_reducible refine (within4 u.f w1 (HL.out.keep HB1.out (Nat.le_refl _))).mono ?_); rintro e w2 ⟨rfl, hB⟩; rw [hf]; have HB2 := Lib.hid (HB1.out.trans (hB.mono HB1.out.size)); clear hB)
            go_ret
            exact ⟨ret_b HE.out.symm, HB2.out⟩
          cases ht : inB 0 10 u.t
          · have HE := Lib.hid (HNO.out fun h => by have := inB_t h.2.2.2.1 h.2.2.2.2; rw [ht] at this; cases this)
            go_wp2_with (first
              | (go_at_call 66; (with_reducible refine (within4 u.f w1 (HL.out.keep HB1.out (Nat.le_refl _))).mono ?_); rintro e w2 ⟨rfl, hB⟩; rw [hf]; have HB2 := Lib.hid (HB1.out.trans (hB.mono HB1.out.size)); have HX2 := Lib.hid (HX1.out.keep hB HX1.out.1); have d3 := HX2.out.2.2.2.2; clear hB)
              | (go_at_call 66; (with_reducible refine (within4 u.t w2 (HL.out.keep HB2.out (Nat.le_refl _))).mono ?_); rintro e w3 ⟨rfl, hB⟩; rw [ht]; have HB3 := Lib.hid (HB2.out.trans (hB.mono HB2.out.size)); clear hB))
            go_ret
            exact ⟨ret_b HE.out.symm, HB3.out⟩
          have HE := Lib.hid (HST.out ⟨HHH.out, HKK.out, ⟨inB_lo hf, inB_hi hf⟩, inB_lo ht, inB_hi ht⟩)
          go_wp2_with (first
            | (go_at_call 66; (with_reducible refine (within4 u.f w1 (HL.out.keep HB1.out (Nat.le_refl _))).mono ?_); rintro e w2 ⟨rfl, hB⟩; rw [hf]; have HB2 := Lib.hid (HB1.out.trans (hB.mono HB1.out.size)); have HX2 := Lib.hid (HX1.out.keep hB HX1.out.1); have d3 := HX2.out.2.2.2.2; clear hB)
            | (go_at_call 66; (with_reducible refine (within4 u.t w2 (HL.out.keep HB2.out (Nat.le_refl _))).mono ?_); rintro e w3 ⟨rfl, hB⟩; rw [ht]; have HB3 := Lib.hid (HB2.out.trans (hB.mono HB2.out.size)); clear hB))
          go_roundw
          case rel => exact ⟨k + 1, by omega, by go_num, HB3.out, HE.out⟩
          case measure => simp [intOf]; omega
        · clear hkk
          go_wp2_with fail
          have HBW : Hid (Below w.heap.size w (wr.alloc (.cells #[.int .i64 u.h, .int .i64 u.k, .int .i64 u.f, .int .i64 u.t] 88))) := hB.out.alloc hB.out.size _
          have B0 : BoxD (wr.alloc (.cells #[.int .i64 u.h, .int .i64 u.k, .int .i64 u.f, .int .i64 u.t] 88)) wr.heap.size u := ⟨by simp, by simp [go_sem], by simp [go_sem], by simp [go_sem], by simp [go_sem]⟩
          generalize wr.alloc (.cells #[.int .i64 u.h, .int .i64 u.k, .int .i64 u.f, .int .i64 u.t] 88) = W at HBW B0 ⊢
          clear c0 c1 c2 c3
          have HB0 := Lib.hid B0; clear B0
          have HWR : Hid (wr.heap.size < W.heap.size) := HB0.out.1
          refine (isHand_any _ _ _ (HL.out.keep HBW.out (Nat.le_refl _))).mono ?_
          rintro e w1 ⟨rfl, hB1⟩
          have HB1 := Lib.hid (HBW.out.trans (hB1.mono HBW.out.size))
          have HX1 := Lib.hid (HB0.out.keep hB1 HB0.out.1)
          clear hB1 HB0
          rw [hh]
          obtain ⟨_, b0, b1, b2, b3⟩ := HX1.out
          cases hf : inB 0 10 u.f
          · have HE := Lib.hid (HNO.out fun h => by have := inB_t h.2.2.1.1 h.2.2.1.2; rw [hf] at this; cases this)
            go_wp2_with (go_at_call 66; (with_reducible refine (within4 u.f w1 (HL.out.keep HB1.out (Nat.le_refl _))).mono ?_); rintro e w2 ⟨rfl, hB⟩; rw [hf]; have HB2 := Lib.hid (HB1.out.trans (hB.mono HB1.out.size)); clear hB)
            go_ret
            exact ⟨ret_b HE.out.symm, HB2.out⟩
          cases ht : inB 0 10 u.t
          · have HE := Lib.hid (HNO.out fun h => by have := inB_t h.2.2.2.1 h.2.2.2.2; rw [ht] at this; cases this)
            go_wp2_with (first
              | (go_at_call 66; (with_reducible refine (within4 u.f w1 (HL.out.keep HB1.out (Nat.le_refl _))).mono ?_); rintro e w2 ⟨rfl, hB⟩; rw [hf]; have HB2 := Lib.hid (HB1.out.trans (hB.mono HB1.out.size)); have HX2 := Lib.hid (HX1.out.keep hB HX1.out.1); have d3 := HX2.out.2.2.2.2; clear hB)
              | (go_at_call 66; (with_reducible refine (within4 u.t w2 (HL.out.keep HB2.out (Nat.le_refl _))).mono ?_); rintro e w3 ⟨rfl, hB⟩; rw [ht]; have HB3 := Lib.hid (HB2.out.trans (hB.mono HB2.out.size)); clear hB))
            go_ret
            exact ⟨ret_b HE.out.symm, HB3.out⟩
          have HE := Lib.hid (HST.out ⟨HHH.out, HKK.out, ⟨inB_lo hf, inB_hi hf⟩, inB_lo ht, inB_hi ht⟩)
          go_wp2_with (first
            | (go_at_call 66; (with_reducible refine (within4 u.f w1 (HL.out.keep HB1.out (Nat.le_refl _))).mono ?_); rintro e w2 ⟨rfl, hB⟩; rw [hf]; have HB2 := Lib.hid (HB1.out.trans (hB.mono HB1.out.size)); have HX2 := Lib.hid (HX1.out.keep hB HX1.out.1); have d3 := HX2.out.2.2.2.2; clear hB)
            | (go_at_call 66; (with_reducible refine (within4 u.t w2 (HL.out.keep HB2.out (Nat.le_refl _))).mono ?_); rintro e w3 ⟨rfl, hB⟩; rw [ht]; have HB3 := Lib.hid (HB2.out.trans (hB.mono HB2.out.size)); clear hB))
          go_roundw
          case rel => exact ⟨k + 1, by omega, by go_num, HB3.out, HE.out⟩
          case measure => simp [intOf]; omega
      · have HE := Lib.hid (HNO.out fun h => hkk h.2.1)
        have hk1 : (u.k == 1) = false := by simpa using fun h => hkk (.inl h)
        have hk2 : (u.k == 2) = false := by simpa using fun h => hkk (.inr h)
        clear hkk
        go_wp2_with fail
        have HBW : Hid (Below w.heap.size w (wr.alloc (.cells #[.int .i64 u.h, .int .i64 u.k, .int .i64 u.f, .int .i64 u.t] 88))) := hB.out.alloc hB.out.size _
        have B0 : BoxD (wr.alloc (.cells #[.int .i64 u.h, .int .i64 u.k, .int .i64 u.f, .int .i64 u.t] 88)) wr.heap.size u := ⟨by simp, by simp [go_sem], by simp [go_sem], by simp [go_sem], by simp [go_sem]⟩
        generalize wr.alloc (.cells #[.int .i64 u.h, .int .i64 u.k, .int .i64 u.f, .int .i64 u.t] 88) = W at HBW B0 ⊢
        clear c0 c1 c2 c3
        have HB0 := Lib.hid B0; clear B0
        have HWR : Hid (wr.heap.size < W.heap.size) := HB0.out.1
        refine (isHand_any _ _ _ (HL.out.keep HBW.out (Nat.le_refl _))).mono ?_
        rintro e w1 ⟨rfl, hB1⟩
        have HB1 := Lib.hid (HBW.out.trans (hB1.mono HBW.out.size)); clear hB1
        rw [hh]
        go_wp2
        go_ret
        exact ⟨ret_b HE.out.symm, HB1.out⟩
    · have HE : Hid (bP (GoodW hs ds) = true) := bP_t ⟨HS.out, hl200, fun j d hj hd => H.out j d (by omega) hd⟩
      go_wp2
      go_ret
      exact ⟨ret_b HE.out.symm, hB.out⟩

end Go.Proofs.YtfbpcdmpkbjifaaDoor

/- How many waits are ahead of each step: the program. -/

namespace Go.Proofs.YtfbpcdmpkbjifaaDoor
open Go.RowKit

/-- For each of the first k steps how many waits its hand has ahead of it. -/
def aheadL (ds : List Dn) (k : Nat) : List Int := (List.range k).map fun i => (waitN ds (ds.getD i default).h i : Int)
theorem aheadL_len (ds : List Dn) (k : Nat) : (aheadL ds k).length = k := by simp [aheadL]
theorem aheadL_at {ds : List Dn} {k i : Nat} (h : i < k) : (aheadL ds k)[i]? = some (waitN ds (ds.getD i default).h i : Int) := by simp [aheadL, h]
theorem aheadL_succ {ds : List Dn} {k : Nat} (hk : k < ds.length) : aheadL ds (k + 1) = aheadL ds k ++ [(waitN ds ds[k].h k : Int)] := by
  unfold aheadL
  rw [List.range_succ, List.map_append, List.map_singleton, getD_at hk]

/-- An array of how many waits each hand has among the first k steps. -/
def WaitA (cs : Array Value) (ds : List Dn) (k : Nat) : Prop := cs.size = 4 ∧ ∀ q : Nat, q < 4 → cs[q]? = some (.int .i64 (waitN ds q k : Int))
theorem WaitA.yes {cs : Array Value} {ds : List Dn} {k q : Nat} (h : WaitA cs ds k) (hk : k < ds.length) (hq : q < 4) (e : ds[k].h = q) (h2 : ds[k].k = 2) : WaitA (cs.setIfInBounds q (.int .i64 ((waitN ds q k : Int) + 1))) ds (k + 1) := by
  refine ⟨by rw [Array.size_setIfInBounds]; exact h.1, fun p hp => ?_⟩
  rw [Array.getElem?_setIfInBounds]
  by_cases ep : q = p
  · subst ep
    rw [if_pos rfl, if_pos (by rw [h.1]; exact hq), waitN_yes hk e h2]
    rfl
  · rw [if_neg ep, h.2 p hp, waitN_no hk (fun hh => ep (by have := hh.1; omega))]
theorem WaitA.no {cs : Array Value} {ds : List Dn} {k : Nat} (h : WaitA cs ds k) (hk : k < ds.length) (h2 : ds[k].k ≠ 2) : WaitA cs ds (k + 1) :=
  ⟨h.1, fun p hp => by rw [h.2 p hp, waitN_no hk (fun hh => h2 hh.2)]⟩
theorem WaitA.zero (ds : List Dn) : WaitA #[.int .i64 0, .int .i64 0, .int .i64 0, .int .i64 0] ds 0 := ⟨rfl, fun q hq => by
  match q, hq with
  | 0, _ => rfl
  | 1, _ => rfl
  | 2, _ => rfl
  | 3, _ => rfl⟩

set_option maxRecDepth 20000 in
set_option maxHeartbeats 1000000 in
theorem waitsAhead_any (A : Option Addr) (ds : List Dn) (c : Nat) (hs : Int) (w : World) (hx : Dos w w.heap.size A ds) (hg : GoodW hs ds) :
    Calls Tryd.prog 75 #[.slice A ds.length c] w (GaveI w (aheadL ds ds.length)) := by
  obtain ⟨i0, hi0, hz0, hz1, hz2⟩ := info_of Tryd.infoInt
  have hl200 := hg.2.1
  have HX := Lib.hid hx; clear hx
  have HG := Lib.hid hg; clear hg
  go_enter Tryd.func75, Tryd.ntmps75
  go_wp2
  go_loopw [4, 9] (fun v i wr => ∃ (k : Nat) (cs : Array Value), k ≤ ds.length ∧ i = .int .i64 k ∧ Hid (w.heap.size + 1 ≤ wr.heap.size) ∧ Hid (Below w.heap.size w wr) ∧ Hid (Row wr w.heap.size 136 cs) ∧ Hid (WaitA cs ds k) ∧ Hid (OwnV wr (w.heap.size + 1) v (aheadL ds k))) (fun _ i _ => ds.length - (intOf i).toNat)
  case atStart => exact ⟨0, #[.int .i64 0, .int .i64 0, .int .i64 0, .int .i64 0], by omega, rfl, by show _ ≤ _; simp, by show Below _ _ _; go_grown, Row.new _ _ _, WaitA.zero ds, OwnV.nil _ _⟩
  case round =>
    obtain ⟨k, cs, hk, rfl, HZ, HB, HR, HW, HO⟩ := hrel
    by_cases hlt : k < ds.length
    · obtain ⟨b, o, rfl, hb, c0, c1, c2, c3⟩ := (HX.out.keep HB.out).at_ hlt
      have hok := HG.out.at_ hlt
      obtain ⟨q, hq⟩ := Int.eq_ofNat_of_zero_le hok.1.1
      have hq4 : q < 4 := by have := hok.1.2; have := HG.out.1.2; omega
      have HQ := Lib.hid hq
      rw [hq] at c0
      have HK := Lib.hid hok.2.1
      clear hok
      have HN : Hid (aheadL ds (k + 1) = aheadL ds k ++ [(waitN ds q k : Int)]) := by show _ = _; rw [aheadL_succ hlt, hq]
      have hwn : waitN ds q k ≤ 200 := Nat.le_trans (waitN_le _ _ _) hl200
      have HWY : Hid (ds[k].k = 2 → WaitA (cs.setIfInBounds q (.int .i64 ((waitN ds q k : Int) + 1))) ds (k + 1)) := fun h => HW.out.yes hlt hq4 hq h
      have HWN : Hid (ds[k].k ≠ 2 → WaitA cs ds (k + 1)) := fun h => HW.out.no hlt h
      clear hq
      have hal : (aheadL ds k).length ≤ 200 := by rw [aheadL_len]; omega
      have a0 := (HR.out.cell q).trans (HW.out.2 q hq4)
      have af := HR.out.frozen q
      generalize hxx : (waitN ds q k : Int) = x at HN HWY a0
      have HXX := Lib.hid hxx
      have hx0 : 0 ≤ x := by omega
      have hx1 : x ≤ 200 := by omega
      clear hxx hwn
      have HX1 : Hid (Row ((wr.alloc (.cells #[.int .i64 (q : Int), .int .i64 ds[k].k, .int .i64 ds[k].f, .int .i64 ds[k].t] 88)).alloc (.cells #[.int .i64 x] 3)) w.heap.size 136 cs) := (HR.out.alloc _).alloc _
      have HX2 : Hid (Below w.heap.size w ((wr.alloc (.cells #[.int .i64 (q : Int), .int .i64 ds[k].k, .int .i64 ds[k].f, .int .i64 ds[k].t] 88)).alloc (.cells #[.int .i64 x] 3))) := (HB.out.alloc HB.out.size _).alloc (by simp; have := HB.out.size; omega) _
      have HX3 : Hid (((wr.alloc (.cells #[.int .i64 (q : Int), .int .i64 ds[k].k, .int .i64 ds[k].f, .int .i64 ds[k].t] 88)).alloc (.cells #[.int .i64 x] 3)).ownsRow (w.heap.size + 1) 3 1 u4 (aheadL ds k).length (vals (aheadL ds k))) := World.ownsRow.alloc (World.ownsRow.alloc HO.out _) _
      have hx4 := cell_one_new (wr.alloc (.cells #[.int .i64 (q : Int), .int .i64 ds[k].k, .int .i64 ds[k].f, .int .i64 ds[k].t] 88)) (.int .i64 x) 3
      rw [World.size_alloc] at hx4
      have HX4 := Lib.hid hx4; clear hx4
      have HX5 : Hid (Row ((wr.alloc (.cells #[.int .i64 (q : Int), .int .i64 ds[k].k, .int .i64 ds[k].f, .int .i64 ds[k].t] 88)).alloc (.cells #[.int .i64 x] 3)) wr.heap.size 88 #[.int .i64 (q : Int), .int .i64 ds[k].k, .int .i64 ds[k].f, .int .i64 ds[k].t]) := Row.alloc (Row.new _ _ _) _
      have HX6 : Hid (wr.heap.size + 2 ≤ ((wr.alloc (.cells #[.int .i64 (q : Int), .int .i64 ds[k].k, .int .i64 ds[k].f, .int .i64 ds[k].t] 88)).alloc (.cells #[.int .i64 x] 3)).heap.size) := by show _ ≤ _; simp
      have hz := HZ.out
      have a2 : (wr.alloc (.cells #[.int .i64 (q : Int), .int .i64 ds[k].k, .int .i64 ds[k].f, .int .i64 ds[k].t] 88)).cell? ⟨w.heap.size, q, none⟩ = some (.int .i64 x) := (((Below.refl wr.heap.size wr).alloc (Nat.le_refl _) _).cell (p := ⟨w.heap.size, q, none⟩) (by simp; omega)).trans a0
      generalize hu : ds[k] = u at c1 c2 c3 a2 HX1 HX2 HX3 HX4 HX5 HX6 HK HWN HWY
      have HU := Lib.hid hu; clear hu
      cases hk2 : (u.k == 2)
      all_goals
        go_wp2_with (first
          | (at_builtin
             refine wpList_append_own _ rfl (.tmp 13) (.tmp 18) _ rfl (w.heap.size + 1) 3 i0 _ 1 8 Tryd.underlying22 hi0 hz0 hz1 hz2 rfl (by omega) _ _ _ rfl HX3.out ⟨wr.heap.size + 1, 0, none⟩ 1 1 [.int .i64 x] rfl rfl HX4.out (by simp [Value.oneCell']) (by unfold maxLen; omega) (by omega) (by simp; omega) ?_
             intro v' w' h1 h2 h3
             have HO' : Hid (OwnV w' (w.heap.size + 1) v' (aheadL ds (k + 1))) := by rw [HN.out]; exact own_snocI h1 rfl
             have HB' : Hid (Below w.heap.size w w') := HX2.out.grown h2 (by have := HX6.out; simp; omega) fun j hj => by have := (HO.out.lt j hj).1; omega
             have HR' : Hid (Row w' w.heap.size 136 cs) := HX1.out.below ((Below.refl (w.heap.size + 1) _).grown h2 (by have := HX6.out; simp; omega) fun j hj => (HO.out.lt j hj).1) (by omega)
             have HU' : Hid (Row w' wr.heap.size 88 #[.int .i64 (q : Int), .int .i64 u.k, .int .i64 u.f, .int .i64 u.t]) := (h2.block wr.heap.size (by have := HX6.out; omega) (fun e => by have := (HO.out.lt _ e.symm).2; omega)).trans HX5.out
             have b0 := HU'.out.cell 0
             have b1 := HU'.out.cell 1
             simp only [List.getElem?_toArray, List.getElem?_cons_succ, List.getElem?_cons_zero] at b0 b1
             have a1 := (HR'.out.cell q).trans (HW.out.2 q hq4)
             rw [HXX.out] at a1
             have af1 := HR'.out.frozen q
             have HZ' : Hid (w.heap.size + 1 ≤ w'.heap.size) := by show _ ≤ _; have := h2.size; have := HX6.out; omega
             clear h1 h2 h3))
        go_roundw
        case rel =>
          first
            | exact ⟨k + 1, cs, by omega, by go_num, HZ', HB', HR', Lib.hid (HWN.out (by simpa using hk2)), HO'⟩
            | exact ⟨k + 1, cs.setIfInBounds q (.int .i64 (x + 1)), by omega, by go_num, by show _ ≤ _; simp only [World.size_setCell]; exact HZ'.out, HB'.out.setCell (by simp) _, HR'.out.set _ _, Lib.hid (HWY.out (by simpa using hk2)), own_saveB HO'.out ((Save.refl (fun b => b = w.heap.size) w').setCell rfl _) (fun g hg e => by have := (HO'.out.lt g hg).1; omega)⟩
        case measure => simp [intOf]; omega
    · obtain rfl : k = ds.length := by omega
      go_wp2
      go_ret
      obtain ⟨A', c', e, h⟩ := HO.out.own
      obtain ⟨A2, c2, e', hc, _⟩ := HO.out.shape
      have e2 := e.symm.trans e'
      injection e2 with _ _ e3
      subst e3
      exact ⟨A', c', by rw [e]; rfl, hc, h.lower (by omega), HB.out⟩

end Go.Proofs.YtfbpcdmpkbjifaaDoor

/- AheadOf of the program. -/

namespace Go.Proofs.YtfbpcdmpkbjifaaDoor
open Go.RowKit

set_option maxRecDepth 20000 in
set_option maxHeartbeats 2000000 in
theorem isAhead_any (A A' : Option Addr) (ds : List Dn) (c c' : Nat) (i j : Nat) (w : World) (hx : Dos w w.heap.size A ds) (hy : Ints w w.heap.size A' (aheadL ds ds.length)) (hn : ds.length ≤ 200) (hi : i < ds.length) (hj : j < ds.length) :
    Calls Tryd.prog 74 #[.slice A ds.length c, .slice A' ds.length c', .int .i64 (i : Int), .int .i64 (j : Int)] w fun e w' => e = .returned (.bool (bP (Ahead ds i j))) ∧ Below w.heap.size w w' := by
  obtain ⟨b, o, rfl, hb, c0, _⟩ := hx.at_ hi
  obtain ⟨b', o', e', hb', d0, _⟩ := hx.at_ hj
  cases e'
  obtain ⟨g, p, rfl, hg, hc⟩ := hy (by rw [aheadL_len]; omega)
  have a0 := hc i _ (aheadL_at hi)
  have a1 := hc j _ (aheadL_at hj)
  rw [getD_at hi] at a0
  rw [getD_at hj] at a1
  have HA : Hid (Ahead ds i j ↔ (i < j ∧ (ds[i].h = ds[j].h ∨ waitN ds ds[i].h i < waitN ds ds[j].h j))) := by show _ ↔ _; unfold Ahead; rw [getD_at hi, getD_at hj]
  clear hc
  generalize waitN ds ds[i].h i = x at a0 HA
  generalize waitN ds ds[j].h j = y at a1 HA
  generalize ds[i].h = s at c0 HA
  generalize ds[j].h = t at d0 HA
  have HB0 := Lib.hid (Below.refl w.heap.size w)
  by_cases h1 : i < j
  · have hd : decide (i < j) = true := decide_eq_true h1
    cases h2 : (s == t)
    · have hne : s ≠ t := by simpa using h2
      by_cases h3 : x < y
      · have HE : Hid (bP (Ahead ds i j) = true) := bP_t (HA.out.2 ⟨h1, .inr h3⟩)
        have hd3 : decide (x < y) = true := decide_eq_true h3
        clear hne
        go_enter Tryd.func74, Tryd.ntmps74
        go_wp2
        go_quiet (fail)
        go_wp2
        go_ret
        exact ⟨ret_b HE.out.symm, below_drewN HB0.out _⟩
      · have HE : Hid (bP (Ahead ds i j) = false) := bP_f fun h => by rcases (HA.out.1 h).2 with h | h; exact hne h; exact h3 h
        have hd3 : decide (x < y) = false := decide_eq_false h3
        clear hne
        go_enter Tryd.func74, Tryd.ntmps74
        go_wp2
        go_quiet (fail)
        go_wp2
        go_ret
        exact ⟨ret_b HE.out.symm, below_drewN HB0.out _⟩
    · have HE : Hid (bP (Ahead ds i j) = true) := bP_t (HA.out.2 ⟨h1, .inl (by simpa using h2)⟩)
      go_enter Tryd.func74, Tryd.ntmps74
      go_wp2
      go_quiet (fail)
      go_wp2
      go_ret
      exact ⟨ret_b HE.out.symm, below_drewN HB0.out _⟩
  · have hd : decide (i < j) = false := decide_eq_false h1
    have HE : Hid (bP (Ahead ds i j) = false) := bP_f fun h => h1 (HA.out.1 h).1
    go_enter Tryd.func74, Tryd.ntmps74
    go_wp2
    go_quiet (fail)
    go_wp2
    go_ret
    exact ⟨ret_b HE.out.symm, below_drewN HB0.out _⟩

end Go.Proofs.YtfbpcdmpkbjifaaDoor

/- AheadOf of the program, whole. -/

namespace Go.Proofs.YtfbpcdmpkbjifaaDoor
open Go.RowKit

set_option maxRecDepth 20000 in
set_option maxHeartbeats 2000000 in
theorem implAheadOf_any (A : Option Addr) (ds : List Dn) (c : Nat) (hs i j : Int) (w : World) (hx : Dos w w.heap.size A ds) (hn : ds.length ≤ 1048576) (hL : Lims w) (_ : F64 i) (_ : F64 j) :
    Calls Tryd.prog 22 #[.slice A ds.length c, .int .i64 hs, .int .i64 i, .int .i64 j] w fun e w' => e = .returned (.tuple #[.bool (aheadV ds hs i j), .bool (aheadOk ds hs i j)]) ∧ Below w.heap.size w w' := by
  have HC := Lib.hid (goodLog_any A ds c hs w hx hn hL)
  have HX := Lib.hid hx; clear hx
  cases hg : bP (GoodW hs ds)
  · have HE : Hid (aheadV ds hs i j = false ∧ aheadOk ds hs i j = false) := ⟨bP_f fun h => bP_no hg h.1.1, bP_f fun h => bP_no hg h.1⟩
    go_enter Tryd.func22, Tryd.ntmps22
    go_wp2_with (go_at_call 73; refine HC.out.mono ?_; rintro e w1 ⟨rfl, hB⟩; rw [hg]; have HB := Lib.hid hB; clear hB)
    go_ret2
    exact ⟨by rw [HE.out.1, HE.out.2]; rfl, HB.out⟩
  have HG := Lib.hid (bP_is hg)
  by_cases h1 : i < 0 ∨ j < 0
  · have HE : Hid (aheadV ds hs i j = false ∧ aheadOk ds hs i j = false) := ⟨bP_f fun h => by have := h.1.2; omega, bP_f fun h => by have := h.2; omega⟩
    rcases Int.le_total i j with hij | hij
    all_goals
      go_enter Tryd.func22, Tryd.ntmps22
      go_wp2_with (go_at_call 73; refine HC.out.mono ?_; rintro e w1 ⟨rfl, hB⟩; rw [hg]; have HB := Lib.hid hB; clear hB)
      all_goals first
        | (exfalso; omega)
        | (go_ret2; exact ⟨by rw [HE.out.1, HE.out.2]; rfl, HB.out⟩)
  by_cases h2 : (ds.length : Int) ≤ i ∨ (ds.length : Int) ≤ j
  · have HE : Hid (aheadV ds hs i j = false ∧ aheadOk ds hs i j = false) := ⟨bP_f fun h => by have := h.1.2; omega, bP_f fun h => by have := h.2; omega⟩
    rcases Int.le_total i j with hij | hij
    all_goals
      go_enter Tryd.func22, Tryd.ntmps22
      go_wp2_with (go_at_call 73; refine HC.out.mono ?_; rintro e w1 ⟨rfl, hB⟩; rw [hg]; have HB := Lib.hid hB; clear hB)
      all_goals first
        | (exfalso; omega)
        | (go_ret2; exact ⟨by rw [HE.out.1, HE.out.2]; rfl, HB.out⟩)
  obtain ⟨p, rfl⟩ := Int.eq_ofNat_of_zero_le (show 0 ≤ i by omega)
  obtain ⟨q, rfl⟩ := Int.eq_ofNat_of_zero_le (show 0 ≤ j by omega)
  have hp : p < ds.length := by omega
  have hq : q < ds.length := by omega
  have hok : AheadOK ds hs p q := ⟨HG.out, ⟨by omega, by omega⟩, by omega, by omega⟩
  have HE : Hid (aheadV ds hs p q = bP (Ahead ds p q) ∧ aheadOk ds hs p q = true) := ⟨bP_congr ⟨fun h => h.2, fun h => ⟨hok, h⟩⟩, bP_t hok⟩
  clear hok h1 h2
  have HW := Lib.hid (fun v (hv : Dos v v.heap.size A ds) => waitsAhead_any A ds c hs v hv HG.out)
  have HI := Lib.hid (fun (A' : Option Addr) (c' : Nat) v (hv : Dos v v.heap.size A ds) (hy : Ints v v.heap.size A' (aheadL ds ds.length)) => isAhead_any A A' ds c c' p q v hv hy HG.out.2.1 hp hq)
  rcases Nat.le_total p q with hij | hij
  all_goals
    go_enter Tryd.func22, Tryd.ntmps22
    go_wp2_with (first
      | (go_at_call 73; refine HC.out.mono ?_; rintro e w1 ⟨rfl, hB⟩; rw [hg]; have HB := Lib.hid hB; clear hB)
      | (go_at_call 75
         refine (HW.out w1 ((HX.out.keep HB.out).more HB.out.size)).mono ?_
         rintro e w2 ⟨A', c', rfl, hc', hO, hB⟩
         have HB2 := Lib.hid (HB.out.trans (hB.mono HB.out.size))
         have HO := Lib.hid hO.ints
         rw [aheadL_len]
         clear hB hO)
      | (go_at_call 74
         refine (HI.out A' c' w2 ((HX.out.keep HB2.out).more HB2.out.size) HO.out).mono ?_
         rintro e w3 ⟨rfl, hB⟩
         have HB3 := Lib.hid (HB2.out.trans (hB.mono HB2.out.size))
         clear hB))
    all_goals first
      | (exfalso; omega)
      | (go_ret2; exact ⟨by rw [HE.out.1, HE.out.2]; rfl, HB3.out⟩)

end Go.Proofs.YtfbpcdmpkbjifaaDoor

/- AheadOf of the reference. -/

namespace Go.Proofs.YtfbpcdmpkbjifaaDoor
open Go.RowKit
open Go.Sort (grow)

set_option maxRecDepth 20000 in
set_option maxHeartbeats 2000000 in
theorem l8Log_any (A : Option Addr) (ds : List Dn) (c : Nat) (hs : Int) (w : World) (hx : Dos w w.heap.size A ds) (hn : ds.length ≤ 1048576) :
    Calls Tryd.prog 70 #[.slice A ds.length c, .int .i64 hs] w fun e w' => e = .returned (.bool (bP (GoodW hs ds))) ∧ Below w.heap.size w w' := by
  have HX := Lib.hid hx; clear hx
  obtain ⟨m, hw⟩ : ∃ m, IntKind.i64.wrap (hs - 1) = m := ⟨_, rfl⟩
  have HM : Hid (1 ≤ hs ∧ hs ≤ 4 → m = hs - 1) := fun h => by
    rcases hs4 h.1 h.2 with rfl | rfl | rfl | rfl <;> (rw [← hw]; rfl)
  go_enter Tryd.func70, Tryd.ntmps70
  go_wp2
  go_loopw [9] (fun i wr => ∃ (k : Nat), k ≤ ds.length ∧ i = .int .i64 k ∧ Hid (Below w.heap.size w wr) ∧ Hid (1 ≤ hs ∧ hs ≤ 4 → OkTo hs ds k)) (fun i _ => ds.length - (intOf i).toNat)
  case atStart => exact ⟨0, by omega, rfl, Below.refl _ _, fun _ j d h => absurd h (by omega)⟩
  case round =>
    obtain ⟨k, hk, rfl, hB, H⟩ := hrel
    by_cases hlt : k < ds.length
    · obtain ⟨b, o, rfl, hb, c0, c1, c2, c3⟩ := (HX.out.keep hB.out).at_ hlt
      have HNO : Hid (¬ OkD hs ds[k] → bP (GoodW hs ds) = false) := fun h => bP_f (GoodW.not hlt h)
      have HST : Hid ((1 ≤ hs ∧ hs ≤ 4 → OkD hs ds[k]) → 1 ≤ hs ∧ hs ≤ 4 → OkTo hs ds (k + 1)) := fun h h2 => (H.out h2).step hlt (h h2)
      have HRNG : Hid (bP (GoodW hs ds) = true → (1 ≤ hs ∧ hs ≤ 4) ∧ OkD hs ds[k]) := fun h => ⟨(bP_is h).1, (bP_is h).at_ hlt⟩
      clear H
      generalize ds[k] = u at c0 c1 c2 c3 HNO HST HRNG
      have HF : Hid ((bP (GoodW hs ds) = true → False) → bP (GoodW hs ds) = false) := fun h => by cases hq : bP (GoodW hs ds); rfl; exact (h hq).elim
      have HB2 : Hid (Below w.heap.size w (wr.alloc (.cells #[.int .i64 u.h, .int .i64 u.k, .int .i64 u.f, .int .i64 u.t] 88))) := hB.out.alloc hB.out.size _
      cases h1 : inB 0 m u.h
      · have HE := Lib.hid (HF.out fun h => by
          have h3 := HRNG.out h
          have h4 := HM.out h3.1
          have h5 := inB_t (lo := 0) (hi := m) (n := u.h) h3.2.1.1 (by have := h3.2.1.2; omega)
          rw [h1] at h5; cases h5)
        go_wp2_with (go_at_call 64; refine (l1In_any _ _ _ _).mono ?_; rintro e w' ⟨rfl, rfl⟩; rw [h1])
        go_ret
        exact ⟨ret_b HE.out.symm, HB2.out⟩
      cases h2 : inB 1 2 u.k
      · have HE := Lib.hid (HF.out fun h => by
          have h3 := HRNG.out h
          have h5 := inB_t (lo := 1) (hi := 2) (n := u.k) (by have := h3.2.2.1; omega) (by have := h3.2.2.1; omega)
          rw [h2] at h5; cases h5)
        go_wp2_with (go_at_call 64; refine (l1In_any _ _ _ _).mono ?_; rintro e w' ⟨rfl, rfl⟩; first | rw [h1] | rw [h2])
        go_ret
        exact ⟨ret_b HE.out.symm, HB2.out⟩
      cases h3 : inB 0 10 u.f
      · have HE := Lib.hid (HF.out fun h => by
          have h4 := HRNG.out h
          have h5 := inB_t (lo := 0) (hi := 10) (n := u.f) h4.2.2.2.1.1 h4.2.2.2.1.2
          rw [h3] at h5; cases h5)
        go_wp2_with (go_at_call 64; refine (l1In_any _ _ _ _).mono ?_; rintro e w' ⟨rfl, rfl⟩; first | rw [h1] | rw [h2] | rw [h3])
        go_ret
        exact ⟨ret_b HE.out.symm, HB2.out⟩
      cases h4 : inB 0 10 u.t
      · have HE := Lib.hid (HF.out fun h => by
          have h6 := HRNG.out h
          have h5 := inB_t (lo := 0) (hi := 10) (n := u.t) h6.2.2.2.2.1 h6.2.2.2.2.2
          rw [h4] at h5; cases h5)
        go_wp2_with (go_at_call 64; refine (l1In_any _ _ _ _).mono ?_; rintro e w' ⟨rfl, rfl⟩; first | rw [h1] | rw [h2] | rw [h3] | rw [h4])
        go_ret
        exact ⟨ret_b HE.out.symm, HB2.out⟩
      have HE := Lib.hid (HST.out fun h => ⟨⟨inB_lo h1, by have := inB_hi h1; have := HM.out h; omega⟩, by have := inB_lo h2; have := inB_hi h2; omega, ⟨inB_lo h3, inB_hi h3⟩, inB_lo h4, inB_hi h4⟩)
      go_wp2_with (go_at_call 64; refine (l1In_any _ _ _ _).mono ?_; rintro e w' ⟨rfl, rfl⟩; first | rw [h1] | rw [h2] | rw [h3] | rw [h4])
      go_roundw
      case rel => exact ⟨k + 1, by omega, by go_num, HB2.out, HE.out⟩
      case measure => simp [intOf]; omega
    · have hkl : k = ds.length := by omega
      cases h1 : inB 1 4 hs
      · have HE : Hid (bP (GoodW hs ds) = false) := bP_f fun h => by have h3 := inB_t h.1.1 h.1.2; rw [h1] at h3; cases h3
        clear hkl
        go_wp2_with (go_at_call 64; refine (l1In_any _ _ _ _).mono ?_; rintro e w' ⟨rfl, rfl⟩; rw [h1])
        go_ret
        exact ⟨ret_b HE.out.symm, hB.out⟩
      · by_cases h2 : ds.length ≤ 200
        · have HE : Hid (bP (GoodW hs ds) = true) := bP_t ⟨⟨inB_lo h1, inB_hi h1⟩, h2, fun j d hj hd => H.out ⟨inB_lo h1, inB_hi h1⟩ j d (by omega) hd⟩
          clear hkl
          go_wp2_with (go_at_call 64; refine (l1In_any _ _ _ _).mono ?_; rintro e w' ⟨rfl, rfl⟩; rw [h1])
          go_ret
          exact ⟨ret_b ((decide_eq_true (by omega)).trans HE.out.symm), hB.out⟩
        · have HE : Hid (bP (GoodW hs ds) = false) := bP_f fun h => h2 h.2.1
          clear hkl
          go_wp2_with (go_at_call 64; refine (l1In_any _ _ _ _).mono ?_; rintro e w' ⟨rfl, rfl⟩; rw [h1])
          go_ret
          exact ⟨ret_b ((decide_eq_false (by omega)).trans HE.out.symm), hB.out⟩

set_option maxRecDepth 20000 in
set_option maxHeartbeats 2000000 in
theorem l8Waits_any (A : Option Addr) (ds : List Dn) (c : Nat) (h : Int) (m : Nat) (w : World) (hx : Dos w w.heap.size A ds) (hn : ds.length ≤ 200) (hc : ds.length ≤ c) (hm : m ≤ ds.length) :
    Calls Tryd.prog 118 #[.slice A ds.length c, .int .i64 h, .int .i64 (m : Int)] w fun e w' => e = .returned (.int .i64 (waitN ds h m : Int)) ∧ Below w.heap.size w w' := by
  have HX := Lib.hid hx; clear hx
  have hmc : m ≤ c := by omega
  go_enter Tryd.func118, Tryd.ntmps118
  go_wp2
  go_loopw [7, 14] (fun v i wr => ∃ (k : Nat), k ≤ m ∧ i = .int .i64 k ∧ v = .int .i64 (waitN ds h k : Int) ∧ Hid (Below w.heap.size w wr)) (fun _ i _ => m - (intOf i).toNat)
  case atStart => exact ⟨0, by omega, rfl, rfl, Below.refl _ _⟩
  case round =>
    obtain ⟨k, hk, rfl, rfl, hB⟩ := hrel
    by_cases hlt : k < m
    · have hkd : k < ds.length := by omega
      obtain ⟨b, o, rfl, hb, c0, c1, c2, c3⟩ := (HX.out.keep hB.out).at_ hkd
      have HB2 : Hid (Below w.heap.size w (wr.alloc (.cells #[.int .i64 ds[k].h, .int .i64 ds[k].k, .int .i64 ds[k].f, .int .i64 ds[k].t] 88))) := hB.out.alloc hB.out.size _
      have HY : Hid (ds[k].h = h → ds[k].k = 2 → waitN ds h (k + 1) = waitN ds h k + 1) := fun h1 h2 => waitN_yes hkd h1 h2
      have HN : Hid (¬ (ds[k].h = h ∧ ds[k].k = 2) → waitN ds h (k + 1) = waitN ds h k) := fun h1 => waitN_no hkd h1
      have hw2 := waitN_le ds h k
      generalize ds[k] = u at c0 c1 c2 c3 HB2 HY HN
      cases h1 : (u.h == h)
      · have HE := Lib.hid (HN.out fun hh => by have := hh.1; simp [this] at h1)
        go_wp2
        go_roundw
        case rel => exact ⟨k + 1, by omega, by go_num, by rw [HE.out], HB2⟩
        case measure => simp [intOf]; omega
      · cases h2 : (u.k == 2)
        · have HE := Lib.hid (HN.out fun hh => by have := hh.2; simp [this] at h2)
          go_wp2
          go_roundw
          case rel => exact ⟨k + 1, by omega, by go_num, by rw [HE.out], HB2⟩
          case measure => simp [intOf]; omega
        · have HE := Lib.hid (HY.out (by simpa using h1) (by simpa using h2))
          go_wp2
          go_roundw
          case rel => exact ⟨k + 1, by omega, by go_num, by rw [HE.out]; rfl, HB2⟩
          case measure => simp [intOf]; omega
    · obtain rfl : k = m := by omega
      go_wp2
      go_ret
      exact ⟨rfl, hB.out⟩

end Go.Proofs.YtfbpcdmpkbjifaaDoor

/- AheadOf of the reference, whole. -/

namespace Go.Proofs.YtfbpcdmpkbjifaaDoor
open Go.RowKit
open Go.Sort (grow)

set_option maxRecDepth 20000 in
set_option maxHeartbeats 2000000 in
theorem l8Ahead_any (A : Option Addr) (ds : List Dn) (c : Nat) (i j : Nat) (w : World) (hx : Dos w w.heap.size A ds) (hn : ds.length ≤ 200) (hc : ds.length ≤ c) (hi : i < ds.length) (hj : j < ds.length) :
    Calls Tryd.prog 71 #[.slice A ds.length c, .int .i64 (i : Int), .int .i64 (j : Int)] w fun e w' => e = .returned (.bool (bP (Ahead ds i j))) ∧ Below w.heap.size w w' := by
  have HX := Lib.hid hx
  obtain ⟨b, o, rfl, hb, c0, _⟩ := hx.at_ hi
  obtain ⟨b', o', e', hb', d0, _⟩ := hx.at_ hj
  cases e'
  have HA : Hid (Ahead ds i j ↔ (i < j ∧ (ds[i].h = ds[j].h ∨ waitN ds ds[i].h i < waitN ds ds[j].h j))) := by show _ ↔ _; unfold Ahead; rw [getD_at hi, getD_at hj]
  have HCI : Hid (∀ W, Dos W W.heap.size (some ⟨b, o, none⟩) ds → Calls Tryd.prog 118 #[.slice (some ⟨b, o, none⟩) ds.length c, .int .i64 ds[i].h, .int .i64 (i : Int)] W fun e w' => e = .returned (.int .i64 (waitN ds ds[i].h i : Int)) ∧ Below W.heap.size W w') := fun W h => l8Waits_any _ ds c _ i W h hn hc (by omega)
  have HCJ : Hid (∀ W, Dos W W.heap.size (some ⟨b, o, none⟩) ds → Calls Tryd.prog 118 #[.slice (some ⟨b, o, none⟩) ds.length c, .int .i64 ds[j].h, .int .i64 (j : Int)] W fun e w' => e = .returned (.int .i64 (waitN ds ds[j].h j : Int)) ∧ Below W.heap.size W w') := fun W h => l8Waits_any _ ds c _ j W h hn hc (by omega)
  have hx1 := waitN_le ds ds[i].h i
  have hy1 := waitN_le ds ds[j].h j
  clear hx
  generalize waitN ds ds[i].h i = x at HCI HA hx1
  generalize waitN ds ds[j].h j = y at HCJ HA hy1
  generalize ds[i].h = s at c0 HA HCI
  generalize ds[j].h = t at d0 HA HCJ
  have HB0 := Lib.hid (Below.refl w.heap.size w)
  by_cases h1 : i < j
  · have h1' : ¬ j ≤ i := by omega
    cases h2 : (s == t)
    · have hne : s ≠ t := by simpa using h2
      have HE : Hid (bP (Ahead ds i j) = decide (x < y)) := by
        show _ = _
        by_cases h3 : x < y
        · rw [decide_eq_true h3]; exact bP_t (HA.out.2 ⟨h1, .inr h3⟩)
        · rw [decide_eq_false h3]; exact bP_f fun h => by rcases (HA.out.1 h).2 with h | h; exact hne h; exact h3 h
      clear hne
      go_enter Tryd.func71, Tryd.ntmps71
      go_wp2
      go_quiet (fail)
      go_wp2
      have HBW := Lib.hid (below_drewN HB0.out nq)
      have p0 := cell_regrown ((HBW.out.cell (p := ⟨b, o + i * 4, none⟩) hb).trans c0)
      have p1 := cell_regrown ((HBW.out.cell (p := ⟨b, o + j * 4, none⟩) hb).trans d0)
      generalize w.drewN nq = W at HBW p0 p1 ⊢
      have HRG : Hid (∀ d os, Below w.heap.size w (grow (redrawn W d) os)) := fun d os => HBW.out.trans ((below_regrown W d os).mono HBW.out.size)
      have HC1 : Hid (∀ d os, Calls Tryd.prog 118 #[.slice (some ⟨b, o, none⟩) ds.length c, .int .i64 s, .int .i64 (i : Int)] (grow (redrawn W d) os) fun e w' => e = .returned (.int .i64 (x : Int)) ∧ Below (grow (redrawn W d) os).heap.size (grow (redrawn W d) os) w') := fun d os => HCI.out _ ((HX.out.keep (HRG.out d os)).more (HRG.out d os).size)
      have HC2 : Hid (∀ d os, Calls Tryd.prog 118 #[.slice (some ⟨b, o, none⟩) ds.length c, .int .i64 t, .int .i64 (j : Int)] (grow (redrawn W d) os) fun e w' => e = .returned (.int .i64 (y : Int)) ∧ Below (grow (redrawn W d) os).heap.size (grow (redrawn W d) os) w') := fun d os => HCJ.out _ ((HX.out.keep (HRG.out d os)).more (HRG.out d os).size)
      clear c0 d0 HCI HCJ
      refine wp_region_quiet_below (by kernel_rfl) (by kernel_rfl) ?_
      repeat (first | go_big_quiet_step (first | (with_reducible exact Calls.regrown_of (HC1.out _ _)) | (with_reducible exact Calls.regrown_of (HC2.out _ _))) | quiet_step (first | (with_reducible exact Calls.regrown_of (HC1.out _ _)) | (with_reducible exact Calls.regrown_of (HC2.out _ _))))
      refine wpQuiet_nil ?_
      intro _ hw'
      obtain ⟨⟨dq, osq⟩, hw''⟩ := hw'
      subst hw''
      go_wp2
      go_ret
      refine ⟨ret_b ?_, HRG.out dq osq⟩
      rw [HE.out]
      first
        | rfl
        | exact decide_eq_decide.2 (by omega)
    · have HE : Hid (bP (Ahead ds i j) = true) := bP_t (HA.out.2 ⟨h1, .inl (by simpa using h2)⟩)
      go_enter Tryd.func71, Tryd.ntmps71
      go_wp2
      go_quiet (fail)
      go_wp2
      go_ret
      exact ⟨ret_b HE.out.symm, below_drewN HB0.out _⟩
  · have h1' : j ≤ i := by omega
    have HE : Hid (bP (Ahead ds i j) = false) := bP_f fun h => h1 (HA.out.1 h).1
    clear h1
    go_enter Tryd.func71, Tryd.ntmps71
    go_wp2
    go_ret
    exact ⟨ret_b HE.out.symm, HB0.out⟩

set_option maxRecDepth 20000 in
set_option maxHeartbeats 2000000 in
theorem specAheadOf_any (A : Option Addr) (ds : List Dn) (c : Nat) (hs i j : Int) (w : World) (hx : Dos w w.heap.size A ds) (hn : ds.length ≤ 1048576) (hc : ds.length ≤ c) :
    Calls Tryd.prog 20 #[.slice A ds.length c, .int .i64 hs, .int .i64 i, .int .i64 j] w fun e w' => e = .returned (.tuple #[.bool (aheadV ds hs i j), .bool (aheadOk ds hs i j)]) ∧ Below w.heap.size w w' := by
  have HC := Lib.hid (l8Log_any A ds c hs w hx hn)
  have HX := Lib.hid hx; clear hx
  cases hg : bP (GoodW hs ds)
  · have HE : Hid (aheadV ds hs i j = false ∧ aheadOk ds hs i j = false) := ⟨bP_f fun h => bP_no hg h.1.1, bP_f fun h => bP_no hg h.1⟩
    go_enter Tryd.func20, Tryd.ntmps20
    go_wp2_with (go_at_call 70; refine HC.out.mono ?_; rintro e w1 ⟨rfl, hB⟩; rw [hg]; have HB := Lib.hid hB; clear hB)
    go_ret2
    exact ⟨by rw [HE.out.1, HE.out.2]; rfl, HB.out⟩
  have HG := Lib.hid (bP_is hg)
  cases h1 : inB 0 ((ds.length : Int) - 1) i
  · have HE : Hid (aheadV ds hs i j = false ∧ aheadOk ds hs i j = false) := ⟨bP_f fun h => by have := h.1.2.1; have := inB_no h1; omega, bP_f fun h => by have := h.2.1; have := inB_no h1; omega⟩
    go_enter Tryd.func20, Tryd.ntmps20
    go_wp2_with (first
      | (go_at_call 70; refine HC.out.mono ?_; rintro e w1 ⟨rfl, hB⟩; rw [hg]; have HB := Lib.hid hB; clear hB)
      | (go_at_call 64; refine (l1In_any _ _ _ _).mono ?_; rintro e w' ⟨rfl, rfl⟩; rw [h1]))
    go_ret2
    exact ⟨by rw [HE.out.1, HE.out.2]; rfl, HB.out⟩
  cases h2 : inB 0 ((ds.length : Int) - 1) j
  · have HE : Hid (aheadV ds hs i j = false ∧ aheadOk ds hs i j = false) := ⟨bP_f fun h => by have := h.1.2.2; have := inB_no h2; omega, bP_f fun h => by have := h.2.2; have := inB_no h2; omega⟩
    go_enter Tryd.func20, Tryd.ntmps20
    go_wp2_with (first
      | (go_at_call 70; refine HC.out.mono ?_; rintro e w1 ⟨rfl, hB⟩; rw [hg]; have HB := Lib.hid hB; clear hB)
      | (go_at_call 64; refine (l1In_any _ _ _ _).mono ?_; rintro e w' ⟨rfl, rfl⟩; first | rw [h1] | rw [h2]))
    go_ret2
    exact ⟨by rw [HE.out.1, HE.out.2]; rfl, HB.out⟩
  have hi0 := inB_lo h1
  have hi1 := inB_hi h1
  have hj0 := inB_lo h2
  have hj1 := inB_hi h2
  obtain ⟨p, rfl⟩ := Int.eq_ofNat_of_zero_le hi0
  obtain ⟨q, rfl⟩ := Int.eq_ofNat_of_zero_le hj0
  have hp : p < ds.length := by omega
  have hq : q < ds.length := by omega
  have hok : AheadOK ds hs p q := ⟨HG.out, ⟨by omega, by omega⟩, by omega, by omega⟩
  have HE : Hid (aheadV ds hs p q = bP (Ahead ds p q) ∧ aheadOk ds hs p q = true) := ⟨bP_congr ⟨fun h => h.2, fun h => ⟨hok, h⟩⟩, bP_t hok⟩
  clear hok hi0 hi1 hj0 hj1
  have HI := Lib.hid (fun v (hv : Dos v v.heap.size A ds) => l8Ahead_any A ds c p q v hv HG.out.2.1 hc hp hq)
  go_enter Tryd.func20, Tryd.ntmps20
  go_wp2_with (first
    | (go_at_call 70; refine HC.out.mono ?_; rintro e w1 ⟨rfl, hB⟩; rw [hg]; have HB := Lib.hid hB; clear hB)
    | (go_at_call 64; refine (l1In_any _ _ _ _).mono ?_; rintro e w' ⟨rfl, rfl⟩; first | rw [h1] | rw [h2])
    | (go_at_call 71
       refine (HI.out _ ((HX.out.keep HB.out).more HB.out.size)).mono ?_
       rintro e w3 ⟨rfl, hB⟩
       have HB3 := Lib.hid (HB.out.trans (hB.mono HB.out.size))
       clear hB))
  go_ret2
  exact ⟨by rw [HE.out.1, HE.out.2]; rfl, HB3.out⟩

end Go.Proofs.YtfbpcdmpkbjifaaDoor
