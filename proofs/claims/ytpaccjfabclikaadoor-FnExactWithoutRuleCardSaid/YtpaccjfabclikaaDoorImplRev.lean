/- What the program's ReverseOf answers. -/
import Derived.Test.YtpaccjfabclikaaDoorCopyG
import Derived.Test.YtpaccjfabclikaaDoorImplGood3
import Derived.Test.YtpaccjfabclikaaDoorMark2
namespace Go.Proofs.YtpaccjfabclikaaDoor
open Go.RowKit

def revU (u : Int × List Int) : Int × List Int := (u.1, u.2.reverse)
def revA (ss : List (Int × List Int)) : List (Int × List Int) := ss.map revU
/-- A grammar's answer: its numbers and its rules; zero where there is none. -/
def ansN (b : Bool) (n : Int) : Int := if b then n else 0
def ansR (b : Bool) (ss : List (Int × List Int)) : List (Int × List Int) := if b then ss else []

/-- A new grammar, and a bool. -/
def GaveGB (w : World) (n t : Int) (ss : List (Int × List Int)) (b : Bool) (e : Ending) (w' : World) : Prop :=
  ∃ A c, ∃ rs : List Ru, e = .returned (.tuple #[.agg #[.int .i64 (ansN b n), .int .i64 (ansN b t), .slice A rs.length c], .bool b]) ∧ OwnR w' w.heap.size A rs ∧ rs.map Ru.abs = ansR b ss ∧ Below w.heap.size w w'

theorem gave_none {w w' : World} {n t : Int} {ss : List (Int × List Int)} (hb : Below w.heap.size w w') : GaveGB w n t ss false (.returned (.tuple #[.agg #[.int .i64 0, .int .i64 0, .slice none 0 0], .bool false])) w' :=
  ⟨none, 0, [], rfl, .inl rfl, rfl, hb⟩

/-- The rules with the first k right sides turned round. -/
def revTo' (rs : List Ru) (k : Nat) : List Ru := rs.mapIdx fun j u => if j < k then { u with r := u.r.reverse } else u
theorem revTo'_length (rs : List Ru) (k : Nat) : (revTo' rs k).length = rs.length := by simp [revTo']
theorem revTo'_at {rs : List Ru} {k j : Nat} (h : j < rs.length) (hj : j < (revTo' rs k).length) : (revTo' rs k)[j] = if j < k then { rs[j] with r := rs[j].r.reverse } else rs[j] := by simp [revTo']
theorem revTo'_zero (rs : List Ru) : revTo' rs 0 = rs := by
  apply List.ext_getElem?
  intro j
  simp [revTo']
theorem revTo'_step {rs : List Ru} {k : Nat} (h : k < rs.length) : (revTo' rs k).set k { rs[k] with r := rs[k].r.reverse } = revTo' rs (k + 1) := by
  apply List.ext_getElem
  · simp [revTo'_length]
  · intro j h1 h2
    rw [revTo'_length] at h2
    rw [revTo'_at (k := k + 1) h2, List.getElem_set]
    by_cases e : k = j
    · subst e; rw [if_pos rfl, if_pos (by omega)]
    · rw [if_neg e, revTo'_at h2]
      by_cases e3 : j < k
      · rw [if_pos e3, if_pos (by omega)]
      · rw [if_neg e3, if_neg (by omega)]
theorem revTo'_done {rs : List Ru} {k : Nat} (h : ¬ k < rs.length) : (revTo' rs k).map Ru.abs = revA (rs.map Ru.abs) := by
  unfold revA
  apply List.ext_getElem
  · simp [revTo'_length]
  · intro j h1 h2
    simp only [List.length_map] at h2
    rw [List.getElem_map, List.getElem_map, List.getElem_map, revTo'_at h2, if_pos (by omega)]
    rfl

theorem OwnI.itsBy {w : World} {lo : Nat} {A : Option Addr} {xs : List Int} (h : OwnI w lo A xs) {b : Nat} (hb : Its A xs b) : lo ≤ b ∧ b < w.heap.size := by
  rcases h with h | ⟨g, cs, e, hl, hr, _⟩
  · exact absurd h hb.2
  · have := hb.1.symm.trans e
    injection this with this
    injection this with this
    subst this
    exact ⟨hl, hr.lt⟩
theorem OwnI.not_its {w : World} {lo g : Nat} {A : Option Addr} {xs : List Int} {t : TypeId} {cs : Array Value} (h : OwnI w lo A xs) (hr : Row w g t cs) (ht : t ≠ 3) : ¬ Its A xs g := by
  intro hb
  rcases h with h | ⟨g', cs', e, hl, hr', _⟩
  · exact hb.2 h
  · have := hb.1.symm.trans e
    injection this with this
    injection this with this
    subst this
    exact hr.ne hr' ht rfl
theorem abs_len' {rs ss : List Ru} (h : ss.map Ru.abs = rs.map Ru.abs) : ss.length = rs.length := by simpa using congrArg List.length h
theorem abs_lens' {rs ss : List Ru} (h : ss.map Ru.abs = rs.map Ru.abs) {m : Nat} (hu : ∀ u ∈ rs, u.r.length ≤ m) : ∀ u ∈ ss, u.r.length ≤ m := fun u hm => by
  have : u.abs ∈ rs.map Ru.abs := h ▸ List.mem_map.2 ⟨u, hm, rfl⟩
  obtain ⟨v, hv, e⟩ := List.mem_map.1 this
  have e2 : v.r = u.r := congrArg Prod.snd e
  rw [← e2]; exact hu v hv

set_option maxHeartbeats 1000000 in
theorem implRev_any (n t : Int) (A : Option Addr) (c : Nat) (rs : List Ru) (w : World) (hx : Rls w w.heap.size A rs) (hL : Lims w) (hc : rs.length ≤ c) (h1 : rs.length ≤ 1048576) (h2 : ∀ u ∈ rs, u.r.length ≤ 1048576) (hf : FitR rs) :
    Calls Tryd.prog 27 #[.agg #[.int .i64 n, .int .i64 t, .slice A rs.length c]] w (GaveGB w n t (revA (rs.map Ru.abs)) (goodG n t (rs.map Ru.abs))) := by
  have HX := Lib.hid hx; clear hx
  have HL := Lib.hid hL; clear hL
  have HF := Lib.hid hf; clear hf
  have H2 := Lib.hid h2; clear h2
  generalize hW : ((w.alloc (.cells #[.int .i64 n, .int .i64 t, .slice A rs.length c] 29)).alloc (.cells #[.int .i64 0, .int .i64 0, .slice none 0 0] 29)) = W
  have HB0 : Hid (Below w.heap.size w W) := by subst hW; show Below _ _ _; go_grown
  have B0 : Hid (Box3 W w.heap.size (.int .i64 n) (.int .i64 t) (.slice A rs.length c)) := by subst hW; exact ⟨by simp; omega, by simp [go_sem], by simp [go_sem], by simp [go_sem]⟩
  have R0 : Hid (Row W (w.heap.size + 1) 29 #[.int .i64 0, .int .i64 0, .slice none 0 0]) := by
    subst hW
    have h := Row.new (w.alloc (.cells #[.int .i64 n, .int .i64 t, .slice A rs.length c] 29)) 29 #[.int .i64 0, .int .i64 0, .slice none 0 0]
    rwa [World.size_alloc] at h
  have HWE := Lib.hid hW; clear hW
  go_enter Tryd.func27, Tryd.ntmps27
  go_wp2_with fail
  rw [HWE.out]
  refine (goodGrammar_any _ _ _ _ _ _ ((HX.out.keep HB0.out).more HB0.out.size) (HL.out.keep HB0.out (Nat.le_refl _)) hc h1 H2.out HF.out).mono ?_
  rintro e w1 ⟨rfl, hB1⟩
  have B1 := Lib.hid (B0.out.keep hB1 B0.out.1)
  have R1 := Lib.hid (R0.out.below hB1 R0.out.lt)
  have HB1 := Lib.hid (HB0.out.trans (hB1.mono HB0.out.size)); clear hB1
  clear HWE B0 R0 HB0
  have d0 := R1.out.cell 0
  have d1 := R1.out.cell 1
  have d2 := R1.out.cell 2
  have g0 := R1.out.frozen 0
  have g1 := R1.out.frozen 1
  have g2 := R1.out.frozen 2
  simp at d0 d1 d2
  cases hg : goodG n t (rs.map Ru.abs)
  · have HG := Lib.hid hg; clear hg
    go_wp2
    refine bodyPost_ret (v := .tuple #[.agg #[.int .i64 0, .int .i64 0, .slice none 0 0], .bool false]) (by simp [results, Tryd.results27, go_sem, d0, d1, d2]) rfl ?_
    rw [HG.out]
    refine gave_none ?_
    exact ((HB1.out.setCell (by simp) _).setCell (by simp) _).setCell (by simp) _
  have HG := Lib.hid hg; clear hg
  obtain ⟨_, b0, b1, b2⟩ := B1.out
  go_wp2_with fail
  refine (copyGrammar_any _ _ _ _ _ _ ((HX.out.keep HB1.out).more HB1.out.size) h1 H2.out).mono ?_
  rintro e w2 ⟨A2, c2, rs2, rfl, _, hO2, ha2, hB2⟩
  have hl2 := abs_len' ha2
  have HL2 : Hid (∀ u ∈ rs2, u.r.length ≤ 1048576) := abs_lens' ha2 H2.out
  have hlen2 : rs2.length ≤ 1048576 := by omega
  have HA2 := Lib.hid ha2; clear ha2
  have R2 := Lib.hid (R1.out.below hB2 R1.out.lt)
  have HLO := Lib.hid R1.out.lt
  have HB2 := Lib.hid (HB1.out.trans (hB2.mono HB1.out.size)); clear hB2
  have HO2 := Lib.hid hO2; clear hO2
  clear b0 b1 b2 d0 d1 d2 g0 g1 g2 hl2
  go_wp2
  go_loopw [16] (fun i wr => ∃ (k : Nat), k ≤ rs2.length ∧ i = .int .i64 k ∧ Below w.heap.size w wr ∧ Hid (OwnR wr w1.heap.size A2 (revTo' rs2 k)) ∧ Hid (Row wr (w.heap.size + 1) 29 #[.int .i64 0, .int .i64 0, .slice none 0 0]) ∧ Hid (Row wr w2.heap.size 29 #[.int .i64 n, .int .i64 t, .slice A2 rs2.length c2])) (fun i _ => rs2.length - (intOf i).toNat)
  case atStart => exact ⟨0, by omega, rfl, HB2.out.alloc HB2.out.size _, by show OwnR _ _ _ _; rw [revTo'_zero]; exact HO2.out.below (B := w2.heap.size) ((Below.refl _ _).alloc (Nat.le_refl _) _) (Nat.le_refl _), R2.out.alloc _, Row.new _ _ _⟩
  case round =>
    obtain ⟨k, hk, rfl, hB, HO, HR1, HR2⟩ := hrel
    by_cases hlt : k < rs2.length
    · have hlt' : k < (revTo' rs2 k).length := by rw [revTo'_length]; exact hlt
      have hat : (revTo' rs2 k)[k] = rs2[k] := by rw [revTo'_at hlt, if_neg (by omega)]
      obtain ⟨g, rfl, _, _, c1, c2', f1, f2, c3⟩ := HO.out.at_ hlt'
      rw [hat] at c1 c2' c3
      have hul := HL2.out rs2[k] (List.getElem_mem hlt)
      have HAT := Lib.hid hat; clear hat
      have hBA : Below wr.heap.size wr (wr.alloc (.cells #[.int .i64 rs2[k].l, .slice rs2[k].a rs2[k].r.length rs2[k].c] 52)) := by go_grown
      have C3 := Lib.hid (c3.below hBA (Nat.le_refl _)); clear c3
      have HOA := Lib.hid (HO.out.below hBA (Nat.le_refl _))
      have HBA := Lib.hid hBA; clear hBA
      go_wp2_with fail
      refine (reverse_any _ _ _ w1.heap.size _ C3.out hul).mono ?_
      rintro e w3 ⟨rfl, hO3, hS3⟩
      have HST : Hid (OwnR w3 w1.heap.size (some ⟨g, 0, none⟩) (revTo' rs2 (k + 1))) := by
        have h := HOA.out.setRight hlt' (w' := w3) (ys := rs2[k].r.reverse) (by rw [HAT.out]; simp) (by rw [HAT.out]; exact hO3) (by rw [HAT.out]; exact hS3)
        rw [HAT.out, revTo'_step hlt] at h
        exact h
      have HB3 : Hid (Below w.heap.size w w3) := hB.trans ((HBA.out.mono hB.size).trans (hS3.below (by have := hB.size; simp; omega) fun i hi hI => by have := (C3.out.itsBy hI).1; have := HLO.out; omega))
      have HR13 := Lib.hid ((HR1.out.alloc (.cells #[.int .i64 rs2[k].l, .slice rs2[k].a rs2[k].r.length rs2[k].c] 52)).save hS3 (C3.out.not_its (HR1.out.alloc _) (by decide)))
      have HR23 := Lib.hid ((HR2.out.alloc (.cells #[.int .i64 rs2[k].l, .slice rs2[k].a rs2[k].r.length rs2[k].c] 52)).save hS3 (C3.out.not_its (HR2.out.alloc _) (by decide)))
      clear hO3 hS3 c1 c2' f1 f2
      go_wp2
      go_roundw
      case rel => exact ⟨k + 1, by omega, by go_num, HB3.out, HST.out, HR13.out, HR23.out⟩
      case measure => simp [intOf]; omega
    · have HD := Lib.hid (revTo'_done hlt)
      have o0 := HR2.out.cell 0
      have o1 := HR2.out.cell 1
      have o2 := HR2.out.cell 2
      have d0 := HR1.out.cell 0
      have d1 := HR1.out.cell 1
      have d2 := HR1.out.cell 2
      have g0 := HR1.out.frozen 0
      have g1 := HR1.out.frozen 1
      have g2 := HR1.out.frozen 2
      simp at o0 o1 o2 d0 d1 d2
      have hlo := HLO.out
      go_wp2
      refine bodyPost_ret (v := .tuple #[.agg #[.int .i64 n, .int .i64 t, .slice A2 rs2.length c2], .bool true]) (by simp [results, Tryd.results27, go_sem, d0, d1, d2]) rfl ⟨A2, c2, revTo' rs2 k, by rw [revTo'_length, HG.out]; rfl, ?_, ?_, ?_⟩
      · exact (((HO.out.low (by simp; omega) _).low (by simp; omega) _).low (by simp; omega) _).lower HB1.out.size
      · rw [HD.out, HA2.out, HG.out]; rfl
      · exact ((hB.setCell (by simp) _).setCell (by simp) _).setCell (by simp) _

end Go.Proofs.YtpaccjfabclikaaDoor
