/- What the program's ReadGrammar answers. -/
import Derived.Test.YtaaagcokjndaoaaDoorRgI4
import Derived.Test.YtaaagcokjndaoaaDoorTry
namespace Go.Proofs.YtaaagcokjndaoaaDoor
open Go.RowKit

/-- What tryReading ends in where readGrammar was tried. -/
def GramTried (w : World) (R lo : Nat) (s : ByteArray) (o : Out ((Int × Int) × List (Int × List Int))) (wv : Value) (e : Ending) (w' : World) : Prop :=
  Save (fun b => b = R ∨ lo ≤ b) w w' ∧ match o with
    | .ok a k' => ∃ v' ds, e = .returned (.tuple #[.agg #[.int .i64 0, .int .i64 0], .bool true]) ∧ Rdr w' R s k' a.1.1 a.1.2 v' wv ∧ RulesW w' lo v' ds ∧ ds.map Ru.abs = a.2
    | .bad code p => e = .returned (.tuple #[.agg #[.int .i64 code, .int .i64 p], .bool false])

theorem Save.three {S : Nat → Prop} {w W w1 w2 : World} {F : Nat} (hF : F = w.heap.size) (hB : Below w.heap.size w W) (hS : Save S W w1) (hSF : Save (· = F) w1 w2) : Save S w w2 := by
  refine ⟨hSF.os.trans (hS.os.trans hB.os), hSF.tape.trans (hS.tape.trans hB.tape), hSF.output.trans (hS.output.trans hB.output), Nat.le_trans hB.size (Nat.le_trans hS.size hSF.size), fun b hb hs => ?_⟩
  have e1 := hB.size
  have e2 := hS.size
  exact (hSF.block b (by omega) (fun e : b = F => by omega)).trans ((hS.block b (by omega) hs).trans (hB.block b hb))

set_option maxRecDepth 20000 in
set_option maxHeartbeats 2000000 in
theorem tryGram_any (R : Nat) (s : ByteArray) (wv : Value) (w : World) (h : Rdr w R s 0 0 0 (.slice none 0 0) wv) (hz : s.size ≤ 1048576) (hTb : Tabs w) (hR3 : 3 ≤ R) :
    Calls Tryd.prog 42 #[.func (.func 43) #[.pointer (some ⟨R, 0, none⟩)] #[]] w (GramTried w R (w.heap.size + 1) s (textF s) wv) := by
  have hmf : ∀ (fn : Fn) (first cap : Array Value) (w : World), (Instr.makeFunc fn first cap).run Tryd.prog w = .ok (.func fn first cap) w := fun _ _ _ _ => rfl
  have hRlt := Row.lt h
  have HB0 : Hid (Below w.heap.size w (w.alloc (.cells #[.int .i64 0, .int .i64 0] 67))) := by show Below _ _ _; go_grown
  have HF0 := Lib.hid (Row.new w 67 #[.int .i64 0, .int .i64 0])
  have HR := Lib.hid (Rdr.below h HB0.out (Nat.le_refl _)); clear h
  have HTb := Lib.hid (hTb.keep HB0.out); clear hTb
  go_enter_defers Tryd.func42, Tryd.ntmps42
  go_wp2_with fail
  refine (readGrammar_any R (w.heap.size + 1) s wv _ HR.out hz HTb.out hR3 (by omega) (by simp)).mono ?_
  rintro e w1 ⟨hS, h1⟩
  have HF1 := Lib.hid (HF0.out.save hS (fun e => by omega))
  cases ho : textF s with
  | ok a k' =>
    rw [ho] at h1
    obtain ⟨v', ds, rfl, hRd, hRU, hab⟩ := h1
    have HO := Lib.hid ho; clear ho
    have c0 : w1.cell? ⟨w.heap.size, 0, none⟩ = some (.int .i64 0) := HF1.out.cell 0
    have c1 : w1.cell? ⟨w.heap.size, 1, none⟩ = some (.int .i64 0) := HF1.out.cell 1
    have z0 := HF1.out.frozen 0
    have z1 := HF1.out.frozen 1
    have HS := Lib.hid hS; clear hS
    have HRd := Lib.hid hRd; clear hRd
    have HRU := Lib.hid hRU; clear hRU
    have HAB := Lib.hid hab; clear hab
    go_wp2
    clear c0 c1 z0 z1
    refine leaves_cons (f := 72) (args := #[.pointer (some ⟨w.heap.size, 0, none⟩)]) (by simp) (by simp [go_sem]) ?_
    refine (catch_idle w.heap.size _).mono ?_
    rintro e u' w2 ⟨rfl, rfl, hB2⟩
    have hSF : Save (· = w.heap.size) w1 w2 := (Save.setCell (S := (· = w.heap.size)) (p := ⟨w.heap.size, 1, none⟩) (Save.setCell (S := (· = w.heap.size)) (p := ⟨w.heap.size, 0, none⟩) (Save.refl _ _) rfl _) rfl _).trans (Save.of_below hB2)
    have hF2 : Row w2 w.heap.size 67 #[.int .i64 0, .int .i64 0] := ((HF1.out.set 0 (.int .i64 0)).set 1 (.int .i64 0)).below hB2 (by simp [World.setCell]; have := HF1.out.lt; omega)
    have g0 : w2.cell? ⟨w.heap.size, 0, none⟩ = some (.int .i64 0) := hF2.cell 0
    have g1 : w2.cell? ⟨w.heap.size, 1, none⟩ = some (.int .i64 0) := hF2.cell 1
    have hfin : GramTried w R (w.heap.size + 1) s (.ok a k') wv (.returned (.tuple #[.agg #[.int .i64 0, .int .i64 0], .bool true])) w2 :=
      ⟨Save.three rfl HB0.out HS.out hSF, v', ds, rfl, Row.save HRd.out hSF (fun e : R = w.heap.size => by omega), HRU.out.save hSF (fun b hb (e : b = w.heap.size) => by omega), HAB.out⟩
    simp [Leaves, settle, results, Tryd.results42, go_sem, g0, g1]
    rw [HO.out]
    exact hfin
  | bad code p =>
    rw [ho] at h1
    obtain rfl := h1
    clear ho
    have HS := Lib.hid hS; clear hS
    go_wp2
    refine leaves_cons (f := 72) (args := #[.pointer (some ⟨w.heap.size, 0, none⟩)]) (by simp) (by simp [go_sem]) ?_
    refine (catch_panicking w.heap.size code p _ HF1.out).mono ?_
    rintro e u' w2 ⟨rfl, rfl, hF2, hSF⟩
    have g0 : w2.cell? ⟨w.heap.size, 0, none⟩ = some (.int .i64 code) := hF2.cell 0
    have g1 : w2.cell? ⟨w.heap.size, 1, none⟩ = some (.int .i64 (p : Int)) := hF2.cell 1
    have hfin : GramTried w R (w.heap.size + 1) s (.bad code p) wv (.returned (.tuple #[.agg #[.int .i64 code, .int .i64 (p : Int)], .bool false])) w2 := ⟨Save.three rfl HB0.out HS.out hSF, rfl⟩
    simp [Leaves, settle, results, Tryd.results42, go_sem, g0, g1]
    exact hfin

/-- The answers, by what came out. -/
abbrev OutG := Out ((Int × Int) × List (Int × List Int))
def outN : OutG → Int | .ok a _ => a.1.1 | .bad _ _ => 0
def outT : OutG → Int | .ok a _ => a.1.2 | .bad _ _ => 0
def outS : OutG → List (Int × List Int) | .ok a _ => a.2 | .bad _ _ => []
def outC : OutG → Int | .ok _ _ => 0 | .bad c _ => c
def outP : OutG → Int | .ok _ _ => 0 | .bad _ p => (p : Int)
def outB : OutG → Bool | .ok _ _ => true | .bad _ _ => false
def rgO (s : ByteArray) : OutG := if s.size ≤ 600 then textF s else .bad 1 0

/-- A new grammar, two numbers and a bool. -/
def GaveG4 (w : World) (n t : Int) (ss : List (Int × List Int)) (code place : Int) (b : Bool) (e : Ending) (w' : World) : Prop :=
  ∃ A c ds, e = .returned (.tuple #[.agg #[.int .i64 n, .int .i64 t, .slice A ds.length c], .int .i64 code, .int .i64 place, .bool b]) ∧ ds.length ≤ c ∧ OwnR w' w.heap.size A ds ∧ ds.map Ru.abs = ss ∧ Below w.heap.size w w'

set_option maxRecDepth 20000 in
set_option maxHeartbeats 2000000 in
theorem implRG_any (s : ByteArray) (w : World) (hTb : Tabs w) (h3 : s.size ≤ 1048576) :
    Calls Tryd.prog 13 #[.string s] w (GaveG4 w (outN (rgO s)) (outT (rgO s)) (outS (rgO s)) (outC (rgO s)) (outP (rgO s)) (outB (rgO s))) := by
  have hmf : ∀ (fn : Fn) (first cap : Array Value) (w : World), (Instr.makeFunc fn first cap).run Tryd.prog w = .ok (.func fn first cap) w := fun _ _ _ _ => rfl
  have HTb := Lib.hid hTb; clear hTb
  have HB0 : Hid (Below w.heap.size w (w.alloc (.cells #[.int .i64 0, .int .i64 0, .slice none 0 0] 26))) := by show Below _ _ _; go_grown
  have HG0 := Lib.hid (Row.new w 26 #[.int .i64 0, .int .i64 0, .slice none 0 0])
  by_cases hl : s.size ≤ 600
  · have HE : Hid (rgO s = textF s) := if_pos hl
    have hw3 : 3 ≤ w.heap.size := by have := HTb.out.lims.pos; omega
    go_enter Tryd.func13, Tryd.ntmps13
    go_wp2_with fail
    have hRd : Rdr ((w.alloc (.cells #[.int .i64 0, .int .i64 0, .slice none 0 0] 26)).alloc (.cells #[.string s, .int .i64 0, .int .i64 0, .int .i64 0, .slice none 0 0, .slice none 0 0] 65)) (w.heap.size + 1) s 0 0 0 (.slice none 0 0) (.slice none 0 0) := by
      have := Row.new (w.alloc (.cells #[.int .i64 0, .int .i64 0, .slice none 0 0] 26)) 65 #[.string s, .int .i64 0, .int .i64 0, .int .i64 0, .slice none 0 0, .slice none 0 0]
      rw [World.size_alloc] at this
      exact this
    have hGW := HG0.out.alloc (.cells #[.string s, .int .i64 0, .int .i64 0, .int .i64 0, .slice none 0 0, .slice none 0 0] 65)
    have hBA : Below w.heap.size w ((w.alloc (.cells #[.int .i64 0, .int .i64 0, .slice none 0 0] 26)).alloc (.cells #[.string s, .int .i64 0, .int .i64 0, .int .i64 0, .slice none 0 0, .slice none 0 0] 65)) := by go_grown
    generalize ((w.alloc (.cells #[.int .i64 0, .int .i64 0, .slice none 0 0] 26)).alloc (.cells #[.string s, .int .i64 0, .int .i64 0, .int .i64 0, .slice none 0 0, .slice none 0 0] 65)) = W at hRd hGW hBA ⊢
    have HBA := Lib.hid hBA; clear hBA
    have HGW := Lib.hid hGW; clear hGW
    have hRl := Row.lt hRd
    refine (tryGram_any (w.heap.size + 1) s _ _ hRd h3 (HTb.out.keep HBA.out) (by omega)).mono ?_
    rintro e w3 ⟨hS, h1⟩
    clear hRd
    have HG3 := Lib.hid (HGW.out.save hS (fun e => by omega))
    have HW3 : Hid (Below w.heap.size w w3) := HBA.out.trans (hS.below HBA.out.size fun i hi e => by omega)
    clear hS
    cases ho : textF s with
    | ok a k' =>
      rw [ho] at h1
      obtain ⟨v', ds, rfl, hRd, hRU, hab⟩ := h1
      obtain ⟨⟨n, t⟩, ss⟩ := a
      have HO : Hid (rgO s = .ok ((n, t), ss) k') := HE.out.trans ho
      clear ho
      obtain ⟨Ad, cd, rfl, hcap, hOR⟩ := hRU.slice
      have hRA := Row.alloc hRd (.cells #[.int .i64 0, .int .i64 0] 67)
      have hGA := HG3.out.alloc (.cells #[.int .i64 0, .int .i64 0] 67)
      have HBx := Lib.hid (HW3.out.alloc HW3.out.size (.cells #[.int .i64 0, .int .i64 0] 67))
      have HOx := Lib.hid (hOR.below (B := w3.heap.size) (w' := w3.alloc (.cells #[.int .i64 0, .int .i64 0] 67)) (by go_grown) (Nat.le_refl _))
      have r2 : (w3.alloc (.cells #[.int .i64 0, .int .i64 0] 67)).cell? ⟨w.heap.size + 1, 2, none⟩ = some (.int .i64 n) := hRA.cell 2
      have r3 : (w3.alloc (.cells #[.int .i64 0, .int .i64 0] 67)).cell? ⟨w.heap.size + 1, 3, none⟩ = some (.int .i64 t) := hRA.cell 3
      have r4 : (w3.alloc (.cells #[.int .i64 0, .int .i64 0] 67)).cell? ⟨w.heap.size + 1, 4, none⟩ = some (.slice Ad ds.length cd) := hRA.cell 4
      have g0 : (w3.alloc (.cells #[.int .i64 0, .int .i64 0] 67)).cell? ⟨w.heap.size, 0, none⟩ = some (.int .i64 0) := hGA.cell 0
      have g1 : (w3.alloc (.cells #[.int .i64 0, .int .i64 0] 67)).cell? ⟨w.heap.size, 1, none⟩ = some (.int .i64 0) := hGA.cell 1
      have g2 : (w3.alloc (.cells #[.int .i64 0, .int .i64 0] 67)).cell? ⟨w.heap.size, 2, none⟩ = some (.slice none 0 0) := hGA.cell 2
      have z0 := hGA.frozen 0
      have z1 := hGA.frozen 1
      have z2 := hGA.frozen 2
      have HAB := Lib.hid hab; clear hab
      have HGA := Lib.hid hGA; clear hGA
      clear hRA hOR hRU hRd
      go_wp2
      have hfr := ((HGA.out.set 0 (.int .i64 n)).set 1 (.int .i64 t)).set 2 (.slice Ad ds.length cd)
      have d0 := hfr.cell 0
      have d1 := hfr.cell 1
      have d2 := hfr.cell 2
      simp at d0 d1 d2
      refine bodyPost_ret (v := .tuple #[.agg #[.int .i64 n, .int .i64 t, .slice Ad ds.length cd], .int .i64 0, .int .i64 0, .bool true]) (by simp [results, Tryd.results13, go_sem, d0, d1, d2]) rfl ?_
      rw [HO.out]
      refine ⟨Ad, cd, ds, rfl, hcap, ?_, HAB.out, ((HBx.out.setCell (by simp) _).setCell (by simp) _).setCell (by simp) _⟩
      exact OwnR.lower (((HOx.out.low (by simp; omega) _).low (by simp; omega) _).low (by simp; omega) _) (by omega)
    | bad code p =>
      rw [ho] at h1
      obtain rfl := h1
      have HO : Hid (rgO s = .bad code p) := HE.out.trans ho
      clear ho
      have hGA := HG3.out.alloc (.cells #[.int .i64 code, .int .i64 (p : Int)] 67)
      have HBx := Lib.hid (HW3.out.alloc HW3.out.size (.cells #[.int .i64 code, .int .i64 (p : Int)] 67))
      have g0 : (w3.alloc (.cells #[.int .i64 code, .int .i64 (p : Int)] 67)).cell? ⟨w.heap.size, 0, none⟩ = some (.int .i64 0) := hGA.cell 0
      have g1 : (w3.alloc (.cells #[.int .i64 code, .int .i64 (p : Int)] 67)).cell? ⟨w.heap.size, 1, none⟩ = some (.int .i64 0) := hGA.cell 1
      have g2 : (w3.alloc (.cells #[.int .i64 code, .int .i64 (p : Int)] 67)).cell? ⟨w.heap.size, 2, none⟩ = some (.slice none 0 0) := hGA.cell 2
      have z0 := hGA.frozen 0
      have z1 := hGA.frozen 1
      have z2 := hGA.frozen 2
      have HGA := Lib.hid hGA; clear hGA
      have hn1 : ¬ w3.heap.size = w.heap.size := by have := HG3.out.lt; omega
      have hn2 : ¬ w.heap.size = w3.heap.size := by omega
      go_wp2
      go_region
      all_goals
        go_wp2
        have hfr := ((HGA.out.set 0 (.int .i64 0)).set 1 (.int .i64 0)).set 2 (.slice none 0 0)
        have d0 := hfr.cell 0
        have d1 := hfr.cell 1
        have d2 := hfr.cell 2
        simp at d0 d1 d2
        refine bodyPost_ret (v := .tuple #[.agg #[.int .i64 0, .int .i64 0, .slice none 0 0], .int .i64 code, .int .i64 (p : Int), .bool false]) (by simp [results, Tryd.results13, go_sem, d0, d1, d2]) rfl ?_
        rw [HO.out]
        refine ⟨none, 0, [], rfl, by simp, .inl rfl, rfl, ?_⟩
        exact Below.trans (((HBx.out.setCell (by simp) _).setCell (by simp) _).setCell (by simp) _) ⟨rfl, rfl, rfl, Nat.le_refl _, fun _ _ => rfl⟩
  · have HE : Hid (rgO s = .bad 1 0) := if_neg hl
    have hl' : (600 : Int) < (s.size : Int) := by omega
    go_enter Tryd.func13, Tryd.ntmps13
    go_wp2
    have d0 := HG0.out.cell 0
    have d1 := HG0.out.cell 1
    have d2 := HG0.out.cell 2
    simp at d0 d1 d2
    refine bodyPost_ret (v := .tuple #[.agg #[.int .i64 0, .int .i64 0, .slice none 0 0], .int .i64 1, .int .i64 0, .bool false]) (by simp [results, Tryd.results13, go_sem]) rfl ?_
    rw [HE.out]
    exact ⟨none, 0, [], rfl, by simp, .inl rfl, rfl, HB0.out⟩

end Go.Proofs.YtaaagcokjndaoaaDoor
