/- The program's tryReading: the deferred function that catches what the reader gives up with. -/
import Derived.Test.YtaaagcokjndaoaaDoorRdW
import Derived.Recover
namespace Go.Proofs.YtaaagcokjndaoaaDoor
open Go.RowKit

theorem assert_fault (code place : Int) (w : World) : (Instr.typeAssert (faultV code place) 20 67 true).run Tryd.prog w = .ok (.tuple #[.agg #[.int .i64 code, .int .i64 place], .bool true]) w := by
  kernel_rfl
theorem assert_nil (w : World) : (Instr.typeAssert .nilIface 20 67 true).run Tryd.prog w = .ok (.tuple #[.agg #[.int .i64 0, .int .i64 0], .bool false]) w := by
  kernel_rfl

set_option maxRecDepth 20000 in
set_option maxHeartbeats 1000000 in
theorem catch_panicking (F : Nat) (code place : Int) (w : World) (hR : Row w F 67 #[.int .i64 0, .int .i64 0]) :
    CallsD Tryd.prog 72 #[.pointer (some ⟨F, 0, none⟩)] (.panicking [{ v := faultV code place, recovered := false }]) w fun e u' w' =>
      e = .returned (.tuple #[]) ∧ u' = .panicking [{ v := faultV code place, recovered := true }] ∧ Row w' F 67 #[.int .i64 code, .int .i64 place] ∧ Save (· = F) w w' := by
  have kf := assert_fault code place
  have hA := hR.alloc (.cells #[.int .i64 code, .int .i64 place] 67)
  have c0 : (w.alloc (.cells #[.int .i64 code, .int .i64 place] 67)).cell? ⟨F, 0, none⟩ = some (.int .i64 0) := hA.cell 0
  have c1 : (w.alloc (.cells #[.int .i64 code, .int .i64 place] 67)).cell? ⟨F, 1, none⟩ = some (.int .i64 0) := hA.cell 1
  have z0 := hA.frozen 0
  have z1 := hA.frozen 1
  have hlt := hR.lt
  refine callsD_of_wpS Tryd.func72 rfl fun c₀ cs hu => ?_
  apply wpS_seq
  apply wpS_region
  simp [wpOpsS, go_sem, recoverD, hu, Tryd.ntmps72, Exit.thenS, kf]
  apply wpS_seq
  apply wpS_region
  simp [wpOpsS, go_sem, Exit.thenS]
  refine wpS_cond (t := true) (by simp [Act.eval, Array.replicate]) ?_
  simp only [if_true]
  apply wpS_region
  simp [wpOpsS, go_sem, c0, c1, z0, z1, bodyPostS, results, Tryd.results72]
  refine ⟨(hA.set 0 _).set 1 _, ?_⟩
  exact Save.setCell (S := (· = F)) (p := ⟨F, 1, none⟩) (Save.setCell (S := (· = F)) (p := ⟨F, 0, none⟩) (Save.of_below (by go_grown)) rfl _) rfl _

set_option maxRecDepth 20000 in
set_option maxHeartbeats 1000000 in
theorem catch_idle (F : Nat) (w : World) :
    CallsD Tryd.prog 72 #[.pointer (some ⟨F, 0, none⟩)] .returning w fun e u' w' => e = .returned (.tuple #[]) ∧ u' = .returning ∧ Below w.heap.size w w' := by
  have kn := assert_nil
  refine callsD_of_wpS Tryd.func72 rfl fun c₀ cs hu => ?_
  apply wpS_seq
  apply wpS_region
  simp [wpOpsS, go_sem, recoverD, hu, Tryd.ntmps72, Exit.thenS, kn]
  apply wpS_seq
  apply wpS_region
  simp [wpOpsS, go_sem, Exit.thenS]
  refine wpS_cond (t := false) (by simp [Act.eval, Array.replicate]) ?_
  simp only [Bool.false_eq_true, if_false]
  refine wpS_of_wp (wp_skip ?_)
  cases c₀
  simp_all [bodyPostS, results, Tryd.results72]
  go_grown

/-- What tryReading ends in where readWord was tried. -/
def WordTried (w : World) (R : Nat) (s : ByteArray) (n t : Int) (rv : Value) (e : Ending) (w' : World) : Prop :=
  Save (· = R) w w' ∧ ((badW t s = none ∧ e = .returned (.tuple #[.agg #[.int .i64 0, .int .i64 0], .bool true]) ∧ ∃ A c, Rdr w' R s s.size n t rv (.slice A (rwL t s).length c) ∧ OwnI w' w.heap.size A (rwL t s)) ∨
    (∃ k : Nat, badW t s = some k ∧ e = .returned (.tuple #[.agg #[.int .i64 3, .int .i64 k], .bool false])))

set_option maxRecDepth 20000 in
set_option maxHeartbeats 2000000 in
theorem tryWord_any (R : Nat) (s : ByteArray) (n t : Int) (Ar : Option Addr) (m c : Nat) (w : World) (h : Rdr w R s 0 n t (.slice Ar m c) (.slice none 0 0)) (hz : s.size ≤ 1048576) (hN : NonT w) (hT : TokT w) (hRN : R ≠ 1) (hRT : R ≠ 0) :
    Calls Tryd.prog 42 #[.func (.func 58) #[.pointer (some ⟨R, 0, none⟩)] #[]] w (WordTried w R s n t (.slice Ar m c)) := by
  have hmf : ∀ (fn : Fn) (first cap : Array Value) (w : World), (Instr.makeFunc fn first cap).run Tryd.prog w = .ok (.func fn first cap) w := fun _ _ _ _ => rfl
  have hRlt := Row.lt h
  have HB0 : Hid (Below w.heap.size w (w.alloc (.cells #[.int .i64 0, .int .i64 0] 67))) := by show Below _ _ _; go_grown
  have HF0 := Lib.hid (Row.new w 67 #[.int .i64 0, .int .i64 0])
  have HR := Lib.hid (Rdr.below h HB0.out (Nat.le_refl _)); clear h
  have HN := Lib.hid (hN.keep HB0.out (Nat.le_refl _)); clear hN
  have HT := Lib.hid (hT.keep HB0.out (Nat.le_refl _)); clear hT
  go_enter_defers Tryd.func42, Tryd.ntmps42
  go_wp2_with fail
  refine (readWord_any _ _ _ _ _ _ _ _ HR.out hz HN.out HT.out hRN hRT).mono ?_
  rintro e w1 ⟨hS, ⟨hb, rfl, Aw, cw, hRd, hO⟩ | ⟨k, hb, rfl⟩⟩
  · have HF1 := Lib.hid (HF0.out.save hS (fun e : w.heap.size = R => by omega))
    have c0 : w1.cell? ⟨w.heap.size, 0, none⟩ = some (.int .i64 0) := HF1.out.cell 0
    have c1 : w1.cell? ⟨w.heap.size, 1, none⟩ = some (.int .i64 0) := HF1.out.cell 1
    have z0 := HF1.out.frozen 0
    have z1 := HF1.out.frozen 1
    have HS := Lib.hid hS; clear hS
    have HBD := Lib.hid hb; clear hb
    have HRd := Lib.hid hRd; clear hRd
    have HO := Lib.hid hO; clear hO
    go_wp2
    clear c0 c1 z0 z1
    refine leaves_cons (f := 72) (args := #[.pointer (some ⟨w.heap.size, 0, none⟩)]) (by simp) (by simp [go_sem]) ?_
    refine (catch_idle w.heap.size _).mono ?_
    rintro e u' w2 ⟨rfl, rfl, hB2⟩
    have hSF : Save (· = w.heap.size) w1 w2 := (Save.setCell (S := (· = w.heap.size)) (p := ⟨w.heap.size, 1, none⟩) (Save.setCell (S := (· = w.heap.size)) (p := ⟨w.heap.size, 0, none⟩) (Save.refl _ _) rfl _) rfl _).trans (Save.of_below hB2)
    have hF2 : Row w2 w.heap.size 67 #[.int .i64 0, .int .i64 0] := ((HF1.out.set 0 (.int .i64 0)).set 1 (.int .i64 0)).below hB2 (by simp [World.setCell]; have := HF1.out.lt; omega)
    have g0 : w2.cell? ⟨w.heap.size, 0, none⟩ = some (.int .i64 0) := hF2.cell 0
    have g1 : w2.cell? ⟨w.heap.size, 1, none⟩ = some (.int .i64 0) := hF2.cell 1
    have hfin : WordTried w R s n t (.slice Ar m c) (.returned (.tuple #[.agg #[.int .i64 0, .int .i64 0], .bool true])) w2 := by
      refine ⟨?_, .inl ⟨HBD.out, rfl, Aw, cw, ?_, ?_⟩⟩
      · refine ⟨hSF.os.trans (HS.out.os.trans HB0.out.os), hSF.tape.trans (HS.out.tape.trans HB0.out.tape), hSF.output.trans (HS.out.output.trans HB0.out.output), Nat.le_trans HB0.out.size (Nat.le_trans HS.out.size hSF.size), fun b hb hs => ?_⟩
        have e1 := HB0.out.size
        have e2 := HS.out.size
        exact (hSF.block b (by omega) (fun e : b = w.heap.size => by omega)).trans ((HS.out.block b (by omega) hs).trans (HB0.out.block b hb))
      · exact Row.save HRd.out hSF (fun e : R = w.heap.size => by omega)
      · refine OwnI.lower (HO.out.save hSF ?_) HB0.out.size
        rintro g e hne (rfl : g = w.heap.size)
        rcases HO.out with h | ⟨g', cs, e', hl, _⟩
        · exact hne h
        · have := e.symm.trans e'
          injection this with this
          injection this with this
          rw [World.size_alloc] at hl
          omega
    simp [Leaves, settle, results, Tryd.results42, go_sem, g0, g1]
    exact hfin
  · have HF1 := Lib.hid (HF0.out.save hS (fun e : w.heap.size = R => by omega))
    have HS := Lib.hid hS; clear hS
    have HBD := Lib.hid hb; clear hb
    go_wp2
    refine leaves_cons (f := 72) (args := #[.pointer (some ⟨w.heap.size, 0, none⟩)]) (by simp) (by simp [go_sem]) ?_
    refine (catch_panicking w.heap.size 3 k _ HF1.out).mono ?_
    rintro e u' w2 ⟨rfl, rfl, hF2, hSF⟩
    have g0 : w2.cell? ⟨w.heap.size, 0, none⟩ = some (.int .i64 3) := hF2.cell 0
    have g1 : w2.cell? ⟨w.heap.size, 1, none⟩ = some (.int .i64 (k : Int)) := hF2.cell 1
    have hfin : WordTried w R s n t (.slice Ar m c) (.returned (.tuple #[.agg #[.int .i64 3, .int .i64 (k : Int)], .bool false])) w2 := by
      refine ⟨?_, .inr ⟨k, HBD.out, rfl⟩⟩
      refine ⟨hSF.os.trans (HS.out.os.trans HB0.out.os), hSF.tape.trans (HS.out.tape.trans HB0.out.tape), hSF.output.trans (HS.out.output.trans HB0.out.output), Nat.le_trans HB0.out.size (Nat.le_trans HS.out.size hSF.size), fun b hb hs => ?_⟩
      have e1 := HB0.out.size
      have e2 := HS.out.size
      exact (hSF.block b (by omega) (fun e : b = w.heap.size => by omega)).trans ((HS.out.block b (by omega) hs).trans (HB0.out.block b hb))
    simp [Leaves, settle, results, Tryd.results42, go_sem, g0, g1]
    exact hfin

end Go.Proofs.YtaaagcokjndaoaaDoor
