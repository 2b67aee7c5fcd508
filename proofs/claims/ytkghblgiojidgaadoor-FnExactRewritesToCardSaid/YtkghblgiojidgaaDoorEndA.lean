/- The program's function that tells the places behind what symbols derive. -/
import Derived.Test.YtkghblgiojidgaaDoorEndI
namespace Go.Proofs.YtkghblgiojidgaaDoor
open Go.RowKit

set_option maxRecDepth 100000 in
theorem enter_one (xs : Array Value) (v : World) : Sem.run Tryd.prog (callFunc 128 xs) v = .ok (.enter 128 xs) v := rfl

theorem seqD_start {D : Int → Nat → Nat → Prop} {ws xs : List Int} {i : Nat} (hi : i < 11) : Msk (pw i) fun j => SeqD D ws (xs.take 0) i j := (msk_one hi).congr fun _ => ⟨fun e => e.symm, fun e => e.symm⟩
theorem u16_orK {a b : Nat} (ha : a < 2048) (hb : b < 2048) : bits .or .u16 (a : Int) (b : Int) = ((a ||| b : Nat) : Int) := by
  rw [u16_or _ _ (by omega) (by omega) (by omega) (by omega), Int.toNat_natCast, Int.toNat_natCast]
def orK (a b : Nat) : Nat := a ||| b
theorem u16_or' {a b : Nat} (ha : a < 2048) (hb : b < 2048) : bits .or .u16 (a : Int) (b : Int) = (orK a b : Int) := u16_orK ha hb

set_option maxRecDepth 20000 in
set_option maxHeartbeats 1000000 in
theorem ends_any (R P W O : Nat) (Aw : Option Addr) (cw : Nat) (ws : List Int) (K : Nat → Nat → Nat) (Ar : Option Addr) (xs : List Int) (cr : Nat) (i : Nat) (v : World) (hE : EnvK v R P W O Aw cw ws K) (hK : ∀ x i, K x i < 2048) (hw : ws.length ≤ 10) (hr : Ints v v.heap.size Ar xs) (hx : ∀ x ∈ xs, -10 ≤ x ∧ x < 6) (hl : xs.length ≤ 40) (hi : i < 11) :
    Calls Tryd.prog 127 #[.slice Ar xs.length cr, .int .i64 (i : Int), .pointer (some ⟨O, 0, none⟩)] v fun e v' => ∃ m : Nat, e = .returned (.int .u16 (m : Int)) ∧ Msk m (fun j => SeqD (DK K) ws xs i j) ∧ v' = v := by
  have h5 := hE.2.2.2.2.1
  have HE := Lib.hid hE; clear hE
  have HK := Lib.hid hK; clear hK
  have HR := Lib.hid hr; clear hr
  have HX := Lib.hid hx; clear hx
  have HS := Lib.hid (seqD_start (D := DK K) (ws := ws) (xs := xs) hi)
  go_enter Tryd.func127, Tryd.ntmps127
  go_wp2_with fail
  refine (placeAt_any i hi _).mono ?_
  rintro e w1 ⟨rfl, rfl⟩
  go_wp2
  go_loopw [6, 15] (fun e n wr => ∃ (k m : Nat), k ≤ xs.length ∧ n = .int .i64 k ∧ e = .int .u16 (m : Int) ∧ Hid (Msk m fun j => SeqD (DK K) ws (xs.take k) i j) ∧ wr = w1) (fun _ n _ => xs.length - (intOf n).toNat)
  case atStart => exact ⟨0, _, by omega, rfl, rfl, HS.out, rfl⟩
  case round =>
    obtain ⟨k, m, hk, rfl, rfl, HM, rfl⟩ := hrel
    by_cases hlt : k < xs.length
    · obtain ⟨q, o, hA, hq, c1⟩ := HR.out.at_ hlt
      subst hA
      have HF0 : Hid (Msk 0 fun j => FromD K ws xs[k] m 0 j) := msk_no.congr fun _ => fromD_zero.symm
      have hm : m < 2048 := HM.out.1
      obtain ⟨x0, x1⟩ := HX.out xs[k] (List.getElem_mem hlt)
      obtain ⟨wA, hwA⟩ : ∃ x, x = wr := ⟨_, rfl⟩
      subst hwA
      go_wp2
      go_loopw [6, 20] (fun e n wr => ∃ (a m' : Nat), a ≤ 11 ∧ n = .int .i64 a ∧ e = .int .u16 (m' : Int) ∧ Hid (Msk m' fun j => FromD K ws xs[k] m a j) ∧ wr = wA) (fun _ n _ => 11 - (intOf n).toNat)
      case atStart => exact ⟨0, 0, by omega, rfl, rfl, HF0.out, rfl⟩
      case round =>
        obtain ⟨a, m', ha, rfl, rfl, HF, rfl⟩ := hrel
        by_cases hlta : a < 11
        · cases hb : m.testBit a
          · have HN : Hid (Msk m' fun j => FromD K ws xs[k] m (a + 1) j) := HF.out.congr fun _ => fromD_skip hb
            have HB := Lib.hid hb; clear hb
            go_wp2_with fail
            refine (has_any m a hm hlta _).mono ?_
            rintro e w2 ⟨rfl, rfl⟩
            rw [HB.out]
            go_wp2
            go_roundw
            case rel => exact ⟨a + 1, m', by omega, by go_num, rfl, HN.out, trivial⟩
            case measure => simp [intOf]; omega
          · have HT := Lib.hid (@fromD_take K ws xs[k] m a · hb)
            have HB := Lib.hid hb; clear hb
            have hm' : m' < 2048 := HF.out.1
            have HO := Lib.hid (one_any R P W O Aw cw ws K xs[k] a wr HE.out HK.out hw ⟨x0, x1⟩ hlta)
            go_wp2_with fail
            refine (has_any m a hm hlta _).mono ?_
            rintro e w2 ⟨rfl, rfl⟩
            rw [HB.out]
            go_wp2_with fail
            refine HO.out.mono ?_
            rintro e w3 ⟨m2, rfl, hm2, rfl⟩
            have HM2 := Lib.hid (HF.out.or hm2)
            have hm3 : m2 < 2048 := hm2.1
            have ho := u16_or' hm' hm3
            go_wp2
            go_roundw
            case rel => exact ⟨a + 1, orK m' m2, by omega, by go_num, rfl, HM2.out.congr fun j => HT.out j, trivial⟩
            case measure => simp [intOf]; omega
        · obtain rfl : a = 11 := by omega
          have HN : Hid (Msk m' fun j => SeqD (DK K) ws (xs.take (k + 1)) i j) := HF.out.congr fun _ => fromD_all hlt HM.out
          go_wp2
          go_roundw
          case rel => exact ⟨k + 1, m', by omega, by go_num, rfl, HN.out, trivial⟩
          case measure => simp [intOf]; omega
    · obtain rfl : k = xs.length := by omega
      go_wp2
      go_ret
      refine ⟨m, rfl, ?_, rfl⟩
      have h := HM.out
      rw [List.take_length] at h
      exact h

/-- .. with its value named. -/
noncomputable def endsM (K : Nat → Nat → Nat) (ws xs : List Int) (i : Nat) : Nat := mskOf fun j => SeqD (DK K) ws xs i j
theorem endsM_is {K : Nat → Nat → Nat} {ws xs : List Int} {i : Nat} (hK : ∀ x i, K x i < 2048) (hw : ws.length ≤ 10) (hi : i < 11) : Msk (endsM K ws xs i) fun j => SeqD (DK K) ws xs i j := mskOf_is fun _ h => seqD_lt hK hw hi h
theorem ends_still (R P W O : Nat) (Aw : Option Addr) (cw : Nat) (ws : List Int) (K : Nat → Nat → Nat) (Ar : Option Addr) (xs : List Int) (cr : Nat) (i : Nat) (v : World) (hE : EnvK v R P W O Aw cw ws K) (hK : ∀ x i, K x i < 2048) (hw : ws.length ≤ 10) (hr : Ints v v.heap.size Ar xs) (hx : ∀ x ∈ xs, -10 ≤ x ∧ x < 6) (hl : xs.length ≤ 40) (hi : i < 11) :
    Calls Tryd.prog 127 #[.slice Ar xs.length cr, .int .i64 (i : Int), .pointer (some ⟨O, 0, none⟩)] v fun e v' => e = .returned (.int .u16 (endsM K ws xs i : Int)) ∧ v' = v :=
  (ends_any R P W O Aw cw ws K Ar xs cr i v hE hK hw hr hx hl hi).mono fun e v' h => by
    obtain ⟨m, rfl, hm, rfl⟩ := h
    rw [show m = endsM K ws xs i from mskOf_eq hm]
    exact ⟨rfl, rfl⟩

end Go.Proofs.YtkghblgiojidgaaDoor
