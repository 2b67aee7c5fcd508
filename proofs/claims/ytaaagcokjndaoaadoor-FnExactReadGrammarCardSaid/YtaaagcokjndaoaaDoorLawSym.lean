/- SymbolText: the program's, the reference's, and its law's walk. -/
import Derived.Test.YtaaagcokjndaoaaDoorLet
import Derived.Test.YtaaagcokjndaoaaDoorBase
namespace Go.Proofs.YtaaagcokjndaoaaDoor
open Go.RowKit

/-- A string of bytes. -/
def str (l : List UInt8) : ByteArray := ⟨l.toArray⟩

def symI (x : Int) : Bool := decide (-4 ≤ x ∧ x < 6)
def symS (x : Int) : ByteArray := if symI x then ⟨#[letC x]⟩ else ⟨#[]⟩
theorem symI_t {x : Int} (h1 : -4 ≤ x) (h2 : x < 6) : symI x = true := decide_eq_true ⟨h1, h2⟩
theorem symI_f {x : Int} (h : x < -4 ∨ 6 ≤ x) : symI x = false := decide_eq_false (by omega)
theorem symS_t {x : Int} (h : symI x = true) : symS x = ⟨#[letC x]⟩ := by unfold symS; rw [h]; rfl
theorem symS_f {x : Int} (h : symI x = false) : symS x = ⟨#[]⟩ := by unfold symS; rw [h]; rfl

/-- string([]byte{c}). -/
theorem one_string (w : World) (c : UInt8) : (convert 22 9 (.slice (some ⟨w.heap.size, 0, none⟩) 1 1)).run Tryd.prog (w.alloc (.cells #[.int .u8 (c.toNat : Int)] 5)) = .ok (.string ⟨#[c]⟩) (w.alloc (.cells #[.int .u8 (c.toNat : Int)] 5)) :=
  run_convert_bytes_back _ 22 9 5 _ 1 [c] Tryd.underlying22 Tryd.underlying5 Tryd.underlying9 (fun j hj => by
    have : j = 0 := by simpa using hj
    subst this
    simp [go_sem, Addr.add])

set_option maxHeartbeats 1000000 in
theorem implSym_any (x : Int) (w : World) (hN : NonT w) (hT : TokT w) :
    Calls Tryd.prog 24 #[.int .i64 x] w fun e w' => e = .returned (.tuple #[.string (symS x), .bool (symI x)]) ∧ Below w.heap.size w w' := by
  by_cases h1 : x < -4
  · have HE := Lib.hid (symI_f (.inl h1))
    go_enter Tryd.func24, Tryd.ntmps24
    go_wp2
    go_ret2
    exact ⟨by rw [symS_f HE.out, HE.out]; rfl, Below.refl _ _⟩
  by_cases h2 : x < 6
  · have HE := Lib.hid (symI_t (by omega : -4 ≤ x) h2)
    have HN := Lib.hid hN; clear hN
    have HT := Lib.hid hT; clear hT
    have kc := one_string w (letC x)
    have h2' : ¬ 6 ≤ x := by omega
    go_enter Tryd.func24, Tryd.ntmps24
    go_wp2_with fail
    refine (letterOf_any _ _ HN.out HT.out (by omega) h2).mono ?_
    rintro e w1 ⟨rfl, rfl⟩
    go_wp2
    go_ret2
    exact ⟨by rw [symS_t HE.out, HE.out]; rfl, by go_grown⟩
  · have HE := Lib.hid (symI_f (.inr (by omega : 6 ≤ x)))
    have h2' : 6 ≤ x := by omega
    go_enter Tryd.func24, Tryd.ntmps24
    go_wp2
    go_ret2
    exact ⟨by rw [symS_f HE.out, HE.out]; rfl, Below.refl _ _⟩

theorem in_sym (x : Int) : inB (-4) 5 x = symI x := by unfold inB symI; congr 1; exact propext (by omega)

set_option maxHeartbeats 1000000 in
theorem specSym_any (x : Int) (w : World) :
    Calls Tryd.prog 25 #[.int .i64 x] w fun e w' => e = .returned (.tuple #[.string (symS x), .bool (symI x)]) ∧ w = w' := by
  cases hs : symI x
  · have HE := Lib.hid hs; clear hs
    go_enter Tryd.func25, Tryd.ntmps25
    go_wp2_with fail
    refine (l1In_any _ _ _ _).mono ?_
    rintro e w1 ⟨rfl, rfl⟩
    rw [in_sym, HE.out]
    go_wp2
    go_ret2
    exact ⟨by rw [symS_f HE.out]; rfl, rfl⟩
  · have HE := Lib.hid hs
    have h := of_decide_eq_true hs
    have h1 := h.1
    have h2 := h.2
    clear h hs
    go_enter Tryd.func25, Tryd.ntmps25
    go_wp2_with fail
    refine (l1In_any _ _ _ _).mono ?_
    rintro e w1 ⟨rfl, rfl⟩
    rw [in_sym, HE.out]
    go_wp2_with fail
    refine (l2Letter_any _ _ h1 h2).mono ?_
    rintro e w2 ⟨rfl, rfl⟩
    go_wp2
    go_ret2
    exact ⟨by rw [symS_t HE.out]; rfl, rfl⟩

set_option maxHeartbeats 1000000 in
theorem law_SymbolText (x : Int) (w : World) (hN : NonT w) (hT : TokT w) : Calls Tryd.prog 8 #[.int .i64 x] w (LawEnds w) := by
  have HN := Lib.hid hN; clear hN
  have HT := Lib.hid hT; clear hT
  go_enter Tryd.func8, Tryd.ntmps8
  go_wp2_with fail
  refine (specSym_any _ _).mono ?_
  rintro e w1 ⟨rfl, rfl⟩
  go_wp2_with fail
  refine (implSym_any _ _ HN.out HT.out).mono ?_
  rintro e w2 ⟨rfl, hB⟩
  go_wp2
  go_ret
  exact ⟨rfl, hB⟩

end Go.Proofs.YtaaagcokjndaoaaDoor
