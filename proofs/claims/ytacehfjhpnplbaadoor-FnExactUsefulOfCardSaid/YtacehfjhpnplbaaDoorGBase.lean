/- What the walks of the laws with a grammar as their answer share, in any seat. -/
import Derived.Test.YtacehfjhpnplbaaDoorIts
namespace Go.Proofs.YtacehfjhpnplbaaDoor
open Go.RowKit

theorem Box3.save {S : Nat → Prop} {w w' : World} {g : Nat} {a b c : Value} (h : Box3 w g a b c) (hs : Save S w w') (hg : ¬ S g) : Box3 w' g a b c := by
  obtain ⟨h0, h1, h2, h3⟩ := h
  have hb := hs.block g h0 hg
  exact ⟨by have := hs.size; omega, (World.cell?_of_block (a := ⟨g, 0, none⟩) hb).trans h1, (World.cell?_of_block (a := ⟨g, 1, none⟩) hb).trans h2, (World.cell?_of_block (a := ⟨g, 2, none⟩) hb).trans h3⟩

theorem OwnR.kept {S : Nat → Prop} {w w' : World} {lo : Nat} {A : Option Addr} {rs : List Ru} (h : OwnR w lo A rs) (hs : Save S w w') (hd : ∀ b, ItsR A rs b → ¬ S b) : OwnR w' lo A rs := by
  by_cases e : rs = []
  · exact .inl e
  · rcases h with h | ⟨g, cs, ea, hl, hr, hc, hdd⟩
    · exact .inl h
    · refine .inr ⟨g, cs, ea, hl, hr.save hs (hd g (.inl ⟨ea, e⟩)), fun k u hu => ?_, hdd⟩
      obtain ⟨h1, h2, h3⟩ := hc k u hu
      exact ⟨h1, h2, h3.kept hs fun b hb => hd b (.inr ⟨k, u, hu, hb⟩)⟩

theorem says_len {rs : List Ru} {ss : List (Int × List Int)} (h : rs.map Ru.abs = ss) (hs : ss.length ≤ 1048576) : rs.length ≤ 1048576 := by rw [← h, List.length_map] at hs; exact hs
theorem says_lens {rs : List Ru} {ss : List (Int × List Int)} (h : rs.map Ru.abs = ss) (hs : ∀ u ∈ ss, u.2.length ≤ 1048576) : ∀ u ∈ rs, u.r.length ≤ 1048576 := fun u hu => hs u.abs (h ▸ List.mem_map.2 ⟨u, hu, rfl⟩)

theorem box_new (w : World) (a b c : Value) (t : TypeId) : Box3 (w.alloc (.cells #[a, b, c] t)) w.heap.size a b c := ⟨by simp, by simp [go_sem], by simp [go_sem], by simp [go_sem]⟩
theorem below_new (w : World) (o : Obj) : Below w.heap.size w (w.alloc o) := (Below.refl _ _).alloc (Nat.le_refl _) _

end Go.Proofs.YtacehfjhpnplbaaDoor
