/- slices.Delete at rules: its walk. -/
import Derived.Test.YtpaccjfabclikaaDoorDel
namespace Go.Proofs.YtpaccjfabclikaaDoor
open Go.RowKit

set_option maxHeartbeats 2000000 in
theorem delete_any (g c lo i j : Nat) (rs : List Ru) (w : World) (h : OwnR w lo (some ⟨g, 0, none⟩) rs) (hi : i < rs.length) (hij : j = i + 1) (hc : rs.length ≤ c) (hn : rs.length ≤ 1048576) :
    Calls Tryd.prog 56 #[.slice (some ⟨g, 0, none⟩) rs.length c, .int .i64 i, .int .i64 j] w fun e w' => e = .returned (.slice (some ⟨g, 0, none⟩) (rs.eraseIdx i).length c) ∧ OwnR w' lo (some ⟨g, 0, none⟩) (rs.eraseIdx i) ∧ Save (fun b => b = g) w w' := by
  obtain ⟨i0, hi0, hz0, hz1, hz2⟩ := info_of Tryd.infoRule
  have hE := h.erase hi
  obtain ⟨cs, hr, _, hz, hcs⟩ := h.size2 hi
  have hle : (rs.eraseIdx i).length = i + (rs.length - j) := by rw [List.length_eraseIdx, if_pos hi]; omega
  obtain ⟨news, hnews⟩ : ∃ news, news = (rs.drop j).flatMap cellsU := ⟨_, rfl⟩
  have hlen : news.length = (rs.length - j) * 2 := by rw [hnews, flat_length, List.length_drop]
  obtain ⟨A, hA, hsrc⟩ : ∃ A : Addr, (if c = j then some (⟨g, 0, none⟩ : Addr) else some ⟨g, j * 2, none⟩) = some A ∧ Hid (∀ t u, news[t]? = some u → w.drew.cell? (A.add t) = some u) := by
    by_cases e : c = j
    · refine ⟨⟨g, 0, none⟩, by simp [e], fun t u hu => ?_⟩
      have h0 : news.length = 0 := by rw [hlen]; omega
      rw [List.length_eq_zero_iff.1 h0] at hu
      simp at hu
    · refine ⟨⟨g, j * 2, none⟩, by simp [e], fun t u hu => ?_⟩
      rw [hnews] at hu
      obtain ⟨k, x, hx, hcase⟩ := flat_cell hu
      rw [List.getElem?_drop] at hx
      obtain ⟨y1, y2⟩ := hcs _ _ hx
      rw [Addr.add_lit]
      show w.cell? _ = _
      rcases hcase with ⟨rfl, rfl⟩ | ⟨rfl, rfl⟩
      · rw [hr.cell, ← y1]; congr 1; omega
      · rw [hr.cell, ← y2]; congr 1; omega
  have s1 : Hid (news.length = (rs.length - j) * 2) := hlen
  have s2 : Hid (∀ u ∈ news, u.oneCell' = true) := by rw [hnews]; exact flat_one
  have s3 : Hid (∀ t, t < news.length → (w.drew.cell? ⟨g, 0 + i * 2 + t, none⟩).isSome = true ∧ w.drew.frozen? ⟨g, 0 + i * 2 + t, none⟩ = false) := by
    intro t ht
    rw [hlen] at ht
    exact ⟨by show (w.cell? _).isSome = true; rw [hr.cell, Array.getElem?_eq_getElem (by omega)]; rfl, hr.frozen _⟩
  obtain ⟨W1, hW1⟩ : ∃ W1, W1 = w.drew.setCells g (0 + i * 2) news := ⟨_, rfl⟩
  have hDW : W1.setCells g ((rs.length - 1) * 2) [.int .i64 0, .slice none 0 0] = del w.drew g i rs := by
    rw [hW1, hnews, Nat.zero_add, hij]; rfl
  obtain ⟨c1, r1, z1, x1⟩ := Row.cells news (0 + i * 2) w.drew cs hr (by rw [hlen]; omega)
  rw [← hW1] at r1
  have HE : Hid (OwnR (del w.drew g i rs) lo (some ⟨g, 0, none⟩) (rs.eraseIdx i) ∧ Save (fun b => b = g) w (del w.drew g i rs)) := by
    have h' : OwnR w.drew lo (some ⟨g, 0, none⟩) rs := h
    have := h'.erase hi
    exact ⟨this.1, (Save.refl _ _).drew.trans this.2⟩
  have hcl : ∀ ty, (Builtin.clear_ #[27] ty #[.slice (some ⟨g, (i + (rs.length - j)) * 2, none⟩) (rs.length - (i + (rs.length - j))) (c - (i + (rs.length - j)))]).run Tryd.prog W1 = .ok (.tuple #[]) (W1.setCells g ((i + (rs.length - j)) * 2) [.int .i64 0, .slice none 0 0]) := fun ty =>
    run_clear_rule W1 ty g _ _ _ (by omega) (by rw [r1.cell, Array.getElem?_eq_getElem (by omega)]; rfl) (by rw [r1.cell, Array.getElem?_eq_getElem (by omega)]; rfl) (r1.frozen _) (r1.frozen _)
  have hW : Hid (W1 = w.drew.setCells g (0 + i * 2) news) := hW1
  have HDW : Hid (W1.setCells g ((i + (rs.length - j)) * 2) [.int .i64 0, .slice none 0 0] = del w.drew g i rs) := by
    show _ = _
    rw [← hDW, show i + (rs.length - j) = rs.length - 1 by omega]
  have hic : i ≤ c := by omega
  have hjc : j ≤ c := by omega
  have hne : ¬ c = i + (rs.length - j) := by omega
  have hji : ¬ (i : Int) = (j : Int) := by omega
  have HLE := Lib.hid hle
  have hlt : i < j := by omega
  have hjn : j ≤ rs.length := by omega
  clear hij hW1 hDW hE h hr hz hcs hle hnews hlen x1 r1 z1 c1 cs
  go_enter Tryd.func56, Tryd.ntmps56
  go_wp2_with fail
  go_region_law (refine step_append_room rfl (.tmp 22) (.tmp 25) 27 rfl 52 i0 2 Tryd.underlying27 hi0 hz1 g 0 i c (by simp [Act.eval, Act.put]) A (rs.length - j) (c - j) news (by simp [Act.eval, Act.put]) s1.out hsrc.out s2.out (by omega) s3.out ?_; rw [← hW.out])
  go_wp2
  go_ret
  refine ⟨by rw [HLE.out]; rfl, ?_⟩
  rw [HDW.out]
  exact HE.out

end Go.Proofs.YtpaccjfabclikaaDoor
