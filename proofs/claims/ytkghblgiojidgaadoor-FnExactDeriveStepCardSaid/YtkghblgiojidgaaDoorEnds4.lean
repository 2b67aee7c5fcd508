/- A law's end, four arguments. -/
import Derived.Test.YtkghblgiojidgaaDoorEnds
import Derived.Carry
namespace Go.Proofs.YtkghblgiojidgaaDoor
open Go.ChangeShapes Go.WideShapes Go.ChangeAt Go.RowKit

theorem ends_four {H : Type} {enc : TypeId × Value → H} {f : Func} {s : ChangeSpec} {W W' : World} {v0 v1 v2 v3 : Value} {d0 d1 d2 d3 : DataW H} {gs : List (DataW H)} {before : List MemPlace} {t0 t1 t2 t3 : TypeId}
    (hW : DataW.Whole enc Tryd.prog f.params.toList s.vars false W [v0, v1, v2, v3] [d0, d1, d2, d3] gs before) (hp : f.params = #[t0, t1, t2, t3]) (hr : f.resultTypes = #[4])
    (hfn : s.fn H ([d0, d1, d2, d3] ++ gs) = { results := [.lit (.bool true)], args := [d0, d1, d2, d3], vars := gs })
    (ht : Tryd.prog.readableRec t0 = true) (hs : t0 < Tryd.prog.types.size) (ht1 : Tryd.prog.readableRec t1 = true) (hs1 : t1 < Tryd.prog.types.size) (ht2 : Tryd.prog.readableRec t2 = true) (hs2 : t2 < Tryd.prog.types.size) (ht3 : Tryd.prog.readableRec t3 = true) (hs3 : t3 < Tryd.prog.types.size) (hv : varsRowed Tryd.prog s.vars = true) (hb : Below W.heap.size W W') :
    s.post enc Tryd.prog f false true false false W #[v0, v1, v2, v3] (.bool true) W' := by
  have hlt : ∀ x ∈ before, x.block < W.heap.size := fun x hx => hW.lt x hx
  have hW' := hW
  obtain ⟨p, q, hA, hV, rfl, _, _⟩ := hW
  rw [hp] at hA
  obtain ⟨v, v', v'', v''', d, d', d'', d''', p0, p1, p2, p3, e1, e2, e3, h0, h1, h2, h3⟩ := trodAll_four hA
  have ev : v0 = v ∧ v1 = v' ∧ v2 = v'' ∧ v3 = v''' := by simpa using e1
  have ed : d0 = d ∧ d1 = d' ∧ d2 = d'' ∧ d3 = d''' := by simpa using e2
  obtain ⟨rfl, rfl, rfl, rfl⟩ := ev
  obtain ⟨rfl, rfl, rfl, rfl⟩ := ed
  subst e3
  refine ⟨[d0, d1, d2, d3], gs, p0 ++ p1 ++ p2 ++ p3 ++ q, [], p0 ++ (p1 ++ (p2 ++ p3)), q, hW', ?_, ?_, ?_, hb.frame _, fun h => by cases h⟩
  · rw [hfn, hr]
    exact trodAll_mk1 (shut_bool Tryd.underlying4 true)
  · rw [hfn, hp]
    exact trodAll_mk4 (hb.trod Tryd.laidOut ht hs h0 (fun x hx => hlt x (by simp [hx]))) (hb.trod Tryd.laidOut ht1 hs1 h1 (fun x hx => hlt x (by simp [hx]))) (hb.trod Tryd.laidOut ht2 hs2 h2 (fun x hx => hlt x (by simp [hx]))) (hb.trod Tryd.laidOut ht3 hs3 h3 (fun x hx => hlt x (by simp [hx])))
  · rw [hfn]
    exact hb.trodVars Tryd.laidOut hv hV

end Go.Proofs.YtkghblgiojidgaaDoor
