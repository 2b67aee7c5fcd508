/- The program's SameGrammar of two good grammars. -/
import Derived.Test.YtacehfjhpnplbaaDoorUseI
import Derived.Test.YtacehfjhpnplbaaDoorImplGood3
import Derived.Test.YtacehfjhpnplbaaDoorVans
import Derived.Deep.RegionHeld3
namespace Go.Proofs.YtacehfjhpnplbaaDoor
open Go.RowKit

set_option maxRecDepth 20000 in
theorem enter_same (xs : Array Value) (v : World) : Sem.run Tryd.prog (callFunc 142 xs) v = .ok (.enter 142 xs) v := rfl

theorem abs_eq_of {rs ss : List Ru} (hl : rs.length = ss.length) (h : ∀ (j : Nat) (u v : Ru), rs[j]? = some u → ss[j]? = some v → u.abs = v.abs) : rs.map Ru.abs = ss.map Ru.abs := by
  apply List.ext_getElem
  · simpa using hl
  · intro j h1 h2
    rw [List.length_map] at h1 h2
    rw [List.getElem_map, List.getElem_map]
    exact h j _ _ (List.getElem?_eq_getElem h1) (List.getElem?_eq_getElem h2)

set_option maxRecDepth 20000 in
set_option maxHeartbeats 1000000 in
theorem equalFunc_any (A A' : Option Addr) (c c' : Nat) (rs ss : List Ru) (w : World) (hx : Rls w w.heap.size A rs) (hy : Rls w w.heap.size A' ss) (h1 : rs.length ≤ 16) (hu : ∀ u ∈ rs, u.r.length ≤ 1048576) :
    Calls Tryd.prog 141 #[.slice A rs.length c, .slice A' ss.length c', .func (.func 142) #[] #[]] w fun e w' => e = .returned (.bool (decide (rs.map Ru.abs = ss.map Ru.abs))) ∧ Below w.heap.size w w' := by
  have HX := Lib.hid hx; clear hx
  have HY := Lib.hid hy; clear hy
  have HU := Lib.hid hu; clear hu
  by_cases hl : rs.length = ss.length
  · have hb : ((rs.length : Int) != (ss.length : Int)) = false := by simp [hl]
    have HL := Lib.hid hl; clear hl
    go_enter Tryd.func141, Tryd.ntmps141
    go_wp2
    clear hb
    go_loopw [17] (fun i wr => ∃ (k : Nat), k ≤ rs.length ∧ i = .int .i64 k ∧ Hid (Below w.heap.size w wr) ∧ Hid (∀ (j : Nat) (u v : Ru), j < k → rs[j]? = some u → ss[j]? = some v → u.abs = v.abs)) (fun i _ => rs.length - (intOf i).toNat)
    case atStart => exact ⟨0, by omega, rfl, Below.refl _ _, fun j u v h => absurd h (by omega)⟩
    case round =>
      obtain ⟨k, hk, rfl, HB, HC⟩ := hrel
      by_cases hlt : k < rs.length
      · have hlt2 : k < ss.length := by have := HL.out; omega
        obtain ⟨p, o, rfl, hp, c1, c2, c3⟩ := ((HX.out.keep HB.out).more HB.out.size).at_ hlt
        obtain ⟨p', o', rfl, hp', d1, d2, d3⟩ := ((HY.out.keep HB.out).more HB.out.size).at_ hlt2
        have HB1 : Hid (Below wr.heap.size wr (wr.alloc (.cells #[.int .i64 rs[k].l, .slice rs[k].a rs[k].r.length rs[k].c] 64))) := (Below.refl _ _).alloc (Nat.le_refl _) _
        have HB2 : Hid (Below wr.heap.size wr ((wr.alloc (.cells #[.int .i64 rs[k].l, .slice rs[k].a rs[k].r.length rs[k].c] 64)).alloc (.cells #[.int .i64 ss[k].l, .slice ss[k].a ss[k].r.length ss[k].c] 64))) := HB1.out.alloc HB1.out.size _
        have HC1 := Lib.hid (sameRule_any rs[k].l ss[k].l rs[k].a ss[k].a rs[k].r ss[k].r rs[k].c ss[k].c _ ((c3.keep HB2.out).more HB2.out.size) ((d3.keep HB2.out).more HB2.out.size) (HU.out _ (List.getElem_mem hlt)))
        clear c3 d3

        have hrs : rs[k]? = some rs[k] := List.getElem?_eq_getElem hlt
        have hss : ss[k]? = some ss[k] := List.getElem?_eq_getElem hlt2
        have HRS := Lib.hid hrs; clear hrs
        have HSS := Lib.hid hss; clear hss
        by_cases he : rs[k].abs = ss[k].abs
        · have HE : Hid (eqU (rs[k].l, rs[k].r) (ss[k].l, ss[k].r) = true) := decide_eq_true he
          have HN : Hid (∀ (j : Nat) (u v : Ru), j < k + 1 → rs[j]? = some u → ss[j]? = some v → u.abs = v.abs) := fun j u v hj hu hv => by
            by_cases e : j = k
            · subst e
              rw [HRS.out] at hu
              rw [HSS.out] at hv
              injection hu with hu
              injection hv with hv
              subst hu hv
              exact he
            · exact HC.out j u v (by omega) hu hv
          clear he
          rw [HE.out] at HC1
          go_wp2_with fail
          refine HC1.out.mono ?_
          rintro e w1 ⟨rfl, hB3⟩
          have HB3 : Hid (Below w.heap.size w w1) := HB.out.trans ((HB2.out.trans (hB3.mono HB2.out.size)).mono HB.out.size)
          clear hB3
          go_wp2
          go_roundw
          case rel => exact ⟨k + 1, by omega, by go_num, HB3.out, HN.out⟩
          case measure => simp [intOf]; omega
        · have HE : Hid (eqU (rs[k].l, rs[k].r) (ss[k].l, ss[k].r) = false) := decide_eq_false he
          have HN : Hid (decide (rs.map Ru.abs = ss.map Ru.abs) = false) := decide_eq_false fun e => he (by
            have h := congrArg (fun l => l[k]?) e
            simp only [List.getElem?_map, HRS.out, HSS.out, Option.map_some] at h
            exact Option.some.inj h)
          clear he
          rw [HE.out] at HC1
          go_wp2_with fail
          refine HC1.out.mono ?_
          rintro e w1 ⟨rfl, hB3⟩
          have HB3 : Hid (Below w.heap.size w w1) := HB.out.trans ((HB2.out.trans (hB3.mono HB2.out.size)).mono HB.out.size)
          clear hB3
          go_wp2
          go_ret
          exact ⟨ret_bool HN.out.symm, HB3.out⟩
      · obtain rfl : k = rs.length := by omega
        have HN : Hid (decide (rs.map Ru.abs = ss.map Ru.abs) = true) := decide_eq_true (abs_eq_of HL.out fun j u v hu hv => HC.out j u v (List.getElem?_eq_some_iff.1 hu).1 hu hv)
        go_wp2
        go_ret
        exact ⟨ret_bool HN.out.symm, HB.out⟩
  · have hb : ((rs.length : Int) != (ss.length : Int)) = true := by simp; omega
    have HN : Hid (decide (rs.map Ru.abs = ss.map Ru.abs) = false) := decide_eq_false fun e => hl (by simpa using congrArg List.length e)
    go_enter Tryd.func141, Tryd.ntmps141
    go_wp2
    go_ret
    exact ⟨ret_bool HN.out.symm, Below.refl _ _⟩

end Go.Proofs.YtacehfjhpnplbaaDoor
