/- Contracts of peep.Idle and of the document's Idle. -/
import Derived.Test.YtlieapapmkbbgaaLirE
namespace Go.Proofs.Ytlieapapmkbbgaa
open Go Go.RowKit
set_option linter.unusedVariables false

/-- whether a step does nothing -/
def idleS (x : Q5) : Bool := canS x && decide (x.d = x.a) && decide (x.i = 0) && decide (x.o = 2 ∨ (13 ≤ x.o ∧ x.o ≤ 16))
theorem check_one_noP {x : Q5} (h : canS x = false) : checkS [x] = 1 := check_arg (x := x) (by simp) (by simp) h
theorem check_one_loopP {x : Q5} (h : canS x = true) (ho : x.o = 23 ∨ x.o = 24) : checkS [x] = 4 := by
  refine check_ends (by simp) (by simpa using h) ?_
  rcases ho with ho | ho
  · simp [endsS, runE, stepE, ho]
  · simp [endsS, runE, stepE, ho]
theorem check_one_okP {x : Q5} (h : canS x = true) (h3 : x.o ≠ 23) (h4 : x.o ≠ 24) : checkS [x] = 0 := by
  have e : endsS [x] = some [-1] := by simp [endsS, runE, stepE, h3, h4]
  have c : countedS [x] = true := by simp [countedS, runC, stepC, h3, h4]
  rw [check_cnt (by simp) (by simpa using h) e, c]
  rfl
theorem check_litP (o d a b i : Int) (W : World) (H : Nat) (hH : W.heap.size = H) : Calls Try.prog 14 #[.slice (some ⟨H, 0, none⟩) 1 1] (W.alloc (.cells #[.int .i64 o, .int .i64 d, .int .i64 a, .int .i64 b, .int .i32 i] 46)) fun e w' => e = .returned (.int .i64 (checkS [⟨o, d, a, b, i⟩])) ∧ Below (W.alloc (.cells #[.int .i64 o, .int .i64 d, .int .i64 a, .int .i64 b, .int .i32 i] 46)).heap.size (W.alloc (.cells #[.int .i64 o, .int .i64 d, .int .i64 a, .int .i64 b, .int .i32 i] 46)) w' :=
  check_any (some ⟨H, 0, none⟩) 1 [⟨o, d, a, b, i⟩] _ (l5_lit W _ [⟨o, d, a, b, i⟩] (Q5.arr ⟨o, d, a, b, i⟩) rfl H hH (by simp))
/-- the cells of a struct that was boxed before another block -/
theorem boxed2 {w w1 : World} {cs ds : Array Value} {t u : TypeId} (hb : Below ((w.alloc (.cells cs t)).alloc (.cells ds u)).heap.size ((w.alloc (.cells cs t)).alloc (.cells ds u)) w1) :
    (∀ j v, cs[j]? = some v → w1.cell? ⟨w.heap.size, j, none⟩ = some v) ∧ w.heap.size < w1.heap.size ∧ w.heap.size ≤ w1.heap.size ∧ Below w.heap.size w w1 := by
  have hs := hb.size
  simp at hs
  refine ⟨fun j v hv => (hb.cell (p := ⟨w.heap.size, j, none⟩) (by simp; omega)).trans ?_, by omega, by omega, Below.trans (show Below w.heap.size w ((w.alloc (.cells cs t)).alloc (.cells ds u)) by go_grown) (hb.mono (by simp; omega))⟩
  rw [World.cell?_alloc_past _ _ _ (by simp), World.cell?_alloc_new]
  exact hv

set_option maxHeartbeats 1000000 in
theorem idle_any (o d a b i : Int) (w : World) :
    Calls Try.prog 29 #[.agg #[.int .i64 o, .int .i64 d, .int .i64 a, .int .i64 b, .int .i32 i]] w fun e w' => e = .returned (.bool (idleS ⟨o, d, a, b, i⟩)) ∧ Below w.heap.size w w' := by
  have CL := Lib.hid (check_litP o d a b i (w.alloc (.cells #[.int .i64 o, .int .i64 d, .int .i64 a, .int .i64 b, .int .i32 i] 46)) (w.heap.size + 1) (by simp))
  by_cases hbad : canS ⟨o, d, a, b, i⟩ = false ∨ o = 23 ∨ o = 24
  · have E := Lib.hid (show idleS ⟨o, d, a, b, i⟩ = false by
      unfold idleS
      rcases hbad with h | h | h
      · simp [h]
      · simp [h]
      · simp [h])
    obtain ⟨z, hz, hz0⟩ : ∃ z, checkS [⟨o, d, a, b, i⟩] = z ∧ (z != 0) = true := by
      cases hc : canS ⟨o, d, a, b, i⟩
      · exact ⟨1, check_one_noP hc, by decide⟩
      · exact ⟨4, check_one_loopP hc (by rcases hbad with h | h; rw [hc] at h; cases h; exact h), by decide⟩
    have HZ := Lib.hid hz
    clear hbad hz
    go_enter Try.func29, Try.ntmps29
    go_wp2_with fail
    refine CL.out.mono ?_
    rw [HZ.out]
    rintro e w1 ⟨rfl, hb⟩
    obtain ⟨_, hs1, hs2, hB⟩ := boxed2 hb
    have HB := Lib.hid hB
    clear hb hB
    go_wp2_with fail
    go_ret
    exact ⟨ret_bool' E.out.symm, HB.out⟩
  · have hc : canS ⟨o, d, a, b, i⟩ = true := by cases h : canS ⟨o, d, a, b, i⟩; exact absurd (Or.inl h) hbad; rfl
    have h3 : o ≠ 23 := fun h => hbad (Or.inr (Or.inl h))
    have h4 : o ≠ 24 := fun h => hbad (Or.inr (Or.inr h))
    have HZ := Lib.hid (check_one_okP hc h3 h4)
    by_cases hda : d = a
    · have tda : (d != a) = false := by simp [hda]
      by_cases ho : o = 2 ∨ (13 ≤ o ∧ o ≤ 16)
      · have E := Lib.hid (show idleS ⟨o, d, a, b, i⟩ = (i == 0) by
          show (canS ⟨o, d, a, b, i⟩ && decide (d = a) && decide (i = 0) && decide (o = 2 ∨ (13 ≤ o ∧ o ≤ 16))) = _
          rw [hc, decide_eq_true hda, decide_eq_true ho, Bool.eq_iff_iff]
          simp)
        clear hbad hc h3 h4 hda
        have hoo : o = 2 ∨ o = 13 ∨ o = 14 ∨ o = 15 ∨ o = 16 := by omega
        clear ho
        rcases hoo with rfl | rfl | rfl | rfl | rfl
        all_goals
          go_enter Try.func29, Try.ntmps29
          go_wp2_with fail
          refine CL.out.mono ?_
          rw [HZ.out]
          rintro e w1 ⟨rfl, hb⟩
          obtain ⟨hbox, hs1, hs2, hB⟩ := boxed2 hb
          have c0 := hbox 0 _ rfl
          have c1 := hbox 1 (.int .i64 d) rfl
          have c2 := hbox 2 (.int .i64 a) rfl
          have c4 := hbox 4 (.int .i32 i) rfl
          have HB := Lib.hid hB
          clear hb hB hbox
          go_wp2_with fail
          go_ret
          exact ⟨ret_bool' E.out.symm, HB.out⟩
      · have E := Lib.hid (show idleS ⟨o, d, a, b, i⟩ = false by unfold idleS; simp [ho])
        have t2 : (o == 2) = false := by simp; omega
        have t13 : (o == 13) = false := by simp; omega
        have t14 : (o == 14) = false := by simp; omega
        have t15 : (o == 15) = false := by simp; omega
        have t16 : (o == 16) = false := by simp; omega
        clear hbad hc h3 h4 hda ho
        go_enter Try.func29, Try.ntmps29
        go_wp2_with fail
        refine CL.out.mono ?_
        rw [HZ.out]
        rintro e w1 ⟨rfl, hb⟩
        obtain ⟨hbox, hs1, hs2, hB⟩ := boxed2 hb
        have c0 := hbox 0 (.int .i64 o) rfl
        have c1 := hbox 1 (.int .i64 d) rfl
        have c2 := hbox 2 (.int .i64 a) rfl
        have HB := Lib.hid hB
        clear hb hB hbox
        go_wp2_with fail
        go_ret
        exact ⟨ret_bool' E.out.symm, HB.out⟩
    · have tda : (d != a) = true := by simp [hda]
      have E := Lib.hid (show idleS ⟨o, d, a, b, i⟩ = false by unfold idleS; simp [hda])
      clear hbad hc h3 h4 hda
      go_enter Try.func29, Try.ntmps29
      go_wp2_with fail
      refine CL.out.mono ?_
      rw [HZ.out]
      rintro e w1 ⟨rfl, hb⟩
      obtain ⟨hbox, hs1, hs2, hB⟩ := boxed2 hb
      have c1 := hbox 1 (.int .i64 d) rfl
      have c2 := hbox 2 (.int .i64 a) rfl
      have HB := Lib.hid hB
      clear hb hB hbox
      go_wp2_with fail
      go_ret
      exact ⟨ret_bool' E.out.symm, HB.out⟩

theorem rcan_isP (o d a b i : Int) (w : World) (hi : -2147483648 ≤ i ∧ i ≤ 2147483647) {v : Bool} (h : canS ⟨o, d, a, b, i⟩ = v) : Calls Try.prog 23 #[.agg #[.int .i64 o, .int .i64 d, .int .i64 a, .int .i64 b, .int .i32 i]] w fun e w' =>
    e = .returned (.bool v) ∧ w' = w.alloc (.cells #[.int .i64 o, .int .i64 d, .int .i64 a, .int .i64 b, .int .i32 i] 46) := by
  subst h
  exact rcan_any o d a b i w hi
end Go.Proofs.Ytlieapapmkbbgaa
