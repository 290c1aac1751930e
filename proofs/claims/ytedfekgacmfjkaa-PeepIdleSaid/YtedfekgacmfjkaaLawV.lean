/- The statement of layer 39 (loop programs without what does nothing) on which steps do nothing: it returns true for all inputs. -/
import Derived.Test.YtedfekgacmfjkaaRows
import Derived.Test.YtedfekgacmfjkaaPeepD
import Derived.Test.YtedfekgacmfjkaaOpen
import Derived.Deep.RegionHeld3
namespace Go.Proofs.Ytedfekgacmfjkaa
open Go Go.RowKit Go.ChangeShapes Go.WideShapes Go.ChangeAt
set_option linter.unusedVariables false

theorem lives39 (w : World) : Calls Try.prog 42 #[] w fun e w' => e = .returned (.bool true) ∧ Below w.heap.size w w' := by
  go_enter Try.func42, Try.ntmps42
  go_wp2_with fail
  refine Calls.mono (tidy_lv w) ?_
  rintro e w1 ⟨g, cap, rfl, hb⟩
  go_wp2_with fail
  go_ret
  exact ⟨rfl, hb⟩

set_option maxHeartbeats 2000000 in
theorem walk_PeepIdle (o d a b i : Int) (w0 : (Lit.int .i64 o).wf = true) (w1 : (Lit.int .i64 d).wf = true) (w2 : (Lit.int .i64 a).wf = true) (w3 : (Lit.int .i64 b).wf = true) (w4 : (Lit.int .i32 i).wf = true) (w : World) :
    Calls Try.prog 13 #[.agg #[.int .i64 o, .int .i64 d, .int .i64 a, .int .i64 b, .int .i32 i]] w fun e w' => e = .returned (.bool true) ∧ Below w.heap.size w w' := by
  have hI := bd_i32 w4
  have hI2 : -2147483648 ≤ i ∧ i ≤ 2147483647 := by omega
  have II := Lib.hid (idle_any o d a b i)
  have RI := Lib.hid (ridle_any o d a b i · hI2)
  clear w0 w1 w2 w3 w4 hI
  generalize idleS ⟨o, d, a, b, i⟩ = v at II RI
  go_enter Try.func13, Try.ntmps13
  go_wp2_with fail
  obtain ⟨w1, hw1⟩ : ∃ w1, w1 = w.alloc (.cells #[.int .i64 o, .int .i64 d, .int .i64 a, .int .i64 b, .int .i32 i] 58) := ⟨_, rfl⟩
  have hS : w1.cell? ⟨w.heap.size, 0, none⟩ = some (.int .i64 o) ∧ w1.cell? ⟨w.heap.size, 1, none⟩ = some (.int .i64 d) ∧ w1.cell? ⟨w.heap.size, 2, none⟩ = some (.int .i64 a) ∧ w1.cell? ⟨w.heap.size, 3, none⟩ = some (.int .i64 b) ∧ w1.cell? ⟨w.heap.size, 4, none⟩ = some (.int .i32 i) ∧ w.heap.size < w1.heap.size ∧ Below w.heap.size w w1 := by
    subst hw1
    exact ⟨by simp, by simp, by simp, by simp, by simp, by simp, by go_grown⟩
  rw [← hw1]
  clear hw1
  have c0 := hS.1
  have c1 := hS.2.1
  have c2 := hS.2.2.1
  have c3 := hS.2.2.2.1
  have c4 := hS.2.2.2.2.1
  have hz := hS.2.2.2.2.2.1
  have tv : (v == v) = true := by simp
  go_region_held3 (fun w' => w'.cell? ⟨w.heap.size, 0, none⟩ = some (.int .i64 o) ∧ w'.cell? ⟨w.heap.size, 1, none⟩ = some (.int .i64 d) ∧ w'.cell? ⟨w.heap.size, 2, none⟩ = some (.int .i64 a) ∧ w'.cell? ⟨w.heap.size, 3, none⟩ = some (.int .i64 b) ∧ w'.cell? ⟨w.heap.size, 4, none⟩ = some (.int .i32 i) ∧ w.heap.size < w'.heap.size ∧ Below w.heap.size w w')
    (first | (with_reducible assumption) | (obtain ⟨s0, s1, s2, s3, s4, s5, s6⟩ := ‹_ ∧ _ ∧ _ ∧ _ ∧ _ ∧ _ ∧ Below w.heap.size w _›; exact ⟨(hbl.cell (by show w.heap.size < _; omega)).trans s0, (hbl.cell (by show w.heap.size < _; omega)).trans s1, (hbl.cell (by show w.heap.size < _; omega)).trans s2, (hbl.cell (by show w.heap.size < _; omega)).trans s3, (hbl.cell (by show w.heap.size < _; omega)).trans s4, Nat.lt_of_lt_of_le s5 hbl.size, s6.trans (hbl.mono s6.size)⟩) | (obtain ⟨s0, s1, s2, s3, s4, s5, s6⟩ := ‹_ ∧ _ ∧ _ ∧ _ ∧ _ ∧ _ ∧ Below w.heap.size w _›; exact ⟨(World.cell?_alloc_past _ _ _ (by omega)).trans s0, (World.cell?_alloc_past _ _ _ (by omega)).trans s1, (World.cell?_alloc_past _ _ _ (by omega)).trans s2, (World.cell?_alloc_past _ _ _ (by omega)).trans s3, (World.cell?_alloc_past _ _ _ (by omega)).trans s4, Nat.lt_of_lt_of_le s5 (by simp), s6.alloc s6.size _⟩) | (obtain ⟨s0, s1, s2, s3, s4, s5, s6⟩ := ‹_ ∧ _ ∧ _ ∧ _ ∧ _ ∧ _ ∧ Below w.heap.size w _›; exact ⟨s0, s1, s2, s3, s4, s5, s6.drew⟩) | (obtain ⟨s0, s1, s2, s3, s4, s5, s6⟩ := ‹_ ∧ _ ∧ _ ∧ _ ∧ _ ∧ _ ∧ Below w.heap.size w _›; exact ⟨(World.cell?_alloc_past _ _ _ (by omega)).trans s0, (World.cell?_alloc_past _ _ _ (by omega)).trans s1, (World.cell?_alloc_past _ _ _ (by omega)).trans s2, (World.cell?_alloc_past _ _ _ (by omega)).trans s3, (World.cell?_alloc_past _ _ _ (by omega)).trans s4, Nat.lt_of_lt_of_le s5 (by simp), (s6.alloc s6.size _).drew⟩) | (obtain ⟨s0, s1, s2, s3, s4, s5, s6⟩ := ‹_ ∧ _ ∧ _ ∧ _ ∧ _ ∧ _ ∧ Below w.heap.size w _›; exact ⟨s0, s1, s2, s3, s4, s5, s6⟩))
    (first
    | (go_at_call 40; refine (II.out _).mono ?_; rintro e w9 ⟨rfl, hbl⟩)
    | (go_at_call 41; refine (RI.out _).mono ?_; rintro e w9 ⟨rfl, hbl⟩)
    | (go_at_call 42; refine (lives39 _).mono ?_; rintro e w9 ⟨rfl, hbl⟩))
  obtain ⟨_, _, _, _, _, _, hB⟩ := ‹_ ∧ _ ∧ _ ∧ _ ∧ _ ∧ _ ∧ Below w.heap.size w _›
  go_wp2_with fail
  go_ret
  exact ⟨rfl, hB⟩

theorem own : ownKnob Try.prog.godebug = none := by kernel_rfl
theorem laidOut : laidOutB Try.prog = true := by kernel_rfl
set_option maxRecDepth 100000 in
theorem lifted_PeepIdle (os : Os) (started : os.Started) (H : Type) (enc : TypeId × Value → H) :
    ReturnsInHanded {} Try.checked os 13 .any (Rows.peepIdleSpec.pre6 enc Try.prog Try.f13 Rows.peepIdleRow.domain false) (Rows.peepIdleSpec.post enc Try.prog Try.f13 false true false false) := by
  refine returnsInHanded_of_change (C := Try.checked) own started (by kernel_rfl) Try.func13
    (ChangeSpec.witness6 (enc := enc) (C := Try.checked) false ⟨#[], #[.agg #[.int .i64 0, .int .i64 0, .int .i64 0, .int .i64 0, .int .i32 0]], []⟩ 8 (by kernel_rfl) (by kernel_rfl) (by kernel_rfl) (by kernel_rfl)) ?_
  intro W base args ds gs before hval0 hW hcnd _
  have hval : ∀ (j : Nat) t v, Try.f13.params[j]? = some t → args[j]? = some v → Value.okWide Try.prog W .any base t v := hval0
  have hW' := hW
  obtain ⟨p, q, hA0, hV, rfl, hfz, hnd⟩ := hW
  have hA : DataW.TrodAll enc Try.prog W 0 (fun _ => true) true Try.f13.params.toList args.toList ds p := hA0
  rw [Try.params13] at hA hval
  obtain ⟨v0, vs0, d0, ds0, p0, q0, hargs, rfl, rfl, h0, r0⟩ := trodAll_cons hA
  obtain ⟨rfl, rfl, rfl⟩ := trodAll_nil r0
  obtain rfl : args = #[v0] := by cases args; simp_all
  obtain ⟨rfl, rfl⟩ := trodVars_none hV
  have k0 := h0
  have lt0 : ∀ x ∈ p0, x.block < W.heap.size := by obtain ⟨m, hm⟩ := k0; exact DataW.trod_lt m _ _ _ hm
  obtain ⟨zs0, zl0, rfl, zw0⟩ := flat_ints [.i64, .i64, .i64, .i64, .i32] (ts := [3, 3, 3, 3, 21]) (Or.inl ⟨_, Try.underlying58⟩) (by kernel_rfl) (by kernel_rfl) (by kernel_rfl) (hval 0 58 v0 rfl rfl)
  obtain ⟨a0_0, a0_1, a0_2, a0_3, a0_4, rfl⟩ := len5 zl0
  clear hA0 hval0
  refine (walk_PeepIdle a0_0 a0_1 a0_2 a0_3 a0_4 (zw0 0 .i64 _ rfl rfl) (zw0 1 .i64 _ rfl rfl) (zw0 2 .i64 _ rfl rfl) (zw0 3 .i64 _ rfl rfl) (zw0 4 .i32 _ rfl rfl) W).mono fun e W' ⟨he, bel⟩ => ?_
  subst he
  exact ⟨_, rfl, _, _, _, [], _, [], hW', trodAll_mk1 (shut_bool Try.underlying4 _), (trodAll_cons_mk (Below.trod laidOut (by kernel_rfl) (of_decide_eq_true (by kernel_rfl)) k0 bel lt0) trodAll_mk0), rfl, bel.frame _, fun h => by cases h⟩

theorem holds_PeepIdle : Rows.PeepIdleSaid :=
  OpenClaim.holds_of_wide 13 Try.f13 rfl rfl rfl rfl rfl rfl rfl ⟨rfl, rfl, rfl, rfl, rfl⟩ rfl rfl rfl rfl rfl (by kernel_rfl) Try.func13 (by kernel_rfl)
    (of_decide_eq_true (by kernel_rfl)) (by unfold Func.isWrapper; first | (rw [if_pos (by decide +kernel)]; kernel_rfl) | (rw [if_neg (by decide +kernel)]; exact ⟨rfl, rfl⟩))
    (fun os started H enc _ => lifted_PeepIdle os started H enc)

end Go.Proofs.Ytedfekgacmfjkaa
