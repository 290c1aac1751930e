/- The statement of layer 30 on whether blocks meet: it returns true for all inputs. -/
import Derived.Test.YtohndfcbebeemaaRows
import Derived.Test.YtohndfcbebeemaaExeL
import Derived.Test.YtohndfcbebeemaaOpen
import Derived.WalkSpells
import Derived.WalkSmall
import Derived.Handy
import Derived.Lib.Hide
import Derived.BigQuiet
import Derived.StillTailTactics
import Derived.Deep.RegionHeld3
namespace Go.Proofs.Ytohndfcbebeemaa
open Go Go.RowKit Go.ChangeShapes Go.WideShapes Go.ChangeAt
set_option linter.unusedVariables false

/-- each begins before the other one ends -/
def meetB (a1 a2 b1 b2 : Int) : Bool := decide (a1 ≤ a2 ∧ a1 ≤ b2 ∧ b1 ≤ a2 ∧ b1 ≤ b2)
theorem meetB_comm (a1 a2 b1 b2 : Int) : meetB b1 b2 a1 a2 = meetB a1 a2 b1 b2 := by unfold meetB; rw [decide_eq_decide]; omega
theorem meetB_yes {a1 a2 b1 b2 : Int} (h : a1 ≤ a2 ∧ a1 ≤ b2 ∧ b1 ≤ a2 ∧ b1 ≤ b2) : meetB a1 a2 b1 b2 = true := decide_eq_true h
theorem meetB_no {a1 a2 b1 b2 : Int} (h : ¬ (a1 ≤ a2 ∧ a1 ≤ b2 ∧ b1 ≤ a2 ∧ b1 ≤ b2)) : meetB a1 a2 b1 b2 = false := decide_eq_false h
theorem ret_b {a b : Bool} (h : a = b) : Ending.returned (.bool a) = .returned (.bool b) := by rw [h]
theorem below_dN {B n : Nat} {a w : World} (h : Below B a w) (_ : Unit) : Below B a (w.drewN n) := ⟨h.os, h.tape, h.output, h.size, h.block⟩
set_option maxHeartbeats 1000000 in
theorem meet_any (a0 a1 a2 b0 b1 b2 : Int) (w : World) :
    Calls Try.prog 10 #[.agg #[.int .i64 a0, .int .i64 a1, .int .i64 a2], .agg #[.int .i64 b0, .int .i64 b1, .int .i64 b2]] w fun e w' => e = .returned (.bool (meetB a1 a2 b1 b2)) ∧ Below w.heap.size w w' := by
  go_enter Try.func10, Try.ntmps10
  go_wp2
  all_goals go_ret
  all_goals exact ⟨ret_b (by unfold meetB; rw [decide_eq_decide]; omega), by go_grown⟩
set_option maxHeartbeats 1000000 in
theorem rmeet_any (a0 a1 a2 b0 b1 b2 : Int) (w : World) :
    Calls Try.prog 11 #[.agg #[.int .i64 a0, .int .i64 a1, .int .i64 a2], .agg #[.int .i64 b0, .int .i64 b1, .int .i64 b2]] w fun e w' => e = .returned (.bool (meetB a1 a2 b1 b2)) ∧ Below w.heap.size w w' := by
  by_cases h1 : a1 < b1
  all_goals
    by_cases h2 : b2 < a2
  all_goals
    go_enter Try.func11, Try.ntmps11
    go_wp2
    all_goals (try (go_quiet (fail); go_wp2_with fail))
    all_goals go_ret
    all_goals refine ⟨ret_b ?_, below_dN (by go_grown) ()⟩
    all_goals unfold meetB
    all_goals first | (rw [decide_eq_decide]; omega) | (simp; omega) | (simp at *; omega) | trace_state

set_option maxRecDepth 100000 in
set_option maxHeartbeats 8000000 in
theorem walk_ArenaMeets (a0_0 a0_1 a0_2 a1_0 a1_1 a1_2 : Int) (w0 : (Lit.int .i64 a0_0).wf = true) (w1 : (Lit.int .i64 a0_1).wf = true) (w2 : (Lit.int .i64 a0_2).wf = true) (w3 : (Lit.int .i64 a1_0).wf = true) (w4 : (Lit.int .i64 a1_1).wf = true) (w5 : (Lit.int .i64 a1_2).wf = true) (w : World) :
    Calls Try.prog 4 #[.agg #[.int .i64 a0_0, .int .i64 a0_1, .int .i64 a0_2], .agg #[.int .i64 a1_0, .int .i64 a1_1, .int .i64 a1_2]] w fun e w' => e = .returned (.bool true) ∧ Below w.heap.size w w' := by
  have M := Lib.hid (fun W => meet_any a0_0 a0_1 a0_2 a1_0 a1_1 a1_2 W)
  have N := Lib.hid (fun W => meet_any a1_0 a1_1 a1_2 a0_0 a0_1 a0_2 W)
  have R := Lib.hid (fun W => rmeet_any a0_0 a0_1 a0_2 a1_0 a1_1 a1_2 W)
  rw [meetB_comm a0_1 a0_2 a1_1 a1_2] at N
  generalize meetB a0_1 a0_2 a1_1 a1_2 = v at M N R
  clear w0 w1 w2 w3 w4 w5
  go_enter Try.func4, Try.ntmps4
  go_wp2_with fail
  obtain ⟨w1, hw1⟩ : ∃ w1, w1 = (w.alloc (.cells #[.int .i64 a0_0, .int .i64 a0_1, .int .i64 a0_2] 28)).alloc (.cells #[.int .i64 a1_0, .int .i64 a1_1, .int .i64 a1_2] 28) := ⟨_, rfl⟩
  have hS : w1.cell? ⟨w.heap.size, 0, none⟩ = some (.int .i64 a0_0) ∧ w1.cell? ⟨w.heap.size, 1, none⟩ = some (.int .i64 a0_1) ∧ w1.cell? ⟨w.heap.size, 2, none⟩ = some (.int .i64 a0_2) ∧ w1.cell? ⟨w.heap.size + 1, 0, none⟩ = some (.int .i64 a1_0) ∧ w1.cell? ⟨w.heap.size + 1, 1, none⟩ = some (.int .i64 a1_1) ∧ w1.cell? ⟨w.heap.size + 1, 2, none⟩ = some (.int .i64 a1_2) ∧ w.heap.size + 1 < w1.heap.size ∧ Below w.heap.size w w1 := by
    subst hw1
    exact ⟨by simp, by simp, by simp, by simp, by simp, by simp, by simp, by go_grown⟩
  rw [← hw1]
  clear hw1
  have tv : (v == v) = true := by simp
  go_region_held3 (fun w' => w'.cell? ⟨w.heap.size, 0, none⟩ = some (.int .i64 a0_0) ∧ w'.cell? ⟨w.heap.size, 1, none⟩ = some (.int .i64 a0_1) ∧ w'.cell? ⟨w.heap.size, 2, none⟩ = some (.int .i64 a0_2) ∧ w'.cell? ⟨w.heap.size + 1, 0, none⟩ = some (.int .i64 a1_0) ∧ w'.cell? ⟨w.heap.size + 1, 1, none⟩ = some (.int .i64 a1_1) ∧ w'.cell? ⟨w.heap.size + 1, 2, none⟩ = some (.int .i64 a1_2) ∧ w.heap.size + 1 < w'.heap.size ∧ Below w.heap.size w w')
    (first | (with_reducible assumption) | (obtain ⟨s0, s1, s2, s3, s4, s5, s6, s7⟩ := ‹_ ∧ _ ∧ _ ∧ _ ∧ _ ∧ _ ∧ _ ∧ Below w.heap.size w _›; exact ⟨(hbl.cell (by show w.heap.size < _; omega)).trans s0, (hbl.cell (by show w.heap.size < _; omega)).trans s1, (hbl.cell (by show w.heap.size < _; omega)).trans s2, (hbl.cell (by show w.heap.size + 1 < _; omega)).trans s3, (hbl.cell (by show w.heap.size + 1 < _; omega)).trans s4, (hbl.cell (by show w.heap.size + 1 < _; omega)).trans s5, Nat.lt_of_lt_of_le s6 hbl.size, s7.trans (hbl.mono s7.size)⟩) | (obtain ⟨s0, s1, s2, s3, s4, s5, s6, s7⟩ := ‹_ ∧ _ ∧ _ ∧ _ ∧ _ ∧ _ ∧ _ ∧ Below w.heap.size w _›; exact ⟨(World.cell?_alloc_past _ _ _ (by omega)).trans s0, (World.cell?_alloc_past _ _ _ (by omega)).trans s1, (World.cell?_alloc_past _ _ _ (by omega)).trans s2, (World.cell?_alloc_past _ _ _ (by omega)).trans s3, (World.cell?_alloc_past _ _ _ (by omega)).trans s4, (World.cell?_alloc_past _ _ _ (by omega)).trans s5, Nat.lt_of_lt_of_le s6 (by simp), s7.alloc s7.size _⟩) | (obtain ⟨s0, s1, s2, s3, s4, s5, s6, s7⟩ := ‹_ ∧ _ ∧ _ ∧ _ ∧ _ ∧ _ ∧ _ ∧ Below w.heap.size w _›; exact ⟨s0, s1, s2, s3, s4, s5, s6, s7.drew⟩) | (obtain ⟨s0, s1, s2, s3, s4, s5, s6, s7⟩ := ‹_ ∧ _ ∧ _ ∧ _ ∧ _ ∧ _ ∧ _ ∧ Below w.heap.size w _›; exact ⟨(World.cell?_alloc_past _ _ _ (by omega)).trans s0, (World.cell?_alloc_past _ _ _ (by omega)).trans s1, (World.cell?_alloc_past _ _ _ (by omega)).trans s2, (World.cell?_alloc_past _ _ _ (by omega)).trans s3, (World.cell?_alloc_past _ _ _ (by omega)).trans s4, (World.cell?_alloc_past _ _ _ (by omega)).trans s5, Nat.lt_of_lt_of_le s6 (by simp), (s7.alloc s7.size _).drew⟩) | (obtain ⟨s0, s1, s2, s3, s4, s5, s6, s7⟩ := ‹_ ∧ _ ∧ _ ∧ _ ∧ _ ∧ _ ∧ _ ∧ Below w.heap.size w _›; exact ⟨s0, s1, s2, s3, s4, s5, s6, s7⟩))
    (first
    | (go_at_call 10; first | ((with_reducible refine (M.out _).mono ?_); rintro e w9 ⟨rfl, hbl⟩) | ((with_reducible refine (N.out _).mono ?_); rintro e w9 ⟨rfl, hbl⟩))
    | (go_at_call 11; refine (R.out _).mono ?_; rintro e w9 ⟨rfl, hbl⟩)
    | (go_at_call 12; refine (lives30 _).mono ?_; rintro e w9 ⟨rfl, hbl⟩))
  obtain ⟨_, _, _, _, _, _, _, hB⟩ := ‹_ ∧ _ ∧ _ ∧ _ ∧ _ ∧ _ ∧ _ ∧ Below w.heap.size w _›
  go_wp2_with fail
  go_ret
  exact ⟨rfl, hB⟩

theorem own : ownKnob Try.prog.godebug = none := by kernel_rfl
theorem laidOut : laidOutB Try.prog = true := by kernel_rfl
set_option maxRecDepth 100000 in
theorem lifted_ArenaMeets (os : Os) (started : os.Started) (H : Type) (enc : TypeId × Value → H) :
    ReturnsInHanded {} Try.checked os 4 .any (Rows.arenaMeetsSpec.pre6 enc Try.prog Try.f4 Rows.arenaMeetsRow.domain false) (Rows.arenaMeetsSpec.post enc Try.prog Try.f4 false true false false) := by
  refine returnsInHanded_of_change (C := Try.checked) own started (by kernel_rfl) Try.func4
    (ChangeSpec.witness6 (enc := enc) (C := Try.checked) false ⟨#[], #[.agg #[.int .i64 0, .int .i64 0, .int .i64 0], .agg #[.int .i64 0, .int .i64 0, .int .i64 0]], []⟩ 8 (by kernel_rfl) (by kernel_rfl) (by kernel_rfl) (by kernel_rfl)) ?_
  intro W base args ds gs before hval0 hW hcnd _
  have hval : ∀ (j : Nat) t v, Try.f4.params[j]? = some t → args[j]? = some v → Value.okWide Try.prog W .any base t v := hval0
  have hW' := hW
  obtain ⟨p, q, hA0, hV, rfl, hfz, hnd⟩ := hW
  have hA : DataW.TrodAll enc Try.prog W 0 (fun _ => true) true Try.f4.params.toList args.toList ds p := hA0
  rw [Try.params4] at hA hval
  obtain ⟨v0, vs0, d0, ds0, p0, q0, hargs, rfl, rfl, h0, r0⟩ := trodAll_cons hA
  obtain ⟨v1, vs1, d1, ds1, p1, q1, rfl, rfl, rfl, h1, r1⟩ := trodAll_cons r0
  obtain ⟨rfl, rfl, rfl⟩ := trodAll_nil r1
  obtain rfl : args = #[v0, v1] := by cases args; simp_all
  obtain ⟨rfl, rfl⟩ := trodVars_none hV
  have k0 := h0
  have lt0 : ∀ x ∈ p0, x.block < W.heap.size := by obtain ⟨m, hm⟩ := k0; exact DataW.trod_lt m _ _ _ hm
  obtain ⟨zs0, zl0, rfl, zw0⟩ := flat_ints [.i64, .i64, .i64] (ts := [3, 3, 3]) (Or.inl ⟨_, Try.underlying28⟩) (by kernel_rfl) (by kernel_rfl) (by kernel_rfl) (hval 0 28 v0 rfl rfl)
  obtain ⟨a0_0, a0_1, a0_2, rfl⟩ := len3 zl0
  have k1 := h1
  have lt1 : ∀ x ∈ p1, x.block < W.heap.size := by obtain ⟨m, hm⟩ := k1; exact DataW.trod_lt m _ _ _ hm
  obtain ⟨zs1, zl1, rfl, zw1⟩ := flat_ints [.i64, .i64, .i64] (ts := [3, 3, 3]) (Or.inl ⟨_, Try.underlying28⟩) (by kernel_rfl) (by kernel_rfl) (by kernel_rfl) (hval 1 28 v1 rfl rfl)
  obtain ⟨a1_0, a1_1, a1_2, rfl⟩ := len3 zl1
  clear hA0 hval0
  refine (walk_ArenaMeets a0_0 a0_1 a0_2 a1_0 a1_1 a1_2 (zw0 0 .i64 _ rfl rfl) (zw0 1 .i64 _ rfl rfl) (zw0 2 .i64 _ rfl rfl) (zw1 0 .i64 _ rfl rfl) (zw1 1 .i64 _ rfl rfl) (zw1 2 .i64 _ rfl rfl) W).mono fun e W' ⟨he, bel⟩ => ?_
  subst he
  exact ⟨_, rfl, _, _, _, [], _, [], hW', trodAll_mk1 (shut_bool Try.underlying4 _), (trodAll_cons_mk (Below.trod laidOut (by kernel_rfl) (of_decide_eq_true (by kernel_rfl)) k0 bel lt0) (trodAll_cons_mk (Below.trod laidOut (by kernel_rfl) (of_decide_eq_true (by kernel_rfl)) k1 bel lt1) trodAll_mk0)), rfl, bel.frame _, fun h => by cases h⟩

theorem holds_ArenaMeets : Rows.ArenaMeetsSaid :=
  OpenClaim.holds_of_wide 4 Try.f4 rfl rfl rfl rfl rfl rfl rfl ⟨rfl, rfl, rfl, rfl, rfl⟩ rfl rfl rfl rfl rfl (by kernel_rfl) Try.func4 (by kernel_rfl)
    (of_decide_eq_true (by kernel_rfl)) (by unfold Func.isWrapper; first | (rw [if_pos (by decide +kernel)]; kernel_rfl) | (rw [if_neg (by decide +kernel)]; exact ⟨rfl, rfl⟩))
    (fun os started H enc _ => lifted_ArenaMeets os started H enc)

end Go.Proofs.Ytohndfcbebeemaa
