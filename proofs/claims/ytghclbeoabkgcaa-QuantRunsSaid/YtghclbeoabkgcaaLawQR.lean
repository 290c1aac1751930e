/- The statement QuantRuns of layer 20 (numbers brought to a byte by a loop program): it returns true for all inputs. -/
import Derived.Test.YtghclbeoabkgcaaRows
import Derived.Test.YtghclbeoabkgcaaQrC
namespace Go.Proofs.Ytghclbeoabkgcaa
open Pl Go Go.RowKit Go.ChangeShapes Go.WideShapes Go.ChangeAt
set_option linter.unusedVariables false

theorem walk_QuantRuns (n m s z lo hi : Int) (w0 : (Lit.int .i32 n).wf = true) (w1 : (Lit.int .i32 m).wf = true) (w2 : (Lit.int .i64 s).wf = true) (w3 : (Lit.int .i32 z).wf = true) (w4 : (Lit.int .i32 lo).wf = true) (w5 : (Lit.int .i32 hi).wf = true) (w : World) :
    Calls Try.prog 3 #[.int .i32 n, .int .i32 m, .agg #[.int .i64 s, .int .i32 z, .int .i32 lo, .int .i32 hi]] w fun e w' => e = .returned (.bool true) ∧ Below w.heap.size w w' := by
  have hn : -2147483648 ≤ n ∧ n ≤ 2147483647 := by simpa [Lit.wf, IntKind.min, IntKind.max, IntKind.signed, IntKind.bits] using w0
  have hm : -2147483648 ≤ m ∧ m ≤ 2147483647 := by simpa [Lit.wf, IntKind.min, IntKind.max, IntKind.signed, IntKind.bits] using w1
  cases C1 : canqS 0 0 1 s
  · exact qruns_no1 n m s z lo hi w C1
  cases C2 : boundsS 0 1 lo hi
  · exact qruns_no2 n m s z lo hi w C1 C2
  cases C3 : decide (1000 < z)
  case true => exact qruns_no3 n m s z lo hi w C1 C2 C3
  cases C4 : decide (z < -1000)
  case true => exact qruns_no4 n m s z lo hi w C1 C2 C3 C4
  cases D1 : decide (268435456 < scaleS n m s)
  case true => exact qruns_big1 n m s z lo hi w hn hm C1 C2 C3 C4 D1
  cases D2 : decide (scaleS n m s < -268435456)
  case true => exact qruns_big2 n m s z lo hi w hn hm C1 C2 C3 C4 D1 D2
  have hs : 0 ≤ s ∧ s ≤ 31 := by
    unfold canqS at C1
    simp only [Bool.and_eq_true, decide_eq_true_eq] at C1
    omega
  have hb : -536870912 ≤ lo ∧ lo ≤ hi ∧ hi ≤ 536870912 := by
    unfold boundsS at C2
    simp only [Bool.and_eq_true, decide_eq_true_eq] at C2
    omega
  have hz : -1000 ≤ z ∧ z ≤ 1000 := by
    simp only [decide_eq_false_iff_not] at C3 C4
    omega
  have hsc : -268435456 ≤ scaleS n m s ∧ scaleS n m s ≤ 268435456 := by
    simp only [decide_eq_false_iff_not] at D1 D2
    omega
  exact qruns_main n m s z lo hi w hn hm C1 C2 C3 C4 D1 D2 hs hz hb hsc

theorem own : ownKnob Try.prog.godebug = none := by kernel_rfl
theorem laidOut : laidOutB Try.prog = true := by kernel_rfl
set_option maxRecDepth 100000 in
theorem lifted_QuantRuns (os : Os) (started : os.Started) (H : Type) (enc : TypeId × Value → H) :
    ReturnsInHanded {} Try.checked os 3 .any (Rows.quantRunsSpec.pre6 enc Try.prog Try.f3 Rows.quantRunsRow.domain false) (Rows.quantRunsSpec.post enc Try.prog Try.f3 false true false false) := by
  refine returnsInHanded_of_change (C := Try.checked) own started (by kernel_rfl) Try.func3
    (ChangeSpec.witness6 (enc := enc) (C := Try.checked) false ⟨#[], #[.int .i32 0, .int .i32 0, .agg #[.int .i64 0, .int .i32 0, .int .i32 0, .int .i32 0]], []⟩ 8 (by kernel_rfl) (by kernel_rfl) (by kernel_rfl) (by kernel_rfl)) ?_
  intro W base args ds gs before hval0 hW hcnd _
  have hval : ∀ (j : Nat) t v, Try.f3.params[j]? = some t → args[j]? = some v → Value.okWide Try.prog W .any base t v := hval0
  have hW' := hW
  obtain ⟨p, q, hA0, hV, rfl, hfz, hnd⟩ := hW
  have hA : DataW.TrodAll enc Try.prog W 0 (fun _ => true) true Try.f3.params.toList args.toList ds p := hA0
  rw [Try.params3] at hA hval
  obtain ⟨v0, vs0, d0, ds0, p0, q0, hargs, rfl, rfl, h0, r0⟩ := trodAll_cons hA
  obtain ⟨v1, vs1, d1, ds1, p1, q1, rfl, rfl, rfl, h1, r1⟩ := trodAll_cons r0
  obtain ⟨v2, vs2, d2, ds2, p2, q2, rfl, rfl, rfl, h2, r2⟩ := trodAll_cons r1
  obtain ⟨rfl, rfl, rfl⟩ := trodAll_nil r2
  obtain rfl : args = #[v0, v1, v2] := by cases args; simp_all
  obtain ⟨rfl, rfl⟩ := trodVars_none hV
  obtain ⟨a0, rfl, rfl, rfl, w0⟩ := open_int Try.underlying21 (hval 0 21 v0 rfl rfl) h0
  obtain ⟨a1, rfl, rfl, rfl, w1⟩ := open_int Try.underlying21 (hval 1 21 v1 rfl rfl) h1
  have k2 := h2
  have lt2 : ∀ x ∈ p2, x.block < W.heap.size := by obtain ⟨m, hm⟩ := k2; exact DataW.trod_lt m _ _ _ hm
  obtain ⟨zs2, zl2, rfl, zw2⟩ := flat_ints [.i64, .i32, .i32, .i32] (ts := [3, 21, 21, 21]) (Or.inl ⟨_, Try.underlying23⟩) (by kernel_rfl) (by kernel_rfl) (by kernel_rfl) (hval 2 23 v2 rfl rfl)
  obtain ⟨a2_0, a2_1, a2_2, a2_3, rfl⟩ := len4 zl2
  clear hA0 hval0
  refine (walk_QuantRuns a0 a1 a2_0 a2_1 a2_2 a2_3 w0 w1 (zw2 0 .i64 _ rfl rfl) (zw2 1 .i32 _ rfl rfl) (zw2 2 .i32 _ rfl rfl) (zw2 3 .i32 _ rfl rfl) W).mono fun e W' ⟨he, bel⟩ => ?_
  subst he
  exact ⟨_, rfl, _, _, _, [], _, [], hW', trodAll_mk1 (shut_bool Try.underlying4 _), (trodAll_cons_mk (shut_int Try.underlying21 w0) (trodAll_cons_mk (shut_int Try.underlying21 w1) (trodAll_cons_mk (Below.trod laidOut (by kernel_rfl) (of_decide_eq_true (by kernel_rfl)) k2 bel lt2) trodAll_mk0))), rfl, bel.frame _, fun h => by cases h⟩

theorem holds_QuantRuns : Rows.QuantRunsSaid :=
  OpenClaim.holds_of_wide 3 Try.f3 rfl rfl rfl rfl rfl rfl rfl ⟨rfl, rfl, rfl, rfl, rfl⟩ rfl rfl rfl rfl rfl (by kernel_rfl) Try.func3 (by kernel_rfl)
    (of_decide_eq_true (by kernel_rfl)) (by unfold Func.isWrapper; first | (rw [if_pos (by decide +kernel)]; kernel_rfl) | (rw [if_neg (by decide +kernel)]; exact ⟨rfl, rfl⟩))
    (fun os started H enc _ => lifted_QuantRuns os started H enc)

end Go.Proofs.Ytghclbeoabkgcaa
