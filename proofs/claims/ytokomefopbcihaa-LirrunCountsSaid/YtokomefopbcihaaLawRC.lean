/- LirrunCounts: the law's walk. -/
import Derived.Test.YtokomefopbcihaaRows
import Derived.Test.YtokomefopbcihaaLivesR
namespace Go.Proofs.Ytokomefopbcihaa
open Pl Go Go.RowKit Go.ChangeShapes Go.WideShapes Go.ChangeAt
set_option linter.unusedVariables false
theorem bd_u16 {a : Int} (h : (Lit.int .u16 a).wf = true) : 0 ≤ a ∧ a < 65536 := by
  have h' := h
  simp [Lit.wf] at h'
  have e1 : IntKind.u16.min = 0 := rfl
  have e2 : IntKind.u16.max = 65535 := rfl
  omega
set_option maxRecDepth 100000 in
set_option maxHeartbeats 4000000 in
theorem walk_LirrunCounts (m d : Int) (w0 : (Lit.int .u16 m).wf = true) (w1 : (Lit.int .u8 d).wf = true) (w : World) :
    Calls Try.prog 14 #[.int .u16 m, .int .u8 d] w fun e w' => e = .returned (.bool true) ∧ Below w.heap.size w w' := by
  have hm := bd_u16 w0
  have hd := bd_u8 w1
  clear w0 w1
  obtain ⟨c, hc⟩ : ∃ c : Nat, (c : Int) = d % 62 + 1 := ⟨(d % 62 + 1).toNat, by omega⟩
  obtain ⟨N, hN⟩ : ∃ N : Int, N = 1 + m % 2000 := ⟨_, rfl⟩
  have HC := Lib.hid hc
  have HN := Lib.hid hN
  have CB := Lib.hid (show 1 ≤ c ∧ c ≤ 62 by omega)
  have NB := Lib.hid (show 1 ≤ N ∧ N ≤ 2000 by omega)
  clear hc hN
  go_enter Try.func14, Try.ntmps14
  go_wp2_with fail
  rw [← HC.out, ← HN.out]
  have cb := CB.out
  have nb := NB.out
  clear hm hd HC HN
  refine (run_loop c N 100000 (bodyC c) w.heap.size 0 4 [3, -1, -1, 0] _ (by omega) (by omega) (by simp [bodyC, DoOk]; omega) (by simp [bodyC]; omega) (by simp [bodyC]) (l5_lit w _ (progL c N (bodyC c)) _ rfl _ rfl (by simp [progL_len, bodyC])) (by simp) (check_C c N cb nb) (ends_C c N) rfl (by decide) (by simp [bodyC]; omega)).mono ?_
  rintro e w1 ⟨⟨v, rfl, own⟩, hb⟩
  have BW := Lib.hid (show Below w.heap.size w w1 from ((Below.refl _ w).alloc (Nat.le_refl _) _).trans (hb.mono (by simp)))
  clear hb
  obtain ⟨a, cc, rfl, _, _, hg⟩ := own_form own
  obtain ⟨g, hag, _⟩ := hg (by decide)
  subst hag
  obtain ⟨f, hf⟩ : ∃ f, rounds c N (bodyC c) N.toNat = f := ⟨_, rfl⟩
  obtain ⟨q1, q2, q3⟩ := counts_C c N cb nb N.toNat (by omega)
  rw [hf] at own q1 q2 q3
  clear hf
  rw [Int.toNat_of_nonneg (by omega)] at q1 q2 q3
  have q1' : f 0 = N * (N + 1) / 2 := by
    have e : 2 * N - N + 1 = N + 1 := by omega
    rw [e] at q1; omega
  have k0 : w1.cell? ⟨g, 0, none⟩ = some (.int .u32 (N * (N + 1) / 2)) := by
    have h := own.cells (g := g) rfl 0 _ (cellsF_at _ (by decide))
    rw [q1', add_at] at h; exact h
  have k63 : w1.cell? ⟨g, 63, none⟩ = some (.int .u32 N) := by
    have h := own.cells (g := g) rfl 63 _ (cellsF_at _ (by decide))
    rw [q2, add_at] at h; exact h
  have kc : w1.cell? ⟨g, c, none⟩ = some (.int .u32 0) := by
    have h := own.cells (g := g) rfl c _ (cellsF_at _ (by omega))
    rw [show f c = 0 by omega, add_at, Nat.zero_add] at h; exact h
  clear own q1 q2 q3 q1'
  have e1 : (1 + N * (((bodyC c).length : Int) + 1)) = 1 + 3 * N := by show 1 + N * ((2 : Int) + 1) = _; omega
  rw [e1]
  have hp0 : 0 ≤ N * (N + 1) := Int.mul_nonneg (by omega) (by omega)
  have hp1 : N * (N + 1) ≤ 2000 * 2001 := Int.mul_le_mul (by omega) (by omega) (by omega) (by omega)
  have u0 : IntKind.u32.wrap N = N := by show N % 4294967296 = N; omega
  have u1 := IntWalk.i32_in (N + 1) (by omega)
  have u2 : IntKind.u32.wrap (N + 1) = N + 1 := by show (N + 1) % 4294967296 = N + 1; omega
  have u3 : IntKind.u32.wrap (N * (N + 1)) = N * (N + 1) := by show (N * (N + 1)) % 4294967296 = _; omega
  have u4 := IntWalk.i64_in (3 * N) (by omega)
  have u5 := IntWalk.i64_in (1 + 3 * N) (by omega)
  have u6 := IntWalk.i64_in N (by omega)
  have g0 : (0 : Int) ≤ (c : Int) := by omega
  have g1 : (c : Int) < 64 := by omega
  clear cb nb e1 CB NB
  go_wp2_with fail
  refine (lives16 w1).mono ?_
  rintro e w2 ⟨rfl, hb2⟩
  have B2 := Lib.hid (BW.out.trans (hb2.mono BW.out.size))
  clear hb2 k0 k63 kc
  go_wp2_with fail
  go_ret
  exact ⟨rfl, B2.out⟩

theorem own : ownKnob Try.prog.godebug = none := by kernel_rfl
set_option maxRecDepth 100000 in
theorem lifted_LirrunCounts (os : Os) (started : os.Started) (H : Type) (enc : TypeId × Value → H) :
    ReturnsInHanded {} Try.checked os 14 .any (Rows.lirrunCountsSpec.pre6 enc Try.prog Try.f14 Rows.lirrunCountsRow.domain false) (Rows.lirrunCountsSpec.post enc Try.prog Try.f14 false true false false) := by
  refine returnsInHanded_of_change (C := Try.checked) own started (by kernel_rfl) Try.func14
    (ChangeSpec.witness6 (enc := enc) (C := Try.checked) false ⟨#[], #[.int .u16 0, .int .u8 0], []⟩ 8 (by kernel_rfl) (by kernel_rfl) (by kernel_rfl) (by kernel_rfl)) ?_
  intro W base args ds gs before hval0 hW hcnd _
  have hval : ∀ (j : Nat) t v, Try.f14.params[j]? = some t → args[j]? = some v → Value.okWide Try.prog W .any base t v := hval0
  have hW' := hW
  obtain ⟨p, q, hA0, hV, rfl, hfz, hnd⟩ := hW
  have hA : DataW.TrodAll enc Try.prog W 0 (fun _ => true) true Try.f14.params.toList args.toList ds p := hA0
  rw [Try.params14] at hA hval
  obtain ⟨v0, vs0, d0, ds0, p0, q0, hargs, rfl, rfl, h0, r0⟩ := trodAll_cons hA
  obtain ⟨v1, vs1, d1, ds1, p1, q1, rfl, rfl, rfl, h1, r1⟩ := trodAll_cons r0
  obtain ⟨rfl, rfl, rfl⟩ := trodAll_nil r1
  obtain rfl : args = #[v0, v1] := by cases args; simp_all
  obtain ⟨rfl, rfl⟩ := trodVars_none hV
  obtain ⟨a0, rfl, rfl, rfl, w0⟩ := open_int Try.underlying92 (hval 0 92 v0 rfl rfl) h0
  obtain ⟨a1, rfl, rfl, rfl, w1⟩ := open_int Try.underlying5 (hval 1 5 v1 rfl rfl) h1
  clear hA0 hval0
  refine (walk_LirrunCounts a0 a1 w0 w1 W).mono fun e W' ⟨he, bel⟩ => ?_
  subst he
  exact ⟨_, rfl, _, _, _, [], _, [], hW', trodAll_mk1 (shut_bool Try.underlying4 _), (trodAll_cons_mk (shut_int Try.underlying92 w0) (trodAll_cons_mk (shut_int Try.underlying5 w1) trodAll_mk0)), rfl, bel.frame _, fun h => by cases h⟩

theorem holds_LirrunCounts : Rows.LirrunCountsSaid :=
  OpenClaim.holds_of_wide 14 Try.f14 rfl rfl rfl rfl rfl rfl rfl ⟨rfl, rfl, rfl, rfl, rfl⟩ rfl rfl rfl rfl rfl (by kernel_rfl) Try.func14 (by kernel_rfl)
    (of_decide_eq_true (by kernel_rfl)) (by unfold Func.isWrapper; first | (rw [if_pos (by decide +kernel)]; kernel_rfl) | (rw [if_neg (by decide +kernel)]; exact ⟨rfl, rfl⟩))
    (fun os started H enc _ => lifted_LirrunCounts os started H enc)

end Go.Proofs.Ytokomefopbcihaa
