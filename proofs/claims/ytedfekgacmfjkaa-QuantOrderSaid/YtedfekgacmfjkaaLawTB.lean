/- Of two numbers the lesser one is not scaled to more: QuantOrder. -/
import Derived.Test.YtedfekgacmfjkaaLawT
import Derived.BigRegion
namespace Go.Proofs.Ytedfekgacmfjkaa
open Go Go.RowKit Go.ChangeShapes Go.WideShapes Go.ChangeAt Pl
set_option linter.unusedVariables false

theorem wf_i64 {a : Int} (h : (Lit.int .i64 a).wf = true) : -9223372036854775808 ≤ a ∧ a ≤ 9223372036854775807 := by
  simpa [Lit.wf, IntKind.min, IntKind.max, IntKind.signed, IntKind.bits] using h
set_option maxHeartbeats 1000000 in
theorem walk_QuantOrder (a b m s : Int) (w0 : (Lit.int .i32 a).wf = true) (w1 : (Lit.int .i32 b).wf = true) (w2 : (Lit.int .i32 m).wf = true) (w3 : (Lit.int .i64 s).wf = true) (w : World) :
    Calls Try.prog 12 #[.int .i32 a, .int .i32 b, .agg #[.int .i32 m, .int .i64 s]] w fun e w' => e = .returned (.bool true) ∧ Below w.heap.size w w' := by
  have ha := wf_i32 w0
  have hb := wf_i32 w1
  have hm := wf_i32 w2
  have hs := i64_and15 s
  have ht : 0 ≤ s % 16 ∧ s % 16 ≤ 15 := by omega
  clear w0 w1 w2 w3
  generalize s % 16 = t at *
  by_cases h1 : m < 0
  · go_enter Try.func12, Try.ntmps12
    go_wp2_with fail
    go_region
    go_wp2_with (go_at_call 39; refine (law20_lives _).mono ?_; rintro e w8 ⟨rfl, b8⟩)
    go_ret
    exact ⟨rfl, below_grown_trans (by go_grown) b8⟩
  by_cases h2 : 1073741824 < a
  · go_enter Try.func12, Try.ntmps12
    go_wp2_with fail
    go_region
    go_wp2_with (go_at_call 39; refine (law20_lives _).mono ?_; rintro e w8 ⟨rfl, b8⟩)
    go_ret
    exact ⟨rfl, below_grown_trans (by go_grown) b8⟩
  by_cases h3 : 1073741824 < b
  · go_enter Try.func12, Try.ntmps12
    go_wp2_with fail
    go_region
    go_wp2_with (go_at_call 39; refine (law20_lives _).mono ?_; rintro e w8 ⟨rfl, b8⟩)
    go_ret
    exact ⟨rfl, below_grown_trans (by go_grown) b8⟩
  by_cases h4 : a < -1073741824
  · go_enter Try.func12, Try.ntmps12
    go_wp2_with fail
    go_region
    go_wp2_with (go_at_call 39; refine (law20_lives _).mono ?_; rintro e w8 ⟨rfl, b8⟩)
    go_ret
    exact ⟨rfl, below_grown_trans (by go_grown) b8⟩
  by_cases h5 : b < -1073741824
  · go_enter Try.func12, Try.ntmps12
    go_wp2_with fail
    go_region
    go_wp2_with (go_at_call 39; refine (law20_lives _).mono ?_; rintro e w8 ⟨rfl, b8⟩)
    go_ret
    exact ⟨rfl, below_grown_trans (by go_grown) b8⟩
  have MA := Lib.hid (fun h : a ≤ b => scale_mono (a := a) (b := b) (m := m) (s := t) h (by omega) (by omega) (by omega) ht)
  have MB := Lib.hid (fun h : b ≤ a => scale_mono (a := b) (b := a) (m := m) (s := t) h (by omega) (by omega) (by omega) ht)
  obtain h6 | h6 | h6 : a < b ∨ a = b ∨ b < a := by omega
  · have le := MA.out (by omega)
    go_enter Try.func12, Try.ntmps12
    go_wp2_with fail
    go_region
    go_wp2_with (first | (go_at_call 33; first | ((with_reducible refine (quant_scale a m t _ ha hm).mono ?_); rintro e w' ⟨rfl, rfl⟩) | ((with_reducible refine (quant_scale b m t _ hb hm).mono ?_); rintro e w' ⟨rfl, rfl⟩)) | (go_at_call 39; refine (law20_lives _).mono ?_; rintro e w8 ⟨rfl, b8⟩))
    go_ret
    exact ⟨rfl, below_grown_trans (by go_grown) b8⟩
  · subst h6
    have le := MA.out (by omega)
    go_enter Try.func12, Try.ntmps12
    go_wp2_with fail
    go_region
    go_wp2_with (first | (go_at_call 33; (with_reducible refine (quant_scale a m t _ ha hm).mono ?_); rintro e w' ⟨rfl, rfl⟩) | (go_at_call 39; refine (law20_lives _).mono ?_; rintro e w8 ⟨rfl, b8⟩))
    go_ret
    exact ⟨rfl, below_grown_trans (by go_grown) b8⟩
  · have le := MB.out (by omega)
    go_enter Try.func12, Try.ntmps12
    go_wp2_with fail
    go_region
    go_wp2_with (first | (go_at_call 33; first | ((with_reducible refine (quant_scale a m t _ ha hm).mono ?_); rintro e w' ⟨rfl, rfl⟩) | ((with_reducible refine (quant_scale b m t _ hb hm).mono ?_); rintro e w' ⟨rfl, rfl⟩)) | (go_at_call 39; refine (law20_lives _).mono ?_; rintro e w8 ⟨rfl, b8⟩))
    go_ret
    exact ⟨rfl, below_grown_trans (by go_grown) b8⟩

theorem own : ownKnob Try.prog.godebug = none := by kernel_rfl
theorem laidOut : laidOutB Try.prog = true := by kernel_rfl
set_option maxRecDepth 100000 in
theorem lifted_QuantOrder (os : Os) (started : os.Started) (H : Type) (enc : TypeId × Value → H) :
    ReturnsInHanded {} Try.checked os 12 .any (Rows.quantOrderSpec.pre6 enc Try.prog Try.f12 Rows.quantOrderRow.domain false) (Rows.quantOrderSpec.post enc Try.prog Try.f12 false true false false) := by
  refine returnsInHanded_of_change (C := Try.checked) own started (by kernel_rfl) Try.func12
    (ChangeSpec.witness6 (enc := enc) (C := Try.checked) false ⟨#[], #[.int .i32 0, .int .i32 0, .agg #[.int .i32 0, .int .i64 0]], []⟩ 8 (by kernel_rfl) (by kernel_rfl) (by kernel_rfl) (by kernel_rfl)) ?_
  intro W base args ds gs before hval0 hW hcnd _
  have hval : ∀ (j : Nat) t v, Try.f12.params[j]? = some t → args[j]? = some v → Value.okWide Try.prog W .any base t v := hval0
  have hW' := hW
  obtain ⟨p, q, hA0, hV, rfl, hfz, hnd⟩ := hW
  have hA : DataW.TrodAll enc Try.prog W 0 (fun _ => true) true Try.f12.params.toList args.toList ds p := hA0
  rw [Try.params12] at hA hval
  obtain ⟨v0, vs0, d0, ds0, p0, q0, hargs, rfl, rfl, h0, r0⟩ := trodAll_cons hA
  obtain ⟨v1, vs1, d1, ds1, p1, q1, rfl, rfl, rfl, h1, r1⟩ := trodAll_cons r0
  obtain ⟨v2, vs2, d2, ds2, p2, q2, rfl, rfl, rfl, h2, r2⟩ := trodAll_cons r1
  obtain ⟨rfl, rfl, rfl⟩ := trodAll_nil r2
  obtain rfl : args = #[v0, v1, v2] := by cases args; simp_all
  obtain ⟨rfl, rfl⟩ := trodVars_none hV
  obtain ⟨a0, rfl, rfl, rfl, w0⟩ := open_int Try.underlying21 (hval 0 21 v0 rfl rfl) h0
  obtain ⟨a1, rfl, rfl, rfl, w1⟩ := open_int Try.underlying21 (hval 1 21 v1 rfl rfl) h1
  have k2 := h2
  have lt2 : ∀ x ∈ p2, x.block < W.heap.size := by obtain ⟨m, hm⟩ := k2; exact DataW.trod_lt m _ _ _ hm
  obtain ⟨zs2, zl2, rfl, zw2⟩ := flat_ints [.i32, .i64] (ts := [21, 3]) (Or.inl ⟨_, Try.underlying55⟩) (by kernel_rfl) (by kernel_rfl) (by kernel_rfl) (hval 2 55 v2 rfl rfl)
  obtain ⟨a2_0, a2_1, rfl⟩ := len2 zl2
  clear hA0 hval0
  refine (walk_QuantOrder a0 a1 a2_0 a2_1 w0 w1 (zw2 0 .i32 _ rfl rfl) (zw2 1 .i64 _ rfl rfl) W).mono fun e W' ⟨he, bel⟩ => ?_
  subst he
  exact ⟨_, rfl, _, _, _, [], _, [], hW', trodAll_mk1 (shut_bool Try.underlying4 _), (trodAll_cons_mk (shut_int Try.underlying21 w0) (trodAll_cons_mk (shut_int Try.underlying21 w1) (trodAll_cons_mk (Below.trod laidOut (by kernel_rfl) (of_decide_eq_true (by kernel_rfl)) k2 bel lt2) trodAll_mk0))), rfl, bel.frame _, fun h => by cases h⟩

theorem holds_QuantOrder : Rows.QuantOrderSaid :=
  OpenClaim.holds_of_wide 12 Try.f12 rfl rfl rfl rfl rfl rfl rfl ⟨rfl, rfl, rfl, rfl, rfl⟩ rfl rfl rfl rfl rfl (by kernel_rfl) Try.func12 (by kernel_rfl)
    (of_decide_eq_true (by kernel_rfl)) (by unfold Func.isWrapper; first | (rw [if_pos (by decide +kernel)]; kernel_rfl) | (rw [if_neg (by decide +kernel)]; exact ⟨rfl, rfl⟩))
    (fun os started H enc _ => lifted_QuantOrder os started H enc)

end Go.Proofs.Ytedfekgacmfjkaa
