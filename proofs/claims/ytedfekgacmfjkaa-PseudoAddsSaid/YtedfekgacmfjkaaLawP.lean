/- The statements of layer 12 (instructions that stand for several): laws of package pintlelaw12 return true for all inputs. -/
import Derived.Test.YtedfekgacmfjkaaRows
import Derived.Test.YtedfekgacmfjkaaPseudoD
import Derived.Test.YtedfekgacmfjkaaOpen
import Derived.Deep.RegionHeld3
namespace Go.Proofs.Ytedfekgacmfjkaa
open Go Go.RowKit Go.ChangeShapes Go.WideShapes Go.ChangeAt
set_option linter.unusedVariables false

theorem own_l5 {w : World} {base : Nat} {v : Value} {l : List Q5} (h : OwnIns w base v l) (hl : l.length ≤ 3) : ∃ a c, v = .slice a l.length c ∧ L5 w a l := by
  obtain ⟨a, c, h1, h2, _⟩ := l5_own h rfl (by omega)
  exact ⟨a, c, h1, h2⟩
theorem bt {w a b : World} (h : Below w.heap.size w a) (k : Below a.heap.size a b) : Below w.heap.size w b := h.trans (k.mono h.size)
theorem set_lives : setS 5 2048 = [⟨42, 5, 0, 0, 4096⟩, ⟨19, 5, 5, 0, -2048⟩] := by
  rw [set_two (by omega) (by omega) (by rw [lowS_eq]; decide), lowS_eq, show wrap32 (2048 - ((2048 + 2048) % 4096 - 2048)) = 4096 by unfold wrap32; omega]; rfl
theorem wf_i32 {a : Int} (h : (Lit.int .i32 a).wf = true) : -2147483648 ≤ a ∧ a ≤ 2147483647 := by
  simpa [Lit.wf, IntKind.min, IntKind.max, IntKind.signed, IntKind.bits] using h

set_option maxRecDepth 100000 in
set_option maxHeartbeats 400000 in
theorem law12_lives (w : World) : Calls Try.prog 27 #[] w fun e w' => e = .returned (.bool true) ∧ Below w.heap.size w w' := by
  go_enter Try.func27, Try.ntmps27
  go_wp2_with fail
  refine (set_any 5 2048 w (by omega)).mono ?_
  rw [set_lives]
  rintro e w1 ⟨v, rfl, hown, hb⟩
  obtain ⟨a, c, rfl, hl⟩ := own_l5 hown (by simp)
  have HB := Lib.hid hb
  have HL := Lib.hid hl
  clear hb hl hown
  go_wp2_with fail
  refine (same_eq a (some ⟨w1.heap.size, 0, none⟩) c 2 [⟨42, 5, 0, 0, 4096⟩, ⟨19, 5, 5, 0, -2048⟩] _ (HL.out.later ?h1) (l5_lit w1 _ _ _ rfl _ rfl (by simp))).mono ?_
  case h1 => go_grown
  rintro e w2 ⟨rfl, n, rfl⟩
  go_wp2_with fail
  go_ret
  exact ⟨rfl, bt HB.out (below_drewN (by go_grown) n)⟩

theorem set_len3 (b n : Int) : (setS b n).length ≤ 3 := by have := set_len b n; omega
theorem add_len3 (rd rs n b : Int) : (addS rd rs n b).length ≤ 3 := by
  unfold addS
  split
  · split
    · simp
    · have := set_len b n; simp; omega
  · simp

set_option maxHeartbeats 400000 in
theorem walk_PseudoSets (rd n : Int) (w0 : (Lit.int .i64 rd).wf = true) (w1 : (Lit.int .i32 n).wf = true) (w : World) :
    Calls Try.prog 7 #[.int .i64 rd, .int .i32 n] w fun e w' => e = .returned (.bool true) ∧ Below w.heap.size w w' := by
  have hn := wf_i32 w1
  clear w0 w1
  have LN := Lib.hid (set_len3 rd n)
  go_enter Try.func7, Try.ntmps7
  go_wp2_with fail
  refine (set_any rd n w hn).mono ?_
  rintro e w1 ⟨v1, rfl, o1, b1⟩
  obtain ⟨a1, c1, rfl, l1⟩ := own_l5 o1 LN.out
  clear o1
  go_wp2_with fail
  refine (rset_any rd n w1 hn).mono ?_
  rintro e w2 ⟨v2, rfl, o2, b2⟩
  obtain ⟨a2, c2, rfl, l2⟩ := own_l5 o2 LN.out
  clear o2
  replace l1 := l1.later b2
  go_wp2_with fail
  refine (same_eq a1 a2 c1 c2 _ w2 l1 l2).mono ?_
  rintro e w3 ⟨rfl, n3, rfl⟩
  go_wp2_with fail
  refine (law12_lives _).mono ?_
  rintro e w4 ⟨rfl, b4⟩
  go_wp2_with fail
  go_ret
  exact ⟨rfl, bt (bt b1 b2) (bt (below_drewN (Below.refl _ _) n3) b4)⟩

theorem own_some {w : World} {base : Nat} {v : Value} {l : List Q5} {n : Nat} (h : OwnIns w base v l) (hl : l.length = n) (hn : n ≤ 3) : ∃ a c, v = .slice a n c := by
  subst hl
  obtain ⟨a, c, h1, h2, _⟩ := l5_own h rfl (by omega)
  exact ⟨a, c, h1⟩

set_option maxHeartbeats 400000 in
theorem few_one (n : Int) (w : World) (hn : -2147483648 ≤ n ∧ n ≤ 2147483647) (h : -2048 ≤ n ∧ n ≤ 2047) :
    Calls Try.prog 10 #[.int .i32 n] w fun e w' => e = .returned (.bool true) ∧ Below w.heap.size w w' := by
  have LN := Lib.hid (show (setS 7 n).length = 1 by rw [set_short (by omega) h]; rfl)
  have h1 : decide (-2048 ≤ n) = true := by simp; omega
  have h2 : decide (n ≤ 2047) = true := by simp; omega
  clear h
  go_enter Try.func10, Try.ntmps10
  go_wp2_with fail
  refine (set_any 7 n w hn).mono ?_
  rintro e w1 ⟨v1, rfl, o1, b1⟩
  obtain ⟨a1, c1, rfl⟩ := own_some o1 LN.out (by omega)
  clear o1
  go_wp2_with fail
  refine (law12_lives _).mono ?_
  rintro e w4 ⟨rfl, b4⟩
  go_wp2_with fail
  go_ret
  exact ⟨rfl, bt b1 b4⟩
set_option maxHeartbeats 400000 in
theorem few_lui (n : Int) (w : World) (hn : -2147483648 ≤ n ∧ n ≤ 2147483647) (h : n < -2048 ∨ 2047 < n) (hz : (n.tmod 4096 == 0) = true) :
    Calls Try.prog 10 #[.int .i32 n] w fun e w' => e = .returned (.bool true) ∧ Below w.heap.size w w' := by
  have LN := Lib.hid (show (setS 7 n).length = 1 by rw [one_of (X := wrap32 n) (by omega) h (by have := tm_cases n; simp at hz; omega) rfl]; rfl)
  go_enter Try.func10, Try.ntmps10
  have hz2 := hz
  rcases h with h | h
  rotate_left
  · rw [Int.tmod_eq_emod_of_nonneg (by omega)] at hz2
    go_wp2_with fail
    refine (set_any 7 n w hn).mono ?_
    rintro e w1 ⟨v1, rfl, o1, b1⟩
    obtain ⟨a1, c1, rfl⟩ := own_some o1 LN.out (by omega)
    clear o1
    go_wp2_with fail
    refine (law12_lives _).mono ?_
    rintro e w4 ⟨rfl, b4⟩
    go_wp2_with fail
    go_ret
    exact ⟨rfl, bt b1 b4⟩
  · go_wp2_with fail
    refine (set_any 7 n w hn).mono ?_
    rintro e w1 ⟨v1, rfl, o1, b1⟩
    obtain ⟨a1, c1, rfl⟩ := own_some o1 LN.out (by omega)
    clear o1
    go_wp2_with fail
    refine (law12_lives _).mono ?_
    rintro e w4 ⟨rfl, b4⟩
    go_wp2_with fail
    go_ret
    exact ⟨rfl, bt b1 b4⟩
set_option maxHeartbeats 400000 in
theorem few_two (n : Int) (w : World) (hn : -2147483648 ≤ n ∧ n ≤ 2147483647) (h : n < -2048 ∨ 2047 < n) (hz : (n.tmod 4096 == 0) = false) :
    Calls Try.prog 10 #[.int .i32 n] w fun e w' => e = .returned (.bool true) ∧ Below w.heap.size w w' := by
  have LN := Lib.hid (show (setS 7 n).length = 2 by rw [two_of (X := wrap32 (n - ((n + 2048) % 4096 - 2048))) (by omega) h rfl (by have := tm_cases n; simp at hz; omega) rfl]; rfl)
  go_enter Try.func10, Try.ntmps10
  have hz2 := hz
  rcases h with h | h
  rotate_left
  · rw [Int.tmod_eq_emod_of_nonneg (by omega)] at hz2
    go_wp2_with fail
    refine (set_any 7 n w hn).mono ?_
    rintro e w1 ⟨v1, rfl, o1, b1⟩
    obtain ⟨a1, c1, rfl⟩ := own_some o1 LN.out (by omega)
    clear o1
    go_wp2_with fail
    refine (law12_lives _).mono ?_
    rintro e w4 ⟨rfl, b4⟩
    go_wp2_with fail
    go_ret
    exact ⟨rfl, bt b1 b4⟩
  · go_wp2_with fail
    refine (set_any 7 n w hn).mono ?_
    rintro e w1 ⟨v1, rfl, o1, b1⟩
    obtain ⟨a1, c1, rfl⟩ := own_some o1 LN.out (by omega)
    clear o1
    go_wp2_with fail
    refine (law12_lives _).mono ?_
    rintro e w4 ⟨rfl, b4⟩
    go_wp2_with fail
    go_ret
    exact ⟨rfl, bt b1 b4⟩
theorem walk_PseudoFew (n : Int) (w0 : (Lit.int .i32 n).wf = true) (w : World) :
    Calls Try.prog 10 #[.int .i32 n] w fun e w' => e = .returned (.bool true) ∧ Below w.heap.size w w' := by
  have hn := wf_i32 w0
  by_cases h : -2048 ≤ n ∧ n ≤ 2047
  · exact few_one n w hn h
  · cases hz : (n.tmod 4096 == 0)
    · exact few_two n w hn (by omega) hz
    · exact few_lui n w hn (by omega) hz

set_option maxHeartbeats 1000000 in
theorem walk_PseudoAdds (rd rs b n : Int) (w0 : (Lit.int .i64 rd).wf = true) (w1 : (Lit.int .i64 rs).wf = true) (w2 : (Lit.int .i64 b).wf = true) (w3 : (Lit.int .i32 n).wf = true) (w : World) :
    Calls Try.prog 8 #[.agg #[.int .i64 rd, .int .i64 rs, .int .i64 b], .int .i32 n] w fun e w' => e = .returned (.bool true) ∧ Below w.heap.size w w' := by
  have hn := wf_i32 w3
  clear w0 w1 w2 w3
  have LN := Lib.hid (add_len3 rd rs n b)
  go_enter Try.func8, Try.ntmps8
  go_wp2_with fail
  go_region_held3 (fun w' => w'.cell? ⟨w.heap.size, 0, none⟩ = some (.int .i64 rd) ∧ w'.cell? ⟨w.heap.size, 1, none⟩ = some (.int .i64 rs) ∧ w'.cell? ⟨w.heap.size, 2, none⟩ = some (.int .i64 b) ∧ w.heap.size < w'.heap.size ∧ Below w.heap.size w w')
    (first | exact ⟨by simp, by simp, by simp, by simp, by go_grown⟩ | (obtain ⟨s0, s1, s2, s3, s4⟩ := ‹_ ∧ _ ∧ _ ∧ _ ∧ Below w.heap.size w _›; exact ⟨(hbl.cell (by show w.heap.size < _; omega)).trans s0, (hbl.cell (by show w.heap.size < _; omega)).trans s1, (hbl.cell (by show w.heap.size < _; omega)).trans s2, by have := hbl.size; omega, Below.trans s4 (hbl.mono (by omega))⟩) | (with_reducible assumption) | (obtain ⟨s0, s1, s2, s3, s4⟩ := ‹_ ∧ _ ∧ _ ∧ _ ∧ Below w.heap.size w _›; exact ⟨s0, s1, s2, s3, s4⟩))
    (first
    | (go_at_call 28; refine (add_any _ _ _ _ _ hn).mono ?_; rintro e w1 ⟨v1, rfl, o1, hbl⟩; obtain ⟨a1, c1, rfl, l1⟩ := own_l5 o1 LN.out; clear o1)
    | (go_at_call 29; refine (radd_any _ _ _ _ _ hn).mono ?_; rintro e w1 ⟨v1, rfl, o1, hbl⟩; obtain ⟨a2, c2, rfl, l2⟩ := own_l5 o1 LN.out; clear o1; replace l1 := l1.later hbl)
    | (go_at_call 24; refine (same_eq _ _ _ _ _ _ l1 l2).mono ?_; rintro e w9 ⟨rfl, hbl⟩; replace hbl := below_of_draw hbl; clear l1 l2)
    | (go_at_call 27; refine (law12_lives _).mono ?_; rintro e w1 ⟨rfl, hbl⟩))
  obtain ⟨_, _, _, _, hB⟩ := ‹_ ∧ _ ∧ _ ∧ _ ∧ Below w.heap.size w _›
  go_wp2
  go_ret
  exact ⟨rfl, hB⟩

theorem own : ownKnob Try.prog.godebug = none := by kernel_rfl
theorem laidOut : laidOutB Try.prog = true := by kernel_rfl
set_option maxRecDepth 100000 in
theorem lifted_PseudoSets (os : Os) (started : os.Started) (H : Type) (enc : TypeId × Value → H) :
    ReturnsInHanded {} Try.checked os 7 .any (Rows.pseudoSetsSpec.pre6 enc Try.prog Try.f7 Rows.pseudoSetsRow.domain false) (Rows.pseudoSetsSpec.post enc Try.prog Try.f7 false true false false) := by
  refine returnsInHanded_of_change (C := Try.checked) own started (by kernel_rfl) Try.func7
    (ChangeSpec.witness6 (enc := enc) (C := Try.checked) false ⟨#[], #[.int .i64 0, .int .i32 0], []⟩ 8 (by kernel_rfl) (by kernel_rfl) (by kernel_rfl) (by kernel_rfl)) ?_
  intro W base args ds gs before hval0 hW hcnd _
  have hval : ∀ (j : Nat) t v, Try.f7.params[j]? = some t → args[j]? = some v → Value.okWide Try.prog W .any base t v := hval0
  have hW' := hW
  obtain ⟨p, q, hA0, hV, rfl, hfz, hnd⟩ := hW
  have hA : DataW.TrodAll enc Try.prog W 0 (fun _ => true) true Try.f7.params.toList args.toList ds p := hA0
  rw [Try.params7] at hA hval
  obtain ⟨v0, vs0, d0, ds0, p0, q0, hargs, rfl, rfl, h0, r0⟩ := trodAll_cons hA
  obtain ⟨v1, vs1, d1, ds1, p1, q1, rfl, rfl, rfl, h1, r1⟩ := trodAll_cons r0
  obtain ⟨rfl, rfl, rfl⟩ := trodAll_nil r1
  obtain rfl : args = #[v0, v1] := by cases args; simp_all
  obtain ⟨rfl, rfl⟩ := trodVars_none hV
  obtain ⟨a0, rfl, rfl, rfl, w0⟩ := open_int Try.underlying3 (hval 0 3 v0 rfl rfl) h0
  obtain ⟨a1, rfl, rfl, rfl, w1⟩ := open_int Try.underlying21 (hval 1 21 v1 rfl rfl) h1
  clear hA0 hval0
  refine (walk_PseudoSets a0 a1 w0 w1 W).mono fun e W' ⟨he, bel⟩ => ?_
  subst he
  exact ⟨_, rfl, _, _, _, [], _, [], hW', trodAll_mk1 (shut_bool Try.underlying4 _), (trodAll_cons_mk (shut_int Try.underlying3 w0) (trodAll_cons_mk (shut_int Try.underlying21 w1) trodAll_mk0)), rfl, bel.frame _, fun h => by cases h⟩

theorem holds_PseudoSets : Rows.PseudoSetsSaid :=
  OpenClaim.holds_of_wide 7 Try.f7 rfl rfl rfl rfl rfl rfl rfl ⟨rfl, rfl, rfl, rfl, rfl⟩ rfl rfl rfl rfl rfl (by kernel_rfl) Try.func7 (by kernel_rfl)
    (of_decide_eq_true (by kernel_rfl)) (by unfold Func.isWrapper; first | (rw [if_pos (by decide +kernel)]; kernel_rfl) | (rw [if_neg (by decide +kernel)]; exact ⟨rfl, rfl⟩))
    (fun os started H enc _ => lifted_PseudoSets os started H enc)

set_option maxRecDepth 100000 in
theorem lifted_PseudoFew (os : Os) (started : os.Started) (H : Type) (enc : TypeId × Value → H) :
    ReturnsInHanded {} Try.checked os 10 .any (Rows.pseudoFewSpec.pre6 enc Try.prog Try.f10 Rows.pseudoFewRow.domain false) (Rows.pseudoFewSpec.post enc Try.prog Try.f10 false true false false) := by
  refine returnsInHanded_of_change (C := Try.checked) own started (by kernel_rfl) Try.func10
    (ChangeSpec.witness6 (enc := enc) (C := Try.checked) false ⟨#[], #[.int .i32 0], []⟩ 8 (by kernel_rfl) (by kernel_rfl) (by kernel_rfl) (by kernel_rfl)) ?_
  intro W base args ds gs before hval0 hW hcnd _
  have hval : ∀ (j : Nat) t v, Try.f10.params[j]? = some t → args[j]? = some v → Value.okWide Try.prog W .any base t v := hval0
  have hW' := hW
  obtain ⟨p, q, hA0, hV, rfl, hfz, hnd⟩ := hW
  have hA : DataW.TrodAll enc Try.prog W 0 (fun _ => true) true Try.f10.params.toList args.toList ds p := hA0
  rw [Try.params10] at hA hval
  obtain ⟨v0, vs0, d0, ds0, p0, q0, hargs, rfl, rfl, h0, r0⟩ := trodAll_cons hA
  obtain ⟨rfl, rfl, rfl⟩ := trodAll_nil r0
  obtain rfl : args = #[v0] := by cases args; simp_all
  obtain ⟨rfl, rfl⟩ := trodVars_none hV
  obtain ⟨a0, rfl, rfl, rfl, w0⟩ := open_int Try.underlying21 (hval 0 21 v0 rfl rfl) h0
  clear hA0 hval0
  refine (walk_PseudoFew a0 w0 W).mono fun e W' ⟨he, bel⟩ => ?_
  subst he
  exact ⟨_, rfl, _, _, _, [], _, [], hW', trodAll_mk1 (shut_bool Try.underlying4 _), (trodAll_cons_mk (shut_int Try.underlying21 w0) trodAll_mk0), rfl, bel.frame _, fun h => by cases h⟩

theorem holds_PseudoFew : Rows.PseudoFewSaid :=
  OpenClaim.holds_of_wide 10 Try.f10 rfl rfl rfl rfl rfl rfl rfl ⟨rfl, rfl, rfl, rfl, rfl⟩ rfl rfl rfl rfl rfl (by kernel_rfl) Try.func10 (by kernel_rfl)
    (of_decide_eq_true (by kernel_rfl)) (by unfold Func.isWrapper; first | (rw [if_pos (by decide +kernel)]; kernel_rfl) | (rw [if_neg (by decide +kernel)]; exact ⟨rfl, rfl⟩))
    (fun os started H enc _ => lifted_PseudoFew os started H enc)

set_option maxRecDepth 100000 in
theorem lifted_PseudoAdds (os : Os) (started : os.Started) (H : Type) (enc : TypeId × Value → H) :
    ReturnsInHanded {} Try.checked os 8 .any (Rows.pseudoAddsSpec.pre6 enc Try.prog Try.f8 Rows.pseudoAddsRow.domain false) (Rows.pseudoAddsSpec.post enc Try.prog Try.f8 false true false false) := by
  refine returnsInHanded_of_change (C := Try.checked) own started (by kernel_rfl) Try.func8
    (ChangeSpec.witness6 (enc := enc) (C := Try.checked) false ⟨#[], #[.agg #[.int .i64 0, .int .i64 0, .int .i64 0], .int .i32 0], []⟩ 8 (by kernel_rfl) (by kernel_rfl) (by kernel_rfl) (by kernel_rfl)) ?_
  intro W base args ds gs before hval0 hW hcnd _
  have hval : ∀ (j : Nat) t v, Try.f8.params[j]? = some t → args[j]? = some v → Value.okWide Try.prog W .any base t v := hval0
  have hW' := hW
  obtain ⟨p, q, hA0, hV, rfl, hfz, hnd⟩ := hW
  have hA : DataW.TrodAll enc Try.prog W 0 (fun _ => true) true Try.f8.params.toList args.toList ds p := hA0
  rw [Try.params8] at hA hval
  obtain ⟨v0, vs0, d0, ds0, p0, q0, hargs, rfl, rfl, h0, r0⟩ := trodAll_cons hA
  obtain ⟨v1, vs1, d1, ds1, p1, q1, rfl, rfl, rfl, h1, r1⟩ := trodAll_cons r0
  obtain ⟨rfl, rfl, rfl⟩ := trodAll_nil r1
  obtain rfl : args = #[v0, v1] := by cases args; simp_all
  obtain ⟨rfl, rfl⟩ := trodVars_none hV
  have k0 := h0
  have lt0 : ∀ x ∈ p0, x.block < W.heap.size := by obtain ⟨m, hm⟩ := k0; exact DataW.trod_lt m _ _ _ hm
  obtain ⟨zs0, zl0, rfl, zw0⟩ := flat_ints [.i64, .i64, .i64] (ts := [3, 3, 3]) (Or.inl ⟨_, Try.underlying39⟩) (by kernel_rfl) (by kernel_rfl) (by kernel_rfl) (hval 0 39 v0 rfl rfl)
  obtain ⟨a0_0, a0_1, a0_2, rfl⟩ := len3 zl0
  obtain ⟨a1, rfl, rfl, rfl, w1⟩ := open_int Try.underlying21 (hval 1 21 v1 rfl rfl) h1
  clear hA0 hval0
  refine (walk_PseudoAdds a0_0 a0_1 a0_2 a1 (zw0 0 .i64 _ rfl rfl) (zw0 1 .i64 _ rfl rfl) (zw0 2 .i64 _ rfl rfl) w1 W).mono fun e W' ⟨he, bel⟩ => ?_
  subst he
  exact ⟨_, rfl, _, _, _, [], _, [], hW', trodAll_mk1 (shut_bool Try.underlying4 _), (trodAll_cons_mk (Below.trod laidOut (by kernel_rfl) (of_decide_eq_true (by kernel_rfl)) k0 bel lt0) (trodAll_cons_mk (shut_int Try.underlying21 w1) trodAll_mk0)), rfl, bel.frame _, fun h => by cases h⟩

theorem holds_PseudoAdds : Rows.PseudoAddsSaid :=
  OpenClaim.holds_of_wide 8 Try.f8 rfl rfl rfl rfl rfl rfl rfl ⟨rfl, rfl, rfl, rfl, rfl⟩ rfl rfl rfl rfl rfl (by kernel_rfl) Try.func8 (by kernel_rfl)
    (of_decide_eq_true (by kernel_rfl)) (by unfold Func.isWrapper; first | (rw [if_pos (by decide +kernel)]; kernel_rfl) | (rw [if_neg (by decide +kernel)]; exact ⟨rfl, rfl⟩))
    (fun os started H enc _ => lifted_PseudoAdds os started H enc)

end Go.Proofs.Ytedfekgacmfjkaa
