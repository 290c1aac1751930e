/- The statements of layer 3 (instructions as words): InstWords, InstAll. -/
import Derived.Test.YtjlihimjknnaiaaDoorLawI
-- theorem own and theorem laidOut stand in LawI
namespace Go.Proofs.YtjlihimjknnaiaaDoor
open Go Go.RowKit Go.ChangeShapes Go.WideShapes Go.ChangeAt Pl
set_option linter.unusedVariables false

set_option maxHeartbeats 1000000 in
theorem walk_InstWords (w : Int) (w0 : (Lit.int .u32 w).wf = true) (W : World) (ht : T3 W) :
    Calls Tryd.prog 6 #[.int .u32 w] W fun e W' => e = .returned (.bool true) ∧ Below W.heap.size W W' := by
  obtain ⟨h0, h1⟩ := bd_u32 w0
  have HT := Lib.hid ht
  clear ht w0
  by_cases hz : opI w = 0
  · have DN := Lib.hid (dec_at w 0 0 0 0 0 false · · h0 h1 (by unfold decI; rw [if_pos hz]) (by unfold okI; simp [hz]))
    clear hz
    go_enter Tryd.func6, Tryd.ntmps6
    go_wp2_with fail
    refine (DN.out _ HT.out).mono ?_
    rintro e w1 ⟨rfl, b1⟩
    have B1 := Lib.hid b1
    clear b1
    go_wp2_with fail
    refine (law3_lives _ (HT.out.later (below_trans B1.out (by go_grown)))).mono ?_
    rintro e w4 ⟨rfl, b4⟩
    have B4 := Lib.hid (below_trans (below_trans B1.out (by go_grown)) b4)
    clear b4
    go_wp2_with fail
    go_ret
    exact ⟨rfl, B4.out⟩
  · obtain ⟨p, hp⟩ : ∃ p, opI w = p := ⟨_, rfl⟩
    have bd := opI_bd w h0 h1
    have ho : 1 ≤ p ∧ p ≤ 48 := by omega
    have FT := (fit_op h0 h1 ho).2 hp
    unfold fitI at FT
    have dd : decI w = recI p w ∧ okI w = true := by
      unfold decI okI
      rw [hp, if_neg (by omega)]
      exact ⟨rfl, by simp; omega⟩
    have gb := get_bd (formI p) h0 h1
    have ib : -2147483648 ≤ (recI p w).i ∧ (recI p w).i ≤ 2147483647 := by
      unfold recI
      dsimp only
      rcases form_cases p with h | h | h
      · rw [if_pos h]; omega
      · rw [if_neg (by omega), if_pos h]; omega
      · rw [if_neg (by omega), if_neg (by omega)]; exact gb
    generalize recI p w = x at *
    obtain ⟨o, d, a, b, i⟩ := x
    obtain ⟨hC, hE⟩ := FT
    obtain ⟨i0, i1⟩ := ib
    dsimp only at i0 i1
    have DN := Lib.hid (dec_at w o d a b i true · · h0 h1 dd.1 dd.2)
    have EN := Lib.hid (enc_at o d a b i w true · i0 i1 · (by unfold encI; rw [hC]; exact hE) hC)
    have CN := Lib.hid (can_at o d a b i true · i0 i1 hC)
    clear hz hp bd ho dd gb hC hE
    go_enter Tryd.func6, Tryd.ntmps6
    go_wp2_with fail
    refine (DN.out _ HT.out).mono ?_
    rintro e w1 ⟨rfl, b1⟩
    have hw := Lib.hid (below_trans b1 (show Below w1.heap.size w1 (w1.alloc (.cells #[.int .i64 o, .int .i64 d, .int .i64 a, .int .i64 b, .int .i32 i] 23)) by go_grown))
    have HP1 := Lib.hid (boxI_new w1 o d a b i 23)
    clear b1
    go_wp2_with fail
    refine (EN.out _ (HT.out.later hw.out)).mono ?_
    rintro e w2 ⟨rfl, b2⟩
    obtain ⟨p0, p1, p2, p3, p4, p5⟩ := HP1.out.later b2
    have B2 := Lib.hid (below_trans hw.out b2)
    clear b2
    go_wp2_with fail
    refine (CN.out _).mono ?_
    rintro e w3 ⟨rfl, b3⟩
    have B3 := Lib.hid (below_trans B2.out b3)
    clear b3 p0 p1 p2 p3 p4 p5
    go_wp2_with fail
    refine (law3_lives _ (HT.out.later B3.out)).mono ?_
    rintro e w4 ⟨rfl, b4⟩
    have B4 := Lib.hid (below_trans B3.out b4)
    clear b4
    go_wp2_with fail
    go_ret
    exact ⟨rfl, B4.out⟩

theorem can_zero {o : Int} (h : 1 ≤ o ∧ o ≤ 48) : canI ⟨o, 0, 0, 0, 0⟩ = true := by
  rcases op48 h with h | h | h | h | h | h | h | h | h | h | h | h | h | h | h | h | h | h | h | h | h | h | h | h | h | h | h | h | h | h | h | h | h | h | h | h | h | h | h | h | h | h | h | h | h | h | h | h <;> subst h <;> decide
set_option maxHeartbeats 1000000 in
theorem walk_InstAll (x y : Int) (w0 : (Lit.int .u8 x).wf = true) (w1 : (Lit.int .u8 y).wf = true) (w : World) (ht : T3 w) :
    Calls Tryd.prog 8 #[.int .u8 x, .int .u8 y] w fun e w' => e = .returned (.bool true) ∧ Below w.heap.size w w' := by
  obtain ⟨x0, x1⟩ := bd_u8 w0
  obtain ⟨y0, y1⟩ := bd_u8 w1
  have HT := Lib.hid ht
  clear ht w0 w1
  have cx := can_zero (o := 1 + x % 48) (by omega)
  have cy := can_zero (o := 1 + y % 48) (by omega)
  obtain ⟨E, hE⟩ : ∃ E, encI ⟨1 + x % 48, 0, 0, 0, 0⟩ = E := ⟨_, rfl⟩
  obtain ⟨F, hF⟩ : ∃ F, encI ⟨1 + y % 48, 0, 0, 0, 0⟩ = F := ⟨_, rfl⟩
  have XN := Lib.hid (enc_at (1 + x % 48) 0 0 0 0 E true · (by omega) (by omega) · hE cx)
  have YN := Lib.hid (enc_at (1 + y % 48) 0 0 0 0 F true · (by omega) (by omega) · hF cy)
  have cn : canI ⟨49 + y, 0, 0, 0, 0⟩ = false := by unfold canI isOpI; simp; omega
  have NN := Lib.hid (enc_at (49 + y) 0 0 0 0 0 false · (by omega) (by omega) · (by unfold encI; rw [cn]; rfl) cn)
  have eq : (E == F) = (x % 48 == y % 48) := by
    rw [Bool.eq_iff_iff]
    simp only [beq_iff_eq]
    constructor
    · intro h
      have e1 : wordI ⟨1 + x % 48, 0, 0, 0, 0⟩ = E := by rw [← hE]; unfold encI; rw [cx]; rfl
      have e2 : wordI ⟨1 + y % 48, 0, 0, 0, 0⟩ = F := by rw [← hF]; unfold encI; rw [cy]; rfl
      have g1 := word_op (canI_out cx)
      have g2 := word_op (canI_out cy)
      rw [e1] at g1
      rw [e2, ← h, g1] at g2
      dsimp only at g2
      omega
    · intro h
      rw [← hE, ← hF, h]
  have EQ := Lib.hid eq
  clear hE hF cx cy cn eq
  cases hxy : (x % 48 == y % 48)
  · have ef : (E == F) = false := EQ.out.trans hxy
    go_enter Tryd.func8, Tryd.ntmps8
    go_wp2_with fail
    refine (XN.out _ HT.out).mono ?_
    rintro e w1 ⟨rfl, b1⟩
    have B1 := Lib.hid b1
    clear b1
    go_wp2_with fail
    refine (YN.out _ (HT.out.later B1.out)).mono ?_
    rintro e w2 ⟨rfl, b2⟩
    have B2 := Lib.hid (below_trans B1.out b2)
    clear b2
    go_wp2_with fail
    refine (NN.out _ (HT.out.later B2.out)).mono ?_
    rintro e w3 ⟨rfl, b3⟩
    have B3 := Lib.hid (below_trans B2.out b3)
    clear b3
    go_wp2_with fail
    refine (law3_lives _ (HT.out.later B3.out)).mono ?_
    rintro e w4 ⟨rfl, b4⟩
    have B4 := Lib.hid (below_trans B3.out b4)
    clear b4
    go_wp2_with fail
    go_ret
    exact ⟨rfl, B4.out⟩
  · have ef : (E == F) = true := EQ.out.trans hxy
    go_enter Tryd.func8, Tryd.ntmps8
    go_wp2_with fail
    refine (XN.out _ HT.out).mono ?_
    rintro e w1 ⟨rfl, b1⟩
    have B1 := Lib.hid b1
    clear b1
    go_wp2_with fail
    refine (YN.out _ (HT.out.later B1.out)).mono ?_
    rintro e w2 ⟨rfl, b2⟩
    have B2 := Lib.hid (below_trans B1.out b2)
    clear b2
    go_wp2_with fail
    refine (NN.out _ (HT.out.later B2.out)).mono ?_
    rintro e w3 ⟨rfl, b3⟩
    have B3 := Lib.hid (below_trans B2.out b3)
    clear b3
    go_wp2_with fail
    refine (law3_lives _ (HT.out.later B3.out)).mono ?_
    rintro e w4 ⟨rfl, b4⟩
    have B4 := Lib.hid (below_trans B3.out b4)
    clear b4
    go_wp2_with fail
    go_ret
    exact ⟨rfl, B4.out⟩

set_option maxRecDepth 100000 in
theorem lifted_InstWords (os : Os) (started : os.Started) (H : Type) (enc : TypeId × Value → H) :
    ReturnsInHanded {} Tryd.checked os 6 .any (fun w args => (Rows.instWordsSpec.pre enc Tryd.prog Tryd.f6 [] false w args ∧ laidMetH Tryd.prog laid3 w) ∧ sizedMet enc Tryd.prog Tryd.f6 (OpenSpec.ofChange Rows.instWordsSpec) false w args)
      (Rows.instWordsSpec.post enc Tryd.prog Tryd.f6 false true false false) := by
  refine returnsInHanded_of_change_and (C := Tryd.checked) (X := fun w _ => laidMetH Tryd.prog laid3 w) (fun _ _ _ hh h => h.of_heap hh) own started (by kernel_rfl) Tryd.func6
    (ChangeSpec.witness_shaped (enc := enc) (C := Tryd.checked) (os := os) (X := fun w _ => laidMetH Tryd.prog laid3 w) false (World.doorLaid Tryd.prog 400 os) #[.int .u32 0] 8 rfl (World.shaped_of_RefB (by kernel_rfl) (by kernel_rfl)) (by kernel_rfl) (by kernel_rfl) (by kernel_rfl) (door_met os _)) ?_
  intro W base args ds gs before hval0 hW _ _ hL _
  have hval : ∀ (j : Nat) t v, Tryd.f6.params[j]? = some t → args[j]? = some v → Value.okWide Tryd.prog W .any base t v := hval0
  have hW' := hW
  obtain ⟨p, q, hA0, hV, rfl, hfz, hnd⟩ := hW
  have hA : DataW.TrodAll enc Tryd.prog W 0 (fun _ => true) true Tryd.f6.params.toList args.toList ds p := hA0
  rw [Tryd.params6] at hA hval
  obtain ⟨v0, vs0, d0, ds0, p0, q0, hargs, rfl, rfl, h0, r0⟩ := trodAll_cons hA
  obtain ⟨rfl, rfl, rfl⟩ := trodAll_nil r0
  obtain rfl : args = #[v0] := by cases args; simp_all
  obtain ⟨rfl, rfl⟩ := trodVars_none hV
  obtain ⟨a0, rfl, rfl, rfl, w0⟩ := open_int Tryd.underlying24 (hval 0 24 v0 rfl rfl) h0
  clear hA0 hval0
  refine (walk_InstWords a0 w0 W (t3_of hL)).mono fun e W' ⟨he, bel⟩ => ?_
  subst he
  exact ⟨_, rfl, _, _, _, [], _, [], hW', trodAll_mk1 (shut_bool Tryd.underlying4 _), (trodAll_cons_mk (shut_int Tryd.underlying24 w0) trodAll_mk0), rfl, bel.frame _, fun h => by cases h⟩

theorem row_InstWords : Rows.InstWordsSaid :=
  OpenClaim.holds_of_wide 6 Tryd.f6 rfl rfl rfl rfl rfl rfl rfl ⟨rfl, rfl, rfl, rfl, rfl⟩ rfl rfl rfl rfl rfl (by kernel_rfl) Tryd.func6 (by kernel_rfl)
    (of_decide_eq_true (by kernel_rfl)) (by unfold Func.isWrapper; first | (rw [if_pos (by decide +kernel)]; kernel_rfl) | (rw [if_neg (by decide +kernel)]; exact ⟨rfl, rfl⟩))
    (fun os started H enc _ => lifted_InstWords os started H enc)
theorem holds_InstWords : Rows.InstWordsCardSaid :=
  Claim7.holds_tied_plain_at .later [] [.data] true _ false
    row_InstWords (fun _ h => by cases h) (by kernel_rfl) (fun _ h => by cases h) instWords_row_tie rfl ⟨rfl, rfl⟩ (by kernel_rfl) rfl
    (fun f fn hf hfn => by
      obtain rfl : f = 6 := Option.some.inj ((show Tryd.prog.funcNamed "pintle/pintlelaw03.InstWords" = some 6 by kernel_rfl).symm.trans hf) |>.symm
      obtain rfl : fn = Tryd.f6 := (Option.some.inj (Tryd.func6.symm.trans hfn)).symm
      exact ⟨by kernel_rfl, fun j t ht => by
        rw [Tryd.params6] at ht
        have hm : t ∈ [24] := by simpa using Array.mem_of_getElem? ht
        have hall : ([24].all fun u => !Tryd.prog.wantsStandIn u) = true := by kernel_rfl
        exact (show Tryd.prog.wantsStandIn t = false by simpa using List.all_eq_true.1 hall t hm)⟩)
    (by kernel_rfl)

set_option maxRecDepth 100000 in
theorem lifted_InstAll (os : Os) (started : os.Started) (H : Type) (enc : TypeId × Value → H) :
    ReturnsInHanded {} Tryd.checked os 8 .any (fun w args => (Rows.instAllSpec.pre enc Tryd.prog Tryd.f8 [] false w args ∧ laidMetH Tryd.prog laid3 w) ∧ sizedMet enc Tryd.prog Tryd.f8 (OpenSpec.ofChange Rows.instAllSpec) false w args)
      (Rows.instAllSpec.post enc Tryd.prog Tryd.f8 false true false false) := by
  refine returnsInHanded_of_change_and (C := Tryd.checked) (X := fun w _ => laidMetH Tryd.prog laid3 w) (fun _ _ _ hh h => h.of_heap hh) own started (by kernel_rfl) Tryd.func8
    (ChangeSpec.witness_shaped (enc := enc) (C := Tryd.checked) (os := os) (X := fun w _ => laidMetH Tryd.prog laid3 w) false (World.doorLaid Tryd.prog 400 os) #[.int .u8 0, .int .u8 0] 8 rfl (World.shaped_of_RefB (by kernel_rfl) (by kernel_rfl)) (by kernel_rfl) (by kernel_rfl) (by kernel_rfl) (door_met os _)) ?_
  intro W base args ds gs before hval0 hW _ _ hL _
  have hval : ∀ (j : Nat) t v, Tryd.f8.params[j]? = some t → args[j]? = some v → Value.okWide Tryd.prog W .any base t v := hval0
  have hW' := hW
  obtain ⟨p, q, hA0, hV, rfl, hfz, hnd⟩ := hW
  have hA : DataW.TrodAll enc Tryd.prog W 0 (fun _ => true) true Tryd.f8.params.toList args.toList ds p := hA0
  rw [Tryd.params8] at hA hval
  obtain ⟨v0, vs0, d0, ds0, p0, q0, hargs, rfl, rfl, h0, r0⟩ := trodAll_cons hA
  obtain ⟨v1, vs1, d1, ds1, p1, q1, rfl, rfl, rfl, h1, r1⟩ := trodAll_cons r0
  obtain ⟨rfl, rfl, rfl⟩ := trodAll_nil r1
  obtain rfl : args = #[v0, v1] := by cases args; simp_all
  obtain ⟨rfl, rfl⟩ := trodVars_none hV
  obtain ⟨a0, rfl, rfl, rfl, w0⟩ := open_int Tryd.underlying5 (hval 0 5 v0 rfl rfl) h0
  obtain ⟨a1, rfl, rfl, rfl, w1⟩ := open_int Tryd.underlying5 (hval 1 5 v1 rfl rfl) h1
  clear hA0 hval0
  refine (walk_InstAll a0 a1 w0 w1 W (t3_of hL)).mono fun e W' ⟨he, bel⟩ => ?_
  subst he
  exact ⟨_, rfl, _, _, _, [], _, [], hW', trodAll_mk1 (shut_bool Tryd.underlying4 _), (trodAll_cons_mk (shut_int Tryd.underlying5 w0) (trodAll_cons_mk (shut_int Tryd.underlying5 w1) trodAll_mk0)), rfl, bel.frame _, fun h => by cases h⟩

theorem row_InstAll : Rows.InstAllSaid :=
  OpenClaim.holds_of_wide 8 Tryd.f8 rfl rfl rfl rfl rfl rfl rfl ⟨rfl, rfl, rfl, rfl, rfl⟩ rfl rfl rfl rfl rfl (by kernel_rfl) Tryd.func8 (by kernel_rfl)
    (of_decide_eq_true (by kernel_rfl)) (by unfold Func.isWrapper; first | (rw [if_pos (by decide +kernel)]; kernel_rfl) | (rw [if_neg (by decide +kernel)]; exact ⟨rfl, rfl⟩))
    (fun os started H enc _ => lifted_InstAll os started H enc)
theorem holds_InstAll : Rows.InstAllCardSaid :=
  Claim7.holds_tied_plain_at .later [] [.data] true _ false
    row_InstAll (fun _ h => by cases h) (by kernel_rfl) (fun _ h => by cases h) instAll_row_tie rfl ⟨rfl, rfl⟩ (by kernel_rfl) rfl
    (fun f fn hf hfn => by
      obtain rfl : f = 8 := Option.some.inj ((show Tryd.prog.funcNamed "pintle/pintlelaw03.InstAll" = some 8 by kernel_rfl).symm.trans hf) |>.symm
      obtain rfl : fn = Tryd.f8 := (Option.some.inj (Tryd.func8.symm.trans hfn)).symm
      exact ⟨by kernel_rfl, fun j t ht => by
        rw [Tryd.params8] at ht
        have hm : t ∈ [5, 5] := by simpa using Array.mem_of_getElem? ht
        have hall : ([5, 5].all fun u => !Tryd.prog.wantsStandIn u) = true := by kernel_rfl
        exact (show Tryd.prog.wantsStandIn t = false by simpa using List.all_eq_true.1 hall t hm)⟩)
    (by kernel_rfl)

end Go.Proofs.YtjlihimjknnaiaaDoor
