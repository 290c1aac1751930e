/- The statement InstDecodes of layer 3 (instructions as words). -/
import Derived.Test.YtjlihimjknnaiaaDoorLawI
import Derived.Test.YtjlihimjknnaiaaDoorInstT
-- theorem own and theorem laidOut stand in LawI
namespace Go.Proofs.YtjlihimjknnaiaaDoor
open Go Go.RowKit Go.ChangeShapes Go.WideShapes Go.ChangeAt Pl
set_option linter.unusedVariables false

theorem rdec_at (w o d a b i : Int) (K : Bool) (W : World) (h0 : 0 ≤ w) (h1 : w < 4294967296) (e1 : decI w = ⟨o, d, a, b, i⟩) (e2 : okI w = K) :
    Calls Tryd.prog 14 #[.int .u32 w] W fun e W' => e = .returned (.tuple #[.agg #[.int .i64 o, .int .i64 d, .int .i64 a, .int .i64 b, .int .i32 i], .bool K]) ∧ Below W.heap.size W W' := by
  have := rdec_any w W h0 h1
  unfold RDecP at this
  rw [e1, e2] at this
  exact this
set_option maxHeartbeats 1000000 in
theorem walk_InstDecodes (w : Int) (w0 : (Lit.int .u32 w).wf = true) (W : World) (ht : T3 W) :
    Calls Tryd.prog 4 #[.int .u32 w] W fun e W' => e = .returned (.bool true) ∧ Below W.heap.size W W' := by
  obtain ⟨h0, h1⟩ := bd_u32 w0
  have HT := Lib.hid ht
  obtain ⟨x, hx⟩ : ∃ x, decI w = x := ⟨_, rfl⟩
  obtain ⟨K, hK⟩ : ∃ K, okI w = K := ⟨_, rfl⟩
  obtain ⟨o, d, a, b, i⟩ := x
  have DN := Lib.hid (dec_at w o d a b i K · · h0 h1 hx hK)
  have RN := Lib.hid (rdec_at w o d a b i K · h0 h1 hx hK)
  clear ht w0 hx hK
  go_enter Tryd.func4, Tryd.ntmps4
  go_wp2_with fail
  refine (DN.out _ HT.out).mono ?_
  rintro e w1 ⟨rfl, b1⟩
  have hw := Lib.hid (below_trans b1 (show Below w1.heap.size w1 (w1.alloc (.cells #[.int .i64 o, .int .i64 d, .int .i64 a, .int .i64 b, .int .i32 i] 23)) by go_grown))
  have HP1 := Lib.hid (boxI_new w1 o d a b i 23)
  clear b1
  go_wp2_with fail
  refine (RN.out _).mono ?_
  rintro e w2 ⟨rfl, b2⟩
  obtain ⟨p0, p1, p2, p3, p4, p5⟩ := HP1.out.later b2
  have B2 := Lib.hid (below_trans hw.out b2)
  clear b2
  go_wp2_with fail
  refine (law3_lives _ (HT.out.later (below_trans B2.out (by go_grown)))).mono ?_
  rintro e w4 ⟨rfl, b4⟩
  have B4 := Lib.hid (below_trans (below_trans B2.out (by go_grown)) b4)
  clear b4
  go_wp2_with fail
  go_ret
  exact ⟨rfl, B4.out⟩

set_option maxRecDepth 100000 in
theorem lifted_InstDecodes (os : Os) (started : os.Started) (H : Type) (enc : TypeId × Value → H) :
    ReturnsInHanded {} Tryd.checked os 4 .any (fun w args => (Rows.instDecodesSpec.pre enc Tryd.prog Tryd.f4 [] false w args ∧ laidMetH Tryd.prog laid3 w) ∧ sizedMet enc Tryd.prog Tryd.f4 (OpenSpec.ofChange Rows.instDecodesSpec) false w args)
      (Rows.instDecodesSpec.post enc Tryd.prog Tryd.f4 false true false false) := by
  refine returnsInHanded_of_change_and (C := Tryd.checked) (X := fun w _ => laidMetH Tryd.prog laid3 w) (fun _ _ _ hh h => h.of_heap hh) own started (by kernel_rfl) Tryd.func4
    (ChangeSpec.witness_shaped (enc := enc) (C := Tryd.checked) (os := os) (X := fun w _ => laidMetH Tryd.prog laid3 w) false (World.doorLaid Tryd.prog 400 os) #[.int .u32 0] 8 rfl (World.shaped_of_RefB (by kernel_rfl) (by kernel_rfl)) (by kernel_rfl) (by kernel_rfl) (by kernel_rfl) (door_met os _)) ?_
  intro W base args ds gs before hval0 hW _ _ hL _
  have hval : ∀ (j : Nat) t v, Tryd.f4.params[j]? = some t → args[j]? = some v → Value.okWide Tryd.prog W .any base t v := hval0
  have hW' := hW
  obtain ⟨p, q, hA0, hV, rfl, hfz, hnd⟩ := hW
  have hA : DataW.TrodAll enc Tryd.prog W 0 (fun _ => true) true Tryd.f4.params.toList args.toList ds p := hA0
  rw [Tryd.params4] at hA hval
  obtain ⟨v0, vs0, d0, ds0, p0, q0, hargs, rfl, rfl, h0, r0⟩ := trodAll_cons hA
  obtain ⟨rfl, rfl, rfl⟩ := trodAll_nil r0
  obtain rfl : args = #[v0] := by cases args; simp_all
  obtain ⟨rfl, rfl⟩ := trodVars_none hV
  obtain ⟨a0, rfl, rfl, rfl, w0⟩ := open_int Tryd.underlying24 (hval 0 24 v0 rfl rfl) h0
  clear hA0 hval0
  refine (walk_InstDecodes a0 w0 W (t3_of hL)).mono fun e W' ⟨he, bel⟩ => ?_
  subst he
  exact ⟨_, rfl, _, _, _, [], _, [], hW', trodAll_mk1 (shut_bool Tryd.underlying4 _), (trodAll_cons_mk (shut_int Tryd.underlying24 w0) trodAll_mk0), rfl, bel.frame _, fun h => by cases h⟩

theorem row_InstDecodes : Rows.InstDecodesSaid :=
  OpenClaim.holds_of_wide 4 Tryd.f4 rfl rfl rfl rfl rfl rfl rfl ⟨rfl, rfl, rfl, rfl, rfl⟩ rfl rfl rfl rfl rfl (by kernel_rfl) Tryd.func4 (by kernel_rfl)
    (of_decide_eq_true (by kernel_rfl)) (by unfold Func.isWrapper; first | (rw [if_pos (by decide +kernel)]; kernel_rfl) | (rw [if_neg (by decide +kernel)]; exact ⟨rfl, rfl⟩))
    (fun os started H enc _ => lifted_InstDecodes os started H enc)
theorem holds_InstDecodes : Rows.InstDecodesCardSaid :=
  Claim7.holds_tied_plain_at .later [] [.data] true _ false
    row_InstDecodes (fun _ h => by cases h) (by kernel_rfl) (fun _ h => by cases h) instDecodes_row_tie rfl ⟨rfl, rfl⟩ (by kernel_rfl) rfl
    (fun f fn hf hfn => by
      obtain rfl : f = 4 := Option.some.inj ((show Tryd.prog.funcNamed "pintle/pintlelaw03.InstDecodes" = some 4 by kernel_rfl).symm.trans hf) |>.symm
      obtain rfl : fn = Tryd.f4 := (Option.some.inj (Tryd.func4.symm.trans hfn)).symm
      exact ⟨by kernel_rfl, fun j t ht => by
        rw [Tryd.params4] at ht
        have hm : t ∈ [24] := by simpa using Array.mem_of_getElem? ht
        have hall : ([24].all fun u => !Tryd.prog.wantsStandIn u) = true := by kernel_rfl
        exact (show Tryd.prog.wantsStandIn t = false by simpa using List.all_eq_true.1 hall t hm)⟩)
    (by kernel_rfl)

end Go.Proofs.YtjlihimjknnaiaaDoor
