/- The statement of layer 42 on where one comes to: it returns true for all words and places, over the table of three bits. -/
import Derived.Test.YtmlhoagcppofgaaDoorRows
import Derived.Test.YtmlhoagcppofgaaDoorCards
import Derived.Test.YtmlhoagcppofgaaDoorTie
import Derived.Test.YtmlhoagcppofgaaDoorFlJ
import Derived.Test.YtmlhoagcppofgaaDoorFlL
import Derived.Test.YtmlhoagcppofgaaDoorOpen
import Derived.ProofKit
import Derived.OpenShut
import Derived.LaidMore
import Derived.Lib.LaidTab
import Derived.Stop.Joined
import Derived.SevenTiedAt
namespace Go.Proofs.YtmlhoagcppofgaaDoor
open Go Go.RowKit Go.ChangeShapes Go.WideShapes Go.ChangeAt Pl
set_option linter.unusedVariables false

set_option maxRecDepth 100000 in
set_option maxHeartbeats 1000000 in
theorem walk_FlowReaches (w : World) (a0 : Option Addr) (c0 : Nat) (l0 : List Nat) (i : Int) (w0 : WordsC w a0 l0 c0) (hi0 : (Lit.int .i64 i).wf = true) (ht : T3 w) :
    Calls Tryd.prog 5 #[.slice a0 l0.length c0, .int .i64 i] w fun e w' => e = .returned (.bool true) ∧ Below w.heap.size w w' := by
  have FW := Lib.hid (wfew_any a0 c0 l0 w w0)
  have HT := Lib.hid ht
  have hl : (l0.take 30).length ≤ 30 := by simp; omega
  have LV := Lib.hid (fun W h => lives42 W h)
  clear w0 ht hi0
  unfold FewW at FW
  generalize l0.take 30 = l at *
  by_cases hin : 0 ≤ i ∧ i < (l.length : Int)
  · obtain ⟨s, rfl⟩ : ∃ s : Nat, i = s := ⟨i.toNat, by omega⟩
    have hs : s < l.length := by omega
    clear hin
    have IN := Lib.hid (fun W a c h hW => ireach_in a c l s W h hW hs hl)
    have RN := Lib.hid (fun W a c hW => rreach_in a c l s W hW hs hl)
    go_enter Tryd.func5, Tryd.ntmps5
    go_wp2_with fail
    refine FW.out.mono ?_
    rintro e w1 ⟨a, c, rfl, hw1, hb1⟩
    go_wp2_with fail
    refine (IN.out w1 a c (HT.out.later hb1) hw1).mono ?_
    rintro e w2 ⟨g1, S, rfl, hS, hq1, hb2⟩
    go_wp2_with fail
    refine (RN.out w2 a c (hw1.later hb2)).mono ?_
    rintro e w3 ⟨g2, T, rfl, hT, hq2, hb3⟩
    have BE := Lib.hid (bools_eq g1 g2 S T l.length w3 (hS.later hb3) hT (by omega) (fun j hj => rch_same hq1.1 hq1.2.1 hq1.2.2 hq2.1 hq2.2.1 hq2.2.2 hj))
    have HB3 := Lib.hid (below_trans (below_trans hb1 hb2) hb3)
    clear hS hT hq1 hq2 hw1 hb1 hb2 hb3
    go_wp2_with fail
    refine BE.out.mono ?_
    rintro e w4 ⟨rfl, hd⟩
    have HB4 := Lib.hid (below_trans HB3.out (below_draw hd))
    clear hd
    go_wp2_with fail
    refine (LV.out _ (HT.out.later HB4.out)).mono ?_
    rintro e w5 ⟨rfl, hb5⟩
    go_wp2_with fail
    go_ret
    exact ⟨rfl, below_trans HB4.out hb5⟩
  · have IN := Lib.hid (fun W a c => ireach_out a c l i W hin hl)
    have RN := Lib.hid (fun W a c => rreach_out a c l i W hin (by omega))
    clear hin
    go_enter Tryd.func5, Tryd.ntmps5
    go_wp2_with fail
    refine FW.out.mono ?_
    rintro e w1 ⟨a, c, rfl, hw1, hb1⟩
    go_wp2_with fail
    refine (IN.out w1 a c).mono ?_
    rintro e w2 ⟨g1, rfl, hS, hb2⟩
    go_wp2_with fail
    refine (RN.out w2 a c).mono ?_
    rintro e w3 ⟨g2, rfl, hT, hb3⟩
    have BE := Lib.hid (bools_eq g1 g2 _ _ l.length w3 (hS.later hb3) hT (by omega) (fun j hj => rfl))
    have HB3 := Lib.hid (below_trans (below_trans hb1 hb2) hb3)
    clear hS hT hw1 hb1 hb2 hb3
    go_wp2_with fail
    refine BE.out.mono ?_
    rintro e w4 ⟨rfl, hd⟩
    have HB4 := Lib.hid (below_trans HB3.out (below_draw hd))
    clear hd
    go_wp2_with fail
    refine (LV.out _ (HT.out.later HB4.out)).mono ?_
    rintro e w5 ⟨rfl, hb5⟩
    go_wp2_with fail
    go_ret
    exact ⟨rfl, below_trans HB4.out hb5⟩

set_option maxRecDepth 100000 in
theorem lifted_FlowReaches (os : Os) (started : os.Started) (H : Type) (enc : TypeId × Value → H) :
    ReturnsInHanded {} Tryd.checked os 5 .any (fun w args => (Rows.flowReachesSpec.pre enc Tryd.prog Tryd.f5 [] false w args ∧ laidMetH Tryd.prog laid3 w) ∧ sizedMet enc Tryd.prog Tryd.f5 (OpenSpec.ofChange Rows.flowReachesSpec) false w args)
      (Rows.flowReachesSpec.post enc Tryd.prog Tryd.f5 false true false false) := by
  refine returnsInHanded_of_change_and (C := Tryd.checked) (X := fun w _ => laidMetH Tryd.prog laid3 w) (fun _ _ _ hh h => h.of_heap hh) own started (by kernel_rfl) Tryd.func5
    (ChangeSpec.witness_shaped (enc := enc) (C := Tryd.checked) (os := os) (X := fun w _ => laidMetH Tryd.prog laid3 w) false (World.doorLaid Tryd.prog 400 os) #[.slice none 0 0, .int .i64 0] 8 rfl (World.shaped_of_RefB (by kernel_rfl) (by kernel_rfl)) (by kernel_rfl) (by kernel_rfl) (by kernel_rfl) (door_met os _)) ?_
  intro W base args ds gs before hval0 hW _ _ hL _
  have hval : ∀ (j : Nat) t v, Tryd.f5.params[j]? = some t → args[j]? = some v → Value.okWide Tryd.prog W .any base t v := hval0
  have hW' := hW
  obtain ⟨p, q, hA0, hV, rfl, hfz, hnd⟩ := hW
  have hA : DataW.TrodAll enc Tryd.prog W 0 (fun _ => true) true Tryd.f5.params.toList args.toList ds p := hA0
  rw [Tryd.params5] at hA hval
  obtain ⟨v0, vs0, d0, ds0, p0, q0, hargs, rfl, rfl, h0, r0⟩ := trodAll_cons hA
  obtain ⟨v1, vs1, d1, ds1, p1, q1, rfl, rfl, rfl, h1, r1⟩ := trodAll_cons r0
  obtain ⟨rfl, rfl, rfl⟩ := trodAll_nil r1
  obtain rfl : args = #[v0, v1] := by cases args; simp_all
  obtain ⟨rfl, rfl⟩ := trodVars_none hV
  have k0 := h0
  have lt0 : ∀ x ∈ p0, x.block < W.heap.size := by obtain ⟨m, hm⟩ := k0; exact DataW.trod_lt m _ _ _ hm
  obtain ⟨a0, c0, l0, rfl, w0⟩ := words_in Tryd.underlying22 Tryd.underlying32 (by kernel_rfl) (hval 0 22 v0 rfl rfl) h0
  obtain ⟨a1, rfl, rfl, rfl, w1⟩ := open_int Tryd.underlying3 (hval 1 3 v1 rfl rfl) h1
  clear hA0 hval0
  refine (walk_FlowReaches W a0 c0 l0 a1 w0 w1 (t3_of hL)).mono fun e W' ⟨he, bel⟩ => ?_
  subst he
  exact ⟨_, rfl, _, _, _, [], _, [], hW', trodAll_mk1 (shut_bool Tryd.underlying4 _), (trodAll_cons_mk (Below.trod laidOut (by kernel_rfl) (of_decide_eq_true (by kernel_rfl)) k0 bel lt0) (trodAll_cons_mk (shut_int Tryd.underlying3 w1) trodAll_mk0)), rfl, bel.frame _, fun h => by cases h⟩

theorem row_FlowReaches : Rows.FlowReachesSaid :=
  OpenClaim.holds_of_wide 5 Tryd.f5 rfl rfl rfl rfl rfl rfl rfl ⟨rfl, rfl, rfl, rfl, rfl⟩ rfl rfl rfl rfl rfl (by kernel_rfl) Tryd.func5 (by kernel_rfl)
    (of_decide_eq_true (by kernel_rfl)) (by unfold Func.isWrapper; first | (rw [if_pos (by decide +kernel)]; kernel_rfl) | (rw [if_neg (by decide +kernel)]; exact ⟨rfl, rfl⟩))
    (fun os started H enc _ => lifted_FlowReaches os started H enc)
theorem holds_FlowReaches : Rows.FlowReachesCardSaid :=
  Claim7.holds_tied_plain_at .later [] [.data] true _ false
    row_FlowReaches (fun _ h => by cases h) (by kernel_rfl) (fun _ h => by cases h) flowReaches_row_tie rfl ⟨rfl, rfl⟩ (by kernel_rfl) rfl
    (fun f fn hf hfn => by
      obtain rfl : f = 5 := Option.some.inj ((show Tryd.prog.funcNamed "pintle/pintlelaw42.FlowReaches" = some 5 by kernel_rfl).symm.trans hf) |>.symm
      obtain rfl : fn = Tryd.f5 := (Option.some.inj (Tryd.func5.symm.trans hfn)).symm
      exact ⟨by kernel_rfl, fun j t ht => by
        rw [Tryd.params5] at ht
        have hm : t ∈ [22, 3] := by simpa using Array.mem_of_getElem? ht
        have hall : ([22, 3].all fun u => !Tryd.prog.wantsStandIn u) = true := by kernel_rfl
        exact (show Tryd.prog.wantsStandIn t = false by simpa using List.all_eq_true.1 hall t hm)⟩)
    (by kernel_rfl)

end Go.Proofs.YtmlhoagcppofgaaDoor
