/- The statement of layer 42 on where one may go from any word: it returns true for all words and places, over the table of three bits. -/
import Derived.Test.YtmlhoagcppofgaaDoorRows
import Derived.Test.YtmlhoagcppofgaaDoorCards
import Derived.Test.YtmlhoagcppofgaaDoorTie
import Derived.Test.YtmlhoagcppofgaaDoorFlF
import Derived.Test.YtmlhoagcppofgaaDoorFlL
import Derived.Test.YtmlhoagcppofgaaDoorOpen
import Derived.ProofKit
import Derived.OpenShut
import Derived.LaidMore
import Derived.Lib.LaidTab
import Derived.Stop.Joined
import Derived.SevenTiedAt
namespace Go.Proofs.YtmlhoagcppofgaaDoor
open Go Go.RowKit Go.ChangeShapes Go.WideShapes Go.ChangeAt Pl
set_option linter.unusedVariables false

set_option maxRecDepth 100000 in
set_option maxHeartbeats 1000000 in
theorem walk_FlowNexts (w : World) (a0 : Option Addr) (c0 : Nat) (l0 : List Nat) (i : Int) (w0 : WordsC w a0 l0 c0) (hi0 : (Lit.int .i64 i).wf = true) (ht : T3 w) :
    Calls Tryd.prog 3 #[.slice a0 l0.length c0, .int .i64 i] w fun e w' => e = .returned (.bool true) ∧ Below w.heap.size w w' := by
  have FW := Lib.hid (wfew_any a0 c0 l0 w w0)
  have HT := Lib.hid ht
  have hl : (l0.take 30).length ≤ 30 := by simp; omega
  have LV := Lib.hid (fun W h => lives42 W h)
  clear w0 ht hi0
  by_cases hin : 0 ≤ i ∧ i < ((l0.take 30).length : Int)
  · obtain ⟨k, rfl⟩ : ∃ k : Nat, i = k := ⟨i.toNat, by omega⟩
    have t1 : decide ((k : Int) < 0) = false := by simp
    have t2 := decide_eq_false (show ¬ (((l0.take 30).length : Int) ≤ (k : Int)) by omega)
    have hk : k < (l0.take 30).length := by omega
    clear hin
    unfold FewW at FW
    generalize l0.take 30 = l at *
    have RN := Lib.hid (fun W a c (hW : WordsC W a l c) => rnext_any a c l k W hW hk (by omega))
    by_cases ho : (qAt l k).o = 45
    · have IN := Lib.hid (fun W a c h hW => inext_jalr a c l k W h hW hk (by omega) ho)
      have RD := Lib.hid (fun W (h : l.getD k 0 < 4294967296) => rdec_any ((l.getD k 0 : Nat) : Int) W (by omega) (by omega))
      have HO : (decI ((l.getD k 0 : Nat) : Int)).o = 45 := ho
      clear ho RN
      go_enter Tryd.func3, Tryd.ntmps3
      go_wp2_with fail
      refine FW.out.mono ?_
      rintro e w1 ⟨a, c, rfl, hw1, hb1⟩
      have HB1 := Lib.hid hb1
      go_wp2_with fail
      refine (IN.out w1 a c (HT.out.later hb1) hw1).mono ?_
      rintro e w2 ⟨rfl, hb2⟩
      have HB2 := Lib.hid (below_trans HB1.out hb2)
      obtain ⟨b, off, rfl, hbb, hc, hx⟩ := words_cell (hw1.later hb2) hk
      have hcl := hw1.2.1
      have hcm := hw1.2.2.1
      have RDx := Lib.hid (fun W => RD.out W hx)
      have HX := Lib.hid hx
      clear hw1 hb1 hb2 RD hx
      generalize l.getD k 0 = X at *
      go_wp2_with fail
      refine (RDx.out _).mono ?_
      unfold RDecP
      obtain ⟨o, d, u, v, im, hQ, hok, hm⟩ := dec_gen (X : Int) (by omega) (by have := HX.out; omega)
      rw [hQ, hok]
      rw [hQ] at HO
      unfold agg5
      rintro e w3 ⟨rfl, hb3⟩
      have HO' : o = 45 := HO
      subst HO'
      clear HO hQ hok
      go_wp2_with (go_at_call 9; refine (LV.out _ (HT.out.later (below_trans (below_trans HB2.out hb3) (by go_grown)))).mono ?_; rintro e w4 ⟨rfl, hb4⟩)
      go_ret
      exact ⟨rfl, below_trans (below_trans (below_trans HB2.out hb3) (by go_grown)) hb4⟩
    · have IN := Lib.hid (fun W a c h hW => inext_any a c l k W h hW hk (by omega) ho)
      have RD := Lib.hid (fun W (h : l.getD k 0 < 4294967296) => rdec_any ((l.getD k 0 : Nat) : Int) W (by omega) (by omega))
      have HO : (decI ((l.getD k 0 : Nat) : Int)).o ≠ 45 := ho
      clear ho
      go_enter Tryd.func3, Tryd.ntmps3
      go_wp2_with fail
      refine FW.out.mono ?_
      rintro e w1 ⟨a, c, rfl, hw1, hb1⟩
      have HB1 := Lib.hid hb1
      go_wp2_with fail
      refine (IN.out w1 a c (HT.out.later hb1) hw1).mono ?_
      rintro e w2 ⟨vn, rfl, own, hb2⟩
      obtain ⟨an, cn, rfl, hI⟩ := own_i own (by rw [castI_len]; have := nextN_len (qAt l k) k l.length; omega)
      have HI := Lib.hid hI
      clear own hI
      have HB2 := Lib.hid (below_trans HB1.out hb2)
      have HW2 := Lib.hid (hw1.later hb2)
      obtain ⟨b, off, rfl, hbb, hc, hx⟩ := words_cell (hw1.later hb2) hk
      have hcl := hw1.2.1
      have hcm := hw1.2.2.1
      have RDx := Lib.hid (fun W => RD.out W hx)
      have HX := Lib.hid hx
      have LN := Lib.hid (show (castI (nextN (qAt l k) k l.length)).length ≤ 1000000000000 by rw [castI_len]; have := nextN_len (qAt l k) k l.length; omega)
      clear hw1 hb1 hb2 RD hx
      generalize l.getD k 0 = X at *
      generalize castI (nextN (qAt l k) k l.length) = L at *
      go_wp2_with fail
      refine (RDx.out _).mono ?_
      unfold RDecP
      obtain ⟨o, d, u, v, im, hQ, hok, hm⟩ := dec_gen (X : Int) (by omega) (by have := HX.out; omega)
      rw [hQ, hok]
      rw [hQ] at HO
      unfold agg5
      rintro e w3 ⟨rfl, hb3⟩
      have HO' : (o == 45) = false := by simp; exact HO
      clear HO hQ hok
      go_wp2_with fail
      refine (RN.out _ _ _ (HW2.out.later (below_trans hb3 (by go_grown)))).mono ?_
      rintro e w4 ⟨vr, rfl, own, hb4⟩
      obtain ⟨ar, cr, rfl, hR⟩ := own_i own LN.out
      have HBx := Lib.hid (below_trans (below_trans hb3 (by go_grown)) hb4)
      have IE := Lib.hid (ints_eq an ar cn cr L w4 (HI.out.later HBx.out) hR)
      clear own hR hb3 hb4
      go_wp2_with (first | (go_at_call 11; refine IE.out.mono ?_; rintro e w5 ⟨rfl, hd5⟩; have HB5 := Lib.hid (below_trans HB2.out (below_trans HBx.out (below_draw hd5))); clear hd5) | (go_at_call 9; refine (LV.out _ (HT.out.later HB5.out)).mono ?_; rintro e w6 ⟨rfl, hb6⟩))
      go_ret
      exact ⟨rfl, below_trans HB5.out hb6⟩
  · have IN := Lib.hid (fun W a c => inext_out a c (l0.take 30) i W hin (by omega))
    unfold FewW at FW
    by_cases hneg : i < 0
    · have t1 := decide_eq_true hneg
      clear hin hneg
      generalize l0.take 30 = l at *
      go_enter Tryd.func3, Tryd.ntmps3
      go_wp2_with fail
      refine FW.out.mono ?_
      rintro e w1 ⟨a, c, rfl, hw1, hb1⟩
      go_wp2_with fail
      refine (IN.out w1 a c).mono ?_
      rintro e w2 ⟨rfl, hb2⟩
      go_wp2_with (go_at_call 9; refine (LV.out _ (HT.out.later (below_trans hb1 hb2))).mono ?_; rintro e w4 ⟨rfl, hb4⟩)
      go_ret
      exact ⟨rfl, below_trans (below_trans hb1 hb2) hb4⟩
    · have t1 := decide_eq_false hneg
      have t2 := decide_eq_true (show ((l0.take 30).length : Int) ≤ i by omega)
      clear hin hneg
      generalize l0.take 30 = l at *
      go_enter Tryd.func3, Tryd.ntmps3
      go_wp2_with fail
      refine FW.out.mono ?_
      rintro e w1 ⟨a, c, rfl, hw1, hb1⟩
      go_wp2_with fail
      refine (IN.out w1 a c).mono ?_
      rintro e w2 ⟨rfl, hb2⟩
      go_wp2_with (go_at_call 9; refine (LV.out _ (HT.out.later (below_trans hb1 hb2))).mono ?_; rintro e w4 ⟨rfl, hb4⟩)
      go_ret
      exact ⟨rfl, below_trans (below_trans hb1 hb2) hb4⟩

set_option maxRecDepth 100000 in
theorem lifted_FlowNexts (os : Os) (started : os.Started) (H : Type) (enc : TypeId × Value → H) :
    ReturnsInHanded {} Tryd.checked os 3 .any (fun w args => (Rows.flowNextsSpec.pre enc Tryd.prog Tryd.f3 [] false w args ∧ laidMetH Tryd.prog laid3 w) ∧ sizedMet enc Tryd.prog Tryd.f3 (OpenSpec.ofChange Rows.flowNextsSpec) false w args)
      (Rows.flowNextsSpec.post enc Tryd.prog Tryd.f3 false true false false) := by
  refine returnsInHanded_of_change_and (C := Tryd.checked) (X := fun w _ => laidMetH Tryd.prog laid3 w) (fun _ _ _ hh h => h.of_heap hh) own started (by kernel_rfl) Tryd.func3
    (ChangeSpec.witness_shaped (enc := enc) (C := Tryd.checked) (os := os) (X := fun w _ => laidMetH Tryd.prog laid3 w) false (World.doorLaid Tryd.prog 400 os) #[.slice none 0 0, .int .i64 0] 8 rfl (World.shaped_of_RefB (by kernel_rfl) (by kernel_rfl)) (by kernel_rfl) (by kernel_rfl) (by kernel_rfl) (door_met os _)) ?_
  intro W base args ds gs before hval0 hW _ _ hL _
  have hval : ∀ (j : Nat) t v, Tryd.f3.params[j]? = some t → args[j]? = some v → Value.okWide Tryd.prog W .any base t v := hval0
  have hW' := hW
  obtain ⟨p, q, hA0, hV, rfl, hfz, hnd⟩ := hW
  have hA : DataW.TrodAll enc Tryd.prog W 0 (fun _ => true) true Tryd.f3.params.toList args.toList ds p := hA0
  rw [Tryd.params3] at hA hval
  obtain ⟨v0, vs0, d0, ds0, p0, q0, hargs, rfl, rfl, h0, r0⟩ := trodAll_cons hA
  obtain ⟨v1, vs1, d1, ds1, p1, q1, rfl, rfl, rfl, h1, r1⟩ := trodAll_cons r0
  obtain ⟨rfl, rfl, rfl⟩ := trodAll_nil r1
  obtain rfl : args = #[v0, v1] := by cases args; simp_all
  obtain ⟨rfl, rfl⟩ := trodVars_none hV
  have k0 := h0
  have lt0 : ∀ x ∈ p0, x.block < W.heap.size := by obtain ⟨m, hm⟩ := k0; exact DataW.trod_lt m _ _ _ hm
  obtain ⟨a0, c0, l0, rfl, w0⟩ := words_in Tryd.underlying22 Tryd.underlying32 (by kernel_rfl) (hval 0 22 v0 rfl rfl) h0
  obtain ⟨a1, rfl, rfl, rfl, w1⟩ := open_int Tryd.underlying3 (hval 1 3 v1 rfl rfl) h1
  clear hA0 hval0
  refine (walk_FlowNexts W a0 c0 l0 a1 w0 w1 (t3_of hL)).mono fun e W' ⟨he, bel⟩ => ?_
  subst he
  exact ⟨_, rfl, _, _, _, [], _, [], hW', trodAll_mk1 (shut_bool Tryd.underlying4 _), (trodAll_cons_mk (Below.trod laidOut (by kernel_rfl) (of_decide_eq_true (by kernel_rfl)) k0 bel lt0) (trodAll_cons_mk (shut_int Tryd.underlying3 w1) trodAll_mk0)), rfl, bel.frame _, fun h => by cases h⟩

theorem row_FlowNexts : Rows.FlowNextsSaid :=
  OpenClaim.holds_of_wide 3 Tryd.f3 rfl rfl rfl rfl rfl rfl rfl ⟨rfl, rfl, rfl, rfl, rfl⟩ rfl rfl rfl rfl rfl (by kernel_rfl) Tryd.func3 (by kernel_rfl)
    (of_decide_eq_true (by kernel_rfl)) (by unfold Func.isWrapper; first | (rw [if_pos (by decide +kernel)]; kernel_rfl) | (rw [if_neg (by decide +kernel)]; exact ⟨rfl, rfl⟩))
    (fun os started H enc _ => lifted_FlowNexts os started H enc)
theorem holds_FlowNexts : Rows.FlowNextsCardSaid :=
  Claim7.holds_tied_plain_at .later [] [.data] true _ false
    row_FlowNexts (fun _ h => by cases h) (by kernel_rfl) (fun _ h => by cases h) flowNexts_row_tie rfl ⟨rfl, rfl⟩ (by kernel_rfl) rfl
    (fun f fn hf hfn => by
      obtain rfl : f = 3 := Option.some.inj ((show Tryd.prog.funcNamed "pintle/pintlelaw42.FlowNexts" = some 3 by kernel_rfl).symm.trans hf) |>.symm
      obtain rfl : fn = Tryd.f3 := (Option.some.inj (Tryd.func3.symm.trans hfn)).symm
      exact ⟨by kernel_rfl, fun j t ht => by
        rw [Tryd.params3] at ht
        have hm : t ∈ [22, 3] := by simpa using Array.mem_of_getElem? ht
        have hall : ([22, 3].all fun u => !Tryd.prog.wantsStandIn u) = true := by kernel_rfl
        exact (show Tryd.prog.wantsStandIn t = false by simpa using List.all_eq_true.1 hall t hm)⟩)
    (by kernel_rfl)

end Go.Proofs.YtmlhoagcppofgaaDoor
