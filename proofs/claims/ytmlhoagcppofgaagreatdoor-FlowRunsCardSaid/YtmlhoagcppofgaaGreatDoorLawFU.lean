/- The statement of layer 42 on runs: it returns true for all words and registers, over the table of three bits. -/
import Derived.Test.YtmlhoagcppofgaaGreatDoorRows
import Derived.Test.YtmlhoagcppofgaaGreatDoorCards
import Derived.Test.YtmlhoagcppofgaaGreatDoorTie
import Derived.Test.YtmlhoagcppofgaaGreatDoorFlR
import Derived.Test.YtmlhoagcppofgaaGreatDoorHB
import Derived.Test.YtmlhoagcppofgaaGreatDoorFlL
import Derived.Test.YtmlhoagcppofgaaGreatDoorExH
import Derived.Test.YtmlhoagcppofgaaGreatDoorExD
import Derived.Test.YtmlhoagcppofgaaGreatDoorExI
import Derived.Test.YtmlhoagcppofgaaGreatDoorGW
import Derived.Test.YtmlhoagcppofgaaGreatDoorOpen
import Derived.ProofKit
import Derived.OpenShut
import Derived.LaidMore
import Derived.Lib.LaidTab
import Derived.Stop.Joined
import Derived.SevenTiedAt
namespace Go.Proofs.YtmlhoagcppofgaaGreatDoor
open Go Go.RowKit Go.ChangeShapes Go.WideShapes Go.ChangeAt Pl
set_option linter.unusedVariables false

theorem WordsC.toIn {w : World} {a : Option Addr} {l : List Nat} {c : Nat} (h : WordsC w a l c) : WordsIn w a l := ⟨h.1, by have := h.2.1; have := h.2.2.1; omega, h.2.2.2⟩
theorem goodE_drop {l : List Nat} {R : Nat → Bool} {ev : List MEv} {m : Nat} (hm : m < ev.length) (h : GoodE l R (ev.drop m)) : (∃ k, k < l.length ∧ (evD ev m).p = 4096 + 4 * k ∧ (evD ev m).w = l.getD k 0 ∧ R k = true) ∧ ((decI ((evD ev m).w : Nat)).o = 45 ∨ GoodE l R (ev.drop (m + 1))) := by
  rw [List.drop_eq_getElem_cons hm] at h
  have e : evD ev m = ev[m] := by unfold evD; simp [List.getD, hm]
  rw [e]
  exact h
set_option maxRecDepth 100000 in
set_option maxHeartbeats 2000000 in
theorem walk_FlowRuns (w : World) (a0 : Option Addr) (c0 : Nat) (l0 : List Nat) (a1 : Option Addr) (c1 : Nat) (l1 : List Nat) (w0 : WordsC w a0 l0 c0) (w1 : WordsC w a1 l1 c1) (ht : T3 w) :
    Calls Tryz.prog 3 #[.slice a0 l0.length c0, .slice a1 l1.length c1] w fun e w' => e = .returned (.bool true) ∧ Below w.heap.size w w' := by
  have FW := Lib.hid (wfew_any a0 c0 l0 w w0)
  have HT := Lib.hid ht
  have hl : (l0.take 30).length ≤ 30 := by simp; omega
  have LV := Lib.hid (fun W h => lives42 W h)
  have H1 := Lib.hid w1
  clear w0 w1 ht
  unfold FewW at FW
  generalize l0.take 30 = l at *
  go_enter Tryz.func3, Tryz.ntmps3
  go_wp2_with fail
  refine FW.out.mono ?_
  rintro e w1 ⟨a, c, rfl, hw1, hb1⟩
  have BG := Lib.hid (begins_any w1 a c l hw1.toIn a1 c1 l1 (H1.out.later hb1).toIn)
  have HW1 := Lib.hid hw1
  have HB1 := Lib.hid hb1
  have T1 := Lib.hid (HT.out.later hb1)
  have h32 := hw1.1
  clear hw1 hb1
  go_wp2_with fail
  refine BG.out.mono ?_
  rintro e w2 ⟨M, F, R, X, rfl, hD⟩
  have S2 := Lib.hid hD.solo
  have W2 := Lib.hid (HW1.out.later hD.bl)
  have T2 := Lib.hid (T1.out.later hD.bl)
  have x2 := hD.xlt
  have r2 := hD.far.r
  clear hD BG
  have RE : Calls Tryz.prog 6 #[.slice a l.length c, .int .i64 0] w2 fun e w' => ∃ g S, e = .returned (.slice (some ⟨g, 0, none⟩) l.length l.length) ∧ BAt w' (some ⟨g, 0, none⟩) S l.length ∧ ((0 < l.length → S 0 = true) ∧ closedS (gQ l) l.length S) ∧ w2.heap.size ≤ g ∧ Below w2.heap.size w2 w' := by
    by_cases h0 : 0 < l.length
    · refine (ireach_in a c l 0 w2 T2.out W2.out h0 hl).mono ?_
      rintro e w' ⟨g, S, rfl, h1, h2, h3, h4⟩
      exact ⟨g, S, rfl, h1, ⟨fun _ => h2.1, h2.2.2⟩, h3, h4⟩
    · refine (ireach_out a c l 0 w2 (by omega) hl).mono ?_
      rintro e w' ⟨g, rfl, h1, h3, h4⟩
      exact ⟨g, _, rfl, h1, ⟨fun h => absurd h h0, fun a b ha _ _ _ => by omega⟩, h3, h4⟩
  have REH := Lib.hid RE
  clear RE
  go_wp2_with fail
  refine REH.out.mono ?_
  rintro e w3 ⟨gr, S, rfl, hS, hq, hgr, hb3⟩
  have S3 := Lib.hid (S2.out.below hb3)
  have GE := run_good (R := S) hl h32 hq.2 60 (begS_ok (regs := l1) hq.1)
  have TC := Lib.hid (trace_any (60 : Int) (by omega) T1.out w3 S3.out)
  have hs3 := hb3.size
  have BS := Lib.hid hS
  have GEH := Lib.hid GE
  have e60 : (60 : Int).toNat = 60 := rfl
  rw [e60] at TC
  have hlen := runE_len (begF l) 60 (begS l1)
  clear hS hq hb3 GE e60 REH
  generalize runE (begF l) 60 (begS l1) = E at *
  obtain ⟨ev, t, s2⟩ := E
  dsimp only at GEH TC hlen
  go_wp2_with fail
  refine TC.out.mono ?_
  rintro e w4 ⟨a4, c4, rfl, hrow, hS4, hO4⟩
  have RA := Lib.hid (evRow_of hrow rfl)
  have BR : BAt w4 (some ⟨gr, 0, none⟩) S l.length := by
    obtain ⟨b, hbe, hbl, hbc⟩ := BS.out
    cases hbe
    exact ⟨gr, rfl, Nat.lt_of_lt_of_le hbl hO4.size, fun j hj => (hO4.cell (p := ⟨gr, j, none⟩) hbl (by show ¬ (gr = X + 2 ∨ gr = R); omega)).trans (hbc j hj)⟩
  have BRH := Lib.hid BR
  have B4 := Lib.hid (below_trans HB1.out hS4.bl)
  clear BR hrow hS4 hO4 TC BS
  go_wp2_with fail
  go_loopw [11] (fun i wr => ∃ m : Nat, m ≤ ev.length ∧ i = .int .i64 m ∧ GoodE l S (ev.drop m) ∧ Below w4.heap.size w4 wr) (fun i _ => ev.length - (intOf i).toNat)
  case atStart => exact ⟨0, Nat.zero_le _, rfl, GEH.out, Below.refl _ _⟩
  case round =>
    obtain ⟨m, hm, rfl, hgood, hb⟩ := hrel
    have BW := Lib.hid (below_trans B4.out hb)
    have HB := Lib.hid hb
    by_cases hlt : m < ev.length
    · obtain ⟨⟨k, hk, hp, hwd, hSk⟩, hnx⟩ := goodE_drop hlt hgood
      have HNX := Lib.hid hnx
      rcases RA.out.below hb with hnil | ⟨g, rfl, hg, hcs⟩
      · rw [hnil] at hlt; simp at hlt
      obtain ⟨q0, q1, _, _, _⟩ := hcs m hlt
      rw [hp] at q0
      rw [hwd] at q1 HNX
      obtain ⟨gb, hge, hgbl, hgbc⟩ := BRH.out
      cases hge
      have cS := (hb.cell (p := ⟨gr, k, none⟩) hgbl).trans (hgbc k hk)
      rw [hSk] at cS
      have hgr2 := Nat.lt_of_lt_of_le hgbl hb.size
      have hx := getD_lt32 h32 k
      have HX := Lib.hid hx
      have um := IntWalk.i64_in ((m : Int) + 1) (by omega)
      have uk := IntWalk.i64_in (k : Int) (by omega)
      clear hb hgood hnx hp hwd hSk hcs hgbc hx
      generalize l.getD k 0 = Xw at *
      obtain ⟨o, d, u, v, im, hQ, hok, hm'⟩ := dec_gen (Xw : Int) (by omega) (by have := HX.out; omega)
      rw [hQ] at HNX
      go_wp2_with fail
      refine (rdec_any _ _ (by omega) (by have := HX.out; omega)).mono ?_
      unfold RDecP
      rw [hQ, hok]
      unfold agg5
      rintro e w5 ⟨rfl, hb5⟩
      have q05 := (hb5.cell (p := ⟨g, m * 5, none⟩) hg).trans q0
      have cS5 := (hb5.cell (p := ⟨gr, k, none⟩) hgr2).trans cS
      have hg5 := Nat.lt_of_lt_of_le hg hb5.size
      have hgr5 := Nat.lt_of_lt_of_le hgr2 hb5.size
      have B5 := Lib.hid (below_trans BW.out hb5)
      have HB5 := Lib.hid (below_trans HB.out hb5)
      clear hb5 q0 q1 cS hQ hok
      by_cases h45 : o = 45
      · subst h45
        go_wp2_with (go_at_call 9; refine (LV.out _ (HT.out.later (below_trans B5.out (by go_grown)))).mono ?_; rintro e w6 ⟨rfl, hb6⟩)
        go_ret
        exact ⟨rfl, below_trans (below_trans B5.out (by go_grown)) hb6⟩
      · have t45 : (o == 45) = false := by simp; exact h45
        have NX := Lib.hid (HNX.out.resolve_left h45)
        have z1 : ((4096 + 4 * k : Nat) : Int) - 4096 = 4 * (k : Int) := by omega
        clear h45
        go_wp2_with fail
        refine ⟨⟨m + 1, by omega, rfl, NX.out, below_trans HB5.out (by go_grown)⟩, by simp [intOf]; omega⟩
    · obtain rfl : m = ev.length := by omega
      clear hb hgood
      go_wp2_with fail
      refine (LV.out _ (HT.out.later BW.out)).mono ?_
      rintro e w6 ⟨rfl, hb6⟩
      go_wp2_with fail
      go_ret
      exact ⟨rfl, below_trans BW.out hb6⟩

set_option maxRecDepth 100000 in
theorem lifted_FlowRuns (os : Os) (started : os.Started) (H : Type) (enc : TypeId × Value → H) :
    ReturnsInHanded {} Tryz.checked os 3 .any (fun w args => (Rows.flowRunsSpec.pre enc Tryz.prog Tryz.f3 [] false w args ∧ laidMetH Tryz.prog laid3 w) ∧ sizedMet enc Tryz.prog Tryz.f3 (OpenSpec.ofChange Rows.flowRunsSpec) false w args)
      (Rows.flowRunsSpec.post enc Tryz.prog Tryz.f3 false true false false) := by
  refine returnsInHanded_of_change_and (C := Tryz.checked) (X := fun w _ => laidMetH Tryz.prog laid3 w) (fun _ _ _ hh h => h.of_heap hh) own started (by kernel_rfl) Tryz.func3
    (ChangeSpec.witness_shaped (enc := enc) (C := Tryz.checked) (os := os) (X := fun w _ => laidMetH Tryz.prog laid3 w) false (World.doorLaid Tryz.prog 400 os) #[.slice none 0 0, .slice none 0 0] 8 rfl (World.shaped_of_RefB (by kernel_rfl) (by kernel_rfl)) (by kernel_rfl) (by kernel_rfl) (by kernel_rfl) (door_met os _)) ?_
  intro W base args ds gs before hval0 hW _ _ hL _
  have hval : ∀ (j : Nat) t v, Tryz.f3.params[j]? = some t → args[j]? = some v → Value.okWide Tryz.prog W .any base t v := hval0
  have hW' := hW
  obtain ⟨p, q, hA0, hV, rfl, hfz, hnd⟩ := hW
  have hA : DataW.TrodAll enc Tryz.prog W 0 (fun _ => true) true Tryz.f3.params.toList args.toList ds p := hA0
  rw [Tryz.params3] at hA hval
  obtain ⟨v0, vs0, d0, ds0, p0, q0, hargs, rfl, rfl, h0, r0⟩ := trodAll_cons hA
  obtain ⟨v1, vs1, d1, ds1, p1, q1, rfl, rfl, rfl, h1, r1⟩ := trodAll_cons r0
  obtain ⟨rfl, rfl, rfl⟩ := trodAll_nil r1
  obtain rfl : args = #[v0, v1] := by cases args; simp_all
  obtain ⟨rfl, rfl⟩ := trodVars_none hV
  have k0 := h0
  have lt0 : ∀ x ∈ p0, x.block < W.heap.size := by obtain ⟨m, hm⟩ := k0; exact DataW.trod_lt m _ _ _ hm
  obtain ⟨a0, c0, l0, rfl, w0⟩ := words_in Tryz.underlying22 Tryz.underlying37 (by kernel_rfl) (hval 0 22 v0 rfl rfl) h0
  have k1 := h1
  have lt1 : ∀ x ∈ p1, x.block < W.heap.size := by obtain ⟨m, hm⟩ := k1; exact DataW.trod_lt m _ _ _ hm
  obtain ⟨a1, c1, l1, rfl, w1⟩ := words_in Tryz.underlying22 Tryz.underlying37 (by kernel_rfl) (hval 1 22 v1 rfl rfl) h1
  clear hA0 hval0
  refine (walk_FlowRuns W a0 c0 l0 a1 c1 l1 w0 w1 (t3_of hL)).mono fun e W' ⟨he, bel⟩ => ?_
  subst he
  exact ⟨_, rfl, _, _, _, [], _, [], hW', trodAll_mk1 (shut_bool Tryz.underlying4 _), (trodAll_cons_mk (Below.trod laidOut (by kernel_rfl) (of_decide_eq_true (by kernel_rfl)) k0 bel lt0) (trodAll_cons_mk (Below.trod laidOut (by kernel_rfl) (of_decide_eq_true (by kernel_rfl)) k1 bel lt1) trodAll_mk0)), rfl, bel.frame _, fun h => by cases h⟩

theorem row_FlowRuns : Rows.FlowRunsSaid :=
  OpenClaim.holds_of_wide 3 Tryz.f3 rfl rfl rfl rfl rfl rfl rfl ⟨rfl, rfl, rfl, rfl, rfl⟩ rfl rfl rfl rfl rfl (by kernel_rfl) Tryz.func3 (by kernel_rfl)
    (of_decide_eq_true (by kernel_rfl)) (by unfold Func.isWrapper; first | (rw [if_pos (by decide +kernel)]; kernel_rfl) | (rw [if_neg (by decide +kernel)]; exact ⟨rfl, rfl⟩))
    (fun os started H enc _ => lifted_FlowRuns os started H enc)
theorem holds_FlowRuns : Rows.FlowRunsCardSaid :=
  Claim7.holds_tied_plain_at .later [] [.data] true _ false
    row_FlowRuns (fun _ h => by cases h) (by kernel_rfl) (fun _ h => by cases h) flowRuns_row_tie rfl ⟨rfl, rfl⟩ (by kernel_rfl) rfl
    (fun f fn hf hfn => by
      obtain rfl : f = 3 := Option.some.inj ((show Tryz.prog.funcNamed "pintle/pintlelaw42.FlowRuns" = some 3 by kernel_rfl).symm.trans hf) |>.symm
      obtain rfl : fn = Tryz.f3 := (Option.some.inj (Tryz.func3.symm.trans hfn)).symm
      exact ⟨by kernel_rfl, fun j t ht => by
        rw [Tryz.params3] at ht
        have hm : t ∈ [22, 22] := by simpa using Array.mem_of_getElem? ht
        have hall : ([22, 22].all fun u => !Tryz.prog.wantsStandIn u) = true := by kernel_rfl
        exact (show Tryz.prog.wantsStandIn t = false by simpa using List.all_eq_true.1 hall t hm)⟩)
    (by kernel_rfl)

end Go.Proofs.YtmlhoagcppofgaaGreatDoor
