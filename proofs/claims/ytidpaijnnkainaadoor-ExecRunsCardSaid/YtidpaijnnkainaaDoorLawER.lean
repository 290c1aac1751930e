/- The statement of layer 7 on runs: it returns true for all words, registers and fuels, over the table of three bits. -/
import Derived.Test.YtidpaijnnkainaaDoorRows
import Derived.Test.YtidpaijnnkainaaDoorCards
import Derived.Test.YtidpaijnnkainaaDoorTie
import Derived.Test.YtidpaijnnkainaaDoorExF
import Derived.Test.YtidpaijnnkainaaDoorExG
import Derived.Test.YtidpaijnnkainaaDoorGV
import Derived.Test.YtidpaijnnkainaaDoorOpen
import Derived.ProofKit
import Derived.OpenShut
import Derived.LaidMore
import Derived.Lib.LaidTab
import Derived.Stop.Joined
import Derived.SevenTiedAt
namespace Go.Proofs.YtidpaijnnkainaaDoor
open Go Go.RowKit Go.ChangeShapes Go.WideShapes Go.ChangeAt Pl
set_option linter.unusedVariables false


set_option maxRecDepth 100000 in
set_option maxHeartbeats 4000000 in
theorem walk_ExecRuns (w : World) (a0 : Option Addr) (c0 : Nat) (l0 : List Nat) (a1 : Option Addr) (c1 : Nat) (l1 : List Nat) (x : Int) (w0 : WordsIn w a0 l0) (w1 : WordsIn w a1 l1) (wx : (Lit.int .i64 x).wf = true) (ht : T3 w) :
    Calls Tryd.prog 3 #[.slice a0 l0.length c0, .slice a1 l1.length c1, .int .i64 x] w fun e w' => e = .returned (.bool true) ∧ Below w.heap.size w w' := by
  have BGG := Lib.hid (fun W1 (hb : Below w.heap.size w W1) => begins_any W1 a0 c0 l0 (w0.later hb) a1 c1 l1 (w1.later hb))
  have HT := Lib.hid ht
  clear w0 w1 wx ht
  go_enter Tryd.func3, Tryd.ntmps3
  go_wp2_with fail
  refine (few07 x w).mono ?_
  rintro e w1 ⟨y, rfl, hy, hb⟩
  have BG := Lib.hid (BGG.out w1 hb)
  have HB := Lib.hid hb
  clear BGG hb
  go_wp2_with fail
  refine BG.out.mono ?_
  rintro e w2 ⟨M, F, R, X, rfl, hD⟩
  have far := hD.far
  have fm := far.m; have ff := far.f; have fr := far.r
  have SC := Lib.hid (hD.solo.base HB.out)
  obtain ⟨vl, dx⟩ := hD.doc
  have DX := Lib.hid dx
  have x2 := hD.xlt
  clear hD dx far BG
  generalize begS l1 = s0 at *
  generalize begF l0 = Fb at *
  generalize w1.heap.size = Z at *
  go_wp2_with fail
  refine (run_any y (by omega) HT.out _ SC.out).mono ?_
  rintro e w3 ⟨rfl, hS, hO⟩
  have SC3 := Lib.hid hS
  have DX3 := Lib.hid (DX.out.out hO (by omega) (by omega) (fun j hj g => by have := DX.out.own j hj; omega))
  have x3 : X + 3 ≤ w3.heap.size := Nat.le_trans x2 hO.size
  clear SC DX hS hO x2
  go_wp2_with fail
  refine (rtrace_int DX3.out x3 y (by omega) (by omega)).mono ?_
  rintro e w4 ⟨a, c, vl2, rfl, hX, hO⟩
  have SC4 := Lib.hid (SC3.out.out hO fun j hj => by have := SC3.out.lo; omega)
  have DX4 := Lib.hid hX
  clear SC3 DX3 hX hO x3
  generalize runE Fb y.toNat s0 = E at *
  obtain ⟨ev, t, s2⟩ := E
  dsimp only at *
  generalize ev.length = N at *
  go_wp2_with fail
  refine (run_nil y w4).mono ?_
  rintro e w5 ⟨rfl, hb5⟩
  have SM := Lib.hid (same_any (SC4.out.below hb5).mach (DX4.out.out (.of_below (fun _ => False) hb5) id id (fun _ _ => id)).rm)
  have SC5 := Lib.hid (SC4.out.below hb5)
  clear SC4 DX4 hb5
  by_cases h0 : 0 < y
  · rw [if_pos h0]
    go_wp2_with fail
    refine SM.out.mono ?_
    rintro e w6 ⟨rfl, hl⟩
    have SC6 := Lib.hid (SC5.out.below hl.below)
    clear SC5 SM hl
    go_wp2_with fail
    refine (lives07 w6 (HT.out.later SC6.out.bl)).mono ?_
    rintro e w7 ⟨rfl, hb3⟩
    go_wp2_with fail
    go_ret
    exact ⟨rfl, SC6.out.bl.trans (hb3.mono SC6.out.bl.size)⟩
  · rw [if_neg h0]
    have hd0 : decide (0 < y) = false := decide_eq_false h0
    clear h0
    go_wp2_with fail
    refine SM.out.mono ?_
    rintro e w6 ⟨rfl, hl⟩
    have SC6 := Lib.hid (SC5.out.below hl.below)
    clear SC5 SM hl
    go_wp2_with fail
    refine (lives07 w6 (HT.out.later SC6.out.bl)).mono ?_
    rintro e w7 ⟨rfl, hb3⟩
    go_wp2_with fail
    go_ret
    exact ⟨rfl, SC6.out.bl.trans (hb3.mono SC6.out.bl.size)⟩

set_option maxRecDepth 100000 in
theorem lifted_ExecRuns (os : Os) (started : os.Started) (H : Type) (enc : TypeId × Value → H) :
    ReturnsInHanded {} Tryd.checked os 3 .any (fun w args => (Rows.execRunsSpec.pre enc Tryd.prog Tryd.f3 [] false w args ∧ laidMetH Tryd.prog laid3 w) ∧ sizedMet enc Tryd.prog Tryd.f3 (OpenSpec.ofChange Rows.execRunsSpec) false w args)
      (Rows.execRunsSpec.post enc Tryd.prog Tryd.f3 false true false false) := by
  refine returnsInHanded_of_change_and (C := Tryd.checked) (X := fun w _ => laidMetH Tryd.prog laid3 w) (fun _ _ _ hh h => h.of_heap hh) own started (by kernel_rfl) Tryd.func3
    (ChangeSpec.witness_shaped (enc := enc) (C := Tryd.checked) (os := os) (X := fun w _ => laidMetH Tryd.prog laid3 w) false (World.doorLaid Tryd.prog 400 os) #[.slice none 0 0, .slice none 0 0, .int .i64 0] 8 rfl (World.shaped_of_RefB (by kernel_rfl) (by kernel_rfl)) (by kernel_rfl) (by kernel_rfl) (by kernel_rfl) (door_met os _)) ?_
  intro W base args ds gs before hval0 hW _ _ hL _
  have hval : ∀ (j : Nat) t v, Tryd.f3.params[j]? = some t → args[j]? = some v → Value.okWide Tryd.prog W .any base t v := hval0
  have hW' := hW
  obtain ⟨p, q, hA0, hV, rfl, hfz, hnd⟩ := hW
  have hA : DataW.TrodAll enc Tryd.prog W 0 (fun _ => true) true Tryd.f3.params.toList args.toList ds p := hA0
  rw [Tryd.params3] at hA hval
  obtain ⟨v0, vs0, d0, ds0, p0, q0, hargs, rfl, rfl, h0, r0⟩ := trodAll_cons hA
  obtain ⟨v1, vs1, d1, ds1, p1, q1, rfl, rfl, rfl, h1, r1⟩ := trodAll_cons r0
  obtain ⟨v2, vs2, d2, ds2, p2, q2, rfl, rfl, rfl, h2, r2⟩ := trodAll_cons r1
  obtain ⟨rfl, rfl, rfl⟩ := trodAll_nil r2
  obtain rfl : args = #[v0, v1, v2] := by cases args; simp_all
  obtain ⟨rfl, rfl⟩ := trodVars_none hV
  have k0 := h0
  have lt0 : ∀ x ∈ p0, x.block < W.heap.size := by obtain ⟨m, hm⟩ := k0; exact DataW.trod_lt m _ _ _ hm
  obtain ⟨a0, c0, l0, rfl, w0⟩ := words_in Tryd.underlying22 Tryd.underlying37 (by kernel_rfl) (hval 0 22 v0 rfl rfl) h0
  have k1 := h1
  have lt1 : ∀ x ∈ p1, x.block < W.heap.size := by obtain ⟨m, hm⟩ := k1; exact DataW.trod_lt m _ _ _ hm
  obtain ⟨a1, c1, l1, rfl, w1⟩ := words_in Tryd.underlying22 Tryd.underlying37 (by kernel_rfl) (hval 1 22 v1 rfl rfl) h1
  obtain ⟨a2, rfl, rfl, rfl, w2⟩ := open_int Tryd.underlying3 (hval 2 3 v2 rfl rfl) h2
  clear hA0 hval0
  refine (walk_ExecRuns W a0 c0 l0 a1 c1 l1 a2 w0 w1 w2 (t3_of hL)).mono fun e W' ⟨he, bel⟩ => ?_
  subst he
  exact ⟨_, rfl, _, _, _, [], _, [], hW', trodAll_mk1 (shut_bool Tryd.underlying4 _), (trodAll_cons_mk (Below.trod laidOut (by kernel_rfl) (of_decide_eq_true (by kernel_rfl)) k0 bel lt0) (trodAll_cons_mk (Below.trod laidOut (by kernel_rfl) (of_decide_eq_true (by kernel_rfl)) k1 bel lt1) (trodAll_cons_mk (shut_int Tryd.underlying3 w2) trodAll_mk0))), rfl, bel.frame _, fun h => by cases h⟩

theorem row_ExecRuns : Rows.ExecRunsSaid :=
  OpenClaim.holds_of_wide 3 Tryd.f3 rfl rfl rfl rfl rfl rfl rfl ⟨rfl, rfl, rfl, rfl, rfl⟩ rfl rfl rfl rfl rfl (by kernel_rfl) Tryd.func3 (by kernel_rfl)
    (of_decide_eq_true (by kernel_rfl)) (by unfold Func.isWrapper; first | (rw [if_pos (by decide +kernel)]; kernel_rfl) | (rw [if_neg (by decide +kernel)]; exact ⟨rfl, rfl⟩))
    (fun os started H enc _ => lifted_ExecRuns os started H enc)
theorem holds_ExecRuns : Rows.ExecRunsCardSaid :=
  Claim7.holds_tied_plain_at .later [] [.data] true _ false
    row_ExecRuns (fun _ h => by cases h) (by kernel_rfl) (fun _ h => by cases h) execRuns_row_tie rfl ⟨rfl, rfl⟩ (by kernel_rfl) rfl
    (fun f fn hf hfn => by
      obtain rfl : f = 3 := Option.some.inj ((show Tryd.prog.funcNamed "pintle/pintlelaw07.ExecRuns" = some 3 by kernel_rfl).symm.trans hf) |>.symm
      obtain rfl : fn = Tryd.f3 := (Option.some.inj (Tryd.func3.symm.trans hfn)).symm
      exact ⟨by kernel_rfl, fun j t ht => by
        rw [Tryd.params3] at ht
        have hm : t ∈ [22, 22, 3] := by simpa using Array.mem_of_getElem? ht
        have hall : ([22, 22, 3].all fun u => !Tryd.prog.wantsStandIn u) = true := by kernel_rfl
        exact (show Tryd.prog.wantsStandIn t = false by simpa using List.all_eq_true.1 hall t hm)⟩)
    (by kernel_rfl)

end Go.Proofs.YtidpaijnnkainaaDoor
