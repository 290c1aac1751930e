/- The statement of layer 7 on traps: it returns true for all words and registers, over the table of three bits. -/
import Derived.Test.YtidpaijnnkainaaDoorRows
import Derived.Test.YtidpaijnnkainaaDoorCards
import Derived.Test.YtidpaijnnkainaaDoorTie
import Derived.Test.YtidpaijnnkainaaDoorExD
import Derived.Test.YtidpaijnnkainaaDoorGV
import Derived.Test.YtidpaijnnkainaaDoorOpen
import Derived.ProofKit
import Derived.OpenShut
import Derived.LaidMore
import Derived.Lib.LaidTab
import Derived.Stop.Joined
import Derived.SevenTiedAt
namespace Go.Proofs.YtidpaijnnkainaaDoor
open Go Go.RowKit Go.ChangeShapes Go.WideShapes Go.ChangeAt Pl
set_option linter.unusedVariables false

set_option maxRecDepth 100000 in
set_option maxHeartbeats 4000000 in
theorem walk_ExecTraps (w : World) (a0 : Option Addr) (c0 : Nat) (l0 : List Nat) (a1 : Option Addr) (c1 : Nat) (l1 : List Nat) (w0 : WordsIn w a0 l0) (w1 : WordsIn w a1 l1) (ht : T3 w) :
    Calls Tryd.prog 6 #[.slice a0 l0.length c0, .slice a1 l1.length c1] w fun e w' => e = .returned (.bool true) ∧ Below w.heap.size w w' := by
  have BG := Lib.hid (begins_any w a0 c0 l0 w0 a1 c1 l1 w1)
  have HT := Lib.hid ht
  clear w0 w1 ht
  go_enter Tryd.func6, Tryd.ntmps6
  go_wp2_with fail
  refine BG.out.mono ?_
  rintro e w1 ⟨M, F, R, X, rfl, hD⟩
  have S1 := Lib.hid hD.solo
  clear hD BG
  generalize begS l1 = s0 at *
  generalize begF l0 = Fb at *
  go_wp2_with fail
  refine (run_any 40 (by omega) HT.out _ S1.out).mono ?_
  rintro e w2 ⟨rfl, hS, hO⟩
  have S2 := Lib.hid hS
  have AG := Lib.hid (runE_again Fb (40 : Int).toNat 39 s0)
  have AS := Lib.hid (again_step Fb (40 : Int).toNat s0)
  clear S1 hS hO
  by_cases hz : (runE Fb (40 : Int).toNat s0).2.1 = 0
  · rw [hz]
    clear AG AS hz
    go_wp2_with fail
    refine (lives07 w2 (HT.out.later S2.out.bl)).mono ?_
    rintro e w3 ⟨rfl, hb3⟩
    go_wp2_with fail
    go_ret
    exact ⟨rfl, S2.out.bl.trans (hb3.mono S2.out.bl.size)⟩
  · have ag := AG.out hz
    have asx := AS.out hz
    clear AG AS
    generalize runE Fb (40 : Int).toNat s0 = E at *
    obtain ⟨evs, t, s⟩ := E
    simp only at hz ag asx S2
    have AG := Lib.hid (show runE Fb (40 : Int).toNat s = ([], t, s) from ag)
    have AS := Lib.hid asx
    clear ag asx
    have pcb := S2.out.mach.pcb
    go_wp2_with fail
    refine (pc_any S2.out.mach).mono ?_
    rintro e w3 ⟨rfl, rfl⟩
    go_wp2_with fail
    refine (run_any 40 (by omega) HT.out _ S2.out).mono ?_
    rintro e w3 ⟨rfl, hS, hO⟩
    rw [AG.out] at hS ⊢
    have S3 := Lib.hid hS
    clear S2 hS hO
    go_wp2_with fail
    refine (trace_trap (by rw [AS.out]; exact hz) HT.out _ S3.out).mono ?_
    rintro e w4 ⟨rfl, hS, hO⟩
    rw [AS.out]
    have S4 := Lib.hid hS
    clear S3 hS hO
    go_wp2_with fail
    refine (pc_any S4.out.mach).mono ?_
    rintro e w5 ⟨rfl, rfl⟩
    go_wp2_with fail
    refine (lives07 w4 (HT.out.later S4.out.bl)).mono ?_
    rintro e w6 ⟨rfl, hb3⟩
    go_wp2_with fail
    go_ret
    exact ⟨rfl, S4.out.bl.trans (hb3.mono S4.out.bl.size)⟩

set_option maxRecDepth 100000 in
theorem lifted_ExecTraps (os : Os) (started : os.Started) (H : Type) (enc : TypeId × Value → H) :
    ReturnsInHanded {} Tryd.checked os 6 .any (fun w args => (Rows.execTrapsSpec.pre enc Tryd.prog Tryd.f6 [] false w args ∧ laidMetH Tryd.prog laid3 w) ∧ sizedMet enc Tryd.prog Tryd.f6 (OpenSpec.ofChange Rows.execTrapsSpec) false w args)
      (Rows.execTrapsSpec.post enc Tryd.prog Tryd.f6 false true false false) := by
  refine returnsInHanded_of_change_and (C := Tryd.checked) (X := fun w _ => laidMetH Tryd.prog laid3 w) (fun _ _ _ hh h => h.of_heap hh) own started (by kernel_rfl) Tryd.func6
    (ChangeSpec.witness_shaped (enc := enc) (C := Tryd.checked) (os := os) (X := fun w _ => laidMetH Tryd.prog laid3 w) false (World.doorLaid Tryd.prog 400 os) #[.slice none 0 0, .slice none 0 0] 8 rfl (World.shaped_of_RefB (by kernel_rfl) (by kernel_rfl)) (by kernel_rfl) (by kernel_rfl) (by kernel_rfl) (door_met os _)) ?_
  intro W base args ds gs before hval0 hW _ _ hL _
  have hval : ∀ (j : Nat) t v, Tryd.f6.params[j]? = some t → args[j]? = some v → Value.okWide Tryd.prog W .any base t v := hval0
  have hW' := hW
  obtain ⟨p, q, hA0, hV, rfl, hfz, hnd⟩ := hW
  have hA : DataW.TrodAll enc Tryd.prog W 0 (fun _ => true) true Tryd.f6.params.toList args.toList ds p := hA0
  rw [Tryd.params6] at hA hval
  obtain ⟨v0, vs0, d0, ds0, p0, q0, hargs, rfl, rfl, h0, r0⟩ := trodAll_cons hA
  obtain ⟨v1, vs1, d1, ds1, p1, q1, rfl, rfl, rfl, h1, r1⟩ := trodAll_cons r0
  obtain ⟨rfl, rfl, rfl⟩ := trodAll_nil r1
  obtain rfl : args = #[v0, v1] := by cases args; simp_all
  obtain ⟨rfl, rfl⟩ := trodVars_none hV
  have k0 := h0
  have lt0 : ∀ x ∈ p0, x.block < W.heap.size := by obtain ⟨m, hm⟩ := k0; exact DataW.trod_lt m _ _ _ hm
  obtain ⟨a0, c0, l0, rfl, w0⟩ := words_in Tryd.underlying22 Tryd.underlying37 (by kernel_rfl) (hval 0 22 v0 rfl rfl) h0
  have k1 := h1
  have lt1 : ∀ x ∈ p1, x.block < W.heap.size := by obtain ⟨m, hm⟩ := k1; exact DataW.trod_lt m _ _ _ hm
  obtain ⟨a1, c1, l1, rfl, w1⟩ := words_in Tryd.underlying22 Tryd.underlying37 (by kernel_rfl) (hval 1 22 v1 rfl rfl) h1
  clear hA0 hval0
  refine (walk_ExecTraps W a0 c0 l0 a1 c1 l1 w0 w1 (t3_of hL)).mono fun e W' ⟨he, bel⟩ => ?_
  subst he
  exact ⟨_, rfl, _, _, _, [], _, [], hW', trodAll_mk1 (shut_bool Tryd.underlying4 _), (trodAll_cons_mk (Below.trod laidOut (by kernel_rfl) (of_decide_eq_true (by kernel_rfl)) k0 bel lt0) (trodAll_cons_mk (Below.trod laidOut (by kernel_rfl) (of_decide_eq_true (by kernel_rfl)) k1 bel lt1) trodAll_mk0)), rfl, bel.frame _, fun h => by cases h⟩

theorem row_ExecTraps : Rows.ExecTrapsSaid :=
  OpenClaim.holds_of_wide 6 Tryd.f6 rfl rfl rfl rfl rfl rfl rfl ⟨rfl, rfl, rfl, rfl, rfl⟩ rfl rfl rfl rfl rfl (by kernel_rfl) Tryd.func6 (by kernel_rfl)
    (of_decide_eq_true (by kernel_rfl)) (by unfold Func.isWrapper; first | (rw [if_pos (by decide +kernel)]; kernel_rfl) | (rw [if_neg (by decide +kernel)]; exact ⟨rfl, rfl⟩))
    (fun os started H enc _ => lifted_ExecTraps os started H enc)
theorem holds_ExecTraps : Rows.ExecTrapsCardSaid :=
  Claim7.holds_tied_plain_at .later [] [.data] true _ false
    row_ExecTraps (fun _ h => by cases h) (by kernel_rfl) (fun _ h => by cases h) execTraps_row_tie rfl ⟨rfl, rfl⟩ (by kernel_rfl) rfl
    (fun f fn hf hfn => by
      obtain rfl : f = 6 := Option.some.inj ((show Tryd.prog.funcNamed "pintle/pintlelaw07.ExecTraps" = some 6 by kernel_rfl).symm.trans hf) |>.symm
      obtain rfl : fn = Tryd.f6 := (Option.some.inj (Tryd.func6.symm.trans hfn)).symm
      exact ⟨by kernel_rfl, fun j t ht => by
        rw [Tryd.params6] at ht
        have hm : t ∈ [22, 22] := by simpa using Array.mem_of_getElem? ht
        have hall : ([22, 22].all fun u => !Tryd.prog.wantsStandIn u) = true := by kernel_rfl
        exact (show Tryd.prog.wantsStandIn t = false by simpa using List.all_eq_true.1 hall t hm)⟩)
    (by kernel_rfl)

end Go.Proofs.YtidpaijnnkainaaDoor
