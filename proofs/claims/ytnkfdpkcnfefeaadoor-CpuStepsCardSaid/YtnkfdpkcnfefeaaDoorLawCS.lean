/- The statement of layer 6 on steps: it returns true for all words and registers, over the table of three bits. -/
import Derived.Test.YtnkfdpkcnfefeaaDoorRows
import Derived.Test.YtnkfdpkcnfefeaaDoorCards
import Derived.Test.YtnkfdpkcnfefeaaDoorTie
import Derived.Test.YtnkfdpkcnfefeaaDoorGW
import Derived.Test.YtnkfdpkcnfefeaaDoorGV
import Derived.Test.YtnkfdpkcnfefeaaDoorOpen
import Derived.ProofKit
import Derived.OpenShut
import Derived.LaidMore
import Derived.Lib.LaidTab
import Derived.Stop.Joined
import Derived.SevenTiedAt
namespace Go.Proofs.YtnkfdpkcnfefeaaDoor
open Go Go.RowKit Go.ChangeShapes Go.WideShapes Go.ChangeAt Pl
set_option linter.unusedVariables false

set_option maxRecDepth 100000 in
set_option maxHeartbeats 4000000 in
theorem walk_CpuSteps (w : World) (a0 : Option Addr) (c0 : Nat) (l0 : List Nat) (a1 : Option Addr) (c1 : Nat) (l1 : List Nat) (w0 : WordsIn w a0 l0) (w1 : WordsIn w a1 l1) (ht : T3 w) :
    Calls Tryd.prog 5 #[.slice a0 l0.length c0, .slice a1 l1.length c1] w fun e w' => e = .returned (.bool true) ∧ Below w.heap.size w w' := by
  have BG := Lib.hid (begins_any w a0 c0 l0 w0 a1 c1 l1 w1)
  have HT := Lib.hid ht
  clear w0 w1 ht
  go_enter Tryd.func5, Tryd.ntmps5
  go_wp2_with fail
  refine BG.out.mono ?_
  rintro e w1 ⟨M, F, R, X, rfl, hD⟩
  have D1 := Lib.hid hD
  clear hD BG
  generalize begS l1 = s0 at *
  generalize begF l0 = Fb at *
  go_wp2_with fail
  go_loopw [8] (fun i wr => ∃ m : Nat, m ≤ 40 ∧ i = .int .i64 m ∧ ∃ s, Duo w M F R X Fb s s (240 + 4 * m) wr) (fun i _ => 40 - (intOf i).toNat)
  case atStart => exact ⟨0, by omega, rfl, s0, D1.out⟩
  case round =>
    obtain ⟨m, hm, rfl, s, hD⟩ := hrel
    have HD := Lib.hid hD
    clear hD D1
    by_cases hlt : m < 40
    · have CS := Lib.hid (HD.out.cstep HT.out)
      have RS := Lib.hid (fun W0 (hD : Duo w M F R X Fb (stepM 4096 2147483648 Fb s).s s (240 + 4 * m) W0) W' (hb : Below W0.heap.size W0 W') => hD.rstep hb (by omega) hD.mem.fR)
      clear HD
      generalize stepM 4096 2147483648 Fb s = o at *
      obtain ⟨⟨p, wd, k, a, z⟩, t, s2⟩ := o
      simp only [MEv.v] at CS RS
      go_wp2_with fail
      refine CS.out.mono ?_
      rintro e w2 ⟨rfl, hD2, _⟩
      have D2 := Lib.hid hD2
      clear CS hD2
      go_upto_region 8 with (fail)
      have b3 : Below w2.heap.size w2 (w2.alloc (.cells #[.int .u32 (p : Nat), .int .u32 (wd : Nat), .int .i64 k, .int .u32 (a : Nat), .int .i64 z] 34)) := (Below.refl _ _).alloc (Nat.le_refl _) _
      have E3 := Lib.hid (evAt_of (heap_alloc_new w2 (.cells #[.int .u32 (p : Nat), .int .u32 (wd : Nat), .int .i64 k, .int .u32 (a : Nat), .int .i64 z] 34)))
      have RS3 := Lib.hid (RS.out w2 D2.out _ b3)
      have hx2 := D2.out.xlt
      have sz3 : (w2.alloc (.cells #[.int .u32 (p : Nat), .int .u32 (wd : Nat), .int .i64 k, .int .u32 (a : Nat), .int .i64 z] 34)).heap.size = w2.heap.size + 1 := by simp
      clear b3 D2 RS
      generalize w2.heap.size = EB at *
      generalize World.alloc _ _ = W3 at *
      go_wp2_with fail
      refine RS3.out.mono ?_
      rintro e w4 ⟨rfl, hD4, ho4, hk4⟩
      have q4 := hk4 EB (Nat.le_refl _) (by omega)
      have E4 := Lib.hid (show EvAt EB p wd k a z w4 from ⟨(World.cell?_of_block q4).trans E3.out.c0, (World.cell?_of_block q4).trans E3.out.c1, (World.cell?_of_block q4).trans E3.out.c2, (World.cell?_of_block q4).trans E3.out.c3, (World.cell?_of_block q4).trans E3.out.c4, fun j hj => (World.frozen?_of_block (a := ⟨EB, j, none⟩) q4).trans (E3.out.f j hj), Nat.lt_of_lt_of_le E3.out.lt ho4.size⟩)
      have D4 := Lib.hid hD4
      clear RS3 E3 hD4 ho4 hk4 q4
      go_upto_region 9 with (fail)
      have b5 : Below w4.heap.size w4 (w4.alloc (.cells #[.int .u32 (p : Nat), .int .u32 (wd : Nat), .int .i64 k, .int .u32 (a : Nat), .int .i64 z] 34)) := (Below.refl _ _).alloc (Nat.le_refl _) _
      have F5 := Lib.hid (evAt_of (heap_alloc_new w4 (.cells #[.int .u32 (p : Nat), .int .u32 (wd : Nat), .int .i64 k, .int .u32 (a : Nat), .int .i64 z] 34)))
      have E5 := Lib.hid (E4.out.out (Out.of_below (fun _ => False) b5) id)
      have D5 := Lib.hid (D4.out.below b5)
      clear b5 D4 E4
      generalize w4.heap.size = FB at *
      generalize World.alloc _ _ = W5 at *
      have e0 := E5.out.c0
      have e1 := E5.out.c1
      have e2 := E5.out.c2
      have e3 := E5.out.c3
      have e4 := E5.out.c4
      have f0 := F5.out.c0
      have f1 := F5.out.c1
      have f2 := F5.out.c2
      have f3 := F5.out.c3
      have f4 := F5.out.c4
      have SM := Lib.hid (same_any D5.out.mach D5.out.rm)
      go_wp2_with fail
      refine SM.out.mono ?_
      rintro e w6 ⟨rfl, hl6⟩
      have D6 := Lib.hid (D5.out.like hl6)
      clear SM hl6 E5 F5 D5 e0 e1 e2 e3 e4 f0 f1 f2 f3 f4
      go_wp2_with fail
      go_roundw
      case rel => exact ⟨m + 1, by omega, by go_num, s2, by rw [show 240 + 4 * (m + 1) = 240 + 4 * m + 4 by omega]; exact D6.out⟩
      case measure => first | (simp [intOf]; done) | (simp [intOf]; omega)
    · have BY := Lib.hid (bytes_any HD.out rfl)
      go_wp2_with fail
      refine BY.out.mono ?_
      rintro e w2 ⟨rfl, hb2⟩
      have B2 := Lib.hid (HD.out.bl.trans (hb2.mono HD.out.bl.size))
      clear hb2
      go_wp2_with fail
      refine (lives06 w2 (HT.out.later B2.out)).mono ?_
      rintro e w3 ⟨rfl, hb3⟩
      go_wp2_with fail
      go_ret
      exact ⟨rfl, B2.out.trans (hb3.mono B2.out.size)⟩

set_option maxRecDepth 100000 in
theorem lifted_CpuSteps (os : Os) (started : os.Started) (H : Type) (enc : TypeId × Value → H) :
    ReturnsInHanded {} Tryd.checked os 5 .any (fun w args => (Rows.cpuStepsSpec.pre enc Tryd.prog Tryd.f5 [] false w args ∧ laidMetH Tryd.prog laid3 w) ∧ sizedMet enc Tryd.prog Tryd.f5 (OpenSpec.ofChange Rows.cpuStepsSpec) false w args)
      (Rows.cpuStepsSpec.post enc Tryd.prog Tryd.f5 false true false false) := by
  refine returnsInHanded_of_change_and (C := Tryd.checked) (X := fun w _ => laidMetH Tryd.prog laid3 w) (fun _ _ _ hh h => h.of_heap hh) own started (by kernel_rfl) Tryd.func5
    (ChangeSpec.witness_shaped (enc := enc) (C := Tryd.checked) (os := os) (X := fun w _ => laidMetH Tryd.prog laid3 w) false (World.doorLaid Tryd.prog 400 os) #[.slice none 0 0, .slice none 0 0] 8 rfl (World.shaped_of_RefB (by kernel_rfl) (by kernel_rfl)) (by kernel_rfl) (by kernel_rfl) (by kernel_rfl) (door_met os _)) ?_
  intro W base args ds gs before hval0 hW _ _ hL _
  have hval : ∀ (j : Nat) t v, Tryd.f5.params[j]? = some t → args[j]? = some v → Value.okWide Tryd.prog W .any base t v := hval0
  have hW' := hW
  obtain ⟨p, q, hA0, hV, rfl, hfz, hnd⟩ := hW
  have hA : DataW.TrodAll enc Tryd.prog W 0 (fun _ => true) true Tryd.f5.params.toList args.toList ds p := hA0
  rw [Tryd.params5] at hA hval
  obtain ⟨v0, vs0, d0, ds0, p0, q0, hargs, rfl, rfl, h0, r0⟩ := trodAll_cons hA
  obtain ⟨v1, vs1, d1, ds1, p1, q1, rfl, rfl, rfl, h1, r1⟩ := trodAll_cons r0
  obtain ⟨rfl, rfl, rfl⟩ := trodAll_nil r1
  obtain rfl : args = #[v0, v1] := by cases args; simp_all
  obtain ⟨rfl, rfl⟩ := trodVars_none hV
  have k0 := h0
  have lt0 : ∀ x ∈ p0, x.block < W.heap.size := by obtain ⟨m, hm⟩ := k0; exact DataW.trod_lt m _ _ _ hm
  obtain ⟨a0, c0, l0, rfl, w0⟩ := words_in Tryd.underlying28 Tryd.underlying24 (by kernel_rfl) (hval 0 28 v0 rfl rfl) h0
  have k1 := h1
  have lt1 : ∀ x ∈ p1, x.block < W.heap.size := by obtain ⟨m, hm⟩ := k1; exact DataW.trod_lt m _ _ _ hm
  obtain ⟨a1, c1, l1, rfl, w1⟩ := words_in Tryd.underlying28 Tryd.underlying24 (by kernel_rfl) (hval 1 28 v1 rfl rfl) h1
  clear hA0 hval0
  refine (walk_CpuSteps W a0 c0 l0 a1 c1 l1 w0 w1 (t3_of hL)).mono fun e W' ⟨he, bel⟩ => ?_
  subst he
  exact ⟨_, rfl, _, _, _, [], _, [], hW', trodAll_mk1 (shut_bool Tryd.underlying4 _), (trodAll_cons_mk (Below.trod laidOut (by kernel_rfl) (of_decide_eq_true (by kernel_rfl)) k0 bel lt0) (trodAll_cons_mk (Below.trod laidOut (by kernel_rfl) (of_decide_eq_true (by kernel_rfl)) k1 bel lt1) trodAll_mk0)), rfl, bel.frame _, fun h => by cases h⟩

theorem row_CpuSteps : Rows.CpuStepsSaid :=
  OpenClaim.holds_of_wide 5 Tryd.f5 rfl rfl rfl rfl rfl rfl rfl ⟨rfl, rfl, rfl, rfl, rfl⟩ rfl rfl rfl rfl rfl (by kernel_rfl) Tryd.func5 (by kernel_rfl)
    (of_decide_eq_true (by kernel_rfl)) (by unfold Func.isWrapper; first | (rw [if_pos (by decide +kernel)]; kernel_rfl) | (rw [if_neg (by decide +kernel)]; exact ⟨rfl, rfl⟩))
    (fun os started H enc _ => lifted_CpuSteps os started H enc)
theorem holds_CpuSteps : Rows.CpuStepsCardSaid :=
  Claim7.holds_tied_plain_at .later [] [.data] true _ false
    row_CpuSteps (fun _ h => by cases h) (by kernel_rfl) (fun _ h => by cases h) cpuSteps_row_tie rfl ⟨rfl, rfl⟩ (by kernel_rfl) rfl
    (fun f fn hf hfn => by
      obtain rfl : f = 5 := Option.some.inj ((show Tryd.prog.funcNamed "pintle/pintlelaw06.CpuSteps" = some 5 by kernel_rfl).symm.trans hf) |>.symm
      obtain rfl : fn = Tryd.f5 := (Option.some.inj (Tryd.func5.symm.trans hfn)).symm
      exact ⟨by kernel_rfl, fun j t ht => by
        rw [Tryd.params5] at ht
        have hm : t ∈ [28, 28] := by simpa using Array.mem_of_getElem? ht
        have hall : ([28, 28].all fun u => !Tryd.prog.wantsStandIn u) = true := by kernel_rfl
        exact (show Tryd.prog.wantsStandIn t = false by simpa using List.all_eq_true.1 hall t hm)⟩)
    (by kernel_rfl)

end Go.Proofs.YtnkfdpkcnfefeaaDoor
