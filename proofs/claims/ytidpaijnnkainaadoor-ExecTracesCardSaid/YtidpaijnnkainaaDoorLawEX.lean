/- The statement of layer 7 on traces: it returns true for all words, registers and fuels, over the table of three bits. -/
import Derived.Test.YtidpaijnnkainaaDoorRows
import Derived.Test.YtidpaijnnkainaaDoorCards
import Derived.Test.YtidpaijnnkainaaDoorTie
import Derived.Test.YtidpaijnnkainaaDoorExF
import Derived.Test.YtidpaijnnkainaaDoorExG
import Derived.Test.YtidpaijnnkainaaDoorExH
import Derived.Test.YtidpaijnnkainaaDoorExK
import Derived.Test.YtidpaijnnkainaaDoorExL
import Derived.Test.YtidpaijnnkainaaDoorGV
import Derived.Test.YtidpaijnnkainaaDoorOpen
import Derived.ProofKit
import Derived.OpenShut
import Derived.LaidMore
import Derived.Lib.LaidTab
import Derived.Stop.Joined
import Derived.SevenTiedAt
namespace Go.Proofs.YtidpaijnnkainaaDoor
open Go Go.RowKit Go.ChangeShapes Go.WideShapes Go.ChangeAt Pl
set_option linter.unusedVariables false


set_option maxRecDepth 100000 in
set_option maxHeartbeats 4000000 in
theorem walk_ExecTraces (w : World) (a0 : Option Addr) (c0 : Nat) (l0 : List Nat) (a1 : Option Addr) (c1 : Nat) (l1 : List Nat) (x : Int) (w0 : WordsIn w a0 l0) (w1 : WordsIn w a1 l1) (wx : (Lit.int .i64 x).wf = true) (ht : T3 w) :
    Calls Tryd.prog 4 #[.slice a0 l0.length c0, .slice a1 l1.length c1, .int .i64 x] w fun e w' => e = .returned (.bool true) ∧ Below w.heap.size w w' := by
  have BGG := Lib.hid (fun W1 (hb : Below w.heap.size w W1) => begins_any W1 a0 c0 l0 (w0.later hb) a1 c1 l1 (w1.later hb))
  have HT := Lib.hid ht
  clear w0 w1 wx ht
  go_enter Tryd.func4, Tryd.ntmps4
  go_wp2_with fail
  refine (few07 x w).mono ?_
  rintro e w1 ⟨y, rfl, hy, hb⟩
  have BG := Lib.hid (BGG.out w1 hb)
  have HB := Lib.hid hb
  clear hb
  go_wp2_with fail
  refine BG.out.mono ?_
  rintro e w2 ⟨M, F, R, X, rfl, hD⟩
  have sc := hD.solo.base HB.out
  have SC0 := Lib.hid sc
  have lt0 := sc.lts
  obtain ⟨vl, dx⟩ := hD.doc
  have DX0 := Lib.hid dx
  have own0 := Lib.hid (fun j hj => (dx.own j hj))
  have x2 := hD.xlt
  have farm := hD.far.m; have farf := hD.far.f; have farr := hD.far.r
  have BG2 := Lib.hid (BGG.out w2 sc.bl)
  clear hD dx BG BGG sc
  go_wp2_with fail
  refine BG2.out.mono ?_
  rintro e w3 ⟨M2, F2, R2, X2, rfl, hD⟩
  have far := hD.far
  have fm := far.m; have ff := far.f; have fr := far.r
  have SC := Lib.hid (SC0.out.below hD.bl)
  have SD := Lib.hid (hD.solo.base SC0.out.bl)
  have DX := Lib.hid (DX0.out.out (.of_below (fun _ => False) hD.bl) id id (fun _ _ => id))
  have x3 := hD.xlt
  have z3 := hD.bl.size
  have pcb := SC0.out.mach.pcb
  clear hD far BG2 SC0 DX0
  generalize hs0 : begS l1 = s0 at *
  generalize begF l0 = Fb at *
  generalize w2.heap.size = Z at *
  have hlen := runE_len Fb y.toNat s0
  have hev := runE_ev Fb y.toNat s0 pcb
  have TC := Lib.hid (trace_any y (by omega) HT.out w3 SC.out)
  have TD := Lib.hid (fun W' S' => path_any (s := s0) (Fb := Fb) (M := M2) (F := F2) (R := R2) (C := X2 + 2) y (by omega) HT.out W' S')
  have TX := Lib.hid (fun W' D' hX => rtrace_any (X := X) (Fb := Fb) (s := s0) (cnt := 240) (v := vl) (W := W') D' hX y y.toNat rfl (by omega) (by omega))
  generalize runE Fb y.toNat s0 = E at *
  obtain ⟨ev, t, s2⟩ := E
  dsimp only at hlen hev TC TD TX
  clear pcb hs0
  go_wp2_with fail
  refine TC.out.mono ?_
  rintro e w4 ⟨a, c, rfl, hrow, hS, hO⟩
  have ra := Lib.hid (evRow_of hrow rfl)
  have ba := Lib.hid (fun g (hg : a = some ⟨g, 0, none⟩) => (row_own_lt hrow g (by rw [hg]; rfl)).1)
  have SC4 := Lib.hid hS
  have SD4 := Lib.hid (SD.out.out hO fun j hj => by have := SC.out.lo; omega)
  have DX4 := Lib.hid (DX.out.out hO (by omega) (by omega) (fun j hj g => by have := own0.out j hj; omega))
  have x4 : X + 3 ≤ w4.heap.size := Nat.le_trans (Nat.le_trans x2 z3) hO.size
  have z4 := hO.size
  clear SC SD DX TC hrow hS hO
  go_wp2_with fail
  refine (TX.out w4 DX4.out x4).mono ?_
  rintro e w5 ⟨b, d, vl2, rfl, hrow, hX, hO⟩
  have rb := Lib.hid (evRow_of hrow rfl)
  have bb := Lib.hid (fun g (hg : b = some ⟨g, 0, none⟩) => (row_own_lt hrow g (by rw [hg]; rfl)).1)
  have notin : ∀ j, Z ≤ j → ¬ (j = X + 1 ∨ j = X ∨ vl.ownBlock = some j) := fun j hj g => by
    rcases g with g | g | g
    · omega
    · omega
    · have := own0.out j g; omega
  have ra5 := Lib.hid (ra.out.out hO fun g hg => notin g (by have := ba.out g hg; omega))
  have SD5 := Lib.hid (SD4.out.out hO fun j hj => by
    have k := fun h => notin j h hj
    have := SD4.out.lo
    have := (SC4.out.lo)
    rcases hj with g | g | g
    · omega
    · omega
    · have := own0.out j g; omega)
  have z5 := hO.size
  clear SC4 SD4 DX4 TX ra hrow hX hO
  go_wp2_with fail
  refine (TD.out w5 SD5.out).mono ?_
  rintro e w6 ⟨rfl, hS, hO⟩
  have ra6 := Lib.hid (ra5.out.out hO fun g hg => by have := ba.out g hg; omega)
  have rb6 := Lib.hid (rb.out.out hO fun g hg => by have := bb.out g hg; omega)
  have SD6 := Lib.hid hS
  clear SD5 TD ra5 rb hS hO
  have SM := Lib.hid (sameE_any a b c d ev w6 ra6.out rb6.out (by omega))
  have PB := Lib.hid (fun W' (hb : Below w6.heap.size w6 W') => rpath_any b d ev W' (rb6.out.below hb) hev (by omega))
  clear ra6 rb6 hev ba bb
  generalize hashE ev = HH at *
  generalize ev.length = N at *
  go_wp2_with fail
  refine SM.out.mono ?_
  rintro e w7 ⟨rfl, hb7⟩
  have SD7 := Lib.hid (SD6.out.below hb7)
  have PB7 := Lib.hid (PB.out w7 hb7)
  clear SM PB SD6 hb7
  go_wp2_with fail
  refine PB7.out.mono ?_
  rintro e w8 ⟨rfl, hb8⟩
  have SD8 := Lib.hid (SD7.out.below hb8)
  clear SD7 PB7 hb8
  go_wp2_with fail
  refine (lives07 w8 (HT.out.later SD8.out.bl)).mono ?_
  rintro e w9 ⟨rfl, hb3⟩
  go_wp2_with fail
  go_ret
  exact ⟨rfl, SD8.out.bl.trans (hb3.mono SD8.out.bl.size)⟩

set_option maxRecDepth 100000 in
theorem lifted_ExecTraces (os : Os) (started : os.Started) (H : Type) (enc : TypeId × Value → H) :
    ReturnsInHanded {} Tryd.checked os 4 .any (fun w args => (Rows.execTracesSpec.pre enc Tryd.prog Tryd.f4 [] false w args ∧ laidMetH Tryd.prog laid3 w) ∧ sizedMet enc Tryd.prog Tryd.f4 (OpenSpec.ofChange Rows.execTracesSpec) false w args)
      (Rows.execTracesSpec.post enc Tryd.prog Tryd.f4 false true false false) := by
  refine returnsInHanded_of_change_and (C := Tryd.checked) (X := fun w _ => laidMetH Tryd.prog laid3 w) (fun _ _ _ hh h => h.of_heap hh) own started (by kernel_rfl) Tryd.func4
    (ChangeSpec.witness_shaped (enc := enc) (C := Tryd.checked) (os := os) (X := fun w _ => laidMetH Tryd.prog laid3 w) false (World.doorLaid Tryd.prog 400 os) #[.slice none 0 0, .slice none 0 0, .int .i64 0] 8 rfl (World.shaped_of_RefB (by kernel_rfl) (by kernel_rfl)) (by kernel_rfl) (by kernel_rfl) (by kernel_rfl) (door_met os _)) ?_
  intro W base args ds gs before hval0 hW _ _ hL _
  have hval : ∀ (j : Nat) t v, Tryd.f4.params[j]? = some t → args[j]? = some v → Value.okWide Tryd.prog W .any base t v := hval0
  have hW' := hW
  obtain ⟨p, q, hA0, hV, rfl, hfz, hnd⟩ := hW
  have hA : DataW.TrodAll enc Tryd.prog W 0 (fun _ => true) true Tryd.f4.params.toList args.toList ds p := hA0
  rw [Tryd.params4] at hA hval
  obtain ⟨v0, vs0, d0, ds0, p0, q0, hargs, rfl, rfl, h0, r0⟩ := trodAll_cons hA
  obtain ⟨v1, vs1, d1, ds1, p1, q1, rfl, rfl, rfl, h1, r1⟩ := trodAll_cons r0
  obtain ⟨v2, vs2, d2, ds2, p2, q2, rfl, rfl, rfl, h2, r2⟩ := trodAll_cons r1
  obtain ⟨rfl, rfl, rfl⟩ := trodAll_nil r2
  obtain rfl : args = #[v0, v1, v2] := by cases args; simp_all
  obtain ⟨rfl, rfl⟩ := trodVars_none hV
  have k0 := h0
  have lt0 : ∀ x ∈ p0, x.block < W.heap.size := by obtain ⟨m, hm⟩ := k0; exact DataW.trod_lt m _ _ _ hm
  obtain ⟨a0, c0, l0, rfl, w0⟩ := words_in Tryd.underlying22 Tryd.underlying37 (by kernel_rfl) (hval 0 22 v0 rfl rfl) h0
  have k1 := h1
  have lt1 : ∀ x ∈ p1, x.block < W.heap.size := by obtain ⟨m, hm⟩ := k1; exact DataW.trod_lt m _ _ _ hm
  obtain ⟨a1, c1, l1, rfl, w1⟩ := words_in Tryd.underlying22 Tryd.underlying37 (by kernel_rfl) (hval 1 22 v1 rfl rfl) h1
  obtain ⟨a2, rfl, rfl, rfl, w2⟩ := open_int Tryd.underlying3 (hval 2 3 v2 rfl rfl) h2
  clear hA0 hval0
  refine (walk_ExecTraces W a0 c0 l0 a1 c1 l1 a2 w0 w1 w2 (t3_of hL)).mono fun e W' ⟨he, bel⟩ => ?_
  subst he
  exact ⟨_, rfl, _, _, _, [], _, [], hW', trodAll_mk1 (shut_bool Tryd.underlying4 _), (trodAll_cons_mk (Below.trod laidOut (by kernel_rfl) (of_decide_eq_true (by kernel_rfl)) k0 bel lt0) (trodAll_cons_mk (Below.trod laidOut (by kernel_rfl) (of_decide_eq_true (by kernel_rfl)) k1 bel lt1) (trodAll_cons_mk (shut_int Tryd.underlying3 w2) trodAll_mk0))), rfl, bel.frame _, fun h => by cases h⟩

theorem row_ExecTraces : Rows.ExecTracesSaid :=
  OpenClaim.holds_of_wide 4 Tryd.f4 rfl rfl rfl rfl rfl rfl rfl ⟨rfl, rfl, rfl, rfl, rfl⟩ rfl rfl rfl rfl rfl (by kernel_rfl) Tryd.func4 (by kernel_rfl)
    (of_decide_eq_true (by kernel_rfl)) (by unfold Func.isWrapper; first | (rw [if_pos (by decide +kernel)]; kernel_rfl) | (rw [if_neg (by decide +kernel)]; exact ⟨rfl, rfl⟩))
    (fun os started H enc _ => lifted_ExecTraces os started H enc)
theorem holds_ExecTraces : Rows.ExecTracesCardSaid :=
  Claim7.holds_tied_plain_at .later [] [.data] true _ false
    row_ExecTraces (fun _ h => by cases h) (by kernel_rfl) (fun _ h => by cases h) execTraces_row_tie rfl ⟨rfl, rfl⟩ (by kernel_rfl) rfl
    (fun f fn hf hfn => by
      obtain rfl : f = 4 := Option.some.inj ((show Tryd.prog.funcNamed "pintle/pintlelaw07.ExecTraces" = some 4 by kernel_rfl).symm.trans hf) |>.symm
      obtain rfl : fn = Tryd.f4 := (Option.some.inj (Tryd.func4.symm.trans hfn)).symm
      exact ⟨by kernel_rfl, fun j t ht => by
        rw [Tryd.params4] at ht
        have hm : t ∈ [22, 22, 3] := by simpa using Array.mem_of_getElem? ht
        have hall : ([22, 22, 3].all fun u => !Tryd.prog.wantsStandIn u) = true := by kernel_rfl
        exact (show Tryd.prog.wantsStandIn t = false by simpa using List.all_eq_true.1 hall t hm)⟩)
    (by kernel_rfl)

end Go.Proofs.YtidpaijnnkainaaDoor
