/- The statement of layer 7 on parts: it returns true for all words, registers and fuels, over the table of three bits. -/
import Derived.Test.YtidpaijnnkainaaDoorRows
import Derived.Test.YtidpaijnnkainaaDoorCards
import Derived.Test.YtidpaijnnkainaaDoorTie
import Derived.Test.YtidpaijnnkainaaDoorExF
import Derived.Test.YtidpaijnnkainaaDoorGV
import Derived.Test.YtidpaijnnkainaaDoorOpen
import Derived.ProofKit
import Derived.OpenShut
import Derived.LaidMore
import Derived.Lib.LaidTab
import Derived.Stop.Joined
import Derived.SevenTiedAt
namespace Go.Proofs.YtidpaijnnkainaaDoor
open Go Go.RowKit Go.ChangeShapes Go.WideShapes Go.ChangeAt Pl
set_option linter.unusedVariables false


set_option maxRecDepth 100000 in
set_option maxHeartbeats 4000000 in
theorem walk_ExecParts (w : World) (a0 : Option Addr) (c0 : Nat) (l0 : List Nat) (a1 : Option Addr) (c1 : Nat) (l1 : List Nat) (x y : Int) (w0 : WordsIn w a0 l0) (w1 : WordsIn w a1 l1) (wx : (Lit.int .u8 x).wf = true) (wy : (Lit.int .u8 y).wf = true) (ht : T3 w) :
    Calls Tryd.prog 5 #[.slice a0 l0.length c0, .slice a1 l1.length c1, .agg #[.int .u8 x, .int .u8 y]] w fun e w' => e = .returned (.bool true) ∧ Below w.heap.size w w' := by
  have bx : 0 ≤ x ∧ x ≤ 255 := by simpa [Lit.wf, IntKind.min, IntKind.max, IntKind.signed, IntKind.bits] using wx
  have by' : 0 ≤ y ∧ y ≤ 255 := by simpa [Lit.wf, IntKind.min, IntKind.max, IntKind.signed, IntKind.bits] using wy
  obtain ⟨nx, rfl⟩ : ∃ n : Nat, x = n := ⟨x.toNat, by omega⟩
  obtain ⟨ny, rfl⟩ : ∃ n : Nat, y = n := ⟨y.toNat, by omega⟩
  have BA : Below w.heap.size w (w.alloc (.cells #[.int .u8 (nx : Nat), .int .u8 (ny : Nat)] 42)) := (Below.refl _ _).alloc (Nat.le_refl _) _
  have BG := Lib.hid (begins_any _ a0 c0 l0 (w0.later BA) a1 c1 l1 (w1.later BA))
  have BGG := Lib.hid (fun W1 (hb : Below (w.alloc (.cells #[.int .u8 (nx : Nat), .int .u8 (ny : Nat)] 42)).heap.size (w.alloc (.cells #[.int .u8 (nx : Nat), .int .u8 (ny : Nat)] 42)) W1) => begins_any W1 a0 c0 l0 ((w0.later BA).later hb) a1 c1 l1 ((w1.later BA).later hb))
  have HT := Lib.hid (ht.later BA)
  have HBA := Lib.hid BA
  have C0 := Lib.hid (show ((w.alloc (.cells #[.int .u8 (nx : Nat), .int .u8 (ny : Nat)] 42)).cell? ⟨w.heap.size, 0, none⟩ = some (.int .u8 (nx : Nat)) ∧ (w.alloc (.cells #[.int .u8 (nx : Nat), .int .u8 (ny : Nat)] 42)).cell? ⟨w.heap.size, 1, none⟩ = some (.int .u8 (ny : Nat))) ∧ w.heap.size < (w.alloc (.cells #[.int .u8 (nx : Nat), .int .u8 (ny : Nat)] 42)).heap.size from ⟨⟨by rw [cell_of_row _ _ 0 _ _ _ (heap_alloc_new w _)]; rfl, by rw [cell_of_row _ _ 1 _ _ _ (heap_alloc_new w _)]; rfl⟩, by simp⟩)
  have tx : ((nx : Int)).tmod 40 = ((nx % 40 : Nat) : Int) := by rw [Int.tmod_eq_emod_of_nonneg (by omega)]; omega
  have ty : ((ny : Int)).tmod 40 = ((ny % 40 : Nat) : Int) := by rw [Int.tmod_eq_emod_of_nonneg (by omega)]; omega
  have TX := Lib.hid tx
  have TY := Lib.hid ty
  clear w0 w1 wx wy ht BA tx ty
  go_enter Tryd.func5, Tryd.ntmps5
  go_wp2_with fail
  generalize hTB : w.heap.size = TB at *
  generalize World.alloc _ _ = WA at *
  refine BG.out.mono ?_
  rintro e w1 ⟨M, F, R, X, rfl, hD⟩
  have B2 := Lib.hid (BGG.out w1 hD.bl)
  have S1 := Lib.hid hD.solo
  clear hD BG BGG
  go_wp2_with fail
  refine B2.out.mono ?_
  rintro e w2 ⟨M2, F2, R2, X2, rfl, hD⟩
  have far := hD.far
  have lt1 := S1.out.lts
  have s1 := S1.out.below hD.bl
  have SC := Lib.hid s1
  have SD := Lib.hid (hD.solo.base S1.out.bl)
  obtain ⟨vl, dx⟩ := hD.doc
  have DX := Lib.hid dx
  have x2 := hD.xlt
  have fm := far.m; have ff := far.f; have fr := far.r
  have c1 := (s1.bl.cell (p := ⟨TB, 0, none⟩) C0.out.2).trans C0.out.1.1
  have c2 := (s1.bl.cell (p := ⟨TB, 1, none⟩) C0.out.2).trans C0.out.1.2
  have tbw : TB ≤ WA.heap.size := Nat.le_of_lt C0.out.2
  clear hD s1 dx far S1 B2 C0
  generalize begS l1 = s0 at *
  generalize begF l0 = Fb at *
  generalize w1.heap.size = Z at *
  have mix := mixed_ok
  go_wp2_with go_region
  obtain ⟨p, hp, p39⟩ : ∃ p : Nat, ((nx : Int) % 40) = (p : Int) ∧ p ≤ 39 := ⟨nx % 40, by omega, by omega⟩
  obtain ⟨q, hq, q39⟩ : ∃ q : Nat, ((ny : Int) % 40) = (q : Int) ∧ q ≤ 39 := ⟨ny % 40, by omega, by omega⟩
  rw [hp, hq]
  have bd : Below w2.heap.size w2 w2.drew := (Below.refl _ _).drew
  have SC3 := Lib.hid (SC.out.below bd)
  have SD3 := Lib.hid (SD.out.below bd)
  have DX3 := Lib.hid (DX.out.out (.of_below (fun _ => False) bd) id id (fun _ _ => id))
  have x3 : X2 + 3 ≤ w2.drew.heap.size := Nat.le_trans x2 bd.size
  clear hp hq c1 c2 bd SC SD DX x2 TX TY bx by'
  generalize w2.drew = w3 at *
  refine (run_nat p (by omega) HT.out _ SC3.out).mono ?_
  rintro e w4 ⟨rfl, hS, hO⟩
  have SC4 := Lib.hid hS
  have SD4 := Lib.hid (SD3.out.out hO fun j hj => by have := SC3.out.lo; omega)
  have DX4 := Lib.hid (DX3.out.out hO (by omega) (by omega) (fun j hj g => by have := DX3.out.own j hj; omega))
  have x4 : X2 + 3 ≤ w4.heap.size := Nat.le_trans x3 hO.size
  clear SC3 SD3 DX3 hS hO x3
  have la := runE_len Fb p s0
  by_cases hz : (runE Fb p s0).2.1 = 0
  · have lf := runE_full Fb p s0 hz
    have e3 := runE_add Fb p q s0 hz
    have lb := runE_len Fb q (runE Fb p s0).2.2
    have RN := Lib.hid (run_nat q (by omega) HT.out _ SC4.out)
    obtain ⟨E, hE⟩ : ∃ E, runE Fb q (runE Fb p s0).2.2 = E := ⟨_, rfl⟩
    rw [hE] at e3 lb RN
    have r1 : (runE Fb (p + q) s0).1.length = p + E.1.length := by rw [e3]; simp [lf]
    have r2 : (runE Fb (p + q) s0).2.1 = E.2.1 := by rw [e3]
    have r3 : (runE Fb (p + q) s0).2.2 = E.2.2 := by rw [e3]
    clear e3 hE
    obtain ⟨ev, t, s2⟩ := E
    dsimp only at r1 r2 r3 lb RN
    generalize ev.length = N at *
    have R1 := Lib.hid r1
    have R2' := Lib.hid r2
    have R3 := Lib.hid r3
    rw [lf, hz]
    clear la lf hz r1 r2 r3
    go_wp2_with fail
    refine RN.out.mono ?_
    rintro e w5 ⟨rfl, hS, hO⟩
    have SC5 := Lib.hid hS
    have SD5 := Lib.hid (SD4.out.out hO fun j hj => by have := SC4.out.lo; omega)
    have DX5 := Lib.hid (DX4.out.out hO (by omega) (by omega) (fun j hj g => by have := DX4.out.own j hj; omega))
    have x5 : X2 + 3 ≤ w5.heap.size := Nat.le_trans x4 hO.size
    clear SC4 SD4 DX4 hS hO x4 RN
    go_wp2_with fail
    refine (run_two p q (by omega) HT.out _ SD5.out p N t s2 R1.out R2'.out R3.out).mono ?_
    rintro e w6 ⟨rfl, hS, hO⟩
    have SC6 := Lib.hid (SC5.out.out hO fun j hj => by have := SD5.out.lo; omega)
    have SD6 := Lib.hid hS
    have DX6 := Lib.hid (DX5.out.out hO (by omega) (by omega) (fun j hj g => by have := DX5.out.own j hj; omega))
    have x6 : X2 + 3 ≤ w6.heap.size := Nat.le_trans x5 hO.size
    clear SC5 SD5 DX5 hS hO x5
    go_wp2_with fail
    refine (rtrace_two DX6.out x6 p q (by omega) (by omega) s2 R3.out).mono ?_
    rintro e w7 ⟨vs, vl2, rfl, hX, hO⟩
    have SC7 := Lib.hid (SC6.out.out hO fun j hj => by have := SD6.out.lo; have := SC6.out.lo; omega)
    have SD7 := Lib.hid (SD6.out.out hO fun j hj => by have := SD6.out.lo; omega)
    have DX7 := Lib.hid hX
    clear SC6 SD6 DX6 hX hO x6
    go_wp2_with fail
    refine (same_any SC7.out.mach DX7.out.rm).mono ?_
    rintro e w8 ⟨rfl, hl⟩
    have SM := Lib.hid (same_any (SD7.out.below hl.below).mach (DX7.out.out (.of_below (fun _ => False) hl.below) id id (fun _ _ => id)).rm)
    have SC8 := Lib.hid (SC7.out.below hl.below)
    clear SC7 SD7 DX7 hl
    go_wp2_with fail
    refine SM.out.mono ?_
    rintro e w9 ⟨rfl, hl⟩
    have SC9 := Lib.hid (SC8.out.below hl.below)
    clear SC8 SM hl
    go_wp2_with fail
    refine (lives07 w9 (HT.out.later SC9.out.bl)).mono ?_
    rintro e w10 ⟨rfl, hb3⟩
    go_wp2_with fail
    go_ret
    exact ⟨rfl, by rw [hTB]; exact HBA.out.trans ((SC9.out.bl.mono tbw).trans (hb3.mono (Nat.le_trans tbw SC9.out.bl.size)))⟩
  · clear SD4 DX4
    generalize (runE Fb p s0).1.length = A at *
    go_wp2_with fail
    refine (lives07 w4 (HT.out.later SC4.out.bl)).mono ?_
    rintro e w5 ⟨rfl, hb3⟩
    go_wp2_with fail
    go_ret
    exact ⟨rfl, by rw [hTB]; exact HBA.out.trans ((SC4.out.bl.mono tbw).trans (hb3.mono (Nat.le_trans tbw SC4.out.bl.size)))⟩

set_option maxRecDepth 100000 in
theorem lifted_ExecParts (os : Os) (started : os.Started) (H : Type) (enc : TypeId × Value → H) :
    ReturnsInHanded {} Tryd.checked os 5 .any (fun w args => (Rows.execPartsSpec.pre enc Tryd.prog Tryd.f5 [] false w args ∧ laidMetH Tryd.prog laid3 w) ∧ sizedMet enc Tryd.prog Tryd.f5 (OpenSpec.ofChange Rows.execPartsSpec) false w args)
      (Rows.execPartsSpec.post enc Tryd.prog Tryd.f5 false true false false) := by
  refine returnsInHanded_of_change_and (C := Tryd.checked) (X := fun w _ => laidMetH Tryd.prog laid3 w) (fun _ _ _ hh h => h.of_heap hh) own started (by kernel_rfl) Tryd.func5
    (ChangeSpec.witness_shaped (enc := enc) (C := Tryd.checked) (os := os) (X := fun w _ => laidMetH Tryd.prog laid3 w) false (World.doorLaid Tryd.prog 400 os) #[.slice none 0 0, .slice none 0 0, .agg #[.int .u8 0, .int .u8 0]] 8 rfl (World.shaped_of_RefB (by kernel_rfl) (by kernel_rfl)) (by kernel_rfl) (by kernel_rfl) (by kernel_rfl) (door_met os _)) ?_
  intro W base args ds gs before hval0 hW _ _ hL _
  have hval : ∀ (j : Nat) t v, Tryd.f5.params[j]? = some t → args[j]? = some v → Value.okWide Tryd.prog W .any base t v := hval0
  have hW' := hW
  obtain ⟨p, q, hA0, hV, rfl, hfz, hnd⟩ := hW
  have hA : DataW.TrodAll enc Tryd.prog W 0 (fun _ => true) true Tryd.f5.params.toList args.toList ds p := hA0
  rw [Tryd.params5] at hA hval
  obtain ⟨v0, vs0, d0, ds0, p0, q0, hargs, rfl, rfl, h0, r0⟩ := trodAll_cons hA
  obtain ⟨v1, vs1, d1, ds1, p1, q1, rfl, rfl, rfl, h1, r1⟩ := trodAll_cons r0
  obtain ⟨v2, vs2, d2, ds2, p2, q2, rfl, rfl, rfl, h2, r2⟩ := trodAll_cons r1
  obtain ⟨rfl, rfl, rfl⟩ := trodAll_nil r2
  obtain rfl : args = #[v0, v1, v2] := by cases args; simp_all
  obtain ⟨rfl, rfl⟩ := trodVars_none hV
  have k0 := h0
  have lt0 : ∀ x ∈ p0, x.block < W.heap.size := by obtain ⟨m, hm⟩ := k0; exact DataW.trod_lt m _ _ _ hm
  obtain ⟨a0, c0, l0, rfl, w0⟩ := words_in Tryd.underlying22 Tryd.underlying37 (by kernel_rfl) (hval 0 22 v0 rfl rfl) h0
  have k1 := h1
  have lt1 : ∀ x ∈ p1, x.block < W.heap.size := by obtain ⟨m, hm⟩ := k1; exact DataW.trod_lt m _ _ _ hm
  obtain ⟨a1, c1, l1, rfl, w1⟩ := words_in Tryd.underlying22 Tryd.underlying37 (by kernel_rfl) (hval 1 22 v1 rfl rfl) h1
  have k2 := h2
  have lt2 : ∀ x ∈ p2, x.block < W.heap.size := by obtain ⟨m, hm⟩ := k2; exact DataW.trod_lt m _ _ _ hm
  obtain ⟨zs2, zl2, rfl, zw2⟩ := flat_ints [.u8, .u8] (ts := [5, 5]) (Or.inr ⟨_, _, Tryd.underlying42⟩) (by kernel_rfl) (by kernel_rfl) (by kernel_rfl) (hval 2 42 v2 rfl rfl)
  obtain ⟨a2_0, a2_1, rfl⟩ := len2 zl2
  clear hA0 hval0
  refine (walk_ExecParts W a0 c0 l0 a1 c1 l1 a2_0 a2_1 w0 w1 (zw2 0 .u8 _ rfl rfl) (zw2 1 .u8 _ rfl rfl) (t3_of hL)).mono fun e W' ⟨he, bel⟩ => ?_
  subst he
  exact ⟨_, rfl, _, _, _, [], _, [], hW', trodAll_mk1 (shut_bool Tryd.underlying4 _), (trodAll_cons_mk (Below.trod laidOut (by kernel_rfl) (of_decide_eq_true (by kernel_rfl)) k0 bel lt0) (trodAll_cons_mk (Below.trod laidOut (by kernel_rfl) (of_decide_eq_true (by kernel_rfl)) k1 bel lt1) (trodAll_cons_mk (Below.trod laidOut (by kernel_rfl) (of_decide_eq_true (by kernel_rfl)) k2 bel lt2) trodAll_mk0))), rfl, bel.frame _, fun h => by cases h⟩

theorem row_ExecParts : Rows.ExecPartsSaid :=
  OpenClaim.holds_of_wide 5 Tryd.f5 rfl rfl rfl rfl rfl rfl rfl ⟨rfl, rfl, rfl, rfl, rfl⟩ rfl rfl rfl rfl rfl (by kernel_rfl) Tryd.func5 (by kernel_rfl)
    (of_decide_eq_true (by kernel_rfl)) (by unfold Func.isWrapper; first | (rw [if_pos (by decide +kernel)]; kernel_rfl) | (rw [if_neg (by decide +kernel)]; exact ⟨rfl, rfl⟩))
    (fun os started H enc _ => lifted_ExecParts os started H enc)
theorem holds_ExecParts : Rows.ExecPartsCardSaid :=
  Claim7.holds_tied_plain_at .later [] [.data] true _ false
    row_ExecParts (fun _ h => by cases h) (by kernel_rfl) (fun _ h => by cases h) execParts_row_tie rfl ⟨rfl, rfl⟩ (by kernel_rfl) rfl
    (fun f fn hf hfn => by
      obtain rfl : f = 5 := Option.some.inj ((show Tryd.prog.funcNamed "pintle/pintlelaw07.ExecParts" = some 5 by kernel_rfl).symm.trans hf) |>.symm
      obtain rfl : fn = Tryd.f5 := (Option.some.inj (Tryd.func5.symm.trans hfn)).symm
      exact ⟨by kernel_rfl, fun j t ht => by
        rw [Tryd.params5] at ht
        have hm : t ∈ [22, 22, 42] := by simpa using Array.mem_of_getElem? ht
        have hall : ([22, 22, 42].all fun u => !Tryd.prog.wantsStandIn u) = true := by kernel_rfl
        exact (show Tryd.prog.wantsStandIn t = false by simpa using List.all_eq_true.1 hall t hm)⟩)
    (by kernel_rfl)

end Go.Proofs.YtidpaijnnkainaaDoor
