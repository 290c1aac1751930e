/- The statements of layer 3 (instructions as words), over the table of three bits. -/
import Derived.Test.YtjlihimjknnaiaaDoorRows
import Derived.Test.YtjlihimjknnaiaaDoorCards
import Derived.Test.YtjlihimjknnaiaaDoorTie
import Derived.Test.YtjlihimjknnaiaaDoorInstS
import Derived.Test.YtjlihimjknnaiaaDoorOpen
import Derived.ProofKit
import Derived.OpenShut
import Derived.LaidMore
import Derived.Lib.LaidTab
import Derived.Stop.Joined
import Derived.SevenTiedAt
namespace Go.Proofs.YtjlihimjknnaiaaDoor
open Go Go.RowKit Go.ChangeShapes Go.WideShapes Go.ChangeAt Pl
set_option linter.unusedVariables false

theorem own : ownKnob Tryd.prog.godebug = none := by kernel_rfl
theorem laidOut : laidOutB Tryd.prog = true := by kernel_rfl
theorem gTab : Tryd.prog.globalNamed "pintle/inst.funct3" = some 0 := by kernel_rfl
theorem tTab : (Tryd.prog.globals[0]?).map (·.type) = some 45 := by kernel_rfl
def laid3 : List (String × DataW Unit) := [("pintle/inst.funct3", Rows.laid_pintle_inst_funct3)]
theorem door_met (os : Os) (args : Array Value) : laidMetH Tryd.prog laid3 ((World.doorLaid Tryd.prog 400 os).forCall (fun _ _ => 0) ⟨#[], args, []⟩).memory :=
  laidMetH_of_parts3 (fuel := 8) (laidMet_of_run' 8 (by kernel_rfl) (by kernel_rfl)) (by kernel_rfl) (by kernel_rfl)
theorem t3_of {W : World} (h : laidMetH Tryd.prog laid3 W) : T3 W := by
  rw [MakeChecks.laidMetH_plain _ _ _ (by kernel_rfl)] at h
  have hT : Lib.TabIs Tryd.prog W "pintle/inst.funct3" .u32 threeL := Lib.tabIs_of_head (rest := []) gTab tTab Tryd.underlying45 Tryd.underlying24 (by kernel_rfl) (by kernel_rfl) h
  have hc : ∀ i, i < 49 → W.cell? ⟨0, i, none⟩ = some (.int .u32 (threeL.getD i 0)) := fun i hi => hT.cell gTab i hi
  refine ⟨hc, ?_⟩
  rcases Nat.eq_zero_or_pos W.heap.size with h0 | h0
  · exfalso
    have := hc 0 (by omega)
    have e : W.heap[0]? = none := Array.getElem?_eq_none (by omega)
    simp [World.cell?, e] at this
  · exact h0

/-- an instruction in a block of its own -/
def BoxI (B : Nat) (o d a b i : Int) (w : World) : Prop := w.cell? ⟨B, 0, none⟩ = some (.int .i64 o) ∧ w.cell? ⟨B, 1, none⟩ = some (.int .i64 d) ∧ w.cell? ⟨B, 2, none⟩ = some (.int .i64 a) ∧ w.cell? ⟨B, 3, none⟩ = some (.int .i64 b) ∧ w.cell? ⟨B, 4, none⟩ = some (.int .i32 i) ∧ B < w.heap.size
theorem BoxI.later {B : Nat} {o d a b i : Int} {w w' : World} (h : BoxI B o d a b i w) (hb : Below w.heap.size w w') : BoxI B o d a b i w' :=
  ⟨(hb.cell h.2.2.2.2.2).trans h.1, (hb.cell h.2.2.2.2.2).trans h.2.1, (hb.cell h.2.2.2.2.2).trans h.2.2.1, (hb.cell h.2.2.2.2.2).trans h.2.2.2.1, (hb.cell h.2.2.2.2.2).trans h.2.2.2.2.1, Nat.lt_of_lt_of_le h.2.2.2.2.2 hb.size⟩
theorem boxI_new (w : World) (o d a b i : Int) (t : TypeId) : BoxI w.heap.size o d a b i (w.alloc (.cells #[.int .i64 o, .int .i64 d, .int .i64 a, .int .i64 b, .int .i32 i] t)) := by
  refine ⟨?_, ?_, ?_, ?_, ?_, by simp⟩ <;> (rw [World.cell?_alloc_new]; rfl)

theorem enc_at (o d a b i E : Int) (C : Bool) (w : World) (i0 : -2147483648 ≤ i) (i1 : i ≤ 2147483647) (ht : T3 w) (h1 : encI ⟨o, d, a, b, i⟩ = E) (h2 : canI ⟨o, d, a, b, i⟩ = C) :
    Calls Tryd.prog 9 #[.agg #[.int .i64 o, .int .i64 d, .int .i64 a, .int .i64 b, .int .i32 i]] w fun e w' => e = .returned (.tuple #[.int .u32 E, .bool C]) ∧ Below w.heap.size w w' := by
  subst h1 h2; exact enc_any o d a b i w i0 i1 ht
theorem renc_at (o d a b i E : Int) (C : Bool) (w : World) (i0 : -2147483648 ≤ i) (i1 : i ≤ 2147483647) (h1 : encI ⟨o, d, a, b, i⟩ = E) (h2 : canI ⟨o, d, a, b, i⟩ = C) :
    Calls Tryd.prog 10 #[.agg #[.int .i64 o, .int .i64 d, .int .i64 a, .int .i64 b, .int .i32 i]] w fun e w' => e = .returned (.tuple #[.int .u32 E, .bool C]) ∧ Below w.heap.size w w' := by
  subst h1 h2; exact renc_any o d a b i w i0 i1
theorem can_at (o d a b i : Int) (C : Bool) (w : World) (i0 : -2147483648 ≤ i) (i1 : i ≤ 2147483647) (h2 : canI ⟨o, d, a, b, i⟩ = C) :
    Calls Tryd.prog 11 #[.agg #[.int .i64 o, .int .i64 d, .int .i64 a, .int .i64 b, .int .i32 i]] w fun e w' => e = .returned (.bool C) ∧ Below w.heap.size w w' := by
  subst h2; exact ican_any o d a b i w i0 i1
theorem dec_at (w o d a b i : Int) (K : Bool) (W : World) (ht : T3 W) (h0 : 0 ≤ w) (h1 : w < 4294967296) (e1 : decI w = ⟨o, d, a, b, i⟩) (e2 : okI w = K) :
    Calls Tryd.prog 13 #[.int .u32 w] W fun e W' => e = .returned (.tuple #[.agg #[.int .i64 o, .int .i64 d, .int .i64 a, .int .i64 b, .int .i32 i], .bool K]) ∧ Below W.heap.size W W' := by
  have := dec_any w W ht h0 h1
  unfold DecP at this
  rw [e1, e2] at this
  exact this
theorem dec_word {x : Q5} (C : CanI x) : decI (wordI x) = x ∧ okI (wordI x) = true := by
  have h := word_op C
  have ho := C.ho
  unfold decI okI
  rw [h, if_neg (by omega)]
  exact ⟨(rec_word C).2, by simp; omega⟩

set_option maxHeartbeats 1000000 in
theorem law3_lives (w : World) (ht : T3 w) : Calls Tryd.prog 12 #[] w fun e w' => e = .returned (.bool true) ∧ Below w.heap.size w w' := by
  have HT := Lib.hid ht
  clear ht
  go_enter Tryd.func12, Tryd.ntmps12
  go_wp2_with fail
  have hw := Lib.hid (show Below w.heap.size w (w.alloc (.cells #[.int .i64 19, .int .i64 1, .int .i64 2, .int .i64 0, .int .i32 (-3)] 23)) by go_grown)
  refine (enc_at 19 1 2 0 (-3) 4291887251 true _ (by omega) (by omega) (HT.out.later hw.out) (by decide) (by decide)).mono ?_
  rintro e w1 ⟨rfl, b1⟩
  obtain ⟨p0, p1, p2, p3, p4, p5⟩ := (boxI_new w 19 1 2 0 (-3) 23).later b1
  have B1 := Lib.hid (below_trans hw.out b1)
  have HP := Lib.hid (show BoxI w.heap.size 19 1 2 0 (-3) w1 from ⟨p0, p1, p2, p3, p4, p5⟩)
  clear b1 p0 p1 p2 p3 p4 p5
  go_wp2_with fail
  refine (dec_at 4291887251 19 1 2 0 (-3) true _ (HT.out.later B1.out) (by omega) (by omega) (by decide) (by decide)).mono ?_
  rintro e w2 ⟨rfl, b2⟩
  obtain ⟨p0, p1, p2, p3, p4, p5⟩ := HP.out.later b2
  have B2 := Lib.hid (below_trans B1.out b2)
  clear b2
  go_wp2_with fail
  go_ret
  exact ⟨rfl, below_trans B2.out (by go_grown)⟩

set_option maxHeartbeats 1000000 in
theorem walk_InstEncodes (o d a b i : Int) (w0 : (Lit.int .i64 o).wf = true) (w1 : (Lit.int .i64 d).wf = true) (w2 : (Lit.int .i64 a).wf = true) (w3 : (Lit.int .i64 b).wf = true) (w4 : (Lit.int .i32 i).wf = true) (w : World) (ht : T3 w) :
    Calls Tryd.prog 3 #[.agg #[.int .i64 o, .int .i64 d, .int .i64 a, .int .i64 b, .int .i32 i]] w fun e w' => e = .returned (.bool true) ∧ Below w.heap.size w w' := by
  obtain ⟨i0, i1⟩ := bd_i32 w4
  clear w0 w1 w2 w3 w4
  obtain ⟨E, hE⟩ : ∃ E, encI ⟨o, d, a, b, i⟩ = E := ⟨_, rfl⟩
  obtain ⟨C, hC⟩ : ∃ C, canI ⟨o, d, a, b, i⟩ = C := ⟨_, rfl⟩
  have EN := Lib.hid (enc_at o d a b i E C · i0 i1 · hE hC)
  have RN := Lib.hid (renc_at o d a b i E C · i0 i1 hE hC)
  have CN := Lib.hid (can_at o d a b i C · i0 i1 hC)
  have HT := Lib.hid ht
  clear hE hC ht
  go_enter Tryd.func3, Tryd.ntmps3
  go_wp2_with fail
  have hw := Lib.hid (show Below w.heap.size w (w.alloc (.cells #[.int .i64 o, .int .i64 d, .int .i64 a, .int .i64 b, .int .i32 i] 23)) by go_grown)
  refine (EN.out _ (HT.out.later hw.out)).mono ?_
  rintro e w1 ⟨rfl, b1⟩
  obtain ⟨p0, p1, p2, p3, p4, p5⟩ := (boxI_new w o d a b i 23).later b1
  have B1 := Lib.hid (below_trans hw.out b1)
  have HP := Lib.hid (show BoxI w.heap.size o d a b i w1 from ⟨p0, p1, p2, p3, p4, p5⟩)
  clear b1
  go_wp2_with fail
  refine (RN.out _).mono ?_
  rintro e w2 ⟨rfl, b2⟩
  clear p0 p1 p2 p3 p4 p5
  obtain ⟨p0, p1, p2, p3, p4, p5⟩ := HP.out.later b2
  have B2 := Lib.hid (below_trans B1.out b2)
  clear b2
  go_wp2_with fail
  refine (CN.out _).mono ?_
  rintro e w3 ⟨rfl, b3⟩
  have B3 := Lib.hid (below_trans B2.out b3)
  clear b3 p0 p1 p2 p3 p4 p5
  go_wp2_with fail
  refine (law3_lives _ (HT.out.later B3.out)).mono ?_
  rintro e w4 ⟨rfl, b4⟩
  have B4 := Lib.hid (below_trans B3.out b4)
  clear b4
  go_wp2_with fail
  go_ret
  exact ⟨rfl, B4.out⟩

set_option maxHeartbeats 1000000 in
theorem walk_InstBack (o d a b i : Int) (w0 : (Lit.int .i64 o).wf = true) (w1 : (Lit.int .i64 d).wf = true) (w2 : (Lit.int .i64 a).wf = true) (w3 : (Lit.int .i64 b).wf = true) (w4 : (Lit.int .i32 i).wf = true) (w : World) (ht : T3 w) :
    Calls Tryd.prog 5 #[.agg #[.int .i64 o, .int .i64 d, .int .i64 a, .int .i64 b, .int .i32 i]] w fun e w' => e = .returned (.bool true) ∧ Below w.heap.size w w' := by
  obtain ⟨i0, i1⟩ := bd_i32 w4
  clear w0 w1 w2 w3 w4
  have HT := Lib.hid ht
  clear ht
  have hw := Lib.hid (show Below w.heap.size w (w.alloc (.cells #[.int .i64 o, .int .i64 d, .int .i64 a, .int .i64 b, .int .i32 i] 23)) by go_grown)
  cases hC : canI ⟨o, d, a, b, i⟩
  · have EN := Lib.hid (enc_at o d a b i 0 false · i0 i1 · (by unfold encI; rw [hC]; rfl) hC)
    clear hC
    go_enter Tryd.func5, Tryd.ntmps5
    go_wp2_with fail
    refine (EN.out _ (HT.out.later hw.out)).mono ?_
    rintro e w1 ⟨rfl, b1⟩
    have B1 := Lib.hid (below_trans hw.out b1)
    clear b1
    go_wp2_with fail
    refine (law3_lives _ (HT.out.later B1.out)).mono ?_
    rintro e w4 ⟨rfl, b4⟩
    have B4 := Lib.hid (below_trans B1.out b4)
    clear b4
    go_wp2_with fail
    go_ret
    exact ⟨rfl, B4.out⟩
  · have CO := canI_out hC
    obtain ⟨E, hE⟩ : ∃ E, wordI ⟨o, d, a, b, i⟩ = E := ⟨_, rfl⟩
    have bd := (rec_word CO).1
    have dw := dec_word CO
    rw [hE] at bd dw
    have EN := Lib.hid (enc_at o d a b i E true · i0 i1 · (by unfold encI; rw [hC, ← hE]; rfl) hC)
    have DN := Lib.hid (dec_at E o d a b i true · · bd.1 bd.2 dw.1 dw.2)
    clear hC CO hE dw
    go_enter Tryd.func5, Tryd.ntmps5
    go_wp2_with fail
    refine (EN.out _ (HT.out.later hw.out)).mono ?_
    rintro e w1 ⟨rfl, b1⟩
    have B1 := Lib.hid (below_trans hw.out b1)
    have HP := Lib.hid ((boxI_new w o d a b i 23).later b1)
    clear b1
    go_wp2_with fail
    refine (DN.out _ (HT.out.later B1.out)).mono ?_
    rintro e w2 ⟨rfl, b2⟩
    obtain ⟨p0, p1, p2, p3, p4, p5⟩ := HP.out.later b2
    have B2 := Lib.hid (below_trans B1.out b2)
    clear b2
    go_wp2_with fail
    refine (law3_lives _ (HT.out.later (below_trans B2.out (by go_grown)))).mono ?_
    rintro e w4 ⟨rfl, b4⟩
    have B4 := Lib.hid (below_trans (below_trans B2.out (by go_grown)) b4)
    clear b4
    go_wp2_with fail
    go_ret
    exact ⟨rfl, B4.out⟩

set_option maxRecDepth 100000 in
theorem lifted_InstEncodes (os : Os) (started : os.Started) (H : Type) (enc : TypeId × Value → H) :
    ReturnsInHanded {} Tryd.checked os 3 .any (fun w args => (Rows.instEncodesSpec.pre enc Tryd.prog Tryd.f3 [] false w args ∧ laidMetH Tryd.prog laid3 w) ∧ sizedMet enc Tryd.prog Tryd.f3 (OpenSpec.ofChange Rows.instEncodesSpec) false w args)
      (Rows.instEncodesSpec.post enc Tryd.prog Tryd.f3 false true false false) := by
  refine returnsInHanded_of_change_and (C := Tryd.checked) (X := fun w _ => laidMetH Tryd.prog laid3 w) (fun _ _ _ hh h => h.of_heap hh) own started (by kernel_rfl) Tryd.func3
    (ChangeSpec.witness_shaped (enc := enc) (C := Tryd.checked) (os := os) (X := fun w _ => laidMetH Tryd.prog laid3 w) false (World.doorLaid Tryd.prog 400 os) #[.agg #[.int .i64 0, .int .i64 0, .int .i64 0, .int .i64 0, .int .i32 0]] 8 rfl (World.shaped_of_RefB (by kernel_rfl) (by kernel_rfl)) (by kernel_rfl) (by kernel_rfl) (by kernel_rfl) (door_met os _)) ?_
  intro W base args ds gs before hval0 hW _ _ hL _
  have hval : ∀ (j : Nat) t v, Tryd.f3.params[j]? = some t → args[j]? = some v → Value.okWide Tryd.prog W .any base t v := hval0
  have hW' := hW
  obtain ⟨p, q, hA0, hV, rfl, hfz, hnd⟩ := hW
  have hA : DataW.TrodAll enc Tryd.prog W 0 (fun _ => true) true Tryd.f3.params.toList args.toList ds p := hA0
  rw [Tryd.params3] at hA hval
  obtain ⟨v0, vs0, d0, ds0, p0, q0, hargs, rfl, rfl, h0, r0⟩ := trodAll_cons hA
  obtain ⟨rfl, rfl, rfl⟩ := trodAll_nil r0
  obtain rfl : args = #[v0] := by cases args; simp_all
  obtain ⟨rfl, rfl⟩ := trodVars_none hV
  have k0 := h0
  have lt0 : ∀ x ∈ p0, x.block < W.heap.size := by obtain ⟨m, hm⟩ := k0; exact DataW.trod_lt m _ _ _ hm
  obtain ⟨zs0, zl0, rfl, zw0⟩ := flat_ints [.i64, .i64, .i64, .i64, .i32] (ts := [3, 3, 3, 3, 21]) (Or.inl ⟨_, Tryd.underlying23⟩) (by kernel_rfl) (by kernel_rfl) (by kernel_rfl) (hval 0 23 v0 rfl rfl)
  obtain ⟨a0_0, a0_1, a0_2, a0_3, a0_4, rfl⟩ := len5 zl0
  clear hA0 hval0
  refine (walk_InstEncodes a0_0 a0_1 a0_2 a0_3 a0_4 (zw0 0 .i64 _ rfl rfl) (zw0 1 .i64 _ rfl rfl) (zw0 2 .i64 _ rfl rfl) (zw0 3 .i64 _ rfl rfl) (zw0 4 .i32 _ rfl rfl) W (t3_of hL)).mono fun e W' ⟨he, bel⟩ => ?_
  subst he
  exact ⟨_, rfl, _, _, _, [], _, [], hW', trodAll_mk1 (shut_bool Tryd.underlying4 _), (trodAll_cons_mk (Below.trod laidOut (by kernel_rfl) (of_decide_eq_true (by kernel_rfl)) k0 bel lt0) trodAll_mk0), rfl, bel.frame _, fun h => by cases h⟩

theorem row_InstEncodes : Rows.InstEncodesSaid :=
  OpenClaim.holds_of_wide 3 Tryd.f3 rfl rfl rfl rfl rfl rfl rfl ⟨rfl, rfl, rfl, rfl, rfl⟩ rfl rfl rfl rfl rfl (by kernel_rfl) Tryd.func3 (by kernel_rfl)
    (of_decide_eq_true (by kernel_rfl)) (by unfold Func.isWrapper; first | (rw [if_pos (by decide +kernel)]; kernel_rfl) | (rw [if_neg (by decide +kernel)]; exact ⟨rfl, rfl⟩))
    (fun os started H enc _ => lifted_InstEncodes os started H enc)
theorem holds_InstEncodes : Rows.InstEncodesCardSaid :=
  Claim7.holds_tied_plain_at .later [] [.data] true _ false
    row_InstEncodes (fun _ h => by cases h) (by kernel_rfl) (fun _ h => by cases h) instEncodes_row_tie rfl ⟨rfl, rfl⟩ (by kernel_rfl) rfl
    (fun f fn hf hfn => by
      obtain rfl : f = 3 := Option.some.inj ((show Tryd.prog.funcNamed "pintle/pintlelaw03.InstEncodes" = some 3 by kernel_rfl).symm.trans hf) |>.symm
      obtain rfl : fn = Tryd.f3 := (Option.some.inj (Tryd.func3.symm.trans hfn)).symm
      exact ⟨by kernel_rfl, fun j t ht => by
        rw [Tryd.params3] at ht
        have hm : t ∈ [23] := by simpa using Array.mem_of_getElem? ht
        have hall : ([23].all fun u => !Tryd.prog.wantsStandIn u) = true := by kernel_rfl
        exact (show Tryd.prog.wantsStandIn t = false by simpa using List.all_eq_true.1 hall t hm)⟩)
    (by kernel_rfl)

set_option maxRecDepth 100000 in
theorem lifted_InstBack (os : Os) (started : os.Started) (H : Type) (enc : TypeId × Value → H) :
    ReturnsInHanded {} Tryd.checked os 5 .any (fun w args => (Rows.instBackSpec.pre enc Tryd.prog Tryd.f5 [] false w args ∧ laidMetH Tryd.prog laid3 w) ∧ sizedMet enc Tryd.prog Tryd.f5 (OpenSpec.ofChange Rows.instBackSpec) false w args)
      (Rows.instBackSpec.post enc Tryd.prog Tryd.f5 false true false false) := by
  refine returnsInHanded_of_change_and (C := Tryd.checked) (X := fun w _ => laidMetH Tryd.prog laid3 w) (fun _ _ _ hh h => h.of_heap hh) own started (by kernel_rfl) Tryd.func5
    (ChangeSpec.witness_shaped (enc := enc) (C := Tryd.checked) (os := os) (X := fun w _ => laidMetH Tryd.prog laid3 w) false (World.doorLaid Tryd.prog 400 os) #[.agg #[.int .i64 0, .int .i64 0, .int .i64 0, .int .i64 0, .int .i32 0]] 8 rfl (World.shaped_of_RefB (by kernel_rfl) (by kernel_rfl)) (by kernel_rfl) (by kernel_rfl) (by kernel_rfl) (door_met os _)) ?_
  intro W base args ds gs before hval0 hW _ _ hL _
  have hval : ∀ (j : Nat) t v, Tryd.f5.params[j]? = some t → args[j]? = some v → Value.okWide Tryd.prog W .any base t v := hval0
  have hW' := hW
  obtain ⟨p, q, hA0, hV, rfl, hfz, hnd⟩ := hW
  have hA : DataW.TrodAll enc Tryd.prog W 0 (fun _ => true) true Tryd.f5.params.toList args.toList ds p := hA0
  rw [Tryd.params5] at hA hval
  obtain ⟨v0, vs0, d0, ds0, p0, q0, hargs, rfl, rfl, h0, r0⟩ := trodAll_cons hA
  obtain ⟨rfl, rfl, rfl⟩ := trodAll_nil r0
  obtain rfl : args = #[v0] := by cases args; simp_all
  obtain ⟨rfl, rfl⟩ := trodVars_none hV
  have k0 := h0
  have lt0 : ∀ x ∈ p0, x.block < W.heap.size := by obtain ⟨m, hm⟩ := k0; exact DataW.trod_lt m _ _ _ hm
  obtain ⟨zs0, zl0, rfl, zw0⟩ := flat_ints [.i64, .i64, .i64, .i64, .i32] (ts := [3, 3, 3, 3, 21]) (Or.inl ⟨_, Tryd.underlying23⟩) (by kernel_rfl) (by kernel_rfl) (by kernel_rfl) (hval 0 23 v0 rfl rfl)
  obtain ⟨a0_0, a0_1, a0_2, a0_3, a0_4, rfl⟩ := len5 zl0
  clear hA0 hval0
  refine (walk_InstBack a0_0 a0_1 a0_2 a0_3 a0_4 (zw0 0 .i64 _ rfl rfl) (zw0 1 .i64 _ rfl rfl) (zw0 2 .i64 _ rfl rfl) (zw0 3 .i64 _ rfl rfl) (zw0 4 .i32 _ rfl rfl) W (t3_of hL)).mono fun e W' ⟨he, bel⟩ => ?_
  subst he
  exact ⟨_, rfl, _, _, _, [], _, [], hW', trodAll_mk1 (shut_bool Tryd.underlying4 _), (trodAll_cons_mk (Below.trod laidOut (by kernel_rfl) (of_decide_eq_true (by kernel_rfl)) k0 bel lt0) trodAll_mk0), rfl, bel.frame _, fun h => by cases h⟩

theorem row_InstBack : Rows.InstBackSaid :=
  OpenClaim.holds_of_wide 5 Tryd.f5 rfl rfl rfl rfl rfl rfl rfl ⟨rfl, rfl, rfl, rfl, rfl⟩ rfl rfl rfl rfl rfl (by kernel_rfl) Tryd.func5 (by kernel_rfl)
    (of_decide_eq_true (by kernel_rfl)) (by unfold Func.isWrapper; first | (rw [if_pos (by decide +kernel)]; kernel_rfl) | (rw [if_neg (by decide +kernel)]; exact ⟨rfl, rfl⟩))
    (fun os started H enc _ => lifted_InstBack os started H enc)
theorem holds_InstBack : Rows.InstBackCardSaid :=
  Claim7.holds_tied_plain_at .later [] [.data] true _ false
    row_InstBack (fun _ h => by cases h) (by kernel_rfl) (fun _ h => by cases h) instBack_row_tie rfl ⟨rfl, rfl⟩ (by kernel_rfl) rfl
    (fun f fn hf hfn => by
      obtain rfl : f = 5 := Option.some.inj ((show Tryd.prog.funcNamed "pintle/pintlelaw03.InstBack" = some 5 by kernel_rfl).symm.trans hf) |>.symm
      obtain rfl : fn = Tryd.f5 := (Option.some.inj (Tryd.func5.symm.trans hfn)).symm
      exact ⟨by kernel_rfl, fun j t ht => by
        rw [Tryd.params5] at ht
        have hm : t ∈ [23] := by simpa using Array.mem_of_getElem? ht
        have hall : ([23].all fun u => !Tryd.prog.wantsStandIn u) = true := by kernel_rfl
        exact (show Tryd.prog.wantsStandIn t = false by simpa using List.all_eq_true.1 hall t hm)⟩)
    (by kernel_rfl)

end Go.Proofs.YtjlihimjknnaiaaDoor
