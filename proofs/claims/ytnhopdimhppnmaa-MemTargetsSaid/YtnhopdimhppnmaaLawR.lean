/- The statement MemTargets of layer 5: it returns true for all inputs. -/
import Derived.Test.YtnhopdimhppnmaaRows
import Derived.Test.YtnhopdimhppnmaaMemB
import Derived.Test.YtnhopdimhppnmaaOpen
import Derived.Deep.RegionHeld3
namespace Go.Proofs.Ytnhopdimhppnmaa
open Go Go.RowKit Go.ChangeShapes Go.WideShapes Go.ChangeAt
set_option linter.unusedVariables false

theorem box_later {w w1 w2 : World} {f fs r rs : Int} {b : Nat} (hb : Below w1.heap.size w1 w2) (hz : b < w1.heap.size) (h : w1.cell? ⟨b, 0, none⟩ = some (.int .u32 f) ∧ w1.cell? ⟨b, 1, none⟩ = some (.int .u32 fs) ∧ w1.cell? ⟨b, 2, none⟩ = some (.int .u32 r) ∧ w1.cell? ⟨b, 3, none⟩ = some (.int .u32 rs)) :
    w2.cell? ⟨b, 0, none⟩ = some (.int .u32 f) ∧ w2.cell? ⟨b, 1, none⟩ = some (.int .u32 fs) ∧ w2.cell? ⟨b, 2, none⟩ = some (.int .u32 r) ∧ w2.cell? ⟨b, 3, none⟩ = some (.int .u32 rs) :=
  ⟨(hb.cell hz).trans h.1, (hb.cell hz).trans h.2.1, (hb.cell hz).trans h.2.2.1, (hb.cell hz).trans h.2.2.2⟩
set_option maxHeartbeats 400000 in
theorem target_any (M : Nat) (f fs r rs : Int) (w : World) (h0 : w.cell? ⟨M, 0, none⟩ = some (.int .u32 f)) (h1 : w.cell? ⟨M, 1, none⟩ = some (.int .u32 fs)) (h2 : w.cell? ⟨M, 2, none⟩ = some (.int .u32 r)) (h3 : w.cell? ⟨M, 3, none⟩ = some (.int .u32 rs)) (hM : M < w.heap.size) :
    Calls Try.prog 38 #[.pointer (some ⟨M, 0, none⟩)] w fun e w' => e = .returned (.agg #[.int .u32 f, .int .u32 fs, .int .u32 r, .int .u32 rs]) ∧ Below w.heap.size w w' := by
  go_enter Try.func38, Try.ntmps38
  go_wp2
  exact bodyPost_ret (v := .agg #[.int .u32 f, .int .u32 fs, .int .u32 r, .int .u32 rs]) (by simp [results, Try.results38, go_sem]) rfl ⟨rfl, by go_grown⟩
theorem start {w w1 : World} {cs : Array Value} {t : TypeId} (hb : Below (w.alloc (.cells cs t)).heap.size (w.alloc (.cells cs t)) w1) : Below w.heap.size w w1 :=
  Below.trans (show Below w.heap.size w (w.alloc (.cells cs t)) by go_grown) (hb.mono (by simp))

set_option maxHeartbeats 1000000 in
theorem targets_no (f fs r rs : Int) (w : World) (hf : 0 ≤ f ∧ f < 4294967296) (hfs : 0 ≤ fs ∧ fs < 4294967296) (hr : 0 ≤ r ∧ r < 4294967296) (hrs : 0 ≤ rs ∧ rs < 4294967296) (hc : canM f fs r rs = false) :
    Calls Try.prog 12 #[.agg #[.int .u32 f, .int .u32 fs, .int .u32 r, .int .u32 rs]] w fun e w' => e = .returned (.bool true) ∧ Below w.heap.size w w' := by
  have NW := Lib.hid (new_no f fs r rs · hf hfs hr hrs hc)
  have C := Lib.hid (mcan_any f fs r rs · hf hfs hr hrs)
  have C5 := Lib.hid (rcan05_any f fs r rs · hf hfs hr hrs)
  have HC := Lib.hid hc
  clear hc
  go_enter Try.func12, Try.ntmps12
  go_wp2_with fail
  refine (NW.out _).mono ?_
  rintro e w1 ⟨rfl, b1⟩
  obtain ⟨hbox, hz1, hz2⟩ := boxedM b1
  obtain ⟨c0, c1, c2, c3⟩ : w1.cell? ⟨w.heap.size, 0, none⟩ = some (.int .u32 f) ∧ w1.cell? ⟨w.heap.size, 1, none⟩ = some (.int .u32 fs) ∧ w1.cell? ⟨w.heap.size, 2, none⟩ = some (.int .u32 r) ∧ w1.cell? ⟨w.heap.size, 3, none⟩ = some (.int .u32 rs) := ⟨hbox 0 _ rfl, hbox 1 _ rfl, hbox 2 _ rfl, hbox 3 _ rfl⟩
  have B1 := Lib.hid (start b1)
  clear hbox b1
  go_wp2_with fail
  refine (C5.out _).mono ?_
  rw [HC.out]
  rintro e w2 ⟨rfl, b2⟩
  obtain ⟨d0, d1, d2, d3⟩ := box_later (w := w) b2 hz1 ⟨c0, c1, c2, c3⟩
  have B2 := Lib.hid (B1.out.trans (b2.mono B1.out.size))
  have hz3 := b2.size
  clear b2 c0 c1 c2 c3
  go_wp2_with fail
  refine (C.out _).mono ?_
  rw [HC.out]
  rintro e w3 ⟨rfl, b3⟩
  have B3 := Lib.hid (B2.out.trans (b3.mono B2.out.size))
  clear b3 d0 d1 d2 d3
  go_wp2_with fail
  refine (law5_lives _).mono ?_
  rintro e w4 ⟨rfl, b4⟩
  have B4 := Lib.hid (B3.out.trans (b4.mono B3.out.size))
  clear b4
  go_wp2_with fail
  go_ret
  exact ⟨rfl, B4.out⟩

set_option maxHeartbeats 2000000 in
theorem targets_yes (f : Int) (n1 : Nat) (r : Int) (n2 : Nat) (w : World) (hf : 0 ≤ f ∧ f < 4294967296) (hfs : n1 ≤ 1048576) (hr : 0 ≤ r ∧ r < 4294967296) (hrs : n2 ≤ 1048576) (hc : canM f (n1 : Nat) r (n2 : Nat) = true) :
    Calls Try.prog 12 #[.agg #[.int .u32 f, .int .u32 (n1 : Nat), .int .u32 r, .int .u32 (n2 : Nat)]] w fun e w' => e = .returned (.bool true) ∧ Below w.heap.size w w' := by
  have NW := Lib.hid (new_yes f n1 r n2 · hf hfs hr hrs hc)
  have C := Lib.hid (mcan_any f (n1 : Nat) r (n2 : Nat) · hf (by omega) hr (by omega))
  have C5 := Lib.hid (rcan05_any f (n1 : Nat) r (n2 : Nat) · hf (by omega) hr (by omega))
  have HC := Lib.hid hc
  clear hc
  go_enter Try.func12, Try.ntmps12
  go_wp2_with fail
  refine (NW.out _).mono ?_
  rintro e w1 ⟨M, F, R, rfl, hM, _, _, m1, _, _, _, _, _, l1, _, _, b1⟩
  obtain ⟨hbox, hz1, hz2⟩ := boxedM b1
  obtain ⟨c0, c1, c2, c3⟩ : w1.cell? ⟨w.heap.size, 0, none⟩ = some (.int .u32 f) ∧ w1.cell? ⟨w.heap.size, 1, none⟩ = some (.int .u32 (n1 : Nat)) ∧ w1.cell? ⟨w.heap.size, 2, none⟩ = some (.int .u32 r) ∧ w1.cell? ⟨w.heap.size, 3, none⟩ = some (.int .u32 (n2 : Nat)) := ⟨hbox 0 _ rfl, hbox 1 _ rfl, hbox 2 _ rfl, hbox 3 _ rfl⟩
  have cM : ∀ j v, (memV f n1 r n2 F R)[j]? = some v → w1.cell? ⟨M, j, none⟩ = some v := fun j v hv => by rw [cell_of_row w1 M j _ _ _ hM]; exact hv
  have hMw : w.heap.size < M := by simp at m1; omega
  have HB1 := Lib.hid (start b1)
  have CM := Lib.hid (show w1.cell? ⟨M, 0, none⟩ = some (.int .u32 f) ∧ w1.cell? ⟨M, 1, none⟩ = some (.int .u32 (n1 : Nat)) ∧ w1.cell? ⟨M, 2, none⟩ = some (.int .u32 r) ∧ w1.cell? ⟨M, 3, none⟩ = some (.int .u32 (n2 : Nat)) from ⟨cM 0 _ rfl, cM 1 _ rfl, cM 2 _ rfl, cM 3 _ rfl⟩)
  clear hbox b1 cM hM m1
  go_wp2_with fail
  refine (C5.out _).mono ?_
  rw [HC.out]
  rintro e w3 ⟨rfl, b2⟩
  have hS : w3.cell? ⟨w.heap.size, 0, none⟩ = some (.int .u32 f) ∧ w3.cell? ⟨w.heap.size, 1, none⟩ = some (.int .u32 (n1 : Nat)) ∧ w3.cell? ⟨w.heap.size, 2, none⟩ = some (.int .u32 r) ∧ w3.cell? ⟨w.heap.size, 3, none⟩ = some (.int .u32 (n2 : Nat)) ∧ w3.cell? ⟨M, 0, none⟩ = some (.int .u32 f) ∧ w3.cell? ⟨M, 1, none⟩ = some (.int .u32 (n1 : Nat)) ∧ w3.cell? ⟨M, 2, none⟩ = some (.int .u32 r) ∧ w3.cell? ⟨M, 3, none⟩ = some (.int .u32 (n2 : Nat)) ∧ M < w3.heap.size ∧ Below w.heap.size w w3 := by
    obtain ⟨d0, d1, d2, d3⟩ := box_later (w := w) b2 hz1 ⟨c0, c1, c2, c3⟩
    obtain ⟨e0, e1, e2, e3⟩ := box_later (w := w) b2 l1 CM.out
    exact ⟨d0, d1, d2, d3, e0, e1, e2, e3, Nat.lt_of_lt_of_le l1 b2.size, HB1.out.trans (b2.mono HB1.out.size)⟩
  have hz3 := b2.size
  clear b2 c0 c1 c2 c3
  have c0 := hS.1
  have c1 := hS.2.1
  have c2 := hS.2.2.1
  have c3 := hS.2.2.2.1
  have hzM := hS.2.2.2.2.2.2.2.2.1
  go_wp2_with fail
  go_region_held3 (fun w' => w'.cell? ⟨w.heap.size, 0, none⟩ = some (.int .u32 f) ∧ w'.cell? ⟨w.heap.size, 1, none⟩ = some (.int .u32 (n1 : Nat)) ∧ w'.cell? ⟨w.heap.size, 2, none⟩ = some (.int .u32 r) ∧ w'.cell? ⟨w.heap.size, 3, none⟩ = some (.int .u32 (n2 : Nat)) ∧ w'.cell? ⟨M, 0, none⟩ = some (.int .u32 f) ∧ w'.cell? ⟨M, 1, none⟩ = some (.int .u32 (n1 : Nat)) ∧ w'.cell? ⟨M, 2, none⟩ = some (.int .u32 r) ∧ w'.cell? ⟨M, 3, none⟩ = some (.int .u32 (n2 : Nat)) ∧ M < w'.heap.size ∧ Below w.heap.size w w')
    (first | (with_reducible assumption) | (obtain ⟨s0, s1, s2, s3, s4, s5, s6, s7, s8, s9⟩ := ‹_ ∧ _ ∧ _ ∧ _ ∧ _ ∧ _ ∧ _ ∧ _ ∧ _ ∧ Below w.heap.size w _›; exact ⟨(hbl.cell (by show w.heap.size < _; omega)).trans s0, (hbl.cell (by show w.heap.size < _; omega)).trans s1, (hbl.cell (by show w.heap.size < _; omega)).trans s2, (hbl.cell (by show w.heap.size < _; omega)).trans s3, (hbl.cell (by show M < _; omega)).trans s4, (hbl.cell (by show M < _; omega)).trans s5, (hbl.cell (by show M < _; omega)).trans s6, (hbl.cell (by show M < _; omega)).trans s7, Nat.lt_of_lt_of_le s8 hbl.size, s9.trans (hbl.mono s9.size)⟩) | (obtain ⟨s0, s1, s2, s3, s4, s5, s6, s7, s8, s9⟩ := ‹_ ∧ _ ∧ _ ∧ _ ∧ _ ∧ _ ∧ _ ∧ _ ∧ _ ∧ Below w.heap.size w _›; exact ⟨(World.cell?_alloc_past _ _ _ (by omega)).trans s0, (World.cell?_alloc_past _ _ _ (by omega)).trans s1, (World.cell?_alloc_past _ _ _ (by omega)).trans s2, (World.cell?_alloc_past _ _ _ (by omega)).trans s3, (World.cell?_alloc_past _ _ _ (by omega)).trans s4, (World.cell?_alloc_past _ _ _ (by omega)).trans s5, (World.cell?_alloc_past _ _ _ (by omega)).trans s6, (World.cell?_alloc_past _ _ _ (by omega)).trans s7, Nat.lt_of_lt_of_le s8 (by simp), s9.alloc s9.size _⟩) | (obtain ⟨s0, s1, s2, s3, s4, s5, s6, s7, s8, s9⟩ := ‹_ ∧ _ ∧ _ ∧ _ ∧ _ ∧ _ ∧ _ ∧ _ ∧ _ ∧ Below w.heap.size w _›; exact ⟨s0, s1, s2, s3, s4, s5, s6, s7, s8, s9.drew⟩) | (obtain ⟨s0, s1, s2, s3, s4, s5, s6, s7, s8, s9⟩ := ‹_ ∧ _ ∧ _ ∧ _ ∧ _ ∧ _ ∧ _ ∧ _ ∧ _ ∧ Below w.heap.size w _›; exact ⟨(World.cell?_alloc_past _ _ _ (by omega)).trans s0, (World.cell?_alloc_past _ _ _ (by omega)).trans s1, (World.cell?_alloc_past _ _ _ (by omega)).trans s2, (World.cell?_alloc_past _ _ _ (by omega)).trans s3, (World.cell?_alloc_past _ _ _ (by omega)).trans s4, (World.cell?_alloc_past _ _ _ (by omega)).trans s5, (World.cell?_alloc_past _ _ _ (by omega)).trans s6, (World.cell?_alloc_past _ _ _ (by omega)).trans s7, Nat.lt_of_lt_of_le s8 (by simp), (s9.alloc s9.size _).drew⟩) | (obtain ⟨s0, s1, s2, s3, s4, s5, s6, s7, s8, s9⟩ := ‹_ ∧ _ ∧ _ ∧ _ ∧ _ ∧ _ ∧ _ ∧ _ ∧ _ ∧ Below w.heap.size w _›; exact ⟨s0, s1, s2, s3, s4, s5, s6, s7, s8, s9⟩))
    (first
    | (go_at_call 36; refine (C.out _).mono ?_; rw [HC.out]; rintro e w9 ⟨rfl, hbl⟩)
    | (go_at_call 38; obtain ⟨_, _, _, _, q0, q1, q2, q3, q4, _⟩ := ‹_ ∧ _ ∧ _ ∧ _ ∧ _ ∧ _ ∧ _ ∧ _ ∧ _ ∧ Below w.heap.size w _›; refine (target_any M _ _ _ _ _ q0 q1 q2 q3 q4).mono ?_; clear q0 q1 q2 q3 q4; rintro e w9 ⟨rfl, hbl⟩)
    | (go_at_call 37; refine (law5_lives _).mono ?_; rintro e w9 ⟨rfl, hbl⟩))
  obtain ⟨_, _, _, _, _, _, _, _, _, hB⟩ := ‹_ ∧ _ ∧ _ ∧ _ ∧ _ ∧ _ ∧ _ ∧ _ ∧ _ ∧ Below w.heap.size w _›
  go_wp2
  go_ret
  exact ⟨rfl, hB⟩

theorem walk_MemTargets (f fs r rs : Int) (w0 : (Lit.int .u32 f).wf = true) (w1 : (Lit.int .u32 fs).wf = true) (w2 : (Lit.int .u32 r).wf = true) (w3 : (Lit.int .u32 rs).wf = true) (w : World) :
    Calls Try.prog 12 #[.agg #[.int .u32 f, .int .u32 fs, .int .u32 r, .int .u32 rs]] w fun e w' => e = .returned (.bool true) ∧ Below w.heap.size w w' := by
  have hf := bd_u32 w0
  have hfs := bd_u32 w1
  have hr := bd_u32 w2
  have hrs := bd_u32 w3
  cases hc : canM f fs r rs
  · exact targets_no f fs r rs w hf hfs hr hrs hc
  · have h1 : oneB f fs = true := by unfold canM at hc; simp only [Bool.and_eq_true] at hc; exact hc.1.1
    have h2 : oneB r rs = true := by unfold canM at hc; simp only [Bool.and_eq_true] at hc; exact hc.1.2
    have g1 := oneB_out h1
    have g2 := oneB_out h2
    obtain ⟨n1, rfl⟩ : ∃ n : Nat, fs = n := ⟨fs.toNat, by omega⟩
    obtain ⟨n2, rfl⟩ : ∃ n : Nat, rs = n := ⟨rs.toNat, by omega⟩
    exact targets_yes f n1 r n2 w hf (by omega) hr (by omega) hc

theorem own : ownKnob Try.prog.godebug = none := by kernel_rfl
theorem laidOut : laidOutB Try.prog = true := by kernel_rfl
set_option maxRecDepth 100000 in
theorem lifted_MemTargets (os : Os) (started : os.Started) (H : Type) (enc : TypeId × Value → H) :
    ReturnsInHanded {} Try.checked os 12 .any (Rows.memTargetsSpec.pre6 enc Try.prog Try.f12 Rows.memTargetsRow.domain false) (Rows.memTargetsSpec.post enc Try.prog Try.f12 false true false false) := by
  refine returnsInHanded_of_change (C := Try.checked) own started (by kernel_rfl) Try.func12
    (ChangeSpec.witness6 (enc := enc) (C := Try.checked) false ⟨#[], #[.agg #[.int .u32 0, .int .u32 0, .int .u32 0, .int .u32 0]], []⟩ 8 (by kernel_rfl) (by kernel_rfl) (by kernel_rfl) (by kernel_rfl)) ?_
  intro W base args ds gs before hval0 hW hcnd _
  have hval : ∀ (j : Nat) t v, Try.f12.params[j]? = some t → args[j]? = some v → Value.okWide Try.prog W .any base t v := hval0
  have hW' := hW
  obtain ⟨p, q, hA0, hV, rfl, hfz, hnd⟩ := hW
  have hA : DataW.TrodAll enc Try.prog W 0 (fun _ => true) true Try.f12.params.toList args.toList ds p := hA0
  rw [Try.params12] at hA hval
  obtain ⟨v0, vs0, d0, ds0, p0, q0, hargs, rfl, rfl, h0, r0⟩ := trodAll_cons hA
  obtain ⟨rfl, rfl, rfl⟩ := trodAll_nil r0
  obtain rfl : args = #[v0] := by cases args; simp_all
  obtain ⟨rfl, rfl⟩ := trodVars_none hV
  have k0 := h0
  have lt0 : ∀ x ∈ p0, x.block < W.heap.size := by obtain ⟨m, hm⟩ := k0; exact DataW.trod_lt m _ _ _ hm
  obtain ⟨zs0, zl0, rfl, zw0⟩ := flat_ints [.u32, .u32, .u32, .u32] (ts := [23, 23, 23, 23]) (Or.inl ⟨_, Try.underlying50⟩) (by kernel_rfl) (by kernel_rfl) (by kernel_rfl) (hval 0 50 v0 rfl rfl)
  obtain ⟨a0_0, a0_1, a0_2, a0_3, rfl⟩ := len4 zl0
  clear hA0 hval0
  refine (walk_MemTargets a0_0 a0_1 a0_2 a0_3 (zw0 0 .u32 _ rfl rfl) (zw0 1 .u32 _ rfl rfl) (zw0 2 .u32 _ rfl rfl) (zw0 3 .u32 _ rfl rfl) W).mono fun e W' ⟨he, bel⟩ => ?_
  subst he
  exact ⟨_, rfl, _, _, _, [], _, [], hW', trodAll_mk1 (shut_bool Try.underlying4 _), (trodAll_cons_mk (Below.trod laidOut (by kernel_rfl) (of_decide_eq_true (by kernel_rfl)) k0 bel lt0) trodAll_mk0), rfl, bel.frame _, fun h => by cases h⟩

theorem holds_MemTargets : Rows.MemTargetsSaid :=
  OpenClaim.holds_of_wide 12 Try.f12 rfl rfl rfl rfl rfl rfl rfl ⟨rfl, rfl, rfl, rfl, rfl⟩ rfl rfl rfl rfl rfl (by kernel_rfl) Try.func12 (by kernel_rfl)
    (of_decide_eq_true (by kernel_rfl)) (by unfold Func.isWrapper; first | (rw [if_pos (by decide +kernel)]; kernel_rfl) | (rw [if_neg (by decide +kernel)]; exact ⟨rfl, rfl⟩))
    (fun os started H enc _ => lifted_MemTargets os started H enc)

end Go.Proofs.Ytnhopdimhppnmaa
