/- Package exec: Run of no machine. -/
import Derived.Test.YtidpaijnnkainaaDoorExD
namespace Go.Proofs.YtidpaijnnkainaaDoor
open Go Go.RowKit Go.Shelf Pl
set_option linter.unusedVariables false

set_option maxHeartbeats 2000000 in
theorem step_nil (W : World) : Calls Tryd.prog 43 #[.pointer none] W fun e w' => e = .returned (.tuple #[.agg #[.int .u32 0, .int .u32 0, .int .i64 0, .int .u32 0, .int .i64 0], .int .i64 2]) ∧ Below W.heap.size W w' := by
  go_enter Tryd.func43, Tryd.ntmps43
  go_wp2_with fail
  have B1 : Below W.heap.size W (W.alloc (.cells #[.int .u32 0, .int .u32 0, .int .i64 0, .int .u32 0, .int .i64 0] 76)) := (Below.refl W.heap.size W).alloc (Nat.le_refl _) _
  refine bodyPost_ret (v := .tuple #[.agg #[.int .u32 0, .int .u32 0, .int .i64 0, .int .u32 0, .int .i64 0], .int .i64 2]) (by simp [results, Tryd.results43, go_sem]) rfl ⟨rfl, B1⟩

attribute [local go_sem] Oper.semAt_some

set_option maxRecDepth 100000 in
set_option maxHeartbeats 4000000 in
theorem steps_nil (l fb cb tb TB : Nat) (fuel : Int) (hTB : TB ≠ fb ∧ TB ≠ cb ∧ TB ≠ tb)
    (W : World) (hfb : W.cell? ⟨fb, 0, none⟩ = some (.int .i64 fuel)) (hcb : W.cell? ⟨cb, 0, none⟩ = some (.pointer none)) (htb : W.cell? ⟨tb, 0, none⟩ = some (.pointer (some ⟨TB, 0, none⟩)))
    (hT : CellIs TB (.int .i64 0) W) :
    CallsIn Fence.wide 10 Tryd.prog 42 #[.func (.yield l) #[] #[], .pointer (some ⟨fb, 0, none⟩), .pointer (some ⟨cb, 0, none⟩), .pointer (some ⟨tb, 0, none⟩)] W fun e W' => (∃ v, e = .returned v) ∧
      CellIs TB (.int .i64 (if 0 < fuel then 2 else 0)) W' ∧ Out (fun j => j = TB) W W' := by
  refine callsIn_of_wp Tryd.func42 rfl trivial ?_ rfl
  simp only [Tryd.ntmps42, List.size_toArray, List.length_cons, List.length_nil, Nat.reduceAdd, Nat.reduceSub, Array.replicate_succ, Array.replicate_zero, List.push_toArray, List.append_toArray, List.nil_append, List.cons_append]
  have T0 := Lib.hid hT
  clear hT
  gi_wp2
  gi_loopw [8] (fun i wr => i = .int .i64 0 ∧ wr = W) (fun i wr => 0)
  case atStart => exact ⟨rfl, rfl⟩
  case round =>
    obtain ⟨rfl, rfl⟩ := hrel
    have tlt := World.block_lt_of_cell? wr _ htb
    by_cases hlt : 0 < fuel
    · have hv : (if 0 < fuel then (2 : Int) else 0) = 2 := if_pos hlt
      have G := Lib.hid (step_nil wr)
      gi_wp2_with (refine ⟨trivial, ?_⟩; gi_at_call 43; refine (callsIn_wide.2 G.out).mono ?_; rintro _ W2 ⟨rfl, hb2⟩; have hTc2 := T0.out.out (.of_below (fun _ => False) hb2) id; have tb2 : W2.cell? ⟨tb, 0, none⟩ = some (.pointer (some ⟨TB, 0, none⟩)) := (hb2.cell (p := ⟨tb, 0, none⟩) tlt).trans htb; have tb3 : ∀ X, (W2.alloc X).cell? ⟨tb, 0, none⟩ = some (.pointer (some ⟨TB, 0, none⟩)) := fun X => (World.cell?_alloc_past X tb 0 (Nat.lt_of_lt_of_le tlt hb2.size)).trans tb2; have TBc := hTc2.c; have TBf := hTc2.f; have TBl := hTc2.lt)
      refine ⟨fun _ h => (by cases h), ?_⟩
      gi_wp2
      refine ⟨rfl, _, (results_none rfl _ _ _), ⟨_, rfl⟩, ?_⟩
      have o1 : Out (fun j => j = TB) W2 (W2.setCell ⟨TB, 0, none⟩ (.int .i64 2)) := out_cell TB 0 _ W2
      have o2 : Out (fun j => j = TB) (W2.setCell ⟨TB, 0, none⟩ (.int .i64 2)) ((W2.setCell ⟨TB, 0, none⟩ (.int .i64 2)).alloc (.cells #[.int .u32 0, .int .u32 0, .int .i64 0, .int .u32 0, .int .i64 0] 76)) := .of_below _ (by go_grown)
      exact ⟨(hTc2.set (.int .i64 2)).out (.of_below (fun _ => False) (by go_grown)) id, ((Out.of_below _ hb2).trans o1).trans o2⟩
    · have hv : (if 0 < fuel then (2 : Int) else 0) = 0 := if_neg hlt
      gi_wp2_with fail
      (first | go_ret | go_ret2 | go_end0)
      exact ⟨⟨_, rfl⟩, T0.out, .refl _ _⟩
set_option maxRecDepth 100000 in
set_option maxHeartbeats 4000000 in
theorem run_nil (fuel : Int) (W : World) :
    Calls Tryd.prog 10 #[.pointer none, .int .i64 fuel] W fun e W' => e = .returned (.tuple #[.int .i64 0, .int .i64 (if 0 < fuel then 2 else 0)]) ∧ Below W.heap.size W W' := by
  generalize hv : (if 0 < fuel then (2 : Int) else 0) = vv
  refine (callsIn_wide (n := 11)).1 ?_
  refine callsIn_of_wp_marks Tryd.func10 rfl trivial ?_ rfl
  simp only [Tryd.ntmps10, List.size_toArray, List.length_cons, List.length_nil, Nat.reduceAdd, Nat.reduceSub, Array.replicate_succ, Array.replicate_zero, List.push_toArray, List.append_toArray, List.nil_append, List.cons_append]
  have mix := mixed_ok
  gi_wp2_with (refine ⟨trivial, ?_⟩; gi_at_call 29; refine (callsIn_wide.2 (steps_make _ fuel _ rfl _ ⟨_, rfl⟩)).mono ?_; rintro _ WB ⟨rfl, b1, b2, b3, b4, b5⟩; simp at b1 b2 b3 b4 b5)
  have bW : Below W.heap.size W WB := (show Below W.heap.size W ((W.alloc (.cells #[.int .i64 0] 3)).alloc (.cells #[.int .i64 0] 3)) by go_grown).trans (b4.mono (by omega))
  have NB : CellIs W.heap.size (.int .i64 0) WB := cellIs_of ((b4.block W.heap.size (by omega)).trans (two_alloc W _ _).1)
  have TBc : CellIs (W.heap.size + 1) (.int .i64 0) WB := cellIs_of ((b4.block (W.heap.size + 1) (by omega)).trans (two_alloc W _ _).2.1)
  have cC := (cellIs_of b1).c
  have cF := (cellIs_of b2).c
  have cT := (cellIs_of b3).c
  refine wpIn_rangeFunc_free rfl (by simp) (hg := rfl) trivial (enters_of Tryd.func42 (by kernel_rfl) rfl) ?_
  intro r hrf hr1 hr2 hr3 hr4 hr5 hr6
  have bC : Below WB.heap.size WB ((WB.alloc (.deferred (some []))).alloc (.loop r)) := by go_grown
  have e6 : WB.heap.size + 1 = W.heap.size + 6 := by omega
  have l6 : ((WB.alloc (.deferred (some []))).alloc (.loop r)).heap[W.heap.size + 6]? = some (.loop r) := by rw [← e6]; exact (two_alloc WB _ _).2.1
  have d5 : ((WB.alloc (.deferred (some []))).alloc (.loop r)).heap[W.heap.size + 6 - 1]? = some (.deferred (some [])) := by rw [show W.heap.size + 6 - 1 = WB.heap.size by omega]; exact (two_alloc WB _ _).1
  rw [e6]
  generalize hWC : (WB.alloc (.deferred (some []))).alloc (.loop r) = WC at bC l6 d5 ⊢
  have K0 : RunV (W.heap.size + 6) W.heap.size r (.int .i64 0) WC := ⟨l6, d5, NB.out (.of_below (fun _ => False) bC) id⟩
  refine (steps_nil (W.heap.size + 6) (W.heap.size + 1 + 1 + 1) (W.heap.size + 1 + 1) (W.heap.size + 1 + 1 + 2) (W.heap.size + 1) fuel (by omega)
    WC ((bC.cell (p := ⟨W.heap.size + 1 + 1 + 1, 0, none⟩) (by simp; omega)).trans cF) ((bC.cell (p := ⟨W.heap.size + 1 + 1, 0, none⟩) (by simp; omega)).trans cC) ((bC.cell (p := ⟨W.heap.size + 1 + 1 + 2, 0, none⟩) (by simp; omega)).trans cT) (TBc.out (.of_below (fun _ => False) bC) id)).mono ?_
  · rintro _ W2 ⟨⟨v, rfl⟩, T2, O2⟩
    rw [hv] at T2
    have k2 := K0.out O2 (by omega) (by omega) (by omega)
    refine ⟨⟨_, rfl⟩, k2.lo, ?_⟩
    have kc := k2.ce
    have O3 := out_putObj W2 (W.heap.size + 6) (.loop { r with state := .exhausted })
    generalize W2.putObj (W.heap.size + 6) (.loop { r with state := .exhausted }) = W3 at O3 ⊢
    have NC := (kc.out O3 (by omega)).c
    have TC := (T2.out O3 (by omega)).c
    have DF := heap_at_out O3 k2.df (by omega)
    have OF : Out (fun j => W.heap.size ≤ j) W W3 := ((Out.of_below (fun j => W.heap.size ≤ j) (bW.trans (bC.mono (by omega)))).trans (O2.mono fun j h => by omega)).trans (O3.mono fun j h => by omega)
    have OH := Lib.hid OF
    clear OF O2 O3 hr4 hr5 hr6 K0 bC l6 d5 b1 b2 b3 b4 NB TBc cC cF cT k2 kc
    gi_wp2_with gi_region
    have DF' : W3.drew.heap[WB.heap.size]? = some (.deferred (some [])) := by rw [show WB.heap.size = W.heap.size + 6 - 1 by omega]; exact DF
    refine ⟨by simp, .inl ⟨_, _, rfl, run_takeDeferred DF', ?_⟩⟩
    have O5 := (Out.drew (· = WB.heap.size) W3).trans (out_putObj W3.drew WB.heap.size (.deferred none))
    refine ⟨_, results_tmp2 rfl _ _ _, rfl, (OH.out.trans (O5.mono (T := fun j => W.heap.size ≤ j) fun j h => by omega)).below (.refl _ _) (Nat.le_refl _) fun j h => h⟩
end Go.Proofs.YtidpaijnnkainaaDoor
