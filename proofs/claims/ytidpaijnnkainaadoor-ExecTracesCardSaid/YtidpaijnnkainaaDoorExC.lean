/- Package exec: Run. -/
import Derived.Test.YtidpaijnnkainaaDoorExB
namespace Go.Proofs.YtidpaijnnkainaaDoor
open Go Go.RowKit Go.Shelf Pl
set_option linter.unusedVariables false

attribute [local go_sem] Oper.semAt_some

theorem Out.old {S T : Nat → Prop} {a b : World} (h : Out S a b) (k : ∀ j, j < a.heap.size → S j → T j) : Out T a b := ⟨h.os, h.tape, h.output, h.size, fun j hj hT => h.block j hj fun hS => hT (k j hj hS)⟩
theorem Out.drew (S : Nat → Prop) (W : World) : Out S W W.drew := .of_below S ((Below.refl _ _).drew)
/-- what the rounds keep: the loop's own object, its defers, the count -/
structure RunK (l nb : Nat) (r : Loop) (pre : List MEv) (W : World) : Prop where
  lo : W.heap[l]? = some (.loop r)
  df : W.heap[l - 1]? = some (.deferred (some []))
  ce : CellIs nb (.int .i64 (pre.length : Nat)) W
theorem heap_at_out {S : Nat → Prop} {W W' : World} (h : Out S W W') {k : Nat} {o : Obj} (hk : W.heap[k]? = some o) (hs : ¬ S k) : W'.heap[k]? = some o :=
  (h.block k (Array.getElem?_eq_some_iff.1 hk).1 hs).trans hk
theorem RunK.out {l nb : Nat} {r : Loop} {pre : List MEv} {S : Nat → Prop} {W W' : World} (h : RunK l nb r pre W) (ho : Out S W W') (h1 : ¬ S l) (h2 : ¬ S (l - 1)) (h3 : ¬ S nb) : RunK l nb r pre W' :=
  ⟨heap_at_out ho h.lo h1, heap_at_out ho h.df h2, h.ce.out ho h3⟩

set_option maxRecDepth 100000 in
set_option maxHeartbeats 4000000 in
theorem run_any {w : World} {M F R C : Nat} {Fb : List Nat} {s : MSt} (fuel : Int) (hfu : fuel ≤ 1000000000) (ht : T3 w) (W : World) (h1 : Solo w M F R C Fb s W) :
    Calls Tryd.prog 10 #[.pointer (some ⟨C, 0, none⟩), .int .i64 fuel] W fun e W' => e = .returned (.tuple #[.int .i64 ((runE Fb fuel.toNat s).1.length : Nat), .int .i64 (runE Fb fuel.toNat s).2.1]) ∧ Solo w M F R C Fb (runE Fb fuel.toNat s).2.2 W' ∧ Out (fun j => j = C ∨ j = R) W W' := by
  refine (callsIn_wide (n := 11)).1 ?_
  refine callsIn_of_wp_marks Tryd.func10 rfl trivial ?_ rfl
  simp only [Tryd.ntmps10, List.size_toArray, List.length_cons, List.length_nil, Nat.reduceAdd, Nat.reduceSub, Array.replicate_succ, Array.replicate_zero, List.push_toArray, List.append_toArray, List.nil_append, List.cons_append]
  have HT := Lib.hid ht
  have S0 := Lib.hid h1
  have lts := h1.lts
  have los := h1.lo
  have mix := mixed_ok
  clear ht h1
  gi_wp2_with (refine ⟨trivial, ?_⟩; gi_at_call 29; refine (callsIn_wide.2 (steps_make _ fuel _ rfl _ ⟨_, rfl⟩)).mono ?_; rintro _ WB ⟨rfl, b1, b2, b3, b4, b5⟩; simp at b1 b2 b3 b4 b5)
  have bW : Below W.heap.size W WB := (show Below W.heap.size W ((W.alloc (.cells #[.int .i64 0] 3)).alloc (.cells #[.int .i64 0] 3)) by go_grown).trans (b4.mono (by omega))
  have SB := S0.out.below bW
  have NB : CellIs W.heap.size (.int .i64 0) WB := cellIs_of ((b4.block W.heap.size (by omega)).trans (two_alloc W _ _).1)
  have TBc : CellIs (W.heap.size + 1) (.int .i64 0) WB := cellIs_of ((b4.block (W.heap.size + 1) (by omega)).trans (two_alloc W _ _).2.1)
  have cC := (cellIs_of b1).c
  have cF := (cellIs_of b2).c
  have cT := (cellIs_of b3).c
  refine wpIn_rangeFunc_free rfl (by simp) (hg := rfl) trivial (enters_of Tryd.func42 (by kernel_rfl) rfl) ?_
  intro r hrf hr1 hr2 hr3 hr4 hr5 hr6
  have bC : Below WB.heap.size WB ((WB.alloc (.deferred (some []))).alloc (.loop r)) := by go_grown
  have e6 : WB.heap.size + 1 = W.heap.size + 6 := by omega
  have l6 : ((WB.alloc (.deferred (some []))).alloc (.loop r)).heap[W.heap.size + 6]? = some (.loop r) := by rw [← e6]; exact (two_alloc WB _ _).2.1
  have d5 : ((WB.alloc (.deferred (some []))).alloc (.loop r)).heap[W.heap.size + 6 - 1]? = some (.deferred (some [])) := by rw [show W.heap.size + 6 - 1 = WB.heap.size by omega]; exact (two_alloc WB _ _).1
  rw [e6]
  generalize hWC : (WB.alloc (.deferred (some []))).alloc (.loop r) = WC at bC l6 d5 ⊢
  have K0 : RunK (W.heap.size + 6) W.heap.size r [] WC := ⟨l6, d5, NB.out (.of_below (fun _ => False) bC) id⟩
  refine (steps_run (W.heap.size + 6) (W.heap.size + 1 + 1 + 1) (W.heap.size + 1 + 1) (W.heap.size + 1 + 1 + 2) (W.heap.size + 1) fuel hfu HT.out (RunK (W.heap.size + 6) W.heap.size r) (fun j => j = W.heap.size + 6 ∨ j = W.heap.size)
    (fun pre W1 W2 hk ho => hk.out ho (by omega) (by omega) (by omega)) (fun j hj => by omega) (by omega) (by omega) ?_
    WC (SB.below bC) ((bC.cell (p := ⟨W.heap.size + 1 + 1 + 1, 0, none⟩) (by simp; omega)).trans cF) ((bC.cell (p := ⟨W.heap.size + 1 + 1, 0, none⟩) (by simp; omega)).trans cC) ((bC.cell (p := ⟨W.heap.size + 1 + 1 + 2, 0, none⟩) (by simp; omega)).trans cT) (TBc.out (.of_below (fun _ => False) bC) id) K0).mono ?_
  · intro pre e W1 hk hl
    refine yield_round hk.lo hr1 hr2 (by rw [hr3]; rfl) hrf ?_
    obtain ⟨rb, hrb⟩ : ∃ rb, ({ r with state := .busy } : Loop) = rb := ⟨_, rfl⟩
    simp only [hrb]
    rw [hr4, hr5, hr3, hr6]
    have NL := hk.ce.lt
    have OB := out_putObj W1 (W.heap.size + 6) (.loop rb)
    have LB : (W1.putObj (W.heap.size + 6) (.loop rb)).heap[W.heap.size + 6]? = some (.loop rb) := World.putObj_heap_same (Array.getElem?_eq_some_iff.1 hk.lo).1
    have kb := hk.ce.out OB (by omega)
    have NC := kb.c
    have NF := kb.f
    have HK := Lib.hid hk
    have OBH := Lib.hid OB
    have hlo := hk.lo
    clear hr4 hr5 hr6 hk K0 bC l6 d5 b1 b2 b3 b4 bW SB NB TBc cC cF cT hrb OB kb
    simp only [List.zip_toArray, List.foldl_toArray', List.zip_cons_cons, List.zip_nil_right, List.foldl_cons, List.foldl_nil, List.setIfInBounds_toArray, List.set_cons_succ, List.set_cons_zero]
    gi_wp2
    refine ⟨hlo, ?_⟩
    generalize W1.putObj (W.heap.size + 6) (.loop rb) = WX at LB NC NF OBH ⊢
    gi_wp2
    have O1 : Out (fun j => j = W.heap.size + 6 ∨ j = W.heap.size) W1 (WX.setCell ⟨W.heap.size, 0, none⟩ (.int .i64 ((pre.length : Int) + 1))) := (OBH.out.mono fun j h => .inl h).trans ((out_cell W.heap.size 0 _ WX).mono fun j h => .inr h)
    have O2 : Out (· = W.heap.size) WX (WX.setCell ⟨W.heap.size, 0, none⟩ (.int .i64 ((pre.length : Int) + 1))) := out_cell W.heap.size 0 _ WX
    have LS := heap_at_out O2 LB (by omega)
    have CS := (show CellIs W.heap.size (.int .i64 (pre.length : Nat)) WX from ⟨NC, NF, Nat.lt_of_lt_of_le NL OBH.out.size⟩).set (.int .i64 ((pre.length : Int) + 1))
    have DS := heap_at_out O1 HK.out.df (by omega)
    generalize WX.setCell ⟨W.heap.size, 0, none⟩ (.int .i64 ((pre.length : Int) + 1)) = WY at O1 O2 LS CS DS ⊢
    have O4 := out_putObj WY (W.heap.size + 6) (.loop r)
    refine ⟨LS, ⟨World.putObj_heap_same (Array.getElem?_eq_some_iff.1 LS).1, heap_at_out O4 DS (by omega), ?_⟩, O1.trans (O4.mono fun j h => .inl h)⟩
    have := CS.out O4 (by omega)
    rw [List.length_append]
    exact this
  · rintro _ W2 ⟨⟨v, rfl⟩, k2, S2, T2, O2⟩
    refine ⟨⟨_, rfl⟩, k2.lo, ?_⟩
    generalize hN : (runE Fb fuel.toNat s).1.length = N
    have kc := k2.ce
    rw [hN] at kc
    have O3 := out_putObj W2 (W.heap.size + 6) (.loop { r with state := .exhausted })
    generalize W2.putObj (W.heap.size + 6) (.loop { r with state := .exhausted }) = W3 at O3 ⊢
    have NC := (kc.out O3 (by omega)).c
    have TC := (T2.out O3 (by omega)).c
    have DF := heap_at_out O3 k2.df (by omega)
    have S3 := Lib.hid (S2.out O3 (fun j hj => by omega))
    have OF : Out (fun j => j = C ∨ j = R ∨ W.heap.size ≤ j) W W3 := ((Out.of_below (fun j => j = C ∨ j = R ∨ W.heap.size ≤ j) (bW.trans (bC.mono (by omega)))).trans (O2.mono fun j h => by omega)).trans (O3.mono fun j h => by omega)
    have OH := Lib.hid OF
    clear OF O2 O3 hr4 hr5 hr6 K0 bC l6 d5 b1 b2 b3 b4 SB NB TBc cC cF cT k2 kc
    gi_wp2_with gi_region
    have DF' : W3.drew.heap[WB.heap.size]? = some (.deferred (some [])) := by rw [show WB.heap.size = W.heap.size + 6 - 1 by omega]; exact DF
    refine ⟨by simp, .inl ⟨_, _, rfl, run_takeDeferred DF', ?_⟩⟩
    have O5 := (Out.drew (· = WB.heap.size) W3).trans (out_putObj W3.drew WB.heap.size (.deferred none))
    refine ⟨_, results_tmp2 rfl _ _ _, ?_, S3.out.out O5 (fun j hj => by omega), (OH.out.trans (O5.mono (T := fun j => j = C ∨ j = R ∨ W.heap.size ≤ j) fun j h => by omega)).old fun j hj h => by omega⟩
    rw [hN]
    rfl
end Go.Proofs.YtidpaijnnkainaaDoor
