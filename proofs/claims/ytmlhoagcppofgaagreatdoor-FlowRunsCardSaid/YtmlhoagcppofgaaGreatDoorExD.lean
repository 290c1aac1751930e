/- Package exec: Trace of a machine that traps at once; the law's two steps. -/
import Derived.Test.YtmlhoagcppofgaaGreatDoorExC
import Derived.Test.YtmlhoagcppofgaaGreatDoorGW
namespace Go.Proofs.YtmlhoagcppofgaaGreatDoor
open Go Go.RowKit Go.Shelf Pl
set_option linter.unusedVariables false

theorem Duo.solo {w : World} {M F R X : Nat} {Fb : List Nat} {s s' : MSt} {cnt : Nat} {W : World} (h : Duo w M F R X Fb s s' cnt W) : Solo w M F R (X + 2) Fb s W :=
  { mach := h.mach, mem := h.mem, lf := h.lf, ls := h.ls, lo := by have := h.far.m; have := h.far.f; have := h.far.r; omega, ne := by have := h.far.m; have := h.far.f; have := h.far.r; omega, bl := h.bl }
theorem Duo.back {w : World} {M F R X : Nat} {Fb : List Nat} {s s' s2 : MSt} {cnt : Nat} {W W' : World} (h : Duo w M F R X Fb s s' cnt W) (S : Solo w M F R (X + 2) Fb s2 W') (ho : Out (fun j => j = X + 2 ∨ j = R) W W') : Duo w M F R X Fb s2 s' cnt W' := by
  have fm := h.far.m; have ff := h.far.f; have fr := h.far.r
  obtain ⟨L, v, r1, r2, r3⟩ := h.rf
  exact { mach := S.mach, mem := S.mem, rm := h.rm.out ho (by omega), rf := ⟨L, v, r1.out ho (by omega) (fun j hj => by have := (r1.own_lt j hj).1; omega), r2, r3⟩, lf := h.lf, ls := S.ls, ls' := h.ls', sb' := h.sb', far := h.far, bl := S.bl }

attribute [local go_sem] Oper.semAt_some

structure RunV (l nb : Nat) (r : Loop) (v : Value) (W : World) : Prop where
  lo : W.heap[l]? = some (.loop r)
  df : W.heap[l - 1]? = some (.deferred (some []))
  ce : CellIs nb v W
theorem RunV.out {l nb : Nat} {r : Loop} {v : Value} {S : Nat → Prop} {W W' : World} (h : RunV l nb r v W) (ho : Out S W W') (h1 : ¬ S l) (h2 : ¬ S (l - 1)) (h3 : ¬ S nb) : RunV l nb r v W' :=
  ⟨heap_at_out ho h.lo h1, heap_at_out ho h.df h2, h.ce.out ho h3⟩

set_option maxRecDepth 100000 in
set_option maxHeartbeats 4000000 in
theorem trace_trap {w : World} {M F R C : Nat} {Fb : List Nat} {s : MSt} (hst : (stepM 4096 2147483648 Fb s).t ≠ 0) (ht : T3 w) (W : World) (h1 : Solo w M F R C Fb s W) :
    Calls Tryz.prog 7 #[.pointer (some ⟨C, 0, none⟩), .int .i64 40] W fun e W' => e = .returned (.tuple #[.slice none 0 0, .int .i64 (stepM 4096 2147483648 Fb s).t]) ∧ Solo w M F R C Fb s W' ∧ Out (fun j => j = C ∨ j = R) W W' := by
  have hrun : runE Fb (40 : Int).toNat s = ([], (stepM 4096 2147483648 Fb s).t, s) := by
    rw [show (40 : Int).toNat = 39 + 1 from rfl, runE_trap1 39 hst, (stepM_B 4096 2147483648 Fb s hst).1]
  refine (callsIn_wide (n := 11)).1 ?_
  refine callsIn_of_wp_marks Tryz.func7 rfl trivial ?_ rfl
  simp only [Tryz.ntmps7, List.size_toArray, List.length_cons, List.length_nil, Nat.reduceAdd, Nat.reduceSub, Array.replicate_succ, Array.replicate_zero, List.push_toArray, List.append_toArray, List.nil_append, List.cons_append]
  have HT := Lib.hid ht
  have S0 := Lib.hid h1
  have lts := h1.lts
  have los := h1.lo
  have mix := mixed_ok
  clear ht h1
  gi_wp2_with (refine ⟨trivial, ?_⟩; gi_at_call 19; refine (callsIn_wide.2 (steps_make _ 40 _ rfl _ ⟨_, rfl⟩)).mono ?_; rintro _ WB ⟨rfl, b1, b2, b3, b4, b5⟩; simp at b1 b2 b3 b4 b5)
  have bW : Below W.heap.size W WB := (show Below W.heap.size W ((W.alloc (.cells #[.slice none 0 0] 30)).alloc (.cells #[.int .i64 0] 3)) by go_grown).trans (b4.mono (by omega))
  have SB := S0.out.below bW
  have NB : CellIs W.heap.size (.slice none 0 0) WB := cellIs_of ((b4.block W.heap.size (by omega)).trans (two_alloc W _ _).1)
  have TBc : CellIs (W.heap.size + 1) (.int .i64 0) WB := cellIs_of ((b4.block (W.heap.size + 1) (by omega)).trans (two_alloc W _ _).2.1)
  have cC := (cellIs_of b1).c
  have cF := (cellIs_of b2).c
  have cT := (cellIs_of b3).c
  refine wpIn_rangeFunc_free rfl (by simp) (hg := rfl) trivial (enters_of Tryz.func34 (by kernel_rfl) rfl) ?_
  intro r hrf hr1 hr2 hr3 hr4 hr5 hr6
  have bC : Below WB.heap.size WB ((WB.alloc (.deferred (some []))).alloc (.loop r)) := by go_grown
  have e6 : WB.heap.size + 1 = W.heap.size + 6 := by omega
  have l6 : ((WB.alloc (.deferred (some []))).alloc (.loop r)).heap[W.heap.size + 6]? = some (.loop r) := by rw [← e6]; exact (two_alloc WB _ _).2.1
  have d5 : ((WB.alloc (.deferred (some []))).alloc (.loop r)).heap[W.heap.size + 6 - 1]? = some (.deferred (some [])) := by rw [show W.heap.size + 6 - 1 = WB.heap.size by omega]; exact (two_alloc WB _ _).1
  rw [e6]
  generalize hWC : (WB.alloc (.deferred (some []))).alloc (.loop r) = WC at bC l6 d5 ⊢
  have K0 : RunV (W.heap.size + 6) W.heap.size r (.slice none 0 0) WC := ⟨l6, d5, NB.out (.of_below (fun _ => False) bC) id⟩
  refine (steps_run (W.heap.size + 6) (W.heap.size + 1 + 1 + 1) (W.heap.size + 1 + 1) (W.heap.size + 1 + 1 + 2) (W.heap.size + 1) 40 (by omega) HT.out (fun _ => RunV (W.heap.size + 6) W.heap.size r (.slice none 0 0)) (fun j => j = W.heap.size + 6 ∨ j = W.heap.size)
    (fun pre W1 W2 hk ho => hk.out ho (by omega) (by omega) (by omega)) (fun j hj => by omega) (by omega) (by omega) ?_
    WC (SB.below bC) ((bC.cell (p := ⟨W.heap.size + 1 + 1 + 1, 0, none⟩) (by simp; omega)).trans cF) ((bC.cell (p := ⟨W.heap.size + 1 + 1, 0, none⟩) (by simp; omega)).trans cC) ((bC.cell (p := ⟨W.heap.size + 1 + 1 + 2, 0, none⟩) (by simp; omega)).trans cT) (TBc.out (.of_below (fun _ => False) bC) id) K0).mono ?_
  · rintro pre e W1 hk ⟨si, hRA, hl, h0, rfl⟩
    have g := congrArg Prod.fst hRA.eq
    rw [hrun] at g
    obtain ⟨k, hk⟩ : ∃ k, (40 : Int).toNat - pre.length = k + 1 := ⟨(40 : Int).toNat - pre.length - 1, by omega⟩
    rw [hk, runE_go k h0] at g
    simp at g
  · rintro _ W2 ⟨⟨v, rfl⟩, k2, S2, T2, O2⟩
    refine ⟨⟨_, rfl⟩, k2.lo, ?_⟩
    rw [hrun] at S2 T2
    have kc := k2.ce
    have O3 := out_putObj W2 (W.heap.size + 6) (.loop { r with state := .exhausted })
    generalize W2.putObj (W.heap.size + 6) (.loop { r with state := .exhausted }) = W3 at O3 ⊢
    have NC := (kc.out O3 (by omega)).c
    have TC := (T2.out O3 (by omega)).c
    have DF := heap_at_out O3 k2.df (by omega)
    have S3 := Lib.hid (S2.out O3 (fun j hj => by omega))
    have OF : Out (fun j => j = C ∨ j = R ∨ W.heap.size ≤ j) W W3 := ((Out.of_below (fun j => j = C ∨ j = R ∨ W.heap.size ≤ j) (bW.trans (bC.mono (by omega)))).trans (O2.mono fun j h => by omega)).trans (O3.mono fun j h => by omega)
    have OH := Lib.hid OF
    clear OF O2 O3 hr4 hr5 hr6 K0 bC l6 d5 b1 b2 b3 b4 SB NB TBc cC cF cT k2 kc
    gi_wp2_with gi_region
    have DF' : W3.drew.heap[W.heap.size + 1 + 1 + 3]? = some (.deferred (some [])) := DF
    refine ⟨by simp, .inl ⟨_, _, rfl, run_takeDeferred DF', ?_⟩⟩
    have O5 := (Out.drew (· = W.heap.size + 1 + 1 + 3) W3).trans (out_putObj W3.drew (W.heap.size + 1 + 1 + 3) (.deferred none))
    refine ⟨_, results_tmp2 rfl _ _ _, ?_, S3.out.out O5 (fun j hj => by omega), (OH.out.trans (O5.mono (T := fun j => j = C ∨ j = R ∨ W.heap.size ≤ j) fun j h => by omega)).old fun j hj h => by omega⟩
    rfl

theorem again_step (Fb : List Nat) (n : Nat) (s : MSt) (h : (runE Fb n s).2.1 ≠ 0) : (stepM 4096 2147483648 Fb (runE Fb n s).2.2).t = (runE Fb n s).2.1 := by
  have k := runE_again Fb n 0 s h
  by_cases g : (stepM 4096 2147483648 Fb (runE Fb n s).2.2).t = 0
  · rw [runE_go 0 g] at k
    have := congrArg Prod.fst k
    simp at this
  · rw [runE_trap1 0 g] at k
    exact congrArg (fun p => p.2.1) k
theorem words_three (W : World) (x y z : Nat) (t : TypeId) (h : x < 4294967296 ∧ y < 4294967296 ∧ z < 4294967296) : WordsIn (W.alloc (.cells #[.int .u32 (x : Nat), .int .u32 (y : Nat), .int .u32 (z : Nat)] t)) (some ⟨W.heap.size, 0, none⟩) [x, y, z] :=
  ⟨fun u hu => by
      simp at hu
      omega, by simp, .inr ⟨W.heap.size, 0, rfl, by simp, fun k hk => by
    rw [Nat.zero_add, cell_of_row _ W.heap.size k _ _ _ (heap_alloc_new W _)]
    match k, hk with
    | 0, _ => rfl
    | 1, _ => rfl
    | 2, _ => rfl⟩⟩
theorem words_none (W : World) : WordsIn W none [] := ⟨fun _ h => (by cases h), by simp, .inl rfl⟩
theorem live_run : (runE (begF [19, 19, 1048691]) 9 (begS [])).1.length = 2 ∧ (runE (begF [19, 19, 1048691]) 9 (begS [])).2.1 = 7 := ⟨by kernel_rfl, by kernel_rfl⟩
end Go.Proofs.YtmlhoagcppofgaaGreatDoor
