/- Package exec: Trace. -/
import Derived.Test.YtmlhoagcppofgaaGreatDoorExE
namespace Go.Proofs.YtmlhoagcppofgaaGreatDoor
open Go Go.RowKit Go.Shelf Pl
set_option linter.unusedVariables false

attribute [local go_sem] Oper.semAt_some

/-- what the rounds keep: the loop's own object, its defers, the slice and its row -/
structure TrK (l nb B : Nat) (r : Loop) (pre : List MEv) (W : World) : Prop where
  lo : W.heap[l]? = some (.loop r)
  df : W.heap[l - 1]? = some (.deferred (some []))
  ce : ∃ v, CellIs nb v W ∧ W.ownsRow B 39 5 v pre.length (cellsE pre)
  bs : B ≤ W.heap.size
theorem TrK.out {l nb B : Nat} {r : Loop} {pre : List MEv} {S : Nat → Prop} {W W' : World} (h : TrK l nb B r pre W) (ho : Out S W W') (h1 : ¬ S l) (h2 : ¬ S (l - 1)) (h3 : ¬ S nb) (h4 : ∀ j, B ≤ j → ¬ S j) : TrK l nb B r pre W' := by
  obtain ⟨v, c, o⟩ := h.ce
  exact ⟨heap_at_out ho h.lo h1, heap_at_out ho h.df h2, ⟨v, c.out ho h3, ho.row o fun j hj => h4 j (row_own_lt o j hj).1⟩, Nat.le_trans h.bs ho.size⟩
theorem own_nilE (W : World) (B : Nat) : W.ownsRow B 39 5 (.slice none 0 0) 0 (cellsE []) := ⟨rfl, Or.inl ⟨rfl, rfl⟩⟩
theorem own_slice {W : World} {B m : Nat} {v : Value} {xs : List Value} (h : W.ownsRow B 39 5 v (m + 1) xs) : ∃ g cap cur, v = .slice (some ⟨g, 0, none⟩) (m + 1) cap ∧ B ≤ g ∧ W.heap[g]? = some (.cells cur 39 (0, 0)) ∧ m + 1 ≤ cap ∧ cap ≤ maxLen ∧ cur.size = cap * 5 ∧ cur.toList.take ((m + 1) * 5) = xs := by
  rcases h.2 with ⟨_, h0⟩ | h'
  · exact absurd h0 (by omega)
  · exact h'
theorem row_base {W : World} {B B' sz n : Nat} {t : TypeId} {v : Value} {xs : List Value} (h : W.ownsRow B t sz v n xs) (hB : B' ≤ B) : W.ownsRow B' t sz v n xs :=
  ⟨h.1, h.2.imp id fun ⟨g, cap, cur, e, hb, r⟩ => ⟨g, cap, cur, e, Nat.le_trans hB hb, r⟩⟩
set_option maxRecDepth 100000 in
set_option maxHeartbeats 800000 in
theorem trace_any {w : World} {M F R C : Nat} {Fb : List Nat} {s : MSt} (fuel : Int) (hfu : fuel ≤ 1000) (ht : T3 w) (W : World) (h1 : Solo w M F R C Fb s W) :
    Calls Tryz.prog 7 #[.pointer (some ⟨C, 0, none⟩), .int .i64 fuel] W fun e W' => ∃ a c, e = .returned (.tuple #[.slice a (runE Fb fuel.toNat s).1.length c, .int .i64 (runE Fb fuel.toNat s).2.1]) ∧ W'.ownsRow W.heap.size 39 5 (.slice a (runE Fb fuel.toNat s).1.length c) (runE Fb fuel.toNat s).1.length (cellsE (runE Fb fuel.toNat s).1) ∧ Solo w M F R C Fb (runE Fb fuel.toNat s).2.2 W' ∧ Out (fun j => j = C ∨ j = R) W W' := by
  obtain ⟨i0, hi, hz0, hz1, hz2⟩ := info_parts info_ev
  refine (callsIn_wide (n := 11)).1 ?_
  refine callsIn_of_wp_marks Tryz.func7 rfl trivial ?_ rfl
  simp only [Tryz.ntmps7, List.size_toArray, List.length_cons, List.length_nil, Nat.reduceAdd, Nat.reduceSub, Array.replicate_succ, Array.replicate_zero, List.push_toArray, List.append_toArray, List.nil_append, List.cons_append]
  have HT := Lib.hid ht
  have S0 := Lib.hid h1
  have lts := h1.lts
  have los := h1.lo
  have mix := mixed_ok
  clear ht h1
  have hm : min fuel 100000 = fuel := by omega
  gi_wp2_with (refine ⟨trivial, ?_⟩; gi_at_call 19; refine (callsIn_wide.2 (steps_make _ fuel _ rfl _ ⟨_, rfl⟩)).mono ?_; rintro _ WB ⟨rfl, b1, b2, b3, b4, b5⟩; simp at b1 b2 b3 b4 b5)
  clear hm
  have bW : Below W.heap.size W WB := (show Below W.heap.size W ((W.alloc (.cells #[.slice none 0 0] 30)).alloc (.cells #[.int .i64 0] 3)) by go_grown).trans (b4.mono (by omega))
  have SB := S0.out.below bW
  have NB : CellIs W.heap.size (.slice none 0 0) WB := cellIs_of ((b4.block W.heap.size (by omega)).trans (two_alloc W _ _).1)
  have TBc : CellIs (W.heap.size + 1) (.int .i64 0) WB := cellIs_of ((b4.block (W.heap.size + 1) (by omega)).trans (two_alloc W _ _).2.1)
  have cC := (cellIs_of b1).c
  have cF := (cellIs_of b2).c
  have cT := (cellIs_of b3).c
  refine wpIn_rangeFunc_free rfl (by simp) (hg := rfl) trivial (enters_of Tryz.func34 (by kernel_rfl) rfl) ?_
  intro r hrf hr1 hr2 hr3 hr4 hr5 hr6
  have bC : Below WB.heap.size WB ((WB.alloc (.deferred (some []))).alloc (.loop r)) := by go_grown
  have e6 : WB.heap.size + 1 = W.heap.size + 6 := by omega
  have l6 : ((WB.alloc (.deferred (some []))).alloc (.loop r)).heap[W.heap.size + 6]? = some (.loop r) := by rw [← e6]; exact (two_alloc WB _ _).2.1
  have d5 : ((WB.alloc (.deferred (some []))).alloc (.loop r)).heap[W.heap.size + 6 - 1]? = some (.deferred (some [])) := by rw [show W.heap.size + 6 - 1 = WB.heap.size by omega]; exact (two_alloc WB _ _).1
  have szC : W.heap.size + 7 ≤ ((WB.alloc (.deferred (some []))).alloc (.loop r)).heap.size := by simp; omega
  rw [e6]
  generalize hWC : (WB.alloc (.deferred (some []))).alloc (.loop r) = WC at bC l6 d5 szC ⊢
  have K0 : TrK (W.heap.size + 6) W.heap.size (W.heap.size + 7) r [] WC := ⟨l6, d5, ⟨_, NB.out (.of_below (fun _ => False) bC) id, own_nilE _ _⟩, szC⟩
  refine (steps_run (W.heap.size + 6) (W.heap.size + 1 + 1 + 1) (W.heap.size + 1 + 1) (W.heap.size + 1 + 1 + 2) (W.heap.size + 1) fuel (by omega) HT.out (TrK (W.heap.size + 6) W.heap.size (W.heap.size + 7) r) (fun j => j = W.heap.size + 6 ∨ j = W.heap.size ∨ W.heap.size + 7 ≤ j)
    (fun pre W1 W2 hk ho => hk.out ho (by omega) (by omega) (by omega) (fun j hj => by omega)) (fun j hj => by omega) (by omega) (by omega) ?_
    WC (SB.below bC) ((bC.cell (p := ⟨W.heap.size + 1 + 1 + 1, 0, none⟩) (by simp; omega)).trans cF) ((bC.cell (p := ⟨W.heap.size + 1 + 1, 0, none⟩) (by simp; omega)).trans cC) ((bC.cell (p := ⟨W.heap.size + 1 + 1 + 2, 0, none⟩) (by simp; omega)).trans cT) (TBc.out (.of_below (fun _ => False) bC) id) K0).mono ?_
  · rintro pre e W1 hk ⟨si, hRA, hl, h0, he⟩
    clear he h0
    have lpre : pre.length ≤ 1000 := by omega
    obtain ⟨p, wd, k, av, z⟩ := e
    simp only [MEv.v]
    refine yield_round hk.lo hr1 hr2 (by rw [hr3]; rfl) hrf ?_
    obtain ⟨rb, hrb⟩ : ∃ rb, ({ r with state := .busy } : Loop) = rb := ⟨_, rfl⟩
    simp only [hrb]
    rw [hr4, hr5, hr3, hr6]
    have bE : Below W1.heap.size W1 (W1.alloc (.cells #[.int .u32 (p : Nat), .int .u32 (wd : Nat), .int .i64 k, .int .u32 (av : Nat), .int .i64 z] 39)) := (Below.refl _ _).alloc (Nat.le_refl _) _
    have E3 := evAt_of (heap_alloc_new W1 (.cells #[.int .u32 (p : Nat), .int .u32 (wd : Nat), .int .i64 k, .int .u32 (av : Nat), .int .i64 z] 39))
    have bs1 := hk.bs
    have hk' := hk.out (Out.of_below (fun _ => False) bE) id id id (fun _ _ => id)
    have BE := Lib.hid bE
    have HK := Lib.hid hk'
    have EE := Lib.hid E3
    clear hr4 hr5 hr6 hk K0 bC l6 d5 b1 b2 b3 b4 bW SB NB TBc cC cF cT hrb hRA szC bE hk' E3
    simp only [List.zip_toArray, List.foldl_toArray', List.zip_cons_cons, List.zip_nil_right, List.foldl_cons, List.foldl_nil, List.setIfInBounds_toArray, List.set_cons_succ, List.set_cons_zero]
    gi_wp2
    refine ⟨HK.out.lo, ?_⟩
    generalize hWE : W1.alloc (.cells #[.int .u32 (p : Nat), .int .u32 (wd : Nat), .int .i64 k, .int .u32 (av : Nat), .int .i64 z] 39) = WE at *
    clear hWE
    generalize hEB : W1.heap.size = EB at *
    have OB := out_putObj WE (W.heap.size + 6) (.loop rb)
    have LB : (WE.putObj (W.heap.size + 6) (.loop rb)).heap[W.heap.size + 6]? = some (.loop rb) := World.putObj_heap_same (Array.getElem?_eq_some_iff.1 HK.out.lo).1
    obtain ⟨vo, kc, ko⟩ := HK.out.ce
    have kb := kc.out OB (by omega)
    have row := OB.row ko (fun j hj => by have := (row_own_lt ko j hj).1; omega)
    have E4 := EE.out.out OB (by omega)
    have DX := heap_at_out OB HK.out.df (by omega)
    have bs := Nat.le_trans HK.out.bs OB.size
    have OBH := Lib.hid OB
    clear OB kc ko
    generalize WE.putObj (W.heap.size + 6) (.loop rb) = WX at *
    have NC := kb.c
    have NF := kb.f
    have NL := kb.lt
    have e0 := E4.c0
    have e1 := E4.c1
    have e2 := E4.c2
    have e3 := E4.c3
    have e4 := E4.c4
    have ROW := Lib.hid row
    have LBH := Lib.hid LB
    have DXH := Lib.hid DX
    clear E4 row LB DX kb
    have LEN := Lib.hid (show pre.length + 1 ≤ maxLen from Nat.le_trans (show pre.length + 1 ≤ 1001 by omega) (by decide))
    have BYT := Lib.hid (show (pre.length + 1) * 32 ≤ 140737488355328 by omega)
    have OWNA := Lib.hid (fun cs t => ROW.out.alloc (.cells cs t))
    have OG := Lib.hid (show ∀ (cs : Array Value) (t : TypeId) (w3 : World), (WX.alloc (.cells cs t)).grownBy w3 vo.ownBlock → Out (fun j => W.heap.size + 7 ≤ j) WX w3 ∧ w3.cell? ⟨W.heap.size, 0, none⟩ = some vo ∧ w3.frozen? ⟨W.heap.size, 0, none⟩ = false ∧ W.heap.size < w3.heap.size from fun cs t w3 hg => by
      have og : Out (fun j => W.heap.size + 7 ≤ j) WX w3 := (Out.of_below _ ((Below.refl _ _).alloc (Nat.le_refl _) _)).trans (.of_grown hg fun k hk => (row_own_lt ROW.out k hk).1)
      have nn : ¬ (W.heap.size + 7 ≤ W.heap.size) := by omega
      exact ⟨og, (og.cell (p := ⟨W.heap.size, 0, none⟩) NL nn).trans NC, (World.frozen?_of_block (a := ⟨W.heap.size, 0, none⟩) (og.block W.heap.size NL nn)).trans NF, Nat.lt_of_lt_of_le NL og.size⟩)
    have BAS := Lib.hid (show ∀ (cs : Array Value) (t : TypeId), W.heap.size + 7 ≤ (WX.alloc (.cells cs t)).heap.size from fun cs t => by simp; omega)
    gi_wp2_with (gi_at_builtin; refine wpListIn_append_own _ rfl _ _ 30 rfl (W.heap.size + 7) 39 i0 (.agg #[.int .u32 0, .int .u32 0, .int .i64 0, .int .u32 0, .int .i64 0]) 5 32 Tryz.underlying30 hi hz0 hz1 hz2 rfl (by decide) vo pre.length (cellsE pre) rfl (OWNA.out _ _) ⟨WX.heap.size, 0, none⟩ 1 1 [.int .u32 (p : Nat), .int .u32 (wd : Nat), .int .i64 k, .int .u32 (av : Nat), .int .i64 z] rfl rfl (news_5 WX p wd k av z 39) (by simp [Value.oneCell']) LEN.out BYT.out (BAS.out _ _) ?_; intro v' w3 hown' hg3 hnil3; obtain ⟨og, hc3, hf3, nl3⟩ := OG.out _ _ _ hg3; obtain ⟨g', cap', cur', rfl, _⟩ := own_slice hown'; have HOWN := Lib.hid hown'; have OGH := Lib.hid og; clear hown' hg3 hnil3 og)
    have nl : ¬ (W.heap.size + 7 ≤ W.heap.size + 6) := by omega
    have nd : ¬ (W.heap.size + 7 ≤ W.heap.size + 6 - 1) := by omega
    have n1 : ¬ (W.heap.size + 6 = W.heap.size) := by omega
    have n2 : ¬ (W.heap.size + 6 - 1 = W.heap.size) := by omega
    have n3 : ¬ (W.heap.size + 6 - 1 = W.heap.size + 6) := by omega
    have n4 : ¬ (W.heap.size = W.heap.size + 6) := by omega
    have OA : Out (fun j => j = W.heap.size + 6 ∨ j = W.heap.size ∨ W.heap.size + 7 ≤ j) W1 w3 := ((Out.of_below _ (hEB ▸ BE.out)).trans (OBH.out.mono fun j h => .inl h)).trans (OGH.out.mono fun j h => .inr (.inr h))
    have O2 : Out (· = W.heap.size) w3 (w3.setCell ⟨W.heap.size, 0, none⟩ (.slice (some ⟨g', 0, none⟩) (pre.length + 1) cap')) := out_cell W.heap.size 0 _ w3
    have LS := heap_at_out O2 (heap_at_out OGH.out LBH.out nl) n1
    have DS := heap_at_out O2 (heap_at_out OGH.out DXH.out nd) n2
    have CS := (show CellIs W.heap.size vo w3 from ⟨hc3, hf3, nl3⟩).set (.slice (some ⟨g', 0, none⟩) (pre.length + 1) cap')
    have row6 := O2.row HOWN.out (fun j hj e => by have := (row_own_lt HOWN.out j hj).1; omega)
    generalize w3.setCell ⟨W.heap.size, 0, none⟩ (.slice (some ⟨g', 0, none⟩) (pre.length + 1) cap') = WY at *
    have O4 := out_putObj WY (W.heap.size + 6) (.loop r)
    have OT := OA.trans (O2.mono fun j h => .inr (.inl h))
    refine ⟨LS, ⟨World.putObj_heap_same (Array.getElem?_eq_some_iff.1 LS).1, heap_at_out O4 DS n3, ⟨_, CS.out O4 n4, ?_⟩, ?_⟩, OT.trans (O4.mono fun j h => .inl h)⟩
    · rw [List.length_append, cellsE_append]
      exact O4.row row6 (fun j hj e => by have := (row_own_lt row6 j hj).1; omega)
    · have := OT.size; have := O4.size; omega
  · rintro _ W2 ⟨⟨v, rfl⟩, k2, S2, T2, O2⟩
    refine ⟨⟨_, rfl⟩, k2.lo, ?_⟩
    obtain ⟨vv, kc, ko⟩ := k2.ce
    obtain ⟨a, c, rfl⟩ := row_slice ko
    have O3 := out_putObj W2 (W.heap.size + 6) (.loop { r with state := .exhausted })
    have OF : Out (fun j => j = C ∨ j = R ∨ W.heap.size ≤ j) W (W2.putObj (W.heap.size + 6) (.loop { r with state := .exhausted })) := ((Out.of_below (fun j => j = C ∨ j = R ∨ W.heap.size ≤ j) (bW.trans (bC.mono (by omega)))).trans (O2.mono fun j h => by omega)).trans (O3.mono fun j h => by omega)
    generalize W2.putObj (W.heap.size + 6) (.loop { r with state := .exhausted }) = W3 at O3 OF ⊢
    have n4 : ¬ (W.heap.size = W.heap.size + 6) := by omega
    have n5 : ¬ (W.heap.size + 1 = W.heap.size + 6) := by omega
    have n3 : ¬ (W.heap.size + 6 - 1 = W.heap.size + 6) := by omega
    have NC := (kc.out O3 n4).c
    have TC := (T2.out O3 n5).c
    have DF := heap_at_out O3 k2.df n3
    have RW := Lib.hid (O3.row ko (fun j hj e => by have := (row_own_lt ko j hj).1; omega))
    have S3 := Lib.hid (S2.out O3 (fun j hj => by omega))
    have OH := Lib.hid OF
    generalize hE : runE Fb fuel.toNat s = E at *
    obtain ⟨ev, tt, s2⟩ := E
    dsimp only at *
    generalize hN : ev.length = N at *
    clear OF O2 O3 hr4 hr5 hr6 K0 bC l6 d5 b1 b2 b3 b4 NB TBc cC cF cT k2 kc ko szC
    gi_wp2_with gi_region
    have DF' : W3.drew.heap[WB.heap.size]? = some (.deferred (some [])) := by rw [show WB.heap.size = W.heap.size + 6 - 1 by omega]; exact DF
    refine ⟨by simp, .inl ⟨_, _, rfl, run_takeDeferred DF', ?_⟩⟩
    have O5 := (Out.drew (· = WB.heap.size) W3).trans (out_putObj W3.drew WB.heap.size (.deferred none))
    refine ⟨_, results_tmp2 rfl _ _ _, ?_⟩
    rw [hE]
    dsimp only
    rw [hN]
    exact ⟨a, c, rfl, row_base (O5.row RW.out (fun j hj e => by have := (row_own_lt RW.out j hj).1; omega)) (by omega), S3.out.out O5 (fun j hj => by omega), (OH.out.trans (O5.mono (T := fun j => j = C ∨ j = R ∨ W.heap.size ≤ j) fun j h => by omega)).old fun j hj h => by omega⟩
end Go.Proofs.YtmlhoagcppofgaaGreatDoor
