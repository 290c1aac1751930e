/- Package exec: Path. -/
import Derived.Test.YtidpaijnnkainaaDoorExJ
namespace Go.Proofs.YtidpaijnnkainaaDoor
open Go Go.RowKit Go.Shelf Pl
set_option linter.unusedVariables false

attribute [local irreducible] mixN
/-- a number as a word -/
def toU (k : Int) : Nat := (k % 4294967296).toNat
def evW (e : MEv) : Nat → Nat
  | 0 => e.p
  | 1 => toU e.k
  | 2 => e.a
  | _ => toU e.s
def evH (h : Nat) (e : MEv) : Nat → Nat
  | 0 => h
  | j + 1 => mixN (evH h e j) (evW e j)
def hashE (l : List MEv) : Nat := l.foldl (fun h e => evH h e 4) 2166136261
theorem foldl_snoc {α β : Type} (f : β → α → β) (h : β) (l : List α) (e : α) : (l ++ [e]).foldl f h = f (l.foldl f h) e := by rw [List.foldl_append]; rfl
theorem hashE_snoc (l : List MEv) (e : MEv) : hashE (l ++ [e]) = evH (hashE l) e 4 := foldl_snoc (fun h e => evH h e 4) 2166136261 l e
theorem mod_bd (a : Nat) : a % 4294967296 < 4294967296 := Nat.mod_lt a (by decide)
theorem mixN_lt (h x : Nat) : mixN h x < 4294967296 := by unfold mixN; exact mod_bd _
theorem evH_lt (h : Nat) (e : MEv) (j : Nat) (hh : h < 4294967296) : evH h e j < 4294967296 := by
  cases j with
  | zero => exact hh
  | succ j => exact mixN_lt _ _
theorem hashE_lt (l : List MEv) : hashE l < 4294967296 := by
  unfold hashE
  have : ∀ h, h < 4294967296 → l.foldl (fun h e => evH h e 4) h < 4294967296 := by
    induction l with
    | nil => exact fun h hh => hh
    | cons e l ih => exact fun h hh => ih _ (evH_lt h e 4 hh)
  exact this _ (by omega)

def EvB (s : MSt) (o : MOut) : Prop := s.pc < 4294967296 → o.e.p < 4294967296 ∧ o.e.a < 4294967296 ∧ o.s.pc < 4294967296
theorem stepM_ev (f rr : Nat) (Fb : List Nat) (s : MSt) : EvB s (stepM f rr Fb s) := by
  have ite : ∀ (c : Prop) [Decidable c] (a b : MOut), EvB s a → EvB s b → EvB s (if c then a else b) := fun c _ a b h g => by split; exact h; exact g
  have leaf : ∀ (w : Nat) (t : Int) (k : Int) (a : Nat) (z : Int) (pc : Nat) (r : Nat → Nat) (b : List Nat), a < 4294967296 → (s.pc < 4294967296 → pc < 4294967296) → EvB s ⟨⟨s.pc, w, k, a, z⟩, t, ⟨pc, r, b⟩⟩ := fun w t k a z pc r b ha hp h => ⟨h, ha, hp h⟩
  have same : ∀ (w : Nat) (t : Int) (k : Int) (a : Nat) (z : Int), a < 4294967296 → EvB s ⟨⟨s.pc, w, k, a, z⟩, t, s⟩ := fun w t k a z ha h => ⟨h, ha, h⟩
  have z0 : (0 : Nat) < 4294967296 := by decide
  have nx : s.pc < 4294967296 → (s.pc + 4) % 4294967296 < 4294967296 := fun _ => by omega
  have ifl : ∀ (x : Nat), x < 4294967296 → (s.pc < 4294967296 → ifA x x s.pc < 4294967296) := fun x hx h => by unfold ifA; split; exact hx; exact h
  have ml : ∀ (y : Nat), (s.pc + y) % 4294967296 < 4294967296 := fun y => by omega
  have hl : ∀ (r : Nat → Nat) (u : Nat) (im : Int), atC r u im / 2 * 2 < 4294967296 := fun r u im => by have := atC_lt r u im; omega
  unfold stepM
  refine ite _ _ _ (same _ _ _ _ _ z0) (ite _ _ _ (same _ _ _ _ _ z0) ?_)
  unfold doM
  repeat' first
    | with_reducible exact same _ _ _ _ _ z0
    | with_reducible exact leaf _ _ _ _ _ _ _ _ z0 nx
    | with_reducible exact leaf _ _ _ _ _ _ _ _ (atC_lt _ _ _) nx
    | with_reducible exact leaf _ _ _ _ _ _ _ _ z0 (ifl _ (ml _))
    | with_reducible exact leaf _ _ _ _ _ _ _ _ z0 (ifl _ (hl _ _ _))
    | apply ite
theorem runE_ev (Fb : List Nat) (n : Nat) (s : MSt) (h : s.pc < 4294967296) : ∀ e ∈ (runE Fb n s).1, e.p < 4294967296 ∧ e.a < 4294967296 := by
  induction n generalizing s with
  | zero => intro e he; simp [runE] at he
  | succ n ih =>
    have q := stepM_ev 4096 2147483648 Fb s h
    by_cases g : (stepM 4096 2147483648 Fb s).t = 0
    · rw [runE_go n g]
      intro e he
      rcases List.mem_cons.1 he with rfl | he
      · exact ⟨q.1, q.2.1⟩
      · exact ih _ q.2.2 e he
    · rw [runE_trap1 n g]
      intro e he
      cases he
theorem RunAt.mem {Fb : List Nat} {n : Nat} {s si : MSt} {i : Nat} {pre : List MEv} (h : RunAt Fb n s i pre si) (hi : i < n) (g : (stepM 4096 2147483648 Fb si).t = 0) : (stepM 4096 2147483648 Fb si).e ∈ (runE Fb n s).1 := by
  rw [h.eq, show n - i = (n - (i + 1)) + 1 by omega, runE_go _ g]
  simp
attribute [local go_sem] Oper.semAt_some

set_option maxRecDepth 100000 in
set_option maxHeartbeats 1000000 in
theorem path_any {w : World} {M F R C : Nat} {Fb : List Nat} {s : MSt} (fuel : Int) (hfu : fuel ≤ 1000) (ht : T3 w) (W : World) (h1 : Solo w M F R C Fb s W) :
    Calls Tryd.prog 15 #[.pointer (some ⟨C, 0, none⟩), .int .i64 fuel] W fun e W' => e = .returned (.tuple #[.int .u32 (hashE (runE Fb fuel.toNat s).1 : Nat), .int .i64 (runE Fb fuel.toNat s).2.1]) ∧ Solo w M F R C Fb (runE Fb fuel.toNat s).2.2 W' ∧ Out (fun j => j = C ∨ j = R) W W' := by
  refine (callsIn_wide (n := 11)).1 ?_
  refine callsIn_of_wp_marks Tryd.func15 rfl trivial ?_ rfl
  simp only [Tryd.ntmps15, List.size_toArray, List.length_cons, List.length_nil, Nat.reduceAdd, Nat.reduceSub, Array.replicate_succ, Array.replicate_zero, List.push_toArray, List.append_toArray, List.nil_append, List.cons_append]
  have HT := Lib.hid ht
  have h1pc := h1.mach.pcb
  have S0 := Lib.hid h1
  have lts := h1.lts
  have los := h1.lo
  have mix := mixed_ok
  clear ht h1
  have hm : min fuel 100000 = fuel := by omega
  gi_wp2_with (refine ⟨trivial, ?_⟩; gi_at_call 29; refine (callsIn_wide.2 (steps_make _ fuel _ rfl _ ⟨_, rfl⟩)).mono ?_; rintro _ WB ⟨rfl, b1, b2, b3, b4, b5⟩; simp at b1 b2 b3 b4 b5)
  clear hm
  have bW : Below W.heap.size W WB := (show Below W.heap.size W ((W.alloc (.cells #[.int .u32 2166136261] 37)).alloc (.cells #[.int .i64 0] 3)) by go_grown).trans (b4.mono (by omega))
  have SB := S0.out.below bW
  have NB : CellIs W.heap.size (.int .u32 ((2166136261 : Nat) : Int)) WB := cellIs_of ((b4.block W.heap.size (by omega)).trans (two_alloc W _ _).1)
  have TBc : CellIs (W.heap.size + 1) (.int .i64 0) WB := cellIs_of ((b4.block (W.heap.size + 1) (by omega)).trans (two_alloc W _ _).2.1)
  have cC := (cellIs_of b1).c
  have cF := (cellIs_of b2).c
  have cT := (cellIs_of b3).c
  refine wpIn_rangeFunc_free rfl (by simp) (hg := rfl) trivial (enters_of Tryd.func42 (by kernel_rfl) rfl) ?_
  intro r hrf hr1 hr2 hr3 hr4 hr5 hr6
  have bC : Below WB.heap.size WB ((WB.alloc (.deferred (some []))).alloc (.loop r)) := by go_grown
  have e6 : WB.heap.size + 1 = W.heap.size + 6 := by omega
  have l6 : ((WB.alloc (.deferred (some []))).alloc (.loop r)).heap[W.heap.size + 6]? = some (.loop r) := by rw [← e6]; exact (two_alloc WB _ _).2.1
  have d5 : ((WB.alloc (.deferred (some []))).alloc (.loop r)).heap[W.heap.size + 6 - 1]? = some (.deferred (some [])) := by rw [show W.heap.size + 6 - 1 = WB.heap.size by omega]; exact (two_alloc WB _ _).1
  rw [e6]
  generalize hWC : (WB.alloc (.deferred (some []))).alloc (.loop r) = WC at bC l6 d5 ⊢
  have K0 : RunV (W.heap.size + 6) W.heap.size r (.int .u32 (hashE [] : Nat)) WC := ⟨l6, d5, NB.out (.of_below (fun _ => False) bC) id⟩
  refine (steps_run (W.heap.size + 6) (W.heap.size + 1 + 1 + 1) (W.heap.size + 1 + 1) (W.heap.size + 1 + 1 + 2) (W.heap.size + 1) fuel (by omega) HT.out (fun pre => RunV (W.heap.size + 6) W.heap.size r (.int .u32 (hashE pre : Nat))) (fun j => j = W.heap.size + 6 ∨ j = W.heap.size)
    (fun pre W1 W2 hk ho => hk.out ho (by omega) (by omega) (by omega)) (fun j hj => by omega) (by omega) (by omega) ?_
    WC (SB.below bC) ((bC.cell (p := ⟨W.heap.size + 1 + 1 + 1, 0, none⟩) (by simp; omega)).trans cF) ((bC.cell (p := ⟨W.heap.size + 1 + 1, 0, none⟩) (by simp; omega)).trans cC) ((bC.cell (p := ⟨W.heap.size + 1 + 1 + 2, 0, none⟩) (by simp; omega)).trans cT) (TBc.out (.of_below (fun _ => False) bC) id) K0).mono ?_
  · rintro pre e W1 hk ⟨si, hRA, hl, h0, he⟩
    have hev := runE_ev Fb fuel.toNat s h1pc _ (hRA.mem hl h0)
    rw [← he] at hev
    clear he h0
    obtain ⟨p, wd, k, av, z⟩ := e
    simp only [MEv.v]
    refine yield_round hk.lo hr1 hr2 (by rw [hr3]; rfl) hrf ?_
    obtain ⟨rb, hrb⟩ : ∃ rb, ({ r with state := .busy } : Loop) = rb := ⟨_, rfl⟩
    simp only [hrb]
    rw [hr4, hr5, hr3, hr6]
    have bE : Below W1.heap.size W1 (W1.alloc (.cells #[.int .u32 (p : Nat), .int .u32 (wd : Nat), .int .i64 k, .int .u32 (av : Nat), .int .i64 z] 76)) := (Below.refl _ _).alloc (Nat.le_refl _) _
    have E3 := evAt_of (heap_alloc_new W1 (.cells #[.int .u32 (p : Nat), .int .u32 (wd : Nat), .int .i64 k, .int .u32 (av : Nat), .int .i64 z] 76))
    have bs1 : W.heap.size + 7 ≤ W1.heap.size := by have := (Array.getElem?_eq_some_iff.1 hk.lo).1; omega
    have hk' := hk.out (Out.of_below (fun _ => False) bE) id id id
    have BE := Lib.hid bE
    have HK := Lib.hid hk'
    have EE := Lib.hid E3
    clear hr4 hr5 hr6 hk K0 bC l6 d5 b1 b2 b3 b4 bW SB NB TBc cC cF cT hrb hRA bE hk' E3
    simp only [List.zip_toArray, List.foldl_toArray', List.zip_cons_cons, List.zip_nil_right, List.foldl_cons, List.foldl_nil, List.setIfInBounds_toArray, List.set_cons_succ, List.set_cons_zero]
    gi_wp2
    refine ⟨HK.out.lo, ?_⟩
    generalize hWE : W1.alloc (.cells #[.int .u32 (p : Nat), .int .u32 (wd : Nat), .int .i64 k, .int .u32 (av : Nat), .int .i64 z] 76) = WE at *
    clear hWE
    generalize hEB : W1.heap.size = EB at *
    have OB := out_putObj WE (W.heap.size + 6) (.loop rb)
    have LB : (WE.putObj (W.heap.size + 6) (.loop rb)).heap[W.heap.size + 6]? = some (.loop rb) := World.putObj_heap_same (Array.getElem?_eq_some_iff.1 HK.out.lo).1
    have kc := HK.out.ce
    have h32 := hashE_lt pre
    generalize hH : hashE pre = H0 at *
    have kb := kc.out OB (by omega)
    have E4 := EE.out.out OB (by omega)
    have DX := heap_at_out OB HK.out.df (by omega)
    have OBH := Lib.hid OB
    clear OB kc
    generalize WE.putObj (W.heap.size + 6) (.loop rb) = WX at *
    have NC := kb.c
    have NF := kb.f
    have NL := kb.lt
    have e0 := E4.c0
    have e1 := E4.c1
    have e2 := E4.c2
    have e3 := E4.c3
    have e4 := E4.c4
    have LBH := Lib.hid LB
    have DXH := Lib.hid DX
    have KB := Lib.hid kb
    clear E4 LB DX kb
    gi_wp2_with fail
    gi_loopw [27] (fun i wr => ∃ m : Nat, m ≤ 4 ∧ i = .int .i64 m ∧ CellIs W.heap.size (.int .u32 (evH H0 ⟨p, wd, k, av, z⟩ m : Nat)) wr ∧ Out (· = W.heap.size) WX wr) (fun i _ => 4 - (intOf i).toNat)
    case atStart => exact ⟨0, by omega, rfl, KB.out, .refl _ _⟩
    case round =>
      obtain ⟨m, hm, rfl, hc, ho⟩ := hrel
      have HO := Lib.hid ho
      have NC := hc.c
      have NF := hc.f
      have HC := Lib.hid hc
      have hgl := evH_lt H0 ⟨p, wd, k, av, z⟩ m h32
      have hst : evH H0 ⟨p, wd, k, av, z⟩ (m + 1) = mixN (evH H0 ⟨p, wd, k, av, z⟩ m) (evW ⟨p, wd, k, av, z⟩ m) := rfl
      have HST := Lib.hid hst
      clear hc ho hst e0 e1 e2 e3 e4
      generalize hG : evH H0 ⟨p, wd, k, av, z⟩ m = G at *
      have HG := Lib.hid hG
      clear hG
      rcases (by omega : m = 0 ∨ m = 1 ∨ m = 2 ∨ m = 3 ∨ m = 4) with e | e | e | e | e
      · subst e
        have RI : Sem.run Tryd.prog (Instr.index 80 (.agg #[.int .u32 (p : Nat), .int .u32 (k % 4294967296), .int .u32 (av : Nat), .int .u32 (z % 4294967296)]) (.int .i64 0)) wr = .ok (.int .u32 (p : Nat)) wr := by first | rfl | simp [Instr.index, go_sem]
        gi_wp2_with fail
        have hx : bits BinOp.xor IntKind.u32 (G : Int) (p : Int) * 16777619 % 4294967296 = (evH H0 ⟨p, wd, k, av, z⟩ 1 : Nat) := by
          have e : ((p : Int) : Int) = ((p : Nat) : Int) := rfl
          rw [HST.out, e, u32_xor_nat _ _ hgl hev.1]
          unfold mixN
          rw [Int.natCast_emod, Int.natCast_mul]
          rfl
        rw [hx]
        refine ⟨⟨1, by omega, rfl, HC.out.set _, HO.out.trans (out_cell W.heap.size 0 _ wr)⟩, by decide⟩
      · subst e
        have RI : Sem.run Tryd.prog (Instr.index 80 (.agg #[.int .u32 (p : Nat), .int .u32 (k % 4294967296), .int .u32 (av : Nat), .int .u32 (z % 4294967296)]) (.int .i64 1)) wr = .ok (.int .u32 (k % 4294967296)) wr := by first | rfl | simp [Instr.index, go_sem]
        gi_wp2_with fail
        have hx : bits BinOp.xor IntKind.u32 (G : Int) (k % 4294967296) * 16777619 % 4294967296 = (evH H0 ⟨p, wd, k, av, z⟩ 2 : Nat) := by
          have e : ((k % 4294967296) : Int) = ((toU k : Nat) : Int) := (Int.toNat_of_nonneg (by omega)).symm
          rw [HST.out, e, u32_xor_nat _ _ hgl (by unfold toU; omega)]
          unfold mixN
          rw [Int.natCast_emod, Int.natCast_mul]
          rfl
        rw [hx]
        refine ⟨⟨2, by omega, rfl, HC.out.set _, HO.out.trans (out_cell W.heap.size 0 _ wr)⟩, by decide⟩
      · subst e
        have RI : Sem.run Tryd.prog (Instr.index 80 (.agg #[.int .u32 (p : Nat), .int .u32 (k % 4294967296), .int .u32 (av : Nat), .int .u32 (z % 4294967296)]) (.int .i64 2)) wr = .ok (.int .u32 (av : Nat)) wr := by first | rfl | simp [Instr.index, go_sem]
        gi_wp2_with fail
        have hx : bits BinOp.xor IntKind.u32 (G : Int) (av : Int) * 16777619 % 4294967296 = (evH H0 ⟨p, wd, k, av, z⟩ 3 : Nat) := by
          have e : ((av : Int) : Int) = ((av : Nat) : Int) := rfl
          rw [HST.out, e, u32_xor_nat _ _ hgl hev.2]
          unfold mixN
          rw [Int.natCast_emod, Int.natCast_mul]
          rfl
        rw [hx]
        refine ⟨⟨3, by omega, rfl, HC.out.set _, HO.out.trans (out_cell W.heap.size 0 _ wr)⟩, by decide⟩
      · subst e
        have RI : Sem.run Tryd.prog (Instr.index 80 (.agg #[.int .u32 (p : Nat), .int .u32 (k % 4294967296), .int .u32 (av : Nat), .int .u32 (z % 4294967296)]) (.int .i64 3)) wr = .ok (.int .u32 (z % 4294967296)) wr := by first | rfl | simp [Instr.index, go_sem]
        gi_wp2_with fail
        have hx : bits BinOp.xor IntKind.u32 (G : Int) (z % 4294967296) * 16777619 % 4294967296 = (evH H0 ⟨p, wd, k, av, z⟩ 4 : Nat) := by
          have e : ((z % 4294967296) : Int) = ((toU z : Nat) : Int) := (Int.toNat_of_nonneg (by omega)).symm
          rw [HST.out, e, u32_xor_nat _ _ hgl (by unfold toU; omega)]
          unfold mixN
          rw [Int.natCast_emod, Int.natCast_mul]
          rfl
        rw [hx]
        refine ⟨⟨4, by omega, rfl, HC.out.set _, HO.out.trans (out_cell W.heap.size 0 _ wr)⟩, by decide⟩
      · subst e
        gi_wp2_with fail
        have OA : Out (fun j => j = W.heap.size + 6 ∨ j = W.heap.size) W1 wr := (((Out.of_below _ (hEB ▸ BE.out)).trans (OBH.out.mono fun j h => .inl h)).trans (HO.out.mono fun j h => .inr h))
        have n1 : ¬ (W.heap.size + 6 = W.heap.size) := by omega
        have n2 : ¬ (W.heap.size + 6 - 1 = W.heap.size) := by omega
        have n3 : ¬ (W.heap.size + 6 - 1 = W.heap.size + 6) := by omega
        have n4 : ¬ (W.heap.size = W.heap.size + 6) := by omega
        have LS := heap_at_out HO.out LBH.out n1
        have DS := heap_at_out HO.out DXH.out n2
        have O4 := out_putObj wr (W.heap.size + 6) (.loop r)
        refine ⟨LS, ⟨World.putObj_heap_same (Array.getElem?_eq_some_iff.1 LS).1, heap_at_out O4 DS n3, ?_⟩, OA.trans (O4.mono fun j h => .inl h)⟩
        rw [hashE_snoc, hH, HG.out]
        exact HC.out.out O4 n4
  · rintro _ W2 ⟨⟨v, rfl⟩, k2, S2, T2, O2⟩
    refine ⟨⟨_, rfl⟩, k2.lo, ?_⟩
    have kc := k2.ce
    generalize hN : hashE (runE Fb fuel.toNat s).1 = N at *
    have O3 := out_putObj W2 (W.heap.size + 6) (.loop { r with state := .exhausted })
    generalize W2.putObj (W.heap.size + 6) (.loop { r with state := .exhausted }) = W3 at O3 ⊢
    have NC := (kc.out O3 (by omega)).c
    have TC := (T2.out O3 (by omega)).c
    have DF := heap_at_out O3 k2.df (by omega)
    have S3 := Lib.hid (S2.out O3 (fun j hj => by omega))
    have OF : Out (fun j => j = C ∨ j = R ∨ W.heap.size ≤ j) W W3 := ((Out.of_below (fun j => j = C ∨ j = R ∨ W.heap.size ≤ j) (bW.trans (bC.mono (by omega)))).trans (O2.mono fun j h => by omega)).trans (O3.mono fun j h => by omega)
    have OH := Lib.hid OF
    clear OF O2 O3 hr4 hr5 hr6 K0 bC l6 d5 b1 b2 b3 b4 SB NB TBc cC cF cT k2 kc
    gi_wp2_with gi_region
    have DF' : W3.drew.heap[WB.heap.size]? = some (.deferred (some [])) := by rw [show WB.heap.size = W.heap.size + 6 - 1 by omega]; exact DF
    refine ⟨by simp, .inl ⟨_, _, rfl, run_takeDeferred DF', ?_⟩⟩
    have O5 := (Out.drew (· = WB.heap.size) W3).trans (out_putObj W3.drew WB.heap.size (.deferred none))
    refine ⟨_, results_tmp2 rfl _ _ _, ?_, S3.out.out O5 (fun j hj => by omega), (OH.out.trans (O5.mono (T := fun j => j = C ∨ j = R ∨ W.heap.size ≤ j) fun j h => by omega)).old fun j hj h => by omega⟩
    rw [hN]
    rfl
end Go.Proofs.YtidpaijnnkainaaDoor
